/- The reference of layer 13: Harm. -/
import Derived.Test.YtkibglbccfjkpaaAfo
import Derived.Test.YtkibglbccfjkpaaAsn
namespace Go.Proofs.Ytkibglbccfjkpaa
open Go.RowKit
namespace As
theorem zr_wr {V : List (List Int)} {i : Nat} (hi : i < V.length) {a : List Nat} (ha : a.length = V.length) : wr (zr V i) a = wr V a - vl V i (a.getD i 0) := by
  rw [wr_eq _ a (by rw [zr_len, ha]), wr_eq V a ha, zr_len]
  obtain ⟨D, hD, hno⟩ := split_perm (ks := [i]) (by simp) List.nodup_range (b := List.range V.length) (by simpa using hi)
  rw [← sm_perm hD, ← sm_perm hD]
  simp only [List.singleton_append, sm]
  rw [zr_vl V hi, if_pos rfl, sm_congr (g := fun k => vl V k (a.getD k 0)) fun k hk => by rw [zr_vl V hi, if_neg (by simpa using hno k hk)]]
  omega
theorem gw_wr {V : List (List Int)} (ok : Ok V) {i : Nat} (hi : i < V.length) : wr (zr V i) (bst (zr V i)) = gw V i := by
  have h := bst_wr (zr_ok ok hi)
  rw [zr_len] at h
  exact h
end As
theorem isM_zr {w W : World} {V : List (List Int)} {RV : Nat → Value} {g z i : Nat} (hb : Below w.heap.size w W) (hR : Rvs w V RV) (n6 : V.length ≤ 6) (hi : i < V.length)
    (hbk : BK W g (((List.range V.length).map RV).set i (.slice (some ⟨z, 0, none⟩) V.length V.length))) (hz : BF W z V.length (fun _ => 0)) : IsM W (some ⟨g, 0, none⟩) (As.zr V i) := by
  have hzI := hz.isI (fun k _ => ⟨by decide, by decide⟩)
  have hml : ml V.length (fun _ => (0 : Int)) = List.replicate V.length 0 := List.ext_getElem (by simp [ml]) fun k h1 h2 => by simp [ml]
  rw [hml] at hzI
  refine fun _ => ⟨g, 0, rfl, fun k hk => ?_⟩
  rw [As.zr_len] at hk
  rw [Nat.zero_add, As.zr_get V hi]
  by_cases e : k = i
  · subst e
    rw [if_pos rfl]
    refine ⟨some ⟨z, 0, none⟩, V.length, ?_, by rw [List.length_replicate]; unfold maxLen; omega, hzI⟩
    rw [List.length_replicate]
    exact hbk.c k (by rw [List.getElem?_set_self (by simpa using hk)])
  · rw [if_neg e]
    obtain ⟨R, c', hRk, hrl, hI⟩ := hR k hk
    refine ⟨R, c', ?_, hrl, hI.keep hb⟩
    rw [← hRk]
    exact hbk.c k (by rw [List.getElem?_set_ne (by omega)]; simp [hk])
/-- What out holds. -/
def hmv (V : List (List Int)) (i : Nat) : List Value := (List.range i).map fun j => Value.int .i64 (As.hmF V j)
theorem hmv_succ (V : List (List Int)) (i : Nat) : hmv V (i + 1) = hmv V i ++ [.int .i64 (As.hmF V i)] := by unfold hmv; rw [List.range_succ, List.map_append]; rfl
set_option linter.unusedSimpArgs false in
set_option maxRecDepth 100000 in
set_option maxHeartbeats 8000000 in
theorem rHarm_any (A : Option Addr) (cv : Nat) (V : List (List Int)) (w : World) (hl : V.length ≤ maxLen) (h : IsM w A V) :
    Calls Try.prog 17 #[.slice A V.length cv] w (HarmQ V w) := by
  have CK := fun v (hv : Below w.heap.size w v) => rCheck_any A cv V v hl (h.keep hv)
  rcases As.chk_cases V with h0 | ⟨h1, h2⟩
  · have ok := As.chk_ok h0
    have ht := As.bst_top ok
    have n1 := ok.n1
    have n6 := ok.n6
    have e1 : As.hml V = ml V.length (As.hmF V) := by unfold As.hml; rw [if_pos h0]
    have e3 := ht.len
    have e4 := (As.perm_lt ht.perm).2
    rw [h0] at CK
    have CK' := Lib.hid CK
    have CF := Lib.hid (fun v (hv : Below w.heap.size w v) => rMost_any A cv V v ok (h.keep hv))
    have HQ := Lib.hid (show ∀ (g c : Nat) (w' : World), BK w' g (hmv V V.length) → Below w.heap.size w w' → HarmQ V w (.returned (.tuple #[.slice (some ⟨g, 0, none⟩) V.length c, .int .i64 0])) w' from fun g c w' hf hb => ⟨some ⟨g, 0, none⟩, c, by rw [e1, h0, ml_len], by
      have hf' : BF w' g V.length (As.hmF V) := hf
      have hI := hf'.isI (fun k hk => by
        have q := As.hmF_bd ok k hk
        unfold I64; omega)
      rw [e1]; exact hI, hb⟩)
    have HEQ := Lib.hid (show ∀ i, i < V.length → As.wr (As.zr V i) (As.bst (As.zr V i)) - As.wr (As.zr V i) (As.bst V) = As.hmF V i from fun i hi => by
      rw [As.gw_wr ok hi, As.zr_wr hi ht.len]; exact As.hm_eq ok hi)
    have HB1 := Lib.hid (show ∀ i, i < V.length → 0 ≤ As.wr (As.zr V i) (As.bst (As.zr V i)) ∧ As.wr (As.zr V i) (As.bst (As.zr V i)) ≤ 6000000 from fun i hi => As.wr_top (As.zr_ok ok hi))
    have HB2 := Lib.hid (fun i (hi : i < V.length) => As.hmF_bd ok i hi)
    have HOKV := Lib.hid ok
    have HMz := Lib.hid (fun i (hi : i < V.length) v g c (hM : IsM v (some ⟨g, 0, none⟩) (As.zr V i)) => show Calls Try.prog 35 #[.slice (some ⟨g, 0, none⟩) V.length c] v (fun e v' => ∃ D d, e = .returned (.slice D V.length d) ∧ IsI v' D (As.al (As.bst (As.zr V i))) ∧ Below v.heap.size v v') from by
      have := rMost_any (some ⟨g, 0, none⟩) c (As.zr V i) v (As.zr_ok ok hi) hM
      rw [As.zr_len] at this
      refine this.mono fun e v' hq => ?_
      obtain ⟨D, d, he, hI, hb⟩ := hq
      rw [As.zr_len] at he
      exact ⟨D, d, he, hI, hb⟩)
    have HWz := Lib.hid (fun i (hi : i < V.length) (a : List Nat) (ha : a.Perm (List.range V.length)) v g c D d (hM : IsM v (some ⟨g, 0, none⟩) (As.zr V i)) (hI : IsI v D (As.al a)) => show Calls Try.prog 30 #[.slice (some ⟨g, 0, none⟩) V.length c, .slice D V.length d] v (fun e v' => e = .returned (.int .i64 (As.wr (As.zr V i) a)) ∧ Below v.heap.size v v') from by
      have okz := As.zr_ok ok hi
      obtain ⟨q1, q2⟩ := As.perm_lt ha
      have := rWorth_any (some ⟨g, 0, none⟩) c (As.zr V i) D d a v okz.n1 okz.n6 okz.row okz.bd hM hI (by rw [As.zr_len, q1]) (by rw [As.zr_len]; exact q2)
      rw [As.zr_len] at this
      exact this)
    have HPZ := Lib.hid (show ∀ i, i < V.length → (As.bst (As.zr V i)).Perm (List.range V.length) from fun i hi => by
      have := (As.bst_top (As.zr_ok ok hi)).perm
      rwa [As.zr_len] at this)
    have HPB := Lib.hid ht.perm
    obtain ⟨b, off, rfl, hrows⟩ := h (by omega)
    obtain ⟨RV, hRV, hR⟩ := rvs_of hrows
    have HRV := Lib.hid hRV
    have HR := Lib.hid hR
    have MK := ints_make V.length (by omega)
    have HMK := Lib.hid MK
    obtain ⟨i0, hi0, hz0, hz1, hz2⟩ := info_parts intInfo
    have HI := Lib.hid hi0
    have HI2 := Lib.hid hz0
    have HI3 := Lib.hid hz1
    have HI4 := Lib.hid hz2
    obtain ⟨j0, kj0, kz0, kz1, kz2⟩ := info_parts rowInfo
    have HJ := Lib.hid kj0
    have HJ2 := Lib.hid kz0
    have HJ3 := Lib.hid kz1
    have HJ4 := Lib.hid kz2
    clear CK h0 ok ht e1 e3 e4 h hrows hl hRV hR hi0 hz0 hz1 hz2 kj0 kz0 kz1 kz2 MK
    go_enter Try.func17, Try.ntmps17
    go_wp2_with fail
    refine (CK'.out _ (Below.refl _ _)).mono ?_
    rintro e w1 ⟨rfl, hb1⟩
    go_wp2_with fail
    refine (CF.out _ hb1).mono ?_
    rintro e w3 ⟨D, cd, rfl, hI, hb2⟩
    have HBW := Lib.hid (keepB hb1 hb2)
    have HIA := Lib.hid hI
    clear hb1 hb2 hI CF CK'
    go_wp2_with fail
    go_loopw [5, 6] (fun o i W => ∃ k : Nat, k ≤ V.length ∧ i = .int .i64 k ∧ W.ownsRow w3.heap.size 3 1 o k (hmv V k) ∧ Below w3.heap.size w3 W) (fun _ i _ => V.length - (intOf i).toNat)
    case atStart => exact ⟨0, Nat.zero_le _, rfl, World.ownsRow_nil _ _ _ _, Below.refl _ _⟩
    case round =>
      obtain ⟨i, hi, rfl, hO, hbb⟩ := hrel
      by_cases hlt : i < V.length
      · have HS5 := Lib.hid (World.ownsRow.lt hO)
        obtain ⟨B2, hB2⟩ : ∃ B2, wr.heap.size = B2 := ⟨_, rfl⟩
        rw [hB2] at HS5
        have HW2 := Lib.hid (show w3.heap.size ≤ B2 by have := hbb.size; omega)
        have HO := Lib.hid hO
        have HBB := Lib.hid hbb
        clear hO hbb
        go_wp2_with fail
        go_loopw [7, 8] (fun r j W => ∃ k : Nat, k ≤ V.length ∧ j = .int .i64 k ∧ Hid (W.ownsRow w3.heap.size 3 1 u5 i (hmv V i)) ∧ Hid (W.ownsRow B2 25 1 r k ((List.range k).map RV)) ∧ Below w3.heap.size w3 W ∧ B2 ≤ W.heap.size) (fun _ j _ => V.length - (intOf j).toNat)
        case atStart => exact ⟨0, Nat.zero_le _, rfl, HO, Lib.hid (World.ownsRow_nil _ _ _ _), HBB.out, by omega⟩
        case round =>
          clear HO HBB
          obtain ⟨k, hk, rfl, HO, HRW, hbb, hBs⟩ := hrel
          by_cases hltk : k < V.length
          · have c1 := keepC (keepB HBW.out hbb) (HRV.out k hltk)
            have l1 := lt_of_cell c1
            obtain ⟨R, cr, hrk, -⟩ := HR.out k hltk
            rw [hrk] at c1
            generalize (V.getD k []).length = q at c1 hrk
            have hO7 := HRW.out
            have HBB := Lib.hid hbb
            clear hbb
            have HRK := Lib.hid hrk
            clear hrk
            go_wp2_with (at_builtin; go_loud (refine wpList_append_lies _ rfl _ _ _ rfl B2 25 j0 _ 1 24 Try.underlying22 HJ.out HJ2.out HJ3.out HJ4.out rfl (by omega) _ k ((List.range k).map RV) (by rfl) (World.ownsRow.alloc hO7 _) ⟨wr.heap.size, 0, none⟩ 1 1 [.slice R q cr] (by rfl) (by rfl) (World.news_of_block (cs := #[.slice R q cr]) (t := 25) (fr := (0, 0)) (heap_alloc_new wr _)) (by simp [Value.oneCell']) (by omega) (by unfold maxLen; omega) (by omega) (by simp; omega) (wr.heap.size + 1) (by simp) ?_; intro g cap w4 hown2 hgrow2 hat2 hlt2))
            all_goals
              refine ⟨⟨k + 1, by omega, by go_num, Lib.hid ?_, Lib.hid ?_, ?_, ?_⟩, by simp [intOf]; omega⟩
              · exact own_grown (own_keepB HO.out (below_al (Below.refl _ _) _)) hgrow2 (fun b hb e => by
                  have q1 := (HS5.out b hb).2
                  have q2 := (World.ownsRow.lt hO7 b e).1
                  omega)
              · rw [List.range_succ, List.map_append, List.map_cons, List.map_nil, HRK.out]; exact hown2
              · exact (below_al HBB.out _).grown hgrow2 (by have := HBB.out.size; simp; omega) (fun j e => by
                  have q2 := (World.ownsRow.lt hO7 j e).1
                  have := HW2.out
                  omega)
              · have := hgrow2.size
                simp at this
                omega
          · obtain rfl : k = V.length := by omega
            obtain ⟨gw, cw, rfl, hgw, -, hbk⟩ := own_block HRW.out (by omega)
            have MK := HMK.out
            have k0 := fun o => BK.c (hbk.al o) i (show ((List.range V.length).map RV)[i]? = some (RV i) by simp [hlt])
            have k1 := fun o => BK.f (hbk.al o) i (show ((List.range V.length).map RV)[i]? = some (RV i) by simp [hlt])
            have hgl := hbk.lt
            have HBK := Lib.hid hbk
            have HBB := Lib.hid hbb
            have i1 : (i : Int) < (V.length : Int) := by omega
            clear hbk hbb HRW
            go_wp2_with fail
            clear k0 k1 MK
            refine at_worldR (fun v => Below w3.heap.size w3 v ∧ IsM v (some ⟨gw, 0, none⟩) (As.zr V i) ∧ Hid (v.ownsRow w3.heap.size 3 1 u5 i (hmv V i))) ⟨below_al (HBB.out.setCell (show w3.heap.size ≤ gw by have := HW2.out; omega) _) _, ?_, Lib.hid ?_⟩ (fun w4 hS => ?_)
            · have hb2 := (HBK.out.set i (.slice (some ⟨wr.heap.size, 0, none⟩) V.length V.length)).al (.cells (Array.replicate V.length (Value.int .i64 0)) 3)
              have hz := BF.new (wr.setCell ⟨gw, i, none⟩ (.slice (some ⟨wr.heap.size, 0, none⟩) V.length V.length)) V.length 3
              rw [World.size_setCell] at hz
              exact isM_zr (keepB HBW.out (below_al (HBB.out.setCell (show w3.heap.size ≤ gw by have := HW2.out; omega) _) _)) HR.out n6 hlt hb2 hz
            · exact own_keepB (own_grown HO.out (gby_set (gby_refl wr (some gw)) _) (fun b hb e => by
                have q1 := (HS5.out b hb).2
                injection e with e
                omega)) (below_al (Below.refl _ _) _)
            · obtain ⟨hb4, hM4, HO4⟩ := hS
              have HM4 := Lib.hid hM4
              clear hM4 HO HBB HBK hgl
              refine (HMz.out i hlt w4 gw cw HM4.out).mono ?_
              rintro e w5 ⟨D2, d2, rfl, hI2, hb5⟩
              have hbb5 := keepB hb4 hb5
              have HD2 := Lib.hid hI2
              replace HM4 := Lib.hid (HM4.out.keep hb5)
              replace HO4 := Lib.hid (own_keepB HO4.out hb5)
              clear hb4 hb5 hI2
              go_wp2_with fail
              refine (HWz.out i hlt _ (HPZ.out i hlt) _ _ _ _ _ HM4.out HD2.out).mono ?_
              rintro e w6 ⟨rfl, hb6⟩
              have hbb6 := keepB hbb5 hb6
              replace HM4 := Lib.hid (HM4.out.keep hb6)
              replace HO4 := Lib.hid (own_keepB HO4.out hb6)
              clear hbb5 hb6
              go_wp2_with fail
              refine (HWz.out i hlt _ HPB.out _ _ _ _ _ HM4.out (HIA.out.keep hbb6)).mono ?_
              rintro e w7 ⟨rfl, hb7⟩
              have hbb7 := keepB hbb6 hb7
              replace HO4 := Lib.hid (own_keepB HO4.out hb7)
              have he := HEQ.out i hlt
              have b1 := HB1.out i hlt
              have b2 := HB2.out i hlt
              have HSC := Lib.hid (hmv_succ V i)
              clear hbb6 hb7 HM4
              generalize As.wr (As.zr V i) (As.bst (As.zr V i)) = y1 at *
              generalize As.wr (As.zr V i) (As.bst V) = y2 at *
              generalize hx : As.hmF V i = x at *
              obtain rfl : y2 = y1 - x := by omega
              have ex : y1 - (y1 - x) = x := by omega
              have hO4 := HO4.out
              have hws := hbb7.size
              have HBB7 := Lib.hid hbb7
              clear he hx hbb7
              obtain ⟨b11, b12⟩ := b1
              obtain ⟨b21, b22⟩ := b2
              go_wp2_with (at_builtin; go_loud (refine wpList_append_lies _ rfl _ _ _ rfl w3.heap.size 3 i0 _ 1 8 Try.underlying25 HI.out HI2.out HI3.out HI4.out rfl (by omega) _ i (hmv V i) (by rfl) (World.ownsRow.alloc hO4 _) ⟨w7.heap.size, 0, none⟩ 1 1 [.int .i64 x] (by rfl) (by rfl) (World.news_of_block (cs := #[.int .i64 x]) (t := 3) (fr := (0, 0)) (heap_alloc_new w7 _)) (by simp [Value.oneCell']) (by omega) (by unfold maxLen; omega) (by omega) (by simp; omega) (w7.heap.size + 1) (by simp) ?_; intro g cap w8 hown2 hgrow2 hat2 hlt2))
              all_goals
                refine ⟨⟨i + 1, by omega, by go_num, by rw [HSC.out]; exact hown2, ?_⟩, by simp [intOf]; omega⟩
                exact (below_al HBB7.out _).grown hgrow2 (by have := HBB7.out.size; simp; omega) (fun j e => (World.ownsRow.lt hO4 j e).1)
      · obtain rfl : i = V.length := by omega
        obtain ⟨g, c, rfl, -, -, hbk⟩ := own_block hO (by omega)
        have HF := Lib.hid hbk
        have hbw := keepB HBW.out hbb
        clear hO hbk hbb
        go_wp2_with fail
        go_ret2
        exact HQ.out g c _ HF.out hbw
  · have HQ := Lib.hid (show ∀ (w' : World), Below w.heap.size w w' → HarmQ V w (.returned (.tuple #[.slice none 0 0, .int .i64 (As.chk V)])) w' from fun w' hb => ⟨none, 0, by unfold As.hml; rw [if_neg h2]; rfl, by unfold As.hml; rw [if_neg h2]; exact isI_nil _ _, hb⟩)
    generalize As.chk V = c at *
    have CK' := Lib.hid CK
    clear CK h2 h hl
    go_enter Try.func17, Try.ntmps17
    go_wp2_with fail
    refine (CK'.out _ (Below.refl _ _)).mono ?_
    rintro e w1 ⟨rfl, hb1⟩
    go_wp2_with fail
    refine (CK'.out _ hb1).mono ?_
    rintro e w2 ⟨rfl, hb2⟩
    have hbb := keepB hb1 hb2
    clear hb1 hb2
    go_wp2_with fail
    go_ret2
    exact HQ.out w2 hbb
end Go.Proofs.Ytkibglbccfjkpaa

/- The reference of layer 13: Most. -/
import Derived.Test.YtkibglbccfjkpaaAfn
import Derived.Test.YtkibglbccfjkpaaAss
import Derived.Deep.LoopGhost
namespace Go.Proofs.Ytkibglbccfjkpaa
open Go.RowKit
namespace As
theorem isA_al {L : List Nat} {n : Nat} : isA (al L) n = true ↔ L.Perm (List.range n) := by
  constructor
  · intro h
    obtain ⟨a, e, hp⟩ := isA_perm h
    have := congrArg (List.map Int.toNat) e
    rw [toNat_al, toNat_al] at this
    rw [this]; exact hp
  · exact perm_isA
theorem ml_al {n : Nat} {L : List Nat} (h : L.length = n) : ml n (fun i => ((L.getD i 0 : Nat) : Int)) = al L := by
  subst h
  unfold ml al
  refine List.ext_getElem (by simp) fun i h1 h2 => ?_
  have : i < L.length := by simpa using h1
  simp [List.getD, this]
end As
theorem BF.isL {W : World} {g n : Nat} {L : List Nat} (h : BF W g n (fun i => ((L.getD i 0 : Nat) : Int))) (hl : L.length = n) (hd : ∀ x ∈ L, x < n) (n6 : n ≤ 6) : IsI W (some ⟨g, 0, none⟩) (As.al L) := by
  have := h.isI (fun k hk => by
    have := hd _ (As.getD_mem (a := L) (i := k) (by omega))
    unfold I64; omega)
  rwa [As.ml_al hl] at this
/-- The best one so far, in memory. -/
structure MoS (w W : World) (g B : Nat) (T : List Nat) (v : Value) : Prop where
  ow : Own W B v (As.al T)
  bb : Below w.heap.size w W
  wg : w.heap.size ≤ g
  gB : g < B
  hB : B ≤ W.heap.size
theorem MoS.keep {w W W' : World} {g B : Nat} {T : List Nat} {v : Value} (h : MoS w W g B T v) (hb : Below W.heap.size W W') : MoS w W' g B T v :=
  ⟨h.ow.keepB hb, keepB h.bb hb, h.wg, h.gB, Nat.le_trans h.hB hb.size⟩
theorem MoS.gby {w W W' : World} {g B : Nat} {T : List Nat} {v : Value} (h : MoS w W g B T v) (hg : W.grownBy W' (some g)) : MoS w W' g B T v :=
  ⟨own_grown h.ow hg (fun b hb e => by have := (h.ow.lt b hb).1; have := h.gB; injection e with e; omega), h.bb.grown hg h.bb.size (fun j e => by have := h.wg; injection e with e; omega), h.wg, h.gB, Nat.le_trans h.hB hg.size⟩
/-- The loop's relation. -/
def MoR (V : List (List Int)) (w : World) (g B k : Nat) (v b : Value) (W : World) : Prop :=
  (∃ L T, b = .bool true ∧ L.length = V.length ∧ (∀ x ∈ L, x < V.length) ∧ BF W g V.length (fun i => ((L.getD i 0 : Nat) : Int)) ∧ As.BsI V (As.enc V.length L) T ∧ MoS w W g B T v ∧ k = V.length ^ V.length - As.enc V.length L) ∨
  (∃ T, b = .bool false ∧ As.BsI V (V.length ^ V.length) T ∧ MoS w W g B T v ∧ k = 0)
theorem MoR.next {V : List (List Int)} {w W W' : World} {g B k : Nat} {v : Value} {L L' T : List Nat} {z : Bool} (hL : L.length = V.length) (hd : ∀ x ∈ L, x < V.length) (hk : k = V.length ^ V.length - As.enc V.length L) (hT : As.BsI V (As.enc V.length L + 1) T) (hS : MoS w W g B T v)
    (hl' : L'.length = V.length) (hd' : ∀ x ∈ L', x < V.length) (hbf : BF W' g V.length (fun i => ((L'.getD i 0 : Nat) : Int))) (hg : W.grownBy W' (some g)) (hy : z = true → As.enc V.length L' = As.enc V.length L + 1) (hn : z = false → As.enc V.length L + 1 = V.length ^ V.length) : ∃ k', k' < k ∧ MoR V w g B k' v (.bool z) W' := by
  have h1 := As.enc_lt hd
  rw [hL] at h1
  cases z
  · exact ⟨0, by omega, .inr ⟨T, rfl, by rw [← hn rfl]; exact hT, hS.gby hg, rfl⟩⟩
  · have e := hy rfl
    exact ⟨V.length ^ V.length - As.enc V.length L', by omega, .inl ⟨L', T, rfl, hl', hd', hbf, by rw [e]; exact hT, hS.gby hg, rfl⟩⟩
set_option linter.unusedSimpArgs false in
set_option maxRecDepth 100000 in
set_option maxHeartbeats 8000000 in
theorem rMost_any (A : Option Addr) (cv : Nat) (V : List (List Int)) (w : World) (ok : As.Ok V) (h : IsM w A V) :
    Calls Try.prog 35 #[.slice A V.length cv] w (FbQ V w) := by
  have n1 := ok.n1
  have n6 := ok.n6
  have MK := ints_make V.length (by omega)
  have HM := Lib.hid h
  have HOKV := Lib.hid ok
  obtain ⟨i0, hi0, hz0, hz1, hz2⟩ := info_parts intInfo
  have HI := Lib.hid hi0
  have HI2 := Lib.hid hz0
  have HI3 := Lib.hid hz1
  have HI4 := Lib.hid hz2
  clear h ok hi0 hz0 hz1 hz2
  go_enter Try.func35, Try.ntmps35
  go_wp2_with fail
  clear MK
  have HR0 := Lib.hid (show MoR V w w.heap.size (w.heap.size + 1) (V.length ^ V.length) (.slice none 0 0) (.bool true) (w.alloc (.cells (Array.replicate V.length (Value.int .i64 0)) 3)) from
    .inl ⟨List.replicate V.length 0, [], rfl, by simp, fun x hx => by rw [(List.mem_replicate.1 hx).2]; omega, (BF.new _ _ _).cong (fun i hi => by simp [List.getD, hi]), by rw [As.enc_zero]; exact As.BsI.zero V, ⟨Own.nil_ _ _, below_al (Below.refl _ _) _, Nat.le_refl _, by omega, by simp⟩, by rw [As.enc_zero]; rfl⟩)
  obtain ⟨g, hge⟩ : ∃ g, w.heap.size = g := ⟨_, rfl⟩
  rw [hge] at HR0 ⊢
  have HGE := Lib.hid hge
  clear hge
  go_loopg [5, 6] (V.length ^ V.length) (fun k v b W => Hid (MoR V w g (g + 1) k v b W))
  case atStart => exact HR0
  case round =>
    clear HR0
    have HREL := Lib.hid hrel
    clear hrel
    rcases HREL.out.out with ⟨L, T, rfl, hL, hd, hbf, hT, hS, hk⟩ | ⟨T, rfl, hT, hS, hk⟩
    · have HL := Lib.hid hL
      have HD := Lib.hid hd
      have HK := Lib.hid hk
      have HT := Lib.hid hT
      have HS := Lib.hid hS
      have HBF := Lib.hid hbf
      have hgs := hbf.lt
      have CA := rAssigned_any (some ⟨g, 0, none⟩) V.length (As.al L) V.length wr (by rw [As.al_len, hL]; unfold maxLen; omega) (hbf.isL hL hd n6)
      rw [As.al_len, hL] at CA
      clear hL hd hk hT hS hbf HREL
      by_cases hp : L.Perm (List.range V.length)
      · rw [As.isA_al.2 hp] at CA
        have HP := Lib.hid hp
        have CA' := Lib.hid CA
        clear CA
        by_cases hTe : T = []
        · obtain ⟨A5, c5, hv5⟩ := HS.out.ow.form
          rw [hTe] at hv5
          have hv : u5 = .slice A5 0 c5 := hv5
          subst hv
          have HNT := Lib.hid (HT.out.take rfl hp (.inl hTe))
          clear hp hTe HT hv5
          go_wp2_with fail
          refine CA'.out.mono ?_
          rintro e w2 ⟨rfl, hb2⟩
          have HS2 := Lib.hid (HS.out.keep hb2)
          have HBF2 := Lib.hid (HBF.out.keep hb2)
          clear HS HBF hb2 hgs
          have hgs := HBF2.out.lt
          have hBW := HS2.out.hB
          have HCS := Lib.hid (show ∀ j u, ((As.al L).map (Value.int .i64))[j]? = some u → w2.cell? ((⟨g, 0, none⟩ : Addr).add j) = some u from fun j u hj => by
            obtain ⟨hj1, hj2⟩ := List.getElem?_eq_some_iff.1 hj
            simp only [List.length_map, As.al_len, HL.out] at hj1
            have hc := HBF2.out.c hj1
            rw [Addr.add_lit, Nat.zero_add, hc, ← hj2]
            have : j < L.length := by rw [HL.out]; exact hj1
            simp [As.al, List.getD, this])
          have HLEN := Lib.hid (show ((As.al L).map (Value.int .i64)).length = V.length * 1 by rw [List.length_map, As.al_len, HL.out, Nat.mul_one])
          go_upto_region 6 with (at_builtin; go_loud (refine wpList_append_lies _ rfl _ _ _ rfl (g + 1) 3 i0 _ 1 8 Try.underlying25 HI.out HI2.out HI3.out HI4.out rfl (by omega) (.slice (some ⟨w2.heap.size, 0, none⟩) 0 0) 0 [] (by rfl) (World.ownsRow_lit w2 #[] 0 hBW (by decide) rfl) ⟨g, 0, none⟩ V.length V.length ((As.al L).map (Value.int .i64)) (by rfl) HLEN.out (fun j u hj => (below_al (Below.refl _ _) _ : Below w2.heap.size w2 (w2.alloc _)).cell (p := (⟨g, 0, none⟩ : Addr).add j) (World.block_lt_of_cell? w2 _ (HCS.out j u hj)) |>.trans (HCS.out j u hj)) (by intro u hu; obtain ⟨j, _, rfl⟩ := List.mem_map.1 hu; rfl) (by omega) (by unfold maxLen; omega) (by omega) (by simp; omega) (w2.heap.size + 1) (by simp) ?_; intro h c2 w4 hown1 hgrow1 hat1 hlt1))
          all_goals
            rw [Nat.zero_add, List.nil_append] at hown1
            have HS3 := Lib.hid (show MoS w w4 g (g + 1) L (.slice (some ⟨h, 0, none⟩) V.length c2) from ⟨by unfold Own; rw [As.al_len, HL.out]; exact hown1, (below_al HS2.out.bb _).grown hgrow1 (by have := HS2.out.bb.size; simp; omega) (fun j e => by have := HS2.out.bb.size; have h9 : w2.heap.size = j := (by simpa [Value.ownBlock] using e); omega), HS2.out.wg, by omega, by have := hgrow1.size; simp at this; omega⟩)
            have HBF3 := Lib.hid ((HBF2.out.al _).grown hgrow1 (fun e => by have h9 : w2.heap.size = g := (by simpa [Value.ownBlock] using e); omega))
            clear hown1 hgrow1 hat1 hlt1 HCS HLEN hBW
            go_wp2_with fail
            refine (rNext_any g V.length V.length L _ n1 n6 HL.out HD.out HBF3.out).mono ?_
            intro e w5 hq
            obtain ⟨z, L', rfl, hl', hd', hbf', hg', hy, hn⟩ := hq
            obtain ⟨k', hk', hR'⟩ := MoR.next HL.out HD.out HK.out HNT.out HS3.out hl' hd' hbf' hg' hy hn
            have HR' := Lib.hid (Lib.hid hR')
            clear hl' hd' hbf' hg' hy hn hR'
            go_wp2_with fail
            go_roundg k'
            case measure => exact hk'
            case rel => exact HR'.out
        · have hTp : T.Perm (List.range V.length) := by
            rcases HT.out with ⟨h1, _⟩ | ⟨h1, _⟩
            · exact absurd h1 hTe
            · exact h1
          obtain ⟨t1, t2⟩ := As.perm_lt hTp
          obtain ⟨p1, p2⟩ := As.perm_lt hp
          obtain ⟨A5, c5, hv5⟩ := HS.out.ow.form
          rw [As.al_len, t1] at hv5
          subst hv5
          have CW1 := Lib.hid (fun v (hv : Below w.heap.size w v) (hI : IsI v (some ⟨g, 0, none⟩) (As.al L)) => rWorth_any A cv V (some ⟨g, 0, none⟩) V.length L v n1 n6 HOKV.out.row HOKV.out.bd (HM.out.keep hv) hI p1 p2)
          have CW2 := Lib.hid (fun v (hv : Below w.heap.size w v) (hI : IsI v A5 (As.al T)) => rWorth_any A cv V A5 c5 T v n1 n6 HOKV.out.row HOKV.out.bd (HM.out.keep hv) hI t1 t2)
          have HIT := Lib.hid (fun v (hO : Own v (g + 1) (.slice A5 V.length c5) (As.al T)) => hO.isI (fun x hx => by
            obtain ⟨j, hj, rfl⟩ := List.mem_map.1 hx
            have := hTp.mem_iff.1 hj
            have : j < V.length := by simpa using this
            unfold I64; omega))
          have HTK := Lib.hid (fun hlt => HT.out.take rfl hp (.inr hlt))
          have HST := Lib.hid (fun hle => HT.out.stay hTe rfl hp hle)
          have e0 : ((V.length : Int) == 0) = false := by rw [beq_eq_false_iff_ne]; omega
          clear hp hTe HT hTp t1 t2 p1 p2
          go_wp2_with fail
          refine CA'.out.mono ?_
          rintro e w2 ⟨rfl, hb2⟩
          have HS2 := Lib.hid (HS.out.keep hb2)
          have HBF2 := Lib.hid (HBF.out.keep hb2)
          clear HS HBF hb2
          go_wp2_with fail
          refine (CW1.out _ HS2.out.bb (HBF2.out.isL HL.out HD.out n6)).mono ?_
          rintro e w3 ⟨rfl, hb3⟩
          replace HS2 := Lib.hid (HS2.out.keep hb3)
          replace HBF2 := Lib.hid (HBF2.out.keep hb3)
          clear hb3
          go_wp2_with fail
          refine (CW2.out _ HS2.out.bb (HIT.out _ HS2.out.ow)).mono ?_
          rintro e w2 ⟨rfl, hb4⟩
          replace HS2 := Lib.hid (HS2.out.keep hb4)
          replace HBF2 := Lib.hid (HBF2.out.keep hb4)
          clear hb4 CW1 CW2 HIT CA' hgs
          have hgs := HBF2.out.lt
          generalize As.wr V L = wl at *
          generalize As.wr V T = wt at *
          by_cases hcmp : wt < wl
          · have HNT := Lib.hid (HTK.out hcmp)
            have d1 : decide (wt < wl) = true := decide_eq_true hcmp
            clear HTK HST hcmp
            have hBW := HS2.out.hB
            have HCS := Lib.hid (show ∀ j u, ((As.al L).map (Value.int .i64))[j]? = some u → w2.cell? ((⟨g, 0, none⟩ : Addr).add j) = some u from fun j u hj => by
              obtain ⟨hj1, hj2⟩ := List.getElem?_eq_some_iff.1 hj
              simp only [List.length_map, As.al_len, HL.out] at hj1
              have hc := HBF2.out.c hj1
              rw [Addr.add_lit, Nat.zero_add, hc, ← hj2]
              have : j < L.length := by rw [HL.out]; exact hj1
              simp [As.al, List.getD, this])
            have HLEN := Lib.hid (show ((As.al L).map (Value.int .i64)).length = V.length * 1 by rw [List.length_map, As.al_len, HL.out, Nat.mul_one])
            go_upto_region 6 with (at_builtin; go_loud (refine wpList_append_lies _ rfl _ _ _ rfl (g + 1) 3 i0 _ 1 8 Try.underlying25 HI.out HI2.out HI3.out HI4.out rfl (by omega) (.slice (some ⟨w2.heap.size, 0, none⟩) 0 0) 0 [] (by rfl) (World.ownsRow_lit w2 #[] 0 hBW (by decide) rfl) ⟨g, 0, none⟩ V.length V.length ((As.al L).map (Value.int .i64)) (by rfl) HLEN.out (fun j u hj => (below_al (Below.refl _ _) _ : Below w2.heap.size w2 (w2.alloc _)).cell (p := (⟨g, 0, none⟩ : Addr).add j) (World.block_lt_of_cell? w2 _ (HCS.out j u hj)) |>.trans (HCS.out j u hj)) (by intro u hu; obtain ⟨j, _, rfl⟩ := List.mem_map.1 hu; rfl) (by omega) (by unfold maxLen; omega) (by omega) (by simp; omega) (w2.heap.size + 1) (by simp) ?_; intro h c2 w4 hown1 hgrow1 hat1 hlt1))
            all_goals
              rw [Nat.zero_add, List.nil_append] at hown1
              have HS3 := Lib.hid (show MoS w w4 g (g + 1) L (.slice (some ⟨h, 0, none⟩) V.length c2) from ⟨by unfold Own; rw [As.al_len, HL.out]; exact hown1, (below_al HS2.out.bb _).grown hgrow1 (by have := HS2.out.bb.size; simp; omega) (fun j e => by have := HS2.out.bb.size; have h9 : w2.heap.size = j := (by simpa [Value.ownBlock] using e); omega), HS2.out.wg, by omega, by have := hgrow1.size; simp at this; omega⟩)
              have HBF3 := Lib.hid ((HBF2.out.al _).grown hgrow1 (fun e => by have h9 : w2.heap.size = g := (by simpa [Value.ownBlock] using e); omega))
              clear hown1 hgrow1 hat1 hlt1 HCS HLEN hBW
              go_wp2_with fail
              refine (rNext_any g V.length V.length L _ n1 n6 HL.out HD.out HBF3.out).mono ?_
              intro e w5 hq
              obtain ⟨z, L', rfl, hl', hd', hbf', hg', hy, hn⟩ := hq
              obtain ⟨k', hk', hR'⟩ := MoR.next HL.out HD.out HK.out HNT.out HS3.out hl' hd' hbf' hg' hy hn
              have HR' := Lib.hid (Lib.hid hR')
              clear hl' hd' hbf' hg' hy hn hR'
              go_wp2_with fail
              go_roundg k'
              case measure => exact hk'
              case rel => exact HR'.out
          · have HNT := Lib.hid (HST.out (by omega))
            have d1 : decide (wt < wl) = false := decide_eq_false hcmp
            clear HTK HST hcmp
            go_wp2_with fail
            refine (rNext_any g V.length V.length L _ n1 n6 HL.out HD.out HBF2.out).mono ?_
            intro e w5 hq
            obtain ⟨z, L', rfl, hl', hd', hbf', hg', hy, hn⟩ := hq
            obtain ⟨k', hk', hR'⟩ := MoR.next HL.out HD.out HK.out HNT.out HS2.out hl' hd' hbf' hg' hy hn
            have HR' := Lib.hid (Lib.hid hR')
            clear hl' hd' hbf' hg' hy hn hR'
            go_wp2_with fail
            go_roundg k'
            case measure => exact hk'
            case rel => exact HR'.out
      · have hf : As.isA (As.al L) V.length = false := by
          cases hz : As.isA (As.al L) V.length
          · rfl
          · exact absurd (As.isA_al.1 hz) hp
        rw [hf] at CA
        have CA' := Lib.hid CA
        have HNT := Lib.hid (HT.out.skip HL.out HD.out rfl hp)
        clear CA hf hp HT
        go_wp2_with fail
        refine CA'.out.mono ?_
        rintro e w2 ⟨rfl, hb2⟩
        have HS2 := Lib.hid (HS.out.keep hb2)
        have HBF2 := Lib.hid (HBF.out.keep hb2)
        clear HS HBF hb2
        go_wp2_with fail
        refine (rNext_any g V.length V.length L _ n1 n6 HL.out HD.out HBF2.out).mono ?_
        intro e w5 hq
        obtain ⟨z, L', rfl, hl', hd', hbf', hg', hy, hn⟩ := hq
        obtain ⟨k', hk', hR'⟩ := MoR.next HL.out HD.out HK.out HNT.out HS2.out hl' hd' hbf' hg' hy hn
        have HR' := Lib.hid (Lib.hid hR')
        clear hl' hd' hbf' hg' hy hn hR'
        go_wp2_with fail
        go_roundg k'
        case measure => exact hk'
        case rel => exact HR'.out
    · obtain rfl : T = As.bst V := As.BsI.end_ HOKV.out hT
      have ht := As.bst_top HOKV.out
      obtain ⟨A5, c5, hv5⟩ := hS.ow.form
      rw [As.al_len, ht.len] at hv5
      subst hv5
      have hI := hS.ow.isI (fun x hx => by
        obtain ⟨j, hj, rfl⟩ := List.mem_map.1 hx
        have := ht.perm.mem_iff.1 hj
        have : j < V.length := by simpa using this
        unfold I64; omega)
      have HI9 := Lib.hid hI
      have hbb := hS.bb
      clear hI hS hT hk HREL ht
      go_wp2_with fail
      exact bodyPost_ret (v := .slice A5 V.length c5) (by simp [results, Try.results35, go_sem]) rfl ⟨A5, c5, rfl, HI9.out, hbb⟩
end Go.Proofs.Ytkibglbccfjkpaa

/- Package assign: firstBest. -/
import Derived.Test.YtpiolhjiflohgaaAsg
import Derived.Test.YtpiolhjiflohgaaIow
namespace Go.Proofs.Ytpiolhjiflohgaa
open Go.RowKit
namespace As
/-- The best assignment. -/
def bst (V : List (List Int)) : List Nat := fb V (List.range V.length)
/-- Does an item leave the greatest value possible? -/
def hit (V : List (List Int)) (i s m : Nat) : Prop := s.testBit m = true ∧ vl V i m + mst V (wo s m) = mst V s
theorem mst_at {V : List (List Int)} {s i : Nat} (h : (its V.length s).length + i = V.length) : mst V s = opt (V.drop i) (its V.length s) := by
  unfold mst; rw [show V.length - (its V.length s).length = i by omega]
theorem its_sorted (n s : Nat) : (its n s).Pairwise (· < ·) := List.Pairwise.filter _ List.pairwise_lt_range
theorem fb_step {V : List (List Int)} (n6 : V.length ≤ 6) {i s m : Nat} (hs : s < 64) (hi : i < V.length) (hl : (its V.length s).length + i = V.length) (hm : m < V.length) (h : hit V i s m) (hno : ∀ j, j < m → ¬ hit V i s j) :
    fb (V.drop i) (its V.length s) = m :: fb (V.drop (i + 1)) (its V.length (wo s m)) ∧ (its V.length (wo s m)).length + (i + 1) = V.length := by
  have e2 := fun j hj hb => its_erase s hs V.length (by omega) j hj hb
  have e3 := fun j hj hb => its_wo_len s hs V.length (by omega) j hj hb
  have key : ∀ j, j ∈ its V.length s → (el V[i] j + opt (V.drop (i + 1)) ((its V.length s).erase j) = opt (V[i] :: V.drop (i + 1)) (its V.length s) ↔ hit V i s j) := by
    intro j hj
    have hj' := mem_its.1 hj
    unfold hit
    rw [mst_at hl, mst_at (i := i + 1) (by have := e3 j hj'.1 hj'.2; omega), e2 j hj'.1 hj'.2, List.drop_eq_getElem_cons hi]
    have e1 : vl V i j = el V[i] j := by unfold vl; rw [getD_lt hi]
    rw [e1]
    exact ⟨fun h => ⟨hj'.2, h⟩, fun h => h.2⟩
  have hmem : m ∈ its V.length s := mem_its.2 ⟨hm, h.1⟩
  have hfind : (its V.length s).find? (fun j => decide (el V[i] j + opt (V.drop (i + 1)) ((its V.length s).erase j) = opt (V[i] :: V.drop (i + 1)) (its V.length s))) = some m := by
    obtain ⟨L1, L2, hsp, hna⟩ := List.eq_append_cons_of_mem hmem
    rw [List.find?_eq_some_iff_append]
    refine ⟨by simpa using (key m hmem).2 h, L1, L2, hsp, fun a ha => ?_⟩
    have hsr := its_sorted V.length s
    have hain : a ∈ its V.length s := by rw [hsp]; simp [ha]
    rw [hsp] at hsr
    have := (List.pairwise_append.1 hsr).2.2 a ha m (by simp)
    have hn := hno a this
    have := mt (key a hain).1 hn
    simpa using this
  refine ⟨?_, by have := e3 m hm h.1; omega⟩
  rw [List.drop_eq_getElem_cons hi]
  simp only [fb]
  rw [hfind]
  simp only
  rw [e2 m hm h.1]
theorem fb_hit {V : List (List Int)} (n6 : V.length ≤ 6) (hn : Nn V) {i s : Nat} (hs : s < 64) (hi : i < V.length) (hl : (its V.length s).length + i = V.length) : ∃ m, m < V.length ∧ hit V i s m := by
  have hL : its V.length s ≠ [] := by intro e; rw [e] at hl; simp at hl; omega
  obtain ⟨j, hj, he⟩ := opt_at (r := V[i]) (R := V.drop (i + 1)) (hn _ (List.getElem_mem hi)) hL
  have hj' := mem_its.1 hj
  refine ⟨j, hj'.1, hj'.2, ?_⟩
  have e3 := its_wo_len s hs V.length (by omega) j hj'.1 hj'.2
  rw [mst_at hl, mst_at (i := i + 1) (by omega), ← its_erase s hs V.length (by omega) j hj'.1 hj'.2, List.drop_eq_getElem_cons hi]
  have e1 : vl V i j = el V[i] j := by unfold vl; rw [getD_lt hi]
  rw [e1]
  exact he
theorem al_snoc (T : List Nat) (m : Nat) : al (T ++ [m]) = al T ++ [(m : Int)] := by unfold al; rw [List.map_append]; rfl
end As
/-- firstBest between two rows. -/
structure FbI (V : List (List Int)) (w W : World) (B N i s : Nat) (v : Value) : Prop where
  lt : s < N
  len : (As.its V.length s).length + i = V.length
  T : ∃ T : List Nat, T.length = i ∧ T ++ As.fb (V.drop i) (As.its V.length s) = As.bst V ∧ Own W B v (As.al T)
  bf : BF W w.heap.size N (As.mst V)
  bb : Below w.heap.size w W
  hB : B ≤ W.heap.size
  gB : w.heap.size < B
theorem FbI.keep {V : List (List Int)} {w W W' : World} {B N i s : Nat} {v : Value} (h : FbI V w W B N i s v) (hb : Below W.heap.size W W') : FbI V w W' B N i s v := by
  obtain ⟨T, h1, h2, h3⟩ := h.T
  exact ⟨h.lt, h.len, ⟨T, h1, h2, h3.keepB hb⟩, h.bf.keep hb, keepB h.bb hb, Nat.le_trans h.hB hb.size, h.gB⟩
/-- What firstBest gives. -/
def FbQ (V : List (List Int)) (w : World) (e : Ending) (w' : World) : Prop := ∃ A c, e = .returned (.slice A V.length c) ∧ IsI w' A (As.al (As.bst V)) ∧ Below w.heap.size w w'
set_option linter.unusedSimpArgs false in
set_option maxRecDepth 100000 in
set_option maxHeartbeats 4000000 in
theorem firstBest_any (A : Option Addr) (cv : Nat) (V : List (List Int)) (w : World) (ok : As.Ok V) (h : IsM w A V) :
    Calls Try.prog 56 #[.slice A V.length cv] w (FbQ V w) := by
  have n1 := ok.n1
  have n6 := ok.n6
  have CG := Lib.hid (greatest_any A cv V w ok h)
  obtain ⟨p1, p2, -⟩ := As.pow_bd V.length (by omega)
  have hall := As.its_all V.length (by omega)
  obtain ⟨b, off, rfl, hrows⟩ := h (by omega)
  have HR := Lib.hid hrows
  have HOKV := Lib.hid ok
  clear h hrows ok
  generalize 2 ^ V.length = N at *
  have HALL := Lib.hid hall
  clear hall
  obtain ⟨i0, hi0, hz0, hz1, hz2⟩ := info_parts intInfo
  have HI := Lib.hid hi0
  have HI2 := Lib.hid hz0
  have HI3 := Lib.hid hz1
  have HI4 := Lib.hid hz2
  clear hi0 hz0 hz1 hz2
  have e1 : (N : Int) - 1 = ((N - 1 : Nat) : Int) := by omega
  go_enter Try.func56, Try.ntmps56
  go_wp2_with fail
  refine CG.out.mono ?_
  rintro e w1 ⟨rfl, hbf, hbb⟩
  obtain ⟨B, hBe⟩ : ∃ B, w1.heap.size = B := ⟨_, rfl⟩
  have hF : FbI V w w1 B N 0 (N - 1) (.slice none 0 0) := ⟨by omega, by rw [HALL.out]; simp, ⟨[], rfl, by rw [HALL.out]; rfl, Own.nil_ _ _⟩, hbf, hbb, by omega, by have := hbf.lt; omega⟩
  have HF := Lib.hid hF
  clear hF hbf hbb hBe CG HALL
  go_wp2_with fail
  clear e1
  go_loopw [4, 5, 18] (fun l v i W => ∃ k s : Nat, k ≤ V.length ∧ i = .int .i64 k ∧ l = .int .i64 s ∧ FbI V w W B N k s v) (fun _ _ i _ => V.length - (intOf i).toNat)
  case atStart => exact ⟨0, N - 1, Nat.zero_le _, rfl, rfl, HF.out⟩
  case round =>
    clear HF
    obtain ⟨k, s, hk, rfl, rfl, hF⟩ := hrel
    by_cases hlt : k < V.length
    · have hs64 : s < 64 := by have := hF.lt; omega
      obtain ⟨R, c, hc, hrl, hI⟩ := HR.out k hlt
      rw [HOKV.out.row k hlt] at hc
      obtain ⟨rb, ro, rfl, hcs⟩ := hI.1 (by rw [HOKV.out.row k hlt]; omega)
      have HC := Lib.hid (show ∀ j, j < V.length → w.cell? ⟨rb, ro + j, none⟩ = some (.int .i64 (As.vl V k j)) from fun j hj => hcs j (by rw [HOKV.out.row k hlt]; omega))
      have c1 := keepC hF.bb hc
      have HF := Lib.hid hF
      clear hcs hI hrl hc hF
      go_wp2_with fail
      clear c1
      go_loopw [4, 5, 24] (fun l v i W => l = .int .i64 s ∧ v = u5 ∧ ∃ m : Nat, m ≤ V.length ∧ i = .int .i64 m ∧ Hid (∀ j, j < m → ¬ As.hit V k s j) ∧ FbI V w W B N k s u5) (fun _ _ i _ => V.length - (intOf i).toNat)
      case atStart => exact ⟨rfl, rfl, 0, Nat.zero_le _, rfl, Lib.hid (fun j hj => absurd hj (Nat.not_lt_zero _)), HF.out⟩
      case round =>
        clear HF
        obtain ⟨rfl, rfl, m, hm, rfl, HNO, hF⟩ := hrel
        by_cases hltm : m < V.length
        · have c2 := keepC hF.bb (HC.out m hltm)
          have hW := without_any s m wr hs64 (by omega)
          have HNX := Lib.hid (fun (hp : ¬ As.hit V k s m) j (hj : j < m + 1) => by
            rcases Nat.lt_or_ge j m with h1 | h1
            · exact HNO.out j h1
            · obtain rfl : j = m := by omega
              exact hp)
          cases htb : s.testBit m
          · rw [As.wo_ne s hs64 m (by omega) htb] at hW
            have HW := Lib.hid hW
            have HT := Lib.hid (HNX.out (fun h => by have := h.1; rw [htb] at this; cases this))
            have d1 : ((s : Int) != s) = false := by simp
            have HF := Lib.hid hF
            generalize As.vl V k m = x at *
            clear hW htb hF HNX HNO
            go_wp2_with fail
            refine HW.out.mono ?_
            rintro e w2 ⟨rfl, hb1⟩
            have HF' := Lib.hid (HF.out.keep hb1)
            clear hb1 HF
            go_wp2_with fail
            go_quiet (fail)
            go_wp2_with fail
            go_roundw
            case rel => exact ⟨rfl, rfl, m + 1, by omega, by go_num, HT, HF'.out.keep (below_drewN (Below.refl _ _) _)⟩
            case measure => simp [intOf]; omega
          · have hwl := As.wo_lt s hs64 m (by omega) htb
            have HSTEP := Lib.hid (fun hv => As.fb_step n6 hs64 hlt hF.len hltm (show As.hit V k s m from ⟨htb, hv⟩) HNO.out)
            have HNY := Lib.hid (fun (hv : ¬ As.vl V k m + As.mst V (As.wo s m) = As.mst V s) => HNX.out (fun h => hv h.2))
            have b1 := HOKV.out.bd k m
            have b2 := As.mst_bd n6 (As.le_of_vl fun i j => (HOKV.out.bd i j).2) (As.wo s m)
            have b3 := As.mst_bd n6 (As.le_of_vl fun i j => (HOKV.out.bd i j).2) s
            obtain ⟨r, hr⟩ : ∃ r, As.wo s m = r := ⟨_, rfl⟩
            rw [hr] at hW hwl HSTEP HNY b2
            have hsN := hF.lt
            have HW := Lib.hid hW
            have HF := Lib.hid hF
            have d1 : ((r : Int) != s) = true := by rw [bne_iff_ne]; omega
            generalize hL : As.mst V s = L at *
            generalize hM : As.mst V r = M at *
            have HLM := Lib.hid (And.intro hL hM)
            generalize As.vl V k m = x at *
            clear hW htb hF HNX HNO hr hL hM
            obtain ⟨b11, b12⟩ := b1
            obtain ⟨b21, b22⟩ := b2
            obtain ⟨b31, b32⟩ := b3
            go_wp2_with fail
            refine HW.out.mono ?_
            rintro e w2 ⟨rfl, hb1⟩
            have HF' := Lib.hid (HF.out.keep hb1)
            clear hb1 HF
            have x1 := HF'.out.bf.c (k := s) hsN
            have x2 := HF'.out.bf.c (k := r) (by omega)
            rw [HLM.out.1] at x1
            rw [HLM.out.2] at x2
            have i1 : (s : Int) < (N : Int) := by omega
            have i2 : (r : Int) < (N : Int) := by omega
            have a1 : IntKind.i64.wrap (x + M) = x + M := IntWalk.i64_in _ (by omega)
            by_cases hv : x + M = L
            · have d2 : ((x + M) == L) = true := by rw [beq_iff_eq]; exact hv
              obtain ⟨q1, q2⟩ := HSTEP.out hv
              have Q1 := Lib.hid q1
              have Q2 := Lib.hid q2
              clear q1 q2 hv HSTEP HNY HLM
              go_wp2_with fail
              go_quiet (fail)
              go_upto_region 12 with fail
              refine at_worldQ (fun v => FbI V w v B N k s u5) (HF'.out.keep (below_drewN (Below.refl _ _) _)) (fun W5 hF5 => ?_)
              clear x1 x2 a1 d2 d1 HF' HW
              obtain ⟨T, hT1, hT2, hO⟩ := hF5.T
              have HT1 := Lib.hid hT1
              have HT2 := Lib.hid hT2
              have hBW := hF5.hB
              unfold Own at hO
              rw [As.al_len, hT1] at hO
              have HF5 := Lib.hid hF5
              clear hT1 hT2 hF5
              go_wp2_with (at_builtin; go_loud (refine wpList_append_lies _ rfl _ _ _ rfl B 3 i0 _ 1 8 Try.underlying26 HI.out HI2.out HI3.out HI4.out rfl (by omega) _ k ((As.al T).map (Value.int .i64)) (by rfl) (World.ownsRow.alloc hO _) ⟨W5.heap.size, 0, none⟩ 1 1 [.int .i64 (m : Int)] (by rfl) (by rfl) (World.news_of_block (cs := #[.int .i64 (m : Int)]) (t := 3) (fr := (0, 0)) (heap_alloc_new W5 _)) (by simp [Value.oneCell']) (by omega) (by unfold maxLen; omega) (by omega) (by simp; omega) (W5.heap.size + 1) (by simp) ?_; intro g cap w6 hown1 hgrow hat hglt))
              all_goals
                refine ⟨⟨k + 1, r, by omega, by go_num, rfl, ?_⟩, by simp [intOf]; omega⟩
                have hgB := HF5.out.gB
                have hsz := HF5.out.bb.size
                refine ⟨by omega, Q2.out, ⟨T ++ [m], by rw [List.length_append, HT1.out]; rfl, ?_, ?_⟩, (HF5.out.bf.al _).grown hgrow (fun e => ?_), (below_al HF5.out.bb _).grown hgrow (by simp; omega) (fun j ej => ?_), ?_, hgB⟩
                · rw [List.append_assoc, ← HT2.out, Q1.out]
                  rfl
                · unfold Own
                  rw [As.al_snoc, List.length_append, As.al_len, HT1.out, List.map_append]
                  exact hown1
                · have := (World.ownsRow.lt hO _ e).1
                  omega
                · have := (World.ownsRow.lt hO j ej).1
                  omega
                · have := hgrow.size
                  simp at this
                  omega
            · have d2 : ((x + M) == L) = false := by rw [beq_eq_false_iff_ne]; exact hv
              have HT := Lib.hid (HNY.out hv)
              clear hv HSTEP HNY HLM
              go_wp2_with fail
              go_quiet (fail)
              go_wp2_with fail
              clear x1 x2 a1
              go_roundw
              case rel => exact ⟨rfl, rfl, m + 1, by omega, by go_num, HT, HF'.out.keep (below_drewN (Below.refl _ _) _)⟩
              case measure => simp [intOf]; omega
        · exfalso
          obtain ⟨j, hj, hh⟩ := As.fb_hit n6 HOKV.out.nn hs64 hlt hF.len
          exact HNO.out j (by omega) hh
    · obtain rfl : k = V.length := by omega
      obtain ⟨T, h1, h2, h3⟩ := hF.T
      have hl0 : As.its V.length s = [] := List.eq_nil_of_length_eq_zero (by have := hF.len; omega)
      rw [hl0, List.drop_length] at h2
      have h2' : T = As.bst V := by simpa [As.fb] using h2
      obtain ⟨A', cc, rfl⟩ := h3.form
      rw [As.al_len, h1] at h3 ⊢
      have hI := h3.isI (fun x hx => by
        obtain ⟨j, hj, rfl⟩ := List.mem_map.1 hx
        have hpm := (As.fb_spec V (List.range V.length) HOKV.out.nn (by simp)).1
        rw [h2'] at hj
        have := hpm.mem_iff.1 hj
        have : j < V.length := by simpa using this
        unfold I64; omega)
      rw [h2'] at hI
      have HI9 := Lib.hid hI
      have hbb := hF.bb
      clear hI h3 h2' h2 hl0 hF h1
      go_wp2_with fail
      exact bodyPost_ret (v := .slice A' V.length cc) (by simp [results, Try.results56, go_sem]) rfl ⟨A', cc, rfl, HI9.out, hbb⟩
end Go.Proofs.Ytpiolhjiflohgaa

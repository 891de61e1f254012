/- Package room: Even. The reference of layer 14: Lowest. -/
import Derived.Test.YtncmffhoodfhjaaGreatYl
import Derived.Test.YtncmffhoodfhjaaGreatYf
import Derived.BigRegion
import Derived.Deep.RegionHeld3
namespace Go.Proofs.YtncmffhoodfhjaaGreat
open Go.RowKit
theorem BK.grown {W W' : World} {g : Nat} {l : List Value} {row : Option Nat} (h : BK W g l) (hg : W.grownBy W' row) (hne : row ≠ some g) : BK W' g l := by
  have hlt := h.lt
  have hb := hg.block g hlt hne.symm
  refine ⟨Nat.lt_of_lt_of_le hlt hg.size, fun j x e => ?_⟩
  have := BK.c h j e
  have h2 := BK.f h j e
  unfold World.cell? at this ⊢
  unfold World.frozen? at h2 ⊢
  dsimp only at this h2 ⊢
  rw [hb]
  exact ⟨this, h2⟩
namespace As
theorem lp_sum {V : List (List Int)} (ok : Ok V) : 0 ≤ sm (el (lp V (bst V))) (List.range V.length) ∧ sm (el (lp V (bst V))) (List.range V.length) ≤ 6000000 := by
  have ht := bst_top ok
  have n1 := ok.n1
  have n6 := ok.n6
  have h := sm_bd (f := el (lp V (bst V))) (M := 1000000) V.length fun k hk => ⟨lp_nn ht k, lp_bound ht (by omega) ok.bd hk⟩
  have : (V.length : Int) * 1000000 ≤ 6 * 1000000 := Int.mul_le_mul_of_nonneg_right (by omega) (by omega)
  omega
theorem den_le {c n : Int} (h : 1 ≤ n) : 1 ≤ ((Rp.q c n).den : Int) ∧ ((Rp.q c n).den : Int) ≤ n := by
  obtain ⟨h1, h2, _⟩ := Rp.q_num_den (a := c) h
  exact ⟨h1, Int.le_of_dvd (by omega) (Int.dvd_of_emod_eq_zero h2)⟩
end As
end Go.Proofs.YtncmffhoodfhjaaGreat
namespace Go.Proofs.YtncmffhoodfhjaaGreat
open Go.RowKit
namespace As
/-- Does d divide the denominator and the first ones? -/
def dB (den : Nat) (L : List Int) (d m : Nat) : Bool := decide (d ∣ den) && (List.range m).all (fun j => decide ((d : Int) ∣ el L j))
theorem dB_succ (den : Nat) (L : List Int) (d m : Nat) : dB den L d (m + 1) = (dB den L d m && decide ((d : Int) ∣ el L m)) := by
  unfold dB
  rw [List.range_succ, List.all_append]
  simp [Bool.and_assoc]
theorem dB_iff {den : Nat} {L : List Int} {d n : Nat} (hL : L.length = n) : dB den L d n = true ↔ dvs den L d := by
  unfold dB dvs
  simp only [Bool.and_eq_true, decide_eq_true_eq, List.all_eq_true, List.mem_range]
  constructor
  · rintro ⟨h1, h2⟩
    refine ⟨h1, fun x hx => ?_⟩
    obtain ⟨k, hk, rfl⟩ := List.mem_iff_getElem.1 hx
    have := h2 k (by omega)
    rwa [show el L k = L[k] by unfold el; simp [hk]] at this
  · rintro ⟨h1, h2⟩
    refine ⟨h1, fun j hj => ?_⟩
    rw [show el L j = L[j]'(by omega) by unfold el; simp [show j < L.length by omega]]
    exact h2 _ (List.getElem_mem _)
theorem tmod_fact {x d : Int} (hd : 0 < d) : -d < x.tmod d ∧ x.tmod d < d ∧ ((x.tmod d == 0) = decide (d ∣ x)) := by
  have h1 : -d < x.tmod d ∧ x.tmod d < d := by
    by_cases hx : 0 ≤ x
    · rw [Int.tmod_eq_emod_of_nonneg hx]
      have := Int.emod_nonneg x (show d ≠ 0 by omega)
      have := Int.emod_lt_of_pos x hd
      omega
    · have e : x.tmod d = -((-x) % d) := by rw [← Int.tmod_eq_emod_of_nonneg (by omega), Int.neg_tmod, Int.neg_neg]
      rw [e]
      have := Int.emod_nonneg (-x) (show d ≠ 0 by omega)
      have := Int.emod_lt_of_pos (-x) hd
      omega
  refine ⟨h1.1, h1.2, ?_⟩
  rw [Bool.eq_iff_iff, beq_iff_eq, decide_eq_true_eq]
  exact ⟨Int.dvd_of_tmod_eq_zero, Int.tmod_eq_zero_of_dvd⟩
theorem tdiv_fact {x d : Int} (h : d ∣ x) : x.tdiv d = x / d := Int.tdiv_eq_ediv_of_dvd h
theorem lws_hit {den : Nat} {L : List Int} {d : Nat} (h1 : 1 < d) (h : dvs den L d) : lws den L d = d := by
  obtain ⟨k, rfl⟩ : ∃ k, d = k + 1 := ⟨d - 1, by omega⟩
  simp only [lws]; rw [if_pos ⟨h1, h⟩]
theorem lws_miss {den : Nat} {L : List Int} {d : Nat} (h1 : 1 < d) (h : ¬ dvs den L d) : lws den L d = lws den L (d - 1) := by
  obtain ⟨k, rfl⟩ : ∃ k, d = k + 1 := ⟨d - 1, by omega⟩
  simp only [lws]; rw [if_neg (fun x => h x.2)]; simp
theorem div_one_map (L : List Int) : L.map (fun x => x / ((1 : Nat) : Int)) = L := by
  conv => rhs; rw [← List.map_id L]
  exact List.map_congr_left fun x _ => by simp
theorem take_map_succ {L : List Int} {f : Int → Int} {k : Nat} (h : k < L.length) : (L.take (k + 1)).map f = (L.take k).map f ++ [f (el L k)] := by
  rw [List.take_succ_eq_append_getElem h, List.map_append]
  simp [el, h]
end As
theorem ownG_drewN {W : World} {B : Nat} {e : TypeId} {sz n : Nat} {v : Value} {cs : List Value} (h : W.ownsRow B e sz v n cs) (k : Nat) : (W.drewN k).ownsRow B e sz v n cs :=
  World.ownsRow.kept (row := none) h ⟨rfl, rfl, rfl, Nat.le_refl _, fun _ _ _ => rfl⟩ (by
    rcases v.ownBlock with _ | g
    · exact .inl rfl
    · exact .inr (by simp))
/-- What Lowest gives. -/
def LoQ (A : Option Addr) (L : List Int) (den : Nat) (w : World) (e : Ending) (w' : World) : Prop :=
  ∃ X c, e = .returned (.tuple #[.slice X den c, .int .i64 ((den / As.gcl den L : Nat) : Int)]) ∧ IsI w' X (L.map fun x => x / ((As.gcl den L : Nat) : Int)) ∧ (X = A ∨ ∀ b off, X = some ⟨b, off, none⟩ → w.heap.size ≤ b) ∧ Below w.heap.size w w'
set_option maxRecDepth 100000 in
set_option maxHeartbeats 8000000 in
theorem r14Lowest_any (A : Option Addr) (cap : Nat) (L : List Int) (den : Nat) (w : World) (hL : L.length = den) (d1 : 1 ≤ den) (d6 : den ≤ 6) (hb : ∀ j, j < den → -100000000 ≤ As.el L j ∧ As.el L j ≤ 100000000) (h : IsI w A L) :
    Calls Tryz.prog 44 #[.slice A den cap, .int .i64 den] w (LoQ A L den w) := by
  have HG := Lib.hid (As.lws_gcl d1 L)
  have HB := Lib.hid hb
  have HH := Lib.hid h
  have HL := Lib.hid hL
  have HI64 := Lib.hid (show ∀ g : Nat, 1 ≤ g → ∀ x ∈ L.map (fun x => x / (g : Int)), I64 x from fun g hg x hx => by
    obtain ⟨y, hy, rfl⟩ := List.mem_map.1 hx
    obtain ⟨k, hk, rfl⟩ := List.mem_iff_getElem.1 hy
    have := hb k (by omega)
    rw [show As.el L k = L[k] by unfold As.el; simp [hk]] at this
    have h1 := Int.natAbs_ediv_le_natAbs L[k] (g : Int)
    unfold I64; omega)
  obtain ⟨i0, hi0, hz0, hz1, hz2⟩ := info_parts intInfo
  have HI := Lib.hid hi0
  have HI2 := Lib.hid hz0
  have HI3 := Lib.hid hz1
  have HI4 := Lib.hid hz2
  clear h hb hL hi0 hz0 hz1 hz2
  go_enter Tryz.func44, Tryz.ntmps44
  go_wp2_with fail
  go_loopw [6] (fun i W => ∃ d : Nat, 1 ≤ d ∧ d ≤ den ∧ i = .int .i64 d ∧ Hid (As.gcl den L = As.lws den L d) ∧ Hid (W = w)) (fun i _ => (intOf i).toNat)
  case atStart => exact ⟨den, d1, Nat.le_refl _, rfl, Lib.hid HG.out.symm, Lib.hid rfl⟩
  case round =>
    obtain ⟨d, hd1, hd2, rfl, HD, HW⟩ := hrel
    have hW := HW.out.symm
    subst hW
    by_cases hgt : 1 < d
    · have HIF := Lib.hid (As.dB_iff (den := den) (d := d) HL.out)
      have HSU := Lib.hid (As.dB_succ den L d)
      have HHIT := Lib.hid (fun h => @As.lws_hit den L d hgt h)
      have HMISS := Lib.hid (fun h => @As.lws_miss den L d hgt h)
      obtain ⟨m1, m2, m3⟩ := As.tmod_fact (x := (den : Int)) (d := (d : Int)) (by omega)
      rw [Int.tmod_eq_emod_of_nonneg (by omega)] at m3
      have HZ := Lib.hid (show As.dB den L d 0 = ((den : Int) % d == 0) by rw [m3]; unfold As.dB; simp [Int.ofNat_dvd])
      have nz : ¬ (d : Int) = 0 := by omega
      have nz' : ¬ d = 0 := by omega
      have nzb : ((d : Int) == 0) = false := by rw [beq_eq_false_iff_ne]; omega
      clear m1 m2 m3
      go_wp2_with fail
      go_loopw [7, 8] (fun z i W => ∃ m : Nat, m ≤ den ∧ i = .int .i64 m ∧ z = .bool (As.dB den L d m) ∧ Hid (W = w)) (fun _ i _ => den - (intOf i).toNat)
      case atStart => exact ⟨0, Nat.zero_le _, rfl, by rw [HZ.out], Lib.hid rfl⟩
      case round =>
        obtain ⟨m, hm, rfl, rfl, HW2⟩ := hrel
        have hW2 := HW2.out.symm
        subst hW2
        by_cases hlt : m < den
        · obtain ⟨bb, bo, hAe, hcs⟩ := list_at HH.out (j := m) (by rw [HL.out]; exact hlt)
          have x0 := hcs m (by rw [HL.out]; exact hlt)
          obtain ⟨q1, q2⟩ := HB.out m hlt
          obtain ⟨n1, n2, n3⟩ := As.tmod_fact (x := As.el L m) (d := (d : Int)) (by omega)
          have HS := Lib.hid (HSU.out m)
          subst hAe
          generalize As.el L m = x at *
          clear hcs
          cases hz : As.dB den L d m with
          | false =>
            have HZF := Lib.hid hz
            clear hz
            go_wp2_with fail
            go_roundw
            case rel => exact ⟨m + 1, by omega, by go_num, by rw [HS.out, HZF.out]; rfl, by first | exact Lib.hid rfl | exact Lib.hid trivial⟩
            case measure => simp [intOf]; omega
          | true =>
            have HZF := Lib.hid hz
            have HN3 := Lib.hid n3
            clear hz n3
            go_wp2_with fail
            go_roundw
            case rel => exact ⟨m + 1, by omega, by go_num, by rw [HS.out, HZF.out, ← HN3.out]; rfl, by first | exact Lib.hid rfl | exact Lib.hid trivial⟩
            case measure => simp [intOf]; omega
        · obtain rfl : m = den := by omega
          cases hz : As.dB m L d m with
          | false =>
            have HND := Lib.hid (HMISS.out (fun h => by have := HIF.out.2 h; rw [hz] at this; cases this))
            clear hz
            go_wp2_with fail
            go_roundw
            case rel => exact ⟨d - 1, by omega, by omega, by go_num, Lib.hid (HD.out.trans HND.out), by first | exact Lib.hid rfl | exact Lib.hid trivial⟩
            case measure => simp [intOf]; omega
          | true =>
            have hdv := HIF.out.1 hz
            have hg := HD.out.trans (HHIT.out hdv)
            have HF := Lib.hid (show ∀ X c w', Own w' w.heap.size (.slice X m c) (L.map fun x => x / (d : Int)) → Below w.heap.size w w' → LoQ A L m w (.returned (.tuple #[.slice X m c, .int .i64 ((m : Int) / (d : Int))])) w' from fun X c w' hO hb => ⟨X, c, by rw [hg, Int.natCast_ediv], by
              rw [hg]
              exact Own.isI (n := m) (B := w.heap.size) (cap := c) (by unfold Own at hO ⊢; exact hO) (HI64.out d hd1), .inr (fun b off e => by
              subst e
              exact (Own.lt hO b rfl).1), hb⟩)
            have HQ := Lib.hid (fun k (hk : k < m) => (show (d : Int) ∣ As.el L k from by
              rw [show As.el L k = L[k]'(by rw [HL.out]; exact hk) by unfold As.el; simp [show k < L.length by rw [HL.out]; exact hk]]
              exact hdv.2 _ (List.getElem_mem _)))
            have HTL := Lib.hid (show (L.take m).map (fun x => x / (d : Int)) = L.map fun x => x / (d : Int) by rw [← HL.out, List.take_length])
            clear hz hdv hg HD HIF HSU HHIT HMISS HG
            go_wp2_with fail
            go_loopw [9, 10] (fun v i W => ∃ k : Nat, k ≤ m ∧ i = .int .i64 k ∧ Hid (Below w.heap.size w W) ∧ Hid (Own W w.heap.size v ((L.take k).map fun x => x / (d : Int)))) (fun _ i _ => m - (intOf i).toNat)
            case atStart => exact ⟨0, Nat.zero_le _, rfl, Lib.hid (Below.refl _ _), Lib.hid (by simpa using Own.nil_ _ _)⟩
            case round =>
              obtain ⟨k, hk, rfl, HW3, HO⟩ := hrel
              by_cases hlt : k < m
              · obtain ⟨bb, bo, hAe, hcs⟩ := list_at HH.out (j := k) (by rw [HL.out]; exact hlt)
                have x0 := keepC HW3.out (hcs k (by rw [HL.out]; exact hlt))
                obtain ⟨q1, q2⟩ := HB.out k hlt
                have hq := As.tdiv_fact (HQ.out k hlt)
                have HS := Lib.hid (As.take_map_succ (L := L) (f := fun x => x / (d : Int)) (k := k) (by rw [HL.out]; exact hlt))
                have HLEN := Lib.hid (show ((L.take k).map fun x => x / (d : Int)).length = k by rw [List.length_map, List.length_take, HL.out]; omega)
                have hab := Int.natAbs_ediv_le_natAbs (As.el L k) (d : Int)
                subst hAe
                obtain ⟨y, hy⟩ : ∃ y, As.el L k / (d : Int) = y := ⟨_, rfl⟩
                rw [hy] at hq hab
                have HY := Lib.hid hy
                generalize As.el L k = x at *
                have q3 : -100000000 ≤ y := by omega
                have q4 : y ≤ 100000000 := by omega
                have hO := HO.out
                unfold Own at hO
                rw [HLEN.out] at hO
                have hsz3 := HW3.out.size
                clear hcs hy hab
                have HW3' := HW3.out
                go_wp2_with (at_builtin; go_loud (refine wpList_append_lies _ rfl _ _ _ rfl w.heap.size 3 i0 _ 1 8 Tryz.underlying25 HI.out HI2.out HI3.out HI4.out rfl (by omega) _ k (((L.take k).map fun x => x / (d : Int)).map (Value.int .i64)) (by rfl) (World.ownsRow.alloc hO _) ⟨wr.heap.size, 0, none⟩ 1 1 [.int .i64 y] (by rfl) (by rfl) (World.news_of_block (cs := #[.int .i64 y]) (t := 3) (fr := (0, 0)) (heap_alloc_new wr _)) (by simp [Value.oneCell']) (by omega) (by unfold maxLen; omega) (by omega) (by simp; omega) (wr.heap.size + 1) (by simp) ?_; intro g cap w6 hown1 hgrow hat hglt))
                all_goals exact ⟨⟨k + 1, by omega, by go_num, Lib.hid (own_app rfl HW3.out (fun b hb => (World.ownsRow.lt hO b hb).1) hgrow), Lib.hid (by
                  unfold Own
                  rw [HS.out, List.length_append, HLEN.out, List.map_append]
                  simp only [HY.out]
                  exact hown1)⟩, by simp [intOf]; omega⟩
              · obtain rfl : k = m := by omega
                obtain ⟨X, cc, rfl⟩ := HO.out.form
                have hO := HO.out
                rw [HTL.out] at hO
                have hnl : ((L.take k).map fun x => x / (d : Int)).length = k := by rw [List.length_map, List.length_take, HL.out]; omega
                rw [hnl]
                unfold Own at hO
                rw [List.length_map, HL.out] at hO
                obtain ⟨z, hz⟩ : ∃ z, (k : Int) / (d : Int) = z := ⟨_, rfl⟩
                have HFF := Lib.hid (fun nq => HF.out X cc (wr.drewN nq) (by unfold Own; rw [List.length_map, HL.out]; exact ownG_drewN hO nq) (below_drewN HW3.out nq))
                rw [hz] at HFF
                have z0 : 0 ≤ z := by rw [← hz]; exact Int.ediv_nonneg (by omega) (by omega)
                have z1 : z ≤ 6 := by have := Int.natAbs_ediv_le_natAbs (k : Int) (d : Int); rw [hz] at this; omega
                clear hO hnl
                go_wp2_with fail
                go_quiet (fail)
                go_wp2_with fail
                go_ret2
                exact HFF.out _
    · obtain rfl : d = 1 := by omega
      have hg : As.gcl den L = 1 := by rw [HD.out]; rfl
      have HF := Lib.hid (show LoQ A L den w (.returned (.tuple #[.slice A den cap, .int .i64 den])) w from ⟨A, cap, by rw [hg, Nat.div_one], by rw [hg, As.div_one_map]; exact HH.out, .inl rfl, Below.refl _ _⟩)
      clear hg
      go_wp2_with fail
      go_ret2
      exact HF.out
end Go.Proofs.YtncmffhoodfhjaaGreat

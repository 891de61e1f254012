/- Layer 15's laws: given, level, fit, the examples. -/
import Derived.Test.YtncmffhoodfhjaaLwp
import Derived.Test.YtncmffhoodfhjaaLxd2
import Derived.Test.YtncmffhoodfhjaaLxe
import Derived.Test.YtncmffhoodfhjaaLxf
namespace Go.Proofs.Ytncmffhoodfhjaa
open Go.RowKit
/-- A flat of the chapter. -/
def Gv15 (w : World) (e : Ending) (w' : World) : Prop := ∃ g, e = .returned (.agg #[.slice (some ⟨g, 0, none⟩) 2 2, .int .i64 5]) ∧ IsM w' (some ⟨g, 0, none⟩) [[5, 3], [4, 1]] ∧ Below w.heap.size w w'
set_option maxHeartbeats 2000000 in
theorem given15_any (w : World) : Calls Try.prog 31 #[] w (Gv15 w) := by
  go_enter Try.func31, Try.ntmps31
  go_wp2_with fail
  exact bodyPost_ret (v := .agg #[.slice (some ⟨w.heap.size + 1 + 1 + 1, 0, none⟩) 2 2, .int .i64 5]) (by simp [results, Try.results31, go_sem]) rfl ⟨_, rfl, isM_lit2 5 3 4 1 (p := w.heap.size + 1) (q := w.heap.size + 1 + 1) (by unfold I64; decide) (by unfold I64; decide) (by unfold I64; decide) (by unfold I64; decide) (by go_simp) (by go_simp) (by go_simp) (by go_simp) (by go_simp) (by go_simp), below_al (below_al (below_al (below_al (Below.refl _ _) _) _) _) _⟩
/-- A flat of the chapter. -/
def Lv15 (w : World) (e : Ending) (w' : World) : Prop := ∃ g, e = .returned (.agg #[.slice (some ⟨g, 0, none⟩) 2 2, .int .i64 9]) ∧ IsM w' (some ⟨g, 0, none⟩) [[8, 4], [6, 6]] ∧ Below w.heap.size w w'
set_option maxHeartbeats 2000000 in
theorem level15_any (w : World) : Calls Try.prog 68 #[] w (Lv15 w) := by
  go_enter Try.func68, Try.ntmps68
  go_wp2_with fail
  exact bodyPost_ret (v := .agg #[.slice (some ⟨w.heap.size + 1 + 1 + 1, 0, none⟩) 2 2, .int .i64 9]) (by simp [results, Try.results68, go_sem]) rfl ⟨_, rfl, isM_lit2 8 4 6 6 (p := w.heap.size + 1) (q := w.heap.size + 1 + 1) (by unfold I64; decide) (by unfold I64; decide) (by unfold I64; decide) (by unfold I64; decide) (by go_simp) (by go_simp) (by go_simp) (by go_simp) (by go_simp) (by go_simp), below_al (below_al (below_al (below_al (Below.refl _ _) _) _) _) _⟩
set_option maxHeartbeats 2000000 in
theorem fit15_any (A : Option Addr) (cv : Nat) (V : List (List Int)) (R : Int) (w : World) (hl : V.length ≤ maxLen) (h : IsM w A V) :
    Calls Try.prog 34 #[.agg #[.slice A V.length cv, .int .i64 R]] w fun e w' => e = .returned (.bool (decide (As.rchk V R = 0))) ∧ Below w.heap.size w w' := by
  have CK := Lib.hid (fun v (hv : Below w.heap.size w v) => r14Check_any A cv V R v hl (h.keep hv))
  have H6 := Lib.hid (show As.rchk V R = 0 → V.length ≤ 6 from fun h0 => by
    rcases As.rchk_two V R with ⟨_, hc, _⟩ | ⟨_, h2⟩
    · exact (As.chk_ok hc).n6
    · exact absurd h0 h2)
  clear h
  unfold maxLen at hl
  generalize As.rchk V R = c at *
  by_cases h6 : V.length ≤ 6
  · have d1 : decide ((V.length : Int) ≤ 6) = true := by rw [decide_eq_true_eq]; omega
    have HZ := Lib.hid (show (c == 0) = decide (c = 0) by rw [Bool.eq_iff_iff, beq_iff_eq, decide_eq_true_eq])
    rw [← HZ.out]
    generalize hz : (c == 0) = z
    clear HZ
    go_enter Try.func34, Try.ntmps34
    go_upto_region 1 with fail
    refine at_box1 (fun V0 hbb b0 hsz => ?_)
    clear hsz
    have c0 := b0.c 0 rfl
    have c1 := b0.c 1 rfl
    go_wp2_with fail
    refine (CK.out _ hbb).mono ?_
    rintro e w1 ⟨rfl, hb1⟩
    replace hbb := keepB hbb hb1
    clear hb1 b0 c0 c1
    go_wp2_with fail
    go_ret
    exact ⟨rfl, hbb⟩
  · have d1 : decide ((V.length : Int) ≤ 6) = false := by rw [decide_eq_false_iff_not]; omega
    rw [decide_eq_false (fun h0 => h6 (H6.out h0))]
    clear H6 h6 CK
    go_enter Try.func34, Try.ntmps34
    go_upto_region 1 with fail
    refine at_box1 (fun V0 hbb b0 hsz => ?_)
    clear hsz
    have c0 := b0.c 0 rfl
    clear b0
    go_wp2_with fail
    go_ret
    exact ⟨rfl, hbb⟩
theorem x15a : As.evA [[5, 3], [4, 1]] 5 = [1, 0] ∧ As.frP [[5, 3], [4, 1]] 5 = [7, 3] ∧ As.frD [[5, 3], [4, 1]] 5 = 2 ∧ As.rchk [[5, 3], [4, 1]] 5 = 0 := by decide +kernel
theorem x15b : As.evA [[8, 4], [6, 6]] 9 = [0, 1] ∧ As.frP [[8, 4], [6, 6]] 9 = [11, 7] ∧ As.frD [[8, 4], [6, 6]] 9 = 2 ∧ As.rchk [[8, 4], [6, 6]] 9 = 0 := by decide +kernel
theorem x15c : As.evA [[8, 4], [6, 6]] 9 = [0, 1] ∧ As.clP [[8, 4], [6, 6]] 9 = [11, 7] ∧ As.clD [[8, 4], [6, 6]] 9 = 2 ∧ As.rchk [[8, 4], [6, 6]] 9 = 0 := by decide +kernel
theorem x15d : As.skS [[5, 3], [4, 1]] 5 0 = ((3, 2), (2, 1), 0) := by decide +kernel
theorem x15e : As.wsS [[8, 4], [6, 6]] 9 [0, 1] [11, 7] 2 = ((5, 2), (5, 2), 0) := by decide +kernel
theorem x15f : As.gnS [[5, 3], [4, 1]] 5 [1, 0] [7, 3] 2 = [3, 1] ∧ As.vld [[5, 3], [4, 1]] 5 [1, 0] [7, 3] 2 = 0 := by decide +kernel
theorem xFair15a (A : Option Addr) (cv : Nat) (w : World) (h : IsM w A [[5, 3], [4, 1]]) : Calls Try.prog 28 #[.agg #[.slice A 2 cv, .int .i64 5]] w fun e w' => ∃ X c Y d, e = .returned (.tuple #[.agg #[.slice X 2 c, .slice Y 2 d, .int .i64 2], .int .i64 0]) ∧ IsI w' X [1, 0] ∧ IsI w' Y [7, 3] ∧ Below w.heap.size w w' := by
  refine (rtFair_any A cv [[5, 3], [4, 1]] 5 w two_leL h).mono ?_
  rintro e w' ⟨X, c, Y, d, rfl, hX, hY, hb⟩
  obtain ⟨f1, f2, f3, f4⟩ := x15a
  rw [f1] at hX ⊢
  rw [f2] at hY ⊢
  rw [f3, f4]
  exact ⟨X, c, Y, d, rfl, hX, hY, hb⟩
theorem xFair15b (A : Option Addr) (cv : Nat) (w : World) (h : IsM w A [[8, 4], [6, 6]]) : Calls Try.prog 28 #[.agg #[.slice A 2 cv, .int .i64 9]] w fun e w' => ∃ X c Y d, e = .returned (.tuple #[.agg #[.slice X 2 c, .slice Y 2 d, .int .i64 2], .int .i64 0]) ∧ IsI w' X [0, 1] ∧ IsI w' Y [11, 7] ∧ Below w.heap.size w w' := by
  refine (rtFair_any A cv [[8, 4], [6, 6]] 9 w two_leL h).mono ?_
  rintro e w' ⟨X, c, Y, d, rfl, hX, hY, hb⟩
  obtain ⟨f1, f2, f3, f4⟩ := x15b
  rw [f1] at hX ⊢
  rw [f2] at hY ⊢
  rw [f3, f4]
  exact ⟨X, c, Y, d, rfl, hX, hY, hb⟩
theorem xCalm15 (A : Option Addr) (cv : Nat) (w : World) (h : IsM w A [[8, 4], [6, 6]]) : Calls Try.prog 29 #[.agg #[.slice A 2 cv, .int .i64 9]] w fun e w' => ∃ X c Y d, e = .returned (.tuple #[.agg #[.slice X 2 c, .slice Y 2 d, .int .i64 2], .int .i64 0]) ∧ IsI w' X [0, 1] ∧ IsI w' Y [11, 7] ∧ Below w.heap.size w w' := by
  refine (rtCalm_any A cv [[8, 4], [6, 6]] 9 w two_leL h).mono ?_
  rintro e w' ⟨X, c, Y, d, rfl, hX, hY, hb⟩
  obtain ⟨f1, f2, f3, f4⟩ := x15c
  rw [f1] at hX ⊢
  rw [f2] at hY ⊢
  rw [f3, f4]
  exact ⟨X, c, Y, d, rfl, hX, hY, hb⟩
theorem xStake15 (A : Option Addr) (cv : Nat) (w : World) (h : IsM w A [[5, 3], [4, 1]]) : Calls Try.prog 32 #[.agg #[.slice A 2 cv, .int .i64 5], .int .i64 0] w fun e w' => e = .returned (.tuple #[.agg #[.int .i64 3, .int .i64 2], .agg #[.int .i64 2, .int .i64 1], .int .i64 0]) ∧ Below w.heap.size w w' := by
  refine (rtStake_any A cv [[5, 3], [4, 1]] 5 0 w two_leL h).mono ?_
  rintro e w' ⟨rfl, hb⟩
  unfold skV
  rw [x15d]
  exact ⟨rfl, hb⟩
theorem xWorst15 (A : Option Addr) (cv : Nat) (X : Option Addr) (c : Nat) (Y : Option Addr) (d : Nat) (w : World) (h : IsM w A [[8, 4], [6, 6]]) (hX : IsI w X [0, 1]) (hY : IsI w Y [11, 7]) : Calls Try.prog 30 #[.agg #[.slice A 2 cv, .int .i64 9], .agg #[.slice X 2 c, .slice Y 2 d, .int .i64 2]] w fun e w' => e = .returned (.tuple #[.agg #[.int .i64 5, .int .i64 2], .agg #[.int .i64 5, .int .i64 2], .int .i64 0]) ∧ Below w.heap.size w w' := by
  refine (rtWorst_any A cv [[8, 4], [6, 6]] 9 X c [0, 1] Y d [11, 7] 2 w two_leL h two_leL hX two_leL hY).mono ?_
  rintro e w' ⟨rfl, hb⟩
  unfold wsV
  rw [x15e]
  exact ⟨rfl, hb⟩
/-- A flat that came in, carried through a region. -/
structure FlK (v : World) (P : Nat) : Prop where
  m : IsM v (some ⟨P, 0, none⟩) [[8, 4], [6, 6]]
theorem FlK.call {v v' : World} {P : Nat} (h : FlK v P) (hb : Below v.heap.size v v') : FlK v' P := ⟨h.m.keep hb⟩
theorem FlK.al {v : World} {P : Nat} (h : FlK v P) (o : Obj) : FlK (v.alloc o) P := h.call (below_al (Below.refl _ _) o)
set_option maxRecDepth 100000 in
set_option maxHeartbeats 8000000 in
theorem alive15_any (w : World) : Calls Try.prog 33 #[] w fun e w' => e = .returned (.bool true) ∧ Below w.heap.size w w' := by
  have HG := Lib.hid given15_any
  have HL := Lib.hid level15_any
  have HB := Lib.hid (Below.refl w.heap.size w)
  go_enter Try.func33, Try.ntmps33
  go_wp2_with fail
  refine (HG.out _).mono ?_
  rintro e w1 ⟨g1, rfl, hM, hb⟩
  replace HB := Lib.hid (keepB HB.out hb)
  have HM := Lib.hid hM
  clear hb hM
  go_wp2_with fail
  refine (xFair15a _ _ _ HM.out).mono ?_
  rintro e w2 ⟨X, c, Y, d, rfl, hX, hY, hb⟩
  replace HM := Lib.hid (HM.out.keep hb)
  replace HB := Lib.hid (keepB HB.out hb)
  have IX := Lib.hid hX
  have IY := Lib.hid hY
  clear hb hX hY
  clear HM
  go_upto_region 2 with fail
  refine at_worldQ (fun v => Below w2.heap.size w2 v ∧ BK v (w2.heap.size) [.slice X 2 c, .slice Y 2 d, .int .i64 2]) ⟨below_al (Below.refl _ _) _, BK.new w2 [.slice X 2 c, .slice Y 2 d, .int .i64 2] 27⟩ (fun U2 hS => ?_)
  obtain ⟨hb, hB1⟩ := hS
  replace IX := Lib.hid (IX.out.keep hb)
  replace IY := Lib.hid (IY.out.keep hb)
  replace HB := Lib.hid (keepB HB.out hb)
  have B1 := Lib.hid hB1
  clear hb hB1
  have hv := Below.refl U2.heap.size U2
  have HK := Lib.hid (fun v (hv : Below U2.heap.size U2 v) => (show v.cell? ⟨w2.heap.size, 0, none⟩ = some (.slice X 2 c) ∧ v.cell? ⟨w2.heap.size, 1, none⟩ = some (.slice Y 2 d) ∧ v.cell? ⟨w2.heap.size, 2, none⟩ = some (.int .i64 2) from ⟨keepC hv (B1.out.c 0 rfl), keepC hv (B1.out.c 1 rfl), keepC hv (B1.out.c 2 rfl)⟩))
  go_cut [3, 4] (fun x y v => ∃ Z cz, x = .slice Z 2 cz ∧ y = .int .i64 0 ∧ IsI v Z [3, 1] ∧ Below U2.heap.size U2 v)
  case first =>
    go_region_held3 (fun v => v.cell? ⟨w2.heap.size, 0, none⟩ = some (.slice X 2 c) ∧ v.cell? ⟨w2.heap.size, 1, none⟩ = some (.slice Y 2 d) ∧ v.cell? ⟨w2.heap.size, 2, none⟩ = some (.int .i64 2))
      (first | (exact HK.out _ (by assumption)) | (exact HK.out _ (Below.drew (by assumption))))
      (first
        | (go_at_call 31; refine (HG.out _).mono ?_; rintro e x1 ⟨g2, rfl, hM2, hb1⟩; have hx1 : Below U2.heap.size U2 x1 := (by first | exact keepB hv hb1 | exact keepB hv.drew hb1))
        | (go_at_call 22; refine (xGains14 _ _ _ _ _ _ _ hM2 (IX.out.keep hx1) (IY.out.keep hx1)).mono ?_; rintro e x2 ⟨Z, cz, rfl, hZ, hb2⟩; have hx2 := keepB hx1 hb2))
    all_goals
      go_wp2_with fail
      go_meet
      exact ⟨Z, cz, rfl, rfl, hZ, hx2⟩
  case rest =>
    clear hv HK
    obtain ⟨Z, cz, rfl, rfl, hZ, hb⟩ := hcut
    replace IX := Lib.hid (IX.out.keep hb)
    replace IY := Lib.hid (IY.out.keep hb)
    replace B1 := Lib.hid (B1.out.keep hb)
    replace HB := Lib.hid (keepB HB.out hb)
    have IZ := Lib.hid hZ
    clear hZ hb
    go_wp2_with fail
    refine (HG.out _).mono ?_
    rintro e w3 ⟨g3, rfl, hM, hb⟩
    replace IX := Lib.hid (IX.out.keep hb)
    replace IY := Lib.hid (IY.out.keep hb)
    replace B1 := Lib.hid (B1.out.keep hb)
    replace IZ := Lib.hid (IZ.out.keep hb)
    replace HB := Lib.hid (keepB HB.out hb)
    have HM := Lib.hid hM
    clear hb hM
    go_wp2_with fail
    refine (xStake15 _ _ _ HM.out).mono ?_
    rintro e w4 ⟨rfl, hb⟩
    replace IX := Lib.hid (IX.out.keep hb)
    replace IY := Lib.hid (IY.out.keep hb)
    replace B1 := Lib.hid (B1.out.keep hb)
    replace IZ := Lib.hid (IZ.out.keep hb)
    replace HM := Lib.hid (HM.out.keep hb)
    replace HB := Lib.hid (keepB HB.out hb)
    clear hb
    clear HM
    go_upto_region 4 with fail
    refine at_worldQ (fun v => Below w4.heap.size w4 v ∧ BK v (w4.heap.size) [.int .i64 3, .int .i64 2] ∧ BK v (w4.heap.size + 1) [.int .i64 2, .int .i64 1]) ⟨below_al (below_al (Below.refl _ _) _) _, ((BK.new w4 [.int .i64 3, .int .i64 2] 31).al _), (bkAtL (BK.new (w4.alloc (.cells #[.int .i64 3, .int .i64 2] 31)) [.int .i64 2, .int .i64 1] 31) (by simp only [World.size_alloc]))⟩ (fun U4 hS => ?_)
    obtain ⟨hb, hB5, hB6⟩ := hS
    replace IX := Lib.hid (IX.out.keep hb)
    replace IY := Lib.hid (IY.out.keep hb)
    replace B1 := Lib.hid (B1.out.keep hb)
    replace IZ := Lib.hid (IZ.out.keep hb)
    replace HB := Lib.hid (keepB HB.out hb)
    have B5 := Lib.hid hB5
    have B6 := Lib.hid hB6
    clear hb hB5 hB6
    go_wp2_with fail
    refine (HL.out _).mono ?_
    rintro e w5 ⟨g5, rfl, hM, hb⟩
    replace IX := Lib.hid (IX.out.keep hb)
    replace IY := Lib.hid (IY.out.keep hb)
    replace B1 := Lib.hid (B1.out.keep hb)
    replace IZ := Lib.hid (IZ.out.keep hb)
    replace B5 := Lib.hid (B5.out.keep hb)
    replace B6 := Lib.hid (B6.out.keep hb)
    replace HB := Lib.hid (keepB HB.out hb)
    have HM := Lib.hid hM
    clear hb hM
    go_wp2_with fail
    refine (xFair15b _ _ _ HM.out).mono ?_
    rintro e w6 ⟨X6, c6, Y6, d6, rfl, hX, hY, hb⟩
    replace IX := Lib.hid (IX.out.keep hb)
    replace IY := Lib.hid (IY.out.keep hb)
    replace B1 := Lib.hid (B1.out.keep hb)
    replace IZ := Lib.hid (IZ.out.keep hb)
    replace B5 := Lib.hid (B5.out.keep hb)
    replace B6 := Lib.hid (B6.out.keep hb)
    replace HM := Lib.hid (HM.out.keep hb)
    replace HB := Lib.hid (keepB HB.out hb)
    have JX := Lib.hid hX
    have JY := Lib.hid hY
    clear hb hX hY
    clear HM
    go_upto_region 5 with fail
    refine at_worldQ (fun v => Below w6.heap.size w6 v ∧ BK v (w6.heap.size) [.slice X6 2 c6, .slice Y6 2 d6, .int .i64 2]) ⟨below_al (Below.refl _ _) _, BK.new w6 [.slice X6 2 c6, .slice Y6 2 d6, .int .i64 2] 27⟩ (fun U5 hS => ?_)
    obtain ⟨hb, hB8⟩ := hS
    replace IX := Lib.hid (IX.out.keep hb)
    replace IY := Lib.hid (IY.out.keep hb)
    replace B1 := Lib.hid (B1.out.keep hb)
    replace IZ := Lib.hid (IZ.out.keep hb)
    replace B5 := Lib.hid (B5.out.keep hb)
    replace B6 := Lib.hid (B6.out.keep hb)
    replace JX := Lib.hid (JX.out.keep hb)
    replace JY := Lib.hid (JY.out.keep hb)
    replace HB := Lib.hid (keepB HB.out hb)
    have B8 := Lib.hid hB8
    clear hb hB8
    go_wp2_with fail
    refine (HL.out _).mono ?_
    rintro e w7 ⟨g7, rfl, hM, hb⟩
    replace IX := Lib.hid (IX.out.keep hb)
    replace IY := Lib.hid (IY.out.keep hb)
    replace B1 := Lib.hid (B1.out.keep hb)
    replace IZ := Lib.hid (IZ.out.keep hb)
    replace B5 := Lib.hid (B5.out.keep hb)
    replace B6 := Lib.hid (B6.out.keep hb)
    replace JX := Lib.hid (JX.out.keep hb)
    replace JY := Lib.hid (JY.out.keep hb)
    replace B8 := Lib.hid (B8.out.keep hb)
    replace HB := Lib.hid (keepB HB.out hb)
    have HM := Lib.hid hM
    clear hb hM
    go_wp2_with fail
    refine (xCalm15 _ _ _ HM.out).mono ?_
    rintro e w8 ⟨X8, c8, Y8, d8, rfl, hX, hY, hb⟩
    replace IX := Lib.hid (IX.out.keep hb)
    replace IY := Lib.hid (IY.out.keep hb)
    replace B1 := Lib.hid (B1.out.keep hb)
    replace IZ := Lib.hid (IZ.out.keep hb)
    replace B5 := Lib.hid (B5.out.keep hb)
    replace B6 := Lib.hid (B6.out.keep hb)
    replace JX := Lib.hid (JX.out.keep hb)
    replace JY := Lib.hid (JY.out.keep hb)
    replace B8 := Lib.hid (B8.out.keep hb)
    replace HM := Lib.hid (HM.out.keep hb)
    replace HB := Lib.hid (keepB HB.out hb)
    have CX := Lib.hid hX
    have CY := Lib.hid hY
    clear hb hX hY
    clear HM
    go_upto_region 6 with fail
    refine at_worldQ (fun v => Below w8.heap.size w8 v ∧ BK v (w8.heap.size) [.slice X8 2 c8, .slice Y8 2 d8, .int .i64 2]) ⟨below_al (Below.refl _ _) _, BK.new w8 [.slice X8 2 c8, .slice Y8 2 d8, .int .i64 2] 27⟩ (fun V6 hS => ?_)
    obtain ⟨hb, hBC⟩ := hS
    replace IX := Lib.hid (IX.out.keep hb)
    replace IY := Lib.hid (IY.out.keep hb)
    replace B1 := Lib.hid (B1.out.keep hb)
    replace IZ := Lib.hid (IZ.out.keep hb)
    replace B5 := Lib.hid (B5.out.keep hb)
    replace B6 := Lib.hid (B6.out.keep hb)
    replace JX := Lib.hid (JX.out.keep hb)
    replace JY := Lib.hid (JY.out.keep hb)
    replace B8 := Lib.hid (B8.out.keep hb)
    replace CX := Lib.hid (CX.out.keep hb)
    replace CY := Lib.hid (CY.out.keep hb)
    replace HB := Lib.hid (keepB HB.out hb)
    have BC := Lib.hid hBC
    clear hb hBC
    generalize w6.heap.size = p6 at *
    have l0 := B8.out.c 0 rfl
    have l1 := B8.out.c 1 rfl
    have l2 := B8.out.c 2 rfl
    refine wp_region_noPanic ?_
    refine wp_region_held_drew (S := (Below V6.heap.size V6)) (by kernel_rfl) ((Below.refl _ _).drew) (fun hHeld => ?_)
    refine at_anyH (Below V6.heap.size V6) hHeld (fun wd0 hNew => ?_)
    clear hHeld
    have hHeld := hNew
    clear hNew
    refine tkm 1 rfl hHeld (fun w hSw => by have kl0 := keepC hSw l0; have kl1 := keepC hSw l1; have kl2 := keepC hSw l2; go_simp <;> with_reducible rfl) ?_
    try simp only [PPz]
    refine dag (fun G a => ∀ (P6 : Nat) (pX : Nat) (pY : Nat) (W : World), Below V6.heap.size V6 W → BK W pX [.int .i64 5, .int .i64 2] → V6.heap.size ≤ pX → BK W pY [.int .i64 0, .int .i64 0] → V6.heap.size ≤ pY → pX ≠ pY → G 2 #[true, true, true, true, true, true, true, true, true, true, false, false] ((((((((a.put (some 45) (.agg #[.slice (some ⟨P6, 0, none⟩) 2 2, .int .i64 9])).put (some 47) (.tuple #[.agg #[.int .i64 5, .int .i64 2], .agg #[.int .i64 5, .int .i64 2], .int .i64 0])).put (some 44) (.tuple #[.agg #[.int .i64 5, .int .i64 2], .agg #[.int .i64 5, .int .i64 2], .int .i64 0])).put (some 48) (.agg #[.int .i64 5, .int .i64 2])).put (some 49) (.agg #[.int .i64 5, .int .i64 2])).put (some 50) (.int .i64 0)).put (some 12) (.pointer (some ⟨pX, 0, none⟩))).put (some 13) (.pointer (some ⟨pY, 0, none⟩))) W) ?_ (fun Nd0 => ?_)
    ·
     intro P6 pX pY wds0 hHeld BX hX BY hY dXY
     try simp only [PPz]
     refine rdy1 10 rfl (fun K hK => ?_)
     have n0 := BY.c 0 rfl
     have f0 := BY.f 0 rfl
     have n1 := BY.c 1 rfl
     have f1 := BY.f 1 rfl
     go_simp
     clear n0 f0 n1 f1
     refine hK.out _ _ (below_set (below_set hHeld (by omega) _) (by omega) _) (fun hNew => ?_)
     clear hHeld hK K
     have hHeld := hNew
     clear hNew
     try simp only [PPz]
     refine at_anyH (fun v => Below V6.heap.size V6 v ∧ BK v pX [.int .i64 5, .int .i64 2] ∧ BK v pY [.int .i64 5, .int .i64 2]) ⟨hHeld, ((BX.far (by omega) _ _).far (by omega) _ _), ((BY.set 0 _).set 1 _)⟩ (fun wd2 hS => ?_)
     clear hHeld BX BY
     obtain ⟨hHeld, BX, BY⟩ := hS
     refine tkd 11 ?_
     try simp only [PPz]
     refine wpAnyH_done (by kernel_rfl) ?_ _
     refine NoPanic.normal ?_
     have hb := hHeld
     replace IX := Lib.hid (IX.out.keep hb)
     replace IY := Lib.hid (IY.out.keep hb)
     replace B1 := Lib.hid (B1.out.keep hb)
     replace IZ := Lib.hid (IZ.out.keep hb)
     replace B5 := Lib.hid (B5.out.keep hb)
     replace B6 := Lib.hid (B6.out.keep hb)
     replace JX := Lib.hid (JX.out.keep hb)
     replace JY := Lib.hid (JY.out.keep hb)
     replace B8 := Lib.hid (B8.out.keep hb)
     replace CX := Lib.hid (CX.out.keep hb)
     replace CY := Lib.hid (CY.out.keep hb)
     replace BC := Lib.hid (BC.out.keep hb)
     replace HB := Lib.hid (keepB HB.out hb)
     have BW := Lib.hid BX
     have BV := Lib.hid BY
     clear hb hHeld BX BY l0 l1 l2
     go_upto_region 9 with fail
     refine at_worldQ (fun v => Below wd2.heap.size wd2 v ∧ BK v wd2.heap.size [.int .i64 5, .int .i64 2]) ⟨below_al (Below.refl _ _) _, BK.new _ _ _⟩ (fun U8 hS => ?_)
     obtain ⟨hb, hBH⟩ := hS
     replace IX := Lib.hid (IX.out.keep hb)
     replace IY := Lib.hid (IY.out.keep hb)
     replace B1 := Lib.hid (B1.out.keep hb)
     replace IZ := Lib.hid (IZ.out.keep hb)
     replace B5 := Lib.hid (B5.out.keep hb)
     replace B6 := Lib.hid (B6.out.keep hb)
     replace JX := Lib.hid (JX.out.keep hb)
     replace JY := Lib.hid (JY.out.keep hb)
     replace B8 := Lib.hid (B8.out.keep hb)
     replace CX := Lib.hid (CX.out.keep hb)
     replace CY := Lib.hid (CY.out.keep hb)
     replace BC := Lib.hid (BC.out.keep hb)
     replace BW := Lib.hid (BW.out.keep hb)
     replace BV := Lib.hid (BV.out.keep hb)
     replace HB := Lib.hid (keepB HB.out hb)
     have BH := Lib.hid hBH
     clear hb hBH
     have cB10 := B1.out.c 0 rfl
     have cB11 := B1.out.c 1 rfl
     have cB12 := B1.out.c 2 rfl
     go_wp2_with fail
     refine at_worldR (fun v => Below U8.heap.size U8 v ∧ BK v (U8.heap.size) [.int .i64 1, .int .i64 0] ∧ BK v (U8.heap.size + 1) [.int .i64 7, .int .i64 3]) ⟨below_al (below_al (Below.refl _ _) _) _, ((BK.new U8 [.int .i64 1, .int .i64 0] 3).al _), (bkAtL (BK.new (U8.alloc (.cells #[.int .i64 1, .int .i64 0] 3)) [.int .i64 7, .int .i64 3] 3) (by simp only [World.size_alloc]))⟩ (fun U12 hS => ?_)
     obtain ⟨hb, hD1, hD2⟩ := hS
     replace IX := Lib.hid (IX.out.keep hb)
     replace IY := Lib.hid (IY.out.keep hb)
     replace B1 := Lib.hid (B1.out.keep hb)
     replace IZ := Lib.hid (IZ.out.keep hb)
     replace B5 := Lib.hid (B5.out.keep hb)
     replace B6 := Lib.hid (B6.out.keep hb)
     replace JX := Lib.hid (JX.out.keep hb)
     replace JY := Lib.hid (JY.out.keep hb)
     replace B8 := Lib.hid (B8.out.keep hb)
     replace CX := Lib.hid (CX.out.keep hb)
     replace CY := Lib.hid (CY.out.keep hb)
     replace BC := Lib.hid (BC.out.keep hb)
     replace BW := Lib.hid (BW.out.keep hb)
     replace BV := Lib.hid (BV.out.keep hb)
     replace HB := Lib.hid (keepB HB.out hb)
     replace BH := Lib.hid (BH.out.keep hb)
     have D1 := Lib.hid hD1
     have D2 := Lib.hid hD2
     clear cB10 cB11 cB12 hb hD1 hD2
     refine (lsame_eq X c _ _ Y d _ _ [1, 0] [7, 3] 2 2 2 _ two_leL two_leL rfl rfl IX.out (isI_bkL (l := [1, 0]) D1.out (i64bL (by decide))) IY.out (isI_bkL (l := [7, 3]) D2.out (i64bL (by decide)))).mono ?_
     rintro e w13 ⟨rfl, hb⟩
     replace IX := Lib.hid (IX.out.keep hb)
     replace IY := Lib.hid (IY.out.keep hb)
     replace B1 := Lib.hid (B1.out.keep hb)
     replace IZ := Lib.hid (IZ.out.keep hb)
     replace B5 := Lib.hid (B5.out.keep hb)
     replace B6 := Lib.hid (B6.out.keep hb)
     replace JX := Lib.hid (JX.out.keep hb)
     replace JY := Lib.hid (JY.out.keep hb)
     replace B8 := Lib.hid (B8.out.keep hb)
     replace CX := Lib.hid (CX.out.keep hb)
     replace CY := Lib.hid (CY.out.keep hb)
     replace BC := Lib.hid (BC.out.keep hb)
     replace BW := Lib.hid (BW.out.keep hb)
     replace BV := Lib.hid (BV.out.keep hb)
     replace D1 := Lib.hid (D1.out.keep hb)
     replace D2 := Lib.hid (D2.out.keep hb)
     replace HB := Lib.hid (keepB HB.out hb)
     replace BH := Lib.hid (BH.out.keep hb)
     clear hb
     clear D1 D2 IX IY B1
     go_wp2_with fail
     refine at_worldR (fun v => Below w13.heap.size w13 v ∧ BK v (w13.heap.size) [.int .i64 3, .int .i64 1]) ⟨below_al (Below.refl _ _) _, BK.new w13 [.int .i64 3, .int .i64 1] 3⟩ (fun U13 hS => ?_)
     obtain ⟨hb, hD1⟩ := hS
     replace IZ := Lib.hid (IZ.out.keep hb)
     replace B5 := Lib.hid (B5.out.keep hb)
     replace B6 := Lib.hid (B6.out.keep hb)
     replace JX := Lib.hid (JX.out.keep hb)
     replace JY := Lib.hid (JY.out.keep hb)
     replace B8 := Lib.hid (B8.out.keep hb)
     replace CX := Lib.hid (CX.out.keep hb)
     replace CY := Lib.hid (CY.out.keep hb)
     replace BC := Lib.hid (BC.out.keep hb)
     replace BW := Lib.hid (BW.out.keep hb)
     replace BV := Lib.hid (BV.out.keep hb)
     replace HB := Lib.hid (keepB HB.out hb)
     replace BH := Lib.hid (BH.out.keep hb)
     have D1 := Lib.hid hD1
     clear hb hD1
     refine (same_eq Z cz _ _ [3, 1] _ two_leL IZ.out (isI_bkL (l := [3, 1]) D1.out (i64bL (by decide)))).mono ?_
     rintro e w14 ⟨rfl, hb⟩
     replace IZ := Lib.hid (IZ.out.keep hb)
     replace B5 := Lib.hid (B5.out.keep hb)
     replace B6 := Lib.hid (B6.out.keep hb)
     replace JX := Lib.hid (JX.out.keep hb)
     replace JY := Lib.hid (JY.out.keep hb)
     replace B8 := Lib.hid (B8.out.keep hb)
     replace CX := Lib.hid (CX.out.keep hb)
     replace CY := Lib.hid (CY.out.keep hb)
     replace BC := Lib.hid (BC.out.keep hb)
     replace BW := Lib.hid (BW.out.keep hb)
     replace BV := Lib.hid (BV.out.keep hb)
     replace D1 := Lib.hid (D1.out.keep hb)
     replace HB := Lib.hid (keepB HB.out hb)
     replace BH := Lib.hid (BH.out.keep hb)
     clear hb
     clear D1 IZ
     have cB50 := B5.out.c 0 rfl
     have cB51 := B5.out.c 1 rfl
     have cB60 := B6.out.c 0 rfl
     have cB61 := B6.out.c 1 rfl
     have cB80 := B8.out.c 0 rfl
     have cB81 := B8.out.c 1 rfl
     have cB82 := B8.out.c 2 rfl
     go_wp2_with fail
     refine at_worldR (fun v => Below w14.heap.size w14 v ∧ BK v (w14.heap.size) [.int .i64 0, .int .i64 1] ∧ BK v (w14.heap.size + 1) [.int .i64 11, .int .i64 7]) ⟨below_al (below_al (Below.refl _ _) _) _, ((BK.new w14 [.int .i64 0, .int .i64 1] 3).al _), (bkAtL (BK.new (w14.alloc (.cells #[.int .i64 0, .int .i64 1] 3)) [.int .i64 11, .int .i64 7] 3) (by simp only [World.size_alloc]))⟩ (fun U14 hS => ?_)
     obtain ⟨hb, hD1, hD2⟩ := hS
     replace B5 := Lib.hid (B5.out.keep hb)
     replace B6 := Lib.hid (B6.out.keep hb)
     replace JX := Lib.hid (JX.out.keep hb)
     replace JY := Lib.hid (JY.out.keep hb)
     replace B8 := Lib.hid (B8.out.keep hb)
     replace CX := Lib.hid (CX.out.keep hb)
     replace CY := Lib.hid (CY.out.keep hb)
     replace BC := Lib.hid (BC.out.keep hb)
     replace BW := Lib.hid (BW.out.keep hb)
     replace BV := Lib.hid (BV.out.keep hb)
     replace HB := Lib.hid (keepB HB.out hb)
     replace BH := Lib.hid (BH.out.keep hb)
     have D1 := Lib.hid hD1
     have D2 := Lib.hid hD2
     clear cB50 cB51 cB60 cB61 cB80 cB81 cB82 hb hD1 hD2
     refine (lsame_eq X6 c6 _ _ Y6 d6 _ _ [0, 1] [11, 7] 2 2 2 _ two_leL two_leL rfl rfl JX.out (isI_bkL (l := [0, 1]) D1.out (i64bL (by decide))) JY.out (isI_bkL (l := [11, 7]) D2.out (i64bL (by decide)))).mono ?_
     rintro e w15 ⟨rfl, hb⟩
     replace B5 := Lib.hid (B5.out.keep hb)
     replace B6 := Lib.hid (B6.out.keep hb)
     replace JX := Lib.hid (JX.out.keep hb)
     replace JY := Lib.hid (JY.out.keep hb)
     replace B8 := Lib.hid (B8.out.keep hb)
     replace CX := Lib.hid (CX.out.keep hb)
     replace CY := Lib.hid (CY.out.keep hb)
     replace BC := Lib.hid (BC.out.keep hb)
     replace BW := Lib.hid (BW.out.keep hb)
     replace BV := Lib.hid (BV.out.keep hb)
     replace D1 := Lib.hid (D1.out.keep hb)
     replace D2 := Lib.hid (D2.out.keep hb)
     replace HB := Lib.hid (keepB HB.out hb)
     replace BH := Lib.hid (BH.out.keep hb)
     clear hb
     clear D1 D2 B5 B6
     have cB80 := B8.out.c 0 rfl
     have cB81 := B8.out.c 1 rfl
     have cB82 := B8.out.c 2 rfl
     have cBC0 := BC.out.c 0 rfl
     have cBC1 := BC.out.c 1 rfl
     have cBC2 := BC.out.c 2 rfl
     go_wp2_with fail
     refine (lsame_eq X8 c8 _ _ Y8 d8 _ _ [0, 1] [11, 7] 2 2 2 _ two_leL two_leL rfl rfl CX.out JX.out CY.out JY.out).mono ?_
     rintro e w16 ⟨rfl, hb⟩
     replace JX := Lib.hid (JX.out.keep hb)
     replace JY := Lib.hid (JY.out.keep hb)
     replace B8 := Lib.hid (B8.out.keep hb)
     replace CX := Lib.hid (CX.out.keep hb)
     replace CY := Lib.hid (CY.out.keep hb)
     replace BC := Lib.hid (BC.out.keep hb)
     replace BW := Lib.hid (BW.out.keep hb)
     replace BV := Lib.hid (BV.out.keep hb)
     replace HB := Lib.hid (keepB HB.out hb)
     replace BH := Lib.hid (BH.out.keep hb)
     clear cB80 cB81 cB82 cBC0 cBC1 cBC2 hb
     have cBW0 := BW.out.c 0 rfl
     have cBW1 := BW.out.c 1 rfl
     have cBV0 := BV.out.c 0 rfl
     have cBV1 := BV.out.c 1 rfl
     have cBH0 := BH.out.c 0 rfl
     have cBH1 := BH.out.c 1 rfl
     go_wp2_with fail
     go_ret
     exact ⟨rfl, HB.out⟩
    refine dag (fun G a => ∀ (P6 : Nat) (pX : Nat) (pY : Nat) (W : World), Below V6.heap.size V6 W → BK W pX [.int .i64 0, .int .i64 0] → V6.heap.size ≤ pX → BK W pY [.int .i64 0, .int .i64 0] → V6.heap.size ≤ pY → pX ≠ pY → G 3 #[true, true, true, true, true, true, true, true, true, false, false, false] ((((((((a.put (some 45) (.agg #[.slice (some ⟨P6, 0, none⟩) 2 2, .int .i64 9])).put (some 47) (.tuple #[.agg #[.int .i64 5, .int .i64 2], .agg #[.int .i64 5, .int .i64 2], .int .i64 0])).put (some 44) (.tuple #[.agg #[.int .i64 5, .int .i64 2], .agg #[.int .i64 5, .int .i64 2], .int .i64 0])).put (some 48) (.agg #[.int .i64 5, .int .i64 2])).put (some 49) (.agg #[.int .i64 5, .int .i64 2])).put (some 50) (.int .i64 0)).put (some 12) (.pointer (some ⟨pX, 0, none⟩))).put (some 13) (.pointer (some ⟨pY, 0, none⟩))) W) ?_ (fun Nd1 => ?_)
    ·
     intro P6 pX pY wds1 hHeld BX hX BY hY dXY
     try simp only [PPz]
     refine rdy1 9 rfl (fun K hK => ?_)
     have n0 := BX.c 0 rfl
     have f0 := BX.f 0 rfl
     have n1 := BX.c 1 rfl
     have f1 := BX.f 1 rfl
     go_simp
     clear n0 f0 n1 f1
     refine hK.out _ _ (below_set (below_set hHeld (by omega) _) (by omega) _) (fun hNew => ?_)
     clear hHeld hK K
     have hHeld := hNew
     clear hNew
     try simp only [PPz]
     refine at_anyH (fun v => Below V6.heap.size V6 v ∧ BK v pX [.int .i64 5, .int .i64 2] ∧ BK v pY [.int .i64 0, .int .i64 0]) ⟨hHeld, ((BX.set 0 _).set 1 _), ((BY.far (by omega) _ _).far (by omega) _ _)⟩ (fun wd4 hS => ?_)
     clear hHeld BX BY
     obtain ⟨hHeld, BX, BY⟩ := hS
     exact dag_use (Nd0.out P6 _ _ _ hHeld BX hX BY hY (by omega)) (by kernel_rfl) (by kernel_rfl)
    refine dag (fun G a => ∀ (P6 : Nat) (pX : Nat) (pY : Nat) (W : World), Below V6.heap.size V6 W → BK W pX [.int .i64 0, .int .i64 0] → V6.heap.size ≤ pX → BK W pY [.int .i64 0, .int .i64 0] → V6.heap.size ≤ pY → pX ≠ pY → (FlK W P6) → G 8 #[true, true, false, false, false, false, false, true, true, false, false, false] (((a.put (some 45) (.agg #[.slice (some ⟨P6, 0, none⟩) 2 2, .int .i64 9])).put (some 12) (.pointer (some ⟨pX, 0, none⟩))).put (some 13) (.pointer (some ⟨pY, 0, none⟩))) W) ?_ (fun Nd2 => ?_)
    ·
     intro P6 pX pY wds2 hHeld BX hX BY hY dXY hM6
     try simp only [PPz]
     refine rdy1 2 rfl (fun K hK => ?_)
     go_simp
     refine (xWorst15 _ _ _ _ _ _ _ hM6.m (JX.out.keep hHeld) (JY.out.keep hHeld)).mono ?_
     rintro e wd5 ⟨rfl, hb3⟩
     go_wp2_with fail
     refine hK.out _ _ (keepB hHeld hb3) (fun hNew => ?_)
     replace BX := BX.keep hb3
     replace BY := BY.keep hb3
     replace hM6 := hM6.call hb3
     clear hb3
     clear hHeld hK K
     have hHeld := hNew
     clear hNew
     try simp only [PPz]
     clear hM6
     refine tkd 3 ?_
     try simp only [PPz]
     refine tkd 4 ?_
     try simp only [PPz]
     refine tkd 5 ?_
     try simp only [PPz]
     refine tkd 6 ?_
     try simp only [PPz]
     refine rdy1 9 rfl (fun K hK => ?_)
     have n0 := BX.c 0 rfl
     have f0 := BX.f 0 rfl
     have n1 := BX.c 1 rfl
     have f1 := BX.f 1 rfl
     go_simp
     clear n0 f0 n1 f1
     refine hK.out _ _ (below_set (below_set hHeld (by omega) _) (by omega) _) (fun hNew => ?_)
     clear hHeld hK K
     have hHeld := hNew
     clear hNew
     try simp only [PPz]
     refine at_anyH (fun v => Below V6.heap.size V6 v ∧ BK v pX [.int .i64 5, .int .i64 2] ∧ BK v pY [.int .i64 0, .int .i64 0]) ⟨hHeld, ((BX.set 0 _).set 1 _), ((BY.far (by omega) _ _).far (by omega) _ _)⟩ (fun wd10 hS => ?_)
     clear hHeld BX BY
     obtain ⟨hHeld, BX, BY⟩ := hS
     exact dag_use (Nd0.out P6 _ _ _ hHeld BX hX BY hY (by omega)) (by kernel_rfl) (by kernel_rfl)
    refine dag (fun G a => ∀ (P6 : Nat) (pX : Nat) (W : World), Below V6.heap.size V6 W → BK W pX [.int .i64 0, .int .i64 0] → V6.heap.size ≤ pX → (FlK W P6) → G 9 #[true, true, false, false, false, false, false, true, false, false, false, false] ((a.put (some 45) (.agg #[.slice (some ⟨P6, 0, none⟩) 2 2, .int .i64 9])).put (some 12) (.pointer (some ⟨pX, 0, none⟩))) W) ?_ (fun Nd3 => ?_)
    ·
     intro P6 pX wds3 hHeld BX hX hM6
     try simp only [PPz]
     refine rdy2 2 8 rfl rfl (fun K hK => ?_) (fun K hK => ?_)
     ·
      go_simp
      refine (xWorst15 _ _ _ _ _ _ _ hM6.m (JX.out.keep hHeld) (JY.out.keep hHeld)).mono ?_
      rintro e wd11 ⟨rfl, hb3⟩
      go_wp2_with fail
      refine hK.out _ _ (keepB hHeld hb3) (fun hNew => ?_)
      replace BX := BX.keep hb3
      replace hM6 := hM6.call hb3
      clear hb3
      clear hHeld hK K
      have hHeld := hNew
      clear hNew
      try simp only [PPz]
      clear hM6
      refine tkd 3 ?_
      try simp only [PPz]
      refine tkd 4 ?_
      try simp only [PPz]
      refine tkd 5 ?_
      try simp only [PPz]
      refine tkd 6 ?_
      try simp only [PPz]
      refine rdy1 8 rfl (fun K hK => ?_)
      go_simp
      refine hK.out _ _ (below_al hHeld _) (fun hNew => ?_)
      have hY : V6.heap.size ≤ wd11.heap.size := hHeld.size
      have dXY := BX.lt
      clear hHeld hK K
      have hHeld := hNew
      clear hNew
      try simp only [PPz]
      refine at_anyH (fun v => Below V6.heap.size V6 v ∧ BK v pX [.int .i64 0, .int .i64 0] ∧ BK v wd11.heap.size [.int .i64 0, .int .i64 0]) ⟨hHeld, BX.al _, BK.new _ _ _⟩ (fun wd16 hS => ?_)
      clear hHeld BX
      obtain ⟨hHeld, BX, BY⟩ := hS
      exact dag_use (Nd1.out P6 _ _ _ hHeld BX hX BY hY (by omega)) (by kernel_rfl) (by kernel_rfl)
     ·
      go_simp
      refine hK.out _ _ (below_al hHeld _) (fun hNew => ?_)
      have hY : V6.heap.size ≤ wds3.heap.size := hHeld.size
      have dXY := BX.lt
      clear hHeld hK K
      have hHeld := hNew
      clear hNew
      try simp only [PPz]
      refine at_anyH (fun v => Below V6.heap.size V6 v ∧ BK v pX [.int .i64 0, .int .i64 0] ∧ BK v wds3.heap.size [.int .i64 0, .int .i64 0] ∧ (FlK v P6)) ⟨hHeld, BX.al _, BK.new _ _ _, hM6.al _⟩ (fun wd17 hS => ?_)
      clear hHeld BX hM6
      obtain ⟨hHeld, BX, BY, hM6⟩ := hS
      exact dag_use (Nd2.out P6 _ _ _ hHeld BX hX BY hY (by omega) hM6) (by kernel_rfl) (by kernel_rfl)
    refine dag (fun G a => ∀ (P6 : Nat) (pY : Nat) (W : World), Below V6.heap.size V6 W → BK W pY [.int .i64 0, .int .i64 0] → V6.heap.size ≤ pY → (FlK W P6) → G 9 #[true, true, false, false, false, false, false, false, true, false, false, false] ((a.put (some 45) (.agg #[.slice (some ⟨P6, 0, none⟩) 2 2, .int .i64 9])).put (some 13) (.pointer (some ⟨pY, 0, none⟩))) W) ?_ (fun Nd4 => ?_)
    ·
     intro P6 pY wds4 hHeld BY hY hM6
     try simp only [PPz]
     refine rdy2 2 7 rfl rfl (fun K hK => ?_) (fun K hK => ?_)
     ·
      go_simp
      refine (xWorst15 _ _ _ _ _ _ _ hM6.m (JX.out.keep hHeld) (JY.out.keep hHeld)).mono ?_
      rintro e wd18 ⟨rfl, hb3⟩
      go_wp2_with fail
      refine hK.out _ _ (keepB hHeld hb3) (fun hNew => ?_)
      replace BY := BY.keep hb3
      replace hM6 := hM6.call hb3
      clear hb3
      clear hHeld hK K
      have hHeld := hNew
      clear hNew
      try simp only [PPz]
      clear hM6
      refine tkd 3 ?_
      try simp only [PPz]
      refine tkd 4 ?_
      try simp only [PPz]
      refine tkd 5 ?_
      try simp only [PPz]
      refine tkd 6 ?_
      try simp only [PPz]
      refine rdy1 7 rfl (fun K hK => ?_)
      go_simp
      refine hK.out _ _ (below_al hHeld _) (fun hNew => ?_)
      have hX : V6.heap.size ≤ wd18.heap.size := hHeld.size
      have dYX := BY.lt
      clear hHeld hK K
      have hHeld := hNew
      clear hNew
      try simp only [PPz]
      refine at_anyH (fun v => Below V6.heap.size V6 v ∧ BK v pY [.int .i64 0, .int .i64 0] ∧ BK v wd18.heap.size [.int .i64 0, .int .i64 0]) ⟨hHeld, BY.al _, BK.new _ _ _⟩ (fun wd23 hS => ?_)
      clear hHeld BY
      obtain ⟨hHeld, BY, BX⟩ := hS
      exact dag_use (Nd1.out P6 _ _ _ hHeld BX hX BY hY (by omega)) (by kernel_rfl) (by kernel_rfl)
     ·
      go_simp
      refine hK.out _ _ (below_al hHeld _) (fun hNew => ?_)
      have hX : V6.heap.size ≤ wds4.heap.size := hHeld.size
      have dYX := BY.lt
      clear hHeld hK K
      have hHeld := hNew
      clear hNew
      try simp only [PPz]
      refine at_anyH (fun v => Below V6.heap.size V6 v ∧ BK v pY [.int .i64 0, .int .i64 0] ∧ BK v wds4.heap.size [.int .i64 0, .int .i64 0] ∧ (FlK v P6)) ⟨hHeld, BY.al _, BK.new _ _ _, hM6.al _⟩ (fun wd24 hS => ?_)
      clear hHeld BY hM6
      obtain ⟨hHeld, BY, BX, hM6⟩ := hS
      exact dag_use (Nd2.out P6 _ _ _ hHeld BX hX BY hY (by omega) hM6) (by kernel_rfl) (by kernel_rfl)
    refine dag (fun G a => ∀  (pX : Nat) (pY : Nat) (W : World), Below V6.heap.size V6 W → BK W pX [.int .i64 0, .int .i64 0] → V6.heap.size ≤ pX → BK W pY [.int .i64 0, .int .i64 0] → V6.heap.size ≤ pY → pX ≠ pY → G 9 #[false, true, false, false, false, false, false, true, true, false, false, false] ((a.put (some 12) (.pointer (some ⟨pX, 0, none⟩))).put (some 13) (.pointer (some ⟨pY, 0, none⟩))) W) ?_ (fun Nd5 => ?_)
    ·
     intro pX pY wds5 hHeld BX hX BY hY dXY
     try simp only [PPz]
     refine rdy1 0 rfl (fun K hK => ?_)
     go_simp
     refine (HL.out _).mono ?_
     rintro e wd25 ⟨P6, rfl, hMx, hb3⟩
     have hM6 := FlK.mk hMx
     clear hMx
     go_wp2_with fail
     refine hK.out _ _ (keepB hHeld hb3) (fun hNew => ?_)
     replace BX := BX.keep hb3
     replace BY := BY.keep hb3
     clear hb3
     clear hHeld hK K
     have hHeld := hNew
     clear hNew
     try simp only [PPz]
     exact dag_use (Nd2.out P6 _ _ _ hHeld BX hX BY hY (by omega) hM6) (by kernel_rfl) (by kernel_rfl)
    refine rdy3 0 7 8 rfl rfl rfl (fun K hK => ?_) (fun K hK => ?_) (fun K hK => ?_)
    ·
     go_simp
     refine (HL.out _).mono ?_
     rintro e wd26 ⟨P6, rfl, hMx, hb3⟩
     have hM6 := FlK.mk hMx
     clear hMx
     go_wp2_with fail
     refine hK.out _ _ (keepB hHeld hb3) (fun hNew => ?_)
     clear hb3
     clear hHeld hK K
     have hHeld := hNew
     clear hNew
     try simp only [PPz]
     refine rdy3 2 7 8 rfl rfl rfl (fun K hK => ?_) (fun K hK => ?_) (fun K hK => ?_)
     ·
      go_simp
      refine (xWorst15 _ _ _ _ _ _ _ hM6.m (JX.out.keep hHeld) (JY.out.keep hHeld)).mono ?_
      rintro e wd27 ⟨rfl, hb3⟩
      go_wp2_with fail
      refine hK.out _ _ (keepB hHeld hb3) (fun hNew => ?_)
      replace hM6 := hM6.call hb3
      clear hb3
      clear hHeld hK K
      have hHeld := hNew
      clear hNew
      try simp only [PPz]
      clear hM6
      refine tkd 3 ?_
      try simp only [PPz]
      refine tkd 4 ?_
      try simp only [PPz]
      refine tkd 5 ?_
      try simp only [PPz]
      refine tkd 6 ?_
      try simp only [PPz]
      refine rdy2 7 8 rfl rfl (fun K hK => ?_) (fun K hK => ?_)
      ·
       go_simp
       refine hK.out _ _ (below_al hHeld _) (fun hNew => ?_)
       have hX : V6.heap.size ≤ wd27.heap.size := hHeld.size
       clear hHeld hK K
       have hHeld := hNew
       clear hNew
       try simp only [PPz]
       refine at_anyH (fun v => Below V6.heap.size V6 v ∧ BK v wd27.heap.size [.int .i64 0, .int .i64 0]) ⟨hHeld, BK.new _ _ _⟩ (fun wd32 hS => ?_)
       clear hHeld
       obtain ⟨hHeld, BX⟩ := hS
       refine rdy1 8 rfl (fun K hK => ?_)
       go_simp
       refine hK.out _ _ (below_al hHeld _) (fun hNew => ?_)
       have hY : V6.heap.size ≤ wd32.heap.size := hHeld.size
       have dXY := BX.lt
       clear hHeld hK K
       have hHeld := hNew
       clear hNew
       try simp only [PPz]
       refine at_anyH (fun v => Below V6.heap.size V6 v ∧ BK v wd27.heap.size [.int .i64 0, .int .i64 0] ∧ BK v wd32.heap.size [.int .i64 0, .int .i64 0]) ⟨hHeld, BX.al _, BK.new _ _ _⟩ (fun wd33 hS => ?_)
       clear hHeld BX
       obtain ⟨hHeld, BX, BY⟩ := hS
       exact dag_use (Nd1.out P6 _ _ _ hHeld BX hX BY hY (by omega)) (by kernel_rfl) (by kernel_rfl)
      ·
       go_simp
       refine hK.out _ _ (below_al hHeld _) (fun hNew => ?_)
       have hY : V6.heap.size ≤ wd27.heap.size := hHeld.size
       clear hHeld hK K
       have hHeld := hNew
       clear hNew
       try simp only [PPz]
       refine at_anyH (fun v => Below V6.heap.size V6 v ∧ BK v wd27.heap.size [.int .i64 0, .int .i64 0]) ⟨hHeld, BK.new _ _ _⟩ (fun wd34 hS => ?_)
       clear hHeld
       obtain ⟨hHeld, BY⟩ := hS
       refine rdy1 7 rfl (fun K hK => ?_)
       go_simp
       refine hK.out _ _ (below_al hHeld _) (fun hNew => ?_)
       have hX : V6.heap.size ≤ wd34.heap.size := hHeld.size
       have dYX := BY.lt
       clear hHeld hK K
       have hHeld := hNew
       clear hNew
       try simp only [PPz]
       refine at_anyH (fun v => Below V6.heap.size V6 v ∧ BK v wd27.heap.size [.int .i64 0, .int .i64 0] ∧ BK v wd34.heap.size [.int .i64 0, .int .i64 0]) ⟨hHeld, BY.al _, BK.new _ _ _⟩ (fun wd35 hS => ?_)
       clear hHeld BY
       obtain ⟨hHeld, BY, BX⟩ := hS
       exact dag_use (Nd1.out P6 _ _ _ hHeld BX hX BY hY (by omega)) (by kernel_rfl) (by kernel_rfl)
     ·
      go_simp
      refine hK.out _ _ (below_al hHeld _) (fun hNew => ?_)
      have hX : V6.heap.size ≤ wd26.heap.size := hHeld.size
      clear hHeld hK K
      have hHeld := hNew
      clear hNew
      try simp only [PPz]
      refine at_anyH (fun v => Below V6.heap.size V6 v ∧ BK v wd26.heap.size [.int .i64 0, .int .i64 0] ∧ (FlK v P6)) ⟨hHeld, BK.new _ _ _, hM6.al _⟩ (fun wd36 hS => ?_)
      clear hHeld hM6
      obtain ⟨hHeld, BX, hM6⟩ := hS
      exact dag_use (Nd3.out P6 _ _ hHeld BX hX hM6) (by kernel_rfl) (by kernel_rfl)
     ·
      go_simp
      refine hK.out _ _ (below_al hHeld _) (fun hNew => ?_)
      have hY : V6.heap.size ≤ wd26.heap.size := hHeld.size
      clear hHeld hK K
      have hHeld := hNew
      clear hNew
      try simp only [PPz]
      refine at_anyH (fun v => Below V6.heap.size V6 v ∧ BK v wd26.heap.size [.int .i64 0, .int .i64 0] ∧ (FlK v P6)) ⟨hHeld, BK.new _ _ _, hM6.al _⟩ (fun wd37 hS => ?_)
      clear hHeld hM6
      obtain ⟨hHeld, BY, hM6⟩ := hS
      exact dag_use (Nd4.out P6 _ _ hHeld BY hY hM6) (by kernel_rfl) (by kernel_rfl)
    ·
     go_simp
     refine hK.out _ _ (below_al hHeld _) (fun hNew => ?_)
     have hX : V6.heap.size ≤ wd0.heap.size := hHeld.size
     clear hHeld hK K
     have hHeld := hNew
     clear hNew
     try simp only [PPz]
     refine at_anyH (fun v => Below V6.heap.size V6 v ∧ BK v wd0.heap.size [.int .i64 0, .int .i64 0]) ⟨hHeld, BK.new _ _ _⟩ (fun wd38 hS => ?_)
     clear hHeld
     obtain ⟨hHeld, BX⟩ := hS
     refine rdy2 0 8 rfl rfl (fun K hK => ?_) (fun K hK => ?_)
     ·
      go_simp
      refine (HL.out _).mono ?_
      rintro e wd39 ⟨P6, rfl, hMx, hb3⟩
      have hM6 := FlK.mk hMx
      clear hMx
      go_wp2_with fail
      refine hK.out _ _ (keepB hHeld hb3) (fun hNew => ?_)
      replace BX := BX.keep hb3
      clear hb3
      clear hHeld hK K
      have hHeld := hNew
      clear hNew
      try simp only [PPz]
      exact dag_use (Nd3.out P6 _ _ hHeld BX hX hM6) (by kernel_rfl) (by kernel_rfl)
     ·
      go_simp
      refine hK.out _ _ (below_al hHeld _) (fun hNew => ?_)
      have hY : V6.heap.size ≤ wd38.heap.size := hHeld.size
      have dXY := BX.lt
      clear hHeld hK K
      have hHeld := hNew
      clear hNew
      try simp only [PPz]
      refine at_anyH (fun v => Below V6.heap.size V6 v ∧ BK v wd0.heap.size [.int .i64 0, .int .i64 0] ∧ BK v wd38.heap.size [.int .i64 0, .int .i64 0]) ⟨hHeld, BX.al _, BK.new _ _ _⟩ (fun wd40 hS => ?_)
      clear hHeld BX
      obtain ⟨hHeld, BX, BY⟩ := hS
      exact dag_use (Nd5.out _ _ _ hHeld BX hX BY hY (by omega)) (by kernel_rfl) (by kernel_rfl)
    ·
     go_simp
     refine hK.out _ _ (below_al hHeld _) (fun hNew => ?_)
     have hY : V6.heap.size ≤ wd0.heap.size := hHeld.size
     clear hHeld hK K
     have hHeld := hNew
     clear hNew
     try simp only [PPz]
     refine at_anyH (fun v => Below V6.heap.size V6 v ∧ BK v wd0.heap.size [.int .i64 0, .int .i64 0]) ⟨hHeld, BK.new _ _ _⟩ (fun wd41 hS => ?_)
     clear hHeld
     obtain ⟨hHeld, BY⟩ := hS
     refine rdy2 0 7 rfl rfl (fun K hK => ?_) (fun K hK => ?_)
     ·
      go_simp
      refine (HL.out _).mono ?_
      rintro e wd42 ⟨P6, rfl, hMx, hb3⟩
      have hM6 := FlK.mk hMx
      clear hMx
      go_wp2_with fail
      refine hK.out _ _ (keepB hHeld hb3) (fun hNew => ?_)
      replace BY := BY.keep hb3
      clear hb3
      clear hHeld hK K
      have hHeld := hNew
      clear hNew
      try simp only [PPz]
      exact dag_use (Nd4.out P6 _ _ hHeld BY hY hM6) (by kernel_rfl) (by kernel_rfl)
     ·
      go_simp
      refine hK.out _ _ (below_al hHeld _) (fun hNew => ?_)
      have hX : V6.heap.size ≤ wd41.heap.size := hHeld.size
      have dYX := BY.lt
      clear hHeld hK K
      have hHeld := hNew
      clear hNew
      try simp only [PPz]
      refine at_anyH (fun v => Below V6.heap.size V6 v ∧ BK v wd0.heap.size [.int .i64 0, .int .i64 0] ∧ BK v wd41.heap.size [.int .i64 0, .int .i64 0]) ⟨hHeld, BY.al _, BK.new _ _ _⟩ (fun wd43 hS => ?_)
      clear hHeld BY
      obtain ⟨hHeld, BY, BX⟩ := hS
      exact dag_use (Nd5.out _ _ _ hHeld BX hX BY hY (by omega)) (by kernel_rfl) (by kernel_rfl)
end Go.Proofs.Ytncmffhoodfhjaa

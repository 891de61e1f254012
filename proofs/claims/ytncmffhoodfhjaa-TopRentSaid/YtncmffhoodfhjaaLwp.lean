/- Layer 14's laws: given, other, fit, the examples. -/
import Derived.Test.YtncmffhoodfhjaaLvj
import Derived.Test.YtncmffhoodfhjaaYn
import Derived.Test.YtncmffhoodfhjaaYp
import Derived.Test.YtncmffhoodfhjaaYi
namespace Go.Proofs.Ytncmffhoodfhjaa
open Go.RowKit
theorem bkAtL {v : World} {p q : Nat} {l : List Value} (h : BK v p l) (e : p = q) : BK v q l := e ▸ h
theorem two_leL : (2 : Nat) ≤ maxLen := by unfold maxLen; simp
theorem isI_bkL {w : World} {p : Nat} {l : List Int} (h : BK w p (l.map (Value.int .i64))) (hb : ∀ z ∈ l, I64 z) : IsI w (some ⟨p, 0, none⟩) l := by
  refine ⟨fun _ => ⟨p, 0, rfl, fun i hi => ?_⟩, hb⟩
  rw [Nat.zero_add]
  exact h.c i (by rw [List.getElem?_map, List.getElem?_eq_getElem hi, el_lt hi]; rfl)
def I64bL (l : List Int) : Bool := l.all (fun z => decide (-9223372036854775808 ≤ z) && decide (z ≤ 9223372036854775807))
theorem i64bL {l : List Int} (h : I64bL l = true) : ∀ z ∈ l, I64 z := fun z hz => by
  have := List.all_eq_true.1 h z hz
  simp only [Bool.and_eq_true, decide_eq_true_eq] at this
  exact this
theorem isP_bkL {w : World} {p : Nat} {l : List (Nat × Nat)} (h : BK w p (pcs l)) : IsP w (some ⟨p, 0, none⟩) l := fun _ => ⟨p, 0, rfl, fun i hi => by
  rw [Nat.zero_add]
  exact ⟨h.c _ (pcs_at hi).1, h.c _ (pcs_at hi).2⟩⟩
/-- The chapter's flat. -/
def GvQ (w : World) (e : Ending) (w' : World) : Prop := ∃ g, e = .returned (.agg #[.slice (some ⟨g, 0, none⟩) 2 2, .int .i64 5]) ∧ IsM w' (some ⟨g, 0, none⟩) [[5, 3], [4, 1]] ∧ Below w.heap.size w w'
set_option maxHeartbeats 2000000 in
theorem given14_any (w : World) : Calls Try.prog 25 #[] w (GvQ w) := by
  go_enter Try.func25, Try.ntmps25
  go_wp2_with fail
  exact bodyPost_ret (v := .agg #[.slice (some ⟨w.heap.size + 1 + 1 + 1, 0, none⟩) 2 2, .int .i64 5]) (by simp [results, Try.results25, go_sem]) rfl ⟨_, rfl, isM_lit2 5 3 4 1 (p := w.heap.size + 1) (q := w.heap.size + 1 + 1) (by unfold I64; decide) (by unfold I64; decide) (by unfold I64; decide) (by unfold I64; decide) (by go_simp) (by go_simp) (by go_simp) (by go_simp) (by go_simp) (by go_simp), below_al (below_al (below_al (below_al (Below.refl _ _) _) _) _) _⟩
/-- The chapter's lease with envy. -/
def OtQ (w : World) (e : Ending) (w' : World) : Prop := ∃ X Y, e = .returned (.agg #[.slice X 2 2, .slice Y 2 2, .int .i64 1]) ∧ IsI w' X [0, 1] ∧ IsI w' Y [3, 2] ∧ Below w.heap.size w w'
set_option maxHeartbeats 2000000 in
theorem other14_any (w : World) : Calls Try.prog 40 #[] w (OtQ w) := by
  go_enter Try.func40, Try.ntmps40
  go_wp2_with fail
  exact bodyPost_ret (v := .agg #[.slice (some ⟨w.heap.size + 1, 0, none⟩) 2 2, .slice (some ⟨w.heap.size + 1 + 1, 0, none⟩) 2 2, .int .i64 1]) (by simp [results, Try.results40, go_sem]) rfl ⟨_, _, rfl, isI_lit2 0 1 (by unfold I64; decide) (by unfold I64; decide) (by go_simp) (by go_simp), isI_lit2 3 2 (by unfold I64; decide) (by unfold I64; decide) (by go_simp) (by go_simp), below_al (below_al (below_al (Below.refl _ _) _) _) _⟩
set_option maxHeartbeats 2000000 in
theorem fit14_any (A : Option Addr) (cv : Nat) (V : List (List Int)) (R : Int) (w : World) (hl : V.length ≤ maxLen) (h : IsM w A V) :
    Calls Try.prog 12 #[.agg #[.slice A V.length cv, .int .i64 R]] w fun e w' => e = .returned (.bool (decide (As.rchk V R = 0))) ∧ Below w.heap.size w w' := by
  have CK := Lib.hid (fun v (hv : Below w.heap.size w v) => r14Check_any A cv V R v hl (h.keep hv))
  have H6 := Lib.hid (show As.rchk V R = 0 → V.length ≤ 6 from fun h0 => by
    rcases As.rchk_two V R with ⟨_, hc, _⟩ | ⟨_, h2⟩
    · exact (As.chk_ok hc).n6
    · exact absurd h0 h2)
  clear h
  unfold maxLen at hl
  generalize As.rchk V R = c at *
  by_cases h6 : V.length ≤ 6
  · have d1 : decide ((V.length : Int) ≤ 6) = true := by rw [decide_eq_true_eq]; omega
    have HZ := Lib.hid (show (c == 0) = decide (c = 0) by rw [Bool.eq_iff_iff, beq_iff_eq, decide_eq_true_eq])
    rw [← HZ.out]
    generalize hz : (c == 0) = z
    clear HZ
    go_enter Try.func12, Try.ntmps12
    go_upto_region 1 with fail
    refine at_box1 (fun V0 hbb b0 hsz => ?_)
    clear hsz
    have c0 := b0.c 0 rfl
    have c1 := b0.c 1 rfl
    go_wp2_with fail
    refine (CK.out _ hbb).mono ?_
    rintro e w1 ⟨rfl, hb1⟩
    replace hbb := keepB hbb hb1
    clear hb1 b0 c0 c1
    go_wp2_with fail
    go_ret
    exact ⟨rfl, hbb⟩
  · have d1 : decide ((V.length : Int) ≤ 6) = false := by rw [decide_eq_false_iff_not]; omega
    rw [decide_eq_false (fun h0 => h6 (H6.out h0))]
    clear H6 h6 CK
    go_enter Try.func12, Try.ntmps12
    go_upto_region 1 with fail
    refine at_box1 (fun V0 hbb b0 hsz => ?_)
    clear hsz
    have c0 := b0.c 0 rfl
    clear b0
    go_wp2_with fail
    go_ret
    exact ⟨rfl, hbb⟩
theorem x14a : As.evA [[5, 3], [4, 1]] 5 = [1, 0] ∧ As.evP [[5, 3], [4, 1]] 5 = [7, 3] ∧ As.evD [[5, 3], [4, 1]] 5 = 2 ∧ As.rchk [[5, 3], [4, 1]] 5 = 0 := by decide +kernel
theorem x14b : As.gnS [[5, 3], [4, 1]] 5 [1, 0] [7, 3] 2 = [3, 1] ∧ As.vld [[5, 3], [4, 1]] 5 [1, 0] [7, 3] 2 = 0 := by decide +kernel
theorem x14c : As.lnS [[5, 3], [4, 1]] 5 = [[0, -3], [2, 0]] := by decide +kernel
theorem x14d : As.rgS [[5, 3], [4, 1]] 5 0 = ((7, 2), (4, 1), 0) := by decide +kernel
theorem x14e : As.gnS [[5, 3], [4, 1]] 5 [0, 1] [3, 2] 1 = [2, -1] ∧ As.vld [[5, 3], [4, 1]] 5 [0, 1] [3, 2] 1 = 0 ∧ As.enS [[5, 3], [4, 1]] 5 [0, 1] [3, 2] 1 = [(1, 0)] := by decide +kernel
theorem xEven14 (A : Option Addr) (cv : Nat) (w : World) (h : IsM w A [[5, 3], [4, 1]]) : Calls Try.prog 26 #[.agg #[.slice A 2 cv, .int .i64 5]] w fun e w' => ∃ X c Y d, e = .returned (.tuple #[.agg #[.slice X 2 c, .slice Y 2 d, .int .i64 2], .int .i64 0]) ∧ IsI w' X [1, 0] ∧ IsI w' Y [7, 3] ∧ Below w.heap.size w w' := by
  refine (rmEven_any A cv [[5, 3], [4, 1]] 5 w two_leL h).mono ?_
  rintro e w' ⟨X, c, Y, d, rfl, hX, hY, hb⟩
  obtain ⟨f1, f2, f3, f4⟩ := x14a
  rw [f1] at hX ⊢
  rw [f2] at hY ⊢
  rw [f3, f4]
  exact ⟨X, c, Y, d, rfl, hX, hY, hb⟩
theorem xGains14 (A : Option Addr) (cv : Nat) (X : Option Addr) (c : Nat) (Y : Option Addr) (d : Nat) (w : World) (h : IsM w A [[5, 3], [4, 1]]) (hX : IsI w X [1, 0]) (hY : IsI w Y [7, 3]) : Calls Try.prog 22 #[.agg #[.slice A 2 cv, .int .i64 5], .agg #[.slice X 2 c, .slice Y 2 d, .int .i64 2]] w fun e w' => ∃ Z c, e = .returned (.tuple #[.slice Z 2 c, .int .i64 0]) ∧ IsI w' Z [3, 1] ∧ Below w.heap.size w w' := by
  refine (rmGains_any A cv [[5, 3], [4, 1]] 5 X c [1, 0] Y d [7, 3] 2 w two_leL h two_leL hX two_leL hY).mono ?_
  rintro e w' ⟨Z, c, rfl, hZ, hb⟩
  obtain ⟨f1, f2⟩ := x14b
  rw [f1] at hZ ⊢
  rw [f2]
  exact ⟨Z, c, rfl, hZ, hb⟩
theorem xLinks14 (A : Option Addr) (cv : Nat) (w : World) (h : IsM w A [[5, 3], [4, 1]]) : Calls Try.prog 14 #[.agg #[.slice A 2 cv, .int .i64 5]] w fun e w' => ∃ Z c, e = .returned (.tuple #[.slice Z 2 c, .int .i64 0]) ∧ IsM w' Z [[0, -3], [2, 0]] ∧ Below w.heap.size w w' := by
  refine (rmLinks_any A cv [[5, 3], [4, 1]] 5 w two_leL h).mono ?_
  rintro e w' ⟨Z, c, rfl, hZ, hb⟩
  obtain ⟨f1, f2, f3, f4⟩ := x14a
  rw [x14c] at hZ ⊢
  rw [f4]
  exact ⟨Z, c, rfl, hZ, hb⟩
theorem xRange14 (A : Option Addr) (cv : Nat) (w : World) (h : IsM w A [[5, 3], [4, 1]]) : Calls Try.prog 13 #[.agg #[.slice A 2 cv, .int .i64 5], .int .i64 0] w fun e w' => e = .returned (.tuple #[.agg #[.int .i64 7, .int .i64 2], .agg #[.int .i64 4, .int .i64 1], .int .i64 0]) ∧ Below w.heap.size w w' := by
  refine (rmRange_any A cv [[5, 3], [4, 1]] 5 0 w two_leL h).mono ?_
  rintro e w' ⟨rfl, hb⟩
  unfold rgV
  rw [x14d]
  exact ⟨rfl, hb⟩
theorem xGains14b (A : Option Addr) (cv : Nat) (X : Option Addr) (c : Nat) (Y : Option Addr) (d : Nat) (w : World) (h : IsM w A [[5, 3], [4, 1]]) (hX : IsI w X [0, 1]) (hY : IsI w Y [3, 2]) : Calls Try.prog 22 #[.agg #[.slice A 2 cv, .int .i64 5], .agg #[.slice X 2 c, .slice Y 2 d, .int .i64 1]] w fun e w' => ∃ Z c, e = .returned (.tuple #[.slice Z 2 c, .int .i64 0]) ∧ IsI w' Z [2, -1] ∧ Below w.heap.size w w' := by
  refine (rmGains_any A cv [[5, 3], [4, 1]] 5 X c [0, 1] Y d [3, 2] 1 w two_leL h two_leL hX two_leL hY).mono ?_
  rintro e w' ⟨Z, c, rfl, hZ, hb⟩
  obtain ⟨f1, f2, -⟩ := x14e
  rw [f1] at hZ ⊢
  rw [f2]
  exact ⟨Z, c, rfl, hZ, hb⟩
theorem xEnvies14 (A : Option Addr) (cv : Nat) (X : Option Addr) (c : Nat) (Y : Option Addr) (d : Nat) (w : World) (h : IsM w A [[5, 3], [4, 1]]) (hX : IsI w X [0, 1]) (hY : IsI w Y [3, 2]) : Calls Try.prog 41 #[.agg #[.slice A 2 cv, .int .i64 5], .agg #[.slice X 2 c, .slice Y 2 d, .int .i64 1]] w fun e w' => ∃ Z c, e = .returned (.tuple #[.slice Z 1 c, .int .i64 0]) ∧ IsP w' Z [(1, 0)] ∧ Below w.heap.size w w' := by
  refine (rmEnvies_any A cv [[5, 3], [4, 1]] 5 X c [0, 1] Y d [3, 2] 1 w two_leL h two_leL hX two_leL hY).mono ?_
  rintro e w' ⟨Z, c, rfl, hZ, hb⟩
  obtain ⟨-, f2, f3⟩ := x14e
  rw [f3] at hZ ⊢
  rw [f2]
  exact ⟨Z, c, rfl, hZ, hb⟩
set_option maxRecDepth 100000 in
set_option maxHeartbeats 8000000 in
theorem alive14_any (w : World) : Calls Try.prog 11 #[] w fun e w' => e = .returned (.bool true) ∧ Below w.heap.size w w' := by
  have HG := Lib.hid given14_any
  have HO := Lib.hid other14_any
  have HB := Lib.hid (Below.refl w.heap.size w)
  go_enter Try.func11, Try.ntmps11
  go_wp2_with fail
  refine (HG.out _).mono ?_
  rintro e w1 ⟨g1, rfl, hM, hb⟩
  replace HB := Lib.hid (keepB HB.out hb)
  have HM := Lib.hid hM
  clear hb hM
  go_wp2_with fail
  refine (xEven14 _ _ _ HM.out).mono ?_
  rintro e w2 ⟨X, c, Y, d, rfl, hX, hY, hb⟩
  replace HM := Lib.hid (HM.out.keep hb)
  replace HB := Lib.hid (keepB HB.out hb)
  have IX := Lib.hid hX
  have IY := Lib.hid hY
  clear hb hX hY
  clear HM
  go_upto_region 2 with fail
  refine at_worldQ (fun v => Below w2.heap.size w2 v ∧ BK v (w2.heap.size) [.slice X 2 c, .slice Y 2 d, .int .i64 2]) ⟨below_al (Below.refl _ _) _, BK.new w2 [.slice X 2 c, .slice Y 2 d, .int .i64 2] 27⟩ (fun U2 hS => ?_)
  obtain ⟨hb, hB1⟩ := hS
  replace IX := Lib.hid (IX.out.keep hb)
  replace IY := Lib.hid (IY.out.keep hb)
  replace HB := Lib.hid (keepB HB.out hb)
  have B1 := Lib.hid hB1
  clear hb hB1
  have hv := Below.refl U2.heap.size U2
  have HK := Lib.hid (fun v (hv : Below U2.heap.size U2 v) => (show v.cell? ⟨w2.heap.size, 0, none⟩ = some (.slice X 2 c) ∧ v.cell? ⟨w2.heap.size, 1, none⟩ = some (.slice Y 2 d) ∧ v.cell? ⟨w2.heap.size, 2, none⟩ = some (.int .i64 2) from ⟨keepC hv (B1.out.c 0 rfl), keepC hv (B1.out.c 1 rfl), keepC hv (B1.out.c 2 rfl)⟩))
  go_cut [3, 4] (fun x y v => ∃ Z cz, x = .slice Z 2 cz ∧ y = .int .i64 0 ∧ IsI v Z [3, 1] ∧ Below U2.heap.size U2 v)
  case first =>
    go_region_held3 (fun v => v.cell? ⟨w2.heap.size, 0, none⟩ = some (.slice X 2 c) ∧ v.cell? ⟨w2.heap.size, 1, none⟩ = some (.slice Y 2 d) ∧ v.cell? ⟨w2.heap.size, 2, none⟩ = some (.int .i64 2))
      (first | (exact HK.out _ (by assumption)) | (exact HK.out _ (Below.drew (by assumption))))
      (first
        | (go_at_call 25; refine (HG.out _).mono ?_; rintro e x1 ⟨g2, rfl, hM2, hb1⟩; have hx1 : Below U2.heap.size U2 x1 := (by first | exact keepB hv hb1 | exact keepB hv.drew hb1))
        | (go_at_call 22; refine (xGains14 _ _ _ _ _ _ _ hM2 (IX.out.keep hx1) (IY.out.keep hx1)).mono ?_; rintro e x2 ⟨Z, cz, rfl, hZ, hb2⟩; have hx2 := keepB hx1 hb2))
    all_goals
      go_wp2_with fail
      go_meet
      exact ⟨Z, cz, rfl, rfl, hZ, hx2⟩
  case rest =>
    clear hv HK
    obtain ⟨Z, cz, rfl, rfl, hZ, hb⟩ := hcut
    replace IX := Lib.hid (IX.out.keep hb)
    replace IY := Lib.hid (IY.out.keep hb)
    replace B1 := Lib.hid (B1.out.keep hb)
    replace HB := Lib.hid (keepB HB.out hb)
    have IZ := Lib.hid hZ
    clear hZ hb
    go_wp2_with fail
    refine (HG.out _).mono ?_
    rintro e w3 ⟨g3, rfl, hM, hb⟩
    replace IX := Lib.hid (IX.out.keep hb)
    replace IY := Lib.hid (IY.out.keep hb)
    replace B1 := Lib.hid (B1.out.keep hb)
    replace IZ := Lib.hid (IZ.out.keep hb)
    replace HB := Lib.hid (keepB HB.out hb)
    have HM := Lib.hid hM
    clear hb hM
    go_wp2_with fail
    refine (xLinks14 _ _ _ HM.out).mono ?_
    rintro e w4 ⟨K, ck, rfl, hK, hb⟩
    replace IX := Lib.hid (IX.out.keep hb)
    replace IY := Lib.hid (IY.out.keep hb)
    replace B1 := Lib.hid (B1.out.keep hb)
    replace IZ := Lib.hid (IZ.out.keep hb)
    replace HM := Lib.hid (HM.out.keep hb)
    replace HB := Lib.hid (keepB HB.out hb)
    have IK := Lib.hid hK
    clear hb hK
    clear HM
    go_wp2_with fail
    refine (HG.out _).mono ?_
    rintro e w5 ⟨g5, rfl, hM, hb⟩
    replace IX := Lib.hid (IX.out.keep hb)
    replace IY := Lib.hid (IY.out.keep hb)
    replace B1 := Lib.hid (B1.out.keep hb)
    replace IZ := Lib.hid (IZ.out.keep hb)
    replace IK := Lib.hid (IK.out.keep hb)
    replace HB := Lib.hid (keepB HB.out hb)
    have HM := Lib.hid hM
    clear hb hM
    go_wp2_with fail
    refine (xRange14 _ _ _ HM.out).mono ?_
    rintro e w6 ⟨rfl, hb⟩
    replace IX := Lib.hid (IX.out.keep hb)
    replace IY := Lib.hid (IY.out.keep hb)
    replace B1 := Lib.hid (B1.out.keep hb)
    replace IZ := Lib.hid (IZ.out.keep hb)
    replace IK := Lib.hid (IK.out.keep hb)
    replace HM := Lib.hid (HM.out.keep hb)
    replace HB := Lib.hid (keepB HB.out hb)
    clear hb
    clear HM
    go_upto_region 5 with fail
    refine at_worldQ (fun v => Below w6.heap.size w6 v ∧ BK v (w6.heap.size) [.int .i64 7, .int .i64 2] ∧ BK v (w6.heap.size + 1) [.int .i64 4, .int .i64 1]) ⟨below_al (below_al (Below.refl _ _) _) _, ((BK.new w6 [.int .i64 7, .int .i64 2] 31).al _), (bkAtL (BK.new (w6.alloc (.cells #[.int .i64 7, .int .i64 2] 31)) [.int .i64 4, .int .i64 1] 31) (by simp only [World.size_alloc]))⟩ (fun U6 hS => ?_)
    obtain ⟨hb, hB7, hB8⟩ := hS
    replace IX := Lib.hid (IX.out.keep hb)
    replace IY := Lib.hid (IY.out.keep hb)
    replace B1 := Lib.hid (B1.out.keep hb)
    replace IZ := Lib.hid (IZ.out.keep hb)
    replace IK := Lib.hid (IK.out.keep hb)
    replace HB := Lib.hid (keepB HB.out hb)
    have B7 := Lib.hid hB7
    have B8 := Lib.hid hB8
    clear hb hB7 hB8
    go_wp2_with fail
    refine (HG.out _).mono ?_
    rintro e w7 ⟨g7, rfl, hM, hb⟩
    replace IX := Lib.hid (IX.out.keep hb)
    replace IY := Lib.hid (IY.out.keep hb)
    replace B1 := Lib.hid (B1.out.keep hb)
    replace IZ := Lib.hid (IZ.out.keep hb)
    replace IK := Lib.hid (IK.out.keep hb)
    replace B7 := Lib.hid (B7.out.keep hb)
    replace B8 := Lib.hid (B8.out.keep hb)
    replace HB := Lib.hid (keepB HB.out hb)
    have HM := Lib.hid hM
    clear hb hM
    go_wp2_with fail
    refine (HO.out _).mono ?_
    rintro e w8 ⟨X8, Y8, rfl, hX8, hY8, hb⟩
    replace IX := Lib.hid (IX.out.keep hb)
    replace IY := Lib.hid (IY.out.keep hb)
    replace B1 := Lib.hid (B1.out.keep hb)
    replace IZ := Lib.hid (IZ.out.keep hb)
    replace IK := Lib.hid (IK.out.keep hb)
    replace B7 := Lib.hid (B7.out.keep hb)
    replace B8 := Lib.hid (B8.out.keep hb)
    replace HM := Lib.hid (HM.out.keep hb)
    replace HB := Lib.hid (keepB HB.out hb)
    have IX8 := Lib.hid hX8
    have IY8 := Lib.hid hY8
    clear hb hX8 hY8
    go_wp2_with fail
    refine (xGains14b _ _ _ _ _ _ _ HM.out IX8.out IY8.out).mono ?_
    rintro e w9 ⟨M, cm, rfl, hM9, hb⟩
    replace IX := Lib.hid (IX.out.keep hb)
    replace IY := Lib.hid (IY.out.keep hb)
    replace B1 := Lib.hid (B1.out.keep hb)
    replace IZ := Lib.hid (IZ.out.keep hb)
    replace IK := Lib.hid (IK.out.keep hb)
    replace B7 := Lib.hid (B7.out.keep hb)
    replace B8 := Lib.hid (B8.out.keep hb)
    replace HM := Lib.hid (HM.out.keep hb)
    replace IX8 := Lib.hid (IX8.out.keep hb)
    replace IY8 := Lib.hid (IY8.out.keep hb)
    replace HB := Lib.hid (keepB HB.out hb)
    have IM := Lib.hid hM9
    clear hb hM9
    clear HM IX8 IY8
    go_wp2_with fail
    refine (HG.out _).mono ?_
    rintro e w10 ⟨g10, rfl, hM, hb⟩
    replace IX := Lib.hid (IX.out.keep hb)
    replace IY := Lib.hid (IY.out.keep hb)
    replace B1 := Lib.hid (B1.out.keep hb)
    replace IZ := Lib.hid (IZ.out.keep hb)
    replace IK := Lib.hid (IK.out.keep hb)
    replace B7 := Lib.hid (B7.out.keep hb)
    replace B8 := Lib.hid (B8.out.keep hb)
    replace IM := Lib.hid (IM.out.keep hb)
    replace HB := Lib.hid (keepB HB.out hb)
    have HM := Lib.hid hM
    clear hb hM
    go_wp2_with fail
    refine (HO.out _).mono ?_
    rintro e w11 ⟨X8, Y8, rfl, hX8, hY8, hb⟩
    replace IX := Lib.hid (IX.out.keep hb)
    replace IY := Lib.hid (IY.out.keep hb)
    replace B1 := Lib.hid (B1.out.keep hb)
    replace IZ := Lib.hid (IZ.out.keep hb)
    replace IK := Lib.hid (IK.out.keep hb)
    replace B7 := Lib.hid (B7.out.keep hb)
    replace B8 := Lib.hid (B8.out.keep hb)
    replace IM := Lib.hid (IM.out.keep hb)
    replace HM := Lib.hid (HM.out.keep hb)
    replace HB := Lib.hid (keepB HB.out hb)
    have IX8 := Lib.hid hX8
    have IY8 := Lib.hid hY8
    clear hb hX8 hY8
    go_wp2_with fail
    refine (xEnvies14 _ _ _ _ _ _ _ HM.out IX8.out IY8.out).mono ?_
    rintro e w12 ⟨E, ce, rfl, hE, hb⟩
    replace IX := Lib.hid (IX.out.keep hb)
    replace IY := Lib.hid (IY.out.keep hb)
    replace B1 := Lib.hid (B1.out.keep hb)
    replace IZ := Lib.hid (IZ.out.keep hb)
    replace IK := Lib.hid (IK.out.keep hb)
    replace B7 := Lib.hid (B7.out.keep hb)
    replace B8 := Lib.hid (B8.out.keep hb)
    replace IM := Lib.hid (IM.out.keep hb)
    replace HM := Lib.hid (HM.out.keep hb)
    replace IX8 := Lib.hid (IX8.out.keep hb)
    replace IY8 := Lib.hid (IY8.out.keep hb)
    replace HB := Lib.hid (keepB HB.out hb)
    have IE := Lib.hid hE
    clear hb hE
    clear HM IX8 IY8
    have cB10 := B1.out.c 0 rfl
    have cB11 := B1.out.c 1 rfl
    have cB12 := B1.out.c 2 rfl
    go_wp2_with fail
    refine at_worldR (fun v => Below w12.heap.size w12 v ∧ BK v (w12.heap.size) [.int .i64 1, .int .i64 0] ∧ BK v (w12.heap.size + 1) [.int .i64 7, .int .i64 3]) ⟨below_al (below_al (Below.refl _ _) _) _, ((BK.new w12 [.int .i64 1, .int .i64 0] 3).al _), (bkAtL (BK.new (w12.alloc (.cells #[.int .i64 1, .int .i64 0] 3)) [.int .i64 7, .int .i64 3] 3) (by simp only [World.size_alloc]))⟩ (fun U12 hS => ?_)
    obtain ⟨hb, hD1, hD2⟩ := hS
    replace IX := Lib.hid (IX.out.keep hb)
    replace IY := Lib.hid (IY.out.keep hb)
    replace B1 := Lib.hid (B1.out.keep hb)
    replace IZ := Lib.hid (IZ.out.keep hb)
    replace IK := Lib.hid (IK.out.keep hb)
    replace B7 := Lib.hid (B7.out.keep hb)
    replace B8 := Lib.hid (B8.out.keep hb)
    replace IM := Lib.hid (IM.out.keep hb)
    replace IE := Lib.hid (IE.out.keep hb)
    replace HB := Lib.hid (keepB HB.out hb)
    have D1 := Lib.hid hD1
    have D2 := Lib.hid hD2
    clear cB10 cB11 cB12 hb hD1 hD2
    refine (lsame_eq X c _ _ Y d _ _ [1, 0] [7, 3] 2 2 2 _ two_leL two_leL rfl rfl IX.out (isI_bkL (l := [1, 0]) D1.out (i64bL (by decide))) IY.out (isI_bkL (l := [7, 3]) D2.out (i64bL (by decide)))).mono ?_
    rintro e w13 ⟨rfl, hb⟩
    replace IX := Lib.hid (IX.out.keep hb)
    replace IY := Lib.hid (IY.out.keep hb)
    replace B1 := Lib.hid (B1.out.keep hb)
    replace IZ := Lib.hid (IZ.out.keep hb)
    replace IK := Lib.hid (IK.out.keep hb)
    replace B7 := Lib.hid (B7.out.keep hb)
    replace B8 := Lib.hid (B8.out.keep hb)
    replace IM := Lib.hid (IM.out.keep hb)
    replace IE := Lib.hid (IE.out.keep hb)
    replace D1 := Lib.hid (D1.out.keep hb)
    replace D2 := Lib.hid (D2.out.keep hb)
    replace HB := Lib.hid (keepB HB.out hb)
    clear hb
    clear D1 D2 IX IY B1
    go_wp2_with fail
    refine at_worldR (fun v => Below w13.heap.size w13 v ∧ BK v (w13.heap.size) [.int .i64 3, .int .i64 1]) ⟨below_al (Below.refl _ _) _, BK.new w13 [.int .i64 3, .int .i64 1] 3⟩ (fun U13 hS => ?_)
    obtain ⟨hb, hD1⟩ := hS
    replace IZ := Lib.hid (IZ.out.keep hb)
    replace IK := Lib.hid (IK.out.keep hb)
    replace B7 := Lib.hid (B7.out.keep hb)
    replace B8 := Lib.hid (B8.out.keep hb)
    replace IM := Lib.hid (IM.out.keep hb)
    replace IE := Lib.hid (IE.out.keep hb)
    replace HB := Lib.hid (keepB HB.out hb)
    have D1 := Lib.hid hD1
    clear hb hD1
    refine (same_eq Z cz _ _ [3, 1] _ two_leL IZ.out (isI_bkL (l := [3, 1]) D1.out (i64bL (by decide)))).mono ?_
    rintro e w14 ⟨rfl, hb⟩
    replace IZ := Lib.hid (IZ.out.keep hb)
    replace IK := Lib.hid (IK.out.keep hb)
    replace B7 := Lib.hid (B7.out.keep hb)
    replace B8 := Lib.hid (B8.out.keep hb)
    replace IM := Lib.hid (IM.out.keep hb)
    replace IE := Lib.hid (IE.out.keep hb)
    replace D1 := Lib.hid (D1.out.keep hb)
    replace HB := Lib.hid (keepB HB.out hb)
    clear hb
    clear D1 IZ
    go_wp2_with fail
    refine at_worldR (fun v => Below w14.heap.size w14 v ∧ BK v (w14.heap.size) [.int .i64 0, .int .i64 (-3)] ∧ BK v (w14.heap.size + 1) [.int .i64 2, .int .i64 0] ∧ BK v (w14.heap.size + 1 + 1) [.slice (some ⟨w14.heap.size, 0, none⟩) 2 2, .slice (some ⟨w14.heap.size + 1, 0, none⟩) 2 2]) ⟨below_al (below_al (below_al (Below.refl _ _) _) _) _, ((((BK.new w14 [.int .i64 0, .int .i64 (-3)] 3).al _)).al _), (((bkAtL (BK.new (w14.alloc (.cells #[.int .i64 0, .int .i64 (-3)] 3)) [.int .i64 2, .int .i64 0] 3) (by simp only [World.size_alloc]))).al _), (bkAtL (BK.new ((w14.alloc (.cells #[.int .i64 0, .int .i64 (-3)] 3)).alloc (.cells #[.int .i64 2, .int .i64 0] 3)) [.slice (some ⟨w14.heap.size, 0, none⟩) 2 2, .slice (some ⟨w14.heap.size + 1, 0, none⟩) 2 2] 25) (by simp only [World.size_alloc]))⟩ (fun U14 hS => ?_)
    obtain ⟨hb, hD1, hD2, hD3⟩ := hS
    replace IK := Lib.hid (IK.out.keep hb)
    replace B7 := Lib.hid (B7.out.keep hb)
    replace B8 := Lib.hid (B8.out.keep hb)
    replace IM := Lib.hid (IM.out.keep hb)
    replace IE := Lib.hid (IE.out.keep hb)
    replace HB := Lib.hid (keepB HB.out hb)
    have D1 := Lib.hid hD1
    have D2 := Lib.hid hD2
    have D3 := Lib.hid hD3
    clear hb hD1 hD2 hD3
    refine (sameLists_eq K ck _ _ [[0, -3], [2, 0]] _ two_leL IK.out (isM_lit2 0 (-3) 2 0 (by unfold I64; decide) (by unfold I64; decide) (by unfold I64; decide) (by unfold I64; decide) (D3.out.c 0 rfl) (D3.out.c 1 rfl) (D1.out.c 0 rfl) (D1.out.c 1 rfl) (D2.out.c 0 rfl) (D2.out.c 1 rfl))).mono ?_
    rintro e w15 ⟨rfl, hb⟩
    replace IK := Lib.hid (IK.out.keep hb)
    replace B7 := Lib.hid (B7.out.keep hb)
    replace B8 := Lib.hid (B8.out.keep hb)
    replace IM := Lib.hid (IM.out.keep hb)
    replace IE := Lib.hid (IE.out.keep hb)
    replace D1 := Lib.hid (D1.out.keep hb)
    replace D2 := Lib.hid (D2.out.keep hb)
    replace D3 := Lib.hid (D3.out.keep hb)
    replace HB := Lib.hid (keepB HB.out hb)
    clear hb
    clear D1 D2 D3 IK
    have cB70 := B7.out.c 0 rfl
    have cB71 := B7.out.c 1 rfl
    have cB80 := B8.out.c 0 rfl
    have cB81 := B8.out.c 1 rfl
    go_wp2_with fail
    refine at_worldR (fun v => Below w15.heap.size w15 v ∧ BK v (w15.heap.size) [.int .i64 2, .int .i64 (-1)]) ⟨below_al (Below.refl _ _) _, BK.new w15 [.int .i64 2, .int .i64 (-1)] 3⟩ (fun U15 hS => ?_)
    obtain ⟨hb, hD1⟩ := hS
    replace B7 := Lib.hid (B7.out.keep hb)
    replace B8 := Lib.hid (B8.out.keep hb)
    replace IM := Lib.hid (IM.out.keep hb)
    replace IE := Lib.hid (IE.out.keep hb)
    replace HB := Lib.hid (keepB HB.out hb)
    have D1 := Lib.hid hD1
    clear cB70 cB71 cB80 cB81 hb hD1
    refine (same_eq M cm _ _ [2, -1] _ two_leL IM.out (isI_bkL (l := [2, -1]) D1.out (i64bL (by decide)))).mono ?_
    rintro e w16 ⟨rfl, hb⟩
    replace B7 := Lib.hid (B7.out.keep hb)
    replace B8 := Lib.hid (B8.out.keep hb)
    replace IM := Lib.hid (IM.out.keep hb)
    replace IE := Lib.hid (IE.out.keep hb)
    replace D1 := Lib.hid (D1.out.keep hb)
    replace HB := Lib.hid (keepB HB.out hb)
    clear hb
    clear D1 IM B7 B8
    go_wp2_with fail
    refine at_worldR (fun v => Below w16.heap.size w16 v ∧ BK v (w16.heap.size) [.int .i64 1, .int .i64 0]) ⟨below_al (Below.refl _ _) _, BK.new w16 [.int .i64 1, .int .i64 0] 67⟩ (fun U16 hS => ?_)
    obtain ⟨hb, hD1⟩ := hS
    replace IE := Lib.hid (IE.out.keep hb)
    replace HB := Lib.hid (keepB HB.out hb)
    have D1 := Lib.hid hD1
    clear hb hD1
    refine (samePairs_eq E ce _ _ [(1, 0)] _ (by unfold maxLen; simp) IE.out (isP_bkL (l := [(1, 0)]) D1.out)).mono ?_
    rintro e w17 ⟨rfl, hb⟩
    replace IE := Lib.hid (IE.out.keep hb)
    replace D1 := Lib.hid (D1.out.keep hb)
    replace HB := Lib.hid (keepB HB.out hb)
    clear hb
    clear D1 IE
    go_wp2_with fail
    go_ret
    exact ⟨rfl, HB.out⟩
end Go.Proofs.Ytncmffhoodfhjaa

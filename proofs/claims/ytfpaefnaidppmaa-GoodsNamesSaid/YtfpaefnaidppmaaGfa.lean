/- Layer 16's laws: given, fit, the examples. -/
import Derived.Test.YtfpaefnaidppmaaGdq
import Derived.Test.YtfpaefnaidppmaaGeb
namespace Go.Proofs.Ytfpaefnaidppmaa
open Go.RowKit
theorem bkAtL {v : World} {p q : Nat} {l : List Value} (h : BK v p l) (e : p = q) : BK v q l := e ▸ h
theorem two_leG : (2 : Nat) ≤ maxLen := by unfold maxLen; simp
theorem three_leG : (3 : Nat) ≤ maxLen := by unfold maxLen; simp
theorem isI_bkL {w : World} {p : Nat} {l : List Int} (h : BK w p (l.map (Value.int .i64))) (hb : ∀ z ∈ l, I64 z) : IsI w (some ⟨p, 0, none⟩) l := by
  refine ⟨fun _ => ⟨p, 0, rfl, fun i hi => ?_⟩, hb⟩
  rw [Nat.zero_add]
  exact h.c i (by rw [List.getElem?_map, List.getElem?_eq_getElem hi, el_lt hi]; rfl)
def I64bL (l : List Int) : Bool := l.all (fun z => decide (-9223372036854775808 ≤ z) && decide (z ≤ 9223372036854775807))
theorem i64bL {l : List Int} (h : I64bL l = true) : ∀ z ∈ l, I64 z := fun z hz => by
  have := List.all_eq_true.1 h z hz
  simp only [Bool.and_eq_true, decide_eq_true_eq] at this
  exact this
theorem isP_bkL {w : World} {p : Nat} {l : List (Nat × Nat)} (h : BK w p (pcs l)) : IsP w (some ⟨p, 0, none⟩) l := fun _ => ⟨p, 0, rfl, fun i hi => by
  rw [Nat.zero_add]
  exact ⟨h.c _ (pcs_at hi).1, h.c _ (pcs_at hi).2⟩⟩
/-- Two rows. -/
theorem isM_two {w : World} {l1 l2 : List Int} {p q : Option Addr} {n1 n2 c1 c2 r : Nat} (h0 : w.cell? ⟨r, 0, none⟩ = some (.slice p n1 c1)) (h1 : w.cell? ⟨r, 1, none⟩ = some (.slice q n2 c2)) (e1 : n1 = l1.length) (e2 : n2 = l2.length) (m1 : l1.length ≤ maxLen) (m2 : l2.length ≤ maxLen) (hp : IsI w p l1) (hq : IsI w q l2) : IsM w (some ⟨r, 0, none⟩) [l1, l2] := by
  subst e1 e2
  refine fun _ => ⟨r, 0, rfl, fun i hi => ?_⟩
  match i, hi with
  | 0, _ => exact ⟨p, c1, h0, m1, hp⟩
  | 1, _ => exact ⟨q, c2, h1, m2, hq⟩
theorem isI_lit3 {w : World} (a b c : Int) {p : Nat} (x0 : w.cell? ⟨p, 0, none⟩ = some (.int .i64 a)) (x1 : w.cell? ⟨p, 1, none⟩ = some (.int .i64 b)) (x2 : w.cell? ⟨p, 2, none⟩ = some (.int .i64 c)) (h : I64bL [a, b, c] = true) : IsI w (some ⟨p, 0, none⟩) [a, b, c] := by
  refine ⟨fun _ => ⟨p, 0, rfl, fun i hi => ?_⟩, i64bL h⟩
  match i, hi with
  | 0, _ => exact x0
  | 1, _ => exact x1
  | 2, _ => exact x2
/-- The chapter's goods. -/
def Gv16 (w : World) (e : Ending) (w' : World) : Prop := ∃ g, e = .returned (.agg #[.slice (some ⟨g, 0, none⟩) 2 2]) ∧ IsM w' (some ⟨g, 0, none⟩) [[5, 3, 1], [2, 2, 2]] ∧ Below w.heap.size w w'
set_option maxHeartbeats 2000000 in
theorem given16_any (w : World) : Calls Try.prog 28 #[] w (Gv16 w) := by
  go_enter Try.func28, Try.ntmps28
  go_wp2_with fail
  exact bodyPost_ret (v := .agg #[.slice (some ⟨w.heap.size + 1 + 1 + 1, 0, none⟩) 2 2]) (by simp [results, Try.results28, go_sem]) rfl ⟨_, rfl, isM_two (r := w.heap.size + 1 + 1 + 1) (p := some ⟨w.heap.size + 1, 0, none⟩) (q := some ⟨w.heap.size + 1 + 1, 0, none⟩) (n1 := 3) (n2 := 3) (c1 := 3) (c2 := 3) (by go_simp) (by go_simp) rfl rfl three_leG three_leG (isI_lit3 5 3 1 (by go_simp) (by go_simp) (by go_simp) (by decide)) (isI_lit3 2 2 2 (by go_simp) (by go_simp) (by go_simp) (by decide)), below_al (below_al (below_al (below_al (Below.refl _ _) _) _) _) _⟩
/-- What fit gives. -/
def FtQ (w : World) (V : List (List Int)) (a : List Int) (e : Ending) (w' : World) : Prop := ∃ z, e = .returned (.bool z) ∧ (z = true → As.gvld V a = 0) ∧ Below w.heap.size w w'
set_option maxHeartbeats 2000000 in
theorem fit16_any (A : Option Addr) (cv : Nat) (V : List (List Int)) (B : Option Addr) (ca : Nat) (a : List Int) (w : World) (hl : V.length ≤ maxLen) (h : IsM w A V) (ha : a.length ≤ maxLen) (hB : IsI w B a) :
    Calls Try.prog 30 #[.agg #[.slice A V.length cv], .slice B a.length ca] w (FtQ w V a) := by
  have CG := Lib.hid (fun v (hv : Below w.heap.size w v) => rgGreat_any A cv V B ca a.length v hl (h.keep hv) ha)
  have CV := Lib.hid (fun v (hv : Below w.heap.size w v) => rgValid_any A cv V B ca a v hl (h.keep hv) ha (hB.keep hv))
  have HF := Lib.hid (show ∀ w', Below w.heap.size w w' → FtQ w V a (.returned (.bool false)) w' from fun w' hb => ⟨false, rfl, fun x => (by cases x), hb⟩)
  have HT := Lib.hid (show ∀ w', Below w.heap.size w w' → FtQ w V a (.returned (.bool (As.gvld V a == 0))) w' from fun w' hb => ⟨_, rfl, fun x => (by simpa using x), hb⟩)
  clear h hB hl ha
  generalize As.gvld V a = c at *
  unfold GrGQ at CG
  go_enter Try.func30, Try.ntmps30
  go_upto_region 1 with fail
  refine at_box1 (fun V0 hbb b0 hsz => ?_)
  clear hsz
  have c0 := b0.c 0 rfl
  go_wp2_with fail
  refine (CG.out _ hbb).mono ?_
  rintro e w1 ⟨z, rfl, -, hb1⟩
  replace c0 := keepC hb1 c0
  replace hbb := keepB hbb hb1
  clear hb1 b0
  cases z with
  | true =>
    go_wp2_with fail
    go_ret
    exact HF.out _ hbb
  | false =>
    go_wp2_with fail
    refine (CV.out _ hbb).mono ?_
    rintro e w2 ⟨rfl, hb2⟩
    replace hbb := keepB hbb hb2
    clear hb2 c0
    generalize hz : (c == 0) = z
    have HZ := Lib.hid (HT.out w2 hbb)
    rw [hz] at HZ
    clear HT
    go_wp2_with fail
    go_ret
    exact HZ.out
theorem x16a : As.vlS [[5, 3, 1], [2, 2, 2]] [0, 1, 1] = [[5, 4], [2, 4]] ∧ As.gvld [[5, 3, 1], [2, 2, 2]] [0, 1, 1] = 0 := by decide +kernel
theorem x16b : As.evS [[5, 3, 1], [2, 2, 2]] [0, 1, 1] = [] ∧ As.gvld [[5, 3, 1], [2, 2, 2]] [0, 1, 1] = 0 := by decide +kernel
theorem x16c : As.poS [[5, 3, 1], [2, 2, 2]] [0, 1, 1] = [] ∧ As.gvld [[5, 3, 1], [2, 2, 2]] [0, 1, 1] = 0 := by decide +kernel
theorem x16d : As.evS [[5, 3, 1], [2, 2, 2]] [1, 0, 0] = [(0, 1), (1, 0)] ∧ As.gvld [[5, 3, 1], [2, 2, 2]] [1, 0, 0] = 0 := by decide +kernel
theorem x16e : As.poS [[5, 3, 1], [2, 2, 2]] [1, 0, 0] = [0, 1] ∧ As.gvld [[5, 3, 1], [2, 2, 2]] [1, 0, 0] = 0 := by decide +kernel
theorem xVal16 (A : Option Addr) (cv : Nat) (B : Option Addr) (ca : Nat) (w : World) (h : IsM w A [[5, 3, 1], [2, 2, 2]]) (hB : IsI w B [0, 1, 1]) : Calls Try.prog 11 #[.agg #[.slice A 2 cv], .slice B 3 ca] w fun e w' => ∃ X c, e = .returned (.tuple #[.slice X 2 c, .int .i64 0]) ∧ IsM w' X [[5, 4], [2, 4]] ∧ Below w.heap.size w w' := by
  refine (gValues_any A cv [[5, 3, 1], [2, 2, 2]] B ca [0, 1, 1] w two_leG h three_leG hB).mono ?_
  rintro e w' ⟨X, c, rfl, hX, hb⟩
  obtain ⟨f1, f2⟩ := x16a
  rw [f1] at hX ⊢
  rw [f2]
  exact ⟨X, c, rfl, hX, hb⟩
theorem xEnv16a (A : Option Addr) (cv : Nat) (B : Option Addr) (ca : Nat) (w : World) (h : IsM w A [[5, 3, 1], [2, 2, 2]]) (hB : IsI w B [0, 1, 1]) : Calls Try.prog 13 #[.agg #[.slice A 2 cv], .slice B 3 ca] w fun e w' => ∃ X c, e = .returned (.tuple #[.slice X 0 c, .int .i64 0]) ∧ IsP w' X [] ∧ Below w.heap.size w w' := by
  refine (gEnvies_any A cv [[5, 3, 1], [2, 2, 2]] B ca [0, 1, 1] w two_leG h three_leG hB).mono ?_
  rintro e w' ⟨X, c, rfl, hX, hb⟩
  obtain ⟨f1, f2⟩ := x16b
  rw [f1] at hX ⊢
  rw [f2]
  exact ⟨X, c, rfl, hX, hb⟩
theorem xPoor16a (A : Option Addr) (cv : Nat) (B : Option Addr) (ca : Nat) (w : World) (h : IsM w A [[5, 3, 1], [2, 2, 2]]) (hB : IsI w B [0, 1, 1]) : Calls Try.prog 15 #[.agg #[.slice A 2 cv], .slice B 3 ca] w fun e w' => ∃ X c, e = .returned (.tuple #[.slice X 0 c, .int .i64 0]) ∧ IsI w' X [] ∧ Below w.heap.size w w' := by
  refine (gPoor_any A cv [[5, 3, 1], [2, 2, 2]] B ca [0, 1, 1] w two_leG h three_leG hB).mono ?_
  rintro e w' ⟨X, c, rfl, hX, hb⟩
  obtain ⟨f1, f2⟩ := x16c
  rw [f1] at hX ⊢
  rw [f2]
  exact ⟨X, c, rfl, hX, hb⟩
theorem xEnv16b (A : Option Addr) (cv : Nat) (B : Option Addr) (ca : Nat) (w : World) (h : IsM w A [[5, 3, 1], [2, 2, 2]]) (hB : IsI w B [1, 0, 0]) : Calls Try.prog 13 #[.agg #[.slice A 2 cv], .slice B 3 ca] w fun e w' => ∃ X c, e = .returned (.tuple #[.slice X 2 c, .int .i64 0]) ∧ IsP w' X [(0, 1), (1, 0)] ∧ Below w.heap.size w w' := by
  refine (gEnvies_any A cv [[5, 3, 1], [2, 2, 2]] B ca [1, 0, 0] w two_leG h three_leG hB).mono ?_
  rintro e w' ⟨X, c, rfl, hX, hb⟩
  obtain ⟨f1, f2⟩ := x16d
  rw [f1] at hX ⊢
  rw [f2]
  exact ⟨X, c, rfl, hX, hb⟩
theorem xPoor16b (A : Option Addr) (cv : Nat) (B : Option Addr) (ca : Nat) (w : World) (h : IsM w A [[5, 3, 1], [2, 2, 2]]) (hB : IsI w B [1, 0, 0]) : Calls Try.prog 15 #[.agg #[.slice A 2 cv], .slice B 3 ca] w fun e w' => ∃ X c, e = .returned (.tuple #[.slice X 2 c, .int .i64 0]) ∧ IsI w' X [0, 1] ∧ Below w.heap.size w w' := by
  refine (gPoor_any A cv [[5, 3, 1], [2, 2, 2]] B ca [1, 0, 0] w two_leG h three_leG hB).mono ?_
  rintro e w' ⟨X, c, rfl, hX, hb⟩
  obtain ⟨f1, f2⟩ := x16e
  rw [f1] at hX ⊢
  rw [f2]
  exact ⟨X, c, rfl, hX, hb⟩
set_option maxRecDepth 100000 in
set_option maxHeartbeats 8000000 in
theorem alive16_any (w : World) : Calls Try.prog 29 #[] w fun e w' => e = .returned (.bool true) ∧ Below w.heap.size w w' := by
  have HG := Lib.hid given16_any
  have HB := Lib.hid (Below.refl w.heap.size w)
  go_enter Try.func29, Try.ntmps29
  go_wp2_with fail
  refine (HG.out _).mono ?_
  rintro e w1a ⟨g1, rfl, hM, hb⟩
  replace HB := Lib.hid (keepB HB.out hb)
  have HM := Lib.hid hM
  clear hb hM
  go_wp2_with fail
  refine at_worldR (fun v => Below w1a.heap.size w1a v ∧ BK v (w1a.heap.size) [.int .i64 0, .int .i64 1, .int .i64 1]) ⟨below_al (Below.refl _ _) _, BK.new w1a [.int .i64 0, .int .i64 1, .int .i64 1] 3⟩ (fun U1 hS => ?_)
  obtain ⟨hb, hD⟩ := hS
  replace HM := Lib.hid (HM.out.keep hb)
  replace HB := Lib.hid (keepB HB.out hb)
  have D := Lib.hid hD
  clear hb hD
  refine (xVal16 _ _ _ _ _ HM.out (isI_bkL (l := [0, 1, 1]) D.out (i64bL (by decide)))).mono ?_
  rintro e w1b ⟨X1, c1, rfl, hX, hb⟩
  replace HM := Lib.hid (HM.out.keep hb)
  replace D := Lib.hid (D.out.keep hb)
  replace HB := Lib.hid (keepB HB.out hb)
  have F1 := Lib.hid hX
  clear hb hX
  clear HM D
  go_wp2_with fail
  refine (HG.out _).mono ?_
  rintro e w2a ⟨g2, rfl, hM, hb⟩
  replace F1 := Lib.hid (F1.out.keep hb)
  replace HB := Lib.hid (keepB HB.out hb)
  have HM := Lib.hid hM
  clear hb hM
  go_wp2_with fail
  refine at_worldR (fun v => Below w2a.heap.size w2a v ∧ BK v (w2a.heap.size) [.int .i64 0, .int .i64 1, .int .i64 1]) ⟨below_al (Below.refl _ _) _, BK.new w2a [.int .i64 0, .int .i64 1, .int .i64 1] 3⟩ (fun U2 hS => ?_)
  obtain ⟨hb, hD⟩ := hS
  replace F1 := Lib.hid (F1.out.keep hb)
  replace HM := Lib.hid (HM.out.keep hb)
  replace HB := Lib.hid (keepB HB.out hb)
  have D := Lib.hid hD
  clear hb hD
  refine (xEnv16a _ _ _ _ _ HM.out (isI_bkL (l := [0, 1, 1]) D.out (i64bL (by decide)))).mono ?_
  rintro e w2b ⟨X2, c2, rfl, hX, hb⟩
  replace F1 := Lib.hid (F1.out.keep hb)
  replace HM := Lib.hid (HM.out.keep hb)
  replace D := Lib.hid (D.out.keep hb)
  replace HB := Lib.hid (keepB HB.out hb)
  have F2 := Lib.hid hX
  clear hb hX
  clear HM D
  go_wp2_with fail
  refine (HG.out _).mono ?_
  rintro e w3a ⟨g3, rfl, hM, hb⟩
  replace F1 := Lib.hid (F1.out.keep hb)
  replace F2 := Lib.hid (F2.out.keep hb)
  replace HB := Lib.hid (keepB HB.out hb)
  have HM := Lib.hid hM
  clear hb hM
  go_wp2_with fail
  refine at_worldR (fun v => Below w3a.heap.size w3a v ∧ BK v (w3a.heap.size) [.int .i64 0, .int .i64 1, .int .i64 1]) ⟨below_al (Below.refl _ _) _, BK.new w3a [.int .i64 0, .int .i64 1, .int .i64 1] 3⟩ (fun U3 hS => ?_)
  obtain ⟨hb, hD⟩ := hS
  replace F1 := Lib.hid (F1.out.keep hb)
  replace F2 := Lib.hid (F2.out.keep hb)
  replace HM := Lib.hid (HM.out.keep hb)
  replace HB := Lib.hid (keepB HB.out hb)
  have D := Lib.hid hD
  clear hb hD
  refine (xPoor16a _ _ _ _ _ HM.out (isI_bkL (l := [0, 1, 1]) D.out (i64bL (by decide)))).mono ?_
  rintro e w3b ⟨X3, c3, rfl, hX, hb⟩
  replace F1 := Lib.hid (F1.out.keep hb)
  replace F2 := Lib.hid (F2.out.keep hb)
  replace HM := Lib.hid (HM.out.keep hb)
  replace D := Lib.hid (D.out.keep hb)
  replace HB := Lib.hid (keepB HB.out hb)
  have F3 := Lib.hid hX
  clear hb hX
  clear HM D
  go_wp2_with fail
  refine (HG.out _).mono ?_
  rintro e w4a ⟨g4, rfl, hM, hb⟩
  replace F1 := Lib.hid (F1.out.keep hb)
  replace F2 := Lib.hid (F2.out.keep hb)
  replace F3 := Lib.hid (F3.out.keep hb)
  replace HB := Lib.hid (keepB HB.out hb)
  have HM := Lib.hid hM
  clear hb hM
  go_wp2_with fail
  refine at_worldR (fun v => Below w4a.heap.size w4a v ∧ BK v (w4a.heap.size) [.int .i64 1, .int .i64 0, .int .i64 0]) ⟨below_al (Below.refl _ _) _, BK.new w4a [.int .i64 1, .int .i64 0, .int .i64 0] 3⟩ (fun U4 hS => ?_)
  obtain ⟨hb, hD⟩ := hS
  replace F1 := Lib.hid (F1.out.keep hb)
  replace F2 := Lib.hid (F2.out.keep hb)
  replace F3 := Lib.hid (F3.out.keep hb)
  replace HM := Lib.hid (HM.out.keep hb)
  replace HB := Lib.hid (keepB HB.out hb)
  have D := Lib.hid hD
  clear hb hD
  refine (xEnv16b _ _ _ _ _ HM.out (isI_bkL (l := [1, 0, 0]) D.out (i64bL (by decide)))).mono ?_
  rintro e w4b ⟨X4, c4, rfl, hX, hb⟩
  replace F1 := Lib.hid (F1.out.keep hb)
  replace F2 := Lib.hid (F2.out.keep hb)
  replace F3 := Lib.hid (F3.out.keep hb)
  replace HM := Lib.hid (HM.out.keep hb)
  replace D := Lib.hid (D.out.keep hb)
  replace HB := Lib.hid (keepB HB.out hb)
  have F4 := Lib.hid hX
  clear hb hX
  clear HM D
  go_wp2_with fail
  refine (HG.out _).mono ?_
  rintro e w5a ⟨g5, rfl, hM, hb⟩
  replace F1 := Lib.hid (F1.out.keep hb)
  replace F2 := Lib.hid (F2.out.keep hb)
  replace F3 := Lib.hid (F3.out.keep hb)
  replace F4 := Lib.hid (F4.out.keep hb)
  replace HB := Lib.hid (keepB HB.out hb)
  have HM := Lib.hid hM
  clear hb hM
  go_wp2_with fail
  refine at_worldR (fun v => Below w5a.heap.size w5a v ∧ BK v (w5a.heap.size) [.int .i64 1, .int .i64 0, .int .i64 0]) ⟨below_al (Below.refl _ _) _, BK.new w5a [.int .i64 1, .int .i64 0, .int .i64 0] 3⟩ (fun U5 hS => ?_)
  obtain ⟨hb, hD⟩ := hS
  replace F1 := Lib.hid (F1.out.keep hb)
  replace F2 := Lib.hid (F2.out.keep hb)
  replace F3 := Lib.hid (F3.out.keep hb)
  replace F4 := Lib.hid (F4.out.keep hb)
  replace HM := Lib.hid (HM.out.keep hb)
  replace HB := Lib.hid (keepB HB.out hb)
  have D := Lib.hid hD
  clear hb hD
  refine (xPoor16b _ _ _ _ _ HM.out (isI_bkL (l := [1, 0, 0]) D.out (i64bL (by decide)))).mono ?_
  rintro e w5b ⟨X5, c5, rfl, hX, hb⟩
  replace F1 := Lib.hid (F1.out.keep hb)
  replace F2 := Lib.hid (F2.out.keep hb)
  replace F3 := Lib.hid (F3.out.keep hb)
  replace F4 := Lib.hid (F4.out.keep hb)
  replace HM := Lib.hid (HM.out.keep hb)
  replace D := Lib.hid (D.out.keep hb)
  replace HB := Lib.hid (keepB HB.out hb)
  have F5 := Lib.hid hX
  clear hb hX
  clear HM D
  go_wp2_with fail
  refine at_worldR (fun v => Below w5b.heap.size w5b v ∧ BK v (w5b.heap.size) [.int .i64 5, .int .i64 4] ∧ BK v (w5b.heap.size + 1) [.int .i64 2, .int .i64 4] ∧ BK v (w5b.heap.size + 1 + 1) [.slice (some ⟨w5b.heap.size, 0, none⟩) 2 2, .slice (some ⟨w5b.heap.size + 1, 0, none⟩) 2 2]) ⟨below_al (below_al (below_al (Below.refl _ _) _) _) _, ((((BK.new w5b [.int .i64 5, .int .i64 4] 3).al _)).al _), (((bkAtL (BK.new (w5b.alloc (.cells #[.int .i64 5, .int .i64 4] 3)) [.int .i64 2, .int .i64 4] 3) (by simp only [World.size_alloc]))).al _), (bkAtL (BK.new ((w5b.alloc (.cells #[.int .i64 5, .int .i64 4] 3)).alloc (.cells #[.int .i64 2, .int .i64 4] 3)) [.slice (some ⟨w5b.heap.size, 0, none⟩) 2 2, .slice (some ⟨w5b.heap.size + 1, 0, none⟩) 2 2] 25) (by simp only [World.size_alloc]))⟩ (fun U6 hS => ?_)
  obtain ⟨hb, hD1, hD2, hD3⟩ := hS
  replace F1 := Lib.hid (F1.out.keep hb)
  replace F2 := Lib.hid (F2.out.keep hb)
  replace F3 := Lib.hid (F3.out.keep hb)
  replace F4 := Lib.hid (F4.out.keep hb)
  replace F5 := Lib.hid (F5.out.keep hb)
  replace HB := Lib.hid (keepB HB.out hb)
  have D1 := Lib.hid hD1
  have D2 := Lib.hid hD2
  have D3 := Lib.hid hD3
  clear hb hD1 hD2 hD3
  refine (sameLists_eq X1 c1 _ _ [[5, 4], [2, 4]] _ two_leG F1.out (isM_two (D3.out.c 0 rfl) (D3.out.c 1 rfl) rfl rfl two_leG two_leG (isI_bkL (l := [5, 4]) D1.out (i64bL (by decide))) (isI_bkL (l := [2, 4]) D2.out (i64bL (by decide))))).mono ?_
  rintro e w6 ⟨rfl, hb⟩
  replace F1 := Lib.hid (F1.out.keep hb)
  replace F2 := Lib.hid (F2.out.keep hb)
  replace F3 := Lib.hid (F3.out.keep hb)
  replace F4 := Lib.hid (F4.out.keep hb)
  replace F5 := Lib.hid (F5.out.keep hb)
  replace D1 := Lib.hid (D1.out.keep hb)
  replace D2 := Lib.hid (D2.out.keep hb)
  replace D3 := Lib.hid (D3.out.keep hb)
  replace HB := Lib.hid (keepB HB.out hb)
  clear hb
  clear D1 D2 D3 F1
  go_wp2_with fail
  refine at_worldR (fun v => Below w6.heap.size w6 v ∧ BK v (w6.heap.size) [.int .i64 0, .int .i64 1, .int .i64 1, .int .i64 0]) ⟨below_al (Below.refl _ _) _, BK.new w6 [.int .i64 0, .int .i64 1, .int .i64 1, .int .i64 0] 58⟩ (fun U7 hS => ?_)
  obtain ⟨hb, hD1⟩ := hS
  replace F2 := Lib.hid (F2.out.keep hb)
  replace F3 := Lib.hid (F3.out.keep hb)
  replace F4 := Lib.hid (F4.out.keep hb)
  replace F5 := Lib.hid (F5.out.keep hb)
  replace HB := Lib.hid (keepB HB.out hb)
  have D1 := Lib.hid hD1
  clear hb hD1
  refine (samePairs_eq X4 c4 _ _ [(0, 1), (1, 0)] _ two_leG F4.out (isP_bkL (l := [(0, 1), (1, 0)]) D1.out)).mono ?_
  rintro e w7 ⟨rfl, hb⟩
  replace F2 := Lib.hid (F2.out.keep hb)
  replace F3 := Lib.hid (F3.out.keep hb)
  replace F4 := Lib.hid (F4.out.keep hb)
  replace F5 := Lib.hid (F5.out.keep hb)
  replace D1 := Lib.hid (D1.out.keep hb)
  replace HB := Lib.hid (keepB HB.out hb)
  clear hb
  clear D1 F4
  go_wp2_with fail
  refine at_worldR (fun v => Below w7.heap.size w7 v ∧ BK v (w7.heap.size) [.int .i64 0, .int .i64 1]) ⟨below_al (Below.refl _ _) _, BK.new w7 [.int .i64 0, .int .i64 1] 3⟩ (fun U8 hS => ?_)
  obtain ⟨hb, hD1⟩ := hS
  replace F2 := Lib.hid (F2.out.keep hb)
  replace F3 := Lib.hid (F3.out.keep hb)
  replace F5 := Lib.hid (F5.out.keep hb)
  replace HB := Lib.hid (keepB HB.out hb)
  have D1 := Lib.hid hD1
  clear hb hD1
  refine (same_eq X5 c5 _ _ [0, 1] _ two_leG F5.out (isI_bkL (l := [0, 1]) D1.out (i64bL (by decide)))).mono ?_
  rintro e w8 ⟨rfl, hb⟩
  replace F2 := Lib.hid (F2.out.keep hb)
  replace F3 := Lib.hid (F3.out.keep hb)
  replace F5 := Lib.hid (F5.out.keep hb)
  replace D1 := Lib.hid (D1.out.keep hb)
  replace HB := Lib.hid (keepB HB.out hb)
  clear hb
  clear D1 F5
  go_wp2_with fail
  go_ret
  exact ⟨rfl, HB.out⟩
end Go.Proofs.Ytfpaefnaidppmaa

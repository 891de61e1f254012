/- The walk of the law RatioTexts: it answers true for any ratio, string and list. -/
import Derived.Test.YtbcnngjcggddbaaDoorRtext
import Derived.Test.YtbcnngjcggddbaaDoorRparse
import Derived.Test.YtbcnngjcggddbaaDoorRsum
import Derived.Test.YtbcnngjcggddbaaDoorParse
import Derived.Test.YtbcnngjcggddbaaDoorOpen
namespace Go.Proofs.YtbcnngjcggddbaaDoor
open Go.RowKit

set_option maxHeartbeats 8000000 in
set_option maxRecDepth 100000 in
theorem texts_same (n d : Int) (l : List UInt8) (A : Option Addr) (N cap : Nat) (w : World) (T : List UInt8) (T2 P1 P2 P3 R1 R2 R3 : Int)
    (hl : l.length ≤ 300) (hN : N ≤ 30 ∨ (100 < N ∧ N ≤ 200)) (E0 : Env w)
    (c1 : ∀ v, Env v → Calls Tryd.prog 4 #[.agg #[.int .i64 n, .int .i64 d]] v fun e w' => e = .returned (.tuple #[.string ⟨T.toArray⟩, .int .i64 T2]) ∧ Below v.heap.size v w')
    (c2 : ∀ v, Calls Tryd.prog 5 #[.agg #[.int .i64 n, .int .i64 d]] v fun e w' => e = .returned (.tuple #[.string ⟨T.toArray⟩, .int .i64 T2]) ∧ Below v.heap.size v w')
    (c3 : ∀ v, Env v → Calls Tryd.prog 6 #[.string ⟨l.toArray⟩] v fun e w' => e = .returned (.tuple #[.agg #[.int .i64 P1, .int .i64 P2], .int .i64 P3]) ∧ Below v.heap.size v w')
    (c4 : ∀ v, Calls Tryd.prog 7 #[.string ⟨l.toArray⟩] v fun e w' => e = .returned (.tuple #[.agg #[.int .i64 P1, .int .i64 P2], .int .i64 P3]) ∧ Below v.heap.size v w')
    (c5 : ∀ v, Below w.heap.size w v → Calls Tryd.prog 8 #[.slice A N cap] v fun e w' => e = .returned (.tuple #[.agg #[.int .i64 R1, .int .i64 R2], .int .i64 R3]) ∧ Below v.heap.size v w')
    (c6 : ∀ v, Below w.heap.size w v → Calls Tryd.prog 9 #[.slice A N cap] v fun e w' => e = .returned (.tuple #[.agg #[.int .i64 R1, .int .i64 R2], .int .i64 R3]) ∧ Below v.heap.size v w') :
    Calls Tryd.prog 3 #[.agg #[.int .i64 n, .int .i64 d], .string ⟨l.toArray⟩, .slice A N cap] w fun e w' => e = .returned (.bool true) ∧ Below w.heap.size w w' := by
  have C1 := Lib.hid c1
  have C2 := Lib.hid c2
  have C3 := Lib.hid c3
  have C4 := Lib.hid c4
  have C5 := Lib.hid c5
  have C6 := Lib.hid c6
  have E := Lib.hid E0
  clear c1 c2 c3 c4 c5 c6 E0
  have g1 : decide (300 < (l.length : Int)) = false := decide_eq_false (by omega)
  have g4 : decide (200 < (N : Int)) = false := decide_eq_false (by omega)
  rcases hN with h | ⟨h, h'⟩
  · have g2 : decide (30 < (N : Int)) = false := decide_eq_false (by omega)
    go_enter Tryd.func3, Tryd.ntmps3
    go_wp2_with fail
    refine (C1.out _  ((E.out).keep ((Below.refl _ _).alloc (Nat.le_refl _) _))).mono ?_
    rintro e w1 ⟨rfl, hb⟩
    have x0 : w1.cell? ⟨w.heap.size, 0, none⟩ = some (.int .i64 n) := keepC hb (by go_simp)
    have x1 : w1.cell? ⟨w.heap.size, 1, none⟩ = some (.int .i64 d) := keepC hb (by go_simp)
    have hbb : Below w.heap.size w w1 := keepB ((Below.refl _ _).alloc (Nat.le_refl _) _) hb
    have hE := Lib.hid (((E.out).keep ((Below.refl _ _).alloc (Nat.le_refl _) _)).keep hb)
    clear hb
    go_wp2_with fail
    refine (C2.out _).mono ?_
    rintro e w2 ⟨rfl, hb⟩
    replace x0 := keepC hb x0
    replace x1 := keepC hb x1
    replace hbb := keepB hbb hb
    have hE' := Lib.hid ((hE.out).keep hb)
    clear hE
    have hE := hE'
    clear hE'
    clear hb
    go_wp2_with fail
    refine (C3.out _  (hE.out)).mono ?_
    rintro e w3 ⟨rfl, hb⟩
    replace x0 := keepC hb x0
    replace x1 := keepC hb x1
    replace hbb := keepB hbb hb
    have hE' := Lib.hid ((hE.out).keep hb)
    clear hE
    have hE := hE'
    clear hE'
    clear hb
    have l1 := lt_of_cell x0
    go_wp2_with fail
    refine at_worldR (fun v => Env v ∧ Below w.heap.size w v ∧ v.cell? ⟨w.heap.size, 0, none⟩ = some (.int .i64 n) ∧ v.cell? ⟨w.heap.size, 1, none⟩ = some (.int .i64 d) ∧ v.cell? ⟨w3.heap.size, 0, none⟩ = some (.int .i64 P1) ∧ v.cell? ⟨w3.heap.size, 1, none⟩ = some (.int .i64 P2)) ⟨(hE.out).keep (below_al (Below.refl _ _) _), below_al hbb _, cell_alloc x0 _, cell_alloc x1 _, n20 _ _ _ _, n21 _ _ _ _⟩ (fun V1 hS => ?_)
    obtain ⟨hE, hbb, x0, x1, p0, p1⟩ := hS
    have hE' := hE
    clear hE
    have hE := Lib.hid hE'
    clear hE'
    refine (C4.out _).mono ?_
    rintro e w4 ⟨rfl, hb⟩
    replace x0 := keepC hb x0
    replace x1 := keepC hb x1
    replace p0 := keepC hb p0
    replace p1 := keepC hb p1
    replace hbb := keepB hbb hb
    have hE' := Lib.hid ((hE.out).keep hb)
    clear hE
    have hE := hE'
    clear hE'
    clear hb
    have l1 := lt_of_cell x0
    have l2 := lt_of_cell p0
    go_wp2_with fail
    refine at_worldR (fun v => Env v ∧ Below w.heap.size w v ∧ v.cell? ⟨w.heap.size, 0, none⟩ = some (.int .i64 n) ∧ v.cell? ⟨w.heap.size, 1, none⟩ = some (.int .i64 d) ∧ v.cell? ⟨w3.heap.size, 0, none⟩ = some (.int .i64 P1) ∧ v.cell? ⟨w3.heap.size, 1, none⟩ = some (.int .i64 P2) ∧ v.cell? ⟨w4.heap.size, 0, none⟩ = some (.int .i64 P1) ∧ v.cell? ⟨w4.heap.size, 1, none⟩ = some (.int .i64 P2)) ⟨(hE.out).keep (below_al (Below.refl _ _) _), below_al hbb _, cell_alloc x0 _, cell_alloc x1 _, cell_alloc p0 _, cell_alloc p1 _, n20 _ _ _ _, n21 _ _ _ _⟩ (fun V2 hS => ?_)
    obtain ⟨hE, hbb, x0, x1, p0, p1, q0, q1⟩ := hS
    have hE' := hE
    clear hE
    have hE := Lib.hid hE'
    clear hE'
    refine (C5.out _ hbb).mono ?_
    rintro e w5 ⟨rfl, hb⟩
    replace x0 := keepC hb x0
    replace x1 := keepC hb x1
    replace p0 := keepC hb p0
    replace p1 := keepC hb p1
    replace q0 := keepC hb q0
    replace q1 := keepC hb q1
    replace hbb := keepB hbb hb
    have hE' := Lib.hid ((hE.out).keep hb)
    clear hE
    have hE := hE'
    clear hE'
    clear hb
    have l1 := lt_of_cell x0
    have l2 := lt_of_cell p0
    have l3 := lt_of_cell q0
    go_wp2_with fail
    refine at_worldR (fun v => Env v ∧ Below w.heap.size w v ∧ v.cell? ⟨w.heap.size, 0, none⟩ = some (.int .i64 n) ∧ v.cell? ⟨w.heap.size, 1, none⟩ = some (.int .i64 d) ∧ v.cell? ⟨w3.heap.size, 0, none⟩ = some (.int .i64 P1) ∧ v.cell? ⟨w3.heap.size, 1, none⟩ = some (.int .i64 P2) ∧ v.cell? ⟨w4.heap.size, 0, none⟩ = some (.int .i64 P1) ∧ v.cell? ⟨w4.heap.size, 1, none⟩ = some (.int .i64 P2) ∧ v.cell? ⟨w5.heap.size, 0, none⟩ = some (.int .i64 R1) ∧ v.cell? ⟨w5.heap.size, 1, none⟩ = some (.int .i64 R2)) ⟨(hE.out).keep (below_al (Below.refl _ _) _), below_al hbb _, cell_alloc x0 _, cell_alloc x1 _, cell_alloc p0 _, cell_alloc p1 _, cell_alloc q0 _, cell_alloc q1 _, n20 _ _ _ _, n21 _ _ _ _⟩ (fun V3 hS => ?_)
    obtain ⟨hE, hbb, x0, x1, p0, p1, q0, q1, r0, r1⟩ := hS
    have hE' := hE
    clear hE
    have hE := Lib.hid hE'
    clear hE'
    refine (C6.out _ hbb).mono ?_
    rintro e w6 ⟨rfl, hb⟩
    replace x0 := keepC hb x0
    replace x1 := keepC hb x1
    replace p0 := keepC hb p0
    replace p1 := keepC hb p1
    replace q0 := keepC hb q0
    replace q1 := keepC hb q1
    replace r0 := keepC hb r0
    replace r1 := keepC hb r1
    replace hbb := keepB hbb hb
    have hE' := Lib.hid ((hE.out).keep hb)
    clear hE
    have hE := hE'
    clear hE'
    clear hb
    have l1 := lt_of_cell x0
    have l2 := lt_of_cell p0
    have l3 := lt_of_cell q0
    have l4 := lt_of_cell r0
    clear C1 C2 C3 C4 C5 C6
    go_wp2_with fail
    go_ret
    exact ⟨by simp, below_al hbb _⟩
  · have g2 : decide (30 < (N : Int)) = true := decide_eq_true (by omega)
    have g3 : decide ((N : Int) ≤ 100) = false := decide_eq_false (by omega)
    go_enter Tryd.func3, Tryd.ntmps3
    go_wp2_with fail
    refine (C1.out _  ((E.out).keep ((Below.refl _ _).alloc (Nat.le_refl _) _))).mono ?_
    rintro e w1 ⟨rfl, hb⟩
    have x0 : w1.cell? ⟨w.heap.size, 0, none⟩ = some (.int .i64 n) := keepC hb (by go_simp)
    have x1 : w1.cell? ⟨w.heap.size, 1, none⟩ = some (.int .i64 d) := keepC hb (by go_simp)
    have hbb : Below w.heap.size w w1 := keepB ((Below.refl _ _).alloc (Nat.le_refl _) _) hb
    have hE := Lib.hid (((E.out).keep ((Below.refl _ _).alloc (Nat.le_refl _) _)).keep hb)
    clear hb
    go_wp2_with fail
    refine (C2.out _).mono ?_
    rintro e w2 ⟨rfl, hb⟩
    replace x0 := keepC hb x0
    replace x1 := keepC hb x1
    replace hbb := keepB hbb hb
    have hE' := Lib.hid ((hE.out).keep hb)
    clear hE
    have hE := hE'
    clear hE'
    clear hb
    go_wp2_with fail
    refine (C3.out _  (hE.out)).mono ?_
    rintro e w3 ⟨rfl, hb⟩
    replace x0 := keepC hb x0
    replace x1 := keepC hb x1
    replace hbb := keepB hbb hb
    have hE' := Lib.hid ((hE.out).keep hb)
    clear hE
    have hE := hE'
    clear hE'
    clear hb
    have l1 := lt_of_cell x0
    go_wp2_with fail
    refine at_worldR (fun v => Env v ∧ Below w.heap.size w v ∧ v.cell? ⟨w.heap.size, 0, none⟩ = some (.int .i64 n) ∧ v.cell? ⟨w.heap.size, 1, none⟩ = some (.int .i64 d) ∧ v.cell? ⟨w3.heap.size, 0, none⟩ = some (.int .i64 P1) ∧ v.cell? ⟨w3.heap.size, 1, none⟩ = some (.int .i64 P2)) ⟨(hE.out).keep (below_al (Below.refl _ _) _), below_al hbb _, cell_alloc x0 _, cell_alloc x1 _, n20 _ _ _ _, n21 _ _ _ _⟩ (fun V1 hS => ?_)
    obtain ⟨hE, hbb, x0, x1, p0, p1⟩ := hS
    have hE' := hE
    clear hE
    have hE := Lib.hid hE'
    clear hE'
    refine (C4.out _).mono ?_
    rintro e w4 ⟨rfl, hb⟩
    replace x0 := keepC hb x0
    replace x1 := keepC hb x1
    replace p0 := keepC hb p0
    replace p1 := keepC hb p1
    replace hbb := keepB hbb hb
    have hE' := Lib.hid ((hE.out).keep hb)
    clear hE
    have hE := hE'
    clear hE'
    clear hb
    have l1 := lt_of_cell x0
    have l2 := lt_of_cell p0
    go_wp2_with fail
    refine at_worldR (fun v => Env v ∧ Below w.heap.size w v ∧ v.cell? ⟨w.heap.size, 0, none⟩ = some (.int .i64 n) ∧ v.cell? ⟨w.heap.size, 1, none⟩ = some (.int .i64 d) ∧ v.cell? ⟨w3.heap.size, 0, none⟩ = some (.int .i64 P1) ∧ v.cell? ⟨w3.heap.size, 1, none⟩ = some (.int .i64 P2) ∧ v.cell? ⟨w4.heap.size, 0, none⟩ = some (.int .i64 P1) ∧ v.cell? ⟨w4.heap.size, 1, none⟩ = some (.int .i64 P2)) ⟨(hE.out).keep (below_al (Below.refl _ _) _), below_al hbb _, cell_alloc x0 _, cell_alloc x1 _, cell_alloc p0 _, cell_alloc p1 _, n20 _ _ _ _, n21 _ _ _ _⟩ (fun V2 hS => ?_)
    obtain ⟨hE, hbb, x0, x1, p0, p1, q0, q1⟩ := hS
    have hE' := hE
    clear hE
    have hE := Lib.hid hE'
    clear hE'
    refine (C5.out _ hbb).mono ?_
    rintro e w5 ⟨rfl, hb⟩
    replace x0 := keepC hb x0
    replace x1 := keepC hb x1
    replace p0 := keepC hb p0
    replace p1 := keepC hb p1
    replace q0 := keepC hb q0
    replace q1 := keepC hb q1
    replace hbb := keepB hbb hb
    have hE' := Lib.hid ((hE.out).keep hb)
    clear hE
    have hE := hE'
    clear hE'
    clear hb
    have l1 := lt_of_cell x0
    have l2 := lt_of_cell p0
    have l3 := lt_of_cell q0
    go_wp2_with fail
    refine at_worldR (fun v => Env v ∧ Below w.heap.size w v ∧ v.cell? ⟨w.heap.size, 0, none⟩ = some (.int .i64 n) ∧ v.cell? ⟨w.heap.size, 1, none⟩ = some (.int .i64 d) ∧ v.cell? ⟨w3.heap.size, 0, none⟩ = some (.int .i64 P1) ∧ v.cell? ⟨w3.heap.size, 1, none⟩ = some (.int .i64 P2) ∧ v.cell? ⟨w4.heap.size, 0, none⟩ = some (.int .i64 P1) ∧ v.cell? ⟨w4.heap.size, 1, none⟩ = some (.int .i64 P2) ∧ v.cell? ⟨w5.heap.size, 0, none⟩ = some (.int .i64 R1) ∧ v.cell? ⟨w5.heap.size, 1, none⟩ = some (.int .i64 R2)) ⟨(hE.out).keep (below_al (Below.refl _ _) _), below_al hbb _, cell_alloc x0 _, cell_alloc x1 _, cell_alloc p0 _, cell_alloc p1 _, cell_alloc q0 _, cell_alloc q1 _, n20 _ _ _ _, n21 _ _ _ _⟩ (fun V3 hS => ?_)
    obtain ⟨hE, hbb, x0, x1, p0, p1, q0, q1, r0, r1⟩ := hS
    have hE' := hE
    clear hE
    have hE := Lib.hid hE'
    clear hE'
    refine (C6.out _ hbb).mono ?_
    rintro e w6 ⟨rfl, hb⟩
    replace x0 := keepC hb x0
    replace x1 := keepC hb x1
    replace p0 := keepC hb p0
    replace p1 := keepC hb p1
    replace q0 := keepC hb q0
    replace q1 := keepC hb q1
    replace r0 := keepC hb r0
    replace r1 := keepC hb r1
    replace hbb := keepB hbb hb
    have hE' := Lib.hid ((hE.out).keep hb)
    clear hE
    have hE := hE'
    clear hE'
    clear hb
    have l1 := lt_of_cell x0
    have l2 := lt_of_cell p0
    have l3 := lt_of_cell q0
    have l4 := lt_of_cell r0
    clear C1 C2 C3 C4 C5 C6
    go_wp2_with fail
    go_ret
    exact ⟨by simp, below_al hbb _⟩
theorem isR_rd {w v : World} {A : Option Addr} {xs : List (Int × Int)} (h : IsR w A xs) (hb : Below w.heap.size w v) (h0 : 0 < xs.length) : ∃ b off, A = some ⟨b, off, none⟩ ∧ RdR v b off xs := by
  obtain ⟨b, off, e, hc⟩ := h.1 h0
  exact ⟨b, off, e, fun i n d hi => ⟨keepC hb (hc i n d hi).1, keepC hb (hc i n d hi).2⟩⟩
theorem Sum_isR (A : Option Addr) (cap : Nat) (xs : List (Int × Int)) (w v : World) (hN : xs.length ≤ 100) (h : IsR w A xs) (hb : Below w.heap.size w v) :
    Calls Tryd.prog 8 #[.slice A xs.length cap] v fun e w' => e = .returned (.tuple #[.agg #[.int .i64 (Rp.sumL xs).1, .int .i64 (Rp.sumL xs).2.1], .int .i64 (Rp.sumL xs).2.2]) ∧ Below v.heap.size v w' := by
  rcases Nat.eq_zero_or_pos xs.length with h0 | h0
  · obtain rfl : xs = [] := List.eq_nil_of_length_eq_zero h0
    exact Sum_void A cap v
  · obtain ⟨b, off, rfl, hr⟩ := isR_rd h hb h0
    exact Sum_list b off cap xs v hN hr h.2 _ _ _ rfl
theorem rSum_isR (A : Option Addr) (cap : Nat) (xs : List (Int × Int)) (w v : World) (hN : xs.length ≤ 100) (h : IsR w A xs) (hb : Below w.heap.size w v) :
    Calls Tryd.prog 9 #[.slice A xs.length cap] v fun e w' => e = .returned (.tuple #[.agg #[.int .i64 (Rp.sumL xs).1, .int .i64 (Rp.sumL xs).2.1], .int .i64 (Rp.sumL xs).2.2]) ∧ Below v.heap.size v w' := by
  rcases Nat.eq_zero_or_pos xs.length with h0 | h0
  · obtain rfl : xs = [] := List.eq_nil_of_length_eq_zero h0
    exact rSum_void A cap v
  · obtain ⟨b, off, rfl, hr⟩ := isR_rd h hb h0
    exact rSum_list b off cap xs v hN hr h.2 _ _ _ rfl

set_option maxHeartbeats 1000000 in
set_option maxRecDepth 100000 in
theorem texts_walk (n d : Int) (l : List UInt8) (A : Option Addr) (cap : Nat) (xs : List (Int × Int)) (w : World) (n0 : -9223372036854775808 ≤ n) (n1 : n ≤ 9223372036854775807) (d0 : -9223372036854775808 ≤ d) (d1 : d ≤ 9223372036854775807) (hl : l.length ≤ maxLen) (hN : xs.length ≤ maxLen) (h : IsR w A xs) (E0 : Env w) :
    Calls Tryd.prog 3 #[.agg #[.int .i64 n, .int .i64 d], .string ⟨l.toArray⟩, .slice A xs.length cap] w fun e w' => e = .returned (.bool true) ∧ Below w.heap.size w w' := by
  unfold maxLen at hl hN
  by_cases h1 : 300 < l.length
  · have g1 : decide (300 < (l.length : Int)) = true := decide_eq_true (by omega)
    clear h E0
    go_enter Tryd.func3, Tryd.ntmps3
    go_wp2_with fail
    go_ret
    exact ⟨rfl, (Below.refl _ _).alloc (Nat.le_refl _) _⟩
  · have g1 : decide (300 < (l.length : Int)) = false := decide_eq_false (by omega)
    by_cases h2 : 30 < xs.length ∧ xs.length ≤ 100
    · have g2 : decide (30 < (xs.length : Int)) = true := decide_eq_true (by omega)
      have g3 : decide ((xs.length : Int) ≤ 100) = true := decide_eq_true (by omega)
      clear h E0
      go_enter Tryd.func3, Tryd.ntmps3
      go_wp2_with fail
      go_ret
      exact ⟨rfl, (Below.refl _ _).alloc (Nat.le_refl _) _⟩
    · by_cases h3 : 200 < xs.length
      · have g2 : decide (30 < (xs.length : Int)) = true := decide_eq_true (by omega)
        have g3 : decide ((xs.length : Int) ≤ 100) = false := decide_eq_false (by omega)
        have g4 : decide (200 < (xs.length : Int)) = true := decide_eq_true (by omega)
        clear h E0
        go_enter Tryd.func3, Tryd.ntmps3
        go_wp2_with fail
        go_ret
        exact ⟨rfl, (Below.refl _ _).alloc (Nat.le_refl _) _⟩
      · have c1 := fun v (hv : Env v) => Text_any n d v n0 n1 d0 d1 hv
        have c2 := fun v => rText_any n d v n0 n1 d0 d1
        have c3 := fun v (hv : Env v) => Parse_any ⟨l.toArray⟩ v (by show Array.size _ < _; rw [List.size_toArray]; omega) hv
        have c4 := fun v => rParse_any l v (by omega)
        by_cases h4 : xs.length ≤ 30
        · exact texts_same n d l A xs.length cap w _ _ _ _ _ _ _ _ (by omega) (.inl h4) E0 c1 c2 c3 c4 (fun v hb => Sum_isR A cap xs w v (by omega) h hb) (fun v hb => rSum_isR A cap xs w v (by omega) h hb)
        · exact texts_same n d l A xs.length cap w _ _ _ _ _ _ _ _ (by omega) (.inr ⟨by omega, by omega⟩) E0 c1 c2 c3 c4 (fun v _ => Sum_many A xs.length cap v (by omega)) (fun v _ => rSum_many A xs.length cap v (by omega))
end Go.Proofs.YtbcnngjcggddbaaDoor

/- The walk of the law CakeChecks: it answers true for any two cakes and any ratio. -/
import Derived.Test.YtbcnngjcggddbaaDens
import Derived.Test.YtbcnngjcggddbaaSame
namespace Go.Proofs.Ytbcnngjcggddbaa
open Go.RowKit

set_option maxHeartbeats 8000000 in
set_option maxRecDepth 100000 in
theorem checks_same (la : Int) (K : Option Addr) (ka : List Int) (ck : Nat) (Z : Option Addr) (za : List Int) (cz : Nat) (lb : Int) (L : Option Addr) (kb : List Int) (cl : Nat) (Y : Option Addr) (zb : List Int) (cy : Nat) (n d : Int) (w : World) (ha : IsCake w la K ka Z za) (hb : IsCake w lb L kb Y zb) (n0 : -9223372036854775808 ≤ n) (n1 : n ≤ 9223372036854775807) (d0 : -9223372036854775808 ≤ d) (d1 : d ≤ 9223372036854775807) (gA : (decide (60 < ka.length) || decide (60 < za.length)) = false) (gB : (decide (60 < kb.length) || decide (60 < zb.length)) = false) :
    Calls Try.prog 4 #[.agg #[.int .i64 la, .slice K ka.length ck, .slice Z za.length cz], .agg #[.int .i64 lb, .slice L kb.length cl, .slice Y zb.length cy], .agg #[.int .i64 n, .int .i64 d]] w fun e w' => e = .returned (.bool true) ∧ Below w.heap.size w w' := by
  have c0 := fun v => great_any la K ka ck Z za cz v ha.2.1.1 ha.2.1.2
  have c1 := fun v => great_any lb L kb cl Y zb cy v hb.2.1.1 hb.2.1.2
  rw [gA] at c0
  rw [gB] at c1
  have t1 := fun v (h : Below w.heap.size w v) => ckTotal_any la K ka ck Z za cz v (ha.keep h)
  have t2 := fun v (h : Below w.heap.size w v) => rckTotal_any la K ka ck Z za cz v (ha.keep h)
  have s1 := fun v (h : Below w.heap.size w v) => ckDensity_any la K ka ck Z za cz n d v (ha.keep h) ⟨n0, n1⟩ ⟨d0, d1⟩
  have s2 := fun v (h : Below w.heap.size w v) => rckDensity_any la K ka ck Z za cz n d v (ha.keep h) ⟨n0, n1⟩ ⟨d0, d1⟩
  have h1 := fun v (h : Below w.heap.size w v) => ckCheck_any la K ka ck Z za cz v (ha.keep h)
  have h2 := fun v (h : Below w.heap.size w v) => rckCheck_any la K ka ck Z za cz v (ha.keep h)
  have e1 := fun v (h : Below w.heap.size w v) => ckSame_any la K ka ck Z za cz lb L kb cl Y zb cy v (ha.keep h) (hb.keep h)
  have e2 := fun v (h : Below w.heap.size w v) => rckSame_any la K ka ck Z za cz lb L kb cl Y zb cy v (ha.keep h) (hb.keep h)
  generalize Ck.totS la ka za = T at *
  generalize Ck.denS la ka za n d = D at *
  generalize Ck.chk la ka za = H at *
  generalize Ck.same la ka za lb kb zb = M at *
  obtain ⟨T1, T2⟩ := T
  obtain ⟨D1, D2⟩ := D
  dsimp only at t1 t2 s1 s2
  have C0 := Lib.hid c0
  have C1 := Lib.hid c1
  have CT1 := Lib.hid t1
  have CT2 := Lib.hid t2
  have CD1 := Lib.hid s1
  have CD2 := Lib.hid s2
  have CH1 := Lib.hid h1
  have CH2 := Lib.hid h2
  have CE1 := Lib.hid e1
  have CE2 := Lib.hid e2
  clear c0 c1 t1 t2 s1 s2 h1 h2 e1 e2 gA gB ha hb n0 n1 d0 d1
  go_enter Try.func4, Try.ntmps4
  go_wp2_with fail
  refine (C0.out _).mono ?_
  rintro e w1 ⟨rfl, hb1⟩
  have a0 : w1.cell? ⟨w.heap.size, 0, none⟩ = some (.int .i64 la) := keepC hb1 (by go_simp)
  have a1 : w1.cell? ⟨w.heap.size, 1, none⟩ = some (.slice K ka.length ck) := keepC hb1 (by go_simp)
  have a2 : w1.cell? ⟨w.heap.size, 2, none⟩ = some (.slice Z za.length cz) := keepC hb1 (by go_simp)
  have b0 : w1.cell? ⟨w.heap.size + 1, 0, none⟩ = some (.int .i64 lb) := keepC hb1 (by go_simp)
  have b1 : w1.cell? ⟨w.heap.size + 1, 1, none⟩ = some (.slice L kb.length cl) := keepC hb1 (by go_simp)
  have b2 : w1.cell? ⟨w.heap.size + 1, 2, none⟩ = some (.slice Y zb.length cy) := keepC hb1 (by go_simp)
  have p0 : w1.cell? ⟨w.heap.size + 1 + 1, 0, none⟩ = some (.int .i64 n) := keepC hb1 (by go_simp)
  have p1 : w1.cell? ⟨w.heap.size + 1 + 1, 1, none⟩ = some (.int .i64 d) := keepC hb1 (by go_simp)
  have hbb : Below w.heap.size w w1 := keepB ((((Below.refl _ _).alloc (Nat.le_refl _) _).alloc (by simp) _).alloc (by simp; omega) _) hb1
  clear hb1
  go_wp2_with fail
  refine (C1.out _).mono ?_
  rintro e w2 ⟨rfl, hb2⟩
  replace a0 := keepC hb2 a0
  replace a1 := keepC hb2 a1
  replace a2 := keepC hb2 a2
  replace b0 := keepC hb2 b0
  replace b1 := keepC hb2 b1
  replace b2 := keepC hb2 b2
  replace p0 := keepC hb2 p0
  replace p1 := keepC hb2 p1
  replace hbb := keepB hbb hb2
  clear hb2
  go_wp2_with fail
  refine (CT1.out _ hbb).mono ?_
  rintro e w3 ⟨rfl, hb3⟩
  replace a0 := keepC hb3 a0
  replace a1 := keepC hb3 a1
  replace a2 := keepC hb3 a2
  replace b0 := keepC hb3 b0
  replace b1 := keepC hb3 b1
  replace b2 := keepC hb3 b2
  replace p0 := keepC hb3 p0
  replace p1 := keepC hb3 p1
  replace hbb := keepB hbb hb3
  clear hb3
  go_wp2_with fail
  refine (CT2.out _ hbb).mono ?_
  rintro e w4 ⟨rfl, hb4⟩
  replace a0 := keepC hb4 a0
  replace a1 := keepC hb4 a1
  replace a2 := keepC hb4 a2
  replace b0 := keepC hb4 b0
  replace b1 := keepC hb4 b1
  replace b2 := keepC hb4 b2
  replace p0 := keepC hb4 p0
  replace p1 := keepC hb4 p1
  replace hbb := keepB hbb hb4
  clear hb4
  go_wp2_with fail
  refine (CD1.out _ hbb).mono ?_
  rintro e w5 ⟨rfl, hb5⟩
  replace a0 := keepC hb5 a0
  replace a1 := keepC hb5 a1
  replace a2 := keepC hb5 a2
  replace b0 := keepC hb5 b0
  replace b1 := keepC hb5 b1
  replace b2 := keepC hb5 b2
  replace p0 := keepC hb5 p0
  replace p1 := keepC hb5 p1
  replace hbb := keepB hbb hb5
  clear hb5
  go_wp2_with fail
  refine (CD2.out _ hbb).mono ?_
  rintro e w6 ⟨rfl, hb6⟩
  replace a0 := keepC hb6 a0
  replace a1 := keepC hb6 a1
  replace a2 := keepC hb6 a2
  replace b0 := keepC hb6 b0
  replace b1 := keepC hb6 b1
  replace b2 := keepC hb6 b2
  replace p0 := keepC hb6 p0
  replace p1 := keepC hb6 p1
  replace hbb := keepB hbb hb6
  clear hb6
  clear C0 C1 CT1 CT2 CD1 CD2
  go_wp2_with fail
  go_region_held3 (fun v => Below w.heap.size w v ∧ v.cell? ⟨w.heap.size, 0, none⟩ = some (.int .i64 la) ∧ v.cell? ⟨w.heap.size, 1, none⟩ = some (.slice K ka.length ck) ∧ v.cell? ⟨w.heap.size, 2, none⟩ = some (.slice Z za.length cz) ∧ v.cell? ⟨w.heap.size + 1, 0, none⟩ = some (.int .i64 lb) ∧ v.cell? ⟨w.heap.size + 1, 1, none⟩ = some (.slice L kb.length cl) ∧ v.cell? ⟨w.heap.size + 1, 2, none⟩ = some (.slice Y zb.length cy) ∧ v.cell? ⟨w.heap.size + 1 + 1, 0, none⟩ = some (.int .i64 n) ∧ v.cell? ⟨w.heap.size + 1 + 1, 1, none⟩ = some (.int .i64 d))
    (first | (exact ⟨hbb.drew, a0, a1, a2, b0, b1, b2, p0, p1⟩) | (with_reducible assumption) | (obtain ⟨k0, ka0, ka1, ka2, kb0, kb1, kb2, kp0, kp1⟩ := ‹Below w.heap.size w _ ∧ _›; exact ⟨keepB k0 hb3, keepC hb3 ka0, keepC hb3 ka1, keepC hb3 ka2, keepC hb3 kb0, keepC hb3 kb1, keepC hb3 kb2, keepC hb3 kp0, keepC hb3 kp1⟩))
    (first
      | (go_at_call 23; obtain ⟨k0, ka0, ka1, ka2, kb0, kb1, kb2, kp0, kp1⟩ := ‹Below w.heap.size w _ ∧ _›; refine (CH1.out _ k0).mono ?_; rintro e w3' ⟨rfl, hb3⟩)
      | (go_at_call 30; obtain ⟨k0, ka0, ka1, ka2, kb0, kb1, kb2, kp0, kp1⟩ := ‹Below w.heap.size w _ ∧ _›; refine (CH2.out _ k0).mono ?_; rintro e w3' ⟨rfl, hb3⟩)
      | (go_at_call 24; obtain ⟨k0, ka0, ka1, ka2, kb0, kb1, kb2, kp0, kp1⟩ := ‹Below w.heap.size w _ ∧ _›; refine (CE1.out _ k0).mono ?_; rintro e w3' ⟨rfl, hb3⟩)
      | (go_at_call 22; obtain ⟨k0, ka0, ka1, ka2, kb0, kb1, kb2, kp0, kp1⟩ := ‹Below w.heap.size w _ ∧ _›; refine (CE2.out _ k0).mono ?_; rintro e w3' ⟨rfl, hb3⟩))
  all_goals
    go_wp2
    go_ret
    obtain ⟨k0, ka0, ka1, ka2, kb0, kb1, kb2, kp0, kp1⟩ := ‹Below w.heap.size w _ ∧ _›
    exact ⟨by simp, k0⟩

set_option maxHeartbeats 2000000 in
set_option maxRecDepth 100000 in
theorem checks_walk (la : Int) (K : Option Addr) (ka : List Int) (ck : Nat) (Z : Option Addr) (za : List Int) (cz : Nat) (lb : Int) (L : Option Addr) (kb : List Int) (cl : Nat) (Y : Option Addr) (zb : List Int) (cy : Nat) (n d : Int) (w : World) (ha : IsCake w la K ka Z za) (hb : IsCake w lb L kb Y zb) (n0 : -9223372036854775808 ≤ n) (n1 : n ≤ 9223372036854775807) (d0 : -9223372036854775808 ≤ d) (d1 : d ≤ 9223372036854775807) :
    Calls Try.prog 4 #[.agg #[.int .i64 la, .slice K ka.length ck, .slice Z za.length cz], .agg #[.int .i64 lb, .slice L kb.length cl, .slice Y zb.length cy], .agg #[.int .i64 n, .int .i64 d]] w fun e w' => e = .returned (.bool true) ∧ Below w.heap.size w w' := by
  rcases gA : (decide (60 < ka.length) || decide (60 < za.length)) with _ | _
  · rcases gB : (decide (60 < kb.length) || decide (60 < zb.length)) with _ | _
    · exact checks_same la K ka ck Z za cz lb L kb cl Y zb cy n d w ha hb n0 n1 d0 d1 gA gB
    · have c0 := fun v => great_any la K ka ck Z za cz v ha.2.1.1 ha.2.1.2
      have c1 := fun v => great_any lb L kb cl Y zb cy v hb.2.1.1 hb.2.1.2
      rw [gA] at c0
      rw [gB] at c1
      have C0 := Lib.hid c0
      have C1 := Lib.hid c1
      clear c0 c1 gA gB ha hb
      go_enter Try.func4, Try.ntmps4
      go_wp2_with fail
      refine (C0.out _).mono ?_
      rintro e w1 ⟨rfl, hb1⟩
      have b0 : w1.cell? ⟨w.heap.size + 1, 0, none⟩ = some (.int .i64 lb) := keepC hb1 (by go_simp)
      have b1 : w1.cell? ⟨w.heap.size + 1, 1, none⟩ = some (.slice L kb.length cl) := keepC hb1 (by go_simp)
      have b2 : w1.cell? ⟨w.heap.size + 1, 2, none⟩ = some (.slice Y zb.length cy) := keepC hb1 (by go_simp)
      have hbb : Below w.heap.size w w1 := keepB ((((Below.refl _ _).alloc (Nat.le_refl _) _).alloc (by simp) _).alloc (by simp; omega) _) hb1
      clear hb1
      go_wp2_with fail
      refine (C1.out _).mono ?_
      rintro e w2 ⟨rfl, hb2⟩
      replace hbb := keepB hbb hb2
      clear hb2 C0 C1
      go_wp2_with fail
      go_ret
      exact ⟨rfl, hbb⟩
  · have c0 := fun v => great_any la K ka ck Z za cz v ha.2.1.1 ha.2.1.2
    rw [gA] at c0
    have C0 := Lib.hid c0
    clear c0 gA ha hb
    go_enter Try.func4, Try.ntmps4
    go_wp2_with fail
    refine (C0.out _).mono ?_
    rintro e w1 ⟨rfl, hb1⟩
    have hbb : Below w.heap.size w w1 := keepB ((((Below.refl _ _).alloc (Nat.le_refl _) _).alloc (by simp) _).alloc (by simp; omega) _) hb1
    clear hb1 C0
    go_wp2_with fail
    go_ret
    exact ⟨rfl, hbb⟩
end Go.Proofs.Ytbcnngjcggddbaa

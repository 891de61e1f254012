/- Values add up, and marks are inverse to them: plain mathematics on what both answer. -/
import Derived.Test.YtomokdepndclpaaMarkm
namespace Go.Proofs.Ytomokdepndclpaa
namespace Ck
variable {len : Int} {c d : List Int}
/-- The mark of a value (from a point of a valid cake on, for a value that is a ratio and at least 0). -/
def mrk (len : Int) (c d : List Int) (n1 d1 m1 m2 : Int) : Int × Int × Int := if m1 = 0 then (n1, d1, 0) else mgo len c d n1 d1 d.length 0 m1 m2
theorem q_nonneg {n d : Int} (h : Rp.Ok n d) : 0 ≤ Rp.q n d ↔ 0 ≤ n := by
  have h1 := Rp.q_lt h (Rp.Ok_one (F := 0) (by decide) (by decide))
  rw [Rp.q_one, Int.mul_one, Int.zero_mul] at h1
  have h2 : (((0 : Int)) : Rat) = 0 := rfl
  rw [h2] at h1
  constructor
  · intro g
    have : ¬ n < 0 := fun e => absurd (h1.2 e) (Rat.not_lt.2 g)
    omega
  · intro g
    exact Rat.not_lt.1 (fun e => absurd (h1.1 e) (by omega))
theorem q_zero {n d : Int} (h : Rp.Ok n d) : Rp.q n d = 0 ↔ n = 0 := by
  constructor
  · intro g
    have := Rp.q_num h
    rw [g] at this
    exact this.symm
  · intro g
    subst g
    unfold Rp.q
    simp
theorem mrk_is (hG : Good len c d) {n1 d1 m1 m2 : Int} (h : Rp.Ok n1 d1) (hl : Rp.q n1 d1 ≤ (len : Rat)) (h2 : Rp.Ok m1 m2) (hn : 0 ≤ m1) : IsMark len c d (Rp.q n1 d1) (Rp.q m1 m2) (mrk len c d n1 d1 m1 m2) := by
  unfold mrk
  by_cases hz : m1 = 0
  · rw [if_pos hz, (q_zero h2).2 hz]
    refine .inl ⟨rfl, h, Rat.le_refl, hl, ?_, fun z hA hlt => ?_⟩
    · show cum c d (Rp.q n1 d1) d.length - _ = _
      grind
    · exact absurd hlt (Rat.not_lt.2 hA)
  · rw [if_neg hz]
    have h0 : 0 < Rp.q m1 m2 := by
      have e1 := (q_nonneg h2).2 hn
      have e2 : Rp.q m1 m2 ≠ 0 := fun e => hz ((q_zero h2).1 e)
      grind
    refine mgo_is hG h _ d.length 0 (by omega) m1 m2 h2 h0 ?_
    show Rp.q m1 m2 = Rp.q m1 m2 - (0 - 0)
    grind
/-- A value that is a ratio. -/
theorem vgo_ok (hG : Good len c d) {n1 d1 n2 d2 : Int} (h : Rp.Ok n1 d1) (h2 : Rp.Ok n2 d2) (hle : Rp.q n1 d1 ≤ Rp.q n2 d2) (e : (vgo c d n1 d1 n2 d2 d.length).2.2 = 0) :
    Rp.Ok (vgo c d n1 d1 n2 d2 d.length).1 (vgo c d n1 d1 n2 d2 d.length).2.1 ∧ Rp.q (vgo c d n1 d1 n2 d2 d.length).1 (vgo c d n1 d1 n2 d2 d.length).2.1 = cum c d (Rp.q n2 d2) d.length - cum c d (Rp.q n1 d1) d.length := by
  rcases vgo_is hG h h2 hle d.length (Nat.le_refl _) with ⟨_, k1, k2⟩ | k
  · exact ⟨k1, k2⟩
  · rw [k] at e
    exact absurd e (by decide)
theorem vgo_err (hG : Good len c d) {n1 d1 n2 d2 : Int} (h : Rp.Ok n1 d1) (h2 : Rp.Ok n2 d2) (hle : Rp.q n1 d1 ≤ Rp.q n2 d2) : (vgo c d n1 d1 n2 d2 d.length).2.2 = 0 ∨ vgo c d n1 d1 n2 d2 d.length = (0, 0, 16) := by
  rcases vgo_is hG h h2 hle d.length (Nat.le_refl _) with ⟨k0, _⟩ | k
  · exact .inl k0
  · exact .inr k
/-- A value is at least 0. -/
theorem vgo_nonneg (hG : Good len c d) {n1 d1 n2 d2 : Int} (h : Rp.Ok n1 d1) (h2 : Rp.Ok n2 d2) (hle : Rp.q n1 d1 ≤ Rp.q n2 d2) : 0 ≤ (vgo c d n1 d1 n2 d2 d.length).1 := by
  rcases vgo_is hG h h2 hle d.length (Nat.le_refl _) with ⟨_, k1, k2⟩ | k
  · rw [← q_nonneg k1, k2]
    have := cum_mono hG hle d.length (Nat.le_refl _)
    grind
  · rw [k]
    decide
/-- Values add up. -/
theorem vgo_add (hG : Good len c d) {n1 d1 n2 d2 n3 d3 : Int} (h1 : Rp.Ok n1 d1) (h2 : Rp.Ok n2 d2) (h3 : Rp.Ok n3 d3) (l1 : Rp.q n1 d1 ≤ Rp.q n2 d2) (l2 : Rp.q n2 d2 ≤ Rp.q n3 d3)
    (e1 : (vgo c d n1 d1 n2 d2 d.length).2.2 = 0) (e2 : (vgo c d n2 d2 n3 d3 d.length).2.2 = 0) (e3 : (vgo c d n1 d1 n3 d3 d.length).2.2 = 0) :
    Rp.addS (vgo c d n1 d1 n2 d2 d.length).1 (vgo c d n1 d1 n2 d2 d.length).2.1 (vgo c d n2 d2 n3 d3 d.length).1 (vgo c d n2 d2 n3 d3 d.length).2.1 = ((vgo c d n1 d1 n3 d3 d.length).1, (vgo c d n1 d1 n3 d3 d.length).2.1, 0) := by
  obtain ⟨a1, a2⟩ := vgo_ok hG h1 h2 l1 e1
  obtain ⟨b1, b2⟩ := vgo_ok hG h2 h3 l2 e2
  obtain ⟨c1, c2⟩ := vgo_ok hG h1 h3 (Rat.le_trans l1 l2) e3
  rw [Rp.addS_ok a1 b1, a2, b2, ← Rp.ofQ_q c1, c2]
  congr 1
  grind
/-- What lies between a point and the mark for a value has the value. -/
theorem mrk_val (hG : Good len c d) {n1 d1 m1 m2 : Int} (h : Rp.Ok n1 d1) (h2 : Rp.Ok m1 m2) {r : Int × Int × Int} (hr : IsMark len c d (Rp.q n1 d1) (Rp.q m1 m2) r) (e : r.2.2 = 0) (ev : (vgo c d n1 d1 r.1 r.2.1 d.length).2.2 = 0) :
    (vgo c d n1 d1 r.1 r.2.1 d.length).1 = m1 ∧ (vgo c d n1 d1 r.1 r.2.1 d.length).2.1 = m2 := by
  rcases hr with ⟨_, k1, k2, _, k4, _⟩ | ⟨k, _⟩ | k
  · obtain ⟨a1, a2⟩ := vgo_ok hG h k1 k2 ev
    exact Rp.q_inj a1 h2 (by rw [a2, k4])
  · rw [k] at e
    exact absurd e (by decide)
  · rw [k] at e
    exact absurd e (by decide)
/-- No point before the mark has the value. -/
theorem mrk_first (hG : Good len c d) {n1 d1 n2 d2 m1 m2 : Int} (h : Rp.Ok n1 d1) (h3 : Rp.Ok n2 d2) (hle : Rp.q n1 d1 ≤ Rp.q n2 d2) {r : Int × Int × Int} (hr : IsMark len c d (Rp.q n1 d1) (Rp.q m1 m2) r) (e : r.2.2 = 0) (hlt : Rp.q n2 d2 < Rp.q r.1 r.2.1) (ev : (vgo c d n1 d1 n2 d2 d.length).2.2 = 0) :
    Rp.q (vgo c d n1 d1 n2 d2 d.length).1 (vgo c d n1 d1 n2 d2 d.length).2.1 < Rp.q m1 m2 := by
  rcases hr with ⟨_, _, _, _, _, k5⟩ | ⟨k, _⟩ | k
  · obtain ⟨a1, a2⟩ := vgo_ok hG h h3 hle ev
    rw [a2]
    exact k5 _ hle hlt
  · rw [k] at e
    exact absurd e (by decide)
  · rw [k] at e
    exact absurd e (by decide)
/-- Where there is no mark, all that follows is worth less. -/
theorem mrk_none (hG : Good len c d) {n1 d1 n2 d2 m1 m2 : Int} (h : Rp.Ok n1 d1) (h3 : Rp.Ok n2 d2) (hle : Rp.q n1 d1 ≤ Rp.q n2 d2) (hlen : Rp.q n2 d2 ≤ (len : Rat)) {r : Int × Int × Int} (hr : IsMark len c d (Rp.q n1 d1) (Rp.q m1 m2) r) (e : r.2.2 = 6) (ev : (vgo c d n1 d1 n2 d2 d.length).2.2 = 0) :
    Rp.q (vgo c d n1 d1 n2 d2 d.length).1 (vgo c d n1 d1 n2 d2 d.length).2.1 < Rp.q m1 m2 := by
  rcases hr with ⟨k, _⟩ | ⟨_, k⟩ | k
  · rw [k] at e
    exact absurd e (by decide)
  · obtain ⟨a1, a2⟩ := vgo_ok hG h h3 hle ev
    rw [a2]
    have := cum_mono hG hlen d.length (Nat.le_refl _)
    grind
  · rw [k] at e
    exact absurd e (by decide)
/-- The mark for the value up to a point lies no further than the point. -/
theorem mrk_back (hG : Good len c d) {n1 d1 n2 d2 : Int} (h : Rp.Ok n1 d1) (h3 : Rp.Ok n2 d2) (hle : Rp.q n1 d1 ≤ Rp.q n2 d2) (hlen : Rp.q n2 d2 ≤ (len : Rat)) (ev : (vgo c d n1 d1 n2 d2 d.length).2.2 = 0) {r : Int × Int × Int}
    (hr : IsMark len c d (Rp.q n1 d1) (Rp.q (vgo c d n1 d1 n2 d2 d.length).1 (vgo c d n1 d1 n2 d2 d.length).2.1) r) : (r.2.2 = 0 ∧ ¬ Rp.q n2 d2 < Rp.q r.1 r.2.1) ∨ r = (0, 0, 16) := by
  by_cases e : r.2.2 = 0
  · refine .inl ⟨e, fun hlt => ?_⟩
    exact absurd (mrk_first hG h h3 hle hr e hlt ev) Rat.lt_irrefl
  · rcases hr with ⟨k, _⟩ | ⟨k, k'⟩ | k
    · exact absurd k e
    · exact absurd (mrk_none hG h h3 hle hlen (r := r) (.inr (.inl ⟨k, k'⟩)) (by rw [k]) ev) Rat.lt_irrefl
    · exact .inr k
end Ck
end Go.Proofs.Ytomokdepndclpaa

/- Value and Mark of a valid cake, in the form in which the laws use them. -/
import Derived.Test.YtomokdepndclpaaAddsw
namespace Go.Proofs.Ytomokdepndclpaa
open Go.RowKit
theorem pt_le {len n d : Int} (l0 : 1 ≤ len) (l1 : len ≤ 1000) (h : Ck.pt len n d = true) : Rp.q n d ≤ ((len : Int) : Rat) := by
  obtain ⟨o, h0, _⟩ := pt_spec h
  have e := Ck.pt_of (len := len) (by omega) (by omega) o h0
  rw [h] at e
  have e2 : decide (Rp.q len 1 < Rp.q n d) = false := by
    cases hd : decide (Rp.q len 1 < Rp.q n d)
    · rfl
    · rw [hd] at e; cases e
  rw [Rp.q_one] at e2
  exact Rat.not_lt.1 (of_decide_eq_false e2)
theorem pt_of_le {len n d : Int} (l0 : 1 ≤ len) (l1 : len ≤ 1000) (o : Rp.Ok n d) (h0 : 0 ≤ n) (h : Rp.q n d ≤ ((len : Int) : Rat)) : Ck.pt len n d = true := by
  rw [Ck.pt_of (by omega) (by omega) o h0, Rp.q_one, decide_eq_false (Rat.not_lt.2 h)]
  rfl
set_option maxHeartbeats 1000000 in
theorem mark_any {len : Int} {K : Option Addr} {cuts : List Int} {ck : Nat} {Z : Option Addr} {dens : List Int} {cz : Nat} {n1 d1 v1 v2 : Int} (w : World) (h : IsCake w len K cuts Z dens) (hc : Ck.chk len cuts dens = 0) (pa : Ck.pt len n1 d1 = true) (oV : Rp.Ok v1 v2) (h0 : 0 ≤ v1) :
    Calls Try.prog 22 #[.agg #[.int .i64 len, .slice K cuts.length ck, .slice Z dens.length cz], .agg #[.int .i64 n1, .int .i64 d1], .agg #[.int .i64 v1, .int .i64 v2]] w fun e w' => e = .returned (.tuple #[.agg #[.int .i64 (Ck.mrk len cuts dens n1 d1 v1 v2).1, .int .i64 (Ck.mrk len cuts dens n1 d1 v1 v2).2.1], .int .i64 (Ck.mrk len cuts dens n1 d1 v1 v2).2.2]) ∧ Below w.heap.size w w' := by
  unfold Ck.mrk
  by_cases hz : v1 = 0
  · rw [if_pos hz]
    exact mark_zero len K cuts ck Z dens cz n1 d1 v1 v2 w h hc pa oV hz
  · rw [if_neg hz]
    exact mark_good len K cuts ck Z dens cz n1 d1 v1 v2 w h hc pa oV (by omega)
section
variable {len : Int} {K : Option Addr} {cuts : List Int} {ck : Nat} {Z : Option Addr} {dens : List Int} {cz : Nat} {n1 d1 n2 d2 v1 v2 : Int} {w : World}
theorem val_c (ck cz : Nat) (h : IsCake w len K cuts Z dens) (hc : Ck.chk len cuts dens = 0) (pa : Ck.pt len n1 d1 = true) (pb : Ck.pt len n2 d2 = true) (hle : ¬ Rp.q n2 d2 < Rp.q n1 d1) :
    ∃ X1 X2 X3, Ck.vgo cuts dens n1 d1 n2 d2 dens.length = (X1, X2, X3) ∧
      (∀ v, Below w.heap.size w v → Calls Try.prog 21 #[.agg #[.int .i64 len, .slice K cuts.length ck, .slice Z dens.length cz], .agg #[.int .i64 n1, .int .i64 d1], .agg #[.int .i64 n2, .int .i64 d2]] v fun e w' => e = .returned (.tuple #[.agg #[.int .i64 X1, .int .i64 X2], .int .i64 X3]) ∧ Below v.heap.size v w') ∧
      ((X3 = 0 ∧ Rp.Ok X1 X2 ∧ 0 ≤ X1) ∨ (X1 = 0 ∧ X2 = 0 ∧ X3 = 16)) := by
  have hG := Ck.chk_good hc
  have oa := (pt_spec pa).1
  have ob := (pt_spec pb).1
  have lab := Rat.not_lt.1 hle
  obtain ⟨⟨X1, X2, X3⟩, hX⟩ : ∃ t, Ck.vgo cuts dens n1 d1 n2 d2 dens.length = t := ⟨_, rfl⟩
  have e := Ck.vgo_err hG oa ob lab
  have o := Ck.vgo_ok hG oa ob lab
  have n := Ck.vgo_nonneg hG oa ob lab
  rw [hX] at e o n
  refine ⟨X1, X2, X3, hX, fun v hb => ?_, ?_⟩
  · have := value_good len K cuts ck Z dens cz n1 d1 n2 d2 v (h.keep hb) hc pa pb hle
    rw [hX] at this
    exact this
  · rcases e with e | e
    · exact .inl ⟨e, (o e).1, n⟩
    · simp only [Prod.mk.injEq] at e
      exact .inr e
theorem mrk_c (ck cz : Nat) (h : IsCake w len K cuts Z dens) (hc : Ck.chk len cuts dens = 0) (pa : Ck.pt len n1 d1 = true) (oV : Rp.Ok v1 v2) (h0 : 0 ≤ v1) :
    ∃ P1 P2 P3, Ck.IsMark len cuts dens (Rp.q n1 d1) (Rp.q v1 v2) (P1, P2, P3) ∧
      (∀ v, Below w.heap.size w v → Calls Try.prog 22 #[.agg #[.int .i64 len, .slice K cuts.length ck, .slice Z dens.length cz], .agg #[.int .i64 n1, .int .i64 d1], .agg #[.int .i64 v1, .int .i64 v2]] v fun e w' => e = .returned (.tuple #[.agg #[.int .i64 P1, .int .i64 P2], .int .i64 P3]) ∧ Below v.heap.size v w') ∧
      ((P3 = 0 ∧ Ck.pt len P1 P2 = true ∧ ¬ Rp.q P1 P2 < Rp.q n1 d1) ∨ (P1 = 0 ∧ P2 = 0 ∧ P3 = 6) ∨ (P1 = 0 ∧ P2 = 0 ∧ P3 = 16)) := by
  have hG := Ck.chk_good hc
  obtain ⟨oa, na, _⟩ := pt_spec pa
  have la := pt_le hG.len0 hG.len1 pa
  obtain ⟨⟨P1, P2, P3⟩, hP⟩ : ∃ t, Ck.mrk len cuts dens n1 d1 v1 v2 = t := ⟨_, rfl⟩
  have hm := Ck.mrk_is hG oa la oV h0
  rw [hP] at hm
  refine ⟨P1, P2, P3, hm, fun v hb => ?_, ?_⟩
  · have := mark_any (ck := ck) (cz := cz) v (h.keep hb) hc pa oV h0
    rw [hP] at this
    exact this
  · rcases hm with ⟨e, o, l1, l2, _⟩ | ⟨e, _⟩ | e
    · dsimp only at e o l1 l2
      refine .inl ⟨e, ?_, Rat.not_lt.2 l1⟩
      exact pt_of_le hG.len0 hG.len1 o ((Ck.q_nonneg o).1 (Rat.le_trans ((Ck.q_nonneg oa).2 na) l1)) l2
    · simp only [Prod.mk.injEq] at e
      exact .inr (.inl e)
    · simp only [Prod.mk.injEq] at e
      exact .inr (.inr e)
end
end Go.Proofs.Ytomokdepndclpaa

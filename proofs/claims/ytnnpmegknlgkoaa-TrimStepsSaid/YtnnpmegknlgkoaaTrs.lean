/- Rounds of the last diminisher: what is asked and answered, as functions on lists. -/
import Derived.Test.YtnnpmegknlgkoaaTrb
namespace Go.Proofs.Ytnnpmegknlgkoaa
open Go.RowKit
namespace Ch
section
variable (D : List CkD) (n a b : Int)
/-- The mark for the share of an agent. -/
def mkQ (j : Nat) : Int × Int × Int := Ak.kS (Ak.dAt D j) a b (sh n (Ak.dAt D j)).1 (sh n (Ak.dAt D j)).2.1
def qM (j : Nat) : Qr := ⟨j, 2, a, b, (sh n (Ak.dAt D j)).1, (sh n (Ak.dAt D j)).2.1, (mkQ D n a b j).1, (mkQ D n a b j).2.1⟩
/-- What the piece up to the mark of i is worth for j. -/
def vlQ (i j : Nat) : Int × Int × Int := Ak.vS (Ak.dAt D j) a b (mkQ D n a b i).1 (mkQ D n a b i).2.1
def qV (i j : Nat) : Qr := ⟨j, 1, a, b, (mkQ D n a b i).1, (mkQ D n a b i).2.1, (vlQ D n a b i j).1, (vlQ D n a b i j).2.1⟩
def mre (i j : Nat) : Bool := decide (shq n (Ak.dAt D j) < Rp.q (vlQ D n a b i j).1 (vlQ D n a b i j).2.1)
/-- The rest of a round: who holds the piece, how often it was trimmed, and the log. -/
def scan : List Nat → Nat → Nat → List Qr → Nat × Nat × List Qr
  | [], i, t, L => (i, t, L)
  | j :: r, i, t, L => if mre D n a b i j = true then scan r j (t + 1) (L ++ [qV D n a b i j] ++ [qM D n a b j]) else scan r i t (L ++ [qV D n a b i j])
/-- All marks and values that a round may ask for are there. -/
structure RFit (l : List Nat) : Prop where
  lt : ∀ j ∈ l, j < D.length
  mark : ∀ j ∈ l, (mkQ D n a b j).2.2 = 0 ∧ Rp.Ok (mkQ D n a b j).1 (mkQ D n a b j).2.1
  val : ∀ i ∈ l, ∀ j ∈ l, (vlQ D n a b i j).2.2 = 0 ∧ Rp.Ok (vlQ D n a b i j).1 (vlQ D n a b i j).2.1
end
section
variable {D : List CkD} {n a b : Int}
theorem chk_up {m : Nat} (h : Ak.chkS D 0 = 0) (hm : m ≤ 2000) : Ak.chkS D m = 0 :=
  Ak.good_chkS ⟨(Ak.chkS_good h).l0, (Ak.chkS_good h).l1, hm, (Ak.chkS_good h).all, (Ak.chkS_good h).same⟩
theorem ans_M {j : Nat} (hj : j < D.length) (s1 s2 : Int) : Ak.ansS D ⟨j, 2, a, b, s1, s2, 0, 0⟩ = Ak.kS (Ak.dAt D j) a b s1 s2 := by
  unfold Ak.ansS
  rw [if_pos ⟨Int.natCast_nonneg _, by dsimp only; omega⟩, if_neg (show ¬ (2 : Int) = 1 by decide), if_pos rfl]
  rfl
theorem ans_V {j : Nat} (hj : j < D.length) (x y : Int) : Ak.ansS D ⟨j, 1, a, b, x, y, 0, 0⟩ = Ak.vS (Ak.dAt D j) a b x y := by
  unfold Ak.ansS
  rw [if_pos ⟨Int.natCast_nonneg _, by dsimp only; omega⟩, if_pos rfl]
  rfl
theorem put_M {l : List Nat} (F : RFit D n a b l) {j m : Nat} (hj : j ∈ l) (hc : Ak.chkS D 0 = 0) (hm : m < 2000) :
    Ak.putE D m ⟨j, 2, a, b, (sh n (Ak.dAt D j)).1, (sh n (Ak.dAt D j)).2.1, 0, 0⟩ = 0 ∧ Ak.told D ⟨j, 2, a, b, (sh n (Ak.dAt D j)).1, (sh n (Ak.dAt D j)).2.1, 0, 0⟩ = qM D n a b j := by
  have h1 := ans_M (a := a) (b := b) (F.lt j hj) (sh n (Ak.dAt D j)).1 (sh n (Ak.dAt D j)).2.1
  constructor
  · unfold Ak.putE
    rw [if_neg (by rw [chk_up hc (by omega)]; simp), h1, if_neg (by have := (F.mark j hj).1; unfold mkQ at this; rw [this]; simp), if_neg (by omega)]
  · unfold Ak.told
    rw [h1]
    rfl
theorem put_V {l : List Nat} (F : RFit D n a b l) {i j m : Nat} (hi : i ∈ l) (hj : j ∈ l) (hc : Ak.chkS D 0 = 0) (hm : m < 2000) :
    Ak.putE D m ⟨j, 1, a, b, (mkQ D n a b i).1, (mkQ D n a b i).2.1, 0, 0⟩ = 0 ∧ Ak.told D ⟨j, 1, a, b, (mkQ D n a b i).1, (mkQ D n a b i).2.1, 0, 0⟩ = qV D n a b i j := by
  have h1 := ans_V (a := a) (b := b) (F.lt j hj) (mkQ D n a b i).1 (mkQ D n a b i).2.1
  constructor
  · unfold Ak.putE
    rw [if_neg (by rw [chk_up hc (by omega)]; simp), h1, if_neg (by have := (F.val i hi j hj).1; unfold vlQ at this; rw [this]; simp), if_neg (by omega)]
  · unfold Ak.told
    rw [h1]
    rfl
theorem drop_at {l : List Nat} {k : Nat} (hk : k < l.length) : l.drop k = l.getD k 0 :: l.drop (k + 1) := by
  rw [List.drop_eq_getElem_cons hk]
  simp [hk]
theorem getD_mem {l : List Nat} {k : Nat} (hk : k < l.length) : l.getD k 0 ∈ l := by
  simp [hk]
end
end Ch
end Go.Proofs.Ytnnpmegknlgkoaa

/- Package knife: one knife as a function on lists. Plain mathematics. -/
import Derived.Test.YtniagnldiegamaaGreatGm
import Derived.Test.YtniagnldiegamaaGreatAskpu
namespace Go.Proofs.YtniagnldiegamaaGreat
open Go.RowKit
namespace Kn
open Ck Ch
section
variable (D : List CkD) (n len a b : Int)
/-- The mark for the share of an agent, and its query. -/
def mkQ (j : Nat) : Int × Int × Int := Ak.kS (Ak.dAt D j) a b (sh n (Ak.dAt D j)).1 (sh n (Ak.dAt D j)).2.1
def qM (j : Nat) : Qr := ⟨(j : Nat), 2, a, b, (sh n (Ak.dAt D j)).1, (sh n (Ak.dAt D j)).2.1, (mkQ D n a b j).1, (mkQ D n a b j).2.1⟩
/-- Who says stop, and where. -/
def bst : List Nat → Nat × Int × Int → Nat × Int × Int
  | [], s => s
  | j :: r, s => bst r (if Rp.q (mkQ D n a b j).1 (mkQ D n a b j).2.1 < Rp.q s.2.1 s.2.2 then (j, (mkQ D n a b j).1, (mkQ D n a b j).2.1) else s)
/-- All marks that may be asked for are there. -/
structure KFit (l : List Nat) : Prop where
  lt : ∀ j ∈ l, j < D.length
  mark : ∀ j ∈ l, (mkQ D n a b j).2.2 = 0 ∧ Rp.Ok (mkQ D n a b j).1 (mkQ D n a b j).2.1
end
/-- Where the knife is, who is left, the log, and who has had a piece. -/
structure St where
  a : Int
  b : Int
  l : List Nat
  L : List Qr
  o : List Nat
section
variable (D : List CkD) (n len : Int)
def stp (s : St) : Nat × Int × Int := if s.l.length = 1 then (s.l.getD 0 0, len, 1) else bst D n s.a s.b s.l (s.l.getD 0 0, len, 1)
def slg (s : St) : List Qr := if s.l.length = 1 then s.L else s.L ++ s.l.map (qM D n s.a s.b)
def nxt (s : St) : St := ⟨(stp D n len s).2.1, (stp D n len s).2.2, s.l.eraseIdx (s.l.idxOf (stp D n len s).1), slg D n s, s.o ++ [(stp D n len s).1]⟩
def sts : Nat → St
  | 0 => ⟨0, 1, List.range D.length, [], []⟩
  | k + 1 => nxt D n len (sts k)
end
section
variable {D : List CkD} {n len a b : Int} {l : List Nat}
theorem chk_up {m : Nat} (h : Ak.chkS D 0 = 0) (hm : m ≤ 2000) : Ak.chkS D m = 0 :=
  Ak.good_chkS ⟨(Ak.chkS_good h).l0, (Ak.chkS_good h).l1, hm, (Ak.chkS_good h).all, (Ak.chkS_good h).same⟩
theorem ans_M {j : Nat} (hj : j < D.length) (s1 s2 : Int) : Ak.ansS D ⟨(j : Nat), 2, a, b, s1, s2, 0, 0⟩ = Ak.kS (Ak.dAt D j) a b s1 s2 := by
  unfold Ak.ansS
  rw [if_pos ⟨Int.natCast_nonneg _, by dsimp only; omega⟩, if_neg (show ¬ (2 : Int) = 1 by decide), if_pos rfl]
  rfl
theorem put_M (F : KFit D n a b l) {j m : Nat} (hj : j ∈ l) (hc : Ak.chkS D 0 = 0) (hm : m < 2000) :
    Ak.putE D m ⟨(j : Nat), 2, a, b, (sh n (Ak.dAt D j)).1, (sh n (Ak.dAt D j)).2.1, 0, 0⟩ = 0 ∧ Ak.told D ⟨(j : Nat), 2, a, b, (sh n (Ak.dAt D j)).1, (sh n (Ak.dAt D j)).2.1, 0, 0⟩ = qM D n a b j := by
  have h1 := ans_M (a := a) (b := b) (F.lt j hj) (sh n (Ak.dAt D j)).1 (sh n (Ak.dAt D j)).2.1
  constructor
  · unfold Ak.putE
    rw [if_neg (by rw [chk_up hc (by omega)]; simp), h1, if_neg (by have := (F.mark j hj).1; unfold mkQ at this; rw [this]; simp), if_neg (by omega)]
  · unfold Ak.told
    rw [h1]
    rfl
theorem bst_app (r : List Nat) (j : Nat) : ∀ s, bst D n a b (r ++ [j]) s = (if Rp.q (mkQ D n a b j).1 (mkQ D n a b j).2.1 < Rp.q (bst D n a b r s).2.1 (bst D n a b r s).2.2 then (j, (mkQ D n a b j).1, (mkQ D n a b j).2.1) else bst D n a b r s) := by
  induction r with
  | nil => intro s; rfl
  | cons x r ih => intro s; exact ih _
/-- The best of the first agents. -/
def bsk (D : List CkD) (n a b : Int) (l : List Nat) (s : Nat × Int × Int) (j : Nat) : Nat × Int × Int := bst D n a b (l.take j) s
theorem bsk_succ {s : Nat × Int × Int} {j : Nat} (hj : j < l.length) : bsk D n a b l s (j + 1) = (if Rp.q (mkQ D n a b (l.getD j 0)).1 (mkQ D n a b (l.getD j 0)).2.1 < Rp.q (bsk D n a b l s j).2.1 (bsk D n a b l s j).2.2 then (l.getD j 0, (mkQ D n a b (l.getD j 0)).1, (mkQ D n a b (l.getD j 0)).2.1) else bsk D n a b l s j) := by
  unfold bsk
  have e : l.take (j + 1) = l.take j ++ [l.getD j 0] := by
    rw [List.take_add_one]
    simp [hj]
  rw [e, bst_app]
end
end Kn
end Go.Proofs.YtniagnldiegamaaGreat


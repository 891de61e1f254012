/- The reference's Mark, step by step. Plain mathematics. -/
import Derived.Test.YtniagnldiegamaaGreatTru
import Derived.Test.YtniagnldiegamaaGreatGg
namespace Go.Proofs.YtniagnldiegamaaGreat
open Go.RowKit
namespace Ck
theorem mx_mx {n d a b : Int} (h : a ≤ b) : mxS (mxS n d a 1).1 (mxS n d a 1).2 b 1 = mxS n d b 1 := by
  have hc := cast_le h
  unfold mxS
  by_cases h1 : Rp.q n d < Rp.q a 1
  · rw [if_pos h1]
    have h2 : Rp.q n d < Rp.q b 1 := by
      rw [Rp.q_one] at h1 ⊢
      grind
    rw [if_pos h2]
    dsimp only
    split
    · rfl
    · next h3 =>
      rw [Rp.q_one, Rp.q_one] at h3; have h4 : b ≤ a := Rat.intCast_le_intCast.1 (Rat.not_lt.1 h3); rw [Int.le_antisymm h h4]
  · rw [if_neg h1]
theorem mx_pair {n d a b p1 p2 : Int} (hp : mxS n d a 1 = (p1, p2)) (h : a ≤ b) : mxS p1 p2 b 1 = mxS n d b 1 := by
  have e := mx_mx (n := n) (d := d) h; rw [hp] at e; exact e
theorem mn_end {len b : Int} (h : b ≤ len) : mnS len 1 b 1 = (b, 1) := by
  unfold mnS
  split
  · rfl
  · next h3 =>
    rw [Rp.q_one, Rp.q_one] at h3; have h4 : len ≤ b := Rat.intCast_le_intCast.1 (Rat.not_lt.1 h3); rw [Int.le_antisymm h4 h]
variable {len : Int} {c d : List Int} {n1 d1 p1 p2 l1 l2 : Int} {k f : Nat}
theorem mgo_a (hl : at_ c (k + 1) ≤ len) (hp : mxS n1 d1 (at_ c k) 1 = (p1, p2)) (h : at_ d k = 0 ∨ ¬ Rp.q p1 p2 < Rp.q (at_ c (k + 1)) 1) : mgo len c d n1 d1 (f + 1) k l1 l2 = mgo len c d n1 d1 f (k + 1) l1 l2 := by
  conv => lhs; unfold mgo
  rw [hp, mn_end hl, if_pos h]
theorem mgo_b (hl : at_ c (k + 1) ≤ len) (hp : mxS n1 d1 (at_ c k) 1 = (p1, p2)) (h0 : at_ d k ≠ 0) (h : Rp.q p1 p2 < Rp.q (at_ c (k + 1)) 1) {W1 W2 W3 : Int} (hW : wthS p1 p2 (at_ c (k + 1)) 1 (at_ d k) = (W1, W2, W3)) :
    mgo len c d n1 d1 (f + 1) k l1 l2 = if W3 ≠ 0 then (0, 0, 16) else if ¬ Rp.q W1 W2 < Rp.q l1 l2 then rchS p1 p2 (at_ d k) l1 l2 else if (Rp.subS l1 l2 W1 W2).2.2 ≠ 0 then (0, 0, 16) else mgo len c d n1 d1 f (k + 1) (Rp.subS l1 l2 W1 W2).1 (Rp.subS l1 l2 W1 W2).2.1 := by
  conv => lhs; unfold mgo
  rw [hp, mn_end hl, if_neg (fun e => e.elim h0 (fun e => e h)), hW]
theorem wr_wth {W : Int × Int × Int} {e : Int} (hp : mxS n1 d1 (at_ c k) 1 = (p1, p2)) (h0 : at_ d k ≠ 0) (h : Rp.q p1 p2 < Rp.q e 1) (hW : wthS p1 p2 e 1 (at_ d k) = W) : wrS (mxS p1 p2 (at_ c k) 1).1 (mxS p1 p2 (at_ c k) 1).2 (mnS e 1 e 1).1 (mnS e 1 e 1).2 (at_ d k) = W := by
  rw [mx_pair hp (Int.le_refl _), hp, mn_end (Int.le_refl _)]
  unfold wrS
  rw [if_neg (fun e => e.elim h0 (fun e => e h))]; exact hW
end Ck
end Go.Proofs.YtniagnldiegamaaGreat


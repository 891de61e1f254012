/- What the law AskPrivate wants of the answers of a desk. -/
import Derived.Test.YtniagnldiegamaaGreatSd
import Derived.Test.YtniagnldiegamaaGreatWf
import Derived.Test.YtniagnldiegamaaGreatGk
import Derived.Test.YtniagnldiegamaaGreatGl
namespace Go.Proofs.YtniagnldiegamaaGreat
open Go.RowKit
namespace Ak
/-- What is told of an answer. -/
def res (E : Int) (r : Int × Int × Int) : Int × Int := if E = 0 then (r.1, r.2.1) else (0, 0)
theorem ansS_at {D : List CkD} {k kd : Int} {j : Nat} {a b c d : Int} (hk : k = j) (hj : j < D.length) : ansS D ⟨k, kd, a, b, c, d, 0, 0⟩ = if kd = 1 then vS (dAt D j) a b c d else if kd = 2 then kS (dAt D j) a b c d else (0, 0, 2) := by
  subst hk
  unfold ansS
  dsimp only
  rw [if_pos (by omega)]
  simp
theorem putE_at {D : List CkD} {n : Nat} {q : Qr} {r : Int × Int × Int} (h : chkS D n = 0) (hr : ansS D q = r) : putE D n q = if r.2.2 ≠ 0 then r.2.2 else if n = 2000 then 4 else 0 := by
  unfold putE
  rw [if_neg (fun k => k h), hr]
end Ak
/-- The desk behind a query, where there is no error. -/
def FC (E : Int) (D : List CkD) (L : List Qr) (B : Nat) (A : Option Addr) (m ca : Nat) (Q : Option Addr) (n cq : Nat) (W : World) : Prop := E = 0 → ∃ l, m = l.length ∧ n = L.length ∧ l.map Ak.dat = D ∧ FD W B A ca l Q cq L
section
variable {E : Int} {D : List CkD} {L : List Qr} {B m ca n cq : Nat} {A Q : Option Addr} {W W' : World}
theorem FC.keep (h : FC E D L B A m ca Q n cq W) (hb : Below W.heap.size W W') : FC E D L B A m ca Q n cq W' := fun e => (h e).elim fun l k => ⟨l, k.1, k.2.1, k.2.2.1, k.2.2.2.keep hb⟩
theorem FC.mid (h : FC E D L B A m ca Q n cq W) (hb : Mid B W W') : FC E D L B A m ca Q n cq W' := fun e => (h e).elim fun l k => ⟨l, k.1, k.2.1, k.2.2.1, k.2.2.2.mid hb⟩
end
theorem PutQ.two {D : List CkD} {qs : List Qr} {q : Qr} {w w' : World} {e : Ending} (h : PutQ D qs q w e w') {E : Int} (hE : Ak.putE D qs.length q = E) {r : Int × Int × Int} (hr : Ak.ansS D q = r) :
    ∃ (A : Option Addr) (m ca : Nat) (Q : Option Addr) (n cq : Nat), e = .returned (.tuple #[.agg #[.slice A m ca, .slice Q n cq], .agg #[.int .i64 (Ak.res E r).1, .int .i64 (Ak.res E r).2], .int .i64 E]) ∧ Below w.heap.size w w' ∧ FC E D (qs ++ [{ q with x := r.1, y := r.2.1 }]) w.heap.size A m ca Q n cq w' := by
  have ht : Ak.told D q = { q with x := r.1, y := r.2.1 } := by unfold Ak.told; rw [hr]
  obtain ⟨hb, ⟨hn, he⟩ | ⟨h0, A, ca, l, Q, cq, he, hdat, hfd⟩⟩ := h
  · rw [hE] at hn he
    exact ⟨none, 0, 0, none, 0, 0, by unfold Ak.res; rw [if_neg hn]; exact he, hb, fun k => absurd k hn⟩
  · rw [hE] at h0
    rw [ht] at he hfd; subst h0; exact ⟨A, l.length, ca, Q, _, cq, by unfold Ak.res; rw [if_pos rfl]; exact he, hb, fun _ => ⟨l, rfl, rfl, hdat, hfd⟩⟩
theorem IsQs.pre {w : World} {A : Option Addr} {qs : List Qr} {q : Qr} (h : IsQs w A (qs ++ [q])) : IsQs w A qs :=
  ⟨fun h0 => by
    obtain ⟨b, off, e, hc⟩ := h.cell (by simp); refine ⟨b, off, e, fun i hi => ?_⟩; have := hc i (by simp; omega)
    rwa [show Ak.qat (qs ++ [q]) i = Ak.qat qs i by rw [Ak.qat_lt (by simp; omega), Ak.qat_lt hi, List.getElem_append_left hi]] at this, fun x hx => h.all x (by simp [hx]), by have := h.len; simp at this; omega⟩
end Go.Proofs.YtniagnldiegamaaGreat


/- RoomRange: calls and lists. -/
import Derived.Test.YtncmffhoodfhjaaLwg1
import Derived.Test.YtncmffhoodfhjaaLwg2
import Derived.Test.YtncmffhoodfhjaaLwg3
import Derived.Test.YtncmffhoodfhjaaYp
import Derived.Test.YtncmffhoodfhjaaLwq
import Derived.Test.YtncmffhoodfhjaaLwp
import Derived.Test.YtncmffhoodfhjaaLess
import Derived.Test.YtncmffhoodfhjaaYk
import Derived.Test.YtncmffhoodfhjaaYc
import Derived.Test.YtncmffhoodfhjaaYd
namespace Go.Proofs.Ytncmffhoodfhjaa
open Go.RowKit
theorem Rp.q_i64g {a n : Int} (h1 : 1 ≤ n) (h2 : n ≤ 10) (a0 : -1000000000 ≤ a) (a1 : a ≤ 1000000000) : -9223372036854775808 ≤ (Rp.q a n).num ∧ (Rp.q a n).num ≤ 9223372036854775807 ∧ -9223372036854775808 ≤ ((Rp.q a n).den : Int) ∧ ((Rp.q a n).den : Int) ≤ 9223372036854775807 := by
  obtain ⟨h1, h2, h3, h4, _⟩ := Rp.q_ok h1 (by omega) (show -1000000000000000000 ≤ a by omega) (by omega)
  omega
theorem As.ends_bdg {V : List (List Int)} {R : Int} (ok : As.Ok V) (r0 : 0 ≤ R) (r1 : R ≤ 10000000) (j : Nat) : -1000000000 ≤ As.lowN V (As.bst V) R j ∧ As.lowN V (As.bst V) R j ≤ 1000000000 ∧ -1000000000 ≤ As.highN V (As.bst V) R j ∧ As.highN V (As.bst V) R j ≤ 1000000000 := by
  have n6 := ok.n6
  have h1 := As.sum6 (f := fun i => As.lkm V (As.bst V) i j) (fun i => As.lkm_b6 ok _ _ _) (k := V.length) n6
  have h2 := As.sum6 (f := fun i => As.lkm V (As.bst V) j i) (fun i => As.lkm_b6 ok _ _ _) (k := V.length) n6
  have hlo : As.lowN V (As.bst V) R j = R + As.sm (fun i => As.lkm V (As.bst V) i j) (List.range V.length) := rfl
  have hhi : As.highN V (As.bst V) R j = R - As.sm (fun i => As.lkm V (As.bst V) j i) (List.range V.length) := rfl
  omega
theorem rr_links (A : Option Addr) (cv : Nat) (V : List (List Int)) (T : Int) (v : World) (hl : V.length ≤ maxLen) (hv : IsM v A V) (hT : As.rchk V T = 0) : Calls Try.prog 14 #[.agg #[.slice A V.length cv, .int .i64 T]] v fun e w' => ∃ X c, e = .returned (.tuple #[.slice X V.length c, .int .i64 0]) ∧ IsM w' X (As.lkt V) ∧ Below v.heap.size v w' := by
  have c := rmLinks_any A cv V T v hl hv
  have e : As.lnS V T = As.lkt V := by unfold As.lnS; rw [if_pos hT]
  unfold LnQ at c
  rw [e, lkt_len, hT] at c
  exact c
theorem rr_range (A : Option Addr) (cv : Nat) (V : List (List Int)) (T : Int) (J : Nat) (v : World) (hl : V.length ≤ maxLen) (hv : IsM v A V) (hT : As.rchk V T = 0) (hJ : J < V.length) : Calls Try.prog 13 #[.agg #[.slice A V.length cv, .int .i64 T], .int .i64 J] v fun e w' => e = .returned (.tuple #[.agg #[.int .i64 (Rp.q (As.lowN V (As.bst V) T J) V.length).num, .int .i64 ((Rp.q (As.lowN V (As.bst V) T J) V.length).den : Int)], .agg #[.int .i64 (Rp.q (As.highN V (As.bst V) T J) V.length).num, .int .i64 ((Rp.q (As.highN V (As.bst V) T J) V.length).den : Int)], .int .i64 0]) ∧ Below v.heap.size v w' := by
  have c := rmRange_any A cv V T J v hl hv
  unfold rgV As.rgS at c
  rw [if_pos hT, if_pos (show (0 : Int) ≤ (J : Int) ∧ (J : Int) < V.length by omega)] at c
  exact c
theorem rr_isI {W : World} {Bs n c : Nat} {A : Option Addr} {F : Nat → Int} (h : W.ownsRow Bs 3 1 (.slice A n c) n ((List.range n).map fun i => Value.int .i64 (F i))) (hb : ∀ j, j < n → I64 (F j)) : IsI W A (ml n F) := by
  have ho : Own W Bs (.slice A n c) (ml n F) := by
    unfold Own ml
    rw [List.length_map, List.length_range, List.map_map]
    exact h
  refine ho.isI fun x hx => ?_
  unfold ml at hx
  obtain ⟨j, hj, rfl⟩ := List.mem_map.1 hx
  exact hb j (List.mem_range.1 hj)
theorem rr_less {a n c d : Int} (h1 : 1 ≤ n) (h2 : n ≤ 1000) (a0 : -1000000000000 ≤ a) (a1 : a ≤ 1000000000000) (k1 : 1 ≤ d) (k2 : d ≤ 1000) (c0 : -1000000000000 ≤ c) (c1 : c ≤ 1000000000000) (h : ¬ Rp.q a n < Rp.q c d) (w : World) :
    Calls Try.prog 21 #[.agg #[.int .i64 (Rp.q a n).num, .int .i64 ((Rp.q a n).den : Int)], .agg #[.int .i64 (Rp.q c d).num, .int .i64 ((Rp.q c d).den : Int)]] w fun e w' => e = .returned (.bool false) ∧ Below w.heap.size w w' := by
  have k := Less_any (Rp.q a n).num ((Rp.q a n).den : Int) (Rp.q c d).num ((Rp.q c d).den : Int) (Rp.q_ok h1 (by omega) (by omega) (by omega)) (Rp.q_ok k1 (by omega) (by omega) (by omega)) w
  rw [Rp.q_self, Rp.q_self, decide_eq_false h] at k
  exact k
theorem rr_make {a n : Int} (h1 : 1 ≤ n) (h2 : n ≤ 1000) (a0 : -1000000000000 ≤ a) (a1 : a ≤ 1000000000000) (w : World) :
    Calls Try.prog 20 #[.int .i64 a, .int .i64 n] w fun e w' => e = .returned (.tuple #[.agg #[.int .i64 (Rp.q a n).num, .int .i64 ((Rp.q a n).den : Int)], .int .i64 0]) ∧ Below w.heap.size w w' := by
  have c := rMake_any a n (by omega) (by omega) (by omega) (by omega) w
  rw [Rp.makeS_q h1 (by omega) (by omega) (by omega)] at c
  exact c
end Go.Proofs.Ytncmffhoodfhjaa

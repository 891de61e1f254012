/- The part of a cake between two whole numbers: plain mathematics on lists. slices.Clone at ints; package cake's intervals. -/
import Derived.Test.YtniagnldiegamaaGreatTot
import Derived.Test.YtniagnldiegamaaGreatGi
import Derived.Test.YtniagnldiegamaaGreatGh
import Derived.Lib.SliceRun
namespace Go.Proofs.YtniagnldiegamaaGreat
namespace Ck
variable {len : Int} {c d : List Int} {a b : Int} {f g : Nat}
end Ck
end Go.Proofs.YtniagnldiegamaaGreat
namespace Go.Proofs.YtniagnldiegamaaGreat
open Go.RowKit

theorem Own.cell {w : World} {B g n cap : Nat} {xs : List Int} (h : Own w B (.slice (some ⟨g, 0, none⟩) n cap) xs) (j : Nat) (hj : j < xs.length) : w.cell? ⟨g, j, none⟩ = some (.int .i64 (Ck.at_ xs j)) := by
  have hn : n = xs.length := by
    rcases h.2 with ⟨h', _⟩ | ⟨g', cap', cur, h', _⟩
    · simp at h'
    · simp only [Value.slice.injEq] at h'
      exact h'.2.1
  subst hn; rw [World.ownsRow.cellAt h j (by omega), List.getElem?_map, List.getElem?_eq_getElem hj, Ck.at_lt hj]
  rfl

set_option maxHeartbeats 1000000 in
set_option maxRecDepth 100000 in
theorem clone_any (b off n c : Nat) (xs : List Int) (w : World) (hn : xs.length = n) (h0 : 0 < n) (h1 : n ≤ 1000) (hc : ∀ i, i < xs.length → w.cell? ⟨b, off + i, none⟩ = some (.int .i64 (Ck.at_ xs i))) :
    Calls Tryz.prog 92 #[.slice (some ⟨b, off, none⟩) n c] w fun e w' => ∃ v, e = .returned v ∧ Own w' w.heap.size v xs ∧ Below w.heap.size w w' := by
  have q : ∀ (w : World) (a : Option Addr) (n c n' c' : Nat), (binOp .eql 59 (.slice a n c) (.slice none n' c')).run Tryz.prog w = .ok (.bool a.isNone) w := fun w a n c n' c' => Lib.run_eql_slice_nil w _ _ a n c n' c' Tryz.underlying59
  obtain ⟨i0, hi0, hz0, hz1, hz2⟩ := info_parts intInfo
  have HC := Lib.hid (fun j u (hj : (xs.map (Value.int .i64))[j]? = some u) => (show (w.alloc (.cells #[] 3)).cell? ((⟨b, off, none⟩ : Addr).add j) = some u by
    rw [List.getElem?_map, Option.map_eq_some_iff] at hj; obtain ⟨x, hx, rfl⟩ := hj; obtain ⟨hj1, hj2⟩ := List.getElem?_eq_some_iff.1 hx; rw [Addr.add_lit]; have := cell_alloc (hc j hj1) (.cells #[] 3); rw [Ck.at_lt hj1, hj2] at this
    exact this))
  clear hc
  go_enter Tryz.func92, Tryz.ntmps92
  go_wp2_with (at_builtin; refine wpList_append_lies _ rfl _ _ _ rfl w.heap.size 3 i0 _ 1 8 Tryz.underlying59 hi0 hz0 hz1 hz2 rfl (by omega) (.slice (some ⟨w.heap.size, 0, none⟩) 0 0) 0 [] (by rfl) (World.ownsRow_lit w #[] 0 (Nat.le_refl _) (by decide) rfl) ⟨b, off, none⟩ n c (xs.map (Value.int .i64)) (by rfl) (by simp [hn]) HC.out (by simp [Value.oneCell']) h0 (by unfold maxLen; omega) (by omega) (by simp) (w.heap.size + 1) (by simp) ?_; intro g cap w1 hown1 hgrow hat hlt)
  go_ret
  refine ⟨_, rfl, ?_, ((Below.refl _ _).alloc (Nat.le_refl _) _).grown hgrow (by simp) (fun k e => by
    have : w.heap.size = k := by simpa [Value.ownBlock] using e
    omega)⟩
  rw [Nat.zero_add, List.nil_append] at hown1; subst hn; exact hown1

end Go.Proofs.YtniagnldiegamaaGreat


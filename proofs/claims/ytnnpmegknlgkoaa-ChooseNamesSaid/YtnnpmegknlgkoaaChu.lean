/- What ChooseNames asks besides. -/
import Derived.Test.YtnnpmegknlgkoaaChn
import Derived.Test.YtnnpmegknlgkoaaChr
namespace Go.Proofs.Ytnnpmegknlgkoaa
open Go.RowKit
theorem al7_2 : Ch.Rn [(2, [0, 2], [1]), (2, [0, 2], [1])] 1 0 1 1 1 1 1 1 1 1 0 := ⟨by decide, by decide +kernel, by decide +kernel, by decide +kernel, by decide +kernel, by decide +kernel, ⟨by decide, by decide⟩, ⟨by decide, by decide⟩, ⟨by decide, by decide⟩, ⟨by decide, by decide⟩, ⟨by decide, by decide⟩, ⟨by decide, by decide⟩, ⟨by decide, by decide⟩, ⟨by decide, by decide⟩⟩
theorem IsCs.pre {w : World} {A : Option Addr} {c d : CkR} (h : IsCs w A [c, d]) : IsCs w A [c] :=
  ⟨fun _ => by
    obtain ⟨b, off, e, hc⟩ := h.cell (by simp)
    refine ⟨b, off, e, fun i hi => ?_⟩
    obtain rfl : i = 0 := by simp at hi; exact hi
    exact hc 0 (by simp), fun x hx => h.all x (by simp at hx; simp [hx]), by unfold maxLen; simp⟩
theorem IsC.call {w v : World} {c : CkR} (h : IsC w c) (hb : Below w.heap.size w v) : IsC v c := h.keep hb
theorem IsC.al {w : World} {c : CkR} (h : IsC w c) (o : Obj) : IsC (w.alloc o) c := h.keep (below_al (Below.refl _ _) _)
theorem IsC.size {w : World} {c : CkR} (_ : IsC w c) : True := trivial
theorem isCs_nil (w : World) (A : Option Addr) : IsCs w A [] := ⟨fun h => absurd h (by simp), fun c hc => (by cases hc), by simp⟩
theorem two_of {l : List CkR} {a b : CkD} (h : l.map Ak.dat = [a, b]) : ∃ c d, l = [c, d] ∧ Ak.dat c = a ∧ Ak.dat d = b := by
  match l, h with
  | [c, d], h =>
    simp at h
    exact ⟨c, d, rfl, h.1, h.2⟩
def Ch.zc : CkR := ⟨0, none, [], 0, none, [], 0⟩
theorem isC_zero (w : World) : IsC w Ch.zc := ⟨⟨by decide, by decide⟩, ⟨by simp [maxLen, Ch.zc], by simp [maxLen, Ch.zc]⟩, ⟨fun h => absurd h (by simp [Ch.zc]), fun z hz => by cases hz⟩, ⟨fun h => absurd h (by simp [Ch.zc]), fun z hz => by cases hz⟩⟩
theorem isCs_zero {w : World} {p : Nat} (b : BK w p [.int .i64 0, .slice none 0 0, .slice none 0 0, .int .i64 0, .slice none 0 0, .slice none 0 0]) : IsCs w (some ⟨p, 0, none⟩) [Ch.zc, Ch.zc] :=
  isCs_bk (cs := [Ch.zc, Ch.zc]) b (fun c hc => by simp at hc; subst hc; exact isC_zero w) (by unfold maxLen; simp)
theorem zc_chk : Ak.chkS ([Ch.zc, Ch.zc].map Ak.dat) 0 = 8 := by decide +kernel
theorem nil_chk (n : Nat) (h : n ≤ 2000) : Ak.chkS (([] : List CkR).map Ak.dat) n = 8 := by
  unfold Ak.chkS
  rw [if_neg (by simp; omega), if_pos (by simp)]
theorem one_chk : Ak.chkS [((2 : Int), ([0, 2] : List Int), ([1] : List Int))] 0 = 0 := by decide +kernel
end Go.Proofs.Ytnnpmegknlgkoaa

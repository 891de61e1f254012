/- What PieceSums uses: sums of lengths that may have no ratio, and lengths of four pieces. -/
import Derived.Test.YtnnpmegknlgkoaaSumm
namespace Go.Proofs.Ytnnpmegknlgkoaa
open Go.RowKit
namespace Pc
theorem ofQ_val {r : Rat} (h : (Rp.ofQ r).2.2 = 0) : Rp.Ok (Rp.ofQ r).1 (Rp.ofQ r).2.1 ∧ Rp.q (Rp.ofQ r).1 (Rp.ofQ r).2.1 = r := by
  unfold Rp.ofQ Rp.low at h ⊢
  split at h
  · rename_i hh
    rw [if_pos hh]
    refine ⟨?_, Rp.q_self r⟩
    show Rp.Ok r.num r.den
    have hd := r.den_pos
    have hr := r.reduced
    refine ⟨by omega, by omega, by omega, by omega, ?_⟩
    simpa using hr
  · simp at h
theorem both_ok {n d m c : Int} (h : Rp.Ok n d) (k : Rp.Ok m c) : Rp.both n d m c = 0 := by unfold Rp.both Rp.chk; rw [if_pos h, if_pos k]
theorem addS_ok {n d m c : Int} (h : Rp.Ok n d) (k : Rp.Ok m c) : Rp.addS n d m c = Rp.ofQ (Rp.q n d + Rp.q m c) := by unfold Rp.addS; rw [if_pos (both_ok h k)]; rfl
theorem subS_ok {n d m c : Int} (h : Rp.Ok n d) (k : Rp.Ok m c) : Rp.subS n d m c = Rp.ofQ (Rp.q n d - Rp.q m c) := by unfold Rp.subS; rw [if_pos (both_ok h k)]
theorem sumF_val {mf : Rat × Rat → Int × Int × Int} {g : Rat → Rat} : ∀ {L : List (Rat × Rat)} {a b : Int}, (∀ s ∈ L, (mf s).2.2 = 0 → Rp.Ok (mf s).1 (mf s).2.1 ∧ Rp.q (mf s).1 (mf s).2.1 = g s.2 - g s.1) → Rp.Ok a b → (sumF mf L a b).2.2 = 0 →
    Rp.Ok (sumF mf L a b).1 (sumF mf L a b).2.1 ∧ Rp.q (sumF mf L a b).1 (sumF mf L a b).2.1 = Rp.q a b + sumG g L
  | [], a, b, _, ho, _ => ⟨ho, by simp [sumF, sumG]; grind⟩
  | s :: L, a, b, hm, ho, h => by
    unfold sumF at h ⊢
    by_cases h1 : (mf s).2.2 = 0
    · rw [if_pos h1] at h ⊢
      obtain ⟨m1, m2⟩ := hm s (by simp) h1
      rw [addS_ok ho m1] at h ⊢
      by_cases h2 : (Rp.ofQ (Rp.q a b + Rp.q (mf s).1 (mf s).2.1)).2.2 = 0
      · rw [if_pos h2] at h ⊢
        obtain ⟨o1, o2⟩ := ofQ_val h2
        obtain ⟨i1, i2⟩ := sumF_val (fun t ht => hm t (by simp [ht])) o1 h
        refine ⟨i1, ?_⟩
        rw [i2, o2, m2]
        show _ = Rp.q a b + ((g s.2 - g s.1) + sumG g L)
        grind
      · rw [if_neg h2] at h
        exact absurd h h2
    · rw [if_neg h1] at h
      exact absurd h h1
theorem lenM_val {s : Rat × Rat} (h1 : Fit s.1) (h2 : Fit s.2) (h : (lenM s).2.2 = 0) : Rp.Ok (lenM s).1 (lenM s).2.1 ∧ Rp.q (lenM s).1 (lenM s).2.1 = s.2 - s.1 := by
  have e : lenM s = Rp.ofQ (s.2 - s.1) := by unfold lenM; rw [subS_ok h2 h1, Rp.q_self, Rp.q_self]
  rw [e] at h ⊢
  exact ofQ_val h
theorem lenS_val {L : List (Rat × Rat)} (g : Good L) (h : (lenS (L.map raw)).2.2 = 0) : Rp.Ok (lenS (L.map raw)).1 (lenS (L.map raw)).2.1 ∧ Rp.q (lenS (L.map raw)).1 (lenS (L.map raw)).2.1 = sumG (fun x => x) L := by
  have e : lenS (L.map raw) = sumF lenM L 0 1 := by unfold lenS; rw [if_pos (chk_of_good g), map_toQ_raw]
  rw [e] at h ⊢
  have := sumF_val (mf := lenM) (g := fun x => x) (fun s hs h0 => by
    obtain ⟨k, hk, rfl⟩ := List.mem_iff_getElem.1 hs
    have hm := mem_ends1 hk
    rw [sat_lt hk] at hm
    exact lenM_val (g.fit _ hm.1) (g.fit _ hm.2) h0) (show Rp.Ok 0 1 by decide) h
  refine ⟨this.1, ?_⟩
  rw [this.2, show Rp.q 0 1 = 0 from rfl]
  grind
end Pc

end Go.Proofs.Ytnnpmegknlgkoaa

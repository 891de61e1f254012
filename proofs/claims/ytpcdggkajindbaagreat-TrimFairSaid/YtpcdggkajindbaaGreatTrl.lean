/- What the law of package trim asks: three, fit, SameTurns, alive. -/
import Derived.Test.YtpcdggkajindbaaGreatTrh
import Derived.Test.YtpcdggkajindbaaGreatGw
import Derived.Test.YtpcdggkajindbaaGreatGl
namespace Go.Proofs.YtpcdggkajindbaaGreat
open Go.RowKit
theorem three_lay (w : World) : CRow w w.heap.size 48 (.slice (some ⟨w.heap.size + 6, 0, none⟩) 3 3) [⟨6, some ⟨w.heap.size, 0, none⟩, [0, 6], 2, some ⟨w.heap.size + 1, 0, none⟩, [1], 1⟩, ⟨6, some ⟨w.heap.size + 2, 0, none⟩, [0, 4, 6], 3, some ⟨w.heap.size + 3, 0, none⟩, [1, 4], 2⟩, ⟨6, some ⟨w.heap.size + 4, 0, none⟩, [0, 2, 6], 3, some ⟨w.heap.size + 5, 0, none⟩, [2, 0], 2⟩] (((((((w.alloc (.cells #[.int .i64 0, .int .i64 6] 3)).alloc (.cells #[.int .i64 1] 3)).alloc (.cells #[.int .i64 0, .int .i64 4, .int .i64 6] 3)).alloc (.cells #[.int .i64 1, .int .i64 4] 3)).alloc (.cells #[.int .i64 0, .int .i64 2, .int .i64 6] 3)).alloc (.cells #[.int .i64 2, .int .i64 0] 3)).alloc (.cells #[.int .i64 6, .slice (some ⟨w.heap.size, 0, none⟩) 2 2, .slice (some ⟨w.heap.size + 1, 0, none⟩) 1 1, .int .i64 6, .slice (some ⟨w.heap.size + 2, 0, none⟩) 3 3, .slice (some ⟨w.heap.size + 3, 0, none⟩) 2 2, .int .i64 6, .slice (some ⟨w.heap.size + 4, 0, none⟩) 3 3, .slice (some ⟨w.heap.size + 5, 0, none⟩) 2 2] 48)) := by
  have b0 : BK (((((((w.alloc (.cells #[.int .i64 0, .int .i64 6] 3)).alloc (.cells #[.int .i64 1] 3)).alloc (.cells #[.int .i64 0, .int .i64 4, .int .i64 6] 3)).alloc (.cells #[.int .i64 1, .int .i64 4] 3)).alloc (.cells #[.int .i64 0, .int .i64 2, .int .i64 6] 3)).alloc (.cells #[.int .i64 2, .int .i64 0] 3)).alloc (.cells #[.int .i64 6, .slice (some ⟨w.heap.size, 0, none⟩) 2 2, .slice (some ⟨w.heap.size + 1, 0, none⟩) 1 1, .int .i64 6, .slice (some ⟨w.heap.size + 2, 0, none⟩) 3 3, .slice (some ⟨w.heap.size + 3, 0, none⟩) 2 2, .int .i64 6, .slice (some ⟨w.heap.size + 4, 0, none⟩) 3 3, .slice (some ⟨w.heap.size + 5, 0, none⟩) 2 2] 48)) (w.heap.size) [.int .i64 0, .int .i64 6] := by have b := (((((((BK.new w [.int .i64 0, .int .i64 6] 3).al (.cells #[.int .i64 1] 3)).al (.cells #[.int .i64 0, .int .i64 4, .int .i64 6] 3)).al (.cells #[.int .i64 1, .int .i64 4] 3)).al (.cells #[.int .i64 0, .int .i64 2, .int .i64 6] 3)).al (.cells #[.int .i64 2, .int .i64 0] 3)).al (.cells #[.int .i64 6, .slice (some ⟨w.heap.size, 0, none⟩) 2 2, .slice (some ⟨w.heap.size + 1, 0, none⟩) 1 1, .int .i64 6, .slice (some ⟨w.heap.size + 2, 0, none⟩) 3 3, .slice (some ⟨w.heap.size + 3, 0, none⟩) 2 2, .int .i64 6, .slice (some ⟨w.heap.size + 4, 0, none⟩) 3 3, .slice (some ⟨w.heap.size + 5, 0, none⟩) 2 2] 48)); simpa only [World.size_alloc] using b
  have b1 : BK (((((((w.alloc (.cells #[.int .i64 0, .int .i64 6] 3)).alloc (.cells #[.int .i64 1] 3)).alloc (.cells #[.int .i64 0, .int .i64 4, .int .i64 6] 3)).alloc (.cells #[.int .i64 1, .int .i64 4] 3)).alloc (.cells #[.int .i64 0, .int .i64 2, .int .i64 6] 3)).alloc (.cells #[.int .i64 2, .int .i64 0] 3)).alloc (.cells #[.int .i64 6, .slice (some ⟨w.heap.size, 0, none⟩) 2 2, .slice (some ⟨w.heap.size + 1, 0, none⟩) 1 1, .int .i64 6, .slice (some ⟨w.heap.size + 2, 0, none⟩) 3 3, .slice (some ⟨w.heap.size + 3, 0, none⟩) 2 2, .int .i64 6, .slice (some ⟨w.heap.size + 4, 0, none⟩) 3 3, .slice (some ⟨w.heap.size + 5, 0, none⟩) 2 2] 48)) (w.heap.size + 1) [.int .i64 1] := by have b := ((((((BK.new (w.alloc (.cells #[.int .i64 0, .int .i64 6] 3)) [.int .i64 1] 3).al (.cells #[.int .i64 0, .int .i64 4, .int .i64 6] 3)).al (.cells #[.int .i64 1, .int .i64 4] 3)).al (.cells #[.int .i64 0, .int .i64 2, .int .i64 6] 3)).al (.cells #[.int .i64 2, .int .i64 0] 3)).al (.cells #[.int .i64 6, .slice (some ⟨w.heap.size, 0, none⟩) 2 2, .slice (some ⟨w.heap.size + 1, 0, none⟩) 1 1, .int .i64 6, .slice (some ⟨w.heap.size + 2, 0, none⟩) 3 3, .slice (some ⟨w.heap.size + 3, 0, none⟩) 2 2, .int .i64 6, .slice (some ⟨w.heap.size + 4, 0, none⟩) 3 3, .slice (some ⟨w.heap.size + 5, 0, none⟩) 2 2] 48)); simpa only [World.size_alloc] using b
  have b2 : BK (((((((w.alloc (.cells #[.int .i64 0, .int .i64 6] 3)).alloc (.cells #[.int .i64 1] 3)).alloc (.cells #[.int .i64 0, .int .i64 4, .int .i64 6] 3)).alloc (.cells #[.int .i64 1, .int .i64 4] 3)).alloc (.cells #[.int .i64 0, .int .i64 2, .int .i64 6] 3)).alloc (.cells #[.int .i64 2, .int .i64 0] 3)).alloc (.cells #[.int .i64 6, .slice (some ⟨w.heap.size, 0, none⟩) 2 2, .slice (some ⟨w.heap.size + 1, 0, none⟩) 1 1, .int .i64 6, .slice (some ⟨w.heap.size + 2, 0, none⟩) 3 3, .slice (some ⟨w.heap.size + 3, 0, none⟩) 2 2, .int .i64 6, .slice (some ⟨w.heap.size + 4, 0, none⟩) 3 3, .slice (some ⟨w.heap.size + 5, 0, none⟩) 2 2] 48)) (w.heap.size + 2) [.int .i64 0, .int .i64 4, .int .i64 6] := by have b := (((((BK.new ((w.alloc (.cells #[.int .i64 0, .int .i64 6] 3)).alloc (.cells #[.int .i64 1] 3)) [.int .i64 0, .int .i64 4, .int .i64 6] 3).al (.cells #[.int .i64 1, .int .i64 4] 3)).al (.cells #[.int .i64 0, .int .i64 2, .int .i64 6] 3)).al (.cells #[.int .i64 2, .int .i64 0] 3)).al (.cells #[.int .i64 6, .slice (some ⟨w.heap.size, 0, none⟩) 2 2, .slice (some ⟨w.heap.size + 1, 0, none⟩) 1 1, .int .i64 6, .slice (some ⟨w.heap.size + 2, 0, none⟩) 3 3, .slice (some ⟨w.heap.size + 3, 0, none⟩) 2 2, .int .i64 6, .slice (some ⟨w.heap.size + 4, 0, none⟩) 3 3, .slice (some ⟨w.heap.size + 5, 0, none⟩) 2 2] 48)); simpa only [World.size_alloc] using b
  have b3 : BK (((((((w.alloc (.cells #[.int .i64 0, .int .i64 6] 3)).alloc (.cells #[.int .i64 1] 3)).alloc (.cells #[.int .i64 0, .int .i64 4, .int .i64 6] 3)).alloc (.cells #[.int .i64 1, .int .i64 4] 3)).alloc (.cells #[.int .i64 0, .int .i64 2, .int .i64 6] 3)).alloc (.cells #[.int .i64 2, .int .i64 0] 3)).alloc (.cells #[.int .i64 6, .slice (some ⟨w.heap.size, 0, none⟩) 2 2, .slice (some ⟨w.heap.size + 1, 0, none⟩) 1 1, .int .i64 6, .slice (some ⟨w.heap.size + 2, 0, none⟩) 3 3, .slice (some ⟨w.heap.size + 3, 0, none⟩) 2 2, .int .i64 6, .slice (some ⟨w.heap.size + 4, 0, none⟩) 3 3, .slice (some ⟨w.heap.size + 5, 0, none⟩) 2 2] 48)) (w.heap.size + 3) [.int .i64 1, .int .i64 4] := by have b := ((((BK.new (((w.alloc (.cells #[.int .i64 0, .int .i64 6] 3)).alloc (.cells #[.int .i64 1] 3)).alloc (.cells #[.int .i64 0, .int .i64 4, .int .i64 6] 3)) [.int .i64 1, .int .i64 4] 3).al (.cells #[.int .i64 0, .int .i64 2, .int .i64 6] 3)).al (.cells #[.int .i64 2, .int .i64 0] 3)).al (.cells #[.int .i64 6, .slice (some ⟨w.heap.size, 0, none⟩) 2 2, .slice (some ⟨w.heap.size + 1, 0, none⟩) 1 1, .int .i64 6, .slice (some ⟨w.heap.size + 2, 0, none⟩) 3 3, .slice (some ⟨w.heap.size + 3, 0, none⟩) 2 2, .int .i64 6, .slice (some ⟨w.heap.size + 4, 0, none⟩) 3 3, .slice (some ⟨w.heap.size + 5, 0, none⟩) 2 2] 48)); simpa only [World.size_alloc] using b
  have b4 : BK (((((((w.alloc (.cells #[.int .i64 0, .int .i64 6] 3)).alloc (.cells #[.int .i64 1] 3)).alloc (.cells #[.int .i64 0, .int .i64 4, .int .i64 6] 3)).alloc (.cells #[.int .i64 1, .int .i64 4] 3)).alloc (.cells #[.int .i64 0, .int .i64 2, .int .i64 6] 3)).alloc (.cells #[.int .i64 2, .int .i64 0] 3)).alloc (.cells #[.int .i64 6, .slice (some ⟨w.heap.size, 0, none⟩) 2 2, .slice (some ⟨w.heap.size + 1, 0, none⟩) 1 1, .int .i64 6, .slice (some ⟨w.heap.size + 2, 0, none⟩) 3 3, .slice (some ⟨w.heap.size + 3, 0, none⟩) 2 2, .int .i64 6, .slice (some ⟨w.heap.size + 4, 0, none⟩) 3 3, .slice (some ⟨w.heap.size + 5, 0, none⟩) 2 2] 48)) (w.heap.size + 4) [.int .i64 0, .int .i64 2, .int .i64 6] := by have b := (((BK.new ((((w.alloc (.cells #[.int .i64 0, .int .i64 6] 3)).alloc (.cells #[.int .i64 1] 3)).alloc (.cells #[.int .i64 0, .int .i64 4, .int .i64 6] 3)).alloc (.cells #[.int .i64 1, .int .i64 4] 3)) [.int .i64 0, .int .i64 2, .int .i64 6] 3).al (.cells #[.int .i64 2, .int .i64 0] 3)).al (.cells #[.int .i64 6, .slice (some ⟨w.heap.size, 0, none⟩) 2 2, .slice (some ⟨w.heap.size + 1, 0, none⟩) 1 1, .int .i64 6, .slice (some ⟨w.heap.size + 2, 0, none⟩) 3 3, .slice (some ⟨w.heap.size + 3, 0, none⟩) 2 2, .int .i64 6, .slice (some ⟨w.heap.size + 4, 0, none⟩) 3 3, .slice (some ⟨w.heap.size + 5, 0, none⟩) 2 2] 48)); simpa only [World.size_alloc] using b
  have b5 : BK (((((((w.alloc (.cells #[.int .i64 0, .int .i64 6] 3)).alloc (.cells #[.int .i64 1] 3)).alloc (.cells #[.int .i64 0, .int .i64 4, .int .i64 6] 3)).alloc (.cells #[.int .i64 1, .int .i64 4] 3)).alloc (.cells #[.int .i64 0, .int .i64 2, .int .i64 6] 3)).alloc (.cells #[.int .i64 2, .int .i64 0] 3)).alloc (.cells #[.int .i64 6, .slice (some ⟨w.heap.size, 0, none⟩) 2 2, .slice (some ⟨w.heap.size + 1, 0, none⟩) 1 1, .int .i64 6, .slice (some ⟨w.heap.size + 2, 0, none⟩) 3 3, .slice (some ⟨w.heap.size + 3, 0, none⟩) 2 2, .int .i64 6, .slice (some ⟨w.heap.size + 4, 0, none⟩) 3 3, .slice (some ⟨w.heap.size + 5, 0, none⟩) 2 2] 48)) (w.heap.size + 5) [.int .i64 2, .int .i64 0] := by have b := ((BK.new (((((w.alloc (.cells #[.int .i64 0, .int .i64 6] 3)).alloc (.cells #[.int .i64 1] 3)).alloc (.cells #[.int .i64 0, .int .i64 4, .int .i64 6] 3)).alloc (.cells #[.int .i64 1, .int .i64 4] 3)).alloc (.cells #[.int .i64 0, .int .i64 2, .int .i64 6] 3)) [.int .i64 2, .int .i64 0] 3).al (.cells #[.int .i64 6, .slice (some ⟨w.heap.size, 0, none⟩) 2 2, .slice (some ⟨w.heap.size + 1, 0, none⟩) 1 1, .int .i64 6, .slice (some ⟨w.heap.size + 2, 0, none⟩) 3 3, .slice (some ⟨w.heap.size + 3, 0, none⟩) 2 2, .int .i64 6, .slice (some ⟨w.heap.size + 4, 0, none⟩) 3 3, .slice (some ⟨w.heap.size + 5, 0, none⟩) 2 2] 48)); simpa only [World.size_alloc] using b
  refine ⟨below_al (below_al (below_al (below_al (below_al (below_al (below_al ((Below.refl _ _)) _) _) _) _) _) _) _, Nat.le_refl _, by simp only [World.size_alloc]; omega, ?_, ?_⟩
  · have h := World.ownsRow_lit (base := w.heap.size) (e := 48) (size := 3) ((((((w.alloc (.cells #[.int .i64 0, .int .i64 6] 3)).alloc (.cells #[.int .i64 1] 3)).alloc (.cells #[.int .i64 0, .int .i64 4, .int .i64 6] 3)).alloc (.cells #[.int .i64 1, .int .i64 4] 3)).alloc (.cells #[.int .i64 0, .int .i64 2, .int .i64 6] 3)).alloc (.cells #[.int .i64 2, .int .i64 0] 3)) #[.int .i64 6, .slice (some ⟨w.heap.size, 0, none⟩) 2 2, .slice (some ⟨w.heap.size + 1, 0, none⟩) 1 1, .int .i64 6, .slice (some ⟨w.heap.size + 2, 0, none⟩) 3 3, .slice (some ⟨w.heap.size + 3, 0, none⟩) 2 2, .int .i64 6, .slice (some ⟨w.heap.size + 4, 0, none⟩) 3 3, .slice (some ⟨w.heap.size + 5, 0, none⟩) 2 2] 3 (by simp only [World.size_alloc]; omega) (by decide) rfl
    simp only [World.size_alloc] at h
    exact h
  · intro c hc
    simp only [List.mem_cons, List.not_mem_nil, or_false] at hc
    rcases hc with rfl | rfl | rfl
    · exact ⟨(show I64 6 from ⟨by decide, by decide⟩), ⟨by simp [maxLen], by simp [maxLen]⟩, isG_bk (zs := [0, 6]) b0 (by intro z hz; simp at hz; rcases hz with rfl | rfl <;> exact ⟨by decide, by decide⟩) (by omega) (by simp [Value.ownBlock]), isG_bk (zs := [1]) b1 (by intro z hz; simp at hz; subst hz; exact ⟨by decide, by decide⟩) (by omega) (by simp [Value.ownBlock])⟩
    · exact ⟨(show I64 6 from ⟨by decide, by decide⟩), ⟨by simp [maxLen], by simp [maxLen]⟩, isG_bk (zs := [0, 4, 6]) b2 (by intro z hz; simp at hz; rcases hz with rfl | rfl | rfl <;> exact ⟨by decide, by decide⟩) (by omega) (by simp [Value.ownBlock]), isG_bk (zs := [1, 4]) b3 (by intro z hz; simp at hz; rcases hz with rfl | rfl <;> exact ⟨by decide, by decide⟩) (by omega) (by simp [Value.ownBlock])⟩
    · exact ⟨(show I64 6 from ⟨by decide, by decide⟩), ⟨by simp [maxLen], by simp [maxLen]⟩, isG_bk (zs := [0, 2, 6]) b4 (by intro z hz; simp at hz; rcases hz with rfl | rfl | rfl <;> exact ⟨by decide, by decide⟩) (by omega) (by simp [Value.ownBlock]), isG_bk (zs := [2, 0]) b5 (by intro z hz; simp at hz; rcases hz with rfl | rfl <;> exact ⟨by decide, by decide⟩) (by omega) (by simp [Value.ownBlock])⟩
/-- What three gives. -/
def ThreeQ (w : World) (e : Ending) (w' : World) : Prop := ∃ (P : Nat) (l : List CkR), e = .returned (.slice (some ⟨P, 0, none⟩) 3 3) ∧ l.length = 3 ∧ l.map Ak.dat = [(6, [0, 6], [1]), (6, [0, 4, 6], [1, 4]), (6, [0, 2, 6], [2, 0])] ∧ CRow w w.heap.size 48 (.slice (some ⟨P, 0, none⟩) 3 3) l w'
set_option linter.unusedSimpArgs false in
set_option maxHeartbeats 8000000 in
set_option maxRecDepth 100000 in
theorem three8_any (w : World) : Calls Tryz.prog 39 #[] w (ThreeQ w) := by
  unfold ThreeQ
  go_enter Tryz.func39, Tryz.ntmps39
  go_wp2_with fail
  go_ret
  first
    | exact ⟨_, _, rfl, rfl, rfl, three_lay w⟩
    | exact ⟨_, rfl, _, rfl, rfl, three_lay w⟩
namespace Ch
def fitP8 (D : List CkD) : Bool := !Ak.greatCs D && decide (Ak.chkS D 0 = 0)
theorem fit8_of {D : List CkD} (h : fitP8 D = true) : Ak.chkS D 0 = 0 := by
  unfold fitP8 at h
  rw [Bool.and_eq_true] at h; exact of_decide_eq_true h.2
def tnz : Tn := ⟨0, 0, 0, 0, 0, 0⟩
/-- A turn in memory. -/
def T6 (f : Nat → Option Value) (t : Tn) : Prop := f 0 = some (.int .i64 (t.ag : Nat)) ∧ f 1 = some (.int .i64 t.a) ∧ f 2 = some (.int .i64 t.b) ∧ f 3 = some (.int .i64 t.x) ∧ f 4 = some (.int .i64 t.y) ∧ f 5 = some (.int .i64 (t.t : Nat))
theorem tcells_at : ∀ {T : List Tn} {i : Nat}, i < T.length → T6 (fun j => (tcells T)[i * 6 + j]?) (T.getD i tnz)
  | x :: T, 0, _ => ⟨rfl, rfl, rfl, rfl, rfl, rfl⟩
  | x :: T, i + 1, h => by
    have ih := tcells_at (T := T) (i := i) (by simpa using h)
    have e : ∀ j, (tcells (x :: T))[(i + 1) * 6 + j]? = (tcells T)[i * 6 + j]? := fun j => by
      rw [show (i + 1) * 6 + j = i * 6 + j + 6 by omega]
      rfl
    unfold T6 at ih ⊢
    simp only [e]
    exact ih
end Ch
/-- A slice of turns. -/
def IsTs (w : World) (A : Option Addr) (T : List Ch.Tn) : Prop := ∃ b o, (0 < T.length → A = some ⟨b, o, none⟩) ∧ ∀ k, k < T.length → Ch.T6 (fun j => w.cell? ⟨b, o + k * 6 + j, none⟩) (T.getD k Ch.tnz)
theorem IsTs.keep {w v : World} {A : Option Addr} {T : List Ch.Tn} (h : IsTs w A T) (hb : Below w.heap.size w v) : IsTs v A T := by
  obtain ⟨b, o, h1, h2⟩ := h; refine ⟨b, o, h1, fun k hk => ?_⟩; obtain ⟨a0, a1, a2, a3, a4, a5⟩ := h2 k hk; exact ⟨keepC hb a0, keepC hb a1, keepC hb a2, keepC hb a3, keepC hb a4, keepC hb a5⟩
theorem isTs_bk {w : World} {p : Nat} {T : List Ch.Tn} (h : BK w p (Ch.tcells T)) : IsTs w (some ⟨p, 0, none⟩) T :=
  ⟨p, 0, fun _ => rfl, fun k hk => by
    obtain ⟨a0, a1, a2, a3, a4, a5⟩ := Ch.tcells_at hk
    simp only [Nat.zero_add]
    exact ⟨h.c _ a0, h.c _ a1, h.c _ a2, h.c _ a3, h.c _ a4, h.c _ a5⟩⟩
theorem isTs_row {w : World} {B : Nat} {e : TypeId} {A : Option Addr} {n cap : Nat} {T : List Ch.Tn} (h : w.ownsRow B e 6 (.slice A n cap) n (Ch.tcells T)) (hn : n = T.length) : IsTs w A T := by
  by_cases h0 : 0 < T.length
  · obtain ⟨g, cap', hv, _, hlt⟩ := World.ownsRow.form h (by omega)
    simp only [Value.slice.injEq] at hv
    obtain ⟨rfl, _, rfl⟩ := hv; refine ⟨g, 0, fun _ => rfl, fun i hi => ?_⟩; have := Ch.tcells_at hi
    unfold Ch.T6 at this ⊢
    simp only [Nat.zero_add]
    rw [World.ownsRow.cellAt h (i * 6 + 0) (by omega), World.ownsRow.cellAt h (i * 6 + 1) (by omega), World.ownsRow.cellAt h (i * 6 + 2) (by omega), World.ownsRow.cellAt h (i * 6 + 3) (by omega), World.ownsRow.cellAt h (i * 6 + 4) (by omega), World.ownsRow.cellAt h (i * 6 + 5) (by omega)]; exact this
  · exact ⟨0, 0, fun k => absurd k h0, fun k hk => absurd hk (by omega)⟩
set_option linter.unusedSimpArgs false in
set_option maxHeartbeats 8000000 in
set_option maxRecDepth 100000 in
theorem fit8_any (A : Option Addr) (ca : Nat) (cs : List CkR) (w : World) (h : IsCs w A cs) :
    Calls Tryz.prog 14 #[.slice A cs.length ca] w fun e w' => e = .returned (.bool (Ch.fitP8 (cs.map Ak.dat))) ∧ Below w.heap.size w w' := by
  have gr := rGreatCakes_any A ca cs w h
  have ck := fun v (hv : Below w.heap.size w v) => rAskCheck_any A ca cs none 0 0 v (by simp) (h.keep hv)
  unfold Ch.fitP8
  clear h
  cases hg : Ak.greatCs (cs.map Ak.dat)
  case true =>
    rw [hg] at gr; have GR := Lib.hid gr; clear gr ck hg
    go_enter Tryz.func14, Tryz.ntmps14
    (go_wp2_with fail); refine GR.out.mono ?_; rintro e w1 ⟨rfl, hb⟩; (go_wp2_with fail)
    go_ret
    exact ⟨rfl, hb⟩
  rw [hg] at gr
  generalize Ak.chkS (cs.map Ak.dat) 0 = E at *
  have GR := Lib.hid gr; have CK := Lib.hid ck; clear gr ck hg
  go_enter Tryz.func14, Tryz.ntmps14
  (go_wp2_with fail); refine GR.out.mono ?_; rintro e w1 ⟨rfl, hb⟩; (go_wp2_with fail); refine (CK.out _ hb).mono ?_; rintro e w2 ⟨rfl, hb2⟩; (go_wp2_with fail)
  go_ret
  exact ⟨by first | rfl | simp, keepB hb hb2⟩
set_option linter.unusedSimpArgs false in
set_option maxHeartbeats 8000000 in
set_option maxRecDepth 100000 in
theorem rSameTurns_eq (A B : Option Addr) (ca cb : Nat) (T : List Ch.Tn) (w : World) (ha : IsTs w A T) (hb : IsTs w B T) (hl : T.length ≤ 6) :
    Calls Tryz.prog 40 #[.slice A T.length ca, .slice B T.length cb] w fun e w' => e = .returned (.bool true) ∧ Below w.heap.size w w' := by
  obtain ⟨b1, o1, hA, hc⟩ := ha; obtain ⟨b2, o2, hB, hd⟩ := hb; obtain ⟨nt, hnt⟩ : ∃ z, T.length = z := ⟨_, rfl⟩; rw [hnt] at hA hB hc hd hl ⊢; have HC := Lib.hid hc; have HD := Lib.hid hd; have HA := Lib.hid hA; have HB := Lib.hid hB; clear hc hd hA hB hnt
  go_enter Tryz.func40, Tryz.ntmps40
  go_wp2_with fail
  go_loopw [5] (fun i W => ∃ k : Nat, k ≤ nt ∧ i = .int .i64 k ∧ Below w.heap.size w W) (fun i _ => nt - (intOf i).toNat)
  case atStart => exact ⟨0, Nat.zero_le _, rfl, Below.refl _ _⟩
  case round =>
    obtain ⟨k, hk, rfl, hbb⟩ := hrel
    by_cases hlt : k < nt
    · have hA' := HA.out (by omega)
      subst hA'; have hB' := HB.out (by omega); subst hB'; obtain ⟨c0, c1, c2, c3, c4, c5⟩ := HC.out k hlt; obtain ⟨d0, d1, d2, d3, d4, d5⟩ := HD.out k hlt
      generalize T.getD k Ch.tnz = s at *
      dsimp only at c0 c1 c2 c3 c4 c5 d0 d1 d2 d3 d4 d5; rw [Nat.add_zero] at c0 d0; replace c0 := keepC hbb c0; replace c1 := keepC hbb c1; replace c2 := keepC hbb c2; replace c3 := keepC hbb c3; replace c4 := keepC hbb c4; replace c5 := keepC hbb c5; replace d0 := keepC hbb d0; replace d1 := keepC hbb d1; replace d2 := keepC hbb d2; replace d3 := keepC hbb d3; replace d4 := keepC hbb d4; replace d5 := keepC hbb d5
      have i1 : (0 : Int) ≤ (k : Int) := by omega
      have i2 : (k : Int) < (nt : Int) := by omega
      go_upto_region 6 with fail
      refine at_worldQ (fun v => Below w.heap.size w v ∧ v.cell? ⟨b1, o1 + k * 6, none⟩ = some (.int .i64 (s.ag : Nat)) ∧ v.cell? ⟨b1, o1 + k * 6 + 1, none⟩ = some (.int .i64 s.a) ∧ v.cell? ⟨b1, o1 + k * 6 + 2, none⟩ = some (.int .i64 s.b) ∧ v.cell? ⟨b1, o1 + k * 6 + 3, none⟩ = some (.int .i64 s.x) ∧ v.cell? ⟨b1, o1 + k * 6 + 4, none⟩ = some (.int .i64 s.y) ∧ v.cell? ⟨b1, o1 + k * 6 + 5, none⟩ = some (.int .i64 (s.t : Nat)) ∧ v.cell? ⟨b2, o2 + k * 6, none⟩ = some (.int .i64 (s.ag : Nat)) ∧ v.cell? ⟨b2, o2 + k * 6 + 1, none⟩ = some (.int .i64 s.a) ∧ v.cell? ⟨b2, o2 + k * 6 + 2, none⟩ = some (.int .i64 s.b) ∧ v.cell? ⟨b2, o2 + k * 6 + 3, none⟩ = some (.int .i64 s.x) ∧ v.cell? ⟨b2, o2 + k * 6 + 4, none⟩ = some (.int .i64 s.y) ∧ v.cell? ⟨b2, o2 + k * 6 + 5, none⟩ = some (.int .i64 (s.t : Nat))) ⟨hbb, c0, c1, c2, c3, c4, c5, d0, d1, d2, d3, d4, d5⟩ (fun V hS => ?_); clear hbb c0 c1 c2 c3 c4 c5 d0 d1 d2 d3 d4 d5; obtain ⟨hbb, c0, c1, c2, c3, c4, c5, d0, d1, d2, d3, d4, d5⟩ := hS; refine wp_region_noPanic ?_; refine wp_region_held_drew (S := (Below V.heap.size V)) (by kernel_rfl) ((Below.refl _ _).drew) (fun hHeld => ?_); refine at_anyH (Below V.heap.size V) hHeld (fun ws0 hNew => ?_); clear hHeld; have hHeld := hNew; clear hNew; refine tkn 0 ?vs1 rfl ?hys1 hHeld ?rests1
      case hys1 => (intro w hSw; go_simp; first | done | (with_reducible rfl))
      (try simp only [PPz]); refine tkn 1 ?vs2 rfl ?hys2 hHeld ?rests2
      case hys2 => (intro w hSw; go_simp; first | done | (with_reducible rfl))
      (try simp only [PPz]); refine tkn 2 ?vs3 rfl ?hys3 hHeld ?rests3
      case hys3 => (intro w hSw; go_simp; first | done | (with_reducible rfl))
      (try simp only [PPz]); refine tkn 3 ?vs4 rfl ?hys4 hHeld ?rests4
      case hys4 => (intro w hSw; have kc0 := keepC hSw c0; have kc1 := keepC hSw c1; have kc2 := keepC hSw c2; have kc3 := keepC hSw c3; have kc4 := keepC hSw c4; have kc5 := keepC hSw c5; have kd0 := keepC hSw d0; have kd1 := keepC hSw d1; have kd2 := keepC hSw d2; have kd3 := keepC hSw d3; have kd4 := keepC hSw d4; have kd5 := keepC hSw d5; go_simp; first | done | (with_reducible rfl))
      (try simp only [PPz]); refine tkn 4 ?vs5 rfl ?hys5 hHeld ?rests5
      case hys5 => (intro w hSw; go_simp; first | done | (with_reducible rfl))
      (try simp only [PPz]); refine tkn 5 ?vs6 rfl ?hys6 hHeld ?rests6
      case hys6 => (intro w hSw; go_simp; first | done | (with_reducible rfl))
      (try simp only [PPz]); refine tkn 6 ?vs7 rfl ?hys7 hHeld ?rests7
      case hys7 => (intro w hSw; go_simp; first | done | (with_reducible rfl))
      (try simp only [PPz]); refine tkn 7 ?vs8 rfl ?hys8 hHeld ?rests8
      case hys8 => (intro w hSw; have kc0 := keepC hSw c0; have kc1 := keepC hSw c1; have kc2 := keepC hSw c2; have kc3 := keepC hSw c3; have kc4 := keepC hSw c4; have kc5 := keepC hSw c5; have kd0 := keepC hSw d0; have kd1 := keepC hSw d1; have kd2 := keepC hSw d2; have kd3 := keepC hSw d3; have kd4 := keepC hSw d4; have kd5 := keepC hSw d5; go_simp; first | done | (with_reducible rfl))
      (try simp only [PPz]); refine tkn 8 ?vs9 rfl ?hys9 hHeld ?rests9
      case hys9 => (intro w hSw; go_simp; first | done | (with_reducible rfl))
      (try simp only [PPz]); refine wpAnyH_done (by kernel_rfl) ?_ _; refine NoPanic.normal ?_; replace hbb := keepB hbb hHeld; (go_wp2_with fail)
      go_roundw
      case rel => exact ⟨k + 1, by omega, by go_num, hbb⟩
      case measure => simp [intOf]; omega
    · obtain rfl : k = nt := by omega
      have i1 : ¬ (k : Int) < (k : Int) := by omega
      clear HA HB HC HD; (go_wp2_with fail)
      go_ret
      exact ⟨rfl, hbb⟩
deriving instance DecidableEq for Ch.Tn
theorem al8_chk : Ak.chkS [(6, [0, 6], [1]), (6, [0, 4, 6], [1, 4]), (6, [0, 2, 6], [2, 0])] 0 = 0 := by decide +kernel
theorem al8_T : ((List.range 3).map fun k => Ch.rtn [(6, [0, 6], [1]), (6, [0, 4, 6], [1, 4]), (6, [0, 2, 6], [2, 0])] 3 6 (Ch.sts [(6, [0, 6], [1]), (6, [0, 4, 6], [1, 4]), (6, [0, 2, 6], [2, 0])] 3 6 ⟨0, 1, List.range 3, []⟩ k)) = [⟨2, 0, 1, 2, 3, 1⟩, ⟨0, 2, 3, 8, 3, 0⟩, ⟨1, 8, 3, 6, 1, 0⟩] := by decide +kernel
theorem al8_L : (Ch.sts [(6, [0, 6], [1]), (6, [0, 4, 6], [1, 4]), (6, [0, 2, 6], [2, 0])] 3 6 ⟨0, 1, List.range 3, []⟩ 3).L.length = 6 := by decide +kernel
theorem al8_run (P : Nat) (l : List CkR) (w : World) (hl : l.length = 3) (hd : l.map Ak.dat = [(6, [0, 6], [1]), (6, [0, 4, 6], [1, 4]), (6, [0, 2, 6], [2, 0])]) (h : IsCs w (some ⟨P, 0, none⟩) l) : Calls Tryz.prog 16 #[.slice (some ⟨P, 0, none⟩) 3 3] w (RunR 3 [⟨2, 0, 1, 2, 3, 1⟩, ⟨0, 2, 3, 8, 3, 0⟩, ⟨1, 8, 3, 6, 1, 0⟩] (Ch.sts [(6, [0, 6], [1]), (6, [0, 4, 6], [1, 4]), (6, [0, 2, 6], [2, 0])] 3 6 ⟨0, 1, List.range 3, []⟩ 3).L w) := by
  have := tmrun_any [(6, [0, 6], [1]), (6, [0, 4, 6], [1, 4]), (6, [0, 2, 6], [2, 0])] 3 6 3 (some ⟨P, 0, none⟩) 3 l ⟨0, 1, List.range 3, []⟩ rfl w h hd al8_chk rfl rfl rfl (fun i hi => Ch.sgood_sts (n := 3) (len := 6) al8_chk rfl rfl i hi); rw [al8_T, hl] at this; exact this
theorem al8_same (A B : Option Addr) (ca cb : Nat) (w : World) (ha : IsTs w A [⟨2, 0, 1, 2, 3, 1⟩, ⟨0, 2, 3, 8, 3, 0⟩, ⟨1, 8, 3, 6, 1, 0⟩]) (hb : IsTs w B [⟨2, 0, 1, 2, 3, 1⟩, ⟨0, 2, 3, 8, 3, 0⟩, ⟨1, 8, 3, 6, 1, 0⟩]) : Calls Tryz.prog 40 #[.slice A 3 ca, .slice B 3 cb] w fun e w' => e = .returned (.bool true) ∧ Below w.heap.size w w' := rSameTurns_eq A B ca cb [⟨2, 0, 1, 2, 3, 1⟩, ⟨0, 2, 3, 8, 3, 0⟩, ⟨1, 8, 3, 6, 1, 0⟩] w ha hb (by decide)
set_option linter.unusedSimpArgs false in
set_option maxHeartbeats 8000000 in
set_option maxRecDepth 100000 in
theorem alive8_any (w : World) : Calls Tryz.prog 15 #[] w fun e w' => e = .returned (.bool true) ∧ Below w.heap.size w w' := by
  go_enter Tryz.func15, Tryz.ntmps15
  (go_wp2_with fail); refine (three8_any _).mono ?_; rintro e w1 ⟨P, l, rfl, hl, hd, hcr⟩; have RN := Lib.hid (al8_run P l w1 hl hd (hcr.isCs hl.symm (by unfold maxLen; omega))); have hbb := hcr.bb; clear hcr hd hl; (go_wp2_with fail); refine RN.out.mono ?_; rintro e w2 ⟨Pp, tv, Q, nq, cq, G, rfl, hb, hrow, -, -, -, hnq⟩; obtain ⟨g, cap, rfl, -, -⟩ := World.ownsRow.form hrow (by omega); have hts := isTs_row hrow rfl; have hn6 : nq = 6 := hnq.trans al8_L; subst hn6; clear hnq hrow RN; replace hbb := keepB hbb hb; clear hb
  go_upto_region 2 with fail
  refine at_worldQ (fun v => Below w.heap.size w v ∧ IsTs v (some ⟨g, 0, none⟩) [⟨2, 0, 1, 2, 3, 1⟩, ⟨0, 2, 3, 8, 3, 0⟩, ⟨1, 8, 3, 6, 1, 0⟩]) ⟨below_al hbb _, hts.keep (below_al (Below.refl _ _) _)⟩ (fun V hS => ?_); clear hbb hts; obtain ⟨hbb, hts⟩ := hS; (go_wp2_with fail); refine (tmbound_any 3 (by decide) (by decide) _).mono ?_; rintro e w3 ⟨rfl, hb⟩; replace hbb := keepB hbb hb; replace hts := hts.keep hb; clear hb; (go_wp2_with fail); refine (rOf_any _ _).mono ?_; rintro e w4 ⟨rfl, hb⟩; replace hbb := keepB hbb hb; replace hts := hts.keep hb; clear hb; (go_wp2_with fail); refine (rOf_any _ _).mono ?_; rintro e w5 ⟨rfl, hb⟩; replace hbb := keepB hbb hb; replace hts := hts.keep hb; clear hb
  go_upto_region 4 with fail
  refine at_worldQ (fun v => Below w.heap.size w v ∧ IsTs v (some ⟨g, 0, none⟩) [⟨2, 0, 1, 2, 3, 1⟩, ⟨0, 2, 3, 8, 3, 0⟩, ⟨1, 8, 3, 6, 1, 0⟩] ∧ BK v (w5.heap.size) [.int .i64 0, .int .i64 1] ∧ BK v (w5.heap.size + 1) [.int .i64 2, .int .i64 3] ∧ BK v (w5.heap.size + 1 + 1) [.int .i64 8, .int .i64 3] ∧ BK v (w5.heap.size + 1 + 1 + 1) [.int .i64 6, .int .i64 1]) ⟨(below_al (below_al (below_al (below_al hbb _) _) _) _), hts.keep ((below_al (below_al (below_al (below_al (Below.refl _ _) _) _) _) _)), (by have b := ((((BK.new w5 [.int .i64 0, .int .i64 1] 44).al (.cells #[.int .i64 2, .int .i64 3] 44)).al (.cells #[.int .i64 8, .int .i64 3] 44)).al (.cells #[.int .i64 6, .int .i64 1] 44)); simpa only [World.size_alloc] using b), (by have b := (((BK.new (w5.alloc (.cells #[.int .i64 0, .int .i64 1] 44)) [.int .i64 2, .int .i64 3] 44).al (.cells #[.int .i64 8, .int .i64 3] 44)).al (.cells #[.int .i64 6, .int .i64 1] 44)); simpa only [World.size_alloc] using b), (by have b := ((BK.new ((w5.alloc (.cells #[.int .i64 0, .int .i64 1] 44)).alloc (.cells #[.int .i64 2, .int .i64 3] 44)) [.int .i64 8, .int .i64 3] 44).al (.cells #[.int .i64 6, .int .i64 1] 44)); simpa only [World.size_alloc] using b), (by have b := (BK.new (((w5.alloc (.cells #[.int .i64 0, .int .i64 1] 44)).alloc (.cells #[.int .i64 2, .int .i64 3] 44)).alloc (.cells #[.int .i64 8, .int .i64 3] 44)) [.int .i64 6, .int .i64 1] 44); simpa only [World.size_alloc] using b)⟩ (fun V2 hS => ?_); clear hbb hts; obtain ⟨hbb, hts, BZ, BA, BB, BO⟩ := hS
  generalize w5.heap.size + 1 + 1 + 1 = p3 at *
  generalize w5.heap.size + 1 + 1 = p2 at *
  generalize w5.heap.size + 1 = p1 at *
  generalize w5.heap.size = p0 at *
  have z0 := BZ.c 0 rfl; have z1 := BZ.c 1 rfl; have a0 := BA.c 0 rfl; have a1 := BA.c 1 rfl; have b0 := BB.c 0 rfl; have b1 := BB.c 1 rfl; have o0 := BO.c 0 rfl; have o1 := BO.c 1 rfl; (go_wp2_with fail); refine (al8_same _ _ _ _ _ (hts.keep (below_al (Below.refl _ _) _)) (isTs_bk (BK.new _ (Ch.tcells [⟨2, 0, 1, 2, 3, 1⟩, ⟨0, 2, 3, 8, 3, 0⟩, ⟨1, 8, 3, 6, 1, 0⟩]) _))).mono ?_; rintro e w7 ⟨rfl, hb⟩; replace hbb := keepB (below_al hbb _) hb; clear hb z0 z1 a0 a1 b0 b1 o0 o1 BZ BA BB BO hts; (go_wp2_with fail)
  go_ret
  exact ⟨rfl, hbb⟩
end Go.Proofs.YtpcdggkajindbaaGreat


/- The law GoodsNames. -/
import Derived.Test.YtfpaefnaidppmaaGfa
import Derived.Test.YtfpaefnaidppmaaGdz
namespace Go.Proofs.Ytfpaefnaidppmaa
open Go.RowKit
theorem isM_one16 {w : World} {q p : Nat} {l : List Int} {n : Nat} (h : BK w q [.slice (some ⟨p, 0, none⟩) n n]) (hn : n = l.length) (k : BK w p (l.map (Value.int .i64))) (hb : I64bL l = true) (hl : l.length ≤ 50) : IsM w (some ⟨q, 0, none⟩) [l] := by
  subst hn
  refine fun _ => ⟨q, 0, rfl, fun i hi => ?_⟩
  match i, hi with
  | 0, _ => exact ⟨_, _, h.c 0 rfl, by show l.length ≤ maxLen; unfold maxLen; omega, isI_bkL k (i64bL hb)⟩
theorem isM_nils16 {w : World} {q n : Nat} (h : BK w q (List.replicate n (.slice none 0 0))) : IsM w (some ⟨q, 0, none⟩) (List.replicate n []) := by
  refine fun _ => ⟨q, 0, rfl, fun i hi => ?_⟩
  rw [List.length_replicate] at hi
  have e : (List.replicate n ([] : List Int)).getD i [] = [] := by simp [List.getD_eq_getElem?_getD, hi]
  rw [e, Nat.zero_add]
  exact ⟨none, 0, h.c i (by simp [hi]), by simp, isI_nil _ _⟩
theorem nils16_make7 (v : World) : Sem.run Try.prog (Instr.makeSlice 22 (.int .i64 7) (.int .i64 7)) v = .ok (.slice (some ⟨v.heap.size, 0, none⟩) 7 7) (v.alloc (.cells #[.slice none 0 0, .slice none 0 0, .slice none 0 0, .slice none 0 0, .slice none 0 0, .slice none 0 0, .slice none 0 0] 25)) := rows_make 7 (by omega) v
theorem nils16_make6 (v : World) : Sem.run Try.prog (Instr.makeSlice 22 (.int .i64 6) (.int .i64 6)) v = .ok (.slice (some ⟨v.heap.size, 0, none⟩) 6 6) (v.alloc (.cells #[.slice none 0 0, .slice none 0 0, .slice none 0 0, .slice none 0 0, .slice none 0 0, .slice none 0 0] 25)) := rows_make 6 (by omega) v
theorem ints16_make11 (v : World) : Sem.run Try.prog (Instr.makeSlice 25 (.int .i64 11) (.int .i64 11)) v = .ok (.slice (some ⟨v.heap.size, 0, none⟩) 11 11) (v.alloc (.cells #[.int .i64 0, .int .i64 0, .int .i64 0, .int .i64 0, .int .i64 0, .int .i64 0, .int .i64 0, .int .i64 0, .int .i64 0, .int .i64 0, .int .i64 0] 3)) := ints_make 11 (by omega) v
theorem ints16_make10 (v : World) : Sem.run Try.prog (Instr.makeSlice 25 (.int .i64 10) (.int .i64 10)) v = .ok (.slice (some ⟨v.heap.size, 0, none⟩) 10 10) (v.alloc (.cells #[.int .i64 0, .int .i64 0, .int .i64 0, .int .i64 0, .int .i64 0, .int .i64 0, .int .i64 0, .int .i64 0, .int .i64 0, .int .i64 0] 3)) := ints_make 10 (by omega) v
/-- Goods that are not valid. -/
def bd16 : Nat → List (List Int)
  | 0 => []
  | 1 => [[1], [1, 2]]
  | 2 => [[-1]]
  | 3 => [[1001]]
  | _ => [[], [1]]
def ls16 : Nat → List Int
  | 0 => []
  | 1 => [0, 1]
  | 2 => [0, 1, 2]
  | 3 => [0, 1, -2]
  | _ => [0, 0, 0, 0]
theorem bd16_c : ∀ k, k < 5 → As.gchk (bd16 k) = 8 ∧ (bd16 k).length ≤ 2 := by decide +kernel
theorem ls16_v : ∀ k, k < 5 → As.gvld [[5, 3, 1], [2, 2, 2]] (ls16 k) = 8 ∧ (ls16 k).length ≤ 4 := by decide +kernel
def Bk16 (W : World) (Q : Nat) : Prop := ∀ k, k < 5 → ∃ X c, W.cell? ⟨Q, k, none⟩ = some (.slice X (bd16 k).length c) ∧ IsM W X (bd16 k)
theorem Bk16.keep {v w : World} {Q : Nat} (h : Bk16 v Q) (hb : Below v.heap.size v w) : Bk16 w Q := fun k hk => by
  obtain ⟨X, c, h1, h2⟩ := h k hk
  exact ⟨X, c, keepC hb h1, h2.keep hb⟩
def Lk16 (W : World) (Q : Nat) : Prop := ∀ k, k < 5 → ∃ X c, W.cell? ⟨Q, k, none⟩ = some (.slice X (ls16 k).length c) ∧ IsI W X (ls16 k)
theorem Lk16.keep {v w : World} {Q : Nat} (h : Lk16 v Q) (hb : Below v.heap.size v w) : Lk16 w Q := fun k hk => by
  obtain ⟨X, c, h1, h2⟩ := h k hk
  exact ⟨X, c, keepC hb h1, h2.keep hb⟩
theorem xBd16 (A : Option Addr) (cv k : Nat) (w : World) (hk : k < 5) (h : IsM w A (bd16 k)) : Calls Try.prog 17 #[.agg #[.slice A (bd16 k).length cv]] w fun e w' => e = .returned (.int .i64 8) ∧ Below w.heap.size w w' := by
  obtain ⟨l1, l2⟩ := bd16_c k hk
  have c := gCheck_any A cv (bd16 k) w (by unfold maxLen; omega) h
  rw [l1] at c
  exact c
theorem xLs16 (A : Option Addr) (cv : Nat) (B : Option Addr) (ca k : Nat) (w : World) (hk : k < 5) (h : IsM w A [[5, 3, 1], [2, 2, 2]]) (hB : IsI w B (ls16 k)) : Calls Try.prog 19 #[.agg #[.slice A 2 cv], .slice B (ls16 k).length ca] w fun e w' => e = .returned (.int .i64 8) ∧ Below w.heap.size w w' := by
  obtain ⟨l1, l2⟩ := ls16_v k hk
  have c := gValid_any A cv [[5, 3, 1], [2, 2, 2]] B ca (ls16 k) w two_leG h (by unfold maxLen; omega) hB
  rw [l1] at c
  exact c
theorem isM_ten (W : World) (p q : Nat) (t t3 : TypeId) (h : p = W.heap.size ∧ q = W.heap.size + 1 ∨ p = W.heap.size + 1 ∧ q = W.heap.size) : IsM (((W.alloc (.cells #[.int .i64 0, .int .i64 0, .int .i64 0, .int .i64 0, .int .i64 0, .int .i64 0, .int .i64 0, .int .i64 0, .int .i64 0, .int .i64 0] t)).alloc (.cells #[.int .i64 0, .int .i64 0, .int .i64 0, .int .i64 0, .int .i64 0, .int .i64 0, .int .i64 0, .int .i64 0, .int .i64 0, .int .i64 0] t)).alloc (.cells #[.slice (some ⟨p, 0, none⟩) 10 10, .slice (some ⟨q, 0, none⟩) 10 10] t3)) (some ⟨W.heap.size + 1 + 1, 0, none⟩) [[0, 0, 0, 0, 0, 0, 0, 0, 0, 0], [0, 0, 0, 0, 0, 0, 0, 0, 0, 0]] := by
  have b1 : BK (((W.alloc (.cells #[.int .i64 0, .int .i64 0, .int .i64 0, .int .i64 0, .int .i64 0, .int .i64 0, .int .i64 0, .int .i64 0, .int .i64 0, .int .i64 0] t)).alloc (.cells #[.int .i64 0, .int .i64 0, .int .i64 0, .int .i64 0, .int .i64 0, .int .i64 0, .int .i64 0, .int .i64 0, .int .i64 0, .int .i64 0] t)).alloc (.cells #[.slice (some ⟨p, 0, none⟩) 10 10, .slice (some ⟨q, 0, none⟩) 10 10] t3)) W.heap.size [.int .i64 0, .int .i64 0, .int .i64 0, .int .i64 0, .int .i64 0, .int .i64 0, .int .i64 0, .int .i64 0, .int .i64 0, .int .i64 0] := ((BK.new W [.int .i64 0, .int .i64 0, .int .i64 0, .int .i64 0, .int .i64 0, .int .i64 0, .int .i64 0, .int .i64 0, .int .i64 0, .int .i64 0] t).al _).al _
  have b2 : BK (((W.alloc (.cells #[.int .i64 0, .int .i64 0, .int .i64 0, .int .i64 0, .int .i64 0, .int .i64 0, .int .i64 0, .int .i64 0, .int .i64 0, .int .i64 0] t)).alloc (.cells #[.int .i64 0, .int .i64 0, .int .i64 0, .int .i64 0, .int .i64 0, .int .i64 0, .int .i64 0, .int .i64 0, .int .i64 0, .int .i64 0] t)).alloc (.cells #[.slice (some ⟨p, 0, none⟩) 10 10, .slice (some ⟨q, 0, none⟩) 10 10] t3)) (W.heap.size + 1) [.int .i64 0, .int .i64 0, .int .i64 0, .int .i64 0, .int .i64 0, .int .i64 0, .int .i64 0, .int .i64 0, .int .i64 0, .int .i64 0] := (bkAtL (BK.new (W.alloc (.cells #[.int .i64 0, .int .i64 0, .int .i64 0, .int .i64 0, .int .i64 0, .int .i64 0, .int .i64 0, .int .i64 0, .int .i64 0, .int .i64 0] t)) [.int .i64 0, .int .i64 0, .int .i64 0, .int .i64 0, .int .i64 0, .int .i64 0, .int .i64 0, .int .i64 0, .int .i64 0, .int .i64 0] t) (by simp only [World.size_alloc])).al _
  have b3 : BK (((W.alloc (.cells #[.int .i64 0, .int .i64 0, .int .i64 0, .int .i64 0, .int .i64 0, .int .i64 0, .int .i64 0, .int .i64 0, .int .i64 0, .int .i64 0] t)).alloc (.cells #[.int .i64 0, .int .i64 0, .int .i64 0, .int .i64 0, .int .i64 0, .int .i64 0, .int .i64 0, .int .i64 0, .int .i64 0, .int .i64 0] t)).alloc (.cells #[.slice (some ⟨p, 0, none⟩) 10 10, .slice (some ⟨q, 0, none⟩) 10 10] t3)) (W.heap.size + 1 + 1) [.slice (some ⟨p, 0, none⟩) 10 10, .slice (some ⟨q, 0, none⟩) 10 10] := bkAtL (BK.new ((W.alloc (.cells #[.int .i64 0, .int .i64 0, .int .i64 0, .int .i64 0, .int .i64 0, .int .i64 0, .int .i64 0, .int .i64 0, .int .i64 0, .int .i64 0] t)).alloc (.cells #[.int .i64 0, .int .i64 0, .int .i64 0, .int .i64 0, .int .i64 0, .int .i64 0, .int .i64 0, .int .i64 0, .int .i64 0, .int .i64 0] t)) [.slice (some ⟨p, 0, none⟩) 10 10, .slice (some ⟨q, 0, none⟩) 10 10] t3) (by simp only [World.size_alloc])
  have i1 := isI_bkL (l := [0, 0, 0, 0, 0, 0, 0, 0, 0, 0]) b1 (i64bL (by decide))
  have i2 := isI_bkL (l := [0, 0, 0, 0, 0, 0, 0, 0, 0, 0]) b2 (i64bL (by decide))
  have le : ([0, 0, 0, 0, 0, 0, 0, 0, 0, 0] : List Int).length ≤ maxLen := by unfold maxLen; simp
  rcases h with ⟨rfl, rfl⟩ | ⟨rfl, rfl⟩
  · exact isM_two (b3.c 0 rfl) (b3.c 1 rfl) rfl rfl le le i1 i2
  · exact isM_two (b3.c 0 rfl) (b3.c 1 rfl) rfl rfl le le i2 i1
theorem yC7 : As.gchk (List.replicate 7 []) = 4 := by decide +kernel
theorem xC7 (A : Option Addr) (cv : Nat) (w : World) (h : IsM w A (List.replicate 7 [])) : Calls Try.prog 17 #[.agg #[.slice A 7 cv]] w fun e w' => e = .returned (.int .i64 4) ∧ Below w.heap.size w w' := by
  have c := gCheck_any A cv (List.replicate 7 []) w (by unfold maxLen; simp) h
  rw [yC7] at c
  exact c
theorem yC11 : As.gchk [[-1], [0, 0, 0, 0, 0, 0, 0, 0, 0, 0, 0]] = 4 := by decide +kernel
theorem xC11 (A : Option Addr) (cv : Nat) (w : World) (h : IsM w A [[-1], [0, 0, 0, 0, 0, 0, 0, 0, 0, 0, 0]]) : Calls Try.prog 17 #[.agg #[.slice A 2 cv]] w fun e w' => e = .returned (.int .i64 4) ∧ Below w.heap.size w w' := by
  have c := gCheck_any A cv [[-1], [0, 0, 0, 0, 0, 0, 0, 0, 0, 0, 0]] w (by unfold maxLen; simp) h
  rw [yC11] at c
  exact c
theorem yC10 : As.gchk [[0, 0, 0, 0, 0, 0, 0, 0, 0, 0], [0, 0, 0, 0, 0, 0, 0, 0, 0, 0]] = 0 := by decide +kernel
theorem xC10 (A : Option Addr) (cv : Nat) (w : World) (h : IsM w A [[0, 0, 0, 0, 0, 0, 0, 0, 0, 0], [0, 0, 0, 0, 0, 0, 0, 0, 0, 0]]) : Calls Try.prog 17 #[.agg #[.slice A 2 cv]] w fun e w' => e = .returned (.int .i64 0) ∧ Below w.heap.size w w' := by
  have c := gCheck_any A cv [[0, 0, 0, 0, 0, 0, 0, 0, 0, 0], [0, 0, 0, 0, 0, 0, 0, 0, 0, 0]] w (by unfold maxLen; simp) h
  rw [yC10] at c
  exact c
theorem yC6 : As.gchk (List.replicate 6 []) = 0 := by decide +kernel
theorem xC6 (A : Option Addr) (cv : Nat) (w : World) (h : IsM w A (List.replicate 6 [])) : Calls Try.prog 17 #[.agg #[.slice A 6 cv]] w fun e w' => e = .returned (.int .i64 0) ∧ Below w.heap.size w w' := by
  have c := gCheck_any A cv (List.replicate 6 []) w (by unfold maxLen; simp) h
  rw [yC6] at c
  exact c
theorem yP1 : As.psS [[5, 3, 1], [2, 2, 2]] [0, -1, 1] [0] = [] ∧ As.psE [[5, 3, 1], [2, 2, 2]] [0, -1, 1] [0] = 2 := by decide +kernel
theorem xP1 (A : Option Addr) (cv : Nat) (B : Option Addr) (ca : Nat) (O : Option Addr) (co : Nat) (w : World) (h : IsM w A [[5, 3, 1], [2, 2, 2]]) (hB : IsI w B [0, -1, 1]) (hO : IsI w O [0]) : Calls Try.prog 24 #[.agg #[.slice A 2 cv], .slice B 3 ca, .slice O 1 co] w fun e w' => ∃ X c, e = .returned (.tuple #[.slice X 0 c, .int .i64 2]) ∧ IsI w' X [] ∧ Below w.heap.size w w' := by
  refine (gPass_any A cv [[5, 3, 1], [2, 2, 2]] B ca [0, -1, 1] O co [0] w two_leG h three_leG hB (by unfold maxLen; simp) hO).mono ?_
  rintro e w' ⟨X, c, rfl, hX, hb⟩
  obtain ⟨f1, f2⟩ := yP1
  rw [f1] at hX ⊢
  rw [f2]
  exact ⟨X, c, rfl, hX, hb⟩
theorem yP2 : As.psS [[5, 3, 1], [2, 2, 2]] [0, -1, 1] [1, 1] = [] ∧ As.psE [[5, 3, 1], [2, 2, 2]] [0, -1, 1] [1, 1] = 2 := by decide +kernel
theorem xP2 (A : Option Addr) (cv : Nat) (B : Option Addr) (ca : Nat) (O : Option Addr) (co : Nat) (w : World) (h : IsM w A [[5, 3, 1], [2, 2, 2]]) (hB : IsI w B [0, -1, 1]) (hO : IsI w O [1, 1]) : Calls Try.prog 24 #[.agg #[.slice A 2 cv], .slice B 3 ca, .slice O 2 co] w fun e w' => ∃ X c, e = .returned (.tuple #[.slice X 0 c, .int .i64 2]) ∧ IsI w' X [] ∧ Below w.heap.size w w' := by
  refine (gPass_any A cv [[5, 3, 1], [2, 2, 2]] B ca [0, -1, 1] O co [1, 1] w two_leG h three_leG hB (by unfold maxLen; simp) hO).mono ?_
  rintro e w' ⟨X, c, rfl, hX, hb⟩
  obtain ⟨f1, f2⟩ := yP2
  rw [f1] at hX ⊢
  rw [f2]
  exact ⟨X, c, rfl, hX, hb⟩
theorem yP3 : As.psS [[5, 3, 1], [2, 2, 2]] [0, -1, 1] [0, 2] = [] ∧ As.psE [[5, 3, 1], [2, 2, 2]] [0, -1, 1] [0, 2] = 2 := by decide +kernel
theorem xP3 (A : Option Addr) (cv : Nat) (B : Option Addr) (ca : Nat) (O : Option Addr) (co : Nat) (w : World) (h : IsM w A [[5, 3, 1], [2, 2, 2]]) (hB : IsI w B [0, -1, 1]) (hO : IsI w O [0, 2]) : Calls Try.prog 24 #[.agg #[.slice A 2 cv], .slice B 3 ca, .slice O 2 co] w fun e w' => ∃ X c, e = .returned (.tuple #[.slice X 0 c, .int .i64 2]) ∧ IsI w' X [] ∧ Below w.heap.size w w' := by
  refine (gPass_any A cv [[5, 3, 1], [2, 2, 2]] B ca [0, -1, 1] O co [0, 2] w two_leG h three_leG hB (by unfold maxLen; simp) hO).mono ?_
  rintro e w' ⟨X, c, rfl, hX, hb⟩
  obtain ⟨f1, f2⟩ := yP3
  rw [f1] at hX ⊢
  rw [f2]
  exact ⟨X, c, rfl, hX, hb⟩
theorem yG1 : As.gvS [[5, 3, 1], [2, 2, 2]] [0, -1, 1] 3 0 = [] ∧ As.gvE [[5, 3, 1], [2, 2, 2]] [0, -1, 1] 3 0 = 2 := by decide +kernel
theorem xG1 (A : Option Addr) (cv : Nat) (B : Option Addr) (ca : Nat) (w : World) (h : IsM w A [[5, 3, 1], [2, 2, 2]]) (hB : IsI w B [0, -1, 1]) : Calls Try.prog 26 #[.agg #[.slice A 2 cv], .slice B 3 ca, .int .i64 3, .int .i64 0] w fun e w' => ∃ X c, e = .returned (.tuple #[.slice X 0 c, .int .i64 2]) ∧ IsI w' X [] ∧ Below w.heap.size w w' := by
  refine (gGive_any A cv [[5, 3, 1], [2, 2, 2]] B ca [0, -1, 1] 3 0 w two_leG h three_leG hB (by unfold I64; decide)).mono ?_
  rintro e w' ⟨X, c, rfl, hX, hb⟩
  obtain ⟨f1, f2⟩ := yG1
  rw [f1] at hX ⊢
  rw [f2]
  exact ⟨X, c, rfl, hX, hb⟩
theorem yG2 : As.gvS [[5, 3, 1], [2, 2, 2]] [0, -1, 1] (-1) 0 = [] ∧ As.gvE [[5, 3, 1], [2, 2, 2]] [0, -1, 1] (-1) 0 = 2 := by decide +kernel
theorem xG2 (A : Option Addr) (cv : Nat) (B : Option Addr) (ca : Nat) (w : World) (h : IsM w A [[5, 3, 1], [2, 2, 2]]) (hB : IsI w B [0, -1, 1]) : Calls Try.prog 26 #[.agg #[.slice A 2 cv], .slice B 3 ca, .int .i64 (-1), .int .i64 0] w fun e w' => ∃ X c, e = .returned (.tuple #[.slice X 0 c, .int .i64 2]) ∧ IsI w' X [] ∧ Below w.heap.size w w' := by
  refine (gGive_any A cv [[5, 3, 1], [2, 2, 2]] B ca [0, -1, 1] (-1) 0 w two_leG h three_leG hB (by unfold I64; decide)).mono ?_
  rintro e w' ⟨X, c, rfl, hX, hb⟩
  obtain ⟨f1, f2⟩ := yG2
  rw [f1] at hX ⊢
  rw [f2]
  exact ⟨X, c, rfl, hX, hb⟩
theorem yG3 : As.gvS [[5, 3, 1], [2, 2, 2]] [0, -1, 1] 0 2 = [] ∧ As.gvE [[5, 3, 1], [2, 2, 2]] [0, -1, 1] 0 2 = 2 := by decide +kernel
theorem xG3 (A : Option Addr) (cv : Nat) (B : Option Addr) (ca : Nat) (w : World) (h : IsM w A [[5, 3, 1], [2, 2, 2]]) (hB : IsI w B [0, -1, 1]) : Calls Try.prog 26 #[.agg #[.slice A 2 cv], .slice B 3 ca, .int .i64 0, .int .i64 2] w fun e w' => ∃ X c, e = .returned (.tuple #[.slice X 0 c, .int .i64 2]) ∧ IsI w' X [] ∧ Below w.heap.size w w' := by
  refine (gGive_any A cv [[5, 3, 1], [2, 2, 2]] B ca [0, -1, 1] 0 2 w two_leG h three_leG hB (by unfold I64; decide)).mono ?_
  rintro e w' ⟨X, c, rfl, hX, hb⟩
  obtain ⟨f1, f2⟩ := yG3
  rw [f1] at hX ⊢
  rw [f2]
  exact ⟨X, c, rfl, hX, hb⟩
theorem yG4 : As.gvS [[5, 3, 1], [2, 2, 2]] [0, -1, 1] 0 (-2) = [] ∧ As.gvE [[5, 3, 1], [2, 2, 2]] [0, -1, 1] 0 (-2) = 2 := by decide +kernel
theorem xG4 (A : Option Addr) (cv : Nat) (B : Option Addr) (ca : Nat) (w : World) (h : IsM w A [[5, 3, 1], [2, 2, 2]]) (hB : IsI w B [0, -1, 1]) : Calls Try.prog 26 #[.agg #[.slice A 2 cv], .slice B 3 ca, .int .i64 0, .int .i64 (-2)] w fun e w' => ∃ X c, e = .returned (.tuple #[.slice X 0 c, .int .i64 2]) ∧ IsI w' X [] ∧ Below w.heap.size w w' := by
  refine (gGive_any A cv [[5, 3, 1], [2, 2, 2]] B ca [0, -1, 1] 0 (-2) w two_leG h three_leG hB (by unfold I64; decide)).mono ?_
  rintro e w' ⟨X, c, rfl, hX, hb⟩
  obtain ⟨f1, f2⟩ := yG4
  rw [f1] at hX ⊢
  rw [f2]
  exact ⟨X, c, rfl, hX, hb⟩
theorem yP4 : As.psS [[5, 3, 1], [2, 2, 2]] [0, -1, 1] [1, 0] = [1, -1, 0] ∧ As.psE [[5, 3, 1], [2, 2, 2]] [0, -1, 1] [1, 0] = 0 := by decide +kernel
theorem xP4 (A : Option Addr) (cv : Nat) (B : Option Addr) (ca : Nat) (O : Option Addr) (co : Nat) (w : World) (h : IsM w A [[5, 3, 1], [2, 2, 2]]) (hB : IsI w B [0, -1, 1]) (hO : IsI w O [1, 0]) : Calls Try.prog 24 #[.agg #[.slice A 2 cv], .slice B 3 ca, .slice O 2 co] w fun e w' => ∃ X c, e = .returned (.tuple #[.slice X 3 c, .int .i64 0]) ∧ IsI w' X [1, -1, 0] ∧ Below w.heap.size w w' := by
  refine (gPass_any A cv [[5, 3, 1], [2, 2, 2]] B ca [0, -1, 1] O co [1, 0] w two_leG h three_leG hB (by unfold maxLen; simp) hO).mono ?_
  rintro e w' ⟨X, c, rfl, hX, hb⟩
  obtain ⟨f1, f2⟩ := yP4
  rw [f1] at hX ⊢
  rw [f2]
  exact ⟨X, c, rfl, hX, hb⟩
theorem yG5 : As.gvS [[5, 3, 1], [2, 2, 2]] [0, -1, 1] 2 (-1) = [0, -1, -1] ∧ As.gvE [[5, 3, 1], [2, 2, 2]] [0, -1, 1] 2 (-1) = 0 := by decide +kernel
theorem xG5 (A : Option Addr) (cv : Nat) (B : Option Addr) (ca : Nat) (w : World) (h : IsM w A [[5, 3, 1], [2, 2, 2]]) (hB : IsI w B [0, -1, 1]) : Calls Try.prog 26 #[.agg #[.slice A 2 cv], .slice B 3 ca, .int .i64 2, .int .i64 (-1)] w fun e w' => ∃ X c, e = .returned (.tuple #[.slice X 3 c, .int .i64 0]) ∧ IsI w' X [0, -1, -1] ∧ Below w.heap.size w w' := by
  refine (gGive_any A cv [[5, 3, 1], [2, 2, 2]] B ca [0, -1, 1] 2 (-1) w two_leG h three_leG hB (by unfold I64; decide)).mono ?_
  rintro e w' ⟨X, c, rfl, hX, hb⟩
  obtain ⟨f1, f2⟩ := yG5
  rw [f1] at hX ⊢
  rw [f2]
  exact ⟨X, c, rfl, hX, hb⟩
theorem yQ1 : As.poS [[5, 3, 1], [2, 2, 2]] [0, -1, 1] = [1] ∧ As.gvld [[5, 3, 1], [2, 2, 2]] [0, -1, 1] = 0 := by decide +kernel
theorem xQ1 (A : Option Addr) (cv : Nat) (B : Option Addr) (ca : Nat) (w : World) (h : IsM w A [[5, 3, 1], [2, 2, 2]]) (hB : IsI w B [0, -1, 1]) : Calls Try.prog 15 #[.agg #[.slice A 2 cv], .slice B 3 ca] w fun e w' => ∃ X c, e = .returned (.tuple #[.slice X 1 c, .int .i64 0]) ∧ IsI w' X [1] ∧ Below w.heap.size w w' := by
  refine (gPoor_any A cv [[5, 3, 1], [2, 2, 2]] B ca [0, -1, 1] w two_leG h three_leG hB).mono ?_
  rintro e w' ⟨X, c, rfl, hX, hb⟩
  obtain ⟨f1, f2⟩ := yQ1
  rw [f1] at hX ⊢
  rw [f2]
  exact ⟨X, c, rfl, hX, hb⟩
theorem yQ2 : As.poS (List.replicate 6 []) [] = [] ∧ As.gvld (List.replicate 6 []) [] = 0 := by decide +kernel
theorem xQ2 (A : Option Addr) (cv : Nat) (B : Option Addr) (ca : Nat) (w : World) (h : IsM w A (List.replicate 6 [])) : Calls Try.prog 15 #[.agg #[.slice A 6 cv], .slice B 0 ca] w fun e w' => ∃ X c, e = .returned (.tuple #[.slice X 0 c, .int .i64 0]) ∧ Below w.heap.size w w' := by
  refine (gPoor_any A cv (List.replicate 6 []) B ca [] w (by unfold maxLen; simp) h (by simp) (isI_nil _ _)).mono ?_
  rintro e w' ⟨X, c, rfl, -, hb⟩
  obtain ⟨f1, f2⟩ := yQ2
  rw [f1, f2]
  exact ⟨X, c, rfl, hb⟩
set_option maxRecDepth 100000 in
set_option maxHeartbeats 16000000 in
theorem goodsnames_walk (w : World) : Calls Try.prog 5 #[] w fun e w' => e = .returned (.bool true) ∧ Below w.heap.size w w' := by
  have HG := Lib.hid given16_any
  have HB := Lib.hid (Below.refl w.heap.size w)
  go_enter Try.func5, Try.ntmps5
  go_upto_region 2 with fail
  refine at_worldQ (fun v => Below w.heap.size w v ∧ BK v (w.heap.size) [.int .i64 1] ∧ BK v (w.heap.size + 1) [.int .i64 1, .int .i64 2] ∧ BK v (w.heap.size + 1 + 1) [.slice (some ⟨w.heap.size, 0, none⟩) 1 1, .slice (some ⟨w.heap.size + 1, 0, none⟩) 2 2] ∧ BK v (w.heap.size + 1 + 1 + 1) [.int .i64 (-1)] ∧ BK v (w.heap.size + 1 + 1 + 1 + 1) [.slice (some ⟨w.heap.size + 1 + 1 + 1, 0, none⟩) 1 1] ∧ BK v (w.heap.size + 1 + 1 + 1 + 1 + 1) [.int .i64 1001] ∧ BK v (w.heap.size + 1 + 1 + 1 + 1 + 1 + 1) [.slice (some ⟨w.heap.size + 1 + 1 + 1 + 1 + 1, 0, none⟩) 1 1] ∧ BK v (w.heap.size + 1 + 1 + 1 + 1 + 1 + 1 + 1) [] ∧ BK v (w.heap.size + 1 + 1 + 1 + 1 + 1 + 1 + 1 + 1) [.int .i64 1] ∧ BK v (w.heap.size + 1 + 1 + 1 + 1 + 1 + 1 + 1 + 1 + 1) [.slice (some ⟨w.heap.size + 1 + 1 + 1 + 1 + 1 + 1 + 1, 0, none⟩) 0 0, .slice (some ⟨w.heap.size + 1 + 1 + 1 + 1 + 1 + 1 + 1 + 1, 0, none⟩) 1 1] ∧ BK v (w.heap.size + 1 + 1 + 1 + 1 + 1 + 1 + 1 + 1 + 1 + 1) [.slice none 0 0, .slice (some ⟨w.heap.size + 1 + 1, 0, none⟩) 2 2, .slice (some ⟨w.heap.size + 1 + 1 + 1 + 1, 0, none⟩) 1 1, .slice (some ⟨w.heap.size + 1 + 1 + 1 + 1 + 1 + 1, 0, none⟩) 1 1, .slice (some ⟨w.heap.size + 1 + 1 + 1 + 1 + 1 + 1 + 1 + 1 + 1, 0, none⟩) 2 2]) ⟨below_al (below_al (below_al (below_al (below_al (below_al (below_al (below_al (below_al (below_al (below_al (Below.refl _ _) _) _) _) _) _) _) _) _) _) _) _, ((((((((((((((((((((BK.new w [.int .i64 1] 3).al _)).al _)).al _)).al _)).al _)).al _)).al _)).al _)).al _)).al _), (((((((((((((((((((bkAtL (BK.new (w.alloc (.cells #[.int .i64 1] 3)) [.int .i64 1, .int .i64 2] 3) (by simp only [World.size_alloc]))).al _)).al _)).al _)).al _)).al _)).al _)).al _)).al _)).al _), (((((((((((((((((bkAtL (BK.new ((w.alloc (.cells #[.int .i64 1] 3)).alloc (.cells #[.int .i64 1, .int .i64 2] 3)) [.slice (some ⟨w.heap.size, 0, none⟩) 1 1, .slice (some ⟨w.heap.size + 1, 0, none⟩) 2 2] 25) (by simp only [World.size_alloc]))).al _)).al _)).al _)).al _)).al _)).al _)).al _)).al _), (((((((((((((((bkAtL (BK.new (((w.alloc (.cells #[.int .i64 1] 3)).alloc (.cells #[.int .i64 1, .int .i64 2] 3)).alloc (.cells #[.slice (some ⟨w.heap.size, 0, none⟩) 1 1, .slice (some ⟨w.heap.size + 1, 0, none⟩) 2 2] 25)) [.int .i64 (-1)] 3) (by simp only [World.size_alloc]))).al _)).al _)).al _)).al _)).al _)).al _)).al _), (((((((((((((bkAtL (BK.new ((((w.alloc (.cells #[.int .i64 1] 3)).alloc (.cells #[.int .i64 1, .int .i64 2] 3)).alloc (.cells #[.slice (some ⟨w.heap.size, 0, none⟩) 1 1, .slice (some ⟨w.heap.size + 1, 0, none⟩) 2 2] 25)).alloc (.cells #[.int .i64 (-1)] 3)) [.slice (some ⟨w.heap.size + 1 + 1 + 1, 0, none⟩) 1 1] 25) (by simp only [World.size_alloc]))).al _)).al _)).al _)).al _)).al _)).al _), (((((((((((bkAtL (BK.new (((((w.alloc (.cells #[.int .i64 1] 3)).alloc (.cells #[.int .i64 1, .int .i64 2] 3)).alloc (.cells #[.slice (some ⟨w.heap.size, 0, none⟩) 1 1, .slice (some ⟨w.heap.size + 1, 0, none⟩) 2 2] 25)).alloc (.cells #[.int .i64 (-1)] 3)).alloc (.cells #[.slice (some ⟨w.heap.size + 1 + 1 + 1, 0, none⟩) 1 1] 25)) [.int .i64 1001] 3) (by simp only [World.size_alloc]))).al _)).al _)).al _)).al _)).al _), (((((((((bkAtL (BK.new ((((((w.alloc (.cells #[.int .i64 1] 3)).alloc (.cells #[.int .i64 1, .int .i64 2] 3)).alloc (.cells #[.slice (some ⟨w.heap.size, 0, none⟩) 1 1, .slice (some ⟨w.heap.size + 1, 0, none⟩) 2 2] 25)).alloc (.cells #[.int .i64 (-1)] 3)).alloc (.cells #[.slice (some ⟨w.heap.size + 1 + 1 + 1, 0, none⟩) 1 1] 25)).alloc (.cells #[.int .i64 1001] 3)) [.slice (some ⟨w.heap.size + 1 + 1 + 1 + 1 + 1, 0, none⟩) 1 1] 25) (by simp only [World.size_alloc]))).al _)).al _)).al _)).al _), (((((((bkAtL (BK.new (((((((w.alloc (.cells #[.int .i64 1] 3)).alloc (.cells #[.int .i64 1, .int .i64 2] 3)).alloc (.cells #[.slice (some ⟨w.heap.size, 0, none⟩) 1 1, .slice (some ⟨w.heap.size + 1, 0, none⟩) 2 2] 25)).alloc (.cells #[.int .i64 (-1)] 3)).alloc (.cells #[.slice (some ⟨w.heap.size + 1 + 1 + 1, 0, none⟩) 1 1] 25)).alloc (.cells #[.int .i64 1001] 3)).alloc (.cells #[.slice (some ⟨w.heap.size + 1 + 1 + 1 + 1 + 1, 0, none⟩) 1 1] 25)) [] 3) (by simp only [World.size_alloc]))).al _)).al _)).al _), (((((bkAtL (BK.new ((((((((w.alloc (.cells #[.int .i64 1] 3)).alloc (.cells #[.int .i64 1, .int .i64 2] 3)).alloc (.cells #[.slice (some ⟨w.heap.size, 0, none⟩) 1 1, .slice (some ⟨w.heap.size + 1, 0, none⟩) 2 2] 25)).alloc (.cells #[.int .i64 (-1)] 3)).alloc (.cells #[.slice (some ⟨w.heap.size + 1 + 1 + 1, 0, none⟩) 1 1] 25)).alloc (.cells #[.int .i64 1001] 3)).alloc (.cells #[.slice (some ⟨w.heap.size + 1 + 1 + 1 + 1 + 1, 0, none⟩) 1 1] 25)).alloc (.cells #[] 3)) [.int .i64 1] 3) (by simp only [World.size_alloc]))).al _)).al _), (((bkAtL (BK.new (((((((((w.alloc (.cells #[.int .i64 1] 3)).alloc (.cells #[.int .i64 1, .int .i64 2] 3)).alloc (.cells #[.slice (some ⟨w.heap.size, 0, none⟩) 1 1, .slice (some ⟨w.heap.size + 1, 0, none⟩) 2 2] 25)).alloc (.cells #[.int .i64 (-1)] 3)).alloc (.cells #[.slice (some ⟨w.heap.size + 1 + 1 + 1, 0, none⟩) 1 1] 25)).alloc (.cells #[.int .i64 1001] 3)).alloc (.cells #[.slice (some ⟨w.heap.size + 1 + 1 + 1 + 1 + 1, 0, none⟩) 1 1] 25)).alloc (.cells #[] 3)).alloc (.cells #[.int .i64 1] 3)) [.slice (some ⟨w.heap.size + 1 + 1 + 1 + 1 + 1 + 1 + 1, 0, none⟩) 0 0, .slice (some ⟨w.heap.size + 1 + 1 + 1 + 1 + 1 + 1 + 1 + 1, 0, none⟩) 1 1] 25) (by simp only [World.size_alloc]))).al _), (bkAtL (BK.new ((((((((((w.alloc (.cells #[.int .i64 1] 3)).alloc (.cells #[.int .i64 1, .int .i64 2] 3)).alloc (.cells #[.slice (some ⟨w.heap.size, 0, none⟩) 1 1, .slice (some ⟨w.heap.size + 1, 0, none⟩) 2 2] 25)).alloc (.cells #[.int .i64 (-1)] 3)).alloc (.cells #[.slice (some ⟨w.heap.size + 1 + 1 + 1, 0, none⟩) 1 1] 25)).alloc (.cells #[.int .i64 1001] 3)).alloc (.cells #[.slice (some ⟨w.heap.size + 1 + 1 + 1 + 1 + 1, 0, none⟩) 1 1] 25)).alloc (.cells #[] 3)).alloc (.cells #[.int .i64 1] 3)).alloc (.cells #[.slice (some ⟨w.heap.size + 1 + 1 + 1 + 1 + 1 + 1 + 1, 0, none⟩) 0 0, .slice (some ⟨w.heap.size + 1 + 1 + 1 + 1 + 1 + 1 + 1 + 1, 0, none⟩) 1 1] 25)) [.slice none 0 0, .slice (some ⟨w.heap.size + 1 + 1, 0, none⟩) 2 2, .slice (some ⟨w.heap.size + 1 + 1 + 1 + 1, 0, none⟩) 1 1, .slice (some ⟨w.heap.size + 1 + 1 + 1 + 1 + 1 + 1, 0, none⟩) 1 1, .slice (some ⟨w.heap.size + 1 + 1 + 1 + 1 + 1 + 1 + 1 + 1 + 1, 0, none⟩) 2 2] 22) (by simp only [World.size_alloc]))⟩ (fun U1 hS => ?_)
  obtain ⟨hb, hD0, hD1, hD2, hD3, hD4, hD5, hD6, hD7, hD8, hD9, hD10⟩ := hS
  replace HB := Lib.hid (keepB HB.out hb)
  have D0 := Lib.hid hD0
  have D1 := Lib.hid hD1
  have D2 := Lib.hid hD2
  have D3 := Lib.hid hD3
  have D4 := Lib.hid hD4
  have D5 := Lib.hid hD5
  have D6 := Lib.hid hD6
  have D7 := Lib.hid hD7
  have D8 := Lib.hid hD8
  have D9 := Lib.hid hD9
  have D10 := Lib.hid hD10
  clear hb hD0 hD1 hD2 hD3 hD4 hD5 hD6 hD7 hD8 hD9 hD10
  have LK := Lib.hid (show Bk16 U1 (w.heap.size + 1 + 1 + 1 + 1 + 1 + 1 + 1 + 1 + 1 + 1) from fun k hk => by
    rcases (show k = 0 ∨ k = 1 ∨ k = 2 ∨ k = 3 ∨ k = 4 by omega) with rfl | rfl | rfl | rfl | rfl
    · exact ⟨_, _, D10.out.c 0 rfl, fun h => absurd h (by decide)⟩
    · exact ⟨_, _, D10.out.c 1 rfl, isM_two (D2.out.c 0 rfl) (D2.out.c 1 rfl) rfl rfl (by unfold maxLen; simp) (by unfold maxLen; simp) (isI_bkL (l := [1]) D0.out (i64bL (by decide))) (isI_bkL (l := [1, 2]) D1.out (i64bL (by decide)))⟩
    · exact ⟨_, _, D10.out.c 2 rfl, isM_one16 (l := [-1]) D4.out rfl D3.out (by decide) (by simp)⟩
    · exact ⟨_, _, D10.out.c 3 rfl, isM_one16 (l := [1001]) D6.out rfl D5.out (by decide) (by simp)⟩
    · exact ⟨_, _, D10.out.c 4 rfl, isM_two (D9.out.c 0 rfl) (D9.out.c 1 rfl) rfl rfl (by unfold maxLen; simp) (by unfold maxLen; simp) (isI_nil _ _) (isI_bkL (l := [1]) D8.out (i64bL (by decide)))⟩)
  clear D0 D1 D2 D3 D4 D5 D6 D7 D8 D9 D10
  generalize w.heap.size + 1 + 1 + 1 + 1 + 1 + 1 + 1 + 1 + 1 + 1 = Q at *
  go_wp2_with fail
  have HBo := Lib.hid HB.out
  go_loopw [2] (fun i W => ∃ k : Nat, k ≤ 5 ∧ i = .int .i64 k ∧ Hid (Below U1.heap.size U1 W)) (fun i _ => 5 - (intOf i).toNat)
  case atStart => exact ⟨0, by omega, rfl, Lib.hid (Below.refl _ _)⟩
  case round =>
    obtain ⟨k, hk, rfl, HB2⟩ := hrel
    by_cases hlt : k < 5
    · obtain ⟨X, c, c0, iX⟩ := (LK.out.keep HB2.out) k hlt
      have CK := Lib.hid (xBd16 X c k wr hlt iX)
      have i1 : (k : Int) < 5 := by omega
      clear iX
      generalize (bd16 k).length = n at *
      go_wp2_with fail
      refine CK.out.mono ?_
      rintro e w2 ⟨rfl, hb2⟩
      have HB3 := Lib.hid (keepB HB2.out hb2)
      clear hb2 c0 CK
      go_wp2_with fail
      go_roundw
      case rel => exact ⟨k + 1, by omega, by go_num, HB3⟩
      case measure => simp [intOf]; omega
    · obtain rfl : k = 5 := by omega
      replace HB := Lib.hid (keepB HBo.out HB2.out)
      clear LK HB2 HBo
      have MK7 := nils16_make7
      go_wp2_with fail
      refine at_worldR (fun v => Below wr.heap.size wr v ∧ BK v (wr.heap.size) [.slice none 0 0, .slice none 0 0, .slice none 0 0, .slice none 0 0, .slice none 0 0, .slice none 0 0, .slice none 0 0]) ⟨below_al (Below.refl _ _) _, BK.new wr [.slice none 0 0, .slice none 0 0, .slice none 0 0, .slice none 0 0, .slice none 0 0, .slice none 0 0, .slice none 0 0] 25⟩ (fun V1 hS => ?_)
      obtain ⟨hb, hT2⟩ := hS
      replace HB := Lib.hid (keepB HB.out hb)
      have T2 := Lib.hid hT2
      clear hb hT2
      refine (xC7 _ 7 _ (isM_nils16 (n := 7) T2.out)).mono ?_
      rintro e v1 ⟨rfl, hb⟩
      replace T2 := Lib.hid (T2.out.keep hb)
      replace HB := Lib.hid (keepB HB.out hb)
      clear hb
      clear T2
      clear MK7
      have MK11 := ints16_make11
      go_wp2_with fail
      refine at_worldR (fun v => Below v1.heap.size v1 v ∧ BK v (v1.heap.size) [.int .i64 (-1)] ∧ BK v (v1.heap.size + 1) [.int .i64 0, .int .i64 0, .int .i64 0, .int .i64 0, .int .i64 0, .int .i64 0, .int .i64 0, .int .i64 0, .int .i64 0, .int .i64 0, .int .i64 0] ∧ BK v (v1.heap.size + 1 + 1) [.slice (some ⟨v1.heap.size, 0, none⟩) 1 1, .slice (some ⟨v1.heap.size + 1, 0, none⟩) 11 11]) ⟨below_al (below_al (below_al (Below.refl _ _) _) _) _, ((((BK.new v1 [.int .i64 (-1)] 3).al _)).al _), (((bkAtL (BK.new (v1.alloc (.cells #[.int .i64 (-1)] 3)) [.int .i64 0, .int .i64 0, .int .i64 0, .int .i64 0, .int .i64 0, .int .i64 0, .int .i64 0, .int .i64 0, .int .i64 0, .int .i64 0, .int .i64 0] 3) (by simp only [World.size_alloc]))).al _), (bkAtL (BK.new ((v1.alloc (.cells #[.int .i64 (-1)] 3)).alloc (.cells #[.int .i64 0, .int .i64 0, .int .i64 0, .int .i64 0, .int .i64 0, .int .i64 0, .int .i64 0, .int .i64 0, .int .i64 0, .int .i64 0, .int .i64 0] 3)) [.slice (some ⟨v1.heap.size, 0, none⟩) 1 1, .slice (some ⟨v1.heap.size + 1, 0, none⟩) 11 11] 25) (by simp only [World.size_alloc]))⟩ (fun V2 hS => ?_)
      obtain ⟨hb, hR1, hR2, hRR⟩ := hS
      replace HB := Lib.hid (keepB HB.out hb)
      have R1 := Lib.hid hR1
      have R2 := Lib.hid hR2
      have RR := Lib.hid hRR
      clear hb hR1 hR2 hRR
      refine (xC11 _ 2 _ (isM_two (RR.out.c 0 rfl) (RR.out.c 1 rfl) rfl rfl (by unfold maxLen; simp) (by unfold maxLen; simp) (isI_bkL (l := [-1]) R1.out (i64bL (by decide))) (isI_bkL (l := [0, 0, 0, 0, 0, 0, 0, 0, 0, 0, 0]) R2.out (i64bL (by decide))))).mono ?_
      rintro e v2 ⟨rfl, hb⟩
      replace R1 := Lib.hid (R1.out.keep hb)
      replace R2 := Lib.hid (R2.out.keep hb)
      replace RR := Lib.hid (RR.out.keep hb)
      replace HB := Lib.hid (keepB HB.out hb)
      clear hb
      clear R1 R2 RR
      clear MK11
      have MK10 := ints16_make10
      go_upto_region 9 with fail
      have hv2 := Below.refl v2.heap.size v2
      go_cut [5] (fun x v => x = .int .i64 0 ∧ Below v2.heap.size v2 v)
      case first =>
        go_region_held3 (fun v => Below v2.heap.size v2 v)
          (first | (exact hv2) | (exact hv2.drew) | assumption | (exact below_al (by assumption) _) | (exact below_al (Below.drew (by assumption)) _))
          (first
            | (go_at_call 17; refine (xC10 _ 2 _ ((isM_ten v2 _ _ _ _ (by first | exact .inl ⟨rfl, rfl⟩ | exact .inr ⟨rfl, rfl⟩)).keep (Below.refl _ _).drew)).mono ?_; rintro e x1 ⟨rfl, hb1⟩; have hx1 : Below v2.heap.size v2 x1 := keepB (below_al (below_al (below_al (Below.refl v2.heap.size v2) _) _) _).drew hb1))
        all_goals
          go_wp2_with fail
          go_meet
          exact ⟨rfl, hx1⟩
      case rest =>
        clear hv2 MK10
        obtain ⟨rfl, hb⟩ := hcut
        replace HB := Lib.hid (keepB HB.out hb)
        clear hb
        have MK6 := nils16_make6
        go_wp2_with fail
        refine at_worldR (fun v => Below wc.heap.size wc v ∧ BK v (wc.heap.size) [.slice none 0 0, .slice none 0 0, .slice none 0 0, .slice none 0 0, .slice none 0 0, .slice none 0 0]) ⟨below_al (Below.refl _ _) _, BK.new wc [.slice none 0 0, .slice none 0 0, .slice none 0 0, .slice none 0 0, .slice none 0 0, .slice none 0 0] 25⟩ (fun V4 hS => ?_)
        obtain ⟨hb, hT2⟩ := hS
        replace HB := Lib.hid (keepB HB.out hb)
        have T2 := Lib.hid hT2
        clear hb hT2
        refine (xC6 _ 6 _ (isM_nils16 (n := 6) T2.out)).mono ?_
        rintro e v4 ⟨rfl, hb⟩
        replace T2 := Lib.hid (T2.out.keep hb)
        replace HB := Lib.hid (keepB HB.out hb)
        clear hb
        clear T2
        clear MK6
        go_upto_region 12 with fail
        refine at_worldQ (fun v => Below v4.heap.size v4 v ∧ BK v (v4.heap.size) [.int .i64 0, .int .i64 1] ∧ BK v (v4.heap.size + 1) [.int .i64 0, .int .i64 1, .int .i64 2] ∧ BK v (v4.heap.size + 1 + 1) [.int .i64 0, .int .i64 1, .int .i64 (-2)] ∧ BK v (v4.heap.size + 1 + 1 + 1) [.int .i64 0, .int .i64 0, .int .i64 0, .int .i64 0] ∧ BK v (v4.heap.size + 1 + 1 + 1 + 1) [.slice none 0 0, .slice (some ⟨v4.heap.size, 0, none⟩) 2 2, .slice (some ⟨v4.heap.size + 1, 0, none⟩) 3 3, .slice (some ⟨v4.heap.size + 1 + 1, 0, none⟩) 3 3, .slice (some ⟨v4.heap.size + 1 + 1 + 1, 0, none⟩) 4 4]) ⟨below_al (below_al (below_al (below_al (below_al (Below.refl _ _) _) _) _) _) _, ((((((((BK.new v4 [.int .i64 0, .int .i64 1] 3).al _)).al _)).al _)).al _), (((((((bkAtL (BK.new (v4.alloc (.cells #[.int .i64 0, .int .i64 1] 3)) [.int .i64 0, .int .i64 1, .int .i64 2] 3) (by simp only [World.size_alloc]))).al _)).al _)).al _), (((((bkAtL (BK.new ((v4.alloc (.cells #[.int .i64 0, .int .i64 1] 3)).alloc (.cells #[.int .i64 0, .int .i64 1, .int .i64 2] 3)) [.int .i64 0, .int .i64 1, .int .i64 (-2)] 3) (by simp only [World.size_alloc]))).al _)).al _), (((bkAtL (BK.new (((v4.alloc (.cells #[.int .i64 0, .int .i64 1] 3)).alloc (.cells #[.int .i64 0, .int .i64 1, .int .i64 2] 3)).alloc (.cells #[.int .i64 0, .int .i64 1, .int .i64 (-2)] 3)) [.int .i64 0, .int .i64 0, .int .i64 0, .int .i64 0] 3) (by simp only [World.size_alloc]))).al _), (bkAtL (BK.new ((((v4.alloc (.cells #[.int .i64 0, .int .i64 1] 3)).alloc (.cells #[.int .i64 0, .int .i64 1, .int .i64 2] 3)).alloc (.cells #[.int .i64 0, .int .i64 1, .int .i64 (-2)] 3)).alloc (.cells #[.int .i64 0, .int .i64 0, .int .i64 0, .int .i64 0] 3)) [.slice none 0 0, .slice (some ⟨v4.heap.size, 0, none⟩) 2 2, .slice (some ⟨v4.heap.size + 1, 0, none⟩) 3 3, .slice (some ⟨v4.heap.size + 1 + 1, 0, none⟩) 3 3, .slice (some ⟨v4.heap.size + 1 + 1 + 1, 0, none⟩) 4 4] 25) (by simp only [World.size_alloc]))⟩ (fun V5 hS => ?_)
        obtain ⟨hb, hD0, hD1, hD2, hD3, hD4⟩ := hS
        replace HB := Lib.hid (keepB HB.out hb)
        have D0 := Lib.hid hD0
        have D1 := Lib.hid hD1
        have D2 := Lib.hid hD2
        have D3 := Lib.hid hD3
        have D4 := Lib.hid hD4
        clear hb hD0 hD1 hD2 hD3 hD4
        have LK := Lib.hid (show Lk16 V5 (v4.heap.size + 1 + 1 + 1 + 1) from fun k hk => by
          rcases (show k = 0 ∨ k = 1 ∨ k = 2 ∨ k = 3 ∨ k = 4 by omega) with rfl | rfl | rfl | rfl | rfl
          · exact ⟨_, _, D4.out.c 0 rfl, isI_nil _ _⟩
          · exact ⟨_, _, D4.out.c 1 rfl, (isI_bkL (l := [0, 1]) D0.out (i64bL (by decide)))⟩
          · exact ⟨_, _, D4.out.c 2 rfl, (isI_bkL (l := [0, 1, 2]) D1.out (i64bL (by decide)))⟩
          · exact ⟨_, _, D4.out.c 3 rfl, (isI_bkL (l := [0, 1, -2]) D2.out (i64bL (by decide)))⟩
          · exact ⟨_, _, D4.out.c 4 rfl, (isI_bkL (l := [0, 0, 0, 0]) D3.out (i64bL (by decide)))⟩)
        clear D0 D1 D2 D3 D4
        generalize v4.heap.size + 1 + 1 + 1 + 1 = Q2 at *
        go_wp2_with fail
        have HBo := Lib.hid HB.out
        go_loopw [8] (fun i W => ∃ k : Nat, k ≤ 5 ∧ i = .int .i64 k ∧ Hid (Below V5.heap.size V5 W)) (fun i _ => 5 - (intOf i).toNat)
        case atStart => exact ⟨0, by omega, rfl, Lib.hid (Below.refl _ _)⟩
        case round =>
          obtain ⟨k, hk, rfl, HB2⟩ := hrel
          by_cases hlt : k < 5
          · obtain ⟨X, c, c0, iX⟩ := (LK.out.keep HB2.out) k hlt
            have IX := Lib.hid iX
            have i1 : (k : Int) < 5 := by omega
            clear iX
            go_upto_region 15 with fail
            refine wp_region_noPanic ?_
            refine wp_region_held_drew (S := (Below wr.heap.size wr)) (by kernel_rfl) ((Below.refl _ _).drew) (fun hHeld => ?_)
            refine at_anyH (Below wr.heap.size wr) hHeld (fun wr0 hNew => ?_)
            clear hHeld
            have hHeld := hNew
            clear hNew
            refine tkd 1 ?_
            try simp only [PPz]
            refine tkd 2 ?_
            try simp only [PPz]
            refine tkd 3 ?_
            try simp only [PPz]
            refine tkm 4 rfl hHeld (fun w hSw => by have kc0 := keepC hSw c0; go_simp <;> with_reducible rfl) ?_
            try simp only [PPz]
            refine rdy1 0 rfl (fun K hK => ?_)
            go_simp
            refine (HG.out _).mono ?_
            rintro e wr5 ⟨gg, rfl, hM, hb3⟩
            have hMM := hM
            clear hM
            go_wp2_with fail
            refine hK.out _ _ (keepB hHeld hb3) (fun hNew => ?_)
            clear hb3
            clear hHeld hK K
            have hHeld := hNew
            clear hNew
            try simp only [PPz]
            refine rdy1 5 rfl (fun K hK => ?_)
            go_simp
            refine (xLs16 _ _ X c k _ hlt hMM (IX.out.keep hHeld)).mono ?_
            rintro e wr6 ⟨rfl, hb3⟩
            clear hMM
            go_wp2_with fail
            refine hK.out _ _ (keepB hHeld hb3) (fun hNew => ?_)
            clear hb3
            clear hHeld hK K
            have hHeld := hNew
            clear hNew
            try simp only [PPz]
            refine tkn 6 (.bool false) rfl ?_ hHeld ?_
            · intro w hSw; go_simp; first | done | (with_reducible rfl)
            try simp only [PPz]
            refine wpAnyH_done (by kernel_rfl) ?_ _
            refine NoPanic.normal ?_
            have HN := Lib.hid (keepB HB2.out hHeld)
            clear hHeld
            go_wp2_with fail
            go_roundw
            case rel => exact ⟨k + 1, by omega, by go_num, HN⟩
            case measure => simp [intOf]; omega
          · obtain rfl : k = 5 := by omega
            replace HB := Lib.hid (keepB HBo.out HB2.out)
            clear LK HB2 HBo
            go_upto_region 18 with fail
            refine at_worldQ (fun v => Below wr.heap.size wr v ∧ BK v (wr.heap.size) [.int .i64 0, .int .i64 (-1), .int .i64 1]) ⟨below_al (Below.refl _ _) _, BK.new wr [.int .i64 0, .int .i64 (-1), .int .i64 1] 3⟩ (fun V6 hS => ?_)
            obtain ⟨hb, hDA⟩ := hS
            replace HB := Lib.hid (keepB HB.out hb)
            have DA := Lib.hid hDA
            clear hb hDA
            have IA := Lib.hid (isI_bkL (l := [0, -1, 1]) DA.out (i64bL (by decide)))
            clear DA
            generalize wr.heap.size = QA at *
            go_wp2_with fail
            refine (HG.out _).mono ?_
            rintro e a1 ⟨g1, rfl, hM, hb⟩
            replace IA := Lib.hid (IA.out.keep hb)
            replace HB := Lib.hid (keepB HB.out hb)
            have HM := Lib.hid hM
            clear hb hM
            go_wp2_with fail
            refine at_worldR (fun v => Below a1.heap.size a1 v ∧ BK v (a1.heap.size) [.int .i64 0]) ⟨below_al (Below.refl _ _) _, BK.new a1 [.int .i64 0] 3⟩ (fun b1 hS => ?_)
            obtain ⟨hb, hD⟩ := hS
            replace IA := Lib.hid (IA.out.keep hb)
            replace HM := Lib.hid (HM.out.keep hb)
            replace HB := Lib.hid (keepB HB.out hb)
            have D := Lib.hid hD
            clear hb hD
            refine (xP1 _ _ _ _ _ _ _ HM.out IA.out (isI_bkL (l := [0]) D.out (i64bL (by decide)))).mono ?_
            rintro e c1 ⟨X1, s1, rfl, -, hb⟩
            replace IA := Lib.hid (IA.out.keep hb)
            replace HM := Lib.hid (HM.out.keep hb)
            replace D := Lib.hid (D.out.keep hb)
            replace HB := Lib.hid (keepB HB.out hb)
            clear hb
            clear HM D
            go_wp2_with fail
            refine (HG.out _).mono ?_
            rintro e a2 ⟨g2, rfl, hM, hb⟩
            replace IA := Lib.hid (IA.out.keep hb)
            replace HB := Lib.hid (keepB HB.out hb)
            have HM := Lib.hid hM
            clear hb hM
            go_wp2_with fail
            refine at_worldR (fun v => Below a2.heap.size a2 v ∧ BK v (a2.heap.size) [.int .i64 1, .int .i64 1]) ⟨below_al (Below.refl _ _) _, BK.new a2 [.int .i64 1, .int .i64 1] 3⟩ (fun b2 hS => ?_)
            obtain ⟨hb, hD⟩ := hS
            replace IA := Lib.hid (IA.out.keep hb)
            replace HM := Lib.hid (HM.out.keep hb)
            replace HB := Lib.hid (keepB HB.out hb)
            have D := Lib.hid hD
            clear hb hD
            refine (xP2 _ _ _ _ _ _ _ HM.out IA.out (isI_bkL (l := [1, 1]) D.out (i64bL (by decide)))).mono ?_
            rintro e c2 ⟨X2, s2, rfl, -, hb⟩
            replace IA := Lib.hid (IA.out.keep hb)
            replace HM := Lib.hid (HM.out.keep hb)
            replace D := Lib.hid (D.out.keep hb)
            replace HB := Lib.hid (keepB HB.out hb)
            clear hb
            clear HM D
            go_wp2_with fail
            refine (HG.out _).mono ?_
            rintro e a3 ⟨g3, rfl, hM, hb⟩
            replace IA := Lib.hid (IA.out.keep hb)
            replace HB := Lib.hid (keepB HB.out hb)
            have HM := Lib.hid hM
            clear hb hM
            go_wp2_with fail
            refine at_worldR (fun v => Below a3.heap.size a3 v ∧ BK v (a3.heap.size) [.int .i64 0, .int .i64 2]) ⟨below_al (Below.refl _ _) _, BK.new a3 [.int .i64 0, .int .i64 2] 3⟩ (fun b3 hS => ?_)
            obtain ⟨hb, hD⟩ := hS
            replace IA := Lib.hid (IA.out.keep hb)
            replace HM := Lib.hid (HM.out.keep hb)
            replace HB := Lib.hid (keepB HB.out hb)
            have D := Lib.hid hD
            clear hb hD
            refine (xP3 _ _ _ _ _ _ _ HM.out IA.out (isI_bkL (l := [0, 2]) D.out (i64bL (by decide)))).mono ?_
            rintro e c3 ⟨X3, s3, rfl, -, hb⟩
            replace IA := Lib.hid (IA.out.keep hb)
            replace HM := Lib.hid (HM.out.keep hb)
            replace D := Lib.hid (D.out.keep hb)
            replace HB := Lib.hid (keepB HB.out hb)
            clear hb
            clear HM D
            go_wp2_with fail
            refine (HG.out _).mono ?_
            rintro e a4 ⟨g4, rfl, hM, hb⟩
            replace IA := Lib.hid (IA.out.keep hb)
            replace HB := Lib.hid (keepB HB.out hb)
            have HM := Lib.hid hM
            clear hb hM
            go_wp2_with fail
            refine (xG1 _ _ _ _ _ HM.out IA.out).mono ?_
            rintro e c4 ⟨X4, s4, rfl, -, hb⟩
            replace IA := Lib.hid (IA.out.keep hb)
            replace HM := Lib.hid (HM.out.keep hb)
            replace HB := Lib.hid (keepB HB.out hb)
            clear hb
            clear HM
            go_wp2_with fail
            refine (HG.out _).mono ?_
            rintro e a5 ⟨g5, rfl, hM, hb⟩
            replace IA := Lib.hid (IA.out.keep hb)
            replace HB := Lib.hid (keepB HB.out hb)
            have HM := Lib.hid hM
            clear hb hM
            go_wp2_with fail
            refine (xG2 _ _ _ _ _ HM.out IA.out).mono ?_
            rintro e c5 ⟨X5, s5, rfl, -, hb⟩
            replace IA := Lib.hid (IA.out.keep hb)
            replace HM := Lib.hid (HM.out.keep hb)
            replace HB := Lib.hid (keepB HB.out hb)
            clear hb
            clear HM
            go_wp2_with fail
            refine (HG.out _).mono ?_
            rintro e a6 ⟨g6, rfl, hM, hb⟩
            replace IA := Lib.hid (IA.out.keep hb)
            replace HB := Lib.hid (keepB HB.out hb)
            have HM := Lib.hid hM
            clear hb hM
            go_wp2_with fail
            refine (xG3 _ _ _ _ _ HM.out IA.out).mono ?_
            rintro e c6 ⟨X6, s6, rfl, -, hb⟩
            replace IA := Lib.hid (IA.out.keep hb)
            replace HM := Lib.hid (HM.out.keep hb)
            replace HB := Lib.hid (keepB HB.out hb)
            clear hb
            clear HM
            go_wp2_with fail
            refine (HG.out _).mono ?_
            rintro e a7 ⟨g7, rfl, hM, hb⟩
            replace IA := Lib.hid (IA.out.keep hb)
            replace HB := Lib.hid (keepB HB.out hb)
            have HM := Lib.hid hM
            clear hb hM
            go_wp2_with fail
            refine (xG4 _ _ _ _ _ HM.out IA.out).mono ?_
            rintro e c7 ⟨X7, s7, rfl, -, hb⟩
            replace IA := Lib.hid (IA.out.keep hb)
            replace HM := Lib.hid (HM.out.keep hb)
            replace HB := Lib.hid (keepB HB.out hb)
            clear hb
            clear HM
            go_wp2_with fail
            refine (HG.out _).mono ?_
            rintro e a8 ⟨g8, rfl, hM, hb⟩
            replace IA := Lib.hid (IA.out.keep hb)
            replace HB := Lib.hid (keepB HB.out hb)
            have HM := Lib.hid hM
            clear hb hM
            go_wp2_with fail
            refine at_worldR (fun v => Below a8.heap.size a8 v ∧ BK v (a8.heap.size) [.int .i64 1, .int .i64 0]) ⟨below_al (Below.refl _ _) _, BK.new a8 [.int .i64 1, .int .i64 0] 3⟩ (fun b8 hS => ?_)
            obtain ⟨hb, hD⟩ := hS
            replace IA := Lib.hid (IA.out.keep hb)
            replace HM := Lib.hid (HM.out.keep hb)
            replace HB := Lib.hid (keepB HB.out hb)
            have D := Lib.hid hD
            clear hb hD
            refine (xP4 _ _ _ _ _ _ _ HM.out IA.out (isI_bkL (l := [1, 0]) D.out (i64bL (by decide)))).mono ?_
            rintro e c8 ⟨X8, s8, rfl, hX, hb⟩
            replace IA := Lib.hid (IA.out.keep hb)
            replace HM := Lib.hid (HM.out.keep hb)
            replace D := Lib.hid (D.out.keep hb)
            replace HB := Lib.hid (keepB HB.out hb)
            have F8 := Lib.hid hX
            clear hb hX
            clear HM D
            go_wp2_with fail
            refine (HG.out _).mono ?_
            rintro e a9 ⟨g9, rfl, hM, hb⟩
            replace IA := Lib.hid (IA.out.keep hb)
            replace F8 := Lib.hid (F8.out.keep hb)
            replace HB := Lib.hid (keepB HB.out hb)
            have HM := Lib.hid hM
            clear hb hM
            go_wp2_with fail
            refine (xG5 _ _ _ _ _ HM.out IA.out).mono ?_
            rintro e c9 ⟨X9, s9, rfl, hX, hb⟩
            replace IA := Lib.hid (IA.out.keep hb)
            replace F8 := Lib.hid (F8.out.keep hb)
            replace HM := Lib.hid (HM.out.keep hb)
            replace HB := Lib.hid (keepB HB.out hb)
            have F9 := Lib.hid hX
            clear hb hX
            clear HM
            go_wp2_with fail
            refine (HG.out _).mono ?_
            rintro e a10 ⟨g10, rfl, hM, hb⟩
            replace IA := Lib.hid (IA.out.keep hb)
            replace F8 := Lib.hid (F8.out.keep hb)
            replace F9 := Lib.hid (F9.out.keep hb)
            replace HB := Lib.hid (keepB HB.out hb)
            have HM := Lib.hid hM
            clear hb hM
            go_wp2_with fail
            refine (xQ1 _ _ _ _ _ HM.out IA.out).mono ?_
            rintro e c10 ⟨X10, s10, rfl, hX, hb⟩
            replace IA := Lib.hid (IA.out.keep hb)
            replace F8 := Lib.hid (F8.out.keep hb)
            replace F9 := Lib.hid (F9.out.keep hb)
            replace HM := Lib.hid (HM.out.keep hb)
            replace HB := Lib.hid (keepB HB.out hb)
            have F10 := Lib.hid hX
            clear hb hX
            clear HM
            clear IA
            have MK6 := nils16_make6
            go_wp2_with fail
            refine at_worldR (fun v => Below c10.heap.size c10 v ∧ BK v (c10.heap.size) [.slice none 0 0, .slice none 0 0, .slice none 0 0, .slice none 0 0, .slice none 0 0, .slice none 0 0]) ⟨below_al (Below.refl _ _) _, BK.new c10 [.slice none 0 0, .slice none 0 0, .slice none 0 0, .slice none 0 0, .slice none 0 0, .slice none 0 0] 25⟩ (fun V7 hS => ?_)
            obtain ⟨hb, hT2⟩ := hS
            replace F8 := Lib.hid (F8.out.keep hb)
            replace F9 := Lib.hid (F9.out.keep hb)
            replace F10 := Lib.hid (F10.out.keep hb)
            replace HB := Lib.hid (keepB HB.out hb)
            have T2 := Lib.hid hT2
            clear hb hT2
            refine (xQ2 _ 6 _ _ _ (isM_nils16 (n := 6) T2.out)).mono ?_
            rintro e c11 ⟨X11, s11, rfl, hb⟩
            replace F8 := Lib.hid (F8.out.keep hb)
            replace F9 := Lib.hid (F9.out.keep hb)
            replace F10 := Lib.hid (F10.out.keep hb)
            replace T2 := Lib.hid (T2.out.keep hb)
            replace HB := Lib.hid (keepB HB.out hb)
            clear hb
            clear T2
            clear MK6
            go_upto_region 29 with fail
            simp only [List.append]
            go_wp2_with fail
            refine (alive16_any _).mono ?_
            rintro e c12 ⟨rfl, hb⟩
            replace F8 := Lib.hid (F8.out.keep hb)
            replace F9 := Lib.hid (F9.out.keep hb)
            replace F10 := Lib.hid (F10.out.keep hb)
            replace HB := Lib.hid (keepB HB.out hb)
            clear hb
            go_wp2_with fail
            refine at_worldR (fun v => Below c12.heap.size c12 v ∧ BK v (c12.heap.size) [.int .i64 1, .int .i64 (-1), .int .i64 0]) ⟨below_al (Below.refl _ _) _, BK.new c12 [.int .i64 1, .int .i64 (-1), .int .i64 0] 3⟩ (fun V8 hS => ?_)
            obtain ⟨hb, hD⟩ := hS
            replace F8 := Lib.hid (F8.out.keep hb)
            replace F9 := Lib.hid (F9.out.keep hb)
            replace F10 := Lib.hid (F10.out.keep hb)
            replace HB := Lib.hid (keepB HB.out hb)
            have D := Lib.hid hD
            clear hb hD
            refine (same_eq X8 s8 _ _ [1, -1, 0] _ three_leG F8.out (isI_bkL (l := [1, -1, 0]) D.out (i64bL (by decide)))).mono ?_
            rintro e c13 ⟨rfl, hb⟩
            replace F8 := Lib.hid (F8.out.keep hb)
            replace F9 := Lib.hid (F9.out.keep hb)
            replace F10 := Lib.hid (F10.out.keep hb)
            replace D := Lib.hid (D.out.keep hb)
            replace HB := Lib.hid (keepB HB.out hb)
            clear hb
            clear D F8
            go_wp2_with fail
            refine at_worldR (fun v => Below c13.heap.size c13 v ∧ BK v (c13.heap.size) [.int .i64 0, .int .i64 (-1), .int .i64 (-1)]) ⟨below_al (Below.refl _ _) _, BK.new c13 [.int .i64 0, .int .i64 (-1), .int .i64 (-1)] 3⟩ (fun V9 hS => ?_)
            obtain ⟨hb, hD⟩ := hS
            replace F9 := Lib.hid (F9.out.keep hb)
            replace F10 := Lib.hid (F10.out.keep hb)
            replace HB := Lib.hid (keepB HB.out hb)
            have D := Lib.hid hD
            clear hb hD
            refine (same_eq X9 s9 _ _ [0, -1, -1] _ three_leG F9.out (isI_bkL (l := [0, -1, -1]) D.out (i64bL (by decide)))).mono ?_
            rintro e c14 ⟨rfl, hb⟩
            replace F9 := Lib.hid (F9.out.keep hb)
            replace F10 := Lib.hid (F10.out.keep hb)
            replace D := Lib.hid (D.out.keep hb)
            replace HB := Lib.hid (keepB HB.out hb)
            clear hb
            clear D F9
            go_wp2_with fail
            refine at_worldR (fun v => Below c14.heap.size c14 v ∧ BK v (c14.heap.size) [.int .i64 1]) ⟨below_al (Below.refl _ _) _, BK.new c14 [.int .i64 1] 3⟩ (fun Va hS => ?_)
            obtain ⟨hb, hD⟩ := hS
            replace F10 := Lib.hid (F10.out.keep hb)
            replace HB := Lib.hid (keepB HB.out hb)
            have D := Lib.hid hD
            clear hb hD
            refine (same_eq X10 s10 _ _ [1] _ (by unfold maxLen; simp) F10.out (isI_bkL (l := [1]) D.out (i64bL (by decide)))).mono ?_
            rintro e c15 ⟨rfl, hb⟩
            replace F10 := Lib.hid (F10.out.keep hb)
            replace D := Lib.hid (D.out.keep hb)
            replace HB := Lib.hid (keepB HB.out hb)
            clear hb
            clear D F10
            go_wp2_with fail
            go_ret
            exact ⟨rfl, HB.out⟩
end Go.Proofs.Ytfpaefnaidppmaa

/- RentNames' walk. -/
import Derived.Test.YtncmffhoodfhjaaLxg
import Derived.Test.YtncmffhoodfhjaaYf
namespace Go.Proofs.Ytncmffhoodfhjaa
open Go.RowKit
theorem isM_one15 {w : World} {q p : Nat} {l : List Int} {n : Nat} (h : BK w q [.slice (some ⟨p, 0, none⟩) n n]) (hn : n = l.length) (k : BK w p (l.map (Value.int .i64))) (hb : I64bL l = true) (hl : l.length ≤ 50) : IsM w (some ⟨q, 0, none⟩) [l] := by
  subst hn
  refine fun _ => ⟨q, 0, rfl, fun i hi => ?_⟩
  match i, hi with
  | 0, _ => exact ⟨_, _, h.c 0 rfl, by show l.length ≤ maxLen; unfold maxLen; omega, isI_bkL k (i64bL hb)⟩
theorem isM_three15 {w : World} {q p1 p2 p3 : Nat} {l1 l2 l3 : List Int} {n1 n2 n3 : Nat} (h : BK w q [.slice (some ⟨p1, 0, none⟩) n1 n1, .slice (some ⟨p2, 0, none⟩) n2 n2, .slice (some ⟨p3, 0, none⟩) n3 n3]) (h1 : n1 = l1.length) (h2 : n2 = l2.length) (h3 : n3 = l3.length)
    (k1 : BK w p1 (l1.map (Value.int .i64))) (k2 : BK w p2 (l2.map (Value.int .i64))) (k3 : BK w p3 (l3.map (Value.int .i64))) (b1 : I64bL l1 = true) (b2 : I64bL l2 = true) (b3 : I64bL l3 = true) (m1 : l1.length ≤ 50) (m2 : l2.length ≤ 50) (m3 : l3.length ≤ 50) : IsM w (some ⟨q, 0, none⟩) [l1, l2, l3] := by
  subst h1 h2 h3
  refine fun _ => ⟨q, 0, rfl, fun i hi => ?_⟩
  match i, hi with
  | 0, _ => exact ⟨_, _, h.c 0 rfl, by show l1.length ≤ maxLen; unfold maxLen; omega, isI_bkL k1 (i64bL b1)⟩
  | 1, _ => exact ⟨_, _, h.c 1 rfl, by show l2.length ≤ maxLen; unfold maxLen; omega, isI_bkL k2 (i64bL b2)⟩
  | 2, _ => exact ⟨_, _, h.c 2 rfl, by show l3.length ≤ maxLen; unfold maxLen; omega, isI_bkL k3 (i64bL b3)⟩
theorem isM_nils15 {w : World} {q n : Nat} (h : BK w q (List.replicate n (.slice none 0 0))) : IsM w (some ⟨q, 0, none⟩) (List.replicate n []) := by
  refine fun _ => ⟨q, 0, rfl, fun i hi => ?_⟩
  rw [List.length_replicate] at hi
  have e : (List.replicate n ([] : List Int)).getD i [] = [] := by simp [List.getD_eq_getElem?_getD, hi]
  rw [e, Nat.zero_add]
  exact ⟨none, 0, h.c i (by simp [hi]), by simp, isI_nil _ _⟩
theorem nils15_make (v : World) : Sem.run Try.prog (Instr.makeSlice 22 (.int .i64 7) (.int .i64 7)) v = .ok (.slice (some ⟨v.heap.size, 0, none⟩) 7 7) (v.alloc (.cells #[.slice none 0 0, .slice none 0 0, .slice none 0 0, .slice none 0 0, .slice none 0 0, .slice none 0 0, .slice none 0 0] 25)) := rows_make 7 (by omega) v
theorem y15a : As.evA [] 0 = [] ∧ As.frP [] 0 = [] ∧ As.frD [] 0 = 0 ∧ As.rchk [] 0 = 8 := by decide +kernel
theorem y15b : As.evA (List.replicate 7 []) 0 = [] ∧ As.clP (List.replicate 7 []) 0 = [] ∧ As.clD (List.replicate 7 []) 0 = 0 ∧ As.rchk (List.replicate 7 []) 0 = 4 := by decide +kernel
theorem y15c : As.wsS [[5, 3], [4, 1]] 5 [] [] 0 = ((0, 0), (0, 0), 8) := by decide +kernel
theorem y15d : As.skS [[5, 3], [4, 1]] 5 2 = ((0, 0), (0, 0), 2) := by decide +kernel
theorem y15e : As.skS [[5, 3], [4, 1]] 5 (-1) = ((0, 0), (0, 0), 2) := by decide +kernel
theorem y15f : As.skS [] 0 9 = ((0, 0), (0, 0), 8) := by decide +kernel
theorem y15g : As.evA [[3, 0, 0], [0, 0, 0], [0, 0, 0]] 0 = [0, 1, 2] ∧ As.frP [[3, 0, 0], [0, 0, 0], [0, 0, 0]] 0 = [2, -1, -1] ∧ As.frD [[3, 0, 0], [0, 0, 0], [0, 0, 0]] 0 = 1 ∧ As.rchk [[3, 0, 0], [0, 0, 0], [0, 0, 0]] 0 = 0 := by decide +kernel
theorem y15h : As.evA [[3, 0, 0], [0, 0, 0], [0, 0, 0]] 0 = [0, 1, 2] ∧ As.clP [[3, 0, 0], [0, 0, 0], [0, 0, 0]] 0 = [2, -1, -1] ∧ As.clD [[3, 0, 0], [0, 0, 0], [0, 0, 0]] 0 = 1 ∧ As.rchk [[3, 0, 0], [0, 0, 0], [0, 0, 0]] 0 = 0 := by decide +kernel
theorem y15i : As.wsS [[3, 0, 0], [0, 0, 0], [0, 0, 0]] 0 [0, 1, 2] [2, -1, -1] 1 = ((1, 1), (1, 1), 0) := by decide +kernel
theorem y15j : As.skS [[3, 0, 0], [0, 0, 0], [0, 0, 0]] 0 0 = ((1, 1), (3, 1), 0) := by decide +kernel
theorem y15k : As.evA [[7]] 9 = [0] ∧ As.frP [[7]] 9 = [9] ∧ As.frD [[7]] 9 = 1 ∧ As.rchk [[7]] 9 = 0 := by decide +kernel
theorem y15l : As.wsS [[7]] 9 [0] [9] 1 = ((-2, 1), (-2, 1), 0) := by decide +kernel
theorem yA (A : Option Addr) (cv : Nat) (w : World) (h : IsM w A []) : Calls Try.prog 28 #[.agg #[.slice A 0 cv, .int .i64 0]] w fun e w' => ∃ X c Y d, e = .returned (.tuple #[.agg #[.slice X 0 c, .slice Y 0 d, .int .i64 0], .int .i64 8]) ∧ IsI w' X [] ∧ IsI w' Y [] ∧ Below w.heap.size w w' := by
  refine (rtFair_any A cv [] 0 w (by unfold maxLen; simp) h).mono ?_
  rintro e w' ⟨X, c, Y, d, rfl, hX, hY, hb⟩
  obtain ⟨f1, f2, f3, f4⟩ := y15a
  rw [f1] at hX ⊢
  rw [f2] at hY ⊢
  rw [f3, f4]
  exact ⟨X, c, Y, d, rfl, hX, hY, hb⟩
theorem yB (A : Option Addr) (cv : Nat) (w : World) (h : IsM w A (List.replicate 7 [])) : Calls Try.prog 29 #[.agg #[.slice A 7 cv, .int .i64 0]] w fun e w' => ∃ X c Y d, e = .returned (.tuple #[.agg #[.slice X 0 c, .slice Y 0 d, .int .i64 0], .int .i64 4]) ∧ IsI w' X [] ∧ IsI w' Y [] ∧ Below w.heap.size w w' := by
  refine (rtCalm_any A cv (List.replicate 7 []) 0 w (by unfold maxLen; simp) h).mono ?_
  rintro e w' ⟨X, c, Y, d, rfl, hX, hY, hb⟩
  obtain ⟨f1, f2, f3, f4⟩ := y15b
  rw [f1] at hX ⊢
  rw [f2] at hY ⊢
  rw [f3, f4]
  exact ⟨X, c, Y, d, rfl, hX, hY, hb⟩
theorem yC (A : Option Addr) (cv : Nat) (X : Option Addr) (c : Nat) (Y : Option Addr) (d : Nat) (w : World) (h : IsM w A [[5, 3], [4, 1]]) (hX : IsI w X []) (hY : IsI w Y []) : Calls Try.prog 30 #[.agg #[.slice A 2 cv, .int .i64 5], .agg #[.slice X 0 c, .slice Y 0 d, .int .i64 0]] w fun e w' => e = .returned (.tuple #[.agg #[.int .i64 0, .int .i64 0], .agg #[.int .i64 0, .int .i64 0], .int .i64 8]) ∧ Below w.heap.size w w' := by
  refine (rtWorst_any A cv [[5, 3], [4, 1]] 5 X c [] Y d [] 0 w (by unfold maxLen; simp) h (by unfold maxLen; simp) hX (by unfold maxLen; simp) hY).mono ?_
  rintro e w' ⟨rfl, hb⟩
  unfold wsV
  rw [y15c]
  exact ⟨rfl, hb⟩
theorem yD (A : Option Addr) (cv : Nat) (w : World) (h : IsM w A [[5, 3], [4, 1]]) : Calls Try.prog 32 #[.agg #[.slice A 2 cv, .int .i64 5], .int .i64 2] w fun e w' => e = .returned (.tuple #[.agg #[.int .i64 0, .int .i64 0], .agg #[.int .i64 0, .int .i64 0], .int .i64 2]) ∧ Below w.heap.size w w' := by
  refine (rtStake_any A cv [[5, 3], [4, 1]] 5 2 w (by unfold maxLen; simp) h).mono ?_
  rintro e w' ⟨rfl, hb⟩
  unfold skV
  rw [y15d]
  exact ⟨rfl, hb⟩
theorem yE (A : Option Addr) (cv : Nat) (w : World) (h : IsM w A [[5, 3], [4, 1]]) : Calls Try.prog 32 #[.agg #[.slice A 2 cv, .int .i64 5], .int .i64 (-1)] w fun e w' => e = .returned (.tuple #[.agg #[.int .i64 0, .int .i64 0], .agg #[.int .i64 0, .int .i64 0], .int .i64 2]) ∧ Below w.heap.size w w' := by
  refine (rtStake_any A cv [[5, 3], [4, 1]] 5 (-1) w (by unfold maxLen; simp) h).mono ?_
  rintro e w' ⟨rfl, hb⟩
  unfold skV
  rw [y15e]
  exact ⟨rfl, hb⟩
theorem yF (A : Option Addr) (cv : Nat) (w : World) (h : IsM w A []) : Calls Try.prog 32 #[.agg #[.slice A 0 cv, .int .i64 0], .int .i64 9] w fun e w' => e = .returned (.tuple #[.agg #[.int .i64 0, .int .i64 0], .agg #[.int .i64 0, .int .i64 0], .int .i64 8]) ∧ Below w.heap.size w w' := by
  refine (rtStake_any A cv [] 0 9 w (by unfold maxLen; simp) h).mono ?_
  rintro e w' ⟨rfl, hb⟩
  unfold skV
  rw [y15f]
  exact ⟨rfl, hb⟩
theorem yG (A : Option Addr) (cv : Nat) (w : World) (h : IsM w A [[3, 0, 0], [0, 0, 0], [0, 0, 0]]) : Calls Try.prog 28 #[.agg #[.slice A 3 cv, .int .i64 0]] w fun e w' => ∃ X c Y d, e = .returned (.tuple #[.agg #[.slice X 3 c, .slice Y 3 d, .int .i64 1], .int .i64 0]) ∧ IsI w' X [0, 1, 2] ∧ IsI w' Y [2, -1, -1] ∧ Below w.heap.size w w' := by
  refine (rtFair_any A cv [[3, 0, 0], [0, 0, 0], [0, 0, 0]] 0 w (by unfold maxLen; simp) h).mono ?_
  rintro e w' ⟨X, c, Y, d, rfl, hX, hY, hb⟩
  obtain ⟨f1, f2, f3, f4⟩ := y15g
  rw [f1] at hX ⊢
  rw [f2] at hY ⊢
  rw [f3, f4]
  exact ⟨X, c, Y, d, rfl, hX, hY, hb⟩
theorem yH (A : Option Addr) (cv : Nat) (w : World) (h : IsM w A [[3, 0, 0], [0, 0, 0], [0, 0, 0]]) : Calls Try.prog 29 #[.agg #[.slice A 3 cv, .int .i64 0]] w fun e w' => ∃ X c Y d, e = .returned (.tuple #[.agg #[.slice X 3 c, .slice Y 3 d, .int .i64 1], .int .i64 0]) ∧ IsI w' X [0, 1, 2] ∧ IsI w' Y [2, -1, -1] ∧ Below w.heap.size w w' := by
  refine (rtCalm_any A cv [[3, 0, 0], [0, 0, 0], [0, 0, 0]] 0 w (by unfold maxLen; simp) h).mono ?_
  rintro e w' ⟨X, c, Y, d, rfl, hX, hY, hb⟩
  obtain ⟨f1, f2, f3, f4⟩ := y15h
  rw [f1] at hX ⊢
  rw [f2] at hY ⊢
  rw [f3, f4]
  exact ⟨X, c, Y, d, rfl, hX, hY, hb⟩
theorem yI (A : Option Addr) (cv : Nat) (X : Option Addr) (c : Nat) (Y : Option Addr) (d : Nat) (w : World) (h : IsM w A [[3, 0, 0], [0, 0, 0], [0, 0, 0]]) (hX : IsI w X [0, 1, 2]) (hY : IsI w Y [2, -1, -1]) : Calls Try.prog 30 #[.agg #[.slice A 3 cv, .int .i64 0], .agg #[.slice X 3 c, .slice Y 3 d, .int .i64 1]] w fun e w' => e = .returned (.tuple #[.agg #[.int .i64 1, .int .i64 1], .agg #[.int .i64 1, .int .i64 1], .int .i64 0]) ∧ Below w.heap.size w w' := by
  refine (rtWorst_any A cv [[3, 0, 0], [0, 0, 0], [0, 0, 0]] 0 X c [0, 1, 2] Y d [2, -1, -1] 1 w (by unfold maxLen; simp) h (by unfold maxLen; simp) hX (by unfold maxLen; simp) hY).mono ?_
  rintro e w' ⟨rfl, hb⟩
  unfold wsV
  rw [y15i]
  exact ⟨rfl, hb⟩
theorem yJ (A : Option Addr) (cv : Nat) (w : World) (h : IsM w A [[3, 0, 0], [0, 0, 0], [0, 0, 0]]) : Calls Try.prog 32 #[.agg #[.slice A 3 cv, .int .i64 0], .int .i64 0] w fun e w' => e = .returned (.tuple #[.agg #[.int .i64 1, .int .i64 1], .agg #[.int .i64 3, .int .i64 1], .int .i64 0]) ∧ Below w.heap.size w w' := by
  refine (rtStake_any A cv [[3, 0, 0], [0, 0, 0], [0, 0, 0]] 0 0 w (by unfold maxLen; simp) h).mono ?_
  rintro e w' ⟨rfl, hb⟩
  unfold skV
  rw [y15j]
  exact ⟨rfl, hb⟩
theorem yK (A : Option Addr) (cv : Nat) (w : World) (h : IsM w A [[7]]) : Calls Try.prog 28 #[.agg #[.slice A 1 cv, .int .i64 9]] w fun e w' => ∃ X c Y d, e = .returned (.tuple #[.agg #[.slice X 1 c, .slice Y 1 d, .int .i64 1], .int .i64 0]) ∧ IsI w' X [0] ∧ IsI w' Y [9] ∧ Below w.heap.size w w' := by
  refine (rtFair_any A cv [[7]] 9 w (by unfold maxLen; simp) h).mono ?_
  rintro e w' ⟨X, c, Y, d, rfl, hX, hY, hb⟩
  obtain ⟨f1, f2, f3, f4⟩ := y15k
  rw [f1] at hX ⊢
  rw [f2] at hY ⊢
  rw [f3, f4]
  exact ⟨X, c, Y, d, rfl, hX, hY, hb⟩
theorem yL (A : Option Addr) (cv : Nat) (X : Option Addr) (c : Nat) (Y : Option Addr) (d : Nat) (w : World) (h : IsM w A [[7]]) (hX : IsI w X [0]) (hY : IsI w Y [9]) : Calls Try.prog 30 #[.agg #[.slice A 1 cv, .int .i64 9], .agg #[.slice X 1 c, .slice Y 1 d, .int .i64 1]] w fun e w' => e = .returned (.tuple #[.agg #[.int .i64 (-2), .int .i64 1], .agg #[.int .i64 (-2), .int .i64 1], .int .i64 0]) ∧ Below w.heap.size w w' := by
  refine (rtWorst_any A cv [[7]] 9 X c [0] Y d [9] 1 w (by unfold maxLen; simp) h (by unfold maxLen; simp) hX (by unfold maxLen; simp) hY).mono ?_
  rintro e w' ⟨rfl, hb⟩
  unfold wsV
  rw [y15l]
  exact ⟨rfl, hb⟩
set_option maxRecDepth 100000 in
set_option maxHeartbeats 16000000 in
theorem rentnames_walk (w : World) : Calls Try.prog 5 #[] w fun e w' => e = .returned (.bool true) ∧ Below w.heap.size w w' := by
  have HG := Lib.hid given15_any
  have HB := Lib.hid (Below.refl w.heap.size w)
  have MK := nils15_make
  go_enter Try.func5, Try.ntmps5
  go_upto_region 2 with fail
  refine at_worldQ (fun v => Below w.heap.size w v ∧ BK v (w.heap.size) [.slice none 0 0, .int .i64 0]) ⟨below_al (Below.refl _ _) _, BK.new w [.slice none 0 0, .int .i64 0] 24⟩ (fun U1 hS => ?_)
  obtain ⟨hb, hBN⟩ := hS
  replace HB := Lib.hid (keepB HB.out hb)
  have BN := Lib.hid hBN
  clear hb hBN
  have cBN0 := BN.out.c 0 rfl
  have cBN1 := BN.out.c 1 rfl
  go_wp2_with fail
  refine (yA none 0 _ (isM_nil _ _)).mono ?_
  rintro e w1 ⟨X1, c1, Y1, d1, rfl, -, -, hb⟩
  replace BN := Lib.hid (BN.out.keep hb)
  replace HB := Lib.hid (keepB HB.out hb)
  clear cBN0 cBN1 hb
  go_upto_region 3 with fail
  refine at_worldQ (fun v => Below w1.heap.size w1 v ∧ BK v (w1.heap.size) [.slice X1 0 c1, .slice Y1 0 d1, .int .i64 0]) ⟨below_al (Below.refl _ _) _, BK.new w1 [.slice X1 0 c1, .slice Y1 0 d1, .int .i64 0] 27⟩ (fun U2 hS => ?_)
  obtain ⟨hb, hT1⟩ := hS
  replace BN := Lib.hid (BN.out.keep hb)
  replace HB := Lib.hid (keepB HB.out hb)
  have T1 := Lib.hid hT1
  clear hb hT1
  clear T1
  go_wp2_with fail
  refine at_worldR (fun v => Below U2.heap.size U2 v ∧ BK v (U2.heap.size) [.slice none 0 0, .slice none 0 0, .slice none 0 0, .slice none 0 0, .slice none 0 0, .slice none 0 0, .slice none 0 0]) ⟨below_al (Below.refl _ _) _, BK.new U2 [.slice none 0 0, .slice none 0 0, .slice none 0 0, .slice none 0 0, .slice none 0 0, .slice none 0 0, .slice none 0 0] 25⟩ (fun U3 hS => ?_)
  obtain ⟨hb, hT2⟩ := hS
  replace BN := Lib.hid (BN.out.keep hb)
  replace HB := Lib.hid (keepB HB.out hb)
  have T2 := Lib.hid hT2
  clear hb hT2
  refine (yB _ 7 _ (isM_nils15 (n := 7) T2.out)).mono ?_
  rintro e w2 ⟨X2, c2, Y2, d2, rfl, -, -, hb⟩
  replace BN := Lib.hid (BN.out.keep hb)
  replace T2 := Lib.hid (T2.out.keep hb)
  replace HB := Lib.hid (keepB HB.out hb)
  clear hb
  clear T2
  clear MK
  go_upto_region 4 with fail
  refine at_worldQ (fun v => Below w2.heap.size w2 v ∧ BK v (w2.heap.size) [.slice X2 0 c2, .slice Y2 0 d2, .int .i64 0]) ⟨below_al (Below.refl _ _) _, BK.new w2 [.slice X2 0 c2, .slice Y2 0 d2, .int .i64 0] 27⟩ (fun U4 hS => ?_)
  obtain ⟨hb, hT1⟩ := hS
  replace BN := Lib.hid (BN.out.keep hb)
  replace HB := Lib.hid (keepB HB.out hb)
  have T1 := Lib.hid hT1
  clear hb hT1
  clear T1
  go_wp2_with fail
  refine (HG.out _).mono ?_
  rintro e w3 ⟨g3, rfl, hM, hb⟩
  replace BN := Lib.hid (BN.out.keep hb)
  replace HB := Lib.hid (keepB HB.out hb)
  have HM := Lib.hid hM
  clear hb hM
  go_wp2_with fail
  refine (yC _ _ _ _ _ _ _ HM.out (isI_nil _ _) (isI_nil _ _)).mono ?_
  rintro e w4 ⟨rfl, hb⟩
  replace BN := Lib.hid (BN.out.keep hb)
  replace HM := Lib.hid (HM.out.keep hb)
  replace HB := Lib.hid (keepB HB.out hb)
  clear hb
  clear HM
  go_upto_region 5 with fail
  refine at_worldQ (fun v => Below w4.heap.size w4 v ∧ BK v (w4.heap.size) [.int .i64 0, .int .i64 0] ∧ BK v (w4.heap.size + 1) [.int .i64 0, .int .i64 0]) ⟨below_al (below_al (Below.refl _ _) _) _, ((BK.new w4 [.int .i64 0, .int .i64 0] 31).al _), (bkAtL (BK.new (w4.alloc (.cells #[.int .i64 0, .int .i64 0] 31)) [.int .i64 0, .int .i64 0] 31) (by simp only [World.size_alloc]))⟩ (fun U5 hS => ?_)
  obtain ⟨hb, hT1, hT2⟩ := hS
  replace BN := Lib.hid (BN.out.keep hb)
  replace HB := Lib.hid (keepB HB.out hb)
  have T1 := Lib.hid hT1
  have T2 := Lib.hid hT2
  clear hb hT1 hT2
  clear T1 T2
  go_wp2_with fail
  refine (HG.out _).mono ?_
  rintro e w5 ⟨g5, rfl, hM, hb⟩
  replace BN := Lib.hid (BN.out.keep hb)
  replace HB := Lib.hid (keepB HB.out hb)
  have HM := Lib.hid hM
  clear hb hM
  go_wp2_with fail
  refine (yD _ _ _ HM.out).mono ?_
  rintro e w6 ⟨rfl, hb⟩
  replace BN := Lib.hid (BN.out.keep hb)
  replace HM := Lib.hid (HM.out.keep hb)
  replace HB := Lib.hid (keepB HB.out hb)
  clear hb
  clear HM
  go_upto_region 6 with fail
  refine at_worldQ (fun v => Below w6.heap.size w6 v ∧ BK v (w6.heap.size) [.int .i64 0, .int .i64 0] ∧ BK v (w6.heap.size + 1) [.int .i64 0, .int .i64 0]) ⟨below_al (below_al (Below.refl _ _) _) _, ((BK.new w6 [.int .i64 0, .int .i64 0] 31).al _), (bkAtL (BK.new (w6.alloc (.cells #[.int .i64 0, .int .i64 0] 31)) [.int .i64 0, .int .i64 0] 31) (by simp only [World.size_alloc]))⟩ (fun U6 hS => ?_)
  obtain ⟨hb, hT1, hT2⟩ := hS
  replace BN := Lib.hid (BN.out.keep hb)
  replace HB := Lib.hid (keepB HB.out hb)
  have T1 := Lib.hid hT1
  have T2 := Lib.hid hT2
  clear hb hT1 hT2
  clear T1 T2
  go_wp2_with fail
  refine (HG.out _).mono ?_
  rintro e w7 ⟨g7, rfl, hM, hb⟩
  replace BN := Lib.hid (BN.out.keep hb)
  replace HB := Lib.hid (keepB HB.out hb)
  have HM := Lib.hid hM
  clear hb hM
  go_wp2_with fail
  refine (yE _ _ _ HM.out).mono ?_
  rintro e w8 ⟨rfl, hb⟩
  replace BN := Lib.hid (BN.out.keep hb)
  replace HM := Lib.hid (HM.out.keep hb)
  replace HB := Lib.hid (keepB HB.out hb)
  clear hb
  clear HM
  go_upto_region 7 with fail
  refine at_worldQ (fun v => Below w8.heap.size w8 v ∧ BK v (w8.heap.size) [.int .i64 0, .int .i64 0] ∧ BK v (w8.heap.size + 1) [.int .i64 0, .int .i64 0]) ⟨below_al (below_al (Below.refl _ _) _) _, ((BK.new w8 [.int .i64 0, .int .i64 0] 31).al _), (bkAtL (BK.new (w8.alloc (.cells #[.int .i64 0, .int .i64 0] 31)) [.int .i64 0, .int .i64 0] 31) (by simp only [World.size_alloc]))⟩ (fun U7 hS => ?_)
  obtain ⟨hb, hT1, hT2⟩ := hS
  replace BN := Lib.hid (BN.out.keep hb)
  replace HB := Lib.hid (keepB HB.out hb)
  have T1 := Lib.hid hT1
  have T2 := Lib.hid hT2
  clear hb hT1 hT2
  clear T1 T2
  have cBN0 := BN.out.c 0 rfl
  have cBN1 := BN.out.c 1 rfl
  go_wp2_with fail
  refine (yF none 0 _ (isM_nil _ _)).mono ?_
  rintro e w9 ⟨rfl, hb⟩
  replace BN := Lib.hid (BN.out.keep hb)
  replace HB := Lib.hid (keepB HB.out hb)
  clear cBN0 cBN1 hb
  clear BN
  go_upto_region 8 with fail
  refine at_worldQ (fun v => Below w9.heap.size w9 v ∧ BK v (w9.heap.size) [.int .i64 0, .int .i64 0] ∧ BK v (w9.heap.size + 1) [.int .i64 0, .int .i64 0]) ⟨below_al (below_al (Below.refl _ _) _) _, ((BK.new w9 [.int .i64 0, .int .i64 0] 31).al _), (bkAtL (BK.new (w9.alloc (.cells #[.int .i64 0, .int .i64 0] 31)) [.int .i64 0, .int .i64 0] 31) (by simp only [World.size_alloc]))⟩ (fun U8 hS => ?_)
  obtain ⟨hb, hT1, hT2⟩ := hS
  replace HB := Lib.hid (keepB HB.out hb)
  have T1 := Lib.hid hT1
  have T2 := Lib.hid hT2
  clear hb hT1 hT2
  clear T1 T2
  go_upto_region 9 with fail
  refine at_worldQ (fun v => Below U8.heap.size U8 v ∧ BK v (U8.heap.size) [.int .i64 3, .int .i64 0, .int .i64 0] ∧ BK v (U8.heap.size + 1) [.int .i64 0, .int .i64 0, .int .i64 0] ∧ BK v (U8.heap.size + 1 + 1) [.int .i64 0, .int .i64 0, .int .i64 0] ∧ BK v (U8.heap.size + 1 + 1 + 1) [.slice (some ⟨U8.heap.size, 0, none⟩) 3 3, .slice (some ⟨U8.heap.size + 1, 0, none⟩) 3 3, .slice (some ⟨U8.heap.size + 1 + 1, 0, none⟩) 3 3] ∧ BK v (U8.heap.size + 1 + 1 + 1 + 1) [.slice (some ⟨U8.heap.size + 1 + 1 + 1, 0, none⟩) 3 3, .int .i64 0]) ⟨below_al (below_al (below_al (below_al (below_al (Below.refl _ _) _) _) _) _) _, ((((((((BK.new U8 [.int .i64 3, .int .i64 0, .int .i64 0] 3).al _)).al _)).al _)).al _), (((((((bkAtL (BK.new (U8.alloc (.cells #[.int .i64 3, .int .i64 0, .int .i64 0] 3)) [.int .i64 0, .int .i64 0, .int .i64 0] 3) (by simp only [World.size_alloc]))).al _)).al _)).al _), (((((bkAtL (BK.new ((U8.alloc (.cells #[.int .i64 3, .int .i64 0, .int .i64 0] 3)).alloc (.cells #[.int .i64 0, .int .i64 0, .int .i64 0] 3)) [.int .i64 0, .int .i64 0, .int .i64 0] 3) (by simp only [World.size_alloc]))).al _)).al _), (((bkAtL (BK.new (((U8.alloc (.cells #[.int .i64 3, .int .i64 0, .int .i64 0] 3)).alloc (.cells #[.int .i64 0, .int .i64 0, .int .i64 0] 3)).alloc (.cells #[.int .i64 0, .int .i64 0, .int .i64 0] 3)) [.slice (some ⟨U8.heap.size, 0, none⟩) 3 3, .slice (some ⟨U8.heap.size + 1, 0, none⟩) 3 3, .slice (some ⟨U8.heap.size + 1 + 1, 0, none⟩) 3 3] 25) (by simp only [World.size_alloc]))).al _), (bkAtL (BK.new ((((U8.alloc (.cells #[.int .i64 3, .int .i64 0, .int .i64 0] 3)).alloc (.cells #[.int .i64 0, .int .i64 0, .int .i64 0] 3)).alloc (.cells #[.int .i64 0, .int .i64 0, .int .i64 0] 3)).alloc (.cells #[.slice (some ⟨U8.heap.size, 0, none⟩) 3 3, .slice (some ⟨U8.heap.size + 1, 0, none⟩) 3 3, .slice (some ⟨U8.heap.size + 1 + 1, 0, none⟩) 3 3] 25)) [.slice (some ⟨U8.heap.size + 1 + 1 + 1, 0, none⟩) 3 3, .int .i64 0] 24) (by simp only [World.size_alloc]))⟩ (fun U9 hS => ?_)
  obtain ⟨hb, hR1, hR2, hR3, hRR, hBF⟩ := hS
  replace HB := Lib.hid (keepB HB.out hb)
  have R1 := Lib.hid hR1
  have R2 := Lib.hid hR2
  have R3 := Lib.hid hR3
  have RR := Lib.hid hRR
  have BF := Lib.hid hBF
  clear hb hR1 hR2 hR3 hRR hBF
  have HZ := Lib.hid (isM_three15 (l1 := [3, 0, 0]) (l2 := [0, 0, 0]) (l3 := [0, 0, 0]) RR.out rfl rfl rfl R1.out R2.out R3.out (by decide) (by decide) (by decide) (by simp) (by simp) (by simp))
  clear R1 R2 R3 RR
  have cBF0 := BF.out.c 0 rfl
  have cBF1 := BF.out.c 1 rfl
  go_wp2_with fail
  refine (yG _ _ _ HZ.out).mono ?_
  rintro e x1 ⟨X3, c3, Y3, d3, rfl, hX, hY, hb⟩
  replace BF := Lib.hid (BF.out.keep hb)
  replace HZ := Lib.hid (HZ.out.keep hb)
  replace HB := Lib.hid (keepB HB.out hb)
  have IX3 := Lib.hid hX
  have IY3 := Lib.hid hY
  clear cBF0 cBF1 hb hX hY
  go_upto_region 10 with fail
  refine at_worldQ (fun v => Below x1.heap.size x1 v ∧ BK v (x1.heap.size) [.slice X3 3 c3, .slice Y3 3 d3, .int .i64 1]) ⟨below_al (Below.refl _ _) _, BK.new x1 [.slice X3 3 c3, .slice Y3 3 d3, .int .i64 1] 27⟩ (fun U10 hS => ?_)
  obtain ⟨hb, hL3⟩ := hS
  replace BF := Lib.hid (BF.out.keep hb)
  replace HZ := Lib.hid (HZ.out.keep hb)
  replace IX3 := Lib.hid (IX3.out.keep hb)
  replace IY3 := Lib.hid (IY3.out.keep hb)
  replace HB := Lib.hid (keepB HB.out hb)
  have L3 := Lib.hid hL3
  clear hb hL3
  have cBF0 := BF.out.c 0 rfl
  have cBF1 := BF.out.c 1 rfl
  go_wp2_with fail
  refine (yH _ _ _ HZ.out).mono ?_
  rintro e x2 ⟨X4, c4, Y4, d4, rfl, hX, hY, hb⟩
  replace BF := Lib.hid (BF.out.keep hb)
  replace HZ := Lib.hid (HZ.out.keep hb)
  replace IX3 := Lib.hid (IX3.out.keep hb)
  replace IY3 := Lib.hid (IY3.out.keep hb)
  replace L3 := Lib.hid (L3.out.keep hb)
  replace HB := Lib.hid (keepB HB.out hb)
  have IX4 := Lib.hid hX
  have IY4 := Lib.hid hY
  clear cBF0 cBF1 hb hX hY
  go_upto_region 11 with fail
  refine at_worldQ (fun v => Below x2.heap.size x2 v ∧ BK v (x2.heap.size) [.slice X4 3 c4, .slice Y4 3 d4, .int .i64 1]) ⟨below_al (Below.refl _ _) _, BK.new x2 [.slice X4 3 c4, .slice Y4 3 d4, .int .i64 1] 27⟩ (fun U11 hS => ?_)
  obtain ⟨hb, hL4⟩ := hS
  replace BF := Lib.hid (BF.out.keep hb)
  replace HZ := Lib.hid (HZ.out.keep hb)
  replace IX3 := Lib.hid (IX3.out.keep hb)
  replace IY3 := Lib.hid (IY3.out.keep hb)
  replace L3 := Lib.hid (L3.out.keep hb)
  replace IX4 := Lib.hid (IX4.out.keep hb)
  replace IY4 := Lib.hid (IY4.out.keep hb)
  replace HB := Lib.hid (keepB HB.out hb)
  have L4 := Lib.hid hL4
  clear hb hL4
  have cBF0 := BF.out.c 0 rfl
  have cBF1 := BF.out.c 1 rfl
  have cL30 := L3.out.c 0 rfl
  have cL31 := L3.out.c 1 rfl
  have cL32 := L3.out.c 2 rfl
  go_wp2_with fail
  refine (yI _ _ _ _ _ _ _ HZ.out IX3.out IY3.out).mono ?_
  rintro e x3 ⟨rfl, hb⟩
  replace BF := Lib.hid (BF.out.keep hb)
  replace HZ := Lib.hid (HZ.out.keep hb)
  replace IX3 := Lib.hid (IX3.out.keep hb)
  replace IY3 := Lib.hid (IY3.out.keep hb)
  replace L3 := Lib.hid (L3.out.keep hb)
  replace IX4 := Lib.hid (IX4.out.keep hb)
  replace IY4 := Lib.hid (IY4.out.keep hb)
  replace L4 := Lib.hid (L4.out.keep hb)
  replace HB := Lib.hid (keepB HB.out hb)
  clear cBF0 cBF1 cL30 cL31 cL32 hb
  go_upto_region 12 with fail
  refine at_worldQ (fun v => Below x3.heap.size x3 v ∧ BK v (x3.heap.size) [.int .i64 1, .int .i64 1] ∧ BK v (x3.heap.size + 1) [.int .i64 1, .int .i64 1]) ⟨below_al (below_al (Below.refl _ _) _) _, ((BK.new x3 [.int .i64 1, .int .i64 1] 31).al _), (bkAtL (BK.new (x3.alloc (.cells #[.int .i64 1, .int .i64 1] 31)) [.int .i64 1, .int .i64 1] 31) (by simp only [World.size_alloc]))⟩ (fun U12 hS => ?_)
  obtain ⟨hb, hW1, hW2⟩ := hS
  replace BF := Lib.hid (BF.out.keep hb)
  replace HZ := Lib.hid (HZ.out.keep hb)
  replace IX3 := Lib.hid (IX3.out.keep hb)
  replace IY3 := Lib.hid (IY3.out.keep hb)
  replace L3 := Lib.hid (L3.out.keep hb)
  replace IX4 := Lib.hid (IX4.out.keep hb)
  replace IY4 := Lib.hid (IY4.out.keep hb)
  replace L4 := Lib.hid (L4.out.keep hb)
  replace HB := Lib.hid (keepB HB.out hb)
  have W1 := Lib.hid hW1
  have W2 := Lib.hid hW2
  clear hb hW1 hW2
  have cBF0 := BF.out.c 0 rfl
  have cBF1 := BF.out.c 1 rfl
  go_wp2_with fail
  refine (yJ _ _ _ HZ.out).mono ?_
  rintro e x4 ⟨rfl, hb⟩
  replace BF := Lib.hid (BF.out.keep hb)
  replace HZ := Lib.hid (HZ.out.keep hb)
  replace IX3 := Lib.hid (IX3.out.keep hb)
  replace IY3 := Lib.hid (IY3.out.keep hb)
  replace L3 := Lib.hid (L3.out.keep hb)
  replace IX4 := Lib.hid (IX4.out.keep hb)
  replace IY4 := Lib.hid (IY4.out.keep hb)
  replace L4 := Lib.hid (L4.out.keep hb)
  replace W1 := Lib.hid (W1.out.keep hb)
  replace W2 := Lib.hid (W2.out.keep hb)
  replace HB := Lib.hid (keepB HB.out hb)
  clear cBF0 cBF1 hb
  clear HZ BF
  go_upto_region 13 with fail
  refine at_worldQ (fun v => Below x4.heap.size x4 v ∧ BK v (x4.heap.size) [.int .i64 1, .int .i64 1] ∧ BK v (x4.heap.size + 1) [.int .i64 3, .int .i64 1]) ⟨below_al (below_al (Below.refl _ _) _) _, ((BK.new x4 [.int .i64 1, .int .i64 1] 31).al _), (bkAtL (BK.new (x4.alloc (.cells #[.int .i64 1, .int .i64 1] 31)) [.int .i64 3, .int .i64 1] 31) (by simp only [World.size_alloc]))⟩ (fun U13 hS => ?_)
  obtain ⟨hb, hS1, hS2⟩ := hS
  replace IX3 := Lib.hid (IX3.out.keep hb)
  replace IY3 := Lib.hid (IY3.out.keep hb)
  replace L3 := Lib.hid (L3.out.keep hb)
  replace IX4 := Lib.hid (IX4.out.keep hb)
  replace IY4 := Lib.hid (IY4.out.keep hb)
  replace L4 := Lib.hid (L4.out.keep hb)
  replace W1 := Lib.hid (W1.out.keep hb)
  replace W2 := Lib.hid (W2.out.keep hb)
  replace HB := Lib.hid (keepB HB.out hb)
  have S1 := Lib.hid hS1
  have S2 := Lib.hid hS2
  clear hb hS1 hS2
  go_wp2_with fail
  refine at_worldR (fun v => Below U13.heap.size U13 v ∧ BK v (U13.heap.size) [.int .i64 7] ∧ BK v (U13.heap.size + 1) [.slice (some ⟨U13.heap.size, 0, none⟩) 1 1]) ⟨below_al (below_al (Below.refl _ _) _) _, ((BK.new U13 [.int .i64 7] 3).al _), (bkAtL (BK.new (U13.alloc (.cells #[.int .i64 7] 3)) [.slice (some ⟨U13.heap.size, 0, none⟩) 1 1] 25) (by simp only [World.size_alloc]))⟩ (fun U14 hS => ?_)
  obtain ⟨hb, hR1, hRR⟩ := hS
  replace IX3 := Lib.hid (IX3.out.keep hb)
  replace IY3 := Lib.hid (IY3.out.keep hb)
  replace L3 := Lib.hid (L3.out.keep hb)
  replace IX4 := Lib.hid (IX4.out.keep hb)
  replace IY4 := Lib.hid (IY4.out.keep hb)
  replace L4 := Lib.hid (L4.out.keep hb)
  replace W1 := Lib.hid (W1.out.keep hb)
  replace W2 := Lib.hid (W2.out.keep hb)
  replace S1 := Lib.hid (S1.out.keep hb)
  replace S2 := Lib.hid (S2.out.keep hb)
  replace HB := Lib.hid (keepB HB.out hb)
  have R1 := Lib.hid hR1
  have RR := Lib.hid hRR
  clear hb hR1 hRR
  refine (yK _ _ _ (isM_one15 (l := [7]) RR.out rfl R1.out (by decide) (by simp))).mono ?_
  rintro e x5 ⟨X5, c5, Y5, d5, rfl, hX, hY, hb⟩
  replace IX3 := Lib.hid (IX3.out.keep hb)
  replace IY3 := Lib.hid (IY3.out.keep hb)
  replace L3 := Lib.hid (L3.out.keep hb)
  replace IX4 := Lib.hid (IX4.out.keep hb)
  replace IY4 := Lib.hid (IY4.out.keep hb)
  replace L4 := Lib.hid (L4.out.keep hb)
  replace W1 := Lib.hid (W1.out.keep hb)
  replace W2 := Lib.hid (W2.out.keep hb)
  replace S1 := Lib.hid (S1.out.keep hb)
  replace S2 := Lib.hid (S2.out.keep hb)
  replace R1 := Lib.hid (R1.out.keep hb)
  replace RR := Lib.hid (RR.out.keep hb)
  replace HB := Lib.hid (keepB HB.out hb)
  have IX5 := Lib.hid hX
  have IY5 := Lib.hid hY
  clear hb hX hY
  clear R1 RR
  go_upto_region 14 with fail
  refine at_worldQ (fun v => Below x5.heap.size x5 v ∧ BK v (x5.heap.size) [.slice X5 1 c5, .slice Y5 1 d5, .int .i64 1]) ⟨below_al (Below.refl _ _) _, BK.new x5 [.slice X5 1 c5, .slice Y5 1 d5, .int .i64 1] 27⟩ (fun U15 hS => ?_)
  obtain ⟨hb, hL5⟩ := hS
  replace IX3 := Lib.hid (IX3.out.keep hb)
  replace IY3 := Lib.hid (IY3.out.keep hb)
  replace L3 := Lib.hid (L3.out.keep hb)
  replace IX4 := Lib.hid (IX4.out.keep hb)
  replace IY4 := Lib.hid (IY4.out.keep hb)
  replace L4 := Lib.hid (L4.out.keep hb)
  replace W1 := Lib.hid (W1.out.keep hb)
  replace W2 := Lib.hid (W2.out.keep hb)
  replace S1 := Lib.hid (S1.out.keep hb)
  replace S2 := Lib.hid (S2.out.keep hb)
  replace IX5 := Lib.hid (IX5.out.keep hb)
  replace IY5 := Lib.hid (IY5.out.keep hb)
  replace HB := Lib.hid (keepB HB.out hb)
  have L5 := Lib.hid hL5
  clear hb hL5
  have q5 := (L5.out.al (.cells #[.int .i64 7] 3)).al (.cells #[.slice (some ⟨U15.heap.size, 0, none⟩) 1 1] 25)
  have q50 := q5.c 0 rfl
  have q51 := q5.c 1 rfl
  have q52 := q5.c 2 rfl
  clear q5
  go_wp2_with fail
  refine at_worldR (fun v => Below U15.heap.size U15 v ∧ BK v (U15.heap.size) [.int .i64 7] ∧ BK v (U15.heap.size + 1) [.slice (some ⟨U15.heap.size, 0, none⟩) 1 1]) ⟨below_al (below_al (Below.refl _ _) _) _, ((BK.new U15 [.int .i64 7] 3).al _), (bkAtL (BK.new (U15.alloc (.cells #[.int .i64 7] 3)) [.slice (some ⟨U15.heap.size, 0, none⟩) 1 1] 25) (by simp only [World.size_alloc]))⟩ (fun U16 hS => ?_)
  obtain ⟨hb, hR1, hRR⟩ := hS
  replace IX3 := Lib.hid (IX3.out.keep hb)
  replace IY3 := Lib.hid (IY3.out.keep hb)
  replace L3 := Lib.hid (L3.out.keep hb)
  replace IX4 := Lib.hid (IX4.out.keep hb)
  replace IY4 := Lib.hid (IY4.out.keep hb)
  replace L4 := Lib.hid (L4.out.keep hb)
  replace W1 := Lib.hid (W1.out.keep hb)
  replace W2 := Lib.hid (W2.out.keep hb)
  replace S1 := Lib.hid (S1.out.keep hb)
  replace S2 := Lib.hid (S2.out.keep hb)
  replace IX5 := Lib.hid (IX5.out.keep hb)
  replace IY5 := Lib.hid (IY5.out.keep hb)
  replace L5 := Lib.hid (L5.out.keep hb)
  replace HB := Lib.hid (keepB HB.out hb)
  have R1 := Lib.hid hR1
  have RR := Lib.hid hRR
  clear q50 q51 q52 hb hR1 hRR
  refine (yL _ _ _ _ _ _ _ (isM_one15 (l := [7]) RR.out rfl R1.out (by decide) (by simp)) IX5.out IY5.out).mono ?_
  rintro e x6 ⟨rfl, hb⟩
  replace IX3 := Lib.hid (IX3.out.keep hb)
  replace IY3 := Lib.hid (IY3.out.keep hb)
  replace L3 := Lib.hid (L3.out.keep hb)
  replace IX4 := Lib.hid (IX4.out.keep hb)
  replace IY4 := Lib.hid (IY4.out.keep hb)
  replace L4 := Lib.hid (L4.out.keep hb)
  replace W1 := Lib.hid (W1.out.keep hb)
  replace W2 := Lib.hid (W2.out.keep hb)
  replace S1 := Lib.hid (S1.out.keep hb)
  replace S2 := Lib.hid (S2.out.keep hb)
  replace IX5 := Lib.hid (IX5.out.keep hb)
  replace IY5 := Lib.hid (IY5.out.keep hb)
  replace L5 := Lib.hid (L5.out.keep hb)
  replace R1 := Lib.hid (R1.out.keep hb)
  replace RR := Lib.hid (RR.out.keep hb)
  replace HB := Lib.hid (keepB HB.out hb)
  clear hb
  clear R1 RR
  go_upto_region 15 with fail
  refine at_worldQ (fun v => Below x6.heap.size x6 v ∧ BK v (x6.heap.size) [.int .i64 (-2), .int .i64 1] ∧ BK v (x6.heap.size + 1) [.int .i64 (-2), .int .i64 1]) ⟨below_al (below_al (Below.refl _ _) _) _, ((BK.new x6 [.int .i64 (-2), .int .i64 1] 31).al _), (bkAtL (BK.new (x6.alloc (.cells #[.int .i64 (-2), .int .i64 1] 31)) [.int .i64 (-2), .int .i64 1] 31) (by simp only [World.size_alloc]))⟩ (fun U17 hS => ?_)
  obtain ⟨hb, hV1, hV2⟩ := hS
  replace IX3 := Lib.hid (IX3.out.keep hb)
  replace IY3 := Lib.hid (IY3.out.keep hb)
  replace L3 := Lib.hid (L3.out.keep hb)
  replace IX4 := Lib.hid (IX4.out.keep hb)
  replace IY4 := Lib.hid (IY4.out.keep hb)
  replace L4 := Lib.hid (L4.out.keep hb)
  replace W1 := Lib.hid (W1.out.keep hb)
  replace W2 := Lib.hid (W2.out.keep hb)
  replace S1 := Lib.hid (S1.out.keep hb)
  replace S2 := Lib.hid (S2.out.keep hb)
  replace IX5 := Lib.hid (IX5.out.keep hb)
  replace IY5 := Lib.hid (IY5.out.keep hb)
  replace L5 := Lib.hid (L5.out.keep hb)
  replace HB := Lib.hid (keepB HB.out hb)
  have V1 := Lib.hid hV1
  have V2 := Lib.hid hV2
  clear hb hV1 hV2
  go_wp2_with fail
  refine (alive15_any _).mono ?_
  rintro e y1 ⟨rfl, hb⟩
  replace IX3 := Lib.hid (IX3.out.keep hb)
  replace IY3 := Lib.hid (IY3.out.keep hb)
  replace L3 := Lib.hid (L3.out.keep hb)
  replace IX4 := Lib.hid (IX4.out.keep hb)
  replace IY4 := Lib.hid (IY4.out.keep hb)
  replace L4 := Lib.hid (L4.out.keep hb)
  replace W1 := Lib.hid (W1.out.keep hb)
  replace W2 := Lib.hid (W2.out.keep hb)
  replace S1 := Lib.hid (S1.out.keep hb)
  replace S2 := Lib.hid (S2.out.keep hb)
  replace IX5 := Lib.hid (IX5.out.keep hb)
  replace IY5 := Lib.hid (IY5.out.keep hb)
  replace L5 := Lib.hid (L5.out.keep hb)
  replace V1 := Lib.hid (V1.out.keep hb)
  replace V2 := Lib.hid (V2.out.keep hb)
  replace HB := Lib.hid (keepB HB.out hb)
  clear hb
  have cL30 := L3.out.c 0 rfl
  have cL31 := L3.out.c 1 rfl
  have cL32 := L3.out.c 2 rfl
  go_wp2_with fail
  refine at_worldR (fun v => Below y1.heap.size y1 v ∧ BK v (y1.heap.size) [.int .i64 0, .int .i64 1, .int .i64 2] ∧ BK v (y1.heap.size + 1) [.int .i64 2, .int .i64 (-1), .int .i64 (-1)]) ⟨below_al (below_al (Below.refl _ _) _) _, ((BK.new y1 [.int .i64 0, .int .i64 1, .int .i64 2] 3).al _), (bkAtL (BK.new (y1.alloc (.cells #[.int .i64 0, .int .i64 1, .int .i64 2] 3)) [.int .i64 2, .int .i64 (-1), .int .i64 (-1)] 3) (by simp only [World.size_alloc]))⟩ (fun U18 hS => ?_)
  obtain ⟨hb, hD1, hD2⟩ := hS
  replace IX3 := Lib.hid (IX3.out.keep hb)
  replace IY3 := Lib.hid (IY3.out.keep hb)
  replace L3 := Lib.hid (L3.out.keep hb)
  replace IX4 := Lib.hid (IX4.out.keep hb)
  replace IY4 := Lib.hid (IY4.out.keep hb)
  replace L4 := Lib.hid (L4.out.keep hb)
  replace W1 := Lib.hid (W1.out.keep hb)
  replace W2 := Lib.hid (W2.out.keep hb)
  replace S1 := Lib.hid (S1.out.keep hb)
  replace S2 := Lib.hid (S2.out.keep hb)
  replace IX5 := Lib.hid (IX5.out.keep hb)
  replace IY5 := Lib.hid (IY5.out.keep hb)
  replace L5 := Lib.hid (L5.out.keep hb)
  replace V1 := Lib.hid (V1.out.keep hb)
  replace V2 := Lib.hid (V2.out.keep hb)
  replace HB := Lib.hid (keepB HB.out hb)
  have D1 := Lib.hid hD1
  have D2 := Lib.hid hD2
  clear cL30 cL31 cL32 hb hD1 hD2
  refine (lsame_eq X3 c3 _ _ Y3 d3 _ _ [0, 1, 2] [2, -1, -1] 3 3 1 _ (by unfold maxLen; simp) (by unfold maxLen; simp) rfl rfl IX3.out (isI_bkL (l := [0, 1, 2]) D1.out (i64bL (by decide))) IY3.out (isI_bkL (l := [2, -1, -1]) D2.out (i64bL (by decide)))).mono ?_
  rintro e y2 ⟨rfl, hb⟩
  replace IX3 := Lib.hid (IX3.out.keep hb)
  replace IY3 := Lib.hid (IY3.out.keep hb)
  replace L3 := Lib.hid (L3.out.keep hb)
  replace IX4 := Lib.hid (IX4.out.keep hb)
  replace IY4 := Lib.hid (IY4.out.keep hb)
  replace L4 := Lib.hid (L4.out.keep hb)
  replace W1 := Lib.hid (W1.out.keep hb)
  replace W2 := Lib.hid (W2.out.keep hb)
  replace S1 := Lib.hid (S1.out.keep hb)
  replace S2 := Lib.hid (S2.out.keep hb)
  replace IX5 := Lib.hid (IX5.out.keep hb)
  replace IY5 := Lib.hid (IY5.out.keep hb)
  replace L5 := Lib.hid (L5.out.keep hb)
  replace V1 := Lib.hid (V1.out.keep hb)
  replace V2 := Lib.hid (V2.out.keep hb)
  replace D1 := Lib.hid (D1.out.keep hb)
  replace D2 := Lib.hid (D2.out.keep hb)
  replace HB := Lib.hid (keepB HB.out hb)
  clear hb
  clear D1 D2
  have cL30 := L3.out.c 0 rfl
  have cL31 := L3.out.c 1 rfl
  have cL32 := L3.out.c 2 rfl
  have cL40 := L4.out.c 0 rfl
  have cL41 := L4.out.c 1 rfl
  have cL42 := L4.out.c 2 rfl
  go_wp2_with fail
  refine (lsame_eq X3 c3 _ _ Y3 d3 _ _ [0, 1, 2] [2, -1, -1] 3 3 1 _ (by unfold maxLen; simp) (by unfold maxLen; simp) rfl rfl IX3.out IX4.out IY3.out IY4.out).mono ?_
  rintro e y3 ⟨rfl, hb⟩
  replace IX3 := Lib.hid (IX3.out.keep hb)
  replace IY3 := Lib.hid (IY3.out.keep hb)
  replace L3 := Lib.hid (L3.out.keep hb)
  replace IX4 := Lib.hid (IX4.out.keep hb)
  replace IY4 := Lib.hid (IY4.out.keep hb)
  replace L4 := Lib.hid (L4.out.keep hb)
  replace W1 := Lib.hid (W1.out.keep hb)
  replace W2 := Lib.hid (W2.out.keep hb)
  replace S1 := Lib.hid (S1.out.keep hb)
  replace S2 := Lib.hid (S2.out.keep hb)
  replace IX5 := Lib.hid (IX5.out.keep hb)
  replace IY5 := Lib.hid (IY5.out.keep hb)
  replace L5 := Lib.hid (L5.out.keep hb)
  replace V1 := Lib.hid (V1.out.keep hb)
  replace V2 := Lib.hid (V2.out.keep hb)
  replace HB := Lib.hid (keepB HB.out hb)
  clear cL30 cL31 cL32 cL40 cL41 cL42 hb
  clear IX3 IY3 IX4 IY4 L3 L4
  have cW10 := W1.out.c 0 rfl
  have cW11 := W1.out.c 1 rfl
  have cW20 := W2.out.c 0 rfl
  have cW21 := W2.out.c 1 rfl
  have cS10 := S1.out.c 0 rfl
  have cS11 := S1.out.c 1 rfl
  have cS20 := S2.out.c 0 rfl
  have cS21 := S2.out.c 1 rfl
  have cL50 := L5.out.c 0 rfl
  have cL51 := L5.out.c 1 rfl
  have cL52 := L5.out.c 2 rfl
  go_wp2_with fail
  refine at_worldR (fun v => Below y3.heap.size y3 v ∧ BK v (y3.heap.size) [.int .i64 0] ∧ BK v (y3.heap.size + 1) [.int .i64 9]) ⟨below_al (below_al (Below.refl _ _) _) _, ((BK.new y3 [.int .i64 0] 3).al _), (bkAtL (BK.new (y3.alloc (.cells #[.int .i64 0] 3)) [.int .i64 9] 3) (by simp only [World.size_alloc]))⟩ (fun U19 hS => ?_)
  obtain ⟨hb, hD1, hD2⟩ := hS
  replace W1 := Lib.hid (W1.out.keep hb)
  replace W2 := Lib.hid (W2.out.keep hb)
  replace S1 := Lib.hid (S1.out.keep hb)
  replace S2 := Lib.hid (S2.out.keep hb)
  replace IX5 := Lib.hid (IX5.out.keep hb)
  replace IY5 := Lib.hid (IY5.out.keep hb)
  replace L5 := Lib.hid (L5.out.keep hb)
  replace V1 := Lib.hid (V1.out.keep hb)
  replace V2 := Lib.hid (V2.out.keep hb)
  replace HB := Lib.hid (keepB HB.out hb)
  have D1 := Lib.hid hD1
  have D2 := Lib.hid hD2
  clear cW10 cW11 cW20 cW21 cS10 cS11 cS20 cS21 cL50 cL51 cL52 hb hD1 hD2
  refine (lsame_eq X5 c5 _ _ Y5 d5 _ _ [0] [9] 1 1 1 _ (by unfold maxLen; simp) (by unfold maxLen; simp) rfl rfl IX5.out (isI_bkL (l := [0]) D1.out (i64bL (by decide))) IY5.out (isI_bkL (l := [9]) D2.out (i64bL (by decide)))).mono ?_
  rintro e y4 ⟨rfl, hb⟩
  replace W1 := Lib.hid (W1.out.keep hb)
  replace W2 := Lib.hid (W2.out.keep hb)
  replace S1 := Lib.hid (S1.out.keep hb)
  replace S2 := Lib.hid (S2.out.keep hb)
  replace IX5 := Lib.hid (IX5.out.keep hb)
  replace IY5 := Lib.hid (IY5.out.keep hb)
  replace L5 := Lib.hid (L5.out.keep hb)
  replace V1 := Lib.hid (V1.out.keep hb)
  replace V2 := Lib.hid (V2.out.keep hb)
  replace D1 := Lib.hid (D1.out.keep hb)
  replace D2 := Lib.hid (D2.out.keep hb)
  replace HB := Lib.hid (keepB HB.out hb)
  clear hb
  have cV10 := V1.out.c 0 rfl
  have cV11 := V1.out.c 1 rfl
  have cV20 := V2.out.c 0 rfl
  have cV21 := V2.out.c 1 rfl
  go_wp2_with fail
  go_ret
  exact ⟨rfl, HB.out⟩
end Go.Proofs.Ytncmffhoodfhjaa

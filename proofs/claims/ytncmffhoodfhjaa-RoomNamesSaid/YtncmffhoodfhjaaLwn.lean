/- RoomNames' walk. -/
import Derived.Test.YtncmffhoodfhjaaLwp
import Derived.Test.YtncmffhoodfhjaaYf
import Derived.Test.YtncmffhoodfhjaaYn
import Derived.Test.YtncmffhoodfhjaaYp
namespace Go.Proofs.Ytncmffhoodfhjaa
open Go.RowKit
theorem isM_one14 {w : World} {q p : Nat} {l : List Int} {n : Nat} (h : BK w q [.slice (some ⟨p, 0, none⟩) n n]) (hn : n = l.length) (k : BK w p (l.map (Value.int .i64))) (hb : I64bL l = true) (hl : l.length ≤ 50) : IsM w (some ⟨q, 0, none⟩) [l] := by
  subst hn
  refine fun _ => ⟨q, 0, rfl, fun i hi => ?_⟩
  match i, hi with
  | 0, _ => exact ⟨_, _, h.c 0 rfl, by show l.length ≤ maxLen; unfold maxLen; omega, isI_bkL k (i64bL hb)⟩
theorem isM_three14 {w : World} {q p1 p2 p3 : Nat} {l1 l2 l3 : List Int} {n1 n2 n3 : Nat} (h : BK w q [.slice (some ⟨p1, 0, none⟩) n1 n1, .slice (some ⟨p2, 0, none⟩) n2 n2, .slice (some ⟨p3, 0, none⟩) n3 n3]) (h1 : n1 = l1.length) (h2 : n2 = l2.length) (h3 : n3 = l3.length)
    (k1 : BK w p1 (l1.map (Value.int .i64))) (k2 : BK w p2 (l2.map (Value.int .i64))) (k3 : BK w p3 (l3.map (Value.int .i64))) (b1 : I64bL l1 = true) (b2 : I64bL l2 = true) (b3 : I64bL l3 = true) (m1 : l1.length ≤ 50) (m2 : l2.length ≤ 50) (m3 : l3.length ≤ 50) : IsM w (some ⟨q, 0, none⟩) [l1, l2, l3] := by
  subst h1 h2 h3
  refine fun _ => ⟨q, 0, rfl, fun i hi => ?_⟩
  match i, hi with
  | 0, _ => exact ⟨_, _, h.c 0 rfl, by show l1.length ≤ maxLen; unfold maxLen; omega, isI_bkL k1 (i64bL b1)⟩
  | 1, _ => exact ⟨_, _, h.c 1 rfl, by show l2.length ≤ maxLen; unfold maxLen; omega, isI_bkL k2 (i64bL b2)⟩
  | 2, _ => exact ⟨_, _, h.c 2 rfl, by show l3.length ≤ maxLen; unfold maxLen; omega, isI_bkL k3 (i64bL b3)⟩
theorem isM_nils14 {w : World} {q n : Nat} (h : BK w q (List.replicate n (.slice none 0 0))) : IsM w (some ⟨q, 0, none⟩) (List.replicate n []) := by
  refine fun _ => ⟨q, 0, rfl, fun i hi => ?_⟩
  rw [List.length_replicate] at hi
  have e : (List.replicate n ([] : List Int)).getD i [] = [] := by simp [List.getD_eq_getElem?_getD, hi]
  rw [e, Nat.zero_add]
  exact ⟨none, 0, h.c i (by simp [hi]), by simp, isI_nil _ _⟩
theorem nils14_make (v : World) : Sem.run Try.prog (Instr.makeSlice 22 (.int .i64 7) (.int .i64 7)) v = .ok (.slice (some ⟨v.heap.size, 0, none⟩) 7 7) (v.alloc (.cells #[.slice none 0 0, .slice none 0 0, .slice none 0 0, .slice none 0 0, .slice none 0 0, .slice none 0 0, .slice none 0 0] 25)) := rows_make 7 (by omega) v
/-- The leases that are not valid. -/
def rox : Nat → List Int
  | 0 => []
  | 1 => [0]
  | 2 => [0]
  | 3 => [1]
  | 4 => [0]
  | 5 => [0]
  | _ => [0]
def rop : Nat → List Int
  | 0 => []
  | 1 => [10000000]
  | 2 => [10000000]
  | 3 => [10000000]
  | 4 => [9]
  | 5 => []
  | _ => [610000000]
def rod : Nat → Int
  | 0 => 0
  | 1 => 0
  | 2 => 2
  | 3 => 1
  | 4 => 1
  | 5 => 1
  | _ => 61
theorem ro_v : ∀ k, k < 7 → As.vld [[7]] 10000000 (rox k) (rop k) (rod k) = 8 := by decide +kernel
theorem ro_l : ∀ k, k < 7 → (rox k).length ≤ 1 ∧ (rop k).length ≤ 1 := by decide
def Lk14 (W : World) (Q : Nat) : Prop := ∀ k, k < 7 → ∃ X c Y d, W.cell? ⟨Q, k * 3, none⟩ = some (.slice X (rox k).length c) ∧ W.cell? ⟨Q, k * 3 + 1, none⟩ = some (.slice Y (rop k).length d) ∧ W.cell? ⟨Q, k * 3 + 2, none⟩ = some (.int .i64 (rod k)) ∧ IsI W X (rox k) ∧ IsI W Y (rop k)
theorem Lk14.keep {v w : World} {Q : Nat} (h : Lk14 v Q) (hb : Below v.heap.size v w) : Lk14 w Q := fun k hk => by
  obtain ⟨X, c, Y, d, h1, h2, h3, h4, h5⟩ := h k hk
  exact ⟨X, c, Y, d, keepC hb h1, keepC hb h2, keepC hb h3, h4.keep hb, h5.keep hb⟩
theorem z14a : As.rchk [[7]] (-1) = 8 := by decide +kernel
theorem z14b : As.rchk [[7]] 10000001 = 8 := by decide +kernel
theorem z14c : As.rchk (List.replicate 7 []) (-1) = 4 := by decide +kernel
theorem z14d : As.rgS [[5, 3], [4, 1]] 5 2 = ((0, 0), (0, 0), 2) := by decide +kernel
theorem z14e : As.rgS [[5, 3], [4, 1]] 5 (-1) = ((0, 0), (0, 0), 2) := by decide +kernel
theorem z14f : As.evA [] 0 = [] ∧ As.evP [] 0 = [] ∧ As.evD [] 0 = 0 ∧ As.rchk [] 0 = 8 := by decide +kernel
theorem z14g : As.vld [[5, 3], [4, 1]] 5 [0, 1] [10000001, -9999996] 1 = 8 := by decide +kernel
theorem z14h : As.vld [[5, 3], [4, 1]] 5 [0, 1] [10000000, -9999995] 1 = 0 := by decide +kernel
theorem z14i : As.evA [[7]] 10000000 = [0] ∧ As.evP [[7]] 10000000 = [10000000] ∧ As.evD [[7]] 10000000 = 1 ∧ As.rchk [[7]] 10000000 = 0 := by decide +kernel
theorem z14j : As.evA [[4, 1, 0], [4, 0, 1], [4, 0, 0]] 1 = [1, 2, 0] ∧ As.evP [[4, 1, 0], [4, 0, 1], [4, 0, 0]] 1 = [7, -2, -2] ∧ As.evD [[4, 1, 0], [4, 0, 1], [4, 0, 0]] 1 = 3 ∧ As.rchk [[4, 1, 0], [4, 0, 1], [4, 0, 0]] 1 = 0 := by decide +kernel
theorem z14k : As.vld [[7]] 10000000 [0] [600000000] 60 = 0 := by decide +kernel
theorem wA (A : Option Addr) (cv : Nat) (w : World) (h : IsM w A [[7]]) : Calls Try.prog 24 #[.agg #[.slice A 1 cv, .int .i64 (-1)]] w fun e w' => e = .returned (.int .i64 8) ∧ Below w.heap.size w w' := by
  have c := rmCheck_any A cv [[7]] (-1) w (by unfold maxLen; simp) h
  rw [z14a] at c
  exact c
theorem wB (A : Option Addr) (cv : Nat) (w : World) (h : IsM w A [[7]]) : Calls Try.prog 24 #[.agg #[.slice A 1 cv, .int .i64 10000001]] w fun e w' => e = .returned (.int .i64 8) ∧ Below w.heap.size w w' := by
  have c := rmCheck_any A cv [[7]] 10000001 w (by unfold maxLen; simp) h
  rw [z14b] at c
  exact c
theorem wC (A : Option Addr) (cv : Nat) (w : World) (h : IsM w A (List.replicate 7 [])) : Calls Try.prog 24 #[.agg #[.slice A 7 cv, .int .i64 (-1)]] w fun e w' => e = .returned (.int .i64 4) ∧ Below w.heap.size w w' := by
  have c := rmCheck_any A cv (List.replicate 7 []) (-1) w (by unfold maxLen; simp) h
  rw [z14c] at c
  exact c
theorem wD (A : Option Addr) (cv : Nat) (w : World) (h : IsM w A [[5, 3], [4, 1]]) : Calls Try.prog 13 #[.agg #[.slice A 2 cv, .int .i64 5], .int .i64 2] w fun e w' => e = .returned (.tuple #[.agg #[.int .i64 0, .int .i64 0], .agg #[.int .i64 0, .int .i64 0], .int .i64 2]) ∧ Below w.heap.size w w' := by
  refine (rmRange_any A cv [[5, 3], [4, 1]] 5 2 w two_leL h).mono ?_
  rintro e w' ⟨rfl, hb⟩
  unfold rgV
  rw [z14d]
  exact ⟨rfl, hb⟩
theorem wE (A : Option Addr) (cv : Nat) (w : World) (h : IsM w A [[5, 3], [4, 1]]) : Calls Try.prog 13 #[.agg #[.slice A 2 cv, .int .i64 5], .int .i64 (-1)] w fun e w' => e = .returned (.tuple #[.agg #[.int .i64 0, .int .i64 0], .agg #[.int .i64 0, .int .i64 0], .int .i64 2]) ∧ Below w.heap.size w w' := by
  refine (rmRange_any A cv [[5, 3], [4, 1]] 5 (-1) w two_leL h).mono ?_
  rintro e w' ⟨rfl, hb⟩
  unfold rgV
  rw [z14e]
  exact ⟨rfl, hb⟩
theorem wF (A : Option Addr) (cv : Nat) (w : World) (h : IsM w A []) : Calls Try.prog 26 #[.agg #[.slice A 0 cv, .int .i64 0]] w fun e w' => ∃ X c Y d, e = .returned (.tuple #[.agg #[.slice X 0 c, .slice Y 0 d, .int .i64 0], .int .i64 8]) ∧ IsI w' X [] ∧ IsI w' Y [] ∧ Below w.heap.size w w' := by
  refine (rmEven_any A cv [] 0 w (by unfold maxLen; simp) h).mono ?_
  rintro e w' ⟨X, c, Y, d, rfl, hX, hY, hb⟩
  obtain ⟨f1, f2, f3, f4⟩ := z14f
  rw [f1] at hX ⊢
  rw [f2] at hY ⊢
  rw [f3, f4]
  exact ⟨X, c, Y, d, rfl, hX, hY, hb⟩
theorem wG (A : Option Addr) (cv : Nat) (X : Option Addr) (c : Nat) (Y : Option Addr) (d : Nat) (w : World) (h : IsM w A [[5, 3], [4, 1]]) (hX : IsI w X [0, 1]) (hY : IsI w Y [10000001, -9999996]) : Calls Try.prog 23 #[.agg #[.slice A 2 cv, .int .i64 5], .agg #[.slice X 2 c, .slice Y 2 d, .int .i64 1]] w fun e w' => e = .returned (.int .i64 8) ∧ Below w.heap.size w w' := by
  have k := rmValid_any A cv [[5, 3], [4, 1]] 5 X c [0, 1] Y d [10000001, -9999996] 1 w (by unfold maxLen; simp) h (by unfold maxLen; simp) hX (by unfold maxLen; simp) hY
  rw [z14g] at k
  exact k
theorem wH (A : Option Addr) (cv : Nat) (X : Option Addr) (c : Nat) (Y : Option Addr) (d : Nat) (w : World) (h : IsM w A [[5, 3], [4, 1]]) (hX : IsI w X [0, 1]) (hY : IsI w Y [10000000, -9999995]) : Calls Try.prog 23 #[.agg #[.slice A 2 cv, .int .i64 5], .agg #[.slice X 2 c, .slice Y 2 d, .int .i64 1]] w fun e w' => e = .returned (.int .i64 0) ∧ Below w.heap.size w w' := by
  have k := rmValid_any A cv [[5, 3], [4, 1]] 5 X c [0, 1] Y d [10000000, -9999995] 1 w (by unfold maxLen; simp) h (by unfold maxLen; simp) hX (by unfold maxLen; simp) hY
  rw [z14h] at k
  exact k
theorem wI (A : Option Addr) (cv : Nat) (w : World) (h : IsM w A [[7]]) : Calls Try.prog 26 #[.agg #[.slice A 1 cv, .int .i64 10000000]] w fun e w' => ∃ X c Y d, e = .returned (.tuple #[.agg #[.slice X 1 c, .slice Y 1 d, .int .i64 1], .int .i64 0]) ∧ IsI w' X [0] ∧ IsI w' Y [10000000] ∧ Below w.heap.size w w' := by
  refine (rmEven_any A cv [[7]] 10000000 w (by unfold maxLen; simp) h).mono ?_
  rintro e w' ⟨X, c, Y, d, rfl, hX, hY, hb⟩
  obtain ⟨f1, f2, f3, f4⟩ := z14i
  rw [f1] at hX ⊢
  rw [f2] at hY ⊢
  rw [f3, f4]
  exact ⟨X, c, Y, d, rfl, hX, hY, hb⟩
theorem wJ (A : Option Addr) (cv : Nat) (w : World) (h : IsM w A [[4, 1, 0], [4, 0, 1], [4, 0, 0]]) : Calls Try.prog 26 #[.agg #[.slice A 3 cv, .int .i64 1]] w fun e w' => ∃ X c Y d, e = .returned (.tuple #[.agg #[.slice X 3 c, .slice Y 3 d, .int .i64 3], .int .i64 0]) ∧ IsI w' X [1, 2, 0] ∧ IsI w' Y [7, -2, -2] ∧ Below w.heap.size w w' := by
  refine (rmEven_any A cv [[4, 1, 0], [4, 0, 1], [4, 0, 0]] 1 w (by unfold maxLen; simp) h).mono ?_
  rintro e w' ⟨X, c, Y, d, rfl, hX, hY, hb⟩
  obtain ⟨f1, f2, f3, f4⟩ := z14j
  rw [f1] at hX ⊢
  rw [f2] at hY ⊢
  rw [f3, f4]
  exact ⟨X, c, Y, d, rfl, hX, hY, hb⟩
theorem wK (A : Option Addr) (cv : Nat) (X : Option Addr) (c : Nat) (Y : Option Addr) (d : Nat) (w : World) (h : IsM w A [[7]]) (hX : IsI w X [0]) (hY : IsI w Y [600000000]) : Calls Try.prog 23 #[.agg #[.slice A 1 cv, .int .i64 10000000], .agg #[.slice X 1 c, .slice Y 1 d, .int .i64 60]] w fun e w' => e = .returned (.int .i64 0) ∧ Below w.heap.size w w' := by
  have k := rmValid_any A cv [[7]] 10000000 X c [0] Y d [600000000] 60 w (by unfold maxLen; simp) h (by unfold maxLen; simp) hX (by unfold maxLen; simp) hY
  rw [z14k] at k
  exact k
theorem wL (A : Option Addr) (cv : Nat) (X : Option Addr) (c : Nat) (Y : Option Addr) (d k : Nat) (w : World) (hk : k < 7) (h : IsM w A [[7]]) (hX : IsI w X (rox k)) (hY : IsI w Y (rop k)) : Calls Try.prog 22 #[.agg #[.slice A 1 cv, .int .i64 10000000], .agg #[.slice X (rox k).length c, .slice Y (rop k).length d, .int .i64 (rod k)]] w fun e w' => ∃ Z cz, e = .returned (.tuple #[.slice Z 0 cz, .int .i64 8]) ∧ Below w.heap.size w w' := by
  obtain ⟨l1, l2⟩ := ro_l k hk
  refine (rmGains_any A cv [[7]] 10000000 X c (rox k) Y d (rop k) (rod k) w (by unfold maxLen; simp) h (by unfold maxLen; omega) hX (by unfold maxLen; omega) hY).mono ?_
  rintro e w' ⟨Z, cz, rfl, -, hb⟩
  have e1 : As.gnS [[7]] 10000000 (rox k) (rop k) (rod k) = [] := As.gnS_no (by rw [ro_v k hk]; omega)
  rw [e1, ro_v k hk]
  exact ⟨Z, cz, rfl, hb⟩
theorem wM (A : Option Addr) (cv : Nat) (X : Option Addr) (c : Nat) (Y : Option Addr) (d k : Nat) (w : World) (hk : k < 7) (h : IsM w A [[7]]) (hX : IsI w X (rox k)) (hY : IsI w Y (rop k)) : Calls Try.prog 23 #[.agg #[.slice A 1 cv, .int .i64 10000000], .agg #[.slice X (rox k).length c, .slice Y (rop k).length d, .int .i64 (rod k)]] w fun e w' => e = .returned (.int .i64 8) ∧ Below w.heap.size w w' := by
  obtain ⟨l1, l2⟩ := ro_l k hk
  have c := rmValid_any A cv [[7]] 10000000 X c (rox k) Y d (rop k) (rod k) w (by unfold maxLen; simp) h (by unfold maxLen; omega) hX (by unfold maxLen; omega) hY
  rw [ro_v k hk] at c
  exact c
set_option maxRecDepth 100000 in
set_option maxHeartbeats 16000000 in
theorem rnames_walk (w : World) : Calls Try.prog 4 #[] w fun e w' => e = .returned (.bool true) ∧ Below w.heap.size w w' := by
  have HG := Lib.hid given14_any
  have HB := Lib.hid (Below.refl w.heap.size w)
  have MK := nils14_make
  go_enter Try.func4, Try.ntmps4
  go_upto_region 2 with fail
  refine at_worldQ (fun v => Below w.heap.size w v ∧ BK v (w.heap.size) [.int .i64 7] ∧ BK v (w.heap.size + 1) [.slice (some ⟨w.heap.size, 0, none⟩) 1 1] ∧ BK v (w.heap.size + 1 + 1) [.slice (some ⟨w.heap.size + 1, 0, none⟩) 1 1, .int .i64 10000000]) ⟨below_al (below_al (below_al (Below.refl _ _) _) _) _, ((((BK.new w [.int .i64 7] 3).al _)).al _), (((bkAtL (BK.new (w.alloc (.cells #[.int .i64 7] 3)) [.slice (some ⟨w.heap.size, 0, none⟩) 1 1] 25) (by simp only [World.size_alloc]))).al _), (bkAtL (BK.new ((w.alloc (.cells #[.int .i64 7] 3)).alloc (.cells #[.slice (some ⟨w.heap.size, 0, none⟩) 1 1] 25)) [.slice (some ⟨w.heap.size + 1, 0, none⟩) 1 1, .int .i64 10000000] 24) (by simp only [World.size_alloc]))⟩ (fun U1 hS => ?_)
  obtain ⟨hb, hR1, hRR, hB1⟩ := hS
  replace HB := Lib.hid (keepB HB.out hb)
  have R1 := Lib.hid hR1
  have RR := Lib.hid hRR
  have B1 := Lib.hid hB1
  clear hb hR1 hRR hB1
  have HZ := Lib.hid (isM_one14 (l := [7]) RR.out rfl R1.out (by decide) (by simp))
  clear R1 RR
  go_upto_region 3 with fail
  refine at_worldQ (fun v => Below U1.heap.size U1 v ∧ BK v (U1.heap.size) [.int .i64 0] ∧ BK v (U1.heap.size + 1) [.int .i64 10000000] ∧ BK v (U1.heap.size + 1 + 1) [.int .i64 0] ∧ BK v (U1.heap.size + 1 + 1 + 1) [.int .i64 10000000] ∧ BK v (U1.heap.size + 1 + 1 + 1 + 1) [.int .i64 1] ∧ BK v (U1.heap.size + 1 + 1 + 1 + 1 + 1) [.int .i64 10000000] ∧ BK v (U1.heap.size + 1 + 1 + 1 + 1 + 1 + 1) [.int .i64 0] ∧ BK v (U1.heap.size + 1 + 1 + 1 + 1 + 1 + 1 + 1) [.int .i64 9] ∧ BK v (U1.heap.size + 1 + 1 + 1 + 1 + 1 + 1 + 1 + 1) [.int .i64 0] ∧ BK v (U1.heap.size + 1 + 1 + 1 + 1 + 1 + 1 + 1 + 1 + 1) [.int .i64 0] ∧ BK v (U1.heap.size + 1 + 1 + 1 + 1 + 1 + 1 + 1 + 1 + 1 + 1) [.int .i64 610000000] ∧ BK v (U1.heap.size + 1 + 1 + 1 + 1 + 1 + 1 + 1 + 1 + 1 + 1 + 1) [.slice none 0 0, .slice none 0 0, .int .i64 0, .slice (some ⟨U1.heap.size, 0, none⟩) 1 1, .slice (some ⟨U1.heap.size + 1, 0, none⟩) 1 1, .int .i64 0, .slice (some ⟨U1.heap.size + 1 + 1, 0, none⟩) 1 1, .slice (some ⟨U1.heap.size + 1 + 1 + 1, 0, none⟩) 1 1, .int .i64 2, .slice (some ⟨U1.heap.size + 1 + 1 + 1 + 1, 0, none⟩) 1 1, .slice (some ⟨U1.heap.size + 1 + 1 + 1 + 1 + 1, 0, none⟩) 1 1, .int .i64 1, .slice (some ⟨U1.heap.size + 1 + 1 + 1 + 1 + 1 + 1, 0, none⟩) 1 1, .slice (some ⟨U1.heap.size + 1 + 1 + 1 + 1 + 1 + 1 + 1, 0, none⟩) 1 1, .int .i64 1, .slice (some ⟨U1.heap.size + 1 + 1 + 1 + 1 + 1 + 1 + 1 + 1, 0, none⟩) 1 1, .slice none 0 0, .int .i64 1, .slice (some ⟨U1.heap.size + 1 + 1 + 1 + 1 + 1 + 1 + 1 + 1 + 1, 0, none⟩) 1 1, .slice (some ⟨U1.heap.size + 1 + 1 + 1 + 1 + 1 + 1 + 1 + 1 + 1 + 1, 0, none⟩) 1 1, .int .i64 61]) ⟨below_al (below_al (below_al (below_al (below_al (below_al (below_al (below_al (below_al (below_al (below_al (below_al (Below.refl _ _) _) _) _) _) _) _) _) _) _) _) _) _, ((((((((((((((((((((((BK.new U1 [.int .i64 0] 3).al _)).al _)).al _)).al _)).al _)).al _)).al _)).al _)).al _)).al _)).al _), (((((((((((((((((((((bkAtL (BK.new (U1.alloc (.cells #[.int .i64 0] 3)) [.int .i64 10000000] 3) (by simp only [World.size_alloc]))).al _)).al _)).al _)).al _)).al _)).al _)).al _)).al _)).al _)).al _), (((((((((((((((((((bkAtL (BK.new ((U1.alloc (.cells #[.int .i64 0] 3)).alloc (.cells #[.int .i64 10000000] 3)) [.int .i64 0] 3) (by simp only [World.size_alloc]))).al _)).al _)).al _)).al _)).al _)).al _)).al _)).al _)).al _), (((((((((((((((((bkAtL (BK.new (((U1.alloc (.cells #[.int .i64 0] 3)).alloc (.cells #[.int .i64 10000000] 3)).alloc (.cells #[.int .i64 0] 3)) [.int .i64 10000000] 3) (by simp only [World.size_alloc]))).al _)).al _)).al _)).al _)).al _)).al _)).al _)).al _), (((((((((((((((bkAtL (BK.new ((((U1.alloc (.cells #[.int .i64 0] 3)).alloc (.cells #[.int .i64 10000000] 3)).alloc (.cells #[.int .i64 0] 3)).alloc (.cells #[.int .i64 10000000] 3)) [.int .i64 1] 3) (by simp only [World.size_alloc]))).al _)).al _)).al _)).al _)).al _)).al _)).al _), (((((((((((((bkAtL (BK.new (((((U1.alloc (.cells #[.int .i64 0] 3)).alloc (.cells #[.int .i64 10000000] 3)).alloc (.cells #[.int .i64 0] 3)).alloc (.cells #[.int .i64 10000000] 3)).alloc (.cells #[.int .i64 1] 3)) [.int .i64 10000000] 3) (by simp only [World.size_alloc]))).al _)).al _)).al _)).al _)).al _)).al _), (((((((((((bkAtL (BK.new ((((((U1.alloc (.cells #[.int .i64 0] 3)).alloc (.cells #[.int .i64 10000000] 3)).alloc (.cells #[.int .i64 0] 3)).alloc (.cells #[.int .i64 10000000] 3)).alloc (.cells #[.int .i64 1] 3)).alloc (.cells #[.int .i64 10000000] 3)) [.int .i64 0] 3) (by simp only [World.size_alloc]))).al _)).al _)).al _)).al _)).al _), (((((((((bkAtL (BK.new (((((((U1.alloc (.cells #[.int .i64 0] 3)).alloc (.cells #[.int .i64 10000000] 3)).alloc (.cells #[.int .i64 0] 3)).alloc (.cells #[.int .i64 10000000] 3)).alloc (.cells #[.int .i64 1] 3)).alloc (.cells #[.int .i64 10000000] 3)).alloc (.cells #[.int .i64 0] 3)) [.int .i64 9] 3) (by simp only [World.size_alloc]))).al _)).al _)).al _)).al _), (((((((bkAtL (BK.new ((((((((U1.alloc (.cells #[.int .i64 0] 3)).alloc (.cells #[.int .i64 10000000] 3)).alloc (.cells #[.int .i64 0] 3)).alloc (.cells #[.int .i64 10000000] 3)).alloc (.cells #[.int .i64 1] 3)).alloc (.cells #[.int .i64 10000000] 3)).alloc (.cells #[.int .i64 0] 3)).alloc (.cells #[.int .i64 9] 3)) [.int .i64 0] 3) (by simp only [World.size_alloc]))).al _)).al _)).al _), (((((bkAtL (BK.new (((((((((U1.alloc (.cells #[.int .i64 0] 3)).alloc (.cells #[.int .i64 10000000] 3)).alloc (.cells #[.int .i64 0] 3)).alloc (.cells #[.int .i64 10000000] 3)).alloc (.cells #[.int .i64 1] 3)).alloc (.cells #[.int .i64 10000000] 3)).alloc (.cells #[.int .i64 0] 3)).alloc (.cells #[.int .i64 9] 3)).alloc (.cells #[.int .i64 0] 3)) [.int .i64 0] 3) (by simp only [World.size_alloc]))).al _)).al _), (((bkAtL (BK.new ((((((((((U1.alloc (.cells #[.int .i64 0] 3)).alloc (.cells #[.int .i64 10000000] 3)).alloc (.cells #[.int .i64 0] 3)).alloc (.cells #[.int .i64 10000000] 3)).alloc (.cells #[.int .i64 1] 3)).alloc (.cells #[.int .i64 10000000] 3)).alloc (.cells #[.int .i64 0] 3)).alloc (.cells #[.int .i64 9] 3)).alloc (.cells #[.int .i64 0] 3)).alloc (.cells #[.int .i64 0] 3)) [.int .i64 610000000] 3) (by simp only [World.size_alloc]))).al _), (bkAtL (BK.new (((((((((((U1.alloc (.cells #[.int .i64 0] 3)).alloc (.cells #[.int .i64 10000000] 3)).alloc (.cells #[.int .i64 0] 3)).alloc (.cells #[.int .i64 10000000] 3)).alloc (.cells #[.int .i64 1] 3)).alloc (.cells #[.int .i64 10000000] 3)).alloc (.cells #[.int .i64 0] 3)).alloc (.cells #[.int .i64 9] 3)).alloc (.cells #[.int .i64 0] 3)).alloc (.cells #[.int .i64 0] 3)).alloc (.cells #[.int .i64 610000000] 3)) [.slice none 0 0, .slice none 0 0, .int .i64 0, .slice (some ⟨U1.heap.size, 0, none⟩) 1 1, .slice (some ⟨U1.heap.size + 1, 0, none⟩) 1 1, .int .i64 0, .slice (some ⟨U1.heap.size + 1 + 1, 0, none⟩) 1 1, .slice (some ⟨U1.heap.size + 1 + 1 + 1, 0, none⟩) 1 1, .int .i64 2, .slice (some ⟨U1.heap.size + 1 + 1 + 1 + 1, 0, none⟩) 1 1, .slice (some ⟨U1.heap.size + 1 + 1 + 1 + 1 + 1, 0, none⟩) 1 1, .int .i64 1, .slice (some ⟨U1.heap.size + 1 + 1 + 1 + 1 + 1 + 1, 0, none⟩) 1 1, .slice (some ⟨U1.heap.size + 1 + 1 + 1 + 1 + 1 + 1 + 1, 0, none⟩) 1 1, .int .i64 1, .slice (some ⟨U1.heap.size + 1 + 1 + 1 + 1 + 1 + 1 + 1 + 1, 0, none⟩) 1 1, .slice none 0 0, .int .i64 1, .slice (some ⟨U1.heap.size + 1 + 1 + 1 + 1 + 1 + 1 + 1 + 1 + 1, 0, none⟩) 1 1, .slice (some ⟨U1.heap.size + 1 + 1 + 1 + 1 + 1 + 1 + 1 + 1 + 1 + 1, 0, none⟩) 1 1, .int .i64 61] 27) (by simp only [World.size_alloc]))⟩ (fun U2 hS => ?_)
  obtain ⟨hb, hD0, hD1, hD2, hD3, hD4, hD5, hD6, hD7, hD8, hD9, hD10, hBQ⟩ := hS
  replace B1 := Lib.hid (B1.out.keep hb)
  replace HZ := Lib.hid (HZ.out.keep hb)
  replace HB := Lib.hid (keepB HB.out hb)
  have D0 := Lib.hid hD0
  have D1 := Lib.hid hD1
  have D2 := Lib.hid hD2
  have D3 := Lib.hid hD3
  have D4 := Lib.hid hD4
  have D5 := Lib.hid hD5
  have D6 := Lib.hid hD6
  have D7 := Lib.hid hD7
  have D8 := Lib.hid hD8
  have D9 := Lib.hid hD9
  have D10 := Lib.hid hD10
  have BQ := Lib.hid hBQ
  clear hb hD0 hD1 hD2 hD3 hD4 hD5 hD6 hD7 hD8 hD9 hD10 hBQ
  have LK := Lib.hid (show Lk14 U2 (U1.heap.size + 1 + 1 + 1 + 1 + 1 + 1 + 1 + 1 + 1 + 1 + 1) from fun k hk => by
    rcases (show k = 0 ∨ k = 1 ∨ k = 2 ∨ k = 3 ∨ k = 4 ∨ k = 5 ∨ k = 6 by omega) with rfl | rfl | rfl | rfl | rfl | rfl | rfl
    · exact ⟨_, _, _, _, BQ.out.c 0 rfl, BQ.out.c 1 rfl, BQ.out.c 2 rfl, isI_nil _ _, isI_nil _ _⟩
    · exact ⟨_, _, _, _, BQ.out.c 3 rfl, BQ.out.c 4 rfl, BQ.out.c 5 rfl, (isI_bkL (l := [0]) D0.out (i64bL (by decide))), (isI_bkL (l := [10000000]) D1.out (i64bL (by decide)))⟩
    · exact ⟨_, _, _, _, BQ.out.c 6 rfl, BQ.out.c 7 rfl, BQ.out.c 8 rfl, (isI_bkL (l := [0]) D2.out (i64bL (by decide))), (isI_bkL (l := [10000000]) D3.out (i64bL (by decide)))⟩
    · exact ⟨_, _, _, _, BQ.out.c 9 rfl, BQ.out.c 10 rfl, BQ.out.c 11 rfl, (isI_bkL (l := [1]) D4.out (i64bL (by decide))), (isI_bkL (l := [10000000]) D5.out (i64bL (by decide)))⟩
    · exact ⟨_, _, _, _, BQ.out.c 12 rfl, BQ.out.c 13 rfl, BQ.out.c 14 rfl, (isI_bkL (l := [0]) D6.out (i64bL (by decide))), (isI_bkL (l := [9]) D7.out (i64bL (by decide)))⟩
    · exact ⟨_, _, _, _, BQ.out.c 15 rfl, BQ.out.c 16 rfl, BQ.out.c 17 rfl, (isI_bkL (l := [0]) D8.out (i64bL (by decide))), isI_nil _ _⟩
    · exact ⟨_, _, _, _, BQ.out.c 18 rfl, BQ.out.c 19 rfl, BQ.out.c 20 rfl, (isI_bkL (l := [0]) D9.out (i64bL (by decide))), (isI_bkL (l := [610000000]) D10.out (i64bL (by decide)))⟩)
  clear D0 D1 D2 D3 D4 D5 D6 D7 D8 D9 D10 BQ
  generalize U1.heap.size + 1 + 1 + 1 + 1 + 1 + 1 + 1 + 1 + 1 + 1 + 1 = Q at *
  go_wp2_with fail
  have HBo := Lib.hid HB.out
  go_loopw [3] (fun i W => ∃ k : Nat, k ≤ 7 ∧ i = .int .i64 k ∧ Hid (Below U2.heap.size U2 W)) (fun i _ => 7 - (intOf i).toNat)
  case atStart => exact ⟨0, by omega, rfl, Lib.hid (Below.refl _ _)⟩
  case round =>
    obtain ⟨k, hk, rfl, HB2⟩ := hrel
    by_cases hlt : k < 7
    · obtain ⟨X, c, Y, d, c0, c1, c2, iX, iY⟩ := (LK.out.keep HB2.out) k hlt
      have b0 := (B1.out.keep HB2.out).c 0 rfl
      have b1 := (B1.out.keep HB2.out).c 1 rfl
      have HZ2 := Lib.hid (HZ.out.keep HB2.out)
      have IX := Lib.hid iX
      have IY := Lib.hid iY
      have CG := Lib.hid (fun v (hv : Below wr.heap.size wr v) => wL _ 1 X c Y d k v hlt (HZ2.out.keep hv) (IX.out.keep hv) (IY.out.keep hv))
      have i1 : (k : Int) < 7 := by omega
      clear iX iY
      go_wp2_with fail
      go_upto_region 6 with fail
      refine wp_region_noPanic ?_
      refine wp_region_held_drew (S := (Below wr.heap.size wr)) (by kernel_rfl) ((Below.refl _ _).drew) (fun hHeld => ?_)
      refine at_anyH (Below wr.heap.size wr) hHeld (fun wr0 hNew => ?_)
      clear hHeld
      have hHeld := hNew
      clear hNew
      have KCr := fun (w : World) (hSw : (Below wr.heap.size wr) w) => And.intro (keepC hSw b0) (And.intro (keepC hSw b1) (And.intro (keepC hSw c0) (And.intro (keepC hSw c1) (keepC hSw c2))))
      refine tkm 0 rfl hHeld (fun w hSw => by have kc := KCr w hSw; go_simp <;> with_reducible rfl) ?_
      try simp only [PPz]
      refine tkd 1 ?_
      try simp only [PPz]
      refine tkd 2 ?_
      try simp only [PPz]
      refine tkd 3 ?_
      try simp only [PPz]
      refine tkm 4 rfl hHeld (fun w hSw => by have kc := KCr w hSw; go_simp <;> with_reducible rfl) ?_
      try simp only [PPz]
      refine rdy1 5 rfl (fun K hK => ?_)
      go_simp
      refine (CG.out _ hHeld).mono ?_
      rintro e wr6 ⟨Z, cz, rfl, hb3⟩
      go_wp2_with fail
      refine hK.out _ _ (keepB hHeld hb3) (fun hNew => ?_)
      clear hb3
      clear hHeld hK K
      have hHeld := hNew
      clear hNew
      try simp only [PPz]
      refine tkd 6 ?_
      try simp only [PPz]
      refine tkd 7 ?_
      try simp only [PPz]
      refine tkd 8 ?_
      try simp only [PPz]
      refine tkd 9 ?_
      try simp only [PPz]
      refine tkd 10 ?_
      try simp only [PPz]
      refine wpAnyH_done (by kernel_rfl) ?_ _
      refine NoPanic.normal ?_
      have HNr := Lib.hid (keepB HB2.out hHeld)
      clear hHeld
      clear b0 b1 c0 c1 c2 CG IX IY HZ2
      obtain ⟨X2, cx2, Y2, cy2, c0, c1, c2, iX, iY⟩ := (LK.out.keep HNr.out) k hlt
      have b0 := (B1.out.keep HNr.out).c 0 rfl
      have b1 := (B1.out.keep HNr.out).c 1 rfl
      have HZ2 := Lib.hid (HZ.out.keep HNr.out)
      have IX := Lib.hid iX
      have IY := Lib.hid iY
      have CV := Lib.hid (fun v (hv : Below wr6.heap.size wr6 v) => wM _ 1 X2 cx2 Y2 cy2 k v hlt (HZ2.out.keep hv) (IX.out.keep hv) (IY.out.keep hv))
      clear iX iY
      go_wp2_with fail
      go_upto_region 7 with fail
      refine wp_region_noPanic ?_
      refine wp_region_held_drew (S := (Below wr6.heap.size wr6)) (by kernel_rfl) ((Below.refl _ _).drew) (fun hHeld => ?_)
      refine at_anyH (Below wr6.heap.size wr6) hHeld (fun ws0 hNew => ?_)
      clear hHeld
      have hHeld := hNew
      clear hNew
      have KCs := fun (w : World) (hSw : (Below wr6.heap.size wr6) w) => And.intro (keepC hSw b0) (And.intro (keepC hSw b1) (And.intro (keepC hSw c0) (And.intro (keepC hSw c1) (keepC hSw c2))))
      refine tkm 0 rfl hHeld (fun w hSw => by have kc := KCs w hSw; go_simp <;> with_reducible rfl) ?_
      try simp only [PPz]
      refine tkd 1 ?_
      try simp only [PPz]
      refine tkd 2 ?_
      try simp only [PPz]
      refine tkd 3 ?_
      try simp only [PPz]
      refine tkm 4 rfl hHeld (fun w hSw => by have kc := KCs w hSw; go_simp <;> with_reducible rfl) ?_
      try simp only [PPz]
      refine rdy1 5 rfl (fun K hK => ?_)
      go_simp
      refine (CV.out _ hHeld).mono ?_
      rintro e ws6 ⟨rfl, hb3⟩
      go_wp2_with fail
      refine hK.out _ _ (keepB hHeld hb3) (fun hNew => ?_)
      clear hb3
      clear hHeld hK K
      have hHeld := hNew
      clear hNew
      try simp only [PPz]
      refine tkd 6 ?_
      try simp only [PPz]
      refine tkd 7 ?_
      try simp only [PPz]
      refine tkd 8 ?_
      try simp only [PPz]
      refine tkd 9 ?_
      try simp only [PPz]
      refine tkd 10 ?_
      try simp only [PPz]
      refine wpAnyH_done (by kernel_rfl) ?_ _
      refine NoPanic.normal ?_
      have HNs := Lib.hid (keepB HNr.out hHeld)
      clear hHeld
      clear b0 b1 c0 c1 c2 CV IX IY HZ2
      go_wp2_with fail
      go_roundw
      case rel => exact ⟨k + 1, by omega, by go_num, HNs⟩
      case measure => simp [intOf]; omega
    · obtain rfl : k = 7 := by omega
      replace HB := Lib.hid (keepB HBo.out HB2.out)
      replace HZ := Lib.hid (HZ.out.keep HB2.out)
      replace B1 := Lib.hid (B1.out.keep HB2.out)
      clear LK HB2 HBo
      go_wp2_with fail
      refine at_worldR (fun v => Below wr.heap.size wr v ∧ BK v (wr.heap.size) [.int .i64 7] ∧ BK v (wr.heap.size + 1) [.slice (some ⟨wr.heap.size, 0, none⟩) 1 1]) ⟨below_al (below_al (Below.refl _ _) _) _, ((BK.new wr [.int .i64 7] 3).al _), (bkAtL (BK.new (wr.alloc (.cells #[.int .i64 7] 3)) [.slice (some ⟨wr.heap.size, 0, none⟩) 1 1] 25) (by simp only [World.size_alloc]))⟩ (fun V1 hS => ?_)
      obtain ⟨hb, hR1, hRR⟩ := hS
      replace HZ := Lib.hid (HZ.out.keep hb)
      replace B1 := Lib.hid (B1.out.keep hb)
      replace HB := Lib.hid (keepB HB.out hb)
      have R1 := Lib.hid hR1
      have RR := Lib.hid hRR
      clear hb hR1 hRR
      refine (wA _ _ _ (isM_one14 (l := [7]) RR.out rfl R1.out (by decide) (by simp))).mono ?_
      rintro e v1 ⟨rfl, hb⟩
      replace HZ := Lib.hid (HZ.out.keep hb)
      replace B1 := Lib.hid (B1.out.keep hb)
      replace R1 := Lib.hid (R1.out.keep hb)
      replace RR := Lib.hid (RR.out.keep hb)
      replace HB := Lib.hid (keepB HB.out hb)
      clear hb
      clear R1 RR
      go_wp2_with fail
      refine at_worldR (fun v => Below v1.heap.size v1 v ∧ BK v (v1.heap.size) [.int .i64 7] ∧ BK v (v1.heap.size + 1) [.slice (some ⟨v1.heap.size, 0, none⟩) 1 1]) ⟨below_al (below_al (Below.refl _ _) _) _, ((BK.new v1 [.int .i64 7] 3).al _), (bkAtL (BK.new (v1.alloc (.cells #[.int .i64 7] 3)) [.slice (some ⟨v1.heap.size, 0, none⟩) 1 1] 25) (by simp only [World.size_alloc]))⟩ (fun V2 hS => ?_)
      obtain ⟨hb, hR1, hRR⟩ := hS
      replace HZ := Lib.hid (HZ.out.keep hb)
      replace B1 := Lib.hid (B1.out.keep hb)
      replace HB := Lib.hid (keepB HB.out hb)
      have R1 := Lib.hid hR1
      have RR := Lib.hid hRR
      clear hb hR1 hRR
      refine (wB _ _ _ (isM_one14 (l := [7]) RR.out rfl R1.out (by decide) (by simp))).mono ?_
      rintro e v2 ⟨rfl, hb⟩
      replace HZ := Lib.hid (HZ.out.keep hb)
      replace B1 := Lib.hid (B1.out.keep hb)
      replace R1 := Lib.hid (R1.out.keep hb)
      replace RR := Lib.hid (RR.out.keep hb)
      replace HB := Lib.hid (keepB HB.out hb)
      clear hb
      clear R1 RR
      go_wp2_with fail
      refine at_worldR (fun v => Below v2.heap.size v2 v ∧ BK v (v2.heap.size) [.slice none 0 0, .slice none 0 0, .slice none 0 0, .slice none 0 0, .slice none 0 0, .slice none 0 0, .slice none 0 0]) ⟨below_al (Below.refl _ _) _, BK.new v2 [.slice none 0 0, .slice none 0 0, .slice none 0 0, .slice none 0 0, .slice none 0 0, .slice none 0 0, .slice none 0 0] 25⟩ (fun V3 hS => ?_)
      obtain ⟨hb, hT2⟩ := hS
      replace HZ := Lib.hid (HZ.out.keep hb)
      replace B1 := Lib.hid (B1.out.keep hb)
      replace HB := Lib.hid (keepB HB.out hb)
      have T2 := Lib.hid hT2
      clear hb hT2
      refine (wC _ 7 _ (isM_nils14 (n := 7) T2.out)).mono ?_
      rintro e v3 ⟨rfl, hb⟩
      replace HZ := Lib.hid (HZ.out.keep hb)
      replace B1 := Lib.hid (B1.out.keep hb)
      replace T2 := Lib.hid (T2.out.keep hb)
      replace HB := Lib.hid (keepB HB.out hb)
      clear hb
      clear T2
      clear MK
      go_wp2_with fail
      refine (HG.out _).mono ?_
      rintro e v4 ⟨g4, rfl, hM, hb⟩
      replace HZ := Lib.hid (HZ.out.keep hb)
      replace B1 := Lib.hid (B1.out.keep hb)
      replace HB := Lib.hid (keepB HB.out hb)
      have HM := Lib.hid hM
      clear hb hM
      go_wp2_with fail
      refine (wD _ _ _ HM.out).mono ?_
      rintro e v5 ⟨rfl, hb⟩
      replace HZ := Lib.hid (HZ.out.keep hb)
      replace B1 := Lib.hid (B1.out.keep hb)
      replace HM := Lib.hid (HM.out.keep hb)
      replace HB := Lib.hid (keepB HB.out hb)
      clear hb
      clear HM
      go_upto_region 13 with fail
      refine at_worldQ (fun v => Below v5.heap.size v5 v ∧ BK v (v5.heap.size) [.int .i64 0, .int .i64 0] ∧ BK v (v5.heap.size + 1) [.int .i64 0, .int .i64 0]) ⟨below_al (below_al (Below.refl _ _) _) _, ((BK.new v5 [.int .i64 0, .int .i64 0] 31).al _), (bkAtL (BK.new (v5.alloc (.cells #[.int .i64 0, .int .i64 0] 31)) [.int .i64 0, .int .i64 0] 31) (by simp only [World.size_alloc]))⟩ (fun V5 hS => ?_)
      obtain ⟨hb, hT1, hT2⟩ := hS
      replace HZ := Lib.hid (HZ.out.keep hb)
      replace B1 := Lib.hid (B1.out.keep hb)
      replace HB := Lib.hid (keepB HB.out hb)
      have T1 := Lib.hid hT1
      have T2 := Lib.hid hT2
      clear hb hT1 hT2
      clear T1 T2
      go_wp2_with fail
      refine (HG.out _).mono ?_
      rintro e v6 ⟨g6, rfl, hM, hb⟩
      replace HZ := Lib.hid (HZ.out.keep hb)
      replace B1 := Lib.hid (B1.out.keep hb)
      replace HB := Lib.hid (keepB HB.out hb)
      have HM := Lib.hid hM
      clear hb hM
      go_wp2_with fail
      refine (wE _ _ _ HM.out).mono ?_
      rintro e v7 ⟨rfl, hb⟩
      replace HZ := Lib.hid (HZ.out.keep hb)
      replace B1 := Lib.hid (B1.out.keep hb)
      replace HM := Lib.hid (HM.out.keep hb)
      replace HB := Lib.hid (keepB HB.out hb)
      clear hb
      clear HM
      go_upto_region 14 with fail
      refine at_worldQ (fun v => Below v7.heap.size v7 v ∧ BK v (v7.heap.size) [.int .i64 0, .int .i64 0] ∧ BK v (v7.heap.size + 1) [.int .i64 0, .int .i64 0]) ⟨below_al (below_al (Below.refl _ _) _) _, ((BK.new v7 [.int .i64 0, .int .i64 0] 31).al _), (bkAtL (BK.new (v7.alloc (.cells #[.int .i64 0, .int .i64 0] 31)) [.int .i64 0, .int .i64 0] 31) (by simp only [World.size_alloc]))⟩ (fun V7 hS => ?_)
      obtain ⟨hb, hT1, hT2⟩ := hS
      replace HZ := Lib.hid (HZ.out.keep hb)
      replace B1 := Lib.hid (B1.out.keep hb)
      replace HB := Lib.hid (keepB HB.out hb)
      have T1 := Lib.hid hT1
      have T2 := Lib.hid hT2
      clear hb hT1 hT2
      clear T1 T2
      go_wp2_with fail
      refine (wF none 0 _ (isM_nil _ _)).mono ?_
      rintro e v8 ⟨X8, c8, Y8, d8, rfl, -, -, hb⟩
      replace HZ := Lib.hid (HZ.out.keep hb)
      replace B1 := Lib.hid (B1.out.keep hb)
      replace HB := Lib.hid (keepB HB.out hb)
      clear hb
      go_upto_region 15 with fail
      refine at_worldQ (fun v => Below v8.heap.size v8 v ∧ BK v (v8.heap.size) [.slice X8 0 c8, .slice Y8 0 d8, .int .i64 0]) ⟨below_al (Below.refl _ _) _, BK.new v8 [.slice X8 0 c8, .slice Y8 0 d8, .int .i64 0] 27⟩ (fun V8 hS => ?_)
      obtain ⟨hb, hT1⟩ := hS
      replace HZ := Lib.hid (HZ.out.keep hb)
      replace B1 := Lib.hid (B1.out.keep hb)
      replace HB := Lib.hid (keepB HB.out hb)
      have T1 := Lib.hid hT1
      clear hb hT1
      clear T1
      go_wp2_with fail
      refine (HG.out _).mono ?_
      rintro e v9 ⟨g9, rfl, hM, hb⟩
      replace HZ := Lib.hid (HZ.out.keep hb)
      replace B1 := Lib.hid (B1.out.keep hb)
      replace HB := Lib.hid (keepB HB.out hb)
      have HM := Lib.hid hM
      clear hb hM
      go_wp2_with fail
      refine at_worldR (fun v => Below v9.heap.size v9 v ∧ BK v (v9.heap.size) [.int .i64 0, .int .i64 1] ∧ BK v (v9.heap.size + 1) [.int .i64 10000001, .int .i64 (-9999996)]) ⟨below_al (below_al (Below.refl _ _) _) _, ((BK.new v9 [.int .i64 0, .int .i64 1] 3).al _), (bkAtL (BK.new (v9.alloc (.cells #[.int .i64 0, .int .i64 1] 3)) [.int .i64 10000001, .int .i64 (-9999996)] 3) (by simp only [World.size_alloc]))⟩ (fun V9 hS => ?_)
      obtain ⟨hb, hD1, hD2⟩ := hS
      replace HZ := Lib.hid (HZ.out.keep hb)
      replace B1 := Lib.hid (B1.out.keep hb)
      replace HM := Lib.hid (HM.out.keep hb)
      replace HB := Lib.hid (keepB HB.out hb)
      have D1 := Lib.hid hD1
      have D2 := Lib.hid hD2
      clear hb hD1 hD2
      refine (wG _ _ _ _ _ _ _ HM.out (isI_bkL (l := [0, 1]) D1.out (i64bL (by decide))) (isI_bkL (l := [10000001, -9999996]) D2.out (i64bL (by decide)))).mono ?_
      rintro e v10 ⟨rfl, hb⟩
      replace HZ := Lib.hid (HZ.out.keep hb)
      replace B1 := Lib.hid (B1.out.keep hb)
      replace HM := Lib.hid (HM.out.keep hb)
      replace D1 := Lib.hid (D1.out.keep hb)
      replace D2 := Lib.hid (D2.out.keep hb)
      replace HB := Lib.hid (keepB HB.out hb)
      clear hb
      clear D1 D2 HM
      go_wp2_with fail
      refine (HG.out _).mono ?_
      rintro e v11 ⟨g11, rfl, hM, hb⟩
      replace HZ := Lib.hid (HZ.out.keep hb)
      replace B1 := Lib.hid (B1.out.keep hb)
      replace HB := Lib.hid (keepB HB.out hb)
      have HM := Lib.hid hM
      clear hb hM
      go_wp2_with fail
      refine at_worldR (fun v => Below v11.heap.size v11 v ∧ BK v (v11.heap.size) [.int .i64 0, .int .i64 1] ∧ BK v (v11.heap.size + 1) [.int .i64 10000000, .int .i64 (-9999995)]) ⟨below_al (below_al (Below.refl _ _) _) _, ((BK.new v11 [.int .i64 0, .int .i64 1] 3).al _), (bkAtL (BK.new (v11.alloc (.cells #[.int .i64 0, .int .i64 1] 3)) [.int .i64 10000000, .int .i64 (-9999995)] 3) (by simp only [World.size_alloc]))⟩ (fun V11 hS => ?_)
      obtain ⟨hb, hD1, hD2⟩ := hS
      replace HZ := Lib.hid (HZ.out.keep hb)
      replace B1 := Lib.hid (B1.out.keep hb)
      replace HM := Lib.hid (HM.out.keep hb)
      replace HB := Lib.hid (keepB HB.out hb)
      have D1 := Lib.hid hD1
      have D2 := Lib.hid hD2
      clear hb hD1 hD2
      refine (wH _ _ _ _ _ _ _ HM.out (isI_bkL (l := [0, 1]) D1.out (i64bL (by decide))) (isI_bkL (l := [10000000, -9999995]) D2.out (i64bL (by decide)))).mono ?_
      rintro e v12 ⟨rfl, hb⟩
      replace HZ := Lib.hid (HZ.out.keep hb)
      replace B1 := Lib.hid (B1.out.keep hb)
      replace HM := Lib.hid (HM.out.keep hb)
      replace D1 := Lib.hid (D1.out.keep hb)
      replace D2 := Lib.hid (D2.out.keep hb)
      replace HB := Lib.hid (keepB HB.out hb)
      clear hb
      clear D1 D2 HM
      have cB10 := B1.out.c 0 rfl
      have cB11 := B1.out.c 1 rfl
      go_wp2_with fail
      refine (wI _ _ _ HZ.out).mono ?_
      rintro e v13 ⟨XA, cA, YA, dA, rfl, hX, hY, hb⟩
      replace HZ := Lib.hid (HZ.out.keep hb)
      replace B1 := Lib.hid (B1.out.keep hb)
      replace HB := Lib.hid (keepB HB.out hb)
      have IXA := Lib.hid hX
      have IYA := Lib.hid hY
      clear cB10 cB11 hb hX hY
      go_upto_region 18 with fail
      refine at_worldQ (fun v => Below v13.heap.size v13 v ∧ BK v (v13.heap.size) [.slice XA 1 cA, .slice YA 1 dA, .int .i64 1]) ⟨below_al (Below.refl _ _) _, BK.new v13 [.slice XA 1 cA, .slice YA 1 dA, .int .i64 1] 27⟩ (fun V13 hS => ?_)
      obtain ⟨hb, hLA⟩ := hS
      replace HZ := Lib.hid (HZ.out.keep hb)
      replace B1 := Lib.hid (B1.out.keep hb)
      replace IXA := Lib.hid (IXA.out.keep hb)
      replace IYA := Lib.hid (IYA.out.keep hb)
      replace HB := Lib.hid (keepB HB.out hb)
      have LA := Lib.hid hLA
      clear hb hLA
      go_wp2_with fail
      refine at_worldR (fun v => Below V13.heap.size V13 v ∧ BK v (V13.heap.size) [.int .i64 4, .int .i64 1, .int .i64 0] ∧ BK v (V13.heap.size + 1) [.int .i64 4, .int .i64 0, .int .i64 1] ∧ BK v (V13.heap.size + 1 + 1) [.int .i64 4, .int .i64 0, .int .i64 0] ∧ BK v (V13.heap.size + 1 + 1 + 1) [.slice (some ⟨V13.heap.size, 0, none⟩) 3 3, .slice (some ⟨V13.heap.size + 1, 0, none⟩) 3 3, .slice (some ⟨V13.heap.size + 1 + 1, 0, none⟩) 3 3]) ⟨below_al (below_al (below_al (below_al (Below.refl _ _) _) _) _) _, ((((((BK.new V13 [.int .i64 4, .int .i64 1, .int .i64 0] 3).al _)).al _)).al _), (((((bkAtL (BK.new (V13.alloc (.cells #[.int .i64 4, .int .i64 1, .int .i64 0] 3)) [.int .i64 4, .int .i64 0, .int .i64 1] 3) (by simp only [World.size_alloc]))).al _)).al _), (((bkAtL (BK.new ((V13.alloc (.cells #[.int .i64 4, .int .i64 1, .int .i64 0] 3)).alloc (.cells #[.int .i64 4, .int .i64 0, .int .i64 1] 3)) [.int .i64 4, .int .i64 0, .int .i64 0] 3) (by simp only [World.size_alloc]))).al _), (bkAtL (BK.new (((V13.alloc (.cells #[.int .i64 4, .int .i64 1, .int .i64 0] 3)).alloc (.cells #[.int .i64 4, .int .i64 0, .int .i64 1] 3)).alloc (.cells #[.int .i64 4, .int .i64 0, .int .i64 0] 3)) [.slice (some ⟨V13.heap.size, 0, none⟩) 3 3, .slice (some ⟨V13.heap.size + 1, 0, none⟩) 3 3, .slice (some ⟨V13.heap.size + 1 + 1, 0, none⟩) 3 3] 25) (by simp only [World.size_alloc]))⟩ (fun V14 hS => ?_)
      obtain ⟨hb, hR1, hR2, hR3, hRR⟩ := hS
      replace HZ := Lib.hid (HZ.out.keep hb)
      replace B1 := Lib.hid (B1.out.keep hb)
      replace IXA := Lib.hid (IXA.out.keep hb)
      replace IYA := Lib.hid (IYA.out.keep hb)
      replace LA := Lib.hid (LA.out.keep hb)
      replace HB := Lib.hid (keepB HB.out hb)
      have R1 := Lib.hid hR1
      have R2 := Lib.hid hR2
      have R3 := Lib.hid hR3
      have RR := Lib.hid hRR
      clear hb hR1 hR2 hR3 hRR
      refine (wJ _ _ _ (isM_three14 (l1 := [4, 1, 0]) (l2 := [4, 0, 1]) (l3 := [4, 0, 0]) RR.out rfl rfl rfl R1.out R2.out R3.out (by decide) (by decide) (by decide) (by simp) (by simp) (by simp))).mono ?_
      rintro e v14 ⟨XB, cB, YB, dB, rfl, hX, hY, hb⟩
      replace HZ := Lib.hid (HZ.out.keep hb)
      replace B1 := Lib.hid (B1.out.keep hb)
      replace IXA := Lib.hid (IXA.out.keep hb)
      replace IYA := Lib.hid (IYA.out.keep hb)
      replace LA := Lib.hid (LA.out.keep hb)
      replace R1 := Lib.hid (R1.out.keep hb)
      replace R2 := Lib.hid (R2.out.keep hb)
      replace R3 := Lib.hid (R3.out.keep hb)
      replace RR := Lib.hid (RR.out.keep hb)
      replace HB := Lib.hid (keepB HB.out hb)
      have IXB := Lib.hid hX
      have IYB := Lib.hid hY
      clear hb hX hY
      clear R1 R2 R3 RR
      go_upto_region 19 with fail
      refine at_worldQ (fun v => Below v14.heap.size v14 v ∧ BK v (v14.heap.size) [.slice XB 3 cB, .slice YB 3 dB, .int .i64 3]) ⟨below_al (Below.refl _ _) _, BK.new v14 [.slice XB 3 cB, .slice YB 3 dB, .int .i64 3] 27⟩ (fun V15 hS => ?_)
      obtain ⟨hb, hLB⟩ := hS
      replace HZ := Lib.hid (HZ.out.keep hb)
      replace B1 := Lib.hid (B1.out.keep hb)
      replace IXA := Lib.hid (IXA.out.keep hb)
      replace IYA := Lib.hid (IYA.out.keep hb)
      replace LA := Lib.hid (LA.out.keep hb)
      replace IXB := Lib.hid (IXB.out.keep hb)
      replace IYB := Lib.hid (IYB.out.keep hb)
      replace HB := Lib.hid (keepB HB.out hb)
      have LB := Lib.hid hLB
      clear hb hLB
      have cB10 := B1.out.c 0 rfl
      have cB11 := B1.out.c 1 rfl
      go_wp2_with fail
      refine at_worldR (fun v => Below V15.heap.size V15 v ∧ BK v (V15.heap.size) [.int .i64 0] ∧ BK v (V15.heap.size + 1) [.int .i64 600000000]) ⟨below_al (below_al (Below.refl _ _) _) _, ((BK.new V15 [.int .i64 0] 3).al _), (bkAtL (BK.new (V15.alloc (.cells #[.int .i64 0] 3)) [.int .i64 600000000] 3) (by simp only [World.size_alloc]))⟩ (fun V16 hS => ?_)
      obtain ⟨hb, hD1, hD2⟩ := hS
      replace HZ := Lib.hid (HZ.out.keep hb)
      replace B1 := Lib.hid (B1.out.keep hb)
      replace IXA := Lib.hid (IXA.out.keep hb)
      replace IYA := Lib.hid (IYA.out.keep hb)
      replace LA := Lib.hid (LA.out.keep hb)
      replace IXB := Lib.hid (IXB.out.keep hb)
      replace IYB := Lib.hid (IYB.out.keep hb)
      replace LB := Lib.hid (LB.out.keep hb)
      replace HB := Lib.hid (keepB HB.out hb)
      have D1 := Lib.hid hD1
      have D2 := Lib.hid hD2
      clear cB10 cB11 hb hD1 hD2
      refine (wK _ _ _ _ _ _ _ HZ.out (isI_bkL (l := [0]) D1.out (i64bL (by decide))) (isI_bkL (l := [600000000]) D2.out (i64bL (by decide)))).mono ?_
      rintro e v16 ⟨rfl, hb⟩
      replace HZ := Lib.hid (HZ.out.keep hb)
      replace B1 := Lib.hid (B1.out.keep hb)
      replace IXA := Lib.hid (IXA.out.keep hb)
      replace IYA := Lib.hid (IYA.out.keep hb)
      replace LA := Lib.hid (LA.out.keep hb)
      replace IXB := Lib.hid (IXB.out.keep hb)
      replace IYB := Lib.hid (IYB.out.keep hb)
      replace LB := Lib.hid (LB.out.keep hb)
      replace D1 := Lib.hid (D1.out.keep hb)
      replace D2 := Lib.hid (D2.out.keep hb)
      replace HB := Lib.hid (keepB HB.out hb)
      clear hb
      clear D1 D2 HZ B1
      go_wp2_with fail
      refine (alive14_any _).mono ?_
      rintro e v17 ⟨rfl, hb⟩
      replace IXA := Lib.hid (IXA.out.keep hb)
      replace IYA := Lib.hid (IYA.out.keep hb)
      replace LA := Lib.hid (LA.out.keep hb)
      replace IXB := Lib.hid (IXB.out.keep hb)
      replace IYB := Lib.hid (IYB.out.keep hb)
      replace LB := Lib.hid (LB.out.keep hb)
      replace HB := Lib.hid (keepB HB.out hb)
      clear hb
      have cLA0 := LA.out.c 0 rfl
      have cLA1 := LA.out.c 1 rfl
      have cLA2 := LA.out.c 2 rfl
      go_wp2_with fail
      refine at_worldR (fun v => Below v17.heap.size v17 v ∧ BK v (v17.heap.size) [.int .i64 0] ∧ BK v (v17.heap.size + 1) [.int .i64 10000000]) ⟨below_al (below_al (Below.refl _ _) _) _, ((BK.new v17 [.int .i64 0] 3).al _), (bkAtL (BK.new (v17.alloc (.cells #[.int .i64 0] 3)) [.int .i64 10000000] 3) (by simp only [World.size_alloc]))⟩ (fun V17 hS => ?_)
      obtain ⟨hb, hD1, hD2⟩ := hS
      replace IXA := Lib.hid (IXA.out.keep hb)
      replace IYA := Lib.hid (IYA.out.keep hb)
      replace LA := Lib.hid (LA.out.keep hb)
      replace IXB := Lib.hid (IXB.out.keep hb)
      replace IYB := Lib.hid (IYB.out.keep hb)
      replace LB := Lib.hid (LB.out.keep hb)
      replace HB := Lib.hid (keepB HB.out hb)
      have D1 := Lib.hid hD1
      have D2 := Lib.hid hD2
      clear cLA0 cLA1 cLA2 hb hD1 hD2
      refine (lsame_eq XA cA _ _ YA dA _ _ [0] [10000000] 1 1 1 _ (by unfold maxLen; simp) (by unfold maxLen; simp) rfl rfl IXA.out (isI_bkL (l := [0]) D1.out (i64bL (by decide))) IYA.out (isI_bkL (l := [10000000]) D2.out (i64bL (by decide)))).mono ?_
      rintro e v18 ⟨rfl, hb⟩
      replace IXA := Lib.hid (IXA.out.keep hb)
      replace IYA := Lib.hid (IYA.out.keep hb)
      replace LA := Lib.hid (LA.out.keep hb)
      replace IXB := Lib.hid (IXB.out.keep hb)
      replace IYB := Lib.hid (IYB.out.keep hb)
      replace LB := Lib.hid (LB.out.keep hb)
      replace D1 := Lib.hid (D1.out.keep hb)
      replace D2 := Lib.hid (D2.out.keep hb)
      replace HB := Lib.hid (keepB HB.out hb)
      clear hb
      clear D1 D2 IXA IYA LA
      have cLB0 := LB.out.c 0 rfl
      have cLB1 := LB.out.c 1 rfl
      have cLB2 := LB.out.c 2 rfl
      go_wp2_with fail
      refine at_worldR (fun v => Below v18.heap.size v18 v ∧ BK v (v18.heap.size) [.int .i64 1, .int .i64 2, .int .i64 0] ∧ BK v (v18.heap.size + 1) [.int .i64 7, .int .i64 (-2), .int .i64 (-2)]) ⟨below_al (below_al (Below.refl _ _) _) _, ((BK.new v18 [.int .i64 1, .int .i64 2, .int .i64 0] 3).al _), (bkAtL (BK.new (v18.alloc (.cells #[.int .i64 1, .int .i64 2, .int .i64 0] 3)) [.int .i64 7, .int .i64 (-2), .int .i64 (-2)] 3) (by simp only [World.size_alloc]))⟩ (fun V18 hS => ?_)
      obtain ⟨hb, hD1, hD2⟩ := hS
      replace IXB := Lib.hid (IXB.out.keep hb)
      replace IYB := Lib.hid (IYB.out.keep hb)
      replace LB := Lib.hid (LB.out.keep hb)
      replace HB := Lib.hid (keepB HB.out hb)
      have D1 := Lib.hid hD1
      have D2 := Lib.hid hD2
      clear cLB0 cLB1 cLB2 hb hD1 hD2
      refine (lsame_eq XB cB _ _ YB dB _ _ [1, 2, 0] [7, -2, -2] 3 3 3 _ (by unfold maxLen; simp) (by unfold maxLen; simp) rfl rfl IXB.out (isI_bkL (l := [1, 2, 0]) D1.out (i64bL (by decide))) IYB.out (isI_bkL (l := [7, -2, -2]) D2.out (i64bL (by decide)))).mono ?_
      rintro e v19 ⟨rfl, hb⟩
      replace IXB := Lib.hid (IXB.out.keep hb)
      replace IYB := Lib.hid (IYB.out.keep hb)
      replace LB := Lib.hid (LB.out.keep hb)
      replace D1 := Lib.hid (D1.out.keep hb)
      replace D2 := Lib.hid (D2.out.keep hb)
      replace HB := Lib.hid (keepB HB.out hb)
      clear hb
      go_wp2_with fail
      go_ret
      exact ⟨rfl, HB.out⟩
end Go.Proofs.Ytncmffhoodfhjaa

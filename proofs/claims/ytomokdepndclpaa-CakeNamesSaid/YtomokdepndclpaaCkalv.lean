/- alive of layer 2: the chapter's examples hold. -/
import Derived.Test.YtomokdepndclpaaCkal
namespace Go.Proofs.Ytomokdepndclpaa
open Go.RowKit
theorem al_tot : Ck.totS 10 [0, 4, 6, 10] [2, 0, 3] = (20, 0) := by decide +kernel
theorem al_v : Ck.vgo [0, 4, 6, 10] [2, 0, 3] 1 1 7 1 3 = (9, 1, 0) := by decide +kernel
theorem al_m8 : Ck.mgo 10 [0, 4, 6, 10] [2, 0, 3] 0 1 3 0 8 1 = (4, 1, 0) := by decide +kernel
theorem al_m9 : Ck.mgo 10 [0, 4, 6, 10] [2, 0, 3] 0 1 3 0 9 1 = (19, 3, 0) := by decide +kernel
theorem al_m21 : Ck.mgo 10 [0, 4, 6, 10] [2, 0, 3] 0 1 3 0 21 1 = (0, 0, 6) := by decide +kernel
theorem al_total (K : Option Addr) (ck : Nat) (Z : Option Addr) (cz : Nat) (v : World) (h : IsCake v 10 K [0, 4, 6, 10] Z [2, 0, 3]) :
    Calls Try.prog 31 #[.agg #[.int .i64 10, .slice K 4 ck, .slice Z 3 cz]] v fun e w' => e = .returned (.tuple #[.int .i64 20, .int .i64 0]) ∧ Below v.heap.size v w' := by
  have := ckTotal_any 10 K [0, 4, 6, 10] ck Z [2, 0, 3] cz v h
  rw [al_tot] at this
  exact this
theorem al_value (K : Option Addr) (ck : Nat) (Z : Option Addr) (cz : Nat) (v : World) (h : IsCake v 10 K [0, 4, 6, 10] Z [2, 0, 3]) :
    Calls Try.prog 21 #[.agg #[.int .i64 10, .slice K 4 ck, .slice Z 3 cz], .agg #[.int .i64 1, .int .i64 1], .agg #[.int .i64 7, .int .i64 1]] v fun e w' => e = .returned (.tuple #[.agg #[.int .i64 9, .int .i64 1], .int .i64 0]) ∧ Below v.heap.size v w' := by
  have := value_good 10 K [0, 4, 6, 10] ck Z [2, 0, 3] cz 1 1 7 1 v h (by decide +kernel) (by decide +kernel) (by decide +kernel) (by decide +kernel)
  rw [show ([2, 0, 3] : List Int).length = 3 from rfl, al_v] at this
  exact this
theorem al_mark8 (K : Option Addr) (ck : Nat) (Z : Option Addr) (cz : Nat) (v : World) (h : IsCake v 10 K [0, 4, 6, 10] Z [2, 0, 3]) :
    Calls Try.prog 22 #[.agg #[.int .i64 10, .slice K 4 ck, .slice Z 3 cz], .agg #[.int .i64 0, .int .i64 1], .agg #[.int .i64 8, .int .i64 1]] v fun e w' => e = .returned (.tuple #[.agg #[.int .i64 4, .int .i64 1], .int .i64 0]) ∧ Below v.heap.size v w' := by
  have := mark_good 10 K [0, 4, 6, 10] ck Z [2, 0, 3] cz 0 1 8 1 v h (by decide +kernel) (by decide +kernel) (by decide +kernel) (by decide +kernel)
  rw [show ([2, 0, 3] : List Int).length = 3 from rfl, al_m8] at this
  exact this
theorem al_mark9 (K : Option Addr) (ck : Nat) (Z : Option Addr) (cz : Nat) (v : World) (h : IsCake v 10 K [0, 4, 6, 10] Z [2, 0, 3]) :
    Calls Try.prog 22 #[.agg #[.int .i64 10, .slice K 4 ck, .slice Z 3 cz], .agg #[.int .i64 0, .int .i64 1], .agg #[.int .i64 9, .int .i64 1]] v fun e w' => e = .returned (.tuple #[.agg #[.int .i64 19, .int .i64 3], .int .i64 0]) ∧ Below v.heap.size v w' := by
  have := mark_good 10 K [0, 4, 6, 10] ck Z [2, 0, 3] cz 0 1 9 1 v h (by decide +kernel) (by decide +kernel) (by decide +kernel) (by decide +kernel)
  rw [show ([2, 0, 3] : List Int).length = 3 from rfl, al_m9] at this
  exact this
theorem al_mark21 (K : Option Addr) (ck : Nat) (Z : Option Addr) (cz : Nat) (v : World) (h : IsCake v 10 K [0, 4, 6, 10] Z [2, 0, 3]) :
    Calls Try.prog 22 #[.agg #[.int .i64 10, .slice K 4 ck, .slice Z 3 cz], .agg #[.int .i64 0, .int .i64 1], .agg #[.int .i64 21, .int .i64 1]] v fun e w' => e = .returned (.tuple #[.agg #[.int .i64 0, .int .i64 0], .int .i64 6]) ∧ Below v.heap.size v w' := by
  have := mark_good 10 K [0, 4, 6, 10] ck Z [2, 0, 3] cz 0 1 21 1 v h (by decide +kernel) (by decide +kernel) (by decide +kernel) (by decide +kernel)
  rw [show ([2, 0, 3] : List Int).length = 3 from rfl, al_m21] at this
  exact this
theorem al_mark0 (K : Option Addr) (ck : Nat) (Z : Option Addr) (cz : Nat) (v : World) (h : IsCake v 10 K [0, 4, 6, 10] Z [2, 0, 3]) :
    Calls Try.prog 22 #[.agg #[.int .i64 10, .slice K 4 ck, .slice Z 3 cz], .agg #[.int .i64 5, .int .i64 1], .agg #[.int .i64 0, .int .i64 1]] v fun e w' => e = .returned (.tuple #[.agg #[.int .i64 5, .int .i64 1], .int .i64 0]) ∧ Below v.heap.size v w' := by
  have := mark_zero 10 K [0, 4, 6, 10] ck Z [2, 0, 3] cz 5 1 0 1 v h (by decide +kernel) (by decide +kernel) (by decide +kernel) (by decide +kernel)
  skip
  exact this
set_option linter.unusedSimpArgs false in
set_option maxHeartbeats 8000000 in
set_option maxRecDepth 100000 in
theorem alive2_any (w : World) : Calls Try.prog 26 #[] w fun e w' => e = .returned (.bool true) ∧ Below w.heap.size w w' := by
  go_enter Try.func26, Try.ntmps26
  go_wp2_with fail
  refine (given_any _).mono ?_
  rintro e w1 ⟨K, ck, Z, cz, rfl, hI, hb⟩
  have hbb : Below w.heap.size w w1 := hb
  clear hb
  go_wp2_with fail
  refine (al_total K ck Z cz _ hI).mono ?_
  rintro e w2 ⟨rfl, hb⟩
  replace hbb := keepB hbb hb
  clear hb
  clear hI
  go_wp2_with fail
  refine (given_any _).mono ?_
  rintro e w3 ⟨K, ck, Z, cz, rfl, hI, hb⟩
  replace hbb := keepB hbb hb
  clear hb
  go_wp2_with fail
  refine (of2_any _ _).mono ?_
  rintro e w4 ⟨rfl, hb⟩
  replace hI := hI.keep hb
  replace hbb := keepB hbb hb
  clear hb
  go_wp2_with fail
  refine (of2_any _ _).mono ?_
  rintro e w5 ⟨rfl, hb⟩
  replace hI := hI.keep hb
  replace hbb := keepB hbb hb
  clear hb
  go_wp2_with fail
  refine (al_value K ck Z cz _ hI).mono ?_
  rintro e w6 ⟨rfl, hb⟩
  replace hbb := keepB hbb hb
  clear hb
  clear hI
  go_upto_region 3 with fail
  refine at_worldQ (fun v => Below w.heap.size w v ∧ BK v w6.heap.size [.int .i64 9, .int .i64 1]) ⟨below_al hbb _, BK.new _ _ _⟩ (fun V0 hS => ?_)
  clear hbb
  obtain ⟨hbb, B0⟩ := hS
  go_wp2_with fail
  refine (given_any _).mono ?_
  rintro e w7 ⟨K, ck, Z, cz, rfl, hI, hb⟩
  replace B0 := B0.keep hb
  replace hbb := keepB hbb hb
  clear hb
  go_wp2_with fail
  refine (of2_any _ _).mono ?_
  rintro e w8 ⟨rfl, hb⟩
  replace B0 := B0.keep hb
  replace hI := hI.keep hb
  replace hbb := keepB hbb hb
  clear hb
  go_wp2_with fail
  refine (of2_any _ _).mono ?_
  rintro e w9 ⟨rfl, hb⟩
  replace B0 := B0.keep hb
  replace hI := hI.keep hb
  replace hbb := keepB hbb hb
  clear hb
  go_wp2_with fail
  refine (al_mark8 K ck Z cz _ hI).mono ?_
  rintro e w10 ⟨rfl, hb⟩
  replace B0 := B0.keep hb
  replace hbb := keepB hbb hb
  clear hb
  clear hI
  go_upto_region 4 with fail
  refine at_worldQ (fun v => Below w.heap.size w v ∧ BK v w6.heap.size [.int .i64 9, .int .i64 1] ∧ BK v w10.heap.size [.int .i64 4, .int .i64 1]) ⟨below_al hbb _, B0.al _, BK.new _ _ _⟩ (fun V1 hS => ?_)
  clear hbb B0
  obtain ⟨hbb, B0, B1⟩ := hS
  go_wp2_with fail
  refine (given_any _).mono ?_
  rintro e w11 ⟨K, ck, Z, cz, rfl, hI, hb⟩
  replace B0 := B0.keep hb
  replace B1 := B1.keep hb
  replace hbb := keepB hbb hb
  clear hb
  go_wp2_with fail
  refine (of2_any _ _).mono ?_
  rintro e w12 ⟨rfl, hb⟩
  replace B0 := B0.keep hb
  replace B1 := B1.keep hb
  replace hI := hI.keep hb
  replace hbb := keepB hbb hb
  clear hb
  go_wp2_with fail
  refine (of2_any _ _).mono ?_
  rintro e w13 ⟨rfl, hb⟩
  replace B0 := B0.keep hb
  replace B1 := B1.keep hb
  replace hI := hI.keep hb
  replace hbb := keepB hbb hb
  clear hb
  go_wp2_with fail
  refine (al_mark9 K ck Z cz _ hI).mono ?_
  rintro e w14 ⟨rfl, hb⟩
  replace B0 := B0.keep hb
  replace B1 := B1.keep hb
  replace hbb := keepB hbb hb
  clear hb
  clear hI
  go_upto_region 5 with fail
  refine at_worldQ (fun v => Below w.heap.size w v ∧ BK v w6.heap.size [.int .i64 9, .int .i64 1] ∧ BK v w10.heap.size [.int .i64 4, .int .i64 1] ∧ BK v w14.heap.size [.int .i64 19, .int .i64 3]) ⟨below_al hbb _, B0.al _, B1.al _, BK.new _ _ _⟩ (fun V2 hS => ?_)
  clear hbb B0 B1
  obtain ⟨hbb, B0, B1, B2⟩ := hS
  go_wp2_with fail
  refine (given_any _).mono ?_
  rintro e w15 ⟨K, ck, Z, cz, rfl, hI, hb⟩
  replace B0 := B0.keep hb
  replace B1 := B1.keep hb
  replace B2 := B2.keep hb
  replace hbb := keepB hbb hb
  clear hb
  go_wp2_with fail
  refine (of2_any _ _).mono ?_
  rintro e w16 ⟨rfl, hb⟩
  replace B0 := B0.keep hb
  replace B1 := B1.keep hb
  replace B2 := B2.keep hb
  replace hI := hI.keep hb
  replace hbb := keepB hbb hb
  clear hb
  go_wp2_with fail
  refine (of2_any _ _).mono ?_
  rintro e w17 ⟨rfl, hb⟩
  replace B0 := B0.keep hb
  replace B1 := B1.keep hb
  replace B2 := B2.keep hb
  replace hI := hI.keep hb
  replace hbb := keepB hbb hb
  clear hb
  go_wp2_with fail
  refine (al_mark21 K ck Z cz _ hI).mono ?_
  rintro e w18 ⟨rfl, hb⟩
  replace B0 := B0.keep hb
  replace B1 := B1.keep hb
  replace B2 := B2.keep hb
  replace hbb := keepB hbb hb
  clear hb
  clear hI
  go_upto_region 6 with fail
  refine at_worldQ (fun v => Below w.heap.size w v ∧ BK v w6.heap.size [.int .i64 9, .int .i64 1] ∧ BK v w10.heap.size [.int .i64 4, .int .i64 1] ∧ BK v w14.heap.size [.int .i64 19, .int .i64 3] ∧ BK v w18.heap.size [.int .i64 0, .int .i64 0]) ⟨below_al hbb _, B0.al _, B1.al _, B2.al _, BK.new _ _ _⟩ (fun V3 hS => ?_)
  clear hbb B0 B1 B2
  obtain ⟨hbb, B0, B1, B2, B3⟩ := hS
  go_wp2_with fail
  refine (given_any _).mono ?_
  rintro e w19 ⟨K, ck, Z, cz, rfl, hI, hb⟩
  replace B0 := B0.keep hb
  replace B1 := B1.keep hb
  replace B2 := B2.keep hb
  replace B3 := B3.keep hb
  replace hbb := keepB hbb hb
  clear hb
  go_wp2_with fail
  refine (of2_any _ _).mono ?_
  rintro e w20 ⟨rfl, hb⟩
  replace B0 := B0.keep hb
  replace B1 := B1.keep hb
  replace B2 := B2.keep hb
  replace B3 := B3.keep hb
  replace hI := hI.keep hb
  replace hbb := keepB hbb hb
  clear hb
  go_wp2_with fail
  refine (of2_any _ _).mono ?_
  rintro e w21 ⟨rfl, hb⟩
  replace B0 := B0.keep hb
  replace B1 := B1.keep hb
  replace B2 := B2.keep hb
  replace B3 := B3.keep hb
  replace hI := hI.keep hb
  replace hbb := keepB hbb hb
  clear hb
  go_wp2_with fail
  refine (al_mark0 K ck Z cz _ hI).mono ?_
  rintro e w22 ⟨rfl, hb⟩
  replace B0 := B0.keep hb
  replace B1 := B1.keep hb
  replace B2 := B2.keep hb
  replace B3 := B3.keep hb
  replace hbb := keepB hbb hb
  clear hb
  clear hI
  go_upto_region 7 with fail
  refine at_worldQ (fun v => Below w.heap.size w v ∧ BK v w6.heap.size [.int .i64 9, .int .i64 1] ∧ BK v w10.heap.size [.int .i64 4, .int .i64 1] ∧ BK v w14.heap.size [.int .i64 19, .int .i64 3] ∧ BK v w18.heap.size [.int .i64 0, .int .i64 0] ∧ BK v w22.heap.size [.int .i64 5, .int .i64 1]) ⟨below_al hbb _, B0.al _, B1.al _, B2.al _, B3.al _, BK.new _ _ _⟩ (fun V4 hS => ?_)
  clear hbb B0 B1 B2 B3
  obtain ⟨hbb, B0, B1, B2, B3, B4⟩ := hS
  have c00 := B0.c 0 rfl
  have c01 := B0.c 1 rfl
  have c10 := B1.c 0 rfl
  have c11 := B1.c 1 rfl
  have c20 := B2.c 0 rfl
  have c21 := B2.c 1 rfl
  have c40 := B4.c 0 rfl
  have c41 := B4.c 1 rfl
  refine wp_region_noPanic ?_
  refine wp_region_held_drew (S := (Below V4.heap.size V4)) (by kernel_rfl) ((Below.refl _ _).drew) (fun hHeld => ?_)
  refine at_anyH (Below V4.heap.size V4) hHeld (fun wa0 hNew => ?_)
  clear hHeld
  have hHeld := hNew
  clear hNew
  refine wpAnyH_take (i := 0) (oi := _) (v := ?va1) rfl (by kernel_rfl) (by kernel_rfl) (by kernel_rfl) (fun _ _ _ h => h) (Or.inl ⟨by kernel_rfl, ?hya1⟩) hHeld ?resta1
  case hya1 => (intro w hSw; go_simp; first | done | (with_reducible rfl))
  try simp only [Act.put, List.getElem_toArray, List.getElem_cons_succ, List.getElem_cons_zero, List.setIfInBounds_toArray, List.set_cons_zero, List.set_cons_succ]
  refine wpAnyH_take (i := 1) (oi := _) (v := ?va2) rfl (by kernel_rfl) (by kernel_rfl) (by kernel_rfl) (fun _ _ _ h => h) (Or.inl ⟨by kernel_rfl, ?hya2⟩) hHeld ?resta2
  case hya2 => (intro w hSw; go_simp; first | done | (with_reducible rfl))
  try simp only [Act.put, List.getElem_toArray, List.getElem_cons_succ, List.getElem_cons_zero, List.setIfInBounds_toArray, List.set_cons_zero, List.set_cons_succ]
  refine wpAnyH_take (i := 2) (oi := _) (v := ?va3) rfl (by kernel_rfl) (by kernel_rfl) (by kernel_rfl) (fun _ _ _ h => h) (Or.inl ⟨by kernel_rfl, ?hya3⟩) hHeld ?resta3
  case hya3 => (intro w hSw; go_simp; first | done | (with_reducible rfl))
  try simp only [Act.put, List.getElem_toArray, List.getElem_cons_succ, List.getElem_cons_zero, List.setIfInBounds_toArray, List.set_cons_zero, List.set_cons_succ]
  refine wpAnyH_take (i := 3) (oi := _) (v := ?va4) rfl (by kernel_rfl) (by kernel_rfl) (by kernel_rfl) (fun _ _ _ h => h) (Or.inl ⟨by kernel_rfl, ?hya4⟩) hHeld ?resta4
  case hya4 => (intro w hSw; go_simp; first | done | (with_reducible rfl))
  try simp only [Act.put, List.getElem_toArray, List.getElem_cons_succ, List.getElem_cons_zero, List.setIfInBounds_toArray, List.set_cons_zero, List.set_cons_succ]
  refine wpAnyH_take (i := 4) (oi := _) (v := ?va5) rfl (by kernel_rfl) (by kernel_rfl) (by kernel_rfl) (fun _ _ _ h => h) (Or.inl ⟨by kernel_rfl, ?hya5⟩) hHeld ?resta5
  case hya5 => (intro w hSw; go_simp; first | done | (with_reducible rfl))
  try simp only [Act.put, List.getElem_toArray, List.getElem_cons_succ, List.getElem_cons_zero, List.setIfInBounds_toArray, List.set_cons_zero, List.set_cons_succ]
  refine wpAnyH_take (i := 5) (oi := _) (v := ?va6) rfl (by kernel_rfl) (by kernel_rfl) (by kernel_rfl) (fun _ _ _ h => h) (Or.inl ⟨by kernel_rfl, ?hya6⟩) hHeld ?resta6
  case hya6 => (intro w hSw; go_simp; first | done | (with_reducible rfl))
  try simp only [Act.put, List.getElem_toArray, List.getElem_cons_succ, List.getElem_cons_zero, List.setIfInBounds_toArray, List.set_cons_zero, List.set_cons_succ]
  refine wpAnyH_take (i := 6) (oi := _) (v := ?va7) rfl (by kernel_rfl) (by kernel_rfl) (by kernel_rfl) (fun _ _ _ h => h) (Or.inl ⟨by kernel_rfl, ?hya7⟩) hHeld ?resta7
  case hya7 => (intro w hSw; go_simp; first | done | (with_reducible rfl))
  try simp only [Act.put, List.getElem_toArray, List.getElem_cons_succ, List.getElem_cons_zero, List.setIfInBounds_toArray, List.set_cons_zero, List.set_cons_succ]
  refine wpAnyH_take (i := 7) (oi := _) (v := ?va8) rfl (by kernel_rfl) (by kernel_rfl) (by kernel_rfl) (fun _ _ _ h => h) (Or.inl ⟨by kernel_rfl, ?hya8⟩) hHeld ?resta8
  case hya8 => (intro w hSw; go_simp; first | done | (with_reducible rfl))
  try simp only [Act.put, List.getElem_toArray, List.getElem_cons_succ, List.getElem_cons_zero, List.setIfInBounds_toArray, List.set_cons_zero, List.set_cons_succ]
  refine wpAnyH_take (i := 8) (oi := _) (v := ?va9) rfl (by kernel_rfl) (by kernel_rfl) (by kernel_rfl) (fun _ _ _ h => h) (Or.inl ⟨by kernel_rfl, ?hya9⟩) hHeld ?resta9
  case hya9 => (intro w hSw; go_simp; first | done | (with_reducible rfl))
  try simp only [Act.put, List.getElem_toArray, List.getElem_cons_succ, List.getElem_cons_zero, List.setIfInBounds_toArray, List.set_cons_zero, List.set_cons_succ]
  refine wpAnyH_take (i := 9) (oi := _) (v := ?va10) rfl (by kernel_rfl) (by kernel_rfl) (by kernel_rfl) (fun _ _ _ h => h) (Or.inl ⟨by kernel_rfl, ?hya10⟩) hHeld ?resta10
  case hya10 => (intro w hSw; go_simp; first | done | (with_reducible rfl))
  try simp only [Act.put, List.getElem_toArray, List.getElem_cons_succ, List.getElem_cons_zero, List.setIfInBounds_toArray, List.set_cons_zero, List.set_cons_succ]
  refine wpAnyH_take (i := 10) (oi := _) (v := ?va11) rfl (by kernel_rfl) (by kernel_rfl) (by kernel_rfl) (fun _ _ _ h => h) (Or.inl ⟨by kernel_rfl, ?hya11⟩) hHeld ?resta11
  case hya11 => (intro w hSw; go_simp; first | done | (with_reducible rfl))
  try simp only [Act.put, List.getElem_toArray, List.getElem_cons_succ, List.getElem_cons_zero, List.setIfInBounds_toArray, List.set_cons_zero, List.set_cons_succ]
  refine wpAnyH_take (i := 11) (oi := _) (v := ?va12) rfl (by kernel_rfl) (by kernel_rfl) (by kernel_rfl) (fun _ _ _ h => h) (Or.inl ⟨by kernel_rfl, ?hya12⟩) hHeld ?resta12
  case hya12 => (intro w hSw; have kc00 := keepC hSw c00; have kc01 := keepC hSw c01; have kc10 := keepC hSw c10; have kc11 := keepC hSw c11; have kc20 := keepC hSw c20; have kc21 := keepC hSw c21; have kc40 := keepC hSw c40; have kc41 := keepC hSw c41; go_simp; first | done | (with_reducible rfl))
  try simp only [Act.put, List.getElem_toArray, List.getElem_cons_succ, List.getElem_cons_zero, List.setIfInBounds_toArray, List.set_cons_zero, List.set_cons_succ]
  refine wpAnyH_ready (rs := [12]) (by kernel_rfl) (by simp) (AllReadyH.cons (o := _) rfl (fun K hK => ?_) AllReadyH.nil)
  go_simp
  refine (of2_any _ _).mono ?_
  rintro e wa13 ⟨rfl, hb3⟩
  go_wp2_with fail
  refine hK.out _ _ (keepB hHeld hb3) (fun hNew => ?_)
  clear hb3
  clear hHeld hK K
  have hHeld := hNew
  clear hNew
  try simp only [Act.put, List.getElem_toArray, List.getElem_cons_succ, List.getElem_cons_zero, List.setIfInBounds_toArray, List.set_cons_zero, List.set_cons_succ]
  refine wpAnyH_take (i := 13) (oi := _) (v := ?va14) rfl (by kernel_rfl) (by kernel_rfl) (by kernel_rfl) (fun _ _ _ h => h) (Or.inl ⟨by kernel_rfl, ?hya14⟩) hHeld ?resta14
  case hya14 => (intro w hSw; go_simp; first | done | (with_reducible rfl))
  try simp only [Act.put, List.getElem_toArray, List.getElem_cons_succ, List.getElem_cons_zero, List.setIfInBounds_toArray, List.set_cons_zero, List.set_cons_succ]
  refine wpAnyH_take (i := 14) (oi := _) (v := ?va15) rfl (by kernel_rfl) (by kernel_rfl) (by kernel_rfl) (fun _ _ _ h => h) (Or.inl ⟨by kernel_rfl, ?hya15⟩) hHeld ?resta15
  case hya15 => (intro w hSw; go_simp; first | done | (with_reducible rfl))
  try simp only [Act.put, List.getElem_toArray, List.getElem_cons_succ, List.getElem_cons_zero, List.setIfInBounds_toArray, List.set_cons_zero, List.set_cons_succ]
  refine wpAnyH_take (i := 15) (oi := _) (v := ?va16) rfl (by kernel_rfl) (by kernel_rfl) (by kernel_rfl) (fun _ _ _ h => h) (Or.inl ⟨by kernel_rfl, ?hya16⟩) hHeld ?resta16
  case hya16 => (intro w hSw; go_simp; first | done | (with_reducible rfl))
  try simp only [Act.put, List.getElem_toArray, List.getElem_cons_succ, List.getElem_cons_zero, List.setIfInBounds_toArray, List.set_cons_zero, List.set_cons_succ]
  refine wpAnyH_take (i := 16) (oi := _) (v := ?va17) rfl (by kernel_rfl) (by kernel_rfl) (by kernel_rfl) (fun _ _ _ h => h) (Or.inl ⟨by kernel_rfl, ?hya17⟩) hHeld ?resta17
  case hya17 => (intro w hSw; go_simp; first | done | (with_reducible rfl))
  try simp only [Act.put, List.getElem_toArray, List.getElem_cons_succ, List.getElem_cons_zero, List.setIfInBounds_toArray, List.set_cons_zero, List.set_cons_succ]
  refine wpAnyH_take (i := 17) (oi := _) (v := ?va18) rfl (by kernel_rfl) (by kernel_rfl) (by kernel_rfl) (fun _ _ _ h => h) (Or.inl ⟨by kernel_rfl, ?hya18⟩) hHeld ?resta18
  case hya18 => (intro w hSw; go_simp; first | done | (with_reducible rfl))
  try simp only [Act.put, List.getElem_toArray, List.getElem_cons_succ, List.getElem_cons_zero, List.setIfInBounds_toArray, List.set_cons_zero, List.set_cons_succ]
  refine wpAnyH_take (i := 18) (oi := _) (v := ?va19) rfl (by kernel_rfl) (by kernel_rfl) (by kernel_rfl) (fun _ _ _ h => h) (Or.inl ⟨by kernel_rfl, ?hya19⟩) hHeld ?resta19
  case hya19 => (intro w hSw; go_simp; first | done | (with_reducible rfl))
  try simp only [Act.put, List.getElem_toArray, List.getElem_cons_succ, List.getElem_cons_zero, List.setIfInBounds_toArray, List.set_cons_zero, List.set_cons_succ]
  refine wpAnyH_take (i := 19) (oi := _) (v := ?va20) rfl (by kernel_rfl) (by kernel_rfl) (by kernel_rfl) (fun _ _ _ h => h) (Or.inl ⟨by kernel_rfl, ?hya20⟩) hHeld ?resta20
  case hya20 => (intro w hSw; go_simp; first | done | (with_reducible rfl))
  try simp only [Act.put, List.getElem_toArray, List.getElem_cons_succ, List.getElem_cons_zero, List.setIfInBounds_toArray, List.set_cons_zero, List.set_cons_succ]
  refine wpAnyH_take (i := 20) (oi := _) (v := ?va21) rfl (by kernel_rfl) (by kernel_rfl) (by kernel_rfl) (fun _ _ _ h => h) (Or.inl ⟨by kernel_rfl, ?hya21⟩) hHeld ?resta21
  case hya21 => (intro w hSw; have kc00 := keepC hSw c00; have kc01 := keepC hSw c01; have kc10 := keepC hSw c10; have kc11 := keepC hSw c11; have kc20 := keepC hSw c20; have kc21 := keepC hSw c21; have kc40 := keepC hSw c40; have kc41 := keepC hSw c41; go_simp; first | done | (with_reducible rfl))
  try simp only [Act.put, List.getElem_toArray, List.getElem_cons_succ, List.getElem_cons_zero, List.setIfInBounds_toArray, List.set_cons_zero, List.set_cons_succ]
  refine wpAnyH_ready (rs := [21]) (by kernel_rfl) (by simp) (AllReadyH.cons (o := _) rfl (fun K hK => ?_) AllReadyH.nil)
  go_simp
  refine (of2_any _ _).mono ?_
  rintro e wa22 ⟨rfl, hb3⟩
  go_wp2_with fail
  refine hK.out _ _ (keepB hHeld hb3) (fun hNew => ?_)
  clear hb3
  clear hHeld hK K
  have hHeld := hNew
  clear hNew
  try simp only [Act.put, List.getElem_toArray, List.getElem_cons_succ, List.getElem_cons_zero, List.setIfInBounds_toArray, List.set_cons_zero, List.set_cons_succ]
  refine wpAnyH_take (i := 22) (oi := _) (v := ?va23) rfl (by kernel_rfl) (by kernel_rfl) (by kernel_rfl) (fun _ _ _ h => h) (Or.inl ⟨by kernel_rfl, ?hya23⟩) hHeld ?resta23
  case hya23 => (intro w hSw; go_simp; first | done | (with_reducible rfl))
  try simp only [Act.put, List.getElem_toArray, List.getElem_cons_succ, List.getElem_cons_zero, List.setIfInBounds_toArray, List.set_cons_zero, List.set_cons_succ]
  refine wpAnyH_take (i := 23) (oi := _) (v := ?va24) rfl (by kernel_rfl) (by kernel_rfl) (by kernel_rfl) (fun _ _ _ h => h) (Or.inl ⟨by kernel_rfl, ?hya24⟩) hHeld ?resta24
  case hya24 => (intro w hSw; go_simp; first | done | (with_reducible rfl))
  try simp only [Act.put, List.getElem_toArray, List.getElem_cons_succ, List.getElem_cons_zero, List.setIfInBounds_toArray, List.set_cons_zero, List.set_cons_succ]
  refine wpAnyH_take (i := 24) (oi := _) (v := ?va25) rfl (by kernel_rfl) (by kernel_rfl) (by kernel_rfl) (fun _ _ _ h => h) (Or.inl ⟨by kernel_rfl, ?hya25⟩) hHeld ?resta25
  case hya25 => (intro w hSw; go_simp; first | done | (with_reducible rfl))
  try simp only [Act.put, List.getElem_toArray, List.getElem_cons_succ, List.getElem_cons_zero, List.setIfInBounds_toArray, List.set_cons_zero, List.set_cons_succ]
  refine wpAnyH_take (i := 25) (oi := _) (v := ?va26) rfl (by kernel_rfl) (by kernel_rfl) (by kernel_rfl) (fun _ _ _ h => h) (Or.inl ⟨by kernel_rfl, ?hya26⟩) hHeld ?resta26
  case hya26 => (intro w hSw; go_simp; first | done | (with_reducible rfl))
  try simp only [Act.put, List.getElem_toArray, List.getElem_cons_succ, List.getElem_cons_zero, List.setIfInBounds_toArray, List.set_cons_zero, List.set_cons_succ]
  refine wpAnyH_take (i := 26) (oi := _) (v := ?va27) rfl (by kernel_rfl) (by kernel_rfl) (by kernel_rfl) (fun _ _ _ h => h) (Or.inl ⟨by kernel_rfl, ?hya27⟩) hHeld ?resta27
  case hya27 => (intro w hSw; go_simp; first | done | (with_reducible rfl))
  try simp only [Act.put, List.getElem_toArray, List.getElem_cons_succ, List.getElem_cons_zero, List.setIfInBounds_toArray, List.set_cons_zero, List.set_cons_succ]
  refine wpAnyH_take (i := 27) (oi := _) (v := ?va28) rfl (by kernel_rfl) (by kernel_rfl) (by kernel_rfl) (fun _ _ _ h => h) (Or.inl ⟨by kernel_rfl, ?hya28⟩) hHeld ?resta28
  case hya28 => (intro w hSw; go_simp; first | done | (with_reducible rfl))
  try simp only [Act.put, List.getElem_toArray, List.getElem_cons_succ, List.getElem_cons_zero, List.setIfInBounds_toArray, List.set_cons_zero, List.set_cons_succ]
  refine wpAnyH_take (i := 28) (oi := _) (v := ?va29) rfl (by kernel_rfl) (by kernel_rfl) (by kernel_rfl) (fun _ _ _ h => h) (Or.inl ⟨by kernel_rfl, ?hya29⟩) hHeld ?resta29
  case hya29 => (intro w hSw; go_simp; first | done | (with_reducible rfl))
  try simp only [Act.put, List.getElem_toArray, List.getElem_cons_succ, List.getElem_cons_zero, List.setIfInBounds_toArray, List.set_cons_zero, List.set_cons_succ]
  refine wpAnyH_take (i := 29) (oi := _) (v := ?va30) rfl (by kernel_rfl) (by kernel_rfl) (by kernel_rfl) (fun _ _ _ h => h) (Or.inl ⟨by kernel_rfl, ?hya30⟩) hHeld ?resta30
  case hya30 => (intro w hSw; have kc00 := keepC hSw c00; have kc01 := keepC hSw c01; have kc10 := keepC hSw c10; have kc11 := keepC hSw c11; have kc20 := keepC hSw c20; have kc21 := keepC hSw c21; have kc40 := keepC hSw c40; have kc41 := keepC hSw c41; go_simp; first | done | (with_reducible rfl))
  try simp only [Act.put, List.getElem_toArray, List.getElem_cons_succ, List.getElem_cons_zero, List.setIfInBounds_toArray, List.set_cons_zero, List.set_cons_succ]
  refine wpAnyH_take (i := 30) (oi := _) (v := ?va31) rfl (by kernel_rfl) (by kernel_rfl) (by kernel_rfl) (fun _ _ _ h => h) (Or.inl ⟨by kernel_rfl, ?hya31⟩) hHeld ?resta31
  case hya31 => (intro w hSw; go_simp; first | done | (with_reducible rfl))
  try simp only [Act.put, List.getElem_toArray, List.getElem_cons_succ, List.getElem_cons_zero, List.setIfInBounds_toArray, List.set_cons_zero, List.set_cons_succ]
  refine wpAnyH_take (i := 31) (oi := _) (v := ?va32) rfl (by kernel_rfl) (by kernel_rfl) (by kernel_rfl) (fun _ _ _ h => h) (Or.inl ⟨by kernel_rfl, ?hya32⟩) hHeld ?resta32
  case hya32 => (intro w hSw; go_simp; first | done | (with_reducible rfl))
  try simp only [Act.put, List.getElem_toArray, List.getElem_cons_succ, List.getElem_cons_zero, List.setIfInBounds_toArray, List.set_cons_zero, List.set_cons_succ]
  refine wpAnyH_take (i := 32) (oi := _) (v := ?va33) rfl (by kernel_rfl) (by kernel_rfl) (by kernel_rfl) (fun _ _ _ h => h) (Or.inl ⟨by kernel_rfl, ?hya33⟩) hHeld ?resta33
  case hya33 => (intro w hSw; go_simp; first | done | (with_reducible rfl))
  try simp only [Act.put, List.getElem_toArray, List.getElem_cons_succ, List.getElem_cons_zero, List.setIfInBounds_toArray, List.set_cons_zero, List.set_cons_succ]
  refine wpAnyH_take (i := 33) (oi := _) (v := ?va34) rfl (by kernel_rfl) (by kernel_rfl) (by kernel_rfl) (fun _ _ _ h => h) (Or.inl ⟨by kernel_rfl, ?hya34⟩) hHeld ?resta34
  case hya34 => (intro w hSw; go_simp; first | done | (with_reducible rfl))
  try simp only [Act.put, List.getElem_toArray, List.getElem_cons_succ, List.getElem_cons_zero, List.setIfInBounds_toArray, List.set_cons_zero, List.set_cons_succ]
  refine wpAnyH_take (i := 34) (oi := _) (v := ?va35) rfl (by kernel_rfl) (by kernel_rfl) (by kernel_rfl) (fun _ _ _ h => h) (Or.inl ⟨by kernel_rfl, ?hya35⟩) hHeld ?resta35
  case hya35 => (intro w hSw; go_simp; first | done | (with_reducible rfl))
  try simp only [Act.put, List.getElem_toArray, List.getElem_cons_succ, List.getElem_cons_zero, List.setIfInBounds_toArray, List.set_cons_zero, List.set_cons_succ]
  refine wpAnyH_take (i := 35) (oi := _) (v := ?va36) rfl (by kernel_rfl) (by kernel_rfl) (by kernel_rfl) (fun _ _ _ h => h) (Or.inl ⟨by kernel_rfl, ?hya36⟩) hHeld ?resta36
  case hya36 => (intro w hSw; go_simp; first | done | (with_reducible rfl))
  try simp only [Act.put, List.getElem_toArray, List.getElem_cons_succ, List.getElem_cons_zero, List.setIfInBounds_toArray, List.set_cons_zero, List.set_cons_succ]
  refine wpAnyH_take (i := 36) (oi := _) (v := ?va37) rfl (by kernel_rfl) (by kernel_rfl) (by kernel_rfl) (fun _ _ _ h => h) (Or.inl ⟨by kernel_rfl, ?hya37⟩) hHeld ?resta37
  case hya37 => (intro w hSw; go_simp; first | done | (with_reducible rfl))
  try simp only [Act.put, List.getElem_toArray, List.getElem_cons_succ, List.getElem_cons_zero, List.setIfInBounds_toArray, List.set_cons_zero, List.set_cons_succ]
  refine wpAnyH_take (i := 37) (oi := _) (v := ?va38) rfl (by kernel_rfl) (by kernel_rfl) (by kernel_rfl) (fun _ _ _ h => h) (Or.inl ⟨by kernel_rfl, ?hya38⟩) hHeld ?resta38
  case hya38 => (intro w hSw; go_simp; first | done | (with_reducible rfl))
  try simp only [Act.put, List.getElem_toArray, List.getElem_cons_succ, List.getElem_cons_zero, List.setIfInBounds_toArray, List.set_cons_zero, List.set_cons_succ]
  refine wpAnyH_take (i := 38) (oi := _) (v := ?va39) rfl (by kernel_rfl) (by kernel_rfl) (by kernel_rfl) (fun _ _ _ h => h) (Or.inl ⟨by kernel_rfl, ?hya39⟩) hHeld ?resta39
  case hya39 => (intro w hSw; go_simp; first | done | (with_reducible rfl))
  try simp only [Act.put, List.getElem_toArray, List.getElem_cons_succ, List.getElem_cons_zero, List.setIfInBounds_toArray, List.set_cons_zero, List.set_cons_succ]
  refine wpAnyH_take (i := 39) (oi := _) (v := ?va40) rfl (by kernel_rfl) (by kernel_rfl) (by kernel_rfl) (fun _ _ _ h => h) (Or.inl ⟨by kernel_rfl, ?hya40⟩) hHeld ?resta40
  case hya40 => (intro w hSw; go_simp; first | done | (with_reducible rfl))
  try simp only [Act.put, List.getElem_toArray, List.getElem_cons_succ, List.getElem_cons_zero, List.setIfInBounds_toArray, List.set_cons_zero, List.set_cons_succ]
  refine wpAnyH_take (i := 40) (oi := _) (v := ?va41) rfl (by kernel_rfl) (by kernel_rfl) (by kernel_rfl) (fun _ _ _ h => h) (Or.inl ⟨by kernel_rfl, ?hya41⟩) hHeld ?resta41
  case hya41 => (intro w hSw; go_simp; first | done | (with_reducible rfl))
  try simp only [Act.put, List.getElem_toArray, List.getElem_cons_succ, List.getElem_cons_zero, List.setIfInBounds_toArray, List.set_cons_zero, List.set_cons_succ]
  refine wpAnyH_take (i := 41) (oi := _) (v := ?va42) rfl (by kernel_rfl) (by kernel_rfl) (by kernel_rfl) (fun _ _ _ h => h) (Or.inl ⟨by kernel_rfl, ?hya42⟩) hHeld ?resta42
  case hya42 => (intro w hSw; go_simp; first | done | (with_reducible rfl))
  try simp only [Act.put, List.getElem_toArray, List.getElem_cons_succ, List.getElem_cons_zero, List.setIfInBounds_toArray, List.set_cons_zero, List.set_cons_succ]
  refine wpAnyH_take (i := 42) (oi := _) (v := ?va43) rfl (by kernel_rfl) (by kernel_rfl) (by kernel_rfl) (fun _ _ _ h => h) (Or.inl ⟨by kernel_rfl, ?hya43⟩) hHeld ?resta43
  case hya43 => (intro w hSw; have kc00 := keepC hSw c00; have kc01 := keepC hSw c01; have kc10 := keepC hSw c10; have kc11 := keepC hSw c11; have kc20 := keepC hSw c20; have kc21 := keepC hSw c21; have kc40 := keepC hSw c40; have kc41 := keepC hSw c41; go_simp; first | done | (with_reducible rfl))
  try simp only [Act.put, List.getElem_toArray, List.getElem_cons_succ, List.getElem_cons_zero, List.setIfInBounds_toArray, List.set_cons_zero, List.set_cons_succ]
  refine wpAnyH_ready (rs := [43]) (by kernel_rfl) (by simp) (AllReadyH.cons (o := _) rfl (fun K hK => ?_) AllReadyH.nil)
  go_simp
  refine (of2_any _ _).mono ?_
  rintro e wa44 ⟨rfl, hb3⟩
  go_wp2_with fail
  refine hK.out _ _ (keepB hHeld hb3) (fun hNew => ?_)
  clear hb3
  clear hHeld hK K
  have hHeld := hNew
  clear hNew
  try simp only [Act.put, List.getElem_toArray, List.getElem_cons_succ, List.getElem_cons_zero, List.setIfInBounds_toArray, List.set_cons_zero, List.set_cons_succ]
  refine wpAnyH_take (i := 44) (oi := _) (v := ?va45) rfl (by kernel_rfl) (by kernel_rfl) (by kernel_rfl) (fun _ _ _ h => h) (Or.inl ⟨by kernel_rfl, ?hya45⟩) hHeld ?resta45
  case hya45 => (intro w hSw; go_simp; first | done | (with_reducible rfl))
  try simp only [Act.put, List.getElem_toArray, List.getElem_cons_succ, List.getElem_cons_zero, List.setIfInBounds_toArray, List.set_cons_zero, List.set_cons_succ]
  refine wpAnyH_take (i := 45) (oi := _) (v := ?va46) rfl (by kernel_rfl) (by kernel_rfl) (by kernel_rfl) (fun _ _ _ h => h) (Or.inl ⟨by kernel_rfl, ?hya46⟩) hHeld ?resta46
  case hya46 => (intro w hSw; go_simp; first | done | (with_reducible rfl))
  try simp only [Act.put, List.getElem_toArray, List.getElem_cons_succ, List.getElem_cons_zero, List.setIfInBounds_toArray, List.set_cons_zero, List.set_cons_succ]
  refine wpAnyH_take (i := 46) (oi := _) (v := ?va47) rfl (by kernel_rfl) (by kernel_rfl) (by kernel_rfl) (fun _ _ _ h => h) (Or.inl ⟨by kernel_rfl, ?hya47⟩) hHeld ?resta47
  case hya47 => (intro w hSw; go_simp; first | done | (with_reducible rfl))
  try simp only [Act.put, List.getElem_toArray, List.getElem_cons_succ, List.getElem_cons_zero, List.setIfInBounds_toArray, List.set_cons_zero, List.set_cons_succ]
  refine wpAnyH_done (by kernel_rfl) ?_ _
  refine NoPanic.normal ?_
  go_wp2_with fail
  go_ret
  exact ⟨rfl, keepB hbb hHeld⟩
end Go.Proofs.Ytomokdepndclpaa

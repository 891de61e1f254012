/- Package choose: states that are not valid. -/
import Derived.Test.YtnnpmegknlgkoaaChq
namespace Go.Proofs.Ytnnpmegknlgkoaa
open Go.RowKit
set_option linter.unusedSimpArgs false in
set_option maxHeartbeats 8000000 in
set_option maxRecDepth 100000 in
theorem qEqual_ne (A B : Option Addr) (n m ca cb : Nat) (w : World) (h : n ≠ m) :
    Calls Try.prog 74 #[.slice A n ca, .slice B m cb] w fun e w' => e = .returned (.bool false) ∧ Below w.heap.size w w' := by
  have e1 : (((n : Nat) : Int) != ((m : Nat) : Int)) = true := by rw [bne_iff_ne]; omega
  have e2 : ¬ ((n : Nat) : Int) = ((m : Nat) : Int) := by omega
  clear h
  go_enter Try.func74, Try.ntmps74
  go_wp2_with fail
  go_ret
  exact ⟨by first | rfl | simp, Below.refl _ _⟩
set_option linter.unusedSimpArgs false in
set_option maxHeartbeats 8000000 in
set_option maxRecDepth 100000 in
theorem check_reach (A : Option Addr) (m ca : Nat) (Q : Option Addr) (n cq : Nat) (K x y : Int) (b : Bool) (E : Int) (w : World) (hE : E ≠ 0) (hCh : ∀ v, Below w.heap.size w v → Calls Try.prog 65 #[.agg #[.slice A m ca, .slice Q n cq]] v fun e v' => e = .returned (.int .i64 0) ∧ Below v.heap.size v v')
    (hR : ∀ v, Below w.heap.size w v → Calls Try.prog 71 #[.slice A m ca, .int .i64 K, .int .i64 0] v fun e v' => e = .returned (.tuple #[.agg #[.slice none 0 0, .slice none 0 0, .int .i64 0, .int .i64 0, .int .i64 0, .int .i64 0, .bool false], .int .i64 E]) ∧ Below v.heap.size v v') :
    Calls Try.prog 34 #[.agg #[.slice A m ca, .slice Q n cq, .int .i64 K, .int .i64 0, .int .i64 x, .int .i64 y, .bool b]] w fun e w' => e = .returned (.int .i64 E) ∧ Below w.heap.size w w' := by
  have n0 : (E != 0) = true := by rw [bne_iff_ne]; exact hE
  have CH := Lib.hid hCh
  have REA := Lib.hid hR
  clear hCh hR hE
  go_enter Try.func34, Try.ntmps34
  go_upto_region 1 with fail
  refine at_worldQ (fun v => Below w.heap.size w v ∧ BK v (w.heap.size) [.slice A m ca, .slice Q n cq, .int .i64 K, .int .i64 0, .int .i64 x, .int .i64 y, .bool b] ∧ v.heap.size = w.heap.size + 1) ⟨(below_al (Below.refl _ _) _), (by have b := (BK.new w [.slice A m ca, .slice Q n cq, .int .i64 K, .int .i64 0, .int .i64 x, .int .i64 y, .bool b] 62); simpa only [World.size_alloc] using b), by simp only [World.size_alloc]⟩ (fun V hS => ?_)
  obtain ⟨hbb, B0, hVs⟩ := hS
  have p0 := B0.c 0 rfl
  have p1 := B0.c 1 rfl
  have p2 := B0.c 2 rfl
  have p3 := B0.c 3 rfl
  have p4 := B0.c 4 rfl
  have p5 := B0.c 5 rfl
  have p6 := B0.c 6 rfl
  clear hVs
  go_wp2_with fail
  refine (CH.out _ hbb).mono ?_
  rintro e w1 ⟨rfl, hb⟩
  clear p0 p1 p2 p3 p4 p5 p6
  replace hbb := keepB hbb hb
  replace B0 := B0.keep hb
  clear hb
  have p0 := B0.c 0 rfl
  have p1 := B0.c 1 rfl
  have p2 := B0.c 2 rfl
  have p3 := B0.c 3 rfl
  have p4 := B0.c 4 rfl
  have p5 := B0.c 5 rfl
  have p6 := B0.c 6 rfl
  go_wp2_with fail
  refine (REA.out _ hbb).mono ?_
  rintro e w2 ⟨rfl, hb⟩
  clear p0 p1 p2 p3 p4 p5 p6
  replace hbb := keepB hbb hb
  clear hb B0
  go_wp2_with fail
  go_ret
  exact ⟨rfl, below_al hbb _⟩
set_option linter.unusedSimpArgs false in
set_option maxHeartbeats 8000000 in
set_option maxRecDepth 100000 in
theorem check_step3 (A : Option Addr) (m ca : Nat) (Q : Option Addr) (n cq : Nat) (K x y : Int) (b b1 : Bool) (D : List CkD) (L : List Qr) (x1 y1 : Int) (w : World) (hCh : ∀ v, Below w.heap.size w v → Calls Try.prog 65 #[.agg #[.slice A m ca, .slice Q n cq]] v fun e v' => e = .returned (.int .i64 0) ∧ Below v.heap.size v v')
    (hR : ∀ v, Below w.heap.size w v → Calls Try.prog 71 #[.slice A m ca, .int .i64 K, .int .i64 2] v (StR D L K 2 x1 y1 b1 v)) :
    Calls Try.prog 34 #[.agg #[.slice A m ca, .slice Q n cq, .int .i64 K, .int .i64 3, .int .i64 x, .int .i64 y, .bool b]] w fun e w' => e = .returned (.int .i64 8) ∧ Below w.heap.size w w' := by
  unfold StR at hR
  have e0 : ((0 : Int) != 0) = false := rfl
  have CH := Lib.hid hCh
  have REA := Lib.hid hR
  clear hCh hR
  go_enter Try.func34, Try.ntmps34
  go_upto_region 1 with fail
  refine at_worldQ (fun v => Below w.heap.size w v ∧ BK v (w.heap.size) [.slice A m ca, .slice Q n cq, .int .i64 K, .int .i64 3, .int .i64 x, .int .i64 y, .bool b] ∧ v.heap.size = w.heap.size + 1) ⟨(below_al (Below.refl _ _) _), (by have b := (BK.new w [.slice A m ca, .slice Q n cq, .int .i64 K, .int .i64 3, .int .i64 x, .int .i64 y, .bool b] 62); simpa only [World.size_alloc] using b), by simp only [World.size_alloc]⟩ (fun V hS => ?_)
  obtain ⟨hbb, B0, hVs⟩ := hS
  have p0 := B0.c 0 rfl
  have p1 := B0.c 1 rfl
  have p2 := B0.c 2 rfl
  have p3 := B0.c 3 rfl
  have p4 := B0.c 4 rfl
  have p5 := B0.c 5 rfl
  have p6 := B0.c 6 rfl
  clear hVs
  go_wp2_with fail
  refine (CH.out _ hbb).mono ?_
  rintro e w1 ⟨rfl, hb⟩
  clear p0 p1 p2 p3 p4 p5 p6
  replace hbb := keepB hbb hb
  replace B0 := B0.keep hb
  clear hb
  have p0 := B0.c 0 rfl
  have p1 := B0.c 1 rfl
  have p2 := B0.c 2 rfl
  have p3 := B0.c 3 rfl
  have p4 := B0.c 4 rfl
  have p5 := B0.c 5 rfl
  have p6 := B0.c 6 rfl
  go_wp2_with fail
  refine (REA.out _ hbb).mono ?_
  rintro e w2 ⟨A1, m1, ca1, Q1, n1, cq1, l1, rfl, hb, hm1, hn1, hd1, hfd⟩
  have HN1 := Lib.hid hn1
  clear p0 p1 p2 p3 p4 p5 p6 hm1 hn1 hd1 hfd
  replace hbb := keepB hbb hb
  replace B0 := B0.keep hb
  clear hb
  go_upto_region 7 with fail
  refine at_worldQ (fun v => Below w.heap.size w v ∧ BK v w.heap.size [.slice A m ca, .slice Q n cq, .int .i64 K, .int .i64 3, .int .i64 x, .int .i64 y, .bool b] ∧ BK v w2.heap.size [.slice A1 m1 ca1, .slice Q1 n1 cq1, .int .i64 K, .int .i64 2, .int .i64 x1, .int .i64 y1, .bool b1]) ⟨below_al hbb _, B0.al _, BK.new _ _ _⟩ (fun V7 hS => ?_)
  clear hbb B0
  obtain ⟨hbb, B0, B4⟩ := hS
  have p0 := B0.c 0 rfl
  have p1 := B0.c 1 rfl
  have p2 := B0.c 2 rfl
  have p3 := B0.c 3 rfl
  have p4 := B0.c 4 rfl
  have p5 := B0.c 5 rfl
  have p6 := B0.c 6 rfl
  have r0 := B4.c 0 rfl
  have r1 := B4.c 1 rfl
  have r2 := B4.c 2 rfl
  have r3 := B4.c 3 rfl
  have r4 := B4.c 4 rfl
  have r5 := B4.c 5 rfl
  have r6 := B4.c 6 rfl
  clear e0
  go_wp2_with fail
  go_ret
  exact ⟨rfl, hbb⟩
set_option linter.unusedSimpArgs false in
set_option maxHeartbeats 8000000 in
set_option maxRecDepth 100000 in
theorem check_left2t (A : Option Addr) (m ca : Nat) (Q : Option Addr) (n cq : Nat) (K x y : Int) (D : List CkD) (L : List Qr) (w : World) (hCh : ∀ v, Below w.heap.size w v → Calls Try.prog 65 #[.agg #[.slice A m ca, .slice Q n cq]] v fun e v' => e = .returned (.int .i64 0) ∧ Below v.heap.size v v')
    (hR : ∀ v, Below w.heap.size w v → Calls Try.prog 71 #[.slice A m ca, .int .i64 K, .int .i64 2] v (StR D L K 2 x y false v)) :
    Calls Try.prog 34 #[.agg #[.slice A m ca, .slice Q n cq, .int .i64 K, .int .i64 2, .int .i64 x, .int .i64 y, .bool true]] w fun e w' => e = .returned (.int .i64 8) ∧ Below w.heap.size w w' := by
  unfold StR at hR
  have e0 : ((0 : Int) != 0) = false := rfl
  have CH := Lib.hid hCh
  have REA := Lib.hid hR
  clear hCh hR
  go_enter Try.func34, Try.ntmps34
  go_upto_region 1 with fail
  refine at_worldQ (fun v => Below w.heap.size w v ∧ BK v (w.heap.size) [.slice A m ca, .slice Q n cq, .int .i64 K, .int .i64 2, .int .i64 x, .int .i64 y, .bool true] ∧ v.heap.size = w.heap.size + 1) ⟨(below_al (Below.refl _ _) _), (by have b := (BK.new w [.slice A m ca, .slice Q n cq, .int .i64 K, .int .i64 2, .int .i64 x, .int .i64 y, .bool true] 62); simpa only [World.size_alloc] using b), by simp only [World.size_alloc]⟩ (fun V hS => ?_)
  obtain ⟨hbb, B0, hVs⟩ := hS
  have p0 := B0.c 0 rfl
  have p1 := B0.c 1 rfl
  have p2 := B0.c 2 rfl
  have p3 := B0.c 3 rfl
  have p4 := B0.c 4 rfl
  have p5 := B0.c 5 rfl
  have p6 := B0.c 6 rfl
  clear hVs
  go_wp2_with fail
  refine (CH.out _ hbb).mono ?_
  rintro e w1 ⟨rfl, hb⟩
  clear p0 p1 p2 p3 p4 p5 p6
  replace hbb := keepB hbb hb
  replace B0 := B0.keep hb
  clear hb
  have p0 := B0.c 0 rfl
  have p1 := B0.c 1 rfl
  have p2 := B0.c 2 rfl
  have p3 := B0.c 3 rfl
  have p4 := B0.c 4 rfl
  have p5 := B0.c 5 rfl
  have p6 := B0.c 6 rfl
  go_wp2_with fail
  refine (REA.out _ hbb).mono ?_
  rintro e w2 ⟨A1, m1, ca1, Q1, n1, cq1, l1, rfl, hb, hm1, hn1, hd1, hfd⟩
  have HN1 := Lib.hid hn1
  clear p0 p1 p2 p3 p4 p5 p6 hm1 hn1 hd1 hfd
  replace hbb := keepB hbb hb
  replace B0 := B0.keep hb
  clear hb
  go_upto_region 7 with fail
  refine at_worldQ (fun v => Below w.heap.size w v ∧ BK v w.heap.size [.slice A m ca, .slice Q n cq, .int .i64 K, .int .i64 2, .int .i64 x, .int .i64 y, .bool true] ∧ BK v w2.heap.size [.slice A1 m1 ca1, .slice Q1 n1 cq1, .int .i64 K, .int .i64 2, .int .i64 x, .int .i64 y, .bool false]) ⟨below_al hbb _, B0.al _, BK.new _ _ _⟩ (fun V7 hS => ?_)
  clear hbb B0
  obtain ⟨hbb, B0, B4⟩ := hS
  have p0 := B0.c 0 rfl
  have p1 := B0.c 1 rfl
  have p2 := B0.c 2 rfl
  have p3 := B0.c 3 rfl
  have p4 := B0.c 4 rfl
  have p5 := B0.c 5 rfl
  have p6 := B0.c 6 rfl
  have r0 := B4.c 0 rfl
  have r1 := B4.c 1 rfl
  have r2 := B4.c 2 rfl
  have r3 := B4.c 3 rfl
  have r4 := B4.c 4 rfl
  have r5 := B4.c 5 rfl
  have r6 := B4.c 6 rfl
  clear e0
  go_wp2_with fail
  go_ret
  exact ⟨rfl, hbb⟩
set_option linter.unusedSimpArgs false in
set_option maxHeartbeats 8000000 in
set_option maxRecDepth 100000 in
theorem check_left2f (A : Option Addr) (m ca : Nat) (Q : Option Addr) (n cq : Nat) (K x y : Int) (D : List CkD) (L : List Qr) (w : World) (hCh : ∀ v, Below w.heap.size w v → Calls Try.prog 65 #[.agg #[.slice A m ca, .slice Q n cq]] v fun e v' => e = .returned (.int .i64 0) ∧ Below v.heap.size v v')
    (hR : ∀ v, Below w.heap.size w v → Calls Try.prog 71 #[.slice A m ca, .int .i64 K, .int .i64 2] v (StR D L K 2 x y true v)) :
    Calls Try.prog 34 #[.agg #[.slice A m ca, .slice Q n cq, .int .i64 K, .int .i64 2, .int .i64 x, .int .i64 y, .bool false]] w fun e w' => e = .returned (.int .i64 8) ∧ Below w.heap.size w w' := by
  unfold StR at hR
  have e0 : ((0 : Int) != 0) = false := rfl
  have CH := Lib.hid hCh
  have REA := Lib.hid hR
  clear hCh hR
  go_enter Try.func34, Try.ntmps34
  go_upto_region 1 with fail
  refine at_worldQ (fun v => Below w.heap.size w v ∧ BK v (w.heap.size) [.slice A m ca, .slice Q n cq, .int .i64 K, .int .i64 2, .int .i64 x, .int .i64 y, .bool false] ∧ v.heap.size = w.heap.size + 1) ⟨(below_al (Below.refl _ _) _), (by have b := (BK.new w [.slice A m ca, .slice Q n cq, .int .i64 K, .int .i64 2, .int .i64 x, .int .i64 y, .bool false] 62); simpa only [World.size_alloc] using b), by simp only [World.size_alloc]⟩ (fun V hS => ?_)
  obtain ⟨hbb, B0, hVs⟩ := hS
  have p0 := B0.c 0 rfl
  have p1 := B0.c 1 rfl
  have p2 := B0.c 2 rfl
  have p3 := B0.c 3 rfl
  have p4 := B0.c 4 rfl
  have p5 := B0.c 5 rfl
  have p6 := B0.c 6 rfl
  clear hVs
  go_wp2_with fail
  refine (CH.out _ hbb).mono ?_
  rintro e w1 ⟨rfl, hb⟩
  clear p0 p1 p2 p3 p4 p5 p6
  replace hbb := keepB hbb hb
  replace B0 := B0.keep hb
  clear hb
  have p0 := B0.c 0 rfl
  have p1 := B0.c 1 rfl
  have p2 := B0.c 2 rfl
  have p3 := B0.c 3 rfl
  have p4 := B0.c 4 rfl
  have p5 := B0.c 5 rfl
  have p6 := B0.c 6 rfl
  go_wp2_with fail
  refine (REA.out _ hbb).mono ?_
  rintro e w2 ⟨A1, m1, ca1, Q1, n1, cq1, l1, rfl, hb, hm1, hn1, hd1, hfd⟩
  have HN1 := Lib.hid hn1
  clear p0 p1 p2 p3 p4 p5 p6 hm1 hn1 hd1 hfd
  replace hbb := keepB hbb hb
  replace B0 := B0.keep hb
  clear hb
  go_upto_region 7 with fail
  refine at_worldQ (fun v => Below w.heap.size w v ∧ BK v w.heap.size [.slice A m ca, .slice Q n cq, .int .i64 K, .int .i64 2, .int .i64 x, .int .i64 y, .bool false] ∧ BK v w2.heap.size [.slice A1 m1 ca1, .slice Q1 n1 cq1, .int .i64 K, .int .i64 2, .int .i64 x, .int .i64 y, .bool true]) ⟨below_al hbb _, B0.al _, BK.new _ _ _⟩ (fun V7 hS => ?_)
  clear hbb B0
  obtain ⟨hbb, B0, B4⟩ := hS
  have p0 := B0.c 0 rfl
  have p1 := B0.c 1 rfl
  have p2 := B0.c 2 rfl
  have p3 := B0.c 3 rfl
  have p4 := B0.c 4 rfl
  have p5 := B0.c 5 rfl
  have p6 := B0.c 6 rfl
  have r0 := B4.c 0 rfl
  have r1 := B4.c 1 rfl
  have r2 := B4.c 2 rfl
  have r3 := B4.c 3 rfl
  have r4 := B4.c 4 rfl
  have r5 := B4.c 5 rfl
  have r6 := B4.c 6 rfl
  clear e0
  go_wp2_with fail
  go_ret
  exact ⟨rfl, hbb⟩
set_option linter.unusedSimpArgs false in
set_option maxHeartbeats 8000000 in
set_option maxRecDepth 100000 in
theorem check_log1 (A : Option Addr) (m ca : Nat) (Q : Option Addr) (n cq : Nat) (K x y : Int) (b : Bool) (D : List CkD) (L : List Qr) (hn : n ≠ L.length) (w : World) (hCh : ∀ v, Below w.heap.size w v → Calls Try.prog 65 #[.agg #[.slice A m ca, .slice Q n cq]] v fun e v' => e = .returned (.int .i64 0) ∧ Below v.heap.size v v')
    (hR : ∀ v, Below w.heap.size w v → Calls Try.prog 71 #[.slice A m ca, .int .i64 K, .int .i64 1] v (StR D L K 1 x y b v)) :
    Calls Try.prog 34 #[.agg #[.slice A m ca, .slice Q n cq, .int .i64 K, .int .i64 1, .int .i64 x, .int .i64 y, .bool b]] w fun e w' => e = .returned (.int .i64 8) ∧ Below w.heap.size w w' := by
  unfold StR at hR
  have e0 : ((0 : Int) != 0) = false := rfl
  have CH := Lib.hid hCh
  have REA := Lib.hid hR
  clear hCh hR
  go_enter Try.func34, Try.ntmps34
  go_upto_region 1 with fail
  refine at_worldQ (fun v => Below w.heap.size w v ∧ BK v (w.heap.size) [.slice A m ca, .slice Q n cq, .int .i64 K, .int .i64 1, .int .i64 x, .int .i64 y, .bool b] ∧ v.heap.size = w.heap.size + 1) ⟨(below_al (Below.refl _ _) _), (by have b := (BK.new w [.slice A m ca, .slice Q n cq, .int .i64 K, .int .i64 1, .int .i64 x, .int .i64 y, .bool b] 62); simpa only [World.size_alloc] using b), by simp only [World.size_alloc]⟩ (fun V hS => ?_)
  obtain ⟨hbb, B0, hVs⟩ := hS
  have p0 := B0.c 0 rfl
  have p1 := B0.c 1 rfl
  have p2 := B0.c 2 rfl
  have p3 := B0.c 3 rfl
  have p4 := B0.c 4 rfl
  have p5 := B0.c 5 rfl
  have p6 := B0.c 6 rfl
  clear hVs
  go_wp2_with fail
  refine (CH.out _ hbb).mono ?_
  rintro e w1 ⟨rfl, hb⟩
  clear p0 p1 p2 p3 p4 p5 p6
  replace hbb := keepB hbb hb
  replace B0 := B0.keep hb
  clear hb
  have p0 := B0.c 0 rfl
  have p1 := B0.c 1 rfl
  have p2 := B0.c 2 rfl
  have p3 := B0.c 3 rfl
  have p4 := B0.c 4 rfl
  have p5 := B0.c 5 rfl
  have p6 := B0.c 6 rfl
  go_wp2_with fail
  refine (REA.out _ hbb).mono ?_
  rintro e w2 ⟨A1, m1, ca1, Q1, n1, cq1, l1, rfl, hb, hm1, hn1, hd1, hfd⟩
  have HN1 := Lib.hid hn1
  clear p0 p1 p2 p3 p4 p5 p6 hm1 hn1 hd1 hfd
  replace hbb := keepB hbb hb
  replace B0 := B0.keep hb
  clear hb
  go_upto_region 7 with fail
  refine at_worldQ (fun v => Below w.heap.size w v ∧ BK v w.heap.size [.slice A m ca, .slice Q n cq, .int .i64 K, .int .i64 1, .int .i64 x, .int .i64 y, .bool b] ∧ BK v w2.heap.size [.slice A1 m1 ca1, .slice Q1 n1 cq1, .int .i64 K, .int .i64 1, .int .i64 x, .int .i64 y, .bool b]) ⟨below_al hbb _, B0.al _, BK.new _ _ _⟩ (fun V7 hS => ?_)
  clear hbb B0
  obtain ⟨hbb, B0, B4⟩ := hS
  have p0 := B0.c 0 rfl
  have p1 := B0.c 1 rfl
  have p2 := B0.c 2 rfl
  have p3 := B0.c 3 rfl
  have p4 := B0.c 4 rfl
  have p5 := B0.c 5 rfl
  have p6 := B0.c 6 rfl
  have r0 := B4.c 0 rfl
  have r1 := B4.c 1 rfl
  have r2 := B4.c 2 rfl
  have r3 := B4.c 3 rfl
  have r4 := B4.c 4 rfl
  have r5 := B4.c 5 rfl
  have r6 := B4.c 6 rfl
  clear e0
  have EQ := Lib.hid (fun v (_ : Below V7.heap.size V7 v) => qEqual_ne Q Q1 n n1 cq cq1 v (by rw [HN1.out]; exact hn))
  clear hn
  go_wp2_with fail
  refine (EQ.out _ (Below.refl _ _)).mono ?_
  rintro e w3 ⟨rfl, hb⟩
  go_wp2_with fail
  go_ret
  exact ⟨rfl, keepB hbb hb⟩
set_option linter.unusedSimpArgs false in
set_option maxHeartbeats 8000000 in
set_option maxRecDepth 100000 in
theorem check_log2 (A : Option Addr) (m ca : Nat) (Q : Option Addr) (n cq : Nat) (K x y : Int) (b : Bool) (D : List CkD) (L : List Qr) (hn : n ≠ L.length) (w : World) (hCh : ∀ v, Below w.heap.size w v → Calls Try.prog 65 #[.agg #[.slice A m ca, .slice Q n cq]] v fun e v' => e = .returned (.int .i64 0) ∧ Below v.heap.size v v')
    (hR : ∀ v, Below w.heap.size w v → Calls Try.prog 71 #[.slice A m ca, .int .i64 K, .int .i64 2] v (StR D L K 2 x y b v)) :
    Calls Try.prog 34 #[.agg #[.slice A m ca, .slice Q n cq, .int .i64 K, .int .i64 2, .int .i64 x, .int .i64 y, .bool b]] w fun e w' => e = .returned (.int .i64 8) ∧ Below w.heap.size w w' := by
  unfold StR at hR
  have e0 : ((0 : Int) != 0) = false := rfl
  have CH := Lib.hid hCh
  have REA := Lib.hid hR
  clear hCh hR
  go_enter Try.func34, Try.ntmps34
  go_upto_region 1 with fail
  refine at_worldQ (fun v => Below w.heap.size w v ∧ BK v (w.heap.size) [.slice A m ca, .slice Q n cq, .int .i64 K, .int .i64 2, .int .i64 x, .int .i64 y, .bool b] ∧ v.heap.size = w.heap.size + 1) ⟨(below_al (Below.refl _ _) _), (by have b := (BK.new w [.slice A m ca, .slice Q n cq, .int .i64 K, .int .i64 2, .int .i64 x, .int .i64 y, .bool b] 62); simpa only [World.size_alloc] using b), by simp only [World.size_alloc]⟩ (fun V hS => ?_)
  obtain ⟨hbb, B0, hVs⟩ := hS
  have p0 := B0.c 0 rfl
  have p1 := B0.c 1 rfl
  have p2 := B0.c 2 rfl
  have p3 := B0.c 3 rfl
  have p4 := B0.c 4 rfl
  have p5 := B0.c 5 rfl
  have p6 := B0.c 6 rfl
  clear hVs
  go_wp2_with fail
  refine (CH.out _ hbb).mono ?_
  rintro e w1 ⟨rfl, hb⟩
  clear p0 p1 p2 p3 p4 p5 p6
  replace hbb := keepB hbb hb
  replace B0 := B0.keep hb
  clear hb
  have p0 := B0.c 0 rfl
  have p1 := B0.c 1 rfl
  have p2 := B0.c 2 rfl
  have p3 := B0.c 3 rfl
  have p4 := B0.c 4 rfl
  have p5 := B0.c 5 rfl
  have p6 := B0.c 6 rfl
  go_wp2_with fail
  refine (REA.out _ hbb).mono ?_
  rintro e w2 ⟨A1, m1, ca1, Q1, n1, cq1, l1, rfl, hb, hm1, hn1, hd1, hfd⟩
  have HN1 := Lib.hid hn1
  clear p0 p1 p2 p3 p4 p5 p6 hm1 hn1 hd1 hfd
  replace hbb := keepB hbb hb
  replace B0 := B0.keep hb
  clear hb
  go_upto_region 7 with fail
  refine at_worldQ (fun v => Below w.heap.size w v ∧ BK v w.heap.size [.slice A m ca, .slice Q n cq, .int .i64 K, .int .i64 2, .int .i64 x, .int .i64 y, .bool b] ∧ BK v w2.heap.size [.slice A1 m1 ca1, .slice Q1 n1 cq1, .int .i64 K, .int .i64 2, .int .i64 x, .int .i64 y, .bool b]) ⟨below_al hbb _, B0.al _, BK.new _ _ _⟩ (fun V7 hS => ?_)
  clear hbb B0
  obtain ⟨hbb, B0, B4⟩ := hS
  have p0 := B0.c 0 rfl
  have p1 := B0.c 1 rfl
  have p2 := B0.c 2 rfl
  have p3 := B0.c 3 rfl
  have p4 := B0.c 4 rfl
  have p5 := B0.c 5 rfl
  have p6 := B0.c 6 rfl
  have r0 := B4.c 0 rfl
  have r1 := B4.c 1 rfl
  have r2 := B4.c 2 rfl
  have r3 := B4.c 3 rfl
  have r4 := B4.c 4 rfl
  have r5 := B4.c 5 rfl
  have r6 := B4.c 6 rfl
  clear e0
  have EQ := Lib.hid (fun v (_ : Below V7.heap.size V7 v) => qEqual_ne Q Q1 n n1 cq cq1 v (by rw [HN1.out]; exact hn))
  clear hn
  go_wp2_with fail
  refine (EQ.out _ (Below.refl _ _)).mono ?_
  rintro e w3 ⟨rfl, hb⟩
  go_wp2_with fail
  go_ret
  exact ⟨rfl, keepB hbb hb⟩
end Go.Proofs.Ytnnpmegknlgkoaa

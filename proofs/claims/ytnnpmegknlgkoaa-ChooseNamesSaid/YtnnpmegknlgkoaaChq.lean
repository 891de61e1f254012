/- Package choose: what is refused. -/
import Derived.Test.YtnnpmegknlgkoaaChl
namespace Go.Proofs.Ytnnpmegknlgkoaa
open Go.RowKit
set_option linter.unusedSimpArgs false in
set_option maxHeartbeats 8000000 in
set_option maxRecDepth 100000 in
theorem reached_open (A : Option Addr) (ca : Nat) (cs : List CkR) (K s : Int) (w : World) (h : IsCs w A cs) (hE : Ak.chkS (cs.map Ak.dat) 0 ≠ 0) :
    Calls Try.prog 71 #[.slice A cs.length ca, .int .i64 K, .int .i64 s] w fun e w' => e = .returned (.tuple #[.agg #[.slice none 0 0, .slice none 0 0, .int .i64 0, .int .i64 0, .int .i64 0, .int .i64 0, .bool false], .int .i64 (Ak.chkS (cs.map Ak.dat) 0)]) ∧ Below w.heap.size w w' := by
  have op := fun v (hv : Below w.heap.size w v) => askOpen_any A ca cs v (h.keep hv)
  unfold OpenQ at op
  generalize Ak.chkS (cs.map Ak.dat) 0 = E at *
  have n0 : (E != 0) = true := by rw [bne_iff_ne]; exact hE
  have OP := Lib.hid op
  have HE := Lib.hid hE
  clear op h hE
  go_enter Try.func71, Try.ntmps71
  go_upto_region 1 with fail
  refine at_worldQ (fun v => Below w.heap.size w v ∧ BK v (w.heap.size) [.slice none 0 0, .slice none 0 0, .int .i64 0, .int .i64 0, .int .i64 0, .int .i64 0, .bool false] ∧ v.heap.size = w.heap.size + 1) ⟨(below_al (Below.refl _ _) _), (by have b := (BK.new w [.slice none 0 0, .slice none 0 0, .int .i64 0, .int .i64 0, .int .i64 0, .int .i64 0, .bool false] 62); simpa only [World.size_alloc] using b), by simp only [World.size_alloc]⟩ (fun V hS => ?_)
  obtain ⟨hbb, B0, hVs⟩ := hS
  go_wp2_with fail
  refine (OP.out _ hbb).mono ?_
  rintro e w1 ⟨hb, ⟨_, rfl⟩ | ⟨h0, _⟩⟩
  case inr => exact absurd h0 HE.out
  replace hbb := keepB hbb hb
  replace B0 := B0.keep hb
  clear hb
  go_upto_region 2 with fail
  refine at_worldQ (fun v => Below w.heap.size w v ∧ BK v w.heap.size [.slice none 0 0, .slice none 0 0, .int .i64 0, .int .i64 0, .int .i64 0, .int .i64 0, .bool false]) ⟨below_al hbb _, B0.al _⟩ (fun V2 hS => ?_)
  clear hbb B0
  obtain ⟨hbb, B0⟩ := hS
  have hlt := B0.lt
  have ya0 := B0.c 0 rfl
  have ya1 := B0.c 1 rfl
  have ya2 := B0.c 2 rfl
  have ya3 := B0.c 3 rfl
  have ya4 := B0.c 4 rfl
  have ya5 := B0.c 5 rfl
  have ya6 := B0.c 6 rfl
  have yb0 := B0.f 0 rfl
  have yb1 := B0.f 1 rfl
  have yb2 := B0.f 2 rfl
  have yb3 := B0.f 3 rfl
  have yb4 := B0.f 4 rfl
  have yb5 := B0.f 5 rfl
  have yb6 := B0.f 6 rfl
  go_wp2_with fail
  exact bodyPost_ret (v := .tuple #[.agg #[.slice none 0 0, .slice none 0 0, .int .i64 0, .int .i64 0, .int .i64 0, .int .i64 0, .bool false], .int .i64 E]) (by simp [results, Try.results71, go_sem, ya0, ya1, ya2, ya3, ya4, ya5, ya6]) rfl ⟨rfl, (below_set (below_set (below_set (below_set (below_set (below_set (below_set hbb (by omega) _) (by omega) _) (by omega) _) (by omega) _) (by omega) _) (by omega) _) (by omega) _)⟩
set_option linter.unusedSimpArgs false in
set_option maxHeartbeats 8000000 in
set_option maxRecDepth 100000 in
theorem reached_arg (A : Option Addr) (ca : Nat) (cs : List CkR) (K s : Int) (w : World) (h : IsCs w A cs) (hE : Ak.chkS (cs.map Ak.dat) 0 = 0) (hb : ¬ (cs.length = 2 ∧ (K = 0 ∨ K = 1))) :
    Calls Try.prog 71 #[.slice A cs.length ca, .int .i64 K, .int .i64 s] w fun e w' => e = .returned (.tuple #[.agg #[.slice none 0 0, .slice none 0 0, .int .i64 0, .int .i64 0, .int .i64 0, .int .i64 0, .bool false], .int .i64 2]) ∧ Below w.heap.size w w' := by
  have op := fun v (hv : Below w.heap.size w v) => askOpen_any A ca cs v (h.keep hv)
  unfold OpenQ at op
  have e0 : ((0 : Int) != 0) = false := rfl
  have OP := Lib.hid op
  have HE := Lib.hid hE
  clear op h hE
  by_cases hl : cs.length = 2
  case neg =>
    have e2 : (((cs.length : Nat) : Int) != 2) = true := by rw [bne_iff_ne]; omega
    clear hl hb
    go_enter Try.func71, Try.ntmps71
    go_upto_region 1 with fail
    refine at_worldQ (fun v => Below w.heap.size w v ∧ BK v (w.heap.size) [.slice none 0 0, .slice none 0 0, .int .i64 0, .int .i64 0, .int .i64 0, .int .i64 0, .bool false] ∧ v.heap.size = w.heap.size + 1) ⟨(below_al (Below.refl _ _) _), (by have b := (BK.new w [.slice none 0 0, .slice none 0 0, .int .i64 0, .int .i64 0, .int .i64 0, .int .i64 0, .bool false] 62); simpa only [World.size_alloc] using b), by simp only [World.size_alloc]⟩ (fun V hS => ?_)
    obtain ⟨hbb, B0, hVs⟩ := hS
    go_wp2_with fail
    refine (OP.out _ hbb).mono ?_
    rintro e w1 ⟨hb, ⟨hn, _⟩ | ⟨_, A1, ca1, l1, Q1, cq1, rfl, hd1, hfd⟩⟩
    · exact absurd HE.out hn
    clear hd1 hfd
    replace hbb := keepB hbb hb
    replace B0 := B0.keep hb
    clear hb
    go_upto_region 2 with fail
    refine at_worldQ (fun v => Below w.heap.size w v ∧ BK v w.heap.size [.slice none 0 0, .slice none 0 0, .int .i64 0, .int .i64 0, .int .i64 0, .int .i64 0, .bool false]) ⟨below_al hbb _, B0.al _⟩ (fun V2 hS => ?_)
    clear hbb B0
    obtain ⟨hbb, B0⟩ := hS
    have hlt := B0.lt
    have ya0 := B0.c 0 rfl
    have ya1 := B0.c 1 rfl
    have ya2 := B0.c 2 rfl
    have ya3 := B0.c 3 rfl
    have ya4 := B0.c 4 rfl
    have ya5 := B0.c 5 rfl
    have ya6 := B0.c 6 rfl
    have yb0 := B0.f 0 rfl
    have yb1 := B0.f 1 rfl
    have yb2 := B0.f 2 rfl
    have yb3 := B0.f 3 rfl
    have yb4 := B0.f 4 rfl
    have yb5 := B0.f 5 rfl
    have yb6 := B0.f 6 rfl
    go_wp2_with fail
    exact bodyPost_ret (v := .tuple #[.agg #[.slice none 0 0, .slice none 0 0, .int .i64 0, .int .i64 0, .int .i64 0, .int .i64 0, .bool false], .int .i64 2]) (by simp [results, Try.results71, go_sem, ya0, ya1, ya2, ya3, ya4, ya5, ya6]) rfl ⟨rfl, (below_set (below_set (below_set (below_set (below_set (below_set (below_set hbb (by omega) _) (by omega) _) (by omega) _) (by omega) _) (by omega) _) (by omega) _) (by omega) _)⟩
  have e2 : (((cs.length : Nat) : Int) != 2) = false := by rw [hl]; rfl
  have k0 : (K != 0) = true := by rw [bne_iff_ne]; omega
  have k1 : (K != 1) = true := by rw [bne_iff_ne]; omega
  clear hl hb
  go_enter Try.func71, Try.ntmps71
  go_upto_region 1 with fail
  refine at_worldQ (fun v => Below w.heap.size w v ∧ BK v (w.heap.size) [.slice none 0 0, .slice none 0 0, .int .i64 0, .int .i64 0, .int .i64 0, .int .i64 0, .bool false] ∧ v.heap.size = w.heap.size + 1) ⟨(below_al (Below.refl _ _) _), (by have b := (BK.new w [.slice none 0 0, .slice none 0 0, .int .i64 0, .int .i64 0, .int .i64 0, .int .i64 0, .bool false] 62); simpa only [World.size_alloc] using b), by simp only [World.size_alloc]⟩ (fun V hS => ?_)
  obtain ⟨hbb, B0, hVs⟩ := hS
  go_wp2_with fail
  refine (OP.out _ hbb).mono ?_
  rintro e w1 ⟨hb, ⟨hn, _⟩ | ⟨_, A1, ca1, l1, Q1, cq1, rfl, hd1, hfd⟩⟩
  · exact absurd HE.out hn
  clear hd1 hfd
  replace hbb := keepB hbb hb
  replace B0 := B0.keep hb
  clear hb
  go_upto_region 2 with fail
  refine at_worldQ (fun v => Below w.heap.size w v ∧ BK v w.heap.size [.slice none 0 0, .slice none 0 0, .int .i64 0, .int .i64 0, .int .i64 0, .int .i64 0, .bool false]) ⟨below_al hbb _, B0.al _⟩ (fun V2 hS => ?_)
  clear hbb B0
  obtain ⟨hbb, B0⟩ := hS
  have hlt := B0.lt
  have ya0 := B0.c 0 rfl
  have ya1 := B0.c 1 rfl
  have ya2 := B0.c 2 rfl
  have ya3 := B0.c 3 rfl
  have ya4 := B0.c 4 rfl
  have ya5 := B0.c 5 rfl
  have ya6 := B0.c 6 rfl
  have yb0 := B0.f 0 rfl
  have yb1 := B0.f 1 rfl
  have yb2 := B0.f 2 rfl
  have yb3 := B0.f 3 rfl
  have yb4 := B0.f 4 rfl
  have yb5 := B0.f 5 rfl
  have yb6 := B0.f 6 rfl
  go_wp2_with fail
  exact bodyPost_ret (v := .tuple #[.agg #[.slice none 0 0, .slice none 0 0, .int .i64 0, .int .i64 0, .int .i64 0, .int .i64 0, .bool false], .int .i64 2]) (by simp [results, Try.results71, go_sem, ya0, ya1, ya2, ya3, ya4, ya5, ya6]) rfl ⟨rfl, (below_set (below_set (below_set (below_set (below_set (below_set (below_set hbb (by omega) _) (by omega) _) (by omega) _) (by omega) _) (by omega) _) (by omega) _) (by omega) _)⟩
set_option linter.unusedSimpArgs false in
set_option maxHeartbeats 8000000 in
set_option maxRecDepth 100000 in
theorem start_err (A : Option Addr) (m ca : Nat) (K E : Int) (w : World) (hR : ∀ v, Below w.heap.size w v → Calls Try.prog 71 #[.slice A m ca, .int .i64 K, .int .i64 0] v fun e v' => e = .returned (.tuple #[.agg #[.slice none 0 0, .slice none 0 0, .int .i64 0, .int .i64 0, .int .i64 0, .int .i64 0, .bool false], .int .i64 E]) ∧ Below v.heap.size v v') :
    Calls Try.prog 29 #[.slice A m ca, .int .i64 K] w fun e w' => e = .returned (.tuple #[.agg #[.slice none 0 0, .slice none 0 0, .int .i64 0, .int .i64 0, .int .i64 0, .int .i64 0, .bool false], .int .i64 E]) ∧ Below w.heap.size w w' := by
  have REA := Lib.hid hR
  clear hR
  go_enter Try.func29, Try.ntmps29
  go_upto_region 1 with fail
  refine at_worldQ (fun v => Below w.heap.size w v ∧ BK v (w.heap.size) [.slice none 0 0, .slice none 0 0, .int .i64 0, .int .i64 0, .int .i64 0, .int .i64 0, .bool false] ∧ v.heap.size = w.heap.size + 1) ⟨(below_al (Below.refl _ _) _), (by have b := (BK.new w [.slice none 0 0, .slice none 0 0, .int .i64 0, .int .i64 0, .int .i64 0, .int .i64 0, .bool false] 62); simpa only [World.size_alloc] using b), by simp only [World.size_alloc]⟩ (fun V hS => ?_)
  obtain ⟨hbb, B0, hVs⟩ := hS
  clear hVs
  go_wp2_with fail
  refine (REA.out _ hbb).mono ?_
  rintro e w2 ⟨rfl, hb⟩
  replace hbb := keepB hbb hb
  replace B0 := B0.keep hb
  clear hb
  have hlt := B0.lt
  have ya0 := B0.c 0 rfl
  have ya1 := B0.c 1 rfl
  have ya2 := B0.c 2 rfl
  have ya3 := B0.c 3 rfl
  have ya4 := B0.c 4 rfl
  have ya5 := B0.c 5 rfl
  have ya6 := B0.c 6 rfl
  have yb0 := B0.f 0 rfl
  have yb1 := B0.f 1 rfl
  have yb2 := B0.f 2 rfl
  have yb3 := B0.f 3 rfl
  have yb4 := B0.f 4 rfl
  have yb5 := B0.f 5 rfl
  have yb6 := B0.f 6 rfl
  go_wp2_with fail
  exact bodyPost_ret (v := .tuple #[.agg #[.slice none 0 0, .slice none 0 0, .int .i64 0, .int .i64 0, .int .i64 0, .int .i64 0, .bool false], .int .i64 E]) (by simp [results, Try.results29, go_sem, ya0, ya1, ya2, ya3, ya4, ya5, ya6]) rfl ⟨rfl, (below_set (below_set (below_set (below_set (below_set (below_set (below_set hbb (by omega) _) (by omega) _) (by omega) _) (by omega) _) (by omega) _) (by omega) _) (by omega) _)⟩
set_option linter.unusedSimpArgs false in
set_option maxHeartbeats 8000000 in
set_option maxRecDepth 100000 in
theorem run_err (A : Option Addr) (m ca : Nat) (K E : Int) (w : World) (hE : E ≠ 0) (hR : ∀ v, Below w.heap.size w v → Calls Try.prog 71 #[.slice A m ca, .int .i64 K, .int .i64 2] v fun e v' => e = .returned (.tuple #[.agg #[.slice none 0 0, .slice none 0 0, .int .i64 0, .int .i64 0, .int .i64 0, .int .i64 0, .bool false], .int .i64 E]) ∧ Below v.heap.size v v') :
    Calls Try.prog 33 #[.slice A m ca, .int .i64 K] w fun e w' => e = .returned (.tuple #[.agg #[.slice none 0 0], .slice none 0 0, .int .i64 E]) ∧ Below w.heap.size w w' := by
  have n0 : (E != 0) = true := by rw [bne_iff_ne]; exact hE
  have REA := Lib.hid hR
  clear hR hE
  go_enter Try.func33, Try.ntmps33
  go_upto_region 1 with fail
  refine at_worldQ (fun v => Below w.heap.size w v ∧ BK v (w.heap.size) [.slice none 0 0] ∧ v.heap.size = w.heap.size + 1) ⟨(below_al (Below.refl _ _) _), (by have b := (BK.new w [.slice none 0 0] 67); simpa only [World.size_alloc] using b), by simp only [World.size_alloc]⟩ (fun V hS => ?_)
  obtain ⟨hbb, B0, hVs⟩ := hS
  clear hVs
  go_wp2_with fail
  refine (REA.out _ hbb).mono ?_
  rintro e w2 ⟨rfl, hb⟩
  replace hbb := keepB hbb hb
  replace B0 := B0.keep hb
  clear hb
  go_upto_region 2 with fail
  refine at_worldQ (fun v => Below w.heap.size w v ∧ BK v w.heap.size [.slice none 0 0]) ⟨below_al hbb _, B0.al _⟩ (fun V2 hS => ?_)
  clear hbb B0
  obtain ⟨hbb, B0⟩ := hS
  have ya0 := B0.c 0 rfl
  have yb0 := B0.f 0 rfl
  have hlt := B0.lt
  go_wp2_with fail
  exact bodyPost_ret (v := .tuple #[.agg #[.slice none 0 0], .slice none 0 0, .int .i64 E]) (by simp [results, Try.results33, go_sem, ya0]) rfl ⟨rfl, (below_set hbb (by omega) _)⟩
set_option linter.unusedSimpArgs false in
set_option maxHeartbeats 8000000 in
set_option maxRecDepth 100000 in
theorem check_desk (A : Option Addr) (m ca : Nat) (Q : Option Addr) (n cq : Nat) (K s x y : Int) (b : Bool) (l : List CkR) (w : World) (h : IsCs w A l) (hm : m = l.length) (hn : n ≤ maxLen) (hE : Ak.chkS (l.map Ak.dat) n ≠ 0) :
    Calls Try.prog 34 #[.agg #[.slice A m ca, .slice Q n cq, .int .i64 K, .int .i64 s, .int .i64 x, .int .i64 y, .bool b]] w fun e w' => e = .returned (.int .i64 (Ak.chkS (l.map Ak.dat) n)) ∧ Below w.heap.size w w' := by
  have ch := fun v (hv : Below w.heap.size w v) => askCheck_any A ca l Q n cq v hn (h.keep hv)
  rw [← hm] at ch
  generalize Ak.chkS (l.map Ak.dat) n = E at *
  have n0 : (E != 0) = true := by rw [bne_iff_ne]; exact hE
  have CH := Lib.hid ch
  clear ch hE hm h
  go_enter Try.func34, Try.ntmps34
  go_upto_region 1 with fail
  refine at_worldQ (fun v => Below w.heap.size w v ∧ BK v (w.heap.size) [.slice A m ca, .slice Q n cq, .int .i64 K, .int .i64 s, .int .i64 x, .int .i64 y, .bool b] ∧ v.heap.size = w.heap.size + 1) ⟨(below_al (Below.refl _ _) _), (by have b := (BK.new w [.slice A m ca, .slice Q n cq, .int .i64 K, .int .i64 s, .int .i64 x, .int .i64 y, .bool b] 62); simpa only [World.size_alloc] using b), by simp only [World.size_alloc]⟩ (fun V hS => ?_)
  obtain ⟨hbb, B0, hVs⟩ := hS
  have p0 := B0.c 0 rfl
  have p1 := B0.c 1 rfl
  have p2 := B0.c 2 rfl
  have p3 := B0.c 3 rfl
  have p4 := B0.c 4 rfl
  have p5 := B0.c 5 rfl
  have p6 := B0.c 6 rfl
  clear hVs
  go_wp2_with fail
  refine (CH.out _ hbb).mono ?_
  rintro e w1 ⟨rfl, hb⟩
  go_wp2_with fail
  go_ret
  exact ⟨rfl, keepB hbb hb⟩
set_option linter.unusedSimpArgs false in
set_option maxHeartbeats 8000000 in
set_option maxRecDepth 100000 in
theorem division_early (A : Option Addr) (m ca : Nat) (Q : Option Addr) (n cq : Nat) (K s x y : Int) (b : Bool) (w : World) (es : (s != 2) = true) (hCk : ∀ v, Below w.heap.size w v → Calls Try.prog 34 #[.agg #[.slice A m ca, .slice Q n cq, .int .i64 K, .int .i64 s, .int .i64 x, .int .i64 y, .bool b]] v fun e v' => e = .returned (.int .i64 0) ∧ Below v.heap.size v v') :
    Calls Try.prog 31 #[.agg #[.slice A m ca, .slice Q n cq, .int .i64 K, .int .i64 s, .int .i64 x, .int .i64 y, .bool b]] w fun e w' => e = .returned (.tuple #[.agg #[.slice none 0 0], .int .i64 36]) ∧ Below w.heap.size w w' := by
  have CKK := Lib.hid hCk
  have e0 : ((0 : Int) != 0) = false := rfl
  clear hCk
  go_enter Try.func31, Try.ntmps31
  go_upto_region 1 with fail
  refine at_worldQ (fun v => Below w.heap.size w v ∧ BK v (w.heap.size) [.slice A m ca, .slice Q n cq, .int .i64 K, .int .i64 s, .int .i64 x, .int .i64 y, .bool b] ∧ BK v (w.heap.size + 1) [.slice none 0 0] ∧ v.heap.size = w.heap.size + 2) ⟨(below_al (below_al (Below.refl _ _) _) _), (by have b := ((BK.new w [.slice A m ca, .slice Q n cq, .int .i64 K, .int .i64 s, .int .i64 x, .int .i64 y, .bool b] 62).al (.cells #[.slice none 0 0] 67)); simpa only [World.size_alloc] using b), (by have b := (BK.new (w.alloc (.cells #[.slice A m ca, .slice Q n cq, .int .i64 K, .int .i64 s, .int .i64 x, .int .i64 y, .bool b] 62)) [.slice none 0 0] 67); simpa only [World.size_alloc] using b), by simp only [World.size_alloc]⟩ (fun V hS => ?_)
  obtain ⟨hbb, B0, B1, hVs⟩ := hS
  have p0 := B0.c 0 rfl
  have p1 := B0.c 1 rfl
  have p2 := B0.c 2 rfl
  have p3 := B0.c 3 rfl
  have p4 := B0.c 4 rfl
  have p5 := B0.c 5 rfl
  have p6 := B0.c 6 rfl
  clear hVs
  go_wp2_with fail
  refine (CKK.out _ hbb).mono ?_
  rintro e w1 ⟨rfl, hb⟩
  clear p0 p1 p2 p3 p4 p5 p6
  replace hbb := keepB hbb hb
  replace B0 := B0.keep hb
  replace B1 := B1.keep hb
  clear hb
  have hlt := B1.lt
  have p0 := B0.c 0 rfl
  have p1 := B0.c 1 rfl
  have p2 := B0.c 2 rfl
  have p3 := B0.c 3 rfl
  have p4 := B0.c 4 rfl
  have p5 := B0.c 5 rfl
  have p6 := B0.c 6 rfl
  have ya0 := B1.c 0 rfl
  have yb0 := B1.f 0 rfl
  go_wp2_with fail
  exact bodyPost_ret (v := .tuple #[.agg #[.slice none 0 0], .int .i64 36]) (by simp [results, Try.results31, go_sem, ya0]) rfl ⟨rfl, (below_set hbb (by omega) _)⟩
end Go.Proofs.Ytnnpmegknlgkoaa

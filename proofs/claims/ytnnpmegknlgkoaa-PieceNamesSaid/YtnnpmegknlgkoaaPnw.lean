/- Package piece: Worth refused; what the law PieceNames asks. -/
import Derived.Test.YtnnpmegknlgkoaaPal
import Derived.Test.YtnnpmegknlgkoaaPworth
namespace Go.Proofs.Ytnnpmegknlgkoaa
open Go.RowKit
set_option linter.unusedSimpArgs false in
set_option maxHeartbeats 8000000 in
set_option maxRecDepth 100000 in
theorem worth_bad (len : Int) (K : Option Addr) (cuts : List Int) (ck : Nat) (Z : Option Addr) (dens : List Int) (cz : Nat) (A : Option Addr) (n cap : Nat) (x : Int) (w : World) (h : IsCake w len K cuts Z dens) (hc : Ck.chk len cuts dens = x) (hx : x ≠ 0) :
    Calls Try.prog 12 #[.agg #[.int .i64 len, .slice K cuts.length ck, .slice Z dens.length cz], .slice A n cap] w fun e w' => e = .returned (.tuple #[.agg #[.int .i64 0, .int .i64 0], .int .i64 x]) ∧ Below w.heap.size w w' := by
  have cc := fun v (hv : Below w.heap.size w v) => ckCheck_any len K cuts ck Z dens cz v (h.keep hv)
  rw [hc] at cc
  have CC := Lib.hid cc
  have n0 : (x != 0) = true := by simpa using hx
  clear cc h hc hx
  go_enter Try.func12, Try.ntmps12
  go_upto_region 1 with fail
  refine at_worldQ (fun v => Below w.heap.size w v ∧ BK v w.heap.size [.int .i64 len, .slice K cuts.length ck, .slice Z dens.length cz] ∧ BK v (w.heap.size + 1) [.int .i64 0, .int .i64 0]) ⟨below_al (below_al (Below.refl _ _) _) _, (BK.new w [.int .i64 len, .slice K cuts.length ck, .slice Z dens.length cz] _).al _, by have b := BK.new (w.alloc (.cells #[.int .i64 len, .slice K cuts.length ck, .slice Z dens.length cz] 33)) [.int .i64 0, .int .i64 0] 23; simpa only [World.size_alloc] using b⟩ (fun V hS => ?_)
  obtain ⟨hbb, B2, B4⟩ := hS
  have c0 := B2.c 0 rfl
  have c1 := B2.c 1 rfl
  have c2 := B2.c 2 rfl
  go_wp2_with fail
  refine (CC.out _ hbb).mono ?_
  rintro e w1 ⟨rfl, hb1⟩
  replace hbb := keepB hbb hb1
  replace B2 := B2.keep hb1
  replace B4 := B4.keep hb1
  clear hb1 c0 c1 c2
  have r0 := B4.c 0 rfl
  have r1 := B4.c 1 rfl
  have f0 := B4.f 0 rfl
  have f1 := B4.f 1 rfl
  go_wp2_with fail
  exact bodyPost_ret (v := .tuple #[.agg #[.int .i64 0, .int .i64 0], .int .i64 x]) (by simp [results, Try.results12, go_sem, r0, r1]) rfl ⟨rfl, below_set (below_set hbb (by omega) _) (by omega) _⟩
set_option linter.unusedSimpArgs false in
set_option maxHeartbeats 8000000 in
set_option maxRecDepth 100000 in
theorem worth_argl (len : Int) (K : Option Addr) (cuts : List Int) (ck : Nat) (Z : Option Addr) (dens : List Int) (cz : Nat) (A : Option Addr) (cap : Nat) (a b c d : Int) (w : World) (h : IsCake w len K cuts Z dens) (hc : Ck.chk len cuts dens = 0) (hp : Pc.chk [⟨a, b, c, d⟩] = 0) (hl : IsS w A [⟨a, b, c, d⟩]) (ha : a < 0) :
    Calls Try.prog 12 #[.agg #[.int .i64 len, .slice K cuts.length ck, .slice Z dens.length cz], .slice A 1 cap] w fun e w' => e = .returned (.tuple #[.agg #[.int .i64 0, .int .i64 0], .int .i64 2]) ∧ Below w.heap.size w w' := by
  have cc := fun v (hv : Below w.heap.size w v) => ckCheck_any len K cuts ck Z dens cz v (h.keep hv)
  have pc := fun v (hv : Below w.heap.size w v) => pChk_any A cap [⟨a, b, c, d⟩] v (hl.keep hv)
  rw [hc] at cc
  rw [hp] at pc
  have hG := Ck.chk_good hc
  have l0 := hG.len0
  have l1 := hG.len1
  obtain ⟨bq, oq, hA, hcq⟩ := hl.1 (by simp)
  subst hA
  obtain ⟨q0, q1, q2, q3⟩ := hcq 0 (by simp)
  have e0 : Pc.at_ [⟨a, b, c, d⟩] 0 = ⟨a, b, c, d⟩ := rfl
  rw [e0] at q0 q1 q2 q3
  simp only [Nat.zero_mul, Nat.add_zero] at q0 q1 q2 q3
  have hbd := hl.2.1 _ (List.mem_singleton.2 rfl)
  have g1 : decide (a < 0) = true := decide_eq_true ha
  clear ha
  have CC := Lib.hid cc
  have PC := Lib.hid pc
  have n0 : ((0 : Int) != 0) = false := rfl
  simp only [List.length_singleton] at PC
  clear cc pc h hc hp hl hG hcq e0 hbd l0 l1
  go_enter Try.func12, Try.ntmps12
  go_upto_region 1 with fail
  refine at_worldQ (fun v => Below w.heap.size w v ∧ BK v w.heap.size [.int .i64 len, .slice K cuts.length ck, .slice Z dens.length cz] ∧ BK v (w.heap.size + 1) [.int .i64 0, .int .i64 0]) ⟨below_al (below_al (Below.refl _ _) _) _, (BK.new w [.int .i64 len, .slice K cuts.length ck, .slice Z dens.length cz] _).al _, by have b := BK.new (w.alloc (.cells #[.int .i64 len, .slice K cuts.length ck, .slice Z dens.length cz] 33)) [.int .i64 0, .int .i64 0] 23; simpa only [World.size_alloc] using b⟩ (fun V hS => ?_)
  obtain ⟨hbb, B2, B4⟩ := hS
  have c0 := B2.c 0 rfl
  have c1 := B2.c 1 rfl
  have c2 := B2.c 2 rfl
  go_wp2_with fail
  refine (CC.out _ hbb).mono ?_
  rintro e w1 ⟨rfl, hb1⟩
  replace hbb := keepB hbb hb1
  replace B2 := B2.keep hb1
  replace B4 := B4.keep hb1
  clear hb1 c0 c1 c2
  go_wp2_with fail
  refine (PC.out _ hbb).mono ?_
  rintro e w2 ⟨rfl, hb1⟩
  replace hbb := keepB hbb hb1
  replace B2 := B2.keep hb1
  replace B4 := B4.keep hb1
  clear hb1
  have c0 := B2.c 0 rfl
  go_upto_region 8 with fail
  refine at_worldQ (fun v => Below w.heap.size w v ∧ BK v (w.heap.size + 1) [.int .i64 0, .int .i64 0] ∧ BK v w2.heap.size [.int .i64 len, .int .i64 1]) ⟨below_al hbb _, B4.al _, BK.new w2 [.int .i64 len, .int .i64 1] _⟩ (fun V8 hS => ?_)
  clear hbb B2 B4 c0
  have hS8 := hS
  clear hS
  generalize w2.heap.size = P8 at *
  go_wp2_with fail
  go_loopw [10, 28] (fun _ t v => t = .int .i64 0 ∧ Below w.heap.size w v ∧ BK v (w.heap.size + 1) [.int .i64 0, .int .i64 0] ∧ BK v P8 [.int .i64 len, .int .i64 1]) (fun _ _ _ => 0)
  case atStart => exact ⟨rfl, hS8⟩
  case round =>
    clear hS8
    obtain ⟨rfl, hbb, B4, B8⟩ := hrel
    have c0 := keepC hbb q0
    have c1 := keepC hbb q1
    have c2 := keepC hbb q2
    have c3 := keepC hbb q3
    go_upto_region 11 with fail
    refine at_worldQ (fun v => Below w.heap.size w v ∧ BK v (w.heap.size + 1) [.int .i64 0, .int .i64 0] ∧ BK v P8 [.int .i64 len, .int .i64 1] ∧ BK v wr.heap.size [.int .i64 a, .int .i64 b, .int .i64 c, .int .i64 d]) ⟨below_al hbb _, B4.al _, B8.al _, BK.new wr [.int .i64 a, .int .i64 b, .int .i64 c, .int .i64 d] _⟩ (fun V11 hS => ?_)
    clear hbb B4 B8 c0 c1 c2 c3
    obtain ⟨hbb, B4, B8, BS⟩ := hS
    have p0 := BS.c 0 rfl
    have p1 := BS.c 1 rfl
    have p2 := BS.c 2 rfl
    have p3 := BS.c 3 rfl
    have e0 := B8.c 0 rfl
    have e1 := B8.c 1 rfl
    generalize wr.heap.size = PS at *

    have r0 := B4.c 0 rfl
    have r1 := B4.c 1 rfl
    have f0 := B4.f 0 rfl
    have f1 := B4.f 1 rfl
    go_wp2_with fail
    exact bodyPost_ret (v := .tuple #[.agg #[.int .i64 0, .int .i64 0], .int .i64 2]) (by simp [results, Try.results12, go_sem, r0, r1]) rfl ⟨rfl, below_set (below_set hbb (by omega) _) (by omega) _⟩
set_option linter.unusedSimpArgs false in
set_option maxHeartbeats 8000000 in
set_option maxRecDepth 100000 in
theorem worth_argg (len : Int) (K : Option Addr) (cuts : List Int) (ck : Nat) (Z : Option Addr) (dens : List Int) (cz : Nat) (A : Option Addr) (cap : Nat) (a b c d : Int) (w : World) (h : IsCake w len K cuts Z dens) (hc : Ck.chk len cuts dens = 0) (hp : Pc.chk [⟨a, b, c, d⟩] = 0) (hl : IsS w A [⟨a, b, c, d⟩]) (ha : 0 ≤ a) (hs : Pc.lessB len 1 c d = true) :
    Calls Try.prog 12 #[.agg #[.int .i64 len, .slice K cuts.length ck, .slice Z dens.length cz], .slice A 1 cap] w fun e w' => e = .returned (.tuple #[.agg #[.int .i64 0, .int .i64 0], .int .i64 2]) ∧ Below w.heap.size w w' := by
  have cc := fun v (hv : Below w.heap.size w v) => ckCheck_any len K cuts ck Z dens cz v (h.keep hv)
  have pc := fun v (hv : Below w.heap.size w v) => pChk_any A cap [⟨a, b, c, d⟩] v (hl.keep hv)
  rw [hc] at cc
  rw [hp] at pc
  have hG := Ck.chk_good hc
  have l0 := hG.len0
  have l1 := hG.len1
  obtain ⟨bq, oq, hA, hcq⟩ := hl.1 (by simp)
  subst hA
  obtain ⟨q0, q1, q2, q3⟩ := hcq 0 (by simp)
  have e0 : Pc.at_ [⟨a, b, c, d⟩] 0 = ⟨a, b, c, d⟩ := rfl
  rw [e0] at q0 q1 q2 q3
  simp only [Nat.zero_mul, Nat.add_zero] at q0 q1 q2 q3
  have hbd := hl.2.1 _ (List.mem_singleton.2 rfl)
  have g1 : decide (a < 0) = false := decide_eq_false (by omega)
  have ls := fun v => pless_any len 1 c d v ⟨by omega, by omega⟩ ⟨by decide, by decide⟩ hbd.2.1 hbd.2.2
  rw [hs] at ls
  have LS := Lib.hid ls
  clear ha hs ls
  have CC := Lib.hid cc
  have PC := Lib.hid pc
  have n0 : ((0 : Int) != 0) = false := rfl
  simp only [List.length_singleton] at PC
  clear cc pc h hc hp hl hG hcq e0 hbd l0 l1
  go_enter Try.func12, Try.ntmps12
  go_upto_region 1 with fail
  refine at_worldQ (fun v => Below w.heap.size w v ∧ BK v w.heap.size [.int .i64 len, .slice K cuts.length ck, .slice Z dens.length cz] ∧ BK v (w.heap.size + 1) [.int .i64 0, .int .i64 0]) ⟨below_al (below_al (Below.refl _ _) _) _, (BK.new w [.int .i64 len, .slice K cuts.length ck, .slice Z dens.length cz] _).al _, by have b := BK.new (w.alloc (.cells #[.int .i64 len, .slice K cuts.length ck, .slice Z dens.length cz] 33)) [.int .i64 0, .int .i64 0] 23; simpa only [World.size_alloc] using b⟩ (fun V hS => ?_)
  obtain ⟨hbb, B2, B4⟩ := hS
  have c0 := B2.c 0 rfl
  have c1 := B2.c 1 rfl
  have c2 := B2.c 2 rfl
  go_wp2_with fail
  refine (CC.out _ hbb).mono ?_
  rintro e w1 ⟨rfl, hb1⟩
  replace hbb := keepB hbb hb1
  replace B2 := B2.keep hb1
  replace B4 := B4.keep hb1
  clear hb1 c0 c1 c2
  go_wp2_with fail
  refine (PC.out _ hbb).mono ?_
  rintro e w2 ⟨rfl, hb1⟩
  replace hbb := keepB hbb hb1
  replace B2 := B2.keep hb1
  replace B4 := B4.keep hb1
  clear hb1
  have c0 := B2.c 0 rfl
  go_upto_region 8 with fail
  refine at_worldQ (fun v => Below w.heap.size w v ∧ BK v (w.heap.size + 1) [.int .i64 0, .int .i64 0] ∧ BK v w2.heap.size [.int .i64 len, .int .i64 1]) ⟨below_al hbb _, B4.al _, BK.new w2 [.int .i64 len, .int .i64 1] _⟩ (fun V8 hS => ?_)
  clear hbb B2 B4 c0
  have hS8 := hS
  clear hS
  generalize w2.heap.size = P8 at *
  go_wp2_with fail
  go_loopw [10, 28] (fun _ t v => t = .int .i64 0 ∧ Below w.heap.size w v ∧ BK v (w.heap.size + 1) [.int .i64 0, .int .i64 0] ∧ BK v P8 [.int .i64 len, .int .i64 1]) (fun _ _ _ => 0)
  case atStart => exact ⟨rfl, hS8⟩
  case round =>
    clear hS8
    obtain ⟨rfl, hbb, B4, B8⟩ := hrel
    have c0 := keepC hbb q0
    have c1 := keepC hbb q1
    have c2 := keepC hbb q2
    have c3 := keepC hbb q3
    go_upto_region 11 with fail
    refine at_worldQ (fun v => Below w.heap.size w v ∧ BK v (w.heap.size + 1) [.int .i64 0, .int .i64 0] ∧ BK v P8 [.int .i64 len, .int .i64 1] ∧ BK v wr.heap.size [.int .i64 a, .int .i64 b, .int .i64 c, .int .i64 d]) ⟨below_al hbb _, B4.al _, B8.al _, BK.new wr [.int .i64 a, .int .i64 b, .int .i64 c, .int .i64 d] _⟩ (fun V11 hS => ?_)
    clear hbb B4 B8 c0 c1 c2 c3
    obtain ⟨hbb, B4, B8, BS⟩ := hS
    have p0 := BS.c 0 rfl
    have p1 := BS.c 1 rfl
    have p2 := BS.c 2 rfl
    have p3 := BS.c 3 rfl
    have e0 := B8.c 0 rfl
    have e1 := B8.c 1 rfl
    generalize wr.heap.size = PS at *
    go_wp2_with fail
    refine (LS.out _).mono ?_
    rintro e w3 ⟨rfl, hb1⟩
    replace hbb := keepB hbb hb1
    replace B4 := B4.keep hb1
    clear hb1 BS p0 p1 p2 p3 e0 e1
    have r0 := B4.c 0 rfl
    have r1 := B4.c 1 rfl
    have f0 := B4.f 0 rfl
    have f1 := B4.f 1 rfl
    go_wp2_with fail
    exact bodyPost_ret (v := .tuple #[.agg #[.int .i64 0, .int .i64 0], .int .i64 2]) (by simp [results, Try.results12, go_sem, r0, r1]) rfl ⟨rfl, below_set (below_set hbb (by omega) _) (by omega) _⟩
theorem pn_kc : Pc.setS (fun x y => x || y) [⟨0, 1, 4, 1⟩, ⟨6, 1, 8, 1⟩] [⟨1, 1, 2, 1⟩, ⟨4, 1, 7, 1⟩] = ([(0, 8)], 0) := by decide +kernel
theorem pn_c (A B : Option Addr) (c d : Nat) (v : World) (h : IsS v A [⟨0, 1, 4, 1⟩, ⟨6, 1, 8, 1⟩]) (k : IsS v B [⟨1, 1, 2, 1⟩, ⟨4, 1, 7, 1⟩]) : Calls Try.prog 9 #[.slice A 2 c, .slice B 2 d] v fun e w' => ∃ u, e = .returned (.tuple #[u, .int .i64 0]) ∧ Acc v v.heap.size 25 4 u 1 (Pc.cells4 [(0, 8)]) w' := by
  have := pUnion_any A B c d [⟨0, 1, 4, 1⟩, ⟨6, 1, 8, 1⟩] [⟨1, 1, 2, 1⟩, ⟨4, 1, 7, 1⟩] v h k
  rw [pn_kc] at this
  exact this
theorem pn_kd : Pc.setS (fun x y => x && y) [⟨0, 1, 4, 1⟩, ⟨6, 1, 8, 1⟩] [⟨1, 1, 2, 1⟩, ⟨4, 1, 7, 1⟩] = ([(1, 2), (6, 7)], 0) := by decide +kernel
theorem pn_d (A B : Option Addr) (c d : Nat) (v : World) (h : IsS v A [⟨0, 1, 4, 1⟩, ⟨6, 1, 8, 1⟩]) (k : IsS v B [⟨1, 1, 2, 1⟩, ⟨4, 1, 7, 1⟩]) : Calls Try.prog 10 #[.slice A 2 c, .slice B 2 d] v fun e w' => ∃ u, e = .returned (.tuple #[u, .int .i64 0]) ∧ Acc v v.heap.size 25 4 u 2 (Pc.cells4 [(1, 2), (6, 7)]) w' := by
  have := pMeet_any A B c d [⟨0, 1, 4, 1⟩, ⟨6, 1, 8, 1⟩] [⟨1, 1, 2, 1⟩, ⟨4, 1, 7, 1⟩] v h k
  rw [pn_kd] at this
  exact this
theorem pn_kg : Pc.setS (fun x y => x && !y) [⟨0, 1, 4, 1⟩, ⟨6, 1, 8, 1⟩] [⟨1, 1, 2, 1⟩, ⟨4, 1, 7, 1⟩] = ([(0, 1), (2, 4), (7, 8)], 0) := by decide +kernel
theorem pn_g (A B : Option Addr) (c d : Nat) (v : World) (h : IsS v A [⟨0, 1, 4, 1⟩, ⟨6, 1, 8, 1⟩]) (k : IsS v B [⟨1, 1, 2, 1⟩, ⟨4, 1, 7, 1⟩]) : Calls Try.prog 11 #[.slice A 2 c, .slice B 2 d] v fun e w' => ∃ u, e = .returned (.tuple #[u, .int .i64 0]) ∧ Acc v v.heap.size 25 4 u 3 (Pc.cells4 [(0, 1), (2, 4), (7, 8)]) w' := by
  have := pMinus_any A B c d [⟨0, 1, 4, 1⟩, ⟨6, 1, 8, 1⟩] [⟨1, 1, 2, 1⟩, ⟨4, 1, 7, 1⟩] v h k
  rw [pn_kg] at this
  exact this
theorem pn_ki : Pc.setS (fun x y => x && !y) [⟨1, 1, 2, 1⟩, ⟨4, 1, 7, 1⟩] [⟨0, 1, 4, 1⟩, ⟨6, 1, 8, 1⟩] = ([(4, 6)], 0) := by decide +kernel
theorem pn_i (A B : Option Addr) (c d : Nat) (v : World) (h : IsS v A [⟨1, 1, 2, 1⟩, ⟨4, 1, 7, 1⟩]) (k : IsS v B [⟨0, 1, 4, 1⟩, ⟨6, 1, 8, 1⟩]) : Calls Try.prog 11 #[.slice A 2 c, .slice B 2 d] v fun e w' => ∃ u, e = .returned (.tuple #[u, .int .i64 0]) ∧ Acc v v.heap.size 25 4 u 1 (Pc.cells4 [(4, 6)]) w' := by
  have := pMinus_any A B c d [⟨1, 1, 2, 1⟩, ⟨4, 1, 7, 1⟩] [⟨0, 1, 4, 1⟩, ⟨6, 1, 8, 1⟩] v h k
  rw [pn_ki] at this
  exact this
theorem pn_kk : Pc.setS (fun x y => x && y) [⟨0, 1, 4, 1⟩, ⟨6, 1, 8, 1⟩] [] = ([], 0) := by decide +kernel
theorem pn_k (A B : Option Addr) (c d : Nat) (v : World) (h : IsS v A [⟨0, 1, 4, 1⟩, ⟨6, 1, 8, 1⟩]) (k : IsS v B []) : Calls Try.prog 10 #[.slice A 2 c, .slice B 0 d] v fun e w' => ∃ u, e = .returned (.tuple #[u, .int .i64 0]) ∧ Acc v v.heap.size 25 4 u 0 (Pc.cells4 []) w' := by
  have := pMeet_any A B c d [⟨0, 1, 4, 1⟩, ⟨6, 1, 8, 1⟩] [] v h k
  rw [pn_kk] at this
  exact this
theorem pn_kr : Pc.setS (fun x y => x || y) [⟨1, 1, 2, 1⟩, ⟨2, 1, 3, 1⟩] [] = ([], 8) := by decide +kernel
theorem pn_r (A B : Option Addr) (c d : Nat) (v : World) (h : IsS v A [⟨1, 1, 2, 1⟩, ⟨2, 1, 3, 1⟩]) (k : IsS v B []) : Calls Try.prog 9 #[.slice A 2 c, .slice B 0 d] v fun e w' => ∃ u, e = .returned (.tuple #[u, .int .i64 8]) ∧ Acc v v.heap.size 25 4 u 0 (Pc.cells4 []) w' := by
  have := pUnion_any A B c d [⟨1, 1, 2, 1⟩, ⟨2, 1, 3, 1⟩] [] v h k
  rw [pn_kr] at this
  exact this
theorem pn_gv : Pc.Good [(0, 4), (6, 8)] := by
  obtain ⟨L, hL, gL⟩ := Pc.chk_good (show Pc.chk [⟨0, 1, 4, 1⟩, ⟨6, 1, 8, 1⟩] = 0 by decide +kernel)
  have h1 : ([⟨0, 1, 4, 1⟩, ⟨6, 1, 8, 1⟩] : List Raw).map Pc.toQ = (L.map Pc.raw).map Pc.toQ := by rw [← hL]
  rw [Pc.map_toQ_raw] at h1
  have h2 : ([⟨0, 1, 4, 1⟩, ⟨6, 1, 8, 1⟩] : List Raw).map Pc.toQ = [(0, 4), (6, 8)] := by decide +kernel
  rw [h2] at h1
  subst h1
  exact gL
theorem pn_kv : Pc.sumF (Pc.wM [0, 3, 8] [2, 1]) [(0, 4), (6, 8)] 0 1 = (9, 1, 0) := by decide +kernel
theorem pn_v (K Z A : Option Addr) (c : Nat) (v : World) (h : IsCake v 8 K [0, 3, 8] Z [2, 1]) (hl : IsS v A [⟨0, 1, 4, 1⟩, ⟨6, 1, 8, 1⟩]) : Calls Try.prog 12 #[.agg #[.int .i64 8, .slice K 3 3, .slice Z 2 2], .slice A 2 c] v fun e w' => e = .returned (.tuple #[.agg #[.int .i64 9, .int .i64 1], .int .i64 0]) ∧ Below v.heap.size v w' := by
  have e : ([(0, 4), (6, 8)] : List (Rat × Rat)).map Pc.raw = [⟨0, 1, 4, 1⟩, ⟨6, 1, 8, 1⟩] := by kernel_rfl
  have := worth_good 8 K [0, 3, 8] 3 Z [2, 1] 2 A c [(0, 4), (6, 8)] v h (by decide) pn_gv (fun r hr => List.all_eq_true.1 (show (Pc.ends [(0, 4), (6, 8)]).all (fun r => Pc.inC 8 r) = true by decide +kernel) r hr) (by rw [e]; exact hl)
  rw [pn_kv] at this
  exact this
theorem pn_gnone : Pc.Good [] := by
  obtain ⟨L, hL, gL⟩ := Pc.chk_good (show Pc.chk [] = 0 by decide +kernel)
  have h1 : ([] : List Raw).map Pc.toQ = (L.map Pc.raw).map Pc.toQ := by rw [← hL]
  rw [Pc.map_toQ_raw] at h1
  have h2 : ([] : List Raw).map Pc.toQ = [] := by decide +kernel
  rw [h2] at h1
  subst h1
  exact gL
theorem pn_knone : Pc.sumF (Pc.wM [0, 3, 8] [2, 1]) [] 0 1 = (0, 1, 0) := by decide +kernel
theorem pn_none (K Z A : Option Addr) (c : Nat) (v : World) (h : IsCake v 8 K [0, 3, 8] Z [2, 1]) (hl : IsS v A []) : Calls Try.prog 12 #[.agg #[.int .i64 8, .slice K 3 3, .slice Z 2 2], .slice A 0 c] v fun e w' => e = .returned (.tuple #[.agg #[.int .i64 0, .int .i64 1], .int .i64 0]) ∧ Below v.heap.size v w' := by
  have e : ([] : List (Rat × Rat)).map Pc.raw = [] := by kernel_rfl
  have := worth_good 8 K [0, 3, 8] 3 Z [2, 1] 2 A c [] v h (by decide) pn_gnone (fun r hr => List.all_eq_true.1 (show (Pc.ends []).all (fun r => Pc.inC 8 r) = true by decide +kernel) r hr) (by rw [e]; exact hl)
  rw [pn_knone] at this
  exact this
theorem pn_t (K Z A : Option Addr) (c : Nat) (v : World) (h : IsCake v 8 K [0, 3, 8] Z [2, 1]) (hl : IsS v A [⟨7, 1, 9, 1⟩]) : Calls Try.prog 12 #[.agg #[.int .i64 8, .slice K 3 3, .slice Z 2 2], .slice A 1 c] v fun e w' => e = .returned (.tuple #[.agg #[.int .i64 0, .int .i64 0], .int .i64 2]) ∧ Below v.heap.size v w' :=
  worth_argg 8 K [0, 3, 8] 3 Z [2, 1] 2 A c _ _ _ _ v h (by decide) (by decide +kernel) hl (by decide) (by decide +kernel)
theorem pn_u (K Z A : Option Addr) (c : Nat) (v : World) (h : IsCake v 8 K [0, 3, 8] Z [2, 1]) (hl : IsS v A [⟨-1, 1, 1, 1⟩]) : Calls Try.prog 12 #[.agg #[.int .i64 8, .slice K 3 3, .slice Z 2 2], .slice A 1 c] v fun e w' => e = .returned (.tuple #[.agg #[.int .i64 0, .int .i64 0], .int .i64 2]) ∧ Below v.heap.size v w' :=
  worth_argl 8 K [0, 3, 8] 3 Z [2, 1] 2 A c _ _ _ _ v h (by decide) (by decide +kernel) hl (by decide)
theorem pn_w (A : Option Addr) (n c : Nat) (v : World) : Calls Try.prog 12 #[.agg #[.int .i64 0, .slice none 0 0, .slice none 0 0], .slice A n c] v fun e w' => e = .returned (.tuple #[.agg #[.int .i64 0, .int .i64 0], .int .i64 8]) ∧ Below v.heap.size v w' :=
  worth_bad 0 none [] 0 none [] 0 A n c 8 v ⟨⟨by decide, by decide⟩, ⟨by simp, by simp⟩, ⟨fun h => absurd h (by simp), by simp⟩, ⟨fun h => absurd h (by simp), by simp⟩⟩ (by decide) (by decide)
theorem isI_bk {v : World} {p : Nat} {zs : List Int} (h : BK v p (zs.map (Value.int .i64))) (hz : ∀ z ∈ zs, I64 z) : IsI v (some ⟨p, 0, none⟩) zs :=
  ⟨fun _ => ⟨p, 0, rfl, fun i hi => by
    rw [Nat.zero_add]
    refine h.c i ?_
    unfold Ck.at_
    simp [hi]⟩, hz⟩
theorem isS_none (v : World) : IsS v none [] := ⟨fun h => absurd h (by simp), by simp, by simp⟩
/-- The spans of the loop. -/
def Pc.manyQ (n : Nat) : List (Rat × Rat) := (List.range n).map fun (k : Nat) => ((((2 * (k : Int)) : Int) : Rat), (((2 * (k : Int) + 1 : Int)) : Rat))
theorem Pc.manyQ_len (n : Nat) : (Pc.manyQ n).length = n := by unfold Pc.manyQ; simp
theorem Pc.manyQ_succ (n : Nat) : Pc.manyQ (n + 1) = Pc.manyQ n ++ [((((2 * (n : Int)) : Int) : Rat), (((2 * (n : Int) + 1 : Int)) : Rat))] := by unfold Pc.manyQ; rw [List.range_succ, List.map_append]; rfl
theorem Pc.manyQ_fit : ∀ r ∈ Pc.ends (Pc.manyQ 61), Pc.Fit r := fits_of (by decide +kernel)
theorem Pc.manyQ_take : (Pc.manyQ 61).take 60 = Pc.manyQ 60 := by unfold Pc.manyQ; rw [← List.map_take]; rfl
theorem pn_ko : Pc.mkS ((Pc.manyQ 61).map Pc.raw) = ([], 4) := Pc.mkS_many (by rw [List.length_map, Pc.manyQ_len]; omega)
theorem pn_kc1 : Pc.chk ((Pc.manyQ 61).map Pc.raw) = 4 := Pc.chk_many (by rw [List.length_map, Pc.manyQ_len]; omega)
theorem pn_kc2 : Pc.chk ((Pc.manyQ 60).map Pc.raw) = 0 := by decide +kernel
theorem pn_kp : Pc.setS (fun x y => x || y) ((Pc.manyQ 60).map Pc.raw) [⟨-2, 1, -1, 1⟩] = ([], 4) := by decide +kernel
theorem pn_o (A : Option Addr) (c : Nat) (v : World) (hc : 61 ≤ c) (h : IsS v A ((Pc.manyQ 61).map Pc.raw)) : Calls Try.prog 14 #[.slice A 61 c] v fun e w' => ∃ u, e = .returned (.tuple #[u, .int .i64 4]) ∧ Below v.heap.size v w' := by
  have := pMake_any A c ((Pc.manyQ 61).map Pc.raw) v (by rw [List.length_map, Pc.manyQ_len]; exact hc) h
  rw [pn_ko, List.length_map, Pc.manyQ_len] at this
  exact this.mono fun e w' ⟨u, h1, h2⟩ => ⟨u, h1, h2.bb⟩
theorem pn_p (A B : Option Addr) (c d : Nat) (v : World) (h : IsS v A ((Pc.manyQ 60).map Pc.raw)) (k : IsS v B [⟨-2, 1, -1, 1⟩]) : Calls Try.prog 9 #[.slice A 60 c, .slice B 1 d] v fun e w' => ∃ u, e = .returned (.tuple #[u, .int .i64 4]) ∧ Below v.heap.size v w' := by
  have := pUnion_any A B c d ((Pc.manyQ 60).map Pc.raw) [⟨-2, 1, -1, 1⟩] v h k
  rw [pn_kp, List.length_map, Pc.manyQ_len] at this
  exact this.mono fun e w' ⟨u, h1, h2⟩ => ⟨u, h1, h2.bb⟩
theorem pn_c1 (A : Option Addr) (c : Nat) (v : World) (h : IsS v A ((Pc.manyQ 61).map Pc.raw)) : Calls Try.prog 18 #[.slice A 61 c] v fun e w' => e = .returned (.int .i64 4) ∧ Below v.heap.size v w' := by
  have := pChk_any A c ((Pc.manyQ 61).map Pc.raw) v h
  rw [pn_kc1, List.length_map, Pc.manyQ_len] at this
  exact this
theorem pn_c2 (A : Option Addr) (c : Nat) (v : World) (h : IsS v A ((Pc.manyQ 60).map Pc.raw)) : Calls Try.prog 18 #[.slice A 60 c] v fun e w' => e = .returned (.int .i64 0) ∧ Below v.heap.size v w' := by
  have := pChk_any A c ((Pc.manyQ 60).map Pc.raw) v h
  rw [pn_kc2, List.length_map, Pc.manyQ_len] at this
  exact this
theorem pn_q (A : Option Addr) (c : Nat) (v : World) (hc : 1 ≤ c) (h : IsS v A [⟨1, 1, 1, 1⟩]) : Calls Try.prog 14 #[.slice A 1 c] v fun e w' => ∃ u, e = .returned (.tuple #[u, .int .i64 8]) ∧ Below v.heap.size v w' := by
  have := pMake_any A c [⟨1, 1, 1, 1⟩] v hc h
  rw [show Pc.mkS [⟨1, 1, 1, 1⟩] = ([], 8) by decide +kernel] at this
  exact this.mono fun e w' ⟨u, h1, h2⟩ => ⟨u, h1, h2.bb⟩
theorem pn_s (v : World) : Calls Try.prog 15 #[.slice none 0 0, .agg #[.int .i64 0, .int .i64 0]] v fun e w' => e = .returned (.tuple #[.bool false, .int .i64 2]) ∧ Below v.heap.size v w' := by
  have := pHas_any none 0 [] 0 0 v ⟨by decide, by decide⟩ ⟨by decide, by decide⟩ (isS_none v)
  rw [show Pc.hasS [] 0 0 = (false, 2) by decide +kernel] at this
  exact this
theorem pn_x (v : World) : Calls Try.prog 16 #[.slice none 0 0, .agg #[.int .i64 2, .int .i64 4]] v fun e w' => ∃ u1 u2, e = .returned (.tuple #[u1, u2, .int .i64 2]) ∧ Below v.heap.size v w' := by
  have := pCut_any none 0 [] 2 4 v ⟨by decide, by decide⟩ ⟨by decide, by decide⟩ (isS_none v)
  rw [show Pc.cutS [] 2 4 = ([], [], 2) by decide +kernel] at this
  exact this.mono fun e w' ⟨u1, u2, h1, _, _, h2⟩ => ⟨u1, u2, h1, h2⟩
theorem pn_y (A : Option Addr) (c : Nat) (v : World) (h : IsS v A [⟨1, 1000000000000000000, 1, 999999999999999999⟩]) : Calls Try.prog 17 #[.slice A 1 c] v fun e w' => e = .returned (.tuple #[.agg #[.int .i64 0, .int .i64 0], .int .i64 16]) ∧ Below v.heap.size v w' := by
  have := pLength_any A c [⟨1, 1000000000000000000, 1, 999999999999999999⟩] v h
  rw [show Pc.lenS [⟨1, 1000000000000000000, 1, 999999999999999999⟩] = (0, 0, 16) by decide +kernel] at this
  exact this
theorem pn_c3 (A : Option Addr) (c : Nat) (v : World) (h : IsS v A [⟨2, 1, 3, 1⟩, ⟨0, 1, 1, 1⟩]) : Calls Try.prog 18 #[.slice A 2 c] v fun e w' => e = .returned (.int .i64 8) ∧ Below v.heap.size v w' := by
  have := pChk_any A c [⟨2, 1, 3, 1⟩, ⟨0, 1, 1, 1⟩] v h
  rw [show Pc.chk [⟨2, 1, 3, 1⟩, ⟨0, 1, 1, 1⟩] = 8 by decide +kernel] at this
  exact this
theorem pn_c4 (A : Option Addr) (c : Nat) (v : World) (h : IsS v A [⟨0, 0, 0, 0⟩]) : Calls Try.prog 18 #[.slice A 1 c] v fun e w' => e = .returned (.int .i64 8) ∧ Below v.heap.size v w' := by
  have := pChk_any A c [⟨0, 0, 0, 0⟩] v h
  rw [show Pc.chk [⟨0, 0, 0, 0⟩] = 8 by decide +kernel] at this
  exact this
end Go.Proofs.Ytnnpmegknlgkoaa

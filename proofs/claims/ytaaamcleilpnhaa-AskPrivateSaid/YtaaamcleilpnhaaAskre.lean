/- Package ask's Replay. -/
import Derived.Test.YtaaamcleilpnhaaAskop
namespace Go.Proofs.Ytaaamcleilpnhaa
open Go.RowKit
set_option linter.unusedSimpArgs false in
set_option maxHeartbeats 8000000 in
set_option maxRecDepth 100000 in
theorem wrong_any (A : Option Addr) (ca : Nat) (cs : List CkR) (Q : Option Addr) (m cq : Nat) (ag kd a b c d x y : Int) (w : World) (h : IsCs w A cs) (hg : ∀ c ∈ cs, Ak.ckD (Ak.dat c) = 0) (hq : Ak.Q64 ⟨ag, kd, a, b, c, d, x, y⟩) :
    Calls Try.prog 75 #[.agg #[.slice A cs.length ca, .slice Q m cq], .agg #[.int .i64 ag, .int .u8 kd, .int .i64 a, .int .i64 b, .int .i64 c, .int .i64 d, .int .i64 x, .int .i64 y]] w fun e w' => e = .returned (.bool (Ak.wrongS (cs.map Ak.dat) ⟨ag, kd, a, b, c, d, x, y⟩)) ∧ Below w.heap.size w w' := by
  obtain ⟨r, hr⟩ : ∃ r, Ak.ansS (cs.map Ak.dat) ⟨ag, kd, a, b, c, d, x, y⟩ = r := ⟨_, rfl⟩
  have an := fun v (hv : Below w.heap.size w v) => answer_any A ca cs Q m cq ag kd a b c d x y v (h.keep hv) hg hq r hr
  unfold Ak.wrongS
  rw [hr]
  dsimp only
  clear hr h hg hq
  obtain ⟨R1, R2, R3⟩ := r
  dsimp only at an
  have AN := Lib.hid an
  clear an
  by_cases h3 : R3 = 0
  · subst h3
    by_cases h1 : R1 = x
    · subst h1
      by_cases h2 : R2 = y
      · subst h2
        rw [show (!decide ((R1, R2, (0 : Int)) = (R1, R2, 0))) = false by simp]
        go_enter Try.func75, Try.ntmps75
        go_upto_region 1 with fail
        refine at_worldQ (fun v => Below w.heap.size w v ∧ BK v (w.heap.size) [.slice A cs.length ca, .slice Q m cq] ∧ BK v (w.heap.size + 1) [.int .i64 ag, .int .u8 kd, .int .i64 a, .int .i64 b, .int .i64 c, .int .i64 d, .int .i64 R1, .int .i64 R2] ∧ v.heap.size = w.heap.size + 2) ⟨(below_al (below_al (Below.refl _ _) _) _), (by have b := ((BK.new w [.slice A cs.length ca, .slice Q m cq] 104).al (.cells #[.int .i64 ag, .int .u8 kd, .int .i64 a, .int .i64 b, .int .i64 c, .int .i64 d, .int .i64 R1, .int .i64 R2] 59)); simpa only [World.size_alloc] using b), (by have b := (BK.new (w.alloc (.cells #[.slice A cs.length ca, .slice Q m cq] 104)) [.int .i64 ag, .int .u8 kd, .int .i64 a, .int .i64 b, .int .i64 c, .int .i64 d, .int .i64 R1, .int .i64 R2] 59); simpa only [World.size_alloc] using b), by simp only [World.size_alloc]⟩ (fun V hS => ?_)
        obtain ⟨hbb, B0, B1, hVs⟩ := hS
        have p0 := B0.c 0 rfl
        have p1 := B0.c 1 rfl
        have y0 := B1.c 0 rfl
        have y1 := B1.c 1 rfl
        have y2 := B1.c 2 rfl
        have y3 := B1.c 3 rfl
        have y4 := B1.c 4 rfl
        have y5 := B1.c 5 rfl
        have y6 := B1.c 6 rfl
        have y7 := B1.c 7 rfl
        go_wp2_with fail
        refine (AN.out _ hbb).mono ?_
        rintro e w1 ⟨rfl, hb⟩
        clear p0 p1
        clear y0 y1 y2 y3 y4 y5 y6 y7
        replace hbb := keepB hbb hb
        replace B1 := B1.keep hb
        clear hb B0
        go_upto_region 2 with fail
        refine at_worldQ (fun v => Below w.heap.size w v ∧ BK v (w.heap.size + 1) [.int .i64 ag, .int .u8 kd, .int .i64 a, .int .i64 b, .int .i64 c, .int .i64 d, .int .i64 R1, .int .i64 R2] ∧ BK v w1.heap.size [.int .i64 R1, .int .i64 R2]) ⟨below_al hbb _, B1.al _, BK.new w1 [.int .i64 R1, .int .i64 R2] _⟩ (fun V2 hS => ?_)
        clear hbb B1
        obtain ⟨hbb, B1, B5⟩ := hS
        generalize w1.heap.size = P5 at *
        have y6 := B1.c 6 rfl
        have y7 := B1.c 7 rfl
        have z0 := B5.c 0 rfl
        have z1 := B5.c 1 rfl
        go_wp2_with fail
        go_ret
        exact ⟨by first | rfl | simp, hbb⟩
      · rw [show (!decide ((R1, R2, (0 : Int)) = (R1, y, 0))) = true by simp [h2]]
        have e2 : (R2 == y) = false := by rw [beq_eq_false_iff_ne]; exact h2
        go_enter Try.func75, Try.ntmps75
        go_upto_region 1 with fail
        refine at_worldQ (fun v => Below w.heap.size w v ∧ BK v (w.heap.size) [.slice A cs.length ca, .slice Q m cq] ∧ BK v (w.heap.size + 1) [.int .i64 ag, .int .u8 kd, .int .i64 a, .int .i64 b, .int .i64 c, .int .i64 d, .int .i64 R1, .int .i64 y] ∧ v.heap.size = w.heap.size + 2) ⟨(below_al (below_al (Below.refl _ _) _) _), (by have b := ((BK.new w [.slice A cs.length ca, .slice Q m cq] 104).al (.cells #[.int .i64 ag, .int .u8 kd, .int .i64 a, .int .i64 b, .int .i64 c, .int .i64 d, .int .i64 R1, .int .i64 y] 59)); simpa only [World.size_alloc] using b), (by have b := (BK.new (w.alloc (.cells #[.slice A cs.length ca, .slice Q m cq] 104)) [.int .i64 ag, .int .u8 kd, .int .i64 a, .int .i64 b, .int .i64 c, .int .i64 d, .int .i64 R1, .int .i64 y] 59); simpa only [World.size_alloc] using b), by simp only [World.size_alloc]⟩ (fun V hS => ?_)
        obtain ⟨hbb, B0, B1, hVs⟩ := hS
        have p0 := B0.c 0 rfl
        have p1 := B0.c 1 rfl
        have y0 := B1.c 0 rfl
        have y1 := B1.c 1 rfl
        have y2 := B1.c 2 rfl
        have y3 := B1.c 3 rfl
        have y4 := B1.c 4 rfl
        have y5 := B1.c 5 rfl
        have y6 := B1.c 6 rfl
        have y7 := B1.c 7 rfl
        go_wp2_with fail
        refine (AN.out _ hbb).mono ?_
        rintro e w1 ⟨rfl, hb⟩
        clear p0 p1
        clear y0 y1 y2 y3 y4 y5 y6 y7
        replace hbb := keepB hbb hb
        replace B1 := B1.keep hb
        clear hb B0
        go_upto_region 2 with fail
        refine at_worldQ (fun v => Below w.heap.size w v ∧ BK v (w.heap.size + 1) [.int .i64 ag, .int .u8 kd, .int .i64 a, .int .i64 b, .int .i64 c, .int .i64 d, .int .i64 R1, .int .i64 y] ∧ BK v w1.heap.size [.int .i64 R1, .int .i64 R2]) ⟨below_al hbb _, B1.al _, BK.new w1 [.int .i64 R1, .int .i64 R2] _⟩ (fun V2 hS => ?_)
        clear hbb B1
        obtain ⟨hbb, B1, B5⟩ := hS
        generalize w1.heap.size = P5 at *
        have y6 := B1.c 6 rfl
        have y7 := B1.c 7 rfl
        have z0 := B5.c 0 rfl
        have z1 := B5.c 1 rfl
        go_wp2_with fail
        go_ret
        exact ⟨by first | rfl | simp [h2], hbb⟩
    · rw [show (!decide ((R1, R2, (0 : Int)) = (x, y, 0))) = true by simp [h1]]
      have e2 : (R1 == x) = false := by rw [beq_eq_false_iff_ne]; exact h1
      go_enter Try.func75, Try.ntmps75
      go_upto_region 1 with fail
      refine at_worldQ (fun v => Below w.heap.size w v ∧ BK v (w.heap.size) [.slice A cs.length ca, .slice Q m cq] ∧ BK v (w.heap.size + 1) [.int .i64 ag, .int .u8 kd, .int .i64 a, .int .i64 b, .int .i64 c, .int .i64 d, .int .i64 x, .int .i64 y] ∧ v.heap.size = w.heap.size + 2) ⟨(below_al (below_al (Below.refl _ _) _) _), (by have b := ((BK.new w [.slice A cs.length ca, .slice Q m cq] 104).al (.cells #[.int .i64 ag, .int .u8 kd, .int .i64 a, .int .i64 b, .int .i64 c, .int .i64 d, .int .i64 x, .int .i64 y] 59)); simpa only [World.size_alloc] using b), (by have b := (BK.new (w.alloc (.cells #[.slice A cs.length ca, .slice Q m cq] 104)) [.int .i64 ag, .int .u8 kd, .int .i64 a, .int .i64 b, .int .i64 c, .int .i64 d, .int .i64 x, .int .i64 y] 59); simpa only [World.size_alloc] using b), by simp only [World.size_alloc]⟩ (fun V hS => ?_)
      obtain ⟨hbb, B0, B1, hVs⟩ := hS
      have p0 := B0.c 0 rfl
      have p1 := B0.c 1 rfl
      have y0 := B1.c 0 rfl
      have y1 := B1.c 1 rfl
      have y2 := B1.c 2 rfl
      have y3 := B1.c 3 rfl
      have y4 := B1.c 4 rfl
      have y5 := B1.c 5 rfl
      have y6 := B1.c 6 rfl
      have y7 := B1.c 7 rfl
      go_wp2_with fail
      refine (AN.out _ hbb).mono ?_
      rintro e w1 ⟨rfl, hb⟩
      clear p0 p1
      clear y0 y1 y2 y3 y4 y5 y6 y7
      replace hbb := keepB hbb hb
      replace B1 := B1.keep hb
      clear hb B0
      go_upto_region 2 with fail
      refine at_worldQ (fun v => Below w.heap.size w v ∧ BK v (w.heap.size + 1) [.int .i64 ag, .int .u8 kd, .int .i64 a, .int .i64 b, .int .i64 c, .int .i64 d, .int .i64 x, .int .i64 y] ∧ BK v w1.heap.size [.int .i64 R1, .int .i64 R2]) ⟨below_al hbb _, B1.al _, BK.new w1 [.int .i64 R1, .int .i64 R2] _⟩ (fun V2 hS => ?_)
      clear hbb B1
      obtain ⟨hbb, B1, B5⟩ := hS
      generalize w1.heap.size = P5 at *
      have y6 := B1.c 6 rfl
      have y7 := B1.c 7 rfl
      have z0 := B5.c 0 rfl
      have z1 := B5.c 1 rfl
      go_wp2_with fail
      go_ret
      exact ⟨by first | rfl | simp [h1], hbb⟩
  · rw [show (!decide ((R1, R2, R3) = (x, y, 0))) = true by simp [h3]]
    have n3 : (R3 != 0) = true := by rw [bne_iff_ne]; exact h3
    go_enter Try.func75, Try.ntmps75
    go_upto_region 1 with fail
    refine at_worldQ (fun v => Below w.heap.size w v ∧ BK v (w.heap.size) [.slice A cs.length ca, .slice Q m cq] ∧ BK v (w.heap.size + 1) [.int .i64 ag, .int .u8 kd, .int .i64 a, .int .i64 b, .int .i64 c, .int .i64 d, .int .i64 x, .int .i64 y] ∧ v.heap.size = w.heap.size + 2) ⟨(below_al (below_al (Below.refl _ _) _) _), (by have b := ((BK.new w [.slice A cs.length ca, .slice Q m cq] 104).al (.cells #[.int .i64 ag, .int .u8 kd, .int .i64 a, .int .i64 b, .int .i64 c, .int .i64 d, .int .i64 x, .int .i64 y] 59)); simpa only [World.size_alloc] using b), (by have b := (BK.new (w.alloc (.cells #[.slice A cs.length ca, .slice Q m cq] 104)) [.int .i64 ag, .int .u8 kd, .int .i64 a, .int .i64 b, .int .i64 c, .int .i64 d, .int .i64 x, .int .i64 y] 59); simpa only [World.size_alloc] using b), by simp only [World.size_alloc]⟩ (fun V hS => ?_)
    obtain ⟨hbb, B0, B1, hVs⟩ := hS
    have p0 := B0.c 0 rfl
    have p1 := B0.c 1 rfl
    have y0 := B1.c 0 rfl
    have y1 := B1.c 1 rfl
    have y2 := B1.c 2 rfl
    have y3 := B1.c 3 rfl
    have y4 := B1.c 4 rfl
    have y5 := B1.c 5 rfl
    have y6 := B1.c 6 rfl
    have y7 := B1.c 7 rfl
    go_wp2_with fail
    refine (AN.out _ hbb).mono ?_
    rintro e w1 ⟨rfl, hb⟩
    clear p0 p1
    clear y0 y1 y2 y3 y4 y5 y6 y7
    replace hbb := keepB hbb hb
    replace B1 := B1.keep hb
    clear hb B0
    go_upto_region 2 with fail
    refine at_worldQ (fun v => Below w.heap.size w v ∧ BK v (w.heap.size + 1) [.int .i64 ag, .int .u8 kd, .int .i64 a, .int .i64 b, .int .i64 c, .int .i64 d, .int .i64 x, .int .i64 y] ∧ BK v w1.heap.size [.int .i64 R1, .int .i64 R2]) ⟨below_al hbb _, B1.al _, BK.new w1 [.int .i64 R1, .int .i64 R2] _⟩ (fun V2 hS => ?_)
    clear hbb B1
    obtain ⟨hbb, B1, B5⟩ := hS
    generalize w1.heap.size = P5 at *
    have y6 := B1.c 6 rfl
    have y7 := B1.c 7 rfl
    have z0 := B5.c 0 rfl
    have z1 := B5.c 1 rfl
    go_wp2_with fail
    go_ret
    exact ⟨by first | rfl | simp, hbb⟩
namespace Ak
theorem firstW_at {D : List CkD} : ∀ {qs : List Qr} {k : Nat}, k < qs.length → (∀ j, j < k → wrongS D (qat qs j) = false) → wrongS D (qat qs k) = true → firstW D qs = k
  | [], _, h, _, _ => absurd h (by simp)
  | q :: l, 0, _, _, h => by unfold firstW; rw [if_pos (show wrongS D q = true from h)]
  | q :: l, k + 1, hk, h, hw => by
    have h0 : wrongS D q = false := h 0 (by omega)
    unfold firstW
    rw [if_neg (by rw [h0]; decide), firstW_at (qs := l) (k := k) (by simpa using hk) (fun j hj => h (j + 1) (by omega)) hw]
theorem firstW_all {D : List CkD} : ∀ {qs : List Qr}, (∀ j, j < qs.length → wrongS D (qat qs j) = false) → firstW D qs = qs.length
  | [], _ => rfl
  | q :: l, h => by
    have h0 : wrongS D q = false := h 0 (by simp)
    unfold firstW
    rw [if_neg (by rw [h0]; decide), firstW_all (qs := l) (fun j hj => h (j + 1) (by simpa using hj))]
    rfl
theorem firstW_le (D : List CkD) : ∀ (qs : List Qr), firstW D qs ≤ qs.length
  | [] => Nat.le_refl _
  | q :: l => by
    unfold firstW
    split
    · exact Nat.zero_le _
    · simpa using firstW_le D l
end Ak
set_option linter.unusedSimpArgs false in
set_option maxHeartbeats 8000000 in
set_option maxRecDepth 100000 in
theorem indexQ_any (A : Option Addr) (ca : Nat) (cs : List CkR) (Q : Option Addr) (m cq : Nat) (E : Option Addr) (ce : Nat) (qs : List Qr) (w : World) (h : IsCs w A cs) (hg : ∀ c ∈ cs, Ak.ckD (Ak.dat c) = 0) (hq : IsQs w E qs) :
    Calls Try.prog 74 #[.slice E qs.length ce, .func (.func 75) #[.agg #[.slice A cs.length ca, .slice Q m cq]] #[]] w fun e w' => e = .returned (.int .i64 (if Ak.firstW (cs.map Ak.dat) qs = qs.length then -1 else (Ak.firstW (cs.map Ak.dat) qs : Int))) ∧ Below w.heap.size w w' := by
  have WA := Lib.hid (fun (q : Qr) (hqq : Ak.Q64 q) v (hv : Below w.heap.size w v) => wrong_any A ca cs Q m cq q.ag q.kd q.a q.b q.c q.d q.x q.y v (h.keep hv) hg hqq)
  obtain ⟨b, o, hA, hc⟩ := hq.at_
  have HC := Lib.hid hc
  have HA := Lib.hid hA
  have H6 := Lib.hid (fun k (hk : k < qs.length) => hq.all _ (Ak.qat_mem hk))
  have hln := hq.len
  unfold maxLen at hln
  obtain ⟨R, hR⟩ : ∃ R, Ak.firstW (cs.map Ak.dat) qs = R := ⟨_, rfl⟩
  rw [hR]
  have HR := Lib.hid hR
  generalize (cs.map Ak.dat) = D at *
  clear h hg hq hc hA hR
  go_enter Try.func74, Try.ntmps74
  go_wp2_with fail
  go_loopw [5, 8] (fun _ i W => ∃ k : Nat, k ≤ qs.length ∧ i = .int .i64 k ∧ (∀ j, j < k → Ak.wrongS D (Ak.qat qs j) = false) ∧ Below w.heap.size w W) (fun _ i _ => qs.length - (intOf i).toNat)
  case atStart => exact ⟨0, Nat.zero_le _, rfl, fun j hj => absurd hj (Nat.not_lt_zero _), Below.refl _ _⟩
  case round =>
    obtain ⟨k, hk, rfl, hok, hbb⟩ := hrel
    have HOK := Lib.hid hok
    clear hok
    by_cases hlt : k < qs.length
    · have hA' := HA.out (by omega)
      subst hA'
      obtain ⟨q, hqq⟩ : ∃ q, Ak.qat qs k = q := ⟨_, rfl⟩
      obtain ⟨c0, c1, c2, c3, c4, c5, c6, c7⟩ := (HC.out k hlt).keep hbb
      rw [hqq] at c0 c1 c2 c3 c4 c5 c6 c7
      dsimp only at c0 c1 c2 c3 c4 c5 c6 c7
      rw [Nat.add_zero] at c0
      have hwa := WA.out q (hqq ▸ H6.out k hlt) wr hbb
      have i1 : (0 : Int) ≤ (k : Int) := by omega
      have i2 : (k : Int) < (qs.length : Int) := by omega
      obtain ⟨z, hz⟩ : ∃ z, Ak.wrongS D q = z := ⟨_, rfl⟩
      rw [show (⟨q.ag, q.kd, q.a, q.b, q.c, q.d, q.x, q.y⟩ : Qr) = q from rfl, hz] at hwa
      have HW := Lib.hid hwa
      have EB := Lib.hid (show Ak.wrongS D (Ak.qat qs k) = z by rw [hqq, hz])
      clear hwa hz hqq
      cases z
      · go_wp2_with fail
        refine HW.out.mono ?_
        rintro e w1 ⟨rfl, hb1⟩
        replace hbb := keepB hbb hb1
        clear hb1 c0 c1 c2 c3 c4 c5 c6 c7 HW
        go_wp2_with fail
        go_roundw
        case rel => exact ⟨k + 1, by omega, by go_num, fun j hj => (Nat.lt_succ_iff_lt_or_eq.1 hj).elim (HOK.out j) (fun e => e ▸ EB.out), hbb⟩
        case measure => simp [intOf]; omega
      · obtain rfl : R = k := HR.out.symm.trans (Ak.firstW_at hlt HOK.out EB.out)
        have HNE := Lib.hid (show ¬ R = qs.length by omega)
        go_wp2_with fail
        refine HW.out.mono ?_
        rintro e w1 ⟨rfl, hb1⟩
        replace hbb := keepB hbb hb1
        clear hb1 c0 c1 c2 c3 c4 c5 c6 c7 HW
        go_wp2_with fail
        go_ret
        exact ⟨by first | rfl | rw [if_neg HNE.out], hbb⟩
    · obtain rfl : k = qs.length := by omega
      obtain rfl : R = qs.length := HR.out.symm.trans (Ak.firstW_all HOK.out)
      clear HOK HR HA HC H6 WA
      go_wp2_with fail
      go_ret
      exact ⟨by first | rfl | rw [if_pos rfl], hbb⟩
/-- What Replay gives. -/
def Ak.repS (D : List CkD) (qs : List Qr) : Int × Int := if Ak.chkS D qs.length ≠ 0 then (0, Ak.chkS D qs.length) else ((Ak.firstW D qs : Int), 0)
set_option linter.unusedSimpArgs false in
set_option maxHeartbeats 8000000 in
set_option maxRecDepth 100000 in
theorem askReplay_any (A : Option Addr) (ca : Nat) (cs : List CkR) (Q : Option Addr) (cq : Nat) (qs : List Qr) (w : World) (h : IsCs w A cs) (hq : IsQs w Q qs) :
    Calls Try.prog 27 #[.slice A cs.length ca, .slice Q qs.length cq] w fun e w' => e = .returned (.tuple #[.int .i64 (Ak.repS (cs.map Ak.dat) qs).1, .int .i64 (Ak.repS (cs.map Ak.dat) qs).2]) ∧ Below w.heap.size w w' := by
  have ch := fun v (hv : Below w.heap.size w v) => askCheck_any A ca cs Q qs.length cq v hq.len (h.keep hv)
  have hln := hq.len
  unfold maxLen at hln
  unfold Ak.repS
  by_cases h1 : Ak.chkS (cs.map Ak.dat) qs.length = 0
  · have hgd := Ak.chkS_good h1
    have hgc : ∀ c ∈ cs, Ak.ckD (Ak.dat c) = 0 := fun c hc => hgd.all _ (List.mem_map_of_mem hc)
    have ix := fun v (hv : Below w.heap.size w v) => indexQ_any A ca cs Q qs.length cq Q cq qs v (h.keep hv) hgc (hq.keep hv)
    have hle := Ak.firstW_le (cs.map Ak.dat) qs
    rw [h1] at ch
    rw [if_neg (by rw [h1]; decide)]
    dsimp only
    generalize Ak.firstW (cs.map Ak.dat) qs = R at *
    have CH := Lib.hid ch
    have e0 : ((0 : Int) != 0) = false := rfl
    by_cases hR : R = qs.length
    · rw [if_pos hR] at ix
      rw [hR]
      have IXX := Lib.hid ix
      have d1 : decide ((-1 : Int) < 0) = true := by decide
      clear ch ix h1 hgd hgc h hq hle hR
      go_enter Try.func27, Try.ntmps27
      go_upto_region 2 with fail
      refine at_worldQ (fun v => Below w.heap.size w v ∧ BK v (w.heap.size) [.slice A cs.length ca, .slice Q qs.length cq] ∧ v.heap.size = w.heap.size + 1) ⟨(below_al (Below.refl _ _) _), (by have b := (BK.new w [.slice A cs.length ca, .slice Q qs.length cq] 49); simpa only [World.size_alloc] using b), by simp only [World.size_alloc]⟩ (fun V hS => ?_)
      obtain ⟨hbb, B0, hVs⟩ := hS
      have p0 := B0.c 0 rfl
      have p1 := B0.c 1 rfl
      go_wp2_with fail
      refine (CH.out _ hbb).mono ?_
      rintro e w1 ⟨rfl, hb⟩
      clear p0 p1
      replace hbb := keepB hbb hb
      replace B0 := B0.keep hb
      clear hb
      have p0 := B0.c 0 rfl
      have p1 := B0.c 1 rfl
      go_upto_region 6 with fail
      clear p0 p1
      refine at_worldQ (fun v => Below w.heap.size w v ∧ BK v w1.heap.size [.slice A cs.length ca, .slice Q qs.length cq]) ⟨below_al hbb _, BK.new w1 [.slice A cs.length ca, .slice Q qs.length cq] _⟩ (fun V6 hS => ?_)
      clear hbb B0
      obtain ⟨hbb, B8⟩ := hS
      generalize w1.heap.size = P8 at *
      have z0 := B8.c 0 rfl
      have z1 := B8.c 1 rfl
      go_wp2_with fail
      refine (IXX.out _ hbb).mono ?_
      rintro e w2 ⟨rfl, hb⟩
      clear z0 z1
      replace hbb := keepB hbb hb
      replace B8 := B8.keep hb
      clear hb
      have z1 := B8.c 1 rfl
      go_wp2_with fail
      go_ret2
      exact ⟨rfl, hbb⟩
    · rw [if_neg hR] at ix
      have IXX := Lib.hid ix
      have d1 : decide ((R : Int) < 0) = false := decide_eq_false (by omega)
      clear ch ix h1 hgd hgc h hq hR
      go_enter Try.func27, Try.ntmps27
      go_upto_region 2 with fail
      refine at_worldQ (fun v => Below w.heap.size w v ∧ BK v (w.heap.size) [.slice A cs.length ca, .slice Q qs.length cq] ∧ v.heap.size = w.heap.size + 1) ⟨(below_al (Below.refl _ _) _), (by have b := (BK.new w [.slice A cs.length ca, .slice Q qs.length cq] 49); simpa only [World.size_alloc] using b), by simp only [World.size_alloc]⟩ (fun V hS => ?_)
      obtain ⟨hbb, B0, hVs⟩ := hS
      have p0 := B0.c 0 rfl
      have p1 := B0.c 1 rfl
      go_wp2_with fail
      refine (CH.out _ hbb).mono ?_
      rintro e w1 ⟨rfl, hb⟩
      clear p0 p1
      replace hbb := keepB hbb hb
      replace B0 := B0.keep hb
      clear hb
      have p0 := B0.c 0 rfl
      have p1 := B0.c 1 rfl
      go_upto_region 6 with fail
      clear p0 p1
      refine at_worldQ (fun v => Below w.heap.size w v ∧ BK v w1.heap.size [.slice A cs.length ca, .slice Q qs.length cq]) ⟨below_al hbb _, BK.new w1 [.slice A cs.length ca, .slice Q qs.length cq] _⟩ (fun V6 hS => ?_)
      clear hbb B0
      obtain ⟨hbb, B8⟩ := hS
      generalize w1.heap.size = P8 at *
      have z0 := B8.c 0 rfl
      have z1 := B8.c 1 rfl
      go_wp2_with fail
      refine (IXX.out _ hbb).mono ?_
      rintro e w2 ⟨rfl, hb⟩
      clear z0 z1
      replace hbb := keepB hbb hb
      replace B8 := B8.keep hb
      clear hb
      go_wp2_with fail
      go_ret2
      exact ⟨rfl, hbb⟩
  · rw [if_pos h1]
    have n1 : (Ak.chkS (cs.map Ak.dat) qs.length != 0) = true := by rw [bne_iff_ne]; exact h1
    dsimp only
    generalize Ak.chkS (cs.map Ak.dat) qs.length = z at *
    have CH := Lib.hid ch
    clear ch h1 h hq
    go_enter Try.func27, Try.ntmps27
    go_upto_region 2 with fail
    refine at_worldQ (fun v => Below w.heap.size w v ∧ BK v (w.heap.size) [.slice A cs.length ca, .slice Q qs.length cq] ∧ v.heap.size = w.heap.size + 1) ⟨(below_al (Below.refl _ _) _), (by have b := (BK.new w [.slice A cs.length ca, .slice Q qs.length cq] 49); simpa only [World.size_alloc] using b), by simp only [World.size_alloc]⟩ (fun V hS => ?_)
    obtain ⟨hbb, B0, hVs⟩ := hS
    have p0 := B0.c 0 rfl
    have p1 := B0.c 1 rfl
    go_wp2_with fail
    refine (CH.out _ hbb).mono ?_
    rintro e w1 ⟨rfl, hb⟩
    replace hbb := keepB hbb hb
    clear p0 p1 hb
    go_wp2_with fail
    go_ret2
    exact ⟨rfl, hbb⟩
end Go.Proofs.Ytaaamcleilpnhaa

/- Package choose: Check, Next, Division, Start of valid states. -/
import Derived.Test.YtnnpmegknlgkoaaGs
namespace Go.Proofs.Ytnnpmegknlgkoaa
open Go.RowKit
set_option linter.unusedSimpArgs false in
set_option maxHeartbeats 8000000 in
set_option maxRecDepth 100000 in
theorem qEqual_eq (A B : Option Addr) (n m ca cb : Nat) (xs : List Qr) (w : World) (ha : IsQs w A xs) (hb : IsQs w B xs) (hn : n = xs.length) (hm : m = xs.length) :
    Calls Try.prog 74 #[.slice A n ca, .slice B m cb] w fun e w' => e = .returned (.bool true) ∧ Below w.heap.size w w' := by
  subst hn hm
  obtain ⟨b1, o1, hA, hc⟩ := ha.at_
  obtain ⟨b2, o2, hB, hd⟩ := hb.at_
  have HC := Lib.hid hc
  have HD := Lib.hid hd
  have HA := Lib.hid hA
  have HB := Lib.hid hB
  have hml := ha.len
  clear hc hd hA hB ha hb
  have hm2 : (xs.length : Int) ≤ 9223372036854775807 := by unfold maxLen at hml; omega
  clear hml
  go_enter Try.func74, Try.ntmps74
  go_wp2_with fail
  go_loopw [13] (fun i W => ∃ k : Nat, k ≤ xs.length ∧ i = .int .i64 k ∧ Below w.heap.size w W) (fun i _ => xs.length - (intOf i).toNat)
  case atStart => exact ⟨0, Nat.zero_le _, rfl, Below.refl _ _⟩
  case round =>
    obtain ⟨k, hk, rfl, hbb⟩ := hrel
    by_cases hlt : k < xs.length
    · have hA' := HA.out (by omega)
      subst hA'
      have hB' := HB.out (by omega)
      subst hB'
      obtain ⟨s, hs⟩ : ∃ s, Ak.qat xs k = s := ⟨_, rfl⟩
      obtain ⟨c0, c1, c2, c3, c4, c5, c6, c7⟩ := (HC.out k hlt).keep hbb
      obtain ⟨d0, d1, d2, d3, d4, d5, d6, d7⟩ := (HD.out k hlt).keep hbb
      rw [hs] at c0 c1 c2 c3 c4 c5 c6 c7 d0 d1 d2 d3 d4 d5 d6 d7
      dsimp only at c0 c1 c2 c3 c4 c5 c6 c7 d0 d1 d2 d3 d4 d5 d6 d7
      rw [Nat.add_zero] at c0 d0
      have i1 : (0 : Int) ≤ (k : Int) := by omega
      have i2 : (k : Int) < (xs.length : Int) := by omega
      clear hs
      go_upto_region 6 with fail
      refine at_worldQ (fun v => Below w.heap.size w v ∧ v.cell? ⟨b1, o1 + k * 8, none⟩ = some (.int .i64 s.ag) ∧ v.cell? ⟨b1, o1 + k * 8 + 1, none⟩ = some (.int .u8 s.kd) ∧ v.cell? ⟨b1, o1 + k * 8 + 2, none⟩ = some (.int .i64 s.a) ∧ v.cell? ⟨b1, o1 + k * 8 + 3, none⟩ = some (.int .i64 s.b) ∧ v.cell? ⟨b1, o1 + k * 8 + 4, none⟩ = some (.int .i64 s.c) ∧ v.cell? ⟨b1, o1 + k * 8 + 5, none⟩ = some (.int .i64 s.d) ∧ v.cell? ⟨b1, o1 + k * 8 + 6, none⟩ = some (.int .i64 s.x) ∧ v.cell? ⟨b1, o1 + k * 8 + 7, none⟩ = some (.int .i64 s.y) ∧ v.cell? ⟨b2, o2 + k * 8, none⟩ = some (.int .i64 s.ag) ∧ v.cell? ⟨b2, o2 + k * 8 + 1, none⟩ = some (.int .u8 s.kd) ∧ v.cell? ⟨b2, o2 + k * 8 + 2, none⟩ = some (.int .i64 s.a) ∧ v.cell? ⟨b2, o2 + k * 8 + 3, none⟩ = some (.int .i64 s.b) ∧ v.cell? ⟨b2, o2 + k * 8 + 4, none⟩ = some (.int .i64 s.c) ∧ v.cell? ⟨b2, o2 + k * 8 + 5, none⟩ = some (.int .i64 s.d) ∧ v.cell? ⟨b2, o2 + k * 8 + 6, none⟩ = some (.int .i64 s.x) ∧ v.cell? ⟨b2, o2 + k * 8 + 7, none⟩ = some (.int .i64 s.y)) ⟨hbb, c0, c1, c2, c3, c4, c5, c6, c7, d0, d1, d2, d3, d4, d5, d6, d7⟩ (fun V hS => ?_)
      clear hbb c0 c1 c2 c3 c4 c5 c6 c7 d0 d1 d2 d3 d4 d5 d6 d7
      obtain ⟨hbb, c0, c1, c2, c3, c4, c5, c6, c7, d0, d1, d2, d3, d4, d5, d6, d7⟩ := hS
      refine wp_region_noPanic ?_
      refine wp_region_held_drew (S := (Below V.heap.size V)) (by kernel_rfl) ((Below.refl _ _).drew) (fun hHeld => ?_)
      refine at_anyH (Below V.heap.size V) hHeld (fun wq0 hNew => ?_)
      clear hHeld
      have hHeld := hNew
      clear hNew
      refine wpAnyH_take (i := 0) (oi := _) (v := ?vq1) rfl (by kernel_rfl) (by kernel_rfl) (by kernel_rfl) (fun _ _ _ h => h) (Or.inl ⟨by kernel_rfl, ?hyq1⟩) hHeld ?restq1
      case hyq1 => (intro w hSw; go_simp; first | done | (with_reducible rfl))
      try simp only [Act.put, PA, PB]
      refine wpAnyH_take (i := 1) (oi := _) (v := ?vq2) rfl (by kernel_rfl) (by kernel_rfl) (by kernel_rfl) (fun _ _ _ h => h) (Or.inl ⟨by kernel_rfl, ?hyq2⟩) hHeld ?restq2
      case hyq2 => (intro w hSw; go_simp; first | done | (with_reducible rfl))
      try simp only [Act.put, PA, PB]
      refine wpAnyH_take (i := 2) (oi := _) (v := ?vq3) rfl (by kernel_rfl) (by kernel_rfl) (by kernel_rfl) (fun _ _ _ h => h) (Or.inl ⟨by kernel_rfl, ?hyq3⟩) hHeld ?restq3
      case hyq3 => (intro w hSw; go_simp; first | done | (with_reducible rfl))
      try simp only [Act.put, PA, PB]
      refine wpAnyH_take (i := 3) (oi := _) (v := ?vq4) rfl (by kernel_rfl) (by kernel_rfl) (by kernel_rfl) (fun _ _ _ h => h) (Or.inl ⟨by kernel_rfl, ?hyq4⟩) hHeld ?restq4
      case hyq4 => (intro w hSw; have kc0 := keepC hSw c0; have kc1 := keepC hSw c1; have kc2 := keepC hSw c2; have kc3 := keepC hSw c3; have kc4 := keepC hSw c4; have kc5 := keepC hSw c5; have kc6 := keepC hSw c6; have kc7 := keepC hSw c7; have kd0 := keepC hSw d0; have kd1 := keepC hSw d1; have kd2 := keepC hSw d2; have kd3 := keepC hSw d3; have kd4 := keepC hSw d4; have kd5 := keepC hSw d5; have kd6 := keepC hSw d6; have kd7 := keepC hSw d7; go_simp; first | done | (with_reducible rfl))
      try simp only [Act.put, PA, PB]
      refine wpAnyH_take (i := 4) (oi := _) (v := ?vq5) rfl (by kernel_rfl) (by kernel_rfl) (by kernel_rfl) (fun _ _ _ h => h) (Or.inl ⟨by kernel_rfl, ?hyq5⟩) hHeld ?restq5
      case hyq5 => (intro w hSw; go_simp; first | done | (with_reducible rfl))
      try simp only [Act.put, PA, PB]
      refine wpAnyH_take (i := 5) (oi := _) (v := ?vq6) rfl (by kernel_rfl) (by kernel_rfl) (by kernel_rfl) (fun _ _ _ h => h) (Or.inl ⟨by kernel_rfl, ?hyq6⟩) hHeld ?restq6
      case hyq6 => (intro w hSw; go_simp; first | done | (with_reducible rfl))
      try simp only [Act.put, PA, PB]
      refine wpAnyH_take (i := 6) (oi := _) (v := ?vq7) rfl (by kernel_rfl) (by kernel_rfl) (by kernel_rfl) (fun _ _ _ h => h) (Or.inl ⟨by kernel_rfl, ?hyq7⟩) hHeld ?restq7
      case hyq7 => (intro w hSw; go_simp; first | done | (with_reducible rfl))
      try simp only [Act.put, PA, PB]
      refine wpAnyH_take (i := 7) (oi := _) (v := ?vq8) rfl (by kernel_rfl) (by kernel_rfl) (by kernel_rfl) (fun _ _ _ h => h) (Or.inl ⟨by kernel_rfl, ?hyq8⟩) hHeld ?restq8
      case hyq8 => (intro w hSw; have kc0 := keepC hSw c0; have kc1 := keepC hSw c1; have kc2 := keepC hSw c2; have kc3 := keepC hSw c3; have kc4 := keepC hSw c4; have kc5 := keepC hSw c5; have kc6 := keepC hSw c6; have kc7 := keepC hSw c7; have kd0 := keepC hSw d0; have kd1 := keepC hSw d1; have kd2 := keepC hSw d2; have kd3 := keepC hSw d3; have kd4 := keepC hSw d4; have kd5 := keepC hSw d5; have kd6 := keepC hSw d6; have kd7 := keepC hSw d7; go_simp; first | done | (with_reducible rfl))
      try simp only [Act.put, PA, PB]
      refine wpAnyH_take (i := 8) (oi := _) (v := ?vq9) rfl (by kernel_rfl) (by kernel_rfl) (by kernel_rfl) (fun _ _ _ h => h) (Or.inl ⟨by kernel_rfl, ?hyq9⟩) hHeld ?restq9
      case hyq9 => (intro w hSw; go_simp; first | done | (with_reducible rfl))
      try simp only [Act.put, PA, PB]
      refine wpAnyH_done (by kernel_rfl) ?_ _
      refine NoPanic.normal ?_
      skip
      replace hbb := keepB hbb hHeld
      clear hHeld
      go_wp2_with fail
      go_roundw
      case rel => exact ⟨k + 1, by omega, by go_num, hbb⟩
      case measure => simp [intOf]; omega
    · have i2 : ¬ (k : Int) < (xs.length : Int) := by omega
      go_wp2_with fail
      go_ret
      exact ⟨rfl, hbb⟩
set_option linter.unusedSimpArgs false in
set_option maxHeartbeats 8000000 in
set_option maxRecDepth 100000 in
theorem check_ok (A : Option Addr) (m ca : Nat) (Q : Option Addr) (n cq : Nat) (K s x y : Int) (b : Bool) (D : List CkD) (L : List Qr) (l : List CkR) (w : World) (h : IsCs w A l) (hm : m = l.length) (hd : l.map Ak.dat = D) (hq : IsQs w Q L) (hn : n = L.length) (hs : s = 0 ∨ s = 1 ∨ s = 2) (hc : Ak.chkS D n = 0)
    (hR : ∀ v, Below w.heap.size w v → Calls Try.prog 71 #[.slice A m ca, .int .i64 K, .int .i64 s] v (StR D L K s x y b v)) :
    Calls Try.prog 34 #[.agg #[.slice A m ca, .slice Q n cq, .int .i64 K, .int .i64 s, .int .i64 x, .int .i64 y, .bool b]] w fun e w' => e = .returned (.int .i64 0) ∧ Below w.heap.size w w' := by
  have hl := hq.len
  have ch := fun v (hv : Below w.heap.size w v) => askCheck_any A ca l Q n cq v (by rw [hn]; exact hl) (h.keep hv)
  rw [hd, hc, ← hm] at ch
  unfold StR at hR
  have CH := Lib.hid ch
  have REA := Lib.hid hR
  have HQ := Lib.hid hq
  have HN := Lib.hid hn
  have e0 : ((0 : Int) != 0) = false := rfl
  clear ch hR hq hn hl hm hd h hc
  rcases hs with rfl | rfl | rfl
  · go_enter Try.func34, Try.ntmps34
    go_upto_region 1 with fail
    refine at_worldQ (fun v => Below w.heap.size w v ∧ BK v (w.heap.size) [.slice A m ca, .slice Q n cq, .int .i64 K, .int .i64 0, .int .i64 x, .int .i64 y, .bool b] ∧ v.heap.size = w.heap.size + 1) ⟨(below_al (Below.refl _ _) _), (by have b := (BK.new w [.slice A m ca, .slice Q n cq, .int .i64 K, .int .i64 0, .int .i64 x, .int .i64 y, .bool b] 62); simpa only [World.size_alloc] using b), by simp only [World.size_alloc]⟩ (fun V hS => ?_)
    obtain ⟨hbb, B0, hVs⟩ := hS
    have p0 := B0.c 0 rfl
    have p1 := B0.c 1 rfl
    have p2 := B0.c 2 rfl
    have p3 := B0.c 3 rfl
    have p4 := B0.c 4 rfl
    have p5 := B0.c 5 rfl
    have p6 := B0.c 6 rfl
    clear hVs
    go_wp2_with fail
    refine (CH.out _ hbb).mono ?_
    rintro e w1 ⟨rfl, hb⟩
    clear p0 p1 p2 p3 p4 p5 p6
    replace hbb := keepB hbb hb
    replace B0 := B0.keep hb
    clear hb
    have p0 := B0.c 0 rfl
    have p1 := B0.c 1 rfl
    have p2 := B0.c 2 rfl
    have p3 := B0.c 3 rfl
    have p4 := B0.c 4 rfl
    have p5 := B0.c 5 rfl
    have p6 := B0.c 6 rfl
    go_wp2_with fail
    refine (REA.out _ hbb).mono ?_
    rintro e w2 ⟨A1, m1, ca1, Q1, n1, cq1, l1, rfl, hb, hm1, hn1, hd1, hfd⟩
    have HM1 := Lib.hid hm1
    have HN1 := Lib.hid hn1
    have HD1 := Lib.hid hd1
    clear hm1 hn1 hd1
    clear p0 p1 p2 p3 p4 p5 p6
    replace hbb := keepB hbb hb
    replace B0 := B0.keep hb
    clear hb
    go_upto_region 7 with fail
    refine at_worldQ (fun v => Below w.heap.size w v ∧ BK v w.heap.size [.slice A m ca, .slice Q n cq, .int .i64 K, .int .i64 0, .int .i64 x, .int .i64 y, .bool b] ∧ BK v w2.heap.size [.slice A1 m1 ca1, .slice Q1 n1 cq1, .int .i64 K, .int .i64 0, .int .i64 x, .int .i64 y, .bool b] ∧ IsQs v Q1 L) ⟨below_al hbb _, B0.al _, BK.new _ _ _, hfd.isQs.keep (below_al (Below.refl _ _) _)⟩ (fun V7 hS => ?_)
    clear hbb B0 hfd
    obtain ⟨hbb, B0, B4, hqs⟩ := hS
    have EQ := Lib.hid (fun v (hv : Below V7.heap.size V7 v) => qEqual_eq Q Q1 n n1 cq cq1 L v (HQ.out.keep (keepB hbb hv)) (hqs.keep hv) HN.out HN1.out)
    clear hqs
    have p0 := B0.c 0 rfl
    have p1 := B0.c 1 rfl
    have p2 := B0.c 2 rfl
    have p3 := B0.c 3 rfl
    have p4 := B0.c 4 rfl
    have p5 := B0.c 5 rfl
    have p6 := B0.c 6 rfl
    have r0 := B4.c 0 rfl
    have r1 := B4.c 1 rfl
    have r2 := B4.c 2 rfl
    have r3 := B4.c 3 rfl
    have r4 := B4.c 4 rfl
    have r5 := B4.c 5 rfl
    have r6 := B4.c 6 rfl
    clear e0
    go_wp2_with fail
    refine (EQ.out _ (Below.refl _ _)).mono ?_
    rintro e w3 ⟨rfl, hb⟩
    go_wp2_with fail
    go_ret
    exact ⟨rfl, keepB hbb hb⟩

  · go_enter Try.func34, Try.ntmps34
    go_upto_region 1 with fail
    refine at_worldQ (fun v => Below w.heap.size w v ∧ BK v (w.heap.size) [.slice A m ca, .slice Q n cq, .int .i64 K, .int .i64 1, .int .i64 x, .int .i64 y, .bool b] ∧ v.heap.size = w.heap.size + 1) ⟨(below_al (Below.refl _ _) _), (by have b := (BK.new w [.slice A m ca, .slice Q n cq, .int .i64 K, .int .i64 1, .int .i64 x, .int .i64 y, .bool b] 62); simpa only [World.size_alloc] using b), by simp only [World.size_alloc]⟩ (fun V hS => ?_)
    obtain ⟨hbb, B0, hVs⟩ := hS
    have p0 := B0.c 0 rfl
    have p1 := B0.c 1 rfl
    have p2 := B0.c 2 rfl
    have p3 := B0.c 3 rfl
    have p4 := B0.c 4 rfl
    have p5 := B0.c 5 rfl
    have p6 := B0.c 6 rfl
    clear hVs
    go_wp2_with fail
    refine (CH.out _ hbb).mono ?_
    rintro e w1 ⟨rfl, hb⟩
    clear p0 p1 p2 p3 p4 p5 p6
    replace hbb := keepB hbb hb
    replace B0 := B0.keep hb
    clear hb
    have p0 := B0.c 0 rfl
    have p1 := B0.c 1 rfl
    have p2 := B0.c 2 rfl
    have p3 := B0.c 3 rfl
    have p4 := B0.c 4 rfl
    have p5 := B0.c 5 rfl
    have p6 := B0.c 6 rfl
    go_wp2_with fail
    refine (REA.out _ hbb).mono ?_
    rintro e w2 ⟨A1, m1, ca1, Q1, n1, cq1, l1, rfl, hb, hm1, hn1, hd1, hfd⟩
    have HM1 := Lib.hid hm1
    have HN1 := Lib.hid hn1
    have HD1 := Lib.hid hd1
    clear hm1 hn1 hd1
    clear p0 p1 p2 p3 p4 p5 p6
    replace hbb := keepB hbb hb
    replace B0 := B0.keep hb
    clear hb
    go_upto_region 7 with fail
    refine at_worldQ (fun v => Below w.heap.size w v ∧ BK v w.heap.size [.slice A m ca, .slice Q n cq, .int .i64 K, .int .i64 1, .int .i64 x, .int .i64 y, .bool b] ∧ BK v w2.heap.size [.slice A1 m1 ca1, .slice Q1 n1 cq1, .int .i64 K, .int .i64 1, .int .i64 x, .int .i64 y, .bool b] ∧ IsQs v Q1 L) ⟨below_al hbb _, B0.al _, BK.new _ _ _, hfd.isQs.keep (below_al (Below.refl _ _) _)⟩ (fun V7 hS => ?_)
    clear hbb B0 hfd
    obtain ⟨hbb, B0, B4, hqs⟩ := hS
    have EQ := Lib.hid (fun v (hv : Below V7.heap.size V7 v) => qEqual_eq Q Q1 n n1 cq cq1 L v (HQ.out.keep (keepB hbb hv)) (hqs.keep hv) HN.out HN1.out)
    clear hqs
    have p0 := B0.c 0 rfl
    have p1 := B0.c 1 rfl
    have p2 := B0.c 2 rfl
    have p3 := B0.c 3 rfl
    have p4 := B0.c 4 rfl
    have p5 := B0.c 5 rfl
    have p6 := B0.c 6 rfl
    have r0 := B4.c 0 rfl
    have r1 := B4.c 1 rfl
    have r2 := B4.c 2 rfl
    have r3 := B4.c 3 rfl
    have r4 := B4.c 4 rfl
    have r5 := B4.c 5 rfl
    have r6 := B4.c 6 rfl
    clear e0
    go_wp2_with fail
    refine (EQ.out _ (Below.refl _ _)).mono ?_
    rintro e w3 ⟨rfl, hb⟩
    go_wp2_with fail
    go_ret
    exact ⟨rfl, keepB hbb hb⟩

  · go_enter Try.func34, Try.ntmps34
    go_upto_region 1 with fail
    refine at_worldQ (fun v => Below w.heap.size w v ∧ BK v (w.heap.size) [.slice A m ca, .slice Q n cq, .int .i64 K, .int .i64 2, .int .i64 x, .int .i64 y, .bool b] ∧ v.heap.size = w.heap.size + 1) ⟨(below_al (Below.refl _ _) _), (by have b := (BK.new w [.slice A m ca, .slice Q n cq, .int .i64 K, .int .i64 2, .int .i64 x, .int .i64 y, .bool b] 62); simpa only [World.size_alloc] using b), by simp only [World.size_alloc]⟩ (fun V hS => ?_)
    obtain ⟨hbb, B0, hVs⟩ := hS
    have p0 := B0.c 0 rfl
    have p1 := B0.c 1 rfl
    have p2 := B0.c 2 rfl
    have p3 := B0.c 3 rfl
    have p4 := B0.c 4 rfl
    have p5 := B0.c 5 rfl
    have p6 := B0.c 6 rfl
    clear hVs
    go_wp2_with fail
    refine (CH.out _ hbb).mono ?_
    rintro e w1 ⟨rfl, hb⟩
    clear p0 p1 p2 p3 p4 p5 p6
    replace hbb := keepB hbb hb
    replace B0 := B0.keep hb
    clear hb
    have p0 := B0.c 0 rfl
    have p1 := B0.c 1 rfl
    have p2 := B0.c 2 rfl
    have p3 := B0.c 3 rfl
    have p4 := B0.c 4 rfl
    have p5 := B0.c 5 rfl
    have p6 := B0.c 6 rfl
    go_wp2_with fail
    refine (REA.out _ hbb).mono ?_
    rintro e w2 ⟨A1, m1, ca1, Q1, n1, cq1, l1, rfl, hb, hm1, hn1, hd1, hfd⟩
    have HM1 := Lib.hid hm1
    have HN1 := Lib.hid hn1
    have HD1 := Lib.hid hd1
    clear hm1 hn1 hd1
    clear p0 p1 p2 p3 p4 p5 p6
    replace hbb := keepB hbb hb
    replace B0 := B0.keep hb
    clear hb
    go_upto_region 7 with fail
    refine at_worldQ (fun v => Below w.heap.size w v ∧ BK v w.heap.size [.slice A m ca, .slice Q n cq, .int .i64 K, .int .i64 2, .int .i64 x, .int .i64 y, .bool b] ∧ BK v w2.heap.size [.slice A1 m1 ca1, .slice Q1 n1 cq1, .int .i64 K, .int .i64 2, .int .i64 x, .int .i64 y, .bool b] ∧ IsQs v Q1 L) ⟨below_al hbb _, B0.al _, BK.new _ _ _, hfd.isQs.keep (below_al (Below.refl _ _) _)⟩ (fun V7 hS => ?_)
    clear hbb B0 hfd
    obtain ⟨hbb, B0, B4, hqs⟩ := hS
    have EQ := Lib.hid (fun v (hv : Below V7.heap.size V7 v) => qEqual_eq Q Q1 n n1 cq cq1 L v (HQ.out.keep (keepB hbb hv)) (hqs.keep hv) HN.out HN1.out)
    clear hqs
    have p0 := B0.c 0 rfl
    have p1 := B0.c 1 rfl
    have p2 := B0.c 2 rfl
    have p3 := B0.c 3 rfl
    have p4 := B0.c 4 rfl
    have p5 := B0.c 5 rfl
    have p6 := B0.c 6 rfl
    have r0 := B4.c 0 rfl
    have r1 := B4.c 1 rfl
    have r2 := B4.c 2 rfl
    have r3 := B4.c 3 rfl
    have r4 := B4.c 4 rfl
    have r5 := B4.c 5 rfl
    have r6 := B4.c 6 rfl
    clear e0
    go_wp2_with fail
    refine (EQ.out _ (Below.refl _ _)).mono ?_
    rintro e w3 ⟨rfl, hb⟩
    go_wp2_with fail
    go_ret
    exact ⟨rfl, keepB hbb hb⟩

set_option linter.unusedSimpArgs false in
set_option maxHeartbeats 8000000 in
set_option maxRecDepth 100000 in
theorem next_ok (A : Option Addr) (m ca : Nat) (Q : Option Addr) (n cq : Nat) (K s x y : Int) (b : Bool) (w : World) (D : List CkD) (L2 : List Qr) (s2 x2 y2 : Int) (b2 : Bool) (es : (s == 2) = false) (hCk : ∀ v, Below w.heap.size w v → Calls Try.prog 34 #[.agg #[.slice A m ca, .slice Q n cq, .int .i64 K, .int .i64 s, .int .i64 x, .int .i64 y, .bool b]] v fun e v' => e = .returned (.int .i64 0) ∧ Below v.heap.size v v')
    (hF : ∀ v, Below w.heap.size w v → Calls Try.prog 73 #[.agg #[.slice A m ca, .slice Q n cq, .int .i64 K, .int .i64 s, .int .i64 x, .int .i64 y, .bool b]] v (StQ D L2 K s2 x2 y2 b2 v)) :
    Calls Try.prog 32 #[.agg #[.slice A m ca, .slice Q n cq, .int .i64 K, .int .i64 s, .int .i64 x, .int .i64 y, .bool b]] w (StR D L2 K s2 x2 y2 b2 w) := by
  unfold StQ at hF
  have CKK := Lib.hid hCk
  have FOL := Lib.hid hF
  have e0 : ((0 : Int) != 0) = false := rfl
  clear hCk hF
  go_enter Try.func32, Try.ntmps32
  go_upto_region 1 with fail
  refine at_worldQ (fun v => Below w.heap.size w v ∧ BK v (w.heap.size) [.slice A m ca, .slice Q n cq, .int .i64 K, .int .i64 s, .int .i64 x, .int .i64 y, .bool b] ∧ BK v (w.heap.size + 1) [.slice none 0 0, .slice none 0 0, .int .i64 0, .int .i64 0, .int .i64 0, .int .i64 0, .bool false] ∧ v.heap.size = w.heap.size + 2) ⟨(below_al (below_al (Below.refl _ _) _) _), (by have b := ((BK.new w [.slice A m ca, .slice Q n cq, .int .i64 K, .int .i64 s, .int .i64 x, .int .i64 y, .bool b] 62).al (.cells #[.slice none 0 0, .slice none 0 0, .int .i64 0, .int .i64 0, .int .i64 0, .int .i64 0, .bool false] 62)); simpa only [World.size_alloc] using b), (by have b := (BK.new (w.alloc (.cells #[.slice A m ca, .slice Q n cq, .int .i64 K, .int .i64 s, .int .i64 x, .int .i64 y, .bool b] 62)) [.slice none 0 0, .slice none 0 0, .int .i64 0, .int .i64 0, .int .i64 0, .int .i64 0, .bool false] 62); simpa only [World.size_alloc] using b), by simp only [World.size_alloc]⟩ (fun V hS => ?_)
  obtain ⟨hbb, B0, B1, hVs⟩ := hS
  have p0 := B0.c 0 rfl
  have p1 := B0.c 1 rfl
  have p2 := B0.c 2 rfl
  have p3 := B0.c 3 rfl
  have p4 := B0.c 4 rfl
  have p5 := B0.c 5 rfl
  have p6 := B0.c 6 rfl
  clear hVs
  go_wp2_with fail
  refine (CKK.out _ hbb).mono ?_
  rintro e w1 ⟨rfl, hb⟩
  clear p0 p1 p2 p3 p4 p5 p6
  replace hbb := keepB hbb hb
  replace B0 := B0.keep hb
  replace B1 := B1.keep hb
  clear hb
  have p0 := B0.c 0 rfl
  have p1 := B0.c 1 rfl
  have p2 := B0.c 2 rfl
  have p3 := B0.c 3 rfl
  have p4 := B0.c 4 rfl
  have p5 := B0.c 5 rfl
  have p6 := B0.c 6 rfl
  go_wp2_with fail
  refine (FOL.out _ hbb).mono ?_
  rintro e w2 ⟨A1, m1, ca1, Q1, n1, cq1, l1, rfl, hb, hm1, hn1, hd1, hfd⟩
  have HM1 := Lib.hid hm1
  have HN1 := Lib.hid hn1
  have HD1 := Lib.hid hd1
  clear hm1 hn1 hd1
  have hlt1 := B1.lt
  clear p0 p1 p2 p3 p4 p5 p6 B0 e0 es
  replace hbb := keepB hbb hb
  replace B1 := B1.keep hb
  clear hb
  have hlt := B1.lt
  have ya0 := B1.c 0 rfl
  have ya1 := B1.c 1 rfl
  have ya2 := B1.c 2 rfl
  have ya3 := B1.c 3 rfl
  have ya4 := B1.c 4 rfl
  have ya5 := B1.c 5 rfl
  have ya6 := B1.c 6 rfl
  have yb0 := B1.f 0 rfl
  have yb1 := B1.f 1 rfl
  have yb2 := B1.f 2 rfl
  have yb3 := B1.f 3 rfl
  have yb4 := B1.f 4 rfl
  have yb5 := B1.f 5 rfl
  have yb6 := B1.f 6 rfl
  go_wp2_with fail
  exact bodyPost_ret (v := .tuple #[.agg #[.slice A1 m1 ca1, .slice Q1 n1 cq1, .int .i64 K, .int .i64 s2, .int .i64 x2, .int .i64 y2, .bool b2], .int .i64 0]) (by simp [results, Try.results32, go_sem, ya0, ya1, ya2, ya3, ya4, ya5, ya6]) rfl (StR.mk A1 m1 ca1 Q1 n1 cq1 l1 rfl (below_set (below_set (below_set (below_set (below_set (below_set (below_set hbb (by omega) _) (by omega) _) (by omega) _) (by omega) _) (by omega) _) (by omega) _) (by omega) _) HM1.out HN1.out HD1.out ((((((((hfd.set (by omega) _).set (by omega) _).set (by omega) _).set (by omega) _).set (by omega) _).set (by omega) _).set (by omega) _).mono (by omega)))
set_option linter.unusedSimpArgs false in
set_option maxHeartbeats 8000000 in
set_option maxRecDepth 100000 in
theorem next_end (A : Option Addr) (m ca : Nat) (Q : Option Addr) (n cq : Nat) (K x y : Int) (b : Bool) (w : World) (hCk : ∀ v, Below w.heap.size w v → Calls Try.prog 34 #[.agg #[.slice A m ca, .slice Q n cq, .int .i64 K, .int .i64 2, .int .i64 x, .int .i64 y, .bool b]] v fun e v' => e = .returned (.int .i64 0) ∧ Below v.heap.size v v') :
    Calls Try.prog 32 #[.agg #[.slice A m ca, .slice Q n cq, .int .i64 K, .int .i64 2, .int .i64 x, .int .i64 y, .bool b]] w fun e w' => e = .returned (.tuple #[.agg #[.slice none 0 0, .slice none 0 0, .int .i64 0, .int .i64 0, .int .i64 0, .int .i64 0, .bool false], .int .i64 36]) ∧ Below w.heap.size w w' := by
  have CKK := Lib.hid hCk
  have e0 : ((0 : Int) != 0) = false := rfl
  clear hCk
  go_enter Try.func32, Try.ntmps32
  go_upto_region 1 with fail
  refine at_worldQ (fun v => Below w.heap.size w v ∧ BK v (w.heap.size) [.slice A m ca, .slice Q n cq, .int .i64 K, .int .i64 2, .int .i64 x, .int .i64 y, .bool b] ∧ BK v (w.heap.size + 1) [.slice none 0 0, .slice none 0 0, .int .i64 0, .int .i64 0, .int .i64 0, .int .i64 0, .bool false] ∧ v.heap.size = w.heap.size + 2) ⟨(below_al (below_al (Below.refl _ _) _) _), (by have b := ((BK.new w [.slice A m ca, .slice Q n cq, .int .i64 K, .int .i64 2, .int .i64 x, .int .i64 y, .bool b] 62).al (.cells #[.slice none 0 0, .slice none 0 0, .int .i64 0, .int .i64 0, .int .i64 0, .int .i64 0, .bool false] 62)); simpa only [World.size_alloc] using b), (by have b := (BK.new (w.alloc (.cells #[.slice A m ca, .slice Q n cq, .int .i64 K, .int .i64 2, .int .i64 x, .int .i64 y, .bool b] 62)) [.slice none 0 0, .slice none 0 0, .int .i64 0, .int .i64 0, .int .i64 0, .int .i64 0, .bool false] 62); simpa only [World.size_alloc] using b), by simp only [World.size_alloc]⟩ (fun V hS => ?_)
  obtain ⟨hbb, B0, B1, hVs⟩ := hS
  have p0 := B0.c 0 rfl
  have p1 := B0.c 1 rfl
  have p2 := B0.c 2 rfl
  have p3 := B0.c 3 rfl
  have p4 := B0.c 4 rfl
  have p5 := B0.c 5 rfl
  have p6 := B0.c 6 rfl
  clear hVs
  go_wp2_with fail
  refine (CKK.out _ hbb).mono ?_
  rintro e w1 ⟨rfl, hb⟩
  clear p0 p1 p2 p3 p4 p5 p6
  replace hbb := keepB hbb hb
  replace B0 := B0.keep hb
  replace B1 := B1.keep hb
  clear hb
  have p0 := B0.c 0 rfl
  have p1 := B0.c 1 rfl
  have p2 := B0.c 2 rfl
  have p3 := B0.c 3 rfl
  have p4 := B0.c 4 rfl
  have p5 := B0.c 5 rfl
  have p6 := B0.c 6 rfl
  have ya0 := B1.c 0 rfl
  have ya1 := B1.c 1 rfl
  have ya2 := B1.c 2 rfl
  have ya3 := B1.c 3 rfl
  have ya4 := B1.c 4 rfl
  have ya5 := B1.c 5 rfl
  have ya6 := B1.c 6 rfl
  have yb0 := B1.f 0 rfl
  have yb1 := B1.f 1 rfl
  have yb2 := B1.f 2 rfl
  have yb3 := B1.f 3 rfl
  have yb4 := B1.f 4 rfl
  have yb5 := B1.f 5 rfl
  have yb6 := B1.f 6 rfl
  go_wp2_with fail
  exact bodyPost_ret (v := .tuple #[.agg #[.slice none 0 0, .slice none 0 0, .int .i64 0, .int .i64 0, .int .i64 0, .int .i64 0, .bool false], .int .i64 36]) (by simp [results, Try.results32, go_sem, ya0, ya1, ya2, ya3, ya4, ya5, ya6]) rfl ⟨rfl, (below_set (below_set (below_set (below_set (below_set (below_set (below_set hbb (by omega) _) (by omega) _) (by omega) _) (by omega) _) (by omega) _) (by omega) _) (by omega) _)⟩
set_option linter.unusedSimpArgs false in
set_option maxHeartbeats 8000000 in
set_option maxRecDepth 100000 in
theorem division_ok (A : Option Addr) (m ca : Nat) (Q : Option Addr) (n cq : Nat) (K x y : Int) (b : Bool) (w : World) (a0 b0 c0 d0 a1 b1 c1 d1 : Int) (hCk : ∀ v, Below w.heap.size w v → Calls Try.prog 34 #[.agg #[.slice A m ca, .slice Q n cq, .int .i64 K, .int .i64 2, .int .i64 x, .int .i64 y, .bool b]] v fun e v' => e = .returned (.int .i64 0) ∧ Below v.heap.size v v')
    (hD : ∀ v, Below w.heap.size w v → Calls Try.prog 72 #[.agg #[.slice A m ca, .slice Q n cq, .int .i64 K, .int .i64 2, .int .i64 x, .int .i64 y, .bool b]] v (DivQ a0 b0 c0 d0 a1 b1 c1 d1 v)) :
    Calls Try.prog 31 #[.agg #[.slice A m ca, .slice Q n cq, .int .i64 K, .int .i64 2, .int .i64 x, .int .i64 y, .bool b]] w fun e w' => ∃ P g0 g1, e = .returned (.tuple #[.agg #[.slice (some ⟨P, 0, none⟩) 2 2], .int .i64 0]) ∧ Below w.heap.size w w' ∧ DivB 0 P g0 g1 a0 b0 c0 d0 a1 b1 c1 d1 w' := by
  unfold DivQ at hD
  have CKK := Lib.hid hCk
  have DVD := Lib.hid hD
  have e0 : ((0 : Int) != 0) = false := rfl
  have e2 : ((2 : Int) != 2) = false := rfl
  clear hCk hD
  go_enter Try.func31, Try.ntmps31
  go_upto_region 1 with fail
  refine at_worldQ (fun v => Below w.heap.size w v ∧ BK v (w.heap.size) [.slice A m ca, .slice Q n cq, .int .i64 K, .int .i64 2, .int .i64 x, .int .i64 y, .bool b] ∧ BK v (w.heap.size + 1) [.slice none 0 0] ∧ v.heap.size = w.heap.size + 2) ⟨(below_al (below_al (Below.refl _ _) _) _), (by have b := ((BK.new w [.slice A m ca, .slice Q n cq, .int .i64 K, .int .i64 2, .int .i64 x, .int .i64 y, .bool b] 62).al (.cells #[.slice none 0 0] 67)); simpa only [World.size_alloc] using b), (by have b := (BK.new (w.alloc (.cells #[.slice A m ca, .slice Q n cq, .int .i64 K, .int .i64 2, .int .i64 x, .int .i64 y, .bool b] 62)) [.slice none 0 0] 67); simpa only [World.size_alloc] using b), by simp only [World.size_alloc]⟩ (fun V hS => ?_)
  obtain ⟨hbb, B0, B1, hVs⟩ := hS
  have p0 := B0.c 0 rfl
  have p1 := B0.c 1 rfl
  have p2 := B0.c 2 rfl
  have p3 := B0.c 3 rfl
  have p4 := B0.c 4 rfl
  have p5 := B0.c 5 rfl
  have p6 := B0.c 6 rfl
  clear hVs
  go_wp2_with fail
  refine (CKK.out _ hbb).mono ?_
  rintro e w1 ⟨rfl, hb⟩
  clear p0 p1 p2 p3 p4 p5 p6
  replace hbb := keepB hbb hb
  replace B0 := B0.keep hb
  replace B1 := B1.keep hb
  clear hb
  have p0 := B0.c 0 rfl
  have p1 := B0.c 1 rfl
  have p2 := B0.c 2 rfl
  have p3 := B0.c 3 rfl
  have p4 := B0.c 4 rfl
  have p5 := B0.c 5 rfl
  have p6 := B0.c 6 rfl
  go_wp2_with fail
  refine (DVD.out _ hbb).mono ?_
  rintro e w2 ⟨P, g0, g1, rfl, hb, hdv⟩
  have hlt1 := B1.lt
  clear p0 p1 p2 p3 p4 p5 p6 B0 e0 e2
  replace hbb := keepB hbb hb
  replace B1 := B1.keep hb
  clear hb
  have hlt := B1.lt
  have ya0 := B1.c 0 rfl
  have yb0 := B1.f 0 rfl
  go_wp2_with fail
  exact bodyPost_ret (v := .tuple #[.agg #[.slice (some ⟨P, 0, none⟩) 2 2], .int .i64 0]) (by simp [results, Try.results31, go_sem, ya0]) rfl ⟨P, g0, g1, rfl, (below_set hbb (by omega) _), (hdv.set (by omega) _).mono (Nat.zero_le _)⟩
set_option linter.unusedSimpArgs false in
set_option maxHeartbeats 8000000 in
set_option maxRecDepth 100000 in
theorem start_ok (A : Option Addr) (m ca : Nat) (K x y : Int) (b : Bool) (D : List CkD) (L : List Qr) (w : World) (hR : ∀ v, Below w.heap.size w v → Calls Try.prog 71 #[.slice A m ca, .int .i64 K, .int .i64 0] v (StR D L K 0 x y b v)) :
    Calls Try.prog 29 #[.slice A m ca, .int .i64 K] w (StR D L K 0 x y b w) := by
  unfold StR at hR
  have REA := Lib.hid hR
  clear hR
  go_enter Try.func29, Try.ntmps29
  go_upto_region 1 with fail
  refine at_worldQ (fun v => Below w.heap.size w v ∧ BK v (w.heap.size) [.slice none 0 0, .slice none 0 0, .int .i64 0, .int .i64 0, .int .i64 0, .int .i64 0, .bool false] ∧ v.heap.size = w.heap.size + 1) ⟨(below_al (Below.refl _ _) _), (by have b := (BK.new w [.slice none 0 0, .slice none 0 0, .int .i64 0, .int .i64 0, .int .i64 0, .int .i64 0, .bool false] 62); simpa only [World.size_alloc] using b), by simp only [World.size_alloc]⟩ (fun V hS => ?_)
  obtain ⟨hbb, B0, hVs⟩ := hS
  clear hVs
  go_wp2_with fail
  refine (REA.out _ hbb).mono ?_
  rintro e w2 ⟨A1, m1, ca1, Q1, n1, cq1, l1, rfl, hb, hm1, hn1, hd1, hfd⟩
  have HM1 := Lib.hid hm1
  have HN1 := Lib.hid hn1
  have HD1 := Lib.hid hd1
  clear hm1 hn1 hd1
  have hlt1 := B0.lt
  replace hbb := keepB hbb hb
  replace B0 := B0.keep hb
  clear hb
  have hlt := B0.lt
  have ya0 := B0.c 0 rfl
  have ya1 := B0.c 1 rfl
  have ya2 := B0.c 2 rfl
  have ya3 := B0.c 3 rfl
  have ya4 := B0.c 4 rfl
  have ya5 := B0.c 5 rfl
  have ya6 := B0.c 6 rfl
  have yb0 := B0.f 0 rfl
  have yb1 := B0.f 1 rfl
  have yb2 := B0.f 2 rfl
  have yb3 := B0.f 3 rfl
  have yb4 := B0.f 4 rfl
  have yb5 := B0.f 5 rfl
  have yb6 := B0.f 6 rfl
  go_wp2_with fail
  exact bodyPost_ret (v := .tuple #[.agg #[.slice A1 m1 ca1, .slice Q1 n1 cq1, .int .i64 K, .int .i64 0, .int .i64 x, .int .i64 y, .bool b], .int .i64 0]) (by simp [results, Try.results29, go_sem, ya0, ya1, ya2, ya3, ya4, ya5, ya6]) rfl (StR.mk A1 m1 ca1 Q1 n1 cq1 l1 rfl (below_set (below_set (below_set (below_set (below_set (below_set (below_set hbb (by omega) _) (by omega) _) (by omega) _) (by omega) _) (by omega) _) (by omega) _) (by omega) _) HM1.out HN1.out HD1.out ((((((((hfd.set (by omega) _).set (by omega) _).set (by omega) _).set (by omega) _).set (by omega) _).set (by omega) _).set (by omega) _).mono (by omega)))
end Go.Proofs.Ytnnpmegknlgkoaa

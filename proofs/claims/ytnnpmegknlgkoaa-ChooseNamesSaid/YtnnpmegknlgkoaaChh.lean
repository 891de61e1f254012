/- What the law of package choose asks: Same of equal pieces, two, piece. -/
import Derived.Test.YtnnpmegknlgkoaaGp
namespace Go.Proofs.Ytnnpmegknlgkoaa
open Go.RowKit
set_option linter.unusedSimpArgs false in
set_option maxHeartbeats 8000000 in
set_option maxRecDepth 100000 in
theorem same1_eq (g h : Nat) (a b c d : Int) (w : World) (B1 : BK w g [.int .i64 a, .int .i64 b, .int .i64 c, .int .i64 d]) (B2 : BK w h [.int .i64 a, .int .i64 b, .int .i64 c, .int .i64 d]) :
    Calls Try.prog 53 #[.slice (some ⟨g, 0, none⟩) 1 1, .slice (some ⟨h, 0, none⟩) 1 1] w fun e w' => e = .returned (.bool true) ∧ Below w.heap.size w w' := by
  have HB1 := Lib.hid B1
  have HB2 := Lib.hid B2
  clear B1 B2
  go_enter Try.func53, Try.ntmps53
  go_wp2_with fail
  go_loopw [5] (fun i W => ∃ k : Nat, k ≤ 1 ∧ i = .int .i64 k ∧ Below w.heap.size w W) (fun i _ => 1 - (intOf i).toNat)
  case atStart => exact ⟨0, by omega, rfl, Below.refl _ _⟩
  case round =>
    obtain ⟨k, hk, rfl, hbb⟩ := hrel
    rcases (show k = 0 ∨ k = 1 by omega) with rfl | rfl
    · go_upto_region 6 with fail
      refine at_worldQ (fun v => Below w.heap.size w v) hbb (fun V hS => ?_)
      clear hbb
      have hbb := hS
      clear hS
      have c0 := keepC hbb (HB1.out.c 0 rfl)
      have c1 := keepC hbb (HB1.out.c 1 rfl)
      have c2 := keepC hbb (HB1.out.c 2 rfl)
      have c3 := keepC hbb (HB1.out.c 3 rfl)
      have d0 := keepC hbb (HB2.out.c 0 rfl)
      have d1 := keepC hbb (HB2.out.c 1 rfl)
      have d2 := keepC hbb (HB2.out.c 2 rfl)
      have d3 := keepC hbb (HB2.out.c 3 rfl)
      refine wp_region_noPanic ?_
      refine wp_region_held_drew (S := (Below V.heap.size V)) (by kernel_rfl) ((Below.refl _ _).drew) (fun hHeld => ?_)
      refine at_anyH (Below V.heap.size V) hHeld (fun wq0 hNew => ?_)
      clear hHeld
      have hHeld := hNew
      clear hNew
      refine wpAnyH_take (i := 0) (oi := _) (v := ?vq1) rfl (by kernel_rfl) (by kernel_rfl) (by kernel_rfl) (fun _ _ _ h => h) (Or.inl ⟨by kernel_rfl, ?hyq1⟩) hHeld ?restq1
      case hyq1 => (intro w hSw; go_simp; first | done | (with_reducible rfl))
      try simp only [Act.put, PA, PB]
      refine wpAnyH_take (i := 1) (oi := _) (v := ?vq2) rfl (by kernel_rfl) (by kernel_rfl) (by kernel_rfl) (fun _ _ _ h => h) (Or.inl ⟨by kernel_rfl, ?hyq2⟩) hHeld ?restq2
      case hyq2 => (intro w hSw; go_simp; first | done | (with_reducible rfl))
      try simp only [Act.put, PA, PB]
      refine wpAnyH_take (i := 2) (oi := _) (v := ?vq3) rfl (by kernel_rfl) (by kernel_rfl) (by kernel_rfl) (fun _ _ _ h => h) (Or.inl ⟨by kernel_rfl, ?hyq3⟩) hHeld ?restq3
      case hyq3 => (intro w hSw; go_simp; first | done | (with_reducible rfl))
      try simp only [Act.put, PA, PB]
      refine wpAnyH_take (i := 3) (oi := _) (v := ?vq4) rfl (by kernel_rfl) (by kernel_rfl) (by kernel_rfl) (fun _ _ _ h => h) (Or.inl ⟨by kernel_rfl, ?hyq4⟩) hHeld ?restq4
      case hyq4 => (intro w hSw; have kc0 := keepC hSw c0; have kc1 := keepC hSw c1; have kc2 := keepC hSw c2; have kc3 := keepC hSw c3; have kd0 := keepC hSw d0; have kd1 := keepC hSw d1; have kd2 := keepC hSw d2; have kd3 := keepC hSw d3; go_simp; first | done | (with_reducible rfl))
      try simp only [Act.put, PA, PB]
      refine wpAnyH_take (i := 4) (oi := _) (v := ?vq5) rfl (by kernel_rfl) (by kernel_rfl) (by kernel_rfl) (fun _ _ _ h => h) (Or.inl ⟨by kernel_rfl, ?hyq5⟩) hHeld ?restq5
      case hyq5 => (intro w hSw; go_simp; first | done | (with_reducible rfl))
      try simp only [Act.put, PA, PB]
      refine wpAnyH_take (i := 5) (oi := _) (v := ?vq6) rfl (by kernel_rfl) (by kernel_rfl) (by kernel_rfl) (fun _ _ _ h => h) (Or.inl ⟨by kernel_rfl, ?hyq6⟩) hHeld ?restq6
      case hyq6 => (intro w hSw; go_simp; first | done | (with_reducible rfl))
      try simp only [Act.put, PA, PB]
      refine wpAnyH_take (i := 6) (oi := _) (v := ?vq7) rfl (by kernel_rfl) (by kernel_rfl) (by kernel_rfl) (fun _ _ _ h => h) (Or.inl ⟨by kernel_rfl, ?hyq7⟩) hHeld ?restq7
      case hyq7 => (intro w hSw; go_simp; first | done | (with_reducible rfl))
      try simp only [Act.put, PA, PB]
      refine wpAnyH_take (i := 7) (oi := _) (v := ?vq8) rfl (by kernel_rfl) (by kernel_rfl) (by kernel_rfl) (fun _ _ _ h => h) (Or.inl ⟨by kernel_rfl, ?hyq8⟩) hHeld ?restq8
      case hyq8 => (intro w hSw; have kc0 := keepC hSw c0; have kc1 := keepC hSw c1; have kc2 := keepC hSw c2; have kc3 := keepC hSw c3; have kd0 := keepC hSw d0; have kd1 := keepC hSw d1; have kd2 := keepC hSw d2; have kd3 := keepC hSw d3; go_simp; first | done | (with_reducible rfl))
      try simp only [Act.put, PA, PB]
      refine wpAnyH_take (i := 8) (oi := _) (v := ?vq9) rfl (by kernel_rfl) (by kernel_rfl) (by kernel_rfl) (fun _ _ _ h => h) (Or.inl ⟨by kernel_rfl, ?hyq9⟩) hHeld ?restq9
      case hyq9 => (intro w hSw; go_simp; first | done | (with_reducible rfl))
      try simp only [Act.put, PA, PB]
      refine wpAnyH_done (by kernel_rfl) ?_ _
      refine NoPanic.normal ?_
      skip
      replace hbb := keepB hbb hHeld
      clear hHeld
      go_wp2_with fail
      go_roundw
      case rel => exact ⟨1, by omega, by go_num, hbb⟩
      case measure => simp [intOf]
    · go_wp2_with fail
      go_ret
      exact ⟨rfl, hbb⟩
set_option linter.unusedSimpArgs false in
set_option maxHeartbeats 8000000 in
set_option maxRecDepth 100000 in
theorem sameDiv_eq (P R B B' g0 g1 h0 h1 : Nat) (a0 b0 c0 d0 a1 b1 c1 d1 : Int) (w : World) (hA : DivB B P g0 g1 a0 b0 c0 d0 a1 b1 c1 d1 w) (hB : DivB B' R h0 h1 a0 b0 c0 d0 a1 b1 c1 d1 w) :
    Calls Try.prog 75 #[.agg #[.slice (some ⟨P, 0, none⟩) 2 2], .agg #[.slice (some ⟨R, 0, none⟩) 2 2]] w fun e w' => e = .returned (.bool true) ∧ Below w.heap.size w w' := by
  have s0 := fun v (hv : Below w.heap.size w v) => same1_eq g0 h0 a0 b0 c0 d0 v (hA.s0.keep hv) (hB.s0.keep hv)
  have s1 := fun v (hv : Below w.heap.size w v) => same1_eq g1 h1 a1 b1 c1 d1 v (hA.s1.keep hv) (hB.s1.keep hv)
  have S0 := Lib.hid s0
  have S1 := Lib.hid s1
  have HP0 := Lib.hid (hA.p.c 0 rfl)
  have HP1 := Lib.hid (hA.p.c 1 rfl)
  have HQ0 := Lib.hid (hB.p.c 0 rfl)
  have HQ1 := Lib.hid (hB.p.c 1 rfl)
  clear s0 s1 hA hB
  go_enter Try.func75, Try.ntmps75
  go_upto_region 1 with fail
  refine at_worldQ (fun v => Below w.heap.size w v ∧ BK v (w.heap.size) [.slice (some ⟨P, 0, none⟩) 2 2] ∧ BK v (w.heap.size + 1) [.slice (some ⟨R, 0, none⟩) 2 2] ∧ v.heap.size = w.heap.size + 2) ⟨(below_al (below_al (Below.refl _ _) _) _), (by have b := ((BK.new w [.slice (some ⟨P, 0, none⟩) 2 2] 67).al (.cells #[.slice (some ⟨R, 0, none⟩) 2 2] 67)); simpa only [World.size_alloc] using b), (by have b := (BK.new (w.alloc (.cells #[.slice (some ⟨P, 0, none⟩) 2 2] 67)) [.slice (some ⟨R, 0, none⟩) 2 2] 67); simpa only [World.size_alloc] using b), by simp only [World.size_alloc]⟩ (fun V hS => ?_)
  obtain ⟨hbb, B0, B1, hVs⟩ := hS
  have BX := B0
  have BY := B1
  clear B0 B1 hVs
  have x0 := BX.c 0 rfl
  have y0 := BY.c 0 rfl
  go_wp2_with fail
  clear x0 y0
  go_loopw [5] (fun i W => ∃ k : Nat, k ≤ 2 ∧ i = .int .i64 k ∧ Below w.heap.size w W ∧ BK W w.heap.size [.slice (some ⟨P, 0, none⟩) 2 2] ∧ BK W (w.heap.size + 1) [.slice (some ⟨R, 0, none⟩) 2 2]) (fun i _ => 2 - (intOf i).toNat)
  case atStart => exact ⟨0, by omega, rfl, hbb, BX, BY⟩
  case round =>
    clear hbb BX BY
    obtain ⟨k, hk, rfl, hbb, BX, BY⟩ := hrel
    rcases (show k = 0 ∨ k = 1 ∨ k = 2 by omega) with rfl | rfl | rfl
    · have x0 := BX.c 0 rfl
      have y0 := BY.c 0 rfl
      have p0 := keepC hbb HP0.out
      have p1 := keepC hbb HP1.out
      have q0 := keepC hbb HQ0.out
      have q1 := keepC hbb HQ1.out
      go_upto_region 6 with fail
      refine at_worldQ (fun v => Below w.heap.size w v ∧ BK v w.heap.size [.slice (some ⟨P, 0, none⟩) 2 2] ∧ BK v (w.heap.size + 1) [.slice (some ⟨R, 0, none⟩) 2 2]) ⟨hbb, BX, BY⟩ (fun V6 hS => ?_)
      clear hbb BX BY x0 y0 p0 p1 q0 q1
      obtain ⟨hbb, BX, BY⟩ := hS
      have x0 := BX.c 0 rfl
      have y0 := BY.c 0 rfl
      have p0 := keepC hbb HP0.out
      have p1 := keepC hbb HP1.out
      have q0 := keepC hbb HQ0.out
      have q1 := keepC hbb HQ1.out
      refine wp_region_noPanic ?_
      refine wp_region_held_drew (S := (Below V6.heap.size V6)) (by kernel_rfl) ((Below.refl _ _).drew) (fun hHeld => ?_)
      refine at_anyH (Below V6.heap.size V6) hHeld (fun wr00 hNew => ?_)
      clear hHeld
      have hHeld := hNew
      clear hNew
      refine wpAnyH_take (i := 0) (oi := _) (v := ?vr01) rfl (by kernel_rfl) (by kernel_rfl) (by kernel_rfl) (fun _ _ _ h => h) (Or.inl ⟨by kernel_rfl, ?hyr01⟩) hHeld ?restr01
      case hyr01 => (intro w hSw; go_simp; first | done | (with_reducible rfl))
      try simp only [Act.put, PA, PB]
      refine wpAnyH_take (i := 1) (oi := _) (v := ?vr02) rfl (by kernel_rfl) (by kernel_rfl) (by kernel_rfl) (fun _ _ _ h => h) (Or.inl ⟨by kernel_rfl, ?hyr02⟩) hHeld ?restr02
      case hyr02 => (intro w hSw; have kx0 := keepC hSw x0; have ky0 := keepC hSw y0; have kp0 := keepC hSw p0; have kp1 := keepC hSw p1; have kq0 := keepC hSw q0; have kq1 := keepC hSw q1; go_simp; first | done | (with_reducible rfl))
      try simp only [Act.put, PA, PB]
      refine wpAnyH_take (i := 2) (oi := _) (v := ?vr03) rfl (by kernel_rfl) (by kernel_rfl) (by kernel_rfl) (fun _ _ _ h => h) (Or.inl ⟨by kernel_rfl, ?hyr03⟩) hHeld ?restr03
      case hyr03 => (intro w hSw; go_simp; first | done | (with_reducible rfl))
      try simp only [Act.put, PA, PB]
      refine wpAnyH_take (i := 3) (oi := _) (v := ?vr04) rfl (by kernel_rfl) (by kernel_rfl) (by kernel_rfl) (fun _ _ _ h => h) (Or.inl ⟨by kernel_rfl, ?hyr04⟩) hHeld ?restr04
      case hyr04 => (intro w hSw; go_simp; first | done | (with_reducible rfl))
      try simp only [Act.put, PA, PB]
      refine wpAnyH_take (i := 4) (oi := _) (v := ?vr05) rfl (by kernel_rfl) (by kernel_rfl) (by kernel_rfl) (fun _ _ _ h => h) (Or.inl ⟨by kernel_rfl, ?hyr05⟩) hHeld ?restr05
      case hyr05 => (intro w hSw; have kx0 := keepC hSw x0; have ky0 := keepC hSw y0; have kp0 := keepC hSw p0; have kp1 := keepC hSw p1; have kq0 := keepC hSw q0; have kq1 := keepC hSw q1; go_simp; first | done | (with_reducible rfl))
      try simp only [Act.put, PA, PB]
      refine wpAnyH_take (i := 5) (oi := _) (v := ?vr06) rfl (by kernel_rfl) (by kernel_rfl) (by kernel_rfl) (fun _ _ _ h => h) (Or.inl ⟨by kernel_rfl, ?hyr06⟩) hHeld ?restr06
      case hyr06 => (intro w hSw; go_simp; first | done | (with_reducible rfl))
      try simp only [Act.put, PA, PB]
      refine wpAnyH_take (i := 6) (oi := _) (v := ?vr07) rfl (by kernel_rfl) (by kernel_rfl) (by kernel_rfl) (fun _ _ _ h => h) (Or.inl ⟨by kernel_rfl, ?hyr07⟩) hHeld ?restr07
      case hyr07 => (intro w hSw; have kx0 := keepC hSw x0; have ky0 := keepC hSw y0; have kp0 := keepC hSw p0; have kp1 := keepC hSw p1; have kq0 := keepC hSw q0; have kq1 := keepC hSw q1; go_simp; first | done | (with_reducible rfl))
      try simp only [Act.put, PA, PB]
      refine wpAnyH_take (i := 7) (oi := _) (v := ?vr08) rfl (by kernel_rfl) (by kernel_rfl) (by kernel_rfl) (fun _ _ _ h => h) (Or.inl ⟨by kernel_rfl, ?hyr08⟩) hHeld ?restr08
      case hyr08 => (intro w hSw; go_simp; first | done | (with_reducible rfl))
      try simp only [Act.put, PA, PB]
      refine wpAnyH_take (i := 8) (oi := _) (v := ?vr09) rfl (by kernel_rfl) (by kernel_rfl) (by kernel_rfl) (fun _ _ _ h => h) (Or.inl ⟨by kernel_rfl, ?hyr09⟩) hHeld ?restr09
      case hyr09 => (intro w hSw; go_simp; first | done | (with_reducible rfl))
      try simp only [Act.put, PA, PB]
      refine wpAnyH_take (i := 9) (oi := _) (v := ?vr010) rfl (by kernel_rfl) (by kernel_rfl) (by kernel_rfl) (fun _ _ _ h => h) (Or.inl ⟨by kernel_rfl, ?hyr010⟩) hHeld ?restr010
      case hyr010 => (intro w hSw; have kx0 := keepC hSw x0; have ky0 := keepC hSw y0; have kp0 := keepC hSw p0; have kp1 := keepC hSw p1; have kq0 := keepC hSw q0; have kq1 := keepC hSw q1; go_simp; first | done | (with_reducible rfl))
      try simp only [Act.put, PA, PB]
      refine wpAnyH_ready (rs := [10]) (by kernel_rfl) (by simp) (AllReadyH.cons (o := _) rfl (fun K hK => ?_) AllReadyH.nil)
      go_simp
      refine (S0.out _ (hbb.trans (hHeld.mono hbb.size))).mono ?_
      rintro e wr011 ⟨rfl, hb3⟩
      go_wp2_with fail
      refine hK.out _ _ (keepB hHeld hb3) (fun hNew => ?_)
      clear hb3
      clear hHeld hK K
      have hHeld := hNew
      clear hNew
      try simp only [Act.put, PA, PB]
      refine wpAnyH_take (i := 11) (oi := _) (v := ?vr012) rfl (by kernel_rfl) (by kernel_rfl) (by kernel_rfl) (fun _ _ _ h => h) (Or.inl ⟨by kernel_rfl, ?hyr012⟩) hHeld ?restr012
      case hyr012 => (intro w hSw; go_simp; first | done | (with_reducible rfl))
      try simp only [Act.put, PA, PB]
      refine wpAnyH_done (by kernel_rfl) ?_ _
      refine NoPanic.normal ?_
      skip
      replace BX := BX.keep hHeld
      replace BY := BY.keep hHeld
      replace hbb := keepB hbb hHeld
      clear hHeld x0 y0 p0 p1 q0 q1
      go_wp2_with fail
      go_roundw
      case rel => exact ⟨1, by omega, by go_num, hbb, BX, BY⟩
      case measure => simp [intOf]

    · have x0 := BX.c 0 rfl
      have y0 := BY.c 0 rfl
      have p0 := keepC hbb HP0.out
      have p1 := keepC hbb HP1.out
      have q0 := keepC hbb HQ0.out
      have q1 := keepC hbb HQ1.out
      go_upto_region 6 with fail
      refine at_worldQ (fun v => Below w.heap.size w v ∧ BK v w.heap.size [.slice (some ⟨P, 0, none⟩) 2 2] ∧ BK v (w.heap.size + 1) [.slice (some ⟨R, 0, none⟩) 2 2]) ⟨hbb, BX, BY⟩ (fun V6 hS => ?_)
      clear hbb BX BY x0 y0 p0 p1 q0 q1
      obtain ⟨hbb, BX, BY⟩ := hS
      have x0 := BX.c 0 rfl
      have y0 := BY.c 0 rfl
      have p0 := keepC hbb HP0.out
      have p1 := keepC hbb HP1.out
      have q0 := keepC hbb HQ0.out
      have q1 := keepC hbb HQ1.out
      refine wp_region_noPanic ?_
      refine wp_region_held_drew (S := (Below V6.heap.size V6)) (by kernel_rfl) ((Below.refl _ _).drew) (fun hHeld => ?_)
      refine at_anyH (Below V6.heap.size V6) hHeld (fun wr10 hNew => ?_)
      clear hHeld
      have hHeld := hNew
      clear hNew
      refine wpAnyH_take (i := 0) (oi := _) (v := ?vr11) rfl (by kernel_rfl) (by kernel_rfl) (by kernel_rfl) (fun _ _ _ h => h) (Or.inl ⟨by kernel_rfl, ?hyr11⟩) hHeld ?restr11
      case hyr11 => (intro w hSw; go_simp; first | done | (with_reducible rfl))
      try simp only [Act.put, PA, PB]
      refine wpAnyH_take (i := 1) (oi := _) (v := ?vr12) rfl (by kernel_rfl) (by kernel_rfl) (by kernel_rfl) (fun _ _ _ h => h) (Or.inl ⟨by kernel_rfl, ?hyr12⟩) hHeld ?restr12
      case hyr12 => (intro w hSw; have kx0 := keepC hSw x0; have ky0 := keepC hSw y0; have kp0 := keepC hSw p0; have kp1 := keepC hSw p1; have kq0 := keepC hSw q0; have kq1 := keepC hSw q1; go_simp; first | done | (with_reducible rfl))
      try simp only [Act.put, PA, PB]
      refine wpAnyH_take (i := 2) (oi := _) (v := ?vr13) rfl (by kernel_rfl) (by kernel_rfl) (by kernel_rfl) (fun _ _ _ h => h) (Or.inl ⟨by kernel_rfl, ?hyr13⟩) hHeld ?restr13
      case hyr13 => (intro w hSw; go_simp; first | done | (with_reducible rfl))
      try simp only [Act.put, PA, PB]
      refine wpAnyH_take (i := 3) (oi := _) (v := ?vr14) rfl (by kernel_rfl) (by kernel_rfl) (by kernel_rfl) (fun _ _ _ h => h) (Or.inl ⟨by kernel_rfl, ?hyr14⟩) hHeld ?restr14
      case hyr14 => (intro w hSw; go_simp; first | done | (with_reducible rfl))
      try simp only [Act.put, PA, PB]
      refine wpAnyH_take (i := 4) (oi := _) (v := ?vr15) rfl (by kernel_rfl) (by kernel_rfl) (by kernel_rfl) (fun _ _ _ h => h) (Or.inl ⟨by kernel_rfl, ?hyr15⟩) hHeld ?restr15
      case hyr15 => (intro w hSw; have kx0 := keepC hSw x0; have ky0 := keepC hSw y0; have kp0 := keepC hSw p0; have kp1 := keepC hSw p1; have kq0 := keepC hSw q0; have kq1 := keepC hSw q1; go_simp; first | done | (with_reducible rfl))
      try simp only [Act.put, PA, PB]
      refine wpAnyH_take (i := 5) (oi := _) (v := ?vr16) rfl (by kernel_rfl) (by kernel_rfl) (by kernel_rfl) (fun _ _ _ h => h) (Or.inl ⟨by kernel_rfl, ?hyr16⟩) hHeld ?restr16
      case hyr16 => (intro w hSw; go_simp; first | done | (with_reducible rfl))
      try simp only [Act.put, PA, PB]
      refine wpAnyH_take (i := 6) (oi := _) (v := ?vr17) rfl (by kernel_rfl) (by kernel_rfl) (by kernel_rfl) (fun _ _ _ h => h) (Or.inl ⟨by kernel_rfl, ?hyr17⟩) hHeld ?restr17
      case hyr17 => (intro w hSw; have kx0 := keepC hSw x0; have ky0 := keepC hSw y0; have kp0 := keepC hSw p0; have kp1 := keepC hSw p1; have kq0 := keepC hSw q0; have kq1 := keepC hSw q1; go_simp; first | done | (with_reducible rfl))
      try simp only [Act.put, PA, PB]
      refine wpAnyH_take (i := 7) (oi := _) (v := ?vr18) rfl (by kernel_rfl) (by kernel_rfl) (by kernel_rfl) (fun _ _ _ h => h) (Or.inl ⟨by kernel_rfl, ?hyr18⟩) hHeld ?restr18
      case hyr18 => (intro w hSw; go_simp; first | done | (with_reducible rfl))
      try simp only [Act.put, PA, PB]
      refine wpAnyH_take (i := 8) (oi := _) (v := ?vr19) rfl (by kernel_rfl) (by kernel_rfl) (by kernel_rfl) (fun _ _ _ h => h) (Or.inl ⟨by kernel_rfl, ?hyr19⟩) hHeld ?restr19
      case hyr19 => (intro w hSw; go_simp; first | done | (with_reducible rfl))
      try simp only [Act.put, PA, PB]
      refine wpAnyH_take (i := 9) (oi := _) (v := ?vr110) rfl (by kernel_rfl) (by kernel_rfl) (by kernel_rfl) (fun _ _ _ h => h) (Or.inl ⟨by kernel_rfl, ?hyr110⟩) hHeld ?restr110
      case hyr110 => (intro w hSw; have kx0 := keepC hSw x0; have ky0 := keepC hSw y0; have kp0 := keepC hSw p0; have kp1 := keepC hSw p1; have kq0 := keepC hSw q0; have kq1 := keepC hSw q1; go_simp; first | done | (with_reducible rfl))
      try simp only [Act.put, PA, PB]
      refine wpAnyH_ready (rs := [10]) (by kernel_rfl) (by simp) (AllReadyH.cons (o := _) rfl (fun K hK => ?_) AllReadyH.nil)
      go_simp
      refine (S1.out _ (hbb.trans (hHeld.mono hbb.size))).mono ?_
      rintro e wr111 ⟨rfl, hb3⟩
      go_wp2_with fail
      refine hK.out _ _ (keepB hHeld hb3) (fun hNew => ?_)
      clear hb3
      clear hHeld hK K
      have hHeld := hNew
      clear hNew
      try simp only [Act.put, PA, PB]
      refine wpAnyH_take (i := 11) (oi := _) (v := ?vr112) rfl (by kernel_rfl) (by kernel_rfl) (by kernel_rfl) (fun _ _ _ h => h) (Or.inl ⟨by kernel_rfl, ?hyr112⟩) hHeld ?restr112
      case hyr112 => (intro w hSw; go_simp; first | done | (with_reducible rfl))
      try simp only [Act.put, PA, PB]
      refine wpAnyH_done (by kernel_rfl) ?_ _
      refine NoPanic.normal ?_
      skip
      replace BX := BX.keep hHeld
      replace BY := BY.keep hHeld
      replace hbb := keepB hbb hHeld
      clear hHeld x0 y0 p0 p1 q0 q1
      go_wp2_with fail
      go_roundw
      case rel => exact ⟨2, by omega, by go_num, hbb, BX, BY⟩
      case measure => simp [intOf]

    · have x0 := BX.c 0 rfl
      have y0 := BY.c 0 rfl
      go_wp2_with fail
      go_ret
      exact ⟨rfl, hbb⟩
theorem two7_any (w : World) : Calls Try.prog 30 #[] w (TwoQ w) := by
  unfold TwoQ
  go_enter Try.func30, Try.ntmps30
  go_wp2
  go_ret
  first
    | exact ⟨_, _, rfl, rfl, rfl, two_lay w⟩
    | exact ⟨_, rfl, _, rfl, rfl, two_lay w⟩
end Go.Proofs.Ytnnpmegknlgkoaa

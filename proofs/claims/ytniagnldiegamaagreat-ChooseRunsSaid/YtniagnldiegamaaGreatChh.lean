/- What the law of package choose asks: Same of equal pieces, two, piece. -/
import Derived.Test.YtniagnldiegamaaGreatGp
set_option linter.unusedSimpArgs false
set_option maxHeartbeats 8000000
set_option maxRecDepth 100000
namespace Go.Proofs.YtniagnldiegamaaGreat
open Go.RowKit
theorem same1_eq (g h : Nat) (a b c d : Int) (w : World) (B1 : BK w g [.int .i64 a, .int .i64 b, .int .i64 c, .int .i64 d]) (B2 : BK w h [.int .i64 a, .int .i64 b, .int .i64 c, .int .i64 d]) :
    Calls Tryz.prog 34 #[.slice (some ⟨g, 0, none⟩) 1 1, .slice (some ⟨h, 0, none⟩) 1 1] w fun e w' => e = .returned (.bool true) ∧ Below w.heap.size w w' := by
  have HB1 := Lib.hid B1; have HB2 := Lib.hid B2; clear B1 B2
  go_enter Tryz.func34, Tryz.ntmps34
  go_wp2_with fail
  go_loopw [5] (fun i W => ∃ k : Nat, k ≤ 1 ∧ i = .int .i64 k ∧ Below w.heap.size w W) (fun i _ => 1 - (intOf i).toNat)
  case atStart => exact ⟨0, by omega, rfl, Below.refl _ _⟩
  case round =>
    obtain ⟨k, hk, rfl, hbb⟩ := hrel
    rcases (show k = 0 ∨ k = 1 by omega) with rfl | rfl
    · go_upto_region 6 with fail
      refine at_worldQ (fun v => Below w.heap.size w v) hbb (fun V hS => ?_); clear hbb; have hbb := hS; clear hS; have c0 := keepC hbb (HB1.out.c 0 rfl); have c1 := keepC hbb (HB1.out.c 1 rfl); have c2 := keepC hbb (HB1.out.c 2 rfl); have c3 := keepC hbb (HB1.out.c 3 rfl); have d0 := keepC hbb (HB2.out.c 0 rfl); have d1 := keepC hbb (HB2.out.c 1 rfl); have d2 := keepC hbb (HB2.out.c 2 rfl); have d3 := keepC hbb (HB2.out.c 3 rfl); refine wp_region_noPanic ?_; refine wp_region_held_drew (S := (Below V.heap.size V)) (by kernel_rfl) ((Below.refl _ _).drew) (fun hHeld => ?_); refine at_anyH (Below V.heap.size V) hHeld (fun wq0 hNew => ?_); clear hHeld; have hHeld := hNew; clear hNew; refine tkd 0 ?_; refine tkd 1 ?_; refine tkd 2 ?_; (try simp only [PPz]); refine tkm 3 rfl hHeld (fun w hSw => by have kc0 := keepC hSw c0; have kc1 := keepC hSw c1; have kc2 := keepC hSw c2; have kc3 := keepC hSw c3; have kd0 := keepC hSw d0; have kd1 := keepC hSw d1; have kd2 := keepC hSw d2; have kd3 := keepC hSw d3; go_simp <;> with_reducible rfl) ?_; (try simp only [PPz]); refine tkd 4 ?_; refine tkd 5 ?_; refine tkd 6 ?_; (try simp only [PPz]); refine tkm 7 rfl hHeld (fun w hSw => by have kc0 := keepC hSw c0; have kc1 := keepC hSw c1; have kc2 := keepC hSw c2; have kc3 := keepC hSw c3; have kd0 := keepC hSw d0; have kd1 := keepC hSw d1; have kd2 := keepC hSw d2; have kd3 := keepC hSw d3; go_simp <;> with_reducible rfl) ?_; (try simp only [PPz]); refine tkd 8 ?_; (try simp only [PPz]); refine wpAnyH_done (by kernel_rfl) ?_ _; refine NoPanic.normal ?_
      skip
      replace hbb := keepB hbb hHeld; clear hHeld; (go_wp2_with fail)
      go_roundw
      case rel => exact ⟨1, by omega, by go_num, hbb⟩
      case measure => simp [intOf]
    · go_wp2_with fail
      go_ret
      exact ⟨rfl, hbb⟩
theorem sameDiv_eq (P R B B' g0 g1 h0 h1 : Nat) (a0 b0 c0 d0 a1 b1 c1 d1 : Int) (w : World) (hA : DivB B P g0 g1 a0 b0 c0 d0 a1 b1 c1 d1 w) (hB : DivB B' R h0 h1 a0 b0 c0 d0 a1 b1 c1 d1 w) :
    Calls Tryz.prog 13 #[.agg #[.slice (some ⟨P, 0, none⟩) 2 2], .agg #[.slice (some ⟨R, 0, none⟩) 2 2]] w fun e w' => e = .returned (.bool true) ∧ Below w.heap.size w w' := by
  have s0 := fun v (hv : Below w.heap.size w v) => same1_eq g0 h0 a0 b0 c0 d0 v (hA.s0.keep hv) (hB.s0.keep hv)
  have s1 := fun v (hv : Below w.heap.size w v) => same1_eq g1 h1 a1 b1 c1 d1 v (hA.s1.keep hv) (hB.s1.keep hv)
  have S0 := Lib.hid s0; have S1 := Lib.hid s1; have HP0 := Lib.hid (hA.p.c 0 rfl); have HP1 := Lib.hid (hA.p.c 1 rfl); have HQ0 := Lib.hid (hB.p.c 0 rfl); have HQ1 := Lib.hid (hB.p.c 1 rfl); clear s0 s1 hA hB
  go_enter Tryz.func13, Tryz.ntmps13
  go_upto_region 1 with fail
  refine at_box2 (fun V hbb B0 B1 hVs => ?_); have BX := B0; have BY := B1; clear B0 B1 hVs; have x0 := BX.c 0 rfl; have y0 := BY.c 0 rfl; (go_wp2_with fail); clear x0 y0
  go_loopw [5] (fun i W => ∃ k : Nat, k ≤ 2 ∧ i = .int .i64 k ∧ Below w.heap.size w W ∧ BK W w.heap.size [.slice (some ⟨P, 0, none⟩) 2 2] ∧ BK W (w.heap.size + 1) [.slice (some ⟨R, 0, none⟩) 2 2]) (fun i _ => 2 - (intOf i).toNat)
  case atStart => exact ⟨0, by omega, rfl, hbb, BX, BY⟩
  case round =>
    clear hbb BX BY; obtain ⟨k, hk, rfl, hbb, BX, BY⟩ := hrel
    rcases (show k = 0 ∨ k = 1 ∨ k = 2 by omega) with rfl | rfl | rfl
    · have x0 := BX.c 0 rfl
      have y0 := BY.c 0 rfl; have p0 := keepC hbb HP0.out; have p1 := keepC hbb HP1.out; have q0 := keepC hbb HQ0.out; have q1 := keepC hbb HQ1.out
      go_upto_region 6 with fail
      refine at_worldQ (fun v => Below w.heap.size w v ∧ BK v w.heap.size [.slice (some ⟨P, 0, none⟩) 2 2] ∧ BK v (w.heap.size + 1) [.slice (some ⟨R, 0, none⟩) 2 2]) ⟨hbb, BX, BY⟩ (fun V6 hS => ?_); clear hbb BX BY x0 y0 p0 p1 q0 q1; obtain ⟨hbb, BX, BY⟩ := hS; have x0 := BX.c 0 rfl; have y0 := BY.c 0 rfl; have p0 := keepC hbb HP0.out; have p1 := keepC hbb HP1.out; have q0 := keepC hbb HQ0.out; have q1 := keepC hbb HQ1.out; refine wp_region_noPanic ?_; refine wp_region_held_drew (S := (Below V6.heap.size V6)) (by kernel_rfl) ((Below.refl _ _).drew) (fun hHeld => ?_); refine at_anyH (Below V6.heap.size V6) hHeld (fun wr00 hNew => ?_); clear hHeld; have hHeld := hNew; clear hNew; refine tkd 0 ?_; (try simp only [PPz]); refine tkm 1 rfl hHeld (fun w hSw => by have kx0 := keepC hSw x0; have ky0 := keepC hSw y0; have kp0 := keepC hSw p0; have kp1 := keepC hSw p1; have kq0 := keepC hSw q0; have kq1 := keepC hSw q1; go_simp <;> with_reducible rfl) ?_; (try simp only [PPz]); refine tkd 2 ?_; refine tkd 3 ?_; (try simp only [PPz]); refine tkm 4 rfl hHeld (fun w hSw => by have kx0 := keepC hSw x0; have ky0 := keepC hSw y0; have kp0 := keepC hSw p0; have kp1 := keepC hSw p1; have kq0 := keepC hSw q0; have kq1 := keepC hSw q1; go_simp <;> with_reducible rfl) ?_; (try simp only [PPz]); refine tkd 5 ?_; (try simp only [PPz]); refine tkm 6 rfl hHeld (fun w hSw => by have kx0 := keepC hSw x0; have ky0 := keepC hSw y0; have kp0 := keepC hSw p0; have kp1 := keepC hSw p1; have kq0 := keepC hSw q0; have kq1 := keepC hSw q1; go_simp <;> with_reducible rfl) ?_; (try simp only [PPz]); refine tkd 7 ?_; refine tkd 8 ?_; (try simp only [PPz]); refine tkm 9 rfl hHeld (fun w hSw => by have kx0 := keepC hSw x0; have ky0 := keepC hSw y0; have kp0 := keepC hSw p0; have kp1 := keepC hSw p1; have kq0 := keepC hSw q0; have kq1 := keepC hSw q1; go_simp <;> with_reducible rfl) ?_; (try simp only [PPz]); refine rdy1 10 rfl (fun K hK => ?_); go_simp; refine (S0.out _ (hbb.trans (hHeld.mono hbb.size))).mono ?_; rintro e wr011 ⟨rfl, hb3⟩; (go_wp2_with fail); refine hK.out _ _ (keepB hHeld hb3) (fun hNew => ?_); replace hHeld := hNew; clear hNew hK K hb3; (try simp only [PPz]); refine tkd 11 ?_; (try simp only [PPz]); refine wpAnyH_done (by kernel_rfl) ?_ _; refine NoPanic.normal ?_
      skip
      replace BX := BX.keep hHeld; replace BY := BY.keep hHeld; replace hbb := keepB hbb hHeld; clear hHeld x0 y0 p0 p1 q0 q1; (go_wp2_with fail)
      go_roundw
      case rel => exact ⟨1, by omega, by go_num, hbb, BX, BY⟩
      case measure => simp [intOf]

    · have x0 := BX.c 0 rfl
      have y0 := BY.c 0 rfl; have p0 := keepC hbb HP0.out; have p1 := keepC hbb HP1.out; have q0 := keepC hbb HQ0.out; have q1 := keepC hbb HQ1.out
      go_upto_region 6 with fail
      refine at_worldQ (fun v => Below w.heap.size w v ∧ BK v w.heap.size [.slice (some ⟨P, 0, none⟩) 2 2] ∧ BK v (w.heap.size + 1) [.slice (some ⟨R, 0, none⟩) 2 2]) ⟨hbb, BX, BY⟩ (fun V6 hS => ?_); clear hbb BX BY x0 y0 p0 p1 q0 q1; obtain ⟨hbb, BX, BY⟩ := hS; have x0 := BX.c 0 rfl; have y0 := BY.c 0 rfl; have p0 := keepC hbb HP0.out; have p1 := keepC hbb HP1.out; have q0 := keepC hbb HQ0.out; have q1 := keepC hbb HQ1.out; refine wp_region_noPanic ?_; refine wp_region_held_drew (S := (Below V6.heap.size V6)) (by kernel_rfl) ((Below.refl _ _).drew) (fun hHeld => ?_); refine at_anyH (Below V6.heap.size V6) hHeld (fun wr10 hNew => ?_); clear hHeld; have hHeld := hNew; clear hNew; refine tkd 0 ?_; (try simp only [PPz]); refine tkm 1 rfl hHeld (fun w hSw => by have kx0 := keepC hSw x0; have ky0 := keepC hSw y0; have kp0 := keepC hSw p0; have kp1 := keepC hSw p1; have kq0 := keepC hSw q0; have kq1 := keepC hSw q1; go_simp <;> with_reducible rfl) ?_; (try simp only [PPz]); refine tkd 2 ?_; refine tkd 3 ?_; (try simp only [PPz]); refine tkm 4 rfl hHeld (fun w hSw => by have kx0 := keepC hSw x0; have ky0 := keepC hSw y0; have kp0 := keepC hSw p0; have kp1 := keepC hSw p1; have kq0 := keepC hSw q0; have kq1 := keepC hSw q1; go_simp <;> with_reducible rfl) ?_; (try simp only [PPz]); refine tkd 5 ?_; (try simp only [PPz]); refine tkm 6 rfl hHeld (fun w hSw => by have kx0 := keepC hSw x0; have ky0 := keepC hSw y0; have kp0 := keepC hSw p0; have kp1 := keepC hSw p1; have kq0 := keepC hSw q0; have kq1 := keepC hSw q1; go_simp <;> with_reducible rfl) ?_; (try simp only [PPz]); refine tkd 7 ?_; refine tkd 8 ?_; (try simp only [PPz]); refine tkm 9 rfl hHeld (fun w hSw => by have kx0 := keepC hSw x0; have ky0 := keepC hSw y0; have kp0 := keepC hSw p0; have kp1 := keepC hSw p1; have kq0 := keepC hSw q0; have kq1 := keepC hSw q1; go_simp <;> with_reducible rfl) ?_; (try simp only [PPz]); refine rdy1 10 rfl (fun K hK => ?_); go_simp; refine (S1.out _ (hbb.trans (hHeld.mono hbb.size))).mono ?_; rintro e wr111 ⟨rfl, hb3⟩; (go_wp2_with fail); refine hK.out _ _ (keepB hHeld hb3) (fun hNew => ?_); replace hHeld := hNew; clear hNew hK K hb3; (try simp only [PPz]); refine tkd 11 ?_; (try simp only [PPz]); refine wpAnyH_done (by kernel_rfl) ?_ _; refine NoPanic.normal ?_
      skip
      replace BX := BX.keep hHeld; replace BY := BY.keep hHeld; replace hbb := keepB hbb hHeld; clear hHeld x0 y0 p0 p1 q0 q1; (go_wp2_with fail)
      go_roundw
      case rel => exact ⟨2, by omega, by go_num, hbb, BX, BY⟩
      case measure => simp [intOf]

    · have x0 := BX.c 0 rfl
      have y0 := BY.c 0 rfl; (go_wp2_with fail)
      go_ret
      exact ⟨rfl, hbb⟩
end Go.Proofs.YtniagnldiegamaaGreat


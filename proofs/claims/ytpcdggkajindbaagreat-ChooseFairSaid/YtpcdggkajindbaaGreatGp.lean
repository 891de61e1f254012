/- Package choose: divided. Package choose: Run. What the law of package choose asks: Same of equal pieces, two, piece. -/
import Derived.Test.YtpcdggkajindbaaGreatGo
import Derived.Deep.OwnRows
namespace Go.Proofs.YtpcdggkajindbaaGreat
open Go.RowKit
/-- A division in two pieces of one span each, in blocks from B on. -/
structure DivB (B P g0 g1 : Nat) (a0 b0 c0 d0 a1 b1 c1 d1 : Int) (W : World) : Prop where
  hP : B ≤ P
  h0 : B ≤ g0
  h1 : B ≤ g1
  p : BK W P [.slice (some ⟨g0, 0, none⟩) 1 1, .slice (some ⟨g1, 0, none⟩) 1 1]
  s0 : BK W g0 [.int .i64 a0, .int .i64 b0, .int .i64 c0, .int .i64 d0]
  s1 : BK W g1 [.int .i64 a1, .int .i64 b1, .int .i64 c1, .int .i64 d1]
section
variable {B B' P g0 g1 : Nat} {a0 b0 c0 d0 a1 b1 c1 d1 : Int} {W W' : World}
theorem DivB.call (h : DivB B P g0 g1 a0 b0 c0 d0 a1 b1 c1 d1 W) (hb : Below W.heap.size W W') : DivB B P g0 g1 a0 b0 c0 d0 a1 b1 c1 d1 W' := ⟨h.hP, h.h0, h.h1, h.p.keep hb, h.s0.keep hb, h.s1.keep hb⟩
theorem DivB.al (h : DivB B P g0 g1 a0 b0 c0 d0 a1 b1 c1 d1 W) (x : Obj) : DivB B P g0 g1 a0 b0 c0 d0 a1 b1 c1 d1 (W.alloc x) := h.call (below_al (Below.refl _ _) _)
theorem DivB.set (h : DivB B P g0 g1 a0 b0 c0 d0 a1 b1 c1 d1 W) {p o : Nat} (hp : p < B) (u : Value) : DivB B P g0 g1 a0 b0 c0 d0 a1 b1 c1 d1 (W.setCell ⟨p, o, none⟩ u) :=
  ⟨h.hP, h.h0, h.h1, h.p.far (by have := h.hP; omega) _ _, h.s0.far (by have := h.h0; omega) _ _, h.s1.far (by have := h.h1; omega) _ _⟩
theorem DivB.mono (h : DivB B P g0 g1 a0 b0 c0 d0 a1 b1 c1 d1 W) (hb : B' ≤ B) : DivB B' P g0 g1 a0 b0 c0 d0 a1 b1 c1 d1 W := ⟨Nat.le_trans hb h.hP, Nat.le_trans hb h.h0, Nat.le_trans hb h.h1, h.p, h.s0, h.s1⟩
theorem DivB.size (h : DivB B P g0 g1 a0 b0 c0 d0 a1 b1 c1 d1 W) : B ≤ W.heap.size := Nat.le_trans h.hP (Nat.le_of_lt h.p.lt)
end
def DivQ (a0 b0 c0 d0 a1 b1 c1 d1 : Int) (w : World) (e : Ending) (w' : World) : Prop :=
  ∃ P g0 g1 : Nat, e = .returned (.agg #[.slice (some ⟨P, 0, none⟩) 2 2]) ∧ Below w.heap.size w w' ∧ DivB w.heap.size P g0 g1 a0 b0 c0 d0 a1 b1 c1 d1 w'
theorem two_make (v : World) : Sem.run Tryz.prog (Instr.makeSlice 25 (.int .i64 2) (.int .i64 2)) v = .ok (.slice (some ⟨v.heap.size, 0, none⟩) 2 2) (v.alloc (.cells #[.slice none 0 0, .slice none 0 0] 58)) :=
  by
  have h := run_make_row' (P := Tryz.prog) 25 58 (.slice none 0 0) 24 (by kernel_rfl) (by kernel_rfl) rfl .i64 .i64 2 (by decide) (by decide) v
  have e : madeCells #[Value.slice none 0 0] 2 = #[.slice none 0 0, .slice none 0 0] := by first | kernel_rfl | (simp [madeCells]; rfl) | (simp [madeCells]; decide)
  rw [e] at h; exact h
set_option linter.unusedSimpArgs false in
set_option maxHeartbeats 8000000 in
set_option maxRecDepth 100000 in
theorem divided0f (A : Option Addr) (ca : Nat) (cs : List CkR) (Q : Option Addr) (n cq : Nat) (st x y len : Int) (w : World) (h : IsCs w A cs) (hl : cs.length = 2) (hlen : (Ak.cat cs 0).len = len) :
    Calls Tryz.prog 27 #[.agg #[.slice A cs.length ca, .slice Q n cq, .int .i64 0, .int .i64 st, .int .i64 x, .int .i64 y, .bool false]] w (DivQ 0 1 x y x y len 1 w) := by
  obtain ⟨bb, o, hA, hcl⟩ := h.at_; obtain rfl := hA (by omega); have hc0 := (hcl 0 (by omega)).1; rw [hlen, show o + 0 * 3 = o by omega] at hc0
  have co := fun v => chother_any 0 1 (by decide) v
  have cg := fun v => chother_any 0 1 (by decide) v
  have wh := fun (n : Int) v => chwhole_any n v
  have i1 : 0 < cs.length := by omega
  have HCL := Lib.hid hc0; have CO := Lib.hid co; have CG := Lib.hid cg; have WH := Lib.hid wh; have hltc := lt_of_cell hc0; have hmk := two_make; clear hcl hc0 co cg wh hA h hl hlen
  unfold DivQ
  go_enter Tryz.func27, Tryz.ntmps27
  go_upto_region 1 with fail
  refine at_worldQ (fun v => Below w.heap.size w v ∧ BK v (w.heap.size) [.slice (some ⟨bb, o, none⟩) cs.length ca, .slice Q n cq, .int .i64 0, .int .i64 st, .int .i64 x, .int .i64 y, .bool false] ∧ BK v (w.heap.size + 1) [.slice none 0 0] ∧ v.heap.size = w.heap.size + 2) ⟨(below_al (below_al (Below.refl _ _) _) _), (by have b := ((BK.new w [.slice (some ⟨bb, o, none⟩) cs.length ca, .slice Q n cq, .int .i64 0, .int .i64 st, .int .i64 x, .int .i64 y, .bool false] 71).al (.cells #[.slice none 0 0] 27)); simpa only [World.size_alloc] using b), (by have b := (BK.new (w.alloc (.cells #[.slice (some ⟨bb, o, none⟩) cs.length ca, .slice Q n cq, .int .i64 0, .int .i64 st, .int .i64 x, .int .i64 y, .bool false] 71)) [.slice none 0 0] 27); simpa only [World.size_alloc] using b), by simp only [World.size_alloc]⟩ (fun V hS => ?_); obtain ⟨hbb, B0, B1, hVs⟩ := hS; have p2 := B0.c 2 rfl; have p6 := B0.c 6 rfl
  have hV : w.heap.size + 2 ≤ V.heap.size := by omega
  clear hVs
  go_upto_region 5 with fail
  refine at_worldQ (fun v => Below w.heap.size w v ∧ BK v w.heap.size [.slice (some ⟨bb, o, none⟩) cs.length ca, .slice Q n cq, .int .i64 0, .int .i64 st, .int .i64 x, .int .i64 y, .bool false] ∧ BK v (w.heap.size + 1) [.slice none 0 0] ∧ BK v V.heap.size [.slice none 0 0, .slice none 0 0] ∧ BK v (V.heap.size + 1) [.slice (some ⟨V.heap.size, 0, none⟩) 2 2] ∧ v.heap.size = V.heap.size + 2) ⟨below_al (below_al hbb _) _, (B0.al _).al _, (B1.al _).al _, (BK.new _ _ _).al _, (by have b := BK.new (V.alloc (.cells #[.slice none 0 0, .slice none 0 0] 58)) [.slice (some ⟨V.heap.size, 0, none⟩) 2 2] 27; simpa only [World.size_alloc] using b), by simp only [World.size_alloc]⟩ (fun V5 hS => ?_)
  have hX : w.heap.size + 2 ≤ V.heap.size := by omega
  clear p2 p6 hbb B0 B1 hV; obtain ⟨hbb, B0, B1, BP, BD, hV5⟩ := hS
  generalize V.heap.size = P at *
  have d0 := BD.c 0 rfl; have p4 := B0.c 4 rfl; have p5 := B0.c 5 rfl; refine wp_region_noPanic ?_; refine wp_region_held_drew (S := (GB (fun k => k = P) V5)) (by kernel_rfl) ((GB.refl _ _).drew) (fun hHeld => ?_); refine at_anyH (fun v => GB (fun k => k = P) V5 v ∧ BK v (P) [.slice none 0 0, .slice none 0 0]) ⟨hHeld, BP.drew⟩ (fun wa0 hNew => ?_); clear hHeld BP; obtain ⟨hHeld, BP⟩ := hNew; refine tkn 0 ?va1 rfl ?hya1 hHeld ?resta1
  case hya1 => (intro w hSw; go_simp <;> with_reducible rfl)
  (try simp only [PPz]); refine tkn 1 ?va2 rfl ?hya2 hHeld ?resta2
  case hya2 => (intro w hSw; have kd0 := hSw.cell (by omega) d0; have kp4 := hSw.cell (by omega) p4; have kp5 := hSw.cell (by omega) p5; go_simp <;> with_reducible rfl)
  (try simp only [PPz]); refine tkn 2 ?va3 rfl ?hya3 hHeld ?resta3
  case hya3 => (intro w hSw; go_simp <;> with_reducible rfl)
  (try simp only [PPz]); refine tkn 4 ?va4 rfl ?hya4 hHeld ?resta4
  case hya4 => (intro w hSw; go_simp <;> with_reducible rfl)
  (try simp only [PPz]); refine tkn 5 ?va5 rfl ?hya5 hHeld ?resta5
  case hya5 => (intro w hSw; have kd0 := hSw.cell (by omega) d0; have kp4 := hSw.cell (by omega) p4; have kp5 := hSw.cell (by omega) p5; go_simp <;> with_reducible rfl)
  (try simp only [PPz]); refine rdy1 3 rfl (fun K hK => ?_); go_simp; refine (WH.out 0 _).mono ?_; rintro e wa6 ⟨rfl, hb3⟩; (go_wp2_with fail); refine hK.out _ _ (hHeld.below hb3) (fun hNew => ?_); replace BP := BP.keep hb3; clear hb3; clear hHeld hK K; have hHeld := hNew; clear hNew; (try simp only [PPz]); refine tkn 6 ?va7 rfl ?hya7 hHeld ?resta7
  case hya7 => (intro w hSw; go_simp <;> with_reducible rfl)
  (try simp only [PPz]); refine rdy1 7 rfl (fun K hK => ?_); go_simp; refine hK.out _ _ (hHeld.al _) (fun hNew => ?_); have hX : V5.heap.size ≤ wa6.heap.size := hHeld.size; have dPX := BP.lt; clear hHeld hK K; have hHeld := hNew; clear hNew; (try simp only [PPz]); refine at_anyH (fun v => GB (fun k => k = P) V5 v ∧ BK v (P) [.slice none 0 0, .slice none 0 0] ∧ BK v (wa6.heap.size) [.int .i64 0, .int .i64 1, .int .i64 x, .int .i64 y]) ⟨hHeld, BP.al _, BK.new _ _ _⟩ (fun wa8 hS => ?_); clear hHeld BP; obtain ⟨hHeld, BP, BX⟩ := hS; refine tkn 8 ?va9 rfl ?hya9 hHeld ?resta9
  case hya9 => (intro w hSw; go_simp <;> with_reducible rfl)
  (try simp only [PPz]); refine rdy1 9 rfl (fun K hK => ?_); have n0 := BP.c 0 rfl; have f0 := BP.f 0 rfl; go_simp; clear n0 f0; refine hK.out _ _ (hHeld.set (.inl rfl) _) (fun hNew => ?_); clear hHeld hK K; have hHeld := hNew; clear hNew; (try simp only [PPz]); refine at_anyH (fun v => GB (fun k => k = P) V5 v ∧ BK v (P) [.slice (some ⟨wa6.heap.size, 0, none⟩) 1 1, .slice none 0 0] ∧ BK v (wa6.heap.size) [.int .i64 0, .int .i64 1, .int .i64 x, .int .i64 y]) ⟨hHeld, (BP.set 0 _), (BX.far (by omega) _ _)⟩ (fun wa10 hS => ?_); clear hHeld BP BX; obtain ⟨hHeld, BP, BX⟩ := hS; refine wpAnyH_done (by kernel_rfl) ?_ _; refine NoPanic.normal ?_
  skip
  have hbb2 := hHeld.toBelow hbb (fun k hk => by omega) (by omega); have B0 := B0.gb hHeld (by omega); have B1 := B1.gb hHeld (by omega); have BD := BD.gb hHeld (by omega); have hv6 := hHeld.size; clear d0 p4 p5 hHeld hbb
  go_upto_region 6 with fail
  refine at_worldQ (fun v => Below w.heap.size w v ∧ BK v w.heap.size [.slice (some ⟨bb, o, none⟩) cs.length ca, .slice Q n cq, .int .i64 0, .int .i64 st, .int .i64 x, .int .i64 y, .bool false] ∧ BK v (w.heap.size + 1) [.slice none 0 0] ∧ BK v P [.slice (some ⟨wa6.heap.size, 0, none⟩) 1 1, .slice none 0 0] ∧ BK v (P + 1) [.slice (some ⟨P, 0, none⟩) 2 2] ∧ BK v wa6.heap.size [.int .i64 0, .int .i64 1, .int .i64 x, .int .i64 y] ∧ w.heap.size ≤ v.heap.size) ⟨hbb2, B0, B1, BP, BD, BX, by omega⟩ (fun V6 hS => ?_)
  have hX0 : P + 2 ≤ wa6.heap.size := by omega
  clear hbb2 B0 B1 BP BD BX hv6 hV5; obtain ⟨hbb, B0, B1, BP, BD, BX, hV6⟩ := hS
  generalize wa6.heap.size = X0 at *
  have d0 := BD.c 0 rfl; have p0 := B0.c 0 rfl; have p4 := B0.c 4 rfl; have p5 := B0.c 5 rfl; have c0 := keepC hbb HCL.out; refine wp_region_noPanic ?_; refine wp_region_held_drew (S := (GB (fun k => k = P) V6)) (by kernel_rfl) ((GB.refl _ _).drew) (fun hHeld => ?_); refine at_anyH (fun v => GB (fun k => k = P) V6 v ∧ BK v (P) [.slice (some ⟨X0, 0, none⟩) 1 1, .slice none 0 0]) ⟨hHeld, BP.drew⟩ (fun wb0 hNew => ?_); clear hHeld BP; obtain ⟨hHeld, BP⟩ := hNew; refine tkn 0 ?vb1 rfl ?hyb1 hHeld ?restb1
  case hyb1 => (intro w hSw; go_simp <;> with_reducible rfl)
  (try simp only [PPz]); refine tkn 1 ?vb2 rfl ?hyb2 hHeld ?restb2
  case hyb2 => (intro w hSw; have kd0 := hSw.cell (by omega) d0; have kp4 := hSw.cell (by omega) p4; have kp5 := hSw.cell (by omega) p5; have kp0 := hSw.cell (by omega) p0; have kc0 := hSw.cell (by omega) c0; go_simp <;> with_reducible rfl)
  (try simp only [PPz]); refine tkn 2 ?vb3 rfl ?hyb3 hHeld ?restb3
  case hyb3 => (intro w hSw; go_simp <;> with_reducible rfl)
  (try simp only [PPz]); refine tkn 4 ?vb4 rfl ?hyb4 hHeld ?restb4
  case hyb4 => (intro w hSw; go_simp <;> with_reducible rfl)
  (try simp only [PPz]); refine tkn 5 ?vb5 rfl ?hyb5 hHeld ?restb5
  case hyb5 => (intro w hSw; have kd0 := hSw.cell (by omega) d0; have kp4 := hSw.cell (by omega) p4; have kp5 := hSw.cell (by omega) p5; have kp0 := hSw.cell (by omega) p0; have kc0 := hSw.cell (by omega) c0; go_simp <;> with_reducible rfl)
  (try simp only [PPz]); refine tkn 6 ?vb6 rfl ?hyb6 hHeld ?restb6
  case hyb6 => (intro w hSw; go_simp <;> with_reducible rfl)
  (try simp only [PPz]); refine tkn 7 ?vb7 rfl ?hyb7 hHeld ?restb7
  case hyb7 => (intro w hSw; go_simp <;> with_reducible rfl)
  (try simp only [PPz]); refine tkn 8 ?vb8 rfl ?hyb8 hHeld ?restb8
  case hyb8 => (intro w hSw; have kd0 := hSw.cell (by omega) d0; have kp4 := hSw.cell (by omega) p4; have kp5 := hSw.cell (by omega) p5; have kp0 := hSw.cell (by omega) p0; have kc0 := hSw.cell (by omega) c0; go_simp <;> with_reducible rfl)
  (try simp only [PPz]); refine tkn 9 ?vb9 rfl ?hyb9 hHeld ?restb9
  case hyb9 => (intro w hSw; go_simp <;> with_reducible rfl)
  (try simp only [PPz]); refine tkn 10 ?vb10 rfl ?hyb10 hHeld ?restb10
  case hyb10 => (intro w hSw; go_simp <;> with_reducible rfl)
  (try simp only [PPz]); refine tkn 11 ?vb11 rfl ?hyb11 hHeld ?restb11
  case hyb11 => (intro w hSw; have kd0 := hSw.cell (by omega) d0; have kp4 := hSw.cell (by omega) p4; have kp5 := hSw.cell (by omega) p5; have kp0 := hSw.cell (by omega) p0; have kc0 := hSw.cell (by omega) c0; go_simp <;> with_reducible rfl)
  (try simp only [PPz]); refine rdy1 3 rfl (fun K hK => ?_); go_simp; refine (CG.out _).mono ?_; rintro e wb12 ⟨rfl, hb3⟩; (go_wp2_with fail); refine hK.out _ _ (hHeld.below hb3) (fun hNew => ?_); replace BP := BP.keep hb3; clear hb3; clear hHeld hK K; have hHeld := hNew; clear hNew; (try simp only [PPz]); refine rdy1 12 rfl (fun K hK => ?_); go_simp; refine (WH.out len _).mono ?_; rintro e wb13 ⟨rfl, hb3⟩; (go_wp2_with fail); refine hK.out _ _ (hHeld.below hb3) (fun hNew => ?_); replace BP := BP.keep hb3; clear hb3; clear hHeld hK K; have hHeld := hNew; clear hNew; (try simp only [PPz]); refine tkn 13 ?vb14 rfl ?hyb14 hHeld ?restb14
  case hyb14 => (intro w hSw; go_simp <;> with_reducible rfl)
  (try simp only [PPz]); refine rdy1 14 rfl (fun K hK => ?_); go_simp; refine hK.out _ _ (hHeld.al _) (fun hNew => ?_); have hY : V6.heap.size ≤ wb13.heap.size := hHeld.size; have dPY := BP.lt; clear hHeld hK K; have hHeld := hNew; clear hNew; (try simp only [PPz]); refine at_anyH (fun v => GB (fun k => k = P) V6 v ∧ BK v (P) [.slice (some ⟨X0, 0, none⟩) 1 1, .slice none 0 0] ∧ BK v (wb13.heap.size) [.int .i64 x, .int .i64 y, .int .i64 len, .int .i64 1]) ⟨hHeld, BP.al _, BK.new _ _ _⟩ (fun wb15 hS => ?_); clear hHeld BP; obtain ⟨hHeld, BP, BY⟩ := hS; refine tkn 15 ?vb16 rfl ?hyb16 hHeld ?restb16
  case hyb16 => (intro w hSw; go_simp <;> with_reducible rfl)
  (try simp only [PPz]); refine rdy1 16 rfl (fun K hK => ?_); have n0 := BP.c 1 rfl; have f0 := BP.f 1 rfl; go_simp; clear n0 f0; refine hK.out _ _ (hHeld.set (.inl rfl) _) (fun hNew => ?_); clear hHeld hK K; have hHeld := hNew; clear hNew; (try simp only [PPz]); refine at_anyH (fun v => GB (fun k => k = P) V6 v ∧ BK v (P) [.slice (some ⟨X0, 0, none⟩) 1 1, .slice (some ⟨wb13.heap.size, 0, none⟩) 1 1] ∧ BK v (wb13.heap.size) [.int .i64 x, .int .i64 y, .int .i64 len, .int .i64 1]) ⟨hHeld, (BP.set 1 _), (BY.far (by omega) _ _)⟩ (fun wb17 hS => ?_); clear hHeld BP BY; obtain ⟨hHeld, BP, BY⟩ := hS; refine wpAnyH_done (by kernel_rfl) ?_ _; refine NoPanic.normal ?_
  skip
  have hbb2 := hHeld.toBelow hbb (fun k hk => by omega) (by omega); have B1 := B1.gb hHeld (by omega); have BD := BD.gb hHeld (by omega); have BX := BX.gb hHeld (by omega); have hltB := B1.lt; clear d0 p4 p5 p0 c0 hbb B0; have d0 := BD.c 0 rfl; have r0 := B1.c 0 rfl; have g0 := B1.f 0 rfl; (go_wp2_with fail); exact bodyPost_ret (v := .agg #[.slice (some ⟨P, 0, none⟩) 2 2]) (by simp [results, Tryz.results27, go_sem, r0]) rfl ⟨P, X0, _, rfl, below_set hbb2 (by omega) _, by omega, by omega, by omega, BP.far (by omega) _ _, BX.far (by omega) _ _, BY.far (by omega) _ _⟩
set_option linter.unusedSimpArgs false in
set_option maxHeartbeats 8000000 in
set_option maxRecDepth 100000 in
theorem divided0t (A : Option Addr) (ca : Nat) (cs : List CkR) (Q : Option Addr) (n cq : Nat) (st x y len : Int) (w : World) (h : IsCs w A cs) (hl : cs.length = 2) (hlen : (Ak.cat cs 0).len = len) :
    Calls Tryz.prog 27 #[.agg #[.slice A cs.length ca, .slice Q n cq, .int .i64 0, .int .i64 st, .int .i64 x, .int .i64 y, .bool true]] w (DivQ x y len 1 0 1 x y w) := by
  obtain ⟨bb, o, hA, hcl⟩ := h.at_; obtain rfl := hA (by omega); have hc0 := (hcl 0 (by omega)).1; rw [hlen, show o + 0 * 3 = o by omega] at hc0
  have co := fun v => chother_any 0 1 (by decide) v
  have cg := fun v => chother_any 1 0 (by decide) v
  have wh := fun (n : Int) v => chwhole_any n v
  have i1 : 0 < cs.length := by omega
  have HCL := Lib.hid hc0; have CO := Lib.hid co; have CG := Lib.hid cg; have WH := Lib.hid wh; have hltc := lt_of_cell hc0; have hmk := two_make; clear hcl hc0 co cg wh hA h hl hlen
  unfold DivQ
  go_enter Tryz.func27, Tryz.ntmps27
  go_upto_region 1 with fail
  refine at_worldQ (fun v => Below w.heap.size w v ∧ BK v (w.heap.size) [.slice (some ⟨bb, o, none⟩) cs.length ca, .slice Q n cq, .int .i64 0, .int .i64 st, .int .i64 x, .int .i64 y, .bool true] ∧ BK v (w.heap.size + 1) [.slice none 0 0] ∧ v.heap.size = w.heap.size + 2) ⟨(below_al (below_al (Below.refl _ _) _) _), (by have b := ((BK.new w [.slice (some ⟨bb, o, none⟩) cs.length ca, .slice Q n cq, .int .i64 0, .int .i64 st, .int .i64 x, .int .i64 y, .bool true] 71).al (.cells #[.slice none 0 0] 27)); simpa only [World.size_alloc] using b), (by have b := (BK.new (w.alloc (.cells #[.slice (some ⟨bb, o, none⟩) cs.length ca, .slice Q n cq, .int .i64 0, .int .i64 st, .int .i64 x, .int .i64 y, .bool true] 71)) [.slice none 0 0] 27); simpa only [World.size_alloc] using b), by simp only [World.size_alloc]⟩ (fun V hS => ?_); obtain ⟨hbb, B0, B1, hVs⟩ := hS; have p2 := B0.c 2 rfl; have p6 := B0.c 6 rfl
  have hV : w.heap.size + 2 ≤ V.heap.size := by omega
  clear hVs; (go_wp2_with fail); refine (CO.out _).mono ?_; rintro e w1 ⟨rfl, hb⟩; replace hbb := keepB hbb hb; replace B0 := B0.keep hb; replace B1 := B1.keep hb; have hw1 := hb.size; clear hb; clear p2 p6
  go_upto_region 5 with fail
  refine at_worldQ (fun v => Below w.heap.size w v ∧ BK v w.heap.size [.slice (some ⟨bb, o, none⟩) cs.length ca, .slice Q n cq, .int .i64 0, .int .i64 st, .int .i64 x, .int .i64 y, .bool true] ∧ BK v (w.heap.size + 1) [.slice none 0 0] ∧ BK v w1.heap.size [.slice none 0 0, .slice none 0 0] ∧ BK v (w1.heap.size + 1) [.slice (some ⟨w1.heap.size, 0, none⟩) 2 2] ∧ v.heap.size = w1.heap.size + 2) ⟨below_al (below_al hbb _) _, (B0.al _).al _, (B1.al _).al _, (BK.new _ _ _).al _, (by have b := BK.new (w1.alloc (.cells #[.slice none 0 0, .slice none 0 0] 58)) [.slice (some ⟨w1.heap.size, 0, none⟩) 2 2] 27; simpa only [World.size_alloc] using b), by simp only [World.size_alloc]⟩ (fun V5 hS => ?_)
  have hX : w.heap.size + 2 ≤ w1.heap.size := by omega
  clear hbb B0 B1 hV hw1; obtain ⟨hbb, B0, B1, BP, BD, hV5⟩ := hS
  generalize w1.heap.size = P at *
  have d0 := BD.c 0 rfl; have p4 := B0.c 4 rfl; have p5 := B0.c 5 rfl; refine wp_region_noPanic ?_; refine wp_region_held_drew (S := (GB (fun k => k = P) V5)) (by kernel_rfl) ((GB.refl _ _).drew) (fun hHeld => ?_); refine at_anyH (fun v => GB (fun k => k = P) V5 v ∧ BK v (P) [.slice none 0 0, .slice none 0 0]) ⟨hHeld, BP.drew⟩ (fun wa0 hNew => ?_); clear hHeld BP; obtain ⟨hHeld, BP⟩ := hNew; refine tkn 0 ?va1 rfl ?hya1 hHeld ?resta1
  case hya1 => (intro w hSw; go_simp <;> with_reducible rfl)
  (try simp only [PPz]); refine tkn 1 ?va2 rfl ?hya2 hHeld ?resta2
  case hya2 => (intro w hSw; have kd0 := hSw.cell (by omega) d0; have kp4 := hSw.cell (by omega) p4; have kp5 := hSw.cell (by omega) p5; go_simp <;> with_reducible rfl)
  (try simp only [PPz]); refine tkn 2 ?va3 rfl ?hya3 hHeld ?resta3
  case hya3 => (intro w hSw; go_simp <;> with_reducible rfl)
  (try simp only [PPz]); refine tkn 4 ?va4 rfl ?hya4 hHeld ?resta4
  case hya4 => (intro w hSw; go_simp <;> with_reducible rfl)
  (try simp only [PPz]); refine tkn 5 ?va5 rfl ?hya5 hHeld ?resta5
  case hya5 => (intro w hSw; have kd0 := hSw.cell (by omega) d0; have kp4 := hSw.cell (by omega) p4; have kp5 := hSw.cell (by omega) p5; go_simp <;> with_reducible rfl)
  (try simp only [PPz]); refine rdy1 3 rfl (fun K hK => ?_); go_simp; refine (WH.out 0 _).mono ?_; rintro e wa6 ⟨rfl, hb3⟩; (go_wp2_with fail); refine hK.out _ _ (hHeld.below hb3) (fun hNew => ?_); replace BP := BP.keep hb3; clear hb3; clear hHeld hK K; have hHeld := hNew; clear hNew; (try simp only [PPz]); refine tkn 6 ?va7 rfl ?hya7 hHeld ?resta7
  case hya7 => (intro w hSw; go_simp <;> with_reducible rfl)
  (try simp only [PPz]); refine rdy1 7 rfl (fun K hK => ?_); go_simp; refine hK.out _ _ (hHeld.al _) (fun hNew => ?_); have hX : V5.heap.size ≤ wa6.heap.size := hHeld.size; have dPX := BP.lt; clear hHeld hK K; have hHeld := hNew; clear hNew; (try simp only [PPz]); refine at_anyH (fun v => GB (fun k => k = P) V5 v ∧ BK v (P) [.slice none 0 0, .slice none 0 0] ∧ BK v (wa6.heap.size) [.int .i64 0, .int .i64 1, .int .i64 x, .int .i64 y]) ⟨hHeld, BP.al _, BK.new _ _ _⟩ (fun wa8 hS => ?_); clear hHeld BP; obtain ⟨hHeld, BP, BX⟩ := hS; refine tkn 8 ?va9 rfl ?hya9 hHeld ?resta9
  case hya9 => (intro w hSw; go_simp <;> with_reducible rfl)
  (try simp only [PPz]); refine rdy1 9 rfl (fun K hK => ?_); have n0 := BP.c 1 rfl; have f0 := BP.f 1 rfl; go_simp; clear n0 f0; refine hK.out _ _ (hHeld.set (.inl rfl) _) (fun hNew => ?_); clear hHeld hK K; have hHeld := hNew; clear hNew; (try simp only [PPz]); refine at_anyH (fun v => GB (fun k => k = P) V5 v ∧ BK v (P) [.slice none 0 0, .slice (some ⟨wa6.heap.size, 0, none⟩) 1 1] ∧ BK v (wa6.heap.size) [.int .i64 0, .int .i64 1, .int .i64 x, .int .i64 y]) ⟨hHeld, (BP.set 1 _), (BX.far (by omega) _ _)⟩ (fun wa10 hS => ?_); clear hHeld BP BX; obtain ⟨hHeld, BP, BX⟩ := hS; refine wpAnyH_done (by kernel_rfl) ?_ _; refine NoPanic.normal ?_
  skip
  have hbb2 := hHeld.toBelow hbb (fun k hk => by omega) (by omega); have B0 := B0.gb hHeld (by omega); have B1 := B1.gb hHeld (by omega); have BD := BD.gb hHeld (by omega); have hv6 := hHeld.size; clear d0 p4 p5 hHeld hbb
  go_upto_region 6 with fail
  refine at_worldQ (fun v => Below w.heap.size w v ∧ BK v w.heap.size [.slice (some ⟨bb, o, none⟩) cs.length ca, .slice Q n cq, .int .i64 0, .int .i64 st, .int .i64 x, .int .i64 y, .bool true] ∧ BK v (w.heap.size + 1) [.slice none 0 0] ∧ BK v P [.slice none 0 0, .slice (some ⟨wa6.heap.size, 0, none⟩) 1 1] ∧ BK v (P + 1) [.slice (some ⟨P, 0, none⟩) 2 2] ∧ BK v wa6.heap.size [.int .i64 0, .int .i64 1, .int .i64 x, .int .i64 y] ∧ w.heap.size ≤ v.heap.size) ⟨hbb2, B0, B1, BP, BD, BX, by omega⟩ (fun V6 hS => ?_)
  have hX0 : P + 2 ≤ wa6.heap.size := by omega
  clear hbb2 B0 B1 BP BD BX hv6 hV5; obtain ⟨hbb, B0, B1, BP, BD, BX, hV6⟩ := hS
  generalize wa6.heap.size = X0 at *
  have d0 := BD.c 0 rfl; have p0 := B0.c 0 rfl; have p4 := B0.c 4 rfl; have p5 := B0.c 5 rfl; have c0 := keepC hbb HCL.out; refine wp_region_noPanic ?_; refine wp_region_held_drew (S := (GB (fun k => k = P) V6)) (by kernel_rfl) ((GB.refl _ _).drew) (fun hHeld => ?_); refine at_anyH (fun v => GB (fun k => k = P) V6 v ∧ BK v (P) [.slice none 0 0, .slice (some ⟨X0, 0, none⟩) 1 1]) ⟨hHeld, BP.drew⟩ (fun wb0 hNew => ?_); clear hHeld BP; obtain ⟨hHeld, BP⟩ := hNew; refine tkn 0 ?vb1 rfl ?hyb1 hHeld ?restb1
  case hyb1 => (intro w hSw; go_simp <;> with_reducible rfl)
  (try simp only [PPz]); refine tkn 1 ?vb2 rfl ?hyb2 hHeld ?restb2
  case hyb2 => (intro w hSw; have kd0 := hSw.cell (by omega) d0; have kp4 := hSw.cell (by omega) p4; have kp5 := hSw.cell (by omega) p5; have kp0 := hSw.cell (by omega) p0; have kc0 := hSw.cell (by omega) c0; go_simp <;> with_reducible rfl)
  (try simp only [PPz]); refine tkn 2 ?vb3 rfl ?hyb3 hHeld ?restb3
  case hyb3 => (intro w hSw; go_simp <;> with_reducible rfl)
  (try simp only [PPz]); refine tkn 4 ?vb4 rfl ?hyb4 hHeld ?restb4
  case hyb4 => (intro w hSw; go_simp <;> with_reducible rfl)
  (try simp only [PPz]); refine tkn 5 ?vb5 rfl ?hyb5 hHeld ?restb5
  case hyb5 => (intro w hSw; have kd0 := hSw.cell (by omega) d0; have kp4 := hSw.cell (by omega) p4; have kp5 := hSw.cell (by omega) p5; have kp0 := hSw.cell (by omega) p0; have kc0 := hSw.cell (by omega) c0; go_simp <;> with_reducible rfl)
  (try simp only [PPz]); refine tkn 6 ?vb6 rfl ?hyb6 hHeld ?restb6
  case hyb6 => (intro w hSw; go_simp <;> with_reducible rfl)
  (try simp only [PPz]); refine tkn 7 ?vb7 rfl ?hyb7 hHeld ?restb7
  case hyb7 => (intro w hSw; go_simp <;> with_reducible rfl)
  (try simp only [PPz]); refine tkn 8 ?vb8 rfl ?hyb8 hHeld ?restb8
  case hyb8 => (intro w hSw; have kd0 := hSw.cell (by omega) d0; have kp4 := hSw.cell (by omega) p4; have kp5 := hSw.cell (by omega) p5; have kp0 := hSw.cell (by omega) p0; have kc0 := hSw.cell (by omega) c0; go_simp <;> with_reducible rfl)
  (try simp only [PPz]); refine tkn 9 ?vb9 rfl ?hyb9 hHeld ?restb9
  case hyb9 => (intro w hSw; go_simp <;> with_reducible rfl)
  (try simp only [PPz]); refine tkn 10 ?vb10 rfl ?hyb10 hHeld ?restb10
  case hyb10 => (intro w hSw; go_simp <;> with_reducible rfl)
  (try simp only [PPz]); refine tkn 11 ?vb11 rfl ?hyb11 hHeld ?restb11
  case hyb11 => (intro w hSw; have kd0 := hSw.cell (by omega) d0; have kp4 := hSw.cell (by omega) p4; have kp5 := hSw.cell (by omega) p5; have kp0 := hSw.cell (by omega) p0; have kc0 := hSw.cell (by omega) c0; go_simp <;> with_reducible rfl)
  (try simp only [PPz]); refine rdy1 3 rfl (fun K hK => ?_); go_simp; refine (CG.out _).mono ?_; rintro e wb12 ⟨rfl, hb3⟩; (go_wp2_with fail); refine hK.out _ _ (hHeld.below hb3) (fun hNew => ?_); replace BP := BP.keep hb3; clear hb3; clear hHeld hK K; have hHeld := hNew; clear hNew; (try simp only [PPz]); refine rdy1 12 rfl (fun K hK => ?_); go_simp; refine (WH.out len _).mono ?_; rintro e wb13 ⟨rfl, hb3⟩; (go_wp2_with fail); refine hK.out _ _ (hHeld.below hb3) (fun hNew => ?_); replace BP := BP.keep hb3; clear hb3; clear hHeld hK K; have hHeld := hNew; clear hNew; (try simp only [PPz]); refine tkn 13 ?vb14 rfl ?hyb14 hHeld ?restb14
  case hyb14 => (intro w hSw; go_simp <;> with_reducible rfl)
  (try simp only [PPz]); refine rdy1 14 rfl (fun K hK => ?_); go_simp; refine hK.out _ _ (hHeld.al _) (fun hNew => ?_); have hY : V6.heap.size ≤ wb13.heap.size := hHeld.size; have dPY := BP.lt; clear hHeld hK K; have hHeld := hNew; clear hNew; (try simp only [PPz]); refine at_anyH (fun v => GB (fun k => k = P) V6 v ∧ BK v (P) [.slice none 0 0, .slice (some ⟨X0, 0, none⟩) 1 1] ∧ BK v (wb13.heap.size) [.int .i64 x, .int .i64 y, .int .i64 len, .int .i64 1]) ⟨hHeld, BP.al _, BK.new _ _ _⟩ (fun wb15 hS => ?_); clear hHeld BP; obtain ⟨hHeld, BP, BY⟩ := hS; refine tkn 15 ?vb16 rfl ?hyb16 hHeld ?restb16
  case hyb16 => (intro w hSw; go_simp <;> with_reducible rfl)
  (try simp only [PPz]); refine rdy1 16 rfl (fun K hK => ?_); have n0 := BP.c 0 rfl; have f0 := BP.f 0 rfl; go_simp; clear n0 f0; refine hK.out _ _ (hHeld.set (.inl rfl) _) (fun hNew => ?_); clear hHeld hK K; have hHeld := hNew; clear hNew; (try simp only [PPz]); refine at_anyH (fun v => GB (fun k => k = P) V6 v ∧ BK v (P) [.slice (some ⟨wb13.heap.size, 0, none⟩) 1 1, .slice (some ⟨X0, 0, none⟩) 1 1] ∧ BK v (wb13.heap.size) [.int .i64 x, .int .i64 y, .int .i64 len, .int .i64 1]) ⟨hHeld, (BP.set 0 _), (BY.far (by omega) _ _)⟩ (fun wb17 hS => ?_); clear hHeld BP BY; obtain ⟨hHeld, BP, BY⟩ := hS; refine wpAnyH_done (by kernel_rfl) ?_ _; refine NoPanic.normal ?_
  skip
  have hbb2 := hHeld.toBelow hbb (fun k hk => by omega) (by omega); have B1 := B1.gb hHeld (by omega); have BD := BD.gb hHeld (by omega); have BX := BX.gb hHeld (by omega); have hltB := B1.lt; clear d0 p4 p5 p0 c0 hbb B0; have d0 := BD.c 0 rfl; have r0 := B1.c 0 rfl; have g0 := B1.f 0 rfl; (go_wp2_with fail); exact bodyPost_ret (v := .agg #[.slice (some ⟨P, 0, none⟩) 2 2]) (by simp [results, Tryz.results27, go_sem, r0]) rfl ⟨P, _, X0, rfl, below_set hbb2 (by omega) _, by omega, by omega, by omega, BP.far (by omega) _ _, BY.far (by omega) _ _, BX.far (by omega) _ _⟩
set_option linter.unusedSimpArgs false in
set_option maxHeartbeats 8000000 in
set_option maxRecDepth 100000 in
theorem divided1f (A : Option Addr) (ca : Nat) (cs : List CkR) (Q : Option Addr) (n cq : Nat) (st x y len : Int) (w : World) (h : IsCs w A cs) (hl : cs.length = 2) (hlen : (Ak.cat cs 0).len = len) :
    Calls Tryz.prog 27 #[.agg #[.slice A cs.length ca, .slice Q n cq, .int .i64 1, .int .i64 st, .int .i64 x, .int .i64 y, .bool false]] w (DivQ x y len 1 0 1 x y w) := by
  obtain ⟨bb, o, hA, hcl⟩ := h.at_; obtain rfl := hA (by omega); have hc0 := (hcl 0 (by omega)).1; rw [hlen, show o + 0 * 3 = o by omega] at hc0
  have co := fun v => chother_any 1 0 (by decide) v
  have cg := fun v => chother_any 1 0 (by decide) v
  have wh := fun (n : Int) v => chwhole_any n v
  have i1 : 0 < cs.length := by omega
  have HCL := Lib.hid hc0; have CO := Lib.hid co; have CG := Lib.hid cg; have WH := Lib.hid wh; have hltc := lt_of_cell hc0; have hmk := two_make; clear hcl hc0 co cg wh hA h hl hlen
  unfold DivQ
  go_enter Tryz.func27, Tryz.ntmps27
  go_upto_region 1 with fail
  refine at_worldQ (fun v => Below w.heap.size w v ∧ BK v (w.heap.size) [.slice (some ⟨bb, o, none⟩) cs.length ca, .slice Q n cq, .int .i64 1, .int .i64 st, .int .i64 x, .int .i64 y, .bool false] ∧ BK v (w.heap.size + 1) [.slice none 0 0] ∧ v.heap.size = w.heap.size + 2) ⟨(below_al (below_al (Below.refl _ _) _) _), (by have b := ((BK.new w [.slice (some ⟨bb, o, none⟩) cs.length ca, .slice Q n cq, .int .i64 1, .int .i64 st, .int .i64 x, .int .i64 y, .bool false] 71).al (.cells #[.slice none 0 0] 27)); simpa only [World.size_alloc] using b), (by have b := (BK.new (w.alloc (.cells #[.slice (some ⟨bb, o, none⟩) cs.length ca, .slice Q n cq, .int .i64 1, .int .i64 st, .int .i64 x, .int .i64 y, .bool false] 71)) [.slice none 0 0] 27); simpa only [World.size_alloc] using b), by simp only [World.size_alloc]⟩ (fun V hS => ?_); obtain ⟨hbb, B0, B1, hVs⟩ := hS; have p2 := B0.c 2 rfl; have p6 := B0.c 6 rfl
  have hV : w.heap.size + 2 ≤ V.heap.size := by omega
  clear hVs
  go_upto_region 5 with fail
  refine at_worldQ (fun v => Below w.heap.size w v ∧ BK v w.heap.size [.slice (some ⟨bb, o, none⟩) cs.length ca, .slice Q n cq, .int .i64 1, .int .i64 st, .int .i64 x, .int .i64 y, .bool false] ∧ BK v (w.heap.size + 1) [.slice none 0 0] ∧ BK v V.heap.size [.slice none 0 0, .slice none 0 0] ∧ BK v (V.heap.size + 1) [.slice (some ⟨V.heap.size, 0, none⟩) 2 2] ∧ v.heap.size = V.heap.size + 2) ⟨below_al (below_al hbb _) _, (B0.al _).al _, (B1.al _).al _, (BK.new _ _ _).al _, (by have b := BK.new (V.alloc (.cells #[.slice none 0 0, .slice none 0 0] 58)) [.slice (some ⟨V.heap.size, 0, none⟩) 2 2] 27; simpa only [World.size_alloc] using b), by simp only [World.size_alloc]⟩ (fun V5 hS => ?_)
  have hX : w.heap.size + 2 ≤ V.heap.size := by omega
  clear p2 p6 hbb B0 B1 hV; obtain ⟨hbb, B0, B1, BP, BD, hV5⟩ := hS
  generalize V.heap.size = P at *
  have d0 := BD.c 0 rfl; have p4 := B0.c 4 rfl; have p5 := B0.c 5 rfl; refine wp_region_noPanic ?_; refine wp_region_held_drew (S := (GB (fun k => k = P) V5)) (by kernel_rfl) ((GB.refl _ _).drew) (fun hHeld => ?_); refine at_anyH (fun v => GB (fun k => k = P) V5 v ∧ BK v (P) [.slice none 0 0, .slice none 0 0]) ⟨hHeld, BP.drew⟩ (fun wa0 hNew => ?_); clear hHeld BP; obtain ⟨hHeld, BP⟩ := hNew; refine tkn 0 ?va1 rfl ?hya1 hHeld ?resta1
  case hya1 => (intro w hSw; go_simp <;> with_reducible rfl)
  (try simp only [PPz]); refine tkn 1 ?va2 rfl ?hya2 hHeld ?resta2
  case hya2 => (intro w hSw; have kd0 := hSw.cell (by omega) d0; have kp4 := hSw.cell (by omega) p4; have kp5 := hSw.cell (by omega) p5; go_simp <;> with_reducible rfl)
  (try simp only [PPz]); refine tkn 2 ?va3 rfl ?hya3 hHeld ?resta3
  case hya3 => (intro w hSw; go_simp <;> with_reducible rfl)
  (try simp only [PPz]); refine tkn 4 ?va4 rfl ?hya4 hHeld ?resta4
  case hya4 => (intro w hSw; go_simp <;> with_reducible rfl)
  (try simp only [PPz]); refine tkn 5 ?va5 rfl ?hya5 hHeld ?resta5
  case hya5 => (intro w hSw; have kd0 := hSw.cell (by omega) d0; have kp4 := hSw.cell (by omega) p4; have kp5 := hSw.cell (by omega) p5; go_simp <;> with_reducible rfl)
  (try simp only [PPz]); refine rdy1 3 rfl (fun K hK => ?_); go_simp; refine (WH.out 0 _).mono ?_; rintro e wa6 ⟨rfl, hb3⟩; (go_wp2_with fail); refine hK.out _ _ (hHeld.below hb3) (fun hNew => ?_); replace BP := BP.keep hb3; clear hb3; clear hHeld hK K; have hHeld := hNew; clear hNew; (try simp only [PPz]); refine tkn 6 ?va7 rfl ?hya7 hHeld ?resta7
  case hya7 => (intro w hSw; go_simp <;> with_reducible rfl)
  (try simp only [PPz]); refine rdy1 7 rfl (fun K hK => ?_); go_simp; refine hK.out _ _ (hHeld.al _) (fun hNew => ?_); have hX : V5.heap.size ≤ wa6.heap.size := hHeld.size; have dPX := BP.lt; clear hHeld hK K; have hHeld := hNew; clear hNew; (try simp only [PPz]); refine at_anyH (fun v => GB (fun k => k = P) V5 v ∧ BK v (P) [.slice none 0 0, .slice none 0 0] ∧ BK v (wa6.heap.size) [.int .i64 0, .int .i64 1, .int .i64 x, .int .i64 y]) ⟨hHeld, BP.al _, BK.new _ _ _⟩ (fun wa8 hS => ?_); clear hHeld BP; obtain ⟨hHeld, BP, BX⟩ := hS; refine tkn 8 ?va9 rfl ?hya9 hHeld ?resta9
  case hya9 => (intro w hSw; go_simp <;> with_reducible rfl)
  (try simp only [PPz]); refine rdy1 9 rfl (fun K hK => ?_); have n0 := BP.c 1 rfl; have f0 := BP.f 1 rfl; go_simp; clear n0 f0; refine hK.out _ _ (hHeld.set (.inl rfl) _) (fun hNew => ?_); clear hHeld hK K; have hHeld := hNew; clear hNew; (try simp only [PPz]); refine at_anyH (fun v => GB (fun k => k = P) V5 v ∧ BK v (P) [.slice none 0 0, .slice (some ⟨wa6.heap.size, 0, none⟩) 1 1] ∧ BK v (wa6.heap.size) [.int .i64 0, .int .i64 1, .int .i64 x, .int .i64 y]) ⟨hHeld, (BP.set 1 _), (BX.far (by omega) _ _)⟩ (fun wa10 hS => ?_); clear hHeld BP BX; obtain ⟨hHeld, BP, BX⟩ := hS; refine wpAnyH_done (by kernel_rfl) ?_ _; refine NoPanic.normal ?_
  skip
  have hbb2 := hHeld.toBelow hbb (fun k hk => by omega) (by omega); have B0 := B0.gb hHeld (by omega); have B1 := B1.gb hHeld (by omega); have BD := BD.gb hHeld (by omega); have hv6 := hHeld.size; clear d0 p4 p5 hHeld hbb
  go_upto_region 6 with fail
  refine at_worldQ (fun v => Below w.heap.size w v ∧ BK v w.heap.size [.slice (some ⟨bb, o, none⟩) cs.length ca, .slice Q n cq, .int .i64 1, .int .i64 st, .int .i64 x, .int .i64 y, .bool false] ∧ BK v (w.heap.size + 1) [.slice none 0 0] ∧ BK v P [.slice none 0 0, .slice (some ⟨wa6.heap.size, 0, none⟩) 1 1] ∧ BK v (P + 1) [.slice (some ⟨P, 0, none⟩) 2 2] ∧ BK v wa6.heap.size [.int .i64 0, .int .i64 1, .int .i64 x, .int .i64 y] ∧ w.heap.size ≤ v.heap.size) ⟨hbb2, B0, B1, BP, BD, BX, by omega⟩ (fun V6 hS => ?_)
  have hX0 : P + 2 ≤ wa6.heap.size := by omega
  clear hbb2 B0 B1 BP BD BX hv6 hV5; obtain ⟨hbb, B0, B1, BP, BD, BX, hV6⟩ := hS
  generalize wa6.heap.size = X0 at *
  have d0 := BD.c 0 rfl; have p0 := B0.c 0 rfl; have p4 := B0.c 4 rfl; have p5 := B0.c 5 rfl; have c0 := keepC hbb HCL.out; refine wp_region_noPanic ?_; refine wp_region_held_drew (S := (GB (fun k => k = P) V6)) (by kernel_rfl) ((GB.refl _ _).drew) (fun hHeld => ?_); refine at_anyH (fun v => GB (fun k => k = P) V6 v ∧ BK v (P) [.slice none 0 0, .slice (some ⟨X0, 0, none⟩) 1 1]) ⟨hHeld, BP.drew⟩ (fun wb0 hNew => ?_); clear hHeld BP; obtain ⟨hHeld, BP⟩ := hNew; refine tkn 0 ?vb1 rfl ?hyb1 hHeld ?restb1
  case hyb1 => (intro w hSw; go_simp <;> with_reducible rfl)
  (try simp only [PPz]); refine tkn 1 ?vb2 rfl ?hyb2 hHeld ?restb2
  case hyb2 => (intro w hSw; have kd0 := hSw.cell (by omega) d0; have kp4 := hSw.cell (by omega) p4; have kp5 := hSw.cell (by omega) p5; have kp0 := hSw.cell (by omega) p0; have kc0 := hSw.cell (by omega) c0; go_simp <;> with_reducible rfl)
  (try simp only [PPz]); refine tkn 2 ?vb3 rfl ?hyb3 hHeld ?restb3
  case hyb3 => (intro w hSw; go_simp <;> with_reducible rfl)
  (try simp only [PPz]); refine tkn 4 ?vb4 rfl ?hyb4 hHeld ?restb4
  case hyb4 => (intro w hSw; go_simp <;> with_reducible rfl)
  (try simp only [PPz]); refine tkn 5 ?vb5 rfl ?hyb5 hHeld ?restb5
  case hyb5 => (intro w hSw; have kd0 := hSw.cell (by omega) d0; have kp4 := hSw.cell (by omega) p4; have kp5 := hSw.cell (by omega) p5; have kp0 := hSw.cell (by omega) p0; have kc0 := hSw.cell (by omega) c0; go_simp <;> with_reducible rfl)
  (try simp only [PPz]); refine tkn 6 ?vb6 rfl ?hyb6 hHeld ?restb6
  case hyb6 => (intro w hSw; go_simp <;> with_reducible rfl)
  (try simp only [PPz]); refine tkn 7 ?vb7 rfl ?hyb7 hHeld ?restb7
  case hyb7 => (intro w hSw; go_simp <;> with_reducible rfl)
  (try simp only [PPz]); refine tkn 8 ?vb8 rfl ?hyb8 hHeld ?restb8
  case hyb8 => (intro w hSw; have kd0 := hSw.cell (by omega) d0; have kp4 := hSw.cell (by omega) p4; have kp5 := hSw.cell (by omega) p5; have kp0 := hSw.cell (by omega) p0; have kc0 := hSw.cell (by omega) c0; go_simp <;> with_reducible rfl)
  (try simp only [PPz]); refine tkn 9 ?vb9 rfl ?hyb9 hHeld ?restb9
  case hyb9 => (intro w hSw; go_simp <;> with_reducible rfl)
  (try simp only [PPz]); refine tkn 10 ?vb10 rfl ?hyb10 hHeld ?restb10
  case hyb10 => (intro w hSw; go_simp <;> with_reducible rfl)
  (try simp only [PPz]); refine tkn 11 ?vb11 rfl ?hyb11 hHeld ?restb11
  case hyb11 => (intro w hSw; have kd0 := hSw.cell (by omega) d0; have kp4 := hSw.cell (by omega) p4; have kp5 := hSw.cell (by omega) p5; have kp0 := hSw.cell (by omega) p0; have kc0 := hSw.cell (by omega) c0; go_simp <;> with_reducible rfl)
  (try simp only [PPz]); refine rdy1 3 rfl (fun K hK => ?_); go_simp; refine (CG.out _).mono ?_; rintro e wb12 ⟨rfl, hb3⟩; (go_wp2_with fail); refine hK.out _ _ (hHeld.below hb3) (fun hNew => ?_); replace BP := BP.keep hb3; clear hb3; clear hHeld hK K; have hHeld := hNew; clear hNew; (try simp only [PPz]); refine rdy1 12 rfl (fun K hK => ?_); go_simp; refine (WH.out len _).mono ?_; rintro e wb13 ⟨rfl, hb3⟩; (go_wp2_with fail); refine hK.out _ _ (hHeld.below hb3) (fun hNew => ?_); replace BP := BP.keep hb3; clear hb3; clear hHeld hK K; have hHeld := hNew; clear hNew; (try simp only [PPz]); refine tkn 13 ?vb14 rfl ?hyb14 hHeld ?restb14
  case hyb14 => (intro w hSw; go_simp <;> with_reducible rfl)
  (try simp only [PPz]); refine rdy1 14 rfl (fun K hK => ?_); go_simp; refine hK.out _ _ (hHeld.al _) (fun hNew => ?_); have hY : V6.heap.size ≤ wb13.heap.size := hHeld.size; have dPY := BP.lt; clear hHeld hK K; have hHeld := hNew; clear hNew; (try simp only [PPz]); refine at_anyH (fun v => GB (fun k => k = P) V6 v ∧ BK v (P) [.slice none 0 0, .slice (some ⟨X0, 0, none⟩) 1 1] ∧ BK v (wb13.heap.size) [.int .i64 x, .int .i64 y, .int .i64 len, .int .i64 1]) ⟨hHeld, BP.al _, BK.new _ _ _⟩ (fun wb15 hS => ?_); clear hHeld BP; obtain ⟨hHeld, BP, BY⟩ := hS; refine tkn 15 ?vb16 rfl ?hyb16 hHeld ?restb16
  case hyb16 => (intro w hSw; go_simp <;> with_reducible rfl)
  (try simp only [PPz]); refine rdy1 16 rfl (fun K hK => ?_); have n0 := BP.c 0 rfl; have f0 := BP.f 0 rfl; go_simp; clear n0 f0; refine hK.out _ _ (hHeld.set (.inl rfl) _) (fun hNew => ?_); clear hHeld hK K; have hHeld := hNew; clear hNew; (try simp only [PPz]); refine at_anyH (fun v => GB (fun k => k = P) V6 v ∧ BK v (P) [.slice (some ⟨wb13.heap.size, 0, none⟩) 1 1, .slice (some ⟨X0, 0, none⟩) 1 1] ∧ BK v (wb13.heap.size) [.int .i64 x, .int .i64 y, .int .i64 len, .int .i64 1]) ⟨hHeld, (BP.set 0 _), (BY.far (by omega) _ _)⟩ (fun wb17 hS => ?_); clear hHeld BP BY; obtain ⟨hHeld, BP, BY⟩ := hS; refine wpAnyH_done (by kernel_rfl) ?_ _; refine NoPanic.normal ?_
  skip
  have hbb2 := hHeld.toBelow hbb (fun k hk => by omega) (by omega); have B1 := B1.gb hHeld (by omega); have BD := BD.gb hHeld (by omega); have BX := BX.gb hHeld (by omega); have hltB := B1.lt; clear d0 p4 p5 p0 c0 hbb B0; have d0 := BD.c 0 rfl; have r0 := B1.c 0 rfl; have g0 := B1.f 0 rfl; (go_wp2_with fail); exact bodyPost_ret (v := .agg #[.slice (some ⟨P, 0, none⟩) 2 2]) (by simp [results, Tryz.results27, go_sem, r0]) rfl ⟨P, _, X0, rfl, below_set hbb2 (by omega) _, by omega, by omega, by omega, BP.far (by omega) _ _, BY.far (by omega) _ _, BX.far (by omega) _ _⟩
set_option linter.unusedSimpArgs false in
set_option maxHeartbeats 8000000 in
set_option maxRecDepth 100000 in
theorem divided1t (A : Option Addr) (ca : Nat) (cs : List CkR) (Q : Option Addr) (n cq : Nat) (st x y len : Int) (w : World) (h : IsCs w A cs) (hl : cs.length = 2) (hlen : (Ak.cat cs 0).len = len) :
    Calls Tryz.prog 27 #[.agg #[.slice A cs.length ca, .slice Q n cq, .int .i64 1, .int .i64 st, .int .i64 x, .int .i64 y, .bool true]] w (DivQ 0 1 x y x y len 1 w) := by
  obtain ⟨bb, o, hA, hcl⟩ := h.at_; obtain rfl := hA (by omega); have hc0 := (hcl 0 (by omega)).1; rw [hlen, show o + 0 * 3 = o by omega] at hc0
  have co := fun v => chother_any 1 0 (by decide) v
  have cg := fun v => chother_any 0 1 (by decide) v
  have wh := fun (n : Int) v => chwhole_any n v
  have i1 : 0 < cs.length := by omega
  have HCL := Lib.hid hc0; have CO := Lib.hid co; have CG := Lib.hid cg; have WH := Lib.hid wh; have hltc := lt_of_cell hc0; have hmk := two_make; clear hcl hc0 co cg wh hA h hl hlen
  unfold DivQ
  go_enter Tryz.func27, Tryz.ntmps27
  go_upto_region 1 with fail
  refine at_worldQ (fun v => Below w.heap.size w v ∧ BK v (w.heap.size) [.slice (some ⟨bb, o, none⟩) cs.length ca, .slice Q n cq, .int .i64 1, .int .i64 st, .int .i64 x, .int .i64 y, .bool true] ∧ BK v (w.heap.size + 1) [.slice none 0 0] ∧ v.heap.size = w.heap.size + 2) ⟨(below_al (below_al (Below.refl _ _) _) _), (by have b := ((BK.new w [.slice (some ⟨bb, o, none⟩) cs.length ca, .slice Q n cq, .int .i64 1, .int .i64 st, .int .i64 x, .int .i64 y, .bool true] 71).al (.cells #[.slice none 0 0] 27)); simpa only [World.size_alloc] using b), (by have b := (BK.new (w.alloc (.cells #[.slice (some ⟨bb, o, none⟩) cs.length ca, .slice Q n cq, .int .i64 1, .int .i64 st, .int .i64 x, .int .i64 y, .bool true] 71)) [.slice none 0 0] 27); simpa only [World.size_alloc] using b), by simp only [World.size_alloc]⟩ (fun V hS => ?_); obtain ⟨hbb, B0, B1, hVs⟩ := hS; have p2 := B0.c 2 rfl; have p6 := B0.c 6 rfl
  have hV : w.heap.size + 2 ≤ V.heap.size := by omega
  clear hVs; (go_wp2_with fail); refine (CO.out _).mono ?_; rintro e w1 ⟨rfl, hb⟩; replace hbb := keepB hbb hb; replace B0 := B0.keep hb; replace B1 := B1.keep hb; have hw1 := hb.size; clear hb; clear p2 p6
  go_upto_region 5 with fail
  refine at_worldQ (fun v => Below w.heap.size w v ∧ BK v w.heap.size [.slice (some ⟨bb, o, none⟩) cs.length ca, .slice Q n cq, .int .i64 1, .int .i64 st, .int .i64 x, .int .i64 y, .bool true] ∧ BK v (w.heap.size + 1) [.slice none 0 0] ∧ BK v w1.heap.size [.slice none 0 0, .slice none 0 0] ∧ BK v (w1.heap.size + 1) [.slice (some ⟨w1.heap.size, 0, none⟩) 2 2] ∧ v.heap.size = w1.heap.size + 2) ⟨below_al (below_al hbb _) _, (B0.al _).al _, (B1.al _).al _, (BK.new _ _ _).al _, (by have b := BK.new (w1.alloc (.cells #[.slice none 0 0, .slice none 0 0] 58)) [.slice (some ⟨w1.heap.size, 0, none⟩) 2 2] 27; simpa only [World.size_alloc] using b), by simp only [World.size_alloc]⟩ (fun V5 hS => ?_)
  have hX : w.heap.size + 2 ≤ w1.heap.size := by omega
  clear hbb B0 B1 hV hw1; obtain ⟨hbb, B0, B1, BP, BD, hV5⟩ := hS
  generalize w1.heap.size = P at *
  have d0 := BD.c 0 rfl; have p4 := B0.c 4 rfl; have p5 := B0.c 5 rfl; refine wp_region_noPanic ?_; refine wp_region_held_drew (S := (GB (fun k => k = P) V5)) (by kernel_rfl) ((GB.refl _ _).drew) (fun hHeld => ?_); refine at_anyH (fun v => GB (fun k => k = P) V5 v ∧ BK v (P) [.slice none 0 0, .slice none 0 0]) ⟨hHeld, BP.drew⟩ (fun wa0 hNew => ?_); clear hHeld BP; obtain ⟨hHeld, BP⟩ := hNew; refine tkn 0 ?va1 rfl ?hya1 hHeld ?resta1
  case hya1 => (intro w hSw; go_simp <;> with_reducible rfl)
  (try simp only [PPz]); refine tkn 1 ?va2 rfl ?hya2 hHeld ?resta2
  case hya2 => (intro w hSw; have kd0 := hSw.cell (by omega) d0; have kp4 := hSw.cell (by omega) p4; have kp5 := hSw.cell (by omega) p5; go_simp <;> with_reducible rfl)
  (try simp only [PPz]); refine tkn 2 ?va3 rfl ?hya3 hHeld ?resta3
  case hya3 => (intro w hSw; go_simp <;> with_reducible rfl)
  (try simp only [PPz]); refine tkn 4 ?va4 rfl ?hya4 hHeld ?resta4
  case hya4 => (intro w hSw; go_simp <;> with_reducible rfl)
  (try simp only [PPz]); refine tkn 5 ?va5 rfl ?hya5 hHeld ?resta5
  case hya5 => (intro w hSw; have kd0 := hSw.cell (by omega) d0; have kp4 := hSw.cell (by omega) p4; have kp5 := hSw.cell (by omega) p5; go_simp <;> with_reducible rfl)
  (try simp only [PPz]); refine rdy1 3 rfl (fun K hK => ?_); go_simp; refine (WH.out 0 _).mono ?_; rintro e wa6 ⟨rfl, hb3⟩; (go_wp2_with fail); refine hK.out _ _ (hHeld.below hb3) (fun hNew => ?_); replace BP := BP.keep hb3; clear hb3; clear hHeld hK K; have hHeld := hNew; clear hNew; (try simp only [PPz]); refine tkn 6 ?va7 rfl ?hya7 hHeld ?resta7
  case hya7 => (intro w hSw; go_simp <;> with_reducible rfl)
  (try simp only [PPz]); refine rdy1 7 rfl (fun K hK => ?_); go_simp; refine hK.out _ _ (hHeld.al _) (fun hNew => ?_); have hX : V5.heap.size ≤ wa6.heap.size := hHeld.size; have dPX := BP.lt; clear hHeld hK K; have hHeld := hNew; clear hNew; (try simp only [PPz]); refine at_anyH (fun v => GB (fun k => k = P) V5 v ∧ BK v (P) [.slice none 0 0, .slice none 0 0] ∧ BK v (wa6.heap.size) [.int .i64 0, .int .i64 1, .int .i64 x, .int .i64 y]) ⟨hHeld, BP.al _, BK.new _ _ _⟩ (fun wa8 hS => ?_); clear hHeld BP; obtain ⟨hHeld, BP, BX⟩ := hS; refine tkn 8 ?va9 rfl ?hya9 hHeld ?resta9
  case hya9 => (intro w hSw; go_simp <;> with_reducible rfl)
  (try simp only [PPz]); refine rdy1 9 rfl (fun K hK => ?_); have n0 := BP.c 0 rfl; have f0 := BP.f 0 rfl; go_simp; clear n0 f0; refine hK.out _ _ (hHeld.set (.inl rfl) _) (fun hNew => ?_); clear hHeld hK K; have hHeld := hNew; clear hNew; (try simp only [PPz]); refine at_anyH (fun v => GB (fun k => k = P) V5 v ∧ BK v (P) [.slice (some ⟨wa6.heap.size, 0, none⟩) 1 1, .slice none 0 0] ∧ BK v (wa6.heap.size) [.int .i64 0, .int .i64 1, .int .i64 x, .int .i64 y]) ⟨hHeld, (BP.set 0 _), (BX.far (by omega) _ _)⟩ (fun wa10 hS => ?_); clear hHeld BP BX; obtain ⟨hHeld, BP, BX⟩ := hS; refine wpAnyH_done (by kernel_rfl) ?_ _; refine NoPanic.normal ?_
  skip
  have hbb2 := hHeld.toBelow hbb (fun k hk => by omega) (by omega); have B0 := B0.gb hHeld (by omega); have B1 := B1.gb hHeld (by omega); have BD := BD.gb hHeld (by omega); have hv6 := hHeld.size; clear d0 p4 p5 hHeld hbb
  go_upto_region 6 with fail
  refine at_worldQ (fun v => Below w.heap.size w v ∧ BK v w.heap.size [.slice (some ⟨bb, o, none⟩) cs.length ca, .slice Q n cq, .int .i64 1, .int .i64 st, .int .i64 x, .int .i64 y, .bool true] ∧ BK v (w.heap.size + 1) [.slice none 0 0] ∧ BK v P [.slice (some ⟨wa6.heap.size, 0, none⟩) 1 1, .slice none 0 0] ∧ BK v (P + 1) [.slice (some ⟨P, 0, none⟩) 2 2] ∧ BK v wa6.heap.size [.int .i64 0, .int .i64 1, .int .i64 x, .int .i64 y] ∧ w.heap.size ≤ v.heap.size) ⟨hbb2, B0, B1, BP, BD, BX, by omega⟩ (fun V6 hS => ?_)
  have hX0 : P + 2 ≤ wa6.heap.size := by omega
  clear hbb2 B0 B1 BP BD BX hv6 hV5; obtain ⟨hbb, B0, B1, BP, BD, BX, hV6⟩ := hS
  generalize wa6.heap.size = X0 at *
  have d0 := BD.c 0 rfl; have p0 := B0.c 0 rfl; have p4 := B0.c 4 rfl; have p5 := B0.c 5 rfl; have c0 := keepC hbb HCL.out; refine wp_region_noPanic ?_; refine wp_region_held_drew (S := (GB (fun k => k = P) V6)) (by kernel_rfl) ((GB.refl _ _).drew) (fun hHeld => ?_); refine at_anyH (fun v => GB (fun k => k = P) V6 v ∧ BK v (P) [.slice (some ⟨X0, 0, none⟩) 1 1, .slice none 0 0]) ⟨hHeld, BP.drew⟩ (fun wb0 hNew => ?_); clear hHeld BP; obtain ⟨hHeld, BP⟩ := hNew; refine tkn 0 ?vb1 rfl ?hyb1 hHeld ?restb1
  case hyb1 => (intro w hSw; go_simp <;> with_reducible rfl)
  (try simp only [PPz]); refine tkn 1 ?vb2 rfl ?hyb2 hHeld ?restb2
  case hyb2 => (intro w hSw; have kd0 := hSw.cell (by omega) d0; have kp4 := hSw.cell (by omega) p4; have kp5 := hSw.cell (by omega) p5; have kp0 := hSw.cell (by omega) p0; have kc0 := hSw.cell (by omega) c0; go_simp <;> with_reducible rfl)
  (try simp only [PPz]); refine tkn 2 ?vb3 rfl ?hyb3 hHeld ?restb3
  case hyb3 => (intro w hSw; go_simp <;> with_reducible rfl)
  (try simp only [PPz]); refine tkn 4 ?vb4 rfl ?hyb4 hHeld ?restb4
  case hyb4 => (intro w hSw; go_simp <;> with_reducible rfl)
  (try simp only [PPz]); refine tkn 5 ?vb5 rfl ?hyb5 hHeld ?restb5
  case hyb5 => (intro w hSw; have kd0 := hSw.cell (by omega) d0; have kp4 := hSw.cell (by omega) p4; have kp5 := hSw.cell (by omega) p5; have kp0 := hSw.cell (by omega) p0; have kc0 := hSw.cell (by omega) c0; go_simp <;> with_reducible rfl)
  (try simp only [PPz]); refine tkn 6 ?vb6 rfl ?hyb6 hHeld ?restb6
  case hyb6 => (intro w hSw; go_simp <;> with_reducible rfl)
  (try simp only [PPz]); refine tkn 7 ?vb7 rfl ?hyb7 hHeld ?restb7
  case hyb7 => (intro w hSw; go_simp <;> with_reducible rfl)
  (try simp only [PPz]); refine tkn 8 ?vb8 rfl ?hyb8 hHeld ?restb8
  case hyb8 => (intro w hSw; have kd0 := hSw.cell (by omega) d0; have kp4 := hSw.cell (by omega) p4; have kp5 := hSw.cell (by omega) p5; have kp0 := hSw.cell (by omega) p0; have kc0 := hSw.cell (by omega) c0; go_simp <;> with_reducible rfl)
  (try simp only [PPz]); refine tkn 9 ?vb9 rfl ?hyb9 hHeld ?restb9
  case hyb9 => (intro w hSw; go_simp <;> with_reducible rfl)
  (try simp only [PPz]); refine tkn 10 ?vb10 rfl ?hyb10 hHeld ?restb10
  case hyb10 => (intro w hSw; go_simp <;> with_reducible rfl)
  (try simp only [PPz]); refine tkn 11 ?vb11 rfl ?hyb11 hHeld ?restb11
  case hyb11 => (intro w hSw; have kd0 := hSw.cell (by omega) d0; have kp4 := hSw.cell (by omega) p4; have kp5 := hSw.cell (by omega) p5; have kp0 := hSw.cell (by omega) p0; have kc0 := hSw.cell (by omega) c0; go_simp <;> with_reducible rfl)
  (try simp only [PPz]); refine rdy1 3 rfl (fun K hK => ?_); go_simp; refine (CG.out _).mono ?_; rintro e wb12 ⟨rfl, hb3⟩; (go_wp2_with fail); refine hK.out _ _ (hHeld.below hb3) (fun hNew => ?_); replace BP := BP.keep hb3; clear hb3; clear hHeld hK K; have hHeld := hNew; clear hNew; (try simp only [PPz]); refine rdy1 12 rfl (fun K hK => ?_); go_simp; refine (WH.out len _).mono ?_; rintro e wb13 ⟨rfl, hb3⟩; (go_wp2_with fail); refine hK.out _ _ (hHeld.below hb3) (fun hNew => ?_); replace BP := BP.keep hb3; clear hb3; clear hHeld hK K; have hHeld := hNew; clear hNew; (try simp only [PPz]); refine tkn 13 ?vb14 rfl ?hyb14 hHeld ?restb14
  case hyb14 => (intro w hSw; go_simp <;> with_reducible rfl)
  (try simp only [PPz]); refine rdy1 14 rfl (fun K hK => ?_); go_simp; refine hK.out _ _ (hHeld.al _) (fun hNew => ?_); have hY : V6.heap.size ≤ wb13.heap.size := hHeld.size; have dPY := BP.lt; clear hHeld hK K; have hHeld := hNew; clear hNew; (try simp only [PPz]); refine at_anyH (fun v => GB (fun k => k = P) V6 v ∧ BK v (P) [.slice (some ⟨X0, 0, none⟩) 1 1, .slice none 0 0] ∧ BK v (wb13.heap.size) [.int .i64 x, .int .i64 y, .int .i64 len, .int .i64 1]) ⟨hHeld, BP.al _, BK.new _ _ _⟩ (fun wb15 hS => ?_); clear hHeld BP; obtain ⟨hHeld, BP, BY⟩ := hS; refine tkn 15 ?vb16 rfl ?hyb16 hHeld ?restb16
  case hyb16 => (intro w hSw; go_simp <;> with_reducible rfl)
  (try simp only [PPz]); refine rdy1 16 rfl (fun K hK => ?_); have n0 := BP.c 1 rfl; have f0 := BP.f 1 rfl; go_simp; clear n0 f0; refine hK.out _ _ (hHeld.set (.inl rfl) _) (fun hNew => ?_); clear hHeld hK K; have hHeld := hNew; clear hNew; (try simp only [PPz]); refine at_anyH (fun v => GB (fun k => k = P) V6 v ∧ BK v (P) [.slice (some ⟨X0, 0, none⟩) 1 1, .slice (some ⟨wb13.heap.size, 0, none⟩) 1 1] ∧ BK v (wb13.heap.size) [.int .i64 x, .int .i64 y, .int .i64 len, .int .i64 1]) ⟨hHeld, (BP.set 1 _), (BY.far (by omega) _ _)⟩ (fun wb17 hS => ?_); clear hHeld BP BY; obtain ⟨hHeld, BP, BY⟩ := hS; refine wpAnyH_done (by kernel_rfl) ?_ _; refine NoPanic.normal ?_
  skip
  have hbb2 := hHeld.toBelow hbb (fun k hk => by omega) (by omega); have B1 := B1.gb hHeld (by omega); have BD := BD.gb hHeld (by omega); have BX := BX.gb hHeld (by omega); have hltB := B1.lt; clear d0 p4 p5 p0 c0 hbb B0; have d0 := BD.c 0 rfl; have r0 := B1.c 0 rfl; have g0 := B1.f 0 rfl; (go_wp2_with fail); exact bodyPost_ret (v := .agg #[.slice (some ⟨P, 0, none⟩) 2 2]) (by simp [results, Tryz.results27, go_sem, r0]) rfl ⟨P, X0, _, rfl, below_set hbb2 (by omega) _, by omega, by omega, by omega, BP.far (by omega) _ _, BX.far (by omega) _ _, BY.far (by omega) _ _⟩
end Go.Proofs.YtpcdggkajindbaaGreat
namespace Go.Proofs.YtpcdggkajindbaaGreat
open Go.RowKit
/-- What Run gives for two valid cakes. -/
def RunQ (L : List Qr) (a0 b0 c0 d0 a1 b1 c1 d1 : Int) (w : World) (e : Ending) (w' : World) : Prop :=
  ∃ (P g0 g1 : Nat) (Q : Option Addr) (n cq : Nat), e = .returned (.tuple #[.agg #[.slice (some ⟨P, 0, none⟩) 2 2], .slice Q n cq, .int .i64 0]) ∧ Below w.heap.size w w' ∧ n = L.length ∧ IsQs w' Q L ∧ DivB w.heap.size P g0 g1 a0 b0 c0 d0 a1 b1 c1 d1 w'
set_option linter.unusedSimpArgs false in
set_option maxHeartbeats 8000000 in
set_option maxRecDepth 100000 in
theorem run_of (A : Option Addr) (ca n : Nat) (K x y : Int) (b : Bool) (D : List CkD) (L : List Qr) (a0 b0 c0 d0 a1 b1 c1 d1 : Int) (w : World)
    (hR : ∀ v, Below w.heap.size w v → Calls Tryz.prog 26 #[.slice A n ca, .int .i64 K, .int .i64 2] v (StR D L K 2 x y b v))
    (hV : ∀ (A : Option Addr) (ca : Nat) (l : List CkR) (Q : Option Addr) (n cq : Nat) (v : World), IsCs v A l → l.map Ak.dat = D → Calls Tryz.prog 27 #[.agg #[.slice A l.length ca, .slice Q n cq, .int .i64 K, .int .i64 2, .int .i64 x, .int .i64 y, .bool b]] v (DivQ a0 b0 c0 d0 a1 b1 c1 d1 v)) :
    Calls Tryz.prog 8 #[.slice A n ca, .int .i64 K] w (RunQ L a0 b0 c0 d0 a1 b1 c1 d1 w) := by
  unfold StR at hR
  have RE := Lib.hid hR; have DV := Lib.hid hV; have e0 : ((0 : Int) != 0) = false := rfl; clear hR hV
  unfold RunQ
  go_enter Tryz.func8, Tryz.ntmps8
  go_upto_region 1 with fail
  refine at_worldQ (fun v => Below w.heap.size w v ∧ BK v (w.heap.size) [.slice none 0 0] ∧ v.heap.size = w.heap.size + 1) ⟨(below_al (Below.refl _ _) _), (by have b := (BK.new w [.slice none 0 0] 27); simpa only [World.size_alloc] using b), by simp only [World.size_alloc]⟩ (fun V hS => ?_); obtain ⟨hbb, B0, hVs⟩ := hS
  have hV0 : w.heap.size + 1 ≤ V.heap.size := by omega
  clear hVs; (go_wp2_with fail); refine (RE.out _ hbb).mono ?_; rintro e w1 ⟨A1, m1, ca1, Q1, n1, cq1, l1, rfl, hb, hm1, hn1, hd1, hfd⟩; have HM1 := Lib.hid hm1; have HN1 := Lib.hid hn1; have HD1 := Lib.hid hd1; clear hm1 hn1 hd1; replace hbb := keepB hbb hb; replace B0 := B0.keep hb; have hw1 := hb.size; clear hb
  go_upto_region 2 with fail
  refine at_worldQ (fun v => Below w.heap.size w v ∧ BK v w.heap.size [.slice none 0 0] ∧ BK v w1.heap.size [.slice A1 m1 ca1, .slice Q1 n1 cq1, .int .i64 K, .int .i64 2, .int .i64 x, .int .i64 y, .bool b] ∧ FD v V.heap.size A1 ca1 l1 Q1 cq1 L ∧ w.heap.size + 1 ≤ v.heap.size) ⟨below_al hbb _, B0.al _, BK.new _ _ _, hfd.keep (below_al (Below.refl _ _) _), by simp only [World.size_alloc]; omega⟩ (fun V4 hS => ?_); clear hbb B0 hfd; obtain ⟨hbb, B0, BX, hfd, hV4⟩ := hS
  have hX : w.heap.size + 1 ≤ w1.heap.size := by omega
  clear hw1
  generalize w1.heap.size = X at *
  generalize V.heap.size = BV at *
  go_upto_region 4 with fail
  clear e0; have s0 := BX.c 0 rfl; have s1 := BX.c 1 rfl; have s2 := BX.c 2 rfl; have s3 := BX.c 3 rfl; have s4 := BX.c 4 rfl; have s5 := BX.c 5 rfl; have s6 := BX.c 6 rfl
  have dv := fun u (hu : IsCs u A1 l1) => DV.out A1 ca1 l1 Q1 n1 cq1 u hu HD1.out
  rw [← HM1.out] at dv; have DVL := Lib.hid dv; clear dv; refine wp_region_noPanic ?_; refine region_ordU (S := (GB (fun _ => False) V4)) (GB (fun k => k = w.heap.size) V4) 5 (by kernel_rfl) ((GB.refl _ _).drew) (fun hHeld => ?_); refine at_ordU (fun v => GB (fun _ => False) V4 v) hHeld (fun wa0 hNew => ?_); clear hHeld; have hHeld := hNew; clear hNew; refine ordU_take (i := 0) (o := _) (v := ?va1) rfl (by kernel_rfl) (by kernel_rfl) (by kernel_rfl) (by kernel_rfl) (fun _ _ _ h => h) (Or.inl ⟨by kernel_rfl, ?hya1⟩) hHeld ?resta1
  case hya1 => (intro w hSw; have ks0 := hSw.cell (fun h => h) s0; have ks1 := hSw.cell (fun h => h) s1; have ks2 := hSw.cell (fun h => h) s2; have ks3 := hSw.cell (fun h => h) s3; have ks4 := hSw.cell (fun h => h) s4; have ks5 := hSw.cell (fun h => h) s5; have ks6 := hSw.cell (fun h => h) s6; go_simp <;> with_reducible rfl)
  (try simp only [PPz]); refine ordU_take2 (i := 2) (o := _) (v := ?va2) rfl (by kernel_rfl) (by kernel_rfl) (by kernel_rfl) (by decide) (fun  _ _ _ h => h) (Or.inl ⟨by kernel_rfl, ?hya2⟩) (Or.inl ⟨by kernel_rfl, ?hza2⟩) hHeld ?resta2
  case hya2 => (intro w hSw; go_simp <;> with_reducible rfl)
  case hza2 => (intro w hSw; go_simp <;> with_reducible rfl)
  (try simp only [PPz]); refine ordU_take2 (i := 3) (o := _) (v := ?va3) rfl (by kernel_rfl) (by kernel_rfl) (by kernel_rfl) (by decide) (fun  _ _ _ h => h) (Or.inl ⟨by kernel_rfl, ?hya3⟩) (Or.inl ⟨by kernel_rfl, ?hza3⟩) hHeld ?resta3
  case hya3 => (intro w hSw; go_simp <;> with_reducible rfl)
  case hza3 => (intro w hSw; go_simp <;> with_reducible rfl)
  (try simp only [PPz]); refine ordU_take2 (i := 4) (o := _) (v := ?va4) rfl (by kernel_rfl) (by kernel_rfl) (by kernel_rfl) (by decide) (fun  _ _ _ h => h) (Or.inl ⟨by kernel_rfl, ?hya4⟩) (Or.inl ⟨by kernel_rfl, ?hza4⟩) hHeld ?resta4
  case hya4 => (intro w hSw; have ks0 := hSw.cell (fun h => h) s0; have ks1 := hSw.cell (fun h => h) s1; have ks2 := hSw.cell (fun h => h) s2; have ks3 := hSw.cell (fun h => h) s3; have ks4 := hSw.cell (fun h => h) s4; have ks5 := hSw.cell (fun h => h) s5; have ks6 := hSw.cell (fun h => h) s6; go_simp <;> with_reducible rfl)
  case hza4 => (intro w hSw; have ks0 := hSw.cell (by omega) s0; have ks1 := hSw.cell (by omega) s1; have ks2 := hSw.cell (by omega) s2; have ks3 := hSw.cell (by omega) s3; have ks4 := hSw.cell (by omega) s4; have ks5 := hSw.cell (by omega) s5; have ks6 := hSw.cell (by omega) s6; go_simp <;> with_reducible rfl)
  (try simp only [PPz]); refine ordU_ready (rs := [1]) (by kernel_rfl) (by simp) (ReadyU.cons (o := _) rfl (by decide) (fun K hK => ?_) ReadyU.nil); go_simp; refine (DVL.out _ (hfd.keep (hHeld.toBelow (Below.refl _ _) (fun k hk => hk.elim) (Nat.le_refl _))).isCs).mono ?_; rintro e wa5 hput
  unfold DivQ at hput
  obtain ⟨P, g0, g1, rfl, hb3, hdv⟩ := hput; have hvw := hHeld.size; replace hfd := (hfd.keep (hHeld.toBelow (Below.refl _ _) (fun k hk => hk.elim) (Nat.le_refl _))).keep hb3; (go_wp2_with fail); refine hK.out _ _ (hHeld.below hb3) (fun hNew => ?_); clear hb3; clear hHeld hK K; have hHeld := hNew; clear hNew; (try simp only [PPz]); refine ordU_at (by kernel_rfl) ?_; replace B0 := B0.gb hHeld (fun h => h); replace hHeld : GB (fun k => k = w.heap.size) V4 wa5 := hHeld.weak (fun k hk => hk.elim); refine rdy1 5 rfl (fun K hK => ?_); have n0 := B0.c 0 rfl; have f0 := B0.f 0 rfl; go_simp; clear n0 f0; refine hK.out _ _ (hHeld.set (.inl rfl) _) (fun hNew => ?_); clear hHeld hK K; have hHeld := hNew; clear hNew; (try simp only [PPz]); refine at_anyH (fun v => GB (fun k => k = w.heap.size) V4 v ∧ BK v (w.heap.size) [.slice (some ⟨P, 0, none⟩) 2 2] ∧ DivB wa0.heap.size P g0 g1 a0 b0 c0 d0 a1 b1 c1 d1 v ∧ FD v BV A1 ca1 l1 Q1 cq1 L) ⟨hHeld, (B0.set 0 _), (hdv.set (by omega) _), (hfd.set (by omega) _)⟩ (fun wa6 hS => ?_); clear hHeld B0 hdv hfd; obtain ⟨hHeld, B0, hdv, hfd⟩ := hS; refine tkn 6 ?va7 rfl ?hya7 hHeld ?resta7
  case hya7 => (intro w hSw; go_simp <;> with_reducible rfl)
  (try simp only [PPz]); refine tkn 7 ?va8 rfl ?hya8 hHeld ?resta8
  case hya8 => (intro w hSw; go_simp <;> with_reducible rfl)
  (try simp only [PPz]); refine wpAnyH_done (by kernel_rfl) ?_ _; refine NoPanic.normal ?_
  skip
  have hbb2 := hHeld.toBelow hbb (fun k hk => by omega) (by omega); have r0 := B0.c 0 rfl; have hqs := hfd.isQs; clear s0 s1 s2 s3 s4 s5 s6; (go_wp2_with fail); exact bodyPost_ret (v := .tuple #[.agg #[.slice (some ⟨P, 0, none⟩) 2 2], .slice Q1 n1 cq1, .int .i64 0]) (by simp [results, Tryz.results8, go_sem, r0]) rfl ⟨P, g0, g1, Q1, n1, cq1, rfl, hbb2, HN1.out, hqs, hdv.mono (by omega)⟩
end Go.Proofs.YtpcdggkajindbaaGreat
namespace Go.Proofs.YtpcdggkajindbaaGreat
open Go.RowKit
set_option linter.unusedSimpArgs false in
set_option maxHeartbeats 8000000 in
set_option maxRecDepth 100000 in
theorem same1_eq (g h : Nat) (a b c d : Int) (w : World) (B1 : BK w g [.int .i64 a, .int .i64 b, .int .i64 c, .int .i64 d]) (B2 : BK w h [.int .i64 a, .int .i64 b, .int .i64 c, .int .i64 d]) :
    Calls Tryz.prog 49 #[.slice (some ⟨g, 0, none⟩) 1 1, .slice (some ⟨h, 0, none⟩) 1 1] w fun e w' => e = .returned (.bool true) ∧ Below w.heap.size w w' := by
  have HB1 := Lib.hid B1; have HB2 := Lib.hid B2; clear B1 B2
  go_enter Tryz.func49, Tryz.ntmps49
  go_wp2_with fail
  go_loopw [5] (fun i W => ∃ k : Nat, k ≤ 1 ∧ i = .int .i64 k ∧ Below w.heap.size w W) (fun i _ => 1 - (intOf i).toNat)
  case atStart => exact ⟨0, by omega, rfl, Below.refl _ _⟩
  case round =>
    obtain ⟨k, hk, rfl, hbb⟩ := hrel
    rcases (show k = 0 ∨ k = 1 by omega) with rfl | rfl
    · go_upto_region 6 with fail
      refine at_worldQ (fun v => Below w.heap.size w v) hbb (fun V hS => ?_); clear hbb; have hbb := hS; clear hS; have c0 := keepC hbb (HB1.out.c 0 rfl); have c1 := keepC hbb (HB1.out.c 1 rfl); have c2 := keepC hbb (HB1.out.c 2 rfl); have c3 := keepC hbb (HB1.out.c 3 rfl); have d0 := keepC hbb (HB2.out.c 0 rfl); have d1 := keepC hbb (HB2.out.c 1 rfl); have d2 := keepC hbb (HB2.out.c 2 rfl); have d3 := keepC hbb (HB2.out.c 3 rfl); refine wp_region_noPanic ?_; refine wp_region_held_drew (S := (Below V.heap.size V)) (by kernel_rfl) ((Below.refl _ _).drew) (fun hHeld => ?_); refine at_anyH (Below V.heap.size V) hHeld (fun wq0 hNew => ?_); clear hHeld; have hHeld := hNew; clear hNew; refine tkn 0 ?vq1 rfl ?hyq1 hHeld ?restq1
      case hyq1 => (intro w hSw; go_simp <;> with_reducible rfl)
      (try simp only [PPz]); refine tkn 1 ?vq2 rfl ?hyq2 hHeld ?restq2
      case hyq2 => (intro w hSw; go_simp <;> with_reducible rfl)
      (try simp only [PPz]); refine tkn 2 ?vq3 rfl ?hyq3 hHeld ?restq3
      case hyq3 => (intro w hSw; go_simp <;> with_reducible rfl)
      (try simp only [PPz]); refine tkn 3 ?vq4 rfl ?hyq4 hHeld ?restq4
      case hyq4 => (intro w hSw; have kc0 := keepC hSw c0; have kc1 := keepC hSw c1; have kc2 := keepC hSw c2; have kc3 := keepC hSw c3; have kd0 := keepC hSw d0; have kd1 := keepC hSw d1; have kd2 := keepC hSw d2; have kd3 := keepC hSw d3; go_simp <;> with_reducible rfl)
      (try simp only [PPz]); refine tkn 4 ?vq5 rfl ?hyq5 hHeld ?restq5
      case hyq5 => (intro w hSw; go_simp <;> with_reducible rfl)
      (try simp only [PPz]); refine tkn 5 ?vq6 rfl ?hyq6 hHeld ?restq6
      case hyq6 => (intro w hSw; go_simp <;> with_reducible rfl)
      (try simp only [PPz]); refine tkn 6 ?vq7 rfl ?hyq7 hHeld ?restq7
      case hyq7 => (intro w hSw; go_simp <;> with_reducible rfl)
      (try simp only [PPz]); refine tkn 7 ?vq8 rfl ?hyq8 hHeld ?restq8
      case hyq8 => (intro w hSw; have kc0 := keepC hSw c0; have kc1 := keepC hSw c1; have kc2 := keepC hSw c2; have kc3 := keepC hSw c3; have kd0 := keepC hSw d0; have kd1 := keepC hSw d1; have kd2 := keepC hSw d2; have kd3 := keepC hSw d3; go_simp <;> with_reducible rfl)
      (try simp only [PPz]); refine tkn 8 ?vq9 rfl ?hyq9 hHeld ?restq9
      case hyq9 => (intro w hSw; go_simp <;> with_reducible rfl)
      (try simp only [PPz]); refine wpAnyH_done (by kernel_rfl) ?_ _; refine NoPanic.normal ?_
      skip
      replace hbb := keepB hbb hHeld; clear hHeld; (go_wp2_with fail)
      go_roundw
      case rel => exact ⟨1, by omega, by go_num, hbb⟩
      case measure => simp [intOf]
    · go_wp2_with fail
      go_ret
      exact ⟨rfl, hbb⟩
set_option linter.unusedSimpArgs false in
set_option maxHeartbeats 8000000 in
set_option maxRecDepth 100000 in
theorem sameDiv_eq (P R B B' g0 g1 h0 h1 : Nat) (a0 b0 c0 d0 a1 b1 c1 d1 : Int) (w : World) (hA : DivB B P g0 g1 a0 b0 c0 d0 a1 b1 c1 d1 w) (hB : DivB B' R h0 h1 a0 b0 c0 d0 a1 b1 c1 d1 w) :
    Calls Tryz.prog 24 #[.agg #[.slice (some ⟨P, 0, none⟩) 2 2], .agg #[.slice (some ⟨R, 0, none⟩) 2 2]] w fun e w' => e = .returned (.bool true) ∧ Below w.heap.size w w' := by
  have s0 := fun v (hv : Below w.heap.size w v) => same1_eq g0 h0 a0 b0 c0 d0 v (hA.s0.keep hv) (hB.s0.keep hv)
  have s1 := fun v (hv : Below w.heap.size w v) => same1_eq g1 h1 a1 b1 c1 d1 v (hA.s1.keep hv) (hB.s1.keep hv)
  have S0 := Lib.hid s0; have S1 := Lib.hid s1; have HP0 := Lib.hid (hA.p.c 0 rfl); have HP1 := Lib.hid (hA.p.c 1 rfl); have HQ0 := Lib.hid (hB.p.c 0 rfl); have HQ1 := Lib.hid (hB.p.c 1 rfl); clear s0 s1 hA hB
  go_enter Tryz.func24, Tryz.ntmps24
  go_upto_region 1 with fail
  refine at_worldQ (fun v => Below w.heap.size w v ∧ BK v (w.heap.size) [.slice (some ⟨P, 0, none⟩) 2 2] ∧ BK v (w.heap.size + 1) [.slice (some ⟨R, 0, none⟩) 2 2] ∧ v.heap.size = w.heap.size + 2) ⟨(below_al (below_al (Below.refl _ _) _) _), (by have b := ((BK.new w [.slice (some ⟨P, 0, none⟩) 2 2] 27).al (.cells #[.slice (some ⟨R, 0, none⟩) 2 2] 27)); simpa only [World.size_alloc] using b), (by have b := (BK.new (w.alloc (.cells #[.slice (some ⟨P, 0, none⟩) 2 2] 27)) [.slice (some ⟨R, 0, none⟩) 2 2] 27); simpa only [World.size_alloc] using b), by simp only [World.size_alloc]⟩ (fun V hS => ?_); obtain ⟨hbb, B0, B1, hVs⟩ := hS; have BX := B0; have BY := B1; clear B0 B1 hVs; have x0 := BX.c 0 rfl; have y0 := BY.c 0 rfl; (go_wp2_with fail); clear x0 y0
  go_loopw [5] (fun i W => ∃ k : Nat, k ≤ 2 ∧ i = .int .i64 k ∧ Below w.heap.size w W ∧ BK W w.heap.size [.slice (some ⟨P, 0, none⟩) 2 2] ∧ BK W (w.heap.size + 1) [.slice (some ⟨R, 0, none⟩) 2 2]) (fun i _ => 2 - (intOf i).toNat)
  case atStart => exact ⟨0, by omega, rfl, hbb, BX, BY⟩
  case round =>
    clear hbb BX BY; obtain ⟨k, hk, rfl, hbb, BX, BY⟩ := hrel
    rcases (show k = 0 ∨ k = 1 ∨ k = 2 by omega) with rfl | rfl | rfl
    · have x0 := BX.c 0 rfl
      have y0 := BY.c 0 rfl; have p0 := keepC hbb HP0.out; have p1 := keepC hbb HP1.out; have q0 := keepC hbb HQ0.out; have q1 := keepC hbb HQ1.out
      go_upto_region 6 with fail
      refine at_worldQ (fun v => Below w.heap.size w v ∧ BK v w.heap.size [.slice (some ⟨P, 0, none⟩) 2 2] ∧ BK v (w.heap.size + 1) [.slice (some ⟨R, 0, none⟩) 2 2]) ⟨hbb, BX, BY⟩ (fun V6 hS => ?_); clear hbb BX BY x0 y0 p0 p1 q0 q1; obtain ⟨hbb, BX, BY⟩ := hS; have x0 := BX.c 0 rfl; have y0 := BY.c 0 rfl; have p0 := keepC hbb HP0.out; have p1 := keepC hbb HP1.out; have q0 := keepC hbb HQ0.out; have q1 := keepC hbb HQ1.out; refine wp_region_noPanic ?_; refine wp_region_held_drew (S := (Below V6.heap.size V6)) (by kernel_rfl) ((Below.refl _ _).drew) (fun hHeld => ?_); refine at_anyH (Below V6.heap.size V6) hHeld (fun wr00 hNew => ?_); clear hHeld; have hHeld := hNew; clear hNew; refine tkn 0 ?vr01 rfl ?hyr01 hHeld ?restr01
      case hyr01 => (intro w hSw; go_simp <;> with_reducible rfl)
      (try simp only [PPz]); refine tkn 1 ?vr02 rfl ?hyr02 hHeld ?restr02
      case hyr02 => (intro w hSw; have kx0 := keepC hSw x0; have ky0 := keepC hSw y0; have kp0 := keepC hSw p0; have kp1 := keepC hSw p1; have kq0 := keepC hSw q0; have kq1 := keepC hSw q1; go_simp <;> with_reducible rfl)
      (try simp only [PPz]); refine tkn 2 ?vr03 rfl ?hyr03 hHeld ?restr03
      case hyr03 => (intro w hSw; go_simp <;> with_reducible rfl)
      (try simp only [PPz]); refine tkn 3 ?vr04 rfl ?hyr04 hHeld ?restr04
      case hyr04 => (intro w hSw; go_simp <;> with_reducible rfl)
      (try simp only [PPz]); refine tkn 4 ?vr05 rfl ?hyr05 hHeld ?restr05
      case hyr05 => (intro w hSw; have kx0 := keepC hSw x0; have ky0 := keepC hSw y0; have kp0 := keepC hSw p0; have kp1 := keepC hSw p1; have kq0 := keepC hSw q0; have kq1 := keepC hSw q1; go_simp <;> with_reducible rfl)
      (try simp only [PPz]); refine tkn 5 ?vr06 rfl ?hyr06 hHeld ?restr06
      case hyr06 => (intro w hSw; go_simp <;> with_reducible rfl)
      (try simp only [PPz]); refine tkn 6 ?vr07 rfl ?hyr07 hHeld ?restr07
      case hyr07 => (intro w hSw; have kx0 := keepC hSw x0; have ky0 := keepC hSw y0; have kp0 := keepC hSw p0; have kp1 := keepC hSw p1; have kq0 := keepC hSw q0; have kq1 := keepC hSw q1; go_simp <;> with_reducible rfl)
      (try simp only [PPz]); refine tkn 7 ?vr08 rfl ?hyr08 hHeld ?restr08
      case hyr08 => (intro w hSw; go_simp <;> with_reducible rfl)
      (try simp only [PPz]); refine tkn 8 ?vr09 rfl ?hyr09 hHeld ?restr09
      case hyr09 => (intro w hSw; go_simp <;> with_reducible rfl)
      (try simp only [PPz]); refine tkn 9 ?vr010 rfl ?hyr010 hHeld ?restr010
      case hyr010 => (intro w hSw; have kx0 := keepC hSw x0; have ky0 := keepC hSw y0; have kp0 := keepC hSw p0; have kp1 := keepC hSw p1; have kq0 := keepC hSw q0; have kq1 := keepC hSw q1; go_simp <;> with_reducible rfl)
      (try simp only [PPz]); refine rdy1 10 rfl (fun K hK => ?_); go_simp; refine (S0.out _ (hbb.trans (hHeld.mono hbb.size))).mono ?_; rintro e wr011 ⟨rfl, hb3⟩; (go_wp2_with fail); refine hK.out _ _ (keepB hHeld hb3) (fun hNew => ?_); clear hb3; clear hHeld hK K; have hHeld := hNew; clear hNew; (try simp only [PPz]); refine tkn 11 ?vr012 rfl ?hyr012 hHeld ?restr012
      case hyr012 => (intro w hSw; go_simp <;> with_reducible rfl)
      (try simp only [PPz]); refine wpAnyH_done (by kernel_rfl) ?_ _; refine NoPanic.normal ?_
      skip
      replace BX := BX.keep hHeld; replace BY := BY.keep hHeld; replace hbb := keepB hbb hHeld; clear hHeld x0 y0 p0 p1 q0 q1; (go_wp2_with fail)
      go_roundw
      case rel => exact ⟨1, by omega, by go_num, hbb, BX, BY⟩
      case measure => simp [intOf]

    · have x0 := BX.c 0 rfl
      have y0 := BY.c 0 rfl; have p0 := keepC hbb HP0.out; have p1 := keepC hbb HP1.out; have q0 := keepC hbb HQ0.out; have q1 := keepC hbb HQ1.out
      go_upto_region 6 with fail
      refine at_worldQ (fun v => Below w.heap.size w v ∧ BK v w.heap.size [.slice (some ⟨P, 0, none⟩) 2 2] ∧ BK v (w.heap.size + 1) [.slice (some ⟨R, 0, none⟩) 2 2]) ⟨hbb, BX, BY⟩ (fun V6 hS => ?_); clear hbb BX BY x0 y0 p0 p1 q0 q1; obtain ⟨hbb, BX, BY⟩ := hS; have x0 := BX.c 0 rfl; have y0 := BY.c 0 rfl; have p0 := keepC hbb HP0.out; have p1 := keepC hbb HP1.out; have q0 := keepC hbb HQ0.out; have q1 := keepC hbb HQ1.out; refine wp_region_noPanic ?_; refine wp_region_held_drew (S := (Below V6.heap.size V6)) (by kernel_rfl) ((Below.refl _ _).drew) (fun hHeld => ?_); refine at_anyH (Below V6.heap.size V6) hHeld (fun wr10 hNew => ?_); clear hHeld; have hHeld := hNew; clear hNew; refine tkn 0 ?vr11 rfl ?hyr11 hHeld ?restr11
      case hyr11 => (intro w hSw; go_simp <;> with_reducible rfl)
      (try simp only [PPz]); refine tkn 1 ?vr12 rfl ?hyr12 hHeld ?restr12
      case hyr12 => (intro w hSw; have kx0 := keepC hSw x0; have ky0 := keepC hSw y0; have kp0 := keepC hSw p0; have kp1 := keepC hSw p1; have kq0 := keepC hSw q0; have kq1 := keepC hSw q1; go_simp <;> with_reducible rfl)
      (try simp only [PPz]); refine tkn 2 ?vr13 rfl ?hyr13 hHeld ?restr13
      case hyr13 => (intro w hSw; go_simp <;> with_reducible rfl)
      (try simp only [PPz]); refine tkn 3 ?vr14 rfl ?hyr14 hHeld ?restr14
      case hyr14 => (intro w hSw; go_simp <;> with_reducible rfl)
      (try simp only [PPz]); refine tkn 4 ?vr15 rfl ?hyr15 hHeld ?restr15
      case hyr15 => (intro w hSw; have kx0 := keepC hSw x0; have ky0 := keepC hSw y0; have kp0 := keepC hSw p0; have kp1 := keepC hSw p1; have kq0 := keepC hSw q0; have kq1 := keepC hSw q1; go_simp <;> with_reducible rfl)
      (try simp only [PPz]); refine tkn 5 ?vr16 rfl ?hyr16 hHeld ?restr16
      case hyr16 => (intro w hSw; go_simp <;> with_reducible rfl)
      (try simp only [PPz]); refine tkn 6 ?vr17 rfl ?hyr17 hHeld ?restr17
      case hyr17 => (intro w hSw; have kx0 := keepC hSw x0; have ky0 := keepC hSw y0; have kp0 := keepC hSw p0; have kp1 := keepC hSw p1; have kq0 := keepC hSw q0; have kq1 := keepC hSw q1; go_simp <;> with_reducible rfl)
      (try simp only [PPz]); refine tkn 7 ?vr18 rfl ?hyr18 hHeld ?restr18
      case hyr18 => (intro w hSw; go_simp <;> with_reducible rfl)
      (try simp only [PPz]); refine tkn 8 ?vr19 rfl ?hyr19 hHeld ?restr19
      case hyr19 => (intro w hSw; go_simp <;> with_reducible rfl)
      (try simp only [PPz]); refine tkn 9 ?vr110 rfl ?hyr110 hHeld ?restr110
      case hyr110 => (intro w hSw; have kx0 := keepC hSw x0; have ky0 := keepC hSw y0; have kp0 := keepC hSw p0; have kp1 := keepC hSw p1; have kq0 := keepC hSw q0; have kq1 := keepC hSw q1; go_simp <;> with_reducible rfl)
      (try simp only [PPz]); refine rdy1 10 rfl (fun K hK => ?_); go_simp; refine (S1.out _ (hbb.trans (hHeld.mono hbb.size))).mono ?_; rintro e wr111 ⟨rfl, hb3⟩; (go_wp2_with fail); refine hK.out _ _ (keepB hHeld hb3) (fun hNew => ?_); clear hb3; clear hHeld hK K; have hHeld := hNew; clear hNew; (try simp only [PPz]); refine tkn 11 ?vr112 rfl ?hyr112 hHeld ?restr112
      case hyr112 => (intro w hSw; go_simp <;> with_reducible rfl)
      (try simp only [PPz]); refine wpAnyH_done (by kernel_rfl) ?_ _; refine NoPanic.normal ?_
      skip
      replace BX := BX.keep hHeld; replace BY := BY.keep hHeld; replace hbb := keepB hbb hHeld; clear hHeld x0 y0 p0 p1 q0 q1; (go_wp2_with fail)
      go_roundw
      case rel => exact ⟨2, by omega, by go_num, hbb, BX, BY⟩
      case measure => simp [intOf]

    · have x0 := BX.c 0 rfl
      have y0 := BY.c 0 rfl; (go_wp2_with fail)
      go_ret
      exact ⟨rfl, hbb⟩
theorem two7_any (w : World) : Calls Tryz.prog 23 #[] w (TwoQ w) := by
  unfold TwoQ
  go_enter Tryz.func23, Tryz.ntmps23
  go_wp2
  go_ret
  first
    | exact ⟨_, _, rfl, rfl, rfl, two_lay w⟩
    | exact ⟨_, rfl, _, rfl, rfl, two_lay w⟩
end Go.Proofs.YtpcdggkajindbaaGreat


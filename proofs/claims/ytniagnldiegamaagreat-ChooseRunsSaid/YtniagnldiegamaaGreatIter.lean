/- The closure of package cake's stretches: what it hands on, round by round. -/
import Derived.RangeFuncNested
import Derived.RangeFuncBound
import Derived.RangeFuncCalls
import Derived.RangeFuncLeaves
import Derived.Shelf.Abstract
import Derived.Shelf.RegionOpen
import Derived.OwnWalkIn
import Derived.TacticsInMore
import Derived.LoopNIn
import Derived.LoopIn
import Derived.Test.YtniagnldiegamaaGreatGg
import Derived.Test.YtniagnldiegamaaGreatTree
import Derived.IntWalk
import Derived.Deep.CutBlock
import Derived.Deep.DeepCutAuto
namespace Go.Proofs.YtniagnldiegamaaGreat
open Go.RowKit Go.Shelf
attribute [local go_sem] Oper.semAt_some
theorem Ck.Sx.sv_cells (X : Ck.Sx) (k : Nat) : ∃ y0 y1 y2 y3 y4 : Int, X.sv k = .agg #[.int .i64 y0, .int .i64 y1, .int .i64 y2, .int .i64 y3, .int .i64 y4] := by
  unfold Ck.Sx.sv
  split
  · exact ⟨_, _, _, _, _, rfl⟩
  · exact ⟨_, _, _, _, _, rfl⟩
/-- The blocks that there were lie as they lay, but for some. -/
structure KB (n₀ : Nat) (Ws : List Nat) (A B : World) : Prop where
  size : A.heap.size ≤ B.heap.size
  cell : ∀ b o, b < n₀ → b ∉ Ws → B.cell? ⟨b, o, none⟩ = A.cell? ⟨b, o, none⟩
theorem KB.refl (n₀ : Nat) (Ws : List Nat) (A : World) : KB n₀ Ws A A := ⟨Nat.le_refl _, fun _ _ _ _ => rfl⟩
theorem KB.trans {n₀ : Nat} {Ws : List Nat} {A B D : World} (h : KB n₀ Ws A B) (k : KB n₀ Ws B D) : KB n₀ Ws A D := ⟨Nat.le_trans h.size k.size, fun b o hb hn => (k.cell b o hb hn).trans (h.cell b o hb hn)⟩
theorem KB.cellp {n₀ : Nat} {Ws : List Nat} {A B : World} (h : KB n₀ Ws A B) {b : Nat} (hb : b < n₀ ∧ b ∉ Ws) (o : Nat) : B.cell? ⟨b, o, none⟩ = A.cell? ⟨b, o, none⟩ := h.cell b o hb.1 hb.2
theorem KB.below {n₀ : Nat} {Ws : List Nat} {A B : World} (hn : n₀ ≤ A.heap.size) (h : Below A.heap.size A B) : KB n₀ Ws A B := ⟨h.size, fun b o hb _ => h.cell (p := ⟨b, o, none⟩) (Nat.lt_of_lt_of_le hb hn)⟩
theorem KB.set {n₀ : Nat} {Ws : List Nat} {A B : World} (h : KB n₀ Ws A B) {b : Nat} (hb : b ∈ Ws ∨ n₀ ≤ b) (o : Nat) (u : Value) : KB n₀ Ws A (B.setCell ⟨b, o, none⟩ u) :=
  ⟨by rw [World.size_setCell]; exact h.size, fun c p hc hn => by
    rw [World.cell?_setCell_far B ⟨b, o, none⟩ ⟨c, p, none⟩ u (by
      show b ≠ c
      intro e; subst e
      rcases hb with hb | hb
      · exact hn hb
      · omega)]
    exact h.cell c p hc hn⟩
/-- Nothing that there was has turned. -/
theorem abides {β : Type} {B : Nat} {J : β → World → Prop} (h : AbidesFrom B J) {s : β} {V v : World} (hs : J s V) (hb : Below V.heap.size V v) : J s v :=
  h s V v none hs ⟨hb.os, hb.tape, hb.output, hb.size, fun k hk _ => hb.block k hk⟩ (fun r e => by cases e)

set_option linter.unusedSimpArgs false in
set_option maxHeartbeats 16000000 in
set_option maxRecDepth 100000 in
theorem iter_in (X : Ck.Sx) (n l Bc Ba Bb bk ok m ck bz oz cz n₀ : Nat) (Ws : List Nat) (len n1 d1 n2 d2 : Int) (J Jx : List X.It → World → Prop) (W : World) (hn : 1 ≤ n) (hm : m ≤ 39) (x3 : X.n1 = n1) (x4 : X.d1 = d1) (x5 : X.n2 = n2) (x6 : X.d2 = d2) (oA : Rp.Ok n1 d1) (oB : Rp.Ok n2 d2)
    (hR : ∀ k, k ≤ m → 0 ≤ Ck.at_ X.c k ∧ Ck.at_ X.c k ≤ 1000) (hD : ∀ k, k < m → 0 ≤ Ck.at_ X.d k ∧ Ck.at_ X.d k ≤ 12)
    (b1 : Bc < n₀ ∧ Bc ∉ Ws) (b2 : Ba < n₀ ∧ Ba ∉ Ws) (b3 : Bb < n₀ ∧ Bb ∉ Ws) (b4 : bk < n₀ ∧ bk ∉ Ws) (b5 : bz < n₀ ∧ bz ∉ Ws) (b6 : n₀ ≤ W.heap.size)
    (c0 : W.cell? ⟨Bc, 0, none⟩ = some (.int .i64 len)) (c1 : W.cell? ⟨Bc, 1, none⟩ = some (.slice (some ⟨bk, ok, none⟩) (m + 1) ck)) (c2 : W.cell? ⟨Bc, 2, none⟩ = some (.slice (some ⟨bz, oz, none⟩) m cz))
    (a0 : W.cell? ⟨Ba, 0, none⟩ = some (.int .i64 n1)) (a1 : W.cell? ⟨Ba, 1, none⟩ = some (.int .i64 d1)) (e0 : W.cell? ⟨Bb, 0, none⟩ = some (.int .i64 n2)) (e1 : W.cell? ⟨Bb, 1, none⟩ = some (.int .i64 d2))
    (hk : ∀ i, i < m + 1 → W.cell? ⟨bk, ok + i, none⟩ = some (.int .i64 (Ck.at_ X.c i))) (hz : ∀ i, i < m → W.cell? ⟨bz, oz + i, none⟩ = some (.int .i64 (Ck.at_ X.d i)))
    (hJ : AbidesFrom W.heap.size J) (h0 : J [] W)
    (hY : ∀ pre (x : X.It) V, J pre V → pre.length < m → YieldAt Fence.wide (n - 1) Tryz.prog l #[X.sv x.1, .int .i64 (X.wt x.1).2.2] V fun e W' =>
      (e = .returned (.bool true) ∧ J (pre ++ [x]) W' ∧ KB n₀ Ws V W') ∨ (e = .returned (.bool false) ∧ Jx (pre ++ [x]) W')) :
    CallsIn Fence.wide n Tryz.prog 189 #[.func (.yield l) #[] #[], .pointer (some ⟨Bc, 0, none⟩), .pointer (some ⟨Ba, 0, none⟩), .pointer (some ⟨Bb, 0, none⟩)] W fun e W' =>
      (∃ v, e = .returned v) ∧ ((∃ ys, ys = X.idx m ∧ J ys W') ∨ (∃ pre, (∃ k, k ≤ m ∧ pre = X.idx k) ∧ Jx pre W')) := by
  have HK := Lib.hid hk; have HZ := Lib.hid hz; have HR := Lib.hid hR; have HD := Lib.hid hD; have HY := Lib.hid hY; have HJ := Lib.hid hJ; have X3 := Lib.hid x3; have X4 := Lib.hid x4; have X5 := Lib.hid x5; have X6 := Lib.hid x6; clear hk hz hR hD hY hJ x3 x4 x5 x6; refine callsIn_of_wp Tryz.func189 rfl trivial ?_ rfl; refine wpIn_wide.2 ?_
  simp only [Tryz.ntmps189, List.size_toArray, List.length_cons, List.length_nil, Nat.reduceAdd, Nat.reduceSub, Array.replicate_succ, Array.replicate_zero, List.push_toArray, List.append_toArray, List.nil_append, List.cons_append]
  go_wp2_with fail
  go_loopw [13] (fun i v => ∃ k : Nat, k ≤ m ∧ i = .int .i64 k ∧ KB n₀ Ws W v ∧ W.heap.size ≤ v.heap.size ∧ J (X.idx k) v ∧ X.bad (X.idx k) = false) (fun i _ => m - (intOf i).toNat)
  case atStart => exact ⟨0, Nat.zero_le _, rfl, KB.refl _ _ _, Nat.le_refl _, h0, rfl⟩
  case round =>
    obtain ⟨k, hkm, rfl, hB, hs, hJk, hbad⟩ := hrel; have HB := Lib.hid hbad; clear hbad
    by_cases hlt : k < m
    · have t1 : (0 : Int) ≤ (k : Int) := by omega
      have t2 : (k : Int) < (m : Int) := by omega
      go_upto_region 3 with fail
      refine at_worldQ (fun v => KB n₀ Ws W v ∧ W.heap.size ≤ v.heap.size ∧ J (X.idx k) v) ⟨hB, hs, hJk⟩ (fun V hS => ?_); clear hB hs hJk; obtain ⟨hB, hs, hJk⟩ := hS; replace c0 := (hB.cellp b1 (0)).trans c0; replace c1 := (hB.cellp b1 (1)).trans c1; replace c2 := (hB.cellp b1 (2)).trans c2; replace a0 := (hB.cellp b2 (0)).trans a0; replace a1 := (hB.cellp b2 (1)).trans a1; have b0 := (hB.cellp b3 (0)).trans e0; have b1' := (hB.cellp b3 (1)).trans e1; have u0 := (hB.cellp b4 (ok + k)).trans (HK.out k (by omega)); have u1 := (hB.cellp b4 (ok + (k + 1))).trans (HK.out (k + 1) (by omega)); have z0 := (hB.cellp b5 (oz + k)).trans (HZ.out k hlt); have r1 := HR.out k (by omega); have r2 := HR.out (k + 1) (by omega); have r3 := HD.out k hlt
      have hbg : X.bg k = Ck.mxS n1 d1 (Ck.at_ X.c k) 1 := by unfold Ck.Sx.bg; rw [X3.out, X4.out]
      have hen : X.en k = Ck.mnS n2 d2 (Ck.at_ X.c (k + 1)) 1 := by unfold Ck.Sx.en; rw [X5.out, X6.out]
      obtain ⟨u, hu⟩ : ∃ u, Ck.at_ X.c k = u := ⟨_, rfl⟩; obtain ⟨x, hx⟩ : ∃ x, Ck.at_ X.c (k + 1) = x := ⟨_, rfl⟩; obtain ⟨dk, hdk⟩ : ∃ dk, Ck.at_ X.d k = dk := ⟨_, rfl⟩; rw [hu] at u0 r1 hbg; rw [hx] at u1 r2 hen; rw [hdk] at z0 r3; have HDK := Lib.hid hdk; clear hu hx hdk; have o1 : Rp.Ok u 1 := Rp.Ok_one (by omega) (by omega); have o2 : Rp.Ok x 1 := Rp.Ok_one (by omega) (by omega)
      have cg := fun w => ckgreater_any n1 d1 u 1 oA o1 w
      have cl := fun w => cklesser_any n2 d2 x 1 oB o2 w
      have og := (Ck.mxS_ok oA o1).1; have oh := (Ck.mnS_ok oB o2).1; obtain ⟨⟨g1, g2⟩, hg⟩ : ∃ g, Ck.mxS n1 d1 u 1 = g := ⟨_, rfl⟩; obtain ⟨⟨h1, h2⟩, hh⟩ : ∃ g, Ck.mnS n2 d2 x 1 = g := ⟨_, rfl⟩; rw [hg] at cg og hbg; rw [hh] at cl oh hen; dsimp only at cg cl og oh; have OG := Lib.hid og; have OH := Lib.hid oh; have HG := Lib.hid hbg; have HH := Lib.hid hen; have CG := Lib.hid cg; have CL := Lib.hid cl; have hdz : V.drew.heap.size = V.heap.size := rfl; have v1 := lt_of_cell c1; have v2 := lt_of_cell a0; have v3 := lt_of_cell b0; have v4 := lt_of_cell u0; have q1 := Lib.hid b1; have q2 := Lib.hid b2; have q3 := Lib.hid b3; have q4 := Lib.hid b4; have q5 := Lib.hid b5; clear b1 b2 b3 b4 b5; have b1 := b1'; clear b1' cg cl hg hh oA oB og oh hbg hen o1 o2
      have t3 : (k : Int) < (m : Int) + 1 := by omega
      have t4 : (k : Int) + 1 < (m : Int) + 1 := by omega
      have t5 : (0 : Int) ≤ (k : Int) + 1 := by omega
      have t6 : IntKind.i64.wrap ((k : Int) + 1) = (k : Int) + 1 := IntWalk.i64_in _ (by omega)
      have t7 : ((k : Int) + 1).toNat = k + 1 := by omega
      go_cut [6, 7] (fun x y v => ∃ p q : Nat, x = .pointer (some ⟨p, 0, none⟩) ∧ y = .pointer (some ⟨q, 0, none⟩) ∧ Below V.heap.size V v ∧ v.cell? ⟨p, 0, none⟩ = some (.int .i64 g1) ∧ v.cell? ⟨p, 1, none⟩ = some (.int .i64 g2) ∧ v.cell? ⟨q, 0, none⟩ = some (.int .i64 h1) ∧ v.cell? ⟨q, 1, none⟩ = some (.int .i64 h2))
      case first =>
        refine wp_region_held_drew (S := (Below V.heap.size V)) (by kernel_rfl) ((Below.refl _ _).drew) (fun hHeld => ?_); refine at_anyH (Below V.heap.size V) hHeld (fun wt0 hNew => ?_); clear hHeld; have hHeld := hNew; clear hNew; refine tkm 0 rfl hHeld (fun w hSw => by have kc1 := keepC hSw c1; have ka0 := keepC hSw a0; have ka1 := keepC hSw a1; have kb0 := keepC hSw b0; have kb1 := keepC hSw b1; have ku0 := keepC hSw u0; have ku1 := keepC hSw u1; go_simp <;> with_reducible rfl) ?_; (try simp only [PPz]); refine tkd 1 ?_; (try simp only [PPz]); refine tkm 2 rfl hHeld (fun w hSw => by have kc1 := keepC hSw c1; have ka0 := keepC hSw a0; have ka1 := keepC hSw a1; have kb0 := keepC hSw b0; have kb1 := keepC hSw b1; have ku0 := keepC hSw u0; have ku1 := keepC hSw u1; go_simp <;> with_reducible rfl) ?_; (try simp only [PPz]); refine tkd 3 ?_; refine tkd 4 ?_; (try simp only [PPz]); refine tkm 5 rfl hHeld (fun w hSw => by have kc1 := keepC hSw c1; have ka0 := keepC hSw a0; have ka1 := keepC hSw a1; have kb0 := keepC hSw b0; have kb1 := keepC hSw b1; have ku0 := keepC hSw u0; have ku1 := keepC hSw u1; go_simp <;> with_reducible rfl) ?_; (try simp only [PPz]); refine tkm 8 rfl hHeld (fun w hSw => by have kc1 := keepC hSw c1; have ka0 := keepC hSw a0; have ka1 := keepC hSw a1; have kb0 := keepC hSw b0; have kb1 := keepC hSw b1; have ku0 := keepC hSw u0; have ku1 := keepC hSw u1; go_simp <;> with_reducible rfl) ?_; (try simp only [PPz]); refine tkd 9 ?_; (try simp only [PPz]); refine tkm 10 rfl hHeld (fun w hSw => by have kc1 := keepC hSw c1; have ka0 := keepC hSw a0; have ka1 := keepC hSw a1; have kb0 := keepC hSw b0; have kb1 := keepC hSw b1; have ku0 := keepC hSw u0; have ku1 := keepC hSw u1; go_simp <;> with_reducible rfl) ?_; (try simp only [PPz]); refine tkd 11 ?_; refine tkd 12 ?_; refine tkd 13 ?_; (try simp only [PPz]); refine tkm 14 rfl hHeld (fun w hSw => by have kc1 := keepC hSw c1; have ka0 := keepC hSw a0; have ka1 := keepC hSw a1; have kb0 := keepC hSw b0; have kb1 := keepC hSw b1; have ku0 := keepC hSw u0; have ku1 := keepC hSw u1; go_simp <;> with_reducible rfl) ?_; (try simp only [PPz]); refine dag (fun G a => ∀ pX pY W, Below V.heap.size V W → BK W pX [.int .i64 0, .int .i64 0] → V.heap.size ≤ pX → BK W pY [.int .i64 0, .int .i64 0] → V.heap.size ≤ pY → pX ≠ pY → G 2 #[true, true, true, true, true, true, true, true, true, true, true, true, true, true, true, true, true, true, true, false, false] ((((((a.put (some 22) (.agg #[.int .i64 u, .int .i64 1])).put (some 23) (.agg #[.int .i64 g1, .int .i64 g2])).put (some 31) (.agg #[.int .i64 x, .int .i64 1])).put (some 32) (.agg #[.int .i64 h1, .int .i64 h2])).put (some 6) (.pointer (some ⟨pX, 0, none⟩))).put (some 7) (.pointer (some ⟨pY, 0, none⟩))) W) ?_ (fun Nt0 => ?_)
        ·
         intro pX pY wts0 hHeld BX hX BY hY dXY; (try simp only [PPz]); refine rdy1 19 rfl (fun K hK => ?_); have n0 := BX.c 0 rfl; have f0 := BX.f 0 rfl; have n1 := BX.c 1 rfl; have f1 := BX.f 1 rfl; go_simp; clear n0 f0 n1 f1; refine hK.out _ _ (below_set (below_set hHeld (by omega) _) (by omega) _) (fun hNew => ?_); replace hHeld := hNew; clear hNew hK K; (try simp only [PPz]); refine at_anyH (fun v => Below V.heap.size V v ∧ BK v pX [.int .i64 g1, .int .i64 g2] ∧ BK v pY [.int .i64 0, .int .i64 0]) ⟨hHeld, ((BX.set 0 _).set 1 _), ((BY.far (by omega) _ _).far (by omega) _ _)⟩ (fun wt14 hS => ?_); clear hHeld BX BY; obtain ⟨hHeld, BX, BY⟩ := hS; refine rdy1 20 rfl (fun K hK => ?_); have n0 := BY.c 0 rfl; have f0 := BY.f 0 rfl; have n1 := BY.c 1 rfl; have f1 := BY.f 1 rfl; go_simp; clear n0 f0 n1 f1; refine hK.out _ _ (below_set (below_set hHeld (by omega) _) (by omega) _) (fun hNew => ?_); replace hHeld := hNew; clear hNew hK K; (try simp only [PPz]); refine at_anyH (fun v => Below V.heap.size V v ∧ BK v pX [.int .i64 g1, .int .i64 g2] ∧ BK v pY [.int .i64 h1, .int .i64 h2]) ⟨hHeld, ((BX.far (by omega) _ _).far (by omega) _ _), ((BY.set 0 _).set 1 _)⟩ (fun wt15 hS => ?_); clear hHeld BX BY; obtain ⟨hHeld, BX, BY⟩ := hS; refine wpAnyH_done (by kernel_rfl) ?_ _; (go_wp2_with fail)
         go_meet
         exact ⟨_, _, rfl, rfl, hHeld, BX.c 0 rfl, BX.c 1 rfl, BY.c 0 rfl, BY.c 1 rfl⟩
        refine dag (fun G a => ∀ pX W, Below V.heap.size V W → BK W pX [.int .i64 0, .int .i64 0] → V.heap.size ≤ pX → G 3 #[true, true, true, true, true, true, true, true, true, true, true, true, true, true, true, true, true, true, false, false, false] (((((a.put (some 22) (.agg #[.int .i64 u, .int .i64 1])).put (some 23) (.agg #[.int .i64 g1, .int .i64 g2])).put (some 31) (.agg #[.int .i64 x, .int .i64 1])).put (some 32) (.agg #[.int .i64 h1, .int .i64 h2])).put (some 6) (.pointer (some ⟨pX, 0, none⟩))) W) ?_ (fun Nt1 => ?_)
        ·
         intro pX wts1 hHeld BX hX; (try simp only [PPz]); refine rdy1 18 rfl (fun K hK => ?_); go_simp; refine hK.out _ _ (below_al hHeld _) (fun hNew => ?_); have hY : V.heap.size ≤ wts1.heap.size := hHeld.size; have dXY := BX.lt; replace hHeld := hNew; clear hNew hK K; (try simp only [PPz]); refine at_anyH (fun v => Below V.heap.size V v ∧ BK v pX [.int .i64 0, .int .i64 0] ∧ BK v wts1.heap.size [.int .i64 0, .int .i64 0]) ⟨hHeld, BX.al _, BK.new _ _ _⟩ (fun wt16 hS => ?_); clear hHeld BX; obtain ⟨hHeld, BX, BY⟩ := hS; exact dag_use (Nt0.out _ _ _ hHeld BX hX BY hY (by omega)) (by kernel_rfl) (by kernel_rfl)
        refine dag (fun G a => ∀ pY W, Below V.heap.size V W → BK W pY [.int .i64 0, .int .i64 0] → V.heap.size ≤ pY → G 3 #[true, true, true, true, true, true, true, true, true, true, true, true, true, true, true, true, true, false, true, false, false] (((((a.put (some 22) (.agg #[.int .i64 u, .int .i64 1])).put (some 23) (.agg #[.int .i64 g1, .int .i64 g2])).put (some 31) (.agg #[.int .i64 x, .int .i64 1])).put (some 32) (.agg #[.int .i64 h1, .int .i64 h2])).put (some 7) (.pointer (some ⟨pY, 0, none⟩))) W) ?_ (fun Nt2 => ?_)
        ·
         intro pY wts2 hHeld BY hY; (try simp only [PPz]); refine rdy1 17 rfl (fun K hK => ?_); go_simp; refine hK.out _ _ (below_al hHeld _) (fun hNew => ?_); have hX : V.heap.size ≤ wts2.heap.size := hHeld.size; have dYX := BY.lt; replace hHeld := hNew; clear hNew hK K; (try simp only [PPz]); refine at_anyH (fun v => Below V.heap.size V v ∧ BK v pY [.int .i64 0, .int .i64 0] ∧ BK v wts2.heap.size [.int .i64 0, .int .i64 0]) ⟨hHeld, BY.al _, BK.new _ _ _⟩ (fun wt17 hS => ?_); clear hHeld BY; obtain ⟨hHeld, BY, BX⟩ := hS; exact dag_use (Nt0.out _ _ _ hHeld BX hX BY hY (by omega)) (by kernel_rfl) (by kernel_rfl)
        refine dag (fun G a => ∀ pX pY W, Below V.heap.size V W → BK W pX [.int .i64 0, .int .i64 0] → V.heap.size ≤ pX → BK W pY [.int .i64 0, .int .i64 0] → V.heap.size ≤ pY → pX ≠ pY → G 3 #[true, true, true, true, true, true, true, true, true, true, true, true, true, true, true, true, false, true, true, false, false] (((((a.put (some 22) (.agg #[.int .i64 u, .int .i64 1])).put (some 23) (.agg #[.int .i64 g1, .int .i64 g2])).put (some 31) (.agg #[.int .i64 x, .int .i64 1])).put (some 6) (.pointer (some ⟨pX, 0, none⟩))).put (some 7) (.pointer (some ⟨pY, 0, none⟩))) W) ?_ (fun Nt3 => ?_)
        ·
         intro pX pY wts3 hHeld BX hX BY hY dXY; (try simp only [PPz]); refine rdy1 16 rfl (fun K hK => ?_); go_simp; refine (CL.out _).mono ?_; rintro e wt18 ⟨rfl, hb3⟩; (go_wp2_with fail); refine hK.out _ _ (keepB hHeld hb3) (fun hNew => ?_); replace BX := BX.keep hb3; replace BY := BY.keep hb3; replace hHeld := hNew; clear hNew hK K hb3; (try simp only [PPz]); exact dag_use (Nt0.out _ _ _ hHeld BX hX BY hY (by omega)) (by kernel_rfl) (by kernel_rfl)
        refine dag (fun G a => ∀ pX W, Below V.heap.size V W → BK W pX [.int .i64 0, .int .i64 0] → V.heap.size ≤ pX → G 4 #[true, true, true, true, true, true, true, true, true, true, true, true, true, true, true, true, false, true, false, false, false] ((((a.put (some 22) (.agg #[.int .i64 u, .int .i64 1])).put (some 23) (.agg #[.int .i64 g1, .int .i64 g2])).put (some 31) (.agg #[.int .i64 x, .int .i64 1])).put (some 6) (.pointer (some ⟨pX, 0, none⟩))) W) ?_ (fun Nt4 => ?_)
        ·
         intro pX wts4 hHeld BX hX; (try simp only [PPz]); refine rdy2 16 18 rfl rfl (fun K hK => ?_) (fun K hK => ?_)
         ·
          go_simp; refine (CL.out _).mono ?_; rintro e wt19 ⟨rfl, hb3⟩; (go_wp2_with fail); refine hK.out _ _ (keepB hHeld hb3) (fun hNew => ?_); replace BX := BX.keep hb3; replace hHeld := hNew; clear hNew hK K hb3; (try simp only [PPz]); exact dag_use (Nt1.out _ _ hHeld BX hX) (by kernel_rfl) (by kernel_rfl)
         ·
          go_simp; refine hK.out _ _ (below_al hHeld _) (fun hNew => ?_); have hY : V.heap.size ≤ wts4.heap.size := hHeld.size; have dXY := BX.lt; replace hHeld := hNew; clear hNew hK K; (try simp only [PPz]); refine at_anyH (fun v => Below V.heap.size V v ∧ BK v pX [.int .i64 0, .int .i64 0] ∧ BK v wts4.heap.size [.int .i64 0, .int .i64 0]) ⟨hHeld, BX.al _, BK.new _ _ _⟩ (fun wt20 hS => ?_); clear hHeld BX; obtain ⟨hHeld, BX, BY⟩ := hS; exact dag_use (Nt3.out _ _ _ hHeld BX hX BY hY (by omega)) (by kernel_rfl) (by kernel_rfl)
        refine dag (fun G a => ∀ pY W, Below V.heap.size V W → BK W pY [.int .i64 0, .int .i64 0] → V.heap.size ≤ pY → G 4 #[true, true, true, true, true, true, true, true, true, true, true, true, true, true, true, true, false, false, true, false, false] ((((a.put (some 22) (.agg #[.int .i64 u, .int .i64 1])).put (some 23) (.agg #[.int .i64 g1, .int .i64 g2])).put (some 31) (.agg #[.int .i64 x, .int .i64 1])).put (some 7) (.pointer (some ⟨pY, 0, none⟩))) W) ?_ (fun Nt5 => ?_)
        ·
         intro pY wts5 hHeld BY hY; (try simp only [PPz]); refine rdy2 16 17 rfl rfl (fun K hK => ?_) (fun K hK => ?_)
         ·
          go_simp; refine (CL.out _).mono ?_; rintro e wt21 ⟨rfl, hb3⟩; (go_wp2_with fail); refine hK.out _ _ (keepB hHeld hb3) (fun hNew => ?_); replace BY := BY.keep hb3; replace hHeld := hNew; clear hNew hK K hb3; (try simp only [PPz]); exact dag_use (Nt2.out _ _ hHeld BY hY) (by kernel_rfl) (by kernel_rfl)
         ·
          go_simp; refine hK.out _ _ (below_al hHeld _) (fun hNew => ?_); have hX : V.heap.size ≤ wts5.heap.size := hHeld.size; have dYX := BY.lt; replace hHeld := hNew; clear hNew hK K; (try simp only [PPz]); refine at_anyH (fun v => Below V.heap.size V v ∧ BK v pY [.int .i64 0, .int .i64 0] ∧ BK v wts5.heap.size [.int .i64 0, .int .i64 0]) ⟨hHeld, BY.al _, BK.new _ _ _⟩ (fun wt22 hS => ?_); clear hHeld BY; obtain ⟨hHeld, BY, BX⟩ := hS; exact dag_use (Nt3.out _ _ _ hHeld BX hX BY hY (by omega)) (by kernel_rfl) (by kernel_rfl)
        refine dag (fun G a => ∀ pX pY W, Below V.heap.size V W → BK W pX [.int .i64 0, .int .i64 0] → V.heap.size ≤ pX → BK W pY [.int .i64 0, .int .i64 0] → V.heap.size ≤ pY → pX ≠ pY → G 4 #[true, true, true, true, true, true, true, true, true, true, true, true, true, true, true, false, false, true, true, false, false] ((((a.put (some 22) (.agg #[.int .i64 u, .int .i64 1])).put (some 23) (.agg #[.int .i64 g1, .int .i64 g2])).put (some 6) (.pointer (some ⟨pX, 0, none⟩))).put (some 7) (.pointer (some ⟨pY, 0, none⟩))) W) ?_ (fun Nt6 => ?_)
        ·
         intro pX pY wts6 hHeld BX hX BY hY dXY; (try simp only [PPz]); refine rdy1 15 rfl (fun K hK => ?_); go_simp; refine (ckwhole_any _ _).mono ?_; rintro e wt23 ⟨rfl, hb3⟩; (go_wp2_with fail); refine hK.out _ _ (keepB hHeld hb3) (fun hNew => ?_); replace BX := BX.keep hb3; replace BY := BY.keep hb3; replace hHeld := hNew; clear hNew hK K hb3; (try simp only [PPz]); exact dag_use (Nt3.out _ _ _ hHeld BX hX BY hY (by omega)) (by kernel_rfl) (by kernel_rfl)
        refine dag (fun G a => ∀ pX W, Below V.heap.size V W → BK W pX [.int .i64 0, .int .i64 0] → V.heap.size ≤ pX → G 5 #[true, true, true, true, true, true, true, true, true, true, true, true, true, true, true, false, false, true, false, false, false] (((a.put (some 22) (.agg #[.int .i64 u, .int .i64 1])).put (some 23) (.agg #[.int .i64 g1, .int .i64 g2])).put (some 6) (.pointer (some ⟨pX, 0, none⟩))) W) ?_ (fun Nt7 => ?_)
        ·
         intro pX wts7 hHeld BX hX; (try simp only [PPz]); refine rdy2 15 18 rfl rfl (fun K hK => ?_) (fun K hK => ?_)
         ·
          go_simp; refine (ckwhole_any _ _).mono ?_; rintro e wt24 ⟨rfl, hb3⟩; (go_wp2_with fail); refine hK.out _ _ (keepB hHeld hb3) (fun hNew => ?_); replace BX := BX.keep hb3; replace hHeld := hNew; clear hNew hK K hb3; (try simp only [PPz]); exact dag_use (Nt4.out _ _ hHeld BX hX) (by kernel_rfl) (by kernel_rfl)
         ·
          go_simp; refine hK.out _ _ (below_al hHeld _) (fun hNew => ?_); have hY : V.heap.size ≤ wts7.heap.size := hHeld.size; have dXY := BX.lt; replace hHeld := hNew; clear hNew hK K; (try simp only [PPz]); refine at_anyH (fun v => Below V.heap.size V v ∧ BK v pX [.int .i64 0, .int .i64 0] ∧ BK v wts7.heap.size [.int .i64 0, .int .i64 0]) ⟨hHeld, BX.al _, BK.new _ _ _⟩ (fun wt25 hS => ?_); clear hHeld BX; obtain ⟨hHeld, BX, BY⟩ := hS; exact dag_use (Nt6.out _ _ _ hHeld BX hX BY hY (by omega)) (by kernel_rfl) (by kernel_rfl)
        refine dag (fun G a => ∀ pY W, Below V.heap.size V W → BK W pY [.int .i64 0, .int .i64 0] → V.heap.size ≤ pY → G 5 #[true, true, true, true, true, true, true, true, true, true, true, true, true, true, true, false, false, false, true, false, false] (((a.put (some 22) (.agg #[.int .i64 u, .int .i64 1])).put (some 23) (.agg #[.int .i64 g1, .int .i64 g2])).put (some 7) (.pointer (some ⟨pY, 0, none⟩))) W) ?_ (fun Nt8 => ?_)
        ·
         intro pY wts8 hHeld BY hY; (try simp only [PPz]); refine rdy2 15 17 rfl rfl (fun K hK => ?_) (fun K hK => ?_)
         ·
          go_simp; refine (ckwhole_any _ _).mono ?_; rintro e wt26 ⟨rfl, hb3⟩; (go_wp2_with fail); refine hK.out _ _ (keepB hHeld hb3) (fun hNew => ?_); replace BY := BY.keep hb3; replace hHeld := hNew; clear hNew hK K hb3; (try simp only [PPz]); exact dag_use (Nt5.out _ _ hHeld BY hY) (by kernel_rfl) (by kernel_rfl)
         ·
          go_simp; refine hK.out _ _ (below_al hHeld _) (fun hNew => ?_); have hX : V.heap.size ≤ wts8.heap.size := hHeld.size; have dYX := BY.lt; replace hHeld := hNew; clear hNew hK K; (try simp only [PPz]); refine at_anyH (fun v => Below V.heap.size V v ∧ BK v pY [.int .i64 0, .int .i64 0] ∧ BK v wts8.heap.size [.int .i64 0, .int .i64 0]) ⟨hHeld, BY.al _, BK.new _ _ _⟩ (fun wt27 hS => ?_); clear hHeld BY; obtain ⟨hHeld, BY, BX⟩ := hS; exact dag_use (Nt6.out _ _ _ hHeld BX hX BY hY (by omega)) (by kernel_rfl) (by kernel_rfl)
        refine dag (fun G a => ∀ pX pY W, Below V.heap.size V W → BK W pX [.int .i64 0, .int .i64 0] → V.heap.size ≤ pX → BK W pY [.int .i64 0, .int .i64 0] → V.heap.size ≤ pY → pX ≠ pY → G 5 #[true, true, true, true, true, true, true, false, true, true, true, true, true, true, true, false, false, true, true, false, false] (((a.put (some 22) (.agg #[.int .i64 u, .int .i64 1])).put (some 6) (.pointer (some ⟨pX, 0, none⟩))).put (some 7) (.pointer (some ⟨pY, 0, none⟩))) W) ?_ (fun Nt9 => ?_)
        ·
         intro pX pY wts9 hHeld BX hX BY hY dXY; (try simp only [PPz]); refine rdy1 7 rfl (fun K hK => ?_); go_simp; refine (CG.out _).mono ?_; rintro e wt28 ⟨rfl, hb3⟩; (go_wp2_with fail); refine hK.out _ _ (keepB hHeld hb3) (fun hNew => ?_); replace BX := BX.keep hb3; replace BY := BY.keep hb3; replace hHeld := hNew; clear hNew hK K hb3; (try simp only [PPz]); exact dag_use (Nt6.out _ _ _ hHeld BX hX BY hY (by omega)) (by kernel_rfl) (by kernel_rfl)
        refine dag (fun G a => ∀ pX W, Below V.heap.size V W → BK W pX [.int .i64 0, .int .i64 0] → V.heap.size ≤ pX → G 6 #[true, true, true, true, true, true, true, false, true, true, true, true, true, true, true, false, false, true, false, false, false] ((a.put (some 22) (.agg #[.int .i64 u, .int .i64 1])).put (some 6) (.pointer (some ⟨pX, 0, none⟩))) W) ?_ (fun Nt10 => ?_)
        ·
         intro pX wts10 hHeld BX hX; (try simp only [PPz]); refine rdy2 7 18 rfl rfl (fun K hK => ?_) (fun K hK => ?_)
         ·
          go_simp; refine (CG.out _).mono ?_; rintro e wt29 ⟨rfl, hb3⟩; (go_wp2_with fail); refine hK.out _ _ (keepB hHeld hb3) (fun hNew => ?_); replace BX := BX.keep hb3; replace hHeld := hNew; clear hNew hK K hb3; (try simp only [PPz]); exact dag_use (Nt7.out _ _ hHeld BX hX) (by kernel_rfl) (by kernel_rfl)
         ·
          go_simp; refine hK.out _ _ (below_al hHeld _) (fun hNew => ?_); have hY : V.heap.size ≤ wts10.heap.size := hHeld.size; have dXY := BX.lt; replace hHeld := hNew; clear hNew hK K; (try simp only [PPz]); refine at_anyH (fun v => Below V.heap.size V v ∧ BK v pX [.int .i64 0, .int .i64 0] ∧ BK v wts10.heap.size [.int .i64 0, .int .i64 0]) ⟨hHeld, BX.al _, BK.new _ _ _⟩ (fun wt30 hS => ?_); clear hHeld BX; obtain ⟨hHeld, BX, BY⟩ := hS; exact dag_use (Nt9.out _ _ _ hHeld BX hX BY hY (by omega)) (by kernel_rfl) (by kernel_rfl)
        refine dag (fun G a => ∀ pY W, Below V.heap.size V W → BK W pY [.int .i64 0, .int .i64 0] → V.heap.size ≤ pY → G 6 #[true, true, true, true, true, true, true, false, true, true, true, true, true, true, true, false, false, false, true, false, false] ((a.put (some 22) (.agg #[.int .i64 u, .int .i64 1])).put (some 7) (.pointer (some ⟨pY, 0, none⟩))) W) ?_ (fun Nt11 => ?_)
        ·
         intro pY wts11 hHeld BY hY; (try simp only [PPz]); refine rdy2 7 17 rfl rfl (fun K hK => ?_) (fun K hK => ?_)
         ·
          go_simp; refine (CG.out _).mono ?_; rintro e wt31 ⟨rfl, hb3⟩; (go_wp2_with fail); refine hK.out _ _ (keepB hHeld hb3) (fun hNew => ?_); replace BY := BY.keep hb3; replace hHeld := hNew; clear hNew hK K hb3; (try simp only [PPz]); exact dag_use (Nt8.out _ _ hHeld BY hY) (by kernel_rfl) (by kernel_rfl)
         ·
          go_simp; refine hK.out _ _ (below_al hHeld _) (fun hNew => ?_); have hX : V.heap.size ≤ wts11.heap.size := hHeld.size; have dYX := BY.lt; replace hHeld := hNew; clear hNew hK K; (try simp only [PPz]); refine at_anyH (fun v => Below V.heap.size V v ∧ BK v pY [.int .i64 0, .int .i64 0] ∧ BK v wts11.heap.size [.int .i64 0, .int .i64 0]) ⟨hHeld, BY.al _, BK.new _ _ _⟩ (fun wt32 hS => ?_); clear hHeld BY; obtain ⟨hHeld, BY, BX⟩ := hS; exact dag_use (Nt9.out _ _ _ hHeld BX hX BY hY (by omega)) (by kernel_rfl) (by kernel_rfl)
        refine dag (fun G a => ∀ pX pY W, Below V.heap.size V W → BK W pX [.int .i64 0, .int .i64 0] → V.heap.size ≤ pX → BK W pY [.int .i64 0, .int .i64 0] → V.heap.size ≤ pY → pX ≠ pY → G 6 #[true, true, true, true, true, true, false, false, true, true, true, true, true, true, true, false, false, true, true, false, false] ((a.put (some 6) (.pointer (some ⟨pX, 0, none⟩))).put (some 7) (.pointer (some ⟨pY, 0, none⟩))) W) ?_ (fun Nt12 => ?_)
        ·
         intro pX pY wts12 hHeld BX hX BY hY dXY; (try simp only [PPz]); refine rdy1 6 rfl (fun K hK => ?_); go_simp; refine (ckwhole_any _ _).mono ?_; rintro e wt33 ⟨rfl, hb3⟩; (go_wp2_with fail); refine hK.out _ _ (keepB hHeld hb3) (fun hNew => ?_); replace BX := BX.keep hb3; replace BY := BY.keep hb3; replace hHeld := hNew; clear hNew hK K hb3; (try simp only [PPz]); exact dag_use (Nt9.out _ _ _ hHeld BX hX BY hY (by omega)) (by kernel_rfl) (by kernel_rfl)
        refine rdy3 6 17 18 rfl rfl rfl (fun K hK => ?_) (fun K hK => ?_) (fun K hK => ?_)
        ·
         go_simp; refine (ckwhole_any _ _).mono ?_; rintro e wt34 ⟨rfl, hb3⟩; (go_wp2_with fail); refine hK.out _ _ (keepB hHeld hb3) (fun hNew => ?_); replace hHeld := hNew; clear hNew hK K hb3; (try simp only [PPz]); refine rdy3 7 17 18 rfl rfl rfl (fun K hK => ?_) (fun K hK => ?_) (fun K hK => ?_)
         ·
          go_simp; refine (CG.out _).mono ?_; rintro e wt35 ⟨rfl, hb3⟩; (go_wp2_with fail); refine hK.out _ _ (keepB hHeld hb3) (fun hNew => ?_); replace hHeld := hNew; clear hNew hK K hb3; (try simp only [PPz]); refine rdy3 15 17 18 rfl rfl rfl (fun K hK => ?_) (fun K hK => ?_) (fun K hK => ?_)
          ·
           go_simp; refine (ckwhole_any _ _).mono ?_; rintro e wt36 ⟨rfl, hb3⟩; (go_wp2_with fail); refine hK.out _ _ (keepB hHeld hb3) (fun hNew => ?_); replace hHeld := hNew; clear hNew hK K hb3; (try simp only [PPz]); refine rdy3 16 17 18 rfl rfl rfl (fun K hK => ?_) (fun K hK => ?_) (fun K hK => ?_)
           ·
            go_simp; refine (CL.out _).mono ?_; rintro e wt37 ⟨rfl, hb3⟩; (go_wp2_with fail); refine hK.out _ _ (keepB hHeld hb3) (fun hNew => ?_); replace hHeld := hNew; clear hNew hK K hb3; (try simp only [PPz]); refine rdy2 17 18 rfl rfl (fun K hK => ?_) (fun K hK => ?_)
            ·
             go_simp; refine hK.out _ _ (below_al hHeld _) (fun hNew => ?_); have hX : V.heap.size ≤ wt37.heap.size := hHeld.size; replace hHeld := hNew; clear hNew hK K; (try simp only [PPz]); refine at_anyH (fun v => Below V.heap.size V v ∧ BK v wt37.heap.size [.int .i64 0, .int .i64 0]) ⟨hHeld, BK.new _ _ _⟩ (fun wt38 hS => ?_); clear hHeld; obtain ⟨hHeld, BX⟩ := hS; exact dag_use (Nt1.out _ _ hHeld BX hX) (by kernel_rfl) (by kernel_rfl)
            ·
             go_simp; refine hK.out _ _ (below_al hHeld _) (fun hNew => ?_); have hY : V.heap.size ≤ wt37.heap.size := hHeld.size; replace hHeld := hNew; clear hNew hK K; (try simp only [PPz]); refine at_anyH (fun v => Below V.heap.size V v ∧ BK v wt37.heap.size [.int .i64 0, .int .i64 0]) ⟨hHeld, BK.new _ _ _⟩ (fun wt39 hS => ?_); clear hHeld; obtain ⟨hHeld, BY⟩ := hS; exact dag_use (Nt2.out _ _ hHeld BY hY) (by kernel_rfl) (by kernel_rfl)
           ·
            go_simp; refine hK.out _ _ (below_al hHeld _) (fun hNew => ?_); have hX : V.heap.size ≤ wt36.heap.size := hHeld.size; replace hHeld := hNew; clear hNew hK K; (try simp only [PPz]); refine at_anyH (fun v => Below V.heap.size V v ∧ BK v wt36.heap.size [.int .i64 0, .int .i64 0]) ⟨hHeld, BK.new _ _ _⟩ (fun wt40 hS => ?_); clear hHeld; obtain ⟨hHeld, BX⟩ := hS; exact dag_use (Nt4.out _ _ hHeld BX hX) (by kernel_rfl) (by kernel_rfl)
           ·
            go_simp; refine hK.out _ _ (below_al hHeld _) (fun hNew => ?_); have hY : V.heap.size ≤ wt36.heap.size := hHeld.size; replace hHeld := hNew; clear hNew hK K; (try simp only [PPz]); refine at_anyH (fun v => Below V.heap.size V v ∧ BK v wt36.heap.size [.int .i64 0, .int .i64 0]) ⟨hHeld, BK.new _ _ _⟩ (fun wt41 hS => ?_); clear hHeld; obtain ⟨hHeld, BY⟩ := hS; exact dag_use (Nt5.out _ _ hHeld BY hY) (by kernel_rfl) (by kernel_rfl)
          ·
           go_simp; refine hK.out _ _ (below_al hHeld _) (fun hNew => ?_); have hX : V.heap.size ≤ wt35.heap.size := hHeld.size; replace hHeld := hNew; clear hNew hK K; (try simp only [PPz]); refine at_anyH (fun v => Below V.heap.size V v ∧ BK v wt35.heap.size [.int .i64 0, .int .i64 0]) ⟨hHeld, BK.new _ _ _⟩ (fun wt42 hS => ?_); clear hHeld; obtain ⟨hHeld, BX⟩ := hS; exact dag_use (Nt7.out _ _ hHeld BX hX) (by kernel_rfl) (by kernel_rfl)
          ·
           go_simp; refine hK.out _ _ (below_al hHeld _) (fun hNew => ?_); have hY : V.heap.size ≤ wt35.heap.size := hHeld.size; replace hHeld := hNew; clear hNew hK K; (try simp only [PPz]); refine at_anyH (fun v => Below V.heap.size V v ∧ BK v wt35.heap.size [.int .i64 0, .int .i64 0]) ⟨hHeld, BK.new _ _ _⟩ (fun wt43 hS => ?_); clear hHeld; obtain ⟨hHeld, BY⟩ := hS; exact dag_use (Nt8.out _ _ hHeld BY hY) (by kernel_rfl) (by kernel_rfl)
         ·
          go_simp; refine hK.out _ _ (below_al hHeld _) (fun hNew => ?_); have hX : V.heap.size ≤ wt34.heap.size := hHeld.size; replace hHeld := hNew; clear hNew hK K; (try simp only [PPz]); refine at_anyH (fun v => Below V.heap.size V v ∧ BK v wt34.heap.size [.int .i64 0, .int .i64 0]) ⟨hHeld, BK.new _ _ _⟩ (fun wt44 hS => ?_); clear hHeld; obtain ⟨hHeld, BX⟩ := hS; exact dag_use (Nt10.out _ _ hHeld BX hX) (by kernel_rfl) (by kernel_rfl)
         ·
          go_simp; refine hK.out _ _ (below_al hHeld _) (fun hNew => ?_); have hY : V.heap.size ≤ wt34.heap.size := hHeld.size; replace hHeld := hNew; clear hNew hK K; (try simp only [PPz]); refine at_anyH (fun v => Below V.heap.size V v ∧ BK v wt34.heap.size [.int .i64 0, .int .i64 0]) ⟨hHeld, BK.new _ _ _⟩ (fun wt45 hS => ?_); clear hHeld; obtain ⟨hHeld, BY⟩ := hS; exact dag_use (Nt11.out _ _ hHeld BY hY) (by kernel_rfl) (by kernel_rfl)
        ·
         go_simp; refine hK.out _ _ (below_al hHeld _) (fun hNew => ?_); have hX : V.heap.size ≤ wt0.heap.size := hHeld.size; replace hHeld := hNew; clear hNew hK K; (try simp only [PPz]); refine at_anyH (fun v => Below V.heap.size V v ∧ BK v wt0.heap.size [.int .i64 0, .int .i64 0]) ⟨hHeld, BK.new _ _ _⟩ (fun wt46 hS => ?_); clear hHeld; obtain ⟨hHeld, BX⟩ := hS; refine rdy2 6 18 rfl rfl (fun K hK => ?_) (fun K hK => ?_)
         ·
          go_simp; refine (ckwhole_any _ _).mono ?_; rintro e wt47 ⟨rfl, hb3⟩; (go_wp2_with fail); refine hK.out _ _ (keepB hHeld hb3) (fun hNew => ?_); replace BX := BX.keep hb3; replace hHeld := hNew; clear hNew hK K hb3; (try simp only [PPz]); exact dag_use (Nt10.out _ _ hHeld BX hX) (by kernel_rfl) (by kernel_rfl)
         ·
          go_simp; refine hK.out _ _ (below_al hHeld _) (fun hNew => ?_); have hY : V.heap.size ≤ wt46.heap.size := hHeld.size; have dXY := BX.lt; replace hHeld := hNew; clear hNew hK K; (try simp only [PPz]); refine at_anyH (fun v => Below V.heap.size V v ∧ BK v wt0.heap.size [.int .i64 0, .int .i64 0] ∧ BK v wt46.heap.size [.int .i64 0, .int .i64 0]) ⟨hHeld, BX.al _, BK.new _ _ _⟩ (fun wt48 hS => ?_); clear hHeld BX; obtain ⟨hHeld, BX, BY⟩ := hS; exact dag_use (Nt12.out _ _ _ hHeld BX hX BY hY (by omega)) (by kernel_rfl) (by kernel_rfl)
        ·
         go_simp; refine hK.out _ _ (below_al hHeld _) (fun hNew => ?_); have hY : V.heap.size ≤ wt0.heap.size := hHeld.size; replace hHeld := hNew; clear hNew hK K; (try simp only [PPz]); refine at_anyH (fun v => Below V.heap.size V v ∧ BK v wt0.heap.size [.int .i64 0, .int .i64 0]) ⟨hHeld, BK.new _ _ _⟩ (fun wt49 hS => ?_); clear hHeld; obtain ⟨hHeld, BY⟩ := hS; refine rdy2 6 17 rfl rfl (fun K hK => ?_) (fun K hK => ?_)
         ·
          go_simp; refine (ckwhole_any _ _).mono ?_; rintro e wt50 ⟨rfl, hb3⟩; (go_wp2_with fail); refine hK.out _ _ (keepB hHeld hb3) (fun hNew => ?_); replace BY := BY.keep hb3; replace hHeld := hNew; clear hNew hK K hb3; (try simp only [PPz]); exact dag_use (Nt11.out _ _ hHeld BY hY) (by kernel_rfl) (by kernel_rfl)
         ·
          go_simp; refine hK.out _ _ (below_al hHeld _) (fun hNew => ?_); have hX : V.heap.size ≤ wt49.heap.size := hHeld.size; have dYX := BY.lt; replace hHeld := hNew; clear hNew hK K; (try simp only [PPz]); refine at_anyH (fun v => Below V.heap.size V v ∧ BK v wt0.heap.size [.int .i64 0, .int .i64 0] ∧ BK v wt49.heap.size [.int .i64 0, .int .i64 0]) ⟨hHeld, BY.al _, BK.new _ _ _⟩ (fun wt51 hS => ?_); clear hHeld BY; obtain ⟨hHeld, BY, BX⟩ := hS; exact dag_use (Nt12.out _ _ _ hHeld BX hX BY hY (by omega)) (by kernel_rfl) (by kernel_rfl)
      case rest =>
        obtain ⟨p, q, rfl, rfl, hv, g0c, g1c, h0c, h1c⟩ := hcut; clear t3 t4 t5 t6 t7
        go_upto_region 4 with fail
        refine at_worldQ (fun v => Below V.heap.size V v ∧ v.cell? ⟨p, 0, none⟩ = some (.int .i64 g1) ∧ v.cell? ⟨p, 1, none⟩ = some (.int .i64 g2) ∧ v.cell? ⟨q, 0, none⟩ = some (.int .i64 h1) ∧ v.cell? ⟨q, 1, none⟩ = some (.int .i64 h2)) ⟨hv, g0c, g1c, h0c, h1c⟩ (fun U4 hS => ?_); clear hv g0c g1c h0c h1c; obtain ⟨hv, p0, p1, q0, q1⟩ := hS; have BV : n₀ ≤ V.heap.size := Nat.le_trans b6 hs; have hBU : KB n₀ Ws W U4 := hB.trans (KB.below BV hv); have hsU : W.heap.size ≤ U4.heap.size := Nat.le_trans hs hv.size; have hJU : J (X.idx k) U4 := abides HJ.out hJk hv; replace c2 := keepC hv c2; replace z0 := keepC hv z0; have z9 := lt_of_cell z0; have c9 := lt_of_cell c2; clear a0 a1 b0 b1 u0 u1 c0 c1 hdz v1 v2 v3 v4 CG CL e0 e1
        have hasI : X.has k ↔ dk ≠ 0 ∧ Rp.q g1 g2 < Rp.q h1 h2 := by
          unfold Ck.Sx.has
          rw [HDK.out, HG.out, HH.out]
        have HI := Lib.hid hasI; clear hasI
        by_cases hd0 : dk = 0
        · have g0 : (dk == 0) = true := by rw [hd0]; rfl
          have hno := Lib.hid (X.idx_no (k := k) (fun h => (HI.out.1 h).1 hd0)); clear hd0; (go_wp2_with fail)
          go_roundw
          case rel => exact ⟨k + 1, by omega, by go_num, hBU, hsU, by rw [hno.out]; exact hJU, by rw [hno.out]; exact HB.out⟩
          case measure => simp [intOf]; omega
        · have g0 : (dk == 0) = false := by simp [hd0]
          have cw := fun w => ckless_any g1 g2 h1 h2 OG.out OH.out w
          by_cases hlt2 : Rp.q g1 g2 < Rp.q h1 h2
          · rw [decide_eq_true hlt2] at cw
            have CW := Lib.hid cw; have hhas := HI.out.2 ⟨hd0, hlt2⟩; have hyes := Lib.hid (X.idx_yes hhas HB.out)
            have cm := fun w => ckmeasure_any g1 g2 h1 h2 dk OG.out OH.out (by omega) (by omega) w
            have hwt : X.wt k = Ck.wthS g1 g2 h1 h2 dk := by
              unfold Ck.Sx.wt
              rw [HG.out, HH.out, HDK.out]
            rw [← hwt] at cm
            have hsv : X.sv k = (if (X.wt k).2.2 = 0 then .agg #[.int .i64 g1, .int .i64 g2, .int .i64 (X.wt k).1, .int .i64 (X.wt k).2.1, .int .i64 dk] else .agg #[.int .i64 0, .int .i64 0, .int .i64 0, .int .i64 0, .int .i64 0]) := by
              unfold Ck.Sx.sv
              rw [HG.out, HDK.out]
            rw [← hsv] at cm; obtain ⟨y0, y1, y2, y3, y4, hy5⟩ := X.sv_cells k; obtain ⟨ER, hER⟩ : ∃ ER, (X.wt k).2.2 = ER := ⟨_, rfl⟩; rw [hy5, hER] at cm; have CM := Lib.hid cm; have HYV := Lib.hid hy5; have HER := Lib.hid hER; clear cw hd0 hlt2 cm hwt hsv hy5 hER; (go_wp2_with fail); refine (CW.out _).mono ?_; rintro e w4 ⟨rfl, hb4⟩; replace hBU := hBU.trans (KB.below (Nat.le_trans b6 hsU) hb4); replace hsU := Nat.le_trans hsU hb4.size; replace hJU := abides HJ.out hJU hb4; replace c2 := keepC hb4 c2; replace z0 := keepC hb4 z0; replace p0 := keepC hb4 p0; replace p1 := keepC hb4 p1; replace q0 := keepC hb4 q0; replace q1 := keepC hb4 q1; clear hb4 hv CW z9 c9
            go_upto_region 5 with fail
            refine at_worldQ (fun v => (KB n₀ Ws W v ∧ W.heap.size ≤ v.heap.size ∧ J (X.idx k) v) ∧ v.cell? ⟨Bc, 2, none⟩ = some (.slice (some ⟨bz, oz, none⟩) m cz) ∧ v.cell? ⟨bz, oz + k, none⟩ = some (.int .i64 dk) ∧ v.cell? ⟨p, 0, none⟩ = some (.int .i64 g1) ∧ v.cell? ⟨p, 1, none⟩ = some (.int .i64 g2) ∧ v.cell? ⟨q, 0, none⟩ = some (.int .i64 h1) ∧ v.cell? ⟨q, 1, none⟩ = some (.int .i64 h2)) ⟨⟨hBU, hsU, hJU⟩, c2, z0, p0, p1, q0, q1⟩ (fun U5 hS => ?_); clear hBU hsU hJU c2 z0 p0 p1 q0 q1; obtain ⟨⟨hBU, hsU, hJU⟩, c2, z0, p0, p1, q0, q1⟩ := hS; have v1 := lt_of_cell c2; have v2 := lt_of_cell z0; have v3 := lt_of_cell p0; have v4 := lt_of_cell q0; clear hB hs hJk
            go_cut [8, 9] (fun x y v => ∃ r : Nat, x = .pointer (some ⟨r, 0, none⟩) ∧ y = .int .i64 ER ∧ Below U5.heap.size U5 v ∧ v.cell? ⟨r, 0, none⟩ = some (.int .i64 y0) ∧ v.cell? ⟨r, 1, none⟩ = some (.int .i64 y1) ∧ v.cell? ⟨r, 2, none⟩ = some (.int .i64 y2) ∧ v.cell? ⟨r, 3, none⟩ = some (.int .i64 y3) ∧ v.cell? ⟨r, 4, none⟩ = some (.int .i64 y4))
            case first =>
              refine wp_region_held_drew (S := (Below U5.heap.size U5)) (by kernel_rfl) ((Below.refl _ _).drew) (fun hHeld => ?_); refine at_anyH (Below U5.heap.size U5) hHeld (fun wf0 hNew => ?_); clear hHeld; have hHeld := hNew; clear hNew; refine tkm 0 rfl hHeld (fun w hSw => by have kc2 := keepC hSw c2; have kz0 := keepC hSw z0; have kp0 := keepC hSw p0; have kp1 := keepC hSw p1; have kq0 := keepC hSw q0; have kq1 := keepC hSw q1; go_simp <;> with_reducible rfl) ?_; (try simp only [PPz]); refine tkm 1 rfl hHeld (fun w hSw => by have kc2 := keepC hSw c2; have kz0 := keepC hSw z0; have kp0 := keepC hSw p0; have kp1 := keepC hSw p1; have kq0 := keepC hSw q0; have kq1 := keepC hSw q1; go_simp <;> with_reducible rfl) ?_; (try simp only [PPz]); refine tkd 2 ?_; (try simp only [PPz]); refine tkm 3 rfl hHeld (fun w hSw => by have kc2 := keepC hSw c2; have kz0 := keepC hSw z0; have kp0 := keepC hSw p0; have kp1 := keepC hSw p1; have kq0 := keepC hSw q0; have kq1 := keepC hSw q1; go_simp <;> with_reducible rfl) ?_; (try simp only [PPz]); refine tkd 4 ?_; refine tkd 5 ?_; (try simp only [PPz]); refine tkm 6 rfl hHeld (fun w hSw => by have kc2 := keepC hSw c2; have kz0 := keepC hSw z0; have kp0 := keepC hSw p0; have kp1 := keepC hSw p1; have kq0 := keepC hSw q0; have kq1 := keepC hSw q1; go_simp <;> with_reducible rfl) ?_; (try simp only [PPz]); refine rdy2 7 11 rfl rfl (fun K hK => ?_) (fun K hK => ?_)
              ·
                go_simp; refine (CM.out _).mono ?_; rintro e wf8 ⟨rfl, hb3⟩; (go_wp2_with fail); refine hK.out _ _ (keepB hHeld hb3) (fun hNew => ?_); replace hHeld := hNew; clear hNew hK K hb3; (try simp only [PPz]); refine tkd 8 ?_; refine tkd 9 ?_; refine tkd 10 ?_; (try simp only [PPz]); refine rdy1 11 rfl (fun K hK => ?_); go_simp; refine hK.out _ _ (below_al hHeld _) (fun hNew => ?_); have hX : U5.heap.size ≤ wf8.heap.size := hHeld.size; replace hHeld := hNew; clear hNew hK K; (try simp only [PPz]); refine at_anyH (fun v => Below U5.heap.size U5 v ∧ BK v wf8.heap.size [.int .i64 0, .int .i64 0, .int .i64 0, .int .i64 0, .int .i64 0]) ⟨hHeld, BK.new _ _ _⟩ (fun wf12 hS => ?_); clear hHeld; obtain ⟨hHeld, BX⟩ := hS; refine rdy1 12 rfl (fun K hK => ?_); have n0 := BX.c 0 rfl; have f0 := BX.f 0 rfl; have n1 := BX.c 1 rfl; have f1 := BX.f 1 rfl; have n2 := BX.c 2 rfl; have f2 := BX.f 2 rfl; have n3 := BX.c 3 rfl; have f3 := BX.f 3 rfl; have n4 := BX.c 4 rfl; have f4 := BX.f 4 rfl; go_simp; clear n0 f0 n1 f1 n2 f2 n3 f3 n4 f4; refine hK.out _ _ (below_set (below_set (below_set (below_set (below_set hHeld (by omega) _) (by omega) _) (by omega) _) (by omega) _) (by omega) _) (fun hNew => ?_); replace hHeld := hNew; clear hNew hK K; (try simp only [PPz]); refine at_anyH (fun v => Below U5.heap.size U5 v ∧ BK v wf8.heap.size [.int .i64 y0, .int .i64 y1, .int .i64 y2, .int .i64 y3, .int .i64 y4]) ⟨hHeld, (((((BX.set 0 _).set 1 _).set 2 _).set 3 _).set 4 _)⟩ (fun wf13 hS => ?_); clear hHeld BX; obtain ⟨hHeld, BX⟩ := hS; refine tkd 13 ?_; (try simp only [PPz]); refine wpAnyH_done (by kernel_rfl) ?_ _; (go_wp2_with fail)
                go_meet
                exact ⟨_, rfl, rfl, hHeld, BX.c 0 rfl, BX.c 1 rfl, BX.c 2 rfl, BX.c 3 rfl, BX.c 4 rfl⟩
              ·
                go_simp; refine hK.out _ _ (below_al hHeld _) (fun hNew => ?_); have hX : U5.heap.size ≤ wf0.heap.size := hHeld.size; replace hHeld := hNew; clear hNew hK K; (try simp only [PPz]); refine at_anyH (fun v => Below U5.heap.size U5 v ∧ BK v wf0.heap.size [.int .i64 0, .int .i64 0, .int .i64 0, .int .i64 0, .int .i64 0]) ⟨hHeld, BK.new _ _ _⟩ (fun wf15 hS => ?_); clear hHeld; obtain ⟨hHeld, BX⟩ := hS; refine rdy1 7 rfl (fun K hK => ?_); go_simp; refine (CM.out _).mono ?_; rintro e wf16 ⟨rfl, hb3⟩; (go_wp2_with fail); refine hK.out _ _ (keepB hHeld hb3) (fun hNew => ?_); replace BX := BX.keep hb3; replace hHeld := hNew; clear hNew hK K hb3; (try simp only [PPz]); refine tkd 8 ?_; refine tkd 9 ?_; refine tkd 10 ?_; (try simp only [PPz]); refine rdy1 12 rfl (fun K hK => ?_); have n0 := BX.c 0 rfl; have f0 := BX.f 0 rfl; have n1 := BX.c 1 rfl; have f1 := BX.f 1 rfl; have n2 := BX.c 2 rfl; have f2 := BX.f 2 rfl; have n3 := BX.c 3 rfl; have f3 := BX.f 3 rfl; have n4 := BX.c 4 rfl; have f4 := BX.f 4 rfl; go_simp; clear n0 f0 n1 f1 n2 f2 n3 f3 n4 f4; refine hK.out _ _ (below_set (below_set (below_set (below_set (below_set hHeld (by omega) _) (by omega) _) (by omega) _) (by omega) _) (by omega) _) (fun hNew => ?_); replace hHeld := hNew; clear hNew hK K; (try simp only [PPz]); refine at_anyH (fun v => Below U5.heap.size U5 v ∧ BK v wf0.heap.size [.int .i64 y0, .int .i64 y1, .int .i64 y2, .int .i64 y3, .int .i64 y4]) ⟨hHeld, (((((BX.set 0 _).set 1 _).set 2 _).set 3 _).set 4 _)⟩ (fun wf20 hS => ?_); clear hHeld BX; obtain ⟨hHeld, BX⟩ := hS; refine tkd 13 ?_; (try simp only [PPz]); refine wpAnyH_done (by kernel_rfl) ?_ _; (go_wp2_with fail)
                go_meet
                exact ⟨_, rfl, rfl, hHeld, BX.c 0 rfl, BX.c 1 rfl, BX.c 2 rfl, BX.c 3 rfl, BX.c 4 rfl⟩
            case rest =>
              obtain ⟨r, rfl, rfl, hv, s0, s1, s2, s3, s4⟩ := hcut
              go_upto_region 6 with fail
              refine at_worldQ (fun v => Below U5.heap.size U5 v ∧ v.cell? ⟨r, 0, none⟩ = some (.int .i64 y0) ∧ v.cell? ⟨r, 1, none⟩ = some (.int .i64 y1) ∧ v.cell? ⟨r, 2, none⟩ = some (.int .i64 y2) ∧ v.cell? ⟨r, 3, none⟩ = some (.int .i64 y3) ∧ v.cell? ⟨r, 4, none⟩ = some (.int .i64 y4)) ⟨hv, s0, s1, s2, s3, s4⟩ (fun U6 hS => ?_); clear hv s0 s1 s2 s3 s4; obtain ⟨hv, s0, s1, s2, s3, s4⟩ := hS; replace hBU := hBU.trans (KB.below (Nat.le_trans b6 hsU) hv); replace hsU := Nat.le_trans hsU hv.size; replace hJU := abides HJ.out hJU hv; have hln := X.idx_len k; obtain ⟨fn, tmps, assign, body, hy, hRd⟩ := HY.out (X.idx k) ⟨k, hhas⟩ U6 hJU (by omega); dsimp only at hy hRd; rw [HYV.out, HER.out] at hy; clear c2 z0 p0 p1 q0 q1 v1 v2 v3 v4 CM hv hJU
              by_cases hE : ER = 0
              · have n1' : (ER != 0) = false := by rw [hE]; rfl
                have HE := Lib.hid hE; clear hE; refine (wpIn_wide (n := n)).1 ?_
                gi_wp2
                refine hRd.mono ?_; rintro e W3 (⟨rfl, hJ3, hk3⟩ | ⟨rfl, hJx3⟩)
                · gi_wp2
                  go_wp2_with fail
                  go_roundw
                  case rel => exact ⟨k + 1, by omega, by go_num, hBU.trans hk3, Nat.le_trans hsU hk3.size, by rw [hyes.out]; exact hJ3, by rw [hyes.out, X.bad_snoc, HB.out, HER.out, HE.out]; rfl⟩
                  case measure => simp [intOf]; omega
                · gi_wp2
                  (go_wp2_with fail); refine bodyPost_ret (results_none rfl _ _ _) rfl ?_; exact ⟨⟨_, rfl⟩, .inr ⟨_, ⟨k + 1, by omega, hyes.out.symm⟩, hJx3⟩⟩
              · have n1' : (ER != 0) = true := by simp [hE]
                have HE := Lib.hid hE; clear hE; refine (wpIn_wide (n := n)).1 ?_
                gi_wp2
                refine hRd.mono ?_; rintro e W3 (⟨rfl, hJ3, hk3⟩ | ⟨rfl, hJx3⟩)
                · gi_wp2
                  (go_wp2_with fail); refine bodyPost_ret (results_none rfl _ _ _) rfl ?_; refine ⟨⟨_, rfl⟩, .inl ⟨_, ?_, hJ3⟩⟩; rw [← hyes.out]; exact (X.idx_end (by rw [hyes.out, X.bad_snoc, HER.out]; simp [HE.out]) (by omega)).symm
                · gi_wp2
                  (go_wp2_with fail); refine bodyPost_ret (results_none rfl _ _ _) rfl ?_; exact ⟨⟨_, rfl⟩, .inr ⟨_, ⟨k + 1, by omega, hyes.out.symm⟩, hJx3⟩⟩
          · rw [decide_eq_false hlt2] at cw
            have CW := Lib.hid cw; have hno := Lib.hid (X.idx_no (k := k) (fun h => hlt2 (HI.out.1 h).2)); clear cw hd0 hlt2; (go_wp2_with fail); refine (CW.out _).mono ?_; rintro e w4 ⟨rfl, hb4⟩; (go_wp2_with fail)
            go_roundw
            case rel => exact ⟨k + 1, by omega, by go_num, hBU.trans (KB.below (Nat.le_trans b6 hsU) hb4), Nat.le_trans hsU hb4.size, by rw [hno.out]; exact abides HJ.out hJU hb4, by rw [hno.out]; exact HB.out⟩
            case measure => simp [intOf]; omega
    · obtain rfl : k = m := by omega
      go_wp2_with fail
      go_end0
      exact ⟨⟨_, rfl⟩, .inl ⟨_, rfl, hJk⟩⟩
end Go.Proofs.YtniagnldiegamaaGreat


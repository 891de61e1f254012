/- Package rent: Stake. -/
import Derived.Test.YtncmffhoodfhjaaLxd
import Derived.Test.YtncmffhoodfhjaaYq
import Derived.Deep.RegionHeld3
namespace Go.Proofs.Ytncmffhoodfhjaa
open Go.RowKit
/-- Two ratios in two blocks. -/
def S12 (v : World) (p q : Nat) (x1 x2 y1 y2 : Int) : Prop := v.cell? ⟨p, 0, none⟩ = some (.int .i64 x1) ∧ v.frozen? ⟨p, 0, none⟩ = false ∧ v.cell? ⟨p, 1, none⟩ = some (.int .i64 x2) ∧ v.frozen? ⟨p, 1, none⟩ = false ∧ v.cell? ⟨q, 0, none⟩ = some (.int .i64 y1) ∧ v.frozen? ⟨q, 0, none⟩ = false ∧ v.cell? ⟨q, 1, none⟩ = some (.int .i64 y2) ∧ v.frozen? ⟨q, 1, none⟩ = false
theorem bk_two {v : World} {p : Nat} {a b : Value} (h0 : v.cell? ⟨p, 0, none⟩ = some a) (f0 : v.frozen? ⟨p, 0, none⟩ = false) (h1 : v.cell? ⟨p, 1, none⟩ = some b) (f1 : v.frozen? ⟨p, 1, none⟩ = false) : BK v p [a, b] := by
  refine ⟨lt_of_cell h0, fun j x e => ?_⟩
  match j, e with
  | 0, e => simp at e; subst e; exact ⟨h0, f0⟩
  | 1, e => simp at e; subst e; exact ⟨h1, f1⟩
theorem s12_p {v : World} {p q : Nat} {x1 x2 y1 y2 : Int} (hne : p ≠ q) (h : S12 v p q x1 x2 y1 y2) : S12 ((v.setCell ⟨p, 0, none⟩ (.int .i64 x1)).setCell ⟨p, 1, none⟩ (.int .i64 x2)) p q x1 x2 y1 y2 := by
  obtain ⟨a0, g0, a1, g1, c0, d0, c1, d1⟩ := h
  have s1 := ((bk_two a0 g0 a1 g1).set 0 (.int .i64 x1)).set 1 (.int .i64 x2)
  have s2 := ((bk_two c0 d0 c1 d1).far (q := p) hne 0 (.int .i64 x1)).far (q := p) hne 1 (.int .i64 x2)
  exact ⟨s1.c 0 rfl, s1.f 0 rfl, s1.c 1 rfl, s1.f 1 rfl, s2.c 0 rfl, s2.f 0 rfl, s2.c 1 rfl, s2.f 1 rfl⟩
theorem s12_q {v : World} {p q : Nat} {x1 x2 y1 y2 : Int} (hne : p ≠ q) (h : S12 v p q x1 x2 y1 y2) : S12 ((v.setCell ⟨q, 0, none⟩ (.int .i64 y1)).setCell ⟨q, 1, none⟩ (.int .i64 y2)) p q x1 x2 y1 y2 := by
  obtain ⟨a0, g0, a1, g1, c0, d0, c1, d1⟩ := h
  have s1 := ((bk_two a0 g0 a1 g1).far (q := q) hne.symm 0 (.int .i64 y1)).far (q := q) hne.symm 1 (.int .i64 y2)
  have s2 := ((bk_two c0 d0 c1 d1).set 0 (.int .i64 y1)).set 1 (.int .i64 y2)
  exact ⟨s1.c 0 rfl, s1.f 0 rfl, s1.c 1 rfl, s1.f 1 rfl, s2.c 0 rfl, s2.f 0 rfl, s2.c 1 rfl, s2.f 1 rfl⟩
theorem bkAt5 {v : World} {p q : Nat} {l : List Value} (h : BK v p l) (e : p = q) : BK v q l := e ▸ h
namespace Rp
theorem q_sub {a c n : Int} (h : n ≠ 0) : q a n - q c n = q (a - c) n := by
  have e := q_add (a := a - c) (c := c) h
  rw [Int.sub_add_cancel] at e
  rw [← e, Rat.add_sub_cancel]
theorem sub_one {v a n : Int} (h1 : 1 ≤ n) (h2 : n ≤ 1000) (v0 : -1000000000000 ≤ v) (v1 : v ≤ 1000000000000) (a0 : -1000000000000000 ≤ a) (a1 : a ≤ 1000000000000000) :
    subS (q v 1).num (q v 1).den (q a n).num (q a n).den = ((q (n * v - a) n).num, ((q (n * v - a) n).den : Int), 0) := by
  have k1 : n * v ≤ 1000 * 1000000000000 := Int.le_trans (Int.mul_le_mul_of_nonneg_left v1 (by omega)) (by omega)
  have k0 : -(1000 * 1000000000000) ≤ n * v := by
    have : n * (-1000000000000) ≤ n * v := Int.mul_le_mul_of_nonneg_left v0 (by omega)
    omega
  have hx : Ok (q v 1).num (q v 1).den := q_ok (by omega) (by omega) (by omega) (by omega)
  have hy : Ok (q a n).num (q a n).den := q_ok h1 (by omega) (by omega) (by omega)
  have e : both (q v 1).num (q v 1).den (q a n).num (q a n).den = 0 := by unfold both chk; rw [if_pos hx, if_pos hy]
  unfold subS
  rw [if_pos e, q_self, q_self]
  have e2 : q v 1 = q (n * v) n := by
    have := q_scale (a := v) (n := 1) (g := n) (by omega) (by omega)
    rw [Int.mul_one] at this
    exact this.symm
  rw [e2, q_sub (by omega)]
  exact ofQ_q h1 (by omega) (by omega) (by omega)
end Rp
namespace As
/-- What Stake returns. -/
def skS (V : List (List Int)) (R : Int) (i : Int) : (Int × Int) × (Int × Int) × Int :=
  if rchk V R = 0 then
    if 0 ≤ i ∧ i < V.length then
      (((Rp.q (V.length * vo V (bst V) i.toNat - highN V (bst V) R ((bst V).getD i.toNat 0)) V.length).num, ((Rp.q (V.length * vo V (bst V) i.toNat - highN V (bst V) R ((bst V).getD i.toNat 0)) V.length).den : Int)),
       ((Rp.q (V.length * vo V (bst V) i.toNat - lowN V (bst V) R ((bst V).getD i.toNat 0)) V.length).num, ((Rp.q (V.length * vo V (bst V) i.toNat - lowN V (bst V) R ((bst V).getD i.toNat 0)) V.length).den : Int)), 0)
    else ((0, 0), (0, 0), 2)
  else ((0, 0), (0, 0), rchk V R)
theorem ends_bd6 {V : List (List Int)} {R : Int} (ok : Ok V) (r0 : 0 ≤ R) (r1 : R ≤ 10000000) (j : Nat) : -1000000000 ≤ lowN V (bst V) R j ∧ lowN V (bst V) R j ≤ 1000000000 ∧ -1000000000 ≤ highN V (bst V) R j ∧ highN V (bst V) R j ≤ 1000000000 := by
  have n6 := ok.n6
  have h1 := sum6 (f := fun i => lkm V (bst V) i j) (fun i => lkm_b6 ok _ _ _) (k := V.length) n6
  have h2 := sum6 (f := fun i => lkm V (bst V) j i) (fun i => lkm_b6 ok _ _ _) (k := V.length) n6
  have hlo : lowN V (bst V) R j = R + sm (fun i => lkm V (bst V) i j) (List.range V.length) := rfl
  have hhi : highN V (bst V) R j = R - sm (fun i => lkm V (bst V) j i) (List.range V.length) := rfl
  omega
end As
/-- Stake's answer as a value. -/
def skV (V : List (List Int)) (R : Int) (i : Int) : Value := .tuple #[.agg #[.int .i64 (As.skS V R i).1.1, .int .i64 (As.skS V R i).1.2], .agg #[.int .i64 (As.skS V R i).2.1.1, .int .i64 (As.skS V R i).2.1.2], .int .i64 (As.skS V R i).2.2]
set_option maxRecDepth 100000 in
set_option maxHeartbeats 8000000 in
theorem rtStake_any (A : Option Addr) (cv : Nat) (V : List (List Int)) (R i : Int) (w : World) (hl : V.length ≤ maxLen) (h : IsM w A V) :
    Calls Try.prog 32 #[.agg #[.slice A V.length cv, .int .i64 R], .int .i64 i] w fun e w' => e = .returned (skV V R i) ∧ Below w.heap.size w w' := by
  have CK := fun v (hv : Below w.heap.size w v) => rmCheck_any A cv V R v hl (h.keep hv)
  rcases As.rchk_two V R with ⟨h0, hc, r0, r1⟩ | ⟨h1, h2⟩
  · rw [h0] at CK
    have CK' := Lib.hid CK
    by_cases hj : 0 ≤ i ∧ i < V.length
    · obtain ⟨I, rfl⟩ : ∃ I : Nat, i = I := ⟨i.toNat, by omega⟩
      have hI0 : I < V.length := by omega
      have ok := As.chk_ok hc
      have ht := As.bst_top ok
      have n1 := ok.n1
      have n6 := ok.n6
      have hJ := As.own_lt ht hI0
      have e1 : skV V R I = .tuple #[.agg #[.int .i64 (Rp.q (V.length * As.vo V (As.bst V) I - As.highN V (As.bst V) R ((As.bst V).getD I 0)) V.length).num, .int .i64 ((Rp.q (V.length * As.vo V (As.bst V) I - As.highN V (As.bst V) R ((As.bst V).getD I 0)) V.length).den : Int)], .agg #[.int .i64 (Rp.q (V.length * As.vo V (As.bst V) I - As.lowN V (As.bst V) R ((As.bst V).getD I 0)) V.length).num, .int .i64 ((Rp.q (V.length * As.vo V (As.bst V) I - As.lowN V (As.bst V) R ((As.bst V).getD I 0)) V.length).den : Int)], .int .i64 0] := by
        unfold skV As.skS
        rw [if_pos h0, if_pos hj]
        rfl
      rw [e1]
      have CH := Lib.hid (fun v (hv : Below w.heap.size w v) => rtHoused_any A cv V R v hl (h.keep hv) h0)
      have cr := fun v (hv : Below w.heap.size w v) => rmRange_any A cv V R ((As.bst V).getD I 0 : Nat) v hl (h.keep hv)
      have er : rgV V R ((As.bst V).getD I 0 : Nat) = .tuple #[.agg #[.int .i64 (Rp.q (As.lowN V (As.bst V) R ((As.bst V).getD I 0)) V.length).num, .int .i64 ((Rp.q (As.lowN V (As.bst V) R ((As.bst V).getD I 0)) V.length).den : Int)], .agg #[.int .i64 (Rp.q (As.highN V (As.bst V) R ((As.bst V).getD I 0)) V.length).num, .int .i64 ((Rp.q (As.highN V (As.bst V) R ((As.bst V).getD I 0)) V.length).den : Int)], .int .i64 0] := by
        unfold rgV As.rgS
        rw [if_pos h0, if_pos (by omega)]
        rfl
      rw [er] at cr
      have CR := Lib.hid cr
      obtain ⟨l1, l2, l3, l4⟩ := As.ends_bd6 ok r0 r1 ((As.bst V).getD I 0)
      obtain ⟨v1, v2⟩ := As.wrm_bd ok (As.bst V) ((As.bst V).getD I 0)
      have hvo := As.vo_wrm ht hI0
      rw [hvo]
      have CF := Lib.hid (fun v => rtFrac_any (As.wrm V (As.bst V) ((As.bst V).getD I 0)) 1 (by omega) (by omega) (by omega) (by omega) v)
      have okv := Rp.q_ok (a := As.wrm V (As.bst V) ((As.bst V).getD I 0)) (n := 1) (by omega) (by omega) (by omega) (by omega)
      have okl := Rp.q_ok (a := As.lowN V (As.bst V) R ((As.bst V).getD I 0)) (n := V.length) (by omega) (by omega) (by omega) (by omega)
      have okh := Rp.q_ok (a := As.highN V (As.bst V) R ((As.bst V).getD I 0)) (n := V.length) (by omega) (by omega) (by omega) (by omega)
      have s1 := Rp.sub_one (v := As.wrm V (As.bst V) ((As.bst V).getD I 0)) (a := As.highN V (As.bst V) R ((As.bst V).getD I 0)) (n := V.length) (by omega) (by omega) (by omega) (by omega) (by omega) (by omega)
      have s2 := Rp.sub_one (v := As.wrm V (As.bst V) ((As.bst V).getD I 0)) (a := As.lowN V (As.bst V) R ((As.bst V).getD I 0)) (n := V.length) (by omega) (by omega) (by omega) (by omega) (by omega) (by omega)
      obtain ⟨o1, o2, o3, o4, _⟩ := okv
      obtain ⟨p1, p2, p3, p4, _⟩ := okl
      obtain ⟨q1, q2, q3, q4, _⟩ := okh
      have cs1 := fun v => Sub_any (Rp.q (As.wrm V (As.bst V) ((As.bst V).getD I 0)) 1).num ((Rp.q (As.wrm V (As.bst V) ((As.bst V).getD I 0)) 1).den : Int) (Rp.q (As.highN V (As.bst V) R ((As.bst V).getD I 0)) V.length).num ((Rp.q (As.highN V (As.bst V) R ((As.bst V).getD I 0)) V.length).den : Int) v (by omega) (by omega) (by omega) (by omega) (by omega) (by omega) (by omega) (by omega)
      have cs2 := fun v => Sub_any (Rp.q (As.wrm V (As.bst V) ((As.bst V).getD I 0)) 1).num ((Rp.q (As.wrm V (As.bst V) ((As.bst V).getD I 0)) 1).den : Int) (Rp.q (As.lowN V (As.bst V) R ((As.bst V).getD I 0)) V.length).num ((Rp.q (As.lowN V (As.bst V) R ((As.bst V).getD I 0)) V.length).den : Int) v (by omega) (by omega) (by omega) (by omega) (by omega) (by omega) (by omega) (by omega)
      simp only [s1] at cs1
      simp only [s2] at cs2
      have CS1 := Lib.hid cs1
      have CS2 := Lib.hid cs2
      generalize (Rp.q (V.length * As.wrm V (As.bst V) ((As.bst V).getD I 0) - As.highN V (As.bst V) R ((As.bst V).getD I 0)) V.length).num = x1 at *
      generalize ((Rp.q (V.length * As.wrm V (As.bst V) ((As.bst V).getD I 0) - As.highN V (As.bst V) R ((As.bst V).getD I 0)) V.length).den : Int) = x2 at *
      generalize (Rp.q (V.length * As.wrm V (As.bst V) ((As.bst V).getD I 0) - As.lowN V (As.bst V) R ((As.bst V).getD I 0)) V.length).num = y1 at *
      generalize ((Rp.q (V.length * As.wrm V (As.bst V) ((As.bst V).getD I 0) - As.lowN V (As.bst V) R ((As.bst V).getD I 0)) V.length).den : Int) = y2 at *
      clear s1 s2 cs1 cs2 cr er o1 o2 o3 o4 p1 p2 p3 p4 q1 q2 q3 q4 l1 l2 l3 l4 v1 v2 hvo e1
      have HLB := Lib.hid (show (As.al (As.bst V)).length = V.length by rw [As.al_len]; exact ht.len)
      generalize (Rp.q (As.lowN V (As.bst V) R ((As.bst V).getD I 0)) V.length).num = lo1 at *
      generalize ((Rp.q (As.lowN V (As.bst V) R ((As.bst V).getD I 0)) V.length).den : Int) = lo2 at *
      generalize (Rp.q (As.highN V (As.bst V) R ((As.bst V).getD I 0)) V.length).num = hi1 at *
      generalize ((Rp.q (As.highN V (As.bst V) R ((As.bst V).getD I 0)) V.length).den : Int) = hi2 at *
      generalize (Rp.q (As.wrm V (As.bst V) ((As.bst V).getD I 0)) 1).num = va1 at *
      generalize ((Rp.q (As.wrm V (As.bst V) ((As.bst V).getD I 0)) 1).den : Int) = va2 at *
      have d1 : decide ((I : Int) < 0) = false := by rw [decide_eq_false_iff_not]; omega
      have d2 : decide ((V.length : Int) ≤ (I : Int)) = false := by rw [decide_eq_false_iff_not]; omega
      clear CK h0 hc hj ok ht h
      go_enter Try.func32, Try.ntmps32
      go_upto_region 1 with fail
      refine at_box3 (fun V0 hbb b0 b1 b2 hsz => ?_)
      clear hsz
      have c0 := b0.c 0 rfl
      have c1 := b0.c 1 rfl
      go_wp2_with fail
      refine (CK'.out _ hbb).mono ?_
      rintro e w1 ⟨rfl, hb⟩
      have B0 := Lib.hid (b0.keep hb)
      have B1 := Lib.hid (b1.keep hb)
      have B2 := Lib.hid (b2.keep hb)
      have HB := Lib.hid (keepB hbb hb)
      clear hb b0 b1 b2 hbb CK' c0 c1
      have c0 := B0.out.c 0 rfl
      have c1 := B0.out.c 1 rfl
      go_wp2_with fail
      refine (CH.out _ HB.out).mono ?_
      rintro e w2 ⟨X, cX, g, L, cL, rfl, hI, hfr, hg, hbf, hM, hb⟩
      replace B0 := Lib.hid (B0.out.keep hb)
      replace B1 := Lib.hid (B1.out.keep hb)
      replace B2 := Lib.hid (B2.out.keep hb)
      replace HB := Lib.hid (keepB HB.out hb)
      have HG := Lib.hid hbf
      obtain ⟨xb, xo, rfl, hxs⟩ := list_at hI (j := I) (by rw [HLB.out]; exact hI0)
      have x0 := hxs I (by rw [HLB.out]; exact hI0)
      rw [As.el_al] at x0
      clear c0 c1 hb hI hfr hg hbf hM hxs CH d1 d2
      have HWM := Lib.hid (HG.out.c hJ)
      generalize As.wrm V (As.bst V) ((As.bst V).getD I 0) = va at *
      generalize (As.bst V).getD I 0 = J at *
      have i1 : (I : Int) < (V.length : Int) := by omega
      have i2 : (J : Int) < (V.length : Int) := by omega
      have c0 := B0.out.c 0 rfl
      have c1 := B0.out.c 1 rfl
      go_wp2_with fail
      refine (CR.out _ HB.out).mono ?_
      rintro e w3 ⟨rfl, hb⟩
      replace B1 := Lib.hid (B1.out.keep hb)
      replace B2 := Lib.hid (B2.out.keep hb)
      replace HB := Lib.hid (keepB HB.out hb)
      replace HWM := Lib.hid (keepC hb HWM.out)
      have hq1 := B1.out.lt
      have hq2 := B2.out.lt
      clear c0 c1 hb x0 B0 CR i1
      go_upto_region 9 with fail
      refine at_worldQ (fun v => Below w3.heap.size w3 v ∧ BK v w3.heap.size [.int .i64 lo1, .int .i64 lo2] ∧ BK v (w3.heap.size + 1) [.int .i64 hi1, .int .i64 hi2]) ?_ (fun U1 hS => ?_)
      · refine ⟨below_al (below_al (Below.refl _ _) _) _, ?_, ?_⟩
        · first | exact (BK.new w3 [.int .i64 lo1, .int .i64 lo2] 31).al _
        · first | exact bkAt5 (BK.new _ [.int .i64 hi1, .int .i64 hi2] 31) (by simp only [World.size_alloc])
      obtain ⟨hb, hL, hH⟩ := hS
      replace B1 := Lib.hid (B1.out.keep hb)
      replace B2 := Lib.hid (B2.out.keep hb)
      replace HB := Lib.hid (keepB HB.out hb)
      have BL := Lib.hid hL
      have BH := Lib.hid hH
      have x0 := keepC hb HWM.out
      clear hb hL hH HWM
      go_wp2_with fail
      refine (CF.out _).mono ?_
      rintro e w4 ⟨rfl, hb⟩
      replace B1 := Lib.hid (B1.out.keep hb)
      replace B2 := Lib.hid (B2.out.keep hb)
      replace HB := Lib.hid (keepB HB.out hb)
      replace BL := Lib.hid (BL.out.keep hb)
      replace BH := Lib.hid (BH.out.keep hb)
      have HQ5 := Lib.hid BL.out.lt
      clear hb x0 CF i2
      go_upto_region 10 with fail
      refine at_worldQ (fun v => Below w4.heap.size w4 v ∧ BK v w4.heap.size [.int .i64 va1, .int .i64 va2]) ⟨below_al (Below.refl _ _) _, BK.new _ _ _⟩ (fun U2 hS => ?_)
      obtain ⟨hb, hV⟩ := hS
      replace B1 := Lib.hid (B1.out.keep hb)
      replace B2 := Lib.hid (B2.out.keep hb)
      replace HB := Lib.hid (keepB HB.out hb)
      replace BL := Lib.hid (BL.out.keep hb)
      replace BH := Lib.hid (BH.out.keep hb)
      have BV := Lib.hid hV
      clear hb hV
      have g0 := BV.out.c 0 rfl
      have g1 := BV.out.c 1 rfl
      have h0 := BH.out.c 0 rfl
      have h1 := BH.out.c 1 rfl
      go_wp2_with fail
      refine (CS1.out _).mono ?_
      rintro e w5 ⟨rfl, hb⟩
      replace B1 := Lib.hid (B1.out.keep hb)
      replace B2 := Lib.hid (B2.out.keep hb)
      replace HB := Lib.hid (keepB HB.out hb)
      replace BL := Lib.hid (BL.out.keep hb)
      replace BV := Lib.hid (BV.out.keep hb)
      clear hb g0 g1 h0 h1 BH CS1
      have z0 := B1.out.c 0 rfl
      have z1 := B1.out.c 1 rfl
      have f0 := B1.out.f 0 rfl
      have f1 := B1.out.f 1 rfl
      go_upto_region 11 with fail
      have hq3 := BL.out.lt
      have hq4 := BV.out.lt
      have hq5 : w3.heap.size < w4.heap.size := HQ5.out
      refine at_worldQ (fun v => Below w.heap.size w v ∧ BK v (w.heap.size + 1) [.int .i64 x1, .int .i64 x2] ∧ BK v (w.heap.size + 1 + 1) [.int .i64 0, .int .i64 0] ∧ BK v w4.heap.size [.int .i64 va1, .int .i64 va2] ∧ BK v w3.heap.size [.int .i64 lo1, .int .i64 lo2]) ⟨below_set (below_set HB.out (Nat.le_succ _) _) (Nat.le_succ _) _, (B1.out.set 0 _).set 1 _, (B2.out.far (by omega) 0 _).far (by omega) 1 _, (BV.out.far (by omega) 0 _).far (by omega) 1 _, (BL.out.far (by omega) 0 _).far (by omega) 1 _⟩ (fun U3 hS => ?_)
      clear B1 B2 HB BV BL z0 z1 f0 f1 hq3 hq4
      obtain ⟨hb, h1, h2, h3, h4⟩ := hS
      have HB := Lib.hid hb
      have B1 := Lib.hid h1
      have B2 := Lib.hid h2
      have g0 := h3.c 0 rfl
      have g1 := h3.c 1 rfl
      have l0 := h4.c 0 rfl
      have l1 := h4.c 1 rfl
      clear hb h1 h2 h3 h4
      go_wp2_with fail
      refine (CS2.out _).mono ?_
      rintro e w6 ⟨rfl, hb⟩
      replace B1 := Lib.hid (B1.out.keep hb)
      replace B2 := Lib.hid (B2.out.keep hb)
      replace HB := Lib.hid (keepB HB.out hb)
      clear hb g0 g1 l0 l1 CS2 hq5 HQ5
      have z0 := B2.out.c 0 rfl
      have z1 := B2.out.c 1 rfl
      have f0 := B2.out.f 0 rfl
      have f1 := B2.out.f 1 rfl
      go_upto_region 12 with fail
      refine at_worldQ (fun v => Below w.heap.size w v ∧ BK v (w.heap.size + 1) [.int .i64 x1, .int .i64 x2] ∧ BK v (w.heap.size + 1 + 1) [.int .i64 y1, .int .i64 y2]) ⟨below_set (below_set HB.out (show w.heap.size ≤ w.heap.size + 1 + 1 by omega) _) (show w.heap.size ≤ w.heap.size + 1 + 1 by omega) _, (B1.out.far (by omega) 0 _).far (by omega) 1 _, (B2.out.set 0 _).set 1 _⟩ (fun U4 hS => ?_)
      clear B1 B2 HB z0 z1 f0 f1
      obtain ⟨hb, b1, b2⟩ := hS
      have HBE := Lib.hid hb
      have s1 := (b1.set 0 (.int .i64 x1)).set 1 (.int .i64 x2)
      have s2 := (b2.far (q := w.heap.size + 1) (by omega) 0 (.int .i64 x1)).far (q := w.heap.size + 1) (by omega) 1 (.int .i64 x2)
      have HT1 := Lib.hid ((s1.far (q := w.heap.size + 1 + 1) (by omega) 0 (.int .i64 y1)).far (q := w.heap.size + 1 + 1) (by omega) 1 (.int .i64 y2))
      have HT2 := Lib.hid ((s2.set 0 (.int .i64 y1)).set 1 (.int .i64 y2))
      have k1c0 := b1.c 0 rfl
      have k1f0 := b1.f 0 rfl
      have k1c1 := b1.c 1 rfl
      have k1f1 := b1.f 1 rfl
      have k2c0 := b2.c 0 rfl
      have k2f0 := b2.f 0 rfl
      have k2c1 := b2.c 1 rfl
      have k2f1 := b2.f 1 rfl
      clear b1 b2 s1 s2 hb
      go_wp2_with fail
      go_big_region
      clear k1c0 k1c1 k1f0 k1f1 k2c0 k2c1 k2f0 k2f1
      have m1c0 := HT1.out.c 0 rfl
      have m1c1 := HT1.out.c 1 rfl
      have m2c0 := HT2.out.c 0 rfl
      have m2c1 := HT2.out.c 1 rfl
      go_wp2_with fail
      exact bodyPost_ret (v := .tuple #[.agg #[.int .i64 x1, .int .i64 x2], .agg #[.int .i64 y1, .int .i64 y2], .int .i64 0]) (by simp [results, Try.results32, go_sem, m1c0, m1c1, m2c0, m2c1]) rfl ⟨rfl, Below.drew ((((HBE.out.setCell (Nat.le_succ _) _).setCell (Nat.le_succ _) _).setCell (Nat.le_trans (Nat.le_succ _) (Nat.le_succ _)) _).setCell (Nat.le_trans (Nat.le_succ _) (Nat.le_succ _)) _)⟩
    · have e1 : skV V R i = .tuple #[.agg #[.int .i64 0, .int .i64 0], .agg #[.int .i64 0, .int .i64 0], .int .i64 2] := by
        unfold skV As.skS
        rw [if_pos h0, if_neg hj]
      rw [e1]
      clear CK h0 hc h e1
      by_cases hn : i < 0
      · have d1 : decide (i < 0) = true := by rw [decide_eq_true_eq]; exact hn
        clear hn hj
        go_enter Try.func32, Try.ntmps32
        go_upto_region 1 with fail
        refine at_box3 (fun V0 hbb b0 b1 b2 hsz => ?_)
        clear hsz
        have c0 := b0.c 0 rfl
        have c1 := b0.c 1 rfl
        go_wp2_with fail
        refine (CK'.out _ hbb).mono ?_
        rintro e w1 ⟨rfl, hb1⟩
        replace c0 := keepC hb1 c0
        replace b1 := b1.keep hb1
        replace b2 := b2.keep hb1
        have HBE := Lib.hid (keepB hbb hb1)
        have bb1 := (((b1.set 0 (.int .i64 0)).set 1 (.int .i64 0)).far (q := w.heap.size + 1 + 1) (by omega) 0 (.int .i64 0)).far (q := w.heap.size + 1 + 1) (by omega) 1 (.int .i64 0)
        have bb2 := (((b2.far (q := w.heap.size + 1) (by omega) 0 (.int .i64 0)).far (q := w.heap.size + 1) (by omega) 1 (.int .i64 0)).set 0 (.int .i64 0)).set 1 (.int .i64 0)
        have z0 := b1.c 0 rfl
        have z1 := b1.c 1 rfl
        have z2 := b2.c 0 rfl
        have z3 := b2.c 1 rfl
        have f0 := b1.f 0 rfl
        have f1 := b1.f 1 rfl
        have f2 := b2.f 0 rfl
        have f3 := b2.f 1 rfl
        have r0 := bb1.c 0 rfl
        have r1 := bb1.c 1 rfl
        have r2 := bb2.c 0 rfl
        have r3 := bb2.c 1 rfl
        clear b0 b1 b2 bb1 bb2 hb1 hbb c1
        go_wp2_with fail
        exact bodyPost_ret (v := .tuple #[.agg #[.int .i64 0, .int .i64 0], .agg #[.int .i64 0, .int .i64 0], .int .i64 2]) (by simp [results, Try.results32, go_sem, r0, r1, r2, r3]) rfl ⟨rfl, (((HBE.out.setCell (Nat.le_succ _) _).setCell (Nat.le_succ _) _).setCell (Nat.le_trans (Nat.le_succ _) (Nat.le_succ _)) _).setCell (Nat.le_trans (Nat.le_succ _) (Nat.le_succ _)) _⟩
      · have d1 : decide (i < 0) = false := by rw [decide_eq_false_iff_not]; exact hn
        have d2 : decide ((V.length : Int) ≤ i) = true := by rw [decide_eq_true_eq]; omega
        clear hn hj
        go_enter Try.func32, Try.ntmps32
        go_upto_region 1 with fail
        refine at_box3 (fun V0 hbb b0 b1 b2 hsz => ?_)
        clear hsz
        have c0 := b0.c 0 rfl
        have c1 := b0.c 1 rfl
        go_wp2_with fail
        refine (CK'.out _ hbb).mono ?_
        rintro e w1 ⟨rfl, hb1⟩
        replace c0 := keepC hb1 c0
        replace b1 := b1.keep hb1
        replace b2 := b2.keep hb1
        have HBE := Lib.hid (keepB hbb hb1)
        have bb1 := (((b1.set 0 (.int .i64 0)).set 1 (.int .i64 0)).far (q := w.heap.size + 1 + 1) (by omega) 0 (.int .i64 0)).far (q := w.heap.size + 1 + 1) (by omega) 1 (.int .i64 0)
        have bb2 := (((b2.far (q := w.heap.size + 1) (by omega) 0 (.int .i64 0)).far (q := w.heap.size + 1) (by omega) 1 (.int .i64 0)).set 0 (.int .i64 0)).set 1 (.int .i64 0)
        have z0 := b1.c 0 rfl
        have z1 := b1.c 1 rfl
        have z2 := b2.c 0 rfl
        have z3 := b2.c 1 rfl
        have f0 := b1.f 0 rfl
        have f1 := b1.f 1 rfl
        have f2 := b2.f 0 rfl
        have f3 := b2.f 1 rfl
        have r0 := bb1.c 0 rfl
        have r1 := bb1.c 1 rfl
        have r2 := bb2.c 0 rfl
        have r3 := bb2.c 1 rfl
        clear b0 b1 b2 bb1 bb2 hb1 hbb c1
        go_wp2_with fail
        exact bodyPost_ret (v := .tuple #[.agg #[.int .i64 0, .int .i64 0], .agg #[.int .i64 0, .int .i64 0], .int .i64 2]) (by simp [results, Try.results32, go_sem, r0, r1, r2, r3]) rfl ⟨rfl, (((HBE.out.setCell (Nat.le_succ _) _).setCell (Nat.le_succ _) _).setCell (Nat.le_trans (Nat.le_succ _) (Nat.le_succ _)) _).setCell (Nat.le_trans (Nat.le_succ _) (Nat.le_succ _)) _⟩
  · have e1 : skV V R i = .tuple #[.agg #[.int .i64 0, .int .i64 0], .agg #[.int .i64 0, .int .i64 0], .int .i64 (As.rchk V R)] := by
      unfold skV As.skS
      rw [if_neg h2]
    rw [e1]
    generalize As.rchk V R = c at *
    have CK' := Lib.hid CK
    clear CK h2 h e1
    go_enter Try.func32, Try.ntmps32
    go_upto_region 1 with fail
    refine at_box3 (fun V0 hbb b0 b1 b2 hsz => ?_)
    clear hsz
    have c0 := b0.c 0 rfl
    have c1 := b0.c 1 rfl
    go_wp2_with fail
    refine (CK'.out _ hbb).mono ?_
    rintro e w1 ⟨rfl, hb1⟩
    replace c0 := keepC hb1 c0
    replace b1 := b1.keep hb1
    replace b2 := b2.keep hb1
    have HBE := Lib.hid (keepB hbb hb1)
    have bb1 := (((b1.set 0 (.int .i64 0)).set 1 (.int .i64 0)).far (q := w.heap.size + 1 + 1) (by omega) 0 (.int .i64 0)).far (q := w.heap.size + 1 + 1) (by omega) 1 (.int .i64 0)
    have bb2 := (((b2.far (q := w.heap.size + 1) (by omega) 0 (.int .i64 0)).far (q := w.heap.size + 1) (by omega) 1 (.int .i64 0)).set 0 (.int .i64 0)).set 1 (.int .i64 0)
    have z0 := b1.c 0 rfl
    have z1 := b1.c 1 rfl
    have z2 := b2.c 0 rfl
    have z3 := b2.c 1 rfl
    have f0 := b1.f 0 rfl
    have f1 := b1.f 1 rfl
    have f2 := b2.f 0 rfl
    have f3 := b2.f 1 rfl
    have r0 := bb1.c 0 rfl
    have r1 := bb1.c 1 rfl
    have r2 := bb2.c 0 rfl
    have r3 := bb2.c 1 rfl
    clear b0 b1 b2 bb1 bb2 hb1 hbb c1
    go_wp2_with fail
    exact bodyPost_ret (v := .tuple #[.agg #[.int .i64 0, .int .i64 0], .agg #[.int .i64 0, .int .i64 0], .int .i64 c]) (by simp [results, Try.results32, go_sem, r0, r1, r2, r3]) rfl ⟨rfl, (((HBE.out.setCell (Nat.le_succ _) _).setCell (Nat.le_succ _) _).setCell (Nat.le_trans (Nat.le_succ _) (Nat.le_succ _)) _).setCell (Nat.le_trans (Nat.le_succ _) (Nat.le_succ _)) _⟩
end Go.Proofs.Ytncmffhoodfhjaa

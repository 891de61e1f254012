/- What PieceSums uses: sums of lengths that may have no ratio, and lengths of four pieces. Package piece's Worth of pieces that lie in a cake; the reference's Within. The reference's Within; the worths of four pieces. -/
import Derived.Test.YtomokdepndclpaaQg
import Derived.Test.YtomokdepndclpaaValue
import Derived.Test.YtomokdepndclpaaPoint
namespace Go.Proofs.Ytomokdepndclpaa
open Go.RowKit
namespace Pc
theorem ofQ_val {r : Rat} (h : (Rp.ofQ r).2.2 = 0) : Rp.Ok (Rp.ofQ r).1 (Rp.ofQ r).2.1 ∧ Rp.q (Rp.ofQ r).1 (Rp.ofQ r).2.1 = r := by
  unfold Rp.ofQ Rp.low at h ⊢
  split at h
  · rename_i hh
    rw [if_pos hh]
    refine ⟨?_, Rp.q_self r⟩
    show Rp.Ok r.num r.den
    have hd := r.den_pos
    have hr := r.reduced
    refine ⟨by omega, by omega, by omega, by omega, ?_⟩
    simpa using hr
  · simp at h
theorem both_ok {n d m c : Int} (h : Rp.Ok n d) (k : Rp.Ok m c) : Rp.both n d m c = 0 := by unfold Rp.both Rp.chk; rw [if_pos h, if_pos k]
theorem addS_ok {n d m c : Int} (h : Rp.Ok n d) (k : Rp.Ok m c) : Rp.addS n d m c = Rp.ofQ (Rp.q n d + Rp.q m c) := by unfold Rp.addS; rw [if_pos (both_ok h k)]; rfl
theorem subS_ok {n d m c : Int} (h : Rp.Ok n d) (k : Rp.Ok m c) : Rp.subS n d m c = Rp.ofQ (Rp.q n d - Rp.q m c) := by unfold Rp.subS; rw [if_pos (both_ok h k)]
theorem sumF_val {mf : Rat × Rat → Int × Int × Int} {g : Rat → Rat} : ∀ {L : List (Rat × Rat)} {a b : Int}, (∀ s ∈ L, (mf s).2.2 = 0 → Rp.Ok (mf s).1 (mf s).2.1 ∧ Rp.q (mf s).1 (mf s).2.1 = g s.2 - g s.1) → Rp.Ok a b → (sumF mf L a b).2.2 = 0 →
    Rp.Ok (sumF mf L a b).1 (sumF mf L a b).2.1 ∧ Rp.q (sumF mf L a b).1 (sumF mf L a b).2.1 = Rp.q a b + sumG g L
  | [], a, b, _, ho, _ => ⟨ho, by simp [sumF, sumG]; grind⟩
  | s :: L, a, b, hm, ho, h => by
    unfold sumF at h ⊢
    by_cases h1 : (mf s).2.2 = 0
    · rw [if_pos h1] at h ⊢
      obtain ⟨m1, m2⟩ := hm s (by simp) h1
      rw [addS_ok ho m1] at h ⊢
      by_cases h2 : (Rp.ofQ (Rp.q a b + Rp.q (mf s).1 (mf s).2.1)).2.2 = 0
      · rw [if_pos h2] at h ⊢
        obtain ⟨o1, o2⟩ := ofQ_val h2
        obtain ⟨i1, i2⟩ := sumF_val (fun t ht => hm t (by simp [ht])) o1 h
        refine ⟨i1, ?_⟩
        rw [i2, o2, m2]
        show _ = Rp.q a b + ((g s.2 - g s.1) + sumG g L)
        grind
      · rw [if_neg h2] at h
        exact absurd h h2
    · rw [if_neg h1] at h
      exact absurd h h1
theorem lenM_val {s : Rat × Rat} (h1 : Fit s.1) (h2 : Fit s.2) (h : (lenM s).2.2 = 0) : Rp.Ok (lenM s).1 (lenM s).2.1 ∧ Rp.q (lenM s).1 (lenM s).2.1 = s.2 - s.1 := by
  have e : lenM s = Rp.ofQ (s.2 - s.1) := by unfold lenM; rw [subS_ok h2 h1, Rp.q_self, Rp.q_self]
  rw [e] at h ⊢
  exact ofQ_val h
theorem lenS_val {L : List (Rat × Rat)} (g : Good L) (h : (lenS (L.map raw)).2.2 = 0) : Rp.Ok (lenS (L.map raw)).1 (lenS (L.map raw)).2.1 ∧ Rp.q (lenS (L.map raw)).1 (lenS (L.map raw)).2.1 = sumG (fun x => x) L := by
  have e : lenS (L.map raw) = sumF lenM L 0 1 := by unfold lenS; rw [if_pos (chk_of_good g), map_toQ_raw]
  rw [e] at h ⊢
  have := sumF_val (mf := lenM) (g := fun x => x) (fun s hs h0 => by
    obtain ⟨k, hk, rfl⟩ := List.mem_iff_getElem.1 hs
    have hm := mem_ends1 hk
    rw [sat_lt hk] at hm
    exact lenM_val (g.fit _ hm.1) (g.fit _ hm.2) h0) (show Rp.Ok 0 1 by decide) h
  refine ⟨this.1, ?_⟩
  rw [this.2, show Rp.q 0 1 = 0 from rfl]
  grind
end Pc
set_option linter.unusedSimpArgs false in
set_option maxHeartbeats 8000000 in
set_option maxRecDepth 100000 in
theorem adds_any (n1 d1 n2 d2 n3 d3 n4 d4 : Int) (ok : Bool) (w : World) (h : ok = true → (Rp.Ok n1 d1 ∧ Rp.Ok n2 d2 ∧ Rp.Ok n3 d3 ∧ Rp.Ok n4 d4) ∧ Rp.q n1 d1 + Rp.q n2 d2 = Rp.q n3 d3 + Rp.q n4 d4) :
    Calls Try.prog 54 #[.agg #[.int .i64 n1, .int .i64 d1, .int .i64 n2, .int .i64 d2, .int .i64 n3, .int .i64 d3, .int .i64 n4, .int .i64 d4], .bool ok] w fun e w' => e = .returned (.bool true) ∧ Below w.heap.size w w' := by
  cases ok
  · clear h
    go_enter Try.func54, Try.ntmps54
    go_wp2_with fail
    go_ret
    exact ⟨rfl, below_al (Below.refl _ _) _⟩
  · obtain ⟨⟨o1, o2, o3, o4⟩, hs⟩ := h rfl
    have A1 := fun v => Add_any n1 d1 n2 d2 v (by have := o1.1; have := o1.2.1; have := o1.2.2.1; have := o1.2.2.2.1; omega) (by have := o1.2.2.2.1; omega) (by have := o1.1; omega) (by have := o1.2.1; omega) (by have := o2.2.2.1; omega) (by have := o2.2.2.2.1; omega) (by have := o2.1; omega) (by have := o2.2.1; omega)
    have A2 := fun v => Add_any n3 d3 n4 d4 v (by have := o3.2.2.1; omega) (by have := o3.2.2.2.1; omega) (by have := o3.1; omega) (by have := o3.2.1; omega) (by have := o4.2.2.1; omega) (by have := o4.2.2.2.1; omega) (by have := o4.1; omega) (by have := o4.2.1; omega)
    rw [Pc.addS_ok o1 o2, hs] at A1
    rw [Pc.addS_ok o3 o4] at A2
    clear o1 o2 o3 o4 hs h
    generalize Rp.ofQ (Rp.q n3 d3 + Rp.q n4 d4) = T at *
    obtain ⟨T1, T2, T3⟩ := T
    dsimp only at A1 A2
    have X1 := Lib.hid A1
    have X2 := Lib.hid A2
    clear A1 A2
    go_enter Try.func54, Try.ntmps54
    go_upto_region 3 with fail
    refine at_worldQ (fun v => Below w.heap.size w v ∧ BK v w.heap.size [.int .i64 n1, .int .i64 d1, .int .i64 n2, .int .i64 d2, .int .i64 n3, .int .i64 d3, .int .i64 n4, .int .i64 d4]) ⟨below_al (Below.refl _ _) _, BK.new w [.int .i64 n1, .int .i64 d1, .int .i64 n2, .int .i64 d2, .int .i64 n3, .int .i64 d3, .int .i64 n4, .int .i64 d4] _⟩ (fun V hS => ?_)
    obtain ⟨hbb, B0⟩ := hS
    have c0 := B0.c 0 rfl
    have c1 := B0.c 1 rfl
    have c2 := B0.c 2 rfl
    have c3 := B0.c 3 rfl
    have c4 := B0.c 4 rfl
    have c5 := B0.c 5 rfl
    have c6 := B0.c 6 rfl
    have c7 := B0.c 7 rfl
    go_wp2_with fail
    refine (X1.out _).mono ?_
    rintro e w1 ⟨rfl, hb1⟩
    replace hbb := keepB hbb hb1
    replace B0 := B0.keep hb1
    clear hb1 c0 c1 c2 c3 c4 c5 c6 c7
    go_upto_region 4 with fail
    refine at_worldQ (fun v => Below w.heap.size w v ∧ BK v w.heap.size [.int .i64 n1, .int .i64 d1, .int .i64 n2, .int .i64 d2, .int .i64 n3, .int .i64 d3, .int .i64 n4, .int .i64 d4] ∧ BK v w1.heap.size [.int .i64 T1, .int .i64 T2]) ⟨below_al hbb _, B0.al _, BK.new w1 [.int .i64 T1, .int .i64 T2] _⟩ (fun V4 hS => ?_)
    clear hbb B0
    obtain ⟨hbb, B0, B5⟩ := hS
    have c0 := B0.c 0 rfl
    have c1 := B0.c 1 rfl
    have c2 := B0.c 2 rfl
    have c3 := B0.c 3 rfl
    have c4 := B0.c 4 rfl
    have c5 := B0.c 5 rfl
    have c6 := B0.c 6 rfl
    have c7 := B0.c 7 rfl
    generalize w1.heap.size = P5 at *
    go_wp2_with fail
    refine (X2.out _).mono ?_
    rintro e w2 ⟨rfl, hb1⟩
    replace hbb := keepB hbb hb1
    replace B5 := B5.keep hb1
    clear hb1 B0 c0 c1 c2 c3 c4 c5 c6 c7
    go_upto_region 5 with fail
    refine at_worldQ (fun v => Below w.heap.size w v ∧ BK v P5 [.int .i64 T1, .int .i64 T2] ∧ BK v w2.heap.size [.int .i64 T1, .int .i64 T2]) ⟨below_al hbb _, B5.al _, BK.new w2 [.int .i64 T1, .int .i64 T2] _⟩ (fun V5 hS => ?_)
    clear hbb B5
    obtain ⟨hbb, B5, B7⟩ := hS
    generalize w2.heap.size = P7 at *
    have p0 := B5.c 0 rfl
    have p1 := B5.c 1 rfl
    have q0 := B7.c 0 rfl
    have q1 := B7.c 1 rfl
    by_cases hT : T3 = 0
    · subst hT
      have e0 : ((0 : Int) != 0) = false := rfl
      go_wp2_with fail
      go_ret
      exact ⟨by first | rfl | simp, hbb⟩
    · have e0 : (T3 != 0) = true := by rw [bne_iff_ne]; exact hT
      go_wp2_with fail
      go_ret
      exact ⟨by first | rfl | simp, hbb⟩

set_option linter.unusedSimpArgs false in
set_option maxHeartbeats 8000000 in
set_option maxRecDepth 100000 in
theorem lengths_any (A B U M : Option Addr) (ca cb cu cm : Nat) (xs ys us ms : List Raw) (w : World) (ha : IsS w A xs) (hb : IsS w B ys) (hu : IsS w U us) (hm : IsS w M ms) :
    Calls Try.prog 55 #[.slice A xs.length ca, .slice B ys.length cb, .slice U us.length cu, .slice M ms.length cm] w fun e w' => e = .returned (.tuple #[.agg #[.int .i64 (Pc.lenS xs).1, .int .i64 (Pc.lenS xs).2.1, .int .i64 (Pc.lenS ys).1, .int .i64 (Pc.lenS ys).2.1, .int .i64 (Pc.lenS us).1, .int .i64 (Pc.lenS us).2.1, .int .i64 (Pc.lenS ms).1, .int .i64 (Pc.lenS ms).2.1], .bool (decide ((Pc.lenS xs).2.2 = 0 ∧ (Pc.lenS ys).2.2 = 0 ∧ (Pc.lenS us).2.2 = 0 ∧ (Pc.lenS ms).2.2 = 0))]) ∧ Below w.heap.size w w' := by
  have l1 := fun v (hv : Below w.heap.size w v) => pLength_any A ca xs v (ha.keep hv)
  have l2 := fun v (hv : Below w.heap.size w v) => pLength_any B cb ys v (hb.keep hv)
  have l3 := fun v (hv : Below w.heap.size w v) => pLength_any U cu us v (hu.keep hv)
  have l4 := fun v (hv : Below w.heap.size w v) => pLength_any M cm ms v (hm.keep hv)
  generalize Pc.lenS xs = R1 at *
  obtain ⟨a1, b1, e1⟩ := R1
  dsimp only at l1 ⊢
  have L1 := Lib.hid l1
  generalize Pc.lenS ys = R2 at *
  obtain ⟨a2, b2, e2⟩ := R2
  dsimp only at l2 ⊢
  have L2 := Lib.hid l2
  generalize Pc.lenS us = R3 at *
  obtain ⟨a3, b3, e3⟩ := R3
  dsimp only at l3 ⊢
  have L3 := Lib.hid l3
  generalize Pc.lenS ms = R4 at *
  obtain ⟨a4, b4, e4⟩ := R4
  dsimp only at l4 ⊢
  have L4 := Lib.hid l4
  clear l1 l2 l3 l4 ha hb hu hm
  go_enter Try.func55, Try.ntmps55
  go_upto_region 1 with fail
  refine at_worldQ (fun v => Below w.heap.size w v ∧ BK v w.heap.size [.int .i64 0, .int .i64 0, .int .i64 0, .int .i64 0, .int .i64 0, .int .i64 0, .int .i64 0, .int .i64 0]) ⟨below_al (Below.refl _ _) _, BK.new w [.int .i64 0, .int .i64 0, .int .i64 0, .int .i64 0, .int .i64 0, .int .i64 0, .int .i64 0, .int .i64 0] _⟩ (fun V hS => ?_)
  obtain ⟨hbb, B0⟩ := hS
  go_wp2_with fail
  refine (L1.out _ hbb).mono ?_
  rintro e w1 ⟨rfl, hb1⟩
  replace hbb := keepB hbb hb1
  replace B0 := B0.keep hb1
  clear hb1
  go_upto_region 2 with fail
  refine at_worldQ (fun v => Below w.heap.size w v ∧ BK v w.heap.size [.int .i64 0, .int .i64 0, .int .i64 0, .int .i64 0, .int .i64 0, .int .i64 0, .int .i64 0, .int .i64 0] ∧ BK v w1.heap.size [.int .i64 a1, .int .i64 b1]) ⟨below_al hbb _, B0.al _, BK.new w1 [.int .i64 a1, .int .i64 b1] _⟩ (fun V1 hS => ?_)
  clear hbb B0
  obtain ⟨hbb, B0, B1⟩ := hS
  have hP1 := hbb.size
  generalize w1.heap.size = P1 at *
  go_wp2_with fail
  refine (L2.out _ hbb).mono ?_
  rintro e w2 ⟨rfl, hb1⟩
  replace hbb := keepB hbb hb1
  replace B0 := B0.keep hb1
  replace B1 := B1.keep hb1
  clear hb1
  go_upto_region 3 with fail
  refine at_worldQ (fun v => Below w.heap.size w v ∧ BK v w.heap.size [.int .i64 0, .int .i64 0, .int .i64 0, .int .i64 0, .int .i64 0, .int .i64 0, .int .i64 0, .int .i64 0] ∧ BK v P1 [.int .i64 a1, .int .i64 b1] ∧ BK v w2.heap.size [.int .i64 a2, .int .i64 b2]) ⟨below_al hbb _, B0.al _, B1.al _, BK.new w2 [.int .i64 a2, .int .i64 b2] _⟩ (fun V2 hS => ?_)
  clear hbb B0 B1
  obtain ⟨hbb, B0, B1, B2⟩ := hS
  have hP2 := hbb.size
  generalize w2.heap.size = P2 at *
  go_wp2_with fail
  refine (L3.out _ hbb).mono ?_
  rintro e w3 ⟨rfl, hb1⟩
  replace hbb := keepB hbb hb1
  replace B0 := B0.keep hb1
  replace B1 := B1.keep hb1
  replace B2 := B2.keep hb1
  clear hb1
  go_upto_region 4 with fail
  refine at_worldQ (fun v => Below w.heap.size w v ∧ BK v w.heap.size [.int .i64 0, .int .i64 0, .int .i64 0, .int .i64 0, .int .i64 0, .int .i64 0, .int .i64 0, .int .i64 0] ∧ BK v P1 [.int .i64 a1, .int .i64 b1] ∧ BK v P2 [.int .i64 a2, .int .i64 b2] ∧ BK v w3.heap.size [.int .i64 a3, .int .i64 b3]) ⟨below_al hbb _, B0.al _, B1.al _, B2.al _, BK.new w3 [.int .i64 a3, .int .i64 b3] _⟩ (fun V3 hS => ?_)
  clear hbb B0 B1 B2
  obtain ⟨hbb, B0, B1, B2, B3⟩ := hS
  have hP3 := hbb.size
  generalize w3.heap.size = P3 at *
  go_wp2_with fail
  refine (L4.out _ hbb).mono ?_
  rintro e w4 ⟨rfl, hb1⟩
  replace hbb := keepB hbb hb1
  replace B0 := B0.keep hb1
  replace B1 := B1.keep hb1
  replace B2 := B2.keep hb1
  replace B3 := B3.keep hb1
  clear hb1
  go_upto_region 5 with fail
  refine at_worldQ (fun v => Below w.heap.size w v ∧ BK v w.heap.size [.int .i64 0, .int .i64 0, .int .i64 0, .int .i64 0, .int .i64 0, .int .i64 0, .int .i64 0, .int .i64 0] ∧ BK v P1 [.int .i64 a1, .int .i64 b1] ∧ BK v P2 [.int .i64 a2, .int .i64 b2] ∧ BK v P3 [.int .i64 a3, .int .i64 b3] ∧ BK v w4.heap.size [.int .i64 a4, .int .i64 b4]) ⟨below_al hbb _, B0.al _, B1.al _, B2.al _, B3.al _, BK.new w4 [.int .i64 a4, .int .i64 b4] _⟩ (fun V4 hS => ?_)
  clear hbb B0 B1 B2 B3
  obtain ⟨hbb, B0, B1, B2, B3, B4⟩ := hS
  have hP4 := hbb.size
  generalize w4.heap.size = P4 at *
  have c1 := B1.c 0 rfl
  have d1 := B1.c 1 rfl
  have c2 := B2.c 0 rfl
  have d2 := B2.c 1 rfl
  have c3 := B3.c 0 rfl
  have d3 := B3.c 1 rfl
  have c4 := B4.c 0 rfl
  have d4 := B4.c 1 rfl
  have r0 := B0.c 0 rfl
  have f0 := B0.f 0 rfl
  have r1 := B0.c 1 rfl
  have f1 := B0.f 1 rfl
  have r2 := B0.c 2 rfl
  have f2 := B0.f 2 rfl
  have r3 := B0.c 3 rfl
  have f3 := B0.f 3 rfl
  have r4 := B0.c 4 rfl
  have f4 := B0.f 4 rfl
  have r5 := B0.c 5 rfl
  have f5 := B0.f 5 rfl
  have r6 := B0.c 6 rfl
  have f6 := B0.f 6 rfl
  have r7 := B0.c 7 rfl
  have f7 := B0.f 7 rfl
  by_cases h1 : e1 = 0
  · have g1 : (e1 == 0) = true := by rw [h1]; rfl
    by_cases h2 : e2 = 0
    · have g2 : (e2 == 0) = true := by rw [h2]; rfl
      by_cases h3 : e3 = 0
      · have g3 : (e3 == 0) = true := by rw [h3]; rfl
        by_cases h4 : e4 = 0
        · have g4 : (e4 == 0) = true := by rw [h4]; rfl
          have hok : decide (e1 = 0 ∧ e2 = 0 ∧ e3 = 0 ∧ e4 = 0) = true := decide_eq_true ⟨h1, h2, h3, h4⟩
          clear h1 h2 h3 h4
          go_wp2_with fail
          exact bodyPost_ret (v := .tuple #[.agg #[.int .i64 a1, .int .i64 b1, .int .i64 a2, .int .i64 b2, .int .i64 a3, .int .i64 b3, .int .i64 a4, .int .i64 b4], .bool true]) (by simp [results, Try.results55, go_sem, r0, r1, r2, r3, r4, r5, r6, r7]) rfl ⟨by rw [hok], (below_set (below_set (below_set (below_set (below_set (below_set (below_set (below_set hbb (Nat.le_refl _) _) (Nat.le_refl _) _) (Nat.le_refl _) _) (Nat.le_refl _) _) (Nat.le_refl _) _) (Nat.le_refl _) _) (Nat.le_refl _) _) (Nat.le_refl _) _)⟩
        · have g4 : (e4 == 0) = false := by rw [beq_eq_false_iff_ne]; exact h4
          have hok : decide (e1 = 0 ∧ e2 = 0 ∧ e3 = 0 ∧ e4 = 0) = false := decide_eq_false fun h => h4 h.2.2.2
          clear h1 h2 h3 h4
          go_wp2_with fail
          exact bodyPost_ret (v := .tuple #[.agg #[.int .i64 a1, .int .i64 b1, .int .i64 a2, .int .i64 b2, .int .i64 a3, .int .i64 b3, .int .i64 a4, .int .i64 b4], .bool false]) (by simp [results, Try.results55, go_sem, r0, r1, r2, r3, r4, r5, r6, r7]) rfl ⟨by rw [hok], (below_set (below_set (below_set (below_set (below_set (below_set (below_set (below_set hbb (Nat.le_refl _) _) (Nat.le_refl _) _) (Nat.le_refl _) _) (Nat.le_refl _) _) (Nat.le_refl _) _) (Nat.le_refl _) _) (Nat.le_refl _) _) (Nat.le_refl _) _)⟩
      · have g3 : (e3 == 0) = false := by rw [beq_eq_false_iff_ne]; exact h3
        have hok : decide (e1 = 0 ∧ e2 = 0 ∧ e3 = 0 ∧ e4 = 0) = false := decide_eq_false fun h => h3 h.2.2.1
        clear h1 h2 h3
        go_wp2_with fail
        exact bodyPost_ret (v := .tuple #[.agg #[.int .i64 a1, .int .i64 b1, .int .i64 a2, .int .i64 b2, .int .i64 a3, .int .i64 b3, .int .i64 a4, .int .i64 b4], .bool false]) (by simp [results, Try.results55, go_sem, r0, r1, r2, r3, r4, r5, r6, r7]) rfl ⟨by rw [hok], (below_set (below_set (below_set (below_set (below_set (below_set (below_set (below_set hbb (Nat.le_refl _) _) (Nat.le_refl _) _) (Nat.le_refl _) _) (Nat.le_refl _) _) (Nat.le_refl _) _) (Nat.le_refl _) _) (Nat.le_refl _) _) (Nat.le_refl _) _)⟩
    · have g2 : (e2 == 0) = false := by rw [beq_eq_false_iff_ne]; exact h2
      have hok : decide (e1 = 0 ∧ e2 = 0 ∧ e3 = 0 ∧ e4 = 0) = false := decide_eq_false fun h => h2 h.2.1
      clear h1 h2
      go_wp2_with fail
      exact bodyPost_ret (v := .tuple #[.agg #[.int .i64 a1, .int .i64 b1, .int .i64 a2, .int .i64 b2, .int .i64 a3, .int .i64 b3, .int .i64 a4, .int .i64 b4], .bool false]) (by simp [results, Try.results55, go_sem, r0, r1, r2, r3, r4, r5, r6, r7]) rfl ⟨by rw [hok], (below_set (below_set (below_set (below_set (below_set (below_set (below_set (below_set hbb (Nat.le_refl _) _) (Nat.le_refl _) _) (Nat.le_refl _) _) (Nat.le_refl _) _) (Nat.le_refl _) _) (Nat.le_refl _) _) (Nat.le_refl _) _) (Nat.le_refl _) _)⟩
  · have g1 : (e1 == 0) = false := by rw [beq_eq_false_iff_ne]; exact h1
    have hok : decide (e1 = 0 ∧ e2 = 0 ∧ e3 = 0 ∧ e4 = 0) = false := decide_eq_false fun h => h1 h.1
    clear h1
    go_wp2_with fail
    exact bodyPost_ret (v := .tuple #[.agg #[.int .i64 a1, .int .i64 b1, .int .i64 a2, .int .i64 b2, .int .i64 a3, .int .i64 b3, .int .i64 a4, .int .i64 b4], .bool false]) (by simp [results, Try.results55, go_sem, r0, r1, r2, r3, r4, r5, r6, r7]) rfl ⟨by rw [hok], (below_set (below_set (below_set (below_set (below_set (below_set (below_set (below_set hbb (Nat.le_refl _) _) (Nat.le_refl _) _) (Nat.le_refl _) _) (Nat.le_refl _) _) (Nat.le_refl _) _) (Nat.le_refl _) _) (Nat.le_refl _) _) (Nat.le_refl _) _)⟩
end Go.Proofs.Ytomokdepndclpaa
namespace Go.Proofs.Ytomokdepndclpaa
open Go.RowKit
set_option linter.unusedSimpArgs false in
set_option maxHeartbeats 8000000 in
set_option maxRecDepth 100000 in
theorem sum1_any (g : FuncId) (cv : Value) (mf : Rat × Rat → Int × Int × Int) (A : Option Addr) (cap : Nat) (L : List (Rat × Rat)) (w : World) (hl : L.length ≤ 1000) (h : IsS w A (L.map Pc.raw))
    (hM : ∀ s ∈ L, ∀ v, Below w.heap.size w v → Calls Try.prog g #[.agg #[.int .i64 s.1.num, .int .i64 (s.1.den : Int), .int .i64 s.2.num, .int .i64 (s.2.den : Int)], cv] v fun e w' => e = .returned (.tuple #[.agg #[.int .i64 (mf s).1, .int .i64 (mf s).2.1], .int .i64 (mf s).2.2]) ∧ Below v.heap.size v w')
    (hE : ∀ (x : Value) (v : World), Sem.run Try.prog (callFunc g #[x, cv]) v = .ok (.enter g #[x, cv]) v) (hB : ∀ s ∈ L, I64 (mf s).1 ∧ I64 (mf s).2.1) :
    Calls Try.prog 101 #[.slice A L.length cap, .func (.func g) #[] #[cv]] w fun e w' => e = .returned (.tuple #[.agg #[.int .i64 (Pc.sumF mf L 0 1).1, .int .i64 (Pc.sumF mf L 0 1).2.1], .int .i64 (Pc.sumF mf L 0 1).2.2]) ∧ Below w.heap.size w w' := by
  obtain ⟨b, off, hA, hc⟩ := h.cell
  have HC := Lib.hid hc
  have HA := Lib.hid hA
  have HMM := Lib.hid (show ∀ k, k < L.length → (∀ v, Below w.heap.size w v → Calls Try.prog g #[.agg #[.int .i64 (Pc.sat L k).1.num, .int .i64 ((Pc.sat L k).1.den : Int), .int .i64 (Pc.sat L k).2.num, .int .i64 ((Pc.sat L k).2.den : Int)], cv] v fun e w' => e = .returned (.tuple #[.agg #[.int .i64 (mf (Pc.sat L k)).1, .int .i64 (mf (Pc.sat L k)).2.1], .int .i64 (mf (Pc.sat L k)).2.2]) ∧ Below v.heap.size v w') ∧ I64 (mf (Pc.sat L k)).1 ∧ I64 (mf (Pc.sat L k)).2.1 from fun k hk => by
    rw [Pc.sat_lt hk]
    exact ⟨hM _ (List.getElem_mem hk), hB _ (List.getElem_mem hk)⟩)
  have HE := Lib.hid hE
  obtain ⟨R, hR⟩ : ∃ R, Pc.sumF mf L 0 1 = R := ⟨_, rfl⟩
  rw [hR]
  obtain ⟨R1, R2, R3⟩ := R
  dsimp only
  have HR := Lib.hid hR
  clear h hc hA hM hE hB hR
  go_enter Try.func101, Try.ntmps101
  go_upto_region 2 with fail
  refine at_worldQ (fun v => Below w.heap.size w v ∧ BK v w.heap.size [.int .i64 0, .int .i64 0] ∧ BK v (w.heap.size + 1) [.int .i64 0, .int .i64 1]) ⟨below_al (below_al (Below.refl _ _) _) _, (BK.new w [.int .i64 0, .int .i64 0] _).al _, by have b := BK.new (w.alloc (.cells #[.int .i64 0, .int .i64 0] 30)) [.int .i64 0, .int .i64 1] 30; simpa only [World.size_alloc] using b⟩ (fun V hS => ?_)
  go_wp2_with fail
  go_loopw [8, 9, 10, 14] (fun _ _ _ i W => ∃ (k : Nat) (a c : Int), k ≤ L.length ∧ i = .int .i64 k ∧ Pc.sumF mf (L.drop k) a c = (R1, R2, R3) ∧ (I64 a ∧ I64 c) ∧ Below w.heap.size w W ∧ BK W w.heap.size [.int .i64 0, .int .i64 0] ∧ BK W (w.heap.size + 1) [.int .i64 a, .int .i64 c]) (fun _ _ _ i _ => L.length - (intOf i).toNat)
  case atStart => exact ⟨0, 0, 1, Nat.zero_le _, rfl, HR.out, ⟨⟨by decide, by decide⟩, by decide, by decide⟩, hS.1, hS.2.1, hS.2.2⟩
  case round =>
    clear hS HR
    obtain ⟨k, a, c, hk, rfl, hsum, ⟨ha, hcc⟩, hbb, B0, B1⟩ := hrel
    by_cases hlt : k < L.length
    · have hA' := HA.out (by omega)
      subst hA'
      obtain ⟨s, hs⟩ : ∃ s, Pc.sat L k = s := ⟨_, rfl⟩
      have c0 := keepC hbb (HC.out k hlt).1
      have c1 := keepC hbb (HC.out k hlt).2.1
      have c2 := keepC hbb (HC.out k hlt).2.2.1
      have c3 := keepC hbb (HC.out k hlt).2.2.2
      obtain ⟨hm, hm1, hm2⟩ := HMM.out k hlt
      have hdr : L.drop k = s :: L.drop (k + 1) := by rw [List.drop_eq_getElem_cons hlt, ← Pc.sat_lt hlt, hs]
      rw [hdr] at hsum
      rw [hs] at c0 c1 c2 c3 hm hm1 hm2
      unfold Pc.sumF at hsum
      have hcf := HE.out (.agg #[.int .i64 s.1.num, .int .i64 (s.1.den : Int), .int .i64 s.2.num, .int .i64 (s.2.den : Int)])
      have ad := fun v => Add_any a c (mf s).1 (mf s).2.1 v ha.1 ha.2 hcc.1 hcc.2 hm1.1 hm1.2 hm2.1 hm2.2
      have hab := Pc.addS_bd a c (mf s).1 (mf s).2.1
      generalize Rp.addS a c (mf s).1 (mf s).2.1 = T at *
      obtain ⟨T1, T2, T3⟩ := T
      generalize mf s = M at *
      obtain ⟨M1, M2, M3⟩ := M
      dsimp only at hm ad hsum hab
      have HM := Lib.hid hm
      have AD := Lib.hid ad
      have HAB := Lib.hid hab
      have HSUM := Lib.hid hsum
      clear hm ad hs hdr hm1 hm2 ha hcc hab hsum
      have i1 : (0 : Int) ≤ (k : Int) := by omega
      have i2 : (k : Int) < (L.length : Int) := by omega
      go_upto_region 5 with fail
      refine at_worldQ (fun v => Below w.heap.size w v ∧ BK v w.heap.size [.int .i64 0, .int .i64 0] ∧ BK v (w.heap.size + 1) [.int .i64 a, .int .i64 c] ∧ BK v wr.heap.size [.int .i64 s.1.num, .int .i64 (s.1.den : Int), .int .i64 s.2.num, .int .i64 (s.2.den : Int)]) ⟨below_al hbb _, B0.al _, B1.al _, BK.new wr [.int .i64 s.1.num, .int .i64 (s.1.den : Int), .int .i64 s.2.num, .int .i64 (s.2.den : Int)] _⟩ (fun V5 hS5 => ?_)
      clear hbb B0 B1 c0 c1 c2 c3
      obtain ⟨hbb, B0, B1, B8⟩ := hS5
      have p0 := B8.c 0 rfl
      have p1 := B8.c 1 rfl
      have p2 := B8.c 2 rfl
      have p3 := B8.c 3 rfl
      generalize wr.heap.size = P8 at *
      clear B8
      go_wp2_with fail
      refine (HM.out _ hbb).mono ?_
      rintro e w5 ⟨rfl, hb5⟩
      replace hbb := keepB hbb hb5
      replace B0 := B0.keep hb5
      replace B1 := B1.keep hb5
      clear hb5 HM p0 p1 p2 p3 hcf
      go_upto_region 6 with fail
      refine at_worldQ (fun v => Below w.heap.size w v ∧ BK v w.heap.size [.int .i64 0, .int .i64 0] ∧ BK v (w.heap.size + 1) [.int .i64 a, .int .i64 c] ∧ BK v w5.heap.size [.int .i64 M1, .int .i64 M2]) ⟨below_al hbb _, B0.al _, B1.al _, BK.new w5 [.int .i64 M1, .int .i64 M2] _⟩ (fun V6 hS6 => ?_)
      clear hbb B0 B1
      obtain ⟨hbb, B0, B1, B9⟩ := hS6
      generalize w5.heap.size = P9 at *
      by_cases hM3 : M3 = 0
      · subst hM3
        have e0 : ((0 : Int) == 0) = true := rfl
        have q0 := B9.c 0 rfl
        have q1 := B9.c 1 rfl
        have t0 := B1.c 0 rfl
        have t1 := B1.c 1 rfl
        go_wp2_with fail
        refine (AD.out _).mono ?_
        rintro e w7 ⟨rfl, hb7⟩
        replace hbb := keepB hbb hb7
        replace B0 := B0.keep hb7
        replace B1 := B1.keep hb7
        clear hb7 AD q0 q1 t0 t1 B9
        have t0 := B1.c 0 rfl
        have t1 := B1.c 1 rfl
        have g0 := B1.f 0 rfl
        have g1 := B1.f 1 rfl
        go_upto_region 8 with fail
        refine at_worldQ (fun v => Below w.heap.size w v ∧ BK v w.heap.size [.int .i64 0, .int .i64 0] ∧ BK v (w.heap.size + 1) [.int .i64 T1, .int .i64 T2]) ⟨below_set (below_set hbb (by omega) _) (by omega) _, (B0.far (by omega) _ _).far (by omega) _ _, (B1.set 0 _).set 1 _⟩ (fun V8 hS8 => ?_)
        clear hbb B0 B1 t0 t1 g0 g1
        obtain ⟨hbb, B0, B1⟩ := hS8
        by_cases hT : T3 = 0
        · subst hT
          have hs2 := HSUM.out
          simp only [↓reduceIte] at hs2
          have HS2 := Lib.hid hs2
          have e1 : ((0 : Int) != 0) = false := rfl
          clear hs2 HSUM
          go_wp2_with fail
          go_roundw
          case rel => exact ⟨k + 1, T1, T2, by omega, by go_num, HS2.out, HAB.out, hbb, B0, B1⟩
          case measure => simp [intOf]; omega
        · have hs2 := HSUM.out
          simp only [↓reduceIte, if_neg hT] at hs2
          have EB := Lib.hid hs2.symm
          have e1 : (T3 != 0) = true := by rw [bne_iff_ne]; exact hT
          clear hs2 HSUM hT
          have r0 := B0.c 0 rfl
          have r1 := B0.c 1 rfl
          have f0 := B0.f 0 rfl
          have f1 := B0.f 1 rfl
          go_wp2_with fail
          exact bodyPost_ret (v := .tuple #[.agg #[.int .i64 0, .int .i64 0], .int .i64 T3]) (by simp [results, Try.results101, go_sem, r0, r1]) rfl ⟨by have e := EB.out; simp only [Prod.mk.injEq] at e; obtain ⟨e1', e2', e3'⟩ := e; rw [e1', e2', e3'], below_set (below_set hbb (Nat.le_refl _) _) (Nat.le_refl _) _⟩
      · have hs2 := HSUM.out
        rw [if_neg hM3] at hs2
        have EB := Lib.hid hs2.symm
        have e0 : (M3 == 0) = false := by rw [beq_eq_false_iff_ne]; exact hM3
        have e1 : (M3 != 0) = true := by rw [bne_iff_ne]; exact hM3
        clear hs2 HSUM hM3
        have r0 := B0.c 0 rfl
        have r1 := B0.c 1 rfl
        have f0 := B0.f 0 rfl
        have f1 := B0.f 1 rfl
        go_wp2_with fail
        exact bodyPost_ret (v := .tuple #[.agg #[.int .i64 0, .int .i64 0], .int .i64 M3]) (by simp [results, Try.results101, go_sem, r0, r1]) rfl ⟨by have e := EB.out; simp only [Prod.mk.injEq] at e; obtain ⟨e1', e2', e3'⟩ := e; rw [e1', e2', e3'], below_set (below_set hbb (Nat.le_refl _) _) (Nat.le_refl _) _⟩
    · obtain rfl : k = L.length := by omega
      rw [List.drop_length] at hsum
      have EB := Lib.hid hsum
      have t0 := B1.c 0 rfl
      have t1 := B1.c 1 rfl
      have r0 := B0.c 0 rfl
      have r1 := B0.c 1 rfl
      have f0 := B0.f 0 rfl
      have f1 := B0.f 1 rfl
      clear HA HC HMM HE hsum
      go_wp2_with fail
      have e := EB.out
      unfold Pc.sumF at e
      simp only [Prod.mk.injEq] at e
      obtain ⟨rfl, rfl, rfl⟩ := e
      exact bodyPost_ret (v := .tuple #[.agg #[.int .i64 a, .int .i64 c], .int .i64 0]) (by simp [results, Try.results101, go_sem, r0, r1]) rfl ⟨rfl, below_set (below_set hbb (Nat.le_refl _) _) (Nat.le_refl _) _⟩
namespace Pc
theorem spans_of_good {L : List (Rat × Rat)} (h : Good L) : ∀ s ∈ L, s.1 < s.2 := by
  intro s hs
  obtain ⟨k, hk, rfl⟩ := List.mem_iff_getElem.1 hs
  have e := ends_at hk
  have el := ends_len L
  rw [← sat_lt hk, ← e.1, ← e.2]
  exact inc_at h.inc (by omega) (by omega)
/-- What a span is worth. -/
def wM (cuts dens : List Int) (s : Rat × Rat) : Int × Int × Int := Ck.vgo cuts dens s.1.num (s.1.den : Int) s.2.num (s.2.den : Int) dens.length
/-- A point of the cake. -/
def inC (len : Int) (r : Rat) : Bool := Ck.pt len r.num (r.den : Int)
theorem wM_bd {len : Int} {cuts dens : List Int} (hG : Ck.Good len cuts dens) {s : Rat × Rat} (h1 : Fit s.1) (h2 : Fit s.2) (h : s.1 < s.2) :
    ((wM cuts dens s).2.2 = 0 ∧ Rp.Ok (wM cuts dens s).1 (wM cuts dens s).2.1 ∧ Rp.q (wM cuts dens s).1 (wM cuts dens s).2.1 = Ck.cum cuts dens s.2 dens.length - Ck.cum cuts dens s.1 dens.length) ∨ wM cuts dens s = (0, 0, 16) := by
  have := Ck.vgo_is hG h1 h2 (by rw [Rp.q_self, Rp.q_self]; grind) dens.length (Nat.le_refl _)
  rw [Rp.q_self, Rp.q_self] at this
  exact this
theorem wM_64 {len : Int} {cuts dens : List Int} (hG : Ck.Good len cuts dens) {s : Rat × Rat} (h1 : Fit s.1) (h2 : Fit s.2) (h : s.1 < s.2) : I64 (wM cuts dens s).1 ∧ I64 (wM cuts dens s).2.1 := by
  rcases wM_bd hG h1 h2 h with ⟨_, ⟨o1, o2, o3, o4, _⟩, _⟩ | e
  · unfold I64; omega
  · rw [e]; unfold I64; dsimp only; omega
end Pc
set_option linter.unusedVariables false in
set_option maxHeartbeats 2000000 in
theorem worth1_any (len : Int) (K : Option Addr) (cuts : List Int) (ck : Nat) (Z : Option Addr) (dens : List Int) (cz : Nat) (s : Rat × Rat) (p : Nat) (w0 w : World) (h : IsCake w0 len K cuts Z dens) (hw : Below w0.heap.size w0 w) (hc : Ck.chk len cuts dens = 0) (hs1 : Pc.Fit s.1) (hs2 : Pc.Fit s.2) (i1 : Pc.inC len s.1 = true) (i2 : Pc.inC len s.2 = true) (hlt : s.1 < s.2)
    (b0 : w.cell? ⟨p, 0, none⟩ = some (.int .i64 len)) (b1 : w.cell? ⟨p, 1, none⟩ = some (.slice K cuts.length ck)) (b2 : w.cell? ⟨p, 2, none⟩ = some (.slice Z dens.length cz)) :
    Calls Try.prog 102 #[.agg #[.int .i64 s.1.num, .int .i64 (s.1.den : Int), .int .i64 s.2.num, .int .i64 (s.2.den : Int)], .pointer (some ⟨p, 0, none⟩)] w fun e w' => e = .returned (.tuple #[.agg #[.int .i64 (Pc.wM cuts dens s).1, .int .i64 (Pc.wM cuts dens s).2.1], .int .i64 (Pc.wM cuts dens s).2.2]) ∧ Below w.heap.size w w' := by
  have hv := fun v (hv : Below w0.heap.size w0 v) => value_good len K cuts ck Z dens cz s.1.num (s.1.den : Int) s.2.num (s.2.den : Int) v (h.keep hv) hc i1 i2 (by rw [Rp.q_self, Rp.q_self]; grind)
  have e : Ck.vgo cuts dens s.1.num (s.1.den : Int) s.2.num (s.2.den : Int) dens.length = Pc.wM cuts dens s := rfl
  rw [e] at hv
  clear e
  generalize Pc.wM cuts dens s = R at *
  obtain ⟨R1, R2, R3⟩ := R
  dsimp only at hv ⊢
  have HV := Lib.hid hv
  have hp := lt_of_cell b0
  clear hv h hc hs1 hs2 i1 i2 hlt
  go_enter Try.func102, Try.ntmps102
  go_upto_region 1 with fail
  refine at_worldQ (fun v => Below w.heap.size w v ∧ BK v w.heap.size [.int .i64 s.1.num, .int .i64 (s.1.den : Int), .int .i64 s.2.num, .int .i64 (s.2.den : Int)] ∧ BK v (w.heap.size + 1) [.int .i64 0, .int .i64 0] ∧ v.cell? ⟨p, 0, none⟩ = some (.int .i64 len) ∧ v.cell? ⟨p, 1, none⟩ = some (.slice K cuts.length ck) ∧ v.cell? ⟨p, 2, none⟩ = some (.slice Z dens.length cz)) ⟨below_al (below_al (Below.refl _ _) _) _, (BK.new w [.int .i64 s.1.num, .int .i64 (s.1.den : Int), .int .i64 s.2.num, .int .i64 (s.2.den : Int)] _).al _, by have b := BK.new (w.alloc (.cells #[.int .i64 s.1.num, .int .i64 (s.1.den : Int), .int .i64 s.2.num, .int .i64 (s.2.den : Int)] 51)) [.int .i64 0, .int .i64 0] 30; simpa only [World.size_alloc] using b, cell_alloc (cell_alloc b0 _) _, cell_alloc (cell_alloc b1 _) _, cell_alloc (cell_alloc b2 _) _⟩ (fun V hS => ?_)
  clear b0 b1 b2
  obtain ⟨hbb, B1, B2, b0, b1, b2⟩ := hS
  have p0 := B1.c 0 rfl
  have p1 := B1.c 1 rfl
  have p2 := B1.c 2 rfl
  have p3 := B1.c 3 rfl
  go_wp2_with fail
  refine (HV.out _ (keepB hw hbb)).mono ?_
  rintro e w1 ⟨rfl, hb1⟩
  replace hbb := keepB hbb hb1
  replace B2 := B2.keep hb1
  clear hb1 B1 p0 p1 p2 p3 b0 b1 b2
  have r0 := B2.c 0 rfl
  have r1 := B2.c 1 rfl
  have f0 := B2.f 0 rfl
  have f1 := B2.f 1 rfl
  go_wp2_with fail
  exact bodyPost_ret (v := .tuple #[.agg #[.int .i64 R1, .int .i64 R2], .int .i64 R3]) (by simp [results, Try.results102, go_sem, r0, r1]) rfl ⟨rfl, below_set (below_set hbb (by omega) _) (by omega) _⟩
set_option linter.unusedSimpArgs false in
set_option maxHeartbeats 8000000 in
set_option maxRecDepth 100000 in
theorem worth_good (len : Int) (K : Option Addr) (cuts : List Int) (ck : Nat) (Z : Option Addr) (dens : List Int) (cz : Nat) (A : Option Addr) (cap : Nat) (L : List (Rat × Rat)) (w : World) (h : IsCake w len K cuts Z dens) (hc : Ck.chk len cuts dens = 0) (gL : Pc.Good L) (hin : ∀ r ∈ Pc.ends L, Pc.inC len r = true) (hl : IsS w A (L.map Pc.raw)) :
    Calls Try.prog 38 #[.agg #[.int .i64 len, .slice K cuts.length ck, .slice Z dens.length cz], .slice A L.length cap] w fun e w' => e = .returned (.tuple #[.agg #[.int .i64 (Pc.sumF (Pc.wM cuts dens) L 0 1).1, .int .i64 (Pc.sumF (Pc.wM cuts dens) L 0 1).2.1], .int .i64 (Pc.sumF (Pc.wM cuts dens) L 0 1).2.2]) ∧ Below w.heap.size w w' := by
  have hG := Ck.chk_good hc
  have cc := fun v (hv : Below w.heap.size w v) => ckCheck_any len K cuts ck Z dens cz v (h.keep hv)
  have pc := fun v (hv : Below w.heap.size w v) => pChk_any A cap (L.map Pc.raw) v (hl.keep hv)
  rw [hc] at cc
  rw [Pc.chk_of_good gL] at pc
  rw [List.length_map] at pc
  have hsp : ∀ k, k < L.length → Pc.Fit (Pc.sat L k).1 ∧ Pc.Fit (Pc.sat L k).2 ∧ Pc.inC len (Pc.sat L k).1 = true ∧ Pc.inC len (Pc.sat L k).2 = true := fun k hk => ⟨gL.fit _ (Pc.mem_ends1 hk).1, gL.fit _ (Pc.mem_ends1 hk).2, hin _ (Pc.mem_ends1 hk).1, hin _ (Pc.mem_ends1 hk).2⟩
  have su := fun cv p v (hv : Below w.heap.size w v) (e : cv = .pointer (some ⟨p, 0, none⟩)) (hb : BK v p [.int .i64 len, .slice K cuts.length ck, .slice Z dens.length cz]) => sum1_any 102 cv (Pc.wM cuts dens) A cap L v (by have := gL.len; omega) (hl.keep hv) (fun s hs v' hv' => by
      obtain ⟨k, hk, rfl⟩ := List.mem_iff_getElem.1 hs
      have hm := hsp k hk
      rw [Pc.sat_lt hk] at hm
      subst e
      have hb' := hb.keep hv'
      exact worth1_any len K cuts ck Z dens cz _ p w v' h (keepB hv hv') hc hm.1 hm.2.1 hm.2.2.1 hm.2.2.2 (Pc.spans_of_good gL _ (List.getElem_mem hk)) (hb'.c 0 rfl) (hb'.c 1 rfl) (hb'.c 2 rfl)) (fun x v => by go_simp) (fun s hs => by
      obtain ⟨k, hk, rfl⟩ := List.mem_iff_getElem.1 hs
      have hm := hsp k hk
      rw [Pc.sat_lt hk] at hm
      exact Pc.wM_64 hG hm.1 hm.2.1 (Pc.spans_of_good gL _ (List.getElem_mem hk)))
  obtain ⟨bq, oq, hA, hcq⟩ := hl.cell
  have HC := Lib.hid hcq
  have HA := Lib.hid hA
  have HSP := Lib.hid hsp
  have hL60 : L.length ≤ 60 := gL.len
  have hl0 := hG.len0
  have hl1 := hG.len1
  generalize Pc.sumF (Pc.wM cuts dens) L 0 1 = R at *
  obtain ⟨R1, R2, R3⟩ := R
  dsimp only at su ⊢
  have CC := Lib.hid cc
  have PC := Lib.hid pc
  have SU := Lib.hid su
  clear cc pc su hcq hA hsp h hc gL hin hl hG
  go_enter Try.func38, Try.ntmps38
  go_upto_region 1 with fail
  refine at_worldQ (fun v => Below w.heap.size w v ∧ BK v w.heap.size [.int .i64 len, .slice K cuts.length ck, .slice Z dens.length cz] ∧ BK v (w.heap.size + 1) [.int .i64 0, .int .i64 0]) ⟨below_al (below_al (Below.refl _ _) _) _, (BK.new w [.int .i64 len, .slice K cuts.length ck, .slice Z dens.length cz] _).al _, by have b := BK.new (w.alloc (.cells #[.int .i64 len, .slice K cuts.length ck, .slice Z dens.length cz] 27)) [.int .i64 0, .int .i64 0] 30; simpa only [World.size_alloc] using b⟩ (fun V hS => ?_)
  obtain ⟨hbb, B2, B4⟩ := hS
  have c0 := B2.c 0 rfl
  have c1 := B2.c 1 rfl
  have c2 := B2.c 2 rfl
  go_wp2_with fail
  refine (CC.out _ hbb).mono ?_
  rintro e w1 ⟨rfl, hb1⟩
  replace hbb := keepB hbb hb1
  replace B2 := B2.keep hb1
  replace B4 := B4.keep hb1
  clear hb1 c0 c1 c2
  go_wp2_with fail
  refine (PC.out _ hbb).mono ?_
  rintro e w2 ⟨rfl, hb1⟩
  replace hbb := keepB hbb hb1
  replace B2 := B2.keep hb1
  replace B4 := B4.keep hb1
  clear hb1
  have c0 := B2.c 0 rfl
  go_upto_region 8 with fail
  refine at_worldQ (fun v => Below w.heap.size w v ∧ BK v w.heap.size [.int .i64 len, .slice K cuts.length ck, .slice Z dens.length cz] ∧ BK v (w.heap.size + 1) [.int .i64 0, .int .i64 0] ∧ BK v w2.heap.size [.int .i64 len, .int .i64 1]) ⟨below_al hbb _, B2.al _, B4.al _, BK.new w2 [.int .i64 len, .int .i64 1] _⟩ (fun V8 hS => ?_)
  clear hbb B2 B4 c0
  have hS8 := hS
  clear hS
  generalize w2.heap.size = P8 at *
  go_wp2_with fail
  go_loopw [10, 28] (fun _ t v => ∃ k : Nat, k ≤ L.length ∧ t = .int .i64 k ∧ Below w.heap.size w v ∧ BK v w.heap.size [.int .i64 len, .slice K cuts.length ck, .slice Z dens.length cz] ∧ BK v (w.heap.size + 1) [.int .i64 0, .int .i64 0] ∧ BK v P8 [.int .i64 len, .int .i64 1]) (fun _ t _ => L.length - (intOf t).toNat)
  case atStart => exact ⟨0, Nat.zero_le _, rfl, hS8⟩
  case round =>
    clear hS8
    obtain ⟨k, hk, rfl, hbb, B2, B4, B8⟩ := hrel
    by_cases hlt : k < L.length
    · have hA' := HA.out (by omega)
      subst hA'
      obtain ⟨s, hs⟩ : ∃ s, Pc.sat L k = s := ⟨_, rfl⟩
      have c0 := keepC hbb (HC.out k hlt).1
      have c1 := keepC hbb (HC.out k hlt).2.1
      have c2 := keepC hbb (HC.out k hlt).2.2.1
      have c3 := keepC hbb (HC.out k hlt).2.2.2
      have hf := HSP.out k hlt
      rw [hs] at c0 c1 c2 c3 hf
      have hpt := of_decide_eq_true hf.2.2.2
      have hpf := of_decide_eq_true hf.2.2.1
      have ql : Pc.lessB len 1 s.2.num (s.2.den : Int) = false := by
        refine decide_eq_false fun hh => ?_
        have := (Rp.q_lt hh.1 hh.2.1).1 hh.2.2
        have := hpt.2.2
        omega
      have bd := Pc.fit_bd hf.2.1
      have ls := fun v => pless_any len 1 s.2.num (s.2.den : Int) v ⟨by omega, by omega⟩ ⟨by decide, by decide⟩ ⟨by omega, by omega⟩ ⟨by omega, by omega⟩
      rw [ql] at ls
      have LS := Lib.hid ls
      have g1 : decide (s.1.num < 0) = false := decide_eq_false (by have := hpf.2.1; omega)
      have i1 : (0 : Int) ≤ (k : Int) := by omega
      have i2 : (k : Int) < (L.length : Int) := by omega
      clear ls ql hpt hpf hf hs bd
      go_upto_region 11 with fail
      refine at_worldQ (fun v => Below w.heap.size w v ∧ BK v w.heap.size [.int .i64 len, .slice K cuts.length ck, .slice Z dens.length cz] ∧ BK v (w.heap.size + 1) [.int .i64 0, .int .i64 0] ∧ BK v P8 [.int .i64 len, .int .i64 1] ∧ BK v wr.heap.size [.int .i64 s.1.num, .int .i64 (s.1.den : Int), .int .i64 s.2.num, .int .i64 (s.2.den : Int)]) ⟨below_al hbb _, B2.al _, B4.al _, B8.al _, BK.new wr [.int .i64 s.1.num, .int .i64 (s.1.den : Int), .int .i64 s.2.num, .int .i64 (s.2.den : Int)] _⟩ (fun V11 hS => ?_)
      clear hbb B2 B4 B8 c0 c1 c2 c3
      obtain ⟨hbb, B2, B4, B8, BS⟩ := hS
      have p0 := BS.c 0 rfl
      have p1 := BS.c 1 rfl
      have p2 := BS.c 2 rfl
      have p3 := BS.c 3 rfl
      have e0 := B8.c 0 rfl
      have e1 := B8.c 1 rfl
      generalize wr.heap.size = PS at *
      go_wp2_with fail
      refine (LS.out _).mono ?_
      rintro e w3 ⟨rfl, hb1⟩
      replace hbb := keepB hbb hb1
      replace B2 := B2.keep hb1
      replace B4 := B4.keep hb1
      replace B8 := B8.keep hb1
      clear hb1 BS p0 p1 p2 p3 e0 e1
      go_wp2_with fail
      go_roundw
      case rel => exact ⟨k + 1, by omega, by go_num, hbb, B2, B4, B8⟩
      case measure => (simp [intOf] <;> omega)
    · obtain rfl : k = L.length := by omega
      clear HA HC HSP B8
      go_wp2_with fail
      refine (SU.out _ _ _ hbb rfl B2).mono ?_
      rintro e w4 ⟨rfl, hb1⟩
      replace hbb := keepB hbb hb1
      replace B4 := B4.keep hb1
      clear hb1 B2
      have r0 := B4.c 0 rfl
      have r1 := B4.c 1 rfl
      have f0 := B4.f 0 rfl
      have f1 := B4.f 1 rfl
      go_wp2_with fail
      exact bodyPost_ret (v := .tuple #[.agg #[.int .i64 R1, .int .i64 R2], .int .i64 R3]) (by simp [results, Try.results38, go_sem, r0, r1]) rfl ⟨rfl, below_set (below_set hbb (by omega) _) (by omega) _⟩
end Go.Proofs.Ytomokdepndclpaa
namespace Go.Proofs.Ytomokdepndclpaa
open Go.RowKit
namespace Pc
def inS (len : Int) (s : Rat × Rat) : Bool := inC len s.1 && inC len s.2
theorem within_ends {len : Int} : ∀ {L : List (Rat × Rat)}, (L.all (inS len) = true) → ∀ r ∈ ends L, inC len r = true
  | [], _, r, h => by simp [ends] at h
  | s :: L, h, r, hr => by
    rw [List.all_cons, Bool.and_eq_true] at h
    have h1 := h.1
    unfold inS at h1
    rw [Bool.and_eq_true] at h1
    simp only [ends] at hr
    rcases List.mem_cons.1 hr with rfl | hr
    · exact h1.1
    · rcases List.mem_cons.1 hr with rfl | hr
      · exact h1.2
      · exact within_ends h.2 r hr
theorem all_yes {len : Int} {L : List (Rat × Rat)} (h : ∀ k, k < L.length → inS len (sat L k) = true) : L.all (inS len) = true := by
  rw [List.all_eq_true]
  intro s hs
  obtain ⟨k, hk, rfl⟩ := List.mem_iff_getElem.1 hs
  have := h k hk
  rw [sat_lt hk] at this
  exact this
theorem all_not {len : Int} {L : List (Rat × Rat)} {k : Nat} (hk : k < L.length) (h : inS len (sat L k) = false) : L.all (inS len) = false := by
  rw [List.all_eq_false]
  rw [sat_lt hk] at h
  exact ⟨L[k], List.getElem_mem hk, by rw [h]; simp⟩
end Pc
set_option linter.unusedSimpArgs false in
set_option maxHeartbeats 4000000 in
set_option maxRecDepth 100000 in
theorem rWithin_any (len : Int) (A : Option Addr) (cap : Nat) (L : List (Rat × Rat)) (w : World) (l0 : 1 ≤ len) (l1 : len ≤ 1000) (hl : L.length ≤ 1000) (hf : ∀ x ∈ Pc.ends L, Pc.Fit x) (h : IsS w A (L.map Pc.raw)) :
    Calls Try.prog 56 #[.int .i64 len, .slice A L.length cap] w fun e w' => e = .returned (.bool (L.all (Pc.inS len))) ∧ Below w.heap.size w w' := by
  obtain ⟨b, off, hA, hc⟩ := h.cell
  have HC := Lib.hid hc
  have HA := Lib.hid hA
  have HF := Lib.hid (show ∀ k, k < L.length → Pc.Fit (Pc.sat L k).1 ∧ Pc.Fit (Pc.sat L k).2 from fun k hk => ⟨hf _ (Pc.mem_ends1 hk).1, hf _ (Pc.mem_ends1 hk).2⟩)
  clear h hc hA hf
  go_enter Try.func56, Try.ntmps56
  go_wp2_with fail
  go_loopw [5] (fun i W => ∃ k : Nat, k ≤ L.length ∧ i = .int .i64 k ∧ (∀ j, j < k → Pc.inS len (Pc.sat L j) = true) ∧ Below w.heap.size w W) (fun i _ => L.length - (intOf i).toNat)
  case atStart => exact ⟨0, Nat.zero_le _, rfl, fun j hj => absurd hj (Nat.not_lt_zero _), Below.refl _ _⟩
  case round =>
    obtain ⟨k, hk, rfl, hok, hbb⟩ := hrel
    have HOK := Lib.hid hok
    clear hok
    by_cases hlt : k < L.length
    · have hA' := HA.out (by omega)
      subst hA'
      obtain ⟨s, hs⟩ : ∃ s, Pc.sat L k = s := ⟨_, rfl⟩
      obtain ⟨C0, C1, C2, C3⟩ := HC.out k hlt
      have hfs := HF.out k hlt
      rw [hs] at C0 C1 C2 C3 hfs
      have f1 := Pc.fit_bd hfs.1
      have f2 := Pc.fit_bd hfs.2
      have pa := fun v => rpoint_any len s.1.num (s.1.den : Int) v l0 l1 ⟨by omega, by omega⟩ ⟨by omega, by omega⟩
      have pb := fun v => rpoint_any len s.2.num (s.2.den : Int) v l0 l1 ⟨by omega, by omega⟩ ⟨by omega, by omega⟩
      have ea : Ck.pt len s.1.num (s.1.den : Int) = Pc.inC len s.1 := rfl
      have eb : Ck.pt len s.2.num (s.2.den : Int) = Pc.inC len s.2 := rfl
      rw [ea] at pa
      rw [eb] at pb
      have i1 : (0 : Int) ≤ (k : Int) := by omega
      have i2 : (k : Int) < (L.length : Int) := by omega
      have c0 := keepC hbb C0
      have c1 := keepC hbb C1
      have c2 := keepC hbb C2
      have c3 := keepC hbb C3
      by_cases h1 : Pc.inC len s.1 = true
      · rw [h1] at pa
        have PA := Lib.hid pa
        by_cases h2 : Pc.inC len s.2 = true
        · have EB := Lib.hid (show Pc.inS len (Pc.sat L k) = true by rw [hs]; unfold Pc.inS; rw [h1, h2]; rfl)
          rw [h2] at pb
          have PB := Lib.hid pb
          clear pa pb h1 h2 hs hfs ea eb f1 f2 C0 C1
          go_wp2_with fail
          refine (PA.out _).mono ?_
          rintro e w1 ⟨rfl, hb1⟩
          replace hbb := keepB hbb hb1
          replace c2 := keepC hb1 c2
          replace c3 := keepC hb1 c3
          clear hb1 c0 c1
          go_wp2_with fail
          refine (PB.out _).mono ?_
          rintro e w2 ⟨rfl, hb1⟩
          replace hbb := keepB hbb hb1
          clear hb1 c2 c3
          go_wp2_with fail
          go_roundw
          case rel => exact ⟨k + 1, by omega, by go_num, fun j hj => (Nat.lt_succ_iff_lt_or_eq.1 hj).elim (HOK.out j) (fun e => e ▸ EB.out), hbb⟩
          case measure => (simp [intOf] <;> omega)
        · have h2 : Pc.inC len s.2 = false := by simpa using h2
          have EB := Lib.hid (Pc.all_not hlt (show Pc.inS len (Pc.sat L k) = false by rw [hs]; unfold Pc.inS; rw [h2]; simp))
          rw [h2] at pb
          have PB := Lib.hid pb
          clear pa pb h1 h2 hs hfs ea eb f1 f2 C0 C1
          go_wp2_with fail
          refine (PA.out _).mono ?_
          rintro e w1 ⟨rfl, hb1⟩
          replace hbb := keepB hbb hb1
          replace c2 := keepC hb1 c2
          replace c3 := keepC hb1 c3
          clear hb1 c0 c1
          go_wp2_with fail
          refine (PB.out _).mono ?_
          rintro e w2 ⟨rfl, hb1⟩
          replace hbb := keepB hbb hb1
          clear hb1 c2 c3
          go_wp2_with fail
          go_ret
          exact ⟨by rw [EB.out]; rfl, hbb⟩
      · have h1 : Pc.inC len s.1 = false := by simpa using h1
        have EB := Lib.hid (Pc.all_not hlt (show Pc.inS len (Pc.sat L k) = false by rw [hs]; unfold Pc.inS; rw [h1]; rfl))
        rw [h1] at pa
        have PA := Lib.hid pa
        clear pa pb h1 hs hfs ea eb f1 f2 C0 C1 C2 C3
        go_wp2_with fail
        refine (PA.out _).mono ?_
        rintro e w1 ⟨rfl, hb1⟩
        replace hbb := keepB hbb hb1
        clear hb1 c0 c1 c2 c3
        go_wp2_with fail
        go_ret
        exact ⟨by rw [EB.out]; rfl, hbb⟩
    · obtain rfl : k = L.length := by omega
      have EB := Lib.hid (Pc.all_yes HOK.out)
      clear HA HC HF HOK
      go_wp2_with fail
      go_ret
      exact ⟨by rw [EB.out]; rfl, hbb⟩
set_option linter.unusedSimpArgs false in
set_option maxHeartbeats 8000000 in
set_option maxRecDepth 100000 in
theorem worths_good (len : Int) (K : Option Addr) (cuts : List Int) (ck : Nat) (Z : Option Addr) (dens : List Int) (cz : Nat) (A B U M : Option Addr) (ca cb cu cm : Nat) (La Lb Lu Lm : List (Rat × Rat)) (w : World) (h : IsCake w len K cuts Z dens) (hc : Ck.chk len cuts dens = 0)
    (gA : Pc.Good La) (gB : Pc.Good Lb) (gU : Pc.Good Lu) (gM : Pc.Good Lm) (iA : ∀ r ∈ Pc.ends La, Pc.inC len r = true) (iB : ∀ r ∈ Pc.ends Lb, Pc.inC len r = true) (iU : ∀ r ∈ Pc.ends Lu, Pc.inC len r = true) (iM : ∀ r ∈ Pc.ends Lm, Pc.inC len r = true)
    (ha : IsS w A (La.map Pc.raw)) (hb : IsS w B (Lb.map Pc.raw)) (hu : IsS w U (Lu.map Pc.raw)) (hm : IsS w M (Lm.map Pc.raw)) :
    Calls Try.prog 57 #[.agg #[.int .i64 len, .slice K cuts.length ck, .slice Z dens.length cz], .slice A La.length ca, .slice B Lb.length cb, .slice U Lu.length cu, .slice M Lm.length cm] w fun e w' => e = .returned (.tuple #[.agg #[.int .i64 (Pc.sumF (Pc.wM cuts dens) La 0 1).1, .int .i64 (Pc.sumF (Pc.wM cuts dens) La 0 1).2.1, .int .i64 (Pc.sumF (Pc.wM cuts dens) Lb 0 1).1, .int .i64 (Pc.sumF (Pc.wM cuts dens) Lb 0 1).2.1, .int .i64 (Pc.sumF (Pc.wM cuts dens) Lu 0 1).1, .int .i64 (Pc.sumF (Pc.wM cuts dens) Lu 0 1).2.1, .int .i64 (Pc.sumF (Pc.wM cuts dens) Lm 0 1).1, .int .i64 (Pc.sumF (Pc.wM cuts dens) Lm 0 1).2.1], .bool (decide ((Pc.sumF (Pc.wM cuts dens) La 0 1).2.2 = 0 ∧ (Pc.sumF (Pc.wM cuts dens) Lb 0 1).2.2 = 0 ∧ (Pc.sumF (Pc.wM cuts dens) Lu 0 1).2.2 = 0 ∧ (Pc.sumF (Pc.wM cuts dens) Lm 0 1).2.2 = 0))]) ∧ Below w.heap.size w w' := by
  have l1 := fun v (hv : Below w.heap.size w v) => worth_good len K cuts ck Z dens cz A ca La v (h.keep hv) hc gA iA (ha.keep hv)
  have l2 := fun v (hv : Below w.heap.size w v) => worth_good len K cuts ck Z dens cz B cb Lb v (h.keep hv) hc gB iB (hb.keep hv)
  have l3 := fun v (hv : Below w.heap.size w v) => worth_good len K cuts ck Z dens cz U cu Lu v (h.keep hv) hc gU iU (hu.keep hv)
  have l4 := fun v (hv : Below w.heap.size w v) => worth_good len K cuts ck Z dens cz M cm Lm v (h.keep hv) hc gM iM (hm.keep hv)
  generalize (Pc.sumF (Pc.wM cuts dens) La 0 1) = R1 at *
  obtain ⟨a1, b1, e1⟩ := R1
  dsimp only at l1 ⊢
  have L1 := Lib.hid l1
  generalize (Pc.sumF (Pc.wM cuts dens) Lb 0 1) = R2 at *
  obtain ⟨a2, b2, e2⟩ := R2
  dsimp only at l2 ⊢
  have L2 := Lib.hid l2
  generalize (Pc.sumF (Pc.wM cuts dens) Lu 0 1) = R3 at *
  obtain ⟨a3, b3, e3⟩ := R3
  dsimp only at l3 ⊢
  have L3 := Lib.hid l3
  generalize (Pc.sumF (Pc.wM cuts dens) Lm 0 1) = R4 at *
  obtain ⟨a4, b4, e4⟩ := R4
  dsimp only at l4 ⊢
  have L4 := Lib.hid l4
  clear l1 l2 l3 l4 ha hb hu hm h hc gA gB gU gM iA iB iU iM
  go_enter Try.func57, Try.ntmps57
  go_upto_region 1 with fail
  refine at_worldQ (fun v => Below w.heap.size w v ∧ BK v w.heap.size [.int .i64 len, .slice K cuts.length ck, .slice Z dens.length cz] ∧ BK v (w.heap.size + 1) [.int .i64 0, .int .i64 0, .int .i64 0, .int .i64 0, .int .i64 0, .int .i64 0, .int .i64 0, .int .i64 0]) ⟨below_al (below_al (Below.refl _ _) _) _, (BK.new w [.int .i64 len, .slice K cuts.length ck, .slice Z dens.length cz] _).al _, by have b := BK.new (w.alloc (.cells #[.int .i64 len, .slice K cuts.length ck, .slice Z dens.length cz] 27)) [.int .i64 0, .int .i64 0, .int .i64 0, .int .i64 0, .int .i64 0, .int .i64 0, .int .i64 0, .int .i64 0] 74; simpa only [World.size_alloc] using b⟩ (fun V hS => ?_)
  obtain ⟨hbb, BC, B0⟩ := hS
  have k0 := BC.c 0 rfl
  have k1 := BC.c 1 rfl
  have k2 := BC.c 2 rfl
  go_wp2_with fail
  clear k0 k1 k2
  refine (L1.out _ hbb).mono ?_
  rintro e w1 ⟨rfl, hb1⟩
  replace hbb := keepB hbb hb1
  replace BC := BC.keep hb1
  replace B0 := B0.keep hb1
  clear hb1
  go_upto_region 2 with fail
  refine at_worldQ (fun v => Below w.heap.size w v ∧ BK v w.heap.size [.int .i64 len, .slice K cuts.length ck, .slice Z dens.length cz] ∧ BK v (w.heap.size + 1) [.int .i64 0, .int .i64 0, .int .i64 0, .int .i64 0, .int .i64 0, .int .i64 0, .int .i64 0, .int .i64 0] ∧ BK v w1.heap.size [.int .i64 a1, .int .i64 b1]) ⟨below_al hbb _, BC.al _, B0.al _, BK.new w1 [.int .i64 a1, .int .i64 b1] _⟩ (fun V1 hS => ?_)
  clear hbb BC B0
  obtain ⟨hbb, BC, B0, B1⟩ := hS
  generalize w1.heap.size = P1 at *
  have k0 := BC.c 0 rfl
  have k1 := BC.c 1 rfl
  have k2 := BC.c 2 rfl
  go_wp2_with fail
  clear k0 k1 k2
  refine (L2.out _ hbb).mono ?_
  rintro e w2 ⟨rfl, hb1⟩
  replace hbb := keepB hbb hb1
  replace BC := BC.keep hb1
  replace B0 := B0.keep hb1
  replace B1 := B1.keep hb1
  clear hb1
  go_upto_region 3 with fail
  refine at_worldQ (fun v => Below w.heap.size w v ∧ BK v w.heap.size [.int .i64 len, .slice K cuts.length ck, .slice Z dens.length cz] ∧ BK v (w.heap.size + 1) [.int .i64 0, .int .i64 0, .int .i64 0, .int .i64 0, .int .i64 0, .int .i64 0, .int .i64 0, .int .i64 0] ∧ BK v P1 [.int .i64 a1, .int .i64 b1] ∧ BK v w2.heap.size [.int .i64 a2, .int .i64 b2]) ⟨below_al hbb _, BC.al _, B0.al _, B1.al _, BK.new w2 [.int .i64 a2, .int .i64 b2] _⟩ (fun V2 hS => ?_)
  clear hbb BC B0 B1
  obtain ⟨hbb, BC, B0, B1, B2⟩ := hS
  generalize w2.heap.size = P2 at *
  have k0 := BC.c 0 rfl
  have k1 := BC.c 1 rfl
  have k2 := BC.c 2 rfl
  go_wp2_with fail
  clear k0 k1 k2
  refine (L3.out _ hbb).mono ?_
  rintro e w3 ⟨rfl, hb1⟩
  replace hbb := keepB hbb hb1
  replace BC := BC.keep hb1
  replace B0 := B0.keep hb1
  replace B1 := B1.keep hb1
  replace B2 := B2.keep hb1
  clear hb1
  go_upto_region 4 with fail
  refine at_worldQ (fun v => Below w.heap.size w v ∧ BK v w.heap.size [.int .i64 len, .slice K cuts.length ck, .slice Z dens.length cz] ∧ BK v (w.heap.size + 1) [.int .i64 0, .int .i64 0, .int .i64 0, .int .i64 0, .int .i64 0, .int .i64 0, .int .i64 0, .int .i64 0] ∧ BK v P1 [.int .i64 a1, .int .i64 b1] ∧ BK v P2 [.int .i64 a2, .int .i64 b2] ∧ BK v w3.heap.size [.int .i64 a3, .int .i64 b3]) ⟨below_al hbb _, BC.al _, B0.al _, B1.al _, B2.al _, BK.new w3 [.int .i64 a3, .int .i64 b3] _⟩ (fun V3 hS => ?_)
  clear hbb BC B0 B1 B2
  obtain ⟨hbb, BC, B0, B1, B2, B3⟩ := hS
  generalize w3.heap.size = P3 at *
  have k0 := BC.c 0 rfl
  have k1 := BC.c 1 rfl
  have k2 := BC.c 2 rfl
  go_wp2_with fail
  clear k0 k1 k2
  refine (L4.out _ hbb).mono ?_
  rintro e w4 ⟨rfl, hb1⟩
  replace hbb := keepB hbb hb1
  replace BC := BC.keep hb1
  replace B0 := B0.keep hb1
  replace B1 := B1.keep hb1
  replace B2 := B2.keep hb1
  replace B3 := B3.keep hb1
  clear hb1
  go_upto_region 5 with fail
  refine at_worldQ (fun v => Below w.heap.size w v ∧ BK v w.heap.size [.int .i64 len, .slice K cuts.length ck, .slice Z dens.length cz] ∧ BK v (w.heap.size + 1) [.int .i64 0, .int .i64 0, .int .i64 0, .int .i64 0, .int .i64 0, .int .i64 0, .int .i64 0, .int .i64 0] ∧ BK v P1 [.int .i64 a1, .int .i64 b1] ∧ BK v P2 [.int .i64 a2, .int .i64 b2] ∧ BK v P3 [.int .i64 a3, .int .i64 b3] ∧ BK v w4.heap.size [.int .i64 a4, .int .i64 b4]) ⟨below_al hbb _, BC.al _, B0.al _, B1.al _, B2.al _, B3.al _, BK.new w4 [.int .i64 a4, .int .i64 b4] _⟩ (fun V4 hS => ?_)
  clear hbb BC B0 B1 B2 B3
  obtain ⟨hbb, BC, B0, B1, B2, B3, B4⟩ := hS
  generalize w4.heap.size = P4 at *
  have c1 := B1.c 0 rfl
  have d1 := B1.c 1 rfl
  have c2 := B2.c 0 rfl
  have d2 := B2.c 1 rfl
  have c3 := B3.c 0 rfl
  have d3 := B3.c 1 rfl
  have c4 := B4.c 0 rfl
  have d4 := B4.c 1 rfl
  have r0 := B0.c 0 rfl
  have f0 := B0.f 0 rfl
  have r1 := B0.c 1 rfl
  have f1 := B0.f 1 rfl
  have r2 := B0.c 2 rfl
  have f2 := B0.f 2 rfl
  have r3 := B0.c 3 rfl
  have f3 := B0.f 3 rfl
  have r4 := B0.c 4 rfl
  have f4 := B0.f 4 rfl
  have r5 := B0.c 5 rfl
  have f5 := B0.f 5 rfl
  have r6 := B0.c 6 rfl
  have f6 := B0.f 6 rfl
  have r7 := B0.c 7 rfl
  have f7 := B0.f 7 rfl
  by_cases h1 : e1 = 0
  · have g1 : (e1 == 0) = true := by rw [h1]; rfl
    by_cases h2 : e2 = 0
    · have g2 : (e2 == 0) = true := by rw [h2]; rfl
      by_cases h3 : e3 = 0
      · have g3 : (e3 == 0) = true := by rw [h3]; rfl
        by_cases h4 : e4 = 0
        · have g4 : (e4 == 0) = true := by rw [h4]; rfl
          have hok : decide (e1 = 0 ∧ e2 = 0 ∧ e3 = 0 ∧ e4 = 0) = true := decide_eq_true ⟨h1, h2, h3, h4⟩
          clear h1 h2 h3 h4
          go_wp2_with fail
          exact bodyPost_ret (v := .tuple #[.agg #[.int .i64 a1, .int .i64 b1, .int .i64 a2, .int .i64 b2, .int .i64 a3, .int .i64 b3, .int .i64 a4, .int .i64 b4], .bool true]) (by simp [results, Try.results57, go_sem, r0, r1, r2, r3, r4, r5, r6, r7]) rfl ⟨by rw [hok], (below_set (below_set (below_set (below_set (below_set (below_set (below_set (below_set hbb (by omega) _) (by omega) _) (by omega) _) (by omega) _) (by omega) _) (by omega) _) (by omega) _) (by omega) _)⟩
        · have g4 : (e4 == 0) = false := by rw [beq_eq_false_iff_ne]; exact h4
          have hok : decide (e1 = 0 ∧ e2 = 0 ∧ e3 = 0 ∧ e4 = 0) = false := decide_eq_false fun h => h4 h.2.2.2
          clear h1 h2 h3 h4
          go_wp2_with fail
          exact bodyPost_ret (v := .tuple #[.agg #[.int .i64 a1, .int .i64 b1, .int .i64 a2, .int .i64 b2, .int .i64 a3, .int .i64 b3, .int .i64 a4, .int .i64 b4], .bool false]) (by simp [results, Try.results57, go_sem, r0, r1, r2, r3, r4, r5, r6, r7]) rfl ⟨by rw [hok], (below_set (below_set (below_set (below_set (below_set (below_set (below_set (below_set hbb (by omega) _) (by omega) _) (by omega) _) (by omega) _) (by omega) _) (by omega) _) (by omega) _) (by omega) _)⟩
      · have g3 : (e3 == 0) = false := by rw [beq_eq_false_iff_ne]; exact h3
        have hok : decide (e1 = 0 ∧ e2 = 0 ∧ e3 = 0 ∧ e4 = 0) = false := decide_eq_false fun h => h3 h.2.2.1
        clear h1 h2 h3
        go_wp2_with fail
        exact bodyPost_ret (v := .tuple #[.agg #[.int .i64 a1, .int .i64 b1, .int .i64 a2, .int .i64 b2, .int .i64 a3, .int .i64 b3, .int .i64 a4, .int .i64 b4], .bool false]) (by simp [results, Try.results57, go_sem, r0, r1, r2, r3, r4, r5, r6, r7]) rfl ⟨by rw [hok], (below_set (below_set (below_set (below_set (below_set (below_set (below_set (below_set hbb (by omega) _) (by omega) _) (by omega) _) (by omega) _) (by omega) _) (by omega) _) (by omega) _) (by omega) _)⟩
    · have g2 : (e2 == 0) = false := by rw [beq_eq_false_iff_ne]; exact h2
      have hok : decide (e1 = 0 ∧ e2 = 0 ∧ e3 = 0 ∧ e4 = 0) = false := decide_eq_false fun h => h2 h.2.1
      clear h1 h2
      go_wp2_with fail
      exact bodyPost_ret (v := .tuple #[.agg #[.int .i64 a1, .int .i64 b1, .int .i64 a2, .int .i64 b2, .int .i64 a3, .int .i64 b3, .int .i64 a4, .int .i64 b4], .bool false]) (by simp [results, Try.results57, go_sem, r0, r1, r2, r3, r4, r5, r6, r7]) rfl ⟨by rw [hok], (below_set (below_set (below_set (below_set (below_set (below_set (below_set (below_set hbb (by omega) _) (by omega) _) (by omega) _) (by omega) _) (by omega) _) (by omega) _) (by omega) _) (by omega) _)⟩
  · have g1 : (e1 == 0) = false := by rw [beq_eq_false_iff_ne]; exact h1
    have hok : decide (e1 = 0 ∧ e2 = 0 ∧ e3 = 0 ∧ e4 = 0) = false := decide_eq_false fun h => h1 h.1
    clear h1
    go_wp2_with fail
    exact bodyPost_ret (v := .tuple #[.agg #[.int .i64 a1, .int .i64 b1, .int .i64 a2, .int .i64 b2, .int .i64 a3, .int .i64 b3, .int .i64 a4, .int .i64 b4], .bool false]) (by simp [results, Try.results57, go_sem, r0, r1, r2, r3, r4, r5, r6, r7]) rfl ⟨by rw [hok], (below_set (below_set (below_set (below_set (below_set (below_set (below_set (below_set hbb (by omega) _) (by omega) _) (by omega) _) (by omega) _) (by omega) _) (by omega) _) (by omega) _) (by omega) _)⟩
end Go.Proofs.Ytomokdepndclpaa

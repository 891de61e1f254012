/- The walk of the law ChooseNames. -/
import Derived.Test.YtnnpmegknlgkoaaChu
namespace Go.Proofs.Ytnnpmegknlgkoaa
open Go.RowKit
set_option linter.unusedSimpArgs false in
set_option maxHeartbeats 8000000 in
set_option maxRecDepth 100000 in
theorem names7_walk (w : World) : Calls Try.prog 5 #[] w fun e w' => e = .returned (.bool true) ∧ Below w.heap.size w w' := by
  go_enter Try.func5, Try.ntmps5
  go_wp2_with fail
  refine (two7_any _).mono ?_
  rintro e w1 ⟨P0, l0, rfl, hl0, hd0, hcr⟩
  have st := al7_1.start al7_chk rfl (some ⟨P0, 0, none⟩) 2 l0 w1 (hcr.isCs hl0.symm (by unfold maxLen; omega)) hd0
  rw [hl0] at st
  unfold StR at st
  have ST := Lib.hid st
  have hbb := hcr.bb
  clear hcr hd0 hl0 st
  go_wp2_with fail
  refine ST.out.mono ?_
  rintro e w2 ⟨A0, m0, ca0, B0, n0, cq0, k0, rfl, hb, hm1, hn1, hd1, hfd⟩
  have hn0 : n0 = 0 := hn1
  clear hn1 ST
  subst hn0
  have V0 : Vl [(2, [0, 2], [1]), (2, [0, 1, 2], [3, 1])] [] A0 m0 B0 0 k0 w2 := ⟨hfd.isCs, hm1, hd1, hfd.isQs, rfl⟩
  clear hm1 hd1 hfd
  replace hbb := keepB hbb hb
  clear hb
  go_upto_region 2 with fail
  refine at_worldQ (fun v => Below w.heap.size w v ∧ w.heap.size ≤ v.heap.size ∧ Vl [(2, [0, 2], [1]), (2, [0, 1, 2], [3, 1])] [] A0 m0 B0 0 k0 v ∧ BK v w2.heap.size [.slice A0 m0 ca0, .slice B0 0 cq0, .int .i64 1, .int .i64 0, .int .i64 0, .int .i64 1, .bool false]) ⟨(below_al hbb _), Below.size (B := w.heap.size) (w := w) (below_al hbb _), V0.keep (below_al (Below.refl _ _) _), BK.new _ _ _⟩ (fun X2 hS => ?_)
  clear hbb V0 
  obtain ⟨hbb, hBV, V0, S0⟩ := hS
  generalize w2.heap.size = ps0 at *
  have s0 := S0.c 0 rfl
  have s1 := S0.c 1 rfl
  have s2 := S0.c 2 rfl
  have s3 := S0.c 3 rfl
  have s4 := S0.c 4 rfl
  have s5 := S0.c 5 rfl
  have s6 := S0.c 6 rfl
  have CC := Lib.hid (division_early A0 m0 ca0 B0 0 cq0 1 0 0 1 false _ rfl (fun v hv => al7_1.check0 al7_chk rfl A0 m0 ca0 B0 0 cq0 k0 v (V0.keep hv)))
  go_wp2_with fail
  refine CC.out.mono ?_
  rintro e wq ⟨rfl, hb⟩
  clear s0 s1 s2 s3 s4 s5 s6 CC
  replace V0 := V0.keep hb
  replace S0 := S0.keep hb
  replace hbb := keepB hbb hb
  clear hb
  go_upto_region 3 with fail
  refine at_worldQ (fun v => Below w.heap.size w v ∧ w.heap.size ≤ v.heap.size ∧ Vl [(2, [0, 2], [1]), (2, [0, 1, 2], [3, 1])] [] A0 m0 B0 0 k0 v ∧ BK v ps0 [.slice A0 m0 ca0, .slice B0 0 cq0, .int .i64 1, .int .i64 0, .int .i64 0, .int .i64 1, .bool false]) ⟨(below_al hbb _), Below.size (B := w.heap.size) (w := w) (below_al hbb _), V0.keep (below_al (Below.refl _ _) _), S0.keep (below_al (Below.refl _ _) _)⟩ (fun X3 hS => ?_)
  clear hbb V0 S0 hBV
  obtain ⟨hbb, hBV, V0, S0⟩ := hS
  have s0 := S0.c 0 rfl
  have s1 := S0.c 1 rfl
  have s2 := S0.c 2 rfl
  have s3 := S0.c 3 rfl
  have s4 := S0.c 4 rfl
  have s5 := S0.c 5 rfl
  have s6 := S0.c 6 rfl
  have CC := Lib.hid (show Calls Try.prog 32 #[.agg #[.slice A0 m0 ca0, .slice B0 0 cq0, .int .i64 1, .int .i64 0, .int .i64 0, .int .i64 1, .bool false]] _ (StR [(2, [0, 2], [1]), (2, [0, 1, 2], [3, 1])] [⟨1, 2, 0, 1, 2, 1, 2, 3⟩] 1 1 2 3 false _) from al7_1.next0 al7_chk rfl A0 m0 ca0 B0 0 cq0 k0 _ V0)
  go_wp2_with fail
  refine CC.out.mono ?_
  unfold StR
  rintro e wq ⟨A1, m1, ca1, B1, n1, cq1, k1, rfl, hb, hm1, hn1, hd1, hfd⟩
  clear s0 s1 s2 s3 s4 s5 s6 CC
  have hn0 : n1 = 1 := hn1
  clear hn1
  subst hn0
  have V1 : Vl [(2, [0, 2], [1]), (2, [0, 1, 2], [3, 1])] [⟨1, 2, 0, 1, 2, 1, 2, 3⟩] A1 m1 B1 1 k1 wq := ⟨hfd.isCs, hm1, hd1, hfd.isQs, rfl⟩
  clear hm1 hd1 hfd
  replace V0 := V0.keep hb
  replace S0 := S0.keep hb
  replace hbb := keepB hbb hb
  clear hb
  go_upto_region 4 with fail
  refine at_worldQ (fun v => Below w.heap.size w v ∧ w.heap.size ≤ v.heap.size ∧ Vl [(2, [0, 2], [1]), (2, [0, 1, 2], [3, 1])] [] A0 m0 B0 0 k0 v ∧ BK v ps0 [.slice A0 m0 ca0, .slice B0 0 cq0, .int .i64 1, .int .i64 0, .int .i64 0, .int .i64 1, .bool false] ∧ Vl [(2, [0, 2], [1]), (2, [0, 1, 2], [3, 1])] [⟨1, 2, 0, 1, 2, 1, 2, 3⟩] A1 m1 B1 1 k1 v ∧ BK v wq.heap.size [.slice A1 m1 ca1, .slice B1 1 cq1, .int .i64 1, .int .i64 1, .int .i64 2, .int .i64 3, .bool false]) ⟨(below_al hbb _), Below.size (B := w.heap.size) (w := w) (below_al hbb _), V0.keep (below_al (Below.refl _ _) _), S0.keep (below_al (Below.refl _ _) _), V1.keep (below_al (Below.refl _ _) _), BK.new _ _ _⟩ (fun X4 hS => ?_)
  clear hbb V0 S0 V1 hBV
  obtain ⟨hbb, hBV, V0, S0, V1, S1⟩ := hS
  generalize wq.heap.size = p4 at *
  have s0 := S1.c 0 rfl
  have s1 := S1.c 1 rfl
  have s2 := S1.c 2 rfl
  have s3 := S1.c 3 rfl
  have s4 := S1.c 4 rfl
  have s5 := S1.c 5 rfl
  have s6 := S1.c 6 rfl
  have CC := Lib.hid (division_early A1 m1 ca1 B1 1 cq1 1 1 2 3 false _ rfl (fun v hv => al7_1.check1 al7_chk rfl A1 m1 ca1 B1 1 cq1 k1 v (V1.keep hv)))
  go_wp2_with fail
  refine CC.out.mono ?_
  rintro e wq ⟨rfl, hb⟩
  clear s0 s1 s2 s3 s4 s5 s6 CC
  replace V0 := V0.keep hb
  replace S0 := S0.keep hb
  replace V1 := V1.keep hb
  replace S1 := S1.keep hb
  replace hbb := keepB hbb hb
  clear hb
  go_upto_region 5 with fail
  refine at_worldQ (fun v => Below w.heap.size w v ∧ w.heap.size ≤ v.heap.size ∧ Vl [(2, [0, 2], [1]), (2, [0, 1, 2], [3, 1])] [] A0 m0 B0 0 k0 v ∧ BK v ps0 [.slice A0 m0 ca0, .slice B0 0 cq0, .int .i64 1, .int .i64 0, .int .i64 0, .int .i64 1, .bool false] ∧ Vl [(2, [0, 2], [1]), (2, [0, 1, 2], [3, 1])] [⟨1, 2, 0, 1, 2, 1, 2, 3⟩] A1 m1 B1 1 k1 v ∧ BK v p4 [.slice A1 m1 ca1, .slice B1 1 cq1, .int .i64 1, .int .i64 1, .int .i64 2, .int .i64 3, .bool false]) ⟨(below_al hbb _), Below.size (B := w.heap.size) (w := w) (below_al hbb _), V0.keep (below_al (Below.refl _ _) _), S0.keep (below_al (Below.refl _ _) _), V1.keep (below_al (Below.refl _ _) _), S1.keep (below_al (Below.refl _ _) _)⟩ (fun X5 hS => ?_)
  clear hbb V0 S0 V1 S1 hBV
  obtain ⟨hbb, hBV, V0, S0, V1, S1⟩ := hS
  have s0 := S1.c 0 rfl
  have s1 := S1.c 1 rfl
  have s2 := S1.c 2 rfl
  have s3 := S1.c 3 rfl
  have s4 := S1.c 4 rfl
  have s5 := S1.c 5 rfl
  have s6 := S1.c 6 rfl
  have CC := Lib.hid (show Calls Try.prog 32 #[.agg #[.slice A1 m1 ca1, .slice B1 1 cq1, .int .i64 1, .int .i64 1, .int .i64 2, .int .i64 3, .bool false]] _ (StR [(2, [0, 2], [1]), (2, [0, 1, 2], [3, 1])] [⟨1, 2, 0, 1, 2, 1, 2, 3⟩, ⟨0, 1, 0, 1, 2, 3, 2, 3⟩] 1 2 2 3 false _) from al7_1.next1 al7_chk rfl A1 m1 ca1 B1 1 cq1 k1 _ V1)
  go_wp2_with fail
  refine CC.out.mono ?_
  unfold StR
  rintro e wq ⟨A2, m2, ca2, B2, n2, cq2, k2, rfl, hb, hm1, hn1, hd1, hfd⟩
  clear s0 s1 s2 s3 s4 s5 s6 CC
  have hn0 : n2 = 2 := hn1
  clear hn1
  subst hn0
  have V2 : Vl [(2, [0, 2], [1]), (2, [0, 1, 2], [3, 1])] [⟨1, 2, 0, 1, 2, 1, 2, 3⟩, ⟨0, 1, 0, 1, 2, 3, 2, 3⟩] A2 m2 B2 2 k2 wq := ⟨hfd.isCs, hm1, hd1, hfd.isQs, rfl⟩
  clear hm1 hd1 hfd
  replace V0 := V0.keep hb
  replace S0 := S0.keep hb
  replace V1 := V1.keep hb
  replace S1 := S1.keep hb
  replace hbb := keepB hbb hb
  clear hb
  go_upto_region 6 with fail
  refine at_worldQ (fun v => Below w.heap.size w v ∧ w.heap.size ≤ v.heap.size ∧ Vl [(2, [0, 2], [1]), (2, [0, 1, 2], [3, 1])] [] A0 m0 B0 0 k0 v ∧ BK v ps0 [.slice A0 m0 ca0, .slice B0 0 cq0, .int .i64 1, .int .i64 0, .int .i64 0, .int .i64 1, .bool false] ∧ Vl [(2, [0, 2], [1]), (2, [0, 1, 2], [3, 1])] [⟨1, 2, 0, 1, 2, 1, 2, 3⟩] A1 m1 B1 1 k1 v ∧ BK v p4 [.slice A1 m1 ca1, .slice B1 1 cq1, .int .i64 1, .int .i64 1, .int .i64 2, .int .i64 3, .bool false] ∧ Vl [(2, [0, 2], [1]), (2, [0, 1, 2], [3, 1])] [⟨1, 2, 0, 1, 2, 1, 2, 3⟩, ⟨0, 1, 0, 1, 2, 3, 2, 3⟩] A2 m2 B2 2 k2 v ∧ BK v wq.heap.size [.slice A2 m2 ca2, .slice B2 2 cq2, .int .i64 1, .int .i64 2, .int .i64 2, .int .i64 3, .bool false]) ⟨(below_al hbb _), Below.size (B := w.heap.size) (w := w) (below_al hbb _), V0.keep (below_al (Below.refl _ _) _), S0.keep (below_al (Below.refl _ _) _), V1.keep (below_al (Below.refl _ _) _), S1.keep (below_al (Below.refl _ _) _), V2.keep (below_al (Below.refl _ _) _), BK.new _ _ _⟩ (fun X6 hS => ?_)
  clear hbb V0 S0 V1 S1 V2 hBV
  obtain ⟨hbb, hBV, V0, S0, V1, S1, V2, S2⟩ := hS
  generalize wq.heap.size = p6 at *
  have s0 := S2.c 0 rfl
  have s1 := S2.c 1 rfl
  have s2 := S2.c 2 rfl
  have s3 := S2.c 3 rfl
  have s4 := S2.c 4 rfl
  have s5 := S2.c 5 rfl
  have s6 := S2.c 6 rfl
  have CC := Lib.hid (show ∀ v, Below X6.heap.size X6 v → Calls Try.prog 32 #[.agg #[.slice A2 m2 ca2, .slice B2 2 cq2, .int .i64 1, .int .i64 2, .int .i64 2, .int .i64 3, .bool false]] v (fun e w' => e = .returned (.tuple #[.agg #[.slice none 0 0, .slice none 0 0, .int .i64 0, .int .i64 0, .int .i64 0, .int .i64 0, .bool false], .int .i64 36]) ∧ Below v.heap.size v w') from fun v hv => al7_1.next2 al7_chk rfl A2 m2 ca2 B2 2 cq2 k2 v (V2.keep hv))
  go_wp2_with fail
  refine (CC.out _ (Below.refl _ _)).mono ?_
  rintro e wq ⟨rfl, hb⟩
  clear s0 s1 s2 s3 s4 s5 s6 CC
  replace V0 := V0.keep hb
  replace S0 := S0.keep hb
  replace V1 := V1.keep hb
  replace S1 := S1.keep hb
  replace V2 := V2.keep hb
  replace S2 := S2.keep hb
  replace hbb := keepB hbb hb
  clear hb
  go_upto_region 7 with fail
  refine at_worldQ (fun v => Below w.heap.size w v ∧ w.heap.size ≤ v.heap.size ∧ Vl [(2, [0, 2], [1]), (2, [0, 1, 2], [3, 1])] [] A0 m0 B0 0 k0 v ∧ BK v ps0 [.slice A0 m0 ca0, .slice B0 0 cq0, .int .i64 1, .int .i64 0, .int .i64 0, .int .i64 1, .bool false] ∧ Vl [(2, [0, 2], [1]), (2, [0, 1, 2], [3, 1])] [⟨1, 2, 0, 1, 2, 1, 2, 3⟩] A1 m1 B1 1 k1 v ∧ BK v p4 [.slice A1 m1 ca1, .slice B1 1 cq1, .int .i64 1, .int .i64 1, .int .i64 2, .int .i64 3, .bool false] ∧ Vl [(2, [0, 2], [1]), (2, [0, 1, 2], [3, 1])] [⟨1, 2, 0, 1, 2, 1, 2, 3⟩, ⟨0, 1, 0, 1, 2, 3, 2, 3⟩] A2 m2 B2 2 k2 v ∧ BK v p6 [.slice A2 m2 ca2, .slice B2 2 cq2, .int .i64 1, .int .i64 2, .int .i64 2, .int .i64 3, .bool false]) ⟨(below_al hbb _), Below.size (B := w.heap.size) (w := w) (below_al hbb _), V0.keep (below_al (Below.refl _ _) _), S0.keep (below_al (Below.refl _ _) _), V1.keep (below_al (Below.refl _ _) _), S1.keep (below_al (Below.refl _ _) _), V2.keep (below_al (Below.refl _ _) _), S2.keep (below_al (Below.refl _ _) _)⟩ (fun X7 hS => ?_)
  clear hbb V0 S0 V1 S1 V2 S2 hBV
  obtain ⟨hbb, hBV, V0, S0, V1, S1, V2, S2⟩ := hS
  have s0 := S2.c 0 rfl
  have s1 := S2.c 1 rfl
  have s2 := S2.c 2 rfl
  have s3 := S2.c 3 rfl
  have s4 := S2.c 4 rfl
  have s5 := S2.c 5 rfl
  have s6 := S2.c 6 rfl
  have CC := Lib.hid (division_ok A2 m2 ca2 B2 2 cq2 1 2 3 false _ 2 3 2 1 0 1 2 3 (fun v hv => al7_1.check2 al7_chk rfl A2 m2 ca2 B2 2 cq2 k2 v (V2.keep hv)) (fun v hv => by
    have := divided1f A2 ca2 k2 B2 2 cq2 2 2 3 2 v (V2.cs.keep hv) (by have := congrArg List.length V2.d; simpa using this) (cat0_len V2.d rfl rfl)
    rw [← V2.m] at this
    exact this))
  go_wp2_with fail
  refine CC.out.mono ?_
  rintro e wq ⟨Pg, gg, kg, rfl, hb, hdg⟩
  clear s0 s1 s2 s3 s4 s5 s6 CC
  clear hdg
  replace V0 := V0.keep hb
  replace S0 := S0.keep hb
  replace V1 := V1.keep hb
  replace S1 := S1.keep hb
  replace V2 := V2.keep hb
  replace S2 := S2.keep hb
  replace hbb := keepB hbb hb
  clear hb
  go_upto_region 8 with fail
  refine at_worldQ (fun v => Below w.heap.size w v ∧ w.heap.size ≤ v.heap.size ∧ Vl [(2, [0, 2], [1]), (2, [0, 1, 2], [3, 1])] [] A0 m0 B0 0 k0 v ∧ BK v ps0 [.slice A0 m0 ca0, .slice B0 0 cq0, .int .i64 1, .int .i64 0, .int .i64 0, .int .i64 1, .bool false] ∧ Vl [(2, [0, 2], [1]), (2, [0, 1, 2], [3, 1])] [⟨1, 2, 0, 1, 2, 1, 2, 3⟩] A1 m1 B1 1 k1 v ∧ BK v p4 [.slice A1 m1 ca1, .slice B1 1 cq1, .int .i64 1, .int .i64 1, .int .i64 2, .int .i64 3, .bool false] ∧ Vl [(2, [0, 2], [1]), (2, [0, 1, 2], [3, 1])] [⟨1, 2, 0, 1, 2, 1, 2, 3⟩, ⟨0, 1, 0, 1, 2, 3, 2, 3⟩] A2 m2 B2 2 k2 v ∧ BK v p6 [.slice A2 m2 ca2, .slice B2 2 cq2, .int .i64 1, .int .i64 2, .int .i64 2, .int .i64 3, .bool false] ∧ BK v wq.heap.size [.slice (some ⟨Pg, 0, none⟩) 2 2]) ⟨(below_al hbb _), Below.size (B := w.heap.size) (w := w) (below_al hbb _), V0.keep (below_al (Below.refl _ _) _), S0.keep (below_al (Below.refl _ _) _), V1.keep (below_al (Below.refl _ _) _), S1.keep (below_al (Below.refl _ _) _), V2.keep (below_al (Below.refl _ _) _), S2.keep (below_al (Below.refl _ _) _), BK.new _ _ _⟩ (fun X8 hS => ?_)
  clear hbb V0 S0 V1 S1 V2 S2 hBV
  obtain ⟨hbb, hBV, V0, S0, V1, S1, V2, S2, SG⟩ := hS
  generalize wq.heap.size = p8 at *
  have a0 := S0.c 0 rfl
  have a1 := S0.c 1 rfl
  have a2 := S0.c 2 rfl
  have a3 := S0.c 3 rfl
  have a4 := S0.c 4 rfl
  have a5 := S0.c 5 rfl
  have a6 := S0.c 6 rfl
  have b0 := S1.c 0 rfl
  have b1 := S1.c 1 rfl
  have b2 := S1.c 2 rfl
  have b3 := S1.c 3 rfl
  have b4 := S1.c 4 rfl
  have b5 := S1.c 5 rfl
  have b6 := S1.c 6 rfl
  have c0 := S2.c 0 rfl
  have c1 := S2.c 1 rfl
  have c2 := S2.c 2 rfl
  have c3 := S2.c 3 rfl
  have c4 := S2.c 4 rfl
  have c5 := S2.c 5 rfl
  have c6 := S2.c 6 rfl
  have ze := SG.c 0 rfl
  go_upto_region 9 with fail
  clear a0 a1 a2 a3 a4 a5 a6 b0 b1 b2 b3 b4 b5 b6 c0 c1 c2 c3 c4 c5 c6 ze
  refine at_worldQ (fun v => Below w.heap.size w v ∧ w.heap.size ≤ v.heap.size ∧ Vl [(2, [0, 2], [1]), (2, [0, 1, 2], [3, 1])] [] A0 m0 B0 0 k0 v ∧ BK v ps0 [.slice A0 m0 ca0, .slice B0 0 cq0, .int .i64 1, .int .i64 0, .int .i64 0, .int .i64 1, .bool false] ∧ Vl [(2, [0, 2], [1]), (2, [0, 1, 2], [3, 1])] [⟨1, 2, 0, 1, 2, 1, 2, 3⟩] A1 m1 B1 1 k1 v ∧ BK v p4 [.slice A1 m1 ca1, .slice B1 1 cq1, .int .i64 1, .int .i64 1, .int .i64 2, .int .i64 3, .bool false] ∧ Vl [(2, [0, 2], [1]), (2, [0, 1, 2], [3, 1])] [⟨1, 2, 0, 1, 2, 1, 2, 3⟩, ⟨0, 1, 0, 1, 2, 3, 2, 3⟩] A2 m2 B2 2 k2 v ∧ BK v p6 [.slice A2 m2 ca2, .slice B2 2 cq2, .int .i64 1, .int .i64 2, .int .i64 2, .int .i64 3, .bool false] ∧ BK v p8 [.slice (some ⟨Pg, 0, none⟩) 2 2]) ⟨hbb, Below.size (B := w.heap.size) (w := w) hbb, V0, S0, V1, S1, V2, S2, SG⟩ (fun X9 hS => ?_)
  clear hbb V0 S0 V1 S1 V2 S2 SG hBV
  obtain ⟨hbb, hBV, V0, S0, V1, S1, V2, S2, SG⟩ := hS
  go_cut [16] (fun x v => ∃ (g : Nat) (c d : CkR), x = .slice (some ⟨g, 0, none⟩) 2 2 ∧ IsCs v (some ⟨g, 0, none⟩) [c, d] ∧ Ak.dat c = (2, [0, 2], [1]) ∧ Ak.dat d = (2, [0, 2], [1]) ∧ Below X9.heap.size X9 v)
  case first =>
    refine wp_region_held_drew (S := (GB (fun _ => False) X9)) (by kernel_rfl) ((GB.refl _ _).drew) (fun hHeld => ?_)
    refine at_anyH (fun v => GB (fun _ => False) X9 v) hHeld (fun wt0 hNew => ?_)
    clear hHeld
    have hHeld := hNew
    clear hNew
    refine wpAnyH_ready (rs := [0]) (by kernel_rfl) (by simp) (AllReadyH.cons (o := _) rfl (fun K hK => ?_) AllReadyH.nil)
    go_simp
    refine (two7_any _).mono ?_
    rintro e wt1 hq
    obtain ⟨Pu0, lu0, rfl, hlu0, hdu0, hcu0⟩ := hq
    obtain ⟨xu0, zu0, rfl, eu0, fu0⟩ := two_of hdu0
    have hb3 := hcu0.bb
    have Bu0 : BK _ Pu0 [.int .i64 xu0.len, .slice xu0.K xu0.cuts.length xu0.ck, .slice xu0.Z xu0.dens.length xu0.cz, .int .i64 zu0.len, .slice zu0.K zu0.cuts.length zu0.ck, .slice zu0.Z zu0.dens.length zu0.cz] := bk_row hcu0.row
    have Iu0 := (hcu0.all xu0 (by simp)).isC
    clear hcu0 hdu0 hlu0 fu0
    go_wp2_with fail
    refine hK.out _ _ (hHeld.below hb3) (fun hNew => ?_)
    clear hb3
    clear hHeld hK K
    have hHeld := hNew
    clear hNew
    try simp only [Act.put, List.append, PA, set16]
    try simp only [PB]
    refine wpAnyH_take (i := 1) (oi := _) (v := ?vt2) rfl (by kernel_rfl) (by kernel_rfl) (by kernel_rfl) (fun _ _ _ h => h) (Or.inl ⟨by kernel_rfl, ?hyt2⟩) hHeld ?restt2
    case hyt2 => (intro w hSw; go_simp; first | done | (with_reducible rfl))
    try simp only [Act.put, List.append, PA, set16]
    try simp only [PB]
    refine wpAnyH_ready (rs := [2, 3]) (by kernel_rfl) (by simp) (AllReadyH.cons (o := _) rfl (fun K hK => ?_) (AllReadyH.cons (o := _) rfl (fun K hK => ?_) AllReadyH.nil))
    ·
      have n0 := Bu0.c 0 rfl
      have n1 := Bu0.c 1 rfl
      have n2 := Bu0.c 2 rfl
      go_simp
      clear n0 n1 n2
      refine hK.out _ _ hHeld (fun hNew => ?_)
      clear hHeld hK K
      have hHeld := hNew
      clear hNew
      try simp only [Act.put, List.append, PA, set16]
      try simp only [PB]
      refine wpAnyH_ready (rs := [3]) (by kernel_rfl) (by simp) (AllReadyH.cons (o := _) rfl (fun K hK => ?_) AllReadyH.nil)
      go_simp
      refine (two7_any _).mono ?_
      rintro e wt4 hq
      obtain ⟨Pu3, lu3, rfl, hlu3, hdu3, hcu3⟩ := hq
      obtain ⟨xu3, zu3, rfl, eu3, fu3⟩ := two_of hdu3
      have hb3 := hcu3.bb
      have Bu3 : BK _ Pu3 [.int .i64 xu3.len, .slice xu3.K xu3.cuts.length xu3.ck, .slice xu3.Z xu3.dens.length xu3.cz, .int .i64 zu3.len, .slice zu3.K zu3.cuts.length zu3.ck, .slice zu3.Z zu3.dens.length zu3.cz] := bk_row hcu3.row
      have Iu3 := (hcu3.all xu3 (by simp)).isC
      clear hcu3 hdu3 hlu3 fu3
      go_wp2_with fail
      refine hK.out _ _ (hHeld.below hb3) (fun hNew => ?_)
      have cu0 := Bu0.lt
      replace Bu0 := Bu0.keep hb3
      replace Iu0 := Iu0.call hb3
      clear hb3
      clear hHeld hK K
      have hHeld := hNew
      clear hNew
      try simp only [Act.put, List.append, PA, set16]
      try simp only [PB]
      refine wpAnyH_take (i := 4) (oi := _) (v := ?vt5) rfl (by kernel_rfl) (by kernel_rfl) (by kernel_rfl) (fun _ _ _ h => h) (Or.inl ⟨by kernel_rfl, ?hyt5⟩) hHeld ?restt5
      case hyt5 => (intro w hSw; go_simp; first | done | (with_reducible rfl))
      try simp only [Act.put, List.append, PA, set16]
      try simp only [PB]
      refine wpAnyH_ready (rs := [5]) (by kernel_rfl) (by simp) (AllReadyH.cons (o := _) rfl (fun K hK => ?_) AllReadyH.nil)
      have n0 := Bu3.c 0 rfl
      have n1 := Bu3.c 1 rfl
      have n2 := Bu3.c 2 rfl
      go_simp
      clear n0 n1 n2
      refine hK.out _ _ hHeld (fun hNew => ?_)
      clear hHeld hK K
      have hHeld := hNew
      clear hNew
      try simp only [Act.put, List.append, PA, set16]
      try simp only [PB]
      refine wpAnyH_ready (rs := [6]) (by kernel_rfl) (by simp) (AllReadyH.cons (o := _) rfl (fun K hK => ?_) AllReadyH.nil)
      go_simp
      refine hK.out _ _ (hHeld.al _) (fun hNew => ?_)
      have hX : X9.heap.size ≤ wt4.heap.size := hHeld.size
      have du0X := Bu0.lt
      have du3X := Bu3.lt
      clear hHeld hK K
      have hHeld := hNew
      clear hNew
      try simp only [Act.put, List.append, PA, set16]
      try simp only [PB]
      have gXIu0 := Iu0.size
      have gXIu3 := Iu3.size
      refine at_anyH (fun v => GB (fun _ => False) X9 v ∧ BK v (Pu0) [.int .i64 xu0.len, .slice xu0.K xu0.cuts.length xu0.ck, .slice xu0.Z xu0.dens.length xu0.cz, .int .i64 zu0.len, .slice zu0.K zu0.cuts.length zu0.ck, .slice zu0.Z zu0.dens.length zu0.cz] ∧ BK v (Pu3) [.int .i64 xu3.len, .slice xu3.K xu3.cuts.length xu3.ck, .slice xu3.Z xu3.dens.length xu3.cz, .int .i64 zu3.len, .slice zu3.K zu3.cuts.length zu3.ck, .slice zu3.Z zu3.dens.length zu3.cz] ∧ BK v (wt4.heap.size) [.int .i64 xu0.len, .slice xu0.K xu0.cuts.length xu0.ck, .slice xu0.Z xu0.dens.length xu0.cz, .int .i64 xu3.len, .slice xu3.K xu3.cuts.length xu3.ck, .slice xu3.Z xu3.dens.length xu3.cz] ∧ IsC v xu0 ∧ IsC v xu3) ⟨hHeld, Bu0.al _, Bu3.al _, BK.new _ _ _, Iu0.al _, Iu3.al _⟩ (fun wt7 hS => ?_)
      clear hHeld Bu0 Bu3 Iu0 Iu3
      obtain ⟨hHeld, Bu0, Bu3, BX, Iu0, Iu3⟩ := hS
      refine wpAnyH_take (i := 7) (oi := _) (v := ?vt8) rfl (by kernel_rfl) (by kernel_rfl) (by kernel_rfl) (fun _ _ _ h => h) (Or.inl ⟨by kernel_rfl, ?hyt8⟩) hHeld ?restt8
      case hyt8 => (intro w hSw; go_simp; first | done | (with_reducible rfl))
      try simp only [Act.put, List.append, PA, set16]
      try simp only [PB]
      refine wpAnyH_done (by kernel_rfl) ?_ _
      go_wp2_with fail
      go_meet
      exact ⟨_, xu0, xu3, rfl, isCs_bk (cs := [xu0, xu3]) BX (fun c hc => by
        simp at hc
        rcases hc with rfl | rfl
        · exact Iu0
        · exact Iu3) (by unfold maxLen; simp), eu0, eu3, hHeld.toBelow (Below.refl _ _) (fun k hk => hk.elim) (Nat.le_refl _)⟩
    ·
      go_simp
      refine (two7_any _).mono ?_
      rintro e wt9 hq
      obtain ⟨Pu3, lu3, rfl, hlu3, hdu3, hcu3⟩ := hq
      obtain ⟨xu3, zu3, rfl, eu3, fu3⟩ := two_of hdu3
      have hb3 := hcu3.bb
      have Bu3 : BK _ Pu3 [.int .i64 xu3.len, .slice xu3.K xu3.cuts.length xu3.ck, .slice xu3.Z xu3.dens.length xu3.cz, .int .i64 zu3.len, .slice zu3.K zu3.cuts.length zu3.ck, .slice zu3.Z zu3.dens.length zu3.cz] := bk_row hcu3.row
      have Iu3 := (hcu3.all xu3 (by simp)).isC
      clear hcu3 hdu3 hlu3 fu3
      go_wp2_with fail
      refine hK.out _ _ (hHeld.below hb3) (fun hNew => ?_)
      have cu0 := Bu0.lt
      replace Bu0 := Bu0.keep hb3
      replace Iu0 := Iu0.call hb3
      clear hb3
      clear hHeld hK K
      have hHeld := hNew
      clear hNew
      try simp only [Act.put, List.append, PA, set16]
      try simp only [PB]
      refine wpAnyH_take (i := 4) (oi := _) (v := ?vt10) rfl (by kernel_rfl) (by kernel_rfl) (by kernel_rfl) (fun _ _ _ h => h) (Or.inl ⟨by kernel_rfl, ?hyt10⟩) hHeld ?restt10
      case hyt10 => (intro w hSw; go_simp; first | done | (with_reducible rfl))
      try simp only [Act.put, List.append, PA, set16]
      try simp only [PB]
      refine wpAnyH_ready (rs := [2, 5]) (by kernel_rfl) (by simp) (AllReadyH.cons (o := _) rfl (fun K hK => ?_) (AllReadyH.cons (o := _) rfl (fun K hK => ?_) AllReadyH.nil))
      ·
        have n0 := Bu0.c 0 rfl
        have n1 := Bu0.c 1 rfl
        have n2 := Bu0.c 2 rfl
        go_simp
        clear n0 n1 n2
        refine hK.out _ _ hHeld (fun hNew => ?_)
        clear hHeld hK K
        have hHeld := hNew
        clear hNew
        try simp only [Act.put, List.append, PA, set16]
        try simp only [PB]
        refine wpAnyH_ready (rs := [5]) (by kernel_rfl) (by simp) (AllReadyH.cons (o := _) rfl (fun K hK => ?_) AllReadyH.nil)
        have n0 := Bu3.c 0 rfl
        have n1 := Bu3.c 1 rfl
        have n2 := Bu3.c 2 rfl
        go_simp
        clear n0 n1 n2
        refine hK.out _ _ hHeld (fun hNew => ?_)
        clear hHeld hK K
        have hHeld := hNew
        clear hNew
        try simp only [Act.put, List.append, PA, set16]
        try simp only [PB]
        refine wpAnyH_ready (rs := [6]) (by kernel_rfl) (by simp) (AllReadyH.cons (o := _) rfl (fun K hK => ?_) AllReadyH.nil)
        go_simp
        refine hK.out _ _ (hHeld.al _) (fun hNew => ?_)
        have hX : X9.heap.size ≤ wt9.heap.size := hHeld.size
        have du0X := Bu0.lt
        have du3X := Bu3.lt
        clear hHeld hK K
        have hHeld := hNew
        clear hNew
        try simp only [Act.put, List.append, PA, set16]
        try simp only [PB]
        have gXIu0 := Iu0.size
        have gXIu3 := Iu3.size
        refine at_anyH (fun v => GB (fun _ => False) X9 v ∧ BK v (Pu0) [.int .i64 xu0.len, .slice xu0.K xu0.cuts.length xu0.ck, .slice xu0.Z xu0.dens.length xu0.cz, .int .i64 zu0.len, .slice zu0.K zu0.cuts.length zu0.ck, .slice zu0.Z zu0.dens.length zu0.cz] ∧ BK v (Pu3) [.int .i64 xu3.len, .slice xu3.K xu3.cuts.length xu3.ck, .slice xu3.Z xu3.dens.length xu3.cz, .int .i64 zu3.len, .slice zu3.K zu3.cuts.length zu3.ck, .slice zu3.Z zu3.dens.length zu3.cz] ∧ BK v (wt9.heap.size) [.int .i64 xu0.len, .slice xu0.K xu0.cuts.length xu0.ck, .slice xu0.Z xu0.dens.length xu0.cz, .int .i64 xu3.len, .slice xu3.K xu3.cuts.length xu3.ck, .slice xu3.Z xu3.dens.length xu3.cz] ∧ IsC v xu0 ∧ IsC v xu3) ⟨hHeld, Bu0.al _, Bu3.al _, BK.new _ _ _, Iu0.al _, Iu3.al _⟩ (fun wt13 hS => ?_)
        clear hHeld Bu0 Bu3 Iu0 Iu3
        obtain ⟨hHeld, Bu0, Bu3, BX, Iu0, Iu3⟩ := hS
        refine wpAnyH_take (i := 7) (oi := _) (v := ?vt14) rfl (by kernel_rfl) (by kernel_rfl) (by kernel_rfl) (fun _ _ _ h => h) (Or.inl ⟨by kernel_rfl, ?hyt14⟩) hHeld ?restt14
        case hyt14 => (intro w hSw; go_simp; first | done | (with_reducible rfl))
        try simp only [Act.put, List.append, PA, set16]
        try simp only [PB]
        refine wpAnyH_done (by kernel_rfl) ?_ _
        go_wp2_with fail
        go_meet
        exact ⟨_, xu0, xu3, rfl, isCs_bk (cs := [xu0, xu3]) BX (fun c hc => by
          simp at hc
          rcases hc with rfl | rfl
          · exact Iu0
          · exact Iu3) (by unfold maxLen; simp), eu0, eu3, hHeld.toBelow (Below.refl _ _) (fun k hk => hk.elim) (Nat.le_refl _)⟩
      ·
        have n0 := Bu3.c 0 rfl
        have n1 := Bu3.c 1 rfl
        have n2 := Bu3.c 2 rfl
        go_simp
        clear n0 n1 n2
        refine hK.out _ _ hHeld (fun hNew => ?_)
        clear hHeld hK K
        have hHeld := hNew
        clear hNew
        try simp only [Act.put, List.append, PA, set16]
        try simp only [PB]
        refine wpAnyH_ready (rs := [2]) (by kernel_rfl) (by simp) (AllReadyH.cons (o := _) rfl (fun K hK => ?_) AllReadyH.nil)
        have n0 := Bu0.c 0 rfl
        have n1 := Bu0.c 1 rfl
        have n2 := Bu0.c 2 rfl
        go_simp
        clear n0 n1 n2
        refine hK.out _ _ hHeld (fun hNew => ?_)
        clear hHeld hK K
        have hHeld := hNew
        clear hNew
        try simp only [Act.put, List.append, PA, set16]
        try simp only [PB]
        refine wpAnyH_ready (rs := [6]) (by kernel_rfl) (by simp) (AllReadyH.cons (o := _) rfl (fun K hK => ?_) AllReadyH.nil)
        go_simp
        refine hK.out _ _ (hHeld.al _) (fun hNew => ?_)
        have hX : X9.heap.size ≤ wt9.heap.size := hHeld.size
        have du0X := Bu0.lt
        have du3X := Bu3.lt
        clear hHeld hK K
        have hHeld := hNew
        clear hNew
        try simp only [Act.put, List.append, PA, set16]
        try simp only [PB]
        have gXIu0 := Iu0.size
        have gXIu3 := Iu3.size
        refine at_anyH (fun v => GB (fun _ => False) X9 v ∧ BK v (Pu0) [.int .i64 xu0.len, .slice xu0.K xu0.cuts.length xu0.ck, .slice xu0.Z xu0.dens.length xu0.cz, .int .i64 zu0.len, .slice zu0.K zu0.cuts.length zu0.ck, .slice zu0.Z zu0.dens.length zu0.cz] ∧ BK v (Pu3) [.int .i64 xu3.len, .slice xu3.K xu3.cuts.length xu3.ck, .slice xu3.Z xu3.dens.length xu3.cz, .int .i64 zu3.len, .slice zu3.K zu3.cuts.length zu3.ck, .slice zu3.Z zu3.dens.length zu3.cz] ∧ BK v (wt9.heap.size) [.int .i64 xu0.len, .slice xu0.K xu0.cuts.length xu0.ck, .slice xu0.Z xu0.dens.length xu0.cz, .int .i64 xu3.len, .slice xu3.K xu3.cuts.length xu3.ck, .slice xu3.Z xu3.dens.length xu3.cz] ∧ IsC v xu0 ∧ IsC v xu3) ⟨hHeld, Bu0.al _, Bu3.al _, BK.new _ _ _, Iu0.al _, Iu3.al _⟩ (fun wt17 hS => ?_)
        clear hHeld Bu0 Bu3 Iu0 Iu3
        obtain ⟨hHeld, Bu0, Bu3, BX, Iu0, Iu3⟩ := hS
        refine wpAnyH_take (i := 7) (oi := _) (v := ?vt18) rfl (by kernel_rfl) (by kernel_rfl) (by kernel_rfl) (fun _ _ _ h => h) (Or.inl ⟨by kernel_rfl, ?hyt18⟩) hHeld ?restt18
        case hyt18 => (intro w hSw; go_simp; first | done | (with_reducible rfl))
        try simp only [Act.put, List.append, PA, set16]
        try simp only [PB]
        refine wpAnyH_done (by kernel_rfl) ?_ _
        go_wp2_with fail
        go_meet
        exact ⟨_, xu0, xu3, rfl, isCs_bk (cs := [xu0, xu3]) BX (fun c hc => by
          simp at hc
          rcases hc with rfl | rfl
          · exact Iu0
          · exact Iu3) (by unfold maxLen; simp), eu0, eu3, hHeld.toBelow (Below.refl _ _) (fun k hk => hk.elim) (Nat.le_refl _)⟩
  case rest =>
    obtain ⟨gS, cS, dS, rfl, hcS, ecS, edS, hb⟩ := hcut
    replace V0 := V0.keep hb
    replace S0 := S0.keep hb
    replace V1 := V1.keep hb
    replace S1 := S1.keep hb
    replace V2 := V2.keep hb
    replace S2 := S2.keep hb
    replace SG := SG.keep hb
    replace hbb := keepB hbb hb
    clear hb
    have hDS : [cS, dS].map Ak.dat = [(2, [0, 2], [1]), (2, [0, 2], [1])] := by simp [ecS, edS]
    have RS := Lib.hid (fun v (h : IsCs v (some ⟨gS, 0, none⟩) [cS, dS]) => show Calls Try.prog 33 #[.slice (some ⟨gS, 0, none⟩) 2 2, .int .i64 1] v (RunQ [⟨1, 2, 0, 1, 1, 1, 1, 1⟩, ⟨0, 1, 0, 1, 1, 1, 1, 1⟩] 0 1 1 1 1 1 2 1 v) from al7_2.run1 (by decide +kernel) rfl 2 rfl (some ⟨gS, 0, none⟩) 2 [cS, dS] v h hDS)
    go_wp2_with fail
    refine (RS.out _ hcS).mono ?_
    rintro e wq ⟨Pr, gr, kr, Qr, nr, cqr, rfl, hb, hnr, hqr, hdr⟩
    have hdr0 := hdr.mono (Nat.zero_le _)
    clear hnr hqr hdr hcS RS hDS ecS edS
    replace V0 := V0.keep hb
    replace S0 := S0.keep hb
    replace V1 := V1.keep hb
    replace S1 := S1.keep hb
    replace V2 := V2.keep hb
    replace S2 := S2.keep hb
    replace SG := SG.keep hb
    replace hbb := keepB hbb hb
    clear hb
    go_upto_region 11 with fail
    refine at_worldQ (fun v => Below w.heap.size w v ∧ w.heap.size ≤ v.heap.size ∧ Vl [(2, [0, 2], [1]), (2, [0, 1, 2], [3, 1])] [] A0 m0 B0 0 k0 v ∧ BK v ps0 [.slice A0 m0 ca0, .slice B0 0 cq0, .int .i64 1, .int .i64 0, .int .i64 0, .int .i64 1, .bool false] ∧ Vl [(2, [0, 2], [1]), (2, [0, 1, 2], [3, 1])] [⟨1, 2, 0, 1, 2, 1, 2, 3⟩] A1 m1 B1 1 k1 v ∧ BK v p4 [.slice A1 m1 ca1, .slice B1 1 cq1, .int .i64 1, .int .i64 1, .int .i64 2, .int .i64 3, .bool false] ∧ Vl [(2, [0, 2], [1]), (2, [0, 1, 2], [3, 1])] [⟨1, 2, 0, 1, 2, 1, 2, 3⟩, ⟨0, 1, 0, 1, 2, 3, 2, 3⟩] A2 m2 B2 2 k2 v ∧ BK v p6 [.slice A2 m2 ca2, .slice B2 2 cq2, .int .i64 1, .int .i64 2, .int .i64 2, .int .i64 3, .bool false] ∧ BK v p8 [.slice (some ⟨Pg, 0, none⟩) 2 2] ∧ DivB 0 Pr gr kr 0 1 1 1 1 1 2 1 v ∧ BK v wq.heap.size [.slice (some ⟨Pr, 0, none⟩) 2 2]) ⟨(below_al hbb _), Below.size (B := w.heap.size) (w := w) (below_al hbb _), V0.keep (below_al (Below.refl _ _) _), S0.keep (below_al (Below.refl _ _) _), V1.keep (below_al (Below.refl _ _) _), S1.keep (below_al (Below.refl _ _) _), V2.keep (below_al (Below.refl _ _) _), S2.keep (below_al (Below.refl _ _) _), SG.keep (below_al (Below.refl _ _) _), hdr0.call (below_al (Below.refl _ _) _), BK.new _ _ _⟩ (fun X11 hS => ?_)
    clear hbb V0 S0 V1 S1 V2 S2 SG hdr0 hBV
    obtain ⟨hbb, hBV, V0, S0, V1, S1, V2, S2, SG, hdr0, SR⟩ := hS
    generalize wq.heap.size = pr at *
    have s0 := S2.c 0 rfl
    have s1 := S2.c 1 rfl
    have s2 := S2.c 2 rfl
    have s3 := S2.c 3 rfl
    have s4 := S2.c 4 rfl
    have s5 := S2.c 5 rfl
    have s6 := S2.c 6 rfl
    go_cut [20, 21] (fun x z v => ∃ (p q : Nat), x = .pointer (some ⟨p, 0, none⟩) ∧ z = .pointer (some ⟨q, 0, none⟩) ∧ BK v p [.slice A2 m2 ca2, .slice B2 2 cq2, .int .i64 1, .int .i64 2, .int .i64 2, .int .i64 3, .bool false] ∧ BK v q [.slice A2 m2 ca2, .slice B2 2 cq2, .int .i64 1, .int .i64 2, .int .i64 2, .int .i64 3, .bool false] ∧ X11.heap.size ≤ p ∧ X11.heap.size ≤ q ∧ p ≠ q ∧ Below X11.heap.size X11 v)
    case first =>
      refine wp_region_held_drew (S := (GB (fun _ => False) X11)) (by kernel_rfl) ((GB.refl _ _).drew) (fun hHeld => ?_)
      refine at_anyH (fun v => GB (fun _ => False) X11 v) hHeld (fun wu0 hNew => ?_)
      clear hHeld
      have hHeld := hNew
      clear hNew
      refine wpAnyH_take (i := 0) (oi := _) (v := ?vu1) rfl (by kernel_rfl) (by kernel_rfl) (by kernel_rfl) (fun _ _ _ h => h) (Or.inl ⟨by kernel_rfl, ?hyu1⟩) hHeld ?restu1
      case hyu1 => (intro w hSw; have ks0 := hSw.cell (fun h => h) s0; have ks1 := hSw.cell (fun h => h) s1; have ks2 := hSw.cell (fun h => h) s2; have ks3 := hSw.cell (fun h => h) s3; have ks4 := hSw.cell (fun h => h) s4; have ks5 := hSw.cell (fun h => h) s5; have ks6 := hSw.cell (fun h => h) s6; go_simp; first | done | (with_reducible rfl))
      try simp only [Act.put, List.append, PA, set16]
      try simp only [PB]
      refine wpAnyH_take (i := 1) (oi := _) (v := ?vu2) rfl (by kernel_rfl) (by kernel_rfl) (by kernel_rfl) (fun _ _ _ h => h) (Or.inl ⟨by kernel_rfl, ?hyu2⟩) hHeld ?restu2
      case hyu2 => (intro w hSw; have ks0 := hSw.cell (fun h => h) s0; have ks1 := hSw.cell (fun h => h) s1; have ks2 := hSw.cell (fun h => h) s2; have ks3 := hSw.cell (fun h => h) s3; have ks4 := hSw.cell (fun h => h) s4; have ks5 := hSw.cell (fun h => h) s5; have ks6 := hSw.cell (fun h => h) s6; go_simp; first | done | (with_reducible rfl))
      try simp only [Act.put, List.append, PA, set16]
      try simp only [PB]
      refine wpAnyH_ready (rs := [2, 3]) (by kernel_rfl) (by simp) (AllReadyH.cons (o := _) rfl (fun K hK => ?_) (AllReadyH.cons (o := _) rfl (fun K hK => ?_) AllReadyH.nil))
      ·
        go_simp
        refine hK.out _ _ (hHeld.al _) (fun hNew => ?_)
        have hX : X11.heap.size ≤ wu0.heap.size := hHeld.size
        clear hHeld hK K
        have hHeld := hNew
        clear hNew
        try simp only [Act.put, List.append, PA, set16]
        try simp only [PB]
        refine at_anyH (fun v => GB (fun _ => False) X11 v ∧ BK v (wu0.heap.size) [.slice none 0 0, .slice none 0 0, .int .i64 0, .int .i64 0, .int .i64 0, .int .i64 0, .bool false]) ⟨hHeld, BK.new _ _ _⟩ (fun wu3 hS => ?_)
        clear hHeld
        obtain ⟨hHeld, BX⟩ := hS
        refine wpAnyH_ready (rs := [3]) (by kernel_rfl) (by simp) (AllReadyH.cons (o := _) rfl (fun K hK => ?_) AllReadyH.nil)
        go_simp
        refine hK.out _ _ (hHeld.al _) (fun hNew => ?_)
        have hY : X11.heap.size ≤ wu3.heap.size := hHeld.size
        have dXY := BX.lt
        clear hHeld hK K
        have hHeld := hNew
        clear hNew
        try simp only [Act.put, List.append, PA, set16]
        try simp only [PB]
        refine at_anyH (fun v => GB (fun _ => False) X11 v ∧ BK v (wu0.heap.size) [.slice none 0 0, .slice none 0 0, .int .i64 0, .int .i64 0, .int .i64 0, .int .i64 0, .bool false] ∧ BK v (wu3.heap.size) [.slice none 0 0, .slice none 0 0, .int .i64 0, .int .i64 0, .int .i64 0, .int .i64 0, .bool false]) ⟨hHeld, BX.al _, BK.new _ _ _⟩ (fun wu4 hS => ?_)
        clear hHeld BX
        obtain ⟨hHeld, BX, BY⟩ := hS
        refine wpAnyH_ready (rs := [4]) (by kernel_rfl) (by simp) (AllReadyH.cons (o := _) rfl (fun K hK => ?_) AllReadyH.nil)
        have n0 := BX.c 0 rfl
        have f0 := BX.f 0 rfl
        have n1 := BX.c 1 rfl
        have f1 := BX.f 1 rfl
        have n2 := BX.c 2 rfl
        have f2 := BX.f 2 rfl
        have n3 := BX.c 3 rfl
        have f3 := BX.f 3 rfl
        have n4 := BX.c 4 rfl
        have f4 := BX.f 4 rfl
        have n5 := BX.c 5 rfl
        have f5 := BX.f 5 rfl
        have n6 := BX.c 6 rfl
        have f6 := BX.f 6 rfl
        go_simp
        clear n0 f0 n1 f1 n2 f2 n3 f3 n4 f4 n5 f5 n6 f6
        refine hK.out _ _ (((((((hHeld.set (.inr hX) _).set (.inr hX) _).set (.inr hX) _).set (.inr hX) _).set (.inr hX) _).set (.inr hX) _).set (.inr hX) _) (fun hNew => ?_)
        clear hHeld hK K
        have hHeld := hNew
        clear hNew
        try simp only [Act.put, List.append, PA, set16]
        try simp only [PB]
        refine at_anyH (fun v => GB (fun _ => False) X11 v ∧ BK v (wu0.heap.size) [.slice A2 m2 ca2, .slice B2 2 cq2, .int .i64 1, .int .i64 2, .int .i64 2, .int .i64 3, .bool false] ∧ BK v (wu3.heap.size) [.slice none 0 0, .slice none 0 0, .int .i64 0, .int .i64 0, .int .i64 0, .int .i64 0, .bool false]) ⟨hHeld, (((((((BX.set 0 _).set 1 _).set 2 _).set 3 _).set 4 _).set 5 _).set 6 _), (((((((BY.far (by omega) _ _).far (by omega) _ _).far (by omega) _ _).far (by omega) _ _).far (by omega) _ _).far (by omega) _ _).far (by omega) _ _)⟩ (fun wu5 hS => ?_)
        clear hHeld BX BY
        obtain ⟨hHeld, BX, BY⟩ := hS
        refine wpAnyH_ready (rs := [5]) (by kernel_rfl) (by simp) (AllReadyH.cons (o := _) rfl (fun K hK => ?_) AllReadyH.nil)
        have n0 := BY.c 0 rfl
        have f0 := BY.f 0 rfl
        have n1 := BY.c 1 rfl
        have f1 := BY.f 1 rfl
        have n2 := BY.c 2 rfl
        have f2 := BY.f 2 rfl
        have n3 := BY.c 3 rfl
        have f3 := BY.f 3 rfl
        have n4 := BY.c 4 rfl
        have f4 := BY.f 4 rfl
        have n5 := BY.c 5 rfl
        have f5 := BY.f 5 rfl
        have n6 := BY.c 6 rfl
        have f6 := BY.f 6 rfl
        go_simp
        clear n0 f0 n1 f1 n2 f2 n3 f3 n4 f4 n5 f5 n6 f6
        refine hK.out _ _ (((((((hHeld.set (.inr hY) _).set (.inr hY) _).set (.inr hY) _).set (.inr hY) _).set (.inr hY) _).set (.inr hY) _).set (.inr hY) _) (fun hNew => ?_)
        clear hHeld hK K
        have hHeld := hNew
        clear hNew
        try simp only [Act.put, List.append, PA, set16]
        try simp only [PB]
        refine at_anyH (fun v => GB (fun _ => False) X11 v ∧ BK v (wu0.heap.size) [.slice A2 m2 ca2, .slice B2 2 cq2, .int .i64 1, .int .i64 2, .int .i64 2, .int .i64 3, .bool false] ∧ BK v (wu3.heap.size) [.slice A2 m2 ca2, .slice B2 2 cq2, .int .i64 1, .int .i64 2, .int .i64 2, .int .i64 3, .bool false]) ⟨hHeld, (((((((BX.far (by omega) _ _).far (by omega) _ _).far (by omega) _ _).far (by omega) _ _).far (by omega) _ _).far (by omega) _ _).far (by omega) _ _), (((((((BY.set 0 _).set 1 _).set 2 _).set 3 _).set 4 _).set 5 _).set 6 _)⟩ (fun wu6 hS => ?_)
        clear hHeld BX BY
        obtain ⟨hHeld, BX, BY⟩ := hS
        refine wpAnyH_done (by kernel_rfl) ?_ _
        go_wp2_with fail
        go_meet
        exact ⟨_, _, rfl, rfl, BX, BY, hX, hY, by omega, hHeld.toBelow (Below.refl _ _) (fun k hk => hk.elim) (Nat.le_refl _)⟩
      ·
        go_simp
        refine hK.out _ _ (hHeld.al _) (fun hNew => ?_)
        have hY : X11.heap.size ≤ wu0.heap.size := hHeld.size
        clear hHeld hK K
        have hHeld := hNew
        clear hNew
        try simp only [Act.put, List.append, PA, set16]
        try simp only [PB]
        refine at_anyH (fun v => GB (fun _ => False) X11 v ∧ BK v (wu0.heap.size) [.slice none 0 0, .slice none 0 0, .int .i64 0, .int .i64 0, .int .i64 0, .int .i64 0, .bool false]) ⟨hHeld, BK.new _ _ _⟩ (fun wu7 hS => ?_)
        clear hHeld
        obtain ⟨hHeld, BY⟩ := hS
        refine wpAnyH_ready (rs := [2]) (by kernel_rfl) (by simp) (AllReadyH.cons (o := _) rfl (fun K hK => ?_) AllReadyH.nil)
        go_simp
        refine hK.out _ _ (hHeld.al _) (fun hNew => ?_)
        have hX : X11.heap.size ≤ wu7.heap.size := hHeld.size
        have dYX := BY.lt
        clear hHeld hK K
        have hHeld := hNew
        clear hNew
        try simp only [Act.put, List.append, PA, set16]
        try simp only [PB]
        refine at_anyH (fun v => GB (fun _ => False) X11 v ∧ BK v (wu0.heap.size) [.slice none 0 0, .slice none 0 0, .int .i64 0, .int .i64 0, .int .i64 0, .int .i64 0, .bool false] ∧ BK v (wu7.heap.size) [.slice none 0 0, .slice none 0 0, .int .i64 0, .int .i64 0, .int .i64 0, .int .i64 0, .bool false]) ⟨hHeld, BY.al _, BK.new _ _ _⟩ (fun wu8 hS => ?_)
        clear hHeld BY
        obtain ⟨hHeld, BY, BX⟩ := hS
        refine wpAnyH_ready (rs := [4]) (by kernel_rfl) (by simp) (AllReadyH.cons (o := _) rfl (fun K hK => ?_) AllReadyH.nil)
        have n0 := BX.c 0 rfl
        have f0 := BX.f 0 rfl
        have n1 := BX.c 1 rfl
        have f1 := BX.f 1 rfl
        have n2 := BX.c 2 rfl
        have f2 := BX.f 2 rfl
        have n3 := BX.c 3 rfl
        have f3 := BX.f 3 rfl
        have n4 := BX.c 4 rfl
        have f4 := BX.f 4 rfl
        have n5 := BX.c 5 rfl
        have f5 := BX.f 5 rfl
        have n6 := BX.c 6 rfl
        have f6 := BX.f 6 rfl
        go_simp
        clear n0 f0 n1 f1 n2 f2 n3 f3 n4 f4 n5 f5 n6 f6
        refine hK.out _ _ (((((((hHeld.set (.inr hX) _).set (.inr hX) _).set (.inr hX) _).set (.inr hX) _).set (.inr hX) _).set (.inr hX) _).set (.inr hX) _) (fun hNew => ?_)
        clear hHeld hK K
        have hHeld := hNew
        clear hNew
        try simp only [Act.put, List.append, PA, set16]
        try simp only [PB]
        refine at_anyH (fun v => GB (fun _ => False) X11 v ∧ BK v (wu0.heap.size) [.slice none 0 0, .slice none 0 0, .int .i64 0, .int .i64 0, .int .i64 0, .int .i64 0, .bool false] ∧ BK v (wu7.heap.size) [.slice A2 m2 ca2, .slice B2 2 cq2, .int .i64 1, .int .i64 2, .int .i64 2, .int .i64 3, .bool false]) ⟨hHeld, (((((((BY.far (by omega) _ _).far (by omega) _ _).far (by omega) _ _).far (by omega) _ _).far (by omega) _ _).far (by omega) _ _).far (by omega) _ _), (((((((BX.set 0 _).set 1 _).set 2 _).set 3 _).set 4 _).set 5 _).set 6 _)⟩ (fun wu9 hS => ?_)
        clear hHeld BY BX
        obtain ⟨hHeld, BY, BX⟩ := hS
        refine wpAnyH_ready (rs := [5]) (by kernel_rfl) (by simp) (AllReadyH.cons (o := _) rfl (fun K hK => ?_) AllReadyH.nil)
        have n0 := BY.c 0 rfl
        have f0 := BY.f 0 rfl
        have n1 := BY.c 1 rfl
        have f1 := BY.f 1 rfl
        have n2 := BY.c 2 rfl
        have f2 := BY.f 2 rfl
        have n3 := BY.c 3 rfl
        have f3 := BY.f 3 rfl
        have n4 := BY.c 4 rfl
        have f4 := BY.f 4 rfl
        have n5 := BY.c 5 rfl
        have f5 := BY.f 5 rfl
        have n6 := BY.c 6 rfl
        have f6 := BY.f 6 rfl
        go_simp
        clear n0 f0 n1 f1 n2 f2 n3 f3 n4 f4 n5 f5 n6 f6
        refine hK.out _ _ (((((((hHeld.set (.inr hY) _).set (.inr hY) _).set (.inr hY) _).set (.inr hY) _).set (.inr hY) _).set (.inr hY) _).set (.inr hY) _) (fun hNew => ?_)
        clear hHeld hK K
        have hHeld := hNew
        clear hNew
        try simp only [Act.put, List.append, PA, set16]
        try simp only [PB]
        refine at_anyH (fun v => GB (fun _ => False) X11 v ∧ BK v (wu0.heap.size) [.slice A2 m2 ca2, .slice B2 2 cq2, .int .i64 1, .int .i64 2, .int .i64 2, .int .i64 3, .bool false] ∧ BK v (wu7.heap.size) [.slice A2 m2 ca2, .slice B2 2 cq2, .int .i64 1, .int .i64 2, .int .i64 2, .int .i64 3, .bool false]) ⟨hHeld, (((((((BY.set 0 _).set 1 _).set 2 _).set 3 _).set 4 _).set 5 _).set 6 _), (((((((BX.far (by omega) _ _).far (by omega) _ _).far (by omega) _ _).far (by omega) _ _).far (by omega) _ _).far (by omega) _ _).far (by omega) _ _)⟩ (fun wu10 hS => ?_)
        clear hHeld BY BX
        obtain ⟨hHeld, BY, BX⟩ := hS
        refine wpAnyH_done (by kernel_rfl) ?_ _
        go_wp2_with fail
        go_meet
        exact ⟨_, _, rfl, rfl, BX, BY, hX, hY, by omega, hHeld.toBelow (Below.refl _ _) (fun k hk => hk.elim) (Nat.le_refl _)⟩
    case rest =>
      obtain ⟨pw, pe, rfl, rfl, BW, BE, hpw, hpe, hne, hb⟩ := hcut
      clear s0 s1 s2 s3 s4 s5 s6
      have w6 := BW.c 6 rfl
      have w6f := BW.f 6 rfl
      have e3 := BE.c 3 rfl
      have e3f := BE.f 3 rfl
      go_upto_region 13 with fail
      refine at_worldQ (fun v => Below X11.heap.size X11 v ∧ BK v pw [.slice A2 m2 ca2, .slice B2 2 cq2, .int .i64 1, .int .i64 2, .int .i64 2, .int .i64 3, .bool true] ∧ BK v pe [.slice A2 m2 ca2, .slice B2 2 cq2, .int .i64 1, .int .i64 1, .int .i64 2, .int .i64 3, .bool false]) ⟨below_set (below_set hb hpw _) hpe _, (BW.set 6 _).far (by omega) _ _, (BE.far (by omega) _ _).set 3 _⟩ (fun X13 hS => ?_)
      clear hb BW BE w6 w6f e3 e3f
      obtain ⟨hb, BW, BE⟩ := hS
      have S2' := S2.keep hb
      have s0 := S2'.c 0 rfl
      have s1 := S2'.c 1 rfl
      have s2 := S2'.c 2 rfl
      have s3 := S2'.c 3 rfl
      have s4 := S2'.c 4 rfl
      have s5 := S2'.c 5 rfl
      have s6 := S2'.c 6 rfl
      go_upto_region 14 with fail
      have hx := hb.size
      refine at_worldQ (fun v => Below X11.heap.size X11 v ∧ BK v pw [.slice A2 m2 ca2, .slice B2 2 cq2, .int .i64 1, .int .i64 2, .int .i64 2, .int .i64 3, .bool true] ∧ BK v pe [.slice A2 m2 ca2, .slice B2 2 cq2, .int .i64 1, .int .i64 1, .int .i64 2, .int .i64 3, .bool false] ∧ BK v X13.heap.size [.slice A2 m2 ca2, .slice B2 2 cq2, .int .i64 1, .int .i64 2, .int .i64 2, .int .i64 3, .bool false]) ⟨below_al hb _, BW.al _, BE.al _, BK.new _ _ _⟩ (fun X14 hS => ?_)
      have d1 := BW.lt
      have d2 := BE.lt
      clear hb BW BE s0 s1 s2 s3 s4 s5 s6 S2'
      obtain ⟨hb, BW, BE, BR⟩ := hS
      generalize X13.heap.size = pb at *
      have r1 := BR.c 1 rfl
      have r1f := BR.f 1 rfl
      go_upto_region 15 with fail
      refine at_worldQ (fun v => Below X11.heap.size X11 v ∧ BK v pw [.slice A2 m2 ca2, .slice B2 2 cq2, .int .i64 1, .int .i64 2, .int .i64 2, .int .i64 3, .bool true] ∧ BK v pe [.slice A2 m2 ca2, .slice B2 2 cq2, .int .i64 1, .int .i64 1, .int .i64 2, .int .i64 3, .bool false] ∧ BK v pb [.slice A2 m2 ca2, .slice none 0 0, .int .i64 1, .int .i64 2, .int .i64 2, .int .i64 3, .bool false]) ⟨below_set hb hx _, BW.far (by omega) _ _, BE.far (by omega) _ _, BR.set 1 _⟩ (fun X15 hS => ?_)
      clear hb BW BE BR r1 r1f
      obtain ⟨hb, BW, BE, BR⟩ := hS
      replace V0 := V0.keep hb
      replace S0 := S0.keep hb
      replace V1 := V1.keep hb
      replace S1 := S1.keep hb
      replace V2 := V2.keep hb
      replace S2 := S2.keep hb
      replace SG := SG.keep hb
      replace hdr0 := hdr0.call hb
      replace SR := SR.keep hb
      replace hbb := keepB hbb hb
      clear hb
      go_wp2_with fail
      refine (two7_any _).mono ?_
      rintro e wt ⟨Pt, lt, rfl, hlt, hdt, hct⟩
      obtain ⟨c, d, rfl, ec, ed⟩ := two_of hdt
      have hcs : IsCs wt (some ⟨Pt, 0, none⟩) [c, d] := hct.isCs rfl (by unfold maxLen; omega)
      have hb := hct.bb
      clear hct hlt
      replace V0 := V0.keep hb
      replace S0 := S0.keep hb
      replace V1 := V1.keep hb
      replace S1 := S1.keep hb
      replace V2 := V2.keep hb
      replace S2 := S2.keep hb
      replace SG := SG.keep hb
      replace hdr0 := hdr0.call hb
      replace SR := SR.keep hb
      replace BW := BW.keep hb
      replace BE := BE.keep hb
      replace BR := BR.keep hb
      replace hbb := keepB hbb hb
      clear hb
      have CC := Lib.hid (start_err (some ⟨Pt, 0, none⟩) 1 2 0 2 wt (fun v hv => reached_arg (some ⟨Pt, 0, none⟩) 2 [c] 0 0 v (hcs.pre.keep hv) (by rw [List.map_cons, List.map_nil, ec]; exact one_chk) (by simp)))
      go_wp2_with fail
      refine (CC.out).mono ?_
      rintro e wq ⟨rfl, hb⟩
      clear CC
      replace V0 := V0.keep hb
      replace S0 := S0.keep hb
      replace V1 := V1.keep hb
      replace S1 := S1.keep hb
      replace V2 := V2.keep hb
      replace S2 := S2.keep hb
      replace SG := SG.keep hb
      replace hdr0 := hdr0.call hb
      replace SR := SR.keep hb
      replace BW := BW.keep hb
      replace BE := BE.keep hb
      replace BR := BR.keep hb
      replace hbb := keepB hbb hb
      clear hb
      clear hcs hdt ec ed
      go_upto_region 16 with fail
      refine at_worldQ (fun v => Below w.heap.size w v ∧ w.heap.size ≤ v.heap.size ∧ Vl [(2, [0, 2], [1]), (2, [0, 1, 2], [3, 1])] [] A0 m0 B0 0 k0 v ∧ BK v ps0 [.slice A0 m0 ca0, .slice B0 0 cq0, .int .i64 1, .int .i64 0, .int .i64 0, .int .i64 1, .bool false] ∧ Vl [(2, [0, 2], [1]), (2, [0, 1, 2], [3, 1])] [⟨1, 2, 0, 1, 2, 1, 2, 3⟩] A1 m1 B1 1 k1 v ∧ BK v p4 [.slice A1 m1 ca1, .slice B1 1 cq1, .int .i64 1, .int .i64 1, .int .i64 2, .int .i64 3, .bool false] ∧ Vl [(2, [0, 2], [1]), (2, [0, 1, 2], [3, 1])] [⟨1, 2, 0, 1, 2, 1, 2, 3⟩, ⟨0, 1, 0, 1, 2, 3, 2, 3⟩] A2 m2 B2 2 k2 v ∧ BK v p6 [.slice A2 m2 ca2, .slice B2 2 cq2, .int .i64 1, .int .i64 2, .int .i64 2, .int .i64 3, .bool false] ∧ BK v p8 [.slice (some ⟨Pg, 0, none⟩) 2 2] ∧ DivB 0 Pr gr kr 0 1 1 1 1 1 2 1 v ∧ BK v pr [.slice (some ⟨Pr, 0, none⟩) 2 2] ∧ BK v pw [.slice A2 m2 ca2, .slice B2 2 cq2, .int .i64 1, .int .i64 2, .int .i64 2, .int .i64 3, .bool true] ∧ BK v pe [.slice A2 m2 ca2, .slice B2 2 cq2, .int .i64 1, .int .i64 1, .int .i64 2, .int .i64 3, .bool false] ∧ BK v pb [.slice A2 m2 ca2, .slice none 0 0, .int .i64 1, .int .i64 2, .int .i64 2, .int .i64 3, .bool false]) ⟨(below_al hbb _), Below.size (B := w.heap.size) (w := w) (below_al hbb _), V0.keep (below_al (Below.refl _ _) _), S0.keep (below_al (Below.refl _ _) _), V1.keep (below_al (Below.refl _ _) _), S1.keep (below_al (Below.refl _ _) _), V2.keep (below_al (Below.refl _ _) _), S2.keep (below_al (Below.refl _ _) _), SG.keep (below_al (Below.refl _ _) _), hdr0.call (below_al (Below.refl _ _) _), SR.keep (below_al (Below.refl _ _) _), BW.keep (below_al (Below.refl _ _) _), BE.keep (below_al (Below.refl _ _) _), BR.keep (below_al (Below.refl _ _) _)⟩ (fun X16 hS => ?_)
      clear hbb V0 S0 V1 S1 V2 S2 SG hdr0 SR BW BE BR hBV
      obtain ⟨hbb, hBV, V0, S0, V1, S1, V2, S2, SG, hdr0, SR, BW, BE, BR⟩ := hS
      go_wp2_with fail
      refine (two7_any _).mono ?_
      rintro e wt ⟨Pt, lt, rfl, hlt, hdt, hct⟩
      obtain ⟨c, d, rfl, ec, ed⟩ := two_of hdt
      have hcs : IsCs wt (some ⟨Pt, 0, none⟩) [c, d] := hct.isCs rfl (by unfold maxLen; omega)
      have hb := hct.bb
      clear hct hlt
      replace V0 := V0.keep hb
      replace S0 := S0.keep hb
      replace V1 := V1.keep hb
      replace S1 := S1.keep hb
      replace V2 := V2.keep hb
      replace S2 := S2.keep hb
      replace SG := SG.keep hb
      replace hdr0 := hdr0.call hb
      replace SR := SR.keep hb
      replace BW := BW.keep hb
      replace BE := BE.keep hb
      replace BR := BR.keep hb
      replace hbb := keepB hbb hb
      clear hb
      have CC := Lib.hid (start_err (some ⟨Pt, 0, none⟩) 2 2 2 2 wt (fun v hv => reached_arg (some ⟨Pt, 0, none⟩) 2 [c, d] 2 0 v (hcs.keep hv) (by rw [hdt]; exact al7_chk) (by simp)))
      go_wp2_with fail
      refine (CC.out).mono ?_
      rintro e wq ⟨rfl, hb⟩
      clear CC
      replace V0 := V0.keep hb
      replace S0 := S0.keep hb
      replace V1 := V1.keep hb
      replace S1 := S1.keep hb
      replace V2 := V2.keep hb
      replace S2 := S2.keep hb
      replace SG := SG.keep hb
      replace hdr0 := hdr0.call hb
      replace SR := SR.keep hb
      replace BW := BW.keep hb
      replace BE := BE.keep hb
      replace BR := BR.keep hb
      replace hbb := keepB hbb hb
      clear hb
      clear hcs hdt ec ed
      go_upto_region 17 with fail
      refine at_worldQ (fun v => Below w.heap.size w v ∧ w.heap.size ≤ v.heap.size ∧ Vl [(2, [0, 2], [1]), (2, [0, 1, 2], [3, 1])] [] A0 m0 B0 0 k0 v ∧ BK v ps0 [.slice A0 m0 ca0, .slice B0 0 cq0, .int .i64 1, .int .i64 0, .int .i64 0, .int .i64 1, .bool false] ∧ Vl [(2, [0, 2], [1]), (2, [0, 1, 2], [3, 1])] [⟨1, 2, 0, 1, 2, 1, 2, 3⟩] A1 m1 B1 1 k1 v ∧ BK v p4 [.slice A1 m1 ca1, .slice B1 1 cq1, .int .i64 1, .int .i64 1, .int .i64 2, .int .i64 3, .bool false] ∧ Vl [(2, [0, 2], [1]), (2, [0, 1, 2], [3, 1])] [⟨1, 2, 0, 1, 2, 1, 2, 3⟩, ⟨0, 1, 0, 1, 2, 3, 2, 3⟩] A2 m2 B2 2 k2 v ∧ BK v p6 [.slice A2 m2 ca2, .slice B2 2 cq2, .int .i64 1, .int .i64 2, .int .i64 2, .int .i64 3, .bool false] ∧ BK v p8 [.slice (some ⟨Pg, 0, none⟩) 2 2] ∧ DivB 0 Pr gr kr 0 1 1 1 1 1 2 1 v ∧ BK v pr [.slice (some ⟨Pr, 0, none⟩) 2 2] ∧ BK v pw [.slice A2 m2 ca2, .slice B2 2 cq2, .int .i64 1, .int .i64 2, .int .i64 2, .int .i64 3, .bool true] ∧ BK v pe [.slice A2 m2 ca2, .slice B2 2 cq2, .int .i64 1, .int .i64 1, .int .i64 2, .int .i64 3, .bool false] ∧ BK v pb [.slice A2 m2 ca2, .slice none 0 0, .int .i64 1, .int .i64 2, .int .i64 2, .int .i64 3, .bool false]) ⟨(below_al hbb _), Below.size (B := w.heap.size) (w := w) (below_al hbb _), V0.keep (below_al (Below.refl _ _) _), S0.keep (below_al (Below.refl _ _) _), V1.keep (below_al (Below.refl _ _) _), S1.keep (below_al (Below.refl _ _) _), V2.keep (below_al (Below.refl _ _) _), S2.keep (below_al (Below.refl _ _) _), SG.keep (below_al (Below.refl _ _) _), hdr0.call (below_al (Below.refl _ _) _), SR.keep (below_al (Below.refl _ _) _), BW.keep (below_al (Below.refl _ _) _), BE.keep (below_al (Below.refl _ _) _), BR.keep (below_al (Below.refl _ _) _)⟩ (fun X17 hS => ?_)
      clear hbb V0 S0 V1 S1 V2 S2 SG hdr0 SR BW BE BR hBV
      obtain ⟨hbb, hBV, V0, S0, V1, S1, V2, S2, SG, hdr0, SR, BW, BE, BR⟩ := hS
      have CC := Lib.hid (start_err (some ⟨X17.heap.size, 0, none⟩) 2 2 5 8 (X17.alloc (.cells #[.int .i64 0, .slice none 0 0, .slice none 0 0, .int .i64 0, .slice none 0 0, .slice none 0 0] 33)) (fun v hv => by
        have := reached_open (some ⟨X17.heap.size, 0, none⟩) 2 [Ch.zc, Ch.zc] 5 0 v ((isCs_zero (BK.new X17 [.int .i64 0, .slice none 0 0, .slice none 0 0, .int .i64 0, .slice none 0 0, .slice none 0 0] 33)).keep hv) (by rw [zc_chk]; decide)
        rw [zc_chk] at this
        exact this))
      have hb := below_al (Below.refl X17.heap.size X17) (.cells #[.int .i64 0, .slice none 0 0, .slice none 0 0, .int .i64 0, .slice none 0 0, .slice none 0 0] 33)
      go_wp2_with fail
      refine CC.out.mono ?_
      rintro e wq ⟨rfl, hb2⟩
      clear CC
      replace hb := keepB hb hb2
      clear hb2
      replace V0 := V0.keep hb
      replace S0 := S0.keep hb
      replace V1 := V1.keep hb
      replace S1 := S1.keep hb
      replace V2 := V2.keep hb
      replace S2 := S2.keep hb
      replace SG := SG.keep hb
      replace hdr0 := hdr0.call hb
      replace SR := SR.keep hb
      replace BW := BW.keep hb
      replace BE := BE.keep hb
      replace BR := BR.keep hb
      replace hbb := keepB hbb hb
      clear hb
      go_upto_region 18 with fail
      refine at_worldQ (fun v => Below w.heap.size w v ∧ w.heap.size ≤ v.heap.size ∧ Vl [(2, [0, 2], [1]), (2, [0, 1, 2], [3, 1])] [] A0 m0 B0 0 k0 v ∧ BK v ps0 [.slice A0 m0 ca0, .slice B0 0 cq0, .int .i64 1, .int .i64 0, .int .i64 0, .int .i64 1, .bool false] ∧ Vl [(2, [0, 2], [1]), (2, [0, 1, 2], [3, 1])] [⟨1, 2, 0, 1, 2, 1, 2, 3⟩] A1 m1 B1 1 k1 v ∧ BK v p4 [.slice A1 m1 ca1, .slice B1 1 cq1, .int .i64 1, .int .i64 1, .int .i64 2, .int .i64 3, .bool false] ∧ Vl [(2, [0, 2], [1]), (2, [0, 1, 2], [3, 1])] [⟨1, 2, 0, 1, 2, 1, 2, 3⟩, ⟨0, 1, 0, 1, 2, 3, 2, 3⟩] A2 m2 B2 2 k2 v ∧ BK v p6 [.slice A2 m2 ca2, .slice B2 2 cq2, .int .i64 1, .int .i64 2, .int .i64 2, .int .i64 3, .bool false] ∧ BK v p8 [.slice (some ⟨Pg, 0, none⟩) 2 2] ∧ DivB 0 Pr gr kr 0 1 1 1 1 1 2 1 v ∧ BK v pr [.slice (some ⟨Pr, 0, none⟩) 2 2] ∧ BK v pw [.slice A2 m2 ca2, .slice B2 2 cq2, .int .i64 1, .int .i64 2, .int .i64 2, .int .i64 3, .bool true] ∧ BK v pe [.slice A2 m2 ca2, .slice B2 2 cq2, .int .i64 1, .int .i64 1, .int .i64 2, .int .i64 3, .bool false] ∧ BK v pb [.slice A2 m2 ca2, .slice none 0 0, .int .i64 1, .int .i64 2, .int .i64 2, .int .i64 3, .bool false]) ⟨(below_al hbb _), Below.size (B := w.heap.size) (w := w) (below_al hbb _), V0.keep (below_al (Below.refl _ _) _), S0.keep (below_al (Below.refl _ _) _), V1.keep (below_al (Below.refl _ _) _), S1.keep (below_al (Below.refl _ _) _), V2.keep (below_al (Below.refl _ _) _), S2.keep (below_al (Below.refl _ _) _), SG.keep (below_al (Below.refl _ _) _), hdr0.call (below_al (Below.refl _ _) _), SR.keep (below_al (Below.refl _ _) _), BW.keep (below_al (Below.refl _ _) _), BE.keep (below_al (Below.refl _ _) _), BR.keep (below_al (Below.refl _ _) _)⟩ (fun X18 hS => ?_)
      clear hbb V0 S0 V1 S1 V2 S2 SG hdr0 SR BW BE BR hBV
      obtain ⟨hbb, hBV, V0, S0, V1, S1, V2, S2, SG, hdr0, SR, BW, BE, BR⟩ := hS
      have CC := Lib.hid (run_err none 0 0 0 8 X18 (by decide) (fun v hv => by
        have := reached_open none 0 [] 0 2 v (isCs_nil v none) (by rw [nil_chk 0 (by omega)]; decide)
        rw [nil_chk 0 (by omega)] at this
        exact this))
      go_wp2_with fail
      refine (CC.out).mono ?_
      rintro e wq ⟨rfl, hb⟩
      clear CC
      replace V0 := V0.keep hb
      replace S0 := S0.keep hb
      replace V1 := V1.keep hb
      replace S1 := S1.keep hb
      replace V2 := V2.keep hb
      replace S2 := S2.keep hb
      replace SG := SG.keep hb
      replace hdr0 := hdr0.call hb
      replace SR := SR.keep hb
      replace BW := BW.keep hb
      replace BE := BE.keep hb
      replace BR := BR.keep hb
      replace hbb := keepB hbb hb
      clear hb
      go_upto_region 19 with fail
      refine at_worldQ (fun v => Below w.heap.size w v ∧ w.heap.size ≤ v.heap.size ∧ Vl [(2, [0, 2], [1]), (2, [0, 1, 2], [3, 1])] [] A0 m0 B0 0 k0 v ∧ BK v ps0 [.slice A0 m0 ca0, .slice B0 0 cq0, .int .i64 1, .int .i64 0, .int .i64 0, .int .i64 1, .bool false] ∧ Vl [(2, [0, 2], [1]), (2, [0, 1, 2], [3, 1])] [⟨1, 2, 0, 1, 2, 1, 2, 3⟩] A1 m1 B1 1 k1 v ∧ BK v p4 [.slice A1 m1 ca1, .slice B1 1 cq1, .int .i64 1, .int .i64 1, .int .i64 2, .int .i64 3, .bool false] ∧ Vl [(2, [0, 2], [1]), (2, [0, 1, 2], [3, 1])] [⟨1, 2, 0, 1, 2, 1, 2, 3⟩, ⟨0, 1, 0, 1, 2, 3, 2, 3⟩] A2 m2 B2 2 k2 v ∧ BK v p6 [.slice A2 m2 ca2, .slice B2 2 cq2, .int .i64 1, .int .i64 2, .int .i64 2, .int .i64 3, .bool false] ∧ BK v p8 [.slice (some ⟨Pg, 0, none⟩) 2 2] ∧ DivB 0 Pr gr kr 0 1 1 1 1 1 2 1 v ∧ BK v pr [.slice (some ⟨Pr, 0, none⟩) 2 2] ∧ BK v pw [.slice A2 m2 ca2, .slice B2 2 cq2, .int .i64 1, .int .i64 2, .int .i64 2, .int .i64 3, .bool true] ∧ BK v pe [.slice A2 m2 ca2, .slice B2 2 cq2, .int .i64 1, .int .i64 1, .int .i64 2, .int .i64 3, .bool false] ∧ BK v pb [.slice A2 m2 ca2, .slice none 0 0, .int .i64 1, .int .i64 2, .int .i64 2, .int .i64 3, .bool false]) ⟨(below_al hbb _), Below.size (B := w.heap.size) (w := w) (below_al hbb _), V0.keep (below_al (Below.refl _ _) _), S0.keep (below_al (Below.refl _ _) _), V1.keep (below_al (Below.refl _ _) _), S1.keep (below_al (Below.refl _ _) _), V2.keep (below_al (Below.refl _ _) _), S2.keep (below_al (Below.refl _ _) _), SG.keep (below_al (Below.refl _ _) _), hdr0.call (below_al (Below.refl _ _) _), SR.keep (below_al (Below.refl _ _) _), BW.keep (below_al (Below.refl _ _) _), BE.keep (below_al (Below.refl _ _) _), BR.keep (below_al (Below.refl _ _) _)⟩ (fun X19 hS => ?_)
      clear hbb V0 S0 V1 S1 V2 S2 SG hdr0 SR BW BE BR hBV
      obtain ⟨hbb, hBV, V0, S0, V1, S1, V2, S2, SG, hdr0, SR, BW, BE, BR⟩ := hS
      have s0 := BW.c 0 rfl
      have s1 := BW.c 1 rfl
      have s2 := BW.c 2 rfl
      have s3 := BW.c 3 rfl
      have s4 := BW.c 4 rfl
      have s5 := BW.c 5 rfl
      have s6 := BW.c 6 rfl
      have CC := Lib.hid (check_left2t A2 m2 ca2 B2 2 cq2 1 2 3 [(2, [0, 2], [1]), (2, [0, 1, 2], [3, 1])] [⟨1, 2, 0, 1, 2, 1, 2, 3⟩, ⟨0, 1, 0, 1, 2, 3, 2, 3⟩] _ (fun v hv => by
        have := askCheck_any A2 ca2 k2 B2 2 cq2 v (by unfold maxLen; omega) (V2.cs.keep hv)
        rw [V2.d, ← V2.m, Ch.chkS_up al7_chk (show 2 ≤ 2000 by omega)] at this
        exact this) (fun v hv => by
        have := al7_1.reach al7_chk rfl 2 (by omega) A2 ca2 k2 v (V2.cs.keep hv) V2.d
        rw [← V2.m] at this
        exact this))
      go_wp2_with fail
      refine CC.out.mono ?_
      rintro e wq ⟨rfl, hb⟩
      clear CC s0 s1 s2 s3 s4 s5 s6
      replace V0 := V0.keep hb
      replace S0 := S0.keep hb
      replace V1 := V1.keep hb
      replace S1 := S1.keep hb
      replace V2 := V2.keep hb
      replace S2 := S2.keep hb
      replace SG := SG.keep hb
      replace hdr0 := hdr0.call hb
      replace SR := SR.keep hb
      replace BW := BW.keep hb
      replace BE := BE.keep hb
      replace BR := BR.keep hb
      replace hbb := keepB hbb hb
      clear hb
      have s0 := BE.c 0 rfl
      have s1 := BE.c 1 rfl
      have s2 := BE.c 2 rfl
      have s3 := BE.c 3 rfl
      have s4 := BE.c 4 rfl
      have s5 := BE.c 5 rfl
      have s6 := BE.c 6 rfl
      have CC := Lib.hid (check_log1 A2 m2 ca2 B2 2 cq2 1 2 3 false [(2, [0, 2], [1]), (2, [0, 1, 2], [3, 1])] [⟨1, 2, 0, 1, 2, 1, 2, 3⟩] (by simp) _ (fun v hv => by
        have := askCheck_any A2 ca2 k2 B2 2 cq2 v (by unfold maxLen; omega) (V2.cs.keep hv)
        rw [V2.d, ← V2.m, Ch.chkS_up al7_chk (show 2 ≤ 2000 by omega)] at this
        exact this) (fun v hv => by
        have := al7_1.reach al7_chk rfl 1 (by omega) A2 ca2 k2 v (V2.cs.keep hv) V2.d
        rw [← V2.m] at this
        exact this))
      go_wp2_with fail
      refine CC.out.mono ?_
      rintro e wq ⟨rfl, hb⟩
      clear CC s0 s1 s2 s3 s4 s5 s6
      replace V0 := V0.keep hb
      replace S0 := S0.keep hb
      replace V1 := V1.keep hb
      replace S1 := S1.keep hb
      replace V2 := V2.keep hb
      replace S2 := S2.keep hb
      replace SG := SG.keep hb
      replace hdr0 := hdr0.call hb
      replace SR := SR.keep hb
      replace BW := BW.keep hb
      replace BE := BE.keep hb
      replace BR := BR.keep hb
      replace hbb := keepB hbb hb
      clear hb
      have s0 := BR.c 0 rfl
      have s1 := BR.c 1 rfl
      have s2 := BR.c 2 rfl
      have s3 := BR.c 3 rfl
      have s4 := BR.c 4 rfl
      have s5 := BR.c 5 rfl
      have s6 := BR.c 6 rfl
      have CC := Lib.hid (check_log2 A2 m2 ca2 none 0 0 1 2 3 false [(2, [0, 2], [1]), (2, [0, 1, 2], [3, 1])] [⟨1, 2, 0, 1, 2, 1, 2, 3⟩, ⟨0, 1, 0, 1, 2, 3, 2, 3⟩] (by simp) _ (fun v hv => by
        have := askCheck_any A2 ca2 k2 none 0 0 v (by unfold maxLen; omega) (V2.cs.keep hv)
        rw [V2.d, ← V2.m, Ch.chkS_up al7_chk (show 0 ≤ 2000 by omega)] at this
        exact this) (fun v hv => by
        have := al7_1.reach al7_chk rfl 2 (by omega) A2 ca2 k2 v (V2.cs.keep hv) V2.d
        rw [← V2.m] at this
        exact this))
      go_wp2_with fail
      refine CC.out.mono ?_
      rintro e wq ⟨rfl, hb⟩
      clear CC s0 s1 s2 s3 s4 s5 s6
      replace V0 := V0.keep hb
      replace S0 := S0.keep hb
      replace V1 := V1.keep hb
      replace S1 := S1.keep hb
      replace V2 := V2.keep hb
      replace S2 := S2.keep hb
      replace SG := SG.keep hb
      replace hdr0 := hdr0.call hb
      replace SR := SR.keep hb
      replace BW := BW.keep hb
      replace BE := BE.keep hb
      replace BR := BR.keep hb
      replace hbb := keepB hbb hb
      clear hb
      have cc4 := check_desk none 0 0 none 0 0 0 0 0 0 false [] wq (isCs_nil wq none) rfl (by simp) (by rw [nil_chk 0 (by omega)]; decide)
      rw [nil_chk 0 (by omega)] at cc4
      have CC := Lib.hid (cc4)
      go_wp2_with fail
      refine CC.out.mono ?_
      rintro e wq ⟨rfl, hb⟩
      clear CC cc4
      replace V0 := V0.keep hb
      replace S0 := S0.keep hb
      replace V1 := V1.keep hb
      replace S1 := S1.keep hb
      replace V2 := V2.keep hb
      replace S2 := S2.keep hb
      replace SG := SG.keep hb
      replace hdr0 := hdr0.call hb
      replace SR := SR.keep hb
      replace BW := BW.keep hb
      replace BE := BE.keep hb
      replace BR := BR.keep hb
      replace hbb := keepB hbb hb
      clear hb
      as_aux_lemma =>
        go_wp2_with fail
        refine (two7_any _).mono ?_
        rintro e wt ⟨Pt, lt, rfl, hlt, hdt, hct⟩
        obtain ⟨c, d, rfl, ec, ed⟩ := two_of hdt
        have hcs : IsCs wt (some ⟨Pt, 0, none⟩) [c, d] := hct.isCs rfl (by unfold maxLen; omega)
        have hb := hct.bb
        clear hct hlt
        replace V0 := V0.keep hb
        replace S0 := S0.keep hb
        replace V1 := V1.keep hb
        replace S1 := S1.keep hb
        replace V2 := V2.keep hb
        replace S2 := S2.keep hb
        replace SG := SG.keep hb
        replace hdr0 := hdr0.call hb
        replace SR := SR.keep hb
        replace BW := BW.keep hb
        replace BE := BE.keep hb
        replace BR := BR.keep hb
        replace hbb := keepB hbb hb
        clear hb
        have CC := Lib.hid (check_reach (some ⟨Pt, 0, none⟩) 2 2 none 0 0 (-1) 0 0 false 2 wt (by decide) (fun v hv => by
          have := askCheck_any (some ⟨Pt, 0, none⟩) 2 [c, d] none 0 0 v (by simp) (hcs.keep hv)
          rw [hdt, al7_chk] at this
          exact this) (fun v hv => reached_arg (some ⟨Pt, 0, none⟩) 2 [c, d] (-1) 0 v (hcs.keep hv) (by rw [hdt]; exact al7_chk) (by simp)))
        go_wp2_with fail
        refine CC.out.mono ?_
        rintro e wq ⟨rfl, hb⟩
        clear CC
        replace V0 := V0.keep hb
        replace S0 := S0.keep hb
        replace V1 := V1.keep hb
        replace S1 := S1.keep hb
        replace V2 := V2.keep hb
        replace S2 := S2.keep hb
        replace SG := SG.keep hb
        replace hdr0 := hdr0.call hb
        replace SR := SR.keep hb
        replace BW := BW.keep hb
        replace BE := BE.keep hb
        replace BR := BR.keep hb
        replace hbb := keepB hbb hb
        clear hb
        clear hcs hdt ec ed
        go_wp2_with fail
        refine (two7_any _).mono ?_
        rintro e wt ⟨Pt, lt, rfl, hlt, hdt, hct⟩
        obtain ⟨c, d, rfl, ec, ed⟩ := two_of hdt
        have hcs : IsCs wt (some ⟨Pt, 0, none⟩) [c, d] := hct.isCs rfl (by unfold maxLen; omega)
        have hb := hct.bb
        clear hct hlt
        replace V0 := V0.keep hb
        replace S0 := S0.keep hb
        replace V1 := V1.keep hb
        replace S1 := S1.keep hb
        replace V2 := V2.keep hb
        replace S2 := S2.keep hb
        replace SG := SG.keep hb
        replace hdr0 := hdr0.call hb
        replace SR := SR.keep hb
        replace BW := BW.keep hb
        replace BE := BE.keep hb
        replace BR := BR.keep hb
        replace hbb := keepB hbb hb
        clear hb
        go_wp2_with fail
        refine (rOf_any _ _).mono ?_
        rintro e wo ⟨rfl, hb⟩
        replace hcs := hcs.keep hb
        replace V0 := V0.keep hb
        replace S0 := S0.keep hb
        replace V1 := V1.keep hb
        replace S1 := S1.keep hb
        replace V2 := V2.keep hb
        replace S2 := S2.keep hb
        replace SG := SG.keep hb
        replace hdr0 := hdr0.call hb
        replace SR := SR.keep hb
        replace BW := BW.keep hb
        replace BE := BE.keep hb
        replace BR := BR.keep hb
        replace hbb := keepB hbb hb
        clear hb
        have CC := Lib.hid (check_step3 (some ⟨Pt, 0, none⟩) 2 2 none 0 0 0 0 1 false true [(2, [0, 2], [1]), (2, [0, 1, 2], [3, 1])] [⟨0, 2, 0, 1, 1, 1, 1, 1⟩, ⟨1, 1, 0, 1, 1, 1, 3, 1⟩] 1 1 wo (fun v hv => by
          have := askCheck_any (some ⟨Pt, 0, none⟩) 2 [c, d] none 0 0 v (by simp) (hcs.keep hv)
          rw [hdt, al7_chk] at this
          exact this) (fun v hv => al7_0.reach al7_chk rfl 2 (by omega) (some ⟨Pt, 0, none⟩) 2 [c, d] v (hcs.keep hv) hdt))
        go_wp2_with fail
        refine CC.out.mono ?_
        rintro e wq ⟨rfl, hb⟩
        clear CC
        replace V0 := V0.keep hb
        replace S0 := S0.keep hb
        replace V1 := V1.keep hb
        replace S1 := S1.keep hb
        replace V2 := V2.keep hb
        replace S2 := S2.keep hb
        replace SG := SG.keep hb
        replace hdr0 := hdr0.call hb
        replace SR := SR.keep hb
        replace BW := BW.keep hb
        replace BE := BE.keep hb
        replace BR := BR.keep hb
        replace hbb := keepB hbb hb
        clear hb
        clear hcs hdt ec ed
        have i0 := SR.c 0 rfl
        have i1 := hdr0.p.c 0 rfl
        have i2 := hdr0.s0.c 0 rfl
        go_wp2_with fail
        refine (alive7_any _).mono ?_
        rintro e wz ⟨rfl, hb⟩
        replace hbb := keepB hbb hb
        go_wp2_with fail
        go_ret
        exact ⟨rfl, hbb⟩
end Go.Proofs.Ytnnpmegknlgkoaa

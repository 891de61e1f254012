/- The walk of the law PieceNames. -/
import Derived.Test.YtnnpmegknlgkoaaPnw
namespace Go.Proofs.Ytnnpmegknlgkoaa
open Go.RowKit
set_option linter.unusedSimpArgs false in
set_option maxHeartbeats 16000000 in
set_option maxRecDepth 100000 in
theorem names3_walk (w : World) : Calls Try.prog 3 #[] w fun e w' => e = .returned (.bool true) ∧ Below w.heap.size w w' := by
  go_enter Try.func3, Try.ntmps3
  have hbb := Below.refl w.heap.size w
  go_wp2_with fail
  refine (of_any 0 4 _).mono ?_
  rintro e w1 ⟨rfl, hb3⟩
  replace hbb := keepB hbb hb3
  clear hb3
  go_wp2_with fail
  refine (of_any 6 8 _).mono ?_
  rintro e w2 ⟨rfl, hb3⟩
  replace hbb := keepB hbb hb3
  clear hb3
  go_wp2_with fail
  refine at_worldR (fun v => Below w.heap.size w v ∧ BK v (w2.heap.size) [.int .i64 0, .int .i64 1, .int .i64 4, .int .i64 1, .int .i64 6, .int .i64 1, .int .i64 8, .int .i64 1]) ⟨(below_al hbb _), (BK.new w2 [.int .i64 0, .int .i64 1, .int .i64 4, .int .i64 1, .int .i64 6, .int .i64 1, .int .i64 8, .int .i64 1] 25)⟩ (fun V3 hS => ?_)
  clear hbb
  obtain ⟨hbb, Bx⟩ := hS
  generalize w2.heap.size = P3 at *
  have IA := isS_bk (xs := [⟨0, 1, 4, 1⟩, ⟨6, 1, 8, 1⟩]) Bx (by intro s hs; simp at hs; rcases hs with rfl | rfl <;> exact ⟨⟨⟨by decide, by decide⟩, by decide, by decide⟩, ⟨by decide, by decide⟩, by decide, by decide⟩) (by simp [maxLen])
  clear Bx
  refine (of_any 1 2 _).mono ?_
  rintro e w4 ⟨rfl, hb3⟩
  replace IA := IA.keep hb3
  replace hbb := keepB hbb hb3
  clear hb3
  go_wp2_with fail
  refine (of_any 4 7 _).mono ?_
  rintro e w5 ⟨rfl, hb3⟩
  replace IA := IA.keep hb3
  replace hbb := keepB hbb hb3
  clear hb3
  go_wp2_with fail
  refine at_worldR (fun v => Below w.heap.size w v ∧ IsS v (some ⟨P3, 0, none⟩) [⟨0, 1, 4, 1⟩, ⟨6, 1, 8, 1⟩] ∧ BK v (w5.heap.size) [.int .i64 1, .int .i64 1, .int .i64 2, .int .i64 1, .int .i64 4, .int .i64 1, .int .i64 7, .int .i64 1]) ⟨(below_al hbb _), (IA.keep (below_al (Below.refl _ _) _)), (BK.new w5 [.int .i64 1, .int .i64 1, .int .i64 2, .int .i64 1, .int .i64 4, .int .i64 1, .int .i64 7, .int .i64 1] 25)⟩ (fun V6 hS => ?_)
  clear hbb IA
  obtain ⟨hbb, IA, Bx⟩ := hS
  generalize w5.heap.size = P6 at *
  have IB := isS_bk (xs := [⟨1, 1, 2, 1⟩, ⟨4, 1, 7, 1⟩]) Bx (by intro s hs; simp at hs; rcases hs with rfl | rfl <;> exact ⟨⟨⟨by decide, by decide⟩, by decide, by decide⟩, ⟨by decide, by decide⟩, by decide, by decide⟩) (by simp [maxLen])
  clear Bx
  refine (pn_c (some ⟨P3, 0, none⟩) (some ⟨P6, 0, none⟩) 2 2 _ IA IB).mono ?_
  rintro e w7 ⟨vc, rfl, hvc⟩
  have hb3 := hvc.bb
  obtain ⟨Ac, cc, rfl, -⟩ := row_cap hvc.row
  have Ic : IsS w7 Ac [⟨0, 1, 8, 1⟩] := isS_acc hvc.row rfl (by kernel_rfl) (fits_of (by decide +kernel)) (by simp [maxLen])
  clear hvc
  replace IA := IA.keep hb3
  replace IB := IB.keep hb3
  replace hbb := keepB hbb hb3
  clear hb3
  go_wp2_with fail
  refine (pn_d (some ⟨P3, 0, none⟩) (some ⟨P6, 0, none⟩) 2 2 _ IA IB).mono ?_
  rintro e w8 ⟨vd, rfl, hvd⟩
  have hb3 := hvd.bb
  obtain ⟨Ad, cd, rfl, -⟩ := row_cap hvd.row
  have Id : IsS w8 Ad [⟨1, 1, 2, 1⟩, ⟨6, 1, 7, 1⟩] := isS_acc hvd.row rfl (by kernel_rfl) (fits_of (by decide +kernel)) (by simp [maxLen])
  clear hvd
  replace IA := IA.keep hb3
  replace IB := IB.keep hb3
  replace Ic := Ic.keep hb3
  replace hbb := keepB hbb hb3
  clear hb3
  go_wp2_with fail
  refine (pn_g (some ⟨P3, 0, none⟩) (some ⟨P6, 0, none⟩) 2 2 _ IA IB).mono ?_
  rintro e w9 ⟨vg, rfl, hvg⟩
  have hb3 := hvg.bb
  obtain ⟨Ag, cg, rfl, -⟩ := row_cap hvg.row
  have Ig : IsS w9 Ag [⟨0, 1, 1, 1⟩, ⟨2, 1, 4, 1⟩, ⟨7, 1, 8, 1⟩] := isS_acc hvg.row rfl (by kernel_rfl) (fits_of (by decide +kernel)) (by simp [maxLen])
  clear hvg
  replace IA := IA.keep hb3
  replace IB := IB.keep hb3
  replace Ic := Ic.keep hb3
  replace Id := Id.keep hb3
  replace hbb := keepB hbb hb3
  clear hb3
  go_wp2_with fail
  refine (pn_i (some ⟨P6, 0, none⟩) (some ⟨P3, 0, none⟩) 2 2 _ IB IA).mono ?_
  rintro e w10 ⟨vi, rfl, hvi⟩
  have hb3 := hvi.bb
  obtain ⟨Ai, ci, rfl, -⟩ := row_cap hvi.row
  have Ii : IsS w10 Ai [⟨4, 1, 6, 1⟩] := isS_acc hvi.row rfl (by kernel_rfl) (fits_of (by decide +kernel)) (by simp [maxLen])
  clear hvi
  replace IA := IA.keep hb3
  replace IB := IB.keep hb3
  replace Ic := Ic.keep hb3
  replace Id := Id.keep hb3
  replace Ig := Ig.keep hb3
  replace hbb := keepB hbb hb3
  clear hb3
  clear IB
  go_wp2_with fail
  refine (pn_k (some ⟨P3, 0, none⟩) none 2 0 _ IA (isS_none _)).mono ?_
  rintro e w11 ⟨vk, rfl, hvk⟩
  have hb3 := hvk.bb
  obtain ⟨Ak, ck, rfl, -⟩ := row_cap hvk.row
  have Ik : IsS w11 Ak [] := isS_acc hvk.row rfl (by kernel_rfl) (fits_of (by decide +kernel)) (by simp [maxLen])
  clear hvk
  replace IA := IA.keep hb3
  replace Ic := Ic.keep hb3
  replace Id := Id.keep hb3
  replace Ig := Ig.keep hb3
  replace Ii := Ii.keep hb3
  replace hbb := keepB hbb hb3
  clear hb3
  go_upto_region 8 with fail
  refine at_worldQ (fun v => Below w.heap.size w v ∧ IsS v (some ⟨P3, 0, none⟩) [⟨0, 1, 4, 1⟩, ⟨6, 1, 8, 1⟩] ∧ IsS v Ac [⟨0, 1, 8, 1⟩] ∧ IsS v Ad [⟨1, 1, 2, 1⟩, ⟨6, 1, 7, 1⟩] ∧ IsS v Ag [⟨0, 1, 1, 1⟩, ⟨2, 1, 4, 1⟩, ⟨7, 1, 8, 1⟩] ∧ IsS v Ai [⟨4, 1, 6, 1⟩] ∧ IsS v Ak [] ∧ BK v (w11.heap.size) [.int .i64 0, .int .i64 3, .int .i64 8] ∧ BK v (w11.heap.size + 1) [.int .i64 2, .int .i64 1] ∧ BK v (w11.heap.size + 2) [.int .i64 8, .slice (some ⟨w11.heap.size, 0, none⟩) 3 3, .slice (some ⟨w11.heap.size + 1, 0, none⟩) 2 2]) ⟨(below_al (below_al (below_al hbb _) _) _), (((IA.keep (below_al (Below.refl _ _) _)).keep (below_al (Below.refl _ _) _)).keep (below_al (Below.refl _ _) _)), (((Ic.keep (below_al (Below.refl _ _) _)).keep (below_al (Below.refl _ _) _)).keep (below_al (Below.refl _ _) _)), (((Id.keep (below_al (Below.refl _ _) _)).keep (below_al (Below.refl _ _) _)).keep (below_al (Below.refl _ _) _)), (((Ig.keep (below_al (Below.refl _ _) _)).keep (below_al (Below.refl _ _) _)).keep (below_al (Below.refl _ _) _)), (((Ii.keep (below_al (Below.refl _ _) _)).keep (below_al (Below.refl _ _) _)).keep (below_al (Below.refl _ _) _)), (((Ik.keep (below_al (Below.refl _ _) _)).keep (below_al (Below.refl _ _) _)).keep (below_al (Below.refl _ _) _)), (by have b := (((BK.new w11 [.int .i64 0, .int .i64 3, .int .i64 8] 3).al (.cells #[.int .i64 2, .int .i64 1] 3)).al (.cells #[.int .i64 8, .slice (some ⟨w11.heap.size, 0, none⟩) 3 3, .slice (some ⟨w11.heap.size + 1, 0, none⟩) 2 2] 33)); simpa only [World.size_alloc] using b), (by have b := ((BK.new (w11.alloc (.cells #[.int .i64 0, .int .i64 3, .int .i64 8] 3)) [.int .i64 2, .int .i64 1] 3).al (.cells #[.int .i64 8, .slice (some ⟨w11.heap.size, 0, none⟩) 3 3, .slice (some ⟨w11.heap.size + 1, 0, none⟩) 2 2] 33)); simpa only [World.size_alloc] using b), (by have b := (BK.new ((w11.alloc (.cells #[.int .i64 0, .int .i64 3, .int .i64 8] 3)).alloc (.cells #[.int .i64 2, .int .i64 1] 3)) [.int .i64 8, .slice (some ⟨w11.heap.size, 0, none⟩) 3 3, .slice (some ⟨w11.heap.size + 1, 0, none⟩) 2 2] 33); simpa only [World.size_alloc] using b)⟩ (fun V12 hS => ?_)
  clear hbb IA Ic Id Ig Ii Ik
  obtain ⟨hbb, IA, Ic, Id, Ig, Ii, Ik, BK0, BZ0, BC⟩ := hS
  generalize w11.heap.size = P12 at *
  have IC : IsCake V12 8 (some ⟨P12, 0, none⟩) [0, 3, 8] (some ⟨P12 + 1, 0, none⟩) [2, 1] := ⟨⟨by decide, by decide⟩, ⟨by simp [maxLen], by simp [maxLen]⟩, isI_bk (zs := [0, 3, 8]) BK0 (fun z hz => by simp at hz; rcases hz with rfl | rfl | rfl <;> exact ⟨by decide, by decide⟩), isI_bk (zs := [2, 1]) BZ0 (fun z hz => by simp at hz; rcases hz with rfl | rfl <;> exact ⟨by decide, by decide⟩)⟩
  clear BK0 BZ0
  have q0 := BC.c 0 rfl
  have q1 := BC.c 1 rfl
  have q2 := BC.c 2 rfl
  go_wp2_with fail
  refine (pn_v (some ⟨P12, 0, none⟩) (some ⟨P12 + 1, 0, none⟩) (some ⟨P3, 0, none⟩) 2 _ IC IA).mono ?_
  rintro e w13 ⟨rfl, hb3⟩
  clear q0 q1 q2
  replace IA := IA.keep hb3
  replace Ic := Ic.keep hb3
  replace Id := Id.keep hb3
  replace Ig := Ig.keep hb3
  replace Ii := Ii.keep hb3
  replace Ik := Ik.keep hb3
  replace BC := BC.keep hb3
  replace IC := IC.keep hb3
  replace hbb := keepB hbb hb3
  clear hb3
  go_upto_region 9 with fail
  clear IA
  refine at_worldQ (fun v => Below w.heap.size w v ∧ IsS v Ac [⟨0, 1, 8, 1⟩] ∧ IsS v Ad [⟨1, 1, 2, 1⟩, ⟨6, 1, 7, 1⟩] ∧ IsS v Ag [⟨0, 1, 1, 1⟩, ⟨2, 1, 4, 1⟩, ⟨7, 1, 8, 1⟩] ∧ IsS v Ai [⟨4, 1, 6, 1⟩] ∧ IsS v Ak [] ∧ BK v (P12 + 2) [.int .i64 8, .slice (some ⟨P12, 0, none⟩) 3 3, .slice (some ⟨P12 + 1, 0, none⟩) 2 2] ∧ IsCake v 8 (some ⟨P12, 0, none⟩) [0, 3, 8] (some ⟨P12 + 1, 0, none⟩) [2, 1] ∧ BK v (w13.heap.size) [.int .i64 9, .int .i64 1]) ⟨(below_al hbb _), (Ic.keep (below_al (Below.refl _ _) _)), (Id.keep (below_al (Below.refl _ _) _)), (Ig.keep (below_al (Below.refl _ _) _)), (Ii.keep (below_al (Below.refl _ _) _)), (Ik.keep (below_al (Below.refl _ _) _)), (BC.keep (below_al (Below.refl _ _) _)), (IC.keep (below_al (Below.refl _ _) _)), (BK.new w13 [.int .i64 9, .int .i64 1] 23)⟩ (fun V14 hS => ?_)
  clear hbb Ic Id Ig Ii Ik BC IC
  obtain ⟨hbb, Ic, Id, Ig, Ii, Ik, BC, IC, B14⟩ := hS
  generalize w13.heap.size = P14 at *
  have q0 := BC.c 0 rfl
  have q1 := BC.c 1 rfl
  have q2 := BC.c 2 rfl
  go_wp2_with fail
  refine (pn_none (some ⟨P12, 0, none⟩) (some ⟨P12 + 1, 0, none⟩) none 0 _ IC (isS_none _)).mono ?_
  rintro e w15 ⟨rfl, hb3⟩
  clear q0 q1 q2
  replace Ic := Ic.keep hb3
  replace Id := Id.keep hb3
  replace Ig := Ig.keep hb3
  replace Ii := Ii.keep hb3
  replace Ik := Ik.keep hb3
  replace BC := BC.keep hb3
  replace IC := IC.keep hb3
  replace B14 := B14.keep hb3
  replace hbb := keepB hbb hb3
  clear hb3
  go_upto_region 10 with fail
  refine at_worldQ (fun v => Below w.heap.size w v ∧ IsS v Ac [⟨0, 1, 8, 1⟩] ∧ IsS v Ad [⟨1, 1, 2, 1⟩, ⟨6, 1, 7, 1⟩] ∧ IsS v Ag [⟨0, 1, 1, 1⟩, ⟨2, 1, 4, 1⟩, ⟨7, 1, 8, 1⟩] ∧ IsS v Ai [⟨4, 1, 6, 1⟩] ∧ IsS v Ak [] ∧ BK v (P12 + 2) [.int .i64 8, .slice (some ⟨P12, 0, none⟩) 3 3, .slice (some ⟨P12 + 1, 0, none⟩) 2 2] ∧ IsCake v 8 (some ⟨P12, 0, none⟩) [0, 3, 8] (some ⟨P12 + 1, 0, none⟩) [2, 1] ∧ BK v P14 [.int .i64 9, .int .i64 1] ∧ BK v (w15.heap.size) [.int .i64 0, .int .i64 1]) ⟨(below_al hbb _), (Ic.keep (below_al (Below.refl _ _) _)), (Id.keep (below_al (Below.refl _ _) _)), (Ig.keep (below_al (Below.refl _ _) _)), (Ii.keep (below_al (Below.refl _ _) _)), (Ik.keep (below_al (Below.refl _ _) _)), (BC.keep (below_al (Below.refl _ _) _)), (IC.keep (below_al (Below.refl _ _) _)), (B14.keep (below_al (Below.refl _ _) _)), (BK.new w15 [.int .i64 0, .int .i64 1] 23)⟩ (fun V16 hS => ?_)
  clear hbb Ic Id Ig Ii Ik BC IC B14
  obtain ⟨hbb, Ic, Id, Ig, Ii, Ik, BC, IC, B14, B16⟩ := hS
  generalize w15.heap.size = P16 at *
  have e0 : ((0 : Int) == 0) = true := rfl
  go_wp2_with fail
  refine (of_any 0 8 _).mono ?_
  rintro e w17 ⟨rfl, hb3⟩
  replace Ic := Ic.keep hb3
  replace Id := Id.keep hb3
  replace Ig := Ig.keep hb3
  replace Ii := Ii.keep hb3
  replace Ik := Ik.keep hb3
  replace BC := BC.keep hb3
  replace IC := IC.keep hb3
  replace B14 := B14.keep hb3
  replace B16 := B16.keep hb3
  replace hbb := keepB hbb hb3
  clear hb3
  go_wp2_with fail
  refine at_worldR (fun v => Below w.heap.size w v ∧ IsS v Ac [⟨0, 1, 8, 1⟩] ∧ IsS v Ad [⟨1, 1, 2, 1⟩, ⟨6, 1, 7, 1⟩] ∧ IsS v Ag [⟨0, 1, 1, 1⟩, ⟨2, 1, 4, 1⟩, ⟨7, 1, 8, 1⟩] ∧ IsS v Ai [⟨4, 1, 6, 1⟩] ∧ IsS v Ak [] ∧ BK v (P12 + 2) [.int .i64 8, .slice (some ⟨P12, 0, none⟩) 3 3, .slice (some ⟨P12 + 1, 0, none⟩) 2 2] ∧ IsCake v 8 (some ⟨P12, 0, none⟩) [0, 3, 8] (some ⟨P12 + 1, 0, none⟩) [2, 1] ∧ BK v P14 [.int .i64 9, .int .i64 1] ∧ BK v P16 [.int .i64 0, .int .i64 1] ∧ BK v (w17.heap.size) [.int .i64 0, .int .i64 1, .int .i64 8, .int .i64 1]) ⟨(below_al hbb _), (Ic.keep (below_al (Below.refl _ _) _)), (Id.keep (below_al (Below.refl _ _) _)), (Ig.keep (below_al (Below.refl _ _) _)), (Ii.keep (below_al (Below.refl _ _) _)), (Ik.keep (below_al (Below.refl _ _) _)), (BC.keep (below_al (Below.refl _ _) _)), (IC.keep (below_al (Below.refl _ _) _)), (B14.keep (below_al (Below.refl _ _) _)), (B16.keep (below_al (Below.refl _ _) _)), (BK.new w17 [.int .i64 0, .int .i64 1, .int .i64 8, .int .i64 1] 25)⟩ (fun V18 hS => ?_)
  clear hbb Ic Id Ig Ii Ik BC IC B14 B16
  obtain ⟨hbb, Ic, Id, Ig, Ii, Ik, BC, IC, B14, B16, Bx⟩ := hS
  generalize w17.heap.size = P18 at *
  have Hx := isS_bk (xs := [⟨0, 1, 8, 1⟩]) Bx (by intro s hs; simp at hs; subst hs; exact ⟨⟨⟨by decide, by decide⟩, by decide, by decide⟩, ⟨by decide, by decide⟩, by decide, by decide⟩) (by simp [maxLen])
  clear Bx
  refine (is_any Ac _ cc _ [⟨0, 1, 8, 1⟩] _ Ic Hx).mono ?_
  rintro e w19 ⟨rfl, hb3⟩
  replace Ic := Ic.keep hb3
  replace Id := Id.keep hb3
  replace Ig := Ig.keep hb3
  replace Ii := Ii.keep hb3
  replace Ik := Ik.keep hb3
  replace BC := BC.keep hb3
  replace IC := IC.keep hb3
  replace B14 := B14.keep hb3
  replace B16 := B16.keep hb3
  replace hbb := keepB hbb hb3
  clear hb3
  clear Hx
  clear Ic
  go_wp2_with fail
  refine (of_any 1 2 _).mono ?_
  rintro e w20 ⟨rfl, hb3⟩
  replace Id := Id.keep hb3
  replace Ig := Ig.keep hb3
  replace Ii := Ii.keep hb3
  replace Ik := Ik.keep hb3
  replace BC := BC.keep hb3
  replace IC := IC.keep hb3
  replace B14 := B14.keep hb3
  replace B16 := B16.keep hb3
  replace hbb := keepB hbb hb3
  clear hb3
  go_wp2_with fail
  refine (of_any 6 7 _).mono ?_
  rintro e w21 ⟨rfl, hb3⟩
  replace Id := Id.keep hb3
  replace Ig := Ig.keep hb3
  replace Ii := Ii.keep hb3
  replace Ik := Ik.keep hb3
  replace BC := BC.keep hb3
  replace IC := IC.keep hb3
  replace B14 := B14.keep hb3
  replace B16 := B16.keep hb3
  replace hbb := keepB hbb hb3
  clear hb3
  go_wp2_with fail
  refine at_worldR (fun v => Below w.heap.size w v ∧ IsS v Ad [⟨1, 1, 2, 1⟩, ⟨6, 1, 7, 1⟩] ∧ IsS v Ag [⟨0, 1, 1, 1⟩, ⟨2, 1, 4, 1⟩, ⟨7, 1, 8, 1⟩] ∧ IsS v Ai [⟨4, 1, 6, 1⟩] ∧ IsS v Ak [] ∧ BK v (P12 + 2) [.int .i64 8, .slice (some ⟨P12, 0, none⟩) 3 3, .slice (some ⟨P12 + 1, 0, none⟩) 2 2] ∧ IsCake v 8 (some ⟨P12, 0, none⟩) [0, 3, 8] (some ⟨P12 + 1, 0, none⟩) [2, 1] ∧ BK v P14 [.int .i64 9, .int .i64 1] ∧ BK v P16 [.int .i64 0, .int .i64 1] ∧ BK v (w21.heap.size) [.int .i64 1, .int .i64 1, .int .i64 2, .int .i64 1, .int .i64 6, .int .i64 1, .int .i64 7, .int .i64 1]) ⟨(below_al hbb _), (Id.keep (below_al (Below.refl _ _) _)), (Ig.keep (below_al (Below.refl _ _) _)), (Ii.keep (below_al (Below.refl _ _) _)), (Ik.keep (below_al (Below.refl _ _) _)), (BC.keep (below_al (Below.refl _ _) _)), (IC.keep (below_al (Below.refl _ _) _)), (B14.keep (below_al (Below.refl _ _) _)), (B16.keep (below_al (Below.refl _ _) _)), (BK.new w21 [.int .i64 1, .int .i64 1, .int .i64 2, .int .i64 1, .int .i64 6, .int .i64 1, .int .i64 7, .int .i64 1] 25)⟩ (fun V22 hS => ?_)
  clear hbb Id Ig Ii Ik BC IC B14 B16
  obtain ⟨hbb, Id, Ig, Ii, Ik, BC, IC, B14, B16, Bx⟩ := hS
  generalize w21.heap.size = P22 at *
  have Hx := isS_bk (xs := [⟨1, 1, 2, 1⟩, ⟨6, 1, 7, 1⟩]) Bx (by intro s hs; simp at hs; rcases hs with rfl | rfl <;> exact ⟨⟨⟨by decide, by decide⟩, by decide, by decide⟩, ⟨by decide, by decide⟩, by decide, by decide⟩) (by simp [maxLen])
  clear Bx
  refine (is_any Ad _ cd _ [⟨1, 1, 2, 1⟩, ⟨6, 1, 7, 1⟩] _ Id Hx).mono ?_
  rintro e w23 ⟨rfl, hb3⟩
  replace Id := Id.keep hb3
  replace Ig := Ig.keep hb3
  replace Ii := Ii.keep hb3
  replace Ik := Ik.keep hb3
  replace BC := BC.keep hb3
  replace IC := IC.keep hb3
  replace B14 := B14.keep hb3
  replace B16 := B16.keep hb3
  replace hbb := keepB hbb hb3
  clear hb3
  clear Hx
  clear Id
  go_wp2_with fail
  refine (of_any 0 1 _).mono ?_
  rintro e w24 ⟨rfl, hb3⟩
  replace Ig := Ig.keep hb3
  replace Ii := Ii.keep hb3
  replace Ik := Ik.keep hb3
  replace BC := BC.keep hb3
  replace IC := IC.keep hb3
  replace B14 := B14.keep hb3
  replace B16 := B16.keep hb3
  replace hbb := keepB hbb hb3
  clear hb3
  go_wp2_with fail
  refine (of_any 2 4 _).mono ?_
  rintro e w25 ⟨rfl, hb3⟩
  replace Ig := Ig.keep hb3
  replace Ii := Ii.keep hb3
  replace Ik := Ik.keep hb3
  replace BC := BC.keep hb3
  replace IC := IC.keep hb3
  replace B14 := B14.keep hb3
  replace B16 := B16.keep hb3
  replace hbb := keepB hbb hb3
  clear hb3
  go_wp2_with fail
  refine (of_any 7 8 _).mono ?_
  rintro e w26 ⟨rfl, hb3⟩
  replace Ig := Ig.keep hb3
  replace Ii := Ii.keep hb3
  replace Ik := Ik.keep hb3
  replace BC := BC.keep hb3
  replace IC := IC.keep hb3
  replace B14 := B14.keep hb3
  replace B16 := B16.keep hb3
  replace hbb := keepB hbb hb3
  clear hb3
  go_wp2_with fail
  refine at_worldR (fun v => Below w.heap.size w v ∧ IsS v Ag [⟨0, 1, 1, 1⟩, ⟨2, 1, 4, 1⟩, ⟨7, 1, 8, 1⟩] ∧ IsS v Ai [⟨4, 1, 6, 1⟩] ∧ IsS v Ak [] ∧ BK v (P12 + 2) [.int .i64 8, .slice (some ⟨P12, 0, none⟩) 3 3, .slice (some ⟨P12 + 1, 0, none⟩) 2 2] ∧ IsCake v 8 (some ⟨P12, 0, none⟩) [0, 3, 8] (some ⟨P12 + 1, 0, none⟩) [2, 1] ∧ BK v P14 [.int .i64 9, .int .i64 1] ∧ BK v P16 [.int .i64 0, .int .i64 1] ∧ BK v (w26.heap.size) [.int .i64 0, .int .i64 1, .int .i64 1, .int .i64 1, .int .i64 2, .int .i64 1, .int .i64 4, .int .i64 1, .int .i64 7, .int .i64 1, .int .i64 8, .int .i64 1]) ⟨(below_al hbb _), (Ig.keep (below_al (Below.refl _ _) _)), (Ii.keep (below_al (Below.refl _ _) _)), (Ik.keep (below_al (Below.refl _ _) _)), (BC.keep (below_al (Below.refl _ _) _)), (IC.keep (below_al (Below.refl _ _) _)), (B14.keep (below_al (Below.refl _ _) _)), (B16.keep (below_al (Below.refl _ _) _)), (BK.new w26 [.int .i64 0, .int .i64 1, .int .i64 1, .int .i64 1, .int .i64 2, .int .i64 1, .int .i64 4, .int .i64 1, .int .i64 7, .int .i64 1, .int .i64 8, .int .i64 1] 25)⟩ (fun V27 hS => ?_)
  clear hbb Ig Ii Ik BC IC B14 B16
  obtain ⟨hbb, Ig, Ii, Ik, BC, IC, B14, B16, Bx⟩ := hS
  generalize w26.heap.size = P27 at *
  have Hx := isS_bk (xs := [⟨0, 1, 1, 1⟩, ⟨2, 1, 4, 1⟩, ⟨7, 1, 8, 1⟩]) Bx (by intro s hs; simp at hs; rcases hs with rfl | rfl | rfl <;> exact ⟨⟨⟨by decide, by decide⟩, by decide, by decide⟩, ⟨by decide, by decide⟩, by decide, by decide⟩) (by simp [maxLen])
  clear Bx
  refine (is_any Ag _ cg _ [⟨0, 1, 1, 1⟩, ⟨2, 1, 4, 1⟩, ⟨7, 1, 8, 1⟩] _ Ig Hx).mono ?_
  rintro e w28 ⟨rfl, hb3⟩
  replace Ig := Ig.keep hb3
  replace Ii := Ii.keep hb3
  replace Ik := Ik.keep hb3
  replace BC := BC.keep hb3
  replace IC := IC.keep hb3
  replace B14 := B14.keep hb3
  replace B16 := B16.keep hb3
  replace hbb := keepB hbb hb3
  clear hb3
  clear Hx
  clear Ig
  go_wp2_with fail
  refine (of_any 4 6 _).mono ?_
  rintro e w29 ⟨rfl, hb3⟩
  replace Ii := Ii.keep hb3
  replace Ik := Ik.keep hb3
  replace BC := BC.keep hb3
  replace IC := IC.keep hb3
  replace B14 := B14.keep hb3
  replace B16 := B16.keep hb3
  replace hbb := keepB hbb hb3
  clear hb3
  go_wp2_with fail
  refine at_worldR (fun v => Below w.heap.size w v ∧ IsS v Ai [⟨4, 1, 6, 1⟩] ∧ IsS v Ak [] ∧ BK v (P12 + 2) [.int .i64 8, .slice (some ⟨P12, 0, none⟩) 3 3, .slice (some ⟨P12 + 1, 0, none⟩) 2 2] ∧ IsCake v 8 (some ⟨P12, 0, none⟩) [0, 3, 8] (some ⟨P12 + 1, 0, none⟩) [2, 1] ∧ BK v P14 [.int .i64 9, .int .i64 1] ∧ BK v P16 [.int .i64 0, .int .i64 1] ∧ BK v (w29.heap.size) [.int .i64 4, .int .i64 1, .int .i64 6, .int .i64 1]) ⟨(below_al hbb _), (Ii.keep (below_al (Below.refl _ _) _)), (Ik.keep (below_al (Below.refl _ _) _)), (BC.keep (below_al (Below.refl _ _) _)), (IC.keep (below_al (Below.refl _ _) _)), (B14.keep (below_al (Below.refl _ _) _)), (B16.keep (below_al (Below.refl _ _) _)), (BK.new w29 [.int .i64 4, .int .i64 1, .int .i64 6, .int .i64 1] 25)⟩ (fun V30 hS => ?_)
  clear hbb Ii Ik BC IC B14 B16
  obtain ⟨hbb, Ii, Ik, BC, IC, B14, B16, Bx⟩ := hS
  generalize w29.heap.size = P30 at *
  have Hx := isS_bk (xs := [⟨4, 1, 6, 1⟩]) Bx (by intro s hs; simp at hs; subst hs; exact ⟨⟨⟨by decide, by decide⟩, by decide, by decide⟩, ⟨by decide, by decide⟩, by decide, by decide⟩) (by simp [maxLen])
  clear Bx
  refine (is_any Ai _ ci _ [⟨4, 1, 6, 1⟩] _ Ii Hx).mono ?_
  rintro e w31 ⟨rfl, hb3⟩
  replace Ii := Ii.keep hb3
  replace Ik := Ik.keep hb3
  replace BC := BC.keep hb3
  replace IC := IC.keep hb3
  replace B14 := B14.keep hb3
  replace B16 := B16.keep hb3
  replace hbb := keepB hbb hb3
  clear hb3
  clear Hx
  clear Ii
  go_wp2_with fail
  refine (is_any Ak none ck 0 [] _ Ik (isS_none _)).mono ?_
  rintro e w32 ⟨rfl, hb3⟩
  replace Ik := Ik.keep hb3
  replace BC := BC.keep hb3
  replace IC := IC.keep hb3
  replace B14 := B14.keep hb3
  replace B16 := B16.keep hb3
  replace hbb := keepB hbb hb3
  clear hb3
  clear Ik
  have r0 := B14.c 0 rfl
  have r1 := B14.c 1 rfl
  have s0 := B16.c 0 rfl
  have s1 := B16.c 1 rfl
  go_upto_region 11 with fail
  clear r0 r1 s0 s1 e0
  clear B14
  clear B16
  obtain ⟨i0, hi0, hz0, hz1, hz2⟩ := info_parts spanInfo
  have HI := Lib.hid hi0
  have HI2 := Lib.hid hz0
  have HI3 := Lib.hid hz1
  have HI4 := Lib.hid hz2
  clear hi0 hz0 hz1 hz2
  go_wp2_with fail
  go_loopw [19, 20] (fun s i v => ∃ k : Nat, k ≤ 61 ∧ i = .int .i64 k ∧ Acc w32 w32.heap.size 25 4 s (Pc.manyQ k).length (Pc.cells4 (Pc.manyQ k)) v) (fun _ i _ => 61 - (intOf i).toNat)
  case atStart => exact ⟨0, by omega, rfl, Below.refl _ _, Nat.le_refl _, World.ownsRow_nil _ _ _ _⟩
  case round =>
    obtain ⟨k, hk, rfl, hR⟩ := hrel
    by_cases hlt : k < 61
    · as_aux_lemma =>
        have a1 : IntKind.i64.wrap (2 * (k : Int)) = 2 * (k : Int) := IntWalk.i64_in _ (by omega)
        have a2 : IntKind.i64.wrap (2 * (k : Int) + 1) = 2 * (k : Int) + 1 := IntWalk.i64_in _ (by omega)
        have a3 : (k : Int) < 61 := by omega
        have HT := Lib.hid (Pc.manyQ_succ k)
        have hnum : ((((2 * (k : Int)) : Int) : Rat)).num = 2 * (k : Int) ∧ ((((2 * (k : Int)) : Int) : Rat)).den = 1 := ⟨rfl, rfl⟩
        have hnum2 : (((2 * (k : Int) + 1 : Int)) : Rat).num = 2 * (k : Int) + 1 ∧ (((2 * (k : Int) + 1 : Int)) : Rat).den = 1 := ⟨rfl, rfl⟩
        have HN := Lib.hid hnum
        have HN2 := Lib.hid hnum2
        have hml : (Pc.manyQ k).length = k := Pc.manyQ_len k
        have HML := Lib.hid hml
        have htk : (Pc.manyQ k).length ≤ 60 := by omega
        clear hnum hnum2 hml
        generalize ((((2 * (k : Int)) : Int) : Rat)) = qa at *
        generalize (((2 * (k : Int) + 1 : Int)) : Rat) = qb at *
        generalize Pc.manyQ k = T at *
        generalize hE' : T.length = nE at *
        have hE := Lib.hid hE'
        clear hE'
        go_wp2_with fail
        refine (of_any _ _ _).mono ?_
        rintro e wo ⟨rfl, hb3⟩
        have hR2 := hR.keep hb3
        go_wp2_with (at_builtin; refine wpList_append_lies _ rfl _ _ _ rfl w32.heap.size 25 i0 _ 4 32 Try.underlying27 HI.out HI2.out HI3.out HI4.out rfl (by omega) _ nE (Pc.cells4 T) (by rfl) (World.ownsRow.alloc hR2.row _) ⟨wo.heap.size, 0, none⟩ 1 1 [.int .i64 (2 * (k : Int)), .int .i64 1, .int .i64 (2 * (k : Int) + 1), .int .i64 1] (by rfl) (by rfl) (World.news_of_block (cs := #[.int .i64 (2 * (k : Int)), .int .i64 1, .int .i64 (2 * (k : Int) + 1), .int .i64 1]) (t := 25) (fr := (0, 0)) (heap_alloc_new wo _)) (by simp [Value.oneCell']) (by omega) (by unfold maxLen; omega) (by omega) (by have := hR2.hB; simp; omega) (wo.heap.size + 1) (by simp) ?_; intro g cap w1 hown1 hgrow hat hglt)
        all_goals
          (try go_wp2_with fail)
          have hnew := hR2.app ((Below.refl _ wo).alloc (Nat.le_refl _) _) hown1 hgrow
          go_roundw
          case rel =>
            refine ⟨k + 1, by omega, by go_num, ?_⟩
            rw [HT.out, Pc.cells4_app, List.length_append, hE.out]
            have ec : Pc.cells4 [(qa, qb)] = [.int .i64 (2 * (k : Int)), .int .i64 1, .int .i64 (2 * (k : Int) + 1), .int .i64 1] := by
              show [Value.int .i64 qa.num, .int .i64 (qa.den : Int), .int .i64 qb.num, .int .i64 (qb.den : Int)] = _
              rw [HN.out.1, HN.out.2, HN2.out.1, HN2.out.2]
              rfl
            rw [ec]
            exact hnew
          case measure => (simp [intOf] <;> omega)
    ·
      obtain rfl : k = 61 := by omega
      obtain ⟨Am, cm, rfl, hcm⟩ := row_cap hR.row
      rw [Pc.manyQ_len] at hcm
      have hb3 := hR.bb
      have IM : IsS wr Am ((Pc.manyQ 61).map Pc.raw) := isS_row hR.row rfl Pc.manyQ_fit (by rw [Pc.manyQ_len]; unfold maxLen; omega)
      clear hR
      rw [Pc.manyQ_len]
      replace BC := BC.keep hb3
      replace IC := IC.keep hb3
      replace hbb := keepB hbb hb3
      clear hb3 HI HI2 HI3 HI4 hk hlt
      go_wp2_with fail
      refine (pn_o Am cm _ hcm IM).mono ?_
      rintro e w33 ⟨uo, rfl, hb3⟩
      replace BC := BC.keep hb3
      replace IC := IC.keep hb3
      replace IM := IM.keep hb3
      replace hbb := keepB hbb hb3
      clear hb3
      go_upto_region 17 with fail
      refine at_worldQ (fun v => Below w.heap.size w v ∧ BK v (P12 + 2) [.int .i64 8, .slice (some ⟨P12, 0, none⟩) 3 3, .slice (some ⟨P12 + 1, 0, none⟩) 2 2] ∧ IsCake v 8 (some ⟨P12, 0, none⟩) [0, 3, 8] (some ⟨P12 + 1, 0, none⟩) [2, 1] ∧ IsS v Am ((Pc.manyQ 61).map Pc.raw)) ⟨hbb, BC, IC, IM⟩ (fun V17 hS => ?_)
      clear hbb BC IC IM
      obtain ⟨hbb, BC, IC, IM⟩ := hS
      have I60 := IM.take_ 60
      rw [Pc.manyQ_take] at I60
      have hc60 : (60 : Int) ≤ (cm : Int) := by omega
      go_cut [23, 24] (fun _ z v => z = .int .i64 4 ∧ Below V17.heap.size V17 v)
      case first =>
        as_aux_lemma =>
          refine wp_region_held_drew (S := (Below V17.heap.size V17)) (by kernel_rfl) ((Below.refl _ _).drew) (fun hHeld => ?_)
          refine at_anyH (Below V17.heap.size V17) hHeld (fun wt0 hNew => ?_)
          clear hHeld
          have hHeld := hNew
          clear hNew
          refine wpAnyH_take (i := 0) (oi := _) (v := ?vt1) rfl (by kernel_rfl) (by kernel_rfl) (by kernel_rfl) (fun _ _ _ h => h) (Or.inl ⟨by kernel_rfl, ?hyt1⟩) hHeld ?restt1
          case hyt1 => (intro w hSw; go_simp; first | done | (with_reducible rfl))
          try simp only [Act.put, List.append, PA, set16]
          try simp only [PB]
          refine wpAnyH_take (i := 1) (oi := _) (v := ?vt2) rfl (by kernel_rfl) (by kernel_rfl) (by kernel_rfl) (fun _ _ _ h => h) (Or.inl ⟨by kernel_rfl, ?hyt2⟩) hHeld ?restt2
          case hyt2 => (intro w hSw; go_simp; first | done | (with_reducible rfl))
          try simp only [Act.put, List.append, PA, set16]
          try simp only [PB]
          refine wpAnyH_ready (rs := [2]) (by kernel_rfl) (by simp) (AllReadyH.cons (o := _) rfl (fun K hK => ?_) AllReadyH.nil)
          go_simp
          refine (of_any (-2) (-1) _).mono ?_
          rintro e wt3 ⟨rfl, hb3⟩
          go_wp2_with fail
          refine hK.out _ _ (keepB hHeld hb3) (fun hNew => ?_)
          clear hb3
          clear hHeld hK K
          have hHeld := hNew
          clear hNew
          try simp only [Act.put, List.append, PA, set16]
          try simp only [PB]
          refine wpAnyH_ready (rs := [3]) (by kernel_rfl) (by simp) (AllReadyH.cons (o := _) rfl (fun K hK => ?_) AllReadyH.nil)
          go_simp
          refine hK.out _ _ (below_al hHeld _) (fun hNew => ?_)
          have hX : V17.heap.size ≤ wt3.heap.size := hHeld.size
          clear hHeld hK K
          have hHeld := hNew
          clear hNew
          try simp only [Act.put, List.append, PA, set16]
          try simp only [PB]
          refine at_anyH (fun v => Below V17.heap.size V17 v ∧ BK v wt3.heap.size [.int .i64 (-2), .int .i64 1, .int .i64 (-1), .int .i64 1]) ⟨hHeld, BK.new _ _ _⟩ (fun wt4 hS => ?_)
          clear hHeld
          obtain ⟨hHeld, BX⟩ := hS
          refine wpAnyH_ready (rs := [4]) (by kernel_rfl) (by simp) (AllReadyH.cons (o := _) rfl (fun K hK => ?_) AllReadyH.nil)
          go_simp
          refine (pn_p Am _ cm 1 _ (I60.keep hHeld) (isS_bk (xs := [⟨-2, 1, -1, 1⟩]) BX (by intro s hs; simp at hs; subst hs; exact ⟨⟨⟨by decide, by decide⟩, by decide, by decide⟩, ⟨by decide, by decide⟩, by decide, by decide⟩) (by simp [maxLen]))).mono ?_
          rintro e wt5 ⟨up, rfl, hb3⟩
          go_wp2_with fail
          refine hK.out _ _ (keepB hHeld hb3) (fun hNew => ?_)
          replace BX := BX.keep hb3
          clear hb3
          clear hHeld hK K
          have hHeld := hNew
          clear hNew
          try simp only [Act.put, List.append, PA, set16]
          try simp only [PB]
          refine wpAnyH_take (i := 5) (oi := _) (v := ?vt6) rfl (by kernel_rfl) (by kernel_rfl) (by kernel_rfl) (fun _ _ _ h => h) (Or.inl ⟨by kernel_rfl, ?hyt6⟩) hHeld ?restt6
          case hyt6 => (intro w hSw; go_simp; first | done | (with_reducible rfl))
          try simp only [Act.put, List.append, PA, set16]
          try simp only [PB]
          refine wpAnyH_take (i := 6) (oi := _) (v := ?vt7) rfl (by kernel_rfl) (by kernel_rfl) (by kernel_rfl) (fun _ _ _ h => h) (Or.inl ⟨by kernel_rfl, ?hyt7⟩) hHeld ?restt7
          case hyt7 => (intro w hSw; go_simp; first | done | (with_reducible rfl))
          try simp only [Act.put, List.append, PA, set16]
          try simp only [PB]
          refine wpAnyH_take (i := 7) (oi := _) (v := ?vt8) rfl (by kernel_rfl) (by kernel_rfl) (by kernel_rfl) (fun _ _ _ h => h) (Or.inl ⟨by kernel_rfl, ?hyt8⟩) hHeld ?restt8
          case hyt8 => (intro w hSw; go_simp; first | done | (with_reducible rfl))
          try simp only [Act.put, List.append, PA, set16]
          try simp only [PB]
          refine wpAnyH_take (i := 8) (oi := _) (v := ?vt9) rfl (by kernel_rfl) (by kernel_rfl) (by kernel_rfl) (fun _ _ _ h => h) (Or.inl ⟨by kernel_rfl, ?hyt9⟩) hHeld ?restt9
          case hyt9 => (intro w hSw; go_simp; first | done | (with_reducible rfl))
          try simp only [Act.put, List.append, PA, set16]
          try simp only [PB]
          refine wpAnyH_take (i := 9) (oi := _) (v := ?vt10) rfl (by kernel_rfl) (by kernel_rfl) (by kernel_rfl) (fun _ _ _ h => h) (Or.inl ⟨by kernel_rfl, ?hyt10⟩) hHeld ?restt10
          case hyt10 => (intro w hSw; go_simp; first | done | (with_reducible rfl))
          try simp only [Act.put, List.append, PA, set16]
          try simp only [PB]
          refine wpAnyH_done (by kernel_rfl) ?_ _
          go_wp2_with fail
          go_meet
          exact ⟨rfl, hHeld⟩
      case rest =>
        obtain ⟨rfl, hHeld⟩ := hcut
        clear I60 hc60
        replace BC := BC.keep hHeld
        replace IC := IC.keep hHeld
        replace IM := IM.keep hHeld
        replace hbb := keepB hbb hHeld
        clear hHeld
        go_upto_region 18 with fail
        refine at_worldQ (fun v => Below w.heap.size w v ∧ BK v (P12 + 2) [.int .i64 8, .slice (some ⟨P12, 0, none⟩) 3 3, .slice (some ⟨P12 + 1, 0, none⟩) 2 2] ∧ IsCake v 8 (some ⟨P12, 0, none⟩) [0, 3, 8] (some ⟨P12 + 1, 0, none⟩) [2, 1] ∧ IsS v Am ((Pc.manyQ 61).map Pc.raw)) ⟨hbb, BC, IC, IM⟩ (fun V18 hS => ?_)
        clear hbb BC IC IM
        obtain ⟨hbb, BC, IC, IM⟩ := hS
        go_wp2_with fail
        refine (of_any 1 1 _).mono ?_
        rintro e w34 ⟨rfl, hb3⟩
        replace BC := BC.keep hb3
        replace IC := IC.keep hb3
        replace IM := IM.keep hb3
        replace hbb := keepB hbb hb3
        clear hb3
        go_wp2_with fail
        refine at_worldR (fun v => Below w.heap.size w v ∧ BK v (P12 + 2) [.int .i64 8, .slice (some ⟨P12, 0, none⟩) 3 3, .slice (some ⟨P12 + 1, 0, none⟩) 2 2] ∧ IsCake v 8 (some ⟨P12, 0, none⟩) [0, 3, 8] (some ⟨P12 + 1, 0, none⟩) [2, 1] ∧ IsS v Am ((Pc.manyQ 61).map Pc.raw) ∧ BK v (w34.heap.size) [.int .i64 1, .int .i64 1, .int .i64 1, .int .i64 1]) ⟨(below_al hbb _), (BC.keep (below_al (Below.refl _ _) _)), (IC.keep (below_al (Below.refl _ _) _)), (IM.keep (below_al (Below.refl _ _) _)), (BK.new w34 [.int .i64 1, .int .i64 1, .int .i64 1, .int .i64 1] 25)⟩ (fun V35 hS => ?_)
        clear hbb BC IC IM
        obtain ⟨hbb, BC, IC, IM, Bx⟩ := hS
        generalize w34.heap.size = P35 at *
        have Hx := isS_bk (xs := [⟨1, 1, 1, 1⟩]) Bx (by intro s hs; simp at hs; subst hs; exact ⟨⟨⟨by decide, by decide⟩, by decide, by decide⟩, ⟨by decide, by decide⟩, by decide, by decide⟩) (by simp [maxLen])
        clear Bx
        refine (pn_q (some ⟨P35, 0, none⟩) 1 _ (by decide) Hx).mono ?_
        rintro e w36 ⟨uq, rfl, hb3⟩
        replace BC := BC.keep hb3
        replace IC := IC.keep hb3
        replace IM := IM.keep hb3
        replace hbb := keepB hbb hb3
        clear hb3
        clear Hx
        go_wp2_with fail
        refine (of_any 1 2 _).mono ?_
        rintro e w37 ⟨rfl, hb3⟩
        replace BC := BC.keep hb3
        replace IC := IC.keep hb3
        replace IM := IM.keep hb3
        replace hbb := keepB hbb hb3
        clear hb3
        go_wp2_with fail
        refine (of_any 2 3 _).mono ?_
        rintro e w38 ⟨rfl, hb3⟩
        replace BC := BC.keep hb3
        replace IC := IC.keep hb3
        replace IM := IM.keep hb3
        replace hbb := keepB hbb hb3
        clear hb3
        go_wp2_with fail
        refine at_worldR (fun v => Below w.heap.size w v ∧ BK v (P12 + 2) [.int .i64 8, .slice (some ⟨P12, 0, none⟩) 3 3, .slice (some ⟨P12 + 1, 0, none⟩) 2 2] ∧ IsCake v 8 (some ⟨P12, 0, none⟩) [0, 3, 8] (some ⟨P12 + 1, 0, none⟩) [2, 1] ∧ IsS v Am ((Pc.manyQ 61).map Pc.raw) ∧ BK v (w38.heap.size) [.int .i64 1, .int .i64 1, .int .i64 2, .int .i64 1, .int .i64 2, .int .i64 1, .int .i64 3, .int .i64 1]) ⟨(below_al hbb _), (BC.keep (below_al (Below.refl _ _) _)), (IC.keep (below_al (Below.refl _ _) _)), (IM.keep (below_al (Below.refl _ _) _)), (BK.new w38 [.int .i64 1, .int .i64 1, .int .i64 2, .int .i64 1, .int .i64 2, .int .i64 1, .int .i64 3, .int .i64 1] 25)⟩ (fun V39 hS => ?_)
        clear hbb BC IC IM
        obtain ⟨hbb, BC, IC, IM, Bx⟩ := hS
        generalize w38.heap.size = P39 at *
        have Hx := isS_bk (xs := [⟨1, 1, 2, 1⟩, ⟨2, 1, 3, 1⟩]) Bx (by intro s hs; simp at hs; rcases hs with rfl | rfl <;> exact ⟨⟨⟨by decide, by decide⟩, by decide, by decide⟩, ⟨by decide, by decide⟩, by decide, by decide⟩) (by simp [maxLen])
        clear Bx
        refine (pn_r (some ⟨P39, 0, none⟩) none 2 0 _ Hx (isS_none _)).mono ?_
        rintro e w40 ⟨ur, rfl, hvr⟩
        have hb3 := hvr.bb
        clear hvr
        replace BC := BC.keep hb3
        replace IC := IC.keep hb3
        replace IM := IM.keep hb3
        replace hbb := keepB hbb hb3
        clear hb3
        clear Hx
        go_wp2_with fail
        refine (pn_s _).mono ?_
        rintro e w41 ⟨rfl, hb3⟩
        replace BC := BC.keep hb3
        replace IC := IC.keep hb3
        replace IM := IM.keep hb3
        replace hbb := keepB hbb hb3
        clear hb3
        go_upto_region 21 with fail
        refine at_worldQ (fun v => Below w.heap.size w v ∧ BK v (P12 + 2) [.int .i64 8, .slice (some ⟨P12, 0, none⟩) 3 3, .slice (some ⟨P12 + 1, 0, none⟩) 2 2] ∧ IsCake v 8 (some ⟨P12, 0, none⟩) [0, 3, 8] (some ⟨P12 + 1, 0, none⟩) [2, 1] ∧ IsS v Am ((Pc.manyQ 61).map Pc.raw)) ⟨hbb, BC, IC, IM⟩ (fun V21 hS => ?_)
        clear hbb BC IC IM
        obtain ⟨hbb, BC, IC, IM⟩ := hS
        have q0 := BC.c 0 rfl
        have q1 := BC.c 1 rfl
        have q2 := BC.c 2 rfl
        go_cut [31, 32] (fun x z v => ∃ p : Nat, x = .pointer (some ⟨p, 0, none⟩) ∧ z = .int .i64 2 ∧ Below V21.heap.size V21 v)
        case first =>
          refine wp_region_held_drew (S := (Below V21.heap.size V21)) (by kernel_rfl) ((Below.refl _ _).drew) (fun hHeld => ?_)
          refine at_anyH (Below V21.heap.size V21) hHeld (fun wt21x0 hNew => ?_)
          clear hHeld
          have hHeld := hNew
          clear hNew
          refine wpAnyH_take (i := 0) (oi := _) (v := ?vt21x1) rfl (by kernel_rfl) (by kernel_rfl) (by kernel_rfl) (fun _ _ _ h => h) (Or.inl ⟨by kernel_rfl, ?hyt21x1⟩) hHeld ?restt21x1
          case hyt21x1 => (intro w hSw; have kq0 := keepC hSw q0; have kq1 := keepC hSw q1; have kq2 := keepC hSw q2; go_simp; first | done | (with_reducible rfl))
          try simp only [Act.put, List.append, PA, set16]
          try simp only [PB]
          refine wpAnyH_ready (rs := [1, 7]) (by kernel_rfl) (by simp) (AllReadyH.cons (o := _) rfl (fun K hK => ?_) (AllReadyH.cons (o := _) rfl (fun K hK => ?_) AllReadyH.nil))
          ·
            go_simp
            refine (of_any 7 9 _).mono ?_
            rintro e wt21x2 ⟨rfl, hb3⟩
            go_wp2_with fail
            refine hK.out _ _ (keepB hHeld hb3) (fun hNew => ?_)
            clear hb3
            clear hHeld hK K
            have hHeld := hNew
            clear hNew
            try simp only [Act.put, List.append, PA, set16]
            try simp only [PB]
            refine wpAnyH_ready (rs := [2, 7]) (by kernel_rfl) (by simp) (AllReadyH.cons (o := _) rfl (fun K hK => ?_) (AllReadyH.cons (o := _) rfl (fun K hK => ?_) AllReadyH.nil))
            ·
              go_simp
              refine hK.out _ _ (below_al hHeld _) (fun hNew => ?_)
              have hX : V21.heap.size ≤ wt21x2.heap.size := hHeld.size
              clear hHeld hK K
              have hHeld := hNew
              clear hNew
              try simp only [Act.put, List.append, PA, set16]
              try simp only [PB]
              refine at_anyH (fun v => Below V21.heap.size V21 v ∧ BK v wt21x2.heap.size [.int .i64 7, .int .i64 1, .int .i64 9, .int .i64 1]) ⟨hHeld, BK.new _ _ _⟩ (fun wt21x3 hS => ?_)
              clear hHeld
              obtain ⟨hHeld, BX⟩ := hS
              as_aux_lemma =>
                refine wpAnyH_ready (rs := [3, 7]) (by kernel_rfl) (by simp) (AllReadyH.cons (o := _) rfl (fun K hK => ?_) (AllReadyH.cons (o := _) rfl (fun K hK => ?_) AllReadyH.nil))
                ·
                  go_simp
                  refine (pn_t (some ⟨P12, 0, none⟩) (some ⟨P12 + 1, 0, none⟩) _ 1 _ (IC.keep hHeld) (isS_bk (xs := [⟨7, 1, 9, 1⟩]) BX (by intro s hs; simp at hs; subst hs; exact ⟨⟨⟨by decide, by decide⟩, by decide, by decide⟩, ⟨by decide, by decide⟩, by decide, by decide⟩) (by simp [maxLen]))).mono ?_
                  rintro e wt21x4 ⟨rfl, hb3⟩
                  go_wp2_with fail
                  refine hK.out _ _ (keepB hHeld hb3) (fun hNew => ?_)
                  replace BX := BX.keep hb3
                  clear hb3
                  clear hHeld hK K
                  have hHeld := hNew
                  clear hNew
                  try simp only [Act.put, List.append, PA, set16]
                  try simp only [PB]
                  refine wpAnyH_take (i := 4) (oi := _) (v := ?vt21x5) rfl (by kernel_rfl) (by kernel_rfl) (by kernel_rfl) (fun _ _ _ h => h) (Or.inl ⟨by kernel_rfl, ?hyt21x5⟩) hHeld ?restt21x5
                  case hyt21x5 => (intro w hSw; go_simp; first | done | (with_reducible rfl))
                  try simp only [Act.put, List.append, PA, set16]
                  try simp only [PB]
                  refine wpAnyH_take (i := 5) (oi := _) (v := ?vt21x6) rfl (by kernel_rfl) (by kernel_rfl) (by kernel_rfl) (fun _ _ _ h => h) (Or.inl ⟨by kernel_rfl, ?hyt21x6⟩) hHeld ?restt21x6
                  case hyt21x6 => (intro w hSw; go_simp; first | done | (with_reducible rfl))
                  try simp only [Act.put, List.append, PA, set16]
                  try simp only [PB]
                  refine wpAnyH_take (i := 6) (oi := _) (v := ?vt21x7) rfl (by kernel_rfl) (by kernel_rfl) (by kernel_rfl) (fun _ _ _ h => h) (Or.inl ⟨by kernel_rfl, ?hyt21x7⟩) hHeld ?restt21x7
                  case hyt21x7 => (intro w hSw; go_simp; first | done | (with_reducible rfl))
                  try simp only [Act.put, List.append, PA, set16]
                  try simp only [PB]
                  refine wpAnyH_ready (rs := [7]) (by kernel_rfl) (by simp) (AllReadyH.cons (o := _) rfl (fun K hK => ?_) AllReadyH.nil)
                  go_simp
                  refine hK.out _ _ (below_al hHeld _) (fun hNew => ?_)
                  have hY : V21.heap.size ≤ wt21x4.heap.size := hHeld.size
                  have dXY := BX.lt
                  clear hHeld hK K
                  have hHeld := hNew
                  clear hNew
                  try simp only [Act.put, List.append, PA, set16]
                  try simp only [PB]
                  refine at_anyH (fun v => Below V21.heap.size V21 v ∧ BK v wt21x2.heap.size [.int .i64 7, .int .i64 1, .int .i64 9, .int .i64 1] ∧ BK v wt21x4.heap.size [.int .i64 0, .int .i64 0]) ⟨hHeld, BX.al _, BK.new _ _ _⟩ (fun wt21x8 hS => ?_)
                  clear hHeld BX
                  obtain ⟨hHeld, BX, BY⟩ := hS
                  refine wpAnyH_ready (rs := [8]) (by kernel_rfl) (by simp) (AllReadyH.cons (o := _) rfl (fun K hK => ?_) AllReadyH.nil)
                  have n0 := BY.c 0 rfl
                  have f0 := BY.f 0 rfl
                  have n1 := BY.c 1 rfl
                  have f1 := BY.f 1 rfl
                  go_simp
                  clear n0 f0 n1 f1
                  refine hK.out _ _ (below_set (below_set hHeld (by omega) _) (by omega) _) (fun hNew => ?_)
                  clear hHeld hK K
                  have hHeld := hNew
                  clear hNew
                  try simp only [Act.put, List.append, PA, set16]
                  try simp only [PB]
                  refine at_anyH (fun v => Below V21.heap.size V21 v ∧ BK v wt21x2.heap.size [.int .i64 7, .int .i64 1, .int .i64 9, .int .i64 1] ∧ BK v wt21x4.heap.size [.int .i64 0, .int .i64 0]) ⟨hHeld, ((BX.far (by omega) _ _).far (by omega) _ _), ((BY.set 0 _).set 1 _)⟩ (fun wt21x9 hS => ?_)
                  clear hHeld BX BY
                  obtain ⟨hHeld, BX, BY⟩ := hS
                  refine wpAnyH_take (i := 9) (oi := _) (v := ?vt21x10) rfl (by kernel_rfl) (by kernel_rfl) (by kernel_rfl) (fun _ _ _ h => h) (Or.inl ⟨by kernel_rfl, ?hyt21x10⟩) hHeld ?restt21x10
                  case hyt21x10 => (intro w hSw; go_simp; first | done | (with_reducible rfl))
                  try simp only [Act.put, List.append, PA, set16]
                  try simp only [PB]
                  refine wpAnyH_done (by kernel_rfl) ?_ _
                  go_wp2_with fail
                  go_meet
                  exact ⟨_, rfl, rfl, hHeld⟩
                ·
                  go_simp
                  refine hK.out _ _ (below_al hHeld _) (fun hNew => ?_)
                  have hY : V21.heap.size ≤ wt21x3.heap.size := hHeld.size
                  have dXY := BX.lt
                  clear hHeld hK K
                  have hHeld := hNew
                  clear hNew
                  try simp only [Act.put, List.append, PA, set16]
                  try simp only [PB]
                  refine at_anyH (fun v => Below V21.heap.size V21 v ∧ BK v wt21x2.heap.size [.int .i64 7, .int .i64 1, .int .i64 9, .int .i64 1] ∧ BK v wt21x3.heap.size [.int .i64 0, .int .i64 0]) ⟨hHeld, BX.al _, BK.new _ _ _⟩ (fun wt21x11 hS => ?_)
                  clear hHeld BX
                  obtain ⟨hHeld, BX, BY⟩ := hS
                  refine wpAnyH_ready (rs := [3]) (by kernel_rfl) (by simp) (AllReadyH.cons (o := _) rfl (fun K hK => ?_) AllReadyH.nil)
                  go_simp
                  refine (pn_t (some ⟨P12, 0, none⟩) (some ⟨P12 + 1, 0, none⟩) _ 1 _ (IC.keep hHeld) (isS_bk (xs := [⟨7, 1, 9, 1⟩]) BX (by intro s hs; simp at hs; subst hs; exact ⟨⟨⟨by decide, by decide⟩, by decide, by decide⟩, ⟨by decide, by decide⟩, by decide, by decide⟩) (by simp [maxLen]))).mono ?_
                  rintro e wt21x12 ⟨rfl, hb3⟩
                  go_wp2_with fail
                  refine hK.out _ _ (keepB hHeld hb3) (fun hNew => ?_)
                  replace BX := BX.keep hb3
                  replace BY := BY.keep hb3
                  clear hb3
                  clear hHeld hK K
                  have hHeld := hNew
                  clear hNew
                  try simp only [Act.put, List.append, PA, set16]
                  try simp only [PB]
                  refine wpAnyH_take (i := 4) (oi := _) (v := ?vt21x13) rfl (by kernel_rfl) (by kernel_rfl) (by kernel_rfl) (fun _ _ _ h => h) (Or.inl ⟨by kernel_rfl, ?hyt21x13⟩) hHeld ?restt21x13
                  case hyt21x13 => (intro w hSw; go_simp; first | done | (with_reducible rfl))
                  try simp only [Act.put, List.append, PA, set16]
                  try simp only [PB]
                  refine wpAnyH_take (i := 5) (oi := _) (v := ?vt21x14) rfl (by kernel_rfl) (by kernel_rfl) (by kernel_rfl) (fun _ _ _ h => h) (Or.inl ⟨by kernel_rfl, ?hyt21x14⟩) hHeld ?restt21x14
                  case hyt21x14 => (intro w hSw; go_simp; first | done | (with_reducible rfl))
                  try simp only [Act.put, List.append, PA, set16]
                  try simp only [PB]
                  refine wpAnyH_take (i := 6) (oi := _) (v := ?vt21x15) rfl (by kernel_rfl) (by kernel_rfl) (by kernel_rfl) (fun _ _ _ h => h) (Or.inl ⟨by kernel_rfl, ?hyt21x15⟩) hHeld ?restt21x15
                  case hyt21x15 => (intro w hSw; go_simp; first | done | (with_reducible rfl))
                  try simp only [Act.put, List.append, PA, set16]
                  try simp only [PB]
                  refine wpAnyH_ready (rs := [8]) (by kernel_rfl) (by simp) (AllReadyH.cons (o := _) rfl (fun K hK => ?_) AllReadyH.nil)
                  have n0 := BY.c 0 rfl
                  have f0 := BY.f 0 rfl
                  have n1 := BY.c 1 rfl
                  have f1 := BY.f 1 rfl
                  go_simp
                  clear n0 f0 n1 f1
                  refine hK.out _ _ (below_set (below_set hHeld (by omega) _) (by omega) _) (fun hNew => ?_)
                  clear hHeld hK K
                  have hHeld := hNew
                  clear hNew
                  try simp only [Act.put, List.append, PA, set16]
                  try simp only [PB]
                  refine at_anyH (fun v => Below V21.heap.size V21 v ∧ BK v wt21x2.heap.size [.int .i64 7, .int .i64 1, .int .i64 9, .int .i64 1] ∧ BK v wt21x3.heap.size [.int .i64 0, .int .i64 0]) ⟨hHeld, ((BX.far (by omega) _ _).far (by omega) _ _), ((BY.set 0 _).set 1 _)⟩ (fun wt21x16 hS => ?_)
                  clear hHeld BX BY
                  obtain ⟨hHeld, BX, BY⟩ := hS
                  refine wpAnyH_take (i := 9) (oi := _) (v := ?vt21x17) rfl (by kernel_rfl) (by kernel_rfl) (by kernel_rfl) (fun _ _ _ h => h) (Or.inl ⟨by kernel_rfl, ?hyt21x17⟩) hHeld ?restt21x17
                  case hyt21x17 => (intro w hSw; go_simp; first | done | (with_reducible rfl))
                  try simp only [Act.put, List.append, PA, set16]
                  try simp only [PB]
                  refine wpAnyH_done (by kernel_rfl) ?_ _
                  go_wp2_with fail
                  go_meet
                  exact ⟨_, rfl, rfl, hHeld⟩
            ·
              go_simp
              refine hK.out _ _ (below_al hHeld _) (fun hNew => ?_)
              have hY : V21.heap.size ≤ wt21x2.heap.size := hHeld.size
              clear hHeld hK K
              have hHeld := hNew
              clear hNew
              try simp only [Act.put, List.append, PA, set16]
              try simp only [PB]
              refine at_anyH (fun v => Below V21.heap.size V21 v ∧ BK v wt21x2.heap.size [.int .i64 0, .int .i64 0]) ⟨hHeld, BK.new _ _ _⟩ (fun wt21x18 hS => ?_)
              clear hHeld
              obtain ⟨hHeld, BY⟩ := hS
              refine wpAnyH_ready (rs := [2]) (by kernel_rfl) (by simp) (AllReadyH.cons (o := _) rfl (fun K hK => ?_) AllReadyH.nil)
              go_simp
              refine hK.out _ _ (below_al hHeld _) (fun hNew => ?_)
              have hX : V21.heap.size ≤ wt21x18.heap.size := hHeld.size
              have dYX := BY.lt
              clear hHeld hK K
              have hHeld := hNew
              clear hNew
              try simp only [Act.put, List.append, PA, set16]
              try simp only [PB]
              refine at_anyH (fun v => Below V21.heap.size V21 v ∧ BK v wt21x2.heap.size [.int .i64 0, .int .i64 0] ∧ BK v wt21x18.heap.size [.int .i64 7, .int .i64 1, .int .i64 9, .int .i64 1]) ⟨hHeld, BY.al _, BK.new _ _ _⟩ (fun wt21x19 hS => ?_)
              clear hHeld BY
              obtain ⟨hHeld, BY, BX⟩ := hS
              as_aux_lemma =>
                refine wpAnyH_ready (rs := [3]) (by kernel_rfl) (by simp) (AllReadyH.cons (o := _) rfl (fun K hK => ?_) AllReadyH.nil)
                go_simp
                refine (pn_t (some ⟨P12, 0, none⟩) (some ⟨P12 + 1, 0, none⟩) _ 1 _ (IC.keep hHeld) (isS_bk (xs := [⟨7, 1, 9, 1⟩]) BX (by intro s hs; simp at hs; subst hs; exact ⟨⟨⟨by decide, by decide⟩, by decide, by decide⟩, ⟨by decide, by decide⟩, by decide, by decide⟩) (by simp [maxLen]))).mono ?_
                rintro e wt21x20 ⟨rfl, hb3⟩
                go_wp2_with fail
                refine hK.out _ _ (keepB hHeld hb3) (fun hNew => ?_)
                replace BY := BY.keep hb3
                replace BX := BX.keep hb3
                clear hb3
                clear hHeld hK K
                have hHeld := hNew
                clear hNew
                try simp only [Act.put, List.append, PA, set16]
                try simp only [PB]
                refine wpAnyH_take (i := 4) (oi := _) (v := ?vt21x21) rfl (by kernel_rfl) (by kernel_rfl) (by kernel_rfl) (fun _ _ _ h => h) (Or.inl ⟨by kernel_rfl, ?hyt21x21⟩) hHeld ?restt21x21
                case hyt21x21 => (intro w hSw; go_simp; first | done | (with_reducible rfl))
                try simp only [Act.put, List.append, PA, set16]
                try simp only [PB]
                refine wpAnyH_take (i := 5) (oi := _) (v := ?vt21x22) rfl (by kernel_rfl) (by kernel_rfl) (by kernel_rfl) (fun _ _ _ h => h) (Or.inl ⟨by kernel_rfl, ?hyt21x22⟩) hHeld ?restt21x22
                case hyt21x22 => (intro w hSw; go_simp; first | done | (with_reducible rfl))
                try simp only [Act.put, List.append, PA, set16]
                try simp only [PB]
                refine wpAnyH_take (i := 6) (oi := _) (v := ?vt21x23) rfl (by kernel_rfl) (by kernel_rfl) (by kernel_rfl) (fun _ _ _ h => h) (Or.inl ⟨by kernel_rfl, ?hyt21x23⟩) hHeld ?restt21x23
                case hyt21x23 => (intro w hSw; go_simp; first | done | (with_reducible rfl))
                try simp only [Act.put, List.append, PA, set16]
                try simp only [PB]
                refine wpAnyH_ready (rs := [8]) (by kernel_rfl) (by simp) (AllReadyH.cons (o := _) rfl (fun K hK => ?_) AllReadyH.nil)
                have n0 := BY.c 0 rfl
                have f0 := BY.f 0 rfl
                have n1 := BY.c 1 rfl
                have f1 := BY.f 1 rfl
                go_simp
                clear n0 f0 n1 f1
                refine hK.out _ _ (below_set (below_set hHeld (by omega) _) (by omega) _) (fun hNew => ?_)
                clear hHeld hK K
                have hHeld := hNew
                clear hNew
                try simp only [Act.put, List.append, PA, set16]
                try simp only [PB]
                refine at_anyH (fun v => Below V21.heap.size V21 v ∧ BK v wt21x2.heap.size [.int .i64 0, .int .i64 0] ∧ BK v wt21x18.heap.size [.int .i64 7, .int .i64 1, .int .i64 9, .int .i64 1]) ⟨hHeld, ((BY.set 0 _).set 1 _), ((BX.far (by omega) _ _).far (by omega) _ _)⟩ (fun wt21x24 hS => ?_)
                clear hHeld BY BX
                obtain ⟨hHeld, BY, BX⟩ := hS
                refine wpAnyH_take (i := 9) (oi := _) (v := ?vt21x25) rfl (by kernel_rfl) (by kernel_rfl) (by kernel_rfl) (fun _ _ _ h => h) (Or.inl ⟨by kernel_rfl, ?hyt21x25⟩) hHeld ?restt21x25
                case hyt21x25 => (intro w hSw; go_simp; first | done | (with_reducible rfl))
                try simp only [Act.put, List.append, PA, set16]
                try simp only [PB]
                refine wpAnyH_done (by kernel_rfl) ?_ _
                go_wp2_with fail
                go_meet
                exact ⟨_, rfl, rfl, hHeld⟩
          ·
            go_simp
            refine hK.out _ _ (below_al hHeld _) (fun hNew => ?_)
            have hY : V21.heap.size ≤ wt21x0.heap.size := hHeld.size
            clear hHeld hK K
            have hHeld := hNew
            clear hNew
            try simp only [Act.put, List.append, PA, set16]
            try simp only [PB]
            refine at_anyH (fun v => Below V21.heap.size V21 v ∧ BK v wt21x0.heap.size [.int .i64 0, .int .i64 0]) ⟨hHeld, BK.new _ _ _⟩ (fun wt21x26 hS => ?_)
            clear hHeld
            obtain ⟨hHeld, BY⟩ := hS
            refine wpAnyH_ready (rs := [1]) (by kernel_rfl) (by simp) (AllReadyH.cons (o := _) rfl (fun K hK => ?_) AllReadyH.nil)
            go_simp
            refine (of_any 7 9 _).mono ?_
            rintro e wt21x27 ⟨rfl, hb3⟩
            go_wp2_with fail
            refine hK.out _ _ (keepB hHeld hb3) (fun hNew => ?_)
            replace BY := BY.keep hb3
            clear hb3
            clear hHeld hK K
            have hHeld := hNew
            clear hNew
            try simp only [Act.put, List.append, PA, set16]
            try simp only [PB]
            refine wpAnyH_ready (rs := [2]) (by kernel_rfl) (by simp) (AllReadyH.cons (o := _) rfl (fun K hK => ?_) AllReadyH.nil)
            go_simp
            refine hK.out _ _ (below_al hHeld _) (fun hNew => ?_)
            have hX : V21.heap.size ≤ wt21x27.heap.size := hHeld.size
            have dYX := BY.lt
            clear hHeld hK K
            have hHeld := hNew
            clear hNew
            try simp only [Act.put, List.append, PA, set16]
            try simp only [PB]
            refine at_anyH (fun v => Below V21.heap.size V21 v ∧ BK v wt21x0.heap.size [.int .i64 0, .int .i64 0] ∧ BK v wt21x27.heap.size [.int .i64 7, .int .i64 1, .int .i64 9, .int .i64 1]) ⟨hHeld, BY.al _, BK.new _ _ _⟩ (fun wt21x28 hS => ?_)
            clear hHeld BY
            obtain ⟨hHeld, BY, BX⟩ := hS
            as_aux_lemma =>
              refine wpAnyH_ready (rs := [3]) (by kernel_rfl) (by simp) (AllReadyH.cons (o := _) rfl (fun K hK => ?_) AllReadyH.nil)
              go_simp
              refine (pn_t (some ⟨P12, 0, none⟩) (some ⟨P12 + 1, 0, none⟩) _ 1 _ (IC.keep hHeld) (isS_bk (xs := [⟨7, 1, 9, 1⟩]) BX (by intro s hs; simp at hs; subst hs; exact ⟨⟨⟨by decide, by decide⟩, by decide, by decide⟩, ⟨by decide, by decide⟩, by decide, by decide⟩) (by simp [maxLen]))).mono ?_
              rintro e wt21x29 ⟨rfl, hb3⟩
              go_wp2_with fail
              refine hK.out _ _ (keepB hHeld hb3) (fun hNew => ?_)
              replace BY := BY.keep hb3
              replace BX := BX.keep hb3
              clear hb3
              clear hHeld hK K
              have hHeld := hNew
              clear hNew
              try simp only [Act.put, List.append, PA, set16]
              try simp only [PB]
              refine wpAnyH_take (i := 4) (oi := _) (v := ?vt21x30) rfl (by kernel_rfl) (by kernel_rfl) (by kernel_rfl) (fun _ _ _ h => h) (Or.inl ⟨by kernel_rfl, ?hyt21x30⟩) hHeld ?restt21x30
              case hyt21x30 => (intro w hSw; go_simp; first | done | (with_reducible rfl))
              try simp only [Act.put, List.append, PA, set16]
              try simp only [PB]
              refine wpAnyH_take (i := 5) (oi := _) (v := ?vt21x31) rfl (by kernel_rfl) (by kernel_rfl) (by kernel_rfl) (fun _ _ _ h => h) (Or.inl ⟨by kernel_rfl, ?hyt21x31⟩) hHeld ?restt21x31
              case hyt21x31 => (intro w hSw; go_simp; first | done | (with_reducible rfl))
              try simp only [Act.put, List.append, PA, set16]
              try simp only [PB]
              refine wpAnyH_take (i := 6) (oi := _) (v := ?vt21x32) rfl (by kernel_rfl) (by kernel_rfl) (by kernel_rfl) (fun _ _ _ h => h) (Or.inl ⟨by kernel_rfl, ?hyt21x32⟩) hHeld ?restt21x32
              case hyt21x32 => (intro w hSw; go_simp; first | done | (with_reducible rfl))
              try simp only [Act.put, List.append, PA, set16]
              try simp only [PB]
              refine wpAnyH_ready (rs := [8]) (by kernel_rfl) (by simp) (AllReadyH.cons (o := _) rfl (fun K hK => ?_) AllReadyH.nil)
              have n0 := BY.c 0 rfl
              have f0 := BY.f 0 rfl
              have n1 := BY.c 1 rfl
              have f1 := BY.f 1 rfl
              go_simp
              clear n0 f0 n1 f1
              refine hK.out _ _ (below_set (below_set hHeld (by omega) _) (by omega) _) (fun hNew => ?_)
              clear hHeld hK K
              have hHeld := hNew
              clear hNew
              try simp only [Act.put, List.append, PA, set16]
              try simp only [PB]
              refine at_anyH (fun v => Below V21.heap.size V21 v ∧ BK v wt21x0.heap.size [.int .i64 0, .int .i64 0] ∧ BK v wt21x27.heap.size [.int .i64 7, .int .i64 1, .int .i64 9, .int .i64 1]) ⟨hHeld, ((BY.set 0 _).set 1 _), ((BX.far (by omega) _ _).far (by omega) _ _)⟩ (fun wt21x33 hS => ?_)
              clear hHeld BY BX
              obtain ⟨hHeld, BY, BX⟩ := hS
              refine wpAnyH_take (i := 9) (oi := _) (v := ?vt21x34) rfl (by kernel_rfl) (by kernel_rfl) (by kernel_rfl) (fun _ _ _ h => h) (Or.inl ⟨by kernel_rfl, ?hyt21x34⟩) hHeld ?restt21x34
              case hyt21x34 => (intro w hSw; go_simp; first | done | (with_reducible rfl))
              try simp only [Act.put, List.append, PA, set16]
              try simp only [PB]
              refine wpAnyH_done (by kernel_rfl) ?_ _
              go_wp2_with fail
              go_meet
              exact ⟨_, rfl, rfl, hHeld⟩
        case rest =>
          obtain ⟨p31, rfl, rfl, hb3⟩ := hcut
          clear q0 q1 q2
          replace BC := BC.keep hb3
          replace IC := IC.keep hb3
          replace IM := IM.keep hb3
          replace hbb := keepB hbb hb3
          clear hb3
          go_upto_region 22 with fail
          refine at_worldQ (fun v => Below w.heap.size w v ∧ BK v (P12 + 2) [.int .i64 8, .slice (some ⟨P12, 0, none⟩) 3 3, .slice (some ⟨P12 + 1, 0, none⟩) 2 2] ∧ IsCake v 8 (some ⟨P12, 0, none⟩) [0, 3, 8] (some ⟨P12 + 1, 0, none⟩) [2, 1] ∧ IsS v Am ((Pc.manyQ 61).map Pc.raw)) ⟨hbb, BC, IC, IM⟩ (fun V22 hS => ?_)
          clear hbb BC IC IM
          obtain ⟨hbb, BC, IC, IM⟩ := hS
          have q0 := BC.c 0 rfl
          have q1 := BC.c 1 rfl
          have q2 := BC.c 2 rfl
          go_cut [33, 34] (fun x z v => ∃ p : Nat, x = .pointer (some ⟨p, 0, none⟩) ∧ z = .int .i64 2 ∧ Below V22.heap.size V22 v)
          case first =>
            refine wp_region_held_drew (S := (Below V22.heap.size V22)) (by kernel_rfl) ((Below.refl _ _).drew) (fun hHeld => ?_)
            refine at_anyH (Below V22.heap.size V22) hHeld (fun wt22x0 hNew => ?_)
            clear hHeld
            have hHeld := hNew
            clear hNew
            refine wpAnyH_take (i := 0) (oi := _) (v := ?vt22x1) rfl (by kernel_rfl) (by kernel_rfl) (by kernel_rfl) (fun _ _ _ h => h) (Or.inl ⟨by kernel_rfl, ?hyt22x1⟩) hHeld ?restt22x1
            case hyt22x1 => (intro w hSw; have kq0 := keepC hSw q0; have kq1 := keepC hSw q1; have kq2 := keepC hSw q2; go_simp; first | done | (with_reducible rfl))
            try simp only [Act.put, List.append, PA, set16]
            try simp only [PB]
            refine wpAnyH_ready (rs := [1, 7]) (by kernel_rfl) (by simp) (AllReadyH.cons (o := _) rfl (fun K hK => ?_) (AllReadyH.cons (o := _) rfl (fun K hK => ?_) AllReadyH.nil))
            ·
              go_simp
              refine (of_any (-1) 1 _).mono ?_
              rintro e wt22x2 ⟨rfl, hb3⟩
              go_wp2_with fail
              refine hK.out _ _ (keepB hHeld hb3) (fun hNew => ?_)
              clear hb3
              clear hHeld hK K
              have hHeld := hNew
              clear hNew
              try simp only [Act.put, List.append, PA, set16]
              try simp only [PB]
              refine wpAnyH_ready (rs := [2, 7]) (by kernel_rfl) (by simp) (AllReadyH.cons (o := _) rfl (fun K hK => ?_) (AllReadyH.cons (o := _) rfl (fun K hK => ?_) AllReadyH.nil))
              ·
                go_simp
                refine hK.out _ _ (below_al hHeld _) (fun hNew => ?_)
                have hX : V22.heap.size ≤ wt22x2.heap.size := hHeld.size
                clear hHeld hK K
                have hHeld := hNew
                clear hNew
                try simp only [Act.put, List.append, PA, set16]
                try simp only [PB]
                refine at_anyH (fun v => Below V22.heap.size V22 v ∧ BK v wt22x2.heap.size [.int .i64 (-1), .int .i64 1, .int .i64 1, .int .i64 1]) ⟨hHeld, BK.new _ _ _⟩ (fun wt22x3 hS => ?_)
                clear hHeld
                obtain ⟨hHeld, BX⟩ := hS
                as_aux_lemma =>
                  refine wpAnyH_ready (rs := [3, 7]) (by kernel_rfl) (by simp) (AllReadyH.cons (o := _) rfl (fun K hK => ?_) (AllReadyH.cons (o := _) rfl (fun K hK => ?_) AllReadyH.nil))
                  ·
                    go_simp
                    refine (pn_u (some ⟨P12, 0, none⟩) (some ⟨P12 + 1, 0, none⟩) _ 1 _ (IC.keep hHeld) (isS_bk (xs := [⟨-1, 1, 1, 1⟩]) BX (by intro s hs; simp at hs; subst hs; exact ⟨⟨⟨by decide, by decide⟩, by decide, by decide⟩, ⟨by decide, by decide⟩, by decide, by decide⟩) (by simp [maxLen]))).mono ?_
                    rintro e wt22x4 ⟨rfl, hb3⟩
                    go_wp2_with fail
                    refine hK.out _ _ (keepB hHeld hb3) (fun hNew => ?_)
                    replace BX := BX.keep hb3
                    clear hb3
                    clear hHeld hK K
                    have hHeld := hNew
                    clear hNew
                    try simp only [Act.put, List.append, PA, set16]
                    try simp only [PB]
                    refine wpAnyH_take (i := 4) (oi := _) (v := ?vt22x5) rfl (by kernel_rfl) (by kernel_rfl) (by kernel_rfl) (fun _ _ _ h => h) (Or.inl ⟨by kernel_rfl, ?hyt22x5⟩) hHeld ?restt22x5
                    case hyt22x5 => (intro w hSw; go_simp; first | done | (with_reducible rfl))
                    try simp only [Act.put, List.append, PA, set16]
                    try simp only [PB]
                    refine wpAnyH_take (i := 5) (oi := _) (v := ?vt22x6) rfl (by kernel_rfl) (by kernel_rfl) (by kernel_rfl) (fun _ _ _ h => h) (Or.inl ⟨by kernel_rfl, ?hyt22x6⟩) hHeld ?restt22x6
                    case hyt22x6 => (intro w hSw; go_simp; first | done | (with_reducible rfl))
                    try simp only [Act.put, List.append, PA, set16]
                    try simp only [PB]
                    refine wpAnyH_take (i := 6) (oi := _) (v := ?vt22x7) rfl (by kernel_rfl) (by kernel_rfl) (by kernel_rfl) (fun _ _ _ h => h) (Or.inl ⟨by kernel_rfl, ?hyt22x7⟩) hHeld ?restt22x7
                    case hyt22x7 => (intro w hSw; go_simp; first | done | (with_reducible rfl))
                    try simp only [Act.put, List.append, PA, set16]
                    try simp only [PB]
                    refine wpAnyH_ready (rs := [7]) (by kernel_rfl) (by simp) (AllReadyH.cons (o := _) rfl (fun K hK => ?_) AllReadyH.nil)
                    go_simp
                    refine hK.out _ _ (below_al hHeld _) (fun hNew => ?_)
                    have hY : V22.heap.size ≤ wt22x4.heap.size := hHeld.size
                    have dXY := BX.lt
                    clear hHeld hK K
                    have hHeld := hNew
                    clear hNew
                    try simp only [Act.put, List.append, PA, set16]
                    try simp only [PB]
                    refine at_anyH (fun v => Below V22.heap.size V22 v ∧ BK v wt22x2.heap.size [.int .i64 (-1), .int .i64 1, .int .i64 1, .int .i64 1] ∧ BK v wt22x4.heap.size [.int .i64 0, .int .i64 0]) ⟨hHeld, BX.al _, BK.new _ _ _⟩ (fun wt22x8 hS => ?_)
                    clear hHeld BX
                    obtain ⟨hHeld, BX, BY⟩ := hS
                    refine wpAnyH_ready (rs := [8]) (by kernel_rfl) (by simp) (AllReadyH.cons (o := _) rfl (fun K hK => ?_) AllReadyH.nil)
                    have n0 := BY.c 0 rfl
                    have f0 := BY.f 0 rfl
                    have n1 := BY.c 1 rfl
                    have f1 := BY.f 1 rfl
                    go_simp
                    clear n0 f0 n1 f1
                    refine hK.out _ _ (below_set (below_set hHeld (by omega) _) (by omega) _) (fun hNew => ?_)
                    clear hHeld hK K
                    have hHeld := hNew
                    clear hNew
                    try simp only [Act.put, List.append, PA, set16]
                    try simp only [PB]
                    refine at_anyH (fun v => Below V22.heap.size V22 v ∧ BK v wt22x2.heap.size [.int .i64 (-1), .int .i64 1, .int .i64 1, .int .i64 1] ∧ BK v wt22x4.heap.size [.int .i64 0, .int .i64 0]) ⟨hHeld, ((BX.far (by omega) _ _).far (by omega) _ _), ((BY.set 0 _).set 1 _)⟩ (fun wt22x9 hS => ?_)
                    clear hHeld BX BY
                    obtain ⟨hHeld, BX, BY⟩ := hS
                    refine wpAnyH_take (i := 9) (oi := _) (v := ?vt22x10) rfl (by kernel_rfl) (by kernel_rfl) (by kernel_rfl) (fun _ _ _ h => h) (Or.inl ⟨by kernel_rfl, ?hyt22x10⟩) hHeld ?restt22x10
                    case hyt22x10 => (intro w hSw; go_simp; first | done | (with_reducible rfl))
                    try simp only [Act.put, List.append, PA, set16]
                    try simp only [PB]
                    refine wpAnyH_done (by kernel_rfl) ?_ _
                    go_wp2_with fail
                    go_meet
                    exact ⟨_, rfl, rfl, hHeld⟩
                  ·
                    go_simp
                    refine hK.out _ _ (below_al hHeld _) (fun hNew => ?_)
                    have hY : V22.heap.size ≤ wt22x3.heap.size := hHeld.size
                    have dXY := BX.lt
                    clear hHeld hK K
                    have hHeld := hNew
                    clear hNew
                    try simp only [Act.put, List.append, PA, set16]
                    try simp only [PB]
                    refine at_anyH (fun v => Below V22.heap.size V22 v ∧ BK v wt22x2.heap.size [.int .i64 (-1), .int .i64 1, .int .i64 1, .int .i64 1] ∧ BK v wt22x3.heap.size [.int .i64 0, .int .i64 0]) ⟨hHeld, BX.al _, BK.new _ _ _⟩ (fun wt22x11 hS => ?_)
                    clear hHeld BX
                    obtain ⟨hHeld, BX, BY⟩ := hS
                    refine wpAnyH_ready (rs := [3]) (by kernel_rfl) (by simp) (AllReadyH.cons (o := _) rfl (fun K hK => ?_) AllReadyH.nil)
                    go_simp
                    refine (pn_u (some ⟨P12, 0, none⟩) (some ⟨P12 + 1, 0, none⟩) _ 1 _ (IC.keep hHeld) (isS_bk (xs := [⟨-1, 1, 1, 1⟩]) BX (by intro s hs; simp at hs; subst hs; exact ⟨⟨⟨by decide, by decide⟩, by decide, by decide⟩, ⟨by decide, by decide⟩, by decide, by decide⟩) (by simp [maxLen]))).mono ?_
                    rintro e wt22x12 ⟨rfl, hb3⟩
                    go_wp2_with fail
                    refine hK.out _ _ (keepB hHeld hb3) (fun hNew => ?_)
                    replace BX := BX.keep hb3
                    replace BY := BY.keep hb3
                    clear hb3
                    clear hHeld hK K
                    have hHeld := hNew
                    clear hNew
                    try simp only [Act.put, List.append, PA, set16]
                    try simp only [PB]
                    refine wpAnyH_take (i := 4) (oi := _) (v := ?vt22x13) rfl (by kernel_rfl) (by kernel_rfl) (by kernel_rfl) (fun _ _ _ h => h) (Or.inl ⟨by kernel_rfl, ?hyt22x13⟩) hHeld ?restt22x13
                    case hyt22x13 => (intro w hSw; go_simp; first | done | (with_reducible rfl))
                    try simp only [Act.put, List.append, PA, set16]
                    try simp only [PB]
                    refine wpAnyH_take (i := 5) (oi := _) (v := ?vt22x14) rfl (by kernel_rfl) (by kernel_rfl) (by kernel_rfl) (fun _ _ _ h => h) (Or.inl ⟨by kernel_rfl, ?hyt22x14⟩) hHeld ?restt22x14
                    case hyt22x14 => (intro w hSw; go_simp; first | done | (with_reducible rfl))
                    try simp only [Act.put, List.append, PA, set16]
                    try simp only [PB]
                    refine wpAnyH_take (i := 6) (oi := _) (v := ?vt22x15) rfl (by kernel_rfl) (by kernel_rfl) (by kernel_rfl) (fun _ _ _ h => h) (Or.inl ⟨by kernel_rfl, ?hyt22x15⟩) hHeld ?restt22x15
                    case hyt22x15 => (intro w hSw; go_simp; first | done | (with_reducible rfl))
                    try simp only [Act.put, List.append, PA, set16]
                    try simp only [PB]
                    refine wpAnyH_ready (rs := [8]) (by kernel_rfl) (by simp) (AllReadyH.cons (o := _) rfl (fun K hK => ?_) AllReadyH.nil)
                    have n0 := BY.c 0 rfl
                    have f0 := BY.f 0 rfl
                    have n1 := BY.c 1 rfl
                    have f1 := BY.f 1 rfl
                    go_simp
                    clear n0 f0 n1 f1
                    refine hK.out _ _ (below_set (below_set hHeld (by omega) _) (by omega) _) (fun hNew => ?_)
                    clear hHeld hK K
                    have hHeld := hNew
                    clear hNew
                    try simp only [Act.put, List.append, PA, set16]
                    try simp only [PB]
                    refine at_anyH (fun v => Below V22.heap.size V22 v ∧ BK v wt22x2.heap.size [.int .i64 (-1), .int .i64 1, .int .i64 1, .int .i64 1] ∧ BK v wt22x3.heap.size [.int .i64 0, .int .i64 0]) ⟨hHeld, ((BX.far (by omega) _ _).far (by omega) _ _), ((BY.set 0 _).set 1 _)⟩ (fun wt22x16 hS => ?_)
                    clear hHeld BX BY
                    obtain ⟨hHeld, BX, BY⟩ := hS
                    refine wpAnyH_take (i := 9) (oi := _) (v := ?vt22x17) rfl (by kernel_rfl) (by kernel_rfl) (by kernel_rfl) (fun _ _ _ h => h) (Or.inl ⟨by kernel_rfl, ?hyt22x17⟩) hHeld ?restt22x17
                    case hyt22x17 => (intro w hSw; go_simp; first | done | (with_reducible rfl))
                    try simp only [Act.put, List.append, PA, set16]
                    try simp only [PB]
                    refine wpAnyH_done (by kernel_rfl) ?_ _
                    go_wp2_with fail
                    go_meet
                    exact ⟨_, rfl, rfl, hHeld⟩
              ·
                go_simp
                refine hK.out _ _ (below_al hHeld _) (fun hNew => ?_)
                have hY : V22.heap.size ≤ wt22x2.heap.size := hHeld.size
                clear hHeld hK K
                have hHeld := hNew
                clear hNew
                try simp only [Act.put, List.append, PA, set16]
                try simp only [PB]
                refine at_anyH (fun v => Below V22.heap.size V22 v ∧ BK v wt22x2.heap.size [.int .i64 0, .int .i64 0]) ⟨hHeld, BK.new _ _ _⟩ (fun wt22x18 hS => ?_)
                clear hHeld
                obtain ⟨hHeld, BY⟩ := hS
                refine wpAnyH_ready (rs := [2]) (by kernel_rfl) (by simp) (AllReadyH.cons (o := _) rfl (fun K hK => ?_) AllReadyH.nil)
                go_simp
                refine hK.out _ _ (below_al hHeld _) (fun hNew => ?_)
                have hX : V22.heap.size ≤ wt22x18.heap.size := hHeld.size
                have dYX := BY.lt
                clear hHeld hK K
                have hHeld := hNew
                clear hNew
                try simp only [Act.put, List.append, PA, set16]
                try simp only [PB]
                refine at_anyH (fun v => Below V22.heap.size V22 v ∧ BK v wt22x2.heap.size [.int .i64 0, .int .i64 0] ∧ BK v wt22x18.heap.size [.int .i64 (-1), .int .i64 1, .int .i64 1, .int .i64 1]) ⟨hHeld, BY.al _, BK.new _ _ _⟩ (fun wt22x19 hS => ?_)
                clear hHeld BY
                obtain ⟨hHeld, BY, BX⟩ := hS
                as_aux_lemma =>
                  refine wpAnyH_ready (rs := [3]) (by kernel_rfl) (by simp) (AllReadyH.cons (o := _) rfl (fun K hK => ?_) AllReadyH.nil)
                  go_simp
                  refine (pn_u (some ⟨P12, 0, none⟩) (some ⟨P12 + 1, 0, none⟩) _ 1 _ (IC.keep hHeld) (isS_bk (xs := [⟨-1, 1, 1, 1⟩]) BX (by intro s hs; simp at hs; subst hs; exact ⟨⟨⟨by decide, by decide⟩, by decide, by decide⟩, ⟨by decide, by decide⟩, by decide, by decide⟩) (by simp [maxLen]))).mono ?_
                  rintro e wt22x20 ⟨rfl, hb3⟩
                  go_wp2_with fail
                  refine hK.out _ _ (keepB hHeld hb3) (fun hNew => ?_)
                  replace BY := BY.keep hb3
                  replace BX := BX.keep hb3
                  clear hb3
                  clear hHeld hK K
                  have hHeld := hNew
                  clear hNew
                  try simp only [Act.put, List.append, PA, set16]
                  try simp only [PB]
                  refine wpAnyH_take (i := 4) (oi := _) (v := ?vt22x21) rfl (by kernel_rfl) (by kernel_rfl) (by kernel_rfl) (fun _ _ _ h => h) (Or.inl ⟨by kernel_rfl, ?hyt22x21⟩) hHeld ?restt22x21
                  case hyt22x21 => (intro w hSw; go_simp; first | done | (with_reducible rfl))
                  try simp only [Act.put, List.append, PA, set16]
                  try simp only [PB]
                  refine wpAnyH_take (i := 5) (oi := _) (v := ?vt22x22) rfl (by kernel_rfl) (by kernel_rfl) (by kernel_rfl) (fun _ _ _ h => h) (Or.inl ⟨by kernel_rfl, ?hyt22x22⟩) hHeld ?restt22x22
                  case hyt22x22 => (intro w hSw; go_simp; first | done | (with_reducible rfl))
                  try simp only [Act.put, List.append, PA, set16]
                  try simp only [PB]
                  refine wpAnyH_take (i := 6) (oi := _) (v := ?vt22x23) rfl (by kernel_rfl) (by kernel_rfl) (by kernel_rfl) (fun _ _ _ h => h) (Or.inl ⟨by kernel_rfl, ?hyt22x23⟩) hHeld ?restt22x23
                  case hyt22x23 => (intro w hSw; go_simp; first | done | (with_reducible rfl))
                  try simp only [Act.put, List.append, PA, set16]
                  try simp only [PB]
                  refine wpAnyH_ready (rs := [8]) (by kernel_rfl) (by simp) (AllReadyH.cons (o := _) rfl (fun K hK => ?_) AllReadyH.nil)
                  have n0 := BY.c 0 rfl
                  have f0 := BY.f 0 rfl
                  have n1 := BY.c 1 rfl
                  have f1 := BY.f 1 rfl
                  go_simp
                  clear n0 f0 n1 f1
                  refine hK.out _ _ (below_set (below_set hHeld (by omega) _) (by omega) _) (fun hNew => ?_)
                  clear hHeld hK K
                  have hHeld := hNew
                  clear hNew
                  try simp only [Act.put, List.append, PA, set16]
                  try simp only [PB]
                  refine at_anyH (fun v => Below V22.heap.size V22 v ∧ BK v wt22x2.heap.size [.int .i64 0, .int .i64 0] ∧ BK v wt22x18.heap.size [.int .i64 (-1), .int .i64 1, .int .i64 1, .int .i64 1]) ⟨hHeld, ((BY.set 0 _).set 1 _), ((BX.far (by omega) _ _).far (by omega) _ _)⟩ (fun wt22x24 hS => ?_)
                  clear hHeld BY BX
                  obtain ⟨hHeld, BY, BX⟩ := hS
                  refine wpAnyH_take (i := 9) (oi := _) (v := ?vt22x25) rfl (by kernel_rfl) (by kernel_rfl) (by kernel_rfl) (fun _ _ _ h => h) (Or.inl ⟨by kernel_rfl, ?hyt22x25⟩) hHeld ?restt22x25
                  case hyt22x25 => (intro w hSw; go_simp; first | done | (with_reducible rfl))
                  try simp only [Act.put, List.append, PA, set16]
                  try simp only [PB]
                  refine wpAnyH_done (by kernel_rfl) ?_ _
                  go_wp2_with fail
                  go_meet
                  exact ⟨_, rfl, rfl, hHeld⟩
            ·
              go_simp
              refine hK.out _ _ (below_al hHeld _) (fun hNew => ?_)
              have hY : V22.heap.size ≤ wt22x0.heap.size := hHeld.size
              clear hHeld hK K
              have hHeld := hNew
              clear hNew
              try simp only [Act.put, List.append, PA, set16]
              try simp only [PB]
              refine at_anyH (fun v => Below V22.heap.size V22 v ∧ BK v wt22x0.heap.size [.int .i64 0, .int .i64 0]) ⟨hHeld, BK.new _ _ _⟩ (fun wt22x26 hS => ?_)
              clear hHeld
              obtain ⟨hHeld, BY⟩ := hS
              refine wpAnyH_ready (rs := [1]) (by kernel_rfl) (by simp) (AllReadyH.cons (o := _) rfl (fun K hK => ?_) AllReadyH.nil)
              go_simp
              refine (of_any (-1) 1 _).mono ?_
              rintro e wt22x27 ⟨rfl, hb3⟩
              go_wp2_with fail
              refine hK.out _ _ (keepB hHeld hb3) (fun hNew => ?_)
              replace BY := BY.keep hb3
              clear hb3
              clear hHeld hK K
              have hHeld := hNew
              clear hNew
              try simp only [Act.put, List.append, PA, set16]
              try simp only [PB]
              refine wpAnyH_ready (rs := [2]) (by kernel_rfl) (by simp) (AllReadyH.cons (o := _) rfl (fun K hK => ?_) AllReadyH.nil)
              go_simp
              refine hK.out _ _ (below_al hHeld _) (fun hNew => ?_)
              have hX : V22.heap.size ≤ wt22x27.heap.size := hHeld.size
              have dYX := BY.lt
              clear hHeld hK K
              have hHeld := hNew
              clear hNew
              try simp only [Act.put, List.append, PA, set16]
              try simp only [PB]
              refine at_anyH (fun v => Below V22.heap.size V22 v ∧ BK v wt22x0.heap.size [.int .i64 0, .int .i64 0] ∧ BK v wt22x27.heap.size [.int .i64 (-1), .int .i64 1, .int .i64 1, .int .i64 1]) ⟨hHeld, BY.al _, BK.new _ _ _⟩ (fun wt22x28 hS => ?_)
              clear hHeld BY
              obtain ⟨hHeld, BY, BX⟩ := hS
              as_aux_lemma =>
                refine wpAnyH_ready (rs := [3]) (by kernel_rfl) (by simp) (AllReadyH.cons (o := _) rfl (fun K hK => ?_) AllReadyH.nil)
                go_simp
                refine (pn_u (some ⟨P12, 0, none⟩) (some ⟨P12 + 1, 0, none⟩) _ 1 _ (IC.keep hHeld) (isS_bk (xs := [⟨-1, 1, 1, 1⟩]) BX (by intro s hs; simp at hs; subst hs; exact ⟨⟨⟨by decide, by decide⟩, by decide, by decide⟩, ⟨by decide, by decide⟩, by decide, by decide⟩) (by simp [maxLen]))).mono ?_
                rintro e wt22x29 ⟨rfl, hb3⟩
                go_wp2_with fail
                refine hK.out _ _ (keepB hHeld hb3) (fun hNew => ?_)
                replace BY := BY.keep hb3
                replace BX := BX.keep hb3
                clear hb3
                clear hHeld hK K
                have hHeld := hNew
                clear hNew
                try simp only [Act.put, List.append, PA, set16]
                try simp only [PB]
                refine wpAnyH_take (i := 4) (oi := _) (v := ?vt22x30) rfl (by kernel_rfl) (by kernel_rfl) (by kernel_rfl) (fun _ _ _ h => h) (Or.inl ⟨by kernel_rfl, ?hyt22x30⟩) hHeld ?restt22x30
                case hyt22x30 => (intro w hSw; go_simp; first | done | (with_reducible rfl))
                try simp only [Act.put, List.append, PA, set16]
                try simp only [PB]
                refine wpAnyH_take (i := 5) (oi := _) (v := ?vt22x31) rfl (by kernel_rfl) (by kernel_rfl) (by kernel_rfl) (fun _ _ _ h => h) (Or.inl ⟨by kernel_rfl, ?hyt22x31⟩) hHeld ?restt22x31
                case hyt22x31 => (intro w hSw; go_simp; first | done | (with_reducible rfl))
                try simp only [Act.put, List.append, PA, set16]
                try simp only [PB]
                refine wpAnyH_take (i := 6) (oi := _) (v := ?vt22x32) rfl (by kernel_rfl) (by kernel_rfl) (by kernel_rfl) (fun _ _ _ h => h) (Or.inl ⟨by kernel_rfl, ?hyt22x32⟩) hHeld ?restt22x32
                case hyt22x32 => (intro w hSw; go_simp; first | done | (with_reducible rfl))
                try simp only [Act.put, List.append, PA, set16]
                try simp only [PB]
                refine wpAnyH_ready (rs := [8]) (by kernel_rfl) (by simp) (AllReadyH.cons (o := _) rfl (fun K hK => ?_) AllReadyH.nil)
                have n0 := BY.c 0 rfl
                have f0 := BY.f 0 rfl
                have n1 := BY.c 1 rfl
                have f1 := BY.f 1 rfl
                go_simp
                clear n0 f0 n1 f1
                refine hK.out _ _ (below_set (below_set hHeld (by omega) _) (by omega) _) (fun hNew => ?_)
                clear hHeld hK K
                have hHeld := hNew
                clear hNew
                try simp only [Act.put, List.append, PA, set16]
                try simp only [PB]
                refine at_anyH (fun v => Below V22.heap.size V22 v ∧ BK v wt22x0.heap.size [.int .i64 0, .int .i64 0] ∧ BK v wt22x27.heap.size [.int .i64 (-1), .int .i64 1, .int .i64 1, .int .i64 1]) ⟨hHeld, ((BY.set 0 _).set 1 _), ((BX.far (by omega) _ _).far (by omega) _ _)⟩ (fun wt22x33 hS => ?_)
                clear hHeld BY BX
                obtain ⟨hHeld, BY, BX⟩ := hS
                refine wpAnyH_take (i := 9) (oi := _) (v := ?vt22x34) rfl (by kernel_rfl) (by kernel_rfl) (by kernel_rfl) (fun _ _ _ h => h) (Or.inl ⟨by kernel_rfl, ?hyt22x34⟩) hHeld ?restt22x34
                case hyt22x34 => (intro w hSw; go_simp; first | done | (with_reducible rfl))
                try simp only [Act.put, List.append, PA, set16]
                try simp only [PB]
                refine wpAnyH_done (by kernel_rfl) ?_ _
                go_wp2_with fail
                go_meet
                exact ⟨_, rfl, rfl, hHeld⟩
          case rest =>
            obtain ⟨p33, rfl, rfl, hb3⟩ := hcut
            clear q0 q1 q2
            replace BC := BC.keep hb3
            replace IC := IC.keep hb3
            replace IM := IM.keep hb3
            replace hbb := keepB hbb hb3
            clear hb3
            go_upto_region 23 with fail
            refine at_worldQ (fun v => Below w.heap.size w v ∧ BK v (P12 + 2) [.int .i64 8, .slice (some ⟨P12, 0, none⟩) 3 3, .slice (some ⟨P12 + 1, 0, none⟩) 2 2] ∧ IsCake v 8 (some ⟨P12, 0, none⟩) [0, 3, 8] (some ⟨P12 + 1, 0, none⟩) [2, 1] ∧ IsS v Am ((Pc.manyQ 61).map Pc.raw)) ⟨hbb, BC, IC, IM⟩ (fun V23 hS => ?_)
            clear hbb BC IC IM
            obtain ⟨hbb, BC, IC, IM⟩ := hS
            clear BC
            clear IC
            go_wp2_with fail
            refine (pn_w Am 61 cm _).mono ?_
            rintro e w42 ⟨rfl, hb3⟩
            replace IM := IM.keep hb3
            replace hbb := keepB hbb hb3
            clear hb3
            go_upto_region 24 with fail
            refine at_worldQ (fun v => Below w.heap.size w v ∧ IsS v Am ((Pc.manyQ 61).map Pc.raw) ∧ BK v (w42.heap.size) [.int .i64 0, .int .i64 0]) ⟨(below_al hbb _), (IM.keep (below_al (Below.refl _ _) _)), (BK.new w42 [.int .i64 0, .int .i64 0] 23)⟩ (fun V43 hS => ?_)
            clear hbb IM
            obtain ⟨hbb, IM, Bw⟩ := hS
            generalize w42.heap.size = P43 at *
            clear Bw
            go_wp2_with fail
            refine (pn_x _).mono ?_
            rintro e w44 ⟨ux1, ux2, rfl, hb3⟩
            replace IM := IM.keep hb3
            replace hbb := keepB hbb hb3
            clear hb3
            go_wp2_with fail
            refine at_worldR (fun v => Below w.heap.size w v ∧ IsS v Am ((Pc.manyQ 61).map Pc.raw) ∧ BK v (w44.heap.size) [.int .i64 1, .int .i64 1000000000000000000, .int .i64 1, .int .i64 999999999999999999]) ⟨(below_al hbb _), (IM.keep (below_al (Below.refl _ _) _)), (BK.new w44 [.int .i64 1, .int .i64 1000000000000000000, .int .i64 1, .int .i64 999999999999999999] 25)⟩ (fun V45 hS => ?_)
            clear hbb IM
            obtain ⟨hbb, IM, Bx⟩ := hS
            generalize w44.heap.size = P45 at *
            have Hx := isS_bk (xs := [⟨1, 1000000000000000000, 1, 999999999999999999⟩]) Bx (by intro s hs; simp at hs; subst hs; exact ⟨⟨⟨by decide, by decide⟩, by decide, by decide⟩, ⟨by decide, by decide⟩, by decide, by decide⟩) (by simp [maxLen])
            clear Bx
            refine (pn_y (some ⟨P45, 0, none⟩) 1 _ Hx).mono ?_
            rintro e w46 ⟨rfl, hb3⟩
            replace IM := IM.keep hb3
            replace hbb := keepB hbb hb3
            clear hb3
            clear Hx
            go_upto_region 26 with fail
            refine at_worldQ (fun v => Below w.heap.size w v ∧ IsS v Am ((Pc.manyQ 61).map Pc.raw) ∧ BK v (w46.heap.size) [.int .i64 0, .int .i64 0]) ⟨(below_al hbb _), (IM.keep (below_al (Below.refl _ _) _)), (BK.new w46 [.int .i64 0, .int .i64 0] 23)⟩ (fun V47 hS => ?_)
            clear hbb IM
            obtain ⟨hbb, IM, Bw⟩ := hS
            generalize w46.heap.size = P47 at *
            clear Bw
            go_wp2_with fail
            refine (pn_c1 Am cm _ IM).mono ?_
            rintro e w48 ⟨rfl, hb3⟩
            replace IM := IM.keep hb3
            replace hbb := keepB hbb hb3
            clear hb3
            have hc60 : (60 : Int) ≤ (cm : Int) := by omega
            have I60 := IM.take_ 60
            rw [Pc.manyQ_take] at I60
            go_wp2_with fail
            refine (pn_c2 Am cm _ I60).mono ?_
            rintro e w49 ⟨rfl, hb3⟩
            replace IM := IM.keep hb3
            replace I60 := I60.keep hb3
            replace hbb := keepB hbb hb3
            clear hb3
            clear I60
            clear IM
            go_wp2_with fail
            refine (of_any 2 3 _).mono ?_
            rintro e w50 ⟨rfl, hb3⟩
            replace hbb := keepB hbb hb3
            clear hb3
            go_wp2_with fail
            refine (of_any 0 1 _).mono ?_
            rintro e w51 ⟨rfl, hb3⟩
            replace hbb := keepB hbb hb3
            clear hb3
            go_wp2_with fail
            refine at_worldR (fun v => Below w.heap.size w v ∧ BK v (w51.heap.size) [.int .i64 2, .int .i64 1, .int .i64 3, .int .i64 1, .int .i64 0, .int .i64 1, .int .i64 1, .int .i64 1]) ⟨(below_al hbb _), (BK.new w51 [.int .i64 2, .int .i64 1, .int .i64 3, .int .i64 1, .int .i64 0, .int .i64 1, .int .i64 1, .int .i64 1] 25)⟩ (fun V52 hS => ?_)
            clear hbb
            obtain ⟨hbb, Bx⟩ := hS
            generalize w51.heap.size = P52 at *
            have Hx := isS_bk (xs := [⟨2, 1, 3, 1⟩, ⟨0, 1, 1, 1⟩]) Bx (by intro s hs; simp at hs; rcases hs with rfl | rfl <;> exact ⟨⟨⟨by decide, by decide⟩, by decide, by decide⟩, ⟨by decide, by decide⟩, by decide, by decide⟩) (by simp [maxLen])
            clear Bx
            refine (pn_c3 (some ⟨P52, 0, none⟩) 2 _ Hx).mono ?_
            rintro e w53 ⟨rfl, hb3⟩
            replace hbb := keepB hbb hb3
            clear hb3
            clear Hx
            go_wp2_with fail
            refine at_worldR (fun v => Below w.heap.size w v ∧ BK v (w53.heap.size) [.int .i64 0, .int .i64 0, .int .i64 0, .int .i64 0]) ⟨(below_al hbb _), (BK.new w53 [.int .i64 0, .int .i64 0, .int .i64 0, .int .i64 0] 25)⟩ (fun V54 hS => ?_)
            clear hbb
            obtain ⟨hbb, Bx⟩ := hS
            generalize w53.heap.size = P54 at *
            have Hx := isS_bk (xs := [⟨0, 0, 0, 0⟩]) Bx (by intro s hs; simp at hs; subst hs; exact ⟨⟨⟨by decide, by decide⟩, by decide, by decide⟩, ⟨by decide, by decide⟩, by decide, by decide⟩) (by simp [maxLen])
            clear Bx
            refine (pn_c4 (some ⟨P54, 0, none⟩) 1 _ Hx).mono ?_
            rintro e w55 ⟨rfl, hb3⟩
            replace hbb := keepB hbb hb3
            clear hb3
            clear Hx
            go_wp2_with fail
            refine (palive_any _).mono ?_
            rintro e w56 ⟨rfl, hb3⟩
            replace hbb := keepB hbb hb3
            clear hb3
            go_wp2_with fail
            go_ret
            exact ⟨rfl, hbb⟩
end Go.Proofs.Ytnnpmegknlgkoaa

/- TopRent: the example of parcenertop. -/
import Derived.Test.YtncmffhoodfhjaaLxg
import Derived.Test.YtncmffhoodfhjaaLxt0
namespace Go.Proofs.Ytncmffhoodfhjaa
open Go.RowKit
theorem run_flatV (A : Option Addr) (n c : Nat) (R : Int) (w : World) : Sem.run Try.prog (Instr.field 24 (.agg #[.slice A n c, .int .i64 R]) 0) w = .ok (.slice A n c) w := by
  unfold Instr.field
  simp [go_sem, part, asAgg]
attribute [go_sem] run_flatV
/-- A flat of the chapter. -/
def Tf15 (w : World) (e : Ending) (w' : World) : Prop := ∃ g, e = .returned (.agg #[.slice (some ⟨g, 0, none⟩) 2 2, .int .i64 9]) ∧ IsM w' (some ⟨g, 0, none⟩) [[8, 4], [6, 6]] ∧ Below w.heap.size w w'
set_option maxHeartbeats 2000000 in
theorem topflat_any (w : World) : Calls Try.prog 69 #[] w (Tf15 w) := by
  go_enter Try.func69, Try.ntmps69
  go_wp2_with fail
  exact bodyPost_ret (v := .agg #[.slice (some ⟨w.heap.size + 1 + 1 + 1, 0, none⟩) 2 2, .int .i64 9]) (by simp [results, Try.results69, go_sem]) rfl ⟨_, rfl, isM_lit2 8 4 6 6 (p := w.heap.size + 1) (q := w.heap.size + 1 + 1) (by unfold I64; decide) (by unfold I64; decide) (by unfold I64; decide) (by unfold I64; decide) (by go_simp) (by go_simp) (by go_simp) (by go_simp) (by go_simp) (by go_simp), below_al (below_al (below_al (below_al (Below.refl _ _) _) _) _) _⟩
theorem xt15r : (Rp.q (As.lowN [[8, 4], [6, 6]] (As.bst [[8, 4], [6, 6]]) 9 0) 2).num = 9 ∧ (Rp.q (As.lowN [[8, 4], [6, 6]] (As.bst [[8, 4], [6, 6]]) 9 0) 2).den = 2 ∧ (Rp.q (As.highN [[8, 4], [6, 6]] (As.bst [[8, 4], [6, 6]]) 9 0) 2).num = 13 ∧ (Rp.q (As.highN [[8, 4], [6, 6]] (As.bst [[8, 4], [6, 6]]) 9 0) 2).den = 2 ∧ As.rchk [[8, 4], [6, 6]] 9 = 0 := by decide +kernel
theorem xt15p : As.prl [[8, 4], [6, 6]] = [0, 0] ∧ As.chk [[8, 4], [6, 6]] = 0 := by decide +kernel
theorem xRange15 (A : Option Addr) (cv : Nat) (w : World) (h : IsM w A [[8, 4], [6, 6]]) : Calls Try.prog 13 #[.agg #[.slice A 2 cv, .int .i64 9], .int .i64 0] w fun e w' => e = .returned (.tuple #[.agg #[.int .i64 9, .int .i64 2], .agg #[.int .i64 13, .int .i64 2], .int .i64 0]) ∧ Below w.heap.size w w' := by
  obtain ⟨e1, e2, e3, e4, e5⟩ := xt15r
  have k := top_range A cv [[8, 4], [6, 6]] 9 0 w two_leL h e5 (by decide)
  have el : ([[8, 4], [6, 6]] : List (List Int)).length = 2 := rfl
  rw [el] at k
  rw [show ((2 : Nat) : Int) = 2 from rfl] at k
  rw [e1, e2, e3, e4] at k
  exact k
theorem xPrices15 (A : Option Addr) (cv : Nat) (w : World) (h : IsM w A [[8, 4], [6, 6]]) : Calls Try.prog 60 #[.slice A 2 cv] w fun e w' => ∃ Z c, e = .returned (.tuple #[.slice Z 2 c, .int .i64 0]) ∧ IsI w' Z [0, 0] ∧ Below w.heap.size w w' := by
  refine (asPrices_any A cv [[8, 4], [6, 6]] w two_leL h).mono ?_
  rintro e w' ⟨Z, c, rfl, hZ, hb⟩
  obtain ⟨e1, e2⟩ := xt15p
  rw [e1] at hZ ⊢
  rw [e2]
  exact ⟨Z, c, rfl, hZ, hb⟩
set_option maxRecDepth 100000 in
set_option maxHeartbeats 8000000 in
theorem tpalive15_any (w : World) : Calls Try.prog 37 #[] w fun e w' => e = .returned (.bool true) ∧ Below w.heap.size w w' := by
  have HL := Lib.hid topflat_any
  have HB := Lib.hid (Below.refl w.heap.size w)
  go_enter Try.func37, Try.ntmps37
  go_wp2_with fail
  refine (HL.out _).mono ?_
  rintro e w1 ⟨g1, rfl, hM, hb⟩
  replace HB := Lib.hid (keepB HB.out hb)
  have HM := Lib.hid hM
  clear hb hM
  go_wp2_with fail
  refine (xFair15b _ _ _ HM.out).mono ?_
  rintro e w2 ⟨X, c, Y, d, rfl, hX, hY, hb⟩
  replace HM := Lib.hid (HM.out.keep hb)
  replace HB := Lib.hid (keepB HB.out hb)
  have JX := Lib.hid hX
  have JY := Lib.hid hY
  clear hb hX hY
  clear HM
  go_upto_region 2 with fail
  refine at_worldQ (fun v => Below w2.heap.size w2 v ∧ BK v (w2.heap.size) [.slice X 2 c, .slice Y 2 d, .int .i64 2]) ⟨below_al (Below.refl _ _) _, BK.new w2 [.slice X 2 c, .slice Y 2 d, .int .i64 2] 27⟩ (fun U2 hS => ?_)
  obtain ⟨hb, hB1⟩ := hS
  replace JX := Lib.hid (JX.out.keep hb)
  replace JY := Lib.hid (JY.out.keep hb)
  replace HB := Lib.hid (keepB HB.out hb)
  have B1 := Lib.hid hB1
  clear hb hB1
  generalize w2.heap.size = p2 at *
  have l0 := B1.out.c 0 rfl
  have l1 := B1.out.c 1 rfl
  have l2 := B1.out.c 2 rfl
  refine wp_region_noPanic ?_
  refine wp_region_held_drew (S := (Below U2.heap.size U2)) (by kernel_rfl) ((Below.refl _ _).drew) (fun hHeld => ?_)
  refine at_anyH (Below U2.heap.size U2) hHeld (fun wd0 hNew => ?_)
  clear hHeld
  have hHeld := hNew
  clear hNew
  refine tkm 1 rfl hHeld (fun w hSw => by have kl0 := keepC hSw l0; have kl1 := keepC hSw l1; have kl2 := keepC hSw l2; go_simp <;> with_reducible rfl) ?_
  try simp only [PPz]
  refine dag (fun G a => ∀ (P6 : Nat) (pX : Nat) (pY : Nat) (W : World), Below U2.heap.size U2 W → BK W pX [.int .i64 5, .int .i64 2] → U2.heap.size ≤ pX → BK W pY [.int .i64 0, .int .i64 0] → U2.heap.size ≤ pY → pX ≠ pY → G 2 #[true, true, true, true, true, true, true, true, true, true, false, false] ((((((((a.put (some 18) (.agg #[.slice (some ⟨P6, 0, none⟩) 2 2, .int .i64 9])).put (some 20) (.tuple #[.agg #[.int .i64 5, .int .i64 2], .agg #[.int .i64 5, .int .i64 2], .int .i64 0])).put (some 17) (.tuple #[.agg #[.int .i64 5, .int .i64 2], .agg #[.int .i64 5, .int .i64 2], .int .i64 0])).put (some 21) (.agg #[.int .i64 5, .int .i64 2])).put (some 22) (.agg #[.int .i64 5, .int .i64 2])).put (some 23) (.int .i64 0)).put (some 3) (.pointer (some ⟨pX, 0, none⟩))).put (some 4) (.pointer (some ⟨pY, 0, none⟩))) W) ?_ (fun Nd0 => ?_)
  ·
   intro P6 pX pY wds0 hHeld BX hX BY hY dXY
   try simp only [PPz]
   refine rdy1 10 rfl (fun K hK => ?_)
   have n0 := BY.c 0 rfl
   have f0 := BY.f 0 rfl
   have n1 := BY.c 1 rfl
   have f1 := BY.f 1 rfl
   go_simp
   clear n0 f0 n1 f1
   refine hK.out _ _ (below_set (below_set hHeld (by omega) _) (by omega) _) (fun hNew => ?_)
   clear hHeld hK K
   have hHeld := hNew
   clear hNew
   try simp only [PPz]
   refine at_anyH (fun v => Below U2.heap.size U2 v ∧ BK v pX [.int .i64 5, .int .i64 2] ∧ BK v pY [.int .i64 5, .int .i64 2]) ⟨hHeld, ((BX.far (by omega) _ _).far (by omega) _ _), ((BY.set 0 _).set 1 _)⟩ (fun wd2 hS => ?_)
   clear hHeld BX BY
   obtain ⟨hHeld, BX, BY⟩ := hS
   refine tkd 11 ?_
   try simp only [PPz]
   refine wpAnyH_done (by kernel_rfl) ?_ _
   refine NoPanic.normal ?_
   have hb := hHeld
   replace JX := Lib.hid (JX.out.keep hb)
   replace JY := Lib.hid (JY.out.keep hb)
   replace B1 := Lib.hid (B1.out.keep hb)
   replace HB := Lib.hid (keepB HB.out hb)
   have BW := Lib.hid BX
   have BV := Lib.hid BY
   clear hb hHeld BX BY l0 l1 l2
   go_wp2_with fail
   refine (HL.out _).mono ?_
   rintro e w3 ⟨g3, rfl, hM, hb⟩
   replace JX := Lib.hid (JX.out.keep hb)
   replace JY := Lib.hid (JY.out.keep hb)
   replace B1 := Lib.hid (B1.out.keep hb)
   replace BW := Lib.hid (BW.out.keep hb)
   replace BV := Lib.hid (BV.out.keep hb)
   replace HB := Lib.hid (keepB HB.out hb)
   have HM := Lib.hid hM
   clear hb hM
   go_wp2_with fail
   refine (xRange15 _ _ _ HM.out).mono ?_
   rintro e w4 ⟨rfl, hb⟩
   replace JX := Lib.hid (JX.out.keep hb)
   replace JY := Lib.hid (JY.out.keep hb)
   replace B1 := Lib.hid (B1.out.keep hb)
   replace BW := Lib.hid (BW.out.keep hb)
   replace BV := Lib.hid (BV.out.keep hb)
   replace HM := Lib.hid (HM.out.keep hb)
   replace HB := Lib.hid (keepB HB.out hb)
   clear hb
   clear HM
   go_upto_region 4 with fail
   refine at_worldQ (fun v => Below w4.heap.size w4 v ∧ BK v (w4.heap.size) [.int .i64 9, .int .i64 2] ∧ BK v (w4.heap.size + 1) [.int .i64 13, .int .i64 2]) ⟨below_al (below_al (Below.refl _ _) _) _, ((BK.new w4 [.int .i64 9, .int .i64 2] 31).al _), (bkAtL (BK.new (w4.alloc (.cells #[.int .i64 9, .int .i64 2] 31)) [.int .i64 13, .int .i64 2] 31) (by simp only [World.size_alloc]))⟩ (fun U4 hS => ?_)
   obtain ⟨hb, hB5, hB6⟩ := hS
   replace JX := Lib.hid (JX.out.keep hb)
   replace JY := Lib.hid (JY.out.keep hb)
   replace B1 := Lib.hid (B1.out.keep hb)
   replace BW := Lib.hid (BW.out.keep hb)
   replace BV := Lib.hid (BV.out.keep hb)
   replace HB := Lib.hid (keepB HB.out hb)
   have B5 := Lib.hid hB5
   have B6 := Lib.hid hB6
   clear hb hB5 hB6
   go_wp2_with fail
   refine (HL.out _).mono ?_
   rintro e w5 ⟨g5, rfl, hM, hb⟩
   replace JX := Lib.hid (JX.out.keep hb)
   replace JY := Lib.hid (JY.out.keep hb)
   replace B1 := Lib.hid (B1.out.keep hb)
   replace BW := Lib.hid (BW.out.keep hb)
   replace BV := Lib.hid (BV.out.keep hb)
   replace B5 := Lib.hid (B5.out.keep hb)
   replace B6 := Lib.hid (B6.out.keep hb)
   replace HB := Lib.hid (keepB HB.out hb)
   have HM := Lib.hid hM
   clear hb hM
   go_wp2_with fail
   refine (xPrices15 _ _ _ HM.out).mono ?_
   rintro e w6 ⟨Z, cz, rfl, hZ, hb⟩
   replace JX := Lib.hid (JX.out.keep hb)
   replace JY := Lib.hid (JY.out.keep hb)
   replace B1 := Lib.hid (B1.out.keep hb)
   replace BW := Lib.hid (BW.out.keep hb)
   replace BV := Lib.hid (BV.out.keep hb)
   replace B5 := Lib.hid (B5.out.keep hb)
   replace B6 := Lib.hid (B6.out.keep hb)
   replace HM := Lib.hid (HM.out.keep hb)
   replace HB := Lib.hid (keepB HB.out hb)
   have IZ := Lib.hid hZ
   clear hb hZ
   clear HM
   go_upto_region 6 with fail
   refine at_worldQ (fun v => Below w6.heap.size w6 v ∧ BK v (w6.heap.size) [.int .i64 5, .int .i64 2]) ⟨below_al (Below.refl _ _) _, BK.new w6 [.int .i64 5, .int .i64 2] 31⟩ (fun U6 hS => ?_)
   obtain ⟨hb, hBH⟩ := hS
   replace JX := Lib.hid (JX.out.keep hb)
   replace JY := Lib.hid (JY.out.keep hb)
   replace B1 := Lib.hid (B1.out.keep hb)
   replace BW := Lib.hid (BW.out.keep hb)
   replace BV := Lib.hid (BV.out.keep hb)
   replace B5 := Lib.hid (B5.out.keep hb)
   replace B6 := Lib.hid (B6.out.keep hb)
   replace IZ := Lib.hid (IZ.out.keep hb)
   replace HB := Lib.hid (keepB HB.out hb)
   have BH := Lib.hid hBH
   clear hb hBH
   have cBW0 := BW.out.c 0 rfl
   have cBW1 := BW.out.c 1 rfl
   have cBV0 := BV.out.c 0 rfl
   have cBV1 := BV.out.c 1 rfl
   have cB50 := B5.out.c 0 rfl
   have cB51 := B5.out.c 1 rfl
   have cB60 := B6.out.c 0 rfl
   have cB61 := B6.out.c 1 rfl
   have cBH0 := BH.out.c 0 rfl
   have cBH1 := BH.out.c 1 rfl
   go_wp2_with fail
   refine at_worldR (fun v => Below U6.heap.size U6 v ∧ BK v (U6.heap.size) [.int .i64 0, .int .i64 0]) ⟨below_al (Below.refl _ _) _, BK.new U6 [.int .i64 0, .int .i64 0] 3⟩ (fun U7 hS => ?_)
   obtain ⟨hb, hD1⟩ := hS
   replace JX := Lib.hid (JX.out.keep hb)
   replace JY := Lib.hid (JY.out.keep hb)
   replace B1 := Lib.hid (B1.out.keep hb)
   replace BW := Lib.hid (BW.out.keep hb)
   replace BV := Lib.hid (BV.out.keep hb)
   replace B5 := Lib.hid (B5.out.keep hb)
   replace B6 := Lib.hid (B6.out.keep hb)
   replace IZ := Lib.hid (IZ.out.keep hb)
   replace BH := Lib.hid (BH.out.keep hb)
   replace HB := Lib.hid (keepB HB.out hb)
   have D1 := Lib.hid hD1
   clear cBW0 cBW1 cBV0 cBV1 cB50 cB51 cB60 cB61 cBH0 cBH1 hb hD1
   refine (same_eq Z cz _ _ [0, 0] _ two_leL IZ.out (isI_bkL (l := [0, 0]) D1.out (i64bL (by decide)))).mono ?_
   rintro e w7 ⟨rfl, hb⟩
   replace JX := Lib.hid (JX.out.keep hb)
   replace JY := Lib.hid (JY.out.keep hb)
   replace B1 := Lib.hid (B1.out.keep hb)
   replace BW := Lib.hid (BW.out.keep hb)
   replace BV := Lib.hid (BV.out.keep hb)
   replace B5 := Lib.hid (B5.out.keep hb)
   replace B6 := Lib.hid (B6.out.keep hb)
   replace IZ := Lib.hid (IZ.out.keep hb)
   replace BH := Lib.hid (BH.out.keep hb)
   replace D1 := Lib.hid (D1.out.keep hb)
   replace HB := Lib.hid (keepB HB.out hb)
   clear hb
   clear D1 IZ
   have cB10 := B1.out.c 0 rfl
   have cB11 := B1.out.c 1 rfl
   have cB12 := B1.out.c 2 rfl
   go_wp2_with fail
   refine at_worldR (fun v => Below w7.heap.size w7 v ∧ BK v (w7.heap.size) [.int .i64 0, .int .i64 1] ∧ BK v (w7.heap.size + 1) [.int .i64 11, .int .i64 7]) ⟨below_al (below_al (Below.refl _ _) _) _, ((BK.new w7 [.int .i64 0, .int .i64 1] 3).al _), (bkAtL (BK.new (w7.alloc (.cells #[.int .i64 0, .int .i64 1] 3)) [.int .i64 11, .int .i64 7] 3) (by simp only [World.size_alloc]))⟩ (fun U8 hS => ?_)
   obtain ⟨hb, hD1, hD2⟩ := hS
   replace JX := Lib.hid (JX.out.keep hb)
   replace JY := Lib.hid (JY.out.keep hb)
   replace B1 := Lib.hid (B1.out.keep hb)
   replace BW := Lib.hid (BW.out.keep hb)
   replace BV := Lib.hid (BV.out.keep hb)
   replace B5 := Lib.hid (B5.out.keep hb)
   replace B6 := Lib.hid (B6.out.keep hb)
   replace BH := Lib.hid (BH.out.keep hb)
   replace HB := Lib.hid (keepB HB.out hb)
   have D1 := Lib.hid hD1
   have D2 := Lib.hid hD2
   clear cB10 cB11 cB12 hb hD1 hD2
   refine (lsame_eq X c _ _ Y d _ _ [0, 1] [11, 7] 2 2 2 _ two_leL two_leL rfl rfl JX.out (isI_bkL (l := [0, 1]) D1.out (i64bL (by decide))) JY.out (isI_bkL (l := [11, 7]) D2.out (i64bL (by decide)))).mono ?_
   rintro e w8 ⟨rfl, hb⟩
   replace JX := Lib.hid (JX.out.keep hb)
   replace JY := Lib.hid (JY.out.keep hb)
   replace B1 := Lib.hid (B1.out.keep hb)
   replace BW := Lib.hid (BW.out.keep hb)
   replace BV := Lib.hid (BV.out.keep hb)
   replace B5 := Lib.hid (B5.out.keep hb)
   replace B6 := Lib.hid (B6.out.keep hb)
   replace BH := Lib.hid (BH.out.keep hb)
   replace D1 := Lib.hid (D1.out.keep hb)
   replace D2 := Lib.hid (D2.out.keep hb)
   replace HB := Lib.hid (keepB HB.out hb)
   clear hb
   go_wp2_with fail
   go_ret
   exact ⟨rfl, HB.out⟩
  refine dag (fun G a => ∀ (P6 : Nat) (pX : Nat) (pY : Nat) (W : World), Below U2.heap.size U2 W → BK W pX [.int .i64 0, .int .i64 0] → U2.heap.size ≤ pX → BK W pY [.int .i64 0, .int .i64 0] → U2.heap.size ≤ pY → pX ≠ pY → G 3 #[true, true, true, true, true, true, true, true, true, false, false, false] ((((((((a.put (some 18) (.agg #[.slice (some ⟨P6, 0, none⟩) 2 2, .int .i64 9])).put (some 20) (.tuple #[.agg #[.int .i64 5, .int .i64 2], .agg #[.int .i64 5, .int .i64 2], .int .i64 0])).put (some 17) (.tuple #[.agg #[.int .i64 5, .int .i64 2], .agg #[.int .i64 5, .int .i64 2], .int .i64 0])).put (some 21) (.agg #[.int .i64 5, .int .i64 2])).put (some 22) (.agg #[.int .i64 5, .int .i64 2])).put (some 23) (.int .i64 0)).put (some 3) (.pointer (some ⟨pX, 0, none⟩))).put (some 4) (.pointer (some ⟨pY, 0, none⟩))) W) ?_ (fun Nd1 => ?_)
  ·
   intro P6 pX pY wds1 hHeld BX hX BY hY dXY
   try simp only [PPz]
   refine rdy1 9 rfl (fun K hK => ?_)
   have n0 := BX.c 0 rfl
   have f0 := BX.f 0 rfl
   have n1 := BX.c 1 rfl
   have f1 := BX.f 1 rfl
   go_simp
   clear n0 f0 n1 f1
   refine hK.out _ _ (below_set (below_set hHeld (by omega) _) (by omega) _) (fun hNew => ?_)
   clear hHeld hK K
   have hHeld := hNew
   clear hNew
   try simp only [PPz]
   refine at_anyH (fun v => Below U2.heap.size U2 v ∧ BK v pX [.int .i64 5, .int .i64 2] ∧ BK v pY [.int .i64 0, .int .i64 0]) ⟨hHeld, ((BX.set 0 _).set 1 _), ((BY.far (by omega) _ _).far (by omega) _ _)⟩ (fun wd4 hS => ?_)
   clear hHeld BX BY
   obtain ⟨hHeld, BX, BY⟩ := hS
   exact dag_use (Nd0.out P6 _ _ _ hHeld BX hX BY hY (by omega)) (by kernel_rfl) (by kernel_rfl)
  refine dag (fun G a => ∀ (P6 : Nat) (pX : Nat) (pY : Nat) (W : World), Below U2.heap.size U2 W → BK W pX [.int .i64 0, .int .i64 0] → U2.heap.size ≤ pX → BK W pY [.int .i64 0, .int .i64 0] → U2.heap.size ≤ pY → pX ≠ pY → (FlK W P6) → G 8 #[true, true, false, false, false, false, false, true, true, false, false, false] (((a.put (some 18) (.agg #[.slice (some ⟨P6, 0, none⟩) 2 2, .int .i64 9])).put (some 3) (.pointer (some ⟨pX, 0, none⟩))).put (some 4) (.pointer (some ⟨pY, 0, none⟩))) W) ?_ (fun Nd2 => ?_)
  ·
   intro P6 pX pY wds2 hHeld BX hX BY hY dXY hM6
   try simp only [PPz]
   refine rdy1 2 rfl (fun K hK => ?_)
   go_simp
   refine (xWorst15 _ _ _ _ _ _ _ hM6.m (JX.out.keep hHeld) (JY.out.keep hHeld)).mono ?_
   rintro e wd5 ⟨rfl, hb3⟩
   go_wp2_with fail
   refine hK.out _ _ (keepB hHeld hb3) (fun hNew => ?_)
   replace BX := BX.keep hb3
   replace BY := BY.keep hb3
   replace hM6 := hM6.call hb3
   clear hb3
   clear hHeld hK K
   have hHeld := hNew
   clear hNew
   try simp only [PPz]
   clear hM6
   refine tkd 3 ?_
   try simp only [PPz]
   refine tkd 4 ?_
   try simp only [PPz]
   refine tkd 5 ?_
   try simp only [PPz]
   refine tkd 6 ?_
   try simp only [PPz]
   refine rdy1 9 rfl (fun K hK => ?_)
   have n0 := BX.c 0 rfl
   have f0 := BX.f 0 rfl
   have n1 := BX.c 1 rfl
   have f1 := BX.f 1 rfl
   go_simp
   clear n0 f0 n1 f1
   refine hK.out _ _ (below_set (below_set hHeld (by omega) _) (by omega) _) (fun hNew => ?_)
   clear hHeld hK K
   have hHeld := hNew
   clear hNew
   try simp only [PPz]
   refine at_anyH (fun v => Below U2.heap.size U2 v ∧ BK v pX [.int .i64 5, .int .i64 2] ∧ BK v pY [.int .i64 0, .int .i64 0]) ⟨hHeld, ((BX.set 0 _).set 1 _), ((BY.far (by omega) _ _).far (by omega) _ _)⟩ (fun wd10 hS => ?_)
   clear hHeld BX BY
   obtain ⟨hHeld, BX, BY⟩ := hS
   exact dag_use (Nd0.out P6 _ _ _ hHeld BX hX BY hY (by omega)) (by kernel_rfl) (by kernel_rfl)
  refine dag (fun G a => ∀ (P6 : Nat) (pX : Nat) (W : World), Below U2.heap.size U2 W → BK W pX [.int .i64 0, .int .i64 0] → U2.heap.size ≤ pX → (FlK W P6) → G 9 #[true, true, false, false, false, false, false, true, false, false, false, false] ((a.put (some 18) (.agg #[.slice (some ⟨P6, 0, none⟩) 2 2, .int .i64 9])).put (some 3) (.pointer (some ⟨pX, 0, none⟩))) W) ?_ (fun Nd3 => ?_)
  ·
   intro P6 pX wds3 hHeld BX hX hM6
   try simp only [PPz]
   refine rdy2 2 8 rfl rfl (fun K hK => ?_) (fun K hK => ?_)
   ·
    go_simp
    refine (xWorst15 _ _ _ _ _ _ _ hM6.m (JX.out.keep hHeld) (JY.out.keep hHeld)).mono ?_
    rintro e wd11 ⟨rfl, hb3⟩
    go_wp2_with fail
    refine hK.out _ _ (keepB hHeld hb3) (fun hNew => ?_)
    replace BX := BX.keep hb3
    replace hM6 := hM6.call hb3
    clear hb3
    clear hHeld hK K
    have hHeld := hNew
    clear hNew
    try simp only [PPz]
    clear hM6
    refine tkd 3 ?_
    try simp only [PPz]
    refine tkd 4 ?_
    try simp only [PPz]
    refine tkd 5 ?_
    try simp only [PPz]
    refine tkd 6 ?_
    try simp only [PPz]
    refine rdy1 8 rfl (fun K hK => ?_)
    go_simp
    refine hK.out _ _ (below_al hHeld _) (fun hNew => ?_)
    have hY : U2.heap.size ≤ wd11.heap.size := hHeld.size
    have dXY := BX.lt
    clear hHeld hK K
    have hHeld := hNew
    clear hNew
    try simp only [PPz]
    refine at_anyH (fun v => Below U2.heap.size U2 v ∧ BK v pX [.int .i64 0, .int .i64 0] ∧ BK v wd11.heap.size [.int .i64 0, .int .i64 0]) ⟨hHeld, BX.al _, BK.new _ _ _⟩ (fun wd16 hS => ?_)
    clear hHeld BX
    obtain ⟨hHeld, BX, BY⟩ := hS
    exact dag_use (Nd1.out P6 _ _ _ hHeld BX hX BY hY (by omega)) (by kernel_rfl) (by kernel_rfl)
   ·
    go_simp
    refine hK.out _ _ (below_al hHeld _) (fun hNew => ?_)
    have hY : U2.heap.size ≤ wds3.heap.size := hHeld.size
    have dXY := BX.lt
    clear hHeld hK K
    have hHeld := hNew
    clear hNew
    try simp only [PPz]
    refine at_anyH (fun v => Below U2.heap.size U2 v ∧ BK v pX [.int .i64 0, .int .i64 0] ∧ BK v wds3.heap.size [.int .i64 0, .int .i64 0] ∧ (FlK v P6)) ⟨hHeld, BX.al _, BK.new _ _ _, hM6.al _⟩ (fun wd17 hS => ?_)
    clear hHeld BX hM6
    obtain ⟨hHeld, BX, BY, hM6⟩ := hS
    exact dag_use (Nd2.out P6 _ _ _ hHeld BX hX BY hY (by omega) hM6) (by kernel_rfl) (by kernel_rfl)
  refine dag (fun G a => ∀ (P6 : Nat) (pY : Nat) (W : World), Below U2.heap.size U2 W → BK W pY [.int .i64 0, .int .i64 0] → U2.heap.size ≤ pY → (FlK W P6) → G 9 #[true, true, false, false, false, false, false, false, true, false, false, false] ((a.put (some 18) (.agg #[.slice (some ⟨P6, 0, none⟩) 2 2, .int .i64 9])).put (some 4) (.pointer (some ⟨pY, 0, none⟩))) W) ?_ (fun Nd4 => ?_)
  ·
   intro P6 pY wds4 hHeld BY hY hM6
   try simp only [PPz]
   refine rdy2 2 7 rfl rfl (fun K hK => ?_) (fun K hK => ?_)
   ·
    go_simp
    refine (xWorst15 _ _ _ _ _ _ _ hM6.m (JX.out.keep hHeld) (JY.out.keep hHeld)).mono ?_
    rintro e wd18 ⟨rfl, hb3⟩
    go_wp2_with fail
    refine hK.out _ _ (keepB hHeld hb3) (fun hNew => ?_)
    replace BY := BY.keep hb3
    replace hM6 := hM6.call hb3
    clear hb3
    clear hHeld hK K
    have hHeld := hNew
    clear hNew
    try simp only [PPz]
    clear hM6
    refine tkd 3 ?_
    try simp only [PPz]
    refine tkd 4 ?_
    try simp only [PPz]
    refine tkd 5 ?_
    try simp only [PPz]
    refine tkd 6 ?_
    try simp only [PPz]
    refine rdy1 7 rfl (fun K hK => ?_)
    go_simp
    refine hK.out _ _ (below_al hHeld _) (fun hNew => ?_)
    have hX : U2.heap.size ≤ wd18.heap.size := hHeld.size
    have dYX := BY.lt
    clear hHeld hK K
    have hHeld := hNew
    clear hNew
    try simp only [PPz]
    refine at_anyH (fun v => Below U2.heap.size U2 v ∧ BK v pY [.int .i64 0, .int .i64 0] ∧ BK v wd18.heap.size [.int .i64 0, .int .i64 0]) ⟨hHeld, BY.al _, BK.new _ _ _⟩ (fun wd23 hS => ?_)
    clear hHeld BY
    obtain ⟨hHeld, BY, BX⟩ := hS
    exact dag_use (Nd1.out P6 _ _ _ hHeld BX hX BY hY (by omega)) (by kernel_rfl) (by kernel_rfl)
   ·
    go_simp
    refine hK.out _ _ (below_al hHeld _) (fun hNew => ?_)
    have hX : U2.heap.size ≤ wds4.heap.size := hHeld.size
    have dYX := BY.lt
    clear hHeld hK K
    have hHeld := hNew
    clear hNew
    try simp only [PPz]
    refine at_anyH (fun v => Below U2.heap.size U2 v ∧ BK v pY [.int .i64 0, .int .i64 0] ∧ BK v wds4.heap.size [.int .i64 0, .int .i64 0] ∧ (FlK v P6)) ⟨hHeld, BY.al _, BK.new _ _ _, hM6.al _⟩ (fun wd24 hS => ?_)
    clear hHeld BY hM6
    obtain ⟨hHeld, BY, BX, hM6⟩ := hS
    exact dag_use (Nd2.out P6 _ _ _ hHeld BX hX BY hY (by omega) hM6) (by kernel_rfl) (by kernel_rfl)
  refine dag (fun G a => ∀  (pX : Nat) (pY : Nat) (W : World), Below U2.heap.size U2 W → BK W pX [.int .i64 0, .int .i64 0] → U2.heap.size ≤ pX → BK W pY [.int .i64 0, .int .i64 0] → U2.heap.size ≤ pY → pX ≠ pY → G 9 #[false, true, false, false, false, false, false, true, true, false, false, false] ((a.put (some 3) (.pointer (some ⟨pX, 0, none⟩))).put (some 4) (.pointer (some ⟨pY, 0, none⟩))) W) ?_ (fun Nd5 => ?_)
  ·
   intro pX pY wds5 hHeld BX hX BY hY dXY
   try simp only [PPz]
   refine rdy1 0 rfl (fun K hK => ?_)
   go_simp
   refine (HL.out _).mono ?_
   rintro e wd25 ⟨P6, rfl, hMx, hb3⟩
   have hM6 := FlK.mk hMx
   clear hMx
   go_wp2_with fail
   refine hK.out _ _ (keepB hHeld hb3) (fun hNew => ?_)
   replace BX := BX.keep hb3
   replace BY := BY.keep hb3
   clear hb3
   clear hHeld hK K
   have hHeld := hNew
   clear hNew
   try simp only [PPz]
   exact dag_use (Nd2.out P6 _ _ _ hHeld BX hX BY hY (by omega) hM6) (by kernel_rfl) (by kernel_rfl)
  refine rdy3 0 7 8 rfl rfl rfl (fun K hK => ?_) (fun K hK => ?_) (fun K hK => ?_)
  ·
   go_simp
   refine (HL.out _).mono ?_
   rintro e wd26 ⟨P6, rfl, hMx, hb3⟩
   have hM6 := FlK.mk hMx
   clear hMx
   go_wp2_with fail
   refine hK.out _ _ (keepB hHeld hb3) (fun hNew => ?_)
   clear hb3
   clear hHeld hK K
   have hHeld := hNew
   clear hNew
   try simp only [PPz]
   refine rdy3 2 7 8 rfl rfl rfl (fun K hK => ?_) (fun K hK => ?_) (fun K hK => ?_)
   ·
    go_simp
    refine (xWorst15 _ _ _ _ _ _ _ hM6.m (JX.out.keep hHeld) (JY.out.keep hHeld)).mono ?_
    rintro e wd27 ⟨rfl, hb3⟩
    go_wp2_with fail
    refine hK.out _ _ (keepB hHeld hb3) (fun hNew => ?_)
    replace hM6 := hM6.call hb3
    clear hb3
    clear hHeld hK K
    have hHeld := hNew
    clear hNew
    try simp only [PPz]
    clear hM6
    refine tkd 3 ?_
    try simp only [PPz]
    refine tkd 4 ?_
    try simp only [PPz]
    refine tkd 5 ?_
    try simp only [PPz]
    refine tkd 6 ?_
    try simp only [PPz]
    refine rdy2 7 8 rfl rfl (fun K hK => ?_) (fun K hK => ?_)
    ·
     go_simp
     refine hK.out _ _ (below_al hHeld _) (fun hNew => ?_)
     have hX : U2.heap.size ≤ wd27.heap.size := hHeld.size
     clear hHeld hK K
     have hHeld := hNew
     clear hNew
     try simp only [PPz]
     refine at_anyH (fun v => Below U2.heap.size U2 v ∧ BK v wd27.heap.size [.int .i64 0, .int .i64 0]) ⟨hHeld, BK.new _ _ _⟩ (fun wd32 hS => ?_)
     clear hHeld
     obtain ⟨hHeld, BX⟩ := hS
     refine rdy1 8 rfl (fun K hK => ?_)
     go_simp
     refine hK.out _ _ (below_al hHeld _) (fun hNew => ?_)
     have hY : U2.heap.size ≤ wd32.heap.size := hHeld.size
     have dXY := BX.lt
     clear hHeld hK K
     have hHeld := hNew
     clear hNew
     try simp only [PPz]
     refine at_anyH (fun v => Below U2.heap.size U2 v ∧ BK v wd27.heap.size [.int .i64 0, .int .i64 0] ∧ BK v wd32.heap.size [.int .i64 0, .int .i64 0]) ⟨hHeld, BX.al _, BK.new _ _ _⟩ (fun wd33 hS => ?_)
     clear hHeld BX
     obtain ⟨hHeld, BX, BY⟩ := hS
     exact dag_use (Nd1.out P6 _ _ _ hHeld BX hX BY hY (by omega)) (by kernel_rfl) (by kernel_rfl)
    ·
     go_simp
     refine hK.out _ _ (below_al hHeld _) (fun hNew => ?_)
     have hY : U2.heap.size ≤ wd27.heap.size := hHeld.size
     clear hHeld hK K
     have hHeld := hNew
     clear hNew
     try simp only [PPz]
     refine at_anyH (fun v => Below U2.heap.size U2 v ∧ BK v wd27.heap.size [.int .i64 0, .int .i64 0]) ⟨hHeld, BK.new _ _ _⟩ (fun wd34 hS => ?_)
     clear hHeld
     obtain ⟨hHeld, BY⟩ := hS
     refine rdy1 7 rfl (fun K hK => ?_)
     go_simp
     refine hK.out _ _ (below_al hHeld _) (fun hNew => ?_)
     have hX : U2.heap.size ≤ wd34.heap.size := hHeld.size
     have dYX := BY.lt
     clear hHeld hK K
     have hHeld := hNew
     clear hNew
     try simp only [PPz]
     refine at_anyH (fun v => Below U2.heap.size U2 v ∧ BK v wd27.heap.size [.int .i64 0, .int .i64 0] ∧ BK v wd34.heap.size [.int .i64 0, .int .i64 0]) ⟨hHeld, BY.al _, BK.new _ _ _⟩ (fun wd35 hS => ?_)
     clear hHeld BY
     obtain ⟨hHeld, BY, BX⟩ := hS
     exact dag_use (Nd1.out P6 _ _ _ hHeld BX hX BY hY (by omega)) (by kernel_rfl) (by kernel_rfl)
   ·
    go_simp
    refine hK.out _ _ (below_al hHeld _) (fun hNew => ?_)
    have hX : U2.heap.size ≤ wd26.heap.size := hHeld.size
    clear hHeld hK K
    have hHeld := hNew
    clear hNew
    try simp only [PPz]
    refine at_anyH (fun v => Below U2.heap.size U2 v ∧ BK v wd26.heap.size [.int .i64 0, .int .i64 0] ∧ (FlK v P6)) ⟨hHeld, BK.new _ _ _, hM6.al _⟩ (fun wd36 hS => ?_)
    clear hHeld hM6
    obtain ⟨hHeld, BX, hM6⟩ := hS
    exact dag_use (Nd3.out P6 _ _ hHeld BX hX hM6) (by kernel_rfl) (by kernel_rfl)
   ·
    go_simp
    refine hK.out _ _ (below_al hHeld _) (fun hNew => ?_)
    have hY : U2.heap.size ≤ wd26.heap.size := hHeld.size
    clear hHeld hK K
    have hHeld := hNew
    clear hNew
    try simp only [PPz]
    refine at_anyH (fun v => Below U2.heap.size U2 v ∧ BK v wd26.heap.size [.int .i64 0, .int .i64 0] ∧ (FlK v P6)) ⟨hHeld, BK.new _ _ _, hM6.al _⟩ (fun wd37 hS => ?_)
    clear hHeld hM6
    obtain ⟨hHeld, BY, hM6⟩ := hS
    exact dag_use (Nd4.out P6 _ _ hHeld BY hY hM6) (by kernel_rfl) (by kernel_rfl)
  ·
   go_simp
   refine hK.out _ _ (below_al hHeld _) (fun hNew => ?_)
   have hX : U2.heap.size ≤ wd0.heap.size := hHeld.size
   clear hHeld hK K
   have hHeld := hNew
   clear hNew
   try simp only [PPz]
   refine at_anyH (fun v => Below U2.heap.size U2 v ∧ BK v wd0.heap.size [.int .i64 0, .int .i64 0]) ⟨hHeld, BK.new _ _ _⟩ (fun wd38 hS => ?_)
   clear hHeld
   obtain ⟨hHeld, BX⟩ := hS
   refine rdy2 0 8 rfl rfl (fun K hK => ?_) (fun K hK => ?_)
   ·
    go_simp
    refine (HL.out _).mono ?_
    rintro e wd39 ⟨P6, rfl, hMx, hb3⟩
    have hM6 := FlK.mk hMx
    clear hMx
    go_wp2_with fail
    refine hK.out _ _ (keepB hHeld hb3) (fun hNew => ?_)
    replace BX := BX.keep hb3
    clear hb3
    clear hHeld hK K
    have hHeld := hNew
    clear hNew
    try simp only [PPz]
    exact dag_use (Nd3.out P6 _ _ hHeld BX hX hM6) (by kernel_rfl) (by kernel_rfl)
   ·
    go_simp
    refine hK.out _ _ (below_al hHeld _) (fun hNew => ?_)
    have hY : U2.heap.size ≤ wd38.heap.size := hHeld.size
    have dXY := BX.lt
    clear hHeld hK K
    have hHeld := hNew
    clear hNew
    try simp only [PPz]
    refine at_anyH (fun v => Below U2.heap.size U2 v ∧ BK v wd0.heap.size [.int .i64 0, .int .i64 0] ∧ BK v wd38.heap.size [.int .i64 0, .int .i64 0]) ⟨hHeld, BX.al _, BK.new _ _ _⟩ (fun wd40 hS => ?_)
    clear hHeld BX
    obtain ⟨hHeld, BX, BY⟩ := hS
    exact dag_use (Nd5.out _ _ _ hHeld BX hX BY hY (by omega)) (by kernel_rfl) (by kernel_rfl)
  ·
   go_simp
   refine hK.out _ _ (below_al hHeld _) (fun hNew => ?_)
   have hY : U2.heap.size ≤ wd0.heap.size := hHeld.size
   clear hHeld hK K
   have hHeld := hNew
   clear hNew
   try simp only [PPz]
   refine at_anyH (fun v => Below U2.heap.size U2 v ∧ BK v wd0.heap.size [.int .i64 0, .int .i64 0]) ⟨hHeld, BK.new _ _ _⟩ (fun wd41 hS => ?_)
   clear hHeld
   obtain ⟨hHeld, BY⟩ := hS
   refine rdy2 0 7 rfl rfl (fun K hK => ?_) (fun K hK => ?_)
   ·
    go_simp
    refine (HL.out _).mono ?_
    rintro e wd42 ⟨P6, rfl, hMx, hb3⟩
    have hM6 := FlK.mk hMx
    clear hMx
    go_wp2_with fail
    refine hK.out _ _ (keepB hHeld hb3) (fun hNew => ?_)
    replace BY := BY.keep hb3
    clear hb3
    clear hHeld hK K
    have hHeld := hNew
    clear hNew
    try simp only [PPz]
    exact dag_use (Nd4.out P6 _ _ hHeld BY hY hM6) (by kernel_rfl) (by kernel_rfl)
   ·
    go_simp
    refine hK.out _ _ (below_al hHeld _) (fun hNew => ?_)
    have hX : U2.heap.size ≤ wd41.heap.size := hHeld.size
    have dYX := BY.lt
    clear hHeld hK K
    have hHeld := hNew
    clear hNew
    try simp only [PPz]
    refine at_anyH (fun v => Below U2.heap.size U2 v ∧ BK v wd0.heap.size [.int .i64 0, .int .i64 0] ∧ BK v wd41.heap.size [.int .i64 0, .int .i64 0]) ⟨hHeld, BY.al _, BK.new _ _ _⟩ (fun wd43 hS => ?_)
    clear hHeld BY
    obtain ⟨hHeld, BY, BX⟩ := hS
    exact dag_use (Nd5.out _ _ _ hHeld BX hX BY hY (by omega)) (by kernel_rfl) (by kernel_rfl)
end Go.Proofs.Ytncmffhoodfhjaa

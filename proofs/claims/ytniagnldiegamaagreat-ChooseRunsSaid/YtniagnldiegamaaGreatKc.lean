/- Package parcenerref07: Half of a valid cake; the states 0 and 2 of two valid cakes. Package parcenerref07: the state 2 of two valid cakes. Package parcenerref07: divided. Package parcenerref07: Start, Run, Same of equal states; the law ChooseRuns. -/
import Derived.Test.YtniagnldiegamaaGreatGs
import Derived.Test.YtniagnldiegamaaGreatKb
import Derived.Test.YtniagnldiegamaaGreatGf
import Derived.Test.YtniagnldiegamaaGreatTot
import Derived.Test.YtniagnldiegamaaGreatMake
import Derived.Test.YtniagnldiegamaaGreatGp
import Derived.Test.YtniagnldiegamaaGreatPoint
import Derived.Test.YtniagnldiegamaaGreatKa
import Derived.Test.YtniagnldiegamaaGreatChh
import Derived.Test.YtniagnldiegamaaGreatGl
set_option linter.unusedSimpArgs false
set_option maxHeartbeats 8000000
set_option maxRecDepth 100000
namespace Go.Proofs.YtniagnldiegamaaGreat
open Go.RowKit
theorem rHalf_any (len : Int) (K : Option Addr) (cuts : List Int) (ck : Nat) (Z : Option Addr) (dens : List Int) (cz : Nat) (h1 h2 : Int) (w : World) (h : IsCake w len K cuts Z dens) (hc : Ck.chk len cuts dens = 0) (hh : Ch.hf (len, cuts, dens) = (h1, h2, 0)) :
    Calls Tryz.prog 58 #[.agg #[.int .i64 len, .slice K cuts.length ck, .slice Z dens.length cz]] w fun e w' => e = .returned (.agg #[.int .i64 h1, .int .i64 h2]) ∧ Below w.heap.size w w' := by
  have hG := Ck.chk_good hc; have t0 := (Ck.tot_bd hG _ (Nat.le_refl _)).1; have t1 := (Ck.tot_bd hG _ (Nat.le_refl _)).2; have l1 := hG.len1; have la := hG.last
  have wh := fun v (hv : Below w.heap.size w v) => rWhole_any len K cuts ck Z dens cz v (h.keep hv) hG
  have mk := fun v => rMake_any (Ck.tot cuts dens dens.length) 2 (by omega) (by omega) (by decide) (by decide) v
  unfold Ch.hf at hh
  dsimp only at hh; rw [hh] at mk; dsimp only at mk; have WH := Lib.hid wh; have MK := Lib.hid mk; clear wh mk h hc hh hG t0 t1 l1 la
  generalize Ck.tot cuts dens dens.length = T at *
  go_enter Tryz.func58, Tryz.ntmps58
  go_upto_region 1 with fail
  refine at_box2 (fun V hbb B0 B1 hVs => ?_); have cB00 := B0.c 0 rfl; have cB01 := B0.c 1 rfl; have cB02 := B0.c 2 rfl; (go_wp2_with fail); refine (WH.out _ hbb).mono ?_; rintro e w1 ⟨rfl, hb⟩; clear cB00 cB01 cB02; replace hbb := keepB hbb hb; replace B0 := B0.keep hb; replace B1 := B1.keep hb; clear hb; (go_wp2_with fail); refine (MK.out _).mono ?_; rintro e w2 ⟨rfl, hb⟩; replace hbb := keepB hbb hb; replace B0 := B0.keep hb; replace B1 := B1.keep hb; clear hb; have hsBH := hbb.size
  go_upto_region 2 with fail
  refine at_worldQ (fun v => Below w.heap.size w v ∧ BK v (w.heap.size) [.int .i64 len, .slice K cuts.length ck, .slice Z dens.length cz] ∧ BK v (w.heap.size + 1) [.int .i64 0, .int .i64 0] ∧ BK v w2.heap.size [.int .i64 h1, .int .i64 h2]) ⟨below_al hbb _, B0.al _, B1.al _, BK.new _ _ _⟩ (fun VBH hS => ?_); clear hbb B0 B1; obtain ⟨hbb, B0, B1, BH⟩ := hS; obtain ⟨pBH, hpBH⟩ : ∃ z, w2.heap.size = z := ⟨_, rfl⟩; rw [hpBH] at BH hsBH  ⊢; clear hpBH; have cBH0 := BH.c 0 rfl; have cBH1 := BH.c 1 rfl; have r0 := B1.c 0 rfl; have g0 := B1.f 0 rfl; have r1 := B1.c 1 rfl; have g1 := B1.f 1 rfl; (go_wp2_with fail); exact bodyPost_ret (v := .agg #[.int .i64 h1, .int .i64 h2]) (by simp [results, Tryz.results58, go_sem, r0, r1]) rfl ⟨rfl, by repeat (first | exact hbb | refine below_set ?_ (by omega) _)⟩
theorem Ch.Rn.less {D : List CkD} {k j : Nat} {h1 h2 g1 g2 x y v1 v2 z : Int} (R : Ch.Rn D k j h1 h2 g1 g2 x y v1 v2 z) : Rp.Ok v1 v2 ∧ Rp.Ok g1 g2 ∧ (!decide (Rp.q v1 v2 < Rp.q g1 g2)) = decide (0 ≤ z) := by
  have hz := R.hz
  have hb : Rp.both v1 v2 g1 g2 = 0 := by
    unfold Rp.cmpS at hz
    split at hz
    · assumption
    · simp at hz
  have ho : Rp.Ok v1 v2 ∧ Rp.Ok g1 g2 := by
    unfold Rp.both Rp.chk at hb
    split at hb
    · split at hb
      · exact ⟨by assumption, by assumption⟩
      · simp at hb
    · simp at hb
  refine ⟨ho.1, ho.2, ?_⟩; rw [Rp.cmpS_ok ho.1 ho.2] at hz; have hz := congrArg Prod.fst hz; dsimp only at hz; subst hz
  unfold Rp.cmpQ
  split
  · next h => simp [h]
  · next h => split <;> simp_all
theorem Rc.fd_gb {F : Nat → Prop} {W W' : World} {B ca cq : Nat} {A Q : Option Addr} {l : List CkR} {L : List Qr} (h : FD W B A ca l Q cq L) (hg : GB F W W') (hF : ∀ k, F k → k < B) : FD W' B A ca l Q cq L :=
  h.mid ⟨hg.size, fun k h1 h2 => hg.block k h2 (fun hf => by have := hF k hf; omega)⟩
theorem rstate0_any (D : List CkD) (A : Option Addr) (ca : Nat) (cs : List CkR) (k : Int) (w : World) (h : IsCs w A cs) (hD : cs.map Ak.dat = D) (hc : Ak.chkS D 0 = 0) :
    Calls Tryz.prog 30 #[.slice A cs.length ca, .int .i64 k, .int .i64 0] w (StQ D [] k 0 0 1 false w) := by
  have tk := twins_ok hD hc; have l6 := tk.1
  have tw := fun v (hv : Below w.heap.size w v) => rTwins_any A ca cs v (h.keep hv) (by omega) tk.2
  have of := fun v => rOf_any 0 v
  have TW := Lib.hid tw; have OF := Lib.hid of; have HD := Lib.hid hD
  unfold StQ
  clear tw of h hD hc tk
  go_enter Tryz.func30, Tryz.ntmps30
  go_upto_region 1 with fail
  refine at_box1 (fun V hbb B0 hVs => ?_); (go_wp2_with fail); refine (TW.out _ hbb).mono ?_; rintro e w1 ⟨rv, l, rfl, hdat, hcr⟩; have hb := hcr.bb; obtain ⟨R, cr, rfl, _⟩ := Ak.row_cap hcr.row; have hfd : FD w1 V.heap.size R cr l none 0 [] := ⟨hcr.row, crow_fd hcr, World.ownsRow_nil _ _ _ _, (by intro q hq; cases hq), by have := congrArg List.length hdat; simp at this; unfold maxLen; omega, by simp⟩; rw [HD.out] at hdat; have HDT := Lib.hid hdat; clear hdat hcr; replace hbb := keepB hbb hb; replace B0 := B0.keep hb; clear hb; (go_wp2_with fail); refine (OF.out _).mono ?_; rintro e w2 ⟨rfl, hb⟩; replace hbb := keepB hbb hb; replace B0 := B0.keep hb; replace hfd := hfd.keep hb; clear hb; have hsBS := hbb.size
  go_upto_region 2 with fail
  refine at_worldQ (fun v => Below w.heap.size w v ∧ BK v (w.heap.size) [.slice none 0 0, .slice none 0 0, .int .i64 0, .int .i64 0, .int .i64 0, .int .i64 0, .bool false] ∧ BK v w2.heap.size [.slice R l.length cr, .slice none 0 0, .int .i64 k, .int .i64 0, .int .i64 0, .int .i64 1, .bool false] ∧ FD v V.heap.size R cr l none 0 []) ⟨below_al hbb _, B0.al _, BK.new _ _ _, hfd.keep (below_al (Below.refl _ _) _)⟩ (fun VBS hS => ?_); clear hbb B0 hfd; obtain ⟨hbb, B0, BS, hfd⟩ := hS; obtain ⟨pBS, hpBS⟩ : ∃ z, w2.heap.size = z := ⟨_, rfl⟩; rw [hpBS] at BS hsBS  ⊢; clear hpBS; have cBS0 := BS.c 0 rfl; have cBS1 := BS.c 1 rfl; have cBS2 := BS.c 2 rfl; have cBS3 := BS.c 3 rfl; have cBS4 := BS.c 4 rfl; have cBS5 := BS.c 5 rfl; have cBS6 := BS.c 6 rfl; have r0 := B0.c 0 rfl; have g0 := B0.f 0 rfl; have r1 := B0.c 1 rfl; have g1 := B0.f 1 rfl; have r2 := B0.c 2 rfl; have g2 := B0.f 2 rfl; have r3 := B0.c 3 rfl; have g3 := B0.f 3 rfl; have r4 := B0.c 4 rfl; have g4 := B0.f 4 rfl; have r5 := B0.c 5 rfl; have g5 := B0.f 5 rfl; have r6 := B0.c 6 rfl; have g6 := B0.f 6 rfl; (go_wp2_with fail); exact bodyPost_ret (v := .agg #[.slice R l.length cr, .slice none 0 0, .int .i64 k, .int .i64 0, .int .i64 0, .int .i64 1, .bool false]) (by simp [results, Tryz.results30, go_sem, r0, r1, r2, r3, r4, r5, r6]) rfl ⟨R, l.length, cr, none, 0, 0, l, rfl, (below_set (below_set (below_set (below_set (below_set (below_set (below_set hbb (by omega) _) (by omega) _) (by omega) _) (by omega) _) (by omega) _) (by omega) _) (by omega) _), rfl, rfl, HDT.out, (((((((hfd.set (by omega) _).set (by omega) _).set (by omega) _).set (by omega) _).set (by omega) _).set (by omega) _).set (by omega) _).mono (by omega)⟩
end Go.Proofs.YtniagnldiegamaaGreat
namespace Go.Proofs.YtniagnldiegamaaGreat
open Go.RowKit
set_option linter.unusedSimpArgs false in
set_option maxHeartbeats 8000000 in
set_option maxRecDepth 100000 in
theorem rstate2_any (D : List CkD) (k j : Nat) (h1 h2 g1 g2 x y v1 v2 z : Int) (R : Ch.Rn D k j h1 h2 g1 g2 x y v1 v2 z) (A : Option Addr) (ca : Nat) (cs : List CkR) (w : World) (h : IsCs w A cs) (hD : cs.map Ak.dat = D) (hc : Ak.chkS D 0 = 0) (hl : D.length = 2) :
    Calls Tryz.prog 30 #[.slice A cs.length ca, .int .i64 (k : Nat), .int .i64 2] w (StQ D [⟨(k : Nat), 2, 0, 1, h1, h2, x, y⟩, ⟨(j : Nat), 1, 0, 1, x, y, v1, v2⟩] k 2 x y (decide (0 ≤ z)) w) := by
  have tk := twins_ok hD hc; have l6 := tk.1
  have tw := fun v (hv : Below w.heap.size w v) => rTwins_any A ca cs v (h.keep hv) (by omega) tk.2
  have of := fun v => rOf_any 0 v
  have TW := Lib.hid tw; have OF := Lib.hid of; have HD := Lib.hid hD; have hkj := R.kj
  have hcl2 : cs.length = 2 := by rw [← hl, ← hD, List.length_map]
  have hkl : k < cs.length := by omega
  have hjl : j < cs.length := by omega
  obtain ⟨ho1, ho2, hlb⟩ := R.less
  have ls := fun v => Less_any v1 v2 g1 g2 ho1 ho2 v
  obtain ⟨lb, hlb1⟩ : ∃ b, decide (Rp.q v1 v2 < Rp.q g1 g2) = b := ⟨_, rfl⟩; rw [hlb1] at hlb
  simp only [hlb1] at ls
  have HLB := Lib.hid hlb; have LS := Lib.hid ls; have hG := (Ak.chkS_good hc).all
  have half : ∀ (i : Nat) (a b : Int), i < cs.length → Ch.hf (Ak.dAt D i) = (a, b, 0) → ∀ v, Below w.heap.size w v → Calls Tryz.prog 58 #[.agg #[.int .i64 (Ak.cat cs i).len, .slice (Ak.cat cs i).K (Ak.cat cs i).cuts.length (Ak.cat cs i).ck, .slice (Ak.cat cs i).Z (Ak.cat cs i).dens.length (Ak.cat cs i).cz]] v fun e w' => e = .returned (.agg #[.int .i64 a, .int .i64 b]) ∧ Below v.heap.size v w' := by
    intro i a b hi hx v hv; rw [← hD, Ak.dAt_map cs hi] at hx; have hm := Ak.cat_mem hi; exact rHalf_any _ _ _ _ _ _ _ a b v ((h.all _ hm).keep hv) (show Ck.chk (Ak.cat cs i).len (Ak.cat cs i).cuts (Ak.cat cs i).dens = 0 from hG (Ak.dat (Ak.cat cs i)) (by rw [← hD]; exact List.mem_map_of_mem hm)) hx
  have hfk := half k h1 h2 hkl R.hh; have hfj := half j g1 g2 hjl R.hg
  have hp64 : Ak.Q64 ⟨(k : Nat), 2, 0, 1, h1, h2, x, y⟩ := by
    have a1 := R.b1; have a2 := R.b2; have a5 := R.b5; have a6 := R.b6
    unfold I64 at a1 a2 a5 a6
    unfold Ak.Q64
    dsimp only
    refine ⟨?_, ?_, ?_, ?_, ?_, ?_, ?_, ?_⟩ <;> (first | omega | (unfold I64; omega) | trivial)
  have hq64 : Ak.Q64 ⟨(j : Nat), 1, 0, 1, x, y, v1, v2⟩ := by
    have a1 := R.b5; have a2 := R.b6; have a5 := R.b7; have a6 := R.b8
    unfold I64 at a1 a2 a5 a6
    unfold Ak.Q64
    dsimp only
    refine ⟨?_, ?_, ?_, ?_, ?_, ?_, ?_, ?_⟩ <;> (first | omega | (unfold I64; omega) | trivial)
  have HP64 := Lib.hid hp64; have HQ64 := Lib.hid hq64; have HMK := Lib.hid R.hm; have HMV := Lib.hid R.hv; have HKJ := Lib.hid hkj; have HL2 := Lib.hid hl; have HC := Lib.hid hc
  have k0 : (0 : Int) ≤ (k : Nat) := by omega
  have k1 : ((k : Nat) : Int) < (cs.length : Nat) := by omega
  have j0 : (0 : Int) ≤ (j : Nat) := by omega
  have j1 : ((j : Nat) : Int) < (cs.length : Nat) := by omega
  have HKL := Lib.hid (show k < 2 by omega); have HJL := Lib.hid (show j < 2 by omega); obtain ⟨cb, co, hA, hcl⟩ := h.at_; obtain rfl := hA (by omega); obtain ⟨y0, y1, y2⟩ := hcl k hkl; obtain ⟨z0, z1, z2⟩ := hcl j hjl
  generalize Ak.cat cs k = ck0 at *
  generalize Ak.cat cs j = cj0 at *
  have Y0 := Lib.hid y0; have Y1 := Lib.hid y1; have Y2 := Lib.hid y2; have Z0 := Lib.hid z0; have Z1 := Lib.hid z1; have Z2 := Lib.hid z2; have HFK := Lib.hid hfk; have HFJ := Lib.hid hfj
  unfold StQ
  clear tw of h hD hc tk hkj hcl2 hkl hjl ho1 ho2 hlb hlb1 ls hG half hfk hfj hp64 hq64 hl hA hcl y0 y1 y2 z0 z1 z2 R
  go_enter Tryz.func30, Tryz.ntmps30
  go_upto_region 1 with fail
  refine at_box1 (fun V hbb B0 hVs => ?_); (go_wp2_with fail); refine (TW.out _ hbb).mono ?_; rintro e w1 ⟨rv, l, rfl, hdat, hcr⟩; have hb := hcr.bb; obtain ⟨R, cr, rfl, _⟩ := Ak.row_cap hcr.row; have hfd : FD w1 V.heap.size R cr l none 0 [] := ⟨hcr.row, crow_fd hcr, World.ownsRow_nil _ _ _ _, (by intro q hq; cases hq), by have := congrArg List.length hdat; simp at this; unfold maxLen; omega, by simp⟩; rw [HD.out] at hdat; have HDT := Lib.hid hdat; clear hdat hcr; replace hbb := keepB hbb hb; replace B0 := B0.keep hb; clear hb; (go_wp2_with fail); refine (OF.out _).mono ?_; rintro e w2 ⟨rfl, hb⟩; replace hbb := keepB hbb hb; replace B0 := B0.keep hb; replace hfd := hfd.keep hb; clear hb; have hlt0 := B0.lt; have hsBS := hbb.size
  go_upto_region 2 with fail
  refine at_worldQ (fun v => Below w.heap.size w v ∧ BK v (w.heap.size) [.slice none 0 0, .slice none 0 0, .int .i64 0, .int .i64 0, .int .i64 0, .int .i64 0, .bool false] ∧ BK v w2.heap.size [.slice R l.length cr, .slice none 0 0, .int .i64 (k : Nat), .int .i64 2, .int .i64 0, .int .i64 1, .bool false] ∧ FD v V.heap.size R cr l none 0 []) ⟨below_al hbb _, B0.al _, BK.new _ _ _, hfd.keep (below_al (Below.refl _ _) _)⟩ (fun VBS hS => ?_); clear hbb B0 hfd; obtain ⟨hbb, B0, BS, hfd⟩ := hS; obtain ⟨pBS, hpBS⟩ : ∃ z, w2.heap.size = z := ⟨_, rfl⟩; rw [hpBS] at BS hsBS hlt0 ⊢; clear hpBS
  go_upto_region 3 with fail
  refine at_worldQ (fun v => Below w.heap.size w v ∧ BK v w.heap.size [.slice none 0 0, .slice none 0 0, .int .i64 0, .int .i64 0, .int .i64 0, .int .i64 0, .bool false] ∧ BK v pBS [.slice R l.length cr, .slice none 0 0, .int .i64 (k : Nat), .int .i64 2, .int .i64 0, .int .i64 1, .bool false] ∧ FD v V.heap.size R cr l none 0 [] ∧ pBS < v.heap.size) ⟨hbb, B0, BS, hfd, BS.lt⟩ (fun V3 hS => ?_); clear hbb B0 BS hfd; obtain ⟨hbb, B0, BBS, hfd0, hpl⟩ := hS
  have mk : ∀ v, Below V3.heap.size V3 v → Calls Tryz.prog 51 #[.agg #[.slice R l.length cr, .slice none 0 0], .int .i64 (k : Nat), .agg #[.int .i64 0, .int .i64 1], .agg #[.int .i64 h1, .int .i64 h2]] v fun e w' => ∃ (A2 : Option Addr) (ca2 : Nat) (l2 : List CkR) (g cap : Nat), e = .returned (.tuple #[.agg #[.slice A2 l2.length ca2, .slice (some ⟨g, 0, none⟩) 1 cap], .agg #[.int .i64 x, .int .i64 y], .int .i64 0]) ∧ Below v.heap.size v w' ∧ l2.map Ak.dat = D ∧ FD w' v.heap.size A2 ca2 l2 (some ⟨g, 0, none⟩) cap [⟨(k : Nat), 2, 0, 1, h1, h2, x, y⟩] := fun v hv => rqmark_any D R cr l none [] 0 0 k 0 1 h1 h2 x y v (hfd0.isCs.keep hv) (hfd0.isQs.keep hv) HDT.out HC.out (by have e := congrArg List.length HDT.out; rw [List.length_map] at e; have := HL2.out; have := HKL.out; omega) rfl (by decide) HP64.out HMK.out
  have MK := Lib.hid mk; clear mk hfd0; have y0 := keepC hbb Y0.out; have y1 := keepC hbb Y1.out; have y2 := keepC hbb Y2.out; have sa0 := BBS.c 0 rfl; have sa1 := BBS.c 1 rfl; refine wp_region_noPanic ?_; refine region_ordU (S := (GB (fun _ => False) V3)) (GB (fun b => b = pBS) V3) 15 (by kernel_rfl) ((GB.refl _ _).drew) (fun hHeld => ?_); refine at_ordU (fun v => GB (fun _ => False) V3 v) hHeld (fun wm0 hNew => ?_); clear hHeld; have hHeld := hNew; clear hNew; refine ordU_take (i := 0) (o := _) (v := ?vm1) rfl (by kernel_rfl) (by kernel_rfl) (by kernel_rfl) (by kernel_rfl) (fun _ _ _ h => h) (Or.inl ⟨by kernel_rfl, ?hym1⟩) hHeld ?restm1
  case hym1 => (intro w hSw; go_simp <;> with_reducible rfl)
  (try simp only [PPz]); refine ordU_take (i := 1) (o := _) (v := ?vm2) rfl (by kernel_rfl) (by kernel_rfl) (by kernel_rfl) (by kernel_rfl) (fun _ _ _ h => h) (Or.inl ⟨by kernel_rfl, ?hym2⟩) hHeld ?restm2
  case hym2 => (intro w hSw; have ksa0 := hSw.cell (fun h => h) sa0; have ksa1 := hSw.cell (fun h => h) sa1; have ky0 := hSw.cell (fun h => h) y0; have ky1 := hSw.cell (fun h => h) y1; have ky2 := hSw.cell (fun h => h) y2; go_simp <;> with_reducible rfl)
  (try simp only [PPz]); refine ordU_take (i := 2) (o := _) (v := ?vm3) rfl (by kernel_rfl) (by kernel_rfl) (by kernel_rfl) (by kernel_rfl) (fun _ _ _ h => h) (Or.inl ⟨by kernel_rfl, ?hym3⟩) hHeld ?restm3
  case hym3 => (intro w hSw; go_simp <;> with_reducible rfl)
  (try simp only [PPz]); refine ordU_take (i := 4) (o := _) (v := ?vm4) rfl (by kernel_rfl) (by kernel_rfl) (by kernel_rfl) (by kernel_rfl) (fun _ _ _ h => h) (Or.inl ⟨by kernel_rfl, ?hym4⟩) hHeld ?restm4
  case hym4 => (intro w hSw; go_simp <;> with_reducible rfl)
  (try simp only [PPz]); refine ordU_take (i := 5) (o := _) (v := ?vm5) rfl (by kernel_rfl) (by kernel_rfl) (by kernel_rfl) (by kernel_rfl) (fun _ _ _ h => h) (Or.inl ⟨by kernel_rfl, ?hym5⟩) hHeld ?restm5
  case hym5 => (intro w hSw; go_simp <;> with_reducible rfl)
  (try simp only [PPz]); refine ordU_take (i := 6) (o := _) (v := ?vm6) rfl (by kernel_rfl) (by kernel_rfl) (by kernel_rfl) (by kernel_rfl) (fun _ _ _ h => h) (Or.inl ⟨by kernel_rfl, ?hym6⟩) hHeld ?restm6
  case hym6 => (intro w hSw; go_simp <;> with_reducible rfl)
  (try simp only [PPz]); refine ordU_take (i := 7) (o := _) (v := ?vm7) rfl (by kernel_rfl) (by kernel_rfl) (by kernel_rfl) (by kernel_rfl) (fun _ _ _ h => h) (Or.inl ⟨by kernel_rfl, ?hym7⟩) hHeld ?restm7
  case hym7 => (intro w hSw; have ksa0 := hSw.cell (fun h => h) sa0; have ksa1 := hSw.cell (fun h => h) sa1; have ky0 := hSw.cell (fun h => h) y0; have ky1 := hSw.cell (fun h => h) y1; have ky2 := hSw.cell (fun h => h) y2; go_simp <;> with_reducible rfl)
  (try simp only [PPz]); refine ordU_ready (rs := [3]) (by kernel_rfl) (by simp) (ReadyU.cons (o := _) rfl (by decide) (fun K hK => ?_) ReadyU.nil); go_simp; refine (OF.out _).mono ?_; rintro e wm8 ⟨rfl, hb3⟩; (go_wp2_with fail); refine hK.out _ _ (hHeld.below hb3) (fun hNew => ?_); replace hHeld := hNew; clear hNew hK K hb3; (try simp only [PPz]); refine ordU_ready (rs := [8]) (by kernel_rfl) (by simp) (ReadyU.cons (o := _) rfl (by decide) (fun K hK => ?_) ReadyU.nil); go_simp; refine (HFK.out _ (hHeld.toBelow hbb (fun b hb => hb.elim) (by omega))).mono ?_; rintro e wm9 ⟨rfl, hb3⟩; (go_wp2_with fail); refine hK.out _ _ (hHeld.below hb3) (fun hNew => ?_); replace hHeld := hNew; clear hNew hK K hb3; (try simp only [PPz]); refine ordU_ready (rs := [9]) (by kernel_rfl) (by simp) (ReadyU.cons (o := _) rfl (by decide) (fun K hK => ?_) ReadyU.nil); go_simp; refine (MK.out _ (hHeld.toBelow (Below.refl _ _) (fun b hb => hb.elim) (Nat.le_refl _))).mono ?_; rintro e wm10 ⟨A2, ca2, l2, g, cap, rfl, hb3, hdt2, hfd⟩; have HDT2 := Lib.hid hdt2; clear hdt2; have hm := Mid.refl wm9.heap.size wm10; have hvw := hHeld.size; (go_wp2_with fail); refine hK.out _ _ (hHeld.below hb3) (fun hNew => ?_); replace hHeld := hNew; clear hNew hK K hb3; (try simp only [PPz]); refine ordU_take (i := 10) (o := _) (v := ?vm11) rfl (by kernel_rfl) (by kernel_rfl) (by kernel_rfl) (by kernel_rfl) (fun _ _ _ h => h) (Or.inl ⟨by kernel_rfl, ?hym11⟩) hHeld ?restm11
  case hym11 => (intro w hSw; go_simp <;> with_reducible rfl)
  (try simp only [PPz]); refine ordU_take (i := 11) (o := _) (v := ?vm12) rfl (by kernel_rfl) (by kernel_rfl) (by kernel_rfl) (by kernel_rfl) (fun _ _ _ h => h) (Or.inl ⟨by kernel_rfl, ?hym12⟩) hHeld ?restm12
  case hym12 => (intro w hSw; go_simp <;> with_reducible rfl)
  (try simp only [PPz]); refine ordU_take2 (i := 12) (o := _) (v := ?vm13) rfl (by kernel_rfl) (by kernel_rfl) (by kernel_rfl) (by decide) (fun  _ _ _ h => h) (Or.inl ⟨by kernel_rfl, ?hym13⟩) (Or.inl ⟨by kernel_rfl, ?hzm13⟩) hHeld ?restm13
  case hym13 => (intro w hSw; go_simp <;> with_reducible rfl)
  case hzm13 => (intro w hSw; go_simp <;> with_reducible rfl)
  (try simp only [PPz]); refine ordU_take2 (i := 13) (o := _) (v := ?vm14) rfl (by kernel_rfl) (by kernel_rfl) (by kernel_rfl) (by decide) (fun  _ _ _ h => h) (Or.inl ⟨by kernel_rfl, ?hym14⟩) (Or.inl ⟨by kernel_rfl, ?hzm14⟩) hHeld ?restm14
  case hym14 => (intro w hSw; go_simp <;> with_reducible rfl)
  case hzm14 => (intro w hSw; go_simp <;> with_reducible rfl)
  (try simp only [PPz]); refine ordU_take (i := 14) (o := _) (v := ?vm15) rfl (by kernel_rfl) (by kernel_rfl) (by kernel_rfl) (by kernel_rfl) (fun _ _ _ h => h) (Or.inl ⟨by kernel_rfl, ?hym15⟩) hHeld ?restm15
  case hym15 => (intro w hSw; go_simp <;> with_reducible rfl)
  (try simp only [PPz]); refine ordU_at (by kernel_rfl) ?_; replace BBS := BBS.gb hHeld (fun h => h); replace hHeld : GB (fun b => b = pBS) V3 wm10 := hHeld.weak (fun k hk => hk.elim); refine rdy1 15 rfl (fun K hK => ?_); have n0 := BBS.c 0 rfl; have f0 := BBS.f 0 rfl; have n1 := BBS.c 1 rfl; have f1 := BBS.f 1 rfl; go_simp; clear n0 f0 n1 f1; refine hK.out _ _ ((hHeld.set (.inl rfl) _).set (.inl rfl) _) (fun hNew => ?_); replace hHeld := hNew; clear hNew hK K; (try simp only [PPz]); refine at_anyH (fun v => GB (fun b => b = pBS) V3 v ∧ BK v (pBS) [.slice A2 l2.length ca2, .slice (some ⟨g, 0, none⟩) 1 cap, .int .i64 (k : Nat), .int .i64 2, .int .i64 0, .int .i64 1, .bool false] ∧ Mid wm9.heap.size wm10 v) ⟨hHeld, ((BBS.set 0 _).set 1 _), ((hm.set (by omega) _).set (by omega) _)⟩ (fun wm16 hS => ?_); clear hHeld BBS hm; obtain ⟨hHeld, BBS, hm⟩ := hS; refine tkd 16 ?_; (try simp only [PPz]); refine rdy1 17 rfl (fun K hK => ?_); have n0 := BBS.c 4 rfl; have f0 := BBS.f 4 rfl; have n1 := BBS.c 5 rfl; have f1 := BBS.f 5 rfl; go_simp; clear n0 f0 n1 f1; refine hK.out _ _ ((hHeld.set (.inl rfl) _).set (.inl rfl) _) (fun hNew => ?_); replace hHeld := hNew; clear hNew hK K; (try simp only [PPz]); refine at_anyH (fun v => GB (fun b => b = pBS) V3 v ∧ BK v (pBS) [.slice A2 l2.length ca2, .slice (some ⟨g, 0, none⟩) 1 cap, .int .i64 (k : Nat), .int .i64 2, .int .i64 x, .int .i64 y, .bool false] ∧ Mid wm9.heap.size wm10 v) ⟨hHeld, ((BBS.set 4 _).set 5 _), ((hm.set (by omega) _).set (by omega) _)⟩ (fun wm18 hS => ?_); clear hHeld BBS hm; obtain ⟨hHeld, BBS, hm⟩ := hS; refine wpAnyH_done (by kernel_rfl) ?_ _; refine NoPanic.normal ?_; have hbb2 := hHeld.toBelow hbb (fun b hb => by have hb : b = pBS := hb; omega) (by omega); have B0 := B0.gb hHeld (by omega); have hfd2 := (hfd.mid hm).mono hvw; have hlt := BBS.lt; clear hfd hm
  go_upto_region 4 with fail
  refine at_worldQ (fun v => Below w.heap.size w v ∧ BK v w.heap.size [.slice none 0 0, .slice none 0 0, .int .i64 0, .int .i64 0, .int .i64 0, .int .i64 0, .bool false] ∧ BK v pBS [.slice A2 l2.length ca2, .slice (some ⟨g, 0, none⟩) 1 cap, .int .i64 (k : Nat), .int .i64 2, .int .i64 x, .int .i64 y, .bool false] ∧ FD v V3.heap.size A2 ca2 l2 (some ⟨g, 0, none⟩) cap [⟨(k : Nat), 2, 0, 1, h1, h2, x, y⟩] ∧ pBS < v.heap.size) ⟨hbb2, B0, BBS, hfd2, hlt⟩ (fun V5 hS => ?_); clear hbb hbb2 B0 BBS hfd2 hHeld sa0 sa1 y0 y1 y2 hlt; obtain ⟨hbb, B0, BBS, hfd2, hlt⟩ := hS
  go_upto_region 6 with fail
  refine at_worldQ (fun v => Below w.heap.size w v ∧ BK v w.heap.size [.slice none 0 0, .slice none 0 0, .int .i64 0, .int .i64 0, .int .i64 0, .int .i64 0, .bool false] ∧ BK v pBS [.slice A2 l2.length ca2, .slice (some ⟨g, 0, none⟩) 1 cap, .int .i64 (k : Nat), .int .i64 2, .int .i64 x, .int .i64 y, .bool false] ∧ BK v V5.heap.size [.int .i64 0, .int .i64 0] ∧ FD v V3.heap.size A2 ca2 l2 (some ⟨g, 0, none⟩) cap [⟨(k : Nat), 2, 0, 1, h1, h2, x, y⟩] ∧ V5.heap.size < v.heap.size) ⟨below_al hbb _, B0.al _, BBS.al _, BK.new _ _ _, hfd2.keep (below_al (Below.refl _ _) _), by simp only [World.size_alloc]; omega⟩ (fun V6 hS => ?_); clear hbb B0 BBS hfd2; obtain ⟨hbb, B0, BBS, BBZ, hfd0, hpz2⟩ := hS; obtain ⟨pZ, hpZ⟩ : ∃ z, V5.heap.size = z := ⟨_, rfl⟩; rw [hpZ] at BBZ hlt hpz2 ⊢; have hpz : pBS < pZ := hlt; clear hpZ
  have vl : ∀ v, Below V6.heap.size V6 v → Calls Tryz.prog 59 #[.agg #[.slice A2 l2.length ca2, .slice (some ⟨g, 0, none⟩) 1 cap], .int .i64 (j : Nat), .agg #[.int .i64 0, .int .i64 1], .agg #[.int .i64 x, .int .i64 y]] v fun e w' => ∃ (A3 : Option Addr) (ca3 : Nat) (l3 : List CkR) (g3 cap3 : Nat), e = .returned (.tuple #[.agg #[.slice A3 l3.length ca3, .slice (some ⟨g3, 0, none⟩) 2 cap3], .agg #[.int .i64 v1, .int .i64 v2], .int .i64 0]) ∧ Below v.heap.size v w' ∧ l3.map Ak.dat = D ∧ FD w' v.heap.size A3 ca3 l3 (some ⟨g3, 0, none⟩) cap3 [⟨(k : Nat), 2, 0, 1, h1, h2, x, y⟩, ⟨(j : Nat), 1, 0, 1, x, y, v1, v2⟩] := fun v hv => rqvalue_any D A2 ca2 l2 (some ⟨g, 0, none⟩) [⟨(k : Nat), 2, 0, 1, h1, h2, x, y⟩] cap 1 j 0 1 x y v1 v2 v (hfd0.isCs.keep hv) (hfd0.isQs.keep hv) HDT2.out HC.out (by have e := congrArg List.length HDT2.out; rw [List.length_map] at e; have := HL2.out; have := HJL.out; omega) rfl (by decide) HQ64.out HMV.out
  have VL := Lib.hid vl; clear vl hfd0; have sa0 := BBS.c 0 rfl; have sa1 := BBS.c 1 rfl; have sa2 := BBS.c 4 rfl; have sa3 := BBS.c 5 rfl; refine wp_region_noPanic ?_; refine region_ordU (S := (GB (fun _ => False) V6)) (GB (fun b => b = pBS ∨ b = pZ) V6) 13 (by kernel_rfl) ((GB.refl _ _).drew) (fun hHeld => ?_); refine at_ordU (fun v => GB (fun _ => False) V6 v) hHeld (fun wn0 hNew => ?_); clear hHeld; have hHeld := hNew; clear hNew; refine ordU_take (i := 0) (o := _) (v := ?vn1) rfl (by kernel_rfl) (by kernel_rfl) (by kernel_rfl) (by kernel_rfl) (fun _ _ _ h => h) (Or.inl ⟨by kernel_rfl, ?hyn1⟩) hHeld ?restn1
  case hyn1 => (intro w hSw; go_simp <;> with_reducible rfl)
  (try simp only [PPz]); refine ordU_take (i := 1) (o := _) (v := ?vn2) rfl (by kernel_rfl) (by kernel_rfl) (by kernel_rfl) (by kernel_rfl) (fun _ _ _ h => h) (Or.inl ⟨by kernel_rfl, ?hyn2⟩) hHeld ?restn2
  case hyn2 => (intro w hSw; have ksa0 := hSw.cell (fun h => h) sa0; have ksa1 := hSw.cell (fun h => h) sa1; have ksa2 := hSw.cell (fun h => h) sa2; have ksa3 := hSw.cell (fun h => h) sa3; go_simp <;> with_reducible rfl)
  (try simp only [PPz]); refine ordU_take (i := 2) (o := _) (v := ?vn3) rfl (by kernel_rfl) (by kernel_rfl) (by kernel_rfl) (by kernel_rfl) (fun _ _ _ h => h) (Or.inl ⟨by kernel_rfl, ?hyn3⟩) hHeld ?restn3
  case hyn3 => (intro w hSw; go_simp <;> with_reducible rfl)
  (try simp only [PPz]); refine ordU_take (i := 3) (o := _) (v := .int .i64 (j : Nat)) rfl (by kernel_rfl) (by kernel_rfl) (by kernel_rfl) (by kernel_rfl) (fun _ _ _ h => h) (Or.inl ⟨by kernel_rfl, ?_⟩) hHeld ?_
  · intro w hSw; rcases HKJ.out with ⟨rfl, rfl⟩ | ⟨rfl, rfl⟩ <;> (go_simp; first | done | (with_reducible rfl) | rfl)
  (try simp only [PPz]); refine ordU_take (i := 5) (o := _) (v := ?vn5) rfl (by kernel_rfl) (by kernel_rfl) (by kernel_rfl) (by kernel_rfl) (fun _ _ _ h => h) (Or.inl ⟨by kernel_rfl, ?hyn5⟩) hHeld ?restn5
  case hyn5 => (intro w hSw; go_simp <;> with_reducible rfl)
  (try simp only [PPz]); refine ordU_take (i := 6) (o := _) (v := ?vn6) rfl (by kernel_rfl) (by kernel_rfl) (by kernel_rfl) (by kernel_rfl) (fun _ _ _ h => h) (Or.inl ⟨by kernel_rfl, ?hyn6⟩) hHeld ?restn6
  case hyn6 => (intro w hSw; have ksa0 := hSw.cell (fun h => h) sa0; have ksa1 := hSw.cell (fun h => h) sa1; have ksa2 := hSw.cell (fun h => h) sa2; have ksa3 := hSw.cell (fun h => h) sa3; go_simp <;> with_reducible rfl)
  (try simp only [PPz]); refine ordU_ready (rs := [4]) (by kernel_rfl) (by simp) (ReadyU.cons (o := _) rfl (by decide) (fun K hK => ?_) ReadyU.nil); go_simp; refine (OF.out _).mono ?_; rintro e wn7 ⟨rfl, hb3⟩; (go_wp2_with fail); refine hK.out _ _ (hHeld.below hb3) (fun hNew => ?_); replace hHeld := hNew; clear hNew hK K hb3; (try simp only [PPz]); refine ordU_ready (rs := [7]) (by kernel_rfl) (by simp) (ReadyU.cons (o := _) rfl (by decide) (fun K hK => ?_) ReadyU.nil); go_simp; refine (VL.out _ (hHeld.toBelow (Below.refl _ _) (fun b hb => hb.elim) (Nat.le_refl _))).mono ?_; rintro e wn8 ⟨A3, ca3, l3, g3, cap3, rfl, hb3, hdt3, hfd⟩; have HDT3 := Lib.hid hdt3; clear hdt3; have hm := Mid.refl wn7.heap.size wn8; have hvw := hHeld.size; (go_wp2_with fail); refine hK.out _ _ (hHeld.below hb3) (fun hNew => ?_); replace hHeld := hNew; clear hNew hK K hb3; (try simp only [PPz]); refine ordU_take (i := 8) (o := _) (v := ?vn9) rfl (by kernel_rfl) (by kernel_rfl) (by kernel_rfl) (by kernel_rfl) (fun _ _ _ h => h) (Or.inl ⟨by kernel_rfl, ?hyn9⟩) hHeld ?restn9
  case hyn9 => (intro w hSw; go_simp <;> with_reducible rfl)
  (try simp only [PPz]); refine ordU_take (i := 9) (o := _) (v := ?vn10) rfl (by kernel_rfl) (by kernel_rfl) (by kernel_rfl) (by kernel_rfl) (fun _ _ _ h => h) (Or.inl ⟨by kernel_rfl, ?hyn10⟩) hHeld ?restn10
  case hyn10 => (intro w hSw; go_simp <;> with_reducible rfl)
  (try simp only [PPz]); refine ordU_take2 (i := 10) (o := _) (v := ?vn11) rfl (by kernel_rfl) (by kernel_rfl) (by kernel_rfl) (by decide) (fun  _ _ _ h => h) (Or.inl ⟨by kernel_rfl, ?hyn11⟩) (Or.inl ⟨by kernel_rfl, ?hzn11⟩) hHeld ?restn11
  case hyn11 => (intro w hSw; go_simp <;> with_reducible rfl)
  case hzn11 => (intro w hSw; go_simp <;> with_reducible rfl)
  (try simp only [PPz]); refine ordU_take2 (i := 11) (o := _) (v := ?vn12) rfl (by kernel_rfl) (by kernel_rfl) (by kernel_rfl) (by decide) (fun  _ _ _ h => h) (Or.inl ⟨by kernel_rfl, ?hyn12⟩) (Or.inl ⟨by kernel_rfl, ?hzn12⟩) hHeld ?restn12
  case hyn12 => (intro w hSw; go_simp <;> with_reducible rfl)
  case hzn12 => (intro w hSw; go_simp <;> with_reducible rfl)
  (try simp only [PPz]); refine ordU_take (i := 12) (o := _) (v := ?vn13) rfl (by kernel_rfl) (by kernel_rfl) (by kernel_rfl) (by kernel_rfl) (fun _ _ _ h => h) (Or.inl ⟨by kernel_rfl, ?hyn13⟩) hHeld ?restn13
  case hyn13 => (intro w hSw; go_simp <;> with_reducible rfl)
  (try simp only [PPz]); refine ordU_at (by kernel_rfl) ?_; replace BBS := BBS.gb hHeld (fun h => h); replace BBZ := BBZ.gb hHeld (fun h => h); replace hHeld : GB (fun b => b = pBS ∨ b = pZ) V6 wn8 := hHeld.weak (fun k hk => hk.elim); refine rdy1 13 rfl (fun K hK => ?_); have n0 := BBS.c 0 rfl; have f0 := BBS.f 0 rfl; have n1 := BBS.c 1 rfl; have f1 := BBS.f 1 rfl; go_simp; clear n0 f0 n1 f1; refine hK.out _ _ ((hHeld.set (.inl (.inl rfl)) _).set (.inl (.inl rfl)) _) (fun hNew => ?_); replace hHeld := hNew; clear hNew hK K; (try simp only [PPz]); refine at_anyH (fun v => GB (fun b => b = pBS ∨ b = pZ) V6 v ∧ BK v (pBS) [.slice A3 l3.length ca3, .slice (some ⟨g3, 0, none⟩) 2 cap3, .int .i64 (k : Nat), .int .i64 2, .int .i64 x, .int .i64 y, .bool false] ∧ BK v (pZ) [.int .i64 0, .int .i64 0] ∧ Mid wn7.heap.size wn8 v) ⟨hHeld, ((BBS.set 0 _).set 1 _), ((BBZ.far (by omega) _ _).far (by omega) _ _), ((hm.set (by omega) _).set (by omega) _)⟩ (fun wn14 hS => ?_); clear hHeld BBS BBZ hm; obtain ⟨hHeld, BBS, BBZ, hm⟩ := hS; refine rdy1 14 rfl (fun K hK => ?_); have n0 := BBZ.c 0 rfl; have f0 := BBZ.f 0 rfl; have n1 := BBZ.c 1 rfl; have f1 := BBZ.f 1 rfl; go_simp; clear n0 f0 n1 f1; refine hK.out _ _ ((hHeld.set (.inl (.inr rfl)) _).set (.inl (.inr rfl)) _) (fun hNew => ?_); replace hHeld := hNew; clear hNew hK K; (try simp only [PPz]); refine at_anyH (fun v => GB (fun b => b = pBS ∨ b = pZ) V6 v ∧ BK v (pBS) [.slice A3 l3.length ca3, .slice (some ⟨g3, 0, none⟩) 2 cap3, .int .i64 (k : Nat), .int .i64 2, .int .i64 x, .int .i64 y, .bool false] ∧ BK v (pZ) [.int .i64 v1, .int .i64 v2] ∧ Mid wn7.heap.size wn8 v) ⟨hHeld, ((BBS.far (by omega) _ _).far (by omega) _ _), ((BBZ.set 0 _).set 1 _), ((hm.set (by omega) _).set (by omega) _)⟩ (fun wn15 hS => ?_); clear hHeld BBS BBZ hm; obtain ⟨hHeld, BBS, BBZ, hm⟩ := hS; refine wpAnyH_done (by kernel_rfl) ?_ _; refine NoPanic.normal ?_; have hbb2 := hHeld.toBelow hbb (fun b hb => by have hb : b = pBS ∨ b = pZ := hb; omega) (by omega); have B0 := B0.gb hHeld (by omega); have hfd2 := (hfd.mid hm).mono hvw; have hvs := hHeld.size; clear hfd hm
  go_upto_region 7 with fail
  refine at_worldQ (fun v => ∃ VB, Below w.heap.size w v ∧ BK v w.heap.size [.slice none 0 0, .slice none 0 0, .int .i64 0, .int .i64 0, .int .i64 0, .int .i64 0, .bool false] ∧ BK v pBS [.slice A3 l3.length ca3, .slice (some ⟨g3, 0, none⟩) 2 cap3, .int .i64 (k : Nat), .int .i64 2, .int .i64 x, .int .i64 y, .bool false] ∧ BK v pZ [.int .i64 v1, .int .i64 v2] ∧ FD v VB A3 ca3 l3 (some ⟨g3, 0, none⟩) cap3 [⟨(k : Nat), 2, 0, 1, h1, h2, x, y⟩, ⟨(j : Nat), 1, 0, 1, x, y, v1, v2⟩] ∧ pBS < VB ∧ pZ < VB ∧ VB ≤ v.heap.size) ⟨V6.heap.size, hbb2, B0, BBS, BBZ, hfd2, by omega, by omega, hvs⟩ (fun V7 hS => ?_); clear hbb hbb2 B0 BBS BBZ hfd2 hHeld sa0 sa1 sa2 sa3; obtain ⟨VB, hbb, B0, BBS, BBZ, hfd, hp1, hp2, hVB⟩ := hS; have z0 := keepC hbb Z0.out; have z1 := keepC hbb Z1.out; have z2 := keepC hbb Z2.out; have e0 := BBZ.c 0 rfl; have e1 := BBZ.c 1 rfl; refine wp_region_noPanic ?_; refine region_ordU (S := (GB (fun _ => False) V7)) (GB (fun b => b = pBS) V7) 10 (by kernel_rfl) ((GB.refl _ _).drew) (fun hHeld => ?_); refine at_ordU (fun v => GB (fun _ => False) V7 v) hHeld (fun wp0 hNew => ?_); clear hHeld; have hHeld := hNew; clear hNew; refine ordU_take (i := 0) (o := _) (v := ?vp1) rfl (by kernel_rfl) (by kernel_rfl) (by kernel_rfl) (by kernel_rfl) (fun _ _ _ h => h) (Or.inl ⟨by kernel_rfl, ?hyp1⟩) hHeld ?restp1
  case hyp1 => (intro w hSw; have kz0 := hSw.cell (fun h => h) z0; have kz1 := hSw.cell (fun h => h) z1; have kz2 := hSw.cell (fun h => h) z2; have ke0 := hSw.cell (fun h => h) e0; have ke1 := hSw.cell (fun h => h) e1; go_simp <;> with_reducible rfl)
  (try simp only [PPz]); refine ordU_take (i := 1) (o := _) (v := ?vp2) rfl (by kernel_rfl) (by kernel_rfl) (by kernel_rfl) (by kernel_rfl) (fun _ _ _ h => h) (Or.inl ⟨by kernel_rfl, ?hyp2⟩) hHeld ?restp2
  case hyp2 => (intro w hSw; go_simp <;> with_reducible rfl)
  (try simp only [PPz]); refine ordU_take (i := 2) (o := _) (v := ?vp3) rfl (by kernel_rfl) (by kernel_rfl) (by kernel_rfl) (by kernel_rfl) (fun _ _ _ h => h) (Or.inl ⟨by kernel_rfl, ?hyp3⟩) hHeld ?restp3
  case hyp3 => (intro w hSw; go_simp <;> with_reducible rfl)
  (try simp only [PPz]); refine ordU_take (i := 3) (o := _) (v := .int .i64 (j : Nat)) rfl (by kernel_rfl) (by kernel_rfl) (by kernel_rfl) (by kernel_rfl) (fun _ _ _ h => h) (Or.inl ⟨by kernel_rfl, ?_⟩) hHeld ?_
  · intro w hSw; rcases HKJ.out with ⟨rfl, rfl⟩ | ⟨rfl, rfl⟩ <;> (go_simp; first | done | (with_reducible rfl) | rfl)
  (try simp only [PPz]); refine ordU_take (i := 4) (o := _) (v := ?vp5) rfl (by kernel_rfl) (by kernel_rfl) (by kernel_rfl) (by kernel_rfl) (fun _ _ _ h => h) (Or.inl ⟨by kernel_rfl, ?hyp5⟩) hHeld ?restp5
  case hyp5 => (intro w hSw; go_simp <;> with_reducible rfl)
  (try simp only [PPz]); refine ordU_take (i := 5) (o := _) (v := ?vp6) rfl (by kernel_rfl) (by kernel_rfl) (by kernel_rfl) (by kernel_rfl) (fun _ _ _ h => h) (Or.inl ⟨by kernel_rfl, ?hyp6⟩) hHeld ?restp6
  case hyp6 => (intro w hSw; have kz0 := hSw.cell (fun h => h) z0; have kz1 := hSw.cell (fun h => h) z1; have kz2 := hSw.cell (fun h => h) z2; have ke0 := hSw.cell (fun h => h) e0; have ke1 := hSw.cell (fun h => h) e1; go_simp <;> with_reducible rfl)
  (try simp only [PPz]); refine ordU_ready (rs := [6]) (by kernel_rfl) (by simp) (ReadyU.cons (o := _) rfl (by decide) (fun K hK => ?_) ReadyU.nil); go_simp; refine (HFJ.out _ (hHeld.toBelow hbb (fun b hb => hb.elim) (by omega))).mono ?_; rintro e wp7 ⟨rfl, hb3⟩; (go_wp2_with fail); refine hK.out _ _ (hHeld.below hb3) (fun hNew => ?_); replace hHeld := hNew; clear hNew hK K hb3; (try simp only [PPz]); refine ordU_ready (rs := [7]) (by kernel_rfl) (by simp) (ReadyU.cons (o := _) rfl (by decide) (fun K hK => ?_) ReadyU.nil); go_simp; refine (LS.out _).mono ?_; rintro e wp8 ⟨rfl, hb3⟩; (go_wp2_with fail); refine hK.out _ _ (hHeld.below hb3) (fun hNew => ?_); replace hHeld := hNew; clear hNew hK K hb3; (try simp only [PPz]); refine ordU_take (i := 8) (o := _) (v := ?vp9) rfl (by kernel_rfl) (by kernel_rfl) (by kernel_rfl) (by kernel_rfl) (fun _ _ _ h => h) (Or.inl ⟨by kernel_rfl, ?hyp9⟩) hHeld ?restp9
  case hyp9 => (intro w hSw; go_simp <;> with_reducible rfl)
  (try simp only [PPz]); refine ordU_take (i := 9) (o := _) (v := ?vp10) rfl (by kernel_rfl) (by kernel_rfl) (by kernel_rfl) (by kernel_rfl) (fun _ _ _ h => h) (Or.inl ⟨by kernel_rfl, ?hyp10⟩) hHeld ?restp10
  case hyp10 => (intro w hSw; go_simp <;> with_reducible rfl)
  (try simp only [PPz]); refine ordU_at (by kernel_rfl) ?_; replace BBS := BBS.gb hHeld (fun h => h); replace hHeld : GB (fun b => b = pBS) V7 wp8 := hHeld.weak (fun k hk => hk.elim); refine rdy1 10 rfl (fun K hK => ?_); have n0 := BBS.c 6 rfl; have f0 := BBS.f 6 rfl; go_simp; clear n0 f0; refine hK.out _ _ (hHeld.set (.inl rfl) _) (fun hNew => ?_); replace hHeld := hNew; clear hNew hK K; (try simp only [PPz]); refine at_anyH (fun v => GB (fun b => b = pBS) V7 v ∧ BK v (pBS) [.slice A3 l3.length ca3, .slice (some ⟨g3, 0, none⟩) 2 cap3, .int .i64 (k : Nat), .int .i64 2, .int .i64 x, .int .i64 y, .bool (!lb)]) ⟨hHeld, (BBS.set 6 _)⟩ (fun wp11 hS => ?_); clear hHeld BBS; obtain ⟨hHeld, BBS⟩ := hS; refine wpAnyH_done (by kernel_rfl) ?_ _; refine NoPanic.normal ?_; have hbb2 := hHeld.toBelow hbb (fun b hb => by have hb : b = pBS := hb; omega) (by omega); have B0 := B0.gb hHeld (by omega); have hfd2 := Rc.fd_gb hfd hHeld (fun b hb => by have hb : b = pBS := hb; omega); have hlt := BBS.lt; have xa0 := B0.c 0 rfl; have xb0 := B0.f 0 rfl; have ya0 := BBS.c 0 rfl; have xa1 := B0.c 1 rfl; have xb1 := B0.f 1 rfl; have ya1 := BBS.c 1 rfl; have xa2 := B0.c 2 rfl; have xb2 := B0.f 2 rfl; have ya2 := BBS.c 2 rfl; have xa3 := B0.c 3 rfl; have xb3 := B0.f 3 rfl; have ya3 := BBS.c 3 rfl; have xa4 := B0.c 4 rfl; have xb4 := B0.f 4 rfl; have ya4 := BBS.c 4 rfl; have xa5 := B0.c 5 rfl; have xb5 := B0.f 5 rfl; have ya5 := BBS.c 5 rfl; have xa6 := B0.c 6 rfl; have xb6 := B0.f 6 rfl; have ya6 := BBS.c 6 rfl; (go_wp2_with fail); exact bodyPost_ret (v := .agg #[.slice A3 l3.length ca3, .slice (some ⟨g3, 0, none⟩) 2 cap3, .int .i64 (k : Nat), .int .i64 2, .int .i64 x, .int .i64 y, .bool (!lb)]) (by simp [results, Tryz.results30, go_sem, xa0, xa1, xa2, xa3, xa4, xa5, xa6]) rfl ⟨A3, l3.length, ca3, some ⟨g3, 0, none⟩, 2, cap3, l3, by rw [HLB.out], (below_set (below_set (below_set (below_set (below_set (below_set (below_set hbb2 (by omega) _) (by omega) _) (by omega) _) (by omega) _) (by omega) _) (by omega) _) (by omega) _), rfl, rfl, HDT3.out, (((((((hfd2.set (by omega) _).set (by omega) _).set (by omega) _).set (by omega) _).set (by omega) _).set (by omega) _).set (by omega) _).mono (by omega)⟩
end Go.Proofs.YtniagnldiegamaaGreat
set_option linter.unusedSimpArgs false
set_option maxHeartbeats 8000000
set_option maxRecDepth 100000
namespace Go.Proofs.YtniagnldiegamaaGreat
open Go.RowKit
theorem rdivided0f (A : Option Addr) (ca : Nat) (cs : List CkR) (Q : Option Addr) (n cq : Nat) (st x y len : Int) (w : World) (h : IsCs w A cs) (hl : cs.length = 2) (hlen : (Ak.cat cs 0).len = len) :
    Calls Tryz.prog 32 #[.agg #[.slice A cs.length ca, .slice Q n cq, .int .i64 0, .int .i64 st, .int .i64 x, .int .i64 y, .bool false]] w (DivQ 0 1 x y x y len 1 w) := by
  obtain ⟨bb, o, hA, hcl⟩ := h.at_; obtain rfl := hA (by omega); have hc0 := (hcl 0 (by omega)).1; rw [hlen, show o + 0 * 3 = o by omega] at hc0
  have of := fun (n : Int) v => rOf_any n v
  have i1 : 0 < cs.length := by omega
  have HCL := Lib.hid hc0; have OF := Lib.hid of; clear hcl hc0 of hA h hl hlen
  unfold DivQ
  go_enter Tryz.func32, Tryz.ntmps32
  go_upto_region 1 with fail
  refine at_box2 (fun V hbb B0 B1 hVs => ?_); have p4 := B0.c 4 rfl; have p5 := B0.c 5 rfl; refine wp_region_noPanic ?_; refine wp_region_held_drew (S := (GB (fun _ => False) V)) (by kernel_rfl) ((GB.refl _ _).drew) (fun hHeld => ?_); refine at_anyH (fun v => GB (fun _ => False) V v) hHeld (fun wa0 hNew => ?_); clear hHeld; have hHeld := hNew; clear hNew; refine tkd 1 ?_; (try simp only [PPz]); refine tkm 2 rfl hHeld (fun w hSw => by have kp4 := hSw.cell (fun h => h) p4; have kp5 := hSw.cell (fun h => h) p5; go_simp <;> with_reducible rfl) ?_; (try simp only [PPz]); refine rdy1 0 rfl (fun K hK => ?_); go_simp; refine (OF.out 0 _).mono ?_; rintro e wa3 ⟨rfl, hb3⟩; (go_wp2_with fail); refine hK.out _ _ (hHeld.below hb3) (fun hNew => ?_); replace hHeld := hNew; clear hNew hK K hb3; (try simp only [PPz]); refine tkd 3 ?_; (try simp only [PPz]); refine rdy1 4 rfl (fun K hK => ?_); go_simp; refine hK.out _ _ (hHeld.al _) (fun hNew => ?_); have hX : V.heap.size ≤ wa3.heap.size := hHeld.size; replace hHeld := hNew; clear hNew hK K; (try simp only [PPz]); refine at_anyH (fun v => GB (fun _ => False) V v ∧ BK v (wa3.heap.size) [.int .i64 0, .int .i64 1, .int .i64 x, .int .i64 y]) ⟨hHeld, BK.new _ _ _⟩ (fun wa5 hS => ?_); clear hHeld; obtain ⟨hHeld, BX⟩ := hS; refine tkd 5 ?_; (try simp only [PPz]); refine wpAnyH_done (by kernel_rfl) ?_ _; refine NoPanic.normal ?_; have hbb2 := hHeld.toBelow hbb (fun b hb => hb.elim) (by omega); have B0 := B0.gb hHeld (fun h => h); have B1 := B1.gb hHeld (fun h => h)
  have hX0 : w.heap.size + 2 ≤ wa3.heap.size := by omega
  clear p4 p5 hbb hHeld
  go_upto_region 2 with fail
  refine at_worldQ (fun v => Below w.heap.size w v ∧ BK v w.heap.size [.slice (some ⟨bb, o, none⟩) cs.length ca, .slice Q n cq, .int .i64 0, .int .i64 st, .int .i64 x, .int .i64 y, .bool false] ∧ BK v (w.heap.size + 1) [.slice none 0 0] ∧ BK v (wa3.heap.size) [.int .i64 0, .int .i64 1, .int .i64 x, .int .i64 y] ∧ w.heap.size + 2 ≤ v.heap.size) ⟨hbb2, B0, B1, BX, by have := BX.lt; omega⟩ (fun V2 hS => ?_); clear hbb2 B0 B1 BX; obtain ⟨hbb, B0, B1, BX, hV2⟩ := hS
  generalize wa3.heap.size = X0 at *
  have p0 := B0.c 0 rfl; have p4 := B0.c 4 rfl; have p5 := B0.c 5 rfl; have c0 := keepC hbb HCL.out; refine wp_region_noPanic ?_; refine wp_region_held_drew (S := (GB (fun _ => False) V2)) (by kernel_rfl) ((GB.refl _ _).drew) (fun hHeld => ?_); refine at_anyH (fun v => GB (fun _ => False) V2 v) hHeld (fun wb0 hNew => ?_); clear hHeld; have hHeld := hNew; clear hNew; refine tkd 0 ?_; (try simp only [PPz]); refine tkm 1 rfl hHeld (fun w hSw => by have kp0 := hSw.cell (fun h => h) p0; have kp4 := hSw.cell (fun h => h) p4; have kp5 := hSw.cell (fun h => h) p5; have kc0 := hSw.cell (fun h => h) c0; go_simp <;> with_reducible rfl) ?_; (try simp only [PPz]); refine tkd 2 ?_; refine tkd 3 ?_; (try simp only [PPz]); refine tkm 4 rfl hHeld (fun w hSw => by have kp0 := hSw.cell (fun h => h) p0; have kp4 := hSw.cell (fun h => h) p4; have kp5 := hSw.cell (fun h => h) p5; have kc0 := hSw.cell (fun h => h) c0; go_simp <;> with_reducible rfl) ?_; (try simp only [PPz]); refine tkd 5 ?_; refine tkd 6 ?_; (try simp only [PPz]); refine tkm 7 rfl hHeld (fun w hSw => by have kp0 := hSw.cell (fun h => h) p0; have kp4 := hSw.cell (fun h => h) p4; have kp5 := hSw.cell (fun h => h) p5; have kc0 := hSw.cell (fun h => h) c0; go_simp <;> with_reducible rfl) ?_; (try simp only [PPz]); refine rdy1 8 rfl (fun K hK => ?_); go_simp; refine (OF.out len _).mono ?_; rintro e wb9 ⟨rfl, hb3⟩; (go_wp2_with fail); refine hK.out _ _ (hHeld.below hb3) (fun hNew => ?_); replace hHeld := hNew; clear hNew hK K hb3; (try simp only [PPz]); refine tkd 9 ?_; (try simp only [PPz]); refine rdy1 10 rfl (fun K hK => ?_); go_simp; refine hK.out _ _ (hHeld.al _) (fun hNew => ?_); have hY : V2.heap.size ≤ wb9.heap.size := hHeld.size; replace hHeld := hNew; clear hNew hK K; (try simp only [PPz]); refine at_anyH (fun v => GB (fun _ => False) V2 v ∧ BK v (wb9.heap.size) [.int .i64 x, .int .i64 y, .int .i64 len, .int .i64 1]) ⟨hHeld, BK.new _ _ _⟩ (fun wb11 hS => ?_); clear hHeld; obtain ⟨hHeld, BY⟩ := hS; refine tkd 11 ?_; (try simp only [PPz]); refine wpAnyH_done (by kernel_rfl) ?_ _; refine NoPanic.normal ?_; have hbb2 := hHeld.toBelow hbb (fun b hb => hb.elim) (by omega); have B0 := B0.gb hHeld (fun h => h); have B1 := B1.gb hHeld (fun h => h); have BX := BX.gb hHeld (fun h => h)
  have hY0 : w.heap.size + 2 ≤ wb9.heap.size := by omega
  clear p0 p4 p5 c0 hbb hHeld
  go_upto_region 3 with fail
  refine at_worldQ (fun v => Below w.heap.size w v ∧ BK v w.heap.size [.slice (some ⟨bb, o, none⟩) cs.length ca, .slice Q n cq, .int .i64 0, .int .i64 st, .int .i64 x, .int .i64 y, .bool false] ∧ BK v (w.heap.size + 1) [.slice none 0 0] ∧ BK v X0 [.int .i64 0, .int .i64 1, .int .i64 x, .int .i64 y] ∧ BK v (wb9.heap.size) [.int .i64 x, .int .i64 y, .int .i64 len, .int .i64 1] ∧ w.heap.size + 2 ≤ v.heap.size) ⟨hbb2, B0, B1, BX, BY, by have := BY.lt; omega⟩ (fun V3 hS => ?_); clear hbb2 B0 B1 BX BY; obtain ⟨hbb, B0, B1, BX, BY, hV3⟩ := hS
  generalize wb9.heap.size = Y0 at *
  have p1 := B0.c 2 rfl; have p6 := B0.c 6 rfl; have r0 := (B1.al (.cells #[.slice (some ⟨X0, 0, none⟩) 1 1, .slice (some ⟨Y0, 0, none⟩) 1 1] 74)).c 0 rfl; have g0 := (B1.al (.cells #[.slice (some ⟨X0, 0, none⟩) 1 1, .slice (some ⟨Y0, 0, none⟩) 1 1] 74)).f 0 rfl; have q0 := B1.c 0 rfl; have hk1 := B1.f 0 rfl; (go_wp2_with fail); have BP := BK.new V3 [.slice (some ⟨X0, 0, none⟩) 1 1, .slice (some ⟨Y0, 0, none⟩) 1 1] 74; have RR := (B1.al (.cells #[.slice (some ⟨X0, 0, none⟩) 1 1, .slice (some ⟨Y0, 0, none⟩) 1 1] 74)).set 0 (.slice (some ⟨V3.heap.size, 0, none⟩) 2 2); have rr := RR.c 0 rfl; have hlt := B1.lt; exact bodyPost_ret (v := .agg #[.slice (some ⟨V3.heap.size, 0, none⟩) 2 2]) (by simp [results, Tryz.results32, go_sem, rr]) rfl ⟨V3.heap.size, X0, Y0, rfl, below_set (below_al hbb _) (by omega) _, by omega, by omega, by omega, BP.far (by omega) _ _, (BX.al _).far (by omega) _ _, (BY.al _).far (by omega) _ _⟩
theorem rdivided0t (A : Option Addr) (ca : Nat) (cs : List CkR) (Q : Option Addr) (n cq : Nat) (st x y len : Int) (w : World) (h : IsCs w A cs) (hl : cs.length = 2) (hlen : (Ak.cat cs 0).len = len) :
    Calls Tryz.prog 32 #[.agg #[.slice A cs.length ca, .slice Q n cq, .int .i64 0, .int .i64 st, .int .i64 x, .int .i64 y, .bool true]] w (DivQ x y len 1 0 1 x y w) := by
  obtain ⟨bb, o, hA, hcl⟩ := h.at_; obtain rfl := hA (by omega); have hc0 := (hcl 0 (by omega)).1; rw [hlen, show o + 0 * 3 = o by omega] at hc0
  have of := fun (n : Int) v => rOf_any n v
  have i1 : 0 < cs.length := by omega
  have HCL := Lib.hid hc0; have OF := Lib.hid of; clear hcl hc0 of hA h hl hlen
  unfold DivQ
  go_enter Tryz.func32, Tryz.ntmps32
  go_upto_region 1 with fail
  refine at_box2 (fun V hbb B0 B1 hVs => ?_); have p4 := B0.c 4 rfl; have p5 := B0.c 5 rfl; refine wp_region_noPanic ?_; refine wp_region_held_drew (S := (GB (fun _ => False) V)) (by kernel_rfl) ((GB.refl _ _).drew) (fun hHeld => ?_); refine at_anyH (fun v => GB (fun _ => False) V v) hHeld (fun wa0 hNew => ?_); clear hHeld; have hHeld := hNew; clear hNew; refine tkd 1 ?_; (try simp only [PPz]); refine tkm 2 rfl hHeld (fun w hSw => by have kp4 := hSw.cell (fun h => h) p4; have kp5 := hSw.cell (fun h => h) p5; go_simp <;> with_reducible rfl) ?_; (try simp only [PPz]); refine rdy1 0 rfl (fun K hK => ?_); go_simp; refine (OF.out 0 _).mono ?_; rintro e wa3 ⟨rfl, hb3⟩; (go_wp2_with fail); refine hK.out _ _ (hHeld.below hb3) (fun hNew => ?_); replace hHeld := hNew; clear hNew hK K hb3; (try simp only [PPz]); refine tkd 3 ?_; (try simp only [PPz]); refine rdy1 4 rfl (fun K hK => ?_); go_simp; refine hK.out _ _ (hHeld.al _) (fun hNew => ?_); have hX : V.heap.size ≤ wa3.heap.size := hHeld.size; replace hHeld := hNew; clear hNew hK K; (try simp only [PPz]); refine at_anyH (fun v => GB (fun _ => False) V v ∧ BK v (wa3.heap.size) [.int .i64 0, .int .i64 1, .int .i64 x, .int .i64 y]) ⟨hHeld, BK.new _ _ _⟩ (fun wa5 hS => ?_); clear hHeld; obtain ⟨hHeld, BX⟩ := hS; refine tkd 5 ?_; (try simp only [PPz]); refine wpAnyH_done (by kernel_rfl) ?_ _; refine NoPanic.normal ?_; have hbb2 := hHeld.toBelow hbb (fun b hb => hb.elim) (by omega); have B0 := B0.gb hHeld (fun h => h); have B1 := B1.gb hHeld (fun h => h)
  have hX0 : w.heap.size + 2 ≤ wa3.heap.size := by omega
  clear p4 p5 hbb hHeld
  go_upto_region 2 with fail
  refine at_worldQ (fun v => Below w.heap.size w v ∧ BK v w.heap.size [.slice (some ⟨bb, o, none⟩) cs.length ca, .slice Q n cq, .int .i64 0, .int .i64 st, .int .i64 x, .int .i64 y, .bool true] ∧ BK v (w.heap.size + 1) [.slice none 0 0] ∧ BK v (wa3.heap.size) [.int .i64 0, .int .i64 1, .int .i64 x, .int .i64 y] ∧ w.heap.size + 2 ≤ v.heap.size) ⟨hbb2, B0, B1, BX, by have := BX.lt; omega⟩ (fun V2 hS => ?_); clear hbb2 B0 B1 BX; obtain ⟨hbb, B0, B1, BX, hV2⟩ := hS
  generalize wa3.heap.size = X0 at *
  have p0 := B0.c 0 rfl; have p4 := B0.c 4 rfl; have p5 := B0.c 5 rfl; have c0 := keepC hbb HCL.out; refine wp_region_noPanic ?_; refine wp_region_held_drew (S := (GB (fun _ => False) V2)) (by kernel_rfl) ((GB.refl _ _).drew) (fun hHeld => ?_); refine at_anyH (fun v => GB (fun _ => False) V2 v) hHeld (fun wb0 hNew => ?_); clear hHeld; have hHeld := hNew; clear hNew; refine tkd 0 ?_; (try simp only [PPz]); refine tkm 1 rfl hHeld (fun w hSw => by have kp0 := hSw.cell (fun h => h) p0; have kp4 := hSw.cell (fun h => h) p4; have kp5 := hSw.cell (fun h => h) p5; have kc0 := hSw.cell (fun h => h) c0; go_simp <;> with_reducible rfl) ?_; (try simp only [PPz]); refine tkd 2 ?_; refine tkd 3 ?_; (try simp only [PPz]); refine tkm 4 rfl hHeld (fun w hSw => by have kp0 := hSw.cell (fun h => h) p0; have kp4 := hSw.cell (fun h => h) p4; have kp5 := hSw.cell (fun h => h) p5; have kc0 := hSw.cell (fun h => h) c0; go_simp <;> with_reducible rfl) ?_; (try simp only [PPz]); refine tkd 5 ?_; refine tkd 6 ?_; (try simp only [PPz]); refine tkm 7 rfl hHeld (fun w hSw => by have kp0 := hSw.cell (fun h => h) p0; have kp4 := hSw.cell (fun h => h) p4; have kp5 := hSw.cell (fun h => h) p5; have kc0 := hSw.cell (fun h => h) c0; go_simp <;> with_reducible rfl) ?_; (try simp only [PPz]); refine rdy1 8 rfl (fun K hK => ?_); go_simp; refine (OF.out len _).mono ?_; rintro e wb9 ⟨rfl, hb3⟩; (go_wp2_with fail); refine hK.out _ _ (hHeld.below hb3) (fun hNew => ?_); replace hHeld := hNew; clear hNew hK K hb3; (try simp only [PPz]); refine tkd 9 ?_; (try simp only [PPz]); refine rdy1 10 rfl (fun K hK => ?_); go_simp; refine hK.out _ _ (hHeld.al _) (fun hNew => ?_); have hY : V2.heap.size ≤ wb9.heap.size := hHeld.size; replace hHeld := hNew; clear hNew hK K; (try simp only [PPz]); refine at_anyH (fun v => GB (fun _ => False) V2 v ∧ BK v (wb9.heap.size) [.int .i64 x, .int .i64 y, .int .i64 len, .int .i64 1]) ⟨hHeld, BK.new _ _ _⟩ (fun wb11 hS => ?_); clear hHeld; obtain ⟨hHeld, BY⟩ := hS; refine tkd 11 ?_; (try simp only [PPz]); refine wpAnyH_done (by kernel_rfl) ?_ _; refine NoPanic.normal ?_; have hbb2 := hHeld.toBelow hbb (fun b hb => hb.elim) (by omega); have B0 := B0.gb hHeld (fun h => h); have B1 := B1.gb hHeld (fun h => h); have BX := BX.gb hHeld (fun h => h)
  have hY0 : w.heap.size + 2 ≤ wb9.heap.size := by omega
  clear p0 p4 p5 c0 hbb hHeld
  go_upto_region 3 with fail
  refine at_worldQ (fun v => Below w.heap.size w v ∧ BK v w.heap.size [.slice (some ⟨bb, o, none⟩) cs.length ca, .slice Q n cq, .int .i64 0, .int .i64 st, .int .i64 x, .int .i64 y, .bool true] ∧ BK v (w.heap.size + 1) [.slice none 0 0] ∧ BK v X0 [.int .i64 0, .int .i64 1, .int .i64 x, .int .i64 y] ∧ BK v (wb9.heap.size) [.int .i64 x, .int .i64 y, .int .i64 len, .int .i64 1] ∧ w.heap.size + 2 ≤ v.heap.size) ⟨hbb2, B0, B1, BX, BY, by have := BY.lt; omega⟩ (fun V3 hS => ?_); clear hbb2 B0 B1 BX BY; obtain ⟨hbb, B0, B1, BX, BY, hV3⟩ := hS
  generalize wb9.heap.size = Y0 at *
  have p1 := B0.c 2 rfl; have p6 := B0.c 6 rfl; have r0 := (B1.al (.cells #[.slice (some ⟨Y0, 0, none⟩) 1 1, .slice (some ⟨X0, 0, none⟩) 1 1] 74)).c 0 rfl; have g0 := (B1.al (.cells #[.slice (some ⟨Y0, 0, none⟩) 1 1, .slice (some ⟨X0, 0, none⟩) 1 1] 74)).f 0 rfl; have q0 := B1.c 0 rfl; have hk1 := B1.f 0 rfl; (go_wp2_with fail); have BP := BK.new V3 [.slice (some ⟨Y0, 0, none⟩) 1 1, .slice (some ⟨X0, 0, none⟩) 1 1] 74; have RR := (B1.al (.cells #[.slice (some ⟨Y0, 0, none⟩) 1 1, .slice (some ⟨X0, 0, none⟩) 1 1] 74)).set 0 (.slice (some ⟨V3.heap.size, 0, none⟩) 2 2); have rr := RR.c 0 rfl; have hlt := B1.lt; exact bodyPost_ret (v := .agg #[.slice (some ⟨V3.heap.size, 0, none⟩) 2 2]) (by simp [results, Tryz.results32, go_sem, rr]) rfl ⟨V3.heap.size, Y0, X0, rfl, below_set (below_al hbb _) (by omega) _, by omega, by omega, by omega, BP.far (by omega) _ _, (BY.al _).far (by omega) _ _, (BX.al _).far (by omega) _ _⟩
theorem rdivided1f (A : Option Addr) (ca : Nat) (cs : List CkR) (Q : Option Addr) (n cq : Nat) (st x y len : Int) (w : World) (h : IsCs w A cs) (hl : cs.length = 2) (hlen : (Ak.cat cs 0).len = len) :
    Calls Tryz.prog 32 #[.agg #[.slice A cs.length ca, .slice Q n cq, .int .i64 1, .int .i64 st, .int .i64 x, .int .i64 y, .bool false]] w (DivQ x y len 1 0 1 x y w) := by
  obtain ⟨bb, o, hA, hcl⟩ := h.at_; obtain rfl := hA (by omega); have hc0 := (hcl 0 (by omega)).1; rw [hlen, show o + 0 * 3 = o by omega] at hc0
  have of := fun (n : Int) v => rOf_any n v
  have i1 : 0 < cs.length := by omega
  have HCL := Lib.hid hc0; have OF := Lib.hid of; clear hcl hc0 of hA h hl hlen
  unfold DivQ
  go_enter Tryz.func32, Tryz.ntmps32
  go_upto_region 1 with fail
  refine at_box2 (fun V hbb B0 B1 hVs => ?_); have p4 := B0.c 4 rfl; have p5 := B0.c 5 rfl; refine wp_region_noPanic ?_; refine wp_region_held_drew (S := (GB (fun _ => False) V)) (by kernel_rfl) ((GB.refl _ _).drew) (fun hHeld => ?_); refine at_anyH (fun v => GB (fun _ => False) V v) hHeld (fun wa0 hNew => ?_); clear hHeld; have hHeld := hNew; clear hNew; refine tkd 1 ?_; (try simp only [PPz]); refine tkm 2 rfl hHeld (fun w hSw => by have kp4 := hSw.cell (fun h => h) p4; have kp5 := hSw.cell (fun h => h) p5; go_simp <;> with_reducible rfl) ?_; (try simp only [PPz]); refine rdy1 0 rfl (fun K hK => ?_); go_simp; refine (OF.out 0 _).mono ?_; rintro e wa3 ⟨rfl, hb3⟩; (go_wp2_with fail); refine hK.out _ _ (hHeld.below hb3) (fun hNew => ?_); replace hHeld := hNew; clear hNew hK K hb3; (try simp only [PPz]); refine tkd 3 ?_; (try simp only [PPz]); refine rdy1 4 rfl (fun K hK => ?_); go_simp; refine hK.out _ _ (hHeld.al _) (fun hNew => ?_); have hX : V.heap.size ≤ wa3.heap.size := hHeld.size; replace hHeld := hNew; clear hNew hK K; (try simp only [PPz]); refine at_anyH (fun v => GB (fun _ => False) V v ∧ BK v (wa3.heap.size) [.int .i64 0, .int .i64 1, .int .i64 x, .int .i64 y]) ⟨hHeld, BK.new _ _ _⟩ (fun wa5 hS => ?_); clear hHeld; obtain ⟨hHeld, BX⟩ := hS; refine tkd 5 ?_; (try simp only [PPz]); refine wpAnyH_done (by kernel_rfl) ?_ _; refine NoPanic.normal ?_; have hbb2 := hHeld.toBelow hbb (fun b hb => hb.elim) (by omega); have B0 := B0.gb hHeld (fun h => h); have B1 := B1.gb hHeld (fun h => h)
  have hX0 : w.heap.size + 2 ≤ wa3.heap.size := by omega
  clear p4 p5 hbb hHeld
  go_upto_region 2 with fail
  refine at_worldQ (fun v => Below w.heap.size w v ∧ BK v w.heap.size [.slice (some ⟨bb, o, none⟩) cs.length ca, .slice Q n cq, .int .i64 1, .int .i64 st, .int .i64 x, .int .i64 y, .bool false] ∧ BK v (w.heap.size + 1) [.slice none 0 0] ∧ BK v (wa3.heap.size) [.int .i64 0, .int .i64 1, .int .i64 x, .int .i64 y] ∧ w.heap.size + 2 ≤ v.heap.size) ⟨hbb2, B0, B1, BX, by have := BX.lt; omega⟩ (fun V2 hS => ?_); clear hbb2 B0 B1 BX; obtain ⟨hbb, B0, B1, BX, hV2⟩ := hS
  generalize wa3.heap.size = X0 at *
  have p0 := B0.c 0 rfl; have p4 := B0.c 4 rfl; have p5 := B0.c 5 rfl; have c0 := keepC hbb HCL.out; refine wp_region_noPanic ?_; refine wp_region_held_drew (S := (GB (fun _ => False) V2)) (by kernel_rfl) ((GB.refl _ _).drew) (fun hHeld => ?_); refine at_anyH (fun v => GB (fun _ => False) V2 v) hHeld (fun wb0 hNew => ?_); clear hHeld; have hHeld := hNew; clear hNew; refine tkd 0 ?_; (try simp only [PPz]); refine tkm 1 rfl hHeld (fun w hSw => by have kp0 := hSw.cell (fun h => h) p0; have kp4 := hSw.cell (fun h => h) p4; have kp5 := hSw.cell (fun h => h) p5; have kc0 := hSw.cell (fun h => h) c0; go_simp <;> with_reducible rfl) ?_; (try simp only [PPz]); refine tkd 2 ?_; refine tkd 3 ?_; (try simp only [PPz]); refine tkm 4 rfl hHeld (fun w hSw => by have kp0 := hSw.cell (fun h => h) p0; have kp4 := hSw.cell (fun h => h) p4; have kp5 := hSw.cell (fun h => h) p5; have kc0 := hSw.cell (fun h => h) c0; go_simp <;> with_reducible rfl) ?_; (try simp only [PPz]); refine tkd 5 ?_; refine tkd 6 ?_; (try simp only [PPz]); refine tkm 7 rfl hHeld (fun w hSw => by have kp0 := hSw.cell (fun h => h) p0; have kp4 := hSw.cell (fun h => h) p4; have kp5 := hSw.cell (fun h => h) p5; have kc0 := hSw.cell (fun h => h) c0; go_simp <;> with_reducible rfl) ?_; (try simp only [PPz]); refine rdy1 8 rfl (fun K hK => ?_); go_simp; refine (OF.out len _).mono ?_; rintro e wb9 ⟨rfl, hb3⟩; (go_wp2_with fail); refine hK.out _ _ (hHeld.below hb3) (fun hNew => ?_); replace hHeld := hNew; clear hNew hK K hb3; (try simp only [PPz]); refine tkd 9 ?_; (try simp only [PPz]); refine rdy1 10 rfl (fun K hK => ?_); go_simp; refine hK.out _ _ (hHeld.al _) (fun hNew => ?_); have hY : V2.heap.size ≤ wb9.heap.size := hHeld.size; replace hHeld := hNew; clear hNew hK K; (try simp only [PPz]); refine at_anyH (fun v => GB (fun _ => False) V2 v ∧ BK v (wb9.heap.size) [.int .i64 x, .int .i64 y, .int .i64 len, .int .i64 1]) ⟨hHeld, BK.new _ _ _⟩ (fun wb11 hS => ?_); clear hHeld; obtain ⟨hHeld, BY⟩ := hS; refine tkd 11 ?_; (try simp only [PPz]); refine wpAnyH_done (by kernel_rfl) ?_ _; refine NoPanic.normal ?_; have hbb2 := hHeld.toBelow hbb (fun b hb => hb.elim) (by omega); have B0 := B0.gb hHeld (fun h => h); have B1 := B1.gb hHeld (fun h => h); have BX := BX.gb hHeld (fun h => h)
  have hY0 : w.heap.size + 2 ≤ wb9.heap.size := by omega
  clear p0 p4 p5 c0 hbb hHeld
  go_upto_region 3 with fail
  refine at_worldQ (fun v => Below w.heap.size w v ∧ BK v w.heap.size [.slice (some ⟨bb, o, none⟩) cs.length ca, .slice Q n cq, .int .i64 1, .int .i64 st, .int .i64 x, .int .i64 y, .bool false] ∧ BK v (w.heap.size + 1) [.slice none 0 0] ∧ BK v X0 [.int .i64 0, .int .i64 1, .int .i64 x, .int .i64 y] ∧ BK v (wb9.heap.size) [.int .i64 x, .int .i64 y, .int .i64 len, .int .i64 1] ∧ w.heap.size + 2 ≤ v.heap.size) ⟨hbb2, B0, B1, BX, BY, by have := BY.lt; omega⟩ (fun V3 hS => ?_); clear hbb2 B0 B1 BX BY; obtain ⟨hbb, B0, B1, BX, BY, hV3⟩ := hS
  generalize wb9.heap.size = Y0 at *
  have p1 := B0.c 2 rfl; have p6 := B0.c 6 rfl; have r0 := (B1.al (.cells #[.slice (some ⟨Y0, 0, none⟩) 1 1, .slice (some ⟨X0, 0, none⟩) 1 1] 74)).c 0 rfl; have g0 := (B1.al (.cells #[.slice (some ⟨Y0, 0, none⟩) 1 1, .slice (some ⟨X0, 0, none⟩) 1 1] 74)).f 0 rfl; have q0 := B1.c 0 rfl; have hk1 := B1.f 0 rfl; (go_wp2_with fail); have BP := BK.new V3 [.slice (some ⟨Y0, 0, none⟩) 1 1, .slice (some ⟨X0, 0, none⟩) 1 1] 74; have RR := (B1.al (.cells #[.slice (some ⟨Y0, 0, none⟩) 1 1, .slice (some ⟨X0, 0, none⟩) 1 1] 74)).set 0 (.slice (some ⟨V3.heap.size, 0, none⟩) 2 2); have rr := RR.c 0 rfl; have hlt := B1.lt; exact bodyPost_ret (v := .agg #[.slice (some ⟨V3.heap.size, 0, none⟩) 2 2]) (by simp [results, Tryz.results32, go_sem, rr]) rfl ⟨V3.heap.size, Y0, X0, rfl, below_set (below_al hbb _) (by omega) _, by omega, by omega, by omega, BP.far (by omega) _ _, (BY.al _).far (by omega) _ _, (BX.al _).far (by omega) _ _⟩
theorem rdivided1t (A : Option Addr) (ca : Nat) (cs : List CkR) (Q : Option Addr) (n cq : Nat) (st x y len : Int) (w : World) (h : IsCs w A cs) (hl : cs.length = 2) (hlen : (Ak.cat cs 0).len = len) :
    Calls Tryz.prog 32 #[.agg #[.slice A cs.length ca, .slice Q n cq, .int .i64 1, .int .i64 st, .int .i64 x, .int .i64 y, .bool true]] w (DivQ 0 1 x y x y len 1 w) := by
  obtain ⟨bb, o, hA, hcl⟩ := h.at_; obtain rfl := hA (by omega); have hc0 := (hcl 0 (by omega)).1; rw [hlen, show o + 0 * 3 = o by omega] at hc0
  have of := fun (n : Int) v => rOf_any n v
  have i1 : 0 < cs.length := by omega
  have HCL := Lib.hid hc0; have OF := Lib.hid of; clear hcl hc0 of hA h hl hlen
  unfold DivQ
  go_enter Tryz.func32, Tryz.ntmps32
  go_upto_region 1 with fail
  refine at_box2 (fun V hbb B0 B1 hVs => ?_); have p4 := B0.c 4 rfl; have p5 := B0.c 5 rfl; refine wp_region_noPanic ?_; refine wp_region_held_drew (S := (GB (fun _ => False) V)) (by kernel_rfl) ((GB.refl _ _).drew) (fun hHeld => ?_); refine at_anyH (fun v => GB (fun _ => False) V v) hHeld (fun wa0 hNew => ?_); clear hHeld; have hHeld := hNew; clear hNew; refine tkd 1 ?_; (try simp only [PPz]); refine tkm 2 rfl hHeld (fun w hSw => by have kp4 := hSw.cell (fun h => h) p4; have kp5 := hSw.cell (fun h => h) p5; go_simp <;> with_reducible rfl) ?_; (try simp only [PPz]); refine rdy1 0 rfl (fun K hK => ?_); go_simp; refine (OF.out 0 _).mono ?_; rintro e wa3 ⟨rfl, hb3⟩; (go_wp2_with fail); refine hK.out _ _ (hHeld.below hb3) (fun hNew => ?_); replace hHeld := hNew; clear hNew hK K hb3; (try simp only [PPz]); refine tkd 3 ?_; (try simp only [PPz]); refine rdy1 4 rfl (fun K hK => ?_); go_simp; refine hK.out _ _ (hHeld.al _) (fun hNew => ?_); have hX : V.heap.size ≤ wa3.heap.size := hHeld.size; replace hHeld := hNew; clear hNew hK K; (try simp only [PPz]); refine at_anyH (fun v => GB (fun _ => False) V v ∧ BK v (wa3.heap.size) [.int .i64 0, .int .i64 1, .int .i64 x, .int .i64 y]) ⟨hHeld, BK.new _ _ _⟩ (fun wa5 hS => ?_); clear hHeld; obtain ⟨hHeld, BX⟩ := hS; refine tkd 5 ?_; (try simp only [PPz]); refine wpAnyH_done (by kernel_rfl) ?_ _; refine NoPanic.normal ?_; have hbb2 := hHeld.toBelow hbb (fun b hb => hb.elim) (by omega); have B0 := B0.gb hHeld (fun h => h); have B1 := B1.gb hHeld (fun h => h)
  have hX0 : w.heap.size + 2 ≤ wa3.heap.size := by omega
  clear p4 p5 hbb hHeld
  go_upto_region 2 with fail
  refine at_worldQ (fun v => Below w.heap.size w v ∧ BK v w.heap.size [.slice (some ⟨bb, o, none⟩) cs.length ca, .slice Q n cq, .int .i64 1, .int .i64 st, .int .i64 x, .int .i64 y, .bool true] ∧ BK v (w.heap.size + 1) [.slice none 0 0] ∧ BK v (wa3.heap.size) [.int .i64 0, .int .i64 1, .int .i64 x, .int .i64 y] ∧ w.heap.size + 2 ≤ v.heap.size) ⟨hbb2, B0, B1, BX, by have := BX.lt; omega⟩ (fun V2 hS => ?_); clear hbb2 B0 B1 BX; obtain ⟨hbb, B0, B1, BX, hV2⟩ := hS
  generalize wa3.heap.size = X0 at *
  have p0 := B0.c 0 rfl; have p4 := B0.c 4 rfl; have p5 := B0.c 5 rfl; have c0 := keepC hbb HCL.out; refine wp_region_noPanic ?_; refine wp_region_held_drew (S := (GB (fun _ => False) V2)) (by kernel_rfl) ((GB.refl _ _).drew) (fun hHeld => ?_); refine at_anyH (fun v => GB (fun _ => False) V2 v) hHeld (fun wb0 hNew => ?_); clear hHeld; have hHeld := hNew; clear hNew; refine tkd 0 ?_; (try simp only [PPz]); refine tkm 1 rfl hHeld (fun w hSw => by have kp0 := hSw.cell (fun h => h) p0; have kp4 := hSw.cell (fun h => h) p4; have kp5 := hSw.cell (fun h => h) p5; have kc0 := hSw.cell (fun h => h) c0; go_simp <;> with_reducible rfl) ?_; (try simp only [PPz]); refine tkd 2 ?_; refine tkd 3 ?_; (try simp only [PPz]); refine tkm 4 rfl hHeld (fun w hSw => by have kp0 := hSw.cell (fun h => h) p0; have kp4 := hSw.cell (fun h => h) p4; have kp5 := hSw.cell (fun h => h) p5; have kc0 := hSw.cell (fun h => h) c0; go_simp <;> with_reducible rfl) ?_; (try simp only [PPz]); refine tkd 5 ?_; refine tkd 6 ?_; (try simp only [PPz]); refine tkm 7 rfl hHeld (fun w hSw => by have kp0 := hSw.cell (fun h => h) p0; have kp4 := hSw.cell (fun h => h) p4; have kp5 := hSw.cell (fun h => h) p5; have kc0 := hSw.cell (fun h => h) c0; go_simp <;> with_reducible rfl) ?_; (try simp only [PPz]); refine rdy1 8 rfl (fun K hK => ?_); go_simp; refine (OF.out len _).mono ?_; rintro e wb9 ⟨rfl, hb3⟩; (go_wp2_with fail); refine hK.out _ _ (hHeld.below hb3) (fun hNew => ?_); replace hHeld := hNew; clear hNew hK K hb3; (try simp only [PPz]); refine tkd 9 ?_; (try simp only [PPz]); refine rdy1 10 rfl (fun K hK => ?_); go_simp; refine hK.out _ _ (hHeld.al _) (fun hNew => ?_); have hY : V2.heap.size ≤ wb9.heap.size := hHeld.size; replace hHeld := hNew; clear hNew hK K; (try simp only [PPz]); refine at_anyH (fun v => GB (fun _ => False) V2 v ∧ BK v (wb9.heap.size) [.int .i64 x, .int .i64 y, .int .i64 len, .int .i64 1]) ⟨hHeld, BK.new _ _ _⟩ (fun wb11 hS => ?_); clear hHeld; obtain ⟨hHeld, BY⟩ := hS; refine tkd 11 ?_; (try simp only [PPz]); refine wpAnyH_done (by kernel_rfl) ?_ _; refine NoPanic.normal ?_; have hbb2 := hHeld.toBelow hbb (fun b hb => hb.elim) (by omega); have B0 := B0.gb hHeld (fun h => h); have B1 := B1.gb hHeld (fun h => h); have BX := BX.gb hHeld (fun h => h)
  have hY0 : w.heap.size + 2 ≤ wb9.heap.size := by omega
  clear p0 p4 p5 c0 hbb hHeld
  go_upto_region 3 with fail
  refine at_worldQ (fun v => Below w.heap.size w v ∧ BK v w.heap.size [.slice (some ⟨bb, o, none⟩) cs.length ca, .slice Q n cq, .int .i64 1, .int .i64 st, .int .i64 x, .int .i64 y, .bool true] ∧ BK v (w.heap.size + 1) [.slice none 0 0] ∧ BK v X0 [.int .i64 0, .int .i64 1, .int .i64 x, .int .i64 y] ∧ BK v (wb9.heap.size) [.int .i64 x, .int .i64 y, .int .i64 len, .int .i64 1] ∧ w.heap.size + 2 ≤ v.heap.size) ⟨hbb2, B0, B1, BX, BY, by have := BY.lt; omega⟩ (fun V3 hS => ?_); clear hbb2 B0 B1 BX BY; obtain ⟨hbb, B0, B1, BX, BY, hV3⟩ := hS
  generalize wb9.heap.size = Y0 at *
  have p1 := B0.c 2 rfl; have p6 := B0.c 6 rfl; have r0 := (B1.al (.cells #[.slice (some ⟨X0, 0, none⟩) 1 1, .slice (some ⟨Y0, 0, none⟩) 1 1] 74)).c 0 rfl; have g0 := (B1.al (.cells #[.slice (some ⟨X0, 0, none⟩) 1 1, .slice (some ⟨Y0, 0, none⟩) 1 1] 74)).f 0 rfl; have q0 := B1.c 0 rfl; have hk1 := B1.f 0 rfl; (go_wp2_with fail); have BP := BK.new V3 [.slice (some ⟨X0, 0, none⟩) 1 1, .slice (some ⟨Y0, 0, none⟩) 1 1] 74; have RR := (B1.al (.cells #[.slice (some ⟨X0, 0, none⟩) 1 1, .slice (some ⟨Y0, 0, none⟩) 1 1] 74)).set 0 (.slice (some ⟨V3.heap.size, 0, none⟩) 2 2); have rr := RR.c 0 rfl; have hlt := B1.lt; exact bodyPost_ret (v := .agg #[.slice (some ⟨V3.heap.size, 0, none⟩) 2 2]) (by simp [results, Tryz.results32, go_sem, rr]) rfl ⟨V3.heap.size, X0, Y0, rfl, below_set (below_al hbb _) (by omega) _, by omega, by omega, by omega, BP.far (by omega) _ _, (BX.al _).far (by omega) _ _, (BY.al _).far (by omega) _ _⟩
end Go.Proofs.YtniagnldiegamaaGreat
set_option linter.unusedSimpArgs false
set_option maxHeartbeats 8000000
set_option maxRecDepth 100000
namespace Go.Proofs.YtniagnldiegamaaGreat
open Go.RowKit
theorem rcCs_nil (w : World) (A : Option Addr) : IsCs w A [] := ⟨fun h => absurd h (by simp), fun c hc => (by cases hc), by simp⟩
theorem rdSame_any (A A' : Option Addr) (m m' ca ca' : Nat) (Q Q' : Option Addr) (n n' cq cq' : Nat) (l l' : List CkR) (L : List Qr) (w : World) (hm : m = l.length) (hm' : m' = l'.length) (hn : n = L.length) (hn' : n' = L.length) (hd : l.map Ak.dat = l'.map Ak.dat) (h : IsCs w A l) (h' : IsCs w A' l') (hq : IsQs w Q L) (hq' : IsQs w Q' L) :
    Calls Tryz.prog 33 #[.agg #[.slice A m ca, .slice Q n cq], .agg #[.slice A' m' ca', .slice Q' n' cq']] w fun e w' => e = .returned (.bool true) ∧ Below w.heap.size w w' := by
  have sc := fun v (hv : Below w.heap.size w v) => rSameCakes_any A A' ca ca' l l' v (h.keep hv) (h'.keep hv)
  have sl := fun v (hv : Below w.heap.size w v) => rSameLogs_any Q Q' cq cq' L L v (hq.keep hv) (hq'.keep hv)
  rw [decide_eq_true hd, ← hm, ← hm'] at sc; rw [decide_eq_true rfl] at sl; have e : n' = n := hn'.trans hn.symm; subst e; rw [← hn] at sl; have SC := Lib.hid sc; have SL := Lib.hid sl; clear sc sl hm hm' hn hn' hd h h' hq hq'
  go_enter Tryz.func33, Tryz.ntmps33
  go_upto_region 1 with fail
  refine at_box2 (fun V hbb B0 B1 hVs => ?_); have cB00 := B0.c 0 rfl; have cB01 := B0.c 1 rfl; have cB10 := B1.c 0 rfl; have cB11 := B1.c 1 rfl; (go_wp2_with fail); refine (SC.out _ hbb).mono ?_; rintro e w1 ⟨rfl, hb⟩; clear cB00 cB01 cB10 cB11; replace hbb := keepB hbb hb; replace B0 := B0.keep hb; replace B1 := B1.keep hb; clear hb; have cB00 := B0.c 0 rfl; have cB01 := B0.c 1 rfl; have cB10 := B1.c 0 rfl; have cB11 := B1.c 1 rfl; (go_wp2_with fail); refine (SL.out _ hbb).mono ?_; rintro e w2 ⟨rfl, hb⟩; clear cB00 cB01 cB10 cB11; replace hbb := keepB hbb hb; replace B0 := B0.keep hb; replace B1 := B1.keep hb; clear hb; (go_wp2_with fail)
  go_ret
  exact ⟨rfl, hbb⟩
theorem rcSame_any (A A' : Option Addr) (m m' ca ca' : Nat) (Q Q' : Option Addr) (n n' cq cq' : Nat) (l l' : List CkR) (L : List Qr) (w : World) (hm : m = l.length) (hm' : m' = l'.length) (hn : n = L.length) (hn' : n' = L.length) (hd : l.map Ak.dat = l'.map Ak.dat) (h : IsCs w A l) (h' : IsCs w A' l') (hq : IsQs w Q L) (hq' : IsQs w Q' L) (K s x y : Int) (b : Bool) :
    Calls Tryz.prog 12 #[.agg #[.slice A m ca, .slice Q n cq, .int .i64 K, .int .i64 s, .int .i64 x, .int .i64 y, .bool b], .agg #[.slice A' m' ca', .slice Q' n' cq', .int .i64 K, .int .i64 s, .int .i64 x, .int .i64 y, .bool b]] w fun e w' => e = .returned (.bool true) ∧ Below w.heap.size w w' := by
  have ds := fun v (hv : Below w.heap.size w v) => rdSame_any A A' m m' ca ca' Q Q' n n' cq cq' l l' L v hm hm' hn hn' hd (h.keep hv) (h'.keep hv) (hq.keep hv) (hq'.keep hv)
  have DS := Lib.hid ds; clear ds hm hm' hn hn' hd h h' hq hq'
  have z1 : (K == K) = true := by simp
  have z2 : (s == s) = true := by simp
  have z3 : (x == x) = true := by simp
  have z4 : (y == y) = true := by simp
  have z5 : (b == b) = true := by simp
  go_enter Tryz.func12, Tryz.ntmps12
  go_upto_region 1 with fail
  refine at_box2 (fun V hbb B0 B1 hVs => ?_); have cB00 := B0.c 0 rfl; have cB01 := B0.c 1 rfl; have cB02 := B0.c 2 rfl; have cB03 := B0.c 3 rfl; have cB04 := B0.c 4 rfl; have cB05 := B0.c 5 rfl; have cB06 := B0.c 6 rfl; have cB10 := B1.c 0 rfl; have cB11 := B1.c 1 rfl; have cB12 := B1.c 2 rfl; have cB13 := B1.c 3 rfl; have cB14 := B1.c 4 rfl; have cB15 := B1.c 5 rfl; have cB16 := B1.c 6 rfl; (go_wp2_with fail); refine (DS.out _ hbb).mono ?_; rintro e w1 ⟨rfl, hb⟩; clear cB00 cB01 cB02 cB03 cB04 cB05 cB06 cB10 cB11 cB12 cB13 cB14 cB15 cB16; replace hbb := keepB hbb hb; replace B0 := B0.keep hb; replace B1 := B1.keep hb; clear hb; have cB00 := B0.c 0 rfl; have cB01 := B0.c 1 rfl; have cB02 := B0.c 2 rfl; have cB03 := B0.c 3 rfl; have cB04 := B0.c 4 rfl; have cB05 := B0.c 5 rfl; have cB06 := B0.c 6 rfl; have cB10 := B1.c 0 rfl; have cB11 := B1.c 1 rfl; have cB12 := B1.c 2 rfl; have cB13 := B1.c 3 rfl; have cB14 := B1.c 4 rfl; have cB15 := B1.c 5 rfl; have cB16 := B1.c 6 rfl; (go_wp2_with fail)
  go_ret
  exact ⟨rfl, hbb⟩
theorem rstart_ok (D : List CkD) (A : Option Addr) (m ca : Nat) (K : Int) (w : World)
    (ck : ∀ v, Below w.heap.size w v → Calls Tryz.prog 29 #[.slice A m ca, .int .i64 K] v fun e v' => e = .returned (.int .i64 0) ∧ Below v.heap.size v v')
    (st : ∀ v, Below w.heap.size w v → Calls Tryz.prog 30 #[.slice A m ca, .int .i64 K, .int .i64 0] v (StQ D [] K 0 0 1 false v)) :
    Calls Tryz.prog 9 #[.slice A m ca, .int .i64 K] w (StR D [] K 0 0 1 false w) := by
  have e0 : ((0 : Int) != 0) = false := rfl
  unfold StQ at st
  have CK := Lib.hid ck; have ST := Lib.hid st; clear ck st
  unfold StR
  go_enter Tryz.func9, Tryz.ntmps9
  go_upto_region 1 with fail
  refine at_box1 (fun V hbb B0 hVs => ?_); (go_wp2_with fail); refine (CK.out _ hbb).mono ?_; rintro e w1 ⟨rfl, hb⟩; have hw1 := hb.size; replace hbb := keepB hbb hb; replace B0 := B0.keep hb; clear hb; (go_wp2_with fail); refine (ST.out _ hbb).mono ?_; rintro e w2 ⟨A2, m2, ca2, Q2, n2, cq2, l2, rfl, hb, hm2, hn2, hd2, hfd⟩; have hws := hbb.size; have HM2 := Lib.hid hm2; have HN2 := Lib.hid hn2; have HD2 := Lib.hid hd2; clear hm2 hn2 hd2; replace hbb := keepB hbb hb; replace B0 := B0.keep hb; clear hb; have hlb := B0.lt

  have r0 := B0.c 0 rfl; have g0 := B0.f 0 rfl; have r1 := B0.c 1 rfl; have g1 := B0.f 1 rfl; have r2 := B0.c 2 rfl; have g2 := B0.f 2 rfl; have r3 := B0.c 3 rfl; have g3 := B0.f 3 rfl; have r4 := B0.c 4 rfl; have g4 := B0.f 4 rfl; have r5 := B0.c 5 rfl; have g5 := B0.f 5 rfl; have r6 := B0.c 6 rfl; have g6 := B0.f 6 rfl; (go_wp2_with fail); exact bodyPost_ret (v := .tuple #[.agg #[.slice A2 m2 ca2, .slice Q2 n2 cq2, .int .i64 K, .int .i64 0, .int .i64 0, .int .i64 1, .bool false], .int .i64 0]) (by simp [results, Tryz.results9, go_sem, r0, r1, r2, r3, r4, r5, r6]) rfl ⟨A2, m2, ca2, Q2, n2, cq2, l2, rfl, (below_set (below_set (below_set (below_set (below_set (below_set (below_set hbb (by omega) _) (by omega) _) (by omega) _) (by omega) _) (by omega) _) (by omega) _) (by omega) _), HM2.out, HN2.out, HD2.out, (((((((hfd.set (by omega) _).set (by omega) _).set (by omega) _).set (by omega) _).set (by omega) _).set (by omega) _).set (by omega) _).mono (by omega)⟩
theorem rstart_bad (A : Option Addr) (m ca : Nat) (K E : Int) (w : World) (hE : E ≠ 0) (ck : ∀ v, Below w.heap.size w v → Calls Tryz.prog 29 #[.slice A m ca, .int .i64 K] v fun e v' => e = .returned (.int .i64 E) ∧ Below v.heap.size v v') :
    Calls Tryz.prog 9 #[.slice A m ca, .int .i64 K] w fun e w' => e = .returned (.tuple #[.agg #[.slice none 0 0, .slice none 0 0, .int .i64 0, .int .i64 0, .int .i64 0, .int .i64 0, .bool false], .int .i64 E]) ∧ Below w.heap.size w w' := by
  have n0 : (E != 0) = true := by rw [bne_iff_ne]; exact hE
  have CK := Lib.hid ck; clear ck hE
  go_enter Tryz.func9, Tryz.ntmps9
  go_upto_region 1 with fail
  refine at_box1 (fun V hbb B0 hVs => ?_); (go_wp2_with fail); refine (CK.out _ hbb).mono ?_; rintro e w1 ⟨rfl, hb⟩; replace hbb := keepB hbb hb; replace B0 := B0.keep hb; clear hb; (go_wp2_with fail); refine (CK.out _ hbb).mono ?_; rintro e w2 ⟨rfl, hb⟩; replace hbb := keepB hbb hb; replace B0 := B0.keep hb; clear hb; have r0 := B0.c 0 rfl; have g0 := B0.f 0 rfl; have r1 := B0.c 1 rfl; have g1 := B0.f 1 rfl; have r2 := B0.c 2 rfl; have g2 := B0.f 2 rfl; have r3 := B0.c 3 rfl; have g3 := B0.f 3 rfl; have r4 := B0.c 4 rfl; have g4 := B0.f 4 rfl; have r5 := B0.c 5 rfl; have g5 := B0.f 5 rfl; have r6 := B0.c 6 rfl; have g6 := B0.f 6 rfl; (go_wp2_with fail); exact bodyPost_ret (v := .tuple #[.agg #[.slice none 0 0, .slice none 0 0, .int .i64 0, .int .i64 0, .int .i64 0, .int .i64 0, .bool false], .int .i64 E]) (by simp [results, Tryz.results9, go_sem, r0, r1, r2, r3, r4, r5, r6]) rfl ⟨rfl, (below_set (below_set (below_set (below_set (below_set (below_set (below_set hbb (by omega) _) (by omega) _) (by omega) _) (by omega) _) (by omega) _) (by omega) _) (by omega) _)⟩
theorem rrun_bad (A : Option Addr) (m ca : Nat) (K E : Int) (w : World) (hE : E ≠ 0) (ck : ∀ v, Below w.heap.size w v → Calls Tryz.prog 29 #[.slice A m ca, .int .i64 K] v fun e v' => e = .returned (.int .i64 E) ∧ Below v.heap.size v v') :
    Calls Tryz.prog 11 #[.slice A m ca, .int .i64 K] w fun e w' => e = .returned (.tuple #[.agg #[.slice none 0 0], .slice none 0 0, .int .i64 E]) ∧ Below w.heap.size w w' := by
  have n0 : (E != 0) = true := by rw [bne_iff_ne]; exact hE
  have CK := Lib.hid ck; clear ck hE
  go_enter Tryz.func11, Tryz.ntmps11
  go_upto_region 1 with fail
  refine at_box1 (fun V hbb B0 hVs => ?_); (go_wp2_with fail); refine (CK.out _ hbb).mono ?_; rintro e w1 ⟨rfl, hb⟩; replace hbb := keepB hbb hb; replace B0 := B0.keep hb; clear hb; (go_wp2_with fail); refine (CK.out _ hbb).mono ?_; rintro e w2 ⟨rfl, hb⟩; replace hbb := keepB hbb hb; replace B0 := B0.keep hb; clear hb; have r0 := B0.c 0 rfl; have g0 := B0.f 0 rfl; (go_wp2_with fail); exact bodyPost_ret (v := .tuple #[.agg #[.slice none 0 0], .slice none 0 0, .int .i64 E]) (by simp [results, Tryz.results11, go_sem, r0]) rfl ⟨rfl, by repeat (first | exact hbb | refine below_set ?_ (by omega) _)⟩
theorem rrun_of (A : Option Addr) (ca n : Nat) (K x y : Int) (b : Bool) (D : List CkD) (L : List Qr) (a0 b0 c0 d0 a1 b1 c1 d1 : Int) (w : World)
    (ck : ∀ v, Below w.heap.size w v → Calls Tryz.prog 29 #[.slice A n ca, .int .i64 K] v fun e v' => e = .returned (.int .i64 0) ∧ Below v.heap.size v v')
    (hR : ∀ v, Below w.heap.size w v → Calls Tryz.prog 30 #[.slice A n ca, .int .i64 K, .int .i64 2] v (StQ D L K 2 x y b v))
    (hV : ∀ (A : Option Addr) (ca : Nat) (l : List CkR) (Q : Option Addr) (n cq : Nat) (v : World), IsCs v A l → l.map Ak.dat = D → Calls Tryz.prog 32 #[.agg #[.slice A l.length ca, .slice Q n cq, .int .i64 K, .int .i64 2, .int .i64 x, .int .i64 y, .bool b]] v (DivQ a0 b0 c0 d0 a1 b1 c1 d1 v)) :
    Calls Tryz.prog 11 #[.slice A n ca, .int .i64 K] w (RunQ L a0 b0 c0 d0 a1 b1 c1 d1 w) := by
  unfold StQ at hR
  have RE := Lib.hid hR; have DV := Lib.hid hV; have CK := Lib.hid ck; have e0 : ((0 : Int) != 0) = false := rfl; clear hR hV ck
  unfold RunQ
  go_enter Tryz.func11, Tryz.ntmps11
  go_upto_region 1 with fail
  refine at_box1 (fun V hbb B0 hVs => ?_)
  have hV0 : w.heap.size + 1 ≤ V.heap.size := by omega
  clear hVs; (go_wp2_with fail); refine (CK.out _ hbb).mono ?_; rintro e w0 ⟨rfl, hb⟩; replace hbb := keepB hbb hb; replace B0 := B0.keep hb; have hw0 := hb.size; clear hb CK; (go_wp2_with fail); refine (RE.out _ hbb).mono ?_; rintro e w1 ⟨A1, m1, ca1, Q1, n1, cq1, l1, rfl, hb, hm1, hn1, hd1, hfd⟩; have HM1 := Lib.hid hm1; have HN1 := Lib.hid hn1; have HD1 := Lib.hid hd1; clear hm1 hn1 hd1; replace hbb := keepB hbb hb; replace B0 := B0.keep hb; have hw1 := hb.size; clear hb RE
  go_upto_region 4 with fail
  refine at_worldQ (fun v => Below w.heap.size w v ∧ BK v w.heap.size [.slice none 0 0] ∧ BK v w1.heap.size [.slice A1 m1 ca1, .slice Q1 n1 cq1, .int .i64 K, .int .i64 2, .int .i64 x, .int .i64 y, .bool b] ∧ FD v w0.heap.size A1 ca1 l1 Q1 cq1 L ∧ w.heap.size + 1 ≤ v.heap.size) ⟨below_al hbb _, B0.al _, BK.new _ _ _, hfd.keep (below_al (Below.refl _ _) _), by simp only [World.size_alloc]; omega⟩ (fun V4 hS => ?_); clear hbb B0 hfd; obtain ⟨hbb, B0, BX, hfd, hV4⟩ := hS
  have hX : w.heap.size + 1 ≤ w1.heap.size := by omega
  have hXB : w.heap.size + 1 ≤ w0.heap.size := by omega
  clear hw1 hw0 hV0
  generalize w1.heap.size = X at *
  generalize w0.heap.size = BV at *
  clear e0; have s0 := BX.c 0 rfl; have s1 := BX.c 1 rfl; have s2 := BX.c 2 rfl; have s3 := BX.c 3 rfl; have s4 := BX.c 4 rfl; have s5 := BX.c 5 rfl; have s6 := BX.c 6 rfl
  have dv := fun u (hu : IsCs u A1 l1) => DV.out A1 ca1 l1 Q1 n1 cq1 u hu HD1.out
  rw [← HM1.out] at dv; have DVL := Lib.hid dv; clear dv; refine wp_region_noPanic ?_; refine region_ordU (S := (GB (fun _ => False) V4)) (GB (fun k => k = w.heap.size) V4) 5 (by kernel_rfl) ((GB.refl _ _).drew) (fun hHeld => ?_); refine at_ordU (fun v => GB (fun _ => False) V4 v) hHeld (fun wa0 hNew => ?_); clear hHeld; have hHeld := hNew; clear hNew; refine ordU_take (i := 0) (o := _) (v := ?va1) rfl (by kernel_rfl) (by kernel_rfl) (by kernel_rfl) (by kernel_rfl) (fun _ _ _ h => h) (Or.inl ⟨by kernel_rfl, ?hya1⟩) hHeld ?resta1
  case hya1 => (intro w hSw; have ks0 := hSw.cell (fun h => h) s0; have ks1 := hSw.cell (fun h => h) s1; have ks2 := hSw.cell (fun h => h) s2; have ks3 := hSw.cell (fun h => h) s3; have ks4 := hSw.cell (fun h => h) s4; have ks5 := hSw.cell (fun h => h) s5; have ks6 := hSw.cell (fun h => h) s6; go_simp <;> with_reducible rfl)
  (try simp only [PPz]); refine ordU_take2 (i := 2) (o := _) (v := ?va2) rfl (by kernel_rfl) (by kernel_rfl) (by kernel_rfl) (by decide) (fun  _ _ _ h => h) (Or.inl ⟨by kernel_rfl, ?hya2⟩) (Or.inl ⟨by kernel_rfl, ?hza2⟩) hHeld ?resta2
  case hya2 => (intro w hSw; go_simp <;> with_reducible rfl)
  case hza2 => (intro w hSw; go_simp <;> with_reducible rfl)
  (try simp only [PPz]); refine ordU_take2 (i := 3) (o := _) (v := ?va3) rfl (by kernel_rfl) (by kernel_rfl) (by kernel_rfl) (by decide) (fun  _ _ _ h => h) (Or.inl ⟨by kernel_rfl, ?hya3⟩) (Or.inl ⟨by kernel_rfl, ?hza3⟩) hHeld ?resta3
  case hya3 => (intro w hSw; go_simp <;> with_reducible rfl)
  case hza3 => (intro w hSw; go_simp <;> with_reducible rfl)
  (try simp only [PPz]); refine ordU_take2 (i := 4) (o := _) (v := ?va4) rfl (by kernel_rfl) (by kernel_rfl) (by kernel_rfl) (by decide) (fun  _ _ _ h => h) (Or.inl ⟨by kernel_rfl, ?hya4⟩) (Or.inl ⟨by kernel_rfl, ?hza4⟩) hHeld ?resta4
  case hya4 => (intro w hSw; have ks0 := hSw.cell (fun h => h) s0; have ks1 := hSw.cell (fun h => h) s1; have ks2 := hSw.cell (fun h => h) s2; have ks3 := hSw.cell (fun h => h) s3; have ks4 := hSw.cell (fun h => h) s4; have ks5 := hSw.cell (fun h => h) s5; have ks6 := hSw.cell (fun h => h) s6; go_simp <;> with_reducible rfl)
  case hza4 => (intro w hSw; have ks0 := hSw.cell (by omega) s0; have ks1 := hSw.cell (by omega) s1; have ks2 := hSw.cell (by omega) s2; have ks3 := hSw.cell (by omega) s3; have ks4 := hSw.cell (by omega) s4; have ks5 := hSw.cell (by omega) s5; have ks6 := hSw.cell (by omega) s6; go_simp <;> with_reducible rfl)
  (try simp only [PPz]); refine ordU_ready (rs := [1]) (by kernel_rfl) (by simp) (ReadyU.cons (o := _) rfl (by decide) (fun K hK => ?_) ReadyU.nil); go_simp; refine (DVL.out _ (hfd.keep (hHeld.toBelow (Below.refl _ _) (fun k hk => hk.elim) (Nat.le_refl _))).isCs).mono ?_; rintro e wa5 hput
  unfold DivQ at hput
  obtain ⟨P, g0, g1, rfl, hb3, hdv⟩ := hput; have hvw := hHeld.size; replace hfd := (hfd.keep (hHeld.toBelow (Below.refl _ _) (fun k hk => hk.elim) (Nat.le_refl _))).keep hb3; (go_wp2_with fail); refine hK.out _ _ (hHeld.below hb3) (fun hNew => ?_); replace hHeld := hNew; clear hNew hK K hb3; (try simp only [PPz]); refine ordU_at (by kernel_rfl) ?_; replace B0 := B0.gb hHeld (fun h => h); replace hHeld : GB (fun k => k = w.heap.size) V4 wa5 := hHeld.weak (fun k hk => hk.elim); refine rdy1 5 rfl (fun K hK => ?_); have n0 := B0.c 0 rfl; have f0 := B0.f 0 rfl; go_simp; clear n0 f0; refine hK.out _ _ (hHeld.set (.inl rfl) _) (fun hNew => ?_); replace hHeld := hNew; clear hNew hK K; (try simp only [PPz]); refine at_anyH (fun v => GB (fun k => k = w.heap.size) V4 v ∧ BK v (w.heap.size) [.slice (some ⟨P, 0, none⟩) 2 2] ∧ DivB wa0.heap.size P g0 g1 a0 b0 c0 d0 a1 b1 c1 d1 v ∧ FD v BV A1 ca1 l1 Q1 cq1 L) ⟨hHeld, (B0.set 0 _), (hdv.set (by omega) _), (hfd.set (by omega) _)⟩ (fun wa6 hS => ?_); clear hHeld B0 hdv hfd; obtain ⟨hHeld, B0, hdv, hfd⟩ := hS; refine tkd 6 ?_; refine tkd 7 ?_; (try simp only [PPz]); refine wpAnyH_done (by kernel_rfl) ?_ _; refine NoPanic.normal ?_
  skip
  have hbb2 := hHeld.toBelow hbb (fun k hk => by omega) (by omega); have r0 := B0.c 0 rfl; have hqs := hfd.isQs; clear s0 s1 s2 s3 s4 s5 s6; (go_wp2_with fail); exact bodyPost_ret (v := .tuple #[.agg #[.slice (some ⟨P, 0, none⟩) 2 2], .slice Q1 n1 cq1, .int .i64 0]) (by simp [results, Tryz.results11, go_sem, r0]) rfl ⟨P, g0, g1, Q1, n1, cq1, rfl, hbb2, HN1.out, hqs, hdv.mono (by omega)⟩
section
variable {D : List CkD} {h1 h2 g1 g2 x y v1 v2 z : Int}
theorem Ch.Rn.rrun0 (R : Ch.Rn D 0 1 h1 h2 g1 g2 x y v1 v2 z) (hc : Ak.chkS D 0 = 0) (hl : D.length = 2) (len : Int) (hn : (Ak.dAt D 0).1 = len) (A : Option Addr) (ca : Nat) (cs : List CkR) (w : World) (h : IsCs w A cs) (hD : cs.map Ak.dat = D)
    (ck : ∀ v, Below w.heap.size w v → Calls Tryz.prog 29 #[.slice A cs.length ca, .int .i64 0] v fun e v' => e = .returned (.int .i64 0) ∧ Below v.heap.size v v') :
    Calls Tryz.prog 11 #[.slice A cs.length ca, .int .i64 0] w (RunQ [⟨0, 2, 0, 1, h1, h2, x, y⟩, ⟨1, 1, 0, 1, x, y, v1, v2⟩] (if 0 ≤ z then x else 0) (if 0 ≤ z then y else 1) (if 0 ≤ z then len else x) (if 0 ≤ z then 1 else y) (if 0 ≤ z then 0 else x) (if 0 ≤ z then 1 else y) (if 0 ≤ z then x else len) (if 0 ≤ z then y else 1) w) := by
  refine rrun_of A ca cs.length 0 x y (decide (0 ≤ z)) D _ _ _ _ _ _ _ _ _ w ck (fun v hv => rstate2_any D 0 1 h1 h2 g1 g2 x y v1 v2 z R A ca cs v (h.keep hv) hD hc hl) (fun A ca l Q n cq v hi hd => ?_)
  have hl2 : l.length = 2 := by rw [← List.length_map (f := Ak.dat), hd]; exact hl
  have hlen := cat0_len hd hl hn
  by_cases hz : 0 ≤ z
  · simp only [if_pos hz, decide_eq_true hz]
    exact rdivided0t A ca l Q n cq 2 x y len v hi hl2 hlen
  · simp only [if_neg hz, decide_eq_false hz]
    exact rdivided0f A ca l Q n cq 2 x y len v hi hl2 hlen
theorem Ch.Rn.rrun1 (R : Ch.Rn D 1 0 h1 h2 g1 g2 x y v1 v2 z) (hc : Ak.chkS D 0 = 0) (hl : D.length = 2) (len : Int) (hn : (Ak.dAt D 0).1 = len) (A : Option Addr) (ca : Nat) (cs : List CkR) (w : World) (h : IsCs w A cs) (hD : cs.map Ak.dat = D)
    (ck : ∀ v, Below w.heap.size w v → Calls Tryz.prog 29 #[.slice A cs.length ca, .int .i64 1] v fun e v' => e = .returned (.int .i64 0) ∧ Below v.heap.size v v') :
    Calls Tryz.prog 11 #[.slice A cs.length ca, .int .i64 1] w (RunQ [⟨1, 2, 0, 1, h1, h2, x, y⟩, ⟨0, 1, 0, 1, x, y, v1, v2⟩] (if 0 ≤ z then 0 else x) (if 0 ≤ z then 1 else y) (if 0 ≤ z then x else len) (if 0 ≤ z then y else 1) (if 0 ≤ z then x else 0) (if 0 ≤ z then y else 1) (if 0 ≤ z then len else x) (if 0 ≤ z then 1 else y) w) := by
  refine rrun_of A ca cs.length 1 x y (decide (0 ≤ z)) D _ _ _ _ _ _ _ _ _ w ck (fun v hv => rstate2_any D 1 0 h1 h2 g1 g2 x y v1 v2 z R A ca cs v (h.keep hv) hD hc hl) (fun A ca l Q n cq v hi hd => ?_)
  have hl2 : l.length = 2 := by rw [← List.length_map (f := Ak.dat), hd]; exact hl
  have hlen := cat0_len hd hl hn
  by_cases hz : 0 ≤ z
  · simp only [if_pos hz, decide_eq_true hz]
    exact rdivided1t A ca l Q n cq 2 x y len v hi hl2 hlen
  · simp only [if_neg hz, decide_eq_false hz]
    exact rdivided1f A ca l Q n cq 2 x y len v hi hl2 hlen
end
theorem rsameDiv_nil (w : World) : Calls Tryz.prog 13 #[.agg #[.slice none 0 0], .agg #[.slice none 0 0]] w fun e w' => e = .returned (.bool true) ∧ Below w.heap.size w w' := by
  go_enter Tryz.func13, Tryz.ntmps13
  go_upto_region 1 with fail
  refine at_box2 (fun V hbb B0 B1 hVs => ?_); have BX := B0; have BY := B1; clear B0 B1 hVs; have x0 := BX.c 0 rfl; have y0 := BY.c 0 rfl; (go_wp2_with fail); clear x0 y0
  go_loopw [5] (fun i W => i = .int .i64 0 ∧ Below w.heap.size w W ∧ BK W w.heap.size [.slice none 0 0] ∧ BK W (w.heap.size + 1) [.slice none 0 0]) (fun _ _ => 0)
  case atStart => exact ⟨rfl, hbb, BX, BY⟩
  case round =>
    clear hbb BX BY; obtain ⟨rfl, hbb, BX, BY⟩ := hrel; have x0 := BX.c 0 rfl; have y0 := BY.c 0 rfl; (go_wp2_with fail)
    go_ret
    exact ⟨rfl, hbb⟩
theorem cruns_valid (D : List CkD) (L : List Qr) (K : Int) (a0 b0 c0 d0 a1 b1 c1 d1 : Int) (A : Option Addr) (m ca : Nat) (w : World)
    (gr : Calls Tryz.prog 7 #[.slice A m ca] w fun e w' => e = .returned (.bool false) ∧ Below w.heap.size w w')
    (ps : ∀ v, Below w.heap.size w v → Calls Tryz.prog 8 #[.slice A m ca, .int .i64 K] v (StR D [] K 0 0 1 false v))
    (rs : ∀ v, Below w.heap.size w v → Calls Tryz.prog 9 #[.slice A m ca, .int .i64 K] v (StR D [] K 0 0 1 false v))
    (pr : ∀ v, Below w.heap.size w v → Calls Tryz.prog 10 #[.slice A m ca, .int .i64 K] v (RunQ L a0 b0 c0 d0 a1 b1 c1 d1 v))
    (rr : ∀ v, Below w.heap.size w v → Calls Tryz.prog 11 #[.slice A m ca, .int .i64 K] v (RunQ L a0 b0 c0 d0 a1 b1 c1 d1 v)) :
    Calls Tryz.prog 3 #[.slice A m ca, .int .i64 K] w fun e w' => e = .returned (.bool true) ∧ Below w.heap.size w w' := by
  unfold StR at ps rs
  unfold RunQ at pr rr
  have GR := Lib.hid gr; have PS := Lib.hid ps; have RS := Lib.hid rs; have PR := Lib.hid pr; have RR := Lib.hid rr; clear gr ps rs pr rr
  go_enter Tryz.func3, Tryz.ntmps3
  (go_wp2_with fail); refine GR.out.mono ?_; rintro e w1 ⟨rfl, hb⟩; have hbb := hb; clear hb GR; (go_wp2_with fail); refine (PS.out _ hbb).mono ?_; rintro e w2 ⟨A1, m1, ca1, Q1, n1, cq1, l1, rfl, hb, hm1, hn1, hd1, hf1⟩; replace hbb := keepB hbb hb; have HM1 := Lib.hid hm1; have HN1 := Lib.hid hn1; have HD1 := Lib.hid hd1; clear hb PS hm1 hn1 hd1
  go_upto_region 4 with fail
  refine at_worldQ (fun v => Below w.heap.size w v ∧ BK v w2.heap.size [.slice A1 m1 ca1, .slice Q1 n1 cq1, .int .i64 K, .int .i64 0, .int .i64 0, .int .i64 1, .bool false] ∧ FD v w1.heap.size A1 ca1 l1 Q1 cq1 []) ⟨below_al hbb _, BK.new _ _ _, hf1.keep (below_al (Below.refl _ _) _)⟩ (fun V4 hS => ?_); clear hbb hf1; obtain ⟨hbb, B1, hf1⟩ := hS; obtain ⟨p1, hp1⟩ : ∃ z, w2.heap.size = z := ⟨_, rfl⟩; rw [hp1] at B1 ⊢
  generalize w1.heap.size = U1 at *
  clear hp1; (go_wp2_with fail); refine (RS.out _ hbb).mono ?_; rintro e w3 ⟨A2, m2, ca2, Q2, n2, cq2, l2, rfl, hb, hm2, hn2, hd2, hf2⟩; replace hbb := keepB hbb hb; replace B1 := B1.keep hb; replace hf1 := hf1.keep hb; have HM2 := Lib.hid hm2; have HN2 := Lib.hid hn2; have HD2 := Lib.hid hd2; clear hb RS hm2 hn2 hd2
  go_upto_region 5 with fail
  refine at_worldQ (fun v => Below w.heap.size w v ∧ BK v p1 [.slice A1 m1 ca1, .slice Q1 n1 cq1, .int .i64 K, .int .i64 0, .int .i64 0, .int .i64 1, .bool false] ∧ FD v U1 A1 ca1 l1 Q1 cq1 [] ∧ BK v w3.heap.size [.slice A2 m2 ca2, .slice Q2 n2 cq2, .int .i64 K, .int .i64 0, .int .i64 0, .int .i64 1, .bool false] ∧ FD v V4.heap.size A2 ca2 l2 Q2 cq2 []) ⟨below_al hbb _, B1.al _, hf1.keep (below_al (Below.refl _ _) _), BK.new _ _ _, hf2.keep (below_al (Below.refl _ _) _)⟩ (fun V5 hS => ?_); clear hbb hf1 hf2 B1; obtain ⟨hbb, B1, hf1, B2, hf2⟩ := hS; obtain ⟨p2, hp2⟩ : ∃ z, w3.heap.size = z := ⟨_, rfl⟩; rw [hp2] at B2 ⊢
  generalize V4.heap.size = U2 at *
  clear hp2; (go_wp2_with fail); refine (PR.out _ hbb).mono ?_; rintro e w4 ⟨P3, g0, g1, Q3, n3, cq3, rfl, hb, hn3, hq3, hdv3⟩; replace hbb := keepB hbb hb; replace B1 := B1.keep hb; replace B2 := B2.keep hb; replace hf1 := hf1.keep hb; replace hf2 := hf2.keep hb; have HN3 := Lib.hid hn3; clear hb PR hn3
  go_upto_region 6 with fail
  refine at_worldQ (fun v => Below w.heap.size w v ∧ BK v p1 [.slice A1 m1 ca1, .slice Q1 n1 cq1, .int .i64 K, .int .i64 0, .int .i64 0, .int .i64 1, .bool false] ∧ FD v U1 A1 ca1 l1 Q1 cq1 [] ∧ BK v p2 [.slice A2 m2 ca2, .slice Q2 n2 cq2, .int .i64 K, .int .i64 0, .int .i64 0, .int .i64 1, .bool false] ∧ FD v U2 A2 ca2 l2 Q2 cq2 [] ∧ BK v w4.heap.size [.slice (some ⟨P3, 0, none⟩) 2 2] ∧ IsQs v Q3 L ∧ DivB V5.heap.size P3 g0 g1 a0 b0 c0 d0 a1 b1 c1 d1 v) ⟨below_al hbb _, B1.al _, hf1.keep (below_al (Below.refl _ _) _), B2.al _, hf2.keep (below_al (Below.refl _ _) _), BK.new _ _ _, hq3.keep (below_al (Below.refl _ _) _), hdv3.al _⟩ (fun V6 hS => ?_); clear hbb hf1 hf2 B1 B2 hq3 hdv3; obtain ⟨hbb, B1, hf1, B2, hf2, B3, hq3, hdv3⟩ := hS; obtain ⟨p3, hp3⟩ : ∃ z, w4.heap.size = z := ⟨_, rfl⟩; rw [hp3] at B3 ⊢
  generalize V5.heap.size = U3 at *
  clear hp3; (go_wp2_with fail); refine (RR.out _ hbb).mono ?_; rintro e w5 ⟨P4, k0, k1, Q4, n4, cq4, rfl, hb, hn4, hq4, hdv4⟩; replace hbb := keepB hbb hb; replace B1 := B1.keep hb; replace B2 := B2.keep hb; replace B3 := B3.keep hb; replace hf1 := hf1.keep hb; replace hf2 := hf2.keep hb; replace hq3 := hq3.keep hb; replace hdv3 := hdv3.call hb; have HN4 := Lib.hid hn4; clear hb RR hn4
  go_upto_region 7 with fail
  refine at_worldQ (fun v => Below w.heap.size w v ∧ BK v p1 [.slice A1 m1 ca1, .slice Q1 n1 cq1, .int .i64 K, .int .i64 0, .int .i64 0, .int .i64 1, .bool false] ∧ FD v U1 A1 ca1 l1 Q1 cq1 [] ∧ BK v p2 [.slice A2 m2 ca2, .slice Q2 n2 cq2, .int .i64 K, .int .i64 0, .int .i64 0, .int .i64 1, .bool false] ∧ FD v U2 A2 ca2 l2 Q2 cq2 [] ∧ BK v p3 [.slice (some ⟨P3, 0, none⟩) 2 2] ∧ IsQs v Q3 L ∧ DivB U3 P3 g0 g1 a0 b0 c0 d0 a1 b1 c1 d1 v ∧ BK v w5.heap.size [.slice (some ⟨P4, 0, none⟩) 2 2] ∧ IsQs v Q4 L ∧ DivB V6.heap.size P4 k0 k1 a0 b0 c0 d0 a1 b1 c1 d1 v) ⟨below_al hbb _, B1.al _, hf1.keep (below_al (Below.refl _ _) _), B2.al _, hf2.keep (below_al (Below.refl _ _) _), B3.al _, hq3.keep (below_al (Below.refl _ _) _), hdv3.al _, BK.new _ _ _, hq4.keep (below_al (Below.refl _ _) _), hdv4.al _⟩ (fun V7 hS => ?_); clear hbb hf1 hf2 B1 B2 hq3 hdv3 B3 hq4 hdv4; obtain ⟨hbb, B1, hf1, B2, hf2, B3, hq3, hdv3, B4, hq4, hdv4⟩ := hS; obtain ⟨p4, hp4⟩ : ∃ z, w5.heap.size = z := ⟨_, rfl⟩; rw [hp4] at B4 ⊢
  generalize V6.heap.size = U4 at *
  clear hp4; have sm := rcSame_any A1 A2 m1 m2 ca1 ca2 Q1 Q2 n1 n2 cq1 cq2 l1 l2 [] V7 HM1.out HM2.out HN1.out HN2.out (HD1.out.trans HD2.out.symm) hf1.isCs hf2.isCs hf1.isQs hf2.isQs K 0 0 1 false
  have sd := fun v (hv : Below V7.heap.size V7 v) => sameDiv_eq P3 P4 U3 U4 g0 g1 k0 k1 a0 b0 c0 d0 a1 b1 c1 d1 v (hdv3.call hv) (hdv4.call hv)
  have sl := fun v (hv : Below V7.heap.size V7 v) => rSameLogs_any Q3 Q4 cq3 cq4 L L v (hq3.keep hv) (hq4.keep hv)
  rw [decide_eq_true rfl] at sl; have e34 : n4 = n3 := HN4.out.trans HN3.out.symm; subst e34; rw [← HN4.out] at sl; have SM := Lib.hid sm; have SD := Lib.hid sd; have SL := Lib.hid sl; clear sm sd sl hf1 hf2 hq3 hq4 hdv3 hdv4 HM1 HM2 HN1 HN2 HN3 HN4 HD1 HD2; have a0 := B1.c 0 rfl; have b0 := B2.c 0 rfl; have a1 := B1.c 1 rfl; have b1 := B2.c 1 rfl; have a2 := B1.c 2 rfl; have b2 := B2.c 2 rfl; have a3 := B1.c 3 rfl; have b3 := B2.c 3 rfl; have a4 := B1.c 4 rfl; have b4 := B2.c 4 rfl; have a5 := B1.c 5 rfl; have b5 := B2.c 5 rfl; have a6 := B1.c 6 rfl; have b6 := B2.c 6 rfl; (go_wp2_with fail); refine SM.out.mono ?_; rintro e w6 ⟨rfl, hb⟩; have h7 := hb; clear hb SM a0 b0 a1 b1 a2 b2 a3 b3 a4 b4 a5 b5 a6 b6 B1 B2; replace B3 := B3.keep h7; replace B4 := B4.keep h7; have d0 := B3.c 0 rfl; have d1 := B4.c 0 rfl; (go_wp2_with fail); refine (SD.out _ h7).mono ?_; rintro e w7 ⟨rfl, hb⟩; replace h7 := keepB h7 hb; clear hb SD d0 d1 B3 B4; (go_wp2_with fail); refine (SL.out _ h7).mono ?_; rintro e w8 ⟨rfl, hb⟩; replace h7 := keepB h7 hb; replace hbb := keepB hbb h7; clear hb SL h7; (go_wp2_with fail)
  go_ret
  exact ⟨rfl, hbb⟩
theorem cruns_bad (K E : Int) (A : Option Addr) (m ca : Nat) (w : World)
    (gr : Calls Tryz.prog 7 #[.slice A m ca] w fun e w' => e = .returned (.bool false) ∧ Below w.heap.size w w')
    (ps : ∀ v, Below w.heap.size w v → Calls Tryz.prog 8 #[.slice A m ca, .int .i64 K] v fun e v' => e = .returned (.tuple #[.agg #[.slice none 0 0, .slice none 0 0, .int .i64 0, .int .i64 0, .int .i64 0, .int .i64 0, .bool false], .int .i64 E]) ∧ Below v.heap.size v v')
    (rs : ∀ v, Below w.heap.size w v → Calls Tryz.prog 9 #[.slice A m ca, .int .i64 K] v fun e v' => e = .returned (.tuple #[.agg #[.slice none 0 0, .slice none 0 0, .int .i64 0, .int .i64 0, .int .i64 0, .int .i64 0, .bool false], .int .i64 E]) ∧ Below v.heap.size v v')
    (pr : ∀ v, Below w.heap.size w v → Calls Tryz.prog 10 #[.slice A m ca, .int .i64 K] v fun e v' => e = .returned (.tuple #[.agg #[.slice none 0 0], .slice none 0 0, .int .i64 E]) ∧ Below v.heap.size v v')
    (rr : ∀ v, Below w.heap.size w v → Calls Tryz.prog 11 #[.slice A m ca, .int .i64 K] v fun e v' => e = .returned (.tuple #[.agg #[.slice none 0 0], .slice none 0 0, .int .i64 E]) ∧ Below v.heap.size v v') :
    Calls Tryz.prog 3 #[.slice A m ca, .int .i64 K] w fun e w' => e = .returned (.bool true) ∧ Below w.heap.size w w' := by
  have GR := Lib.hid gr; have PS := Lib.hid ps; have RS := Lib.hid rs; have PR := Lib.hid pr; have RR := Lib.hid rr
  have sm := fun v => rcSame_any none none 0 0 0 0 none none 0 0 0 0 [] [] [] v rfl rfl rfl rfl rfl (rcCs_nil v none) (rcCs_nil v none) (isQs_nil v none) (isQs_nil v none) 0 0 0 0 false
  have sl := fun v => rSameLogs_any none none 0 0 [] [] v (isQs_nil v none) (isQs_nil v none)
  rw [decide_eq_true rfl] at sl; have SM := Lib.hid sm; have SL := Lib.hid sl
  simp only [List.length_nil] at SL
  have ez : (E == E) = true := by simp
  clear gr ps rs pr rr sm sl
  go_enter Tryz.func3, Tryz.ntmps3
  (go_wp2_with fail); refine GR.out.mono ?_; rintro e w1 ⟨rfl, hb⟩; have hbb := hb; clear hb GR; (go_wp2_with fail); refine (PS.out _ hbb).mono ?_; rintro e w2 ⟨rfl, hb⟩; replace hbb := keepB hbb hb; clear hb PS
  go_upto_region 4 with fail
  refine at_worldQ (fun v => Below w.heap.size w v ∧ BK v w2.heap.size [.slice none 0 0, .slice none 0 0, .int .i64 0, .int .i64 0, .int .i64 0, .int .i64 0, .bool false]) ⟨below_al hbb _, BK.new _ _ _⟩ (fun V4 hS => ?_); clear hbb; obtain ⟨hbb, B1⟩ := hS; obtain ⟨p1, hp1⟩ : ∃ z, w2.heap.size = z := ⟨_, rfl⟩; rw [hp1] at B1 ⊢; clear hp1; (go_wp2_with fail); refine (RS.out _ hbb).mono ?_; rintro e w3 ⟨rfl, hb⟩; replace hbb := keepB hbb hb; replace B1 := B1.keep hb; clear hb RS
  go_upto_region 5 with fail
  refine at_worldQ (fun v => Below w.heap.size w v ∧ BK v p1 [.slice none 0 0, .slice none 0 0, .int .i64 0, .int .i64 0, .int .i64 0, .int .i64 0, .bool false] ∧ BK v w3.heap.size [.slice none 0 0, .slice none 0 0, .int .i64 0, .int .i64 0, .int .i64 0, .int .i64 0, .bool false]) ⟨below_al hbb _, B1.al _, BK.new _ _ _⟩ (fun V5 hS => ?_); clear hbb B1; obtain ⟨hbb, B1, B2⟩ := hS; obtain ⟨p2, hp2⟩ : ∃ z, w3.heap.size = z := ⟨_, rfl⟩; rw [hp2] at B2 ⊢; clear hp2; (go_wp2_with fail); refine (PR.out _ hbb).mono ?_; rintro e w4 ⟨rfl, hb⟩; replace hbb := keepB hbb hb; replace B1 := B1.keep hb; replace B2 := B2.keep hb; clear hb PR
  go_upto_region 6 with fail
  refine at_worldQ (fun v => Below w.heap.size w v ∧ BK v p1 [.slice none 0 0, .slice none 0 0, .int .i64 0, .int .i64 0, .int .i64 0, .int .i64 0, .bool false] ∧ BK v p2 [.slice none 0 0, .slice none 0 0, .int .i64 0, .int .i64 0, .int .i64 0, .int .i64 0, .bool false] ∧ BK v w4.heap.size [.slice none 0 0]) ⟨below_al hbb _, B1.al _, B2.al _, BK.new _ _ _⟩ (fun V6 hS => ?_); clear hbb B1 B2; obtain ⟨hbb, B1, B2, B3⟩ := hS; obtain ⟨p3, hp3⟩ : ∃ z, w4.heap.size = z := ⟨_, rfl⟩; rw [hp3] at B3 ⊢; clear hp3; (go_wp2_with fail); refine (RR.out _ hbb).mono ?_; rintro e w5 ⟨rfl, hb⟩; replace hbb := keepB hbb hb; replace B1 := B1.keep hb; replace B2 := B2.keep hb; replace B3 := B3.keep hb; clear hb RR
  go_upto_region 7 with fail
  refine at_worldQ (fun v => Below w.heap.size w v ∧ BK v p1 [.slice none 0 0, .slice none 0 0, .int .i64 0, .int .i64 0, .int .i64 0, .int .i64 0, .bool false] ∧ BK v p2 [.slice none 0 0, .slice none 0 0, .int .i64 0, .int .i64 0, .int .i64 0, .int .i64 0, .bool false] ∧ BK v p3 [.slice none 0 0] ∧ BK v w5.heap.size [.slice none 0 0]) ⟨below_al hbb _, B1.al _, B2.al _, B3.al _, BK.new _ _ _⟩ (fun V7 hS => ?_); clear hbb B1 B2 B3; obtain ⟨hbb, B1, B2, B3, B4⟩ := hS; obtain ⟨p4, hp4⟩ : ∃ z, w5.heap.size = z := ⟨_, rfl⟩; rw [hp4] at B4 ⊢; clear hp4; have a0 := B1.c 0 rfl; have b0 := B2.c 0 rfl; have a1 := B1.c 1 rfl; have b1 := B2.c 1 rfl; have a2 := B1.c 2 rfl; have b2 := B2.c 2 rfl; have a3 := B1.c 3 rfl; have b3 := B2.c 3 rfl; have a4 := B1.c 4 rfl; have b4 := B2.c 4 rfl; have a5 := B1.c 5 rfl; have b5 := B2.c 5 rfl; have a6 := B1.c 6 rfl; have b6 := B2.c 6 rfl; (go_wp2_with fail); refine (SM.out _).mono ?_; rintro e w6 ⟨rfl, hb⟩; replace hbb := keepB hbb hb; replace B3 := B3.keep hb; replace B4 := B4.keep hb; clear hb SM a0 b0 a1 b1 a2 b2 a3 b3 a4 b4 a5 b5 a6 b6 B1 B2; have d0 := B3.c 0 rfl; have d1 := B4.c 0 rfl; (go_wp2_with fail); refine (rsameDiv_nil _).mono ?_; rintro e w7 ⟨rfl, hb⟩; replace hbb := keepB hbb hb; clear hb d0 d1 B3 B4; (go_wp2_with fail); refine (SL.out _).mono ?_; rintro e w8 ⟨rfl, hb⟩; replace hbb := keepB hbb hb; clear hb SL; (go_wp2_with fail)
  go_ret
  exact ⟨rfl, hbb⟩
theorem cakesE_arg {D : List CkD} {K : Int} (hc : Ak.chkS D 0 = 0) (hn : ¬ (D.length = 2 ∧ (K = 0 ∨ K = 1))) : Ch.cakesE D K = 2 := by
  unfold Ch.cakesE
  rw [if_neg (by simp [hc]), if_pos]
  omega
theorem cakesE_fit {D : List CkD} {K : Int} (hc : Ak.chkS D 0 = 0) (hn : D.length = 2 ∧ (K = 0 ∨ K = 1)) : Ch.cakesE D K = 0 := by
  unfold Ch.cakesE
  rw [if_neg (by simp [hc]), if_neg]
  omega
theorem cruns_walk (A : Option Addr) (ca : Nat) (cs : List CkR) (K : Int) (w : World) (h : IsCs w A cs) (k0 : -9223372036854775808 ≤ K) (k1 : K ≤ 9223372036854775807) :
    Calls Tryz.prog 3 #[.slice A cs.length ca, .int .i64 K] w fun e w' => e = .returned (.bool true) ∧ Below w.heap.size w w' := by
  have gr := rGreatCakes_any A ca cs w h
  cases hg : Ak.greatCs (cs.map Ak.dat)
  case true =>
    rw [hg] at gr; have GR := Lib.hid gr; clear gr hg h
    go_enter Tryz.func3, Tryz.ntmps3
    (go_wp2_with fail); refine GR.out.mono ?_; rintro e w1 ⟨rfl, hb⟩; (go_wp2_with fail)
    go_ret
    exact ⟨rfl, hb⟩
  rw [hg] at gr
  have ck := fun v (hv : Below w.heap.size w v) => cakes_any A ca cs K v (h.keep hv)
  by_cases hc : Ak.chkS (cs.map Ak.dat) 0 = 0
  · by_cases hf : cs.length = 2 ∧ (K = 0 ∨ K = 1)
    · obtain ⟨D, hD⟩ : ∃ z, cs.map Ak.dat = z := ⟨_, rfl⟩
      rw [hD] at hc ck
      have hl : D.length = 2 := by rw [← hD, List.length_map]; exact hf.1
      rw [cakesE_fit hc ⟨hl, hf.2⟩] at ck
      obtain ⟨c, d, hcd⟩ : ∃ c d, D = [c, d] := by
        match D, hl with
        | [a, b], _ => exact ⟨a, b, rfl⟩
      subst hcd; have g := Ak.chkS_good hc; have g0 := g.all c (by simp); have g1 := g.all d (by simp); have gl : d.1 = c.1 := g.same d (by simp); obtain ⟨len, hn⟩ : ∃ z, (Ak.dAt [c, d] 0).1 = z := ⟨_, rfl⟩
      rcases hf.2 with rfl | rfl
      · obtain ⟨h1', h2', g1', g2', x, y, v1, v2, z, e1, e2, e3, e4, e5, b1, b2, b3, b4, b5, b6, b7, b8⟩ := Ch.rn_of g0 g1 gl
        have R : Ch.Rn [c, d] 0 1 h1' h2' g1' g2' x y v1 v2 z := ⟨.inl ⟨rfl, rfl⟩, e1, e2, e3, e4, e5, b1, b2, b3, b4, b5, b6, b7, b8⟩; exact cruns_valid [c, d] _ 0 _ _ _ _ _ _ _ _ A cs.length ca w gr (fun v hv => R.start hc hl A ca cs v (h.keep hv) hD) (fun v hv => rstart_ok [c, d] A cs.length ca 0 v (fun u hu => ck u (keepB hv hu)) (fun u hu => rstate0_any [c, d] A ca cs 0 u ((h.keep hv).keep hu) hD hc)) (fun v hv => R.run0 hc hl len hn A ca cs v (h.keep hv) hD) (fun v hv => R.rrun0 hc hl len hn A ca cs v (h.keep hv) hD (fun u hu => ck u (keepB hv hu)))
      · obtain ⟨h1', h2', g1', g2', x, y, v1, v2, z, e1, e2, e3, e4, e5, b1, b2, b3, b4, b5, b6, b7, b8⟩ := Ch.rn_of g1 g0 gl.symm
        have R : Ch.Rn [c, d] 1 0 h1' h2' g1' g2' x y v1 v2 z := ⟨.inr ⟨rfl, rfl⟩, e1, e2, e3, e4, e5, b1, b2, b3, b4, b5, b6, b7, b8⟩; exact cruns_valid [c, d] _ 1 _ _ _ _ _ _ _ _ A cs.length ca w gr (fun v hv => R.start hc hl A ca cs v (h.keep hv) hD) (fun v hv => rstart_ok [c, d] A cs.length ca 1 v (fun u hu => ck u (keepB hv hu)) (fun u hu => rstate0_any [c, d] A ca cs 1 u ((h.keep hv).keep hu) hD hc)) (fun v hv => R.run1 hc hl len hn A ca cs v (h.keep hv) hD) (fun v hv => R.rrun1 hc hl len hn A ca cs v (h.keep hv) hD (fun u hu => ck u (keepB hv hu)))
    · rw [cakesE_arg hc (by rw [List.length_map]; exact hf)] at ck
      exact cruns_bad K 2 A cs.length ca w gr (fun v hv => start_err A cs.length ca K 2 v (fun u hu => reached_arg A ca cs K 0 u ((h.keep hv).keep hu) hc hf)) (fun v hv => rstart_bad A cs.length ca K 2 v (by decide) (fun u hu => ck u (keepB hv hu))) (fun v hv => run_err A cs.length ca K 2 v (by decide) (fun u hu => reached_arg A ca cs K 2 u ((h.keep hv).keep hu) hc hf)) (fun v hv => rrun_bad A cs.length ca K 2 v (by decide) (fun u hu => ck u (keepB hv hu)))
  · have hE : Ch.cakesE (cs.map Ak.dat) K = Ak.chkS (cs.map Ak.dat) 0 := by
      unfold Ch.cakesE
      rw [if_pos hc]
    rw [hE] at ck; exact cruns_bad K _ A cs.length ca w gr (fun v hv => start_err A cs.length ca K _ v (fun u hu => reached_open A ca cs K 0 u ((h.keep hv).keep hu) hc)) (fun v hv => rstart_bad A cs.length ca K _ v hc (fun u hu => ck u (keepB hv hu))) (fun v hv => run_err A cs.length ca K _ v hc (fun u hu => reached_open A ca cs K 2 u ((h.keep hv).keep hu) hc)) (fun v hv => rrun_bad A cs.length ca K _ v hc (fun u hu => ck u (keepB hv hu)))
end Go.Proofs.YtniagnldiegamaaGreat

/- Package cake's Normal. -/
import Derived.Test.YtomokdepndclpaaTot
import Derived.Test.YtomokdepndclpaaOwn
import Derived.Deep.RegionLaw
import Derived.Deep.CutBlock
import Derived.Deep.DeepCutAuto
namespace Go.Proofs.Ytomokdepndclpaa
open Go.RowKit
namespace Ck
/-- Whether an interval begins with another density than the one before it has. -/
def fresh (d : List Int) (k : Nat) : Bool := decide (k = 0) || decide (at_ d k ≠ at_ d (k - 1))
/-- The cuts and densities of a normal cake, of the first intervals. -/
def nC (c d : List Int) : Nat → List Int
  | 0 => []
  | k + 1 => if fresh d k then nC c d k ++ [at_ c k] else nC c d k
def nD (d : List Int) : Nat → List Int
  | 0 => []
  | k + 1 => if fresh d k then nD d k ++ [at_ d k] else nD d k
theorem nC_yes {c d : List Int} {k : Nat} (h : fresh d k = true) : nC c d (k + 1) = nC c d k ++ [at_ c k] := by
  show (if fresh d k then _ else _) = _
  rw [if_pos h]
theorem nC_no {c d : List Int} {k : Nat} (h : fresh d k = false) : nC c d (k + 1) = nC c d k := by
  show (if fresh d k then _ else _) = _
  rw [if_neg (by rw [h]; simp)]
theorem nD_yes {d : List Int} {k : Nat} (h : fresh d k = true) : nD d (k + 1) = nD d k ++ [at_ d k] := by
  show (if fresh d k then _ else _) = _
  rw [if_pos h]
theorem nD_no {d : List Int} {k : Nat} (h : fresh d k = false) : nD d (k + 1) = nD d k := by
  show (if fresh d k then _ else _) = _
  rw [if_neg (by rw [h]; simp)]
theorem nC_len (c d : List Int) : ∀ k, (nC c d k).length ≤ k
  | 0 => Nat.le_refl _
  | k + 1 => by
    have := nC_len c d k
    unfold nC
    split
    · rw [List.length_append]; simp; omega
    · omega
theorem nD_len (d : List Int) : ∀ k, (nD d k).length ≤ k
  | 0 => Nat.le_refl _
  | k + 1 => by
    have := nD_len d k
    unfold nD
    split
    · rw [List.length_append]; simp; omega
    · omega
/-- Normal's cake (length, cuts, densities) and error. -/
def norS (len : Int) (c d : List Int) : Int × List Int × List Int × Int :=
  if chk len c d = 0 then (len, nC c d d.length ++ [len], nD d d.length, 0) else (0, [], [], chk len c d)
end Ck

set_option maxHeartbeats 4000000 in
set_option maxRecDepth 100000 in
theorem ckNormal_any (len : Int) (K : Option Addr) (cuts : List Int) (ck : Nat) (Z : Option Addr) (dens : List Int) (cz : Nat) (w : World) (h : IsCake w len K cuts Z dens) :
    Calls Try.prog 20 #[.agg #[.int .i64 len, .slice K cuts.length ck, .slice Z dens.length cz]] w fun e w' => ∃ v1 v2, e = .returned (.tuple #[.agg #[.int .i64 (Ck.norS len cuts dens).1, v1, v2], .int .i64 (Ck.norS len cuts dens).2.2.2]) ∧
      Own w' w.heap.size v1 (Ck.norS len cuts dens).2.1 ∧ Own w' w.heap.size v2 (Ck.norS len cuts dens).2.2.1 ∧ (∀ g, v1.ownBlock = some g → v2.ownBlock ≠ some g) ∧ Below w.heap.size w w' := by
  have cc := fun v (hb : Below w.heap.size w v) => ckCheck_any len K cuts ck Z dens cz v (h.keep hb)
  by_cases hc : Ck.chk len cuts dens = 0
  · have hG := Ck.chk_good hc
    have e : Ck.norS len cuts dens = (len, Ck.nC cuts dens dens.length ++ [len], Ck.nD dens dens.length, 0) := by unfold Ck.norS; rw [if_pos hc]
    rw [e]
    rw [hc] at cc
    have CC := Lib.hid cc
    obtain ⟨⟨l0, l1⟩, _, iK, iZ⟩ := h
    clear cc hc e
    obtain ⟨bk, ok, rfl, hk⟩ := iK.1 (by have := hG.shape; omega)
    obtain ⟨bz, oz, rfl, hz⟩ := iZ.1 (by have := hG.shape; omega)
    obtain ⟨m, hm⟩ : ∃ m, dens.length = m := ⟨_, rfl⟩
    have hsh := hG.shape
    have hn : cuts.length = m + 1 := by omega
    have hmm : m ≤ 39 := by omega
    have n1 : (((0 : Int)) != 0) = false := rfl
    have QK := Lib.hid iK.bd
    have QZ := Lib.hid iZ.bd
    have HLC := Lib.hid (fun k => Ck.nC_len cuts dens k)
    have HLD := Lib.hid (fun k => Ck.nD_len dens k)
    obtain ⟨i0, hi0, hz0, hz1, hz2⟩ := info_parts intInfo
    rw [hm] at hz
    rw [hn] at hk
    rw [hm, hn] at CC ⊢
    have HK := Lib.hid hk
    have HZ := Lib.hid hz
    have HI := Lib.hid hi0
    have HI2 := Lib.hid hz0
    have HI3 := Lib.hid hz1
    have HI4 := Lib.hid hz2
    clear hk hz iK iZ hG hsh hi0 hz0 hz1 hz2 hm hn
    go_enter Try.func20, Try.ntmps20
    go_wp2_with fail
    refine (CC.out _ (((Below.refl _ _).alloc (Nat.le_refl _) _).alloc (by simp) _)).mono ?_
    rintro e w1 ⟨rfl, hb1⟩
    have y0 : w1.cell? ⟨w.heap.size, 0, none⟩ = some (.int .i64 len) := keepC hb1 (by go_simp)
    have y1 : w1.cell? ⟨w.heap.size, 1, none⟩ = some (.slice (some ⟨bk, ok, none⟩) (m + 1) ck) := keepC hb1 (by go_simp)
    have y2 : w1.cell? ⟨w.heap.size, 2, none⟩ = some (.slice (some ⟨bz, oz, none⟩) m cz) := keepC hb1 (by go_simp)
    have r0 : w1.cell? ⟨w.heap.size + 1, 0, none⟩ = some (.int .i64 0) := keepC hb1 (by go_simp)
    have r1 : w1.cell? ⟨w.heap.size + 1, 1, none⟩ = some (.slice none 0 0) := keepC hb1 (by go_simp)
    have r2 : w1.cell? ⟨w.heap.size + 1, 2, none⟩ = some (.slice none 0 0) := keepC hb1 (by go_simp)
    have q0 : w1.frozen? ⟨w.heap.size + 1, 0, none⟩ = false := keepF hb1 (v := .int .i64 0) (by go_simp) (by go_simp)
    have q1 : w1.frozen? ⟨w.heap.size + 1, 1, none⟩ = false := keepF hb1 (v := .slice none 0 0) (by go_simp) (by go_simp)
    have q2 : w1.frozen? ⟨w.heap.size + 1, 2, none⟩ = false := keepF hb1 (v := .slice none 0 0) (by go_simp) (by go_simp)
    have hbb : Below w.heap.size w w1 := keepB (((Below.refl _ _).alloc (Nat.le_refl _) _).alloc (by simp) _) hb1
    have hNB : w.heap.size + 1 < w1.heap.size := lt_of_cell r0
    clear hb1 CC
    go_upto_region 5 with fail
    refine at_worldQ (fun v => NRel w len (.slice (some ⟨bk, ok, none⟩) (m + 1) ck) (.slice (some ⟨bz, oz, none⟩) m cz) w1.heap.size (.slice none 0 0) (.slice none 0 0) [] [] len v) ⟨below_al hbb _, cell_alloc y0 _, cell_alloc y1 _, cell_alloc y2 _, cell_alloc r0 _, cell_alloc r1 _, cell_alloc r2 _, froz_alloc r0 q0 _, froz_alloc r1 q1 _, froz_alloc r2 q2 _, n30 _ _ _ _ _, n31 _ _ _ _ _, n32 _ _ _ _ _, newf _ _ _ _ _ 1, newf _ _ _ _ _ 2, Own.nil_ _ _, Own.nil_ _ _, fun g hg => (by simp [Value.ownBlock] at hg), by simp [Value.ownBlock], by simp [Value.ownBlock], hNB⟩ (fun V hS => ?_)
    clear y0 y1 y2 r0 r1 r2 q0 q1 q2 hbb n1
    generalize w1.heap.size = NB at *
    clear hNB
    have ld := hS.c2
    go_wp2_with fail
    clear ld
    go_loopw [6, 7, 20] (fun _ _ i v => ∃ (k : Nat) (v1 v2 : Value), k ≤ m ∧ i = .int .i64 k ∧ NRel w len (.slice (some ⟨bk, ok, none⟩) (m + 1) ck) (.slice (some ⟨bz, oz, none⟩) m cz) NB v1 v2 (Ck.nC cuts dens k) (Ck.nD dens k) len v) (fun _ _ i _ => m - (intOf i).toNat)
    case atStart => exact ⟨0, _, _, Nat.zero_le _, rfl, hS⟩
    case round =>
      clear hS
      obtain ⟨k, v1, v2, hk, rfl, hR⟩ := hrel
      by_cases hlt : k < m
      · rcases k with _ | k
        · have cx := keepC hR.bb (HK.out 0 (by omega))
          have zx := keepC hR.bb (HZ.out 0 (by omega))
          rw [Nat.add_zero] at cx zx
          have q1 := QK.out 0
          have q2 := QZ.out 0
          unfold I64 at q1 q2
          have hfr := Lib.hid (show Ck.fresh dens 0 = true from rfl)
          have e0 : (((0 : Nat) : Int) == 0) = true := rfl
          obtain ⟨x, hx0⟩ : ∃ x, Ck.at_ cuts 0 = x := ⟨_, rfl⟩
          obtain ⟨d, hd0⟩ : ∃ d, Ck.at_ dens 0 = d := ⟨_, rfl⟩
          rw [hx0] at cx q1
          rw [hd0] at zx q2
          have hx := Lib.hid hx0
          have hd := Lib.hid hd0
          clear hx0 hd0 HK HZ QK QZ
          obtain ⟨A1, p1, rfl⟩ := hR.o1.form
          obtain ⟨A2, p2, rfl⟩ := hR.o2.form
          have lN := lt_of_cell hR.n0
          have hl1 := HLC.out 0
          have hl2 := HLD.out 0
          have ec1 := hR.c1
          have en1 := hR.n1
          have ef1 := hR.f1
          have hxC : Ck.nC cuts dens (0 + 1) = Ck.nC cuts dens 0 ++ [x] := by rw [← hx.out]; exact Ck.nC_yes hfr.out
          have hxD : Ck.nD dens (0 + 1) = Ck.nD dens 0 ++ [d] := by rw [← hd.out]; exact Ck.nD_yes hfr.out
          have HXC := Lib.hid hxC
          have HXD := Lib.hid hxD
          clear hxC hxD hx hd hfr
          generalize Ck.nC cuts dens 0 = X at *
          generalize Ck.nD dens 0 = Y at *
          go_upto_region 9 with fail
          go_cut [] (fun wx => ∃ g cap, NRel w len (.slice (some ⟨bk, ok, none⟩) (m + 1) ck) (.slice (some ⟨bz, oz, none⟩) m cz) NB (.slice (some ⟨g, 0, none⟩) (X.length + 1) cap) (.slice A2 Y.length p2) (X ++ [x]) Y len wx)
          case first =>
            go_region_law ((refine step_append_lies _ (by rfl) _ _ _ (by rfl) (w.heap.size + 2) 3 i0 _ 1 8 Try.underlying25 HI.out HI2.out HI3.out HI4.out rfl (by omega) (.slice A1 X.length p1) X.length (X.map (Value.int .i64)) (by rfl) (World.ownsRow.alloc (World.ownsRow.drew hR.o1) _) ⟨wr.heap.size, 0, none⟩ 1 1 [.int .i64 x] (by rfl) (by rfl) (World.news_of_block (cs := #[.int .i64 x]) (t := 3) (fr := (0, 0)) (heap_alloc_new wr.drew _)) (by simp [Value.oneCell']) (by omega) (by unfold maxLen; omega) (by omega) (by have := hR.hN; simp; omega) (wr.heap.size + 1) (by simp) ?_; intro g cap w1 hown1 hgrow hat hlt; have hpr := hR.pre1 (((Below.refl _ wr).drew).alloc (Nat.le_refl _) _) hgrow; have hp1 := hpr.1; have hp2 := hpr.2))
            all_goals
              (try go_wp2_with fail)
              go_meet
              have hnew := hR.app1 (((Below.refl _ wr).drew).alloc (Nat.le_refl _) _) hown1 hgrow (hat.imp id (fun e => by rw [e]; simp))
              exact ⟨g, cap, hnew⟩
          case rest =>
            clear ec1 en1 ef1 cx
            obtain ⟨g1, c1, hR2⟩ := hcut
            clear hR lN
            have lN := lt_of_cell hR2.n0
            have en2 := hR2.n2
            have ef2 := hR2.f2
            go_wp2_with (at_builtin; refine wpList_append_lies _ rfl _ _ _ rfl (w.heap.size + 2) 3 i0 _ 1 8 Try.underlying25 HI.out HI2.out HI3.out HI4.out rfl (by omega) (.slice A2 Y.length p2) Y.length (Y.map (Value.int .i64)) (by rfl) (World.ownsRow.alloc hR2.o2 _) ⟨wc.heap.size, 0, none⟩ 1 1 [.int .i64 d] (by rfl) (by rfl) (World.news_of_block (cs := #[.int .i64 d]) (t := 3) (fr := (0, 0)) (heap_alloc_new wc _)) (by simp [Value.oneCell']) (by omega) (by unfold maxLen; omega) (by omega) (by have := hR2.hN; simp; omega) (wc.heap.size + 1) (by simp) ?_; intro g cap w1 hown1 hgrow hat hlt; have hpr := hR2.pre2 ((Below.refl _ wc).alloc (Nat.le_refl _) _) hgrow; have hp1 := hpr.1; have hp2 := hpr.2)
            have hnew := hR2.app2 ((Below.refl _ wc).alloc (Nat.le_refl _) _) hown1 hgrow (hat.imp id (fun e => by rw [e]; simp))
            go_roundw
            case rel => exact ⟨0 + 1, _, _, by omega, by go_num, by rw [HXC.out, HXD.out]; exact hnew⟩
            case measure => simp [intOf]; omega
        · have cx := keepC hR.bb (HK.out (k + 1) (by omega))
          have zx := keepC hR.bb (HZ.out (k + 1) (by omega))
          have zp := keepC hR.bb (HZ.out k (by omega))
          have q1 := QK.out (k + 1)
          have q2 := QZ.out (k + 1)
          have q3 := QZ.out k
          unfold I64 at q1 q2 q3
          have e0 : ((k : Int) + 1 == 0) = false := by rw [beq_eq_false_iff_ne]; omega
          have a1 : (0 : Int) ≤ (k : Int) + 1 := by omega
          have a2 : ((k : Int) + 1).toNat = k + 1 := by omega
          have a3 : (k : Int) + 1 < (m : Int) + 1 := by omega
          have a4 : (k : Int) + 1 < (m : Int) := by omega
          obtain ⟨x, hx0⟩ : ∃ x, Ck.at_ cuts (k + 1) = x := ⟨_, rfl⟩
          obtain ⟨d, hd0⟩ : ∃ d, Ck.at_ dens (k + 1) = d := ⟨_, rfl⟩
          obtain ⟨p, hp0⟩ : ∃ p, Ck.at_ dens k = p := ⟨_, rfl⟩
          have hfx : Ck.fresh dens (k + 1) = (decide (k + 1 = 0) || decide (d ≠ p)) := by rw [← hd0, ← hp0]; rfl
          rw [hx0] at cx q1
          rw [hd0] at zx q2
          rw [hp0] at zp q3
          have hx := Lib.hid hx0
          have hd := Lib.hid hd0
          clear hx0 hd0 hp0 HK HZ QK QZ
          by_cases hdp : d = p
          · have e1 : (d != p) = false := by rw [hdp]; simp
            have hfr := Lib.hid (show Ck.fresh dens (k + 1) = false by rw [hfx, hdp]; simp)
            have HXC := Lib.hid (Ck.nC_no (c := cuts) hfr.out)
            have HXD := Lib.hid (Ck.nD_no hfr.out)
            clear hfx hdp hfr hx hd
            have ec2 := hR.c2
            go_wp2_with fail
            go_roundw
            case rel => exact ⟨k + 1 + 1, v1, v2, by omega, by go_num, by rw [HXC.out, HXD.out]; exact hR⟩
            case measure => simp [intOf]; omega
          · have e1 : (d != p) = true := by rw [bne_iff_ne]; exact hdp
            have hfr := Lib.hid (show Ck.fresh dens (k + 1) = true by rw [hfx, decide_eq_true hdp]; simp)
            have ec2 := hR.c2
            clear hfx hdp
            obtain ⟨A1, p1, rfl⟩ := hR.o1.form
            obtain ⟨A2, p2, rfl⟩ := hR.o2.form
            have lN := lt_of_cell hR.n0
            have hl1 := HLC.out (k + 1)
            have hl2 := HLD.out (k + 1)
            have ec1 := hR.c1
            have en1 := hR.n1
            have ef1 := hR.f1
            have hxC : Ck.nC cuts dens ((k + 1) + 1) = Ck.nC cuts dens (k + 1) ++ [x] := by rw [← hx.out]; exact Ck.nC_yes hfr.out
            have hxD : Ck.nD dens ((k + 1) + 1) = Ck.nD dens (k + 1) ++ [d] := by rw [← hd.out]; exact Ck.nD_yes hfr.out
            have HXC := Lib.hid hxC
            have HXD := Lib.hid hxD
            clear hxC hxD hx hd hfr
            generalize Ck.nC cuts dens (k + 1) = X at *
            generalize Ck.nD dens (k + 1) = Y at *
            go_upto_region 9 with fail
            go_cut [] (fun wx => ∃ g cap, NRel w len (.slice (some ⟨bk, ok, none⟩) (m + 1) ck) (.slice (some ⟨bz, oz, none⟩) m cz) NB (.slice (some ⟨g, 0, none⟩) (X.length + 1) cap) (.slice A2 Y.length p2) (X ++ [x]) Y len wx)
            case first =>
              go_region_law ((refine step_append_lies _ (by rfl) _ _ _ (by rfl) (w.heap.size + 2) 3 i0 _ 1 8 Try.underlying25 HI.out HI2.out HI3.out HI4.out rfl (by omega) (.slice A1 X.length p1) X.length (X.map (Value.int .i64)) (by rfl) (World.ownsRow.alloc (World.ownsRow.drew hR.o1) _) ⟨wr.heap.size, 0, none⟩ 1 1 [.int .i64 x] (by rfl) (by rfl) (World.news_of_block (cs := #[.int .i64 x]) (t := 3) (fr := (0, 0)) (heap_alloc_new wr.drew _)) (by simp [Value.oneCell']) (by omega) (by unfold maxLen; omega) (by omega) (by have := hR.hN; simp; omega) (wr.heap.size + 1) (by simp) ?_; intro g cap w1 hown1 hgrow hat hlt; have hpr := hR.pre1 (((Below.refl _ wr).drew).alloc (Nat.le_refl _) _) hgrow; have hp1 := hpr.1; have hp2 := hpr.2))
              all_goals
                (try go_wp2_with fail)
                go_meet
                have hnew := hR.app1 (((Below.refl _ wr).drew).alloc (Nat.le_refl _) _) hown1 hgrow (hat.imp id (fun e => by rw [e]; simp))
                exact ⟨g, cap, hnew⟩
            case rest =>
              clear ec1 en1 ef1 cx
              obtain ⟨g1, c1, hR2⟩ := hcut
              clear hR lN
              have lN := lt_of_cell hR2.n0
              have en2 := hR2.n2
              have ef2 := hR2.f2
              go_wp2_with (at_builtin; refine wpList_append_lies _ rfl _ _ _ rfl (w.heap.size + 2) 3 i0 _ 1 8 Try.underlying25 HI.out HI2.out HI3.out HI4.out rfl (by omega) (.slice A2 Y.length p2) Y.length (Y.map (Value.int .i64)) (by rfl) (World.ownsRow.alloc hR2.o2 _) ⟨wc.heap.size, 0, none⟩ 1 1 [.int .i64 d] (by rfl) (by rfl) (World.news_of_block (cs := #[.int .i64 d]) (t := 3) (fr := (0, 0)) (heap_alloc_new wc _)) (by simp [Value.oneCell']) (by omega) (by unfold maxLen; omega) (by omega) (by have := hR2.hN; simp; omega) (wc.heap.size + 1) (by simp) ?_; intro g cap w1 hown1 hgrow hat hlt; have hpr := hR2.pre2 ((Below.refl _ wc).alloc (Nat.le_refl _) _) hgrow; have hp1 := hpr.1; have hp2 := hpr.2)
              have hnew := hR2.app2 ((Below.refl _ wc).alloc (Nat.le_refl _) _) hown1 hgrow (hat.imp id (fun e => by rw [e]; simp))
              go_roundw
              case rel => exact ⟨(k + 1) + 1, _, _, by omega, by go_num, by rw [HXC.out, HXD.out]; exact hnew⟩
              case measure => simp [intOf]; omega
      · obtain rfl : k = m := by omega
        obtain ⟨A1, p1, rfl⟩ := hR.o1.form
        obtain ⟨A2, p2, rfl⟩ := hR.o2.form
        have lN := lt_of_cell hR.n0
        have hl1 := HLC.out k
        have hl2 := HLD.out k
        have ec0 := hR.c0
        have en1 := hR.n1
        have ef1 := hR.f1
        clear HK HZ QK QZ
        go_upto_region 13 with (at_builtin; refine wpList_append_lies _ rfl _ _ _ rfl (w.heap.size + 2) 3 i0 _ 1 8 Try.underlying25 HI.out HI2.out HI3.out HI4.out rfl (by omega) (.slice A1 (Ck.nC cuts dens k).length p1) (Ck.nC cuts dens k).length ((Ck.nC cuts dens k).map (Value.int .i64)) (by rfl) (World.ownsRow.alloc hR.o1 _) ⟨wr.heap.size, 0, none⟩ 1 1 [.int .i64 len] (by rfl) (by rfl) (World.news_of_block (cs := #[.int .i64 len]) (t := 3) (fr := (0, 0)) (heap_alloc_new wr _)) (by simp [Value.oneCell']) (by omega) (by unfold maxLen; omega) (by omega) (by have := hR.hN; simp; omega) (wr.heap.size + 1) (by simp) ?_; intro g cap w1 hown1 hgrow hat hlt; have hpr := hR.pre1 ((Below.refl _ wr).alloc (Nat.le_refl _) _) hgrow; have hp1 := hpr.1; have hp2 := hpr.2)
        have hR2 := hR.app1 ((Below.refl _ wr).alloc (Nat.le_refl _) _) hown1 hgrow (hat.imp id (fun e => by rw [e]; simp))
        refine at_worldQ (fun v => NRel w len (.slice (some ⟨bk, ok, none⟩) (k + 1) ck) (.slice (some ⟨bz, oz, none⟩) k cz) NB (.slice (some ⟨g, 0, none⟩) ((Ck.nC cuts dens k).length + 1) cap) (.slice A2 (Ck.nD dens k).length p2) (Ck.nC cuts dens k ++ [len]) (Ck.nD dens k) len v) hR2 (fun V hS => ?_)
        clear hR hR2 hpr hp1 hp2 hown1 hgrow hat hlt ec0 en1 ef1 lN
        have n0 := hS.n0
        have n1 := hS.n1
        have n2 := hS.n2
        have r0 := hS.r0
        have r1 := hS.r1
        have r2 := hS.r2
        have q0 := hS.q0
        have q1 := hS.q1
        have q2 := hS.q2
        have hN := hS.hN
        have O1 := hS.o1
        have O2 := hS.o2
        have hap := hS.ap
        have hbb := hS.bb
        clear hS
        have b1 : (Value.slice (some ⟨g, 0, none⟩) ((Ck.nC cuts dens k).length + 1) cap).ownBlock ≠ some (w.heap.size + 1) := fun e => by have := (O1.lt _ e).1; omega
        have b2 : (Value.slice A2 (Ck.nD dens k).length p2).ownBlock ≠ some (w.heap.size + 1) := fun e => by have := (O2.lt _ e).1; omega
        go_wp2_with fail
        exact bodyPost_ret (v := .tuple #[.agg #[.int .i64 len, .slice (some ⟨g, 0, none⟩) ((Ck.nC cuts dens k).length + 1) cap, .slice A2 (Ck.nD dens k).length p2], .int .i64 0]) (by simp [results, Try.results20, go_sem, r0, r1, r2]) rfl
          ⟨_, _, rfl, Own.mono (((O1.set b1 _).set b1 _).set b1 _) (Nat.le_add_right _ 2), Own.mono (((O2.set b2 _).set b2 _).set b2 _) (Nat.le_add_right _ 2), hap, below_st (below_st (below_st hbb (by omega) _) (by omega) _) (by omega) _⟩
  · have e : Ck.norS len cuts dens = (0, [], [], Ck.chk len cuts dens) := by unfold Ck.norS; rw [if_neg hc]
    rw [e]
    generalize Ck.chk len cuts dens = c at *
    have n1 : (c != 0) = true := by rw [bne_iff_ne]; exact hc
    have CC := Lib.hid cc
    clear cc hc e h
    go_enter Try.func20, Try.ntmps20
    go_wp2_with fail
    refine (CC.out _ (((Below.refl _ _).alloc (Nat.le_refl _) _).alloc (by simp) _)).mono ?_
    rintro e w1 ⟨rfl, hb1⟩
    have r0 : w1.cell? ⟨w.heap.size + 1, 0, none⟩ = some (.int .i64 0) := keepC hb1 (by go_simp)
    have r1 : w1.cell? ⟨w.heap.size + 1, 1, none⟩ = some (.slice none 0 0) := keepC hb1 (by go_simp)
    have r2 : w1.cell? ⟨w.heap.size + 1, 2, none⟩ = some (.slice none 0 0) := keepC hb1 (by go_simp)
    have q0 : w1.frozen? ⟨w.heap.size + 1, 0, none⟩ = false := keepF hb1 (v := .int .i64 0) (by go_simp) (by go_simp)
    have q1 : w1.frozen? ⟨w.heap.size + 1, 1, none⟩ = false := keepF hb1 (v := .slice none 0 0) (by go_simp) (by go_simp)
    have q2 : w1.frozen? ⟨w.heap.size + 1, 2, none⟩ = false := keepF hb1 (v := .slice none 0 0) (by go_simp) (by go_simp)
    have hbb : Below w.heap.size w w1 := keepB (((Below.refl _ _).alloc (Nat.le_refl _) _).alloc (by simp) _) hb1
    clear hb1 CC
    go_wp2_with fail
    exact bodyPost_ret (v := .tuple #[.agg #[.int .i64 0, .slice none 0 0, .slice none 0 0], .int .i64 c]) (by simp [results, Try.results20, go_sem, r0, r1, r2]) rfl ⟨_, _, rfl, Own.nil_ _ _, Own.nil_ _ _, fun g hg => (by simp [Value.ownBlock] at hg), below_st (below_st (below_st hbb (by omega) _) (by omega) _) (by omega) _⟩
end Go.Proofs.Ytomokdepndclpaa

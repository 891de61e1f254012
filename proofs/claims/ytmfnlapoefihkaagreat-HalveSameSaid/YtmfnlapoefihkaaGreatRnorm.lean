/- The reference's Normal; it says what package cake's says. -/
import Derived.Test.YtmfnlapoefihkaaGreatNorm
namespace Go.Proofs.YtmfnlapoefihkaaGreat
open Go.RowKit
namespace Ck
def turn (d : List Int) : Nat → Bool
  | 0 => false
  | k + 1 => decide (at_ d (k + 1) ≠ at_ d k)
def rC (c d : List Int) : Nat → List Int
  | 0 => [0]
  | k + 1 => if turn d k then rC c d k ++ [at_ c k] else rC c d k
def rD (d : List Int) : Nat → List Int
  | 0 => []
  | k + 1 => if turn d k then rD d k ++ [at_ d (k - 1)] else rD d k
theorem rC_yes {c d : List Int} {k : Nat} (h : turn d (k + 1) = true) : rC c d (k + 1 + 1) = rC c d (k + 1) ++ [at_ c (k + 1)] := by
  show (if turn d (k + 1) then _ else _) = _
  rw [if_pos h]
theorem rC_no {c d : List Int} {k : Nat} (h : turn d k = false) : rC c d (k + 1) = rC c d k := by
  show (if turn d k then _ else _) = _
  rw [if_neg (by rw [h]; simp)]
theorem rD_yes {d : List Int} {k : Nat} (h : turn d (k + 1) = true) : rD d (k + 1 + 1) = rD d (k + 1) ++ [at_ d k] := by
  show (if turn d (k + 1) then _ else _) = _
  rw [if_pos h]
  rfl
theorem rD_no {d : List Int} {k : Nat} (h : turn d k = false) : rD d (k + 1) = rD d k := by
  show (if turn d k then _ else _) = _
  rw [if_neg (by rw [h]; simp)]
theorem rC_len (c d : List Int) : ∀ k, (rC c d k).length ≤ k + 1
  | 0 => Nat.le_refl _
  | k + 1 => by
    have := rC_len c d k
    unfold rC
    split
    · rw [List.length_append]; simp; omega
    · omega
theorem rD_len (d : List Int) : ∀ k, (rD d k).length ≤ k
  | 0 => Nat.le_refl _
  | k + 1 => by
    have := rD_len d k
    unfold rD
    split
    · rw [List.length_append]; simp; omega
    · omega
def rnorS (len : Int) (c d : List Int) : Int × List Int × List Int × Int :=
  if chk len c d = 0 then (len, rC c d d.length ++ [len], rD d d.length ++ [at_ d (d.length - 1)], 0) else (0, [], [], chk len c d)
theorem nC_rC {c d : List Int} (h0 : at_ c 0 = 0) : ∀ k, nC c d (k + 1) = rC c d (k + 1)
  | 0 => by
    rw [nC_yes (k := 0) rfl, rC_no (k := 0) rfl, h0]
    rfl
  | k + 1 => by
    have ih := nC_rC (d := d) h0 k
    by_cases e : at_ d (k + 1) = at_ d k
    · rw [nC_no (k := k + 1) (by unfold fresh; simp [e]), rC_no (k := k + 1) (by unfold turn; simp [e]), ih]
    · rw [nC_yes (k := k + 1) (by unfold fresh; simp [e]), rC_yes (k := k) (by unfold turn; simp [e]), ih]
theorem nD_rD {d : List Int} : ∀ k, nD d (k + 1) = rD d (k + 1) ++ [at_ d k]
  | 0 => by
    rw [nD_yes (k := 0) rfl, rD_no (k := 0) rfl]
    rfl
  | k + 1 => by
    have ih := nD_rD (d := d) k
    by_cases e : at_ d (k + 1) = at_ d k
    · rw [nD_no (k := k + 1) (by unfold fresh; simp [e]), rD_no (k := k + 1) (by unfold turn; simp [e]), ih, e]
    · rw [nD_yes (k := k + 1) (by unfold fresh; simp [e]), rD_yes (k := k) (by unfold turn; simp [e]), ih]
/-- Both say the same. -/
theorem rnorS_eq (len : Int) (c d : List Int) : rnorS len c d = norS len c d := by
  unfold rnorS norS
  by_cases h : chk len c d = 0
  · have hG := chk_good h
    obtain ⟨k, hk⟩ : ∃ k, d.length = k + 1 := ⟨d.length - 1, by have := hG.shape; omega⟩; rw [if_pos h, if_pos h, hk, nC_rC hG.first k, nD_rD k]
    rfl
  · rw [if_neg h, if_neg h]
end Ck
theorem NRel.start1 {w w1 : World} {len : Int} {K Z : Value} (hbb : Below w.heap.size w w1) (y0 : w1.cell? ⟨w.heap.size, 0, none⟩ = some (.int .i64 len)) (y1 : w1.cell? ⟨w.heap.size, 1, none⟩ = some K) (y2 : w1.cell? ⟨w.heap.size, 2, none⟩ = some Z)
    (r0 : w1.cell? ⟨w.heap.size + 1, 0, none⟩ = some (.int .i64 0)) (r1 : w1.cell? ⟨w.heap.size + 1, 1, none⟩ = some (.slice none 0 0)) (r2 : w1.cell? ⟨w.heap.size + 1, 2, none⟩ = some (.slice none 0 0))
    (q0 : w1.frozen? ⟨w.heap.size + 1, 0, none⟩ = false) (q1 : w1.frozen? ⟨w.heap.size + 1, 1, none⟩ = false) (q2 : w1.frozen? ⟨w.heap.size + 1, 2, none⟩ = false) (hNB : w.heap.size + 1 < w1.heap.size) (x : Int) (T : TypeId) {L : Int} :
    NRel w len K Z (w1.heap.size + 1) (.slice (some ⟨w1.heap.size, 0, none⟩) 1 1) (.slice none 0 0) [x] [] L ((w1.alloc (.cells #[.int .i64 x] 3)).alloc (.cells #[.int .i64 L, .slice (some ⟨w1.heap.size, 0, none⟩) 1 1, .slice none 0 0] T)) := by
  have hs : (w1.alloc (.cells #[.int .i64 x] 3)).heap.size = w1.heap.size + 1 := by simp
  have o1 : Own (w1.alloc (.cells #[.int .i64 x] 3)) (w.heap.size + 2) (.slice (some ⟨w1.heap.size, 0, none⟩) 1 1) [x] := World.ownsRow_lit w1 #[.int .i64 x] 1 (by omega) (by decide) rfl
  refine ⟨below_al (below_al hbb _) _, cell_alloc (cell_alloc y0 _) _, cell_alloc (cell_alloc y1 _) _, cell_alloc (cell_alloc y2 _) _, cell_alloc (cell_alloc r0 _) _, cell_alloc (cell_alloc r1 _) _, cell_alloc (cell_alloc r2 _) _,
    froz_alloc (cell_alloc r0 _) (froz_alloc r0 q0 _) _, froz_alloc (cell_alloc r1 _) (froz_alloc r1 q1 _) _, froz_alloc (cell_alloc r2 _) (froz_alloc r2 q2 _) _, ?_, ?_, ?_, ?_, ?_, World.ownsRow.alloc o1 _, Own.nil_ _ _, fun g _ => (by simp [Value.ownBlock]), by simp [Value.ownBlock], by simp [Value.ownBlock], by omega⟩
  · have := n30 (w1.alloc (.cells #[.int .i64 x] 3)) (.int .i64 L) (.slice (some ⟨w1.heap.size, 0, none⟩) 1 1) (.slice none 0 0) T
    rwa [hs] at this
  · have := n31 (w1.alloc (.cells #[.int .i64 x] 3)) (.int .i64 L) (.slice (some ⟨w1.heap.size, 0, none⟩) 1 1) (.slice none 0 0) T
    rwa [hs] at this
  · have := n32 (w1.alloc (.cells #[.int .i64 x] 3)) (.int .i64 L) (.slice (some ⟨w1.heap.size, 0, none⟩) 1 1) (.slice none 0 0) T
    rwa [hs] at this
  · have := newf (w1.alloc (.cells #[.int .i64 x] 3)) (.int .i64 L) (.slice (some ⟨w1.heap.size, 0, none⟩) 1 1) (.slice none 0 0) T 1
    rwa [hs] at this
  · have := newf (w1.alloc (.cells #[.int .i64 x] 3)) (.int .i64 L) (.slice (some ⟨w1.heap.size, 0, none⟩) 1 1) (.slice none 0 0) T 2
    rwa [hs] at this

set_option maxHeartbeats 8000000 in
set_option maxRecDepth 100000 in
theorem rckNormal_any (len : Int) (K : Option Addr) (cuts : List Int) (ck : Nat) (Z : Option Addr) (dens : List Int) (cz : Nat) (w : World) (h : IsCake w len K cuts Z dens) :
    Calls Tryz.prog 13 #[.agg #[.int .i64 len, .slice K cuts.length ck, .slice Z dens.length cz]] w fun e w' => ∃ v1 v2, e = .returned (.tuple #[.agg #[.int .i64 (Ck.rnorS len cuts dens).1, v1, v2], .int .i64 (Ck.rnorS len cuts dens).2.2.2]) ∧
      Own w' w.heap.size v1 (Ck.rnorS len cuts dens).2.1 ∧ Own w' w.heap.size v2 (Ck.rnorS len cuts dens).2.2.1 ∧ (∀ g, v1.ownBlock = some g → v2.ownBlock ≠ some g) ∧ Below w.heap.size w w' := by
  have cc := fun v (hb : Below w.heap.size w v) => rckCheck_any len K cuts ck Z dens cz v (h.keep hb)
  by_cases hc : Ck.chk len cuts dens = 0
  · have hG := Ck.chk_good hc
    have e : Ck.rnorS len cuts dens = (len, Ck.rC cuts dens dens.length ++ [len], Ck.rD dens dens.length ++ [Ck.at_ dens (dens.length - 1)], 0) := by unfold Ck.rnorS; rw [if_pos hc]
    rw [e]; rw [hc] at cc; have CC := Lib.hid cc; obtain ⟨⟨l0, l1⟩, _, iK, iZ⟩ := h; clear cc hc e; obtain ⟨bk, ok, rfl, hk⟩ := iK.1 (by have := hG.shape; omega); obtain ⟨bz, oz, rfl, hz⟩ := iZ.1 (by have := hG.shape; omega); obtain ⟨m, hm⟩ : ∃ m, dens.length = m := ⟨_, rfl⟩; have hsh := hG.shape
    have hn : cuts.length = m + 1 := by omega
    have hmm : m ≤ 39 := by omega
    have hm1 : 1 ≤ m := by omega
    have n1 : (((0 : Int)) != 0) = false := rfl; have QK := Lib.hid iK.bd; have QZ := Lib.hid iZ.bd; have HLC := Lib.hid (fun k => Ck.rC_len cuts dens k); have HLD := Lib.hid (fun k => Ck.rD_len dens k); obtain ⟨i0, hi0, hz0, hz1, hz2⟩ := info_parts intInfo; rw [hm] at hz; rw [hn] at hk; rw [hm, hn] at CC ⊢; have HK := Lib.hid hk; have HZ := Lib.hid hz; have HI := Lib.hid hi0; have HI2 := Lib.hid hz0; have HI3 := Lib.hid hz1; have HI4 := Lib.hid hz2; clear hk hz iK iZ hG hsh hi0 hz0 hz1 hz2 hm hn
    go_enter Tryz.func13, Tryz.ntmps13
    (go_wp2_with fail); refine (CC.out _ (((Below.refl _ _).alloc (Nat.le_refl _) _).alloc (by simp) _)).mono ?_; rintro e w1 ⟨rfl, hb1⟩; have y0 : w1.cell? ⟨w.heap.size, 0, none⟩ = some (.int .i64 len) := keepC hb1 (by go_simp); have y1 : w1.cell? ⟨w.heap.size, 1, none⟩ = some (.slice (some ⟨bk, ok, none⟩) (m + 1) ck) := keepC hb1 (by go_simp); have y2 : w1.cell? ⟨w.heap.size, 2, none⟩ = some (.slice (some ⟨bz, oz, none⟩) m cz) := keepC hb1 (by go_simp); have r0 : w1.cell? ⟨w.heap.size + 1, 0, none⟩ = some (.int .i64 0) := keepC hb1 (by go_simp); have r1 : w1.cell? ⟨w.heap.size + 1, 1, none⟩ = some (.slice none 0 0) := keepC hb1 (by go_simp); have r2 : w1.cell? ⟨w.heap.size + 1, 2, none⟩ = some (.slice none 0 0) := keepC hb1 (by go_simp); have q0 : w1.frozen? ⟨w.heap.size + 1, 0, none⟩ = false := keepF hb1 (v := .int .i64 0) (by go_simp) (by go_simp); have q1 : w1.frozen? ⟨w.heap.size + 1, 1, none⟩ = false := keepF hb1 (v := .slice none 0 0) (by go_simp) (by go_simp); have q2 : w1.frozen? ⟨w.heap.size + 1, 2, none⟩ = false := keepF hb1 (v := .slice none 0 0) (by go_simp) (by go_simp); have hbb : Below w.heap.size w w1 := keepB (((Below.refl _ _).alloc (Nat.le_refl _) _).alloc (by simp) _) hb1; have hNB : w.heap.size + 1 < w1.heap.size := lt_of_cell r0; clear hb1 CC
    go_upto_region 4 with fail
    refine at_worldQ (fun v => NRel w len (.slice (some ⟨bk, ok, none⟩) (m + 1) ck) (.slice (some ⟨bz, oz, none⟩) m cz) (w1.heap.size + 1) (.slice (some ⟨w1.heap.size, 0, none⟩) 1 1) (.slice none 0 0) [0] [] len v) (NRel.start1 hbb y0 y1 y2 r0 r1 r2 q0 q1 q2 hNB 0 44) (fun V hS => ?_); clear y0 y1 y2 r0 r1 r2 q0 q1 q2 hbb n1; obtain ⟨NB, hNBe⟩ : ∃ NB, w1.heap.size + 1 = NB := ⟨_, rfl⟩; rw [hNBe] at hS ⊢; clear hNB; (go_wp2_with fail)
    go_loopw [5] (fun i v => ∃ (k : Nat) (v1 v2 : Value), k ≤ m ∧ i = .int .i64 k ∧ NRel w len (.slice (some ⟨bk, ok, none⟩) (m + 1) ck) (.slice (some ⟨bz, oz, none⟩) m cz) NB v1 v2 (Ck.rC cuts dens k) (Ck.rD dens k) len v) (fun i _ => m - (intOf i).toNat)
    case atStart => exact ⟨0, _, _, Nat.zero_le _, rfl, hS⟩
    case round =>
      clear hS hNBe; obtain ⟨k, v1, v2, hk, rfl, hR⟩ := hrel
      by_cases hlt : k < m
      · rcases k with _ | k
        · have e0 : decide ((((0 : Nat) : Int)) > 0) = false := by decide
          have e0' : decide ((0 : Int) < 0) = false := by decide
          have ec2 := hR.c2; clear HK HZ QK QZ; (go_wp2_with fail)
          go_quiet (fail)
          go_wp2_with fail
          go_roundw
          case rel => exact ⟨1, v1, v2, by omega, by go_num, hR.drewN _⟩
          case measure => simp [intOf]; omega
        · have q1 := QK.out (k + 1)
          have q2 := QZ.out (k + 1); have q3 := QZ.out k
          unfold I64 at q1 q2 q3
          have e0 : decide (0 < (k : Int) + 1) = true := decide_eq_true (by omega)
          have a1 : (0 : Int) ≤ (k : Int) + 1 := by omega
          have a2 : ((k : Int) + 1).toNat = k + 1 := by omega
          have a3 : (k : Int) + 1 < (m : Int) + 1 := by omega
          have a4 : (k : Int) + 1 < (m : Int) := by omega
          have a5 : (0 : Int) ≤ (k : Int) := by omega
          have a6 : (k : Int) < (m : Int) := by omega
          have w1' : IntKind.i64.wrap ((k : Int) + 1 - 1) = (k : Int) := by rw [show (k : Int) + 1 - 1 = k by omega]; exact IntWalk.i64_in _ (by omega)
          have w2' : IntKind.i64.wrap (k : Int) = (k : Int) := IntWalk.i64_in _ (by omega); obtain ⟨x, hx0⟩ : ∃ x, Ck.at_ cuts (k + 1) = x := ⟨_, rfl⟩; obtain ⟨d, hd0⟩ : ∃ d, Ck.at_ dens (k + 1) = d := ⟨_, rfl⟩; obtain ⟨p, hp0⟩ : ∃ p, Ck.at_ dens k = p := ⟨_, rfl⟩; have HKx := Lib.hid (fun v (hb : Below w.heap.size w v) => hx0 ▸ keepC hb (HK.out (k + 1) (by omega))); have HZx := Lib.hid (fun v (hb : Below w.heap.size w v) => hd0 ▸ keepC hb (HZ.out (k + 1) (by omega))); have HZp := Lib.hid (fun v (hb : Below w.heap.size w v) => hp0 ▸ keepC hb (HZ.out k (by omega)))
          have hfx : Ck.turn dens (k + 1) = decide (d ≠ p) := by rw [← hd0, ← hp0]; rfl
          rw [hx0] at q1; rw [hd0] at q2; rw [hp0] at q3; have hx := Lib.hid hx0; have hp := Lib.hid hp0; clear hx0 hd0 hp0 HK HZ QK QZ; have zx := HZx.out _ hR.bb; have zp := HZp.out _ hR.bb; have ec2 := hR.c2
          by_cases hdp : d = p
          · have e1 : (d != p) = false := by rw [hdp]; simp
            have hfr := Lib.hid (show Ck.turn dens (k + 1) = false by rw [hfx, hdp]; simp); have HXC := Lib.hid (Ck.rC_no (c := cuts) hfr.out); have HXD := Lib.hid (Ck.rD_no hfr.out); clear hfx hdp hfr hx hp HKx HZx HZp; (go_wp2_with fail)
            go_quiet (fail)
            go_wp2_with fail
            go_roundw
            case rel => exact ⟨k + 1 + 1, v1, v2, by omega, by go_num, by rw [HXC.out, HXD.out]; exact hR.drewN _⟩
            case measure => simp [intOf]; omega
          · have e1 : (d != p) = true := by rw [bne_iff_ne]; exact hdp
            have hfr := Lib.hid (show Ck.turn dens (k + 1) = true by rw [hfx, decide_eq_true hdp])
            have hxC : Ck.rC cuts dens (k + 1 + 1) = (Ck.rC cuts dens (k + 1)) ++ [x] := by rw [← hx.out]; exact Ck.rC_yes hfr.out
            have hxD : Ck.rD dens (k + 1 + 1) = (Ck.rD dens (k + 1)) ++ [p] := by rw [← hp.out]; exact Ck.rD_yes hfr.out
            have HXC := Lib.hid hxC; have HXD := Lib.hid hxD; have hl1 := HLC.out (k + 1); have hl2 := HLD.out (k + 1); clear hxC hxD hx hp hfr hfx hdp; (go_wp2_with fail)
            go_quiet (fail)
            go_upto_region 8 with fail
            refine at_worldQ (fun v => NRel w len (.slice (some ⟨bk, ok, none⟩) (m + 1) ck) (.slice (some ⟨bz, oz, none⟩) m cz) NB v1 v2 (Ck.rC cuts dens (k + 1)) (Ck.rD dens (k + 1)) len v) (hR.drewN _) (fun wq hq => ?_); clear hR zx zp ec2; have hR := hq; clear hq
            generalize Ck.rC cuts dens (k + 1) = X at *
            generalize Ck.rD dens (k + 1) = Y at *
            obtain ⟨A1, p1, rfl⟩ := hR.o1.form; obtain ⟨A2, p2, rfl⟩ := hR.o2.form; have lN := lt_of_cell hR.n0; have ec1 := hR.c1; have en1 := hR.n1; have ef1 := hR.f1; have cx := HKx.out _ hR.bb
            go_cut [] (fun wx => ∃ g cap, NRel w len (.slice (some ⟨bk, ok, none⟩) (m + 1) ck) (.slice (some ⟨bz, oz, none⟩) m cz) NB (.slice (some ⟨g, 0, none⟩) (X.length + 1) cap) (.slice A2 Y.length p2) (X ++ [x]) Y len wx)
            case first =>
              go_region_law ((refine step_append_lies _ (by rfl) _ _ _ (by rfl) (w.heap.size + 2) 3 i0 _ 1 8 Tryz.underlying42 HI.out HI2.out HI3.out HI4.out rfl (by omega) (.slice A1 X.length p1) X.length (X.map (Value.int .i64)) (by rfl) (World.ownsRow.alloc (World.ownsRow.drew hR.o1) _) ⟨wq.heap.size, 0, none⟩ 1 1 [.int .i64 x] (by rfl) (by rfl) (World.news_of_block (cs := #[.int .i64 x]) (t := 3) (fr := (0, 0)) (heap_alloc_new wq.drew _)) (by simp [Value.oneCell']) (by omega) (by unfold maxLen; omega) (by omega) (by have := hR.hN; simp; omega) (wq.heap.size + 1) (by simp) ?_; intro g cap w1 hown1 hgrow hat hlt; have hpr := hR.pre1 (((Below.refl _ wq).drew).alloc (Nat.le_refl _) _) hgrow; have hp1 := hpr.1; have hp2 := hpr.2))
              all_goals
                (try go_wp2_with fail)
                go_meet
                have hnew := hR.app1 (((Below.refl _ wq).drew).alloc (Nat.le_refl _) _) hown1 hgrow (hat.imp id (fun e => by rw [e]; simp)); exact ⟨g, cap, hnew⟩
            case rest =>
              clear ec1 en1 ef1 cx lN hR; obtain ⟨g1, c1, hR2⟩ := hcut; have lN := lt_of_cell hR2.n0; have en2 := hR2.n2; have ef2 := hR2.f2; have ec2 := hR2.c2; have zp := HZp.out _ hR2.bb
              go_upto_region 9 with fail
              go_region_law ((refine step_append_lies _ (by rfl) _ _ _ (by rfl) (w.heap.size + 2) 3 i0 _ 1 8 Tryz.underlying42 HI.out HI2.out HI3.out HI4.out rfl (by omega) (.slice A2 Y.length p2) Y.length (Y.map (Value.int .i64)) (by rfl) (World.ownsRow.alloc (World.ownsRow.drew hR2.o2) _) ⟨wc.heap.size, 0, none⟩ 1 1 [.int .i64 p] (by rfl) (by rfl) (World.news_of_block (cs := #[.int .i64 p]) (t := 3) (fr := (0, 0)) (heap_alloc_new wc.drew _)) (by simp [Value.oneCell']) (by omega) (by unfold maxLen; omega) (by omega) (by have := hR2.hN; simp; omega) (wc.heap.size + 1) (by simp) ?_; intro g cap w1 hown1 hgrow hat hlt; have hpr := hR2.pre2 (((Below.refl _ wc).drew).alloc (Nat.le_refl _) _) hgrow; have hp1 := hpr.1; have hp2 := hpr.2))
              all_goals
                have hnew := hR2.app2 (((Below.refl _ wc).drew).alloc (Nat.le_refl _) _) hown1 hgrow (hat.imp id (fun e => by rw [e]; simp)); (go_wp2_with fail)
                go_roundw
                case rel => exact ⟨k + 1 + 1, _, _, by omega, by go_num, by rw [HXC.out, HXD.out]; exact hnew⟩
                case measure => simp [intOf]; omega
      · obtain rfl : k = m := by omega
        obtain ⟨j, rfl⟩ : ∃ j, k = j + 1 := ⟨k - 1, by omega⟩; obtain ⟨A1, p1, rfl⟩ := hR.o1.form; obtain ⟨A2, p2, rfl⟩ := hR.o2.form; have lN := lt_of_cell hR.n0; have hl1 := HLC.out (j + 1); have hl2 := HLD.out (j + 1); have ec0 := hR.c0; have ec2 := hR.c2; have en1 := hR.n1; have ef1 := hR.f1; have HY := Lib.hid (fun v (hb : Below w.heap.size w v) => keepC hb (HZ.out j (by omega))); have q3 := QZ.out j
        unfold I64 at q3
        clear HK HZ QK QZ
        go_upto_region 11 with (at_builtin; refine wpList_append_lies _ rfl _ _ _ rfl (w.heap.size + 2) 3 i0 _ 1 8 Tryz.underlying42 HI.out HI2.out HI3.out HI4.out rfl (by omega) (.slice A1 (Ck.rC cuts dens (j + 1)).length p1) (Ck.rC cuts dens (j + 1)).length ((Ck.rC cuts dens (j + 1)).map (Value.int .i64)) (by rfl) (World.ownsRow.alloc hR.o1 _) ⟨wr.heap.size, 0, none⟩ 1 1 [.int .i64 len] (by rfl) (by rfl) (World.news_of_block (cs := #[.int .i64 len]) (t := 3) (fr := (0, 0)) (heap_alloc_new wr _)) (by simp [Value.oneCell']) (by omega) (by unfold maxLen; omega) (by omega) (by have := hR.hN; simp; omega) (wr.heap.size + 1) (by simp) ?_; intro g1 c1 w1 hown1 hgrow hat hlt; have hpr := hR.pre1 ((Below.refl _ wr).alloc (Nat.le_refl _) _) hgrow; have hp1 := hpr.1; have hp2 := hpr.2)
        have hR2 := hR.app1 ((Below.refl _ wr).alloc (Nat.le_refl _) _) hown1 hgrow (hat.imp id (fun e => by rw [e]; simp)); refine at_worldQ (fun v => NRel w len (.slice (some ⟨bk, ok, none⟩) (j + 1 + 1) ck) (.slice (some ⟨bz, oz, none⟩) (j + 1) cz) NB (.slice (some ⟨g1, 0, none⟩) ((Ck.rC cuts dens (j + 1)).length + 1) c1) (.slice A2 (Ck.rD dens (j + 1)).length p2) (Ck.rC cuts dens (j + 1) ++ [len]) (Ck.rD dens (j + 1)) len v) hR2 (fun V hS => ?_); clear hR hR2 hpr hp1 hp2 hown1 hgrow hat hlt ec0 ec2 en1 ef1 lN; have hR2 := hS; have lN := lt_of_cell hR2.n0; have en2 := hR2.n2; have ef2 := hR2.f2; have ec2 := hR2.c2; have zy := HY.out _ hR2.bb
        have b1 : IntKind.i64.wrap ((j : Int) + 1 - 1) = (j : Int) := by rw [show (j : Int) + 1 - 1 = j by omega]; exact IntWalk.i64_in _ (by omega)
        have b0 : IntKind.i64.wrap (j : Int) = (j : Int) := IntWalk.i64_in _ (by omega)
        have b2 : (0 : Int) ≤ (j : Int) := by omega
        have b3 : (j : Int) < (j : Int) + 1 := by omega
        obtain ⟨y, hy⟩ : ∃ y, Ck.at_ dens j = y := ⟨_, rfl⟩; rw [hy] at zy q3; have HYY := Lib.hid hy; clear hy hS HY
        go_cut [] (fun wx => ∃ g cap, NRel w len (.slice (some ⟨bk, ok, none⟩) (j + 1 + 1) ck) (.slice (some ⟨bz, oz, none⟩) (j + 1) cz) NB (.slice (some ⟨g1, 0, none⟩) ((Ck.rC cuts dens (j + 1)).length + 1) c1) (.slice (some ⟨g, 0, none⟩) ((Ck.rD dens (j + 1)).length + 1) cap) (Ck.rC cuts dens (j + 1) ++ [len]) (Ck.rD dens (j + 1) ++ [y]) len wx)
        case first =>
          go_region_law ((refine step_append_lies _ (by rfl) _ _ _ (by rfl) (w.heap.size + 2) 3 i0 _ 1 8 Tryz.underlying42 HI.out HI2.out HI3.out HI4.out rfl (by omega) (.slice A2 (Ck.rD dens (j + 1)).length p2) (Ck.rD dens (j + 1)).length ((Ck.rD dens (j + 1)).map (Value.int .i64)) (by rfl) (World.ownsRow.alloc (World.ownsRow.drew hR2.o2) _) ⟨V.heap.size, 0, none⟩ 1 1 [.int .i64 y] (by rfl) (by rfl) (World.news_of_block (cs := #[.int .i64 y]) (t := 3) (fr := (0, 0)) (heap_alloc_new V.drew _)) (by simp [Value.oneCell']) (by omega) (by unfold maxLen; omega) (by omega) (by have := hR2.hN; simp; omega) (V.heap.size + 1) (by simp) ?_; intro g cap w1 hown1 hgrow hat hlt; have hpr := hR2.pre2 (((Below.refl _ V).drew).alloc (Nat.le_refl _) _) hgrow; have hp1 := hpr.1; have hp2 := hpr.2))
          all_goals
            (try go_wp2_with fail)
            go_meet
            have hnew := hR2.app2 (((Below.refl _ V).drew).alloc (Nat.le_refl _) _) hown1 hgrow (hat.imp id (fun e => by rw [e]; simp)); exact ⟨g, cap, hnew⟩
        case rest =>
          clear en2 ef2 ec2 zy lN hR2; obtain ⟨g2, c2, hS⟩ := hcut; have n0 := hS.n0; have n1 := hS.n1; have n2 := hS.n2; have r0 := hS.r0; have r1 := hS.r1; have r2 := hS.r2; have q0 := hS.q0; have q1 := hS.q1; have q2 := hS.q2; have hN := hS.hN; have O1 := hS.o1; have O2 := hS.o2; have hap := hS.ap; have hbb := hS.bb; clear hS
          have b1' : (Value.slice (some ⟨g1, 0, none⟩) ((Ck.rC cuts dens (j + 1)).length + 1) c1).ownBlock ≠ some (w.heap.size + 1) := fun e => by have := (O1.lt _ e).1; omega
          have b2' : (Value.slice (some ⟨g2, 0, none⟩) ((Ck.rD dens (j + 1)).length + 1) c2).ownBlock ≠ some (w.heap.size + 1) := fun e => by have := (O2.lt _ e).1; omega
          go_wp2_with fail
          exact bodyPost_ret (v := .tuple #[.agg #[.int .i64 len, .slice (some ⟨g1, 0, none⟩) ((Ck.rC cuts dens (j + 1)).length + 1) c1, .slice (some ⟨g2, 0, none⟩) ((Ck.rD dens (j + 1)).length + 1) c2], .int .i64 0]) (by simp [results, Tryz.results13, go_sem, r0, r1, r2]) rfl
            ⟨_, _, rfl, Own.mono (((O1.set b1' _).set b1' _).set b1' _) (Nat.le_add_right _ 2), HYY.out ▸ Own.mono (((O2.set b2' _).set b2' _).set b2' _) (Nat.le_add_right _ 2), hap, below_st (below_st (below_st hbb (by omega) _) (by omega) _) (by omega) _⟩
  · have e : Ck.rnorS len cuts dens = (0, [], [], Ck.chk len cuts dens) := by unfold Ck.rnorS; rw [if_neg hc]
    rw [e]
    generalize Ck.chk len cuts dens = c at *
    have n1 : (c != 0) = true := by rw [bne_iff_ne]; exact hc
    have CC := Lib.hid cc; clear cc hc e h
    go_enter Tryz.func13, Tryz.ntmps13
    (go_wp2_with fail); refine (CC.out _ (((Below.refl _ _).alloc (Nat.le_refl _) _).alloc (by simp) _)).mono ?_; rintro e w1 ⟨rfl, hb1⟩; have HB1 := Lib.hid hb1; have r0 : w1.cell? ⟨w.heap.size + 1, 0, none⟩ = some (.int .i64 0) := keepC hb1 (by go_simp); have r1 : w1.cell? ⟨w.heap.size + 1, 1, none⟩ = some (.slice none 0 0) := keepC hb1 (by go_simp); have r2 : w1.cell? ⟨w.heap.size + 1, 2, none⟩ = some (.slice none 0 0) := keepC hb1 (by go_simp); have q0 : w1.frozen? ⟨w.heap.size + 1, 0, none⟩ = false := keepF hb1 (v := .int .i64 0) (by go_simp) (by go_simp); have q1 : w1.frozen? ⟨w.heap.size + 1, 1, none⟩ = false := keepF hb1 (v := .slice none 0 0) (by go_simp) (by go_simp); have q2 : w1.frozen? ⟨w.heap.size + 1, 2, none⟩ = false := keepF hb1 (v := .slice none 0 0) (by go_simp) (by go_simp); have hbb : Below w.heap.size w w1 := keepB (((Below.refl _ _).alloc (Nat.le_refl _) _).alloc (by simp) _) hb1; clear hb1; have y0 : w1.cell? ⟨w.heap.size, 0, none⟩ = some (.int .i64 len) := keepC HB1.out (by go_simp); have y1 : w1.cell? ⟨w.heap.size, 1, none⟩ = some (.slice K cuts.length ck) := keepC HB1.out (by go_simp); have y2 : w1.cell? ⟨w.heap.size, 2, none⟩ = some (.slice Z dens.length cz) := keepC HB1.out (by go_simp); clear HB1; (go_wp2_with fail); refine (CC.out _ hbb).mono ?_; rintro e w2 ⟨rfl, hb2⟩; replace q0 := keepF hb2 r0 q0; replace q1 := keepF hb2 r1 q1; replace q2 := keepF hb2 r2 q2; replace r0 := keepC hb2 r0; replace r1 := keepC hb2 r1; replace r2 := keepC hb2 r2; replace hbb := keepB hbb hb2; clear hb2 CC y0 y1 y2; (go_wp2_with fail); exact bodyPost_ret (v := .tuple #[.agg #[.int .i64 0, .slice none 0 0, .slice none 0 0], .int .i64 c]) (by simp [results, Tryz.results13, go_sem, r0, r1, r2]) rfl ⟨_, _, rfl, Own.nil_ _ _, Own.nil_ _ _, fun g hg => (by simp [Value.ownBlock] at hg), below_st (below_st (below_st hbb (by omega) _) (by omega) _) (by omega) _⟩
end Go.Proofs.YtmfnlapoefihkaaGreat


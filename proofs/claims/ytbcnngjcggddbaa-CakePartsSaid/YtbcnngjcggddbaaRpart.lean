/- The reference's Part. -/
import Derived.Test.YtbcnngjcggddbaaRnorm
import Derived.Test.YtbcnngjcggddbaaPartm
namespace Go.Proofs.Ytbcnngjcggddbaa
open Go.RowKit
theorem Ck.pC_bd {len : Int} {c d : List Int} {a b : Int} (h : Ck.Good len c d) (h0 : 0 ≤ a) (h1 : a < b) (h2 : b ≤ len) : ∀ k, k ≤ d.length → ∀ x ∈ Ck.pC c a b k, I64 x
  | 0, _, x, hx => by
    have : x = 0 := by simpa [Ck.pC] using hx
    subst this
    exact ⟨by decide, by decide⟩
  | k + 1, hk, x, hx => by
    have ih := Ck.pC_bd h h0 h1 h2 k (by omega)
    unfold Ck.pC at hx
    split at hx
    · rcases List.mem_append.1 hx with hx | hx
      · exact ih x hx
      · have : x = min b (Ck.at_ c (k + 1)) - a := by simpa using hx
        subst this
        have := h.range (k + 1) hk
        have := h.len1
        exact ⟨by omega, by omega⟩
    · exact ih x hx
theorem Ck.pD_bd {c d : List Int} {a b : Int} (h : ∀ k, I64 (Ck.at_ d k)) : ∀ k, ∀ x ∈ Ck.pD c d a b k, I64 x
  | 0, x, hx => by simp [Ck.pD] at hx
  | k + 1, x, hx => by
    have ih := Ck.pD_bd (c := c) (a := a) (b := b) h k
    unfold Ck.pD at hx
    split at hx
    · rcases List.mem_append.1 hx with hx | hx
      · exact ih x hx
      · have : x = Ck.at_ d k := by simpa using hx
        subst this
        exact h k
    · exact ih x hx

set_option maxHeartbeats 8000000 in
set_option maxRecDepth 100000 in
theorem rckPart_any (len : Int) (K : Option Addr) (cuts : List Int) (ck : Nat) (Z : Option Addr) (dens : List Int) (cz : Nat) (a b : Int) (w : World) (h : IsCake w len K cuts Z dens) (ha : I64 a) (hb : I64 b) :
    Calls Try.prog 33 #[.agg #[.int .i64 len, .slice K cuts.length ck, .slice Z dens.length cz], .int .i64 a, .int .i64 b] w fun e w' => ∃ v1 v2, e = .returned (.tuple #[.agg #[.int .i64 (Ck.parS len cuts dens a b).1, v1, v2], .int .i64 (Ck.parS len cuts dens a b).2.2.2]) ∧ Own w' w.heap.size v1 (Ck.parS len cuts dens a b).2.1 ∧ Own w' w.heap.size v2 (Ck.parS len cuts dens a b).2.2.1 ∧ (∀ g, v1.ownBlock = some g → v2.ownBlock ≠ some g) ∧ Below w.heap.size w w' := by
  have cc := fun v (hb : Below w.heap.size w v) => rckCheck_any len K cuts ck Z dens cz v (h.keep hb)
  unfold I64 at ha hb
  by_cases hc : Ck.chk len cuts dens = 0
  · have hG := Ck.chk_good hc
    rw [hc] at cc
    have n1 : (((0 : Int)) != 0) = false := rfl
    have CC := Lib.hid cc
    by_cases hw : a < 0 ∨ len < b ∨ b ≤ a
    · have e : Ck.parS len cuts dens a b = (0, [], [], 2) := by unfold Ck.parS; rw [if_pos hc, if_pos hw]
      rw [e]
      have hl := h.1
      unfold I64 at hl
      clear cc hc e hG h
      by_cases w1 : a < 0
      · have d1 : decide (a < 0) = true := decide_eq_true w1
        go_enter Try.func33, Try.ntmps33
        go_wp2_with fail
        refine (CC.out _ (((Below.refl _ _).alloc (Nat.le_refl _) _).alloc (by simp) _)).mono ?_
        rintro e w1 ⟨rfl, hb1⟩
        have y0 : w1.cell? ⟨w.heap.size, 0, none⟩ = some (.int .i64 len) := keepC hb1 (by go_simp)
        have y1 : w1.cell? ⟨w.heap.size, 1, none⟩ = some (.slice K cuts.length ck) := keepC hb1 (by go_simp)
        have y2 : w1.cell? ⟨w.heap.size, 2, none⟩ = some (.slice Z dens.length cz) := keepC hb1 (by go_simp)
        have r0 : w1.cell? ⟨w.heap.size + 1, 0, none⟩ = some (.int .i64 0) := keepC hb1 (by go_simp)
        have q0 : w1.frozen? ⟨w.heap.size + 1, 0, none⟩ = false := keepF hb1 (v := .int .i64 0) (by go_simp) (by go_simp)
        have r1 : w1.cell? ⟨w.heap.size + 1, 1, none⟩ = some (.slice none 0 0) := keepC hb1 (by go_simp)
        have q1 : w1.frozen? ⟨w.heap.size + 1, 1, none⟩ = false := keepF hb1 (v := .slice none 0 0) (by go_simp) (by go_simp)
        have r2 : w1.cell? ⟨w.heap.size + 1, 2, none⟩ = some (.slice none 0 0) := keepC hb1 (by go_simp)
        have q2 : w1.frozen? ⟨w.heap.size + 1, 2, none⟩ = false := keepF hb1 (v := .slice none 0 0) (by go_simp) (by go_simp)
        have hbb : Below w.heap.size w w1 := keepB (((Below.refl _ _).alloc (Nat.le_refl _) _).alloc (by simp) _) hb1
        clear hb1
        clear CC
        go_wp2_with fail
        exact bodyPost_ret (v := .tuple #[.agg #[.int .i64 0, .slice none 0 0, .slice none 0 0], .int .i64 2]) (by simp [results, Try.results33, go_sem, r0, r1, r2]) rfl ⟨_, _, rfl, Own.nil_ _ _, Own.nil_ _ _, fun g hg => (by simp [Value.ownBlock] at hg), below_st (below_st (below_st hbb (by omega) _) (by omega) _) (by omega) _⟩
      · have d1 : decide (a < 0) = false := decide_eq_false w1
        by_cases w2 : len < b
        · have d2 : decide (len < b) = true := decide_eq_true w2
          go_enter Try.func33, Try.ntmps33
          go_wp2_with fail
          refine (CC.out _ (((Below.refl _ _).alloc (Nat.le_refl _) _).alloc (by simp) _)).mono ?_
          rintro e w1 ⟨rfl, hb1⟩
          have y0 : w1.cell? ⟨w.heap.size, 0, none⟩ = some (.int .i64 len) := keepC hb1 (by go_simp)
          have y1 : w1.cell? ⟨w.heap.size, 1, none⟩ = some (.slice K cuts.length ck) := keepC hb1 (by go_simp)
          have y2 : w1.cell? ⟨w.heap.size, 2, none⟩ = some (.slice Z dens.length cz) := keepC hb1 (by go_simp)
          have r0 : w1.cell? ⟨w.heap.size + 1, 0, none⟩ = some (.int .i64 0) := keepC hb1 (by go_simp)
          have q0 : w1.frozen? ⟨w.heap.size + 1, 0, none⟩ = false := keepF hb1 (v := .int .i64 0) (by go_simp) (by go_simp)
          have r1 : w1.cell? ⟨w.heap.size + 1, 1, none⟩ = some (.slice none 0 0) := keepC hb1 (by go_simp)
          have q1 : w1.frozen? ⟨w.heap.size + 1, 1, none⟩ = false := keepF hb1 (v := .slice none 0 0) (by go_simp) (by go_simp)
          have r2 : w1.cell? ⟨w.heap.size + 1, 2, none⟩ = some (.slice none 0 0) := keepC hb1 (by go_simp)
          have q2 : w1.frozen? ⟨w.heap.size + 1, 2, none⟩ = false := keepF hb1 (v := .slice none 0 0) (by go_simp) (by go_simp)
          have hbb : Below w.heap.size w w1 := keepB (((Below.refl _ _).alloc (Nat.le_refl _) _).alloc (by simp) _) hb1
          clear hb1
          clear CC
          go_wp2_with fail
          exact bodyPost_ret (v := .tuple #[.agg #[.int .i64 0, .slice none 0 0, .slice none 0 0], .int .i64 2]) (by simp [results, Try.results33, go_sem, r0, r1, r2]) rfl ⟨_, _, rfl, Own.nil_ _ _, Own.nil_ _ _, fun g hg => (by simp [Value.ownBlock] at hg), below_st (below_st (below_st hbb (by omega) _) (by omega) _) (by omega) _⟩
        · have d2 : decide (len < b) = false := decide_eq_false w2
          have d3 : decide (b ≤ a) = true := decide_eq_true (by omega)
          go_enter Try.func33, Try.ntmps33
          go_wp2_with fail
          refine (CC.out _ (((Below.refl _ _).alloc (Nat.le_refl _) _).alloc (by simp) _)).mono ?_
          rintro e w1 ⟨rfl, hb1⟩
          have y0 : w1.cell? ⟨w.heap.size, 0, none⟩ = some (.int .i64 len) := keepC hb1 (by go_simp)
          have y1 : w1.cell? ⟨w.heap.size, 1, none⟩ = some (.slice K cuts.length ck) := keepC hb1 (by go_simp)
          have y2 : w1.cell? ⟨w.heap.size, 2, none⟩ = some (.slice Z dens.length cz) := keepC hb1 (by go_simp)
          have r0 : w1.cell? ⟨w.heap.size + 1, 0, none⟩ = some (.int .i64 0) := keepC hb1 (by go_simp)
          have q0 : w1.frozen? ⟨w.heap.size + 1, 0, none⟩ = false := keepF hb1 (v := .int .i64 0) (by go_simp) (by go_simp)
          have r1 : w1.cell? ⟨w.heap.size + 1, 1, none⟩ = some (.slice none 0 0) := keepC hb1 (by go_simp)
          have q1 : w1.frozen? ⟨w.heap.size + 1, 1, none⟩ = false := keepF hb1 (v := .slice none 0 0) (by go_simp) (by go_simp)
          have r2 : w1.cell? ⟨w.heap.size + 1, 2, none⟩ = some (.slice none 0 0) := keepC hb1 (by go_simp)
          have q2 : w1.frozen? ⟨w.heap.size + 1, 2, none⟩ = false := keepF hb1 (v := .slice none 0 0) (by go_simp) (by go_simp)
          have hbb : Below w.heap.size w w1 := keepB (((Below.refl _ _).alloc (Nat.le_refl _) _).alloc (by simp) _) hb1
          clear hb1
          clear CC
          go_wp2_with fail
          exact bodyPost_ret (v := .tuple #[.agg #[.int .i64 0, .slice none 0 0, .slice none 0 0], .int .i64 2]) (by simp [results, Try.results33, go_sem, r0, r1, r2]) rfl ⟨_, _, rfl, Own.nil_ _ _, Own.nil_ _ _, fun g hg => (by simp [Value.ownBlock] at hg), below_st (below_st (below_st hbb (by omega) _) (by omega) _) (by omega) _⟩
    · have h0 : 0 ≤ a := by omega
      have h1 : a < b := by omega
      have h2 : b ≤ len := by omega
      have d1 : decide (a < 0) = false := decide_eq_false (by omega)
      have d2 : decide (len < b) = false := decide_eq_false (by omega)
      have d3 : decide (b ≤ a) = false := decide_eq_false (by omega)
      obtain ⟨⟨l0, l1⟩, _, iK, iZ⟩ := h
      obtain ⟨bk, ok, rfl, hk⟩ := iK.1 (by have := hG.shape; omega)
      obtain ⟨bz, oz, rfl, hz⟩ := iZ.1 (by have := hG.shape; omega)
      obtain ⟨m, hm⟩ : ∃ m, dens.length = m := ⟨_, rfl⟩
      have hsh := hG.shape
      have hn : cuts.length = m + 1 := by omega
      have hmm : m ≤ 39 := by omega
      have hl1 := hG.len1
      have QR := Lib.hid (fun k (hk : k ≤ m) => hG.range k (by omega))
      have QZ := Lib.hid iZ.bd
      have HBC := Lib.hid (fun k (hk : k ≤ m) => Ck.pC_bd hG h0 h1 h2 k (by omega))
      have HBD := Lib.hid (fun k => Ck.pD_bd (c := cuts) (a := a) (b := b) iZ.bd k)
      have HLC := Lib.hid (fun k => Ck.pC_len cuts a b k)
      have HLD := Lib.hid (fun k => Ck.pD_len cuts dens a b k)
      obtain ⟨⟨R1, R2, R3, R4⟩, hR⟩ : ∃ R, Ck.parS len cuts dens a b = R := ⟨_, rfl⟩
      rw [hR]
      have HPar := Lib.hid (show (if Ck.chk (b - a) (Ck.pC cuts a b m) (Ck.pD cuts dens a b m) = 0 then (b - a, Ck.pC cuts a b m, Ck.pD cuts dens a b m, (0 : Int)) else (0, [], [], 6)) = (R1, R2, R3, R4) by
        rw [← hR, ← hm]
        unfold Ck.parS
        rw [if_pos hc, if_neg hw])
      obtain ⟨i0, hi0, hz0, hz1, hz2⟩ := info_parts intInfo
      rw [hm] at hz
      rw [hn] at hk
      rw [hm, hn] at CC ⊢
      have HK := Lib.hid hk
      have HZ := Lib.hid hz
      have HI := Lib.hid hi0
      have HI2 := Lib.hid hz0
      have HI3 := Lib.hid hz1
      have HI4 := Lib.hid hz2
      clear hk hz iK iZ hG hsh hi0 hz0 hz1 hz2 hm hn hR hc hw cc
      go_enter Try.func33, Try.ntmps33
      go_wp2_with fail
      refine (CC.out _ (((Below.refl _ _).alloc (Nat.le_refl _) _).alloc (by simp) _)).mono ?_
      rintro e w1 ⟨rfl, hb1⟩
      have y0 : w1.cell? ⟨w.heap.size, 0, none⟩ = some (.int .i64 len) := keepC hb1 (by go_simp)
      have y1 : w1.cell? ⟨w.heap.size, 1, none⟩ = some (.slice (some ⟨bk, ok, none⟩) (m + 1) ck) := keepC hb1 (by go_simp)
      have y2 : w1.cell? ⟨w.heap.size, 2, none⟩ = some (.slice (some ⟨bz, oz, none⟩) m cz) := keepC hb1 (by go_simp)
      have r0 : w1.cell? ⟨w.heap.size + 1, 0, none⟩ = some (.int .i64 0) := keepC hb1 (by go_simp)
      have q0 : w1.frozen? ⟨w.heap.size + 1, 0, none⟩ = false := keepF hb1 (v := .int .i64 0) (by go_simp) (by go_simp)
      have r1 : w1.cell? ⟨w.heap.size + 1, 1, none⟩ = some (.slice none 0 0) := keepC hb1 (by go_simp)
      have q1 : w1.frozen? ⟨w.heap.size + 1, 1, none⟩ = false := keepF hb1 (v := .slice none 0 0) (by go_simp) (by go_simp)
      have r2 : w1.cell? ⟨w.heap.size + 1, 2, none⟩ = some (.slice none 0 0) := keepC hb1 (by go_simp)
      have q2 : w1.frozen? ⟨w.heap.size + 1, 2, none⟩ = false := keepF hb1 (v := .slice none 0 0) (by go_simp) (by go_simp)
      have hbb : Below w.heap.size w w1 := keepB (((Below.refl _ _).alloc (Nat.le_refl _) _).alloc (by simp) _) hb1
      clear hb1
      have hNB : w.heap.size + 1 < w1.heap.size := lt_of_cell r0
      clear CC
      go_upto_region 6 with fail
      refine at_worldQ (fun v => NRel w len (.slice (some ⟨bk, ok, none⟩) (m + 1) ck) (.slice (some ⟨bz, oz, none⟩) m cz) (w1.heap.size + 1) (.slice (some ⟨w1.heap.size, 0, none⟩) 1 1) (.slice none 0 0) [0] [] (b - a) v) (NRel.start1 hbb y0 y1 y2 r0 r1 r2 q0 q1 q2 hNB 0 27) (fun V hS => ?_)
      clear y0 y1 y2 r0 r1 r2 q0 q1 q2 hbb n1 d1 d2 d3
      obtain ⟨NB, hNBe⟩ : ∃ NB, w1.heap.size + 1 = NB := ⟨_, rfl⟩
      rw [hNBe] at hS ⊢
      clear hNB
      go_wp2_with fail
      go_loopw [9] (fun i v => ∃ (k : Nat) (v1 v2 : Value), k ≤ m ∧ i = .int .i64 k ∧ NRel w len (.slice (some ⟨bk, ok, none⟩) (m + 1) ck) (.slice (some ⟨bz, oz, none⟩) m cz) NB v1 v2 (Ck.pC cuts a b k) (Ck.pD cuts dens a b k) (b - a) v) (fun i _ => m - (intOf i).toNat)
      case atStart => exact ⟨0, _, _, Nat.zero_le _, rfl, hS⟩
      case round =>
        clear hS hNBe
        obtain ⟨k, v1, v2, hk, rfl, hR⟩ := hrel
        by_cases hlt : k < m
        · have cx := keepC hR.bb (HK.out k (by omega))
          have cy := keepC hR.bb (HK.out (k + 1) (by omega))
          have r0 := QR.out k (by omega)
          have r1 := QR.out (k + 1) (by omega)
          have q2 := QZ.out k
          unfold I64 at q2
          have a1 : (0 : Int) ≤ (k : Int) + 1 := by omega
          have a2 : ((k : Int) + 1).toNat = k + 1 := by omega
          have a3 : (k : Int) + 1 < (m : Int) + 1 := by omega
          have a4 : (k : Int) < (m : Int) := by omega
          have a5 : (0 : Int) ≤ (k : Int) := by omega
          have a6 : IntKind.i64.wrap ((k : Int) + 1) = (k : Int) + 1 := IntWalk.i64_in _ (by omega)
          obtain ⟨x, hx0⟩ : ∃ x, Ck.at_ cuts k = x := ⟨_, rfl⟩
          obtain ⟨y, hy0⟩ : ∃ y, Ck.at_ cuts (k + 1) = y := ⟨_, rfl⟩
          obtain ⟨d, hd0⟩ : ∃ d, Ck.at_ dens k = d := ⟨_, rfl⟩
          have hin : Ck.inside cuts a b k = (decide (x < b) && decide (a < y)) := by rw [← hx0, ← hy0]; rfl
          have HZx := Lib.hid (fun v (hb : Below w.heap.size w v) => hd0 ▸ keepC hb (HZ.out k (by omega)))
          have HKy := Lib.hid (fun v (hb : Below w.heap.size w v) => hy0 ▸ keepC hb (HK.out (k + 1) (by omega)))
          rw [hx0] at cx r0
          rw [hy0] at cy r1
          rw [hd0] at q2
          have hy := Lib.hid hy0
          have hd := Lib.hid hd0
          clear hx0 hy0 hd0 HK HZ QR QZ
          have ec1 := hR.c1
          have ec2' := hR.c2
          by_cases i1 : x < b
          · have d1' : decide (x < b) = true := decide_eq_true i1
            by_cases i2 : a < y
            · have d2' : decide (a < y) = true := decide_eq_true i2
              have hfr : Ck.inside cuts a b k = true := by rw [hin, d1', d2']; rfl
              obtain ⟨mn, hmn⟩ : ∃ mn, min b y = mn := ⟨_, rfl⟩
              have hm0 : a < mn ∧ mn ≤ 1000 := by omega
              have hxC : Ck.pC cuts a b (k + 1) = (Ck.pC cuts a b k) ++ [mn - a] := by rw [← hmn, ← hy.out]; exact Ck.pC_yes hfr
              have hxD : Ck.pD cuts dens a b (k + 1) = (Ck.pD cuts dens a b k) ++ [d] := by rw [← hd.out]; exact Ck.pD_yes hfr
              have HXC := Lib.hid hxC
              have HXD := Lib.hid hxD
              have hl1 := HLC.out k
              have hl2 := HLD.out k
              have w7 : IntKind.i64.wrap (mn - a) = mn - a := IntWalk.i64_in _ (by omega)
              have HMN := Lib.hid hmn
              have hmn2 : (if b ≤ y then b else y) = mn := by rw [← hmn]; omega
              have hmn3 : (if y < b then y else b) = mn := by rw [← hmn]; omega
              clear hxC hxD hy hd hfr hin i1 i2
              go_upto_region 10 with fail
              generalize Ck.pC cuts a b k = X at *
              generalize Ck.pD cuts dens a b k = Y at *
              obtain ⟨A1, p1, rfl⟩ := hR.o1.form
              obtain ⟨A2, p2, rfl⟩ := hR.o2.form
              have lN := lt_of_cell hR.n0
              have en1 := hR.n1
              have ef1 := hR.f1
              go_cut [] (fun wx => ∃ g cap, NRel w len (.slice (some ⟨bk, ok, none⟩) (m + 1) ck) (.slice (some ⟨bz, oz, none⟩) m cz) NB (.slice (some ⟨g, 0, none⟩) (X.length + 1) cap) (.slice A2 Y.length p2) (X ++ [mn - a]) Y (b - a) wx)
              case first =>
                go_region_law ((refine step_append_lies _ (by rfl) _ _ _ (by rfl) (w.heap.size + 2) 3 i0 _ 1 8 Try.underlying25 HI.out HI2.out HI3.out HI4.out rfl (by omega) (.slice A1 X.length p1) X.length (X.map (Value.int .i64)) (by rfl) (World.ownsRow.alloc (World.ownsRow.drew hR.o1) _) ⟨wr.heap.size, 0, none⟩ 1 1 [.int .i64 (mn - a)] (by rfl) (by rfl) (World.news_of_block (cs := #[.int .i64 (mn - a)]) (t := 3) (fr := (0, 0)) (heap_alloc_new wr.drew _)) (by simp [Value.oneCell']) (by omega) (by unfold maxLen; omega) (by omega) (by have := hR.hN; simp; omega) (wr.heap.size + 1) (by simp) ?_; intro g cap w1 hown1 hgrow hat hlt; have hpr := hR.pre1 (((Below.refl _ wr).drew).alloc (Nat.le_refl _) _) hgrow; have hp1 := hpr.1; have hp2 := hpr.2))
                all_goals
                  (try go_wp2_with fail)
                  go_meet
                  have hnew := hR.app1 (((Below.refl _ wr).drew).alloc (Nat.le_refl _) _) hown1 hgrow (hat.imp id (fun e => by rw [e]; simp))
                  exact ⟨g, cap, hnew⟩
              case rest =>
                clear ec1 ec2' en1 ef1 cx cy lN hR hmn hmn2 hmn3 w7
                obtain ⟨g1, c1, hR2⟩ := hcut
                have lN := lt_of_cell hR2.n0
                have en2 := hR2.n2
                have ef2 := hR2.f2
                have ec2 := hR2.c2
                have zx := HZx.out _ hR2.bb
                go_upto_region 11 with fail
                go_region_law ((refine step_append_lies _ (by rfl) _ _ _ (by rfl) (w.heap.size + 2) 3 i0 _ 1 8 Try.underlying25 HI.out HI2.out HI3.out HI4.out rfl (by omega) (.slice A2 Y.length p2) Y.length (Y.map (Value.int .i64)) (by rfl) (World.ownsRow.alloc (World.ownsRow.drew hR2.o2) _) ⟨wc.heap.size, 0, none⟩ 1 1 [.int .i64 d] (by rfl) (by rfl) (World.news_of_block (cs := #[.int .i64 d]) (t := 3) (fr := (0, 0)) (heap_alloc_new wc.drew _)) (by simp [Value.oneCell']) (by omega) (by unfold maxLen; omega) (by omega) (by have := hR2.hN; simp; omega) (wc.heap.size + 1) (by simp) ?_; intro g cap w1 hown1 hgrow hat hlt; have hpr := hR2.pre2 (((Below.refl _ wc).drew).alloc (Nat.le_refl _) _) hgrow; have hp1 := hpr.1; have hp2 := hpr.2))
                all_goals
                  have hnew := hR2.app2 (((Below.refl _ wc).drew).alloc (Nat.le_refl _) _) hown1 hgrow (hat.imp id (fun e => by rw [e]; simp))
                  go_wp2_with fail
                  go_roundw
                  case rel => exact ⟨k + 1, _, _, by omega, by go_num, by rw [HXC.out, HXD.out]; exact hnew⟩
                  case measure => simp [intOf]; omega
            · have d2' : decide (a < y) = false := decide_eq_false i2
              have hfr : Ck.inside cuts a b k = false := by rw [hin, d1', d2']; rfl
              have HXC := Lib.hid (Ck.pC_no hfr)
              have HXD := Lib.hid (Ck.pD_no (d := dens) hfr)
              clear hin hfr hy hd HZx HKy i1 i2
              go_wp2_with fail
              go_roundw
              case rel => exact ⟨k + 1, v1, v2, by omega, by go_num, by rw [HXC.out, HXD.out]; exact hR⟩
              case measure => simp [intOf]; omega
          · have d1' : decide (x < b) = false := decide_eq_false i1
            have hfr : Ck.inside cuts a b k = false := by rw [hin, d1']; rfl
            have HXC := Lib.hid (Ck.pC_no hfr)
            have HXD := Lib.hid (Ck.pD_no (d := dens) hfr)
            clear hin hfr hy hd HZx HKy i1 cy
            go_wp2_with fail
            go_roundw
            case rel => exact ⟨k + 1, v1, v2, by omega, by go_num, by rw [HXC.out, HXD.out]; exact hR⟩
            case measure => simp [intOf]; omega
        · obtain rfl : k = m := by omega
          obtain ⟨A1, p1, rfl⟩ := hR.o1.form
          obtain ⟨A2, p2, rfl⟩ := hR.o2.form
          have hIC : IsCake wr (b - a) A1 (Ck.pC cuts a b k) A2 (Ck.pD cuts dens a b k) := ⟨⟨by omega, by omega⟩, ⟨by have := HLC.out k; unfold maxLen; omega, by have := HLD.out k; unfold maxLen; omega⟩, hR.o1.isI (HBC.out k (Nat.le_refl _)), hR.o2.isI (HBD.out k)⟩
          have ch := rckCheck_any (b - a) A1 (Ck.pC cuts a b k) p1 A2 (Ck.pD cuts dens a b k) p2 wr hIC
          have CH := Lib.hid ch
          have n0 := hR.n0
          have n1' := hR.n1
          have n2 := hR.n2
          have ec2 := hR.c2
          clear ch hIC HK HZ QR QZ HLC HLD HBC HBD
          go_wp2_with fail
          refine CH.out.mono ?_
          rintro e w5 ⟨rfl, hb5⟩
          have n0 := keepC hb5 hR.n0
          have n1' := keepC hb5 hR.n1
          have n2 := keepC hb5 hR.n2
          have r0 := keepC hb5 hR.r0
          have r1 := keepC hb5 hR.r1
          have r2 := keepC hb5 hR.r2
          have q0 := keepF hb5 hR.r0 hR.q0
          have q1 := keepF hb5 hR.r1 hR.q1
          have q2 := keepF hb5 hR.r2 hR.q2
          have hN := hR.hN
          have O1 := hR.o1.keepB hb5
          have O2 := hR.o2.keepB hb5
          have hap := Lib.hid hR.ap
          have hbb := keepB hR.bb hb5
          clear hR hb5 CH ec2
          by_cases hz : Ck.chk (b - a) (Ck.pC cuts a b k) (Ck.pD cuts dens a b k) = 0
          · have e := HPar.out
            rw [if_pos hz] at e
            simp only [Prod.mk.injEq] at e
            obtain ⟨rfl, rfl, rfl, rfl⟩ := e
            have b1 : (Value.slice A1 (Ck.pC cuts a b k).length p1).ownBlock ≠ some (w.heap.size + 1) := fun e => by have := (O1.lt _ e).1; omega
            have b2 : (Value.slice A2 (Ck.pD cuts dens a b k).length p2).ownBlock ≠ some (w.heap.size + 1) := fun e => by have := (O2.lt _ e).1; omega
            rw [hz]
            clear HPar hz
            go_wp2_with fail
            exact bodyPost_ret (v := .tuple #[.agg #[.int .i64 (b - a), .slice A1 (Ck.pC cuts a b k).length p1, .slice A2 (Ck.pD cuts dens a b k).length p2], .int .i64 0]) (by simp [results, Try.results33, go_sem, r0, r1, r2]) rfl
              ⟨_, _, rfl, Own.mono (((O1.set b1 _).set b1 _).set b1 _) (Nat.le_add_right _ 2), Own.mono (((O2.set b2 _).set b2 _).set b2 _) (Nat.le_add_right _ 2), hap.out, below_st (below_st (below_st hbb (by omega) _) (by omega) _) (by omega) _⟩
          · have e := HPar.out
            rw [if_neg hz] at e
            simp only [Prod.mk.injEq] at e
            obtain ⟨rfl, rfl, rfl, rfl⟩ := e
            have nz : (Ck.chk (b - a) (Ck.pC cuts a b k) (Ck.pD cuts dens a b k) != 0) = true := by rw [bne_iff_ne]; exact hz
            clear HPar hz n0 n1' n2 O1 O2
            generalize Ck.chk (b - a) (Ck.pC cuts a b k) (Ck.pD cuts dens a b k) = c at *
            go_wp2_with fail
            exact bodyPost_ret (v := .tuple #[.agg #[.int .i64 0, .slice none 0 0, .slice none 0 0], .int .i64 6]) (by simp [results, Try.results33, go_sem, r0, r1, r2]) rfl ⟨_, _, rfl, Own.nil_ _ _, Own.nil_ _ _, fun g hg => (by simp [Value.ownBlock] at hg), below_st (below_st (below_st hbb (by omega) _) (by omega) _) (by omega) _⟩
  · have e : Ck.parS len cuts dens a b = (0, [], [], Ck.chk len cuts dens) := by unfold Ck.parS; rw [if_neg hc]
    rw [e]
    generalize Ck.chk len cuts dens = c at *
    have n1 : (c != 0) = true := by rw [bne_iff_ne]; exact hc
    have CC := Lib.hid cc
    clear cc hc e h
    go_enter Try.func33, Try.ntmps33
    go_wp2_with fail
    refine (CC.out _ (((Below.refl _ _).alloc (Nat.le_refl _) _).alloc (by simp) _)).mono ?_
    rintro e w1 ⟨rfl, hb1⟩
    have y0 : w1.cell? ⟨w.heap.size, 0, none⟩ = some (.int .i64 len) := keepC hb1 (by go_simp)
    have y1 : w1.cell? ⟨w.heap.size, 1, none⟩ = some (.slice K cuts.length ck) := keepC hb1 (by go_simp)
    have y2 : w1.cell? ⟨w.heap.size, 2, none⟩ = some (.slice Z dens.length cz) := keepC hb1 (by go_simp)
    have r0 : w1.cell? ⟨w.heap.size + 1, 0, none⟩ = some (.int .i64 0) := keepC hb1 (by go_simp)
    have q0 : w1.frozen? ⟨w.heap.size + 1, 0, none⟩ = false := keepF hb1 (v := .int .i64 0) (by go_simp) (by go_simp)
    have r1 : w1.cell? ⟨w.heap.size + 1, 1, none⟩ = some (.slice none 0 0) := keepC hb1 (by go_simp)
    have q1 : w1.frozen? ⟨w.heap.size + 1, 1, none⟩ = false := keepF hb1 (v := .slice none 0 0) (by go_simp) (by go_simp)
    have r2 : w1.cell? ⟨w.heap.size + 1, 2, none⟩ = some (.slice none 0 0) := keepC hb1 (by go_simp)
    have q2 : w1.frozen? ⟨w.heap.size + 1, 2, none⟩ = false := keepF hb1 (v := .slice none 0 0) (by go_simp) (by go_simp)
    have hbb : Below w.heap.size w w1 := keepB (((Below.refl _ _).alloc (Nat.le_refl _) _).alloc (by simp) _) hb1
    clear hb1
    go_wp2_with fail
    refine (CC.out _ hbb).mono ?_
    rintro e w2 ⟨rfl, hb2⟩
    replace q0 := keepF hb2 r0 q0
    replace q1 := keepF hb2 r1 q1
    replace q2 := keepF hb2 r2 q2
    replace r0 := keepC hb2 r0
    replace r1 := keepC hb2 r1
    replace r2 := keepC hb2 r2
    replace hbb := keepB hbb hb2
    clear hb2 y0 y1 y2
    clear CC
    go_wp2_with fail
    exact bodyPost_ret (v := .tuple #[.agg #[.int .i64 0, .slice none 0 0, .slice none 0 0], .int .i64 c]) (by simp [results, Try.results33, go_sem, r0, r1, r2]) rfl ⟨_, _, rfl, Own.nil_ _ _, Own.nil_ _ _, fun g hg => (by simp [Value.ownBlock] at hg), below_st (below_st (below_st hbb (by omega) _) (by omega) _) (by omega) _⟩
end Go.Proofs.Ytbcnngjcggddbaa

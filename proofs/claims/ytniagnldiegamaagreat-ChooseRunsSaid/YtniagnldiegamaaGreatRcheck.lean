/- Contract of the reference's Check of cakes. -/
import Derived.Test.YtniagnldiegamaaGreatCheck
import Derived.LoopTactic
import Derived.IntWalk
import Derived.Deep.QuietTactic
import Derived.BigQuiet
import Derived.Deep.Draws
import Derived.Deep.CutBlock
import Derived.Deep.DeepCutAuto
namespace Go.Proofs.YtniagnldiegamaaGreat
open Go.RowKit

set_option maxHeartbeats 4000000 in
set_option maxRecDepth 100000 in
theorem rckCheck_any (len : Int) (K : Option Addr) (cuts : List Int) (ck : Nat) (Z : Option Addr) (dens : List Int) (cz : Nat) (w : World) (h : IsCake w len K cuts Z dens) :
    Calls Tryz.prog 87 #[.agg #[.int .i64 len, .slice K cuts.length ck, .slice Z dens.length cz]] w fun e w' => e = .returned (.int .i64 (Ck.chk len cuts dens)) ∧ Below w.heap.size w w' := by
  obtain ⟨⟨l0, l1⟩, ⟨hc, hd⟩, iK, iZ⟩ := h
  unfold maxLen at hc hd
  by_cases hg : Ck.great len cuts = true
  · have e : Ck.chk len cuts dens = 4 := by unfold Ck.chk; rw [if_pos hg]
    rw [e]; clear e
    unfold Ck.great at hg
    rw [Bool.or_eq_true, decide_eq_true_eq, decide_eq_true_eq] at hg
    by_cases h1 : 1000 < len
    · have d1 : decide (1000 < len) = true := decide_eq_true h1
      clear hg iK iZ
      go_enter Tryz.func87, Tryz.ntmps87
      go_wp2_with fail
      go_ret
      exact ⟨rfl, (Below.refl _ _).alloc (Nat.le_refl _) _⟩
    · have d1 : decide (1000 < len) = false := decide_eq_false h1
      have d2 : decide (40 < (cuts.length : Int)) = true := decide_eq_true (by omega); clear hg iK iZ
      go_enter Tryz.func87, Tryz.ntmps87
      go_wp2_with fail
      go_ret
      exact ⟨rfl, (Below.refl _ _).alloc (Nat.le_refl _) _⟩
  · have hg' : len ≤ 1000 ∧ cuts.length ≤ 40 := by
      unfold Ck.great at hg
      rw [Bool.or_eq_true, decide_eq_true_eq, decide_eq_true_eq] at hg
      omega
    obtain ⟨hlen, hcut⟩ := hg'; have d1 : decide (1000 < len) = false := decide_eq_false (by omega); have d2 : decide (40 < (cuts.length : Int)) = false := decide_eq_false (by omega)
    by_cases hs : Ck.shapeBad len cuts dens = true
    · have e : Ck.chk len cuts dens = 8 := by unfold Ck.chk; rw [if_neg hg, if_pos hs]
      rw [e]; clear e hg
      unfold Ck.shapeBad at hs
      rw [Bool.or_eq_true, Bool.or_eq_true, decide_eq_true_eq, decide_eq_true_eq, decide_eq_true_eq] at hs
      by_cases s1 : len < 1
      · have d3 : decide (len < 1) = true := decide_eq_true s1
        clear hs iK iZ
        go_enter Tryz.func87, Tryz.ntmps87
        go_upto_region 3 with fail
        refine at_worldQ (fun v => Below w.heap.size w v ∧ v.cell? ⟨w.heap.size, 0, none⟩ = some (.int .i64 len) ∧ v.cell? ⟨w.heap.size, 1, none⟩ = some (.slice K cuts.length ck) ∧ v.cell? ⟨w.heap.size, 2, none⟩ = some (.slice Z dens.length cz)) ⟨(Below.refl _ _).alloc (Nat.le_refl _) _, n30 _ _ _ _ _, n31 _ _ _ _ _, n32 _ _ _ _ _⟩ (fun V hS => ?_); obtain ⟨hbb, y0, y1, y2⟩ := hS
        go_quiet (fail)
        go_wp2_with fail
        go_ret
        exact ⟨rfl, below_drewN hbb _⟩
      · have d3 : decide (len < 1) = false := decide_eq_false s1
        by_cases s2 : cuts.length < 2
        · have d4 : decide ((cuts.length : Int) < 2) = true := decide_eq_true (by omega)
          clear hs iK iZ
          go_enter Tryz.func87, Tryz.ntmps87
          go_upto_region 3 with fail
          refine at_worldQ (fun v => Below w.heap.size w v ∧ v.cell? ⟨w.heap.size, 0, none⟩ = some (.int .i64 len) ∧ v.cell? ⟨w.heap.size, 1, none⟩ = some (.slice K cuts.length ck) ∧ v.cell? ⟨w.heap.size, 2, none⟩ = some (.slice Z dens.length cz)) ⟨(Below.refl _ _).alloc (Nat.le_refl _) _, n30 _ _ _ _ _, n31 _ _ _ _ _, n32 _ _ _ _ _⟩ (fun V hS => ?_); obtain ⟨hbb, y0, y1, y2⟩ := hS
          go_quiet (fail)
          go_wp2_with fail
          go_ret
          exact ⟨rfl, below_drewN hbb _⟩
        · have d4 : decide ((cuts.length : Int) < 2) = false := decide_eq_false (by omega)
          have d5 : ((dens.length : Int) != (cuts.length : Int) - 1) = true := by rw [bne_iff_ne]; omega
          have w1 : IntKind.i64.wrap ((cuts.length : Int) - 1) = (cuts.length : Int) - 1 := IntWalk.i64_in _ (by omega); clear hs iK iZ
          go_enter Tryz.func87, Tryz.ntmps87
          go_upto_region 3 with fail
          refine at_worldQ (fun v => Below w.heap.size w v ∧ v.cell? ⟨w.heap.size, 0, none⟩ = some (.int .i64 len) ∧ v.cell? ⟨w.heap.size, 1, none⟩ = some (.slice K cuts.length ck) ∧ v.cell? ⟨w.heap.size, 2, none⟩ = some (.slice Z dens.length cz)) ⟨(Below.refl _ _).alloc (Nat.le_refl _) _, n30 _ _ _ _ _, n31 _ _ _ _ _, n32 _ _ _ _ _⟩ (fun V hS => ?_); obtain ⟨hbb, y0, y1, y2⟩ := hS
          go_quiet (fail)
          go_wp2_with fail
          go_ret
          exact ⟨rfl, below_drewN hbb _⟩
    · have hs' : 1 ≤ len ∧ 2 ≤ cuts.length ∧ dens.length + 1 = cuts.length := by
        unfold Ck.shapeBad at hs
        rw [Bool.or_eq_true, Bool.or_eq_true, decide_eq_true_eq, decide_eq_true_eq, decide_eq_true_eq] at hs
        omega
      obtain ⟨s1, s2, s3⟩ := hs'; have d3 : decide (len < 1) = false := decide_eq_false (by omega); have d4 : decide ((cuts.length : Int) < 2) = false := decide_eq_false (by omega)
      have d5 : ((dens.length : Int) != (cuts.length : Int) - 1) = false := by rw [bne_eq_false_iff_eq]; omega
      have d6 : ((dens.length : Int) == (cuts.length : Int) - 1) = true := by rw [beq_iff_eq]; omega
      obtain ⟨bk, ok, rfl, hk⟩ := iK.1 (by omega); obtain ⟨bz, oz, rfl, hz⟩ := iZ.1 (by omega); have IZ := Lib.hid iZ; have BK := Lib.hid iK.bd; have BZ := Lib.hid iZ.bd; obtain ⟨m, hm⟩ : ∃ m, dens.length = m := ⟨_, rfl⟩
      have hn : cuts.length = m + 1 := by omega
      have HE := Lib.hid (show Ck.endsBad len cuts = (decide (Ck.at_ cuts 0 ≠ 0) || decide (Ck.at_ cuts m ≠ len)) by unfold Ck.endsBad; rw [hn]; rfl)
      have hchk : Ck.chk len cuts dens = if Ck.endsBad len cuts then 8 else if Ck.anyBad cuts dens then 8 else if Ck.wanted dens then 0 else 8 := by
        unfold Ck.chk
        rw [if_neg hg, if_neg hs]
      rw [hchk]; have HBof := Lib.hid (fun k (h : k < m) (hb : Ck.badAt cuts dens k = true) => Ck.bad_of (c := cuts) (d := dens) (by omega) hb); have HBno := Lib.hid (fun (h : ∀ j, j < m → Ck.badAt cuts dens j = false) => Ck.bad_not (c := cuts) (d := dens) (fun j hj => h j (by omega))); rw [hm] at hz ⊢; rw [hn] at hk ⊢; replace d2 : decide (40 < (m : Int) + 1) = false := decide_eq_false (by omega); replace d4 : decide ((m : Int) + 1 < 2) = false := decide_eq_false (by omega)
      replace d5 : ((m : Int) != (m : Int)) = false := by simp
      clear d6
      have hmm : m ≤ 39 := by omega
      have hm1 : 1 ≤ m := by omega
      have w1 : IntKind.i64.wrap ((m : Int) + 1 - 1) = (m : Int) := by rw [show (m : Int) + 1 - 1 = m by omega]; exact IntWalk.i64_in _ (by omega)
      have x0 := hk 0 (by omega); have x1 := hk m (by omega); rw [Nat.add_zero] at x0; have HK := Lib.hid hk; have HZ := Lib.hid hz; have HG := Lib.hid hg; have b0 := BK.out 0; have b1 := BK.out m
      unfold I64 at b0 b1
      clear hk hz iK iZ hg hs hchk hc hd hcut s2 s3
      by_cases e1 : Ck.at_ cuts 0 = 0
      · rw [e1] at x0
        have n1 : ((0 : Int) != 0) = false := rfl
        by_cases e2 : Ck.at_ cuts m = len
        · have he : Ck.endsBad len cuts = false := by rw [HE.out, e1, e2]; simp
          rw [he, if_neg (by simp)]
          generalize hR : (if Ck.anyBad cuts dens = true then (8 : Int) else if Ck.wanted dens = true then 0 else 8) = R
          have HR := Lib.hid hR; clear hR; rw [e2] at x1
          have n2 : (len != len) = false := by simp
          clear he e1 e2 HE b0 b1
          go_enter Tryz.func87, Tryz.ntmps87
          go_upto_region 3 with fail
          refine at_worldQ (fun v => Below w.heap.size w v ∧ v.cell? ⟨w.heap.size, 0, none⟩ = some (.int .i64 len) ∧ v.cell? ⟨w.heap.size, 1, none⟩ = some (.slice (some ⟨bk, ok, none⟩) (m + 1) ck) ∧ v.cell? ⟨w.heap.size, 2, none⟩ = some (.slice (some ⟨bz, oz, none⟩) m cz) ∧ v.cell? ⟨bk, ok, none⟩ = some (.int .i64 0) ∧ v.cell? ⟨bk, ok + m, none⟩ = some (.int .i64 len)) ⟨(Below.refl _ _).alloc (Nat.le_refl _) _, n30 _ _ _ _ _, n31 _ _ _ _ _, n32 _ _ _ _ _, cell_alloc x0 _, cell_alloc x1 _⟩ (fun V hS => ?_); obtain ⟨hbb, y0, y1, y2, x0, x1⟩ := hS
          go_quiet (fail)
          (go_wp2_with fail); clear x0 x1 n1 n2 d1 d2 d3 d4 d5 l0 l1 hlen s1; have fy0 := Lib.hid (below_drewN hbb nq); have HWof := Lib.hid (fun k (h : k < m) (hp : 0 < Ck.at_ dens k) => Ck.wanted_of (d := dens) (by omega) hp); have HWno := Lib.hid (fun (h : ∀ j, j < m → Ck.at_ dens j ≤ 0) => Ck.wanted_not (d := dens) (fun j hj => by have := h j (by omega); omega))
          go_loopw [3, 4] (fun s i v => ∃ (k : Nat) (B : Bool), k ≤ m ∧ i = .int .i64 k ∧ s = .bool B ∧ Below w.heap.size w v ∧ v.cell? ⟨w.heap.size, 0, none⟩ = some (.int .i64 len) ∧ v.cell? ⟨w.heap.size, 1, none⟩ = some (.slice (some ⟨bk, ok, none⟩) (m + 1) ck) ∧ v.cell? ⟨w.heap.size, 2, none⟩ = some (.slice (some ⟨bz, oz, none⟩) m cz) ∧ Hid (∀ j, j < k → Ck.badAt cuts dens j = false) ∧ Hid (B = true → Ck.wanted dens = true) ∧ Hid (B = false → ∀ j, j < k → Ck.at_ dens j ≤ 0)) (fun _ i _ => m - (intOf i).toNat)
          case atStart => exact ⟨0, false, Nat.zero_le _, rfl, rfl, fy0.out, y0, y1, y2, fun j hj => absurd hj (by omega), fun h => (by cases h), fun _ j hj => absurd hj (by omega)⟩
          case round =>
            clear hbb y0 y1 y2 fy0; obtain ⟨k, B, hk, rfl, rfl, hbb, y0, y1, y2, HN, HT, HF⟩ := hrel
            by_cases hlt : k < m
            · have z0 := keepC hbb (HZ.out k hlt)
              have c0 := keepC hbb (HK.out k (by omega)); have c1 := keepC hbb (HK.out (k + 1) (by omega)); have HBk := Lib.hid (show Ck.badAt cuts dens k = (decide (Ck.at_ cuts (k + 1) ≤ Ck.at_ cuts k) || decide (Ck.at_ dens k < 0) || decide (12 < Ck.at_ dens k)) from rfl); have HOf := Lib.hid (HBof.out k hlt); have HWk := Lib.hid (HWof.out k hlt)
              have HS := Lib.hid (fun (hp : Ck.badAt cuts dens k = false) j (hj : j < k + 1) => by
                rcases Nat.lt_or_ge j k with h1 | h1
                · exact HN.out j h1
                · obtain rfl : j = k := by omega
                  exact hp)
              have HF2 := Lib.hid (fun (hB : B = false) (hp : Ck.at_ dens k ≤ 0) j (hj : j < k + 1) => by
                rcases Nat.lt_or_ge j k with h1 | h1
                · exact HF.out hB j h1
                · obtain rfl : j = k := by omega
                  exact hp)
              have q1 := BK.out k; have q2 := BK.out (k + 1); have q3 := BZ.out k
              unfold I64 at q1 q2 q3
              have a1 : (0 : Int) ≤ (k : Int) + 1 := by omega
              have a2 : (k : Int) < (m : Int) := by omega
              have a3 : (k : Int) + 1 < (m : Int) + 1 := by omega
              have a4 : ((k : Int) + 1).toNat = k + 1 := by omega
              have a5 : IntKind.i64.wrap ((k : Int) + 1) = (k : Int) + 1 := IntWalk.i64_in _ (by omega); clear HBof HBno HZ HK BK BZ IZ HN HG HF HWof HWno
              generalize Ck.at_ cuts (k + 1) = p2 at *
              generalize Ck.at_ cuts k = p1 at *
              generalize Ck.at_ dens k = d at *
              by_cases b1 : p2 ≤ p1
              · have e1 : decide (p2 ≤ p1) = true := decide_eq_true b1
                have hb : Ck.anyBad cuts dens = true := HOf.out (by rw [HBk.out, e1]; rfl)
                obtain rfl : R = 8 := by rw [← HR.out, if_pos hb]
                clear HR hb HBk HOf HS b1 HT HWk HF2; (go_wp2_with fail)
                go_quiet (fail)
                go_wp2_with fail
                go_ret
                exact ⟨rfl, below_drewN hbb _⟩
              · have e1 : decide (p2 ≤ p1) = false := decide_eq_false b1
                by_cases b2 : d < 0
                · have e2 : decide (d < 0) = true := decide_eq_true b2
                  have hb : Ck.anyBad cuts dens = true := HOf.out (by rw [HBk.out, e1, e2]; rfl)
                  obtain rfl : R = 8 := by rw [← HR.out, if_pos hb]
                  clear HR hb HBk HOf HS b1 HT HWk HF2; (go_wp2_with fail)
                  go_quiet (fail)
                  go_wp2_with fail
                  go_ret
                  exact ⟨rfl, below_drewN hbb _⟩
                · have e2 : decide (d < 0) = false := decide_eq_false b2
                  by_cases b3 : 12 < d
                  · have e3 : decide (12 < d) = true := decide_eq_true b3
                    have hb : Ck.anyBad cuts dens = true := HOf.out (by rw [HBk.out, e1, e2, e3]; rfl)
                    obtain rfl : R = 8 := by rw [← HR.out, if_pos hb]
                    clear HR hb HBk HOf HS b1 HT HWk HF2; (go_wp2_with fail)
                    go_quiet (fail)
                    go_wp2_with fail
                    go_ret
                    exact ⟨rfl, below_drewN hbb _⟩
                  · have e3 : decide (12 < d) = false := decide_eq_false b3
                    have HS2 := Lib.hid (HS.out (by rw [HBk.out, e1, e2, e3]; rfl)); clear HBk HOf HS b1
                    rcases B with _ | _
                    · by_cases b4 : 0 < d
                      · have e4 : decide (0 < d) = true := decide_eq_true b4
                        have HW2 := Lib.hid (HWk.out b4); clear HWk HF2 HT b4; (go_wp2_with fail)
                        go_quiet (fail)
                        go_wp2_with fail
                        go_roundw
                        case rel => exact ⟨k + 1, true, by omega, by go_num, rfl, below_drewN hbb _, y0, y1, y2, HS2, fun _ => HW2.out, fun h => (by cases h)⟩
                        case measure => simp [intOf]; omega
                      · have e4 : decide (0 < d) = false := decide_eq_false b4
                        have HF3 := Lib.hid (HF2.out rfl (by omega)); clear HWk HF2 HT b4; (go_wp2_with fail)
                        go_quiet (fail)
                        go_wp2_with fail
                        go_roundw
                        case rel => exact ⟨k + 1, false, by omega, by go_num, rfl, below_drewN hbb _, y0, y1, y2, HS2, fun h => (by cases h), fun _ => HF3.out⟩
                        case measure => simp [intOf]; omega
                    · have HT2 := Lib.hid (HT.out rfl)
                      clear HWk HF2 HT; (go_wp2_with fail)
                      go_quiet (fail)
                      go_wp2_with fail
                      go_roundw
                      case rel => exact ⟨k + 1, true, by omega, by go_num, rfl, below_drewN hbb _, y0, y1, y2, HS2, fun _ => HT2.out, fun h => (by cases h)⟩
                      case measure => simp [intOf]; omega
            · obtain rfl : k = m := by omega
              have hb : Ck.anyBad cuts dens = false := HBno.out HN.out; have hR2 := HR.out; rw [hb, if_neg (by simp)] at hR2
              rcases B with _ | _
              · have hw : Ck.wanted dens = false := HWno.out (HF.out rfl)
                obtain rfl : R = 8 := by rw [← hR2, hw]; rfl
                clear HR hb HBof HBno HZ HK BK BZ HN HG IZ hR2 hw HT HF HWof HWno; (go_wp2_with fail)
                go_ret
                exact ⟨rfl, hbb⟩
              · have hw : Ck.wanted dens = true := HT.out rfl
                obtain rfl : R = 0 := by rw [← hR2, hw]; rfl
                clear HR hb HBof HBno HZ HK BK BZ HN HG IZ hR2 hw HT HF HWof HWno; (go_wp2_with fail)
                go_ret
                exact ⟨rfl, hbb⟩
        · have he : Ck.endsBad len cuts = true := by rw [HE.out]; simp [e2]
          rw [he, if_pos rfl]
          have n2 : (Ck.at_ cuts m != len) = true := by rw [bne_iff_ne]; exact e2
          generalize Ck.at_ cuts m = y at *
          clear he e1 HE e2
          go_enter Tryz.func87, Tryz.ntmps87
          go_upto_region 3 with fail
          refine at_worldQ (fun v => Below w.heap.size w v ∧ v.cell? ⟨w.heap.size, 0, none⟩ = some (.int .i64 len) ∧ v.cell? ⟨w.heap.size, 1, none⟩ = some (.slice (some ⟨bk, ok, none⟩) (m + 1) ck) ∧ v.cell? ⟨w.heap.size, 2, none⟩ = some (.slice (some ⟨bz, oz, none⟩) m cz) ∧ v.cell? ⟨bk, ok, none⟩ = some (.int .i64 0) ∧ v.cell? ⟨bk, ok + m, none⟩ = some (.int .i64 y)) ⟨(Below.refl _ _).alloc (Nat.le_refl _) _, n30 _ _ _ _ _, n31 _ _ _ _ _, n32 _ _ _ _ _, cell_alloc x0 _, cell_alloc x1 _⟩ (fun V hS => ?_); obtain ⟨hbb, y0, y1, y2, x0, x1⟩ := hS
          go_quiet (fail)
          go_wp2_with fail
          go_ret
          exact ⟨rfl, below_drewN hbb _⟩
      · have he : Ck.endsBad len cuts = true := by rw [HE.out]; simp [e1]
        rw [he, if_pos rfl]
        have n1 : (Ck.at_ cuts 0 != 0) = true := by rw [bne_iff_ne]; exact e1
        generalize Ck.at_ cuts 0 = y at *
        clear he e1 HE x1
        go_enter Tryz.func87, Tryz.ntmps87
        go_upto_region 3 with fail
        refine at_worldQ (fun v => Below w.heap.size w v ∧ v.cell? ⟨w.heap.size, 0, none⟩ = some (.int .i64 len) ∧ v.cell? ⟨w.heap.size, 1, none⟩ = some (.slice (some ⟨bk, ok, none⟩) (m + 1) ck) ∧ v.cell? ⟨w.heap.size, 2, none⟩ = some (.slice (some ⟨bz, oz, none⟩) m cz) ∧ v.cell? ⟨bk, ok, none⟩ = some (.int .i64 y)) ⟨(Below.refl _ _).alloc (Nat.le_refl _) _, n30 _ _ _ _ _, n31 _ _ _ _ _, n32 _ _ _ _ _, cell_alloc x0 _⟩ (fun V hS => ?_); obtain ⟨hbb, y0, y1, y2, x0⟩ := hS
        go_quiet (fail)
        go_wp2_with fail
        go_ret
        exact ⟨rfl, below_drewN hbb _⟩
end Go.Proofs.YtniagnldiegamaaGreat


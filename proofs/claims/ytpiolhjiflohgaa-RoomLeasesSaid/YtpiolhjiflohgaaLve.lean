/- The reference's Gains. -/
import Derived.Test.YtpiolhjiflohgaaLvd
import Derived.Test.YtpiolhjiflohgaaAfu
import Derived.Deep.RegionHeld3
namespace Go.Proofs.Ytpiolhjiflohgaa
open Go.RowKit
set_option maxRecDepth 100000 in
set_option maxHeartbeats 4000000 in
theorem rGains_any (A : Option Addr) (cv : Nat) (V : List (List Int)) (R : Int) (B : Option Addr) (ca : Nat) (xs : List Int) (C : Option Addr) (cp : Nat) (ps : List Int) (D : Int) (w : World) (h : IsM w A V) (hB : IsI w B xs) (hC : IsI w C ps)
    (hRV : ∀ v, Below w.heap.size w v → Calls Try.prog 26 #[.agg #[.slice A V.length cv, .int .i64 R], .agg #[.slice B xs.length ca, .slice C ps.length cp, .int .i64 D]] v fun e w' => e = .returned (.int .i64 (As.vld V R xs ps D)) ∧ Below v.heap.size v w') :
    Calls Try.prog 22 #[.agg #[.slice A V.length cv, .int .i64 R], .agg #[.slice B xs.length ca, .slice C ps.length cp, .int .i64 D]] w (GnQ w V R xs ps D) := by
  rcases As.vld_cases V R xs ps D with h0 | ⟨h1, h2⟩
  · rw [h0] at hRV
    obtain ⟨a, rfl, hL⟩ := ls_of h0 h hB hC
    have la := hL.la
    have lp := hL.le.len
    have n6 := hL.ok.n6
    have HF := Lib.hid (show ∀ (X : Option Addr) (c Bs : Nat) (w' : World), Own w' Bs (.slice X V.length c) (As.gnl V a ps D V.length) → Below w.heap.size w w' → GnQ w V R (As.al a) ps D (.returned (.tuple #[.slice X V.length c, .int .i64 0])) w' from fun X c Bs w' hO hb => ⟨X, c, by rw [As.gnS_yes h0, As.gnl_len, h0], by
      rw [As.gnS_yes h0]
      exact hO.isI (gn_i64 hL), hb⟩)
    rw [As.al_len, la, lp] at hRV ⊢
    have CV' := Lib.hid hRV
    have HL := Lib.hid hL
    obtain ⟨i0, hi0, hz0, hz1, hz2⟩ := info_parts intInfo
    have HI := Lib.hid hi0
    have HI2 := Lib.hid hz0
    have HI3 := Lib.hid hz1
    have HI4 := Lib.hid hz2
    clear hRV h0 h hB hC hL la lp hi0 hz0 hz1 hz2
    go_enter Try.func22, Try.ntmps22
    go_upto_region 1 with fail
    refine at_box2 (fun V0 hbb b0 b1 hsz => ?_)
    clear hsz
    have c0 := b0.c 0 rfl
    have c1 := b0.c 1 rfl
    have k0 := b1.c 0 rfl
    have k1 := b1.c 1 rfl
    have k2 := b1.c 2 rfl
    go_wp2_with fail
    refine (CV'.out _ hbb).mono ?_
    rintro e w2 ⟨rfl, hb1⟩
    have HX := Lib.hid (Bx.of (b0.keep hb1) (b1.keep hb1))
    have HBB := Lib.hid (keepB hbb hb1)
    have HLS := Lib.hid (HL.out.keep (keepB hbb hb1))
    clear hb1 b0 b1 hbb c0 c1 k0 k1 k2
    have HVQ := Lib.hid (show w.heap.size = w.heap.size from rfl)
    go_wp2_with fail
    go_loopw [6, 7] (fun v i W => ∃ k : Nat, k ≤ V.length ∧ i = .int .i64 k ∧ Hid (Below w2.heap.size w2 W) ∧ Hid (Own W w2.heap.size v (As.gnl V a ps D k))) (fun _ i _ => V.length - (intOf i).toNat)
    case atStart => exact ⟨0, Nat.zero_le _, rfl, Lib.hid (Below.refl _ _), Lib.hid (Own.nil_ _ _)⟩
    case round =>
      obtain ⟨k, hk, rfl, HW, HO⟩ := hrel
      have c0 := keepC HW.out HX.out.p0
      by_cases hlt : k < V.length
      · obtain ⟨bb, bo, rfl, hcs⟩ := list_at HLS.out.hB (j := k) (by rw [As.al_len, HLS.out.la]; exact hlt)
        have x0 := hcs k (by rw [As.al_len, HLS.out.la]; exact hlt)
        rw [As.el_al] at x0
        have hj := HLS.out.lt hlt
        have HG := Lib.hid (fun v (hv : Below w2.heap.size w2 v) => rGain_any A cv V R (some ⟨bb, bo, none⟩) ca a C cp ps D k (a.getD k 0) v (HLS.out.keep hv) hlt hj)
        have HS := Lib.hid (As.gnl_succ V a ps D k)
        have HLEN := Lib.hid (As.gnl_len V a ps D k)
        clear hcs
        generalize As.gnF V ps D k (a.getD k 0) = x at *
        generalize a.getD k 0 = j at *
        have HK := Lib.hid (fun v (hv : Below w2.heap.size w2 v) => (show v.cell? ⟨w.heap.size, 0, none⟩ = some (.slice A V.length cv) ∧ v.cell? ⟨w.heap.size, 1, none⟩ = some (.int .i64 R) ∧ v.cell? ⟨w.heap.size + 1, 0, none⟩ = some (.slice (some ⟨bb, bo, none⟩) V.length ca) ∧ v.cell? ⟨w.heap.size + 1, 1, none⟩ = some (.slice C V.length cp) ∧ v.cell? ⟨w.heap.size + 1, 2, none⟩ = some (.int .i64 D) ∧ v.cell? ⟨bb, bo + k, none⟩ = some (.int .i64 j) from ⟨keepC hv HX.out.p0, keepC hv HX.out.p1, keepC hv HX.out.q0, keepC hv HX.out.q1, keepC hv HX.out.q2, keepC hv x0⟩))
        have HWH := HW.out
        clear x0
        go_upto_region 7 with fail
        go_region_held3 (fun v => v.cell? ⟨w.heap.size, 0, none⟩ = some (.slice A V.length cv) ∧ v.cell? ⟨w.heap.size, 1, none⟩ = some (.int .i64 R) ∧ v.cell? ⟨w.heap.size + 1, 0, none⟩ = some (.slice (some ⟨bb, bo, none⟩) V.length ca) ∧ v.cell? ⟨w.heap.size + 1, 1, none⟩ = some (.slice C V.length cp) ∧ v.cell? ⟨w.heap.size + 1, 2, none⟩ = some (.int .i64 D) ∧ v.cell? ⟨bb, bo + k, none⟩ = some (.int .i64 j))
          (first | (exact HK.out _ (by assumption)) | (exact HK.out _ (Below.drew (by assumption))) | (exact HK.out _ (below_al (by assumption) _)) | (exact HK.out _ (below_al (Below.drew (by assumption)) _)))
          (first
            | (refine step_append_lies _ (by rfl) _ _ _ (by rfl) w2.heap.size 3 i0 _ 1 8 Try.underlying26 HI.out HI2.out HI3.out HI4.out rfl (by omega) _ k ((As.gnl V a ps D k).map (Value.int .i64)) (by rfl) (World.ownsRow.alloc hO3 _) ⟨w3.heap.size, 0, none⟩ 1 1 [.int .i64 x] (by rfl) (by rfl) (World.news_of_block (cs := #[.int .i64 x]) (t := 3) (fr := (0, 0)) (heap_alloc_new w3 _)) (by simp [Value.oneCell']) (by omega) (by unfold maxLen; omega) (by omega) (by simp; omega) (w3.heap.size + 1) (by simp) ?_; intro g cap w6 hown1 hgrow hat hglt; have hw6 := own_app rfl hw3 (fun b hb => (World.ownsRow.lt hO3 b hb).1) hgrow)
            | (go_at_call 52; refine (HG.out _ (by first | assumption | exact Below.drew (by assumption))).mono ?_; rintro e w3 ⟨rfl, hb3⟩; have hw3 : Below w2.heap.size w2 w3 := (by first | exact keepB HW.out hb3 | exact keepB HW.out.drew hb3); have hO3 : w3.ownsRow w2.heap.size 3 1 _ k ((As.gnl V a ps D k).map (Value.int .i64)) := (by have h9 := HO.out; unfold Own at h9; rw [HLEN.out] at h9; first | exact ownG_keepB h9 hb3 | exact ownG_keepB (World.ownsRow.drew h9) hb3); have hsz3 := hw3.size))
        all_goals
          go_wp2_with fail
          go_roundw
          case rel => exact ⟨k + 1, by omega, by go_num, Lib.hid hw6, Lib.hid (by
            unfold Own
            rw [HS.out, List.length_append, HLEN.out, List.map_append]
            exact hown1)⟩
          case measure => simp [intOf]; omega
      · obtain rfl : k = V.length := by omega
        obtain ⟨X, cc, rfl⟩ := HO.out.form
        have hO := HO.out
        rw [As.gnl_len] at hO ⊢
        have HFF := Lib.hid (HF.out X cc _ wr hO (keepB HBB.out HW.out))
        clear hO
        go_wp2_with fail
        go_ret2
        exact HFF.out
  · have HQ := Lib.hid (show ∀ (w' : World), Below w.heap.size w w' → GnQ w V R xs ps D (.returned (.tuple #[.slice none 0 0, .int .i64 (As.vld V R xs ps D)])) w' from fun w' hb => ⟨none, 0, by rw [As.gnS_no h2]; rfl, by rw [As.gnS_no h2]; exact isI_nil _ _, hb⟩)
    generalize As.vld V R xs ps D = c at *
    have CV' := Lib.hid hRV
    clear hRV h2 h hB hC
    go_enter Try.func22, Try.ntmps22
    go_upto_region 1 with fail
    refine at_box2 (fun V0 hbb b0 b1 hsz => ?_)
    clear hsz
    have c0 := b0.c 0 rfl
    have c1 := b0.c 1 rfl
    have k0 := b1.c 0 rfl
    have k1 := b1.c 1 rfl
    have k2 := b1.c 2 rfl
    go_wp2_with fail
    refine (CV'.out _ hbb).mono ?_
    rintro e w1 ⟨rfl, hb1⟩
    replace c0 := keepC hb1 c0
    replace c1 := keepC hb1 c1
    replace k0 := keepC hb1 k0
    replace k1 := keepC hb1 k1
    replace k2 := keepC hb1 k2
    replace hbb := keepB hbb hb1
    clear hb1 b0 b1
    go_wp2_with fail
    refine (CV'.out _ hbb).mono ?_
    rintro e w3 ⟨rfl, hb1⟩
    replace hbb := keepB hbb hb1
    clear hb1 c0 c1 k0 k1 k2
    go_wp2_with fail
    go_ret2
    exact HQ.out _ hbb
end Go.Proofs.Ytpiolhjiflohgaa

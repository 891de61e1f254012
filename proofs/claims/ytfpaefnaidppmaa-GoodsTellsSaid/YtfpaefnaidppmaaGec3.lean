/- The reference of layer 16: Poor. -/
import Derived.Test.YtfpaefnaidppmaaGec2
namespace Go.Proofs.Ytfpaefnaidppmaa
open Go.RowKit
set_option maxRecDepth 100000 in
set_option maxHeartbeats 8000000 in
theorem rgPoor_any (A : Option Addr) (cv : Nat) (V : List (List Int)) (BA : Option Addr) (ca : Nat) (a : List Int) (w : World) (hl : V.length ≤ maxLen) (h : IsM w A V) (hal : a.length ≤ maxLen) (hB : IsI w BA a) :
    Calls Try.prog 16 #[.agg #[.slice A V.length cv], .slice BA a.length ca] w (PoQ V a w) := by
  have CV := Lib.hid (fun v (hv : Below w.heap.size w v) => rgValid_any A cv V BA ca a v hl (h.keep hv) hal (hB.keep hv))
  rcases As.gvld_ne (V := V) (a := a) with h0 | ⟨h1, h2⟩
  · have hG := gd_of h0 h hB
    have n1 := hG.ok.n1
    have n6 := hG.ok.n6
    have HG := Lib.hid hG
    have HF := Lib.hid (show ∀ X c w' Bs, Own w' Bs (.slice X (As.al (As.gpoor V a V.length (As.gm V))).length c) (As.al (As.gpoor V a V.length (As.gm V))) → Below w.heap.size w w' → PoQ V a w (.returned (.tuple #[.slice X (As.al (As.gpoor V a V.length (As.gm V))).length c, .int .i64 0])) w' from fun X c w' Bs hO hb => by
      unfold PoQ
      rw [As.poS_yes h0, h0]
      exact ⟨_, _, rfl, hO.isI (As.al_i64 As.gpoor_lt (by omega)), hb⟩)
    have FB := Lib.hid (As.bw_small hG.ok hG.al)
    have CW := Lib.hid (fun i k (hi : i < V.length) v (hv : Below w.heap.size w v) => rgWorth_any A cv V BA ca a i k v (HG.out.keep hv) hi)
    have CA := Lib.hid (fun i (hi : i < V.length) v (hv : Below w.heap.size w v) => rgAll_any A cv V BA a i v (HG.out.keep hv) hi)
    rw [h0] at CV
    obtain ⟨i0, hi0, hz0, hz1, hz2⟩ := info_parts intInfo
    have HI := Lib.hid hi0
    have HI2 := Lib.hid hz0
    have HI3 := Lib.hid hz1
    have HI4 := Lib.hid hz2
    clear h hB h0 hG hi0 hz0 hz1 hz2 HG
    go_enter Try.func16, Try.ntmps16
    go_upto_region 1 with fail
    refine at_box1 (fun V0 hbb b0 hsz => ?_)
    clear hsz
    have c0 := b0.c 0 rfl
    go_wp2_with fail
    refine (CV.out _ hbb).mono ?_
    rintro e w1 ⟨rfl, hb1⟩
    have HB1 := Lib.hid (keepB hbb hb1)
    replace c0 := keepC hb1 c0
    have C0 := Lib.hid c0
    clear hb1 hbb b0 CV
    go_wp2_with fail
    clear c0
    go_loopw [6, 7] (fun v i W => ∃ k : Nat, k ≤ V.length ∧ i = .int .i64 k ∧ Hid (Below w1.heap.size w1 W) ∧ Hid (Own W w1.heap.size v (As.al (As.gpk V a V.length (As.gm V) k)))) (fun _ i _ => V.length - (intOf i).toNat)
    case atStart => exact ⟨0, Nat.zero_le _, rfl, Lib.hid (Below.refl _ _), Lib.hid (Own.nil_ _ _)⟩
    case round =>
      obtain ⟨k, hk, rfl, HW, HO⟩ := hrel
      have c0 := keepC HW.out C0.out
      by_cases hlt : k < V.length
      · have CX := Lib.hid (fun v (hv : Below w1.heap.size w1 v) => CW.out k k hlt v (keepB HB1.out hv))
        have CY := Lib.hid (fun v (hv : Below w1.heap.size w1 v) => CA.out k hlt v (keepB HB1.out hv))
        have HS := Lib.hid (As.gpk_succ V a V.length (As.gm V) k)
        have hle := As.gpk_le V a V.length (As.gm V) k
        obtain ⟨L, hL⟩ : ∃ L, As.gpk V a V.length (As.gm V) k = L := ⟨_, rfl⟩
        have HOL := HO.out
        unfold Own at HOL
        rw [hL, As.al_len] at HOL
        rw [hL] at hle
        have HL := Lib.hid hL
        obtain ⟨nl, hnl⟩ : ∃ nl, L.length = nl := ⟨_, rfl⟩
        rw [hnl] at HOL hle
        have HNL := Lib.hid hnl
        have HOO := Lib.hid HOL
        clear hL hnl HOL
        have ⟨y0, y1⟩ := FB.out k k
        obtain ⟨z, hz⟩ : ∃ z, (V.length : Int) * As.bw V a k k = z := ⟨_, rfl⟩
        have q1 : 0 ≤ z := by rw [← hz]; exact Int.mul_nonneg (by omega) y0
        have q2 : z ≤ 60000 := by
          rw [← hz]
          exact Int.le_trans (Int.mul_le_mul (show (V.length : Int) ≤ 6 by omega) y1 y0 (by decide)) (by decide)
        have hw : IntKind.i64.wrap ((V.length : Int) * As.bw V a k k) = z := by rw [hz]; exact IntWalk.i64_in _ (by omega)
        rw [hz] at HS
        clear hz q1 q2 y0 y1
        generalize As.bw V a k k = x at *
        generalize As.gall V (As.gm V) k = s at *
        have HXD := Lib.hid (show (As.gpk V a V.length (As.gm V) (k + 1) = L ++ if z < s then [k] else []) by rw [HS.out, HL.out])
        clear HS
        have HK := Lib.hid (fun v (hv : Below w1.heap.size w1 v) => (show v.cell? ⟨w.heap.size, 0, none⟩ = some (.slice A V.length cv) from keepC hv C0.out))
        have hWW := HW.out
        go_upto_region 7 with fail
        clear c0
        go_region_held3 (fun v => v.cell? ⟨w.heap.size, 0, none⟩ = some (.slice A V.length cv))
          (first | (exact HK.out _ (by assumption)) | (exact HK.out _ (Below.drew (by assumption))))
          (first
            | (go_at_call 32; have hb9 := hw3; refine (CY.out _ hb9).mono ?_; rintro e w4 ⟨rfl, hb4⟩; have hw4 : Below w1.heap.size w1 w4 := keepB hb9 hb4; have ho4 : w4.ownsRow w1.heap.size 3 1 _ nl ((As.al L).map (Value.int .i64)) := ownG_keepB ho3 hb4; clear hb9)
            | (go_at_call 36; refine (CX.out _ (by first | assumption | exact Below.drew (by assumption))).mono ?_; rintro e w3 ⟨rfl, hb3⟩; have hw3 : Below w1.heap.size w1 w3 := (by first | exact keepB HW.out hb3 | exact keepB HW.out.drew hb3); have ho3 : w3.ownsRow w1.heap.size 3 1 _ nl ((As.al L).map (Value.int .i64)) := (by first | exact ownG_keepB HOO.out hb3 | exact ownG_keepB (World.ownsRow.drew HOO.out) hb3)))
        all_goals
          have HW4 := Lib.hid hw4
          have HO4 := Lib.hid ho4
          have hO := ho4
          have hsz4 := hw4.size
          clear hw3 ho3 hw4 ho4 hWW hw
          by_cases hxy : z < s
          · have d1 : decide (z < s) = true := decide_eq_true hxy
            have HXE2 := Lib.hid (show As.gpk V a V.length (As.gm V) (k + 1) = L ++ [k] by rw [HXD.out, if_pos hxy])
            go_wp2_with (at_builtin; go_loud (refine wpList_append_lies _ rfl _ _ _ rfl w1.heap.size 3 i0 _ 1 8 Try.underlying25 HI.out HI2.out HI3.out HI4.out rfl (by omega) _ nl ((As.al L).map (Value.int .i64)) (by rfl) (World.ownsRow.alloc hO _) ⟨w4.heap.size, 0, none⟩ 1 1 [.int .i64 (k : Int)] (by rfl) (by rfl) (World.news_of_block (cs := #[.int .i64 (k : Int)]) (t := 3) (fr := (0, 0)) (heap_alloc_new w4 _)) (by simp [Value.oneCell']) (by omega) (by unfold maxLen; omega) (by omega) (by simp; omega) (w4.heap.size + 1) (by simp) ?_; intro g cap w6 hown1 hgrow hat hglt))
            have hb6 := own_app rfl HW4.out (fun b hb => (World.ownsRow.lt hO b hb).1) hgrow
            go_roundw
            case rel => exact ⟨k + 1, by omega, by go_num, Lib.hid hb6, Lib.hid (by
              unfold Own
              rw [HXE2.out, As.al_app, List.length_append, As.al_len, HNL.out, List.map_append]
              exact hown1)⟩
            case measure => simp [intOf]; omega
          · have d1 : decide (z < s) = false := decide_eq_false hxy
            have HXE2 := Lib.hid (show As.gpk V a V.length (As.gm V) (k + 1) = L by rw [HXD.out, if_neg hxy, List.append_nil])
            go_wp2_with fail
            go_roundw
            case rel => exact ⟨k + 1, by omega, by go_num, HW4, Lib.hid (by
              unfold Own
              rw [HXE2.out, As.al_len, HNL.out]
              exact HO4.out)⟩
            case measure => simp [intOf]; omega
      · obtain rfl : k = V.length := by omega
        have hO := HO.out
        rw [As.gpk_end] at hO
        obtain ⟨Y, cc, rfl⟩ := hO.form
        have HFF := Lib.hid (HF.out Y cc wr _ hO (keepB HB1.out HW.out))
        clear hO
        go_wp2_with fail
        go_ret2
        exact HFF.out
  · have HQ := Lib.hid (show ∀ w', Below w.heap.size w w' → PoQ V a w (.returned (.tuple #[.slice none 0 0, .int .i64 (As.gvld V a)])) w' from fun w' hb => by
      unfold PoQ
      rw [As.poS_no h2]
      exact ⟨_, _, rfl, isI_nil _ _, hb⟩)
    generalize As.gvld V a = c at *
    clear h2 h hB hl hal
    go_enter Try.func16, Try.ntmps16
    go_upto_region 1 with fail
    refine at_box1 (fun V0 hbb b0 hsz => ?_)
    clear hsz
    have c0 := b0.c 0 rfl
    go_wp2_with fail
    refine (CV.out _ hbb).mono ?_
    rintro e w1 ⟨rfl, hb1⟩
    replace hbb := keepB hbb hb1
    replace c0 := keepC hb1 c0
    clear hb1 b0
    go_wp2_with fail
    refine (CV.out _ hbb).mono ?_
    rintro e w2 ⟨rfl, hb2⟩
    replace hbb := keepB hbb hb2
    clear hb2 c0
    go_wp2_with fail
    go_ret2
    exact HQ.out _ hbb
end Go.Proofs.Ytfpaefnaidppmaa

/- Package goods: Poor. -/
import Derived.Test.YtfpaefnaidppmaaGdy
namespace Go.Proofs.Ytfpaefnaidppmaa
open Go.RowKit
namespace As
theorem gpk_le (V : List (List Int)) (a : List Int) (n m i : Nat) : (gpk V a n m i).length ≤ i := by
  unfold gpk
  exact Nat.le_trans (List.length_filter_le _ _) (by simp)
theorem al_app (l m : List Nat) : al (l ++ m) = al l ++ al m := by simp [al]
/-- What Poor returns. -/
def poS (V : List (List Int)) (a : List Int) : List Int := if gvld V a = 0 then al (gpoor V a V.length (gm V)) else []
theorem poS_yes {V : List (List Int)} {a : List Int} (h : gvld V a = 0) : poS V a = al (gpoor V a V.length (gm V)) := by unfold poS; rw [if_pos h]
theorem poS_no {V : List (List Int)} {a : List Int} (h : gvld V a ≠ 0) : poS V a = [] := by unfold poS; rw [if_neg h]
theorem al_i64 {l : List Nat} {n : Nat} (h : ∀ x ∈ l, x < n) (n6 : n ≤ 1000) : ∀ x ∈ al l, I64 x := fun x hx => by
  obtain ⟨j, hj, rfl⟩ := List.mem_map.1 hx
  have := h j hj
  unfold I64; omega
theorem gpoor_lt {V : List (List Int)} {a : List Int} {n m : Nat} : ∀ x ∈ gpoor V a n m, x < n := fun _ hx => (mem_gpoor.1 hx).1
theorem gall_row (V : List (List Int)) {i : Nat} (h : (V.getD i []).length = gm V) : sm (el (V.getD i [])) (List.range (V.getD i []).length) = gall V (gm V) i := by rw [h]; rfl
end As
/-- What Poor gives. -/
def PoQ (V : List (List Int)) (a : List Int) (w : World) (e : Ending) (w' : World) : Prop := ∃ X c, e = .returned (.tuple #[.slice X (As.poS V a).length c, .int .i64 (As.gvld V a)]) ∧ IsI w' X (As.poS V a) ∧ Below w.heap.size w w'
set_option maxRecDepth 100000 in
set_option maxHeartbeats 8000000 in
theorem gPoor_any (A : Option Addr) (cv : Nat) (V : List (List Int)) (BA : Option Addr) (ca : Nat) (a : List Int) (w : World) (hl : V.length ≤ maxLen) (h : IsM w A V) (hal : a.length ≤ maxLen) (hB : IsI w BA a) :
    Calls Try.prog 15 #[.agg #[.slice A V.length cv], .slice BA a.length ca] w (PoQ V a w) := by
  have CV := Lib.hid (fun v (hv : Below w.heap.size w v) => gValues_any A cv V BA ca a v hl (h.keep hv) hal (hB.keep hv))
  rcases As.gvld_ne (V := V) (a := a) with h0 | ⟨h1, h2⟩
  · have hG := gd_of h0 h hB
    have n1 := hG.ok.n1
    have n6 := hG.ok.n6
    have HG := Lib.hid hG
    have HF := Lib.hid (show ∀ X c w' Bs, Own w' Bs (.slice X (As.al (As.gpoor V a V.length (As.gm V))).length c) (As.al (As.gpoor V a V.length (As.gm V))) → Below w.heap.size w w' → PoQ V a w (.returned (.tuple #[.slice X (As.al (As.gpoor V a V.length (As.gm V))).length c, .int .i64 0])) w' from fun X c w' Bs hO hb => by
      unfold PoQ
      rw [As.poS_yes h0, h0]
      exact ⟨_, _, rfl, hO.isI (As.al_i64 As.gpoor_lt (by omega)), hb⟩)
    unfold VlQ at CV
    simp only [h0, As.vlS_yes h0, mm_len] at CV
    obtain ⟨i0, hi0, hz0, hz1, hz2⟩ := info_parts intInfo
    have HI := Lib.hid hi0
    have HI2 := Lib.hid hz0
    have HI3 := Lib.hid hz1
    have HI4 := Lib.hid hz2
    clear h hB h0 hG hi0 hz0 hz1 hz2
    go_enter Try.func15, Try.ntmps15
    go_upto_region 1 with fail
    refine at_box1 (fun V0 hbb b0 hsz => ?_)
    clear hsz
    have c0 := b0.c 0 rfl
    go_wp2_with fail
    refine (CV.out _ hbb).mono ?_
    rintro e w1 ⟨X, c, rfl, hX, hb1⟩
    have HB1 := Lib.hid (keepB hbb hb1)
    have HG1 := Lib.hid (HG.out.keep (keepB hbb hb1))
    have HX := Lib.hid hX
    replace c0 := keepC hb1 c0
    have C0 := Lib.hid c0
    clear hb1 hbb b0 CV hX HG
    go_wp2_with fail
    clear c0
    go_loopw [8, 23] (fun v i W => ∃ k : Nat, k ≤ V.length ∧ i = .int .i64 k ∧ Hid (Below w1.heap.size w1 W) ∧ Hid (Own W w1.heap.size v (As.al (As.gpk V a V.length (As.gm V) k)))) (fun _ i _ => V.length - (intOf i).toNat)
    case atStart => exact ⟨0, Nat.zero_le _, rfl, Lib.hid (Below.refl _ _), Lib.hid (Own.nil_ _ _)⟩
    case round =>
      obtain ⟨k, hk, rfl, HW, HO⟩ := hrel
      by_cases hlt : k < V.length
      · obtain ⟨b, off, rb, ro, cr, rfl, hc, hcs⟩ := gmm_at HX.out hlt (by omega)
        obtain ⟨ab, ao, rfl, hrows⟩ := HG1.out.hM (by omega)
        obtain ⟨R, cq, hrc, -, hRI⟩ := hrows k hlt
        have HRL := Lib.hid (HG1.out.ok.row k hlt)
        have CS := Lib.hid (fun v (hv : Below w1.heap.size w1 v) => gSum_any R cq (V.getD k []) v (by rw [HRL.out]; have := HG1.out.ok.m10; omega) (fun j _ => HG1.out.ok.bd k j) (hRI.keep hv))
        simp only [As.gall_row V HRL.out] at CS
        simp only [HRL.out] at CS
        rw [HRL.out] at hrc
        have HX0 := Lib.hid hc
        have HX1 := Lib.hid (hcs k hlt)
        have r0 := keepC HW.out hrc
        have ⟨y0, y1⟩ := As.bw_small HG1.out.ok HG1.out.al k k
        have HS := Lib.hid (As.gpk_succ V a V.length (As.gm V) k)
        obtain ⟨z, hz⟩ : ∃ z, (V.length : Int) * As.bw V a k k = z := ⟨_, rfl⟩
        have q1 : 0 ≤ z := by rw [← hz]; exact Int.mul_nonneg (by omega) y0
        have q2 : z ≤ 60000 := by
          rw [← hz]
          exact Int.le_trans (Int.mul_le_mul (show (V.length : Int) ≤ 6 by omega) y1 y0 (by decide)) (by decide)
        rw [hz] at HS
        have hw : IntKind.i64.wrap ((V.length : Int) * As.bw V a k k) = z := by rw [hz]; exact IntWalk.i64_in _ (by omega)
        have HK := Lib.hid (fun v (hv : Below w1.heap.size w1 v) => (show v.cell? ⟨w.heap.size, 0, none⟩ = some (.slice (some ⟨ab, ao, none⟩) V.length cv) ∧ v.cell? ⟨b, off + k, none⟩ = some (.slice (some ⟨rb, ro, none⟩) V.length cr) ∧ v.cell? ⟨rb, ro + k, none⟩ = some (.int .i64 (As.bw V a k k)) from ⟨keepC hv C0.out, keepC hv HX0.out, keepC hv HX1.out⟩))
        have i1 : (k : Int) < (V.length : Int) := by omega
        clear hrows hrc hRI hc hcs hz
        generalize As.bw V a k k = x at *
        have HZZ := Lib.hid (And.intro q1 q2)
        clear y0 y1 q1 q2
        generalize As.gall V (As.gm V) k = s at *
        have hWW := HW.out
        go_upto_region 8 with fail
        clear r0
        go_region_held3 (fun v => v.cell? ⟨w.heap.size, 0, none⟩ = some (.slice (some ⟨ab, ao, none⟩) V.length cv) ∧ v.cell? ⟨b, off + k, none⟩ = some (.slice (some ⟨rb, ro, none⟩) V.length cr) ∧ v.cell? ⟨rb, ro + k, none⟩ = some (.int .i64 x))
          (first | (exact HK.out _ (by assumption)) | (exact HK.out _ (Below.drew (by assumption))))
          (first
            | (go_at_call 34; refine (CS.out _ (by first | assumption | exact Below.drew (by assumption))).mono ?_; rintro e w3 ⟨rfl, hw3e⟩; have hw3 : Below wr.heap.size wr w3 := (by first | exact hw3e ▸ (Below.refl _ _) | exact hw3e ▸ (Below.refl _ _).drew); have hwq := keepB HW.out hw3; clear hw3e))
        all_goals
          have HW3 := Lib.hid (keepB HW.out hw3)
          have ho := HO.out.keepB hw3
          have hle := As.gpk_le V a V.length (As.gm V) k
          obtain ⟨L, hL⟩ : ∃ L, As.gpk V a V.length (As.gm V) k = L := ⟨_, rfl⟩
          unfold Own at ho
          rw [hL, As.al_len] at ho
          rw [hL] at hle
          have HL := Lib.hid hL
          obtain ⟨nl, hnl⟩ : ∃ nl, L.length = nl := ⟨_, rfl⟩
          rw [hnl] at ho hle
          have HNL := Lib.hid hnl
          have HHW := Lib.hid hw3
          clear hL hnl hw3 hwq hWW
          by_cases hh : z < s
          · have d1 : decide (z < s) = true := decide_eq_true hh
            have HHH := Lib.hid hh
            clear hw
            have hsz := HW3.out.size
            go_wp2_with (at_builtin; go_loud (refine wpList_append_lies _ rfl _ _ _ rfl w1.heap.size 3 i0 _ 1 8 Try.underlying25 HI.out HI2.out HI3.out HI4.out rfl (by omega) _ nl ((As.al L).map (Value.int .i64)) (by rfl) (World.ownsRow.alloc ho _) ⟨w3.heap.size, 0, none⟩ 1 1 [.int .i64 (k : Int)] (by rfl) (by rfl) (World.news_of_block (cs := #[.int .i64 (k : Int)]) (t := 3) (fr := (0, 0)) (heap_alloc_new w3 _)) (by simp [Value.oneCell']) (by omega) (by unfold maxLen; omega) (by omega) (by simp; omega) (w3.heap.size + 1) (by simp) ?_; intro g cap w6 hown1 hgrow hat hglt))
            have hb6 := own_app rfl HW3.out (fun b hb => (World.ownsRow.lt ho b hb).1) hgrow
            go_roundw
            case rel => exact ⟨k + 1, by omega, by go_num, Lib.hid hb6, Lib.hid (by
              unfold Own
              rw [HS.out, if_pos HHH.out, HL.out, As.al_app, List.length_append, As.al_len, HNL.out, List.map_append]
              exact hown1)⟩
            case measure => simp [intOf]; omega
          · have d1 : decide (z < s) = false := decide_eq_false hh
            have HN2 := Lib.hid (show As.gpk V a V.length (As.gm V) (k + 1) = As.gpk V a V.length (As.gm V) k by rw [HS.out, if_neg hh, List.append_nil])
            clear hw
            go_wp2_with fail
            go_roundw
            case rel => exact ⟨k + 1, by omega, by go_num, HW3, Lib.hid (by rw [HN2.out]; exact HO.out.keepB HHW.out)⟩
            case measure => simp [intOf]; omega
      · obtain rfl : k = V.length := by omega
        have hO := HO.out
        rw [As.gpk_end] at hO
        obtain ⟨Y, cc, rfl⟩ := hO.form
        have HFF := Lib.hid (HF.out Y cc wr _ hO (keepB HB1.out HW.out))
        clear hO
        go_wp2_with fail
        go_ret2
        exact HFF.out
  · have HQ := Lib.hid (show ∀ w', Below w.heap.size w w' → PoQ V a w (.returned (.tuple #[.slice none 0 0, .int .i64 (As.gvld V a)])) w' from fun w' hb => by
      unfold PoQ
      rw [As.poS_no h2]
      exact ⟨_, _, rfl, isI_nil _ _, hb⟩)
    unfold VlQ at CV
    simp only [As.vlS_no h2] at CV
    generalize As.gvld V a = c at *
    clear h2 h hB hl hal
    go_enter Try.func15, Try.ntmps15
    go_upto_region 1 with fail
    refine at_box1 (fun V0 hbb b0 hsz => ?_)
    clear hsz
    have c0 := b0.c 0 rfl
    go_wp2_with fail
    refine (CV.out _ hbb).mono ?_
    rintro e w1 ⟨X, cc, rfl, -, hb1⟩
    replace hbb := keepB hbb hb1
    clear hb1 b0 c0
    go_wp2_with fail
    go_ret2
    exact HQ.out _ hbb
end Go.Proofs.Ytfpaefnaidppmaa

/- Package goods: Envies. -/
import Derived.Test.YtfpaefnaidppmaaGdx
namespace Go.Proofs.Ytfpaefnaidppmaa
open Go.RowKit
namespace As
theorem genk_le (V : List (List Int)) (a : List Int) (i k : Nat) : (genk V a i k).length ≤ k := by
  unfold genk
  rw [List.length_map]
  exact Nat.le_trans (List.length_filter_le _ _) (by simp)
theorem gens_le (V : List (List Int)) (a : List Int) (n : Nat) : ∀ i, ((List.range i).flatMap (gen1 V a n)).length ≤ i * n
  | 0 => by simp
  | i + 1 => by
    rw [List.range_succ, List.flatMap_append, List.length_append]
    have h1 := gens_le V a n i
    have h2 : ((List.flatMap (gen1 V a n) [i])).length ≤ n := by
      have : List.flatMap (gen1 V a n) [i] = genk V a i n := by simp [gen1, genk]
      rw [this]
      exact genk_le V a i n
    rw [Nat.succ_mul]
    omega
theorem gpre_le {V : List (List Int)} {n : Nat} (n6 : n ≤ 6) (a : List Int) {i k : Nat} (hi : i ≤ n) (hk : k ≤ n) : (gpre V a n i k).length ≤ 42 := by
  unfold gpre
  rw [List.length_append]
  have h1 := gens_le V a n i
  have h2 := genk_le V a i k
  have h3 : i * n ≤ 6 * 6 := Nat.mul_le_mul (by omega) n6
  omega
/-- What Envies returns. -/
def evS (V : List (List Int)) (a : List Int) : List (Nat × Nat) := if gvld V a = 0 then genv V a V.length else []
theorem evS_yes {V : List (List Int)} {a : List Int} (h : gvld V a = 0) : evS V a = genv V a V.length := by unfold evS; rw [if_pos h]
theorem evS_no {V : List (List Int)} {a : List Int} (h : gvld V a ≠ 0) : evS V a = [] := by unfold evS; rw [if_neg h]
end As
/-- A row of a table. -/
theorem gmm_at {w : World} {X : Option Addr} {m n : Nat} {F : Nat → Nat → Int} (h : IsM w X (mm m n F)) {i : Nat} (hi : i < m) (hn : 0 < n) :
    ∃ b off rb ro c, X = some ⟨b, off, none⟩ ∧ w.cell? ⟨b, off + i, none⟩ = some (.slice (some ⟨rb, ro, none⟩) n c) ∧ ∀ j, j < n → w.cell? ⟨rb, ro + j, none⟩ = some (.int .i64 (F i j)) := by
  obtain ⟨b, off, e, hrows⟩ := h (by rw [mm_len]; omega)
  obtain ⟨R, c, hc, _, hI⟩ := hrows i (by rw [mm_len]; exact hi)
  rw [mm_get hi, ml_len] at hc
  rw [mm_get hi] at hI
  obtain ⟨rb, ro, rfl, hcs⟩ := hI.1 (by rw [ml_len]; exact hn)
  exact ⟨b, off, rb, ro, c, e, hc, fun j hj => by
    have := hcs j (by rw [ml_len]; exact hj)
    rw [el_ml hj] at this
    exact this⟩
/-- What Envies gives. -/
def EvGQ (V : List (List Int)) (a : List Int) (w : World) (e : Ending) (w' : World) : Prop := ∃ X c, e = .returned (.tuple #[.slice X (As.evS V a).length c, .int .i64 (As.gvld V a)]) ∧ IsP w' X (As.evS V a) ∧ Below w.heap.size w w'
set_option maxRecDepth 100000 in
set_option maxHeartbeats 8000000 in
theorem gEnvies_any (A : Option Addr) (cv : Nat) (V : List (List Int)) (BA : Option Addr) (ca : Nat) (a : List Int) (w : World) (hl : V.length ≤ maxLen) (h : IsM w A V) (hal : a.length ≤ maxLen) (hB : IsI w BA a) :
    Calls Try.prog 13 #[.agg #[.slice A V.length cv], .slice BA a.length ca] w (EvGQ V a w) := by
  have CV := Lib.hid (fun v (hv : Below w.heap.size w v) => gValues_any A cv V BA ca a v hl (h.keep hv) hal (hB.keep hv))
  rcases As.gvld_ne (V := V) (a := a) with h0 | ⟨h1, h2⟩
  · have hG := gd_of h0 h hB
    have n1 := hG.ok.n1
    have n6 := hG.ok.n6
    have HF := Lib.hid (show ∀ X c w' Bs, OwnP w' Bs (.slice X (As.genv V a V.length).length c) (As.genv V a V.length) → Below w.heap.size w w' → EvGQ V a w (.returned (.tuple #[.slice X (As.genv V a V.length).length c, .int .i64 0])) w' from fun X c w' Bs hO hb => by
      unfold EvGQ
      rw [As.evS_yes h0, h0]
      exact ⟨_, _, rfl, isP_row hO rfl, hb⟩)
    have HLE := Lib.hid (fun i k hi hk => @As.gpre_le V V.length n6 a i k hi hk)
    unfold VlQ at CV
    simp only [h0, As.vlS_yes h0, mm_len] at CV
    obtain ⟨i0, hi0, hz0, hz1, hz2⟩ := info_parts pairInfo
    have HI := Lib.hid hi0
    have HI2 := Lib.hid hz0
    have HI3 := Lib.hid hz1
    have HI4 := Lib.hid hz2
    clear h hB h0 hG hi0 hz0 hz1 hz2
    go_enter Try.func13, Try.ntmps13
    go_upto_region 1 with fail
    refine at_box1 (fun V0 hbb b0 hsz => ?_)
    clear hsz
    have c0 := b0.c 0 rfl
    go_wp2_with fail
    refine (CV.out _ hbb).mono ?_
    rintro e w1 ⟨X, c, rfl, hX, hb1⟩
    have HB1 := Lib.hid (keepB hbb hb1)
    have HX := Lib.hid hX
    clear hb1 hbb b0 CV c0 hX
    go_wp2_with fail
    go_loopw [8, 24] (fun v i W => ∃ k : Nat, k ≤ V.length ∧ i = .int .i64 k ∧ Hid (Below w1.heap.size w1 W) ∧ Hid (OwnP W w1.heap.size v (As.gpre V a V.length k 0))) (fun _ i _ => V.length - (intOf i).toNat)
    case atStart => exact ⟨0, Nat.zero_le _, rfl, Lib.hid (Below.refl _ _), Lib.hid (by rw [As.gpre_zero]; exact World.ownsRow_nil _ _ _ _)⟩
    case round =>
      obtain ⟨k, hk, rfl, HW, HO⟩ := hrel
      by_cases hlt : k < V.length
      · obtain ⟨b, off, rb, ro, cr, rfl, hc, hcs⟩ := gmm_at HX.out hlt (by omega)
        have x0 := keepC HW.out hc
        have HCS := Lib.hid hcs
        have HRO := Lib.hid (As.gpre_row V a V.length k)
        clear hc hcs
        go_wp2_with fail
        clear x0
        go_loopw [8, 31] (fun v i W => ∃ m : Nat, m ≤ V.length ∧ i = .int .i64 m ∧ Hid (Below w1.heap.size w1 W) ∧ Hid (OwnP W w1.heap.size v (As.gpre V a V.length k m))) (fun _ i _ => V.length - (intOf i).toNat)
        case atStart => exact ⟨0, Nat.zero_le _, rfl, HW, HO⟩
        case round =>
          clear HW HO
          obtain ⟨m, hm, rfl, HW, HO⟩ := hrel
          by_cases hltm : m < V.length
          · have x1 := keepC HW.out (HCS.out m hltm)
            have x2 := keepC HW.out (HCS.out k hlt)
            have HS := Lib.hid (As.gpre_succ V a V.length k m)
            have hle := HLE.out k m hk hm
            have ho := HO.out
            obtain ⟨L, hL⟩ : ∃ L, As.gpre V a V.length k m = L := ⟨_, rfl⟩
            unfold OwnP at ho
            rw [hL] at ho hle
            have HL := Lib.hid hL
            obtain ⟨nl, hnl⟩ : ∃ nl, L.length = nl := ⟨_, rfl⟩
            rw [hnl] at ho hle
            have HNL := Lib.hid hnl
            clear hL hnl
            by_cases hh : As.bw V a k k < As.bw V a k m
            · have d1 : decide (As.bw V a k k < As.bw V a k m) = true := decide_eq_true hh
              have HHH := Lib.hid hh
              clear hh
              generalize As.bw V a k k = x at *
              generalize As.bw V a k m = y at *
              have hsz := HW.out.size
              go_wp2_with (at_builtin; go_loud (refine wpList_append_lies _ rfl _ _ _ rfl w1.heap.size 58 i0 _ 2 16 Try.underlying33 HI.out HI2.out HI3.out HI4.out rfl (by omega) _ nl (pcs L) (by rfl) (World.ownsRow.alloc ho _) ⟨wr.heap.size, 0, none⟩ 1 1 [.int .i64 (k : Int), .int .i64 (m : Int)] (by rfl) (by rfl) (World.news_of_block (cs := #[.int .i64 (k : Int), .int .i64 (m : Int)]) (t := 58) (fr := (0, 0)) (heap_alloc_new wr _)) (by simp [Value.oneCell']) (by omega) (by unfold maxLen; omega) (by omega) (by simp; omega) (wr.heap.size + 1) (by simp) ?_; intro g cap w6 hown1 hgrow hat hglt))
              have hb6 := own_app rfl HW.out (fun b hb => (World.ownsRow.lt ho b hb).1) hgrow
              go_roundw
              case rel => exact ⟨m + 1, by omega, by go_num, Lib.hid hb6, Lib.hid (by
                unfold OwnP
                rw [HS.out, if_pos HHH.out, HL.out, List.length_append, HNL.out, pcs_app]
                exact hown1)⟩
              case measure => simp [intOf]; omega
            · have d1 : decide (As.bw V a k k < As.bw V a k m) = false := decide_eq_false hh
              have HN2 := Lib.hid (show As.gpre V a V.length k (m + 1) = As.gpre V a V.length k m by rw [HS.out, if_neg hh, List.append_nil])
              clear hh
              generalize As.bw V a k k = x at *
              generalize As.bw V a k m = y at *
              go_wp2_with fail
              go_roundw
              case rel => exact ⟨m + 1, by omega, by go_num, HW, Lib.hid (by rw [HN2.out]; exact HO.out)⟩
              case measure => simp [intOf]; omega
          · obtain rfl : m = V.length := by omega
            go_wp2_with fail
            go_roundw
            case rel => exact ⟨k + 1, by omega, by go_num, HW, Lib.hid (by rw [← HRO.out]; exact HO.out)⟩
            case measure => simp [intOf]; omega
      · obtain rfl : k = V.length := by omega
        have hO := HO.out
        rw [As.gpre_end] at hO
        obtain ⟨Y, cc, rfl⟩ := hO.form
        have HFF := Lib.hid (HF.out Y cc wr _ hO (keepB HB1.out HW.out))
        clear hO
        go_wp2_with fail
        go_ret2
        exact HFF.out
  · have HQ := Lib.hid (show ∀ w', Below w.heap.size w w' → EvGQ V a w (.returned (.tuple #[.slice none 0 0, .int .i64 (As.gvld V a)])) w' from fun w' hb => by
      unfold EvGQ
      rw [As.evS_no h2]
      exact ⟨_, _, rfl, isP_nil _ _, hb⟩)
    unfold VlQ at CV
    simp only [As.vlS_no h2] at CV
    generalize As.gvld V a = c at *
    clear h2 h hB hl hal
    go_enter Try.func13, Try.ntmps13
    go_upto_region 1 with fail
    refine at_box1 (fun V0 hbb b0 hsz => ?_)
    clear hsz
    have c0 := b0.c 0 rfl
    go_wp2_with fail
    refine (CV.out _ hbb).mono ?_
    rintro e w1 ⟨X, cc, rfl, -, hb1⟩
    replace hbb := keepB hbb hb1
    clear hb1 b0 c0
    go_wp2_with fail
    go_ret2
    exact HQ.out _ hbb
end Go.Proofs.Ytfpaefnaidppmaa

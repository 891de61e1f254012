/- The law GoodsFair. -/
import Derived.Test.YtfpaefnaidppmaaGfa
namespace Go.Proofs.Ytfpaefnaidppmaa
open Go.RowKit
namespace As
/-- Is there a pair that begins with x among the first ones? -/
def fnd (L : List (Nat × Nat)) (x : Int) (k : Nat) : Bool := (List.range k).any (fun j => (((L.getD j (0, 0)).1 : Nat) : Int) == x)
theorem fnd_succ (L : List (Nat × Nat)) (x : Int) (k : Nat) : fnd L x (k + 1) = (fnd L x k || ((((L.getD k (0, 0)).1 : Nat) : Int) == x)) := by
  unfold fnd; rw [List.range_succ, List.any_append]; simp
theorem fnd_end {L : List (Nat × Nat)} {x : Int} {p : Nat × Nat} (h : p ∈ L) (e : (p.1 : Int) = x) : fnd L x L.length = true := by
  unfold fnd
  rw [List.any_eq_true]
  obtain ⟨j, hj, rfl⟩ := List.mem_iff_getElem.1 h
  exact ⟨j, List.mem_range.2 hj, by rw [getD_lt hj, e]; simp⟩
end As
set_option maxRecDepth 100000 in
set_option maxHeartbeats 8000000 in
theorem goodsfair_walk (A : Option Addr) (cv : Nat) (V : List (List Int)) (B : Option Addr) (ca : Nat) (a : List Int) (w : World) (hl : V.length ≤ maxLen) (h : IsM w A V) (ha : a.length ≤ maxLen) (hB : IsI w B a) :
    Calls Try.prog 6 #[.agg #[.slice A V.length cv], .slice B a.length ca] w fun e w' => e = .returned (.bool true) ∧ Below w.heap.size w w' := by
  have CF := Lib.hid (fun v (hv : Below w.heap.size w v) => fit16_any A cv V B ca a v hl (h.keep hv) ha (hB.keep hv))
  have CC := Lib.hid (fun v (hv : Below w.heap.size w v) => rgComplete_any B ca a v ha (hB.keep hv))
  have CE := Lib.hid (fun v (hv : Below w.heap.size w v) => gEnvies_any A cv V B ca a v hl (h.keep hv) ha (hB.keep hv))
  have CP := Lib.hid (fun v (hv : Below w.heap.size w v) => gPoor_any A cv V B ca a v hl (h.keep hv) ha (hB.keep hv))
  unfold FtQ at CF
  unfold EvGQ at CE
  unfold PoQ at CP
  go_enter Try.func6, Try.ntmps6
  go_upto_region 1 with fail
  refine at_box1 (fun V0 hbb b0 hsz => ?_)
  clear hsz
  have c0 := b0.c 0 rfl
  go_wp2_with fail
  refine (alive16_any _).mono ?_
  rintro e w1 ⟨rfl, hb1⟩
  replace c0 := keepC hb1 c0
  replace hbb := keepB hbb hb1
  clear hb1 b0
  go_wp2_with fail
  refine (CF.out _ hbb).mono ?_
  rintro e w2 ⟨z, rfl, hz, hb2⟩
  replace c0 := keepC hb2 c0
  replace hbb := keepB hbb hb2
  clear hb2
  cases z with
  | false =>
    go_wp2_with fail
    go_ret
    exact ⟨rfl, hbb⟩
  | true =>
    have h0 := hz rfl
    have hG := gd_of h0 h hB
    have n1 := hG.ok.n1
    have n6 := hG.ok.n6
    have HAL := Lib.hid hG.al
    have HCP := Lib.hid (fun hc k hk => @As.cpl_get a hc k (show k < a.length by rw [hG.al.len]; exact hk))
    simp only [h0, As.evS_yes h0] at CE
    simp only [h0, As.poS_yes h0, As.al_len] at CP
    clear hz h0 hG h hB
    generalize As.cpl a = zc at *
    go_wp2_with fail
    refine (CC.out _ hbb).mono ?_
    rintro e w3 ⟨rfl, hb3⟩
    replace c0 := keepC hb3 c0
    replace hbb := keepB hbb hb3
    clear hb3
    cases zc with
    | false =>
      go_wp2_with fail
      go_ret
      exact ⟨rfl, hbb⟩
    | true =>
      have hc := HCP.out rfl
      have HNIL := Lib.hid (As.fair_nil (V := V) HAL.out hc)
      have HTWO := Lib.hid (fun (e2 : V.length = 2) (hp : As.gpoor V a 2 (As.gm V) = []) => As.fair_two (V := V) (a := a) (m := As.gm V) (e2 ▸ HAL.out) hc hp)
      have HFO := Lib.hid (fun i (hi : i ∈ As.gpoor V a V.length (As.gm V)) => As.fair_found (V := V) HAL.out hc hi)
      have HTW := Lib.hid (show V.length = 2 → (As.gpoor V a V.length (As.gm V)).length = 0 → (As.genv V a V.length).length = 0 from fun e2 hp => by
        rw [e2] at hp ⊢
        rw [HTWO.out e2 (List.length_eq_zero_iff.1 hp)]; rfl)
      have HNL := Lib.hid (show (As.genv V a V.length).length = 0 → (As.gpoor V a V.length (As.gm V)).length = 0 from fun hp => by
        rw [HNIL.out (List.length_eq_zero_iff.1 hp)]; rfl)
      have hle1 : (As.genv V a V.length).length ≤ 42 := by rw [← As.gpre_end]; exact As.gpre_le n6 a (Nat.le_refl _) (Nat.zero_le _)
      have hle2 : (As.gpoor V a V.length (As.gm V)).length ≤ V.length := As.gpk_le V a V.length (As.gm V) V.length
      clear HNIL HTWO HCP CF CC hc HAL
      generalize hgp : As.gpoor V a V.length (As.gm V) = GP at *
      generalize hge : As.genv V a V.length = GE at *
      clear hgp hge
      obtain ⟨nx, hnx⟩ : ∃ nx, GE.length = nx := ⟨_, rfl⟩
      obtain ⟨np, hnp⟩ : ∃ np, GP.length = np := ⟨_, rfl⟩
      rw [hnx, hnp] at HTW HNL
      rw [hnx] at hle1
      rw [hnp] at hle2
      simp only [hnx] at CE
      simp only [hnp] at CP
      have HNX := Lib.hid hnx
      have HNP := Lib.hid hnp
      clear hnx hnp
      go_wp2_with fail
      refine (CE.out _ hbb).mono ?_
      rintro e w4 ⟨X, cx, rfl, hX, hb4⟩
      have HX := Lib.hid hX
      replace c0 := keepC hb4 c0
      replace hbb := keepB hbb hb4
      clear hb4 hX
      go_wp2_with fail
      refine (CP.out _ hbb).mono ?_
      rintro e w5 ⟨Y, cy, rfl, hY, hb5⟩
      replace c0 := keepC hb5 c0
      replace hbb := keepB hbb hb5
      have HX5 := Lib.hid (HX.out.keep hb5)
      have HY5 := Lib.hid hY
      clear hb5 hY HX CE CP
      have HBB := Lib.hid hbb
      clear hbb
      by_cases hx0 : nx = 0
      · have hp0 := HNL.out hx0
        subst hp0
        have d1 : ((nx : Int) == 0) = true := by rw [beq_iff_eq]; omega
        have d2 : decide ((0 : Int) < ((0 : Nat) : Int)) = false := rfl
        have d3 : (((0 : Nat) : Int) == 0) = true := rfl
        have d4 : decide ((0 : Int) < (nx : Int)) = false := decide_eq_false (by omega)
        by_cases hv2 : V.length = 2
        · have d5 : ((V.length : Int) == 2) = true := by rw [beq_iff_eq]; omega
          have HV2 := Lib.hid hv2
          clear hv2
          go_wp2_with fail
          go_loopw [10, 11, 12] (fun i _ _ W => i = .int .i64 0 ∧ Hid (Below w5.heap.size w5 W)) (fun _ _ _ _ => 0)
          case atStart => exact ⟨rfl, Lib.hid (Below.refl _ _)⟩
          case round =>
            obtain ⟨rfl, HW⟩ := hrel
            go_wp2_with fail
            go_ret
            exact ⟨rfl, keepB HBB.out HW.out⟩
        · have d5 : ((V.length : Int) == 2) = false := by rw [beq_eq_false_iff_ne]; omega
          go_wp2_with fail
          go_loopw [10, 11, 12] (fun i _ _ W => i = .int .i64 0 ∧ Hid (Below w5.heap.size w5 W)) (fun _ _ _ _ => 0)
          case atStart => exact ⟨rfl, Lib.hid (Below.refl _ _)⟩
          case round =>
            obtain ⟨rfl, HW⟩ := hrel
            go_wp2_with fail
            go_ret
            exact ⟨rfl, keepB HBB.out HW.out⟩
      · have d1 : ((nx : Int) == 0) = false := by rw [beq_eq_false_iff_ne]; omega
        by_cases hv2 : V.length = 2
        · have hp0 : ¬ np = 0 := fun h => hx0 (HTW.out hv2 h)
          have d3 : ((np : Int) == 0) = false := by rw [beq_eq_false_iff_ne]; omega
          have d5 : ((V.length : Int) == 2) = true := by rw [beq_iff_eq]; omega
          have HV2 := Lib.hid hv2
          clear hv2
          go_wp2_with fail
          go_loopw [10, 11, 12] (fun i _ _ W => ∃ j : Nat, j ≤ np ∧ i = .int .i64 j ∧ Hid (Below w5.heap.size w5 W)) (fun i _ _ _ => np - (intOf i).toNat)
          case atStart => exact ⟨0, Nat.zero_le _, rfl, Lib.hid (Below.refl _ _)⟩
          case round =>
            obtain ⟨j, hj, rfl, HW⟩ := hrel
            by_cases hlt : j < np
            · have hin : j < GP.length := by rw [HNP.out]; exact hlt
              have HFN := Lib.hid (show As.fnd GE (As.el (As.al GP) j) nx = true by
                obtain ⟨p, hp, e⟩ := HFO.out (GP.getD j 0) (As.getD_memL hin 0)
                rw [← HNX.out]
                exact As.fnd_end hp (by rw [As.el_al, e]))
              obtain ⟨yb, yo, rfl, hyc⟩ := HY5.out.1 (by rw [As.al_len]; omega)
              have HYC := Lib.hid (hyc j (by rw [As.al_len]; exact hin))
              clear hyc hin
              generalize As.el (As.al GP) j = x at *
              go_wp2_with fail
              go_loopw [11, 12] (fun f i W => ∃ k : Nat, k ≤ nx ∧ i = .int .i64 k ∧ f = .bool (As.fnd GE x k) ∧ Hid (Below w5.heap.size w5 W)) (fun _ i _ => nx - (intOf i).toNat)
              case atStart => exact ⟨0, Nat.zero_le _, rfl, rfl, HW⟩
              case round =>
                clear HW
                obtain ⟨k, hk, rfl, rfl, HW⟩ := hrel
                by_cases hltk : k < nx
                · obtain ⟨xb, xo, rfl, hxc⟩ := HX5.out (by rw [HNX.out]; omega)
                  have u0 := keepC HW.out (hxc k (by rw [HNX.out]; exact hltk)).1
                  have u1 := keepC HW.out HYC.out
                  have HS := Lib.hid (As.fnd_succ GE x k)
                  have i1 : (k : Int) < (nx : Int) := by omega
                  have i2 : (j : Int) < (np : Int) := by omega
                  clear hxc
                  generalize (((GE.getD k (0, 0)).1 : Nat) : Int) = y at *
                  generalize As.fnd GE x k = b at *
                  cases b with
                  | true =>
                    go_upto_region 15 with fail
                    refine wp_region_noPanic ?_
                    refine wp_region_held_drew (S := (Below wr.heap.size wr)) (by kernel_rfl) ((Below.refl _ _).drew) (fun hHeld => ?_)
                    refine at_anyH (Below wr.heap.size wr) hHeld (fun wa0 hNew => ?_)
                    clear hHeld
                    have hHeld := hNew
                    clear hNew
                    refine tkd 0 ?_
                    try simp only [PPz]
                    refine tkd 1 ?_
                    try simp only [PPz]
                    refine tkns 2 rfl hHeld ?_
                    try simp only [PPz]
                    refine tkns 3 rfl hHeld ?_
                    try simp only [PPz]
                    refine tkns 4 rfl hHeld ?_
                    try simp only [PPz]
                    refine tkns 5 rfl hHeld ?_
                    try simp only [PPz]
                    refine tkns 6 rfl hHeld ?_
                    try simp only [PPz]
                    refine tkns 7 rfl hHeld ?_
                    try simp only [PPz]
                    refine tkns 8 rfl hHeld ?_
                    try simp only [PPz]
                    refine tkns 9 rfl hHeld ?_
                    try simp only [PPz]
                    refine tkns 10 rfl hHeld ?_
                    try simp only [PPz]
                    refine tkns 11 rfl hHeld ?_
                    try simp only [PPz]
                    refine tkd 12 ?_
                    try simp only [PPz]
                    refine tkd 13 ?_
                    try simp only [PPz]
                    refine wpAnyH_done (by kernel_rfl) ?_ _
                    refine NoPanic.normal ?_
                    go_wp2_with fail
                    go_roundw
                    case rel => exact ⟨k + 1, by omega, by go_num, by rw [HS.out]; rfl, Lib.hid (keepB HW.out hHeld)⟩
                    case measure => simp [intOf]; omega
                  | false =>
                    go_upto_region 15 with fail
                    refine wp_region_noPanic ?_
                    refine wp_region_held_drew (S := (Below wr.heap.size wr)) (by kernel_rfl) ((Below.refl _ _).drew) (fun hHeld => ?_)
                    refine at_anyH (Below wr.heap.size wr) hHeld (fun wb0 hNew => ?_)
                    clear hHeld
                    have hHeld := hNew
                    clear hNew
                    refine tkd 0 ?_
                    try simp only [PPz]
                    refine tkd 1 ?_
                    try simp only [PPz]
                    refine tkd 2 ?_
                    try simp only [PPz]
                    refine tkd 3 ?_
                    try simp only [PPz]
                    refine tkd 4 ?_
                    try simp only [PPz]
                    refine tkd 5 ?_
                    try simp only [PPz]
                    refine tkm 6 rfl hHeld (fun w hSw => by have ku0 := keepC hSw u0; have ku1 := keepC hSw u1; go_simp <;> with_reducible rfl) ?_
                    try simp only [PPz]
                    refine tkd 7 ?_
                    try simp only [PPz]
                    refine tkd 8 ?_
                    try simp only [PPz]
                    refine tkd 9 ?_
                    try simp only [PPz]
                    refine tkm 10 rfl hHeld (fun w hSw => by have ku0 := keepC hSw u0; have ku1 := keepC hSw u1; go_simp <;> with_reducible rfl) ?_
                    try simp only [PPz]
                    refine tkd 11 ?_
                    try simp only [PPz]
                    refine tkd 12 ?_
                    try simp only [PPz]
                    refine tkd 13 ?_
                    try simp only [PPz]
                    refine wpAnyH_done (by kernel_rfl) ?_ _
                    refine NoPanic.normal ?_
                    go_wp2_with fail
                    go_roundw
                    case rel => exact ⟨k + 1, by omega, by go_num, by rw [HS.out]; rfl, Lib.hid (keepB HW.out hHeld)⟩
                    case measure => simp [intOf]; omega
                · obtain rfl : k = nx := by omega
                  rw [HFN.out]
                  go_wp2_with fail
                  go_roundw
                  case rel => exact ⟨j + 1, by omega, by go_num, HW⟩
                  case measure => simp [intOf]; omega
            · obtain rfl : j = np := by omega
              go_wp2_with fail
              go_ret
              exact ⟨rfl, keepB HBB.out HW.out⟩
        · have d5 : ((V.length : Int) == 2) = false := by rw [beq_eq_false_iff_ne]; omega
          go_wp2_with fail
          go_loopw [10, 11, 12] (fun i _ _ W => ∃ j : Nat, j ≤ np ∧ i = .int .i64 j ∧ Hid (Below w5.heap.size w5 W)) (fun i _ _ _ => np - (intOf i).toNat)
          case atStart => exact ⟨0, Nat.zero_le _, rfl, Lib.hid (Below.refl _ _)⟩
          case round =>
            obtain ⟨j, hj, rfl, HW⟩ := hrel
            by_cases hlt : j < np
            · have hin : j < GP.length := by rw [HNP.out]; exact hlt
              have HFN := Lib.hid (show As.fnd GE (As.el (As.al GP) j) nx = true by
                obtain ⟨p, hp, e⟩ := HFO.out (GP.getD j 0) (As.getD_memL hin 0)
                rw [← HNX.out]
                exact As.fnd_end hp (by rw [As.el_al, e]))
              obtain ⟨yb, yo, rfl, hyc⟩ := HY5.out.1 (by rw [As.al_len]; omega)
              have HYC := Lib.hid (hyc j (by rw [As.al_len]; exact hin))
              clear hyc hin
              generalize As.el (As.al GP) j = x at *
              go_wp2_with fail
              go_loopw [11, 12] (fun f i W => ∃ k : Nat, k ≤ nx ∧ i = .int .i64 k ∧ f = .bool (As.fnd GE x k) ∧ Hid (Below w5.heap.size w5 W)) (fun _ i _ => nx - (intOf i).toNat)
              case atStart => exact ⟨0, Nat.zero_le _, rfl, rfl, HW⟩
              case round =>
                clear HW
                obtain ⟨k, hk, rfl, rfl, HW⟩ := hrel
                by_cases hltk : k < nx
                · obtain ⟨xb, xo, rfl, hxc⟩ := HX5.out (by rw [HNX.out]; omega)
                  have u0 := keepC HW.out (hxc k (by rw [HNX.out]; exact hltk)).1
                  have u1 := keepC HW.out HYC.out
                  have HS := Lib.hid (As.fnd_succ GE x k)
                  have i1 : (k : Int) < (nx : Int) := by omega
                  have i2 : (j : Int) < (np : Int) := by omega
                  clear hxc
                  generalize (((GE.getD k (0, 0)).1 : Nat) : Int) = y at *
                  generalize As.fnd GE x k = b at *
                  cases b with
                  | true =>
                    go_upto_region 15 with fail
                    refine wp_region_noPanic ?_
                    refine wp_region_held_drew (S := (Below wr.heap.size wr)) (by kernel_rfl) ((Below.refl _ _).drew) (fun hHeld => ?_)
                    refine at_anyH (Below wr.heap.size wr) hHeld (fun wa0 hNew => ?_)
                    clear hHeld
                    have hHeld := hNew
                    clear hNew
                    refine tkd 0 ?_
                    try simp only [PPz]
                    refine tkd 1 ?_
                    try simp only [PPz]
                    refine tkns 2 rfl hHeld ?_
                    try simp only [PPz]
                    refine tkns 3 rfl hHeld ?_
                    try simp only [PPz]
                    refine tkns 4 rfl hHeld ?_
                    try simp only [PPz]
                    refine tkns 5 rfl hHeld ?_
                    try simp only [PPz]
                    refine tkns 6 rfl hHeld ?_
                    try simp only [PPz]
                    refine tkns 7 rfl hHeld ?_
                    try simp only [PPz]
                    refine tkns 8 rfl hHeld ?_
                    try simp only [PPz]
                    refine tkns 9 rfl hHeld ?_
                    try simp only [PPz]
                    refine tkns 10 rfl hHeld ?_
                    try simp only [PPz]
                    refine tkns 11 rfl hHeld ?_
                    try simp only [PPz]
                    refine tkd 12 ?_
                    try simp only [PPz]
                    refine tkd 13 ?_
                    try simp only [PPz]
                    refine wpAnyH_done (by kernel_rfl) ?_ _
                    refine NoPanic.normal ?_
                    go_wp2_with fail
                    go_roundw
                    case rel => exact ⟨k + 1, by omega, by go_num, by rw [HS.out]; rfl, Lib.hid (keepB HW.out hHeld)⟩
                    case measure => simp [intOf]; omega
                  | false =>
                    go_upto_region 15 with fail
                    refine wp_region_noPanic ?_
                    refine wp_region_held_drew (S := (Below wr.heap.size wr)) (by kernel_rfl) ((Below.refl _ _).drew) (fun hHeld => ?_)
                    refine at_anyH (Below wr.heap.size wr) hHeld (fun wb0 hNew => ?_)
                    clear hHeld
                    have hHeld := hNew
                    clear hNew
                    refine tkd 0 ?_
                    try simp only [PPz]
                    refine tkd 1 ?_
                    try simp only [PPz]
                    refine tkd 2 ?_
                    try simp only [PPz]
                    refine tkd 3 ?_
                    try simp only [PPz]
                    refine tkd 4 ?_
                    try simp only [PPz]
                    refine tkd 5 ?_
                    try simp only [PPz]
                    refine tkm 6 rfl hHeld (fun w hSw => by have ku0 := keepC hSw u0; have ku1 := keepC hSw u1; go_simp <;> with_reducible rfl) ?_
                    try simp only [PPz]
                    refine tkd 7 ?_
                    try simp only [PPz]
                    refine tkd 8 ?_
                    try simp only [PPz]
                    refine tkd 9 ?_
                    try simp only [PPz]
                    refine tkm 10 rfl hHeld (fun w hSw => by have ku0 := keepC hSw u0; have ku1 := keepC hSw u1; go_simp <;> with_reducible rfl) ?_
                    try simp only [PPz]
                    refine tkd 11 ?_
                    try simp only [PPz]
                    refine tkd 12 ?_
                    try simp only [PPz]
                    refine tkd 13 ?_
                    try simp only [PPz]
                    refine wpAnyH_done (by kernel_rfl) ?_ _
                    refine NoPanic.normal ?_
                    go_wp2_with fail
                    go_roundw
                    case rel => exact ⟨k + 1, by omega, by go_num, by rw [HS.out]; rfl, Lib.hid (keepB HW.out hHeld)⟩
                    case measure => simp [intOf]; omega
                · obtain rfl : k = nx := by omega
                  rw [HFN.out]
                  go_wp2_with fail
                  go_roundw
                  case rel => exact ⟨j + 1, by omega, by go_num, HW⟩
                  case measure => simp [intOf]; omega
            · obtain rfl : j = np := by omega
              go_wp2_with fail
              go_ret
              exact ⟨rfl, keepB HBB.out HW.out⟩
end Go.Proofs.Ytfpaefnaidppmaa

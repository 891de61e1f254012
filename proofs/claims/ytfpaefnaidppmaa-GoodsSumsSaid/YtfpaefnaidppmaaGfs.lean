/- The law GoodsSums. -/
import Derived.Test.YtfpaefnaidppmaaGfa
import Derived.Test.YtfpaefnaidppmaaGec
namespace Go.Proofs.Ytfpaefnaidppmaa
open Go.RowKit
namespace As
/-- What the goods that somebody gets are worth, good by good. -/
def smp (V : List (List Int)) (a : List Int) (i m : Nat) : Int := sm (fun g => if 0 ≤ el a g then vl V i g else 0) (List.range m)
theorem smp_succ (V : List (List Int)) (a : List Int) (i m : Nat) : smp V a i (m + 1) = smp V a i m + if 0 ≤ el a m then vl V i m else 0 := sm_succ _ _
theorem smp_bd {V : List (List Int)} (ok : Gok V) (a : List Int) (i m : Nat) : 0 ≤ smp V a i m ∧ smp V a i m ≤ m * 1000 :=
  gsm_bd (f := fun g => if 0 ≤ el a g then vl V i g else 0) (M := 1000) (n := m) (fun j _ => by
    have h := ok.bd i j
    by_cases e : 0 ≤ el a j
    · rw [if_pos e]; exact h
    · rw [if_neg e]; omega) m (Nat.le_refl m)
def bsp (V : List (List Int)) (a : List Int) (i k : Nat) : Int := sm (bw V a i) (List.range k)
theorem bsp_succ (V : List (List Int)) (a : List Int) (i k : Nat) : bsp V a i (k + 1) = bsp V a i k + bw V a i k := sm_succ _ _
theorem bsp_bd {V : List (List Int)} {a : List Int} (ok : Gok V) (h : Al V.length (gm V) a) (i k : Nat) : 0 ≤ bsp V a i k ∧ bsp V a i k ≤ k * 10000 :=
  gsm_bd (f := bw V a i) (M := 10000) (n := k) (fun j _ => bw_small ok h i j) k (Nat.le_refl k)
theorem bsp_end {V : List (List Int)} {a : List Int} (h : Al V.length (gm V) a) (i : Nat) : bsp V a i V.length = smp V a i a.length := by
  rw [h.len]; exact bw_sum h i
theorem gpre_in {V : List (List Int)} {a : List Int} {n i k : Nat} (hi : i < n) (hk : k < n) (h : bw V a i i < bw V a i k) : (gpre V a n i k).length < (genv V a n).length ∧ (genv V a n).getD (gpre V a n i k).length (0, 0) = (i, k) := by
  have e := gpre_at V a n hi hk h
  obtain ⟨h1, h2⟩ := List.getElem?_eq_some_iff.1 e
  exact ⟨h1, by rw [getD_lt h1]; exact h2⟩
theorem gpk_in {V : List (List Int)} {a : List Int} {n m i : Nat} (hi : i < n) (h : n * bw V a i i < gall V m i) : (gpk V a n m i).length < (gpoor V a n m).length ∧ el (al (gpoor V a n m)) (gpk V a n m i).length = i := by
  have e := gpk_at V a n m hi h
  obtain ⟨h1, h2⟩ := List.getElem?_eq_some_iff.1 e
  exact ⟨h1, by rw [el_al, getD_lt h1, h2]⟩
theorem gprelen (V : List (List Int)) (a : List Int) (n i k : Nat) : (gpre V a n i (k + 1)).length = (gpre V a n i k).length + if bw V a i i < bw V a i k then 1 else 0 := by
  rw [gpre_succ, List.length_append]
  congr 1
  by_cases h : bw V a i i < bw V a i k
  · rw [if_pos h, if_pos h]; rfl
  · rw [if_neg h, if_neg h]; rfl
theorem gpklen (V : List (List Int)) (a : List Int) (n m i : Nat) : (gpk V a n m (i + 1)).length = (gpk V a n m i).length + if n * bw V a i i < gall V m i then 1 else 0 := by
  rw [gpk_succ, List.length_append]
  congr 1
  by_cases h : n * bw V a i i < gall V m i
  · rw [if_pos h, if_pos h]; rfl
  · rw [if_neg h, if_neg h]; rfl
end As
set_option maxRecDepth 100000 in
set_option maxHeartbeats 16000000 in
theorem goodssums_walk (A : Option Addr) (cv : Nat) (V : List (List Int)) (B : Option Addr) (ca : Nat) (a : List Int) (w : World) (hl : V.length ≤ maxLen) (h : IsM w A V) (ha : a.length ≤ maxLen) (hB : IsI w B a) :
    Calls Try.prog 7 #[.agg #[.slice A V.length cv], .slice B a.length ca] w fun e w' => e = .returned (.bool true) ∧ Below w.heap.size w w' := by
  have CF := Lib.hid (fun v (hv : Below w.heap.size w v) => fit16_any A cv V B ca a v hl (h.keep hv) ha (hB.keep hv))
  have CV := Lib.hid (fun v (hv : Below w.heap.size w v) => gValues_any A cv V B ca a v hl (h.keep hv) ha (hB.keep hv))
  have CE := Lib.hid (fun v (hv : Below w.heap.size w v) => gEnvies_any A cv V B ca a v hl (h.keep hv) ha (hB.keep hv))
  have CP := Lib.hid (fun v (hv : Below w.heap.size w v) => gPoor_any A cv V B ca a v hl (h.keep hv) ha (hB.keep hv))
  unfold FtQ at CF
  unfold VlQ at CV
  unfold EvGQ at CE
  unfold PoQ at CP
  go_enter Try.func7, Try.ntmps7
  go_upto_region 1 with fail
  refine at_box1 (fun V0 hbb b0 hsz => ?_)
  clear hsz
  have c0 := b0.c 0 rfl
  go_wp2_with fail
  refine (alive16_any _).mono ?_
  rintro e w1 ⟨rfl, hb1⟩
  replace c0 := keepC hb1 c0
  replace hbb := keepB hbb hb1
  clear hb1 b0
  go_wp2_with fail
  refine (CF.out _ hbb).mono ?_
  rintro e w2 ⟨z, rfl, hz, hb2⟩
  replace c0 := keepC hb2 c0
  replace hbb := keepB hbb hb2
  clear hb2
  cases z with
  | false =>
    go_wp2_with fail
    go_ret
    exact ⟨rfl, hbb⟩
  | true =>
    have h0 := hz rfl
    have hG := gd_of h0 h hB
    have HG := Lib.hid hG
    have n1 := hG.ok.n1
    have n6 := hG.ok.n6
    have m10 : a.length ≤ 10 := by have h1 := hG.al.len; have h2 := hG.ok.m10; omega
    have HAM := Lib.hid (show a.length = As.gm V from hG.al.len)
    simp only [h0, As.vlS_yes h0, mm_len] at CV
    simp only [h0, As.evS_yes h0] at CE
    simp only [h0, As.poS_yes h0, As.al_len] at CP
    have N0 := Lib.hid (show (As.gpre V a V.length 0 0).length = 0 from rfl)
    have NS := Lib.hid (As.gprelen V a V.length)
    have NR := Lib.hid (fun i => congrArg List.length (As.gpre_row V a V.length i))
    have NE := Lib.hid (congrArg List.length (As.gpre_end V a V.length))
    have NA := Lib.hid (fun i k hi hk hh => @As.gpre_in V a V.length i k hi hk hh)
    have NB := Lib.hid (fun i k hi hk => @As.gpre_le V V.length n6 a i k hi hk)
    have Q0 := Lib.hid (show (As.gpk V a V.length (As.gm V) 0).length = 0 from rfl)
    have QS := Lib.hid (As.gpklen V a V.length (As.gm V))
    have QE := Lib.hid (congrArg List.length (As.gpk_end V a V.length (As.gm V)))
    have QA := Lib.hid (fun i hi hh => @As.gpk_in V a V.length (As.gm V) i hi hh)
    have QB := Lib.hid (As.gpk_le V a V.length (As.gm V))
    have SE := Lib.hid (As.bsp_end hG.al)
    have SS := Lib.hid (As.smp_succ V a)
    have SB := Lib.hid (As.smp_bd hG.ok a)
    have BS := Lib.hid (As.bsp_succ V a)
    have BB := Lib.hid (As.bsp_bd hG.ok hG.al)
    have FB := Lib.hid (As.bw_small hG.ok hG.al)
    have VB := Lib.hid hG.ok.bd
    have GB := Lib.hid (fun i => As.glp_bd hG.ok i (As.gm V))
    have GE' := Lib.hid (show ∀ i, As.glp V i (As.gm V) = As.gall V (As.gm V) i from fun i => rfl)
    have CA := Lib.hid (fun i (hi : i < V.length) v (hv : Below w.heap.size w v) => rgAll_any A cv V B a i v (HG.out.keep hv) hi)
    clear hz h0 hG h hB CF
    go_wp2_with fail
    refine (CV.out _ hbb).mono ?_
    rintro e w3 ⟨X, cx, rfl, hX, hb3⟩
    have HX := Lib.hid hX
    replace c0 := keepC hb3 c0
    replace hbb := keepB hbb hb3
    clear hb3 hX
    go_wp2_with fail
    refine (CE.out _ hbb).mono ?_
    rintro e w4 ⟨Y, cy, rfl, hY, hb4⟩
    have HY := Lib.hid hY
    have HX4 := Lib.hid (HX.out.keep hb4)
    replace c0 := keepC hb4 c0
    replace hbb := keepB hbb hb4
    clear hb4 hY HX
    go_wp2_with fail
    refine (CP.out _ hbb).mono ?_
    rintro e w5 ⟨Z, cz, rfl, hZ, hb5⟩
    have HZ5 := Lib.hid hZ
    have HX5 := Lib.hid (HX4.out.keep hb5)
    have HY5 := Lib.hid (HY.out.keep hb5)
    replace c0 := keepC hb5 c0
    replace hbb := keepB hbb hb5
    have C0 := Lib.hid c0
    have HBB := Lib.hid hbb
    have HG5 := Lib.hid (HG.out.keep hbb)
    clear hb5 hZ HX4 HY CV CE CP hbb HG
    generalize hgp : As.gpoor V a V.length (As.gm V) = GP at *
    generalize hge : As.genv V a V.length = GE at *
    clear hgp hge
    obtain ⟨N, hN⟩ : ∃ N : Nat → Nat → Nat, ∀ i k, (As.gpre V a V.length i k).length = N i k := ⟨_, fun _ _ => rfl⟩
    obtain ⟨Q, hQ⟩ : ∃ Q : Nat → Nat, ∀ i, (As.gpk V a V.length (As.gm V) i).length = Q i := ⟨_, fun _ => rfl⟩
    obtain ⟨nx, hnx⟩ : ∃ nx, GE.length = nx := ⟨_, rfl⟩
    obtain ⟨np, hnp⟩ : ∃ np, GP.length = np := ⟨_, rfl⟩
    simp only [hN] at N0 NS NR NE NA NB
    simp only [hQ] at Q0 QS QE QA QB
    rw [hnx] at NE
    simp only [hnx] at NA
    rw [hnp] at QE
    simp only [hnp] at QA
    rw [hnx, hnp]
    have HNX := Lib.hid hnx
    have HNP := Lib.hid hnp
    clear hN hQ hnx hnp
    have e0 : ((V.length : Int) != V.length) = false := by simp
    have q1 := NE.out
    have q2 := QE.out
    have q3 := NB.out V.length 0 (Nat.le_refl _) (Nat.zero_le _)
    have q4 := QB.out V.length
    have hnx42 : nx ≤ 42 := by omega
    have hnp6 : np ≤ 6 := by omega
    clear q1 q2 q3 q4
    go_wp2_with fail
    clear c0
    go_loopw [12, 13, 14, 15, 16, 17, 18] (fun en po i _ _ _ _ W => ∃ k : Nat, k ≤ V.length ∧ i = .int .i64 k ∧ en = .int .i64 (N k 0 : Nat) ∧ po = .int .i64 (Q k : Nat) ∧ Hid (Below w5.heap.size w5 W)) (fun _ _ i _ _ _ _ _ => V.length - (intOf i).toNat)
    case atStart => exact ⟨0, Nat.zero_le _, rfl, by rw [N0.out]; rfl, by rw [Q0.out]; rfl, Lib.hid (Below.refl _ _)⟩
    case round =>
      obtain ⟨i, hi, rfl, rfl, rfl, HW⟩ := hrel
      by_cases hlt : i < V.length
      · obtain ⟨xb, xo, rb, ro, cr, rfl, hxr, hxc⟩ := gmm_at HX5.out hlt (by omega)
        obtain ⟨ab, ao, R, cg, rfl, hgr, hgc⟩ := grow_at HG5.out hlt
        have HXR := Lib.hid hxr
        have HXC := Lib.hid hxc
        have HGR := Lib.hid hgr
        have HGC := Lib.hid hgc
        have x0 := keepC HW.out hxr
        have i1 : (i : Int) < (V.length : Int) := by omega
        clear hxr hxc hgr hgc
        go_wp2_with fail
        clear x0
        go_loopw [16, 17] (fun so g W => ∃ m : Nat, m ≤ a.length ∧ g = .int .i64 m ∧ so = .int .i64 (As.smp V a i m) ∧ Hid (Below w5.heap.size w5 W)) (fun _ g _ => a.length - (intOf g).toNat)
        case atStart => exact ⟨0, Nat.zero_le _, rfl, rfl, HW⟩
        case round =>
          clear HW
          obtain ⟨m, hm, rfl, rfl, HW⟩ := hrel
          by_cases hltm : m < a.length
          · obtain ⟨bb, bo, rfl, hbc⟩ := HG5.out.hB.1 (by omega)
            obtain ⟨gb, go, rfl, hgv⟩ := HGC.out (by rw [← HAM.out]; omega)
            have y0 := keepC HW.out (hbc m hltm)
            have y1 := keepC HW.out (hgv m (by rw [← HAM.out]; exact hltm))
            have y2 := keepC HW.out HGR.out
            have y3 := keepC HW.out C0.out
            have ES := Lib.hid (SS.out i m)
            have ⟨s1, s2⟩ := SB.out i m
            have ⟨v1, v2⟩ := VB.out i m
            have s3 : As.smp V a i m ≤ 10000 := by omega
            have i2 : (m : Int) < (As.gm V : Int) := by have := HAM.out; omega
            clear hbc hgv s2
            by_cases hh : 0 ≤ As.el a m
            · have d1 : decide (0 ≤ As.el a m) = true := decide_eq_true hh
              rw [if_pos hh] at ES
              generalize As.el a m = t at *
              generalize As.vl V i m = z at *
              generalize As.smp V a i m = s at *
              go_wp2_with fail
              go_roundw
              case rel => exact ⟨m + 1, by omega, by go_num, by rw [ES.out], HW⟩
              case measure => simp [intOf]; omega
            · have d1 : decide (0 ≤ As.el a m) = false := decide_eq_false hh
              rw [if_neg hh, Int.add_zero] at ES
              generalize As.el a m = t at *
              generalize As.vl V i m = z at *
              generalize As.smp V a i m = s at *
              go_wp2_with fail
              go_roundw
              case rel => exact ⟨m + 1, by omega, by go_num, by rw [ES.out], HW⟩
              case measure => simp [intOf]; omega
          · obtain rfl : m = a.length := by omega
            have HSE := Lib.hid (SE.out i)
            generalize As.smp V a i a.length = T at *
            go_wp2_with fail
            go_loopw [12, 15, 18] (fun en al k W => ∃ m : Nat, m ≤ V.length ∧ k = .int .i64 m ∧ en = .int .i64 (N i m : Nat) ∧ al = .int .i64 (As.bsp V a i m) ∧ Hid (Below w5.heap.size w5 W)) (fun _ _ k _ => V.length - (intOf k).toNat)
            case atStart => exact ⟨0, Nat.zero_le _, rfl, rfl, rfl, HW⟩
            case round =>
              clear HW
              obtain ⟨k, hk, rfl, rfl, rfl, HW⟩ := hrel
              by_cases hltk : k < V.length
              · have HK := Lib.hid (fun v (hv : Below w5.heap.size w5 v) => (show v.cell? ⟨xb, xo + i, none⟩ = some (.slice (some ⟨rb, ro, none⟩) V.length cr) ∧ v.cell? ⟨rb, ro + k, none⟩ = some (.int .i64 (As.bw V a i k)) ∧ v.cell? ⟨rb, ro + i, none⟩ = some (.int .i64 (As.bw V a i i)) from ⟨keepC hv HXR.out, keepC hv (HXC.out k hltk), keepC hv (HXC.out i hlt)⟩))
                have ES := Lib.hid (BS.out i k)
                have NSK := Lib.hid (NS.out i k)
                have NAK := Lib.hid (NA.out i k hlt hltk)
                have hNB := NB.out i k (by omega) (by omega)
                have ⟨s1, s2⟩ := BB.out i k
                have ⟨f1, f2⟩ := FB.out i k
                have s3 : As.bsp V a i k ≤ 100000 := by omega
                have i2 : (k : Int) < (V.length : Int) := by omega
                have HBX := Lib.hid (show ∀ x y, As.bw V a i i = x → As.bw V a i k = y → (x < y → As.bw V a i i < As.bw V a i k) from fun x y e1 e2 h => by rw [e1, e2]; exact h)
                obtain ⟨x, hx⟩ : ∃ x, As.bw V a i i = x := ⟨_, rfl⟩
                obtain ⟨y, hy⟩ : ∃ y, As.bw V a i k = y := ⟨_, rfl⟩
                rw [hx, hy] at NSK
                simp only [hx, hy] at NAK HK
                rw [hy] at ES f1 f2
                have nS : As.bsp V a i (k + 1) = As.bsp V a i k + y := ES.out
                have HNS := Lib.hid nS
                have HLT := Lib.hid hltk
                clear s2 HBX hx hy nS ES
                obtain ⟨s, hs⟩ : ∃ s, As.bsp V a i k = s := ⟨_, rfl⟩
                rw [hs] at s1 s3 HNS ⊢
                obtain ⟨u0, u1, u2⟩ := HK.out _ HW.out
                clear hs
                have hWW := HW.out
                go_upto_region 25 with fail
                clear u0 u1 u2
                go_region_held3 (fun v => v.cell? ⟨xb, xo + i, none⟩ = some (.slice (some ⟨rb, ro, none⟩) V.length cr) ∧ v.cell? ⟨rb, ro + k, none⟩ = some (.int .i64 y) ∧ v.cell? ⟨rb, ro + i, none⟩ = some (.int .i64 x))
                  (first | (exact HK.out _ (by assumption)) | (exact HK.out _ (Below.drew (by assumption))))
                  (fail)
                all_goals
                  have HWD := Lib.hid (Below.drew hWW)
                  clear hWW
                  by_cases hxy : x < y
                  · have d1 : decide (x < y) = true := decide_eq_true hxy
                    obtain ⟨g1, g2⟩ := NAK.out hxy
                    rw [if_pos hxy] at NSK
                    obtain ⟨yb, yo, rfl, hyc⟩ := HY5.out (by rw [HNX.out]; omega)
                    have z1 := keepC HWD.out (hyc (N i k) (by rw [HNX.out]; exact g1)).1
                    have z2 := keepC HWD.out (hyc (N i k) (by rw [HNX.out]; exact g1)).2
                    rw [g2] at z1 z2
                    have EQ := eq_pair (i : Int) (k : Int)
                    obtain ⟨q, hq⟩ : ∃ q, N i k = q := ⟨_, rfl⟩
                    rw [hq] at g1 z1 z2 hNB
                    rw [hq]
                    have HSQ := Lib.hid (show N i (k + 1) = q + 1 by rw [NSK.out, hq])
                    have d2 : decide ((nx : Int) ≤ (q : Int)) = false := decide_eq_false (by omega)
                    have i3 : (q : Int) < (nx : Int) := by omega
                    clear hyc g2 NAK NSK hq
                    go_wp2_with fail
                    go_roundw
                    case rel => exact ⟨k + 1, by omega, by go_num, by rw [HSQ.out]; go_num, by rw [HNS.out], HWD⟩
                    case measure => simp [intOf]; omega
                  · have d1 : decide (x < y) = false := decide_eq_false hxy
                    rw [if_neg hxy, Nat.add_zero] at NSK
                    clear NAK
                    go_wp2_with fail
                    go_roundw
                    case rel => exact ⟨k + 1, by omega, by go_num, by rw [NSK.out]; rfl, by rw [HNS.out], HWD⟩
                    case measure => simp [intOf]; omega
              · obtain rfl : k = V.length := by omega
                rw [HSE.out]
                have HNR := Lib.hid (NR.out i)
                have HK := Lib.hid (fun v (hv : Below w5.heap.size w5 v) => (show v.cell? ⟨w.heap.size, 0, none⟩ = some (.slice (some ⟨ab, ao, none⟩) V.length cv) ∧ v.cell? ⟨xb, xo + i, none⟩ = some (.slice (some ⟨rb, ro, none⟩) V.length cr) ∧ v.cell? ⟨rb, ro + i, none⟩ = some (.int .i64 (As.bw V a i i)) from ⟨keepC hv C0.out, keepC hv HXR.out, keepC hv (HXC.out i hlt)⟩))
                have CAI := Lib.hid (fun v (hv : Below w5.heap.size w5 v) => CA.out i hlt v (keepB HBB.out hv))
                have QSI := Lib.hid (QS.out i)
                have QAI := Lib.hid (QA.out i hlt)
                have ⟨f1, f2⟩ := FB.out i i
                have hQB := QB.out i
                obtain ⟨z, hz⟩ : ∃ z, (V.length : Int) * As.bw V a i i = z := ⟨_, rfl⟩
                have q1 : 0 ≤ z := by rw [← hz]; exact Int.mul_nonneg (by omega) f1
                have q2 : z ≤ 60000 := by
                  rw [← hz]
                  exact Int.le_trans (Int.mul_le_mul (show (V.length : Int) ≤ 6 by omega) f2 f1 (by decide)) (by decide)
                have hw : IntKind.i64.wrap (As.bw V a i i * (V.length : Int)) = z := by rw [Int.mul_comm, hz]; exact IntWalk.i64_in _ (by omega)
                rw [hz] at QSI
                simp only [hz] at QAI
                clear hz q1 q2 f1 f2
                generalize As.bw V a i i = x at *
                generalize As.gall V (As.gm V) i = ga at *
                have e2 : (T != T) = false := by simp
                have hWW := HW.out
                go_upto_region 29 with fail
                go_region_held3 (fun v => v.cell? ⟨w.heap.size, 0, none⟩ = some (.slice (some ⟨ab, ao, none⟩) V.length cv) ∧ v.cell? ⟨xb, xo + i, none⟩ = some (.slice (some ⟨rb, ro, none⟩) V.length cr) ∧ v.cell? ⟨rb, ro + i, none⟩ = some (.int .i64 x))
                  (first | (exact HK.out _ (by assumption)) | (exact HK.out _ (Below.drew (by assumption))))
                  (first
                    | (go_at_call 32; refine (CAI.out _ (by first | assumption | exact Below.drew (by assumption))).mono ?_; rintro e w7 ⟨rfl, hb7⟩; have hw7 : Below w5.heap.size w5 w7 := (by first | exact keepB HW.out hb7 | exact keepB HW.out.drew hb7)))
                all_goals
                  have HW7 := Lib.hid hw7
                  clear hw7 hWW hw
                  by_cases hh : z < ga
                  · have d1 : decide (z < ga) = true := decide_eq_true hh
                    obtain ⟨g1, g2⟩ := QAI.out hh
                    rw [if_pos hh] at QSI
                    obtain ⟨zb, zo, rfl, hzc⟩ := HZ5.out.1 (by rw [As.al_len, HNP.out]; omega)
                    have z1 := keepC HW7.out (hzc (Q i) (by rw [As.al_len, HNP.out]; exact g1))
                    rw [g2] at z1
                    obtain ⟨q, hq⟩ : ∃ q, Q i = q := ⟨_, rfl⟩
                    rw [hq] at g1 z1 hQB
                    rw [hq]
                    have HSQ := Lib.hid (show Q (i + 1) = q + 1 by rw [QSI.out, hq])
                    have d2 : decide ((np : Int) ≤ (q : Int)) = false := decide_eq_false (by omega)
                    have i3 : (q : Int) < (np : Int) := by omega
                    have e3 : ((i : Int) != (i : Int)) = false := by simp
                    clear hzc g2 QAI QSI hq
                    go_wp2_with fail
                    go_roundw
                    case rel => exact ⟨i + 1, by omega, by go_num, by rw [← HNR.out], by rw [HSQ.out]; go_num, HW7⟩
                    case measure => simp [intOf]; omega
                  · have d1 : decide (z < ga) = false := decide_eq_false hh
                    rw [if_neg hh, Nat.add_zero] at QSI
                    clear QAI
                    go_wp2_with fail
                    go_roundw
                    case rel => exact ⟨i + 1, by omega, by go_num, by rw [← HNR.out], by rw [QSI.out]; rfl, HW7⟩
                    case measure => simp [intOf]; omega
      · obtain rfl : i = V.length := by omega
        rw [NE.out, QE.out]
        have e1 : ((nx : Int) == (nx : Int)) = true := by simp
        have e2 : ((np : Int) == (np : Int)) = true := by simp
        go_wp2_with fail
        go_ret
        exact ⟨rfl, keepB HBB.out HW.out⟩
end Go.Proofs.Ytfpaefnaidppmaa

/- AssignLeast's walk. -/
import Derived.Test.YtkibglbccfjkpaaAsu
namespace Go.Proofs.Ytkibglbccfjkpaa
open Go.RowKit
set_option maxRecDepth 100000 in
set_option maxHeartbeats 8000000 in
theorem aleast_core (A : Option Addr) (cv : Nat) (V : List (List Int)) (B : Option Addr) (ca : Nat) (xs : List Int) (C : Option Addr) (cp : Nat) (ps : List Int) (w : World) (hl : V.length ≤ maxLen) (h : IsM w A V) (hx : xs.length ≤ maxLen) (hB : IsI w B xs) (hpm : ps.length ≤ maxLen) (hC : IsI w C ps) (h0 : As.chk V = 0) :
    Calls Try.prog 7 #[.slice A V.length cv, .slice B xs.length ca, .slice C ps.length cp] w fun e w' => e = .returned (.bool true) ∧ Below w.heap.size w w' := by
  have ok := As.chk_ok h0
  have ht := As.bst_top ok
  have n1 := ok.n1
  have n6 := ok.n6
  obtain ⟨t1, t2⟩ := As.perm_lt ht.perm
  have lpl := As.lp_len ht
  have CAl := Lib.hid (asAlive_any w)
  have CF := fun v (hv : Below w.heap.size w v) => fit_any A cv V v hl (h.keep hv)
  rw [show As.ftB V = true by unfold As.ftB; rw [h0]; rfl] at CF
  have HCF := Lib.hid CF
  have e1 : As.bsl V = As.bst V := by unfold As.bsl; rw [if_pos h0]
  have e2 : As.prl V = As.lp V (As.bst V) := by unfold As.prl; rw [if_pos h0]
  have CB := Lib.hid (fun v (hv : Below w.heap.size w v) => show Calls Try.prog 12 #[.slice A V.length cv] v (fun e v' => ∃ D c z, e = .returned (.tuple #[.slice D V.length c, .int .i64 z, .int .i64 0]) ∧ IsI v' D (As.al (As.bst V)) ∧ Below v.heap.size v v') from (asBest_any A cv V v hl (h.keep hv)).mono fun e v' hq => by
    obtain ⟨D, c, hd, hI, hb⟩ := hq
    rw [e1, t1, h0] at hd
    rw [e1] at hI
    exact ⟨D, c, _, hd, hI, hb⟩)
  have CPr := Lib.hid (fun v (hv : Below w.heap.size w v) => show Calls Try.prog 14 #[.slice A V.length cv] v (fun e v' => ∃ D c, e = .returned (.tuple #[.slice D V.length c, .int .i64 0]) ∧ IsI v' D (As.lp V (As.bst V)) ∧ Below v.heap.size v v') from (asPrices_any A cv V v hl (h.keep hv)).mono fun e v' hq => by
    obtain ⟨D, c, hd, hI, hb⟩ := hq
    rw [e2, lpl, h0] at hd
    rw [e2] at hI
    exact ⟨D, c, hd, hI, hb⟩)
  have CD := fun v D c (hI : IsI v D (As.al (As.bst V))) => rAssigned_any D c (As.al (As.bst V)) V.length v (by rw [As.al_len, t1]; exact hl) hI
  rw [As.perm_isA ht.perm, As.al_len, t1] at CD
  have HCD := Lib.hid CD
  have HDC := Lib.hid (show ∀ (v : World) (D : Option Addr), IsI v D (As.al (As.bst V)) → ∃ db d0, D = some ⟨db, d0, none⟩ ∧ ∀ i, i < V.length → v.cell? ⟨db, d0 + i, none⟩ = some (.int .i64 (((As.bst V).getD i 0 : Nat) : Int)) from fun v D hI => by
    obtain ⟨db, d0, hd, hc⟩ := hI.1 (by rw [As.al_len]; omega)
    refine ⟨db, d0, hd, fun i hi => ?_⟩
    have := hc i (by rw [As.al_len]; omega)
    rwa [As.el_al] at this)
  have HPC := Lib.hid (show ∀ (v : World) (D : Option Addr), IsI v D (As.lp V (As.bst V)) → ∃ db d0, D = some ⟨db, d0, none⟩ ∧ ∀ i, i < V.length → v.cell? ⟨db, d0 + i, none⟩ = some (.int .i64 (As.el (As.lp V (As.bst V)) i)) from fun v D hI => by
    obtain ⟨db, d0, hd, hc⟩ := hI.1 (by omega)
    exact ⟨db, d0, hd, fun i hi => hc i (by omega)⟩)
  have hql : As.isL (As.lp V (As.bst V)) V.length 10000000 = true := by
    rw [As.isL_eq, As.any_no fun k hk => ?_, decide_eq_true (by omega)]
    · rfl
    · have b1 := As.lp_nn ht k
      have b2 := As.lp_bound ht (by omega) ok.bd (y := k) (by omega)
      unfold As.bad; simp; omega
  have hcb : As.contB V (As.bst V) (As.lp V (As.bst V)) = true := As.contB_iff.2 (As.lp_cont ht)
  have hz := As.lp_zero ht (by omega)
  have CQ := fun v D c (hI : IsI v D (As.lp V (As.bst V))) => rPriced_any D c (As.lp V (As.bst V)) V.length v (by omega) hI
  rw [hql, lpl] at CQ
  have HCQ := Lib.hid CQ
  have CC := fun v D c E c' (hv : Below w.heap.size w v) (hI : IsI v D (As.al (As.bst V))) (hJ : IsI v E (As.lp V (As.bst V))) => rContent_any A cv V D c (As.bst V) E c' (As.lp V (As.bst V)) v ok (h.keep hv) hI hJ ht.perm (As.isL_bd (by omega) hql).2 lpl
  rw [hcb] at CC
  have HCC := Lib.hid CC
  have CR := fun v D c E c' (hv : Below w.heap.size w v) (hI : IsI v D (As.al (As.bst V))) (hJ : IsI v E (As.lp V (As.bst V))) => asProves_any A cv V D c (As.al (As.bst V)) E c' (As.lp V (As.bst V)) v hl (h.keep hv) (by rw [As.al_len, t1]; exact hl) hI (by omega) hJ
  rw [show As.prvS V (As.al (As.bst V)) (As.lp V (As.bst V)) = (true, 0) by unfold As.prvS; rw [if_pos h0, As.perm_isA ht.perm, hql, Bool.and_self, if_pos rfl, As.toNat_al, hcb], As.al_len, t1, lpl] at CR
  have HCR := Lib.hid CR
  have HCA := Lib.hid (fun v (hv : Below w.heap.size w v) => rAssigned_any B ca xs V.length v hx (hB.keep hv))
  have HCP := Lib.hid (fun v (hv : Below w.heap.size w v) => rPriced_any C cp ps V.length v hpm (hC.keep hv))
  -- what is asked of prices that prove an assignment
  have HREST : As.isA xs V.length = false ∨ As.isA xs V.length = true ∧ As.isL ps V.length 10000000 = false ∨ As.isA xs V.length = true ∧ As.isL ps V.length 10000000 = true ∧ xs.length = V.length ∧ ps.length = V.length ∧
      ∃ z, (∀ v, Below w.heap.size w v → Calls Try.prog 32 #[.slice A V.length cv, .slice B V.length ca, .slice C V.length cp] v fun e w' => e = .returned (.bool z) ∧ Below v.heap.size v w') ∧
        (z = true → ∀ j, j < V.length → As.el (As.lp V (As.bst V)) j ≤ As.el ps j) ∧ ∃ pb po, C = some ⟨pb, po, none⟩ ∧ ∀ i, i < V.length → w.cell? ⟨pb, po + i, none⟩ = some (.int .i64 (As.el ps i)) := by
    by_cases ha : As.isA xs V.length = true
    · right
      by_cases hp : As.isL ps V.length 10000000 = true
      · right
        obtain ⟨a, rfl, hpa⟩ := As.isA_perm ha
        obtain ⟨q1, q2⟩ := As.perm_lt hpa
        have hb := As.isL_bd (by omega) hp
        have hpl : ps.length = V.length := by have := hb.1; omega
        refine ⟨ha, hp, by rw [As.al_len, q1], hpl, As.contB V a ps, fun v hv => rContent_any A cv V B ca a C cp ps v ok (h.keep hv) (hB.keep hv) (hC.keep hv) hpa hb.2 hpl, fun hc j hj => ?_, ?_⟩
        · have hco := As.contB_iff.1 hc
          have hey := As.cont_yes ok hpa hc
          exact As.lp_least ht (As.contB_iff.1 hey.2) (fun j _ => (hb.2 j).1) hj
        · obtain ⟨pb, po, e, hc⟩ := hC.1 (by omega)
          exact ⟨pb, po, e, fun i hi => hc i (by omega)⟩
      · left; exact ⟨ha, by simpa using hp⟩
    · left; simpa using ha
  have HR := Lib.hid HREST
  have HZ := Lib.hid hz
  clear CF CD CQ CC CR e1 e2 hql hcb hz HREST h0 ok ht h hB hC lpl t1 t2
  unfold maxLen at hl hx hpm
  have g0 : ((V.length : Int) != V.length) = false := by simp
  go_enter Try.func7, Try.ntmps7
  go_wp2_with fail
  refine CAl.out.mono ?_
  rintro e w1 ⟨rfl, hbb⟩
  clear CAl
  go_wp2_with fail
  refine (HCF.out _ hbb).mono ?_
  rintro e w9 ⟨rfl, hb9⟩
  have hbb9 := keepB hbb hb9
  clear hb9
  replace hbb := hbb9
  clear hbb9
  go_wp2_with fail
  refine (CB.out _ hbb).mono ?_
  rintro e w9 ⟨D1, d1, z1, rfl, hI1, hb9⟩
  have hbb9 := keepB hbb hb9
  clear hb9
  replace hbb := hbb9
  clear hbb9
  have HI1 := Lib.hid hI1
  clear hI1
  go_wp2_with fail
  refine (CPr.out _ hbb).mono ?_
  rintro e w9 ⟨D2, d2, rfl, hI2, hb9⟩
  have hbb9 := keepB hbb hb9
  replace HI1 := Lib.hid (HI1.out.keep hb9)
  clear hb9
  replace hbb := hbb9
  clear hbb9
  have HI2 := Lib.hid hI2
  clear hI2
  go_wp2_with fail
  refine (HCD.out _ _ _ HI1.out).mono ?_
  rintro e w9 ⟨rfl, hb9⟩
  have hbb9 := keepB hbb hb9
  replace HI1 := Lib.hid (HI1.out.keep hb9)
  replace HI2 := Lib.hid (HI2.out.keep hb9)
  clear hb9
  replace hbb := hbb9
  clear hbb9
  go_wp2_with fail
  refine (HCQ.out _ _ _ HI2.out).mono ?_
  rintro e w9 ⟨rfl, hb9⟩
  have hbb9 := keepB hbb hb9
  replace HI1 := Lib.hid (HI1.out.keep hb9)
  replace HI2 := Lib.hid (HI2.out.keep hb9)
  clear hb9
  replace hbb := hbb9
  clear hbb9
  go_wp2_with fail
  refine (HCC.out _ _ _ _ _ hbb HI1.out HI2.out).mono ?_
  rintro e w9 ⟨rfl, hb9⟩
  have hbb9 := keepB hbb hb9
  replace HI1 := Lib.hid (HI1.out.keep hb9)
  replace HI2 := Lib.hid (HI2.out.keep hb9)
  clear hb9
  replace hbb := hbb9
  clear hbb9
  go_wp2_with fail
  refine (HCR.out _ _ _ _ _ hbb HI1.out HI2.out).mono ?_
  rintro e w9 ⟨rfl, hb9⟩
  have hbb9 := keepB hbb hb9
  replace HI1 := Lib.hid (HI1.out.keep hb9)
  replace HI2 := Lib.hid (HI2.out.keep hb9)
  clear hb9
  replace hbb := hbb9
  clear hbb9
  obtain ⟨b2, o2, rfl, hc2⟩ := HPC.out _ _ HI2.out
  have K2 := Lib.hid hc2
  have HBB := Lib.hid hbb
  clear hc2 HDC HPC HCF HCD HCQ HCC HCR CB CPr HI1 HI2 hbb
  go_wp2_with fail
  go_loopw [15, 16] (fun z i W => ∃ k : Nat, k ≤ V.length ∧ i = .int .i64 k ∧ z = .bool ((List.range k).any (fun j => decide (As.el (As.lp V (As.bst V)) j = 0))) ∧ Below w9.heap.size w9 W) (fun _ i _ => V.length - (intOf i).toNat)
  case atStart => exact ⟨0, Nat.zero_le _, rfl, rfl, Below.refl _ _⟩
  case round =>
    obtain ⟨k, hk, rfl, rfl, hb7⟩ := hrel
    by_cases hlt : k < V.length
    · have c2 := keepC hb7 (K2.out k hlt)
      have HSUC := Lib.hid (show (List.range (k + 1)).any (fun j => decide (As.el (As.lp V (As.bst V)) j = 0)) = ((List.range k).any (fun j => decide (As.el (As.lp V (As.bst V)) j = 0)) || decide (As.el (As.lp V (As.bst V)) k = 0)) by simp [List.range_succ])
      generalize (List.range k).any (fun j => decide (As.el (As.lp V (As.bst V)) j = 0)) = z at *
      generalize As.el (As.lp V (As.bst V)) k = x at *
      have HX := Lib.hid (show decide (x = 0) = (x == 0) from by by_cases e : x = 0 <;> simp [e])
      cases z
      · obtain ⟨q, hq⟩ : ∃ q, (x == 0) = q := ⟨_, rfl⟩
        have HQ := Lib.hid hq
        go_wp2_with fail
        go_roundw
        case rel => exact ⟨k + 1, by omega, by go_num, by rw [HSUC.out, HX.out, HQ.out]; rfl, hb7⟩
        case measure => simp [intOf]; omega
      · go_wp2_with fail
        go_roundw
        case rel => exact ⟨k + 1, by omega, by go_num, by rw [HSUC.out]; rfl, hb7⟩
        case measure => simp [intOf]; omega
    · obtain rfl : k = V.length := by omega
      have hany : (List.range V.length).any (fun j => decide (As.el (As.lp V (As.bst V)) j = 0)) = true := by
        obtain ⟨j, hj, hj0⟩ := HZ.out
        rw [List.any_eq_true]
        exact ⟨j, by simpa using hj, by simpa using hj0⟩
      rw [hany]
      have hbb := keepB HBB.out hb7
      clear hany HZ
      rcases HR.out with ha | ⟨ha, hp⟩ | ⟨ha, hp, hxl, hpl, z, hc, hz, pb, po, rfl, hpc⟩
      · have HA := Lib.hid (fun v hv => by have := HCA.out v hv; rw [ha] at this; exact this)
        clear HCA HCP HR ha
        go_wp2_with fail
        refine (HA.out _ hbb).mono ?_
        rintro e w10 ⟨rfl, hb10⟩
        have hbb10 := keepB hbb hb10
        clear hb10
        go_wp2_with fail
        go_ret
        exact ⟨rfl, hbb10⟩
      · have HA := Lib.hid (fun v hv => by have := HCA.out v hv; rw [ha] at this; exact this)
        have HP := Lib.hid (fun v hv => by have := HCP.out v hv; rw [hp] at this; exact this)
        clear HCA HCP HR ha hp
        go_wp2_with fail
        refine (HA.out _ hbb).mono ?_
        rintro e w10 ⟨rfl, hb10⟩
        have hbb10 := keepB hbb hb10
        clear hb10
        go_wp2_with fail
        refine (HP.out _ hbb10).mono ?_
        rintro e w11 ⟨rfl, hb11⟩
        have hbb11 := keepB hbb10 hb11
        clear hb11
        go_wp2_with fail
        go_ret
        exact ⟨rfl, hbb11⟩
      · have HA := Lib.hid (fun v hv => by have := HCA.out v hv; rw [ha, hxl] at this; exact this)
        have HP := Lib.hid (fun v hv => by have := HCP.out v hv; rw [hp, hpl] at this; exact this)
        have HC := Lib.hid hc
        have HZ := Lib.hid hz
        have KP := Lib.hid hpc
        have HXL := Lib.hid hxl
        have HPL := Lib.hid hpl
        clear HCA HCP HR ha hp hc hz hpc hxl hpl
        go_wp2_with fail
        rw [HXL.out, HPL.out]
        refine (HA.out _ hbb).mono ?_
        rintro e w10 ⟨rfl, hb10⟩
        have hb710 := keepB hb7 hb10
        have hbb10 := keepB hbb hb10
        clear hb10 hbb hb7
        go_wp2_with fail
        refine (HP.out _ hbb10).mono ?_
        rintro e w11 ⟨rfl, hb11⟩
        have hb711 := keepB hb710 hb11
        have hbb11 := keepB hbb10 hb11
        clear hb11 hbb10 hb710
        go_wp2_with fail
        refine (HC.out _ hbb11).mono ?_
        rintro e w12 ⟨rfl, hb12⟩
        have hb712 := keepB hb711 hb12
        have hbb12 := keepB hbb11 hb12
        clear hb12 hbb11 hb711
        cases z
        · go_wp2_with fail
          go_ret
          exact ⟨rfl, hbb12⟩
        · have HLE := Lib.hid (HZ.out rfl)
          have HB12 := Lib.hid hbb12
          have HB7 := Lib.hid hb712
          clear HZ hbb12 hb712
          go_wp2_with fail
          go_loopw [17] (fun i W => ∃ k : Nat, k ≤ V.length ∧ i = .int .i64 k ∧ Below w12.heap.size w12 W) (fun i _ => V.length - (intOf i).toNat)
          case atStart => exact ⟨0, Nat.zero_le _, rfl, Below.refl _ _⟩
          case round =>
            obtain ⟨k, hk, rfl, hb8⟩ := hrel
            by_cases hlt : k < V.length
            · have c1 := keepC hb8 (keepC HB12.out (KP.out k hlt))
              have c2 := keepC hb8 (keepC HB7.out (K2.out k hlt))
              have hle := HLE.out k hlt
              generalize As.el (As.lp V (As.bst V)) k = x at *
              generalize As.el ps k = y at *
              have i1 : (k : Int) < (V.length : Int) := by omega
              have d1 : decide (y < x) = false := by rw [decide_eq_false_iff_not]; omega
              clear hle
              go_wp2_with fail
              go_quiet (fail)
              go_wp2_with fail
              go_roundw
              case rel => exact ⟨k + 1, by omega, by go_num, below_drewN hb8 _⟩
              case measure => simp [intOf]; omega
            · obtain rfl : k = V.length := by omega
              have hbb := keepB HB12.out hb8
              go_wp2_with fail
              go_ret
              exact ⟨rfl, hbb⟩
set_option maxHeartbeats 2000000 in
theorem aleast_walk (A : Option Addr) (cv : Nat) (V : List (List Int)) (B : Option Addr) (ca : Nat) (xs : List Int) (C : Option Addr) (cp : Nat) (ps : List Int) (w : World) (hl : V.length ≤ maxLen) (h : IsM w A V) (hx : xs.length ≤ maxLen) (hB : IsI w B xs) (hpm : ps.length ≤ maxLen) (hC : IsI w C ps) :
    Calls Try.prog 7 #[.slice A V.length cv, .slice B xs.length ca, .slice C ps.length cp] w fun e w' => e = .returned (.bool true) ∧ Below w.heap.size w w' := by
  by_cases h0 : As.ftB V = true
  · exact aleast_core A cv V B ca xs C cp ps w hl h hx hB hpm hC (by unfold As.ftB at h0; simpa using h0)
  · have h0 : As.ftB V = false := by simpa using h0
    have CAl := Lib.hid (asAlive_any w)
    have CF := fun v (hv : Below w.heap.size w v) => fit_any A cv V v hl (h.keep hv)
    rw [h0] at CF
    have HF := Lib.hid CF
    clear CF h0 h hl hB hC hx hpm
    go_enter Try.func7, Try.ntmps7
    go_wp2_with fail
    refine CAl.out.mono ?_
    rintro e w1 ⟨rfl, hbb⟩
    go_wp2_with fail
    refine (HF.out _ hbb).mono ?_
    rintro e w2 ⟨rfl, hb2⟩
    replace hbb := keepB hbb hb2
    clear hb2
    go_wp2_with fail
    go_ret
    exact ⟨rfl, hbb⟩
end Go.Proofs.Ytkibglbccfjkpaa

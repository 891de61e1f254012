/- AssignBest's walk. -/
import Derived.Test.YtkibglbccfjkpaaAsq
import Derived.Test.YtkibglbccfjkpaaAst
namespace Go.Proofs.Ytkibglbccfjkpaa
open Go.RowKit
namespace As
theorem contB_iff {V : List (List Int)} {a : List Nat} {ps : List Int} : contB V a ps = true ↔ Cont V a (el ps) := by
  unfold contB rowB Cont
  rw [List.all_eq_true]
  constructor
  · intro h i j hi hj
    have h1 := List.all_eq_true.1 (h i (by simpa using hi)) j (by simpa using hj)
    rw [Bool.not_eq_true', decide_eq_false_iff_not] at h1
    omega
  · intro h i hi
    rw [List.all_eq_true]
    intro j hj
    have := h i j (by simpa using hi) (by simpa using hj)
    rw [Bool.not_eq_true', decide_eq_false_iff_not]
    omega
/-- What proves an assignment: it is as good as the best one, which is proved, too. -/
theorem cont_yes {V : List (List Int)} (ok : Ok V) {a : List Nat} {ps : List Int} (ha : a.Perm (List.range V.length)) (h : contB V a ps = true) : wr V a = wr V (bst V) ∧ contB V (bst V) ps = true := by
  have hc := contB_iff.1 h
  have ht := bst_top ok
  have h1 := (hc.top ha).top (bst V) ht.perm
  have h2 := ht.top a ha
  exact ⟨by omega, contB_iff.2 (hc.other ha ht.perm (by omega))⟩
/-- The best assignment is the first one. -/
theorem bst_first {V : List (List Int)} (ok : Ok V) {a : List Nat} (ha : a.Perm (List.range V.length)) (h : wr V a = wr V (bst V)) {i : Nat} (hi : i < V.length) (hk : ∀ k, k < i → a.getD k 0 = (bst V).getD k 0) : (bst V).getD i 0 ≤ a.getD i 0 :=
  fb_first V (List.range V.length) a ok.nn (by simp) List.pairwise_lt_range ha (by rw [h, bst_wr ok]) i hi hk
end As
set_option maxRecDepth 100000 in
set_option maxHeartbeats 8000000 in
theorem best_core (A : Option Addr) (cv : Nat) (V : List (List Int)) (B : Option Addr) (ca : Nat) (a : List Nat) (C : Option Addr) (cp : Nat) (ps : List Int) (w : World) (hl : V.length ≤ maxLen) (h : IsM w A V) (hB : IsI w B (As.al a)) (hpm : ps.length ≤ maxLen) (hC : IsI w C ps) (h0 : As.chk V = 0) (ha : a.Perm (List.range V.length)) :
    Calls Try.prog 6 #[.slice A V.length cv, .slice B V.length ca, .slice C ps.length cp] w fun e w' => e = .returned (.bool true) ∧ Below w.heap.size w w' := by
  have ok := As.chk_ok h0
  have ht := As.bst_top ok
  have n1 := ok.n1
  have n6 := ok.n6
  obtain ⟨q1, q2⟩ := As.perm_lt ha
  obtain ⟨t1, t2⟩ := As.perm_lt ht.perm
  have hVm : V.length ≤ maxLen := hl
  have CAl := Lib.hid (asAlive_any w)
  have CF := fun v (hv : Below w.heap.size w v) => fit_any A cv V v hl (h.keep hv)
  rw [show As.ftB V = true by unfold As.ftB; rw [h0]; rfl] at CF
  have CA := fun v (hv : Below w.heap.size w v) => rAssigned_any B ca (As.al a) V.length v (by rw [As.al_len, q1]; exact hl) (hB.keep hv)
  rw [As.perm_isA ha, As.al_len, q1] at CA
  have CB := Lib.hid (fun v (hv : Below w.heap.size w v) => asBest_any A cv V v hl (h.keep hv))
  have e1 : As.bsl V = As.bst V := by unfold As.bsl; rw [if_pos h0]
  have e2 : As.bsv V = As.wr V (As.bst V) := by unfold As.bsv; rw [if_pos h0]
  have HBQ := Lib.hid (show ∀ (v : World) (e : Ending) (v' : World), BestQ V v e v' → ∃ D c, e = .returned (.tuple #[.slice D V.length c, .int .i64 (As.wr V (As.bst V)), .int .i64 0]) ∧ IsI v' D (As.al (As.bst V)) ∧ Below v.heap.size v v' from fun v e v' hq => by
    obtain ⟨D, c, hd, hI, hb⟩ := hq
    rw [e1, t1, e2, h0] at hd
    rw [e1] at hI
    exact ⟨D, c, hd, hI, hb⟩)
  have CV := fun v (hv : Below w.heap.size w v) => asValue_any A cv V B ca (As.al a) v hl (h.keep hv) (by rw [As.al_len, q1]; exact hl) (hB.keep hv)
  rw [show As.valS V (As.al a) = (As.wr V a, 0) by unfold As.valS; rw [if_pos h0, if_pos (As.perm_isA ha), As.toNat_al], As.al_len, q1] at CV
  have CD := fun v D c (hI : IsI v D (As.al (As.bst V))) => rAssigned_any D c (As.al (As.bst V)) V.length v (by rw [As.al_len, t1]; exact hl) hI
  rw [As.perm_isA ht.perm, As.al_len, t1] at CD
  have CW := fun v D c (hv : Below w.heap.size w v) (hI : IsI v D (As.al (As.bst V))) => rWorth_any A cv V D c (As.bst V) v n1 n6 ok.row ok.bd (h.keep hv) hI t1 t2
  have CP := fun v (hv : Below w.heap.size w v) => rPriced_any C cp ps V.length v hpm (hC.keep hv)
  have CR1 := fun v (hv : Below w.heap.size w v) => asProves_any A cv V B ca (As.al a) C cp ps v hl (h.keep hv) (by rw [As.al_len, q1]; exact hl) (hB.keep hv) hpm (hC.keep hv)
  have CR2 := fun v D c (hv : Below w.heap.size w v) (hI : IsI v D (As.al (As.bst V))) => asProves_any A cv V D c (As.al (As.bst V)) C cp ps v hl (h.keep hv) (by rw [As.al_len, t1]; exact hl) hI hpm (hC.keep hv)
  rw [As.al_len, q1] at CR1
  rw [As.al_len, t1] at CR2
  have hle : As.wr V a ≤ As.wr V (As.bst V) := ht.top a ha
  have HFST := Lib.hid (fun (he : As.wr V a = As.wr V (As.bst V)) i (hi : i < V.length) => As.bst_first ok ha he hi)
  have HY := Lib.hid (fun hc => As.cont_yes (ps := ps) ok ha hc)
  obtain ⟨ab, ao, hBe, hac⟩ := hB.1 (by rw [As.al_len]; omega)
  have HA := Lib.hid (show ∀ i, i < V.length → w.cell? ⟨ab, ao + i, none⟩ = some (.int .i64 ((a.getD i 0 : Nat) : Int)) from fun i hi => by
    have := hac i (by rw [As.al_len]; omega)
    rwa [As.el_al] at this)
  have HDC := Lib.hid (show ∀ (v : World) (D : Option Addr), IsI v D (As.al (As.bst V)) → ∃ db d0, D = some ⟨db, d0, none⟩ ∧ ∀ i, i < V.length → v.cell? ⟨db, d0 + i, none⟩ = some (.int .i64 (((As.bst V).getD i 0 : Nat) : Int)) from fun v D hI => by
    obtain ⟨db, d0, hd, hc⟩ := hI.1 (by rw [As.al_len]; omega)
    refine ⟨db, d0, hd, fun i hi => ?_⟩
    have := hc i (by rw [As.al_len]; omega)
    rwa [As.el_al] at this)
  have CC := fun (hp : As.isL ps V.length 10000000 = true) v (hv : Below w.heap.size w v) => rContent_any A cv V B ca a C cp ps v ok (h.keep hv) (hB.keep hv) (hC.keep hv) ha (As.isL_bd (by omega) hp).2 (by have := (As.isL_bd (by omega) hp).1; omega)
  have hpl : As.isL ps V.length 10000000 = true → ps.length = V.length := fun hp => by have := (As.isL_bd (by omega) hp).1; omega
  have e3 : ∀ b : List Nat, b.Perm (List.range V.length) → As.isL ps V.length 10000000 = true → As.prvS V (As.al b) ps = (As.contB V b ps, 0) := fun b hb hp => by
    unfold As.prvS; rw [if_pos h0, As.perm_isA hb, hp, Bool.and_self, if_pos rfl, As.toNat_al]
  have E31 := e3 a ha
  have E32 := e3 (As.bst V) ht.perm
  subst hBe
  have HCF := Lib.hid CF
  have HCA := Lib.hid CA
  have HCV := Lib.hid CV
  have HCD := Lib.hid CD
  have HCW := Lib.hid CW
  clear CF CA CV CD CW e1 e2 e3 hac hB h hC hVm
  -- are the numbers prices?
  have HREST : (As.isL ps V.length 10000000 = false ∧ ∀ v, Below w.heap.size w v → Calls Try.prog 31 #[.slice C ps.length cp, .int .i64 V.length] v fun e w' => e = .returned (.bool false) ∧ Below v.heap.size v w') ∨
      (ps.length = V.length ∧ (∀ v, Below w.heap.size w v → Calls Try.prog 31 #[.slice C V.length cp, .int .i64 V.length] v fun e w' => e = .returned (.bool true) ∧ Below v.heap.size v w') ∧
      (∀ v, Below w.heap.size w v → Calls Try.prog 24 #[.slice A V.length cv, .slice (some ⟨ab, ao, none⟩) V.length ca, .slice C V.length cp] v fun e w' => e = .returned (.tuple #[.bool (As.contB V a ps), .int .i64 0]) ∧ Below v.heap.size v w') ∧
      (∀ v D c, Below w.heap.size w v → IsI v D (As.al (As.bst V)) → Calls Try.prog 24 #[.slice A V.length cv, .slice D V.length c, .slice C V.length cp] v fun e w' => e = .returned (.tuple #[.bool (As.contB V (As.bst V) ps), .int .i64 0]) ∧ Below v.heap.size v w') ∧
      (∀ v, Below w.heap.size w v → Calls Try.prog 32 #[.slice A V.length cv, .slice (some ⟨ab, ao, none⟩) V.length ca, .slice C V.length cp] v fun e w' => e = .returned (.bool (As.contB V a ps)) ∧ Below v.heap.size v w')) := by
    by_cases hp : As.isL ps V.length 10000000 = true
    · right
      have hq := hpl hp
      rw [hp, hq] at CP
      rw [E31 hp, hq] at CR1
      rw [E32 hp, hq] at CR2
      exact ⟨hq, CP, CR1, fun v D c hv hI => CR2 v D c hv hI, CC hp⟩
    · left
      have hp : As.isL ps V.length 10000000 = false := by simpa using hp
      rw [hp] at CP
      exact ⟨hp, CP⟩
  clear CP CR1 CR2 CC hpl E31 E32
  generalize As.wr V (As.bst V) = mb at *
  generalize As.wr V a = ma at *
  generalize As.contB V (As.bst V) ps = zb at *
  generalize As.contB V a ps = za at *
  have HR := Lib.hid HREST
  have hpm' := Lib.hid hpm
  clear HREST h0 ok ht hpm
  unfold maxLen at hl
  go_enter Try.func6, Try.ntmps6
  go_wp2_with fail
  refine CAl.out.mono ?_
  rintro e w1 ⟨rfl, hbb⟩
  clear CAl
  go_wp2_with fail
  refine (HCF.out _ hbb).mono ?_
  rintro e w9 ⟨rfl, hb9⟩
  have hbb9 := keepB hbb hb9
  clear hb9
  replace hbb := hbb9
  clear hbb9
  go_wp2_with fail
  refine (HCA.out _ hbb).mono ?_
  rintro e w9 ⟨rfl, hb9⟩
  have hbb9 := keepB hbb hb9
  clear hb9
  replace hbb := hbb9
  clear hbb9
  go_wp2_with fail
  refine (CB.out _ hbb).mono ?_
  intro e w9 hq
  obtain ⟨D, cd, rfl, hI, hb9⟩ := HBQ.out _ _ _ hq
  have HI := Lib.hid hI
  have hbb9 := keepB hbb hb9
  clear hq hI hb9 CB HBQ
  replace hbb := hbb9
  clear hbb9
  go_wp2_with fail
  refine (HCV.out _ hbb).mono ?_
  rintro e w9 ⟨rfl, hb9⟩
  have hbb9 := keepB hbb hb9
  replace HI := Lib.hid (HI.out.keep hb9)
  clear hb9
  replace hbb := hbb9
  clear hbb9
  go_wp2_with fail
  refine (HCD.out _ _ _ HI.out).mono ?_
  rintro e w9 ⟨rfl, hb9⟩
  have hbb9 := keepB hbb hb9
  replace HI := Lib.hid (HI.out.keep hb9)
  clear hb9
  replace hbb := hbb9
  clear hbb9
  go_wp2_with fail
  refine (HCW.out _ _ _ hbb HI.out).mono ?_
  rintro e w9 ⟨rfl, hb9⟩
  have hbb9 := keepB hbb hb9
  replace HI := Lib.hid (HI.out.keep hb9)
  clear hb9
  replace hbb := hbb9
  clear hbb9
  obtain ⟨db, d0, rfl, hdc⟩ := HDC.out _ _ HI.out
  have HDD := Lib.hid hdc
  have HBB := Lib.hid hbb
  clear hdc HCF HCA HCV HCD HCW HDC
  have g1 : decide (mb < ma) = false := decide_eq_false (by omega)
  go_wp2_with fail
  clear hbb g1
  go_loopw [13] (fun i W => ∃ k : Nat, k ≤ V.length ∧ i = .int .i64 k ∧ Hid (∀ j, j < k → a.getD j 0 = (As.bst V).getD j 0) ∧ Below w9.heap.size w9 W) (fun i _ => V.length - (intOf i).toNat)
  case atStart => exact ⟨0, Nat.zero_le _, rfl, Lib.hid (fun j hj => absurd hj (Nat.not_lt_zero _)), Below.refl _ _⟩
  case round =>
    obtain ⟨k, hk, rfl, HOK, hb7⟩ := hrel
    have hbb := keepB HBB.out hb7
    have HI9 := Lib.hid (HI.out.keep hb7)
    by_cases hm0 : ma = mb
    · have g3 : (ma == mb) = true := by rw [beq_iff_eq]; exact hm0
      have HF2 := Lib.hid (HFST.out hm0)
      by_cases hlt : k < V.length
      · have g4 : decide ((k : Int) < (V.length : Int)) = true := by rw [decide_eq_true_eq]; omega
        have c1 := keepC hbb (HA.out k hlt)
        have c2 := keepC hb7 (HDD.out k hlt)
        have HF3 := Lib.hid (HF2.out k hlt HOK.out)
        have i1 : (k : Int) < (V.length : Int) := by omega
        have HOK2 := Lib.hid (fun (he : a.getD k 0 = (As.bst V).getD k 0) j (hj : j < k + 1) => (Nat.lt_succ_iff_lt_or_eq.1 hj).elim (HOK.out j) (fun e => e ▸ he))
        generalize a.getD k 0 = x at c1 HF3 HOK2
        generalize (As.bst V).getD k 0 = y at c2 HF3 HOK2
        by_cases hxy : x = y
        · have g5 : ((x : Int) != (y : Int)) = false := by rw [bne_eq_false_iff_eq]; omega
          have HOK3 := Lib.hid (HOK2.out hxy)
          clear hxy HOK2 HF3 HF2
          go_wp2_with fail
          go_quiet (fail)
          go_wp2_with fail
          go_roundw
          case rel => exact ⟨k + 1, by omega, by go_num, HOK3, below_drewN hb7 _⟩
          case measure => simp [intOf]; omega
        · have g5 : ((x : Int) != (y : Int)) = true := by rw [bne_iff_ne]; omega
          have g6 : decide ((x : Int) < (y : Int)) = false := by rw [decide_eq_false_iff_not]; have := HF3.out; omega
          have g7 : decide (x < y) = false := by rw [decide_eq_false_iff_not]; have := HF3.out; omega
          clear hxy HOK2 HF3 HF2
          go_wp2_with fail
          go_quiet (fail)
          go_upto_region 12 with fail
          refine at_worldQ (fun v => Below w9.heap.size w9 v ∧ v.cell? ⟨ab, ao + k, none⟩ = some (.int .i64 (x : Int)) ∧ v.cell? ⟨db, d0 + k, none⟩ = some (.int .i64 (y : Int))) ⟨below_drewN hb7 _, keepC (below_drewN (Below.refl _ _) _) c1, keepC (below_drewN (Below.refl _ _) _) c2⟩ (fun W5 hS => ?_)
          clear hb7 hbb HI9 c1 c2
          obtain ⟨hb7, c1, c2⟩ := hS
          go_quiet (fail)
          go_upto_region 14 with fail
          refine at_worldQ (fun v => Below w9.heap.size w9 v) (below_drewN hb7 _) (fun W6 hb6 => ?_)
          have hbb := keepB HBB.out hb6
          have HI9 := Lib.hid (HI.out.keep hb6)
          clear hb6 hb7 c1 c2 g5 g6 g7 i1
          rcases HR.out with ⟨-, hp⟩ | ⟨hpl, hp, hr1, hr2, hc⟩
          · have HP := Lib.hid hp
            clear hp HR
            go_wp2_with fail
            refine (HP.out _ hbb).mono ?_
            rintro e w9 ⟨rfl, hb9⟩
            have hbb9 := keepB hbb hb9
            clear hb9
            go_wp2_with fail
            go_ret
            exact ⟨rfl, hbb9⟩
          · have HP := Lib.hid hp
            have HR1 := Lib.hid hr1
            have HR2 := Lib.hid hr2
            have HC := Lib.hid hc
            have HPL := Lib.hid hpl
            clear hp hr1 hr2 hc HR hpl
            go_wp2_with fail
            rw [HPL.out]
            refine (HP.out _ hbb).mono ?_
            rintro e w9 ⟨rfl, hb9⟩
            have hbb9 := keepB hbb hb9
            have HI9 := Lib.hid (HI9.out.keep hb9)
            clear hb9 hbb
            go_wp2_with fail
            refine (HR1.out _ hbb9).mono ?_
            rintro e w10 ⟨rfl, hb10⟩
            have hbb10 := keepB hbb9 hb10
            have HI10 := Lib.hid (HI9.out.keep hb10)
            clear hb10 hbb9
            go_wp2_with fail
            refine (HR2.out _ _ _ hbb10 HI10.out).mono ?_
            rintro e w11 ⟨rfl, hb11⟩
            have hbb11 := keepB hbb10 hb11
            clear hb11 hbb10
            cases za
            · by_cases hm : ma = mb
              · have g2 : (ma == mb) = true := by rw [beq_iff_eq]; exact hm
                go_wp2_with fail
                refine (HC.out _ hbb11).mono ?_
                rintro e w12 ⟨rfl, hb12⟩
                have hbb12 := keepB hbb11 hb12
                clear hb12
                go_wp2_with fail
                go_ret
                exact ⟨rfl, hbb12⟩
              · have g2 : (ma == mb) = false := by rw [beq_eq_false_iff_ne]; exact hm
                exact absurd hm0 hm
            · obtain ⟨hm, rfl⟩ := HY.out rfl
              have g2 : (ma == mb) = true := by rw [beq_iff_eq]; exact hm
              go_wp2_with fail
              refine (HC.out _ hbb11).mono ?_
              rintro e w12 ⟨rfl, hb12⟩
              have hbb12 := keepB hbb11 hb12
              clear hb12
              go_wp2_with fail
              go_ret
              exact ⟨rfl, hbb12⟩
      · have g4 : decide ((k : Int) < (V.length : Int)) = false := by rw [decide_eq_false_iff_not]; omega
        rcases HR.out with ⟨-, hp⟩ | ⟨hpl, hp, hr1, hr2, hc⟩
        · have HP := Lib.hid hp
          clear hp HR
          go_wp2_with fail
          refine (HP.out _ hbb).mono ?_
          rintro e w9 ⟨rfl, hb9⟩
          have hbb9 := keepB hbb hb9
          clear hb9
          go_wp2_with fail
          go_ret
          exact ⟨rfl, hbb9⟩
        · have HP := Lib.hid hp
          have HR1 := Lib.hid hr1
          have HR2 := Lib.hid hr2
          have HC := Lib.hid hc
          have HPL := Lib.hid hpl
          clear hp hr1 hr2 hc HR hpl
          go_wp2_with fail
          rw [HPL.out]
          refine (HP.out _ hbb).mono ?_
          rintro e w9 ⟨rfl, hb9⟩
          have hbb9 := keepB hbb hb9
          have HI9 := Lib.hid (HI9.out.keep hb9)
          clear hb9 hbb
          go_wp2_with fail
          refine (HR1.out _ hbb9).mono ?_
          rintro e w10 ⟨rfl, hb10⟩
          have hbb10 := keepB hbb9 hb10
          have HI10 := Lib.hid (HI9.out.keep hb10)
          clear hb10 hbb9
          go_wp2_with fail
          refine (HR2.out _ _ _ hbb10 HI10.out).mono ?_
          rintro e w11 ⟨rfl, hb11⟩
          have hbb11 := keepB hbb10 hb11
          clear hb11 hbb10
          cases za
          · by_cases hm : ma = mb
            · have g2 : (ma == mb) = true := by rw [beq_iff_eq]; exact hm
              go_wp2_with fail
              refine (HC.out _ hbb11).mono ?_
              rintro e w12 ⟨rfl, hb12⟩
              have hbb12 := keepB hbb11 hb12
              clear hb12
              go_wp2_with fail
              go_ret
              exact ⟨rfl, hbb12⟩
            · have g2 : (ma == mb) = false := by rw [beq_eq_false_iff_ne]; exact hm
              exact absurd hm0 hm
          · obtain ⟨hm, rfl⟩ := HY.out rfl
            have g2 : (ma == mb) = true := by rw [beq_iff_eq]; exact hm
            go_wp2_with fail
            refine (HC.out _ hbb11).mono ?_
            rintro e w12 ⟨rfl, hb12⟩
            have hbb12 := keepB hbb11 hb12
            clear hb12
            go_wp2_with fail
            go_ret
            exact ⟨rfl, hbb12⟩
    · have g3 : (ma == mb) = false := by rw [beq_eq_false_iff_ne]; exact hm0
      rcases HR.out with ⟨-, hp⟩ | ⟨hpl, hp, hr1, hr2, hc⟩
      · have HP := Lib.hid hp
        clear hp HR
        go_wp2_with fail
        refine (HP.out _ hbb).mono ?_
        rintro e w9 ⟨rfl, hb9⟩
        have hbb9 := keepB hbb hb9
        clear hb9
        go_wp2_with fail
        go_ret
        exact ⟨rfl, hbb9⟩
      · have HP := Lib.hid hp
        have HR1 := Lib.hid hr1
        have HR2 := Lib.hid hr2
        have HC := Lib.hid hc
        have HPL := Lib.hid hpl
        clear hp hr1 hr2 hc HR hpl
        go_wp2_with fail
        rw [HPL.out]
        refine (HP.out _ hbb).mono ?_
        rintro e w9 ⟨rfl, hb9⟩
        have hbb9 := keepB hbb hb9
        have HI9 := Lib.hid (HI9.out.keep hb9)
        clear hb9 hbb
        go_wp2_with fail
        refine (HR1.out _ hbb9).mono ?_
        rintro e w10 ⟨rfl, hb10⟩
        have hbb10 := keepB hbb9 hb10
        have HI10 := Lib.hid (HI9.out.keep hb10)
        clear hb10 hbb9
        go_wp2_with fail
        refine (HR2.out _ _ _ hbb10 HI10.out).mono ?_
        rintro e w11 ⟨rfl, hb11⟩
        have hbb11 := keepB hbb10 hb11
        clear hb11 hbb10
        cases za
        · by_cases hm : ma = mb
          · have g2 : (ma == mb) = true := by rw [beq_iff_eq]; exact hm
            go_wp2_with fail
            refine (HC.out _ hbb11).mono ?_
            rintro e w12 ⟨rfl, hb12⟩
            have hbb12 := keepB hbb11 hb12
            clear hb12
            go_wp2_with fail
            go_ret
            exact ⟨rfl, hbb12⟩
          · have g2 : (ma == mb) = false := by rw [beq_eq_false_iff_ne]; exact hm
            go_wp2_with fail
            go_ret
            exact ⟨rfl, hbb11⟩
        · obtain ⟨hm, rfl⟩ := HY.out rfl
          have g2 : (ma == mb) = true := by rw [beq_iff_eq]; exact hm
          go_wp2_with fail
          refine (HC.out _ hbb11).mono ?_
          rintro e w12 ⟨rfl, hb12⟩
          have hbb12 := keepB hbb11 hb12
          clear hb12
          go_wp2_with fail
          go_ret
          exact ⟨rfl, hbb12⟩
end Go.Proofs.Ytkibglbccfjkpaa

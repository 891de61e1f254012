/- The reference of layer 13: Great, Value, Proves. -/
import Derived.Test.YtkibglbccfjkpaaAss
namespace Go.Proofs.Ytkibglbccfjkpaa
open Go.RowKit
/-- Great's answer: false only where there are no more than this. -/
def GrQ (w : World) (V : List (List Int)) (e : Ending) (w' : World) : Prop := ∃ z, e = .returned (.bool z) ∧ (z = false → V.length ≠ 6 ∧ V.length ≤ 20 ∧ ∀ i, i < V.length → (V.getD i []).length ≤ 50) ∧ Below w.heap.size w w'
theorem GrQ.yes {w w' : World} {V : List (List Int)} (h : Below w.heap.size w w') : GrQ w V (.returned (.bool true)) w' := ⟨true, rfl, fun h => (by cases h), h⟩
theorem GrQ.no {w w' : World} {V : List (List Int)} (h : Below w.heap.size w w') (h6 : V.length ≠ 6) (h20 : V.length ≤ 20) (hr : ∀ i, i < V.length → (V.getD i []).length ≤ 50) : GrQ w V (.returned (.bool false)) w' := ⟨false, rfl, fun _ => ⟨h6, h20, hr⟩, h⟩
set_option linter.unusedSimpArgs false in
set_option maxRecDepth 100000 in
set_option maxHeartbeats 2000000 in
theorem rGreat_any (A : Option Addr) (cap : Nat) (V : List (List Int)) (w : World) (hl : V.length ≤ maxLen) (h : IsM w A V) :
    Calls Try.prog 10 #[.slice A V.length cap] w (GrQ w V) := by
  have HC := Lib.hid h
  clear h
  unfold maxLen at hl
  go_enter Try.func10, Try.ntmps10
  go_wp2_with fail
  go_loop [3] (fun i => ∃ k : Nat, k ≤ V.length ∧ k ≤ 20 ∧ i = .int .i64 k ∧ Hid (∀ j, j < k → (V.getD j []).length ≤ 50)) (fun i => V.length - (intOf i).toNat)
  case atStart => exact ⟨0, Nat.zero_le _, by omega, rfl, Lib.hid (fun j hj => absurd hj (Nat.not_lt_zero _))⟩
  case round =>
    obtain ⟨k, hk, hk2, rfl, HOK⟩ := hrel
    by_cases hlt : k < V.length
    · have d1 : decide (k < V.length) = true := decide_eq_true hlt
      by_cases h20 : k < 20
      · have d2 : decide ((k : Int) < 20) = true := by rw [decide_eq_true_eq]; omega
        obtain ⟨b, off, rfl, hrows⟩ := HC.out (by omega)
        obtain ⟨R, c, hc, hrl, hI⟩ := hrows k hlt
        clear hrows hI
        unfold maxLen at hrl
        by_cases hq : 50 < (V.getD k []).length
        · generalize (V.getD k []).length = q at *
          go_wp2_with fail
          go_ret
          exact GrQ.yes (Below.refl _ _)
        · have HQ := Lib.hid hq
          generalize hz : (V.getD k []).length = q at hc hq hrl
          have HZ := Lib.hid hz
          clear hz
          go_wp2_with fail
          go_round
          case rel => exact ⟨k + 1, by omega, by omega, by go_num, Lib.hid (fun j hj => (Nat.lt_succ_iff_lt_or_eq.1 hj).elim (HOK.out j) (fun e => by subst e; have := HQ.out; omega))⟩
          case measure => simp [intOf]; omega
      · obtain rfl : k = 20 := by omega
        have d2 : decide ((20 : Int) < 20) = false := rfl
        have d3 : ((V.length : Int) == 6) = false := by rw [beq_eq_false_iff_ne]; omega
        have d4 : decide ((20 : Int) < (V.length : Int)) = true := by rw [decide_eq_true_eq]; omega
        go_wp2_with fail
        go_ret
        exact GrQ.yes (Below.refl _ _)
    · obtain rfl : k = V.length := by omega
      have d1 : decide (V.length < V.length) = false := by simp
      by_cases h6 : V.length = 6
      · have d3 : ((V.length : Int) == 6) = true := by rw [beq_iff_eq]; omega
        clear h6
        go_wp2_with fail
        go_ret
        exact GrQ.yes (Below.refl _ _)
      · have d3 : ((V.length : Int) == 6) = false := by rw [beq_eq_false_iff_ne]; omega
        have H6 := Lib.hid h6
        clear h6
        have d4 : decide ((20 : Int) < (V.length : Int)) = false := by rw [decide_eq_false_iff_not]; omega
        go_wp2_with fail
        go_ret
        exact GrQ.no (Below.refl _ _) H6.out hk2 HOK.out
set_option maxHeartbeats 2000000 in
theorem rValue_any (A : Option Addr) (cv : Nat) (V : List (List Int)) (B : Option Addr) (ca : Nat) (xs : List Int) (w : World) (hl : V.length ≤ maxLen) (h : IsM w A V) (hx : xs.length ≤ maxLen) (hB : IsI w B xs) :
    Calls Try.prog 23 #[.slice A V.length cv, .slice B xs.length ca] w fun e w' => e = .returned (.tuple #[.int .i64 (As.valS V xs).1, .int .i64 (As.valS V xs).2]) ∧ Below w.heap.size w w' := by
  have CK := fun v (hv : Below w.heap.size w v) => rCheck_any A cv V v hl (h.keep hv)
  have CA := fun v (hv : Below w.heap.size w v) => rAssigned_any B ca xs V.length v hx (hB.keep hv)
  unfold As.valS
  rcases As.chk_cases V with h0 | ⟨h1, h2⟩
  · rw [if_pos h0]
    rw [h0] at CK
    by_cases ha : As.isA xs V.length = true
    · obtain ⟨a, rfl, hp⟩ := As.isA_perm ha
      obtain ⟨p1, p2⟩ := As.perm_lt hp
      rw [if_pos ha, As.toNat_al]
      rw [ha] at CA
      rw [As.al_len, p1] at CA ⊢
      have ok := As.chk_ok h0
      have CV := Lib.hid (fun v (hv : Below w.heap.size w v) => rWorth_any A cv V B ca a v ok.n1 ok.n6 ok.row ok.bd (h.keep hv) (hB.keep hv) p1 p2)
      have CK' := Lib.hid CK
      have CA' := Lib.hid CA
      generalize As.wr V a = z at *
      clear CK CA h0 ha hp p1 p2 hB h hl hx ok
      go_enter Try.func23, Try.ntmps23
      go_wp2_with fail
      refine (CK'.out _ (Below.refl _ _)).mono ?_
      rintro e w1 ⟨rfl, hb1⟩
      go_wp2_with fail
      refine (CA'.out _ hb1).mono ?_
      rintro e w2 ⟨rfl, hb2⟩
      have hbb := keepB hb1 hb2
      clear hb1 hb2
      go_wp2_with fail
      refine (CV.out _ hbb).mono ?_
      rintro e w3 ⟨rfl, hb3⟩
      replace hbb := keepB hbb hb3
      clear hb3
      go_wp2_with fail
      go_ret2
      exact ⟨rfl, hbb⟩
    · have ha : As.isA xs V.length = false := by simpa using ha
      rw [ha] at CA ⊢
      have CK' := Lib.hid CK
      have CA' := Lib.hid CA
      clear CK CA h0 ha hB h hl hx
      go_enter Try.func23, Try.ntmps23
      go_wp2_with fail
      refine (CK'.out _ (Below.refl _ _)).mono ?_
      rintro e w1 ⟨rfl, hb1⟩
      go_wp2_with fail
      refine (CA'.out _ hb1).mono ?_
      rintro e w2 ⟨rfl, hb2⟩
      have hbb := keepB hb1 hb2
      clear hb1 hb2
      go_wp2_with fail
      go_ret2
      exact ⟨rfl, hbb⟩
  · rw [if_neg h2]
    generalize As.chk V = c at *
    have CK' := Lib.hid CK
    clear CK CA h2 hB h hl hx
    go_enter Try.func23, Try.ntmps23
    go_wp2_with fail
    refine (CK'.out _ (Below.refl _ _)).mono ?_
    rintro e w1 ⟨rfl, hb1⟩
    go_wp2_with fail
    refine (CK'.out _ hb1).mono ?_
    rintro e w2 ⟨rfl, hb2⟩
    have hbb := keepB hb1 hb2
    clear hb1 hb2
    go_wp2_with fail
    go_ret2
    exact ⟨rfl, hbb⟩
set_option maxHeartbeats 2000000 in
theorem rProves_any (A : Option Addr) (cv : Nat) (V : List (List Int)) (B : Option Addr) (ca : Nat) (xs : List Int) (C : Option Addr) (cp : Nat) (ps : List Int) (w : World) (hl : V.length ≤ maxLen) (h : IsM w A V) (hx : xs.length ≤ maxLen) (hB : IsI w B xs) (hpm : ps.length ≤ maxLen) (hC : IsI w C ps) :
    Calls Try.prog 25 #[.slice A V.length cv, .slice B xs.length ca, .slice C ps.length cp] w fun e w' => e = .returned (.tuple #[.bool (As.prvS V xs ps).1, .int .i64 (As.prvS V xs ps).2]) ∧ Below w.heap.size w w' := by
  have CK := fun v (hv : Below w.heap.size w v) => rCheck_any A cv V v hl (h.keep hv)
  have CA := fun v (hv : Below w.heap.size w v) => rAssigned_any B ca xs V.length v hx (hB.keep hv)
  have CP := fun v (hv : Below w.heap.size w v) => rPriced_any C cp ps V.length v hpm (hC.keep hv)
  unfold As.prvS
  rcases As.chk_cases V with h0 | ⟨h1, h2⟩
  · rw [if_pos h0]
    rw [h0] at CK
    by_cases ha : As.isA xs V.length = true
    · by_cases hb : As.isL ps V.length 10000000 = true
      · obtain ⟨a, rfl, hp⟩ := As.isA_perm ha
        obtain ⟨p1, p2⟩ := As.perm_lt hp
        have hbd := As.isL_bd (by omega) hb
        have hpl : ps.length = V.length := by have := hbd.1; omega
        rw [ha] at CA
        rw [hb] at CP
        rw [ha, hb, Bool.and_self, if_pos rfl, As.toNat_al]
        rw [As.al_len, p1] at CA ⊢
        rw [hpl] at CP ⊢
        have CC := Lib.hid (fun v (hv : Below w.heap.size w v) => rContent_any A cv V B ca a C cp ps v (As.chk_ok h0) (h.keep hv) (hB.keep hv) (hC.keep hv) hp hbd.2 hpl)
        have CK' := Lib.hid CK
        have CA' := Lib.hid CA
        have CP' := Lib.hid CP
        generalize As.contB V a ps = z at *
        clear CK CA CP h0 ha hb hB h hl hx hC hpm hp p1 p2 hbd hpl
        go_enter Try.func25, Try.ntmps25
        go_wp2_with fail
        refine (CK'.out _ (Below.refl _ _)).mono ?_
        rintro e w1 ⟨rfl, hb1⟩
        go_wp2_with fail
        refine (CA'.out _ hb1).mono ?_
        rintro e w2 ⟨rfl, hb2⟩
        have hbb := keepB hb1 hb2
        clear hb1 hb2
        go_wp2_with fail
        refine (CP'.out _ hbb).mono ?_
        rintro e w3 ⟨rfl, hb3⟩
        replace hbb := keepB hbb hb3
        clear hb3
        go_wp2_with fail
        refine (CC.out _ hbb).mono ?_
        rintro e w4 ⟨rfl, hb4⟩
        replace hbb := keepB hbb hb4
        clear hb4
        go_wp2_with fail
        go_ret2
        exact ⟨rfl, hbb⟩
      · have hb : As.isL ps V.length 10000000 = false := by simpa using hb
        rw [ha] at CA ⊢
        rw [hb] at CP ⊢
        have CK' := Lib.hid CK
        have CA' := Lib.hid CA
        have CP' := Lib.hid CP
        clear CK CA CP h0 ha hb hB h hl hx hC hpm
        go_enter Try.func25, Try.ntmps25
        go_wp2_with fail
        refine (CK'.out _ (Below.refl _ _)).mono ?_
        rintro e w1 ⟨rfl, hb1⟩
        go_wp2_with fail
        refine (CA'.out _ hb1).mono ?_
        rintro e w2 ⟨rfl, hb2⟩
        have hbb := keepB hb1 hb2
        clear hb1 hb2
        go_wp2_with fail
        refine (CP'.out _ hbb).mono ?_
        rintro e w3 ⟨rfl, hb3⟩
        replace hbb := keepB hbb hb3
        clear hb3
        go_wp2_with fail
        go_ret2
        exact ⟨rfl, hbb⟩
    · have ha : As.isA xs V.length = false := by simpa using ha
      rw [ha] at CA ⊢
      have CK' := Lib.hid CK
      have CA' := Lib.hid CA
      clear CK CA CP h0 ha hB h hl hx hC hpm
      go_enter Try.func25, Try.ntmps25
      go_wp2_with fail
      refine (CK'.out _ (Below.refl _ _)).mono ?_
      rintro e w1 ⟨rfl, hb1⟩
      go_wp2_with fail
      refine (CA'.out _ hb1).mono ?_
      rintro e w2 ⟨rfl, hb2⟩
      have hbb := keepB hb1 hb2
      clear hb1 hb2
      go_wp2_with fail
      go_ret2
      exact ⟨rfl, hbb⟩
  · rw [if_neg h2]
    generalize As.chk V = c at *
    have CK' := Lib.hid CK
    clear CK CA CP h2 hB h hl hx hC hpm
    go_enter Try.func25, Try.ntmps25
    go_wp2_with fail
    refine (CK'.out _ (Below.refl _ _)).mono ?_
    rintro e w1 ⟨rfl, hb1⟩
    go_wp2_with fail
    refine (CK'.out _ hb1).mono ?_
    rintro e w2 ⟨rfl, hb2⟩
    have hbb := keepB hb1 hb2
    clear hb1 hb2
    go_wp2_with fail
    go_ret2
    exact ⟨rfl, hbb⟩
end Go.Proofs.Ytkibglbccfjkpaa

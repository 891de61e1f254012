/- The reference of layer 13: Best, Prices; SameLists of equal lists. -/
import Derived.Test.YtkibglbccfjkpaaAfr
import Derived.Test.YtkibglbccfjkpaaAso
namespace Go.Proofs.Ytkibglbccfjkpaa
open Go.RowKit
set_option maxHeartbeats 2000000 in
theorem rBest_any (A : Option Addr) (cv : Nat) (V : List (List Int)) (w : World) (hl : V.length ≤ maxLen) (h : IsM w A V) :
    Calls Try.prog 13 #[.slice A V.length cv] w (BestQ V w) := by
  have CK := fun v (hv : Below w.heap.size w v) => rCheck_any A cv V v hl (h.keep hv)
  rcases As.chk_cases V with h0 | ⟨h1, h2⟩
  · have ok := As.chk_ok h0
    have ht := As.bst_top ok
    have e1 : As.bsl V = As.bst V := by unfold As.bsl; rw [if_pos h0]
    have e2 : As.bsv V = As.wr V (As.bst V) := by unfold As.bsv; rw [if_pos h0]
    have e3 := ht.len
    rw [h0] at CK
    have CF := Lib.hid (fun v (hv : Below w.heap.size w v) => rMost_any A cv V v ok (h.keep hv))
    have CV := Lib.hid (fun v B c (hv : Below w.heap.size w v) (hI : IsI v B (As.al (As.bst V))) => rWorth_any A cv V B c (As.bst V) v ok.n1 ok.n6 ok.row ok.bd (h.keep hv) hI e3 (fun i hi => by exact (As.perm_lt ht.perm).2 i hi))
    have HQ := Lib.hid (show ∀ (B : Option Addr) (c : Nat) (w' : World), IsI w' B (As.al (As.bst V)) → Below w.heap.size w w' → BestQ V w (.returned (.tuple #[.slice B V.length c, .int .i64 (As.wr V (As.bst V)), .int .i64 0])) w' from fun B c w' hI hb => ⟨B, c, by rw [e1, e2, h0, e3], by rw [e1]; exact hI, hb⟩)
    generalize As.wr V (As.bst V) = z at *
    have CK' := Lib.hid CK
    clear CK h0 ok ht e1 e2 e3 h
    go_enter Try.func13, Try.ntmps13
    go_wp2_with fail
    refine (CK'.out _ (Below.refl _ _)).mono ?_
    rintro e w1 ⟨rfl, hb1⟩
    go_wp2_with fail
    refine (CF.out _ hb1).mono ?_
    rintro e w2 ⟨B, c, rfl, hI, hb2⟩
    have hbb := keepB hb1 hb2
    have CV' := Lib.hid (CV.out w2 B c hbb hI)
    have HI := Lib.hid hI
    clear hb1 hb2 hI CV
    go_wp2_with fail
    refine CV'.out.mono ?_
    rintro e w3 ⟨rfl, hb3⟩
    have hbb3 := keepB hbb hb3
    have HI3 := Lib.hid (HI.out.keep hb3)
    clear hb3 hbb HI CV'
    go_wp2_with fail
    go_ret3
    exact HQ.out B c w3 HI3.out hbb3
  · have HQ := Lib.hid (show ∀ (w' : World), Below w.heap.size w w' → BestQ V w (.returned (.tuple #[.slice none 0 0, .int .i64 0, .int .i64 (As.chk V)])) w' from fun w' hb => ⟨none, 0, by unfold As.bsl As.bsv; rw [if_neg h2, if_neg h2]; rfl, by unfold As.bsl; rw [if_neg h2]; exact isI_nil _ _, hb⟩)
    generalize As.chk V = c at *
    have CK' := Lib.hid CK
    clear CK h2 h hl
    go_enter Try.func13, Try.ntmps13
    go_wp2_with fail
    refine (CK'.out _ (Below.refl _ _)).mono ?_
    rintro e w1 ⟨rfl, hb1⟩
    go_wp2_with fail
    refine (CK'.out _ hb1).mono ?_
    rintro e w2 ⟨rfl, hb2⟩
    have hbb := keepB hb1 hb2
    clear hb1 hb2
    go_wp2_with fail
    go_ret3
    exact HQ.out w2 hbb
set_option maxHeartbeats 2000000 in
theorem rPrices_any (A : Option Addr) (cv : Nat) (V : List (List Int)) (w : World) (hl : V.length ≤ maxLen) (h : IsM w A V) :
    Calls Try.prog 15 #[.slice A V.length cv] w (PricesQ V w) := by
  have CK := fun v (hv : Below w.heap.size w v) => rCheck_any A cv V v hl (h.keep hv)
  rcases As.chk_cases V with h0 | ⟨h1, h2⟩
  · have ok := As.chk_ok h0
    have ht := As.bst_top ok
    have e1 : As.prl V = As.lp V (As.bst V) := by unfold As.prl; rw [if_pos h0]
    have e3 := As.lp_len ht
    rw [h0] at CK
    have CF := Lib.hid (fun v (hv : Below w.heap.size w v) => rMost_any A cv V v ok (h.keep hv))
    have CV := Lib.hid (fun v B c (hv : Below w.heap.size w v) (hI : IsI v B (As.al (As.bst V))) => rLeast_any A cv V B c (As.bst V) v ok ht (h.keep hv) hI)
    have HQ := Lib.hid (show ∀ (g : Nat) (w' : World), BF w' g V.length (As.el (As.lp V (As.bst V))) → Below w.heap.size w w' → PricesQ V w (.returned (.tuple #[.slice (some ⟨g, 0, none⟩) V.length V.length, .int .i64 0])) w' from fun g w' hf hb => ⟨some ⟨g, 0, none⟩, V.length, by rw [e1, h0, e3], by
      have hI := hf.isI (fun k hk => by
        have q1 := As.lp_nn ht k
        have q2 := As.lp_bound ht (by omega) ok.bd hk
        unfold I64; omega)
      unfold ml at hI
      rw [As.ml_el e3] at hI
      rw [e1]; exact hI, hb⟩)
    have CK' := Lib.hid CK
    clear CK h0 ok ht e1 e3 h
    go_enter Try.func15, Try.ntmps15
    go_wp2_with fail
    refine (CK'.out _ (Below.refl _ _)).mono ?_
    rintro e w1 ⟨rfl, hb1⟩
    go_wp2_with fail
    refine (CF.out _ hb1).mono ?_
    rintro e w2 ⟨B, c, rfl, hI, hb2⟩
    have hbb := keepB hb1 hb2
    have CV' := Lib.hid (CV.out w2 B c hbb hI)
    clear hb1 hb2 hI CV
    go_wp2_with fail
    refine CV'.out.mono ?_
    rintro e w3 ⟨rfl, hbf, hb3⟩
    have hbb3 := keepB hbb hb3
    have HI3 := Lib.hid hbf
    clear hb3 hbb hbf CV'
    go_wp2_with fail
    go_ret2
    exact HQ.out _ w3 HI3.out hbb3
  · have HQ := Lib.hid (show ∀ (w' : World), Below w.heap.size w w' → PricesQ V w (.returned (.tuple #[.slice none 0 0, .int .i64 (As.chk V)])) w' from fun w' hb => ⟨none, 0, by unfold As.prl; rw [if_neg h2]; rfl, by unfold As.prl; rw [if_neg h2]; exact isI_nil _ _, hb⟩)
    generalize As.chk V = c at *
    have CK' := Lib.hid CK
    clear CK h2 h hl
    go_enter Try.func15, Try.ntmps15
    go_wp2_with fail
    refine (CK'.out _ (Below.refl _ _)).mono ?_
    rintro e w1 ⟨rfl, hb1⟩
    go_wp2_with fail
    refine (CK'.out _ hb1).mono ?_
    rintro e w2 ⟨rfl, hb2⟩
    have hbb := keepB hb1 hb2
    clear hb1 hb2
    go_wp2_with fail
    go_ret2
    exact HQ.out w2 hbb
set_option maxRecDepth 100000 in
set_option maxHeartbeats 4000000 in
theorem sameLists_eq (A : Option Addr) (ca : Nat) (B : Option Addr) (cb : Nat) (V : List (List Int)) (w : World) (hl : V.length ≤ maxLen) (hA : IsM w A V) (hB : IsM w B V) :
    Calls Try.prog 21 #[.slice A V.length ca, .slice B V.length cb] w fun e w' => e = .returned (.bool true) ∧ Below w.heap.size w w' := by
  unfold maxLen at hl
  have HA := Lib.hid hA
  have HB := Lib.hid hB
  clear hA hB
  have e0 : ((V.length : Int) != V.length) = false := by simp
  go_enter Try.func21, Try.ntmps21
  go_wp2_with fail
  go_loopw [5] (fun i W => ∃ k : Nat, k ≤ V.length ∧ i = .int .i64 k ∧ Below w.heap.size w W) (fun i _ => V.length - (intOf i).toNat)
  case atStart => exact ⟨0, Nat.zero_le _, rfl, Below.refl _ _⟩
  case round =>
    obtain ⟨k, hk, rfl, hbb⟩ := hrel
    by_cases hlt : k < V.length
    · obtain ⟨b1, o1, rfl, h1⟩ := HA.out (by omega)
      obtain ⟨b2, o2, rfl, h2⟩ := HB.out (by omega)
      obtain ⟨R1, c1, k1, hm1, hI1⟩ := h1 k hlt
      obtain ⟨R2, c2, k2, hm2, hI2⟩ := h2 k hlt
      have x1 := keepC hbb k1
      have x2 := keepC hbb k2
      have HS := Lib.hid (fun v (hv : Below w.heap.size w v) => same_eq R1 c1 R2 c2 (V.getD k []) v hm1 (hI1.keep hv) (hI2.keep hv))
      clear h1 h2 k1 k2 hI1 hI2 hm2
      unfold maxLen at hm1
      generalize (V.getD k []).length = q at *
      have i1 : (k : Int) < (V.length : Int) := by omega
      have HBB := Lib.hid hbb
      go_upto_region 6 with fail
      go_region_with (first
        | (go_at_call 20; refine (HS.out _ (by first | exact HBB.out | exact HBB.out.drew)).mono ?_; rintro e w3 ⟨rfl, hb3⟩))
      all_goals
        have hbb3 : Below w.heap.size w w3 := (by first | exact keepB HBB.out hb3 | exact keepB HBB.out.drew hb3)
        clear x1 x2 hb3 hbb
        go_wp2_with fail
        go_roundw
        case rel => exact ⟨k + 1, by omega, by go_num, hbb3⟩
        case measure => simp [intOf]; omega
    · obtain rfl : k = V.length := by omega
      go_wp2_with fail
      go_ret
      exact ⟨rfl, hbb⟩
end Go.Proofs.Ytkibglbccfjkpaa

/- Package assign: Best, Prices. -/
import Derived.Test.YtpiolhjiflohgaaAsi
namespace Go.Proofs.Ytpiolhjiflohgaa
open Go.RowKit
namespace As
theorem bst_top {V : List (List Int)} (ok : Ok V) : Top V (bst V) := by
  have h := fb_spec V (List.range V.length) ok.nn (by simp)
  exact ⟨h.1, fun a ha => by rw [show wr V (bst V) = opt V (List.range V.length) from h.2]; exact opt_ge V _ a ha⟩
theorem bst_wr {V : List (List Int)} (ok : Ok V) : wr V (bst V) = opt V (List.range V.length) := (fb_spec V (List.range V.length) ok.nn (by simp)).2
/-- Best's list and value, and Prices' list. -/
def bsl (V : List (List Int)) : List Nat := if chk V = 0 then bst V else []
def bsv (V : List (List Int)) : Int := if chk V = 0 then wr V (bst V) else 0
def prl (V : List (List Int)) : List Int := if chk V = 0 then lp V (bst V) else []
theorem ml_el {zs : List Int} {n : Nat} (h : zs.length = n) : (List.range n).map (el zs) = zs := by
  subst h
  refine List.ext_getElem (by simp) fun i h1 h2 => ?_
  simp only [List.getElem_map, List.getElem_range]
  unfold el; simp [h2]
end As
/-- What Best gives. -/
def BestQ (V : List (List Int)) (w : World) (e : Ending) (w' : World) : Prop := ∃ A c, e = .returned (.tuple #[.slice A (As.bsl V).length c, .int .i64 (As.bsv V), .int .i64 (As.chk V)]) ∧ IsI w' A (As.al (As.bsl V)) ∧ Below w.heap.size w w'
/-- What Prices gives. -/
def PricesQ (V : List (List Int)) (w : World) (e : Ending) (w' : World) : Prop := ∃ A c, e = .returned (.tuple #[.slice A (As.prl V).length c, .int .i64 (As.chk V)]) ∧ IsI w' A (As.prl V) ∧ Below w.heap.size w w'
theorem isI_nil (w : World) (A : Option Addr) : IsI w A [] := ⟨fun h => absurd h (by simp), by simp⟩
set_option maxHeartbeats 2000000 in
theorem asBest_any (A : Option Addr) (cv : Nat) (V : List (List Int)) (w : World) (hl : V.length ≤ maxLen) (h : IsM w A V) :
    Calls Try.prog 33 #[.slice A V.length cv] w (BestQ V w) := by
  have CK := asCheck_any A cv V w hl h
  rcases As.chk_cases V with h0 | ⟨h1, h2⟩
  · have ok := As.chk_ok h0
    have ht := As.bst_top ok
    have e1 : As.bsl V = As.bst V := by unfold As.bsl; rw [if_pos h0]
    have e2 : As.bsv V = As.wr V (As.bst V) := by unfold As.bsv; rw [if_pos h0]
    have e3 := ht.len
    rw [h0] at CK
    have CF := Lib.hid (fun v (hv : Below w.heap.size w v) => firstBest_any A cv V v ok (h.keep hv))
    have CV := Lib.hid (fun v B c (hv : Below w.heap.size w v) (hI : IsI v B (As.al (As.bst V))) => asValueOf_any A cv V B c (As.bst V) v ok (h.keep hv) hI e3 (fun i hi => by exact (As.perm_lt ht.perm).2 i hi))
    have HQ := Lib.hid (show ∀ (B : Option Addr) (c : Nat) (w' : World), IsI w' B (As.al (As.bst V)) → Below w.heap.size w w' → BestQ V w (.returned (.tuple #[.slice B V.length c, .int .i64 (As.wr V (As.bst V)), .int .i64 0])) w' from fun B c w' hI hb => ⟨B, c, by rw [e1, e2, h0, e3], by rw [e1]; exact hI, hb⟩)
    generalize As.wr V (As.bst V) = z at *
    have CK' := Lib.hid CK
    clear CK h0 ok ht e1 e2 e3 h
    go_enter Try.func33, Try.ntmps33
    go_wp2_with fail
    refine CK'.out.mono ?_
    rintro e w1 ⟨rfl, hb1⟩
    go_wp2_with fail
    refine (CF.out _ hb1).mono ?_
    rintro e w2 ⟨B, c, rfl, hI, hb2⟩
    have hbb := keepB hb1 hb2
    have CV' := Lib.hid (CV.out w2 B c hbb hI)
    have HI := Lib.hid hI
    clear hb1 hb2 hI CV
    go_wp2_with fail
    refine CV'.out.mono ?_
    rintro e w3 ⟨rfl, hb3⟩
    have hbb3 := keepB hbb hb3
    have HI3 := Lib.hid (HI.out.keep hb3)
    clear hb3 hbb HI CV'
    go_wp2_with fail
    go_ret3
    exact HQ.out B c w3 HI3.out hbb3
  · have HQ := Lib.hid (show ∀ (w' : World), Below w.heap.size w w' → BestQ V w (.returned (.tuple #[.slice none 0 0, .int .i64 0, .int .i64 (As.chk V)])) w' from fun w' hb => ⟨none, 0, by unfold As.bsl As.bsv; rw [if_neg h2, if_neg h2]; rfl, by unfold As.bsl; rw [if_neg h2]; exact isI_nil _ _, hb⟩)
    generalize As.chk V = c at *
    have CK' := Lib.hid CK
    clear CK h2 h hl
    go_enter Try.func33, Try.ntmps33
    go_wp2_with fail
    refine CK'.out.mono ?_
    rintro e w1 ⟨rfl, hb1⟩
    go_wp2_with fail
    go_ret3
    exact HQ.out w1 hb1
set_option maxHeartbeats 2000000 in
theorem asPrices_any (A : Option Addr) (cv : Nat) (V : List (List Int)) (w : World) (hl : V.length ≤ maxLen) (h : IsM w A V) :
    Calls Try.prog 41 #[.slice A V.length cv] w (PricesQ V w) := by
  have CK := asCheck_any A cv V w hl h
  rcases As.chk_cases V with h0 | ⟨h1, h2⟩
  · have ok := As.chk_ok h0
    have ht := As.bst_top ok
    have e1 : As.prl V = As.lp V (As.bst V) := by unfold As.prl; rw [if_pos h0]
    have e3 := As.lp_len ht
    rw [h0] at CK
    have CF := Lib.hid (fun v (hv : Below w.heap.size w v) => firstBest_any A cv V v ok (h.keep hv))
    have CV := Lib.hid (fun v B c (hv : Below w.heap.size w v) (hI : IsI v B (As.al (As.bst V))) => leastPrices_any A cv V B c (As.bst V) v ok ht (h.keep hv) hI)
    have HQ := Lib.hid (show ∀ (g : Nat) (w' : World), BF w' g V.length (As.el (As.lp V (As.bst V))) → Below w.heap.size w w' → PricesQ V w (.returned (.tuple #[.slice (some ⟨g, 0, none⟩) V.length V.length, .int .i64 0])) w' from fun g w' hf hb => ⟨some ⟨g, 0, none⟩, V.length, by rw [e1, h0, e3], by
      have hI := hf.isI (fun k hk => by
        have q1 := As.lp_nn ht k
        have q2 := As.lp_bound ht (by omega) ok.bd hk
        unfold I64; omega)
      unfold ml at hI
      rw [As.ml_el e3] at hI
      rw [e1]; exact hI, hb⟩)
    have CK' := Lib.hid CK
    clear CK h0 ok ht e1 e3 h
    go_enter Try.func41, Try.ntmps41
    go_wp2_with fail
    refine CK'.out.mono ?_
    rintro e w1 ⟨rfl, hb1⟩
    go_wp2_with fail
    refine (CF.out _ hb1).mono ?_
    rintro e w2 ⟨B, c, rfl, hI, hb2⟩
    have hbb := keepB hb1 hb2
    have CV' := Lib.hid (CV.out w2 B c hbb hI)
    clear hb1 hb2 hI CV
    go_wp2_with fail
    refine CV'.out.mono ?_
    rintro e w3 ⟨rfl, hbf, hb3⟩
    have hbb3 := keepB hbb hb3
    have HI3 := Lib.hid hbf
    clear hb3 hbb hbf CV'
    go_wp2_with fail
    go_ret2
    exact HQ.out _ w3 HI3.out hbb3
  · have HQ := Lib.hid (show ∀ (w' : World), Below w.heap.size w w' → PricesQ V w (.returned (.tuple #[.slice none 0 0, .int .i64 (As.chk V)])) w' from fun w' hb => ⟨none, 0, by unfold As.prl; rw [if_neg h2]; rfl, by unfold As.prl; rw [if_neg h2]; exact isI_nil _ _, hb⟩)
    generalize As.chk V = c at *
    have CK' := Lib.hid CK
    clear CK h2 h hl
    go_enter Try.func41, Try.ntmps41
    go_wp2_with fail
    refine CK'.out.mono ?_
    rintro e w1 ⟨rfl, hb1⟩
    go_wp2_with fail
    go_ret2
    exact HQ.out w1 hb1
end Go.Proofs.Ytpiolhjiflohgaa

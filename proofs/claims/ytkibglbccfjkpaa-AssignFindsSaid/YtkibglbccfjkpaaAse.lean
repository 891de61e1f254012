/- Package assign: Proves, all ways. -/
import Derived.Test.YtkibglbccfjkpaaAsd
namespace Go.Proofs.Ytkibglbccfjkpaa
open Go.RowKit
set_option maxRecDepth 100000 in
set_option maxHeartbeats 2000000 in
theorem asProves_any (A : Option Addr) (cv : Nat) (V : List (List Int)) (B : Option Addr) (ca : Nat) (xs : List Int) (C : Option Addr) (cp : Nat) (ps : List Int) (w : World) (hl : V.length ≤ maxLen) (h : IsM w A V) (hx : xs.length ≤ maxLen) (hB : IsI w B xs) (hpm : ps.length ≤ maxLen) (hC : IsI w C ps) :
    Calls Try.prog 24 #[.slice A V.length cv, .slice B xs.length ca, .slice C ps.length cp] w fun e w' => e = .returned (.tuple #[.bool (As.prvS V xs ps).1, .int .i64 (As.prvS V xs ps).2]) ∧ Below w.heap.size w w' := by
  have CK := asCheck_any A cv V w hl h
  have CA := fun v (hv : Below w.heap.size w v) => isAsg_any B ca xs V.length v hx (hB.keep hv)
  have CP := fun v (hv : Below w.heap.size w v) => isList_any C cp ps V.length 10000000 v hpm (hC.keep hv)
  unfold As.prvS
  rcases As.chk_cases V with h0 | ⟨h1, h2⟩
  · rw [if_pos h0]
    rw [h0] at CK
    by_cases ha : As.isA xs V.length = true
    · by_cases hb : As.isL ps V.length 10000000 = true
      · obtain ⟨a, rfl, hp⟩ := As.isA_perm ha
        obtain ⟨p1, p2⟩ := As.perm_lt hp
        have hpl : ps.length = V.length := by have := (As.isL_bd (by omega) hb).1; omega
        rw [ha, hb, Bool.and_self, if_pos rfl, As.toNat_al, As.al_len, p1, hpl]
        exact asProves1 A cv V B ca a C cp ps w hl h0 h hB hC hp hb hpm
      · have hb : As.isL ps V.length 10000000 = false := by simpa using hb
        rw [ha] at CA ⊢
        rw [hb] at CP ⊢
        have CK' := Lib.hid CK
        have CA' := Lib.hid CA
        have CP' := Lib.hid CP
        clear CK CA CP h0 ha hb hB h hl hx hC hpm
        go_enter Try.func24, Try.ntmps24
        go_wp2_with fail
        refine CK'.out.mono ?_
        rintro e w1 ⟨rfl, hb1⟩
        go_wp2_with fail
        refine (CA'.out _ hb1).mono ?_
        rintro e w2 ⟨rfl, hb2⟩
        have hbb := keepB hb1 hb2
        clear hb1 hb2
        go_wp2_with fail
        refine (CP'.out _ hbb).mono ?_
        rintro e w3 ⟨rfl, hb3⟩
        replace hbb := keepB hbb hb3
        clear hb3
        go_wp2_with fail
        go_ret2
        exact ⟨rfl, hbb⟩
    · have ha : As.isA xs V.length = false := by simpa using ha
      rw [ha] at CA ⊢
      have CK' := Lib.hid CK
      have CA' := Lib.hid CA
      clear CK CA CP h0 ha hB h hl hx hC hpm
      go_enter Try.func24, Try.ntmps24
      go_wp2_with fail
      refine CK'.out.mono ?_
      rintro e w1 ⟨rfl, hb1⟩
      go_wp2_with fail
      refine (CA'.out _ hb1).mono ?_
      rintro e w2 ⟨rfl, hb2⟩
      have hbb := keepB hb1 hb2
      clear hb1 hb2
      go_wp2_with fail
      go_ret2
      exact ⟨rfl, hbb⟩
  · rw [if_neg h2]
    generalize As.chk V = c at *
    have CK' := Lib.hid CK
    clear CK CA CP h2 hB h hl hx hC hpm
    go_enter Try.func24, Try.ntmps24
    go_wp2_with fail
    refine CK'.out.mono ?_
    rintro e w1 ⟨rfl, hb1⟩
    go_wp2_with fail
    go_ret2
    exact ⟨rfl, hb1⟩
end Go.Proofs.Ytkibglbccfjkpaa

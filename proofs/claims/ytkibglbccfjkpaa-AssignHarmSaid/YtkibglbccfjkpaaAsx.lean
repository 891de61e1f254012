/- AssignHarm's walk. -/
import Derived.Test.YtkibglbccfjkpaaAsq
import Derived.Test.YtkibglbccfjkpaaAst
namespace Go.Proofs.Ytkibglbccfjkpaa
open Go.RowKit
set_option maxRecDepth 100000 in
set_option maxHeartbeats 8000000 in
theorem aharm_core (A : Option Addr) (cv : Nat) (V : List (List Int)) (w : World) (hl : V.length ≤ maxLen) (h : IsM w A V) (h0 : As.chk V = 0) :
    Calls Try.prog 8 #[.slice A V.length cv] w fun e w' => e = .returned (.bool true) ∧ Below w.heap.size w w' := by
  have ok := As.chk_ok h0
  have ht := As.bst_top ok
  have n1 := ok.n1
  have n6 := ok.n6
  obtain ⟨t1, t2⟩ := As.perm_lt ht.perm
  have lpl := As.lp_len ht
  have CAl := Lib.hid (asAlive_any w)
  have CF := fun v (hv : Below w.heap.size w v) => fit_any A cv V v hl (h.keep hv)
  rw [show As.ftB V = true by unfold As.ftB; rw [h0]; rfl] at CF
  have HCF := Lib.hid CF
  have e1 : As.bsl V = As.bst V := by unfold As.bsl; rw [if_pos h0]
  have e2 : As.prl V = As.lp V (As.bst V) := by unfold As.prl; rw [if_pos h0]
  have CB := Lib.hid (fun v (hv : Below w.heap.size w v) => show Calls Try.prog 12 #[.slice A V.length cv] v (fun e v' => ∃ D c z, e = .returned (.tuple #[.slice D V.length c, .int .i64 z, .int .i64 0]) ∧ IsI v' D (As.al (As.bst V)) ∧ Below v.heap.size v v') from (asBest_any A cv V v hl (h.keep hv)).mono fun e v' hq => by
    obtain ⟨D, c, hd, hI, hb⟩ := hq
    rw [e1, t1, h0] at hd
    rw [e1] at hI
    exact ⟨D, c, _, hd, hI, hb⟩)
  have CPr := Lib.hid (fun v (hv : Below w.heap.size w v) => show Calls Try.prog 14 #[.slice A V.length cv] v (fun e v' => ∃ D c, e = .returned (.tuple #[.slice D V.length c, .int .i64 0]) ∧ IsI v' D (As.lp V (As.bst V)) ∧ Below v.heap.size v v') from (asPrices_any A cv V v hl (h.keep hv)).mono fun e v' hq => by
    obtain ⟨D, c, hd, hI, hb⟩ := hq
    rw [e2, lpl, h0] at hd
    rw [e2] at hI
    exact ⟨D, c, hd, hI, hb⟩)
  have CD := fun v D c (hI : IsI v D (As.al (As.bst V))) => rAssigned_any D c (As.al (As.bst V)) V.length v (by rw [As.al_len, t1]; exact hl) hI
  rw [As.perm_isA ht.perm, As.al_len, t1] at CD
  have HCD := Lib.hid CD
  have HDC := Lib.hid (show ∀ (v : World) (D : Option Addr), IsI v D (As.al (As.bst V)) → ∃ db d0, D = some ⟨db, d0, none⟩ ∧ ∀ i, i < V.length → v.cell? ⟨db, d0 + i, none⟩ = some (.int .i64 (((As.bst V).getD i 0 : Nat) : Int)) from fun v D hI => by
    obtain ⟨db, d0, hd, hc⟩ := hI.1 (by rw [As.al_len]; omega)
    refine ⟨db, d0, hd, fun i hi => ?_⟩
    have := hc i (by rw [As.al_len]; omega)
    rwa [As.el_al] at this)
  have HPC := Lib.hid (show ∀ (v : World) (D : Option Addr), IsI v D (As.lp V (As.bst V)) → ∃ db d0, D = some ⟨db, d0, none⟩ ∧ ∀ i, i < V.length → v.cell? ⟨db, d0 + i, none⟩ = some (.int .i64 (As.el (As.lp V (As.bst V)) i)) from fun v D hI => by
    obtain ⟨db, d0, hd, hc⟩ := hI.1 (by omega)
    exact ⟨db, d0, hd, fun i hi => hc i (by omega)⟩)
  have e3 : As.hml V = ml V.length (As.hmF V) := by unfold As.hml; rw [if_pos h0]
  have CH := Lib.hid (fun v (hv : Below w.heap.size w v) => show Calls Try.prog 16 #[.slice A V.length cv] v (fun e v' => ∃ D c, e = .returned (.tuple #[.slice D V.length c, .int .i64 0]) ∧ IsI v' D (ml V.length (As.hmF V)) ∧ Below v.heap.size v v') from (asHarm_any A cv V v hl (h.keep hv)).mono fun e v' hq => by
    obtain ⟨D, c, hd, hI, hb⟩ := hq
    rw [e3, ml_len, h0] at hd
    rw [e3] at hI
    exact ⟨D, c, hd, hI, hb⟩)
  have HHC := Lib.hid (show ∀ (v : World) (D : Option Addr), IsI v D (ml V.length (As.hmF V)) → ∃ db d0, D = some ⟨db, d0, none⟩ ∧ ∀ i, i < V.length → v.cell? ⟨db, d0 + i, none⟩ = some (.int .i64 (As.el (As.lp V (As.bst V)) ((As.bst V).getD i 0))) from fun v D hI => by
    obtain ⟨db, d0, hd, hc⟩ := hI.1 (by rw [ml_len]; omega)
    refine ⟨db, d0, hd, fun i hi => ?_⟩
    have := hc i (by rw [ml_len]; exact hi)
    rwa [el_ml hi] at this)
  have HLT := Lib.hid t2
  clear CF CD e1 e2 e3 h0 ok ht h lpl t1 t2
  unfold maxLen at hl
  have g0 : ((V.length : Int) != V.length) = false := by simp
  go_enter Try.func8, Try.ntmps8
  go_wp2_with fail
  refine CAl.out.mono ?_
  rintro e w1 ⟨rfl, hbb⟩
  clear CAl
  go_wp2_with fail
  refine (HCF.out _ hbb).mono ?_
  rintro e w9 ⟨rfl, hb9⟩
  have hbb9 := keepB hbb hb9
  clear hb9
  replace hbb := hbb9
  clear hbb9
  go_wp2_with fail
  refine (CB.out _ hbb).mono ?_
  rintro e w9 ⟨D1, d1, z1, rfl, hI1, hb9⟩
  have hbb9 := keepB hbb hb9
  clear hb9
  replace hbb := hbb9
  clear hbb9
  have HI1 := Lib.hid hI1
  clear hI1
  go_wp2_with fail
  refine (CPr.out _ hbb).mono ?_
  rintro e w9 ⟨D2, d2, rfl, hI2, hb9⟩
  have hbb9 := keepB hbb hb9
  replace HI1 := Lib.hid (HI1.out.keep hb9)
  clear hb9
  replace hbb := hbb9
  clear hbb9
  have HI2 := Lib.hid hI2
  clear hI2
  go_wp2_with fail
  refine (CH.out _ hbb).mono ?_
  rintro e w9 ⟨D3, d3, rfl, hI3, hb9⟩
  have hbb9 := keepB hbb hb9
  replace HI1 := Lib.hid (HI1.out.keep hb9)
  replace HI2 := Lib.hid (HI2.out.keep hb9)
  clear hb9
  replace hbb := hbb9
  clear hbb9
  have HI3 := Lib.hid hI3
  clear hI3
  go_wp2_with fail
  refine (HCD.out _ _ _ HI1.out).mono ?_
  rintro e w9 ⟨rfl, hb9⟩
  have hbb9 := keepB hbb hb9
  replace HI1 := Lib.hid (HI1.out.keep hb9)
  replace HI2 := Lib.hid (HI2.out.keep hb9)
  replace HI3 := Lib.hid (HI3.out.keep hb9)
  clear hb9
  replace hbb := hbb9
  clear hbb9
  obtain ⟨b1, o1, rfl, hc1⟩ := HDC.out _ _ HI1.out
  obtain ⟨b2, o2, rfl, hc2⟩ := HPC.out _ _ HI2.out
  obtain ⟨b3, o3, rfl, hc3⟩ := HHC.out _ _ HI3.out
  have K1 := Lib.hid hc1
  have K2 := Lib.hid hc2
  have K3 := Lib.hid hc3
  have HBB := Lib.hid hbb
  clear hc1 hc2 hc3 HDC HPC HHC HCF HCD CB CPr CH HI1 HI2 HI3 hbb
  go_wp2_with fail
  go_loopw [11] (fun i W => ∃ k : Nat, k ≤ V.length ∧ i = .int .i64 k ∧ Below w9.heap.size w9 W) (fun i _ => V.length - (intOf i).toNat)
  case atStart => exact ⟨0, Nat.zero_le _, rfl, Below.refl _ _⟩
  case round =>
    obtain ⟨k, hk, rfl, hb7⟩ := hrel
    by_cases hlt : k < V.length
    · have hj := HLT.out k hlt
      have c1 := keepC hb7 (K1.out k hlt)
      have c2 := keepC hb7 (K2.out _ hj)
      have c3 := keepC hb7 (K3.out k hlt)
      generalize As.el (As.lp V (As.bst V)) ((As.bst V).getD k 0) = x at *
      generalize (As.bst V).getD k 0 = o at *
      have i1 : (k : Int) < (V.length : Int) := by omega
      have i2 : (o : Int) < (V.length : Int) := by omega
      have d1 : (x != x) = false := by simp
      go_wp2_with fail
      go_quiet (fail)
      go_wp2_with fail
      go_roundw
      case rel => exact ⟨k + 1, by omega, by go_num, below_drewN hb7 _⟩
      case measure => simp [intOf]; omega
    · obtain rfl : k = V.length := by omega
      have hbb := keepB HBB.out hb7
      go_wp2_with fail
      go_ret
      exact ⟨rfl, hbb⟩
set_option maxHeartbeats 2000000 in
theorem aharm_walk (A : Option Addr) (cv : Nat) (V : List (List Int)) (w : World) (hl : V.length ≤ maxLen) (h : IsM w A V) :
    Calls Try.prog 8 #[.slice A V.length cv] w fun e w' => e = .returned (.bool true) ∧ Below w.heap.size w w' := by
  by_cases h0 : As.ftB V = true
  · exact aharm_core A cv V w hl h (by unfold As.ftB at h0; simpa using h0)
  · have h0 : As.ftB V = false := by simpa using h0
    have CAl := Lib.hid (asAlive_any w)
    have CF := fun v (hv : Below w.heap.size w v) => fit_any A cv V v hl (h.keep hv)
    rw [h0] at CF
    have HF := Lib.hid CF
    clear CF h0 h hl
    go_enter Try.func8, Try.ntmps8
    go_wp2_with fail
    refine CAl.out.mono ?_
    rintro e w1 ⟨rfl, hbb⟩
    go_wp2_with fail
    refine (HF.out _ hbb).mono ?_
    rintro e w2 ⟨rfl, hb2⟩
    replace hbb := keepB hbb hb2
    clear hb2
    go_wp2_with fail
    go_ret
    exact ⟨rfl, hbb⟩
end Go.Proofs.Ytkibglbccfjkpaa

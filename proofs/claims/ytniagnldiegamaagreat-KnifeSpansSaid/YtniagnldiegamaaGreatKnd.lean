/- Package knife: slices.DeleteFunc at ints. -/
import Derived.Test.YtniagnldiegamaaGreatKna
import Derived.Test.YtniagnldiegamaaGreatGh
import Derived.Lib.SliceRun
set_option linter.unusedSimpArgs false
set_option maxHeartbeats 8000000
set_option maxRecDepth 100000
namespace Go.Proofs.YtniagnldiegamaaGreat
open Go.RowKit
theorem kndel1_any (x hh : Int) (p : Nat) (w : World) (hc : w.cell? ⟨p, 0, none⟩ = some (.int .i64 hh)) :
    Calls Tryz.prog 50 #[.int .i64 x, .pointer (some ⟨p, 0, none⟩)] w fun e w' => e = .returned (.bool (x == hh)) ∧ Below w.heap.size w w' := by
  go_enter Tryz.func50, Tryz.ntmps50
  go_wp2_with fail
  go_ret
  exact ⟨rfl, Below.refl _ _⟩
theorem kn_bk_int {w : World} {g : Nat} {zs : List Int} (h : BK w g (zs.map (Value.int .i64))) {k : Nat} (hk : k < zs.length) : w.cell? ⟨g, k, none⟩ = some (.int .i64 (zs.getD k 0)) ∧ w.frozen? ⟨g, k, none⟩ = false := by
  have e : (zs.map (Value.int .i64))[k]? = some (.int .i64 (zs.getD k 0)) := by simp [hk]
  exact ⟨h.c k e, h.f k e⟩
theorem knindex_any (g cap : Nat) (zs : List Int) (q : Nat) (hh : Int) (p : Nat) (w : World) (hB : BK w g (zs.map (Value.int .i64))) (hq : q < zs.length) (h6 : zs.length ≤ 6) (he : zs.getD q 0 = hh) (hne : ∀ k, k < q → zs.getD k 0 ≠ hh) (hc : w.cell? ⟨p, 0, none⟩ = some (.int .i64 hh)) :
    Calls Tryz.prog 78 #[.slice (some ⟨g, 0, none⟩) zs.length cap, .func (.func 50) #[] #[.pointer (some ⟨p, 0, none⟩)]] w fun e w' => e = .returned (.int .i64 (q : Nat)) ∧ Below w.heap.size w w' := by
  have HB := Lib.hid hB; have HE := Lib.hid he; have HNE := Lib.hid hne; have HCE := Lib.hid hc; obtain ⟨m, hm⟩ : ∃ z, zs.length = z := ⟨_, rfl⟩; rw [hm] at hq h6 ⊢; have HM := Lib.hid hm; clear hB he hne hc hm
  go_enter Tryz.func78, Tryz.ntmps78
  go_wp2_with fail
  go_loopw [5, 8] (fun _ i W => ∃ k : Nat, k ≤ q ∧ i = .int .i64 k ∧ Below w.heap.size w W) (fun _ i _ => m - (intOf i).toNat)
  case atStart => exact ⟨0, Nat.zero_le _, rfl, Below.refl _ _⟩
  case round =>
    obtain ⟨k, hk, rfl, hbb⟩ := hrel; have c0 := keepC hbb (kn_bk_int HB.out (k := k) (by rw [HM.out]; omega)).1; obtain ⟨x, hx⟩ : ∃ x, zs.getD k 0 = x := ⟨_, rfl⟩; rw [hx] at c0
    have i1 : (0 : Int) ≤ (k : Int) := by omega
    have i2 : (k : Int) < (m : Int) := by omega
    have hv := kndel1_any x hh p wr (keepC hbb HCE.out)
    by_cases hkq : k = q
    · subst hkq
      have e : (x == hh) = true := by rw [← hx, HE.out]; simp
      rw [e] at hv; have HV := Lib.hid hv; clear hv e hx; (go_wp2_with fail); refine HV.out.mono ?_; rintro e w1 ⟨rfl, hb1⟩; replace hbb := keepB hbb hb1; clear hb1; (go_wp2_with fail)
      go_ret
      exact ⟨rfl, hbb⟩
    · have e : (x == hh) = false := by rw [beq_eq_false_iff_ne, ← hx]; exact HNE.out k (by omega)
      rw [e] at hv; have HV := Lib.hid hv; clear hv e hx; (go_wp2_with fail); refine HV.out.mono ?_; rintro e w1 ⟨rfl, hb1⟩; replace hbb := keepB hbb hb1; clear hb1 c0; (go_wp2_with fail)
      go_roundw
      case rel => exact ⟨k + 1, by omega, by go_num, hbb⟩
      case measure => simp [intOf]; omega
theorem kn_getD_ge {l : List Int} {k : Nat} (h : k < l.length) : l.getD k 0 = l[k] := by simp [h]
namespace Kn
/-- A list in which what stands behind place q has moved one to the front, as far as place j. -/
def mvd (zs : List Int) (q j : Nat) : List Int := (List.range zs.length).map fun (k : Nat) => if q ≤ k ∧ k + 1 < j then zs.getD (k + 1) 0 else zs.getD k 0
theorem mvd_len (zs : List Int) (q j : Nat) : (mvd zs q j).length = zs.length := by unfold mvd; simp
theorem mvd_at (zs : List Int) (q j : Nat) {k : Nat} (hk : k < zs.length) : (mvd zs q j).getD k 0 = if q ≤ k ∧ k + 1 < j then zs.getD (k + 1) 0 else zs.getD k 0 := by
  unfold mvd
  simp [hk]
theorem mvd_start (zs : List Int) (q : Nat) : mvd zs q (q + 1) = zs := by
  refine List.ext_getElem (mvd_len _ _ _) fun k h1 h2 => ?_
  have := mvd_at zs q (q + 1) h2; rw [if_neg (by omega)] at this
  simpa [h1, h2] using this
theorem mvd_step (zs : List Int) (q j : Nat) (_ : j < zs.length) (hq : q < j) : (mvd zs q j).set (j - 1) (zs.getD j 0) = mvd zs q (j + 1) := by
  refine List.ext_getElem (by simp [mvd_len]) fun k h1 h2 => ?_
  have hk : k < zs.length := by rw [mvd_len] at h2; exact h2
  have a := mvd_at zs q j hk; have b := mvd_at zs q (j + 1) hk
  have h3 : k < (mvd zs q j).length := by rw [mvd_len]; exact hk
  rw [kn_getD_ge h3] at a; rw [kn_getD_ge h2] at b; rw [List.getElem_set, b]
  by_cases e : j - 1 = k
  · rw [if_pos e, if_pos (by omega), show k + 1 = j by omega]
  · rw [if_neg e, a]
    by_cases c : q ≤ k ∧ k + 1 < j
    · rw [if_pos c, if_pos (by omega)]
    · rw [if_neg c, if_neg (by omega)]
theorem mvd_end (zs : List Int) (q : Nat) (hq : q < zs.length) {k : Nat} (hk : k + 1 < zs.length) : (mvd zs q zs.length).getD k 0 = (zs.eraseIdx q).getD k 0 := by
  rw [mvd_at zs q zs.length (by omega)]
  have hl : k < (zs.eraseIdx q).length := by rw [List.length_eraseIdx]; rw [if_pos hq]; omega
  rw [kn_getD_ge hl, List.getElem_eraseIdx]
  by_cases c : k < q
  · rw [dif_pos c, if_neg (by omega)]
    simp [show k < zs.length by omega]
  · rw [dif_neg c, if_pos (by omega)]
    simp [hk]
end Kn
theorem kndelete_any (g cap : Nat) (zs : List Int) (q : Nat) (hh : Int) (p : Nat) (w : World) (hB : BK w g (zs.map (Value.int .i64))) (hq : q < zs.length) (h6 : zs.length ≤ 6) (hcap : zs.length ≤ cap) (he : zs.getD q 0 = hh) (hne : ∀ k, k < zs.length → k ≠ q → zs.getD k 0 ≠ hh) (hp : p ≠ g) (hc : w.cell? ⟨p, 0, none⟩ = some (.int .i64 hh)) :
    Calls Tryz.prog 49 #[.slice (some ⟨g, 0, none⟩) zs.length cap, .func (.func 50) #[] #[.pointer (some ⟨p, 0, none⟩)]] w fun e w' => e = .returned (.slice (some ⟨g, 0, none⟩) (zs.length - 1) cap) ∧ GB (fun k => k = g) w w' ∧ BK w' g ((zs.eraseIdx q).map (Value.int .i64)) := by
  have ix := knindex_any g cap zs q hh p w hB hq h6 he (fun k hk => hne k (by omega) (by omega)) hc; have HB := Lib.hid hB; have HNE := Lib.hid hne; have HCE := Lib.hid hc
  have HFIN := Lib.hid (fun (W : World) (h : BK W g ((Kn.mvd zs q zs.length).map (Value.int .i64))) => show BK (W.setCell ⟨g, zs.length - 1, none⟩ (.int .i64 0)) g ((zs.eraseIdx q).map (Value.int .i64)) from ⟨by rw [World.size_setCell]; exact h.1, fun j x e => by
    have hj : j < (zs.eraseIdx q).length := by
      have := (List.getElem?_eq_some_iff.1 e).1
      simpa using this
    have hj2 : j + 1 < zs.length := by rw [List.length_eraseIdx, if_pos hq] at hj; omega
    have hx : x = .int .i64 ((Kn.mvd zs q zs.length).getD j 0) := by
      rw [Kn.mvd_end zs q hq hj2]
      have : ((zs.eraseIdx q).map (Value.int .i64))[j]? = some (.int .i64 ((zs.eraseIdx q).getD j 0)) := by simp [hj]
      rw [this] at e; exact (Option.some.inj e).symm
    subst hx
    have hm1 : j < ((Kn.mvd zs q zs.length).map (Value.int .i64)).length := by rw [List.length_map, Kn.mvd_len]; omega
    have e2 : (((Kn.mvd zs q zs.length).map (Value.int .i64)).set (zs.length - 1) (.int .i64 0))[j]? = some (.int .i64 ((Kn.mvd zs q zs.length).getD j 0)) := by
      rw [List.getElem?_set_ne (by omega), List.getElem?_eq_getElem hm1, List.getElem_map, kn_getD_ge]
    exact (h.set (zs.length - 1) (.int .i64 0)).2 j _ e2⟩)
  obtain ⟨m, hm⟩ : ∃ z, zs.length = z := ⟨_, rfl⟩; rw [hm] at ix hq h6 hcap ⊢; have IX := Lib.hid ix; have HM := Lib.hid hm; have HQ := Lib.hid hq
  have en : (((q : Nat) : Int) == -1) = false := by rw [beq_eq_false_iff_ne]; omega
  clear ix hB hne hc hm he
  go_enter Tryz.func49, Tryz.ntmps49
  (go_wp2_with fail); refine IX.out.mono ?_; rintro e w1 ⟨rfl, hb1⟩; have a0 : IntKind.i64.wrap ((q : Int) + 1) = (q : Int) + 1 := IntWalk.i64_in _ (by omega); (go_wp2_with fail)
  go_loopw [5, 6] (fun x y W => ∃ j : Nat, q < j ∧ j ≤ m ∧ x = .int .i64 ((j - 1 : Nat) : Int) ∧ y = .int .i64 (j : Nat) ∧ GB (fun k => k = g) w W ∧ BK W g ((Kn.mvd zs q j).map (Value.int .i64))) (fun _ y _ => m - (intOf y).toNat)
  case atStart => exact ⟨q + 1, by omega, by omega, by simp, by go_num, (GB.refl _ _).below hb1, by rw [Kn.mvd_start]; exact HB.out.keep hb1⟩
  case round =>
    obtain ⟨j, hqj, hj, rfl, rfl, hG, hBK⟩ := hrel
    by_cases hlt : j < m
    · have hmj : j < zs.length := by rw [HM.out]; exact hlt
      have c0 := (kn_bk_int hBK (k := j) (by rw [Kn.mvd_len]; exact hmj)).1; rw [Kn.mvd_at zs q j hmj, if_neg (by omega)] at c0; have c1 := kn_bk_int hBK (k := j - 1) (by rw [Kn.mvd_len]; omega); obtain ⟨old, hold⟩ : ∃ x, (Kn.mvd zs q j).getD (j - 1) 0 = x := ⟨_, rfl⟩; rw [hold] at c1; obtain ⟨c1, c2⟩ := c1; have hxe := HNE.out j hmj (by omega); obtain ⟨x, hx⟩ : ∃ x, zs.getD j 0 = x := ⟨_, rfl⟩; rw [hx] at c0 hxe; have hv := kndel1_any x hh p wr (hG.cell hp HCE.out)
      have e : (x == hh) = false := by rw [beq_eq_false_iff_ne]; exact hxe
      rw [e] at hv; have HV := Lib.hid hv; have HX := Lib.hid hx
      have i1 : (0 : Int) ≤ (j : Int) := by omega
      have i2 : (j : Int) < (m : Int) := by omega
      have i3 : (0 : Int) ≤ ((j - 1 : Nat) : Int) := by omega
      have i4 : ((j - 1 : Nat) : Int) < (m : Int) := by omega
      have i5 : IntKind.i64.wrap (((j - 1 : Nat) : Int) + 1) = ((j - 1 : Nat) : Int) + 1 := IntWalk.i64_in _ (by omega); have i6 : IntKind.i64.wrap ((j : Int) + 1) = (j : Int) + 1 := IntWalk.i64_in _ (by omega); have HST := Lib.hid (Kn.mvd_step zs q j hmj hqj); clear hv e hxe hx hold; (go_wp2_with fail); refine HV.out.mono ?_; rintro e w2 ⟨rfl, hb2⟩; replace hG := hG.below hb2; replace hBK := hBK.keep hb2; replace c0 := keepC hb2 c0; have c1' := (kn_bk_int hBK (k := j - 1) (by rw [Kn.mvd_len]; omega)); obtain ⟨d1, d2⟩ := c1'; clear hb2 c0 c1 c2; (go_wp2_with fail)
      go_roundw
      case rel =>
        refine ⟨j + 1, by omega, by omega, ?_, by go_num, hG.set (.inl rfl) _, ?_⟩
        · rw [show ((j + 1 - 1 : Nat) : Int) = ((j - 1 : Nat) : Int) + 1 by omega]
        · have := hBK.set (j - 1) (.int .i64 x)
          rw [← HST.out, List.map_set, HX.out]; exact this
      case measure => (simp [intOf] <;> omega)
    · obtain rfl : j = m := by omega
      have b0 := kn_bk_int hBK (k := j - 1) (by rw [Kn.mvd_len, HM.out]; omega); obtain ⟨b1, b2⟩ := b0; have hq' := HQ.out
      have s1 : (((j - 1 : Nat) : Int)) ≤ (j : Int) := by omega
      have s2 : (0 : Int) ≤ ((j - 1 : Nat) : Int) := by omega
      have s3 : ((j - 1 : Nat) : Int) ≤ (cap : Int) := by omega
      have s4 : ¬ cap - (j - 1) = 0 := by omega
      have s5 : ¬ cap ≤ j - 1 := by omega
      have s6 : j - (j - 1) = 1 := by omega
      have hclr := Lib.run_clear_slice (P := Tryz.prog) wr 59 3 0 (.int .i64 0) Tryz.underlying59 (fun v => by first | rfl | kernel_rfl | (simp [zeroValue]; rfl)) rfl rfl g (j - 1) 1 (cap - (j - 1)) (by omega) (fun i hi => by
        obtain rfl : i = 0 := by omega
        rw [Nat.add_zero, b1]
        rfl) (fun i hi => by
        obtain rfl : i = 0 := by omega
        rw [Nat.add_zero]
        exact b2)
      have hsc : wr.setCells g (j - 1) (List.replicate 1 (.int .i64 0)) = wr.setCell ⟨g, j - 1, none⟩ (.int .i64 0) := by first | rfl | simp [World.setCells]
      rw [hsc] at hclr
      have HCL := Lib.hid (show BK (wr.setCell ⟨g, j - 1, none⟩ (.int .i64 0)) g ((zs.eraseIdx q).map (Value.int .i64)) by
        have h1 := HM.out; have h2 := HFIN.out wr (by rw [h1]; exact hBK); rw [h1] at h2
        exact h2)
      have HG := Lib.hid (hG.set (p := g) (o := j - 1) (.inl rfl) (.int .i64 0)); clear hsc b1 b2 hBK hG; (go_wp2_with fail)
      go_ret
      exact ⟨rfl, HG.out, HCL.out⟩
end Go.Proofs.YtniagnldiegamaaGreat


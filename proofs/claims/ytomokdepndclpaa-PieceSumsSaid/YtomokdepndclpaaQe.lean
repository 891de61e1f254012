/- The reference's ends of two lists of spans. What the reference's joined does from one point to the next. -/
import Derived.Test.YtomokdepndclpaaPrput
namespace Go.Proofs.Ytomokdepndclpaa
open Go.RowKit
theorem keepCB {V W : World} {B b o : Nat} {x : Value} (hb : Below B V W) (hlt : b < B) (h : V.cell? ⟨b, o, none⟩ = some x) : W.cell? ⟨b, o, none⟩ = some x := (hb.cell (p := ⟨b, o, none⟩) hlt).trans h
theorem Pc.ends_snoc (l : List (Rat × Rat)) (s : Rat × Rat) (x : Rat) : x ∈ ends (l ++ [s]) ↔ (x ∈ ends l ∨ x = s.1) ∨ x = s.2 := by
  rw [ends_app, List.mem_append]
  show x ∈ ends l ∨ x ∈ [s.1, s.2] ↔ _
  simp [or_assoc]
theorem Pc.take_mem {L : List (Rat × Rat)} {k : Nat} {x : Rat} (h : x ∈ ends (L.take k)) : x ∈ ends L := by
  have : L = L.take k ++ L.drop k := (List.take_append_drop k L).symm
  rw [this, ends_app, List.mem_append]
  exact .inl h
set_option linter.unusedSimpArgs false in
set_option maxHeartbeats 8000000 in
set_option maxRecDepth 100000 in
theorem rends_any (A B : Option Addr) (ca cb : Nat) (La Lb : List (Rat × Rat)) (w : World) (hla : La.length ≤ 60) (hlb : Lb.length ≤ 60) (hfa : ∀ x ∈ Pc.ends La, Pc.Fit x) (hfb : ∀ x ∈ Pc.ends Lb, Pc.Fit x)
    (ha : IsS w A (La.map Pc.raw)) (hb : IsS w B (Lb.map Pc.raw)) :
    Calls Try.prog 154 #[.slice A La.length ca, .slice B Lb.length cb] w fun e w' => ∃ v l, e = .returned v ∧ Pc.Inc l ∧ (∀ x, x ∈ l ↔ x ∈ Pc.ends La ∨ x ∈ Pc.ends Lb) ∧ l.length ≤ 240 ∧ Acc w w.heap.size 30 2 v l.length (Pc.cells2 l) w' := by
  obtain ⟨bLa, oLa, hALa, hcLa⟩ := ha.cell
  have HCLa := Lib.hid hcLa
  have HALa := Lib.hid hALa
  have HFLa := Lib.hid (show ∀ k, k < La.length → Pc.Fit (Pc.sat La k).1 ∧ Pc.Fit (Pc.sat La k).2 from fun k hk => ⟨hfa _ (Pc.mem_ends1 hk).1, hfa _ (Pc.mem_ends1 hk).2⟩)
  clear hcLa hALa ha
  obtain ⟨bLb, oLb, hALb, hcLb⟩ := hb.cell
  have HCLb := Lib.hid hcLb
  have HALb := Lib.hid hALb
  have HFLb := Lib.hid (show ∀ k, k < Lb.length → Pc.Fit (Pc.sat Lb k).1 ∧ Pc.Fit (Pc.sat Lb k).2 from fun k hk => ⟨hfb _ (Pc.mem_ends1 hk).1, hfb _ (Pc.mem_ends1 hk).2⟩)
  clear hcLb hALb hb

  go_enter Try.func154, Try.ntmps154
  go_wp2_with fail
  go_loopw [5, 6] (fun v i W => ∃ (k : Nat) (v' : Value) (l : List Rat), k ≤ La.length ∧ i = .int .i64 k ∧ v = v' ∧ Pc.Inc l ∧ (∀ x, x ∈ l ↔ x ∈ Pc.ends (La.take k)) ∧ l.length ≤ 2 * k ∧ Acc w w.heap.size 30 2 v' l.length (Pc.cells2 l) W) (fun _ i _ => La.length - (intOf i).toNat)
  case atStart => exact ⟨0, _, [], Nat.zero_le _, rfl, rfl, trivial, fun x => by simp [Pc.ends], Nat.le_refl _, Below.refl _ _, Nat.le_refl _, World.ownsRow_nil _ _ _ _⟩
  case round =>
    obtain ⟨k, vx, l, hk, rfl, rfl, hin, hmem, hll, hR⟩ := hrel
    have HIN := Lib.hid hin
    have HMEM := Lib.hid hmem
    clear hin hmem
    by_cases hlt : k < La.length
    · clear HCLb HALb HFLb
      have hA' := HALa.out (by omega)
      subst hA'
      obtain ⟨s, hs⟩ : ∃ s, Pc.sat La k = s := ⟨_, rfl⟩
      have hblt : bLa < w.heap.size := lt_of_cell (HCLa.out k hlt).1
      have c0 := keepC hR.bb (HCLa.out k hlt).1
      have c1 := keepC hR.bb (HCLa.out k hlt).2.1
      have c2 := keepC hR.bb (HCLa.out k hlt).2.2.1
      have c3 := keepC hR.bb (HCLa.out k hlt).2.2.2
      have hfs := HFLa.out k hlt
      rw [hs] at c0 c1 c2 c3 hfs
      have HT := Lib.hid (show La.take (k + 1) = La.take k ++ [s] by rw [← hs]; exact Pc.take_snoc La (0, 0) hlt)
      have HFL := Lib.hid (show ∀ x ∈ l, Pc.Fit x from fun x hx => hfa x (Pc.take_mem ((HMEM.out x).1 hx)))
      have hBV := hR.hB
      have hbb := hR.bb
      have hrow := hR.row
      have i1 : (0 : Int) ≤ (k : Int) := by omega
      have i2 : (k : Int) < (La.length : Int) := by omega
      clear hR hs
      go_upto_region 5 with fail
      refine at_worldQ (fun u => Below w.heap.size w u ∧ w.heap.size ≤ u.heap.size ∧ u.ownsRow w.heap.size 30 2 u5 l.length (Pc.cells2 l) ∧ u.cell? ⟨bLa, oLa + k * 4, none⟩ = some (.int .i64 s.1.num) ∧ u.cell? ⟨bLa, oLa + k * 4 + 1, none⟩ = some (.int .i64 (s.1.den : Int)) ∧ u.cell? ⟨bLa, oLa + k * 4 + 2, none⟩ = some (.int .i64 s.2.num) ∧ u.cell? ⟨bLa, oLa + k * 4 + 3, none⟩ = some (.int .i64 (s.2.den : Int))) ⟨hbb, hBV, hrow, c0, c1, c2, c3⟩ (fun V hS => ?_)
      clear hbb hBV hrow c0 c1 c2 c3
      obtain ⟨hbb, hBV, hrow, c0, c1, c2, c3⟩ := hS
      refine wp_region_noPanic ?_
      refine wp_region_held_drew (S := (Below w.heap.size V)) (by kernel_rfl) ((Below.refl _ _).drew) (fun hHeld => ?_)
      refine at_anyH (fun u => Below w.heap.size V u ∧ u.ownsRow w.heap.size 30 2 u5 l.length (Pc.cells2 l)) ⟨hHeld, World.ownsRow.drew hrow⟩ (fun W0 hNew => ?_)
      clear hHeld hrow
      obtain ⟨hHeld, hrow⟩ := hNew
      refine wpAnyH_take (i := 0) (oi := _) (v := ?vr51) rfl (by kernel_rfl) (by kernel_rfl) (by kernel_rfl) (fun _ _ _ h => h) (Or.inl ⟨by kernel_rfl, ?hyr51⟩) hHeld ?restr51
      case hyr51 => (intro w hSw; go_simp; first | done | (with_reducible rfl))
      try simp only [Act.put, List.getElem_toArray, List.getElem_cons_succ, List.getElem_cons_zero, List.setIfInBounds_toArray, List.set_cons_zero, List.set_cons_succ]
      refine wpAnyH_take (i := 1) (oi := _) (v := ?vr52) rfl (by kernel_rfl) (by kernel_rfl) (by kernel_rfl) (fun _ _ _ h => h) (Or.inl ⟨by kernel_rfl, ?hyr52⟩) hHeld ?restr52
      case hyr52 => (intro w hSw; go_simp; first | done | (with_reducible rfl))
      try simp only [Act.put, List.getElem_toArray, List.getElem_cons_succ, List.getElem_cons_zero, List.setIfInBounds_toArray, List.set_cons_zero, List.set_cons_succ]
      refine wpAnyH_take (i := 2) (oi := _) (v := ?vr53) rfl (by kernel_rfl) (by kernel_rfl) (by kernel_rfl) (fun _ _ _ h => h) (Or.inl ⟨by kernel_rfl, ?hyr53⟩) hHeld ?restr53
      case hyr53 => (intro w hSw; go_simp; first | done | (with_reducible rfl))
      try simp only [Act.put, List.getElem_toArray, List.getElem_cons_succ, List.getElem_cons_zero, List.setIfInBounds_toArray, List.set_cons_zero, List.set_cons_succ]
      refine wpAnyH_take (i := 3) (oi := _) (v := ?vr54) rfl (by kernel_rfl) (by kernel_rfl) (by kernel_rfl) (fun _ _ _ h => h) (Or.inl ⟨by kernel_rfl, ?hyr54⟩) hHeld ?restr54
      case hyr54 => (intro w hSw; go_simp; first | done | (with_reducible rfl))
      try simp only [Act.put, List.getElem_toArray, List.getElem_cons_succ, List.getElem_cons_zero, List.setIfInBounds_toArray, List.set_cons_zero, List.set_cons_succ]
      refine wpAnyH_take (i := 4) (oi := _) (v := ?vr55) rfl (by kernel_rfl) (by kernel_rfl) (by kernel_rfl) (fun _ _ _ h => h) (Or.inl ⟨by kernel_rfl, ?hyr55⟩) hHeld ?restr55
      case hyr55 => (intro w hSw; go_simp; first | done | (with_reducible rfl))
      try simp only [Act.put, List.getElem_toArray, List.getElem_cons_succ, List.getElem_cons_zero, List.setIfInBounds_toArray, List.set_cons_zero, List.set_cons_succ]
      refine wpAnyH_take (i := 5) (oi := _) (v := ?vr56) rfl (by kernel_rfl) (by kernel_rfl) (by kernel_rfl) (fun _ _ _ h => h) (Or.inl ⟨by kernel_rfl, ?hyr56⟩) hHeld ?restr56
      case hyr56 => (intro w hSw; have kc0 := keepCB hSw hblt c0; have kc1 := keepCB hSw hblt c1; have kc2 := keepCB hSw hblt c2; have kc3 := keepCB hSw hblt c3; go_simp; first | done | (with_reducible rfl))
      try simp only [Act.put, List.getElem_toArray, List.getElem_cons_succ, List.getElem_cons_zero, List.setIfInBounds_toArray, List.set_cons_zero, List.set_cons_succ]
      refine wpAnyH_take (i := 7) (oi := _) (v := ?vr57) rfl (by kernel_rfl) (by kernel_rfl) (by kernel_rfl) (fun _ _ _ h => h) (Or.inl ⟨by kernel_rfl, ?hyr57⟩) hHeld ?restr57
      case hyr57 => (intro w hSw; go_simp; first | done | (with_reducible rfl))
      try simp only [Act.put, List.getElem_toArray, List.getElem_cons_succ, List.getElem_cons_zero, List.setIfInBounds_toArray, List.set_cons_zero, List.set_cons_succ]
      refine wpAnyH_take (i := 8) (oi := _) (v := ?vr58) rfl (by kernel_rfl) (by kernel_rfl) (by kernel_rfl) (fun _ _ _ h => h) (Or.inl ⟨by kernel_rfl, ?hyr58⟩) hHeld ?restr58
      case hyr58 => (intro w hSw; go_simp; first | done | (with_reducible rfl))
      try simp only [Act.put, List.getElem_toArray, List.getElem_cons_succ, List.getElem_cons_zero, List.setIfInBounds_toArray, List.set_cons_zero, List.set_cons_succ]
      refine wpAnyH_take (i := 9) (oi := _) (v := ?vr59) rfl (by kernel_rfl) (by kernel_rfl) (by kernel_rfl) (fun _ _ _ h => h) (Or.inl ⟨by kernel_rfl, ?hyr59⟩) hHeld ?restr59
      case hyr59 => (intro w hSw; go_simp; first | done | (with_reducible rfl))
      try simp only [Act.put, List.getElem_toArray, List.getElem_cons_succ, List.getElem_cons_zero, List.setIfInBounds_toArray, List.set_cons_zero, List.set_cons_succ]
      refine wpAnyH_take (i := 10) (oi := _) (v := ?vr510) rfl (by kernel_rfl) (by kernel_rfl) (by kernel_rfl) (fun _ _ _ h => h) (Or.inl ⟨by kernel_rfl, ?hyr510⟩) hHeld ?restr510
      case hyr510 => (intro w hSw; go_simp; first | done | (with_reducible rfl))
      try simp only [Act.put, List.getElem_toArray, List.getElem_cons_succ, List.getElem_cons_zero, List.setIfInBounds_toArray, List.set_cons_zero, List.set_cons_succ]
      refine wpAnyH_take (i := 11) (oi := _) (v := ?vr511) rfl (by kernel_rfl) (by kernel_rfl) (by kernel_rfl) (fun _ _ _ h => h) (Or.inl ⟨by kernel_rfl, ?hyr511⟩) hHeld ?restr511
      case hyr511 => (intro w hSw; have kc0 := keepCB hSw hblt c0; have kc1 := keepCB hSw hblt c1; have kc2 := keepCB hSw hblt c2; have kc3 := keepCB hSw hblt c3; go_simp; first | done | (with_reducible rfl))
      try simp only [Act.put, List.getElem_toArray, List.getElem_cons_succ, List.getElem_cons_zero, List.setIfInBounds_toArray, List.set_cons_zero, List.set_cons_succ]
      refine wpAnyH_ready (rs := [6]) (by kernel_rfl) (by simp) (AllReadyH.cons (o := _) rfl (fun K hK => ?_) AllReadyH.nil)
      go_simp
      refine (rput_any w.heap.size u5 l s.1 W0 (Nat.le_trans hBV hHeld.size) hrow HIN.out HFL.out hfs.1 (by omega)).mono ?_
      rintro e W1 ⟨v1, l1, rfl, hin1, hm1, hl1, hrow1, hb3⟩
      clear hrow
      have hrow := hrow1
      clear hrow1
      have HIN1 := Lib.hid hin1
      have HM1 := Lib.hid hm1
      clear hin1 hm1
      have HFL1 := Lib.hid (show ∀ x ∈ l1, Pc.Fit x from fun x hx => (HM1.out x).1 hx |>.elim (HFL.out x) (fun e => e ▸ hfs.1))
      go_wp2_with fail
      refine hK.out _ _ (hHeld.trans hb3) (fun hNew => ?_)
      clear hb3 hHeld hK K
      have hHeld := hNew
      clear hNew
      try simp only [Act.put, List.getElem_toArray, List.getElem_cons_succ, List.getElem_cons_zero, List.setIfInBounds_toArray, List.set_cons_zero, List.set_cons_succ]
      refine wpAnyH_ready (rs := [12]) (by kernel_rfl) (by simp) (AllReadyH.cons (o := _) rfl (fun K hK => ?_) AllReadyH.nil)
      go_simp
      refine (rput_any w.heap.size v1 l1 s.2 W1 (Nat.le_trans hBV hHeld.size) hrow HIN1.out HFL1.out hfs.2 (by omega)).mono ?_
      rintro e W2 ⟨v2, l2, rfl, hin2, hm2, hl2, hrow2, hb3⟩
      clear hrow
      have hrow := hrow2
      clear hrow2
      have HIN2 := Lib.hid hin2
      have HM2 := Lib.hid hm2
      clear hin2 hm2
      go_wp2_with fail
      refine hK.out _ _ (hHeld.trans hb3) (fun hNew => ?_)
      clear hb3 hHeld hK K
      have hHeld := hNew
      clear hNew
      try simp only [Act.put, List.getElem_toArray, List.getElem_cons_succ, List.getElem_cons_zero, List.setIfInBounds_toArray, List.set_cons_zero, List.set_cons_succ]
      refine wpAnyH_take (i := 13) (oi := _) (v := ?vr512) rfl (by kernel_rfl) (by kernel_rfl) (by kernel_rfl) (fun _ _ _ h => h) (Or.inl ⟨by kernel_rfl, ?hyr512⟩) hHeld ?restr512
      case hyr512 => (intro w hSw; go_simp; first | done | (with_reducible rfl))
      try simp only [Act.put, List.getElem_toArray, List.getElem_cons_succ, List.getElem_cons_zero, List.setIfInBounds_toArray, List.set_cons_zero, List.set_cons_succ]
      refine wpAnyH_done (by kernel_rfl) ?_ _
      refine NoPanic.normal ?_
      go_wp2_with fail
      go_roundw
      case rel =>
        refine ⟨k + 1, v2, l2, by omega, by go_num, rfl, HIN2.out, fun x => ?_, by omega, ⟨hbb.trans hHeld, Nat.le_trans hBV hHeld.size, hrow⟩⟩
        rw [HM2.out, HM1.out, HMEM.out, HT.out, Pc.ends_snoc]
        
      case measure => simp [intOf]; omega
    · obtain rfl : k = La.length := by omega
      have hmem := HMEM.out
      rw [List.take_length] at hmem
      have HMEM0 := Lib.hid hmem
      clear HMEM hmem HCLa HALa HFLa hlt hk
      go_wp2_with fail
      go_loopw [5, 7] (fun v i W => ∃ (k : Nat) (v' : Value) (l : List Rat), k ≤ Lb.length ∧ i = .int .i64 k ∧ v = v' ∧ Pc.Inc l ∧ (∀ x, x ∈ l ↔ x ∈ Pc.ends La ∨ x ∈ Pc.ends (Lb.take k)) ∧ l.length ≤ 120 + 2 * k ∧ Acc w w.heap.size 30 2 v' l.length (Pc.cells2 l) W) (fun _ i _ => Lb.length - (intOf i).toNat)
      case atStart => exact ⟨0, _, l, Nat.zero_le _, rfl, rfl, HIN.out, fun x => by rw [HMEM0.out]; simp [Pc.ends], by omega, hR⟩
      case round =>
        clear HIN HMEM0 hR hll
        obtain ⟨k, vx, l, hk, rfl, rfl, hin, hmem, hll, hR⟩ := hrel
        have HIN := Lib.hid hin
        have HMEM := Lib.hid hmem
        clear hin hmem
        by_cases hlt : k < Lb.length
        ·
          have hA' := HALb.out (by omega)
          subst hA'
          obtain ⟨s, hs⟩ : ∃ s, Pc.sat Lb k = s := ⟨_, rfl⟩
          have hblt : bLb < w.heap.size := lt_of_cell (HCLb.out k hlt).1
          have c0 := keepC hR.bb (HCLb.out k hlt).1
          have c1 := keepC hR.bb (HCLb.out k hlt).2.1
          have c2 := keepC hR.bb (HCLb.out k hlt).2.2.1
          have c3 := keepC hR.bb (HCLb.out k hlt).2.2.2
          have hfs := HFLb.out k hlt
          rw [hs] at c0 c1 c2 c3 hfs
          have HT := Lib.hid (show Lb.take (k + 1) = Lb.take k ++ [s] by rw [← hs]; exact Pc.take_snoc Lb (0, 0) hlt)
          have HFL := Lib.hid (show ∀ x ∈ l, Pc.Fit x from fun x hx => ((HMEM.out x).1 hx).elim (hfa x) (fun h => hfb x (Pc.take_mem h)))
          have hBV := hR.hB
          have hbb := hR.bb
          have hrow := hR.row
          have i1 : (0 : Int) ≤ (k : Int) := by omega
          have i2 : (k : Int) < (Lb.length : Int) := by omega
          clear hR hs
          go_upto_region 9 with fail
          refine at_worldQ (fun u => Below w.heap.size w u ∧ w.heap.size ≤ u.heap.size ∧ u.ownsRow w.heap.size 30 2 u5 l.length (Pc.cells2 l) ∧ u.cell? ⟨bLb, oLb + k * 4, none⟩ = some (.int .i64 s.1.num) ∧ u.cell? ⟨bLb, oLb + k * 4 + 1, none⟩ = some (.int .i64 (s.1.den : Int)) ∧ u.cell? ⟨bLb, oLb + k * 4 + 2, none⟩ = some (.int .i64 s.2.num) ∧ u.cell? ⟨bLb, oLb + k * 4 + 3, none⟩ = some (.int .i64 (s.2.den : Int))) ⟨hbb, hBV, hrow, c0, c1, c2, c3⟩ (fun V hS => ?_)
          clear hbb hBV hrow c0 c1 c2 c3
          obtain ⟨hbb, hBV, hrow, c0, c1, c2, c3⟩ := hS
          refine wp_region_noPanic ?_
          refine wp_region_held_drew (S := (Below w.heap.size V)) (by kernel_rfl) ((Below.refl _ _).drew) (fun hHeld => ?_)
          refine at_anyH (fun u => Below w.heap.size V u ∧ u.ownsRow w.heap.size 30 2 u5 l.length (Pc.cells2 l)) ⟨hHeld, World.ownsRow.drew hrow⟩ (fun W0 hNew => ?_)
          clear hHeld hrow
          obtain ⟨hHeld, hrow⟩ := hNew
          refine wpAnyH_take (i := 0) (oi := _) (v := ?vr91) rfl (by kernel_rfl) (by kernel_rfl) (by kernel_rfl) (fun _ _ _ h => h) (Or.inl ⟨by kernel_rfl, ?hyr91⟩) hHeld ?restr91
          case hyr91 => (intro w hSw; go_simp; first | done | (with_reducible rfl))
          try simp only [Act.put, List.getElem_toArray, List.getElem_cons_succ, List.getElem_cons_zero, List.setIfInBounds_toArray, List.set_cons_zero, List.set_cons_succ]
          refine wpAnyH_take (i := 1) (oi := _) (v := ?vr92) rfl (by kernel_rfl) (by kernel_rfl) (by kernel_rfl) (fun _ _ _ h => h) (Or.inl ⟨by kernel_rfl, ?hyr92⟩) hHeld ?restr92
          case hyr92 => (intro w hSw; go_simp; first | done | (with_reducible rfl))
          try simp only [Act.put, List.getElem_toArray, List.getElem_cons_succ, List.getElem_cons_zero, List.setIfInBounds_toArray, List.set_cons_zero, List.set_cons_succ]
          refine wpAnyH_take (i := 2) (oi := _) (v := ?vr93) rfl (by kernel_rfl) (by kernel_rfl) (by kernel_rfl) (fun _ _ _ h => h) (Or.inl ⟨by kernel_rfl, ?hyr93⟩) hHeld ?restr93
          case hyr93 => (intro w hSw; go_simp; first | done | (with_reducible rfl))
          try simp only [Act.put, List.getElem_toArray, List.getElem_cons_succ, List.getElem_cons_zero, List.setIfInBounds_toArray, List.set_cons_zero, List.set_cons_succ]
          refine wpAnyH_take (i := 3) (oi := _) (v := ?vr94) rfl (by kernel_rfl) (by kernel_rfl) (by kernel_rfl) (fun _ _ _ h => h) (Or.inl ⟨by kernel_rfl, ?hyr94⟩) hHeld ?restr94
          case hyr94 => (intro w hSw; go_simp; first | done | (with_reducible rfl))
          try simp only [Act.put, List.getElem_toArray, List.getElem_cons_succ, List.getElem_cons_zero, List.setIfInBounds_toArray, List.set_cons_zero, List.set_cons_succ]
          refine wpAnyH_take (i := 4) (oi := _) (v := ?vr95) rfl (by kernel_rfl) (by kernel_rfl) (by kernel_rfl) (fun _ _ _ h => h) (Or.inl ⟨by kernel_rfl, ?hyr95⟩) hHeld ?restr95
          case hyr95 => (intro w hSw; go_simp; first | done | (with_reducible rfl))
          try simp only [Act.put, List.getElem_toArray, List.getElem_cons_succ, List.getElem_cons_zero, List.setIfInBounds_toArray, List.set_cons_zero, List.set_cons_succ]
          refine wpAnyH_take (i := 5) (oi := _) (v := ?vr96) rfl (by kernel_rfl) (by kernel_rfl) (by kernel_rfl) (fun _ _ _ h => h) (Or.inl ⟨by kernel_rfl, ?hyr96⟩) hHeld ?restr96
          case hyr96 => (intro w hSw; have kc0 := keepCB hSw hblt c0; have kc1 := keepCB hSw hblt c1; have kc2 := keepCB hSw hblt c2; have kc3 := keepCB hSw hblt c3; go_simp; first | done | (with_reducible rfl))
          try simp only [Act.put, List.getElem_toArray, List.getElem_cons_succ, List.getElem_cons_zero, List.setIfInBounds_toArray, List.set_cons_zero, List.set_cons_succ]
          refine wpAnyH_take (i := 7) (oi := _) (v := ?vr97) rfl (by kernel_rfl) (by kernel_rfl) (by kernel_rfl) (fun _ _ _ h => h) (Or.inl ⟨by kernel_rfl, ?hyr97⟩) hHeld ?restr97
          case hyr97 => (intro w hSw; go_simp; first | done | (with_reducible rfl))
          try simp only [Act.put, List.getElem_toArray, List.getElem_cons_succ, List.getElem_cons_zero, List.setIfInBounds_toArray, List.set_cons_zero, List.set_cons_succ]
          refine wpAnyH_take (i := 8) (oi := _) (v := ?vr98) rfl (by kernel_rfl) (by kernel_rfl) (by kernel_rfl) (fun _ _ _ h => h) (Or.inl ⟨by kernel_rfl, ?hyr98⟩) hHeld ?restr98
          case hyr98 => (intro w hSw; go_simp; first | done | (with_reducible rfl))
          try simp only [Act.put, List.getElem_toArray, List.getElem_cons_succ, List.getElem_cons_zero, List.setIfInBounds_toArray, List.set_cons_zero, List.set_cons_succ]
          refine wpAnyH_take (i := 9) (oi := _) (v := ?vr99) rfl (by kernel_rfl) (by kernel_rfl) (by kernel_rfl) (fun _ _ _ h => h) (Or.inl ⟨by kernel_rfl, ?hyr99⟩) hHeld ?restr99
          case hyr99 => (intro w hSw; go_simp; first | done | (with_reducible rfl))
          try simp only [Act.put, List.getElem_toArray, List.getElem_cons_succ, List.getElem_cons_zero, List.setIfInBounds_toArray, List.set_cons_zero, List.set_cons_succ]
          refine wpAnyH_take (i := 10) (oi := _) (v := ?vr910) rfl (by kernel_rfl) (by kernel_rfl) (by kernel_rfl) (fun _ _ _ h => h) (Or.inl ⟨by kernel_rfl, ?hyr910⟩) hHeld ?restr910
          case hyr910 => (intro w hSw; go_simp; first | done | (with_reducible rfl))
          try simp only [Act.put, List.getElem_toArray, List.getElem_cons_succ, List.getElem_cons_zero, List.setIfInBounds_toArray, List.set_cons_zero, List.set_cons_succ]
          refine wpAnyH_take (i := 11) (oi := _) (v := ?vr911) rfl (by kernel_rfl) (by kernel_rfl) (by kernel_rfl) (fun _ _ _ h => h) (Or.inl ⟨by kernel_rfl, ?hyr911⟩) hHeld ?restr911
          case hyr911 => (intro w hSw; have kc0 := keepCB hSw hblt c0; have kc1 := keepCB hSw hblt c1; have kc2 := keepCB hSw hblt c2; have kc3 := keepCB hSw hblt c3; go_simp; first | done | (with_reducible rfl))
          try simp only [Act.put, List.getElem_toArray, List.getElem_cons_succ, List.getElem_cons_zero, List.setIfInBounds_toArray, List.set_cons_zero, List.set_cons_succ]
          refine wpAnyH_ready (rs := [6]) (by kernel_rfl) (by simp) (AllReadyH.cons (o := _) rfl (fun K hK => ?_) AllReadyH.nil)
          go_simp
          refine (rput_any w.heap.size u5 l s.1 W0 (Nat.le_trans hBV hHeld.size) hrow HIN.out HFL.out hfs.1 (by omega)).mono ?_
          rintro e W1 ⟨v1, l1, rfl, hin1, hm1, hl1, hrow1, hb3⟩
          clear hrow
          have hrow := hrow1
          clear hrow1
          have HIN1 := Lib.hid hin1
          have HM1 := Lib.hid hm1
          clear hin1 hm1
          have HFL1 := Lib.hid (show ∀ x ∈ l1, Pc.Fit x from fun x hx => (HM1.out x).1 hx |>.elim (HFL.out x) (fun e => e ▸ hfs.1))
          go_wp2_with fail
          refine hK.out _ _ (hHeld.trans hb3) (fun hNew => ?_)
          clear hb3 hHeld hK K
          have hHeld := hNew
          clear hNew
          try simp only [Act.put, List.getElem_toArray, List.getElem_cons_succ, List.getElem_cons_zero, List.setIfInBounds_toArray, List.set_cons_zero, List.set_cons_succ]
          refine wpAnyH_ready (rs := [12]) (by kernel_rfl) (by simp) (AllReadyH.cons (o := _) rfl (fun K hK => ?_) AllReadyH.nil)
          go_simp
          refine (rput_any w.heap.size v1 l1 s.2 W1 (Nat.le_trans hBV hHeld.size) hrow HIN1.out HFL1.out hfs.2 (by omega)).mono ?_
          rintro e W2 ⟨v2, l2, rfl, hin2, hm2, hl2, hrow2, hb3⟩
          clear hrow
          have hrow := hrow2
          clear hrow2
          have HIN2 := Lib.hid hin2
          have HM2 := Lib.hid hm2
          clear hin2 hm2
          go_wp2_with fail
          refine hK.out _ _ (hHeld.trans hb3) (fun hNew => ?_)
          clear hb3 hHeld hK K
          have hHeld := hNew
          clear hNew
          try simp only [Act.put, List.getElem_toArray, List.getElem_cons_succ, List.getElem_cons_zero, List.setIfInBounds_toArray, List.set_cons_zero, List.set_cons_succ]
          refine wpAnyH_take (i := 13) (oi := _) (v := ?vr912) rfl (by kernel_rfl) (by kernel_rfl) (by kernel_rfl) (fun _ _ _ h => h) (Or.inl ⟨by kernel_rfl, ?hyr912⟩) hHeld ?restr912
          case hyr912 => (intro w hSw; go_simp; first | done | (with_reducible rfl))
          try simp only [Act.put, List.getElem_toArray, List.getElem_cons_succ, List.getElem_cons_zero, List.setIfInBounds_toArray, List.set_cons_zero, List.set_cons_succ]
          refine wpAnyH_done (by kernel_rfl) ?_ _
          refine NoPanic.normal ?_
          go_wp2_with fail
          go_roundw
          case rel =>
            refine ⟨k + 1, v2, l2, by omega, by go_num, rfl, HIN2.out, fun x => ?_, by omega, ⟨hbb.trans hHeld, Nat.le_trans hBV hHeld.size, hrow⟩⟩
            rw [HM2.out, HM1.out, HMEM.out, HT.out, Pc.ends_snoc]
            simp only [or_assoc]
          case measure => simp [intOf]; omega
        · obtain rfl : k = Lb.length := by omega
          have hmem := HMEM.out
          rw [List.take_length] at hmem
          have HMEM0 := Lib.hid hmem
          clear HMEM hmem HCLb HALb HFLb hlt
          go_wp2_with fail
          go_ret
          first
            | exact ⟨_, rfl, l, HIN.out, HMEM0.out, by omega, hR⟩
            | exact ⟨_, l, rfl, HIN.out, HMEM0.out, by omega, hR⟩
end Go.Proofs.Ytomokdepndclpaa
namespace Go.Proofs.Ytomokdepndclpaa
open Go.RowKit
namespace Pc
theorem drop_two {S : List Rat} {k : Nat} (h : k + 1 < S.length) : S.drop k = qat S k :: qat S (k + 1) :: S.drop (k + 2) := by
  rw [List.drop_eq_getElem_cons (by omega), List.drop_eq_getElem_cons h, qat_lt (by omega), qat_lt h]
theorem rn_end {t : Rat → Bool} {S : List Rat} {out : List (Rat × Rat)} {k : Nat} (h : S.length ≤ k + 1) : rn t (S.drop k) out = out := by
  have hl : (S.drop k).length ≤ 1 := by rw [List.length_drop]; omega
  match S.drop k, hl with
  | [], _ => rfl
  | [_], _ => rfl
theorem rn_step {t : Rat → Bool} {S : List Rat} {out : List (Rat × Rat)} {k : Nat} (h : k + 1 < S.length) : rn t (S.drop k) out = rn t (S.drop (k + 1)) (put1 (t (qat S k)) (qat S k) (qat S (k + 1)) out) := by
  rw [drop_two h, rn]
  congr 1
  rw [List.drop_eq_getElem_cons h, qat_lt h]
theorem nil_or_snoc (l : List (Rat × Rat)) : l = [] ∨ ∃ init s z, l = init ++ [(s, z)] := by
  rcases List.eq_nil_or_concat l with h | ⟨i, ⟨s, z⟩, h⟩
  · exact .inl h
  · exact .inr ⟨i, s, z, by rw [h, List.concat_eq_append]⟩
theorem put1_not (p q : Rat) (out : List (Rat × Rat)) : put1 false p q out = out := rfl
theorem put1_nil (p q : Rat) : put1 true p q [] = [(p, q)] := rfl
theorem put1_on (p q s : Rat) (init : List (Rat × Rat)) : put1 true p q (init ++ [(s, p)]) = init ++ [(s, q)] := by simp [put1]
theorem put1_new {p q s z : Rat} {init : List (Rat × Rat)} (h : z ≠ p) : put1 true p q (init ++ [(s, z)]) = init ++ [(s, z)] ++ [(p, q)] := by simp [put1, h]
theorem cells4_last : ∀ (init : List (Rat × Rat)) (s z q : Rat), cells4 (init ++ [(s, q)]) = ((cells4 (init ++ [(s, z)])).set (init.length * 4 + 2) (.int .i64 q.num)).set (init.length * 4 + 3) (.int .i64 (q.den : Int))
  | [], _, _, _ => rfl
  | c :: init, s, z, q => by
    have ih := cells4_last init s z q
    have e : ∀ (x : Rat × Rat) (l : List (Rat × Rat)), cells4 (x :: l) = .int .i64 x.1.num :: .int .i64 (x.1.den : Int) :: .int .i64 x.2.num :: .int .i64 (x.2.den : Int) :: cells4 l := fun _ _ => rfl
    rw [List.cons_append, List.cons_append, e, e, ih, List.length_cons, show (init.length + 1) * 4 + 2 = (init.length * 4 + 2) + 1 + 1 + 1 + 1 by omega, show (init.length + 1) * 4 + 3 = (init.length * 4 + 3) + 1 + 1 + 1 + 1 by omega]
    simp only [List.set_cons_succ]
theorem cells4_to : ∀ (init : List (Rat × Rat)) (s z : Rat), (cells4 (init ++ [(s, z)]))[init.length * 4 + 2]? = some (.int .i64 z.num) ∧ (cells4 (init ++ [(s, z)]))[init.length * 4 + 3]? = some (.int .i64 (z.den : Int))
  | [], _, _ => ⟨rfl, rfl⟩
  | c :: init, s, z => by
    have ih := cells4_to init s z
    have e : ∀ (x : Rat × Rat) (l : List (Rat × Rat)), cells4 (x :: l) = .int .i64 x.1.num :: .int .i64 (x.1.den : Int) :: .int .i64 x.2.num :: .int .i64 (x.2.den : Int) :: cells4 l := fun _ _ => rfl
    rw [List.cons_append, e, List.length_cons, show (init.length + 1) * 4 + 2 = (init.length * 4 + 2) + 1 + 1 + 1 + 1 by omega, show (init.length + 1) * 4 + 3 = (init.length * 4 + 3) + 1 + 1 + 1 + 1 by omega]
    simp only [List.getElem?_cons_succ]
    exact ih
end Pc
theorem Acc.rebase {w V W : World} {e : TypeId} {sz n : Nat} {v : Value} {cs : List Value} (hb : Below w.heap.size w V) (h : Acc V V.heap.size e sz v n cs W) : Acc w w.heap.size e sz v n cs W :=
  ⟨hb.trans (h.bb.mono hb.size), Nat.le_trans hb.size h.hB, World.ownsRow.mono h.row hb.size⟩
theorem Acc.lastTo {w V : World} {B g n cap : Nat} {e : TypeId} {init : List (Rat × Rat)} {s z : Rat} (h : Acc w B e 4 (.slice (some ⟨g, 0, none⟩) n cap) n (Pc.cells4 (init ++ [(s, z)])) V) (q : Rat) :
    Acc w B e 4 (.slice (some ⟨g, 0, none⟩) n cap) n (Pc.cells4 (init ++ [(s, q)])) ((V.setCell ⟨g, init.length * 4 + 2, none⟩ (.int .i64 q.num)).setCell ⟨g, init.length * 4 + 3, none⟩ (.int .i64 (q.den : Int))) :=
  ⟨below_st (below_st h.bb (World.ownsRow.lt h.row g rfl).1 _) (World.ownsRow.lt h.row g rfl).1 _, by rw [World.size_setCell, World.size_setCell]; exact h.hB, by
    rw [Pc.cells4_last init s z q]
    exact (World.ownsRow.stored (World.ownsRow.stored h.row _ _).1 _ _).1⟩
end Go.Proofs.Ytomokdepndclpaa

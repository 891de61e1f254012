/- The reference's joined: both. -/
import Derived.Test.YtomokdepndclpaaQe
import Derived.Deep.RegionLaw
namespace Go.Proofs.Ytomokdepndclpaa
open Go.RowKit
set_option linter.unusedSimpArgs false in
set_option linter.unusedVariables false in
set_option maxHeartbeats 16000000 in
set_option maxRecDepth 100000 in
theorem rjoined1_any (A B : Option Addr) (ca cb : Nat) (La Lb : List (Rat × Rat)) (w : World) (gA : Pc.Good La) (gB : Pc.Good Lb) (ha : IsS w A (La.map Pc.raw)) (hb : IsS w B (Lb.map Pc.raw)) :
    Calls Try.prog 138 #[.slice A La.length ca, .slice B Lb.length cb, .int .i64 1] w fun e w' => ∃ v, e = .returned v ∧ Acc w w.heap.size 51 4 v (Pc.pairs (Pc.swp (fun x y => x && y) (Pc.ends La) (Pc.ends Lb) false false false)).length (Pc.cells4 (Pc.pairs (Pc.swp (fun x y => x && y) (Pc.ends La) (Pc.ends Lb) false false false))) w' := by
  have EN := Lib.hid (rends_any A B ca cb La Lb w gA.len gB.len gA.fit gB.fit ha hb)
  have RA0 := fun (r : Rat) (hr : Pc.Fit r) (v : World) (hv : Below w.heap.size w v) => rin_any A ca La r v (by have := gA.len; omega) gA.fit hr (ha.keep hv)
  have RB0 := fun (r : Rat) (hr : Pc.Fit r) (v : World) (hv : Below w.heap.size w v) => rin_any B cb Lb r v (by have := gB.len; omega) gB.fit hr (hb.keep hv)
  have RA0 := Lib.hid RA0
  have RB0 := Lib.hid RB0
  have SS := Lib.hid (fun S => Pc.sets_same (fun x y => x && y) rfl La Lb gA.inc gB.inc S)
  have GF := Lib.hid (show ∀ x, x ∈ Pc.ends La ∨ x ∈ Pc.ends Lb → Pc.Fit x from fun x h => h.elim (gA.fit x) (gB.fit x))
  generalize hR0 : Pc.pairs (Pc.swp (fun x y => x && y) (Pc.ends La) (Pc.ends Lb) false false false) = R at *
  clear gA gB ha hb hR0
  obtain ⟨i0, hi0, hz0, hz1, hz2⟩ := info_parts spanInfo
  have HI := Lib.hid hi0
  have HI2 := Lib.hid hz0
  have HI3 := Lib.hid hz1
  have HI4 := Lib.hid hz2
  clear hi0 hz0 hz1 hz2
  have h1 : ((1 : Int) == 1) = true := rfl
  have h2 : ((1 : Int) == 2) = false := rfl
  go_enter Try.func138, Try.ntmps138
  go_wp2_with fail
  refine EN.out.mono ?_
  rintro e w1 ⟨pv, S, rfl, hinS, hmS, hlS, hAcc⟩
  have HRN0 := Lib.hid (SS.out S hinS hmS)
  have HFS := Lib.hid (show ∀ k, k < S.length → Pc.Fit (Pc.qat S k) from fun k hk => by rw [Pc.qat_lt hk]; exact GF.out _ ((hmS _).1 (List.getElem_mem hk)))
  obtain ⟨P, cp, rfl⟩ := row_form hAcc.row
  have hQ := isQ_row hAcc.row rfl
  have hbw := hAcc.bb
  clear EN SS GF hinS hmS hAcc
  obtain ⟨bp, op, hP, hc⟩ : ∃ b off, (0 < S.length → P = some ⟨b, off, none⟩) ∧ ∀ i, i < S.length → w1.cell? ⟨b, off + i * 2, none⟩ = some (.int .i64 (Pc.qat S i).num) ∧ w1.cell? ⟨b, off + i * 2 + 1, none⟩ = some (.int .i64 ((Pc.qat S i).den : Int)) := by
    by_cases h0 : 0 < S.length
    · obtain ⟨b, off, e, hc⟩ := hQ h0
      exact ⟨b, off, fun _ => e, hc⟩
    · exact ⟨0, 0, fun k => absurd k h0, fun i hi => absurd hi (by omega)⟩
  have HC := Lib.hid hc
  have HP := Lib.hid hP
  clear hQ hc hP
  obtain ⟨t, ht⟩ : ∃ t : Rat → Bool, (fun p => (fun x y => x && y) (Pc.inn La p) (Pc.inn Lb p)) = t := ⟨_, rfl⟩
  have htp := Lib.hid (fun p => congrFun ht p)
  rw [ht] at HRN0
  clear ht
  go_wp2_with fail
  go_loopw [8, 9, 10, 11, 12] (fun v i _ _ _ W => ∃ (k : Nat) (out : List (Rat × Rat)), (k ≤ S.length ∧ k ≤ 240) ∧ i = .int .i64 k ∧ Pc.rn t (S.drop k) out = R ∧ out.length ≤ k ∧ Acc w1 w1.heap.size 51 4 v out.length (Pc.cells4 out) W) (fun _ i _ _ _ _ => S.length - (intOf i).toNat)
  case atStart => exact ⟨0, [], ⟨Nat.zero_le _, Nat.zero_le _⟩, rfl, HRN0.out, Nat.le_refl _, Below.refl _ _, Nat.le_refl _, World.ownsRow_nil _ _ _ _⟩
  case round =>
    clear HRN0
    obtain ⟨k, out, ⟨hk, hk2⟩, rfl, hrn, hol, hR⟩ := hrel
    have HRN := Lib.hid hrn
    clear hrn
    by_cases hlt : k + 1 < S.length
    · have hP' := HP.out (by omega)
      subst hP'
      have hst := Pc.rn_step (t := t) (out := out) hlt
      obtain ⟨p, hp⟩ : ∃ p, Pc.qat S k = p := ⟨_, rfl⟩
      obtain ⟨q, hq⟩ : ∃ q, Pc.qat S (k + 1) = q := ⟨_, rfl⟩
      have c0 := keepC hR.bb (HC.out k (by omega)).1
      have c1 := keepC hR.bb (HC.out k (by omega)).2
      have c2 := keepC hR.bb (HC.out (k + 1) hlt).1
      have c3 := keepC hR.bb (HC.out (k + 1) hlt).2
      have hfp := HFS.out k (by omega)
      rw [hp] at c0 c1 hst hfp
      rw [hq] at c2 c3 hst
      have RA := Lib.hid (fun v hv => RA0.out p hfp v hv)
      have RB := Lib.hid (fun v hv => RB0.out p hfp v hv)
      have i1 : IntKind.i64.wrap ((k : Int) + 1) = (k : Int) + 1 := IntWalk.i64_in _ (by omega)
      have i2 : decide ((k : Int) + 1 < (S.length : Int)) = true := decide_eq_true (by omega)
      have i3 : (0 : Int) ≤ (k : Int) := by omega
      have i4 : (k : Int) < (S.length : Int) := by omega
      have i5 : (0 : Int) ≤ (k : Int) + 1 := by omega
      have i6 : (k : Int) + 1 < (S.length : Int) := by omega
      have i7 : ((k : Int) + 1).toNat = k + 1 := by omega
      rw [← htp.out p] at hst
      clear hp hq hfp
      go_upto_region 6 with fail
      go_cut [10, 11] (fun x y v => x = .bool (Pc.inn La p) ∧ y = .bool (Pc.inn Lb p) ∧ Below wr.heap.size wr v)
      case first =>
        have hR0 := hR
        refine at_worldQ (fun v => (∀ u, Below v.heap.size v u → Below w1.heap.size w1 u) ∧ v = wr ∧ v.cell? ⟨bp, op + k * 2, none⟩ = some (.int .i64 p.num) ∧ v.cell? ⟨bp, op + k * 2 + 1, none⟩ = some (.int .i64 (p.den : Int))) ⟨fun u hu => hR.bb.trans (hu.mono hR.hB), rfl, c0, c1⟩ (fun V6 hS => ?_)
        obtain ⟨hrf, hVw, c0, c1⟩ := hS
        subst hVw
        refine wp_region_held_drew (S := (Below V6.heap.size V6)) (by kernel_rfl) ((Below.refl _ _).drew) (fun hHeld => ?_)
        refine at_anyH (Below V6.heap.size V6) hHeld (fun ws0 hNew => ?_)
        clear hHeld
        have hHeld := hNew
        clear hNew
        refine wpAnyH_take (i := 0) (oi := _) (v := ?vs1) rfl (by kernel_rfl) (by kernel_rfl) (by kernel_rfl) (fun _ _ _ h => h) (Or.inl ⟨by kernel_rfl, ?hys1⟩) hHeld ?rests1
        case hys1 => (intro w hSw; go_simp; first | done | (with_reducible rfl))
        try simp only [Act.put, List.getElem_toArray, List.getElem_cons_succ, List.getElem_cons_zero, List.setIfInBounds_toArray, List.set_cons_zero, List.set_cons_succ]
        refine wpAnyH_take (i := 1) (oi := _) (v := ?vs2) rfl (by kernel_rfl) (by kernel_rfl) (by kernel_rfl) (fun _ _ _ h => h) (Or.inl ⟨by kernel_rfl, ?hys2⟩) hHeld ?rests2
        case hys2 => (intro w hSw; go_simp; first | done | (with_reducible rfl))
        try simp only [Act.put, List.getElem_toArray, List.getElem_cons_succ, List.getElem_cons_zero, List.setIfInBounds_toArray, List.set_cons_zero, List.set_cons_succ]
        refine wpAnyH_take (i := 2) (oi := _) (v := ?vs3) rfl (by kernel_rfl) (by kernel_rfl) (by kernel_rfl) (fun _ _ _ h => h) (Or.inl ⟨by kernel_rfl, ?hys3⟩) hHeld ?rests3
        case hys3 => (intro w hSw; go_simp; first | done | (with_reducible rfl))
        try simp only [Act.put, List.getElem_toArray, List.getElem_cons_succ, List.getElem_cons_zero, List.setIfInBounds_toArray, List.set_cons_zero, List.set_cons_succ]
        refine wpAnyH_take (i := 3) (oi := _) (v := ?vs4) rfl (by kernel_rfl) (by kernel_rfl) (by kernel_rfl) (fun _ _ _ h => h) (Or.inl ⟨by kernel_rfl, ?hys4⟩) hHeld ?rests4
        case hys4 => (intro w hSw; go_simp; first | done | (with_reducible rfl))
        try simp only [Act.put, List.getElem_toArray, List.getElem_cons_succ, List.getElem_cons_zero, List.setIfInBounds_toArray, List.set_cons_zero, List.set_cons_succ]
        refine wpAnyH_take (i := 4) (oi := _) (v := ?vs5) rfl (by kernel_rfl) (by kernel_rfl) (by kernel_rfl) (fun _ _ _ h => h) (Or.inl ⟨by kernel_rfl, ?hys5⟩) hHeld ?rests5
        case hys5 => (intro w hSw; have kc0 := keepC hSw c0; have kc1 := keepC hSw c1; go_simp; first | done | (with_reducible rfl))
        try simp only [Act.put, List.getElem_toArray, List.getElem_cons_succ, List.getElem_cons_zero, List.setIfInBounds_toArray, List.set_cons_zero, List.set_cons_succ]
        refine wpAnyH_take (i := 6) (oi := _) (v := ?vs6) rfl (by kernel_rfl) (by kernel_rfl) (by kernel_rfl) (fun _ _ _ h => h) (Or.inl ⟨by kernel_rfl, ?hys6⟩) hHeld ?rests6
        case hys6 => (intro w hSw; go_simp; first | done | (with_reducible rfl))
        try simp only [Act.put, List.getElem_toArray, List.getElem_cons_succ, List.getElem_cons_zero, List.setIfInBounds_toArray, List.set_cons_zero, List.set_cons_succ]
        refine wpAnyH_take (i := 7) (oi := _) (v := ?vs7) rfl (by kernel_rfl) (by kernel_rfl) (by kernel_rfl) (fun _ _ _ h => h) (Or.inl ⟨by kernel_rfl, ?hys7⟩) hHeld ?rests7
        case hys7 => (intro w hSw; go_simp; first | done | (with_reducible rfl))
        try simp only [Act.put, List.getElem_toArray, List.getElem_cons_succ, List.getElem_cons_zero, List.setIfInBounds_toArray, List.set_cons_zero, List.set_cons_succ]
        refine wpAnyH_take (i := 8) (oi := _) (v := ?vs8) rfl (by kernel_rfl) (by kernel_rfl) (by kernel_rfl) (fun _ _ _ h => h) (Or.inl ⟨by kernel_rfl, ?hys8⟩) hHeld ?rests8
        case hys8 => (intro w hSw; go_simp; first | done | (with_reducible rfl))
        try simp only [Act.put, List.getElem_toArray, List.getElem_cons_succ, List.getElem_cons_zero, List.setIfInBounds_toArray, List.set_cons_zero, List.set_cons_succ]
        refine wpAnyH_take (i := 9) (oi := _) (v := ?vs9) rfl (by kernel_rfl) (by kernel_rfl) (by kernel_rfl) (fun _ _ _ h => h) (Or.inl ⟨by kernel_rfl, ?hys9⟩) hHeld ?rests9
        case hys9 => (intro w hSw; go_simp; first | done | (with_reducible rfl))
        try simp only [Act.put, List.getElem_toArray, List.getElem_cons_succ, List.getElem_cons_zero, List.setIfInBounds_toArray, List.set_cons_zero, List.set_cons_succ]
        refine wpAnyH_take (i := 10) (oi := _) (v := ?vs10) rfl (by kernel_rfl) (by kernel_rfl) (by kernel_rfl) (fun _ _ _ h => h) (Or.inl ⟨by kernel_rfl, ?hys10⟩) hHeld ?rests10
        case hys10 => (intro w hSw; have kc0 := keepC hSw c0; have kc1 := keepC hSw c1; go_simp; first | done | (with_reducible rfl))
        try simp only [Act.put, List.getElem_toArray, List.getElem_cons_succ, List.getElem_cons_zero, List.setIfInBounds_toArray, List.set_cons_zero, List.set_cons_succ]
        refine wpAnyH_ready (rs := [5]) (by kernel_rfl) (by simp) (AllReadyH.cons (o := _) rfl (fun K hK => ?_) AllReadyH.nil)
        go_simp
        refine (RA.out _ (hbw.trans ((hR.bb.trans (hHeld.mono hR.hB)).mono hbw.size))).mono ?_
        rintro e ws11 ⟨rfl, hb3⟩
        go_wp2_with fail
        refine hK.out _ _ (keepB hHeld hb3) (fun hNew => ?_)
        clear hb3
        clear hHeld hK K
        have hHeld := hNew
        clear hNew
        try simp only [Act.put, List.getElem_toArray, List.getElem_cons_succ, List.getElem_cons_zero, List.setIfInBounds_toArray, List.set_cons_zero, List.set_cons_succ]
        refine wpAnyH_ready (rs := [11]) (by kernel_rfl) (by simp) (AllReadyH.cons (o := _) rfl (fun K hK => ?_) AllReadyH.nil)
        go_simp
        refine (RB.out _ (hbw.trans ((hR.bb.trans (hHeld.mono hR.hB)).mono hbw.size))).mono ?_
        rintro e ws12 ⟨rfl, hb3⟩
        go_wp2_with fail
        refine hK.out _ _ (keepB hHeld hb3) (fun hNew => ?_)
        clear hb3
        clear hHeld hK K
        have hHeld := hNew
        clear hNew
        try simp only [Act.put, List.getElem_toArray, List.getElem_cons_succ, List.getElem_cons_zero, List.setIfInBounds_toArray, List.set_cons_zero, List.set_cons_succ]
        refine wpAnyH_take (i := 12) (oi := _) (v := ?vs13) rfl (by kernel_rfl) (by kernel_rfl) (by kernel_rfl) (fun _ _ _ h => h) (Or.inl ⟨by kernel_rfl, ?hys13⟩) hHeld ?rests13
        case hys13 => (intro w hSw; go_simp; first | done | (with_reducible rfl))
        try simp only [Act.put, List.getElem_toArray, List.getElem_cons_succ, List.getElem_cons_zero, List.setIfInBounds_toArray, List.set_cons_zero, List.set_cons_succ]
        refine wpAnyH_take (i := 13) (oi := _) (v := ?vs14) rfl (by kernel_rfl) (by kernel_rfl) (by kernel_rfl) (fun _ _ _ h => h) (Or.inl ⟨by kernel_rfl, ?hys14⟩) hHeld ?rests14
        case hys14 => (intro w hSw; go_simp; first | done | (with_reducible rfl))
        try simp only [Act.put, List.getElem_toArray, List.getElem_cons_succ, List.getElem_cons_zero, List.setIfInBounds_toArray, List.set_cons_zero, List.set_cons_succ]
        refine wpAnyH_done (by kernel_rfl) ?_ _
        go_wp2_with fail
        go_meet
        exact ⟨rfl, rfl, hHeld⟩
      case rest =>
        obtain ⟨rfl, rfl, hv⟩ := hcut
        replace hR := hR.keep hv
        replace c0 := keepC hv c0
        replace c1 := keepC hv c1
        replace c2 := keepC hv c2
        replace c3 := keepC hv c3
        clear hv RA RB
        refine at_worldK (fun u => Acc w1 w1.heap.size 51 4 u8 out.length (Pc.cells4 out) u ∧ u.cell? ⟨bp, op + k * 2, none⟩ = some (.int .i64 p.num) ∧ u.cell? ⟨bp, op + k * 2 + 1, none⟩ = some (.int .i64 (p.den : Int)) ∧ u.cell? ⟨bp, op + (k + 1) * 2, none⟩ = some (.int .i64 q.num) ∧ u.cell? ⟨bp, op + (k + 1) * 2 + 1, none⟩ = some (.int .i64 (q.den : Int))) ⟨hR, c0, c1, c2, c3⟩ (fun V7 hS => ?_)
        clear hR c0 c1 c2 c3
        obtain ⟨hR, c0, c1, c2, c3⟩ := hS
        generalize Pc.inn La p = x at *
        generalize Pc.inn Lb p = y at *
        cases x <;> cases y
        · have HST := Lib.hid (show Pc.rn t (S.drop k) out = Pc.rn t (S.drop (k + 1)) (Pc.put1 false p q out) from hst)
          clear hst
          have HSTN := Lib.hid (HST.out.trans (by rw [Pc.put1_not]))
          go_wp2_with fail
          go_roundw
          case rel => exact ⟨k + 1, out, by omega, by go_num, by rw [← HRN.out, HSTN.out], by omega, hR⟩
          case measure => simp [intOf]; omega
        · have HST := Lib.hid (show Pc.rn t (S.drop k) out = Pc.rn t (S.drop (k + 1)) (Pc.put1 false p q out) from hst)
          clear hst
          have HSTN := Lib.hid (HST.out.trans (by rw [Pc.put1_not]))
          go_wp2_with fail
          go_roundw
          case rel => exact ⟨k + 1, out, by omega, by go_num, by rw [← HRN.out, HSTN.out], by omega, hR⟩
          case measure => simp [intOf]; omega
        · have HST := Lib.hid (show Pc.rn t (S.drop k) out = Pc.rn t (S.drop (k + 1)) (Pc.put1 false p q out) from hst)
          clear hst
          have HSTN := Lib.hid (HST.out.trans (by rw [Pc.put1_not]))
          go_wp2_with fail
          go_roundw
          case rel => exact ⟨k + 1, out, by omega, by go_num, by rw [← HRN.out, HSTN.out], by omega, hR⟩
          case measure => simp [intOf]; omega
        · have HST := Lib.hid (show Pc.rn t (S.drop k) out = Pc.rn t (S.drop (k + 1)) (Pc.put1 true p q out) from hst)
          clear hst
          rcases Pc.nil_or_snoc out with rfl | ⟨init, s, z, rfl⟩
          · have e5 : decide ((0 : Int) < ((0 : Nat) : Int)) = false := rfl
            have hl0 : ([] : List (Rat × Rat)).length = 0 := rfl
            rw [hl0] at hR hol
            obtain ⟨Ao, capO, hv8⟩ := row_form hR.row
            subst hv8
            go_upto_region 13 with fail
            refine at_worldK (fun u => Acc w1 w1.heap.size 51 4 (.slice Ao 0 capO) 0 (Pc.cells4 []) u ∧ u.cell? ⟨bp, op + k * 2, none⟩ = some (.int .i64 p.num) ∧ u.cell? ⟨bp, op + k * 2 + 1, none⟩ = some (.int .i64 (p.den : Int)) ∧ u.cell? ⟨bp, op + (k + 1) * 2, none⟩ = some (.int .i64 q.num) ∧ u.cell? ⟨bp, op + (k + 1) * 2 + 1, none⟩ = some (.int .i64 (q.den : Int))) ⟨hR, c0, c1, c2, c3⟩ (fun V13 hS => ?_)
            clear hR c0 c1 c2 c3
            obtain ⟨hR, c0, c1, c2, c3⟩ := hS
            refine wp_region_noPanic ?_
            refine wp_region_held_drew (S := (Below V13.heap.size V13)) (by kernel_rfl) ((Below.refl _ _).drew) (fun hHeld => ?_)
            refine at_anyH (Below V13.heap.size V13) hHeld (fun wttn0 hNew => ?_)
            clear hHeld
            have hHeld := hNew
            clear hNew
            refine wpAnyH_take (i := 0) (oi := _) (v := ?vttn1) rfl (by kernel_rfl) (by kernel_rfl) (by kernel_rfl) (fun _ _ _ h => h) (Or.inl ⟨by kernel_rfl, ?hyttn1⟩) hHeld ?restttn1
            case hyttn1 => (intro w hSw; go_simp; first | done | (with_reducible rfl))
            try simp only [Act.put, List.getElem_toArray, List.getElem_cons_succ, List.getElem_cons_zero, List.setIfInBounds_toArray, List.set_cons_zero, List.set_cons_succ]
            refine wpAnyH_take (i := 1) (oi := _) (v := ?vttn2) rfl (by kernel_rfl) (by kernel_rfl) (by kernel_rfl) (fun _ _ _ h => h) (Or.inl ⟨by kernel_rfl, ?hyttn2⟩) hHeld ?restttn2
            case hyttn2 => (intro w hSw; go_simp; first | done | (with_reducible rfl))
            try simp only [Act.put, List.getElem_toArray, List.getElem_cons_succ, List.getElem_cons_zero, List.setIfInBounds_toArray, List.set_cons_zero, List.set_cons_succ]
            refine wpAnyH_take (i := 2) (oi := _) (v := ?vttn3) rfl (by kernel_rfl) (by kernel_rfl) (by kernel_rfl) (fun _ _ _ h => h) (Or.inl ⟨by kernel_rfl, ?hyttn3⟩) hHeld ?restttn3
            case hyttn3 => (intro w hSw; go_simp; first | done | (with_reducible rfl))
            try simp only [Act.put, List.getElem_toArray, List.getElem_cons_succ, List.getElem_cons_zero, List.setIfInBounds_toArray, List.set_cons_zero, List.set_cons_succ]
            refine wpAnyH_take (i := 3) (oi := _) (v := ?vttn4) rfl (by kernel_rfl) (by kernel_rfl) (by kernel_rfl) (fun _ _ _ h => h) (Or.inl ⟨by kernel_rfl, ?hyttn4⟩) hHeld ?restttn4
            case hyttn4 => (intro w hSw; go_simp; first | done | (with_reducible rfl))
            try simp only [Act.put, List.getElem_toArray, List.getElem_cons_succ, List.getElem_cons_zero, List.setIfInBounds_toArray, List.set_cons_zero, List.set_cons_succ]
            refine wpAnyH_take (i := 4) (oi := _) (v := undef) rfl (by kernel_rfl) (by kernel_rfl) (by kernel_rfl) (fun _ _ _ h => h) (Or.inr ⟨by kernel_rfl, rfl⟩) hHeld ?_
            try simp only [Act.put, List.getElem_toArray, List.getElem_cons_succ, List.getElem_cons_zero, List.setIfInBounds_toArray, List.set_cons_zero, List.set_cons_succ]
            refine wpAnyH_take (i := 5) (oi := _) (v := undef) rfl (by kernel_rfl) (by kernel_rfl) (by kernel_rfl) (fun _ _ _ h => h) (Or.inr ⟨by kernel_rfl, rfl⟩) hHeld ?_
            try simp only [Act.put, List.getElem_toArray, List.getElem_cons_succ, List.getElem_cons_zero, List.setIfInBounds_toArray, List.set_cons_zero, List.set_cons_succ]
            refine wpAnyH_take (i := 6) (oi := _) (v := undef) rfl (by kernel_rfl) (by kernel_rfl) (by kernel_rfl) (fun _ _ _ h => h) (Or.inr ⟨by kernel_rfl, rfl⟩) hHeld ?_
            try simp only [Act.put, List.getElem_toArray, List.getElem_cons_succ, List.getElem_cons_zero, List.setIfInBounds_toArray, List.set_cons_zero, List.set_cons_succ]
            refine wpAnyH_take (i := 7) (oi := _) (v := undef) rfl (by kernel_rfl) (by kernel_rfl) (by kernel_rfl) (fun _ _ _ h => h) (Or.inr ⟨by kernel_rfl, rfl⟩) hHeld ?_
            try simp only [Act.put, List.getElem_toArray, List.getElem_cons_succ, List.getElem_cons_zero, List.setIfInBounds_toArray, List.set_cons_zero, List.set_cons_succ]
            refine wpAnyH_take (i := 8) (oi := _) (v := undef) rfl (by kernel_rfl) (by kernel_rfl) (by kernel_rfl) (fun _ _ _ h => h) (Or.inr ⟨by kernel_rfl, rfl⟩) hHeld ?_
            try simp only [Act.put, List.getElem_toArray, List.getElem_cons_succ, List.getElem_cons_zero, List.setIfInBounds_toArray, List.set_cons_zero, List.set_cons_succ]
            refine wpAnyH_take (i := 9) (oi := _) (v := undef) rfl (by kernel_rfl) (by kernel_rfl) (by kernel_rfl) (fun _ _ _ h => h) (Or.inr ⟨by kernel_rfl, rfl⟩) hHeld ?_
            try simp only [Act.put, List.getElem_toArray, List.getElem_cons_succ, List.getElem_cons_zero, List.setIfInBounds_toArray, List.set_cons_zero, List.set_cons_succ]
            refine wpAnyH_take (i := 10) (oi := _) (v := undef) rfl (by kernel_rfl) (by kernel_rfl) (by kernel_rfl) (fun _ _ _ h => h) (Or.inr ⟨by kernel_rfl, rfl⟩) hHeld ?_
            try simp only [Act.put, List.getElem_toArray, List.getElem_cons_succ, List.getElem_cons_zero, List.setIfInBounds_toArray, List.set_cons_zero, List.set_cons_succ]
            refine wpAnyH_take (i := 11) (oi := _) (v := undef) rfl (by kernel_rfl) (by kernel_rfl) (by kernel_rfl) (fun _ _ _ h => h) (Or.inr ⟨by kernel_rfl, rfl⟩) hHeld ?_
            try simp only [Act.put, List.getElem_toArray, List.getElem_cons_succ, List.getElem_cons_zero, List.setIfInBounds_toArray, List.set_cons_zero, List.set_cons_succ]
            refine wpAnyH_take (i := 12) (oi := _) (v := undef) rfl (by kernel_rfl) (by kernel_rfl) (by kernel_rfl) (fun _ _ _ h => h) (Or.inr ⟨by kernel_rfl, rfl⟩) hHeld ?_
            try simp only [Act.put, List.getElem_toArray, List.getElem_cons_succ, List.getElem_cons_zero, List.setIfInBounds_toArray, List.set_cons_zero, List.set_cons_succ]
            refine wpAnyH_take (i := 13) (oi := _) (v := undef) rfl (by kernel_rfl) (by kernel_rfl) (by kernel_rfl) (fun _ _ _ h => h) (Or.inr ⟨by kernel_rfl, rfl⟩) hHeld ?_
            try simp only [Act.put, List.getElem_toArray, List.getElem_cons_succ, List.getElem_cons_zero, List.setIfInBounds_toArray, List.set_cons_zero, List.set_cons_succ]
            refine wpAnyH_take (i := 14) (oi := _) (v := undef) rfl (by kernel_rfl) (by kernel_rfl) (by kernel_rfl) (fun _ _ _ h => h) (Or.inr ⟨by kernel_rfl, rfl⟩) hHeld ?_
            try simp only [Act.put, List.getElem_toArray, List.getElem_cons_succ, List.getElem_cons_zero, List.setIfInBounds_toArray, List.set_cons_zero, List.set_cons_succ]
            refine wpAnyH_take (i := 15) (oi := _) (v := undef) rfl (by kernel_rfl) (by kernel_rfl) (by kernel_rfl) (fun _ _ _ h => h) (Or.inr ⟨by kernel_rfl, rfl⟩) hHeld ?_
            try simp only [Act.put, List.getElem_toArray, List.getElem_cons_succ, List.getElem_cons_zero, List.setIfInBounds_toArray, List.set_cons_zero, List.set_cons_succ]
            refine wpAnyH_take (i := 16) (oi := _) (v := ?vttn17) rfl (by kernel_rfl) (by kernel_rfl) (by kernel_rfl) (fun _ _ _ h => h) (Or.inl ⟨by kernel_rfl, ?hyttn17⟩) hHeld ?restttn17
            case hyttn17 => (intro w hSw; go_simp; first | done | (with_reducible rfl))
            try simp only [Act.put, List.getElem_toArray, List.getElem_cons_succ, List.getElem_cons_zero, List.setIfInBounds_toArray, List.set_cons_zero, List.set_cons_succ]
            refine wpAnyH_done (by kernel_rfl) ?_ _
            refine NoPanic.normal ?_
            replace hR := hR.keep hHeld
            replace c0 := keepC hHeld c0
            replace c1 := keepC hHeld c1
            replace c2 := keepC hHeld c2
            replace c3 := keepC hHeld c3
            clear hHeld
            have hB1 := hR.hB
            go_upto_region 15 with fail
            go_region_law ((refine step_append_lies _ (by rfl) _ _ _ (by rfl) w1.heap.size 51 i0 _ 4 32 Try.underlying53 HI.out HI2.out HI3.out HI4.out rfl (by omega) _ 0 (Pc.cells4 []) (by rfl) (World.ownsRow.alloc (World.ownsRow.drew hR.row) _) ⟨wttn0.heap.size, 0, none⟩ 1 1 [.int .i64 p.num, .int .i64 (p.den : Int), .int .i64 q.num, .int .i64 (q.den : Int)] (by rfl) (by rfl) (World.news_of_block (cs := #[.int .i64 p.num, .int .i64 (p.den : Int), .int .i64 q.num, .int .i64 (q.den : Int)]) (t := 51) (fr := (0, 0)) (heap_alloc_new wttn0.drew _)) (by simp [Value.oneCell']) (by omega) (by unfold maxLen; omega) (by omega) (by simp; omega) (wttn0.heap.size + 1) (by simp) ?_; intro gg cap3 w4 hown1 hgrow hat hlt4))
            all_goals
              (try go_wp2_with fail)
              have hnew := hR.app (((Below.refl _ wttn0).drew).alloc (Nat.le_refl _) _) hown1 hgrow
              go_roundw
              case rel =>
                refine ⟨k + 1, [] ++ [(p, q)], by omega, by go_num, by rw [← HRN.out, HST.out, Pc.put1_nil]; rfl, by simp only [List.length_append, List.length_cons, List.length_nil] at *; omega, ?_⟩
                rw [Pc.cells4_app, List.length_append]
                skip
                exact hnew
              case measure => simp [intOf]; omega
          · obtain ⟨m, hm⟩ : ∃ m, init.length = m := ⟨_, rfl⟩
            have hlm : (init ++ [(s, z)]).length = m + 1 := by rw [List.length_append, hm]; rfl
            have HM := Lib.hid hlm
            rw [hlm] at hR hol
            obtain ⟨g, capO, hv8, hcm, _⟩ := World.ownsRow.form hR.row (by omega)
            subst hv8
            have z0 := World.ownsRow.cellAt hR.row (m * 4 + 2) (by omega)
            have z1 := World.ownsRow.cellAt hR.row (m * 4 + 3) (by omega)
            have hto := Pc.cells4_to init s z
            rw [hm] at hto
            rw [hto.1] at z0
            rw [hto.2] at z1
            have e5 : decide ((0 : Int) < (m : Int) + 1) = true := decide_eq_true (by omega)
            have e6 : IntKind.i64.wrap ((m : Int) + 1 - 1) = (m : Int) := by rw [show (m : Int) + 1 - 1 = m by omega]; exact IntWalk.i64_in _ (by omega)
            have e7 : IntKind.i64.wrap (m : Int) = (m : Int) := IntWalk.i64_in _ (by omega)
            have e8 : (0 : Int) ≤ (m : Int) := by omega
            have e9 : (m : Int) < (m : Int) + 1 := by omega
            have HIM := Lib.hid hm
            clear hm hlm hto
            by_cases hzp : z = p
            · subst hzp
              go_upto_region 13 with fail
              refine at_worldK (fun u => Acc w1 w1.heap.size 51 4 (.slice (some ⟨g, 0, none⟩) (m + 1) capO) (m + 1) (Pc.cells4 (init ++ [(s, z)])) u ∧ u.cell? ⟨bp, op + k * 2, none⟩ = some (.int .i64 z.num) ∧ u.cell? ⟨bp, op + k * 2 + 1, none⟩ = some (.int .i64 (z.den : Int)) ∧ u.cell? ⟨bp, op + (k + 1) * 2, none⟩ = some (.int .i64 q.num) ∧ u.cell? ⟨bp, op + (k + 1) * 2 + 1, none⟩ = some (.int .i64 (q.den : Int)) ∧ u.cell? ⟨g, m * 4 + 2, none⟩ = some (.int .i64 z.num) ∧ u.cell? ⟨g, m * 4 + 3, none⟩ = some (.int .i64 (z.den : Int))) ⟨hR, c0, c1, c2, c3, z0, z1⟩ (fun V13 hS => ?_)
              clear hR c0 c1 c2 c3 z0 z1
              obtain ⟨hR, c0, c1, c2, c3, z0, z1⟩ := hS
              refine wp_region_noPanic ?_
              refine wp_region_held_drew (S := (Below V13.heap.size V13)) (by kernel_rfl) ((Below.refl _ _).drew) (fun hHeld => ?_)
              refine at_anyH (Below V13.heap.size V13) hHeld (fun wtto0 hNew => ?_)
              clear hHeld
              have hHeld := hNew
              clear hNew
              refine wpAnyH_take (i := 0) (oi := _) (v := ?vtto1) rfl (by kernel_rfl) (by kernel_rfl) (by kernel_rfl) (fun _ _ _ h => h) (Or.inl ⟨by kernel_rfl, ?hytto1⟩) hHeld ?resttto1
              case hytto1 => (intro w hSw; go_simp; first | done | (with_reducible rfl))
              try simp only [Act.put, List.getElem_toArray, List.getElem_cons_succ, List.getElem_cons_zero, List.setIfInBounds_toArray, List.set_cons_zero, List.set_cons_succ]
              refine wpAnyH_take (i := 1) (oi := _) (v := ?vtto2) rfl (by kernel_rfl) (by kernel_rfl) (by kernel_rfl) (fun _ _ _ h => h) (Or.inl ⟨by kernel_rfl, ?hytto2⟩) hHeld ?resttto2
              case hytto2 => (intro w hSw; go_simp; first | done | (with_reducible rfl))
              try simp only [Act.put, List.getElem_toArray, List.getElem_cons_succ, List.getElem_cons_zero, List.setIfInBounds_toArray, List.set_cons_zero, List.set_cons_succ]
              refine wpAnyH_take (i := 2) (oi := _) (v := ?vtto3) rfl (by kernel_rfl) (by kernel_rfl) (by kernel_rfl) (fun _ _ _ h => h) (Or.inl ⟨by kernel_rfl, ?hytto3⟩) hHeld ?resttto3
              case hytto3 => (intro w hSw; go_simp; first | done | (with_reducible rfl))
              try simp only [Act.put, List.getElem_toArray, List.getElem_cons_succ, List.getElem_cons_zero, List.setIfInBounds_toArray, List.set_cons_zero, List.set_cons_succ]
              refine wpAnyH_take (i := 3) (oi := _) (v := ?vtto4) rfl (by kernel_rfl) (by kernel_rfl) (by kernel_rfl) (fun _ _ _ h => h) (Or.inl ⟨by kernel_rfl, ?hytto4⟩) hHeld ?resttto4
              case hytto4 => (intro w hSw; go_simp; first | done | (with_reducible rfl))
              try simp only [Act.put, List.getElem_toArray, List.getElem_cons_succ, List.getElem_cons_zero, List.setIfInBounds_toArray, List.set_cons_zero, List.set_cons_succ]
              refine wpAnyH_take (i := 4) (oi := _) (v := ?vtto5) rfl (by kernel_rfl) (by kernel_rfl) (by kernel_rfl) (fun _ _ _ h => h) (Or.inl ⟨by kernel_rfl, ?hytto5⟩) hHeld ?resttto5
              case hytto5 => (intro w hSw; go_simp; first | done | (with_reducible rfl))
              try simp only [Act.put, List.getElem_toArray, List.getElem_cons_succ, List.getElem_cons_zero, List.setIfInBounds_toArray, List.set_cons_zero, List.set_cons_succ]
              refine wpAnyH_take (i := 5) (oi := _) (v := ?vtto6) rfl (by kernel_rfl) (by kernel_rfl) (by kernel_rfl) (fun _ _ _ h => h) (Or.inl ⟨by kernel_rfl, ?hytto6⟩) hHeld ?resttto6
              case hytto6 => (intro w hSw; go_simp; first | done | (with_reducible rfl))
              try simp only [Act.put, List.getElem_toArray, List.getElem_cons_succ, List.getElem_cons_zero, List.setIfInBounds_toArray, List.set_cons_zero, List.set_cons_succ]
              refine wpAnyH_take (i := 6) (oi := _) (v := ?vtto7) rfl (by kernel_rfl) (by kernel_rfl) (by kernel_rfl) (fun _ _ _ h => h) (Or.inl ⟨by kernel_rfl, ?hytto7⟩) hHeld ?resttto7
              case hytto7 => (intro w hSw; go_simp; first | done | (with_reducible rfl))
              try simp only [Act.put, List.getElem_toArray, List.getElem_cons_succ, List.getElem_cons_zero, List.setIfInBounds_toArray, List.set_cons_zero, List.set_cons_succ]
              refine wpAnyH_take (i := 7) (oi := _) (v := ?vtto8) rfl (by kernel_rfl) (by kernel_rfl) (by kernel_rfl) (fun _ _ _ h => h) (Or.inl ⟨by kernel_rfl, ?hytto8⟩) hHeld ?resttto8
              case hytto8 => (intro w hSw; go_simp; first | done | (with_reducible rfl))
              try simp only [Act.put, List.getElem_toArray, List.getElem_cons_succ, List.getElem_cons_zero, List.setIfInBounds_toArray, List.set_cons_zero, List.set_cons_succ]
              refine wpAnyH_take (i := 8) (oi := _) (v := ?vtto9) rfl (by kernel_rfl) (by kernel_rfl) (by kernel_rfl) (fun _ _ _ h => h) (Or.inl ⟨by kernel_rfl, ?hytto9⟩) hHeld ?resttto9
              case hytto9 => (intro w hSw; go_simp; first | done | (with_reducible rfl))
              try simp only [Act.put, List.getElem_toArray, List.getElem_cons_succ, List.getElem_cons_zero, List.setIfInBounds_toArray, List.set_cons_zero, List.set_cons_succ]
              refine wpAnyH_take (i := 9) (oi := _) (v := ?vtto10) rfl (by kernel_rfl) (by kernel_rfl) (by kernel_rfl) (fun _ _ _ h => h) (Or.inl ⟨by kernel_rfl, ?hytto10⟩) hHeld ?resttto10
              case hytto10 => (intro w hSw; go_simp; first | done | (with_reducible rfl))
              try simp only [Act.put, List.getElem_toArray, List.getElem_cons_succ, List.getElem_cons_zero, List.setIfInBounds_toArray, List.set_cons_zero, List.set_cons_succ]
              refine wpAnyH_take (i := 10) (oi := _) (v := ?vtto11) rfl (by kernel_rfl) (by kernel_rfl) (by kernel_rfl) (fun _ _ _ h => h) (Or.inl ⟨by kernel_rfl, ?hytto11⟩) hHeld ?resttto11
              case hytto11 => (intro w hSw; have kc0 := keepC hSw c0; have kc1 := keepC hSw c1; have kc2 := keepC hSw c2; have kc3 := keepC hSw c3; have kz0 := keepC hSw z0; have kz1 := keepC hSw z1; go_simp; first | done | (with_reducible rfl))
              try simp only [Act.put, List.getElem_toArray, List.getElem_cons_succ, List.getElem_cons_zero, List.setIfInBounds_toArray, List.set_cons_zero, List.set_cons_succ]
              refine wpAnyH_take (i := 11) (oi := _) (v := ?vtto12) rfl (by kernel_rfl) (by kernel_rfl) (by kernel_rfl) (fun _ _ _ h => h) (Or.inl ⟨by kernel_rfl, ?hytto12⟩) hHeld ?resttto12
              case hytto12 => (intro w hSw; go_simp; first | done | (with_reducible rfl))
              try simp only [Act.put, List.getElem_toArray, List.getElem_cons_succ, List.getElem_cons_zero, List.setIfInBounds_toArray, List.set_cons_zero, List.set_cons_succ]
              refine wpAnyH_take (i := 12) (oi := _) (v := ?vtto13) rfl (by kernel_rfl) (by kernel_rfl) (by kernel_rfl) (fun _ _ _ h => h) (Or.inl ⟨by kernel_rfl, ?hytto13⟩) hHeld ?resttto13
              case hytto13 => (intro w hSw; go_simp; first | done | (with_reducible rfl))
              try simp only [Act.put, List.getElem_toArray, List.getElem_cons_succ, List.getElem_cons_zero, List.setIfInBounds_toArray, List.set_cons_zero, List.set_cons_succ]
              refine wpAnyH_take (i := 13) (oi := _) (v := ?vtto14) rfl (by kernel_rfl) (by kernel_rfl) (by kernel_rfl) (fun _ _ _ h => h) (Or.inl ⟨by kernel_rfl, ?hytto14⟩) hHeld ?resttto14
              case hytto14 => (intro w hSw; go_simp; first | done | (with_reducible rfl))
              try simp only [Act.put, List.getElem_toArray, List.getElem_cons_succ, List.getElem_cons_zero, List.setIfInBounds_toArray, List.set_cons_zero, List.set_cons_succ]
              refine wpAnyH_take (i := 14) (oi := _) (v := ?vtto15) rfl (by kernel_rfl) (by kernel_rfl) (by kernel_rfl) (fun _ _ _ h => h) (Or.inl ⟨by kernel_rfl, ?hytto15⟩) hHeld ?resttto15
              case hytto15 => (intro w hSw; have kc0 := keepC hSw c0; have kc1 := keepC hSw c1; have kc2 := keepC hSw c2; have kc3 := keepC hSw c3; have kz0 := keepC hSw z0; have kz1 := keepC hSw z1; go_simp; first | done | (with_reducible rfl))
              try simp only [Act.put, List.getElem_toArray, List.getElem_cons_succ, List.getElem_cons_zero, List.setIfInBounds_toArray, List.set_cons_zero, List.set_cons_succ]
              refine wpAnyH_take (i := 15) (oi := _) (v := ?vtto16) rfl (by kernel_rfl) (by kernel_rfl) (by kernel_rfl) (fun _ _ _ h => h) (Or.inl ⟨by kernel_rfl, ?hytto16⟩) hHeld ?resttto16
              case hytto16 => (intro w hSw; go_simp; first | done | (with_reducible rfl))
              try simp only [Act.put, List.getElem_toArray, List.getElem_cons_succ, List.getElem_cons_zero, List.setIfInBounds_toArray, List.set_cons_zero, List.set_cons_succ]
              refine wpAnyH_take (i := 16) (oi := _) (v := ?vtto17) rfl (by kernel_rfl) (by kernel_rfl) (by kernel_rfl) (fun _ _ _ h => h) (Or.inl ⟨by kernel_rfl, ?hytto17⟩) hHeld ?resttto17
              case hytto17 => (intro w hSw; go_simp; first | done | (with_reducible rfl))
              try simp only [Act.put, List.getElem_toArray, List.getElem_cons_succ, List.getElem_cons_zero, List.setIfInBounds_toArray, List.set_cons_zero, List.set_cons_succ]
              refine wpAnyH_done (by kernel_rfl) ?_ _
              refine NoPanic.normal ?_
              replace hR := hR.keep hHeld
              replace c0 := keepC hHeld c0
              replace c1 := keepC hHeld c1
              replace c2 := keepC hHeld c2
              replace c3 := keepC hHeld c3
              clear hHeld z0 z1
              have z0 := World.ownsRow.cellAt hR.row (m * 4 + 2) (by omega)
              have z1 := World.ownsRow.cellAt hR.row (m * 4 + 3) (by omega)
              have hto := Pc.cells4_to init s z
              rw [HIM.out] at hto
              rw [hto.1] at z0
              rw [hto.2] at z1
              clear hto
              have f0 := World.ownsRow.frozenAt hR.row (m * 4 + 2)
              have f1 := World.ownsRow.frozenAt hR.row (m * 4 + 3)
              have hnew := hR.lastTo q
              rw [HIM.out] at hnew
              go_wp2_with fail
              go_roundw
              case rel =>
                refine ⟨k + 1, init ++ [(s, q)], by omega, by go_num, by rw [← HRN.out, HST.out, Pc.put1_on], by simp only [List.length_append, List.length_cons, List.length_nil, HIM.out]; omega, ?_⟩
                rw [show (init ++ [(s, q)]).length = m + 1 by rw [List.length_append, HIM.out]; rfl]
                exact hnew
              case measure => simp [intOf]; omega
            · have HNE := Lib.hid hzp
              clear hzp
              go_upto_region 13 with fail
              refine at_worldK (fun u => Acc w1 w1.heap.size 51 4 (.slice (some ⟨g, 0, none⟩) (m + 1) capO) (m + 1) (Pc.cells4 (init ++ [(s, z)])) u ∧ u.cell? ⟨bp, op + k * 2, none⟩ = some (.int .i64 p.num) ∧ u.cell? ⟨bp, op + k * 2 + 1, none⟩ = some (.int .i64 (p.den : Int)) ∧ u.cell? ⟨bp, op + (k + 1) * 2, none⟩ = some (.int .i64 q.num) ∧ u.cell? ⟨bp, op + (k + 1) * 2 + 1, none⟩ = some (.int .i64 (q.den : Int)) ∧ u.cell? ⟨g, m * 4 + 2, none⟩ = some (.int .i64 z.num) ∧ u.cell? ⟨g, m * 4 + 3, none⟩ = some (.int .i64 (z.den : Int))) ⟨hR, c0, c1, c2, c3, z0, z1⟩ (fun V13 hS => ?_)
              clear hR c0 c1 c2 c3 z0 z1
              obtain ⟨hR, c0, c1, c2, c3, z0, z1⟩ := hS
              refine wp_region_noPanic ?_
              refine wp_region_held_drew (S := (Below V13.heap.size V13)) (by kernel_rfl) ((Below.refl _ _).drew) (fun hHeld => ?_)
              refine at_anyH (Below V13.heap.size V13) hHeld (fun wttw0 hNew => ?_)
              clear hHeld
              have hHeld := hNew
              clear hNew
              refine wpAnyH_take (i := 0) (oi := _) (v := ?vttw1) rfl (by kernel_rfl) (by kernel_rfl) (by kernel_rfl) (fun _ _ _ h => h) (Or.inl ⟨by kernel_rfl, ?hyttw1⟩) hHeld ?restttw1
              case hyttw1 => (intro w hSw; go_simp; first | done | (with_reducible rfl))
              try simp only [Act.put, List.getElem_toArray, List.getElem_cons_succ, List.getElem_cons_zero, List.setIfInBounds_toArray, List.set_cons_zero, List.set_cons_succ]
              refine wpAnyH_take (i := 1) (oi := _) (v := ?vttw2) rfl (by kernel_rfl) (by kernel_rfl) (by kernel_rfl) (fun _ _ _ h => h) (Or.inl ⟨by kernel_rfl, ?hyttw2⟩) hHeld ?restttw2
              case hyttw2 => (intro w hSw; go_simp; first | done | (with_reducible rfl))
              try simp only [Act.put, List.getElem_toArray, List.getElem_cons_succ, List.getElem_cons_zero, List.setIfInBounds_toArray, List.set_cons_zero, List.set_cons_succ]
              refine wpAnyH_take (i := 2) (oi := _) (v := ?vttw3) rfl (by kernel_rfl) (by kernel_rfl) (by kernel_rfl) (fun _ _ _ h => h) (Or.inl ⟨by kernel_rfl, ?hyttw3⟩) hHeld ?restttw3
              case hyttw3 => (intro w hSw; go_simp; first | done | (with_reducible rfl))
              try simp only [Act.put, List.getElem_toArray, List.getElem_cons_succ, List.getElem_cons_zero, List.setIfInBounds_toArray, List.set_cons_zero, List.set_cons_succ]
              refine wpAnyH_take (i := 3) (oi := _) (v := ?vttw4) rfl (by kernel_rfl) (by kernel_rfl) (by kernel_rfl) (fun _ _ _ h => h) (Or.inl ⟨by kernel_rfl, ?hyttw4⟩) hHeld ?restttw4
              case hyttw4 => (intro w hSw; go_simp; first | done | (with_reducible rfl))
              try simp only [Act.put, List.getElem_toArray, List.getElem_cons_succ, List.getElem_cons_zero, List.setIfInBounds_toArray, List.set_cons_zero, List.set_cons_succ]
              refine wpAnyH_take (i := 4) (oi := _) (v := ?vttw5) rfl (by kernel_rfl) (by kernel_rfl) (by kernel_rfl) (fun _ _ _ h => h) (Or.inl ⟨by kernel_rfl, ?hyttw5⟩) hHeld ?restttw5
              case hyttw5 => (intro w hSw; go_simp; first | done | (with_reducible rfl))
              try simp only [Act.put, List.getElem_toArray, List.getElem_cons_succ, List.getElem_cons_zero, List.setIfInBounds_toArray, List.set_cons_zero, List.set_cons_succ]
              refine wpAnyH_take (i := 5) (oi := _) (v := ?vttw6) rfl (by kernel_rfl) (by kernel_rfl) (by kernel_rfl) (fun _ _ _ h => h) (Or.inl ⟨by kernel_rfl, ?hyttw6⟩) hHeld ?restttw6
              case hyttw6 => (intro w hSw; go_simp; first | done | (with_reducible rfl))
              try simp only [Act.put, List.getElem_toArray, List.getElem_cons_succ, List.getElem_cons_zero, List.setIfInBounds_toArray, List.set_cons_zero, List.set_cons_succ]
              refine wpAnyH_take (i := 6) (oi := _) (v := ?vttw7) rfl (by kernel_rfl) (by kernel_rfl) (by kernel_rfl) (fun _ _ _ h => h) (Or.inl ⟨by kernel_rfl, ?hyttw7⟩) hHeld ?restttw7
              case hyttw7 => (intro w hSw; go_simp; first | done | (with_reducible rfl))
              try simp only [Act.put, List.getElem_toArray, List.getElem_cons_succ, List.getElem_cons_zero, List.setIfInBounds_toArray, List.set_cons_zero, List.set_cons_succ]
              refine wpAnyH_take (i := 7) (oi := _) (v := ?vttw8) rfl (by kernel_rfl) (by kernel_rfl) (by kernel_rfl) (fun _ _ _ h => h) (Or.inl ⟨by kernel_rfl, ?hyttw8⟩) hHeld ?restttw8
              case hyttw8 => (intro w hSw; go_simp; first | done | (with_reducible rfl))
              try simp only [Act.put, List.getElem_toArray, List.getElem_cons_succ, List.getElem_cons_zero, List.setIfInBounds_toArray, List.set_cons_zero, List.set_cons_succ]
              refine wpAnyH_take (i := 8) (oi := _) (v := ?vttw9) rfl (by kernel_rfl) (by kernel_rfl) (by kernel_rfl) (fun _ _ _ h => h) (Or.inl ⟨by kernel_rfl, ?hyttw9⟩) hHeld ?restttw9
              case hyttw9 => (intro w hSw; go_simp; first | done | (with_reducible rfl))
              try simp only [Act.put, List.getElem_toArray, List.getElem_cons_succ, List.getElem_cons_zero, List.setIfInBounds_toArray, List.set_cons_zero, List.set_cons_succ]
              refine wpAnyH_take (i := 9) (oi := _) (v := ?vttw10) rfl (by kernel_rfl) (by kernel_rfl) (by kernel_rfl) (fun _ _ _ h => h) (Or.inl ⟨by kernel_rfl, ?hyttw10⟩) hHeld ?restttw10
              case hyttw10 => (intro w hSw; go_simp; first | done | (with_reducible rfl))
              try simp only [Act.put, List.getElem_toArray, List.getElem_cons_succ, List.getElem_cons_zero, List.setIfInBounds_toArray, List.set_cons_zero, List.set_cons_succ]
              refine wpAnyH_take (i := 10) (oi := _) (v := ?vttw11) rfl (by kernel_rfl) (by kernel_rfl) (by kernel_rfl) (fun _ _ _ h => h) (Or.inl ⟨by kernel_rfl, ?hyttw11⟩) hHeld ?restttw11
              case hyttw11 => (intro w hSw; have kc0 := keepC hSw c0; have kc1 := keepC hSw c1; have kc2 := keepC hSw c2; have kc3 := keepC hSw c3; have kz0 := keepC hSw z0; have kz1 := keepC hSw z1; go_simp; first | done | (with_reducible rfl))
              try simp only [Act.put, List.getElem_toArray, List.getElem_cons_succ, List.getElem_cons_zero, List.setIfInBounds_toArray, List.set_cons_zero, List.set_cons_succ]
              refine wpAnyH_take (i := 11) (oi := _) (v := ?vttw12) rfl (by kernel_rfl) (by kernel_rfl) (by kernel_rfl) (fun _ _ _ h => h) (Or.inl ⟨by kernel_rfl, ?hyttw12⟩) hHeld ?restttw12
              case hyttw12 => (intro w hSw; go_simp; first | done | (with_reducible rfl))
              try simp only [Act.put, List.getElem_toArray, List.getElem_cons_succ, List.getElem_cons_zero, List.setIfInBounds_toArray, List.set_cons_zero, List.set_cons_succ]
              refine wpAnyH_take (i := 12) (oi := _) (v := ?vttw13) rfl (by kernel_rfl) (by kernel_rfl) (by kernel_rfl) (fun _ _ _ h => h) (Or.inl ⟨by kernel_rfl, ?hyttw13⟩) hHeld ?restttw13
              case hyttw13 => (intro w hSw; go_simp; first | done | (with_reducible rfl))
              try simp only [Act.put, List.getElem_toArray, List.getElem_cons_succ, List.getElem_cons_zero, List.setIfInBounds_toArray, List.set_cons_zero, List.set_cons_succ]
              refine wpAnyH_take (i := 13) (oi := _) (v := ?vttw14) rfl (by kernel_rfl) (by kernel_rfl) (by kernel_rfl) (fun _ _ _ h => h) (Or.inl ⟨by kernel_rfl, ?hyttw14⟩) hHeld ?restttw14
              case hyttw14 => (intro w hSw; go_simp; first | done | (with_reducible rfl))
              try simp only [Act.put, List.getElem_toArray, List.getElem_cons_succ, List.getElem_cons_zero, List.setIfInBounds_toArray, List.set_cons_zero, List.set_cons_succ]
              refine wpAnyH_take (i := 14) (oi := _) (v := ?vttw15) rfl (by kernel_rfl) (by kernel_rfl) (by kernel_rfl) (fun _ _ _ h => h) (Or.inl ⟨by kernel_rfl, ?hyttw15⟩) hHeld ?restttw15
              case hyttw15 => (intro w hSw; have kc0 := keepC hSw c0; have kc1 := keepC hSw c1; have kc2 := keepC hSw c2; have kc3 := keepC hSw c3; have kz0 := keepC hSw z0; have kz1 := keepC hSw z1; go_simp; first | done | (with_reducible rfl))
              try simp only [Act.put, List.getElem_toArray, List.getElem_cons_succ, List.getElem_cons_zero, List.setIfInBounds_toArray, List.set_cons_zero, List.set_cons_succ]
              refine wpAnyH_take (i := 15) (oi := _) (v := .bool false) rfl (by kernel_rfl) (by kernel_rfl) (by kernel_rfl) (fun _ _ _ h => h) (Or.inl ⟨by kernel_rfl, ?_⟩) hHeld ?_
              · intro w hSw
                have kc0 := keepC hSw c0
                have kc1 := keepC hSw c1
                have kz0 := keepC hSw z0
                have kz1 := keepC hSw z1
                go_simp
                exact fun h1 => Pc.den_ne HNE.out h1
              try simp only [Act.put, List.getElem_toArray, List.getElem_cons_succ, List.getElem_cons_zero, List.setIfInBounds_toArray, List.set_cons_zero, List.set_cons_succ]
              refine wpAnyH_take (i := 16) (oi := _) (v := ?vttw17) rfl (by kernel_rfl) (by kernel_rfl) (by kernel_rfl) (fun _ _ _ h => h) (Or.inl ⟨by kernel_rfl, ?hyttw17⟩) hHeld ?restttw17
              case hyttw17 => (intro w hSw; go_simp; first | done | (with_reducible rfl))
              try simp only [Act.put, List.getElem_toArray, List.getElem_cons_succ, List.getElem_cons_zero, List.setIfInBounds_toArray, List.set_cons_zero, List.set_cons_succ]
              refine wpAnyH_done (by kernel_rfl) ?_ _
              refine NoPanic.normal ?_
              replace hR := hR.keep hHeld
              replace c0 := keepC hHeld c0
              replace c1 := keepC hHeld c1
              replace c2 := keepC hHeld c2
              replace c3 := keepC hHeld c3
              clear hHeld
              have hB1 := hR.hB
              go_upto_region 15 with fail
              go_region_law ((refine step_append_lies _ (by rfl) _ _ _ (by rfl) w1.heap.size 51 i0 _ 4 32 Try.underlying53 HI.out HI2.out HI3.out HI4.out rfl (by omega) _ (m + 1) (Pc.cells4 (init ++ [(s, z)])) (by rfl) (World.ownsRow.alloc (World.ownsRow.drew hR.row) _) ⟨wttw0.heap.size, 0, none⟩ 1 1 [.int .i64 p.num, .int .i64 (p.den : Int), .int .i64 q.num, .int .i64 (q.den : Int)] (by rfl) (by rfl) (World.news_of_block (cs := #[.int .i64 p.num, .int .i64 (p.den : Int), .int .i64 q.num, .int .i64 (q.den : Int)]) (t := 51) (fr := (0, 0)) (heap_alloc_new wttw0.drew _)) (by simp [Value.oneCell']) (by omega) (by unfold maxLen; omega) (by omega) (by simp; omega) (wttw0.heap.size + 1) (by simp) ?_; intro gg cap3 w4 hown1 hgrow hat hlt4))
              all_goals
                (try go_wp2_with fail)
                have hnew := hR.app (((Below.refl _ wttw0).drew).alloc (Nat.le_refl _) _) hown1 hgrow
                go_roundw
                case rel =>
                  refine ⟨k + 1, (init ++ [(s, z)]) ++ [(p, q)], by omega, by go_num, by rw [← HRN.out, HST.out, Pc.put1_new HNE.out], by have hh := HM.out; simp only [List.length_append, List.length_cons, List.length_nil] at *; omega, ?_⟩
                  rw [Pc.cells4_app, List.length_append]
                  rw [HM.out]
                  exact hnew
                case measure => simp [intOf]; omega
    · have hre := HRN.out
      rw [Pc.rn_end (by omega)] at hre
      subst hre
      have i1 : IntKind.i64.wrap ((k : Int) + 1) = (k : Int) + 1 := IntWalk.i64_in _ (by omega)
      have i2 : decide ((k : Int) + 1 < (S.length : Int)) = false := decide_eq_false (by omega)
      clear HC HP HFS RA0 RB0 HRN
      go_wp2_with fail
      go_ret
      exact ⟨_, rfl, Acc.rebase hbw hR⟩
end Go.Proofs.Ytomokdepndclpaa

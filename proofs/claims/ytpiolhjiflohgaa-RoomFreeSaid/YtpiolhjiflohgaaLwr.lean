/- RoomFree's walk. -/
import Derived.Test.YtpiolhjiflohgaaLwq
import Derived.Test.YtpiolhjiflohgaaLwp
namespace Go.Proofs.Ytpiolhjiflohgaa
open Go.RowKit
namespace As
/-- Whether the difference of two prices is at least the link. -/
def cB (V : List (List Int)) (ps : List Int) (D : Int) (j k : Nat) : Bool := decide (lkm V (bst V) j k * D ≤ el ps k - el ps j)
/-- What RoomFree's loops have found. -/
def rtB (V : List (List Int)) (a : List Nat) (ps : List Int) (D : Int) (j k : Nat) : Bool := (wr V a == wr V (bst V)) && ((List.range j).all fun x => (List.range V.length).all (cB V ps D x)) && (List.range k).all (cB V ps D j)
theorem rtB_zero (V : List (List Int)) (a : List Nat) (ps : List Int) (D : Int) : rtB V a ps D 0 0 = (wr V a == wr V (bst V)) := by simp [rtB]
theorem rtB_step (V : List (List Int)) (a : List Nat) (ps : List Int) (D : Int) (j k : Nat) : rtB V a ps D j (k + 1) = (rtB V a ps D j k && cB V ps D j k) := by simp [rtB, List.range_succ, Bool.and_assoc]
theorem rtB_row (V : List (List Int)) (a : List Nat) (ps : List Int) (D : Int) (j : Nat) : rtB V a ps D j V.length = rtB V a ps D (j + 1) 0 := by simp [rtB, List.range_succ, Bool.and_assoc]
theorem rtB_fin {V : List (List Int)} {a : List Nat} {ps : List Int} {D R : Int} (ok : Ok V) (le : Le14 V.length R a ps D) : rtB V a ps D V.length 0 = decide (envl V a ps D V.length = []) := by
  rw [Bool.eq_iff_iff, decide_eq_true_eq, envl_nil le.perm, free_iff le.d1 (bst_top ok) le.perm]
  simp only [rtB, cB, List.range_zero, List.all_nil, Bool.and_true, Bool.and_eq_true, beq_iff_eq, List.all_eq_true, List.mem_range, decide_eq_true_eq]
  refine and_congr_right fun _ => ⟨fun h j k hj hk => ?_, fun h j hj k hk => ?_⟩
  · rw [Int.mul_comm]; exact h j hj k hk
  · rw [Int.mul_comm]; exact h j k hj hk
theorem lkD_bd {V : List (List Int)} {D : Int} (ok : Ok V) (d1 : 1 ≤ D) (d60 : D ≤ 60) (j k : Nat) : -360000000 ≤ lkm V (bst V) j k * D ∧ lkm V (bst V) j k * D ≤ 360000000 := by
  obtain ⟨h1, h2⟩ := lkm_bd (b := bst V) ok.bd j k
  have n6 := ok.n6
  generalize lkm V (bst V) j k = z at *
  have z1 : -6000000 ≤ z := by omega
  have z2 : z ≤ 6000000 := by omega
  have m1 := Int.mul_le_mul_of_nonneg_right z1 (show 0 ≤ D by omega)
  have m2 := Int.mul_le_mul_of_nonneg_right z2 (show 0 ≤ D by omega)
  omega
end As
set_option maxRecDepth 100000 in
set_option maxHeartbeats 8000000 in
theorem rfree_walk (A : Option Addr) (cv : Nat) (V : List (List Int)) (R : Int) (B : Option Addr) (ca : Nat) (xs : List Int) (C : Option Addr) (cp : Nat) (ps : List Int) (D : Int) (w : World) (hl : V.length ≤ maxLen) (h : IsM w A V) (_hR : I64 R) (hx : xs.length ≤ maxLen) (hB : IsI w B xs) (hpm : ps.length ≤ maxLen) (hC : IsI w C ps) (_hD : I64 D) :
    Calls Try.prog 6 #[.agg #[.slice A V.length cv, .int .i64 R], .agg #[.slice B xs.length ca, .slice C ps.length cp, .int .i64 D]] w fun e w' => e = .returned (.bool true) ∧ Below w.heap.size w w' := by
  have HA := Lib.hid h
  have HIB := Lib.hid hB
  have HIC := Lib.hid hC
  have cF := fun v (hv : IsM v A V) => fit14_any A cv V R v hl hv
  by_cases h0 : As.rchk V R = 0
  · have hc : As.chk V = 0 := by
      rcases As.rchk_two V R with ⟨_, hc, _⟩ | ⟨_, h2⟩
      · exact hc
      · exact absurd h0 h2
    have ok := As.chk_ok hc
    obtain ⟨e1, e2⟩ := As.even_vld h0
    have e3 : (As.evA V R).length = V.length := by unfold As.evA; rw [if_pos h0]; exact (As.bst_top ok).len
    have e4 : (As.evP V R).length = V.length := by unfold As.evP; rw [if_pos h0]; exact As.rdp_len _ _
    have e5 : As.lnS V R = As.lkt V := by unfold As.lnS; rw [if_pos h0]
    have e6 := lkt_len V
    have m1 : (As.al (As.evA V R)).length = V.length := by rw [As.al_len]; exact e3
    have c1 := fun v (hv : IsM v A V) => rmEven_any A cv V R v hl hv
    unfold EvQ at c1
    rw [h0, e3, e4] at c1
    have c2 := fun v X c Y d (hv : IsM v A V) hX hY => r14Valid_any A cv V R X c (As.al (As.evA V R)) Y d (As.evP V R) (As.evD V R) v hl hv (by rw [m1]; exact hl) hX hY
    rw [e1, m1, e4] at c2
    have c3 := fun v X c Y d (hv : IsM v A V) hX hY => r14Free_any A cv V R X c (As.al (As.evA V R)) Y d (As.evP V R) (As.evD V R) v hl hv (by rw [m1]; exact hl) hX hY e1
    rw [m1, e4, decide_eq_true e2] at c3
    have c4 := fun v (hv : IsM v A V) => rmLinks_any A cv V R v hl hv
    unfold LnQ at c4
    rw [h0, e5, e6] at c4
    have c5 := fun v (hv : IsM v A V) hX hY => r14Valid_any A cv V R B ca xs C cp ps D v hl hv hx hX hY
    have c6 := fun v (hv : IsM v A V) hX hY => rmEnvies_any A cv V R B ca xs C cp ps D v hl hv hx hX hpm hY
    have c7 := fun v (hv : IsM v A V) => asBest2_any A cv V v hc hl hv
    rw [decide_eq_true h0] at cF
    have CF := Lib.hid cF
    have C1 := Lib.hid c1
    have C2 := Lib.hid c2
    have C3 := Lib.hid c3
    have C4 := Lib.hid c4
    have C5 := Lib.hid c5
    have C6 := Lib.hid c6
    have C7 := Lib.hid c7
    clear c1 c2 c3 c4 c5 c6 c7 cF h hB hC
    unfold maxLen at hl hx hpm
    go_enter Try.func6, Try.ntmps6
    go_upto_region 1 with fail
    refine at_box2 (fun V0 hbb b0 b1 hsz => ?_)
    clear hsz
    replace HA := Lib.hid (HA.out.keep hbb)
    replace HIB := Lib.hid (HIB.out.keep hbb)
    replace HIC := Lib.hid (HIC.out.keep hbb)
    have HB := Lib.hid hbb
    have B0 := Lib.hid b0
    have B1 := Lib.hid b1
    clear hbb b0 b1
    go_wp2_with fail
    refine (alive14_any _).mono ?_
    rintro e w1 ⟨rfl, hb⟩
    replace HA := Lib.hid (HA.out.keep hb)
    replace HIB := Lib.hid (HIB.out.keep hb)
    replace HIC := Lib.hid (HIC.out.keep hb)
    replace B0 := Lib.hid (B0.out.keep hb)
    replace B1 := Lib.hid (B1.out.keep hb)
    replace HB := Lib.hid (keepB HB.out hb)
    clear hb
    have cB00 := B0.out.c 0 rfl
    have cB01 := B0.out.c 1 rfl
    go_wp2_with fail
    refine (CF.out _ HA.out).mono ?_
    rintro e w2 ⟨rfl, hb⟩
    replace HA := Lib.hid (HA.out.keep hb)
    replace HIB := Lib.hid (HIB.out.keep hb)
    replace HIC := Lib.hid (HIC.out.keep hb)
    replace B0 := Lib.hid (B0.out.keep hb)
    replace B1 := Lib.hid (B1.out.keep hb)
    replace HB := Lib.hid (keepB HB.out hb)
    clear cB00 cB01 hb
    clear CF
    have cB00 := B0.out.c 0 rfl
    have cB01 := B0.out.c 1 rfl
    go_wp2_with fail
    refine (C1.out _ HA.out).mono ?_
    rintro e w3 ⟨X, c, Y, d, rfl, hX, hY, hb⟩
    replace HA := Lib.hid (HA.out.keep hb)
    replace HIB := Lib.hid (HIB.out.keep hb)
    replace HIC := Lib.hid (HIC.out.keep hb)
    replace B0 := Lib.hid (B0.out.keep hb)
    replace B1 := Lib.hid (B1.out.keep hb)
    replace HB := Lib.hid (keepB HB.out hb)
    have IX := Lib.hid hX
    have IY := Lib.hid hY
    clear cB00 cB01 hb hX hY
    clear C1
    go_upto_region 5 with fail
    refine at_worldQ (fun v => Below w3.heap.size w3 v ∧ BK v (w3.heap.size) [.slice X V.length c, .slice Y V.length d, .int .i64 (As.evD V R)]) ⟨below_al (Below.refl _ _) _, BK.new w3 [.slice X V.length c, .slice Y V.length d, .int .i64 (As.evD V R)] 28⟩ (fun U3 hS => ?_)
    obtain ⟨hb, hB3⟩ := hS
    replace HA := Lib.hid (HA.out.keep hb)
    replace HIB := Lib.hid (HIB.out.keep hb)
    replace HIC := Lib.hid (HIC.out.keep hb)
    replace B0 := Lib.hid (B0.out.keep hb)
    replace B1 := Lib.hid (B1.out.keep hb)
    replace IX := Lib.hid (IX.out.keep hb)
    replace IY := Lib.hid (IY.out.keep hb)
    replace HB := Lib.hid (keepB HB.out hb)
    have B3 := Lib.hid hB3
    clear hb hB3
    have cB00 := B0.out.c 0 rfl
    have cB01 := B0.out.c 1 rfl
    have cB30 := B3.out.c 0 rfl
    have cB31 := B3.out.c 1 rfl
    have cB32 := B3.out.c 2 rfl
    go_wp2_with fail
    refine (C2.out _ X c Y d HA.out IX.out IY.out).mono ?_
    rintro e w4a ⟨rfl, hb⟩
    replace HA := Lib.hid (HA.out.keep hb)
    replace HIB := Lib.hid (HIB.out.keep hb)
    replace HIC := Lib.hid (HIC.out.keep hb)
    replace B0 := Lib.hid (B0.out.keep hb)
    replace B1 := Lib.hid (B1.out.keep hb)
    replace IX := Lib.hid (IX.out.keep hb)
    replace IY := Lib.hid (IY.out.keep hb)
    replace B3 := Lib.hid (B3.out.keep hb)
    replace HB := Lib.hid (keepB HB.out hb)
    clear cB00 cB01 cB30 cB31 cB32 hb
    have cB00 := B0.out.c 0 rfl
    have cB01 := B0.out.c 1 rfl
    have cB30 := B3.out.c 0 rfl
    have cB31 := B3.out.c 1 rfl
    have cB32 := B3.out.c 2 rfl
    go_wp2_with fail
    refine (C3.out _ X c Y d HA.out IX.out IY.out).mono ?_
    rintro e w4 ⟨rfl, hb⟩
    replace HA := Lib.hid (HA.out.keep hb)
    replace HIB := Lib.hid (HIB.out.keep hb)
    replace HIC := Lib.hid (HIC.out.keep hb)
    replace B0 := Lib.hid (B0.out.keep hb)
    replace B1 := Lib.hid (B1.out.keep hb)
    replace IX := Lib.hid (IX.out.keep hb)
    replace IY := Lib.hid (IY.out.keep hb)
    replace B3 := Lib.hid (B3.out.keep hb)
    replace HB := Lib.hid (keepB HB.out hb)
    clear cB00 cB01 cB30 cB31 cB32 hb
    clear C2 C3
    clear IX IY B3
    have cB00 := B0.out.c 0 rfl
    have cB01 := B0.out.c 1 rfl
    go_wp2_with fail
    refine (C4.out _ HA.out).mono ?_
    rintro e w5 ⟨K, ck, rfl, hK, hb⟩
    replace HA := Lib.hid (HA.out.keep hb)
    replace HIB := Lib.hid (HIB.out.keep hb)
    replace HIC := Lib.hid (HIC.out.keep hb)
    replace B0 := Lib.hid (B0.out.keep hb)
    replace B1 := Lib.hid (B1.out.keep hb)
    replace HB := Lib.hid (keepB HB.out hb)
    have IK := Lib.hid hK
    clear cB00 cB01 hb hK
    clear C4
    by_cases hp : 50 < ps.length
    · have d1 : decide ((50 : Int) < (ps.length : Int)) = true := by rw [decide_eq_true_eq]; omega
      have c0 := B0.out.c 0 rfl
      have c1 := B1.out.c 0 rfl
      have c2 := B1.out.c 1 rfl
      have q0 : ((V.length : Int) != (V.length : Int)) = false := by simp
      have q1 : ((V.length : Int) == (V.length : Int)) = true := by simp
      clear HA HIB HIC C5 C6 C7 IK
      go_wp2_with fail
      go_ret
      exact ⟨rfl, HB.out⟩
    have d1 : decide ((50 : Int) < (ps.length : Int)) = false := by rw [decide_eq_false_iff_not]; omega
    by_cases hq : 50 < xs.length
    · have d2 : decide ((50 : Int) < (xs.length : Int)) = true := by rw [decide_eq_true_eq]; omega
      have c0 := B0.out.c 0 rfl
      have c1 := B1.out.c 0 rfl
      have c2 := B1.out.c 1 rfl
      have q0 : ((V.length : Int) != (V.length : Int)) = false := by simp
      have q1 : ((V.length : Int) == (V.length : Int)) = true := by simp
      clear HA HIB HIC C5 C6 C7 IK
      go_wp2_with fail
      go_ret
      exact ⟨rfl, HB.out⟩
    have d2 : decide ((50 : Int) < (xs.length : Int)) = false := by rw [decide_eq_false_iff_not]; omega
    have c0 := B0.out.c 0 rfl
    have c1 := B1.out.c 0 rfl
    have c2 := B1.out.c 1 rfl
    have q0 : ((V.length : Int) != (V.length : Int)) = false := by simp
    have q1 : ((V.length : Int) == (V.length : Int)) = true := by simp
    generalize hv0 : As.vld V R xs ps D = vl0 at *
    have cB00 := B0.out.c 0 rfl
    have cB01 := B0.out.c 1 rfl
    have cB10 := B1.out.c 0 rfl
    have cB11 := B1.out.c 1 rfl
    have cB12 := B1.out.c 2 rfl
    go_wp2_with fail
    refine (C5.out _ HA.out HIB.out HIC.out).mono ?_
    rintro e w6 ⟨rfl, hb⟩
    replace HA := Lib.hid (HA.out.keep hb)
    replace HIB := Lib.hid (HIB.out.keep hb)
    replace HIC := Lib.hid (HIC.out.keep hb)
    replace B0 := Lib.hid (B0.out.keep hb)
    replace B1 := Lib.hid (B1.out.keep hb)
    replace IK := Lib.hid (IK.out.keep hb)
    replace HB := Lib.hid (keepB HB.out hb)
    clear c0 c1 c2 cB00 cB01 cB10 cB11 cB12 hb
    clear C5
    by_cases hz0 : vl0 = 0
    · subst hz0
      obtain ⟨a, hxa, hL⟩ := ls_of hv0 HA.out HIB.out HIC.out
      have le := hL.le
      have la := hL.la
      have lx : xs.length = V.length := by rw [hxa, As.al_len, la]
      have lp := le.len
      have c8 := fun v (hv : IsM v A V) (hB : IsI v B xs) => rWorth_any A cv V B ca a v ok.n1 ok.n6 ok.row ok.bd hv (hxa ▸ hB) la (fun i hi => hL.lt hi)
      have hen : As.enS V R xs ps D = As.envl V a ps D V.length := by rw [hxa]; exact As.enS_yes (hxa ▸ hv0)
      have hfin := As.rtB_fin ok le
      have HZ : (((As.enS V R xs ps D).length : Int) == 0) = decide (As.envl V a ps D V.length = []) := by rw [hen, Bool.eq_iff_iff, beq_iff_eq, decide_eq_true_eq, ← List.length_eq_zero_iff]; omega
      generalize decide (As.envl V a ps D V.length = []) = z at hfin HZ
      have c6 := C6.out
      unfold EnQ at c6
      rw [hv0] at c6
      have R0 := As.rtB_zero V a ps D
      have RS := fun j k => As.rtB_step V a ps D j k
      have RR := fun j => As.rtB_row V a ps D j
      have LD := fun j k => As.lkD_bd ok le.d1 le.d60 j k
      have PD := fun j hj => le.pb j hj
      obtain ⟨d60, n1, n6⟩ := (show D ≤ 60 ∧ 1 ≤ V.length ∧ V.length ≤ 6 from ⟨le.d60, ok.n1, ok.n6⟩)
      rw [lx, lp] at B1 c6 ⊢
      replace C6 := Lib.hid c6
      have C8 := Lib.hid c8
      generalize As.rtB V a ps D = r at *
      generalize (As.enS V R xs ps D).length = m at *
      have HL := Lib.hid hL
      replace LD := Lib.hid LD
      replace PD := Lib.hid PD
      replace RS := Lib.hid RS
      replace RR := Lib.hid RR
      clear c6 c8 hL le hen d1 d2
      have cB00 := B0.out.c 0 rfl
      have cB01 := B0.out.c 1 rfl
      have cB10 := B1.out.c 0 rfl
      have cB11 := B1.out.c 1 rfl
      have cB12 := B1.out.c 2 rfl
      go_wp2_with fail
      refine (C6.out _ HA.out HIB.out HIC.out).mono ?_
      rintro e w7 ⟨Z, cz, rfl, -, hb⟩
      replace HA := Lib.hid (HA.out.keep hb)
      replace HIB := Lib.hid (HIB.out.keep hb)
      replace HIC := Lib.hid (HIC.out.keep hb)
      replace B0 := Lib.hid (B0.out.keep hb)
      replace B1 := Lib.hid (B1.out.keep hb)
      replace IK := Lib.hid (IK.out.keep hb)
      replace HB := Lib.hid (keepB HB.out hb)
      clear cB00 cB01 cB10 cB11 cB12 hb
      clear C6
      have cB00 := B0.out.c 0 rfl
      have cB01 := B0.out.c 1 rfl
      go_wp2_with fail
      refine (C7.out _ HA.out).mono ?_
      rintro e w8 ⟨Bs, cb, rfl, -, -, hb⟩
      replace HA := Lib.hid (HA.out.keep hb)
      replace HIB := Lib.hid (HIB.out.keep hb)
      replace HIC := Lib.hid (HIC.out.keep hb)
      replace B0 := Lib.hid (B0.out.keep hb)
      replace B1 := Lib.hid (B1.out.keep hb)
      replace IK := Lib.hid (IK.out.keep hb)
      replace HB := Lib.hid (keepB HB.out hb)
      clear cB00 cB01 hb
      clear C7
      have cB00 := B0.out.c 0 rfl
      have cB01 := B0.out.c 1 rfl
      have cB10 := B1.out.c 0 rfl
      have cB11 := B1.out.c 1 rfl
      have cB12 := B1.out.c 2 rfl
      go_wp2_with fail
      refine (C8.out _ HA.out HIB.out).mono ?_
      rintro e w9 ⟨rfl, hb⟩
      replace HA := Lib.hid (HA.out.keep hb)
      replace HIB := Lib.hid (HIB.out.keep hb)
      replace HIC := Lib.hid (HIC.out.keep hb)
      replace B0 := Lib.hid (B0.out.keep hb)
      replace B1 := Lib.hid (B1.out.keep hb)
      replace IK := Lib.hid (IK.out.keep hb)
      replace HB := Lib.hid (keepB HB.out hb)
      clear cB00 cB01 cB10 cB11 cB12 hb
      clear C8
      obtain ⟨pb, po, rfl, hps⟩ := list_at HIC.out (j := 0) (by omega)
      obtain ⟨xb, xo, _, _, _, rfl, _, _⟩ := mm_at (show IsM w9 K (mm V.length V.length (As.lkm V (As.bst V))) from IK.out) (i := 0) (by omega)
      have PC := Lib.hid (show ∀ k, k < V.length → w9.cell? ⟨pb, po + k, none⟩ = some (.int .i64 (As.el ps k)) from fun k hk => hps k (by omega))
      clear hps HA HIB B0
      go_wp2_with fail
      go_loopw [15, 16] (fun u i W => ∃ j : Nat, j ≤ V.length ∧ i = .int .i64 j ∧ u = .bool (r j 0) ∧ Hid (Below w9.heap.size w9 W)) (fun _ i _ => V.length - (intOf i).toNat)
      case atStart => exact ⟨0, Nat.zero_le _, rfl, by rw [R0], Lib.hid (Below.refl _ _)⟩
      case round =>
        obtain ⟨j, hj, rfl, rfl, HW⟩ := hrel
        by_cases hlt : j < V.length
        · obtain ⟨xb', xo', rb, ro, rc, heq, hrow, hcs⟩ := mm_at (show IsM w9 _ (mm V.length V.length (As.lkm V (As.bst V))) from IK.out) hlt
          cases heq
          have XC := Lib.hid hcs
          have x0 := keepC HW.out hrow
          have XR := Lib.hid hrow
          clear hcs hrow
          go_wp2_with fail
          go_loopw [15, 17] (fun u i W => ∃ k : Nat, k ≤ V.length ∧ i = .int .i64 k ∧ u = .bool (r j k) ∧ Hid (Below w9.heap.size w9 W)) (fun _ i _ => V.length - (intOf i).toNat)
          case atStart => exact ⟨0, Nat.zero_le _, rfl, rfl, HW⟩
          case round =>
            clear x0
            obtain ⟨k, hk, rfl, rfl, HW⟩ := hrel
            by_cases hlk : k < V.length
            · have HRS := Lib.hid (show r j (k + 1) = (r j k && decide (As.lkm V (As.bst V) j k * D ≤ As.el ps k - As.el ps j)) from RS.out j k)
              obtain ⟨g0, g1⟩ := LD.out j k
              obtain ⟨y0, y1⟩ := PD.out k hlk
              obtain ⟨z0, z1⟩ := PD.out j hlt
              have x0 := keepC HW.out XR.out
              have x1 := keepC HW.out (XC.out k hlk)
              have x2 := keepC HW.out (PC.out k hlk)
              have x3 := keepC HW.out (PC.out j hlt)
              have k1 := keepC HW.out (B1.out.c 1 rfl)
              have k2 := keepC HW.out (B1.out.c 2 rfl)
              have hwh := HW.out
              generalize r j k = u at *
              generalize As.el ps k = f at *
              generalize As.el ps j = g at *
              obtain ⟨q, hqe⟩ : ∃ q, As.lkm V (As.bst V) j k * D = q := ⟨_, rfl⟩
              rw [hqe] at HRS g0 g1
              generalize As.lkm V (As.bst V) j k = b at *
              have a1 : IntKind.i64.wrap (f - g) = f - g := IntWalk.i64_in _ (by omega)
              have a2 : IntKind.i64.wrap (b * D) = q := by rw [hqe]; exact IntWalk.i64_in _ (by omega)
              have i1 : (k : Int) < (V.length : Int) := by omega
              have i2 : (j : Int) < (V.length : Int) := by omega
              clear y0 y1 z0 z1 g0 g1 hqe
              cases u with
              | false =>
                clear a1 a2 x0 x1 x2 x3 k1 k2
                go_wp2_with fail
                go_big_region
                go_wp2_with fail
                go_roundw
                case rel => exact ⟨k + 1, by omega, by go_num, by rw [HRS.out]; rfl, Lib.hid (by first | exact HW.out | exact HW.out.drew)⟩
                case measure => simp [intOf]; omega
              | true =>
                by_cases hle : q ≤ f - g
                · have d1 : decide (q ≤ f - g) = true := decide_eq_true hle
                  have HU := Lib.hid (show r j (k + 1) = true by rw [HRS.out, d1]; rfl)
                  go_wp2_with fail
                  go_big_region
                  go_wp2_with fail
                  go_roundw
                  case rel => exact ⟨k + 1, by omega, by go_num, by rw [HU.out], Lib.hid (by first | exact HW.out | exact HW.out.drew)⟩
                  case measure => simp [intOf]; omega
                · have d1 : decide (q ≤ f - g) = false := decide_eq_false hle
                  have HU := Lib.hid (show r j (k + 1) = false by rw [HRS.out, d1]; rfl)
                  go_wp2_with fail
                  go_big_region
                  go_wp2_with fail
                  go_roundw
                  case rel => exact ⟨k + 1, by omega, by go_num, by rw [HU.out], Lib.hid (by first | exact HW.out | exact HW.out.drew)⟩
                  case measure => simp [intOf]; omega
            · obtain rfl : k = V.length := by omega
              rw [RR.out]
              go_wp2_with fail
              go_roundw
              case rel => exact ⟨j + 1, by omega, by go_num, rfl, HW⟩
              case measure => simp [intOf]; omega
        · obtain rfl : j = V.length := by omega
          rw [hfin]
          have hzz : (z == z) = true := by simp
          go_wp2_with fail
          go_ret
          exact ⟨rfl, keepB HB.out HW.out⟩
    · have d3 : (vl0 != 0) = true := by rw [bne_iff_ne]; exact hz0
      have c0 := B0.out.c 0 rfl
      clear HA HIB HIC C6 C7 IK
      go_wp2_with fail
      go_ret
      exact ⟨rfl, HB.out⟩
  · rw [decide_eq_false h0] at cF
    have CF := Lib.hid cF
    clear cF h hB hC HIB HIC
    unfold maxLen at hl hx hpm
    go_enter Try.func6, Try.ntmps6
    go_upto_region 1 with fail
    refine at_box2 (fun V0 hbb b0 b1 hsz => ?_)
    clear hsz b1
    replace HA := Lib.hid (HA.out.keep hbb)
    have HB := Lib.hid hbb
    have B0 := Lib.hid b0
    clear hbb b0
    go_wp2_with fail
    refine (alive14_any _).mono ?_
    rintro e w1 ⟨rfl, hb⟩
    replace HA := Lib.hid (HA.out.keep hb)
    replace B0 := Lib.hid (B0.out.keep hb)
    replace HB := Lib.hid (keepB HB.out hb)
    clear hb
    have cB00 := B0.out.c 0 rfl
    have cB01 := B0.out.c 1 rfl
    go_wp2_with fail
    refine (CF.out _ HA.out).mono ?_
    rintro e w2 ⟨rfl, hb⟩
    replace HA := Lib.hid (HA.out.keep hb)
    replace B0 := Lib.hid (B0.out.keep hb)
    replace HB := Lib.hid (keepB HB.out hb)
    clear cB00 cB01 hb
    go_wp2_with fail
    go_ret
    exact ⟨rfl, HB.out⟩
end Go.Proofs.Ytpiolhjiflohgaa

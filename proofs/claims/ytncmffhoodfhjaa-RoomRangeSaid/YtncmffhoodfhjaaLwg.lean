/- RoomRange's walk. -/
import Derived.Test.YtncmffhoodfhjaaLwg0
namespace Go.Proofs.Ytncmffhoodfhjaa
open Go.RowKit
set_option maxRecDepth 100000 in
set_option maxHeartbeats 8000000 in
theorem rrange_walk (A : Option Addr) (cv : Nat) (V : List (List Int)) (R : Int) (B : Option Addr) (ca : Nat) (xs : List Int) (C : Option Addr) (cp : Nat) (ps : List Int) (D j : Int) (w : World) (hl : V.length ≤ maxLen) (h : IsM w A V) (_hR : I64 R) (hx : xs.length ≤ maxLen) (hB : IsI w B xs) (hpm : ps.length ≤ maxLen) (hC : IsI w C ps) (_hD : I64 D) (_j0 : -9223372036854775808 ≤ j) (_j1 : j ≤ 9223372036854775807) :
    Calls Try.prog 3 #[.agg #[.slice A V.length cv, .int .i64 R], .agg #[.slice B xs.length ca, .slice C ps.length cp, .int .i64 D], .int .i64 j] w fun e w' => e = .returned (.bool true) ∧ Below w.heap.size w w' := by
  have HA := Lib.hid h
  have HIB := Lib.hid hB
  have HIC := Lib.hid hC
  have HL := Lib.hid hl
  have cF := fun v (hv : IsM v A V) => fit14_any A cv V R v hl hv
  have C5 := Lib.hid (fun v (hv : IsM v A V) hX hY => r14Valid_any A cv V R B ca xs C cp ps D v hl hv hx hX hY)
  have C6 := Lib.hid (fun v (hv : IsM v A V) hX hY h0 => r14Free_any A cv V R B ca xs C cp ps D v hl hv hx hX hY h0)
  generalize hz1 : decide (As.rchk V R = 0) = z1 at cF
  have CF := Lib.hid cF
  clear cF h hB hC
  unfold maxLen at hl hx hpm
  go_enter Try.func3, Try.ntmps3
  go_upto_region 1 with fail
  refine at_box2 (fun V0 hbb b0 b1 hsz => ?_)
  clear hsz
  replace HA := Lib.hid (HA.out.keep hbb)
  replace HIB := Lib.hid (HIB.out.keep hbb)
  replace HIC := Lib.hid (HIC.out.keep hbb)
  have HB := Lib.hid hbb
  have B0 := Lib.hid b0
  have B1 := Lib.hid b1
  clear hbb b0 b1
  go_wp2_with fail
  refine (alive14_any _).mono ?_
  rintro e w1 ⟨rfl, hb⟩
  replace HA := Lib.hid (HA.out.keep hb)
  replace HIB := Lib.hid (HIB.out.keep hb)
  replace HIC := Lib.hid (HIC.out.keep hb)
  replace B0 := Lib.hid (B0.out.keep hb)
  replace B1 := Lib.hid (B1.out.keep hb)
  replace HB := Lib.hid (keepB HB.out hb)
  clear hb
  have cB00 := B0.out.c 0 rfl
  have cB01 := B0.out.c 1 rfl
  go_wp2_with fail
  refine (CF.out _ HA.out).mono ?_
  rintro e w2 ⟨rfl, hb⟩
  replace HA := Lib.hid (HA.out.keep hb)
  replace HIB := Lib.hid (HIB.out.keep hb)
  replace HIC := Lib.hid (HIC.out.keep hb)
  replace B0 := Lib.hid (B0.out.keep hb)
  replace B1 := Lib.hid (B1.out.keep hb)
  replace HB := Lib.hid (keepB HB.out hb)
  clear cB00 cB01 hb
  clear CF
  cases z1 with
  | false =>
    go_wp2_with fail
    go_ret
    exact ⟨rfl, HB.out⟩
  | true =>
    by_cases hj0 : j < 0
    · have d1 : decide (j < 0) = true := decide_eq_true hj0
      go_wp2_with fail
      go_ret
      exact ⟨rfl, HB.out⟩
    have d1 : decide (j < 0) = false := decide_eq_false hj0
    have cB00 := B0.out.c 0 rfl
    have cB01 := B0.out.c 1 rfl
    by_cases hj1 : (V.length : Int) ≤ j
    · have d2 : decide ((V.length : Int) ≤ j) = true := decide_eq_true hj1
      go_wp2_with fail
      go_ret
      exact ⟨rfl, HB.out⟩
    have d2 : decide ((V.length : Int) ≤ j) = false := decide_eq_false hj1
    obtain ⟨J, rfl⟩ : ∃ J : Nat, j = J := ⟨j.toNat, by omega⟩
    have hJ : J < V.length := by omega
    have hR := of_decide_eq_true hz1
    obtain ⟨hc, r0, r1⟩ : As.chk V = 0 ∧ 0 ≤ R ∧ R ≤ 10000000 := by
      rcases As.rchk_two V R with ⟨_, hc, r0, r1⟩ | ⟨_, h2⟩
      · exact ⟨hc, r0, r1⟩
      · exact absurd hR h2
    have ok := As.chk_ok hc
    clear hz1
    have CL := Lib.hid (fun v (hv : IsM v A V) => rr_links A cv V R v HL.out hv hR)
    have CR := Lib.hid (fun v (hv : IsM v A V) => rr_range A cv V R J v HL.out hv hR hJ)
    have C7 := Lib.hid (fun v (hv : IsM v A V) => asBest2_any A cv V v hc HL.out hv)
    clear hj0 hj1
    go_wp2_with fail
    refine (CR.out _ HA.out).mono ?_
    rintro e w4 ⟨rfl, hb⟩
    replace HA := Lib.hid (HA.out.keep hb)
    replace HIB := Lib.hid (HIB.out.keep hb)
    replace HIC := Lib.hid (HIC.out.keep hb)
    replace B0 := Lib.hid (B0.out.keep hb)
    replace B1 := Lib.hid (B1.out.keep hb)
    replace HB := Lib.hid (keepB HB.out hb)
    clear cB00 cB01 hb
    clear d1 d2 CR
    go_upto_region 6 with fail
    refine at_worldQ (fun v => Below w4.heap.size w4 v ∧ BK v (w4.heap.size) [.int .i64 (Rp.q (As.lowN V (As.bst V) R J) V.length).num, .int .i64 ((Rp.q (As.lowN V (As.bst V) R J) V.length).den : Int)] ∧ BK v (w4.heap.size + 1) [.int .i64 (Rp.q (As.highN V (As.bst V) R J) V.length).num, .int .i64 ((Rp.q (As.highN V (As.bst V) R J) V.length).den : Int)]) ⟨below_al (below_al (Below.refl _ _) _) _, ((BK.new w4 [.int .i64 (Rp.q (As.lowN V (As.bst V) R J) V.length).num, .int .i64 ((Rp.q (As.lowN V (As.bst V) R J) V.length).den : Int)] 31).al _), (bkAtL (BK.new (w4.alloc (.cells #[.int .i64 (Rp.q (As.lowN V (As.bst V) R J) V.length).num, .int .i64 ((Rp.q (As.lowN V (As.bst V) R J) V.length).den : Int)] 31)) [.int .i64 (Rp.q (As.highN V (As.bst V) R J) V.length).num, .int .i64 ((Rp.q (As.highN V (As.bst V) R J) V.length).den : Int)] 31) (by simp only [World.size_alloc]))⟩ (fun U4 hS => ?_)
    obtain ⟨hb, hBa, hBb⟩ := hS
    replace HA := Lib.hid (HA.out.keep hb)
    replace HIB := Lib.hid (HIB.out.keep hb)
    replace HIC := Lib.hid (HIC.out.keep hb)
    replace B0 := Lib.hid (B0.out.keep hb)
    replace B1 := Lib.hid (B1.out.keep hb)
    replace HB := Lib.hid (keepB HB.out hb)
    have Ba := Lib.hid hBa
    have Bb := Lib.hid hBb
    clear hb hBa hBb
    have cB00 := B0.out.c 0 rfl
    have cB01 := B0.out.c 1 rfl
    go_wp2_with fail
    refine (CL.out _ HA.out).mono ?_
    rintro e w5 ⟨K, ck, rfl, hK, hb⟩
    replace HA := Lib.hid (HA.out.keep hb)
    replace HIB := Lib.hid (HIB.out.keep hb)
    replace HIC := Lib.hid (HIC.out.keep hb)
    replace B0 := Lib.hid (B0.out.keep hb)
    replace B1 := Lib.hid (B1.out.keep hb)
    replace Ba := Lib.hid (Ba.out.keep hb)
    replace Bb := Lib.hid (Bb.out.keep hb)
    replace HB := Lib.hid (keepB HB.out hb)
    have IK := Lib.hid hK
    clear cB00 cB01 hb hK
    clear CL
    have cB00 := B0.out.c 0 rfl
    have cB01 := B0.out.c 1 rfl
    go_wp2_with fail
    refine (C7.out _ HA.out).mono ?_
    rintro e w6 ⟨X, cx, rfl, hX, -, hb⟩
    replace HA := Lib.hid (HA.out.keep hb)
    replace HIB := Lib.hid (HIB.out.keep hb)
    replace HIC := Lib.hid (HIC.out.keep hb)
    replace B0 := Lib.hid (B0.out.keep hb)
    replace B1 := Lib.hid (B1.out.keep hb)
    replace Ba := Lib.hid (Ba.out.keep hb)
    replace Bb := Lib.hid (Bb.out.keep hb)
    replace IK := Lib.hid (IK.out.keep hb)
    replace HB := Lib.hid (keepB HB.out hb)
    have IX := Lib.hid hX
    clear cB00 cB01 hb hX
    clear C7
    have n1 := ok.n1
    have n6 := ok.n6
    obtain ⟨l0, l1, h0, h1⟩ := As.ends_bdg ok r0 r1 J
    obtain ⟨u1, u2, u3⟩ := Rp.q_num_den (a := As.lowN V (As.bst V) R J) (n := V.length) (by omega)
    obtain ⟨v1, v2, v3⟩ := Rp.q_num_den (a := As.highN V (As.bst V) R J) (n := V.length) (by omega)
    have hbl : (As.al (As.bst V)).length = V.length := by rw [As.al_len]; exact (As.bst_top ok).len
    have cA := fun v (hv : IsI v X (As.al (As.bst V))) => rAssigned_any X cx (As.al (As.bst V)) V.length v (by rw [hbl]; exact HL.out) hv
    rw [hbl, show As.isA (As.al (As.bst V)) V.length = true from As.isA_al.2 (As.bst_top ok).perm] at cA
    have CA := Lib.hid cA
    clear cA
    have t1 : Int.tmod V.length (max 1 ((Rp.q (As.lowN V (As.bst V) R J) V.length).den : Int)) = 0 := by rw [Int.max_eq_right u1, Int.tmod_eq_emod_of_nonneg (by omega)]; exact u2
    have t2 : Int.tmod V.length (max 1 ((Rp.q (As.highN V (As.bst V) R J) V.length).den : Int)) = 0 := by rw [Int.max_eq_right v1, Int.tmod_eq_emod_of_nonneg (by omega)]; exact v2
    have m1 : (max 1 ((Rp.q (As.lowN V (As.bst V) R J) V.length).den : Int) == 0) = false := by rw [beq_eq_false_iff_ne]; omega
    have m2 : (max 1 ((Rp.q (As.highN V (As.bst V) R J) V.length).den : Int) == 0) = false := by rw [beq_eq_false_iff_ne]; omega
    have e1 : decide (((Rp.q (As.lowN V (As.bst V) R J) V.length).den : Int) < 1) = false := decide_eq_false (by omega)
    have e2 : decide (((Rp.q (As.highN V (As.bst V) R J) V.length).den : Int) < 1) = false := decide_eq_false (by omega)
    have q0 : ((V.length : Int) != (V.length : Int)) = false := by simp
    go_wp2_with fail
    refine (CA.out _ IX.out).mono ?_
    rintro e w7 ⟨rfl, hb⟩
    replace HA := Lib.hid (HA.out.keep hb)
    replace HIB := Lib.hid (HIB.out.keep hb)
    replace HIC := Lib.hid (HIC.out.keep hb)
    replace B0 := Lib.hid (B0.out.keep hb)
    replace B1 := Lib.hid (B1.out.keep hb)
    replace Ba := Lib.hid (Ba.out.keep hb)
    replace Bb := Lib.hid (Bb.out.keep hb)
    replace IK := Lib.hid (IK.out.keep hb)
    replace IX := Lib.hid (IX.out.keep hb)
    replace HB := Lib.hid (keepB HB.out hb)
    clear hb
    have cBa0 := Ba.out.c 0 rfl
    have cBa1 := Ba.out.c 1 rfl
    have cBb0 := Bb.out.c 0 rfl
    have cBb1 := Bb.out.c 1 rfl
    have HROW := Lib.hid (fun i (hi : i < V.length) => mm_at (show IsM w7 K (mm V.length V.length (As.lkm V (As.bst V))) from IK.out) hi)
    have HCC := Lib.hid (And.intro cBa0 (And.intro cBa1 (And.intro cBb0 cBb1)))
    go_upto_region 12 with fail
    refine at_worldQ (fun v => Below w7.heap.size w7 v ∧ BK v (w7.heap.size) [.slice X V.length cx, .slice none 0 0, .int .i64 V.length] ∧ BK v (w7.heap.size + 1) [.slice X V.length cx, .slice none 0 0, .int .i64 V.length] ∧ v.heap.size = w7.heap.size + 2) ⟨below_al (below_al (Below.refl _ _) _) _, ((BK.new w7 [.slice X V.length cx, .slice none 0 0, .int .i64 V.length] 27).al _), (bkAtL (BK.new (w7.alloc (.cells #[.slice X V.length cx, .slice none 0 0, .int .i64 V.length] 27)) [.slice X V.length cx, .slice none 0 0, .int .i64 V.length] 27) (by simp only [World.size_alloc])), by simp only [World.size_alloc]⟩ (fun U7 hS => ?_)
    obtain ⟨hb, hBx, hBy, hsU⟩ := hS
    have HB7 := Lib.hid hb
    have Bx := Lib.hid hBx
    have By := Lib.hid hBy
    clear cBa0 cBa1 cBb0 cBb1 hb hBx hBy
    clear q0 CA m1 m2 t1 t2 e1 e2
    obtain ⟨i0, hi0, hz0, hz1, hz2⟩ := info_parts intInfo
    have HI := Lib.hid hi0
    have HI2 := Lib.hid hz0
    have HI3 := Lib.hid hz1
    have HI4 := Lib.hid hz2
    clear hi0 hz0 hz1 hz2
    have RX0 := Lib.hid (show Rx w7 w7.heap.size (w7.heap.size + 1) (w7.heap.size + 2) (.slice X V.length cx) V.length (As.lwp V R J) (As.hgp V R J) (.slice none 0 0) (.slice none 0 0) 0 0 U7 from ⟨HB7.out, Bx.out, By.out, World.ownsRow_nil _ _ _ 1, World.ownsRow_nil _ _ _ 1, fun g e => by simp [Value.ownBlock] at e, Nat.le_refl _, Nat.le_succ _, by omega, by omega, by omega, by rw [hsU]; exact Nat.le_refl _⟩)
    clear hsU HB7 Bx By
    have HRB := Lib.hid hbl
    have HN1 := Lib.hid (fun k (hk : k < V.length) => As.nl_bd ok (As.lkm_b1 ok hk hJ))
    have HN2 := Lib.hid (fun k (hk : k < V.length) => As.nl_bd ok (As.lkm_b1 ok hJ hk))
    have HLW := Lib.hid (show ∀ k, As.lwp V R J k = As.lowN V (As.bst V) R J - V.length * As.lkm V (As.bst V) k J from fun _ => rfl)
    have HHG := Lib.hid (show ∀ k, As.hgp V R J k = As.highN V (As.bst V) R J + V.length * As.lkm V (As.bst V) J k from fun _ => rfl)
    go_wp2_with fail
    go_loopw [19] (fun i W => ∃ k : Nat, k ≤ V.length ∧ i = .int .i64 k ∧ ∃ vx vy, Hid (Rx w7 w7.heap.size (w7.heap.size + 1) (w7.heap.size + 2) (.slice X V.length cx) V.length (As.lwp V R J) (As.hgp V R J) vx vy k k W)) (fun i _ => V.length - (intOf i).toNat)
    case atStart => exact ⟨0, Nat.zero_le _, rfl, _, _, RX0⟩
    case round =>
      obtain ⟨k, hk, rfl, vx, vy, HR⟩ := hrel
      by_cases hlt : k < V.length
      · obtain ⟨xb, xo, rb, ro, rc, rfl, hrow, hcs⟩ := HROW.out k hlt
        have x0 := keepC HR.out.b hrow
        have x1 := keepC HR.out.b (hcs J hJ)
        have i1 : (k : Int) < (V.length : Int) := by omega
        have i2 : (J : Int) < (V.length : Int) := by omega
        have q0 : ((V.length : Int) != (V.length : Int)) = false := by simp
        obtain ⟨XA, xc, rfl⟩ := row_formL HR.out.op
        obtain ⟨c1, c2, c3, c4⟩ := HCC.out
        have HX0 := Lib.hid (show wr.cell? ⟨w7.heap.size, 1, none⟩ = some (.slice XA k xc) ∧ wr.cell? ⟨w4.heap.size, 0, none⟩ = some (.int .i64 _) ∧ wr.cell? ⟨w4.heap.size, 1, none⟩ = some (.int .i64 _) ∧ wr.cell? ⟨xb, xo + k, none⟩ = some (.slice (some ⟨rb, ro, none⟩) V.length rc) ∧ wr.cell? ⟨rb, ro + J, none⟩ = some (.int .i64 _) from ⟨HR.out.bp.c 1 rfl, keepC HR.out.b c1, keepC HR.out.b c2, x0, x1⟩)
        have hcj := hcs J hJ
        clear hcs
        obtain ⟨n1a, n1b, _, _⟩ := HN1.out k hlt
        have hlw := HLW.out k
        obtain ⟨z, hz⟩ : ∃ z, (V.length : Int) / ((Rp.q (As.lowN V (As.bst V) R J) V.length).den : Int) = z := ⟨_, rfl⟩
        have hzt : Int.tdiv (V.length : Int) ((Rp.q (As.lowN V (As.bst V) R J) V.length).den : Int) = z := by rw [Int.tdiv_eq_ediv_of_nonneg (by omega)]; exact hz
        have hz0 : 0 ≤ z ∧ z ≤ V.length := by rw [← hz]; exact ⟨Int.ediv_nonneg (by omega) (by omega), Int.ediv_le_self _ (by omega)⟩
        have d0 : (((Rp.q (As.lowN V (As.bst V) R J) V.length).den : Int) == 0) = false := by rw [beq_eq_false_iff_ne]; omega
        have hdz : ¬ ((Rp.q (As.lowN V (As.bst V) R J) V.length).den : Int) = 0 := by omega
        have a3 : (Rp.q (As.lowN V (As.bst V) R J) V.length).num * z = As.lowN V (As.bst V) R J := by rw [← hz]; exact u3
        generalize hgA1 : (Rp.q (As.lowN V (As.bst V) R J) V.length).num = nm at *
        generalize hgA2 : ((Rp.q (As.lowN V (As.bst V) R J) V.length).den : Int) = dn at *
        generalize As.lkm V (As.bst V) k J = lk at *
        generalize hgA4 : As.lowN V (As.bst V) R J = lo at *
        have HGA1 := Lib.hid hgA1
        have HGA2 := Lib.hid hgA2
        have HGA4 := Lib.hid hgA4
        clear hgA1 hgA2 hgA4
        have w1a : IntKind.i64.wrap z = z := IntWalk.i64_in _ (by omega)
        have w2a : IntKind.i64.wrap (nm * z) = lo := by rw [a3]; exact IntWalk.i64_in _ (by omega)
        obtain ⟨nl, hnl⟩ : ∃ nl, (V.length : Int) * lk = nl := ⟨_, rfl⟩
        rw [hnl] at n1a n1b hlw
        have w3a : IntKind.i64.wrap ((V.length : Int) * lk) = nl := by rw [hnl]; exact IntWalk.i64_in _ (by omega)
        have w4a : IntKind.i64.wrap (lo - nl) = lo - nl := IntWalk.i64_in _ (by omega)
        have w5a : IntKind.i64.wrap lo = lo := IntWalk.i64_in _ (by omega)
        have w6a : IntKind.i64.wrap nl = nl := IntWalk.i64_in _ (by omega)
        have HRD := Lib.hid (HR.out.keep (Below.refl _ _).drew)
        have HFK := Lib.hid hlw
        have hwB := HR.out.wB
        have hwB2 : w7.heap.size + 2 ≤ wr.drew.heap.size := HR.out.wB
        have HRW := Lib.hid hrow
        have HEL := Lib.hid hcj
        have HX1 := Lib.hid (show wr.drew.cell? ⟨w7.heap.size, 1, none⟩ = some (.slice XA k xc) ∧ wr.drew.cell? ⟨w4.heap.size, 0, none⟩ = some (.int .i64 _) ∧ wr.drew.cell? ⟨w4.heap.size, 1, none⟩ = some (.int .i64 _) ∧ wr.drew.cell? ⟨xb, xo + k, none⟩ = some (.slice (some ⟨rb, ro, none⟩) V.length rc) ∧ wr.drew.cell? ⟨rb, ro + J, none⟩ = some (.int .i64 _) from HX0.out)
        go_upto_region 17 with fail
        refine wp_region_noPanic ?_
        refine region_ordU (S := (fun v => v.cell? ⟨w7.heap.size, 1, none⟩ = some (.slice XA k xc) ∧ v.cell? ⟨w4.heap.size, 0, none⟩ = some (.int .i64 nm) ∧ v.cell? ⟨w4.heap.size, 1, none⟩ = some (.int .i64 dn) ∧ v.cell? ⟨xb, xo + k, none⟩ = some (.slice (some ⟨rb, ro, none⟩) V.length rc) ∧ v.cell? ⟨rb, ro + J, none⟩ = some (.int .i64 lk))) (fun _ => True) 22 (by kernel_rfl) HX0.out (fun hHeld => ?_)
        refine ordU_take (i := 0) (o := _) (v := ?vu17_0) rfl (by kernel_rfl) (by kernel_rfl) (by kernel_rfl) (by kernel_rfl) (fun _ _ _ h => h) (Or.inl ⟨by kernel_rfl, ?hyu17_0⟩) hHeld ?restu17_0
        case hyu17_0 => (intro w hSw; obtain ⟨s1, s2, s3, s4, s5⟩ := hSw; go_simp; first | done | (with_reducible rfl) | (rw [if_neg hdz]))
        try simp only [PPz]
        refine ordU_take (i := 1) (o := _) (v := ?vu17_1) rfl (by kernel_rfl) (by kernel_rfl) (by kernel_rfl) (by kernel_rfl) (fun _ _ _ h => h) (Or.inl ⟨by kernel_rfl, ?hyu17_1⟩) hHeld ?restu17_1
        case hyu17_1 => (intro w hSw; obtain ⟨s1, s2, s3, s4, s5⟩ := hSw; go_simp; first | done | (with_reducible rfl) | (rw [if_neg hdz]))
        try simp only [PPz]
        refine ordU_take (i := 2) (o := _) (v := ?vu17_2) rfl (by kernel_rfl) (by kernel_rfl) (by kernel_rfl) (by kernel_rfl) (fun _ _ _ h => h) (Or.inl ⟨by kernel_rfl, ?hyu17_2⟩) hHeld ?restu17_2
        case hyu17_2 => (intro w hSw; obtain ⟨s1, s2, s3, s4, s5⟩ := hSw; go_simp; first | done | (with_reducible rfl) | (rw [if_neg hdz]))
        try simp only [PPz]
        refine ordU_take (i := 3) (o := _) (v := ?vu17_3) rfl (by kernel_rfl) (by kernel_rfl) (by kernel_rfl) (by kernel_rfl) (fun _ _ _ h => h) (Or.inl ⟨by kernel_rfl, ?hyu17_3⟩) hHeld ?restu17_3
        case hyu17_3 => (intro w hSw; obtain ⟨s1, s2, s3, s4, s5⟩ := hSw; go_simp; first | done | (with_reducible rfl) | (rw [if_neg hdz]))
        try simp only [PPz]
        refine ordU_take (i := 4) (o := _) (v := ?vu17_4) rfl (by kernel_rfl) (by kernel_rfl) (by kernel_rfl) (by kernel_rfl) (fun _ _ _ h => h) (Or.inl ⟨by kernel_rfl, ?hyu17_4⟩) hHeld ?restu17_4
        case hyu17_4 => (intro w hSw; obtain ⟨s1, s2, s3, s4, s5⟩ := hSw; go_simp; first | done | (with_reducible rfl) | (rw [if_neg hdz]))
        try simp only [PPz]
        refine ordU_take (i := 5) (o := _) (v := ?vu17_5) rfl (by kernel_rfl) (by kernel_rfl) (by kernel_rfl) (by kernel_rfl) (fun _ _ _ h => h) (Or.inl ⟨by kernel_rfl, ?hyu17_5⟩) hHeld ?restu17_5
        case hyu17_5 => (intro w hSw; obtain ⟨s1, s2, s3, s4, s5⟩ := hSw; go_simp; first | done | (with_reducible rfl) | (rw [if_neg hdz]))
        try simp only [PPz]
        refine ordU_take (i := 6) (o := _) (v := ?vu17_6) rfl (by kernel_rfl) (by kernel_rfl) (by kernel_rfl) (by kernel_rfl) (fun _ _ _ h => h) (Or.inl ⟨by kernel_rfl, ?hyu17_6⟩) hHeld ?restu17_6
        case hyu17_6 => (intro w hSw; obtain ⟨s1, s2, s3, s4, s5⟩ := hSw; go_simp; first | done | (with_reducible rfl) | (rw [if_neg hdz]))
        try simp only [PPz]
        refine ordU_take (i := 7) (o := _) (v := ?vu17_7) rfl (by kernel_rfl) (by kernel_rfl) (by kernel_rfl) (by kernel_rfl) (fun _ _ _ h => h) (Or.inl ⟨by kernel_rfl, ?hyu17_7⟩) hHeld ?restu17_7
        case hyu17_7 => (intro w hSw; obtain ⟨s1, s2, s3, s4, s5⟩ := hSw; go_simp; first | done | (with_reducible rfl) | (rw [if_neg hdz]))
        try simp only [PPz]
        refine ordU_take (i := 8) (o := _) (v := ?vu17_8) rfl (by kernel_rfl) (by kernel_rfl) (by kernel_rfl) (by kernel_rfl) (fun _ _ _ h => h) (Or.inl ⟨by kernel_rfl, ?hyu17_8⟩) hHeld ?restu17_8
        case hyu17_8 => (intro w hSw; obtain ⟨s1, s2, s3, s4, s5⟩ := hSw; go_simp; first | done | (with_reducible rfl) | (rw [if_neg hdz]))
        try simp only [PPz]
        refine ordU_take (i := 9) (o := _) (v := ?vu17_9) rfl (by kernel_rfl) (by kernel_rfl) (by kernel_rfl) (by kernel_rfl) (fun _ _ _ h => h) (Or.inl ⟨by kernel_rfl, ?hyu17_9⟩) hHeld ?restu17_9
        case hyu17_9 => (intro w hSw; obtain ⟨s1, s2, s3, s4, s5⟩ := hSw; go_simp; first | done | (with_reducible rfl) | (rw [if_neg hdz]))
        try simp only [PPz]
        refine ordU_take (i := 10) (o := _) (v := ?vu17_10) rfl (by kernel_rfl) (by kernel_rfl) (by kernel_rfl) (by kernel_rfl) (fun _ _ _ h => h) (Or.inl ⟨by kernel_rfl, ?hyu17_10⟩) hHeld ?restu17_10
        case hyu17_10 => (intro w hSw; obtain ⟨s1, s2, s3, s4, s5⟩ := hSw; go_simp; first | done | (with_reducible rfl) | (rw [if_neg hdz]))
        try simp only [PPz]
        refine ordU_take (i := 11) (o := _) (v := ?vu17_11) rfl (by kernel_rfl) (by kernel_rfl) (by kernel_rfl) (by kernel_rfl) (fun _ _ _ h => h) (Or.inl ⟨by kernel_rfl, ?hyu17_11⟩) hHeld ?restu17_11
        case hyu17_11 => (intro w hSw; obtain ⟨s1, s2, s3, s4, s5⟩ := hSw; go_simp; first | done | (with_reducible rfl) | (rw [if_neg hdz]))
        try simp only [PPz]
        refine ordU_take (i := 12) (o := _) (v := ?vu17_12) rfl (by kernel_rfl) (by kernel_rfl) (by kernel_rfl) (by kernel_rfl) (fun _ _ _ h => h) (Or.inl ⟨by kernel_rfl, ?hyu17_12⟩) hHeld ?restu17_12
        case hyu17_12 => (intro w hSw; obtain ⟨s1, s2, s3, s4, s5⟩ := hSw; go_simp; first | done | (with_reducible rfl) | (rw [if_neg hdz]))
        try simp only [PPz]
        refine ordU_take (i := 13) (o := _) (v := ?vu17_13) rfl (by kernel_rfl) (by kernel_rfl) (by kernel_rfl) (by kernel_rfl) (fun _ _ _ h => h) (Or.inl ⟨by kernel_rfl, ?hyu17_13⟩) hHeld ?restu17_13
        case hyu17_13 => (intro w hSw; obtain ⟨s1, s2, s3, s4, s5⟩ := hSw; go_simp; first | done | (with_reducible rfl) | (rw [if_neg hdz]))
        try simp only [PPz]
        refine ordU_take (i := 14) (o := _) (v := ?vu17_14) rfl (by kernel_rfl) (by kernel_rfl) (by kernel_rfl) (by kernel_rfl) (fun _ _ _ h => h) (Or.inl ⟨by kernel_rfl, ?hyu17_14⟩) hHeld ?restu17_14
        case hyu17_14 => (intro w hSw; obtain ⟨s1, s2, s3, s4, s5⟩ := hSw; go_simp; first | done | (with_reducible rfl) | (rw [if_neg hdz]))
        try simp only [PPz]
        refine ordU_take (i := 15) (o := _) (v := ?vu17_15) rfl (by kernel_rfl) (by kernel_rfl) (by kernel_rfl) (by kernel_rfl) (fun _ _ _ h => h) (Or.inl ⟨by kernel_rfl, ?hyu17_15⟩) hHeld ?restu17_15
        case hyu17_15 => (intro w hSw; obtain ⟨s1, s2, s3, s4, s5⟩ := hSw; go_simp; first | done | (with_reducible rfl) | (rw [if_neg hdz]))
        try simp only [PPz]
        refine ordU_take (i := 16) (o := _) (v := ?vu17_16) rfl (by kernel_rfl) (by kernel_rfl) (by kernel_rfl) (by kernel_rfl) (fun _ _ _ h => h) (Or.inl ⟨by kernel_rfl, ?hyu17_16⟩) hHeld ?restu17_16
        case hyu17_16 => (intro w hSw; obtain ⟨s1, s2, s3, s4, s5⟩ := hSw; go_simp; first | done | (with_reducible rfl) | (rw [if_neg hdz]))
        try simp only [PPz]
        refine ordU_take (i := 17) (o := _) (v := ?vu17_17) rfl (by kernel_rfl) (by kernel_rfl) (by kernel_rfl) (by kernel_rfl) (fun _ _ _ h => h) (Or.inl ⟨by kernel_rfl, ?hyu17_17⟩) hHeld ?restu17_17
        case hyu17_17 => (intro w hSw; obtain ⟨s1, s2, s3, s4, s5⟩ := hSw; go_simp; first | done | (with_reducible rfl) | (rw [if_neg hdz]))
        try simp only [PPz]
        refine ordU_take (i := 18) (o := _) (v := ?vu17_18) rfl (by kernel_rfl) (by kernel_rfl) (by kernel_rfl) (by kernel_rfl) (fun _ _ _ h => h) (Or.inl ⟨by kernel_rfl, ?hyu17_18⟩) hHeld ?restu17_18
        case hyu17_18 => (intro w hSw; obtain ⟨s1, s2, s3, s4, s5⟩ := hSw; go_simp; first | done | (with_reducible rfl) | (rw [if_neg hdz]))
        try simp only [PPz]
        refine ordU_ready (rs := [19]) (by kernel_rfl) (by simp) (ReadyU.cons (o := _) rfl (by decide) (fun K hK => ?_) ReadyU.nil)
        go_simp
        refine hK.out _ _ ⟨cell_alloc HX1.out.1 _, cell_alloc HX1.out.2.1 _, cell_alloc HX1.out.2.2.1 _, cell_alloc HX1.out.2.2.2.1 _, cell_alloc HX1.out.2.2.2.2 _⟩ (fun hNew => ?_)
        clear hHeld hK K
        have hHeld := hNew
        clear hNew
        try simp only [PPz]
        refine ordU_ready (rs := [20]) (by kernel_rfl) (by simp) (ReadyU.cons (o := _) rfl (by decide) (fun K hK => ?_) ReadyU.nil)
        refine step_append_lies _ (by rfl) _ _ _ (by rfl) (w7.heap.size + 2) 3 i0 _ 1 8 Try.underlying25 HI.out HI2.out HI3.out HI4.out rfl (by omega) (.slice XA k xc) k ((List.range k).map fun i => Value.int .i64 (As.lwp V R J i)) (by rfl) ((World.ownsRow.alloc HR.out.op _).drew) ⟨wr.drew.heap.size, 0, none⟩ 1 1 [.int .i64 (lo - nl)] (by rfl) (by rfl) (World.news_of_block (cs := #[.int .i64 (lo - nl)]) (t := 3) (fr := (0, 0)) (by exact heap_alloc_new wr _)) (by simp [Value.oneCell']) (by omega) (by unfold maxLen; omega) (by omega) (by simp; omega) (wr.drew.heap.size + 1) (by simp) ?_
        intro g cap w6 hown1 hgrow0 hat hglt
        have hgrow : (wr.drew.alloc (.cells #[.int .i64 (lo - nl)] 3)).grownBy w6 (Value.slice XA k xc).ownBlock := hgrow0
        have hb6 : Below w7.heap.size w7 w6 := own_app rfl HRD.out.b (fun b e => by have := (World.ownsRow.lt HRD.out.op b e).1; omega) hgrow
        have bp6 := (HRD.out.bp.al (.cells #[.int .i64 (lo - nl)] 3)).grownT hgrow (fun e => by have := (World.ownsRow.lt HRD.out.op _ e).1; omega)
        have z1 := bp6.c 1 rfl
        have z1f := bp6.f 1 rfl
        have HRN := Lib.hid (Rx.app HRD.out hgrow (by rw [HFK.out]; exact hown1) hat)
        refine hK.out _ _ ⟨z1, keepC hb6 c1, keepC hb6 c2, keepC hb6 HRW.out, keepC hb6 HEL.out⟩ (fun hNew => ?_)
        clear hHeld hK K
        have hHeld := hNew
        clear hNew
        try simp only [PPz]
        refine ordU_take (i := 21) (o := _) (v := ?vu17_21) rfl (by kernel_rfl) (by kernel_rfl) (by kernel_rfl) (by kernel_rfl) (fun _ _ _ h => h) (Or.inl ⟨by kernel_rfl, ?hyu17_21⟩) hHeld ?restu17_21
        case hyu17_21 => (intro w hSw; obtain ⟨s1, s2, s3, s4, s5⟩ := hSw; go_simp; first | done | (with_reducible rfl) | (rw [if_neg hdz]))
        try simp only [PPz]
        refine ordU_at (by kernel_rfl) ?_
        refine rdy1 22 rfl (fun K hK => ?_)
        go_simp
        refine hK.out _ _ trivial (fun hNew => ?_)
        clear hHeld hK K hNew
        try simp only [PPz]
        refine wpAnyH_done (by kernel_rfl) ?_ _
        refine NoPanic.normal ?_
        obtain ⟨W8, hW8⟩ : ∃ W8, W8 = w6.setCell ⟨w7.heap.size, 1, none⟩ (.slice (some ⟨g, 0, none⟩) (k + 1) cap) := ⟨_, rfl⟩
        have hrn := HRN.out.swap
        rw [← hW8] at hrn ⊢
        have HR8 := Lib.hid hrn
        clear hrn HRN z1 z1f bp6 hb6 hgrow hgrow0 hown1 hat hglt hW8 HX0 HX1 HRD HFK HRW HEL hwB hwB2 w1a w2a w3a w4a w5a w6a x0 x1 hrow hcj d0 hdz hzt hz0 hz a3 n1a n1b hlw hnl
        obtain ⟨xb', xo', rb, ro, rc, heq, hrow, hcs⟩ := HROW.out J hJ
        cases heq
        have hcj := hcs k hlt
        clear hcs
        obtain ⟨XA, xc, rfl⟩ := row_formL HR8.out.op
        have HX0 := Lib.hid (show W8.cell? ⟨w7.heap.size + 1, 1, none⟩ = some (.slice XA k xc) ∧ W8.cell? ⟨w4.heap.size + 1, 0, none⟩ = some (.int .i64 _) ∧ W8.cell? ⟨w4.heap.size + 1, 1, none⟩ = some (.int .i64 _) ∧ W8.cell? ⟨xb, xo + J, none⟩ = some (.slice (some ⟨rb, ro, none⟩) V.length rc) ∧ W8.cell? ⟨rb, ro + k, none⟩ = some (.int .i64 _) from ⟨HR8.out.bp.c 1 rfl, keepC HR8.out.b c3, keepC HR8.out.b c4, keepC HR8.out.b hrow, keepC HR8.out.b hcj⟩)
        obtain ⟨n1a, n1b, _, _⟩ := HN2.out k hlt
        have hlw := HHG.out k
        obtain ⟨z, hz⟩ : ∃ z, (V.length : Int) / ((Rp.q (As.highN V (As.bst V) R J) V.length).den : Int) = z := ⟨_, rfl⟩
        have hzt : Int.tdiv (V.length : Int) ((Rp.q (As.highN V (As.bst V) R J) V.length).den : Int) = z := by rw [Int.tdiv_eq_ediv_of_nonneg (by omega)]; exact hz
        have hz0 : 0 ≤ z ∧ z ≤ V.length := by rw [← hz]; exact ⟨Int.ediv_nonneg (by omega) (by omega), Int.ediv_le_self _ (by omega)⟩
        have d0 : (((Rp.q (As.highN V (As.bst V) R J) V.length).den : Int) == 0) = false := by rw [beq_eq_false_iff_ne]; omega
        have hdz : ¬ ((Rp.q (As.highN V (As.bst V) R J) V.length).den : Int) = 0 := by omega
        have a3 : (Rp.q (As.highN V (As.bst V) R J) V.length).num * z = As.highN V (As.bst V) R J := by rw [← hz]; exact v3
        generalize hgB1 : (Rp.q (As.highN V (As.bst V) R J) V.length).num = nm at *
        generalize hgB2 : ((Rp.q (As.highN V (As.bst V) R J) V.length).den : Int) = dn at *
        generalize As.lkm V (As.bst V) J k = lk at *
        generalize hgB4 : As.highN V (As.bst V) R J = lo at *
        have HGB1 := Lib.hid hgB1
        have HGB2 := Lib.hid hgB2
        have HGB4 := Lib.hid hgB4
        clear hgB1 hgB2 hgB4
        have w1a : IntKind.i64.wrap z = z := IntWalk.i64_in _ (by omega)
        have w2a : IntKind.i64.wrap (nm * z) = lo := by rw [a3]; exact IntWalk.i64_in _ (by omega)
        obtain ⟨nl, hnl⟩ : ∃ nl, (V.length : Int) * lk = nl := ⟨_, rfl⟩
        rw [hnl] at n1a n1b hlw
        have w3a : IntKind.i64.wrap ((V.length : Int) * lk) = nl := by rw [hnl]; exact IntWalk.i64_in _ (by omega)
        have w4a : IntKind.i64.wrap (lo + nl) = lo + nl := IntWalk.i64_in _ (by omega)
        have w5a : IntKind.i64.wrap lo = lo := IntWalk.i64_in _ (by omega)
        have w6a : IntKind.i64.wrap nl = nl := IntWalk.i64_in _ (by omega)
        have HRD := Lib.hid (HR8.out.keep (Below.refl _ _).drew)
        have HFK := Lib.hid hlw
        have hwB := HR8.out.wB
        have hwB2 : w7.heap.size + 2 ≤ W8.drew.heap.size := HR8.out.wB
        have HRW := Lib.hid hrow
        have HEL := Lib.hid hcj
        have HX1 := Lib.hid (show W8.drew.cell? ⟨w7.heap.size + 1, 1, none⟩ = some (.slice XA k xc) ∧ W8.drew.cell? ⟨w4.heap.size + 1, 0, none⟩ = some (.int .i64 _) ∧ W8.drew.cell? ⟨w4.heap.size + 1, 1, none⟩ = some (.int .i64 _) ∧ W8.drew.cell? ⟨xb, xo + J, none⟩ = some (.slice (some ⟨rb, ro, none⟩) V.length rc) ∧ W8.drew.cell? ⟨rb, ro + k, none⟩ = some (.int .i64 _) from HX0.out)
        go_upto_region 18 with fail
        refine wp_region_noPanic ?_
        refine region_ordU (S := (fun v => v.cell? ⟨w7.heap.size + 1, 1, none⟩ = some (.slice XA k xc) ∧ v.cell? ⟨w4.heap.size + 1, 0, none⟩ = some (.int .i64 nm) ∧ v.cell? ⟨w4.heap.size + 1, 1, none⟩ = some (.int .i64 dn) ∧ v.cell? ⟨xb, xo + J, none⟩ = some (.slice (some ⟨rb, ro, none⟩) V.length rc) ∧ v.cell? ⟨rb, ro + k, none⟩ = some (.int .i64 lk))) (fun _ => True) 22 (by kernel_rfl) HX0.out (fun hHeld => ?_)
        refine ordU_take (i := 0) (o := _) (v := ?vu18_0) rfl (by kernel_rfl) (by kernel_rfl) (by kernel_rfl) (by kernel_rfl) (fun _ _ _ h => h) (Or.inl ⟨by kernel_rfl, ?hyu18_0⟩) hHeld ?restu18_0
        case hyu18_0 => (intro w hSw; obtain ⟨s1, s2, s3, s4, s5⟩ := hSw; go_simp; first | done | (with_reducible rfl) | (rw [if_neg hdz]))
        try simp only [PPz]
        refine ordU_take (i := 1) (o := _) (v := ?vu18_1) rfl (by kernel_rfl) (by kernel_rfl) (by kernel_rfl) (by kernel_rfl) (fun _ _ _ h => h) (Or.inl ⟨by kernel_rfl, ?hyu18_1⟩) hHeld ?restu18_1
        case hyu18_1 => (intro w hSw; obtain ⟨s1, s2, s3, s4, s5⟩ := hSw; go_simp; first | done | (with_reducible rfl) | (rw [if_neg hdz]))
        try simp only [PPz]
        refine ordU_take (i := 2) (o := _) (v := ?vu18_2) rfl (by kernel_rfl) (by kernel_rfl) (by kernel_rfl) (by kernel_rfl) (fun _ _ _ h => h) (Or.inl ⟨by kernel_rfl, ?hyu18_2⟩) hHeld ?restu18_2
        case hyu18_2 => (intro w hSw; obtain ⟨s1, s2, s3, s4, s5⟩ := hSw; go_simp; first | done | (with_reducible rfl) | (rw [if_neg hdz]))
        try simp only [PPz]
        refine ordU_take (i := 3) (o := _) (v := ?vu18_3) rfl (by kernel_rfl) (by kernel_rfl) (by kernel_rfl) (by kernel_rfl) (fun _ _ _ h => h) (Or.inl ⟨by kernel_rfl, ?hyu18_3⟩) hHeld ?restu18_3
        case hyu18_3 => (intro w hSw; obtain ⟨s1, s2, s3, s4, s5⟩ := hSw; go_simp; first | done | (with_reducible rfl) | (rw [if_neg hdz]))
        try simp only [PPz]
        refine ordU_take (i := 4) (o := _) (v := ?vu18_4) rfl (by kernel_rfl) (by kernel_rfl) (by kernel_rfl) (by kernel_rfl) (fun _ _ _ h => h) (Or.inl ⟨by kernel_rfl, ?hyu18_4⟩) hHeld ?restu18_4
        case hyu18_4 => (intro w hSw; obtain ⟨s1, s2, s3, s4, s5⟩ := hSw; go_simp; first | done | (with_reducible rfl) | (rw [if_neg hdz]))
        try simp only [PPz]
        refine ordU_take (i := 5) (o := _) (v := ?vu18_5) rfl (by kernel_rfl) (by kernel_rfl) (by kernel_rfl) (by kernel_rfl) (fun _ _ _ h => h) (Or.inl ⟨by kernel_rfl, ?hyu18_5⟩) hHeld ?restu18_5
        case hyu18_5 => (intro w hSw; obtain ⟨s1, s2, s3, s4, s5⟩ := hSw; go_simp; first | done | (with_reducible rfl) | (rw [if_neg hdz]))
        try simp only [PPz]
        refine ordU_take (i := 6) (o := _) (v := ?vu18_6) rfl (by kernel_rfl) (by kernel_rfl) (by kernel_rfl) (by kernel_rfl) (fun _ _ _ h => h) (Or.inl ⟨by kernel_rfl, ?hyu18_6⟩) hHeld ?restu18_6
        case hyu18_6 => (intro w hSw; obtain ⟨s1, s2, s3, s4, s5⟩ := hSw; go_simp; first | done | (with_reducible rfl) | (rw [if_neg hdz]))
        try simp only [PPz]
        refine ordU_take (i := 7) (o := _) (v := ?vu18_7) rfl (by kernel_rfl) (by kernel_rfl) (by kernel_rfl) (by kernel_rfl) (fun _ _ _ h => h) (Or.inl ⟨by kernel_rfl, ?hyu18_7⟩) hHeld ?restu18_7
        case hyu18_7 => (intro w hSw; obtain ⟨s1, s2, s3, s4, s5⟩ := hSw; go_simp; first | done | (with_reducible rfl) | (rw [if_neg hdz]))
        try simp only [PPz]
        refine ordU_take (i := 8) (o := _) (v := ?vu18_8) rfl (by kernel_rfl) (by kernel_rfl) (by kernel_rfl) (by kernel_rfl) (fun _ _ _ h => h) (Or.inl ⟨by kernel_rfl, ?hyu18_8⟩) hHeld ?restu18_8
        case hyu18_8 => (intro w hSw; obtain ⟨s1, s2, s3, s4, s5⟩ := hSw; go_simp; first | done | (with_reducible rfl) | (rw [if_neg hdz]))
        try simp only [PPz]
        refine ordU_take (i := 9) (o := _) (v := ?vu18_9) rfl (by kernel_rfl) (by kernel_rfl) (by kernel_rfl) (by kernel_rfl) (fun _ _ _ h => h) (Or.inl ⟨by kernel_rfl, ?hyu18_9⟩) hHeld ?restu18_9
        case hyu18_9 => (intro w hSw; obtain ⟨s1, s2, s3, s4, s5⟩ := hSw; go_simp; first | done | (with_reducible rfl) | (rw [if_neg hdz]))
        try simp only [PPz]
        refine ordU_take (i := 10) (o := _) (v := ?vu18_10) rfl (by kernel_rfl) (by kernel_rfl) (by kernel_rfl) (by kernel_rfl) (fun _ _ _ h => h) (Or.inl ⟨by kernel_rfl, ?hyu18_10⟩) hHeld ?restu18_10
        case hyu18_10 => (intro w hSw; obtain ⟨s1, s2, s3, s4, s5⟩ := hSw; go_simp; first | done | (with_reducible rfl) | (rw [if_neg hdz]))
        try simp only [PPz]
        refine ordU_take (i := 11) (o := _) (v := ?vu18_11) rfl (by kernel_rfl) (by kernel_rfl) (by kernel_rfl) (by kernel_rfl) (fun _ _ _ h => h) (Or.inl ⟨by kernel_rfl, ?hyu18_11⟩) hHeld ?restu18_11
        case hyu18_11 => (intro w hSw; obtain ⟨s1, s2, s3, s4, s5⟩ := hSw; go_simp; first | done | (with_reducible rfl) | (rw [if_neg hdz]))
        try simp only [PPz]
        refine ordU_take (i := 12) (o := _) (v := ?vu18_12) rfl (by kernel_rfl) (by kernel_rfl) (by kernel_rfl) (by kernel_rfl) (fun _ _ _ h => h) (Or.inl ⟨by kernel_rfl, ?hyu18_12⟩) hHeld ?restu18_12
        case hyu18_12 => (intro w hSw; obtain ⟨s1, s2, s3, s4, s5⟩ := hSw; go_simp; first | done | (with_reducible rfl) | (rw [if_neg hdz]))
        try simp only [PPz]
        refine ordU_take (i := 13) (o := _) (v := ?vu18_13) rfl (by kernel_rfl) (by kernel_rfl) (by kernel_rfl) (by kernel_rfl) (fun _ _ _ h => h) (Or.inl ⟨by kernel_rfl, ?hyu18_13⟩) hHeld ?restu18_13
        case hyu18_13 => (intro w hSw; obtain ⟨s1, s2, s3, s4, s5⟩ := hSw; go_simp; first | done | (with_reducible rfl) | (rw [if_neg hdz]))
        try simp only [PPz]
        refine ordU_take (i := 14) (o := _) (v := ?vu18_14) rfl (by kernel_rfl) (by kernel_rfl) (by kernel_rfl) (by kernel_rfl) (fun _ _ _ h => h) (Or.inl ⟨by kernel_rfl, ?hyu18_14⟩) hHeld ?restu18_14
        case hyu18_14 => (intro w hSw; obtain ⟨s1, s2, s3, s4, s5⟩ := hSw; go_simp; first | done | (with_reducible rfl) | (rw [if_neg hdz]))
        try simp only [PPz]
        refine ordU_take (i := 15) (o := _) (v := ?vu18_15) rfl (by kernel_rfl) (by kernel_rfl) (by kernel_rfl) (by kernel_rfl) (fun _ _ _ h => h) (Or.inl ⟨by kernel_rfl, ?hyu18_15⟩) hHeld ?restu18_15
        case hyu18_15 => (intro w hSw; obtain ⟨s1, s2, s3, s4, s5⟩ := hSw; go_simp; first | done | (with_reducible rfl) | (rw [if_neg hdz]))
        try simp only [PPz]
        refine ordU_take (i := 16) (o := _) (v := ?vu18_16) rfl (by kernel_rfl) (by kernel_rfl) (by kernel_rfl) (by kernel_rfl) (fun _ _ _ h => h) (Or.inl ⟨by kernel_rfl, ?hyu18_16⟩) hHeld ?restu18_16
        case hyu18_16 => (intro w hSw; obtain ⟨s1, s2, s3, s4, s5⟩ := hSw; go_simp; first | done | (with_reducible rfl) | (rw [if_neg hdz]))
        try simp only [PPz]
        refine ordU_take (i := 17) (o := _) (v := ?vu18_17) rfl (by kernel_rfl) (by kernel_rfl) (by kernel_rfl) (by kernel_rfl) (fun _ _ _ h => h) (Or.inl ⟨by kernel_rfl, ?hyu18_17⟩) hHeld ?restu18_17
        case hyu18_17 => (intro w hSw; obtain ⟨s1, s2, s3, s4, s5⟩ := hSw; go_simp; first | done | (with_reducible rfl) | (rw [if_neg hdz]))
        try simp only [PPz]
        refine ordU_take (i := 18) (o := _) (v := ?vu18_18) rfl (by kernel_rfl) (by kernel_rfl) (by kernel_rfl) (by kernel_rfl) (fun _ _ _ h => h) (Or.inl ⟨by kernel_rfl, ?hyu18_18⟩) hHeld ?restu18_18
        case hyu18_18 => (intro w hSw; obtain ⟨s1, s2, s3, s4, s5⟩ := hSw; go_simp; first | done | (with_reducible rfl) | (rw [if_neg hdz]))
        try simp only [PPz]
        refine ordU_ready (rs := [19]) (by kernel_rfl) (by simp) (ReadyU.cons (o := _) rfl (by decide) (fun K hK => ?_) ReadyU.nil)
        go_simp
        refine hK.out _ _ ⟨cell_alloc HX1.out.1 _, cell_alloc HX1.out.2.1 _, cell_alloc HX1.out.2.2.1 _, cell_alloc HX1.out.2.2.2.1 _, cell_alloc HX1.out.2.2.2.2 _⟩ (fun hNew => ?_)
        clear hHeld hK K
        have hHeld := hNew
        clear hNew
        try simp only [PPz]
        refine ordU_ready (rs := [20]) (by kernel_rfl) (by simp) (ReadyU.cons (o := _) rfl (by decide) (fun K hK => ?_) ReadyU.nil)
        refine step_append_lies _ (by rfl) _ _ _ (by rfl) (w7.heap.size + 2) 3 i0 _ 1 8 Try.underlying25 HI.out HI2.out HI3.out HI4.out rfl (by omega) (.slice XA k xc) k ((List.range k).map fun i => Value.int .i64 (As.hgp V R J i)) (by rfl) ((World.ownsRow.alloc HR8.out.op _).drew) ⟨W8.drew.heap.size, 0, none⟩ 1 1 [.int .i64 (lo + nl)] (by rfl) (by rfl) (World.news_of_block (cs := #[.int .i64 (lo + nl)]) (t := 3) (fr := (0, 0)) (by exact heap_alloc_new W8 _)) (by simp [Value.oneCell']) (by omega) (by unfold maxLen; omega) (by omega) (by simp; omega) (W8.drew.heap.size + 1) (by simp) ?_
        intro g cap w6 hown1 hgrow0 hat hglt
        have hgrow : (W8.drew.alloc (.cells #[.int .i64 (lo + nl)] 3)).grownBy w6 (Value.slice XA k xc).ownBlock := hgrow0
        have hb6 : Below w7.heap.size w7 w6 := own_app rfl HRD.out.b (fun b e => by have := (World.ownsRow.lt HRD.out.op b e).1; omega) hgrow
        have bp6 := (HRD.out.bp.al (.cells #[.int .i64 (lo + nl)] 3)).grownT hgrow (fun e => by have := (World.ownsRow.lt HRD.out.op _ e).1; omega)
        have z1 := bp6.c 1 rfl
        have z1f := bp6.f 1 rfl
        have HRN := Lib.hid (Rx.app HRD.out hgrow (by rw [HFK.out]; exact hown1) hat)
        refine hK.out _ _ ⟨z1, keepC hb6 c3, keepC hb6 c4, keepC hb6 HRW.out, keepC hb6 HEL.out⟩ (fun hNew => ?_)
        clear hHeld hK K
        have hHeld := hNew
        clear hNew
        try simp only [PPz]
        refine ordU_take (i := 21) (o := _) (v := ?vu18_21) rfl (by kernel_rfl) (by kernel_rfl) (by kernel_rfl) (by kernel_rfl) (fun _ _ _ h => h) (Or.inl ⟨by kernel_rfl, ?hyu18_21⟩) hHeld ?restu18_21
        case hyu18_21 => (intro w hSw; obtain ⟨s1, s2, s3, s4, s5⟩ := hSw; go_simp; first | done | (with_reducible rfl) | (rw [if_neg hdz]))
        try simp only [PPz]
        refine ordU_at (by kernel_rfl) ?_
        refine rdy1 22 rfl (fun K hK => ?_)
        go_simp
        refine hK.out _ _ trivial (fun hNew => ?_)
        clear hHeld hK K hNew
        try simp only [PPz]
        refine wpAnyH_done (by kernel_rfl) ?_ _
        refine NoPanic.normal ?_
        go_wp2_with fail
        have qB4 := HGB4.out
        subst qB4
        have qB1 := HGB1.out
        subst qB1
        have qB2 := HGB2.out
        subst qB2
        have qA4 := HGA4.out
        subst qA4
        have qA1 := HGA1.out
        subst qA1
        have qA2 := HGA2.out
        subst qA2
        go_roundw
        case rel => exact ⟨k + 1, by omega, by go_num, _, _, Lib.hid HRN.out.swap⟩
        case measure => simp [intOf]; omega
      · obtain rfl : k = V.length := by omega
        obtain ⟨XA, xc, rfl⟩ := row_formL HR.out.op
        obtain ⟨YA, yc, rfl⟩ := row_formL HR.out.oq
        obtain ⟨⟨leX, ctX⟩, ⟨leY, ctY⟩⟩ := As.ends_ok ok r0 r1 hJ
        have iX := Lib.hid (rr_isI HR.out.op (fun j hj => by have := leX.pb j hj; rw [el_ml hj] at this; unfold I64; omega))
        have iY := Lib.hid (rr_isI HR.out.oq (fun j hj => by have := leY.pb j hj; rw [el_ml hj] at this; unfold I64; omega))
        have Lx := Lib.hid HR.out.bp
        have Ly := Lib.hid HR.out.bq
        have hb := HR.out.b
        replace HA := Lib.hid (HA.out.keep hb)
        replace HIB := Lib.hid (HIB.out.keep hb)
        replace HIC := Lib.hid (HIC.out.keep hb)
        replace B0 := Lib.hid (B0.out.keep hb)
        replace B1 := Lib.hid (B1.out.keep hb)
        replace Ba := Lib.hid (Ba.out.keep hb)
        replace Bb := Lib.hid (Bb.out.keep hb)
        replace IX := Lib.hid (IX.out.keep hb)
        replace HB := Lib.hid (keepB HB.out hb)
        have CEx := Lib.hid (fun v (hA : IsM v A V) (hX : IsI v X (As.al (As.bst V))) (hY : IsI v XA (ml V.length (As.lwp V R J))) => even14_any A cv V R X cx (As.bst V) XA xc (ml V.length (As.lwp V R J)) V.length v ⟨ok, r0, r1, leX, hA, hX, hY⟩ ctX)
        have CEy := Lib.hid (fun v (hA : IsM v A V) (hX : IsI v X (As.al (As.bst V))) (hY : IsI v YA (ml V.length (As.hgp V R J))) => even14_any A cv V R X cx (As.bst V) YA yc (ml V.length (As.hgp V R J)) V.length v ⟨ok, r0, r1, leY, hA, hX, hY⟩ ctY)
        clear HR hb leX leY ctX ctY HROW HCC HN1 HN2 HLW HHG HRB u3 v3 HI HI2 HI3 HI4
        have cB00 := B0.out.c 0 rfl
        have cB01 := B0.out.c 1 rfl
        have cLx0 := Lx.out.c 0 rfl
        have cLx1 := Lx.out.c 1 rfl
        have cLx2 := Lx.out.c 2 rfl
        go_wp2_with fail
        refine (CEx.out _ HA.out IX.out iX.out).mono ?_
        rintro e x1 ⟨rfl, hb⟩
        replace HA := Lib.hid (HA.out.keep hb)
        replace HIB := Lib.hid (HIB.out.keep hb)
        replace HIC := Lib.hid (HIC.out.keep hb)
        replace B0 := Lib.hid (B0.out.keep hb)
        replace B1 := Lib.hid (B1.out.keep hb)
        replace Ba := Lib.hid (Ba.out.keep hb)
        replace Bb := Lib.hid (Bb.out.keep hb)
        replace IX := Lib.hid (IX.out.keep hb)
        replace Lx := Lib.hid (Lx.out.keep hb)
        replace Ly := Lib.hid (Ly.out.keep hb)
        replace iX := Lib.hid (iX.out.keep hb)
        replace iY := Lib.hid (iY.out.keep hb)
        replace HB := Lib.hid (keepB HB.out hb)
        clear cB00 cB01 cLx0 cLx1 cLx2 hb
        have cB00 := B0.out.c 0 rfl
        have cB01 := B0.out.c 1 rfl
        have cLy0 := Ly.out.c 0 rfl
        have cLy1 := Ly.out.c 1 rfl
        have cLy2 := Ly.out.c 2 rfl
        go_wp2_with fail
        refine (CEy.out _ HA.out IX.out iY.out).mono ?_
        rintro e x2 ⟨rfl, hb⟩
        replace HA := Lib.hid (HA.out.keep hb)
        replace HIB := Lib.hid (HIB.out.keep hb)
        replace HIC := Lib.hid (HIC.out.keep hb)
        replace B0 := Lib.hid (B0.out.keep hb)
        replace B1 := Lib.hid (B1.out.keep hb)
        replace Ba := Lib.hid (Ba.out.keep hb)
        replace Bb := Lib.hid (Bb.out.keep hb)
        replace IX := Lib.hid (IX.out.keep hb)
        replace Lx := Lib.hid (Lx.out.keep hb)
        replace Ly := Lib.hid (Ly.out.keep hb)
        replace iX := Lib.hid (iX.out.keep hb)
        replace iY := Lib.hid (iY.out.keep hb)
        replace HB := Lib.hid (keepB HB.out hb)
        clear cB00 cB01 cLy0 cLy1 cLy2 hb
        by_cases hp : 50 < ps.length
        · have d1 : decide ((50 : Int) < (ps.length : Int)) = true := by rw [decide_eq_true_eq]; omega
          have c0 := B0.out.c 0 rfl
          have c1 := B1.out.c 0 rfl
          have c2 := B1.out.c 1 rfl
          have cB00 := B0.out.c 0 rfl
          have cB01 := B0.out.c 1 rfl
          have cLx0 := Lx.out.c 0 rfl
          have cLx1 := Lx.out.c 1 rfl
          have cLx2 := Lx.out.c 2 rfl
          go_wp2_with fail
          refine (CEx.out _ HA.out IX.out iX.out).mono ?_
          rintro e x3 ⟨rfl, hb⟩
          replace HA := Lib.hid (HA.out.keep hb)
          replace HIB := Lib.hid (HIB.out.keep hb)
          replace HIC := Lib.hid (HIC.out.keep hb)
          replace B0 := Lib.hid (B0.out.keep hb)
          replace B1 := Lib.hid (B1.out.keep hb)
          replace Ba := Lib.hid (Ba.out.keep hb)
          replace Bb := Lib.hid (Bb.out.keep hb)
          replace IX := Lib.hid (IX.out.keep hb)
          replace Lx := Lib.hid (Lx.out.keep hb)
          replace Ly := Lib.hid (Ly.out.keep hb)
          replace iX := Lib.hid (iX.out.keep hb)
          replace iY := Lib.hid (iY.out.keep hb)
          replace HB := Lib.hid (keepB HB.out hb)
          clear cB00 cB01 cLx0 cLx1 cLx2 hb
          have cB00 := B0.out.c 0 rfl
          have cB01 := B0.out.c 1 rfl
          have cLy0 := Ly.out.c 0 rfl
          have cLy1 := Ly.out.c 1 rfl
          have cLy2 := Ly.out.c 2 rfl
          go_wp2_with fail
          refine (CEy.out _ HA.out IX.out iY.out).mono ?_
          rintro e x4 ⟨rfl, hb⟩
          replace HA := Lib.hid (HA.out.keep hb)
          replace HIB := Lib.hid (HIB.out.keep hb)
          replace HIC := Lib.hid (HIC.out.keep hb)
          replace B0 := Lib.hid (B0.out.keep hb)
          replace B1 := Lib.hid (B1.out.keep hb)
          replace Ba := Lib.hid (Ba.out.keep hb)
          replace Bb := Lib.hid (Bb.out.keep hb)
          replace IX := Lib.hid (IX.out.keep hb)
          replace Lx := Lib.hid (Lx.out.keep hb)
          replace Ly := Lib.hid (Ly.out.keep hb)
          replace iX := Lib.hid (iX.out.keep hb)
          replace iY := Lib.hid (iY.out.keep hb)
          replace HB := Lib.hid (keepB HB.out hb)
          clear cB00 cB01 cLy0 cLy1 cLy2 hb
          go_wp2_with fail
          go_ret
          exact ⟨rfl, HB.out⟩
        have d1 : decide ((50 : Int) < (ps.length : Int)) = false := by rw [decide_eq_false_iff_not]; omega
        by_cases hq : 50 < xs.length
        · have d2 : decide ((50 : Int) < (xs.length : Int)) = true := by rw [decide_eq_true_eq]; omega
          have c0 := B0.out.c 0 rfl
          have c1 := B1.out.c 0 rfl
          have c2 := B1.out.c 1 rfl
          have cB00 := B0.out.c 0 rfl
          have cB01 := B0.out.c 1 rfl
          have cLx0 := Lx.out.c 0 rfl
          have cLx1 := Lx.out.c 1 rfl
          have cLx2 := Lx.out.c 2 rfl
          go_wp2_with fail
          refine (CEx.out _ HA.out IX.out iX.out).mono ?_
          rintro e x3 ⟨rfl, hb⟩
          replace HA := Lib.hid (HA.out.keep hb)
          replace HIB := Lib.hid (HIB.out.keep hb)
          replace HIC := Lib.hid (HIC.out.keep hb)
          replace B0 := Lib.hid (B0.out.keep hb)
          replace B1 := Lib.hid (B1.out.keep hb)
          replace Ba := Lib.hid (Ba.out.keep hb)
          replace Bb := Lib.hid (Bb.out.keep hb)
          replace IX := Lib.hid (IX.out.keep hb)
          replace Lx := Lib.hid (Lx.out.keep hb)
          replace Ly := Lib.hid (Ly.out.keep hb)
          replace iX := Lib.hid (iX.out.keep hb)
          replace iY := Lib.hid (iY.out.keep hb)
          replace HB := Lib.hid (keepB HB.out hb)
          clear cB00 cB01 cLx0 cLx1 cLx2 hb
          have cB00 := B0.out.c 0 rfl
          have cB01 := B0.out.c 1 rfl
          have cLy0 := Ly.out.c 0 rfl
          have cLy1 := Ly.out.c 1 rfl
          have cLy2 := Ly.out.c 2 rfl
          go_wp2_with fail
          refine (CEy.out _ HA.out IX.out iY.out).mono ?_
          rintro e x4 ⟨rfl, hb⟩
          replace HA := Lib.hid (HA.out.keep hb)
          replace HIB := Lib.hid (HIB.out.keep hb)
          replace HIC := Lib.hid (HIC.out.keep hb)
          replace B0 := Lib.hid (B0.out.keep hb)
          replace B1 := Lib.hid (B1.out.keep hb)
          replace Ba := Lib.hid (Ba.out.keep hb)
          replace Bb := Lib.hid (Bb.out.keep hb)
          replace IX := Lib.hid (IX.out.keep hb)
          replace Lx := Lib.hid (Lx.out.keep hb)
          replace Ly := Lib.hid (Ly.out.keep hb)
          replace iX := Lib.hid (iX.out.keep hb)
          replace iY := Lib.hid (iY.out.keep hb)
          replace HB := Lib.hid (keepB HB.out hb)
          clear cB00 cB01 cLy0 cLy1 cLy2 hb
          go_wp2_with fail
          go_ret
          exact ⟨rfl, HB.out⟩
        have d2 : decide ((50 : Int) < (xs.length : Int)) = false := by rw [decide_eq_false_iff_not]; omega
        have c0 := B0.out.c 0 rfl
        have c1 := B1.out.c 0 rfl
        have c2 := B1.out.c 1 rfl
        generalize hv0 : As.vld V R xs ps D = vl0 at *
        have cB00 := B0.out.c 0 rfl
        have cB01 := B0.out.c 1 rfl
        have cB10 := B1.out.c 0 rfl
        have cB11 := B1.out.c 1 rfl
        have cB12 := B1.out.c 2 rfl
        go_wp2_with fail
        refine (C5.out _ HA.out HIB.out HIC.out).mono ?_
        rintro e x5 ⟨rfl, hb⟩
        replace HA := Lib.hid (HA.out.keep hb)
        replace HIB := Lib.hid (HIB.out.keep hb)
        replace HIC := Lib.hid (HIC.out.keep hb)
        replace B0 := Lib.hid (B0.out.keep hb)
        replace B1 := Lib.hid (B1.out.keep hb)
        replace Ba := Lib.hid (Ba.out.keep hb)
        replace Bb := Lib.hid (Bb.out.keep hb)
        replace IX := Lib.hid (IX.out.keep hb)
        replace Lx := Lib.hid (Lx.out.keep hb)
        replace Ly := Lib.hid (Ly.out.keep hb)
        replace iX := Lib.hid (iX.out.keep hb)
        replace iY := Lib.hid (iY.out.keep hb)
        replace HB := Lib.hid (keepB HB.out hb)
        clear c0 c1 c2 cB00 cB01 cB10 cB11 cB12 hb
        clear C5 d1 d2
        by_cases hz0 : vl0 = 0
        · subst hz0
          have C6' := Lib.hid (fun v hv hX hY => C6.out v hv hX hY rfl)
          clear C6
          generalize hzf : decide (As.enS V R xs ps D = []) = zf at C6'
          have cB00 := B0.out.c 0 rfl
          have cB01 := B0.out.c 1 rfl
          have cB10 := B1.out.c 0 rfl
          have cB11 := B1.out.c 1 rfl
          have cB12 := B1.out.c 2 rfl
          go_wp2_with fail
          refine (C6'.out _ HA.out HIB.out HIC.out).mono ?_
          rintro e x6 ⟨rfl, hb⟩
          replace HA := Lib.hid (HA.out.keep hb)
          replace HIB := Lib.hid (HIB.out.keep hb)
          replace HIC := Lib.hid (HIC.out.keep hb)
          replace B0 := Lib.hid (B0.out.keep hb)
          replace B1 := Lib.hid (B1.out.keep hb)
          replace Ba := Lib.hid (Ba.out.keep hb)
          replace Bb := Lib.hid (Bb.out.keep hb)
          replace IX := Lib.hid (IX.out.keep hb)
          replace Lx := Lib.hid (Lx.out.keep hb)
          replace Ly := Lib.hid (Ly.out.keep hb)
          replace iX := Lib.hid (iX.out.keep hb)
          replace iY := Lib.hid (iY.out.keep hb)
          replace HB := Lib.hid (keepB HB.out hb)
          clear cB00 cB01 cB10 cB11 cB12 hb
          clear C6'
          cases zf with
          | false =>
            have cB00 := B0.out.c 0 rfl
            have cB01 := B0.out.c 1 rfl
            have cLx0 := Lx.out.c 0 rfl
            have cLx1 := Lx.out.c 1 rfl
            have cLx2 := Lx.out.c 2 rfl
            go_wp2_with fail
            refine (CEx.out _ HA.out IX.out iX.out).mono ?_
            rintro e x7 ⟨rfl, hb⟩
            replace HA := Lib.hid (HA.out.keep hb)
            replace HIB := Lib.hid (HIB.out.keep hb)
            replace HIC := Lib.hid (HIC.out.keep hb)
            replace B0 := Lib.hid (B0.out.keep hb)
            replace B1 := Lib.hid (B1.out.keep hb)
            replace Ba := Lib.hid (Ba.out.keep hb)
            replace Bb := Lib.hid (Bb.out.keep hb)
            replace IX := Lib.hid (IX.out.keep hb)
            replace Lx := Lib.hid (Lx.out.keep hb)
            replace Ly := Lib.hid (Ly.out.keep hb)
            replace iX := Lib.hid (iX.out.keep hb)
            replace iY := Lib.hid (iY.out.keep hb)
            replace HB := Lib.hid (keepB HB.out hb)
            clear cB00 cB01 cLx0 cLx1 cLx2 hb
            have cB00 := B0.out.c 0 rfl
            have cB01 := B0.out.c 1 rfl
            have cLy0 := Ly.out.c 0 rfl
            have cLy1 := Ly.out.c 1 rfl
            have cLy2 := Ly.out.c 2 rfl
            go_wp2_with fail
            refine (CEy.out _ HA.out IX.out iY.out).mono ?_
            rintro e x8 ⟨rfl, hb⟩
            replace HA := Lib.hid (HA.out.keep hb)
            replace HIB := Lib.hid (HIB.out.keep hb)
            replace HIC := Lib.hid (HIC.out.keep hb)
            replace B0 := Lib.hid (B0.out.keep hb)
            replace B1 := Lib.hid (B1.out.keep hb)
            replace Ba := Lib.hid (Ba.out.keep hb)
            replace Bb := Lib.hid (Bb.out.keep hb)
            replace IX := Lib.hid (IX.out.keep hb)
            replace Lx := Lib.hid (Lx.out.keep hb)
            replace Ly := Lib.hid (Ly.out.keep hb)
            replace iX := Lib.hid (iX.out.keep hb)
            replace iY := Lib.hid (iY.out.keep hb)
            replace HB := Lib.hid (keepB HB.out hb)
            clear cB00 cB01 cLy0 cLy1 cLy2 hb
            go_wp2_with fail
            go_ret
            exact ⟨rfl, HB.out⟩
          | true =>
            have hen := of_decide_eq_true hzf
            obtain ⟨a, hxa, hL⟩ := ls_of hv0 HA.out HIB.out HIC.out
            have ct : As.Cont (As.sc D V) a (As.el ps) := by
              subst hxa
              exact (As.envl_nil hL.le.perm).1 (by rw [As.enS_yes hv0] at hen; exact hen)
            have lp := hL.le.len
            have e1 := hL.le.d1
            have e60 := hL.le.d60
            obtain ⟨pb0, pb1⟩ := hL.le.pb J hJ
            obtain ⟨k1, k2⟩ := As.in_range (R := R) ok hL.le ct hJ
            have CMK := Lib.hid (fun v => rr_make (a := As.el ps J) (n := D) e1 (by omega) (by omega) (by omega) v)
            have CL1 := Lib.hid (fun v => rr_less (a := As.el ps J) (n := D) (c := As.lowN V (As.bst V) R J) (d := V.length) e1 (by omega) (by omega) (by omega) (by omega) (by omega) (by omega) (by omega) k1 v)
            have CL2 := Lib.hid (fun v => rr_less (a := As.highN V (As.bst V) R J) (n := V.length) (c := As.el ps J) (d := D) (by omega) (by omega) (by omega) (by omega) e1 (by omega) (by omega) (by omega) k2 v)
            obtain ⟨qb, ob, rfl, hps⟩ := list_at HIC.out (j := J) (by rw [lp]; exact hJ)
            have z2 := hps J (by rw [lp]; exact hJ)
            rw [lp] at B1 ⊢
            clear hL ct hen hzf hv0 k1 k2 hps hxa pb0 pb1 CEx CEy IX iX iY Lx Ly
            generalize (Rp.q (As.el ps J) D).num = m1 at *
            generalize ((Rp.q (As.el ps J) D).den : Int) = m2 at *
            generalize As.el ps J = pj at *
            have i1 : (J : Int) < (V.length : Int) := by omega
            have g2 := B1.out.c 0 rfl
            have g3 := B1.out.c 1 rfl
            have g4 := B1.out.c 2 rfl
            go_wp2_with fail
            go_upto_region 21 with fail
            refine wp_region_noPanic ?_
            refine wp_region_held_drew (S := (Below x6.heap.size x6)) (by kernel_rfl) ((Below.refl _ _).drew) (fun hHeld => ?_)
            refine at_anyH (Below x6.heap.size x6) hHeld (fun wd0 hNew => ?_)
            clear hHeld
            have hHeld := hNew
            clear hNew
            refine tkd 0 ?_
            try simp only [PPz]
            refine tkm 1 rfl hHeld (fun w hSw => by have kz2 := keepC hSw z2; have kg2 := keepC hSw g2; have kg3 := keepC hSw g3; have kg4 := keepC hSw g4; go_simp <;> with_reducible rfl) ?_
            try simp only [PPz]
            refine tkd 2 ?_
            try simp only [PPz]
            refine tkd 3 ?_
            try simp only [PPz]
            refine tkm 4 rfl hHeld (fun w hSw => by have kz2 := keepC hSw z2; have kg2 := keepC hSw g2; have kg3 := keepC hSw g3; have kg4 := keepC hSw g4; go_simp <;> with_reducible rfl) ?_
            try simp only [PPz]
            refine tkd 5 ?_
            try simp only [PPz]
            refine tkm 6 rfl hHeld (fun w hSw => by have kz2 := keepC hSw z2; have kg2 := keepC hSw g2; have kg3 := keepC hSw g3; have kg4 := keepC hSw g4; go_simp <;> with_reducible rfl) ?_
            try simp only [PPz]
            refine dag (fun G a => ∀  (pX : Nat) (W : World), Below x6.heap.size x6 W → BK W pX [.int .i64 m1, .int .i64 m2] → x6.heap.size ≤ pX → G 1 #[true, true, true, true, true, true, true, true, true, true, true, true, true, false] (((((a.put (some 227) (.tuple #[.agg #[.int .i64 m1, .int .i64 m2], .int .i64 0])).put (some 219) (.tuple #[.agg #[.int .i64 m1, .int .i64 m2], .int .i64 0])).put (some 228) (.agg #[.int .i64 m1, .int .i64 m2])).put (some 229) (.int .i64 0)).put (some 20) (.pointer (some ⟨pX, 0, none⟩))) W) ?_ (fun Nd0 => ?_)
            ·
             intro pX wds0 hHeld BX hX
             try simp only [PPz]
             refine tkd 13 ?_
             try simp only [PPz]
             refine wpAnyH_done (by kernel_rfl) ?_ _
             refine NoPanic.normal ?_
             have hb := hHeld
             replace Ba := Lib.hid (Ba.out.keep hb)
             replace Bb := Lib.hid (Bb.out.keep hb)
             replace HB := Lib.hid (keepB HB.out hb)
             have BG := Lib.hid BX
             clear hb hHeld BX z2 g2 g3 g4
             have cBG0 := BG.out.c 0 rfl
             have cBG1 := BG.out.c 1 rfl
             have cBa0 := Ba.out.c 0 rfl
             have cBa1 := Ba.out.c 1 rfl
             go_wp2_with fail
             refine (CL1.out _).mono ?_
             rintro e v1 ⟨rfl, hb⟩
             replace Ba := Lib.hid (Ba.out.keep hb)
             replace Bb := Lib.hid (Bb.out.keep hb)
             replace BG := Lib.hid (BG.out.keep hb)
             replace HB := Lib.hid (keepB HB.out hb)
             clear cBG0 cBG1 cBa0 cBa1 hb
             have cBG0 := BG.out.c 0 rfl
             have cBG1 := BG.out.c 1 rfl
             have cBb0 := Bb.out.c 0 rfl
             have cBb1 := Bb.out.c 1 rfl
             go_wp2_with fail
             refine (CL2.out _).mono ?_
             rintro e v2 ⟨rfl, hb⟩
             replace Ba := Lib.hid (Ba.out.keep hb)
             replace Bb := Lib.hid (Bb.out.keep hb)
             replace BG := Lib.hid (BG.out.keep hb)
             replace HB := Lib.hid (keepB HB.out hb)
             clear cBG0 cBG1 cBb0 cBb1 hb
             go_wp2_with fail
             go_ret
             exact ⟨rfl, HB.out⟩
            refine rdy2 7 11 rfl rfl (fun K hK => ?_) (fun K hK => ?_)
            ·
             go_simp
             refine (CMK.out _).mono ?_
             rintro e wd9 ⟨rfl, hb3⟩
             go_wp2_with fail
             refine hK.out _ _ (keepB hHeld hb3) (fun hNew => ?_)
             clear hb3
             clear hHeld hK K
             have hHeld := hNew
             clear hNew
             try simp only [PPz]
             refine tkd 8 ?_
             try simp only [PPz]
             refine tkd 9 ?_
             try simp only [PPz]
             refine tkd 10 ?_
             try simp only [PPz]
             refine rdy1 11 rfl (fun K hK => ?_)
             go_simp
             refine hK.out _ _ (below_al hHeld _) (fun hNew => ?_)
             have hX : x6.heap.size ≤ wd9.heap.size := hHeld.size
             clear hHeld hK K
             have hHeld := hNew
             clear hNew
             try simp only [PPz]
             refine at_anyH (fun v => Below x6.heap.size x6 v ∧ BK v wd9.heap.size [.int .i64 0, .int .i64 0]) ⟨hHeld, BK.new _ _ _⟩ (fun wd13 hS => ?_)
             clear hHeld
             obtain ⟨hHeld, BX⟩ := hS
             refine rdy1 12 rfl (fun K hK => ?_)
             have n0 := BX.c 0 rfl
             have f0 := BX.f 0 rfl
             have n1 := BX.c 1 rfl
             have f1 := BX.f 1 rfl
             go_simp
             clear n0 f0 n1 f1
             refine hK.out _ _ (below_set (below_set hHeld (by omega) _) (by omega) _) (fun hNew => ?_)
             clear hHeld hK K
             have hHeld := hNew
             clear hNew
             try simp only [PPz]
             refine at_anyH (fun v => Below x6.heap.size x6 v ∧ BK v wd9.heap.size [.int .i64 m1, .int .i64 m2]) ⟨hHeld, ((BX.set 0 _).set 1 _)⟩ (fun wd14 hS => ?_)
             clear hHeld BX
             obtain ⟨hHeld, BX⟩ := hS
             exact dag_use (Nd0.out _ _ hHeld BX hX) (by kernel_rfl) (by kernel_rfl)
            ·
             go_simp
             refine hK.out _ _ (below_al hHeld _) (fun hNew => ?_)
             have hX : x6.heap.size ≤ wd0.heap.size := hHeld.size
             clear hHeld hK K
             have hHeld := hNew
             clear hNew
             try simp only [PPz]
             refine at_anyH (fun v => Below x6.heap.size x6 v ∧ BK v wd0.heap.size [.int .i64 0, .int .i64 0]) ⟨hHeld, BK.new _ _ _⟩ (fun wd15 hS => ?_)
             clear hHeld
             obtain ⟨hHeld, BX⟩ := hS
             refine rdy1 7 rfl (fun K hK => ?_)
             go_simp
             refine (CMK.out _).mono ?_
             rintro e wd16 ⟨rfl, hb3⟩
             go_wp2_with fail
             refine hK.out _ _ (keepB hHeld hb3) (fun hNew => ?_)
             replace BX := BX.keep hb3
             clear hb3
             clear hHeld hK K
             have hHeld := hNew
             clear hNew
             try simp only [PPz]
             refine tkd 8 ?_
             try simp only [PPz]
             refine tkd 9 ?_
             try simp only [PPz]
             refine tkd 10 ?_
             try simp only [PPz]
             refine rdy1 12 rfl (fun K hK => ?_)
             have n0 := BX.c 0 rfl
             have f0 := BX.f 0 rfl
             have n1 := BX.c 1 rfl
             have f1 := BX.f 1 rfl
             go_simp
             clear n0 f0 n1 f1
             refine hK.out _ _ (below_set (below_set hHeld (by omega) _) (by omega) _) (fun hNew => ?_)
             clear hHeld hK K
             have hHeld := hNew
             clear hNew
             try simp only [PPz]
             refine at_anyH (fun v => Below x6.heap.size x6 v ∧ BK v wd0.heap.size [.int .i64 m1, .int .i64 m2]) ⟨hHeld, ((BX.set 0 _).set 1 _)⟩ (fun wd20 hS => ?_)
             clear hHeld BX
             obtain ⟨hHeld, BX⟩ := hS
             exact dag_use (Nd0.out _ _ hHeld BX hX) (by kernel_rfl) (by kernel_rfl)
        · have d3 : (vl0 != 0) = true := by rw [bne_iff_ne]; exact hz0
          clear C6
          have cB00 := B0.out.c 0 rfl
          have cB01 := B0.out.c 1 rfl
          have cLx0 := Lx.out.c 0 rfl
          have cLx1 := Lx.out.c 1 rfl
          have cLx2 := Lx.out.c 2 rfl
          go_wp2_with fail
          refine (CEx.out _ HA.out IX.out iX.out).mono ?_
          rintro e x7 ⟨rfl, hb⟩
          replace HA := Lib.hid (HA.out.keep hb)
          replace HIB := Lib.hid (HIB.out.keep hb)
          replace HIC := Lib.hid (HIC.out.keep hb)
          replace B0 := Lib.hid (B0.out.keep hb)
          replace B1 := Lib.hid (B1.out.keep hb)
          replace Ba := Lib.hid (Ba.out.keep hb)
          replace Bb := Lib.hid (Bb.out.keep hb)
          replace IX := Lib.hid (IX.out.keep hb)
          replace Lx := Lib.hid (Lx.out.keep hb)
          replace Ly := Lib.hid (Ly.out.keep hb)
          replace iX := Lib.hid (iX.out.keep hb)
          replace iY := Lib.hid (iY.out.keep hb)
          replace HB := Lib.hid (keepB HB.out hb)
          clear cB00 cB01 cLx0 cLx1 cLx2 hb
          have cB00 := B0.out.c 0 rfl
          have cB01 := B0.out.c 1 rfl
          have cLy0 := Ly.out.c 0 rfl
          have cLy1 := Ly.out.c 1 rfl
          have cLy2 := Ly.out.c 2 rfl
          go_wp2_with fail
          refine (CEy.out _ HA.out IX.out iY.out).mono ?_
          rintro e x8 ⟨rfl, hb⟩
          replace HA := Lib.hid (HA.out.keep hb)
          replace HIB := Lib.hid (HIB.out.keep hb)
          replace HIC := Lib.hid (HIC.out.keep hb)
          replace B0 := Lib.hid (B0.out.keep hb)
          replace B1 := Lib.hid (B1.out.keep hb)
          replace Ba := Lib.hid (Ba.out.keep hb)
          replace Bb := Lib.hid (Bb.out.keep hb)
          replace IX := Lib.hid (IX.out.keep hb)
          replace Lx := Lib.hid (Lx.out.keep hb)
          replace Ly := Lib.hid (Ly.out.keep hb)
          replace iX := Lib.hid (iX.out.keep hb)
          replace iY := Lib.hid (iY.out.keep hb)
          replace HB := Lib.hid (keepB HB.out hb)
          clear cB00 cB01 cLy0 cLy1 cLy2 hb
          go_wp2_with fail
          go_ret
          exact ⟨rfl, HB.out⟩
end Go.Proofs.Ytncmffhoodfhjaa

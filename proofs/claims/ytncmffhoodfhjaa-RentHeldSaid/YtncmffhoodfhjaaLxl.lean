/- RentHeld's walk. -/
import Derived.Test.YtncmffhoodfhjaaLxl0
namespace Go.Proofs.Ytncmffhoodfhjaa
open Go.RowKit
set_option maxRecDepth 100000 in
set_option maxHeartbeats 16000000 in
theorem rentheld_walk (A : Option Addr) (cv : Nat) (V : List (List Int)) (R : Int) (B : Option Addr) (ca : Nat) (xs : List Int) (C : Option Addr) (cp : Nat) (ps : List Int) (D : Int) (w : World) (hl : V.length ≤ maxLen) (h : IsM w A V) (_hR : I64 R) (hx : xs.length ≤ maxLen) (hB : IsI w B xs) (hpm : ps.length ≤ maxLen) (hC : IsI w C ps) (_hD : I64 D) :
    Calls Try.prog 8 #[.agg #[.slice A V.length cv, .int .i64 R], .agg #[.slice B xs.length ca, .slice C ps.length cp, .int .i64 D]] w fun e w' => e = .returned (.bool true) ∧ Below w.heap.size w w' := by
  have HA := Lib.hid h
  have HIB := Lib.hid hB
  have HIC := Lib.hid hC
  have cF := fun v (hv : IsM v A V) => fit15_any A cv V R v hl hv
  by_cases h0 : As.rchk V R = 0
  · have K := As.fr_ok h0
    have CF1 := Lib.hid (fun v (hv : IsM v A V) => rent_fair A cv V R v hl hv h0)
    have C2 := Lib.hid (fun X c Y d v (hv : IsM v A V) hX hY => rent_vld A cv V R _ _ _ X c Y d v hl hv h0 K hX hY)
    have c5 := fun v (hv : IsM v A V) hX hY => r14Valid_any A cv V R B ca xs C cp ps D v hl hv hx hX hY
    have c6 := fun (h0 : As.vld V R xs ps D = 0) v (hv : IsM v A V) hX hY => r14Free_any A cv V R B ca xs C cp ps D v hl hv hx hX hY h0
    have CG2 := Lib.hid (fun v X c Y d i m (hi : i < V.length) (hm : m < V.length) (hv : IsM v A V) hX hY => rGain_any A cv V R X c (As.bst V) Y d (As.frP V R) (As.frD V R) i ((As.bst V).getD m 0) v ⟨K.ok, K.r0, K.r1, K.le, hv, hX, hY⟩ hi (As.own_lt K.hb hm))
    have CSK := Lib.hid (fun v i (hi : i < V.length) (hv : IsM v A V) => rent_stake A cv V R i v hl hv h0 hi)
    have HBL := Lib.hid (fun i (hi : i < V.length) => As.own_lt K.hb hi)
    have LB := Lib.hid (show (As.al (As.bst V)).length = V.length by rw [As.al_len]; exact K.hb.len)
    have n1 := K.ok.n1
    have n6 := K.ok.n6
    have HLS := Lib.hid (As.lsF_end (V := V) (b := As.bst V) (P := As.frP V R) (D := As.frD V R) (by omega))
    have HHT := Lib.hid (fun i (hi : i < V.length) => As.heldB_true K hi)
    have HHZ := Lib.hid (fun i => As.heldB_zero V (As.bst V) (As.frP V R) (As.frD V R) i)
    have HHS := Lib.hid (fun i k => As.heldB_succ V (As.bst V) (As.frP V R) (As.frD V R) i k)
    have HLZ := Lib.hid (show As.lsF V (As.bst V) (As.frP V R) (As.frD V R) 0 = 0 from rfl)
    have HLN := Lib.hid (fun k => (show As.lsF V (As.bst V) (As.frP V R) (As.frD V R) (k + 1) = if k = 0 ∨ As.gnF V (As.frP V R) (As.frD V R) k ((As.bst V).getD k 0) < As.lsF V (As.bst V) (As.frP V R) (As.frD V R) k then As.gnF V (As.frP V R) (As.frD V R) k ((As.bst V).getD k 0) else As.lsF V (As.bst V) (As.frP V R) (As.frD V R) k from rfl))
    rw [decide_eq_true h0] at cF
    have CF := Lib.hid cF
    have C5 := Lib.hid c5
    have C6 := Lib.hid c6
    have HK := Lib.hid K
    have HL := Lib.hid hl
    clear c5 c6 cF h hB hC K
    unfold maxLen at hl hx hpm
    generalize As.frD V R = dn at *
    generalize As.frP V R = P at *
    generalize As.lsF V (As.bst V) P dn = lsf at *
    generalize As.heldB V (As.bst V) P dn = hbf at *
    generalize As.lsG V (As.bst V) P dn = lsg at *
    go_enter Try.func8, Try.ntmps8
    go_upto_region 1 with fail
    refine at_box2 (fun V0 hbb b0 b1 hsz => ?_)
    clear hsz
    replace HA := Lib.hid (HA.out.keep hbb)
    replace HIB := Lib.hid (HIB.out.keep hbb)
    replace HIC := Lib.hid (HIC.out.keep hbb)
    have HB := Lib.hid hbb
    have B0 := Lib.hid b0
    have B1 := Lib.hid b1
    clear hbb b0 b1
    go_wp2_with fail
    refine (alive15_any _).mono ?_
    rintro e w1 ⟨rfl, hb⟩
    replace HA := Lib.hid (HA.out.keep hb)
    replace HIB := Lib.hid (HIB.out.keep hb)
    replace HIC := Lib.hid (HIC.out.keep hb)
    replace B0 := Lib.hid (B0.out.keep hb)
    replace B1 := Lib.hid (B1.out.keep hb)
    replace HB := Lib.hid (keepB HB.out hb)
    clear hb
    have cB00 := B0.out.c 0 rfl
    have cB01 := B0.out.c 1 rfl
    go_wp2_with fail
    refine (CF.out _ HA.out).mono ?_
    rintro e w2 ⟨rfl, hb⟩
    replace HA := Lib.hid (HA.out.keep hb)
    replace HIB := Lib.hid (HIB.out.keep hb)
    replace HIC := Lib.hid (HIC.out.keep hb)
    replace B0 := Lib.hid (B0.out.keep hb)
    replace B1 := Lib.hid (B1.out.keep hb)
    replace HB := Lib.hid (keepB HB.out hb)
    clear cB00 cB01 hb
    clear CF
    have cB00 := B0.out.c 0 rfl
    have cB01 := B0.out.c 1 rfl
    go_wp2_with fail
    refine (CF1.out _ HA.out).mono ?_
    rintro e w3 ⟨X, c, Y, d, rfl, hX, hY, hb⟩
    replace HA := Lib.hid (HA.out.keep hb)
    replace HIB := Lib.hid (HIB.out.keep hb)
    replace HIC := Lib.hid (HIC.out.keep hb)
    replace B0 := Lib.hid (B0.out.keep hb)
    replace B1 := Lib.hid (B1.out.keep hb)
    replace HB := Lib.hid (keepB HB.out hb)
    have IX := Lib.hid hX
    have IY := Lib.hid hY
    clear cB00 cB01 hb hX hY
    clear CF1
    go_upto_region 5 with fail
    refine at_worldQ (fun v => Below w3.heap.size w3 v ∧ BK v (w3.heap.size) [.slice X V.length c, .slice Y V.length d, .int .i64 dn]) ⟨below_al (Below.refl _ _) _, BK.new w3 [.slice X V.length c, .slice Y V.length d, .int .i64 dn] 27⟩ (fun U3 hS => ?_)
    obtain ⟨hb, hB3⟩ := hS
    replace HA := Lib.hid (HA.out.keep hb)
    replace HIB := Lib.hid (HIB.out.keep hb)
    replace HIC := Lib.hid (HIC.out.keep hb)
    replace B0 := Lib.hid (B0.out.keep hb)
    replace B1 := Lib.hid (B1.out.keep hb)
    replace IX := Lib.hid (IX.out.keep hb)
    replace IY := Lib.hid (IY.out.keep hb)
    replace HB := Lib.hid (keepB HB.out hb)
    have B3 := Lib.hid hB3
    clear hb hB3
    have cB00 := B0.out.c 0 rfl
    have cB01 := B0.out.c 1 rfl
    have cB30 := B3.out.c 0 rfl
    have cB31 := B3.out.c 1 rfl
    have cB32 := B3.out.c 2 rfl
    go_wp2_with fail
    refine (C2.out X c Y d _ HA.out IX.out IY.out).mono ?_
    rintro e w4 ⟨rfl, hb⟩
    replace HA := Lib.hid (HA.out.keep hb)
    replace HIB := Lib.hid (HIB.out.keep hb)
    replace HIC := Lib.hid (HIC.out.keep hb)
    replace B0 := Lib.hid (B0.out.keep hb)
    replace B1 := Lib.hid (B1.out.keep hb)
    replace IX := Lib.hid (IX.out.keep hb)
    replace IY := Lib.hid (IY.out.keep hb)
    replace B3 := Lib.hid (B3.out.keep hb)
    replace HB := Lib.hid (keepB HB.out hb)
    clear cB00 cB01 cB30 cB31 cB32 hb
    clear C2
    obtain ⟨qx, ox, rfl, -⟩ := list_at IX.out (j := 0) (by rw [LB.out]; omega)
    go_wp2_with fail
    go_loopw [8, 9] (fun u i W => ∃ k : Nat, k ≤ V.length ∧ i = .int .i64 k ∧ u = .int .i64 (lsf k) ∧ Hid (Below w4.heap.size w4 W)) (fun _ i _ => V.length - (intOf i).toNat)
    case atStart => exact ⟨0, Nat.zero_le _, rfl, by rw [HLZ.out], Lib.hid (Below.refl _ _)⟩
    case round =>
      obtain ⟨k, hk, rfl, rfl, HW⟩ := hrel
      have g0 := (B0.out.keep HW.out).c 0 rfl
      have g1 := (B0.out.keep HW.out).c 1 rfl
      have g5 := (B3.out.keep HW.out).c 0 rfl
      have g6 := (B3.out.keep HW.out).c 1 rfl
      have g7 := (B3.out.keep HW.out).c 2 rfl
      obtain ⟨q2, o2, hq2, hy2⟩ := list_at (IX.out.keep HW.out) (j := 0) (by rw [LB.out]; omega)
      cases hq2
      by_cases hlt : k < V.length
      · have z2 := hy2 k (by rw [LB.out]; exact hlt)
        rw [As.el_al] at z2
        have CGb := Lib.hid (fun v (hv : Below wr.heap.size wr v) => CG2.out v _ c Y d k k hlt hlt ((HA.out.keep HW.out).keep hv) ((IX.out.keep HW.out).keep hv) ((IY.out.keep HW.out).keep hv))
        have j2 := HBL.out k hlt
        have HN1 := Lib.hid (HLN.out k)
        clear hy2
        generalize As.gnF V P dn k ((As.bst V).getD k 0) = gb at *
        generalize (As.bst V).getD k 0 = jb at *
        have i1 : (k : Int) < (V.length : Int) := by omega
        go_wp2_with fail
        go_upto_region 11 with fail
        refine wp_region_noPanic ?_
        refine wp_region_held_drew (S := (Below wr.heap.size wr)) (by kernel_rfl) ((Below.refl _ _).drew) (fun hHeld => ?_)
        refine at_anyH (Below wr.heap.size wr) hHeld (fun wr0 hNew => ?_)
        clear hHeld
        have hHeld := hNew
        clear hNew
        have KCr := fun (w : World) (hSw : (Below wr.heap.size wr) w) => And.intro (keepC hSw z2) (And.intro (keepC hSw g0) (And.intro (keepC hSw g1) (And.intro (keepC hSw g5) (And.intro (keepC hSw g6) (keepC hSw g7)))))
        refine tkm 0 rfl hHeld (fun w hSw => by have kc := KCr w hSw; go_simp <;> with_reducible rfl) ?_
        try simp only [PPz]
        refine tkm 1 rfl hHeld (fun w hSw => by have kc := KCr w hSw; go_simp <;> with_reducible rfl) ?_
        try simp only [PPz]
        refine tkd 2 ?_
        try simp only [PPz]
        refine tkd 3 ?_
        try simp only [PPz]
        refine tkm 4 rfl hHeld (fun w hSw => by have kc := KCr w hSw; go_simp <;> with_reducible rfl) ?_
        try simp only [PPz]
        refine tkd 5 ?_
        try simp only [PPz]
        refine tkd 6 ?_
        try simp only [PPz]
        refine tkm 7 rfl hHeld (fun w hSw => by have kc := KCr w hSw; go_simp <;> with_reducible rfl) ?_
        try simp only [PPz]
        refine rdy1 8 rfl (fun K hK => ?_)
        go_simp
        refine (CGb.out _ hHeld).mono ?_
        rintro e wr9 ⟨rfl, hb3⟩
        go_wp2_with fail
        refine hK.out _ _ (keepB hHeld hb3) (fun hNew => ?_)
        clear hb3
        clear hHeld hK K
        have hHeld := hNew
        clear hNew
        try simp only [PPz]
        refine tkd 9 ?_
        try simp only [PPz]
        refine wpAnyH_done (by kernel_rfl) ?_ _
        refine NoPanic.normal ?_
        have HN := Lib.hid (keepB HW.out hHeld)
        clear hHeld
        clear z2 g0 g1 g5 g6 g7 HW
        by_cases hk0 : k = 0
        · subst hk0
          have HN2 := Lib.hid (show lsf (0 + 1) = gb by rw [HN1.out]; simp)
          go_wp2_with fail
          go_roundw
          case rel => exact ⟨0 + 1, by omega, by go_num, by rw [HN2.out], HN⟩
          case measure => simp [intOf]; omega
        · have k1 : ((k : Int) == 0) = false := by rw [beq_eq_false_iff_ne]; omega
          by_cases hgl : gb < lsf k
          · have d1 : decide (gb < lsf k) = true := decide_eq_true hgl
            have HN2 := Lib.hid (show lsf (k + 1) = gb by rw [HN1.out, if_pos (.inr hgl)])
            go_wp2_with fail
            go_roundw
            case rel => exact ⟨k + 1, by omega, by go_num, by rw [HN2.out], HN⟩
            case measure => simp [intOf]; omega
          · have d1 : decide (gb < lsf k) = false := decide_eq_false hgl
            have HN2 := Lib.hid (show lsf (k + 1) = lsf k by rw [HN1.out, if_neg (by intro h; rcases h with h | h; exact hk0 h; exact hgl h)])
            go_wp2_with fail
            go_roundw
            case rel => exact ⟨k + 1, by omega, by go_num, by rw [HN2.out], HN⟩
            case measure => simp [intOf]; omega
      · obtain rfl : k = V.length := by omega
        rw [HLS.out]
        clear HLS HLZ HLN
        replace HA := Lib.hid (HA.out.keep HW.out)
        replace HIB := Lib.hid (HIB.out.keep HW.out)
        replace HIC := Lib.hid (HIC.out.keep HW.out)
        replace IX := Lib.hid (IX.out.keep HW.out)
        replace IY := Lib.hid (IY.out.keep HW.out)
        replace B0 := Lib.hid (B0.out.keep HW.out)
        replace B1 := Lib.hid (B1.out.keep HW.out)
        replace B3 := Lib.hid (B3.out.keep HW.out)
        replace HB := Lib.hid (keepB HB.out HW.out)
        clear HW hy2 g1 g5 g6 g7
        obtain ⟨w5, hw5⟩ : ∃ w5 : World, w5 = wr := ⟨_, rfl⟩
        subst hw5
        go_wp2_with fail
        clear g0
        go_loopw [11] (fun i W => ∃ k : Nat, k ≤ V.length ∧ i = .int .i64 k ∧ Hid (Below w5.heap.size w5 W)) (fun i _ => V.length - (intOf i).toNat)
        case atStart => exact ⟨0, Nat.zero_le _, rfl, Lib.hid (Below.refl _ _)⟩
        case round =>
          obtain ⟨i, hk, rfl, HW⟩ := hrel
          have g0 := (B0.out.keep HW.out).c 0 rfl
          have g1 := (B0.out.keep HW.out).c 1 rfl
          have g5 := (B3.out.keep HW.out).c 0 rfl
          have g6 := (B3.out.keep HW.out).c 1 rfl
          have g7 := (B3.out.keep HW.out).c 2 rfl
          obtain ⟨q2, o2, hq2, hy2⟩ := list_at (IX.out.keep HW.out) (j := 0) (by rw [LB.out]; omega)
          cases hq2
          by_cases hlt : i < V.length
          · have z2 := hy2 i (by rw [LB.out]; exact hlt)
            rw [As.el_al] at z2
            have CGb := Lib.hid (fun v (hv : Below wr.heap.size wr v) => CG2.out v _ c Y d i i hlt hlt ((HA.out.keep HW.out).keep hv) ((IX.out.keep HW.out).keep hv) ((IY.out.keep HW.out).keep hv))
            have j2 := HBL.out i hlt
            have HZ := Lib.hid (HHZ.out i)
            have HS := Lib.hid (fun k => HHS.out i k)
            have HT := Lib.hid (HHT.out i hlt)
            clear hy2
            generalize As.gnF V P dn i ((As.bst V).getD i 0) = gb at *
            generalize (As.bst V).getD i 0 = jb at *
            have i1 : (i : Int) < (V.length : Int) := by omega
            go_wp2_with fail
            go_upto_region 17 with fail
            refine wp_region_noPanic ?_
            refine wp_region_held_drew (S := (Below wr.heap.size wr)) (by kernel_rfl) ((Below.refl _ _).drew) (fun hHeld => ?_)
            refine at_anyH (Below wr.heap.size wr) hHeld (fun ws0 hNew => ?_)
            clear hHeld
            have hHeld := hNew
            clear hNew
            have KCs := fun (w : World) (hSw : (Below wr.heap.size wr) w) => And.intro (keepC hSw z2) (And.intro (keepC hSw g0) (And.intro (keepC hSw g1) (And.intro (keepC hSw g5) (And.intro (keepC hSw g6) (keepC hSw g7)))))
            refine tkm 0 rfl hHeld (fun w hSw => by have kc := KCs w hSw; go_simp <;> with_reducible rfl) ?_
            try simp only [PPz]
            refine tkm 1 rfl hHeld (fun w hSw => by have kc := KCs w hSw; go_simp <;> with_reducible rfl) ?_
            try simp only [PPz]
            refine tkd 2 ?_
            try simp only [PPz]
            refine tkd 3 ?_
            try simp only [PPz]
            refine tkm 4 rfl hHeld (fun w hSw => by have kc := KCs w hSw; go_simp <;> with_reducible rfl) ?_
            try simp only [PPz]
            refine tkd 5 ?_
            try simp only [PPz]
            refine tkd 6 ?_
            try simp only [PPz]
            refine tkm 7 rfl hHeld (fun w hSw => by have kc := KCs w hSw; go_simp <;> with_reducible rfl) ?_
            try simp only [PPz]
            refine rdy1 8 rfl (fun K hK => ?_)
            go_simp
            refine (CGb.out _ hHeld).mono ?_
            rintro e ws9 ⟨rfl, hb3⟩
            go_wp2_with fail
            refine hK.out _ _ (keepB hHeld hb3) (fun hNew => ?_)
            clear hb3
            clear hHeld hK K
            have hHeld := hNew
            clear hNew
            try simp only [PPz]
            refine tkd 9 ?_
            try simp only [PPz]
            refine wpAnyH_done (by kernel_rfl) ?_ _
            refine NoPanic.normal ?_
            have HN := Lib.hid (keepB HW.out hHeld)
            clear hHeld
            clear z2 g0 g1 g5 g6 g7 HW CGb j2 i1
            generalize hzz : (gb == lsg) = z0 at HZ
            go_wp2_with fail
            go_loopw [13, 14] (fun u j W => ∃ k : Nat, k ≤ V.length ∧ j = .int .i64 k ∧ u = .bool (hbf i k) ∧ Hid (Below w5.heap.size w5 W)) (fun _ j _ => V.length - (intOf j).toNat)
            case atStart => exact ⟨0, Nat.zero_le _, rfl, by rw [HZ.out], HN⟩
            case round =>
              clear HN hzz
              obtain ⟨k, hkk, rfl, rfl, HW⟩ := hrel
              have g0 := (B0.out.keep HW.out).c 0 rfl
              have g1 := (B0.out.keep HW.out).c 1 rfl
              have g5 := (B3.out.keep HW.out).c 0 rfl
              have g6 := (B3.out.keep HW.out).c 1 rfl
              have g7 := (B3.out.keep HW.out).c 2 rfl
              obtain ⟨q2, o2, hq2, hy2⟩ := list_at (IX.out.keep HW.out) (j := 0) (by rw [LB.out]; omega)
              cases hq2
              by_cases hltk : k < V.length
              · have z2 := hy2 k (by rw [LB.out]; exact hltk)
                rw [As.el_al] at z2
                have CGb := Lib.hid (fun v (hv : Below wr.heap.size wr v) => CG2.out v _ c Y d i k hlt hltk ((HA.out.keep HW.out).keep hv) ((IX.out.keep HW.out).keep hv) ((IY.out.keep HW.out).keep hv))
                have j2 := HBL.out k hltk
                have HS1 := Lib.hid (HS.out k)
                clear hy2
                generalize As.gnF V P dn i ((As.bst V).getD k 0) = ga at *
                generalize (As.bst V).getD k 0 = jb2 at *
                generalize hbf i k = u at *
                have i1 : (k : Int) < (V.length : Int) := by omega
                cases u with
                | true =>
                  have HS2 := Lib.hid (show hbf i (k + 1) = true by rw [HS1.out]; rfl)
                  clear z2 g1 g5 g6 g7
                  go_wp2_with fail
                  go_big_region
                  go_wp2_with fail
                  go_roundw
                  case rel => exact ⟨k + 1, by omega, by go_num, by rw [HS2.out], Lib.hid (by first | exact HW.out | exact HW.out.drew)⟩
                  case measure => simp [intOf]; omega
                | false =>
                  by_cases hki : k = i
                  · subst hki
                    have HS2 := Lib.hid (show hbf k (k + 1) = false by rw [HS1.out]; simp)
                    clear z2 g1 g5 g6 g7
                    go_wp2_with fail
                    go_big_region
                    go_wp2_with fail
                    go_roundw
                    case rel => exact ⟨k + 1, by omega, by go_num, by rw [HS2.out], Lib.hid (by first | exact HW.out | exact HW.out.drew)⟩
                    case measure => simp [intOf]; omega
                  · have k1 : ((k : Int) != (i : Int)) = true := by rw [bne_iff_ne]; omega
                    have k3 : (k != i) = true := by rw [bne_iff_ne]; exact hki
                    have k2 : ((k : Int) == (i : Int)) = false := by rw [beq_eq_false_iff_ne]; omega
                    have HS2 := Lib.hid (show hbf i (k + 1) = (ga == gb) by rw [HS1.out, k3]; rfl)
                    clear k3
                    by_cases hgg : ga = gb
                    · subst hgg
                      have HS3 := Lib.hid (show hbf i (k + 1) = true by rw [HS2.out]; simp)
                      go_wp2_with fail
                      go_upto_region 22 with fail
                      refine wp_region_noPanic ?_
                      refine wp_region_held_drew (S := (Below wr.heap.size wr)) (by kernel_rfl) ((Below.refl _ _).drew) (fun hHeld => ?_)
                      refine at_anyH (Below wr.heap.size wr) hHeld (fun wt0 hNew => ?_)
                      clear hHeld
                      have hHeld := hNew
                      clear hNew
                      have KCt := fun (w : World) (hSw : (Below wr.heap.size wr) w) => And.intro (keepC hSw z2) (And.intro (keepC hSw g0) (And.intro (keepC hSw g1) (And.intro (keepC hSw g5) (And.intro (keepC hSw g6) (keepC hSw g7)))))
                      refine tkd 0 ?_
                      try simp only [PPz]
                      refine tkd 1 ?_
                      try simp only [PPz]
                      refine tkd 2 ?_
                      try simp only [PPz]
                      refine tkd 3 ?_
                      try simp only [PPz]
                      refine tkd 4 ?_
                      try simp only [PPz]
                      refine tkd 5 ?_
                      try simp only [PPz]
                      refine tkm 6 rfl hHeld (fun w hSw => by have kc := KCt w hSw; go_simp <;> with_reducible rfl) ?_
                      try simp only [PPz]
                      refine tkm 7 rfl hHeld (fun w hSw => by have kc := KCt w hSw; go_simp <;> with_reducible rfl) ?_
                      try simp only [PPz]
                      refine tkd 8 ?_
                      try simp only [PPz]
                      refine tkd 9 ?_
                      try simp only [PPz]
                      refine tkm 10 rfl hHeld (fun w hSw => by have kc := KCt w hSw; go_simp <;> with_reducible rfl) ?_
                      try simp only [PPz]
                      refine tkd 11 ?_
                      try simp only [PPz]
                      refine tkd 12 ?_
                      try simp only [PPz]
                      refine tkm 13 rfl hHeld (fun w hSw => by have kc := KCt w hSw; go_simp <;> with_reducible rfl) ?_
                      try simp only [PPz]
                      refine tkd 15 ?_
                      try simp only [PPz]
                      refine rdy1 14 rfl (fun K hK => ?_)
                      go_simp
                      refine (CGb.out _ hHeld).mono ?_
                      rintro e wt16 ⟨rfl, hb3⟩
                      go_wp2_with fail
                      refine hK.out _ _ (keepB hHeld hb3) (fun hNew => ?_)
                      clear hb3
                      clear hHeld hK K
                      have hHeld := hNew
                      clear hNew
                      try simp only [PPz]
                      refine tkd 16 ?_
                      try simp only [PPz]
                      refine tkd 17 ?_
                      try simp only [PPz]
                      refine tkd 18 ?_
                      try simp only [PPz]
                      refine tkd 19 ?_
                      try simp only [PPz]
                      refine wpAnyH_done (by kernel_rfl) ?_ _
                      refine NoPanic.normal ?_
                      have HN := Lib.hid (keepB HW.out hHeld)
                      clear hHeld
                      go_wp2_with fail
                      go_roundw
                      case rel => exact ⟨k + 1, by omega, by go_num, by rw [HS3.out], HN⟩
                      case measure => simp [intOf]; omega
                    · have k4 : (ga == gb) = false := by rw [beq_eq_false_iff_ne]; exact hgg
                      have HS3 := Lib.hid (show hbf i (k + 1) = false by rw [HS2.out, k4])
                      go_wp2_with fail
                      go_upto_region 22 with fail
                      refine wp_region_noPanic ?_
                      refine wp_region_held_drew (S := (Below wr.heap.size wr)) (by kernel_rfl) ((Below.refl _ _).drew) (fun hHeld => ?_)
                      refine at_anyH (Below wr.heap.size wr) hHeld (fun wt0 hNew => ?_)
                      clear hHeld
                      have hHeld := hNew
                      clear hNew
                      have KCt := fun (w : World) (hSw : (Below wr.heap.size wr) w) => And.intro (keepC hSw z2) (And.intro (keepC hSw g0) (And.intro (keepC hSw g1) (And.intro (keepC hSw g5) (And.intro (keepC hSw g6) (keepC hSw g7)))))
                      refine tkd 0 ?_
                      try simp only [PPz]
                      refine tkd 1 ?_
                      try simp only [PPz]
                      refine tkd 2 ?_
                      try simp only [PPz]
                      refine tkd 3 ?_
                      try simp only [PPz]
                      refine tkd 4 ?_
                      try simp only [PPz]
                      refine tkd 5 ?_
                      try simp only [PPz]
                      refine tkm 6 rfl hHeld (fun w hSw => by have kc := KCt w hSw; go_simp <;> with_reducible rfl) ?_
                      try simp only [PPz]
                      refine tkm 7 rfl hHeld (fun w hSw => by have kc := KCt w hSw; go_simp <;> with_reducible rfl) ?_
                      try simp only [PPz]
                      refine tkd 8 ?_
                      try simp only [PPz]
                      refine tkd 9 ?_
                      try simp only [PPz]
                      refine tkm 10 rfl hHeld (fun w hSw => by have kc := KCt w hSw; go_simp <;> with_reducible rfl) ?_
                      try simp only [PPz]
                      refine tkd 11 ?_
                      try simp only [PPz]
                      refine tkd 12 ?_
                      try simp only [PPz]
                      refine tkm 13 rfl hHeld (fun w hSw => by have kc := KCt w hSw; go_simp <;> with_reducible rfl) ?_
                      try simp only [PPz]
                      refine tkd 15 ?_
                      try simp only [PPz]
                      refine rdy1 14 rfl (fun K hK => ?_)
                      go_simp
                      refine (CGb.out _ hHeld).mono ?_
                      rintro e wt16 ⟨rfl, hb3⟩
                      go_wp2_with fail
                      refine hK.out _ _ (keepB hHeld hb3) (fun hNew => ?_)
                      clear hb3
                      clear hHeld hK K
                      have hHeld := hNew
                      clear hNew
                      try simp only [PPz]
                      refine tkd 16 ?_
                      try simp only [PPz]
                      refine tkd 17 ?_
                      try simp only [PPz]
                      refine tkd 18 ?_
                      try simp only [PPz]
                      refine tkd 19 ?_
                      try simp only [PPz]
                      refine wpAnyH_done (by kernel_rfl) ?_ _
                      refine NoPanic.normal ?_
                      have HN := Lib.hid (keepB HW.out hHeld)
                      clear hHeld
                      go_wp2_with fail
                      go_roundw
                      case rel => exact ⟨k + 1, by omega, by go_num, by rw [HS3.out], HN⟩
                      case measure => simp [intOf]; omega
              · obtain rfl : k = V.length := by omega
                rw [HT.out]
                clear hy2 g1 g5 g6 g7
                go_wp2_with fail
                go_roundw
                case rel => exact ⟨i + 1, by omega, by go_num, HW⟩
                case measure => simp [intOf]; omega
          · obtain rfl : i = V.length := by omega
            replace HA := Lib.hid (HA.out.keep HW.out)
            replace HIB := Lib.hid (HIB.out.keep HW.out)
            replace HIC := Lib.hid (HIC.out.keep HW.out)
            replace B0 := Lib.hid (B0.out.keep HW.out)
            replace B1 := Lib.hid (B1.out.keep HW.out)
            replace HB := Lib.hid (keepB HB.out HW.out)
            clear HW hy2 g1 g5 g6 g7 IX IY B3 HHT HHZ HHS CG2 HBL LB
            obtain ⟨w6, hw6⟩ : ∃ w6 : World, w6 = wr := ⟨_, rfl⟩
            subst hw6
            by_cases hp : 50 < xs.length
            · have d1 : decide ((50 : Int) < (xs.length : Int)) = true := by rw [decide_eq_true_eq]; omega
              have c0 := B0.out.c 0 rfl
              have c1 := B1.out.c 0 rfl
              have c2 := B1.out.c 1 rfl
              clear HA HIB HIC C5 C6
              go_wp2_with fail
              go_ret
              exact ⟨rfl, HB.out⟩
            have d1 : decide ((50 : Int) < (xs.length : Int)) = false := by rw [decide_eq_false_iff_not]; omega
            by_cases hq : 50 < ps.length
            · have d2 : decide ((50 : Int) < (ps.length : Int)) = true := by rw [decide_eq_true_eq]; omega
              have c0 := B0.out.c 0 rfl
              have c1 := B1.out.c 0 rfl
              have c2 := B1.out.c 1 rfl
              clear HA HIB HIC C5 C6
              go_wp2_with fail
              go_ret
              exact ⟨rfl, HB.out⟩
            have d2 : decide ((50 : Int) < (ps.length : Int)) = false := by rw [decide_eq_false_iff_not]; omega
            have c0 := B0.out.c 0 rfl
            have c1 := B1.out.c 0 rfl
            have c2 := B1.out.c 1 rfl
            generalize hv0 : As.vld V R xs ps D = vl0 at *
            have cB00 := B0.out.c 0 rfl
            have cB01 := B0.out.c 1 rfl
            have cB10 := B1.out.c 0 rfl
            have cB11 := B1.out.c 1 rfl
            have cB12 := B1.out.c 2 rfl
            go_wp2_with fail
            refine (C5.out _ HA.out HIB.out HIC.out).mono ?_
            rintro e w7 ⟨rfl, hb⟩
            replace HA := Lib.hid (HA.out.keep hb)
            replace HIB := Lib.hid (HIB.out.keep hb)
            replace HIC := Lib.hid (HIC.out.keep hb)
            replace B0 := Lib.hid (B0.out.keep hb)
            replace B1 := Lib.hid (B1.out.keep hb)
            replace HB := Lib.hid (keepB HB.out hb)
            clear c0 c1 c2 g0 cB00 cB01 cB10 cB11 cB12 hb
            clear C5 d1 d2
            by_cases hz0 : vl0 = 0
            · subst hz0
              replace C6 := Lib.hid (C6.out rfl)
              generalize hzf : decide (As.enS V R xs ps D = []) = zf at C6
              have cB00 := B0.out.c 0 rfl
              have cB01 := B0.out.c 1 rfl
              have cB10 := B1.out.c 0 rfl
              have cB11 := B1.out.c 1 rfl
              have cB12 := B1.out.c 2 rfl
              go_wp2_with fail
              refine (C6.out _ HA.out HIB.out HIC.out).mono ?_
              rintro e w8 ⟨rfl, hb⟩
              replace HA := Lib.hid (HA.out.keep hb)
              replace HIB := Lib.hid (HIB.out.keep hb)
              replace HIC := Lib.hid (HIC.out.keep hb)
              replace B0 := Lib.hid (B0.out.keep hb)
              replace B1 := Lib.hid (B1.out.keep hb)
              replace HB := Lib.hid (keepB HB.out hb)
              clear cB00 cB01 cB10 cB11 cB12 hb
              clear C6
              cases zf with
              | false =>
                go_wp2_with fail
                go_ret
                exact ⟨rfl, HB.out⟩
              | true =>
                have hen := of_decide_eq_true hzf
                obtain ⟨a, hxa, hL⟩ := ls_of hv0 HA.out HIB.out HIC.out
                subst hxa
                have ct : As.Cont (As.sc D V) a (As.el ps) := (As.envl_nil hL.le.perm).1 (by rw [As.enS_yes hv0] at hen; exact hen)
                have lx : (As.al a).length = V.length := by rw [As.al_len]; exact hL.la
                have lp := hL.le.len
                have e1 := hL.le.d1
                have e60 := hL.le.d60
                have ok := hL.ok
                have CG1 := Lib.hid (fun v i (hi : i < V.length) (hv : IsM v A V) hX hY => rGain_any A cv V R B ca a C cp ps D i (a.getD i 0) v ⟨hL.ok, hL.r0, hL.r1, hL.le, hv, hX, hY⟩ hi (hL.lt hi))
                have CMK := Lib.hid (fun v i (hi : i < V.length) => rmake_q (a := As.gnF V ps D i (a.getD i 0)) (n := D) e1 (by omega) (by have := As.gnF_bd ok hL.le i (hL.lt hi); omega) (by have := As.gnF_bd ok hL.le i (hL.lt hi); omega) v)
                have CK1 := Lib.hid (fun v i => rcheck_q (a := As.skL V R i) (n := V.length) (by omega) (by omega) (by have := As.sk_bd ok hL.r0 hL.r1 i; omega) (by have := As.sk_bd ok hL.r0 hL.r1 i; omega) v)
                have CK2 := Lib.hid (fun v i => rcheck_q (a := As.skH V R i) (n := V.length) (by omega) (by omega) (by have := As.sk_bd ok hL.r0 hL.r1 i; omega) (by have := As.sk_bd ok hL.r0 hL.r1 i; omega) v)
                have CL1 := Lib.hid (fun v i (hi : i < V.length) => rless_q (a := As.gnF V ps D i (a.getD i 0)) (n := D) (c := As.skL V R i) (d := V.length) e1 (by omega) (by have := As.gnF_bd ok hL.le i (hL.lt hi); omega) (by have := As.gnF_bd ok hL.le i (hL.lt hi); omega) (by omega) (by omega) (by have := As.sk_bd ok hL.r0 hL.r1 i; omega) (by have := As.sk_bd ok hL.r0 hL.r1 i; omega) (As.in_stake ok hL.le ct hi).1 v)
                have CL2 := Lib.hid (fun v i (hi : i < V.length) => rless_q (a := As.skH V R i) (n := V.length) (c := As.gnF V ps D i (a.getD i 0)) (d := D) (by omega) (by omega) (by have := As.sk_bd ok hL.r0 hL.r1 i; omega) (by have := As.sk_bd ok hL.r0 hL.r1 i; omega) e1 (by omega) (by have := As.gnF_bd ok hL.le i (hL.lt hi); omega) (by have := As.gnF_bd ok hL.le i (hL.lt hi); omega) (As.in_stake ok hL.le ct hi).2 v)
                have HGB1 := Lib.hid (fun i (hi : i < V.length) => As.gnF_bd ok hL.le i (hL.lt hi))
                have HLT := Lib.hid (fun i (hi : i < V.length) => hL.lt hi)
                have LA := Lib.hid lx
                rw [lx, lp] at B1 ⊢
                clear hL ct hen hzf hv0 HK hx hpm hp hq ok
                obtain ⟨qb, ob, rfl, -⟩ := list_at HIB.out (j := 0) (by rw [LA.out]; omega)
                have g0 := B0.out.c 0 rfl
                go_wp2_with fail
                clear g0
                have HBo := Lib.hid HB.out
                go_loopw [15] (fun i W => ∃ k : Nat, k ≤ V.length ∧ i = .int .i64 k ∧ Hid (Below w8.heap.size w8 W)) (fun i _ => V.length - (intOf i).toNat)
                case atStart => exact ⟨0, Nat.zero_le _, rfl, Lib.hid (Below.refl _ _)⟩
                case round =>
                  clear HB
                  obtain ⟨k, hk, rfl, HB⟩ := hrel
                  replace HA := Lib.hid (HA.out.keep HB.out)
                  replace HIB := Lib.hid (HIB.out.keep HB.out)
                  replace HIC := Lib.hid (HIC.out.keep HB.out)
                  replace B0 := Lib.hid (B0.out.keep HB.out)
                  replace B1 := Lib.hid (B1.out.keep HB.out)
                  have cB00 := B0.out.c 0 rfl
                  by_cases hlt : k < V.length
                  · have CGa := Lib.hid (fun v hv hX hY => CG1.out v k hlt hv hX hY)
                    have CMa := Lib.hid (fun v => CMK.out v k hlt)
                    have CKa := Lib.hid (fun v => CK1.out v k)
                    have CKb := Lib.hid (fun v => CK2.out v k)
                    have CLa := Lib.hid (fun v => CL1.out v k hlt)
                    have CLb := Lib.hid (fun v => CL2.out v k hlt)
                    have CSa := Lib.hid (fun v (hv : IsM v A V) => CSK.out v k hlt hv)
                    obtain ⟨r1, r2⟩ := HGB1.out k hlt
                    have j1 := HLT.out k hlt
                    obtain ⟨q2, o2, hq2, hy2⟩ := list_at HIB.out (j := 0) (by rw [LA.out]; omega)
                    cases hq2
                    have z2 := hy2 k (by rw [LA.out]; exact hlt)
                    rw [As.el_al] at z2
                    clear hy2 CG1 CMK CK1 CK2 CL1 CL2 CSK HGB1 HLT
                    generalize (Rp.q (As.skL V R k) V.length).num = l1 at *
                    generalize ((Rp.q (As.skL V R k) V.length).den : Int) = l2 at *
                    generalize (Rp.q (As.skH V R k) V.length).num = h1 at *
                    generalize ((Rp.q (As.skH V R k) V.length).den : Int) = h2 at *
                    generalize (Rp.q (As.gnF V ps D k (a.getD k 0)) D).num = m1 at *
                    generalize ((Rp.q (As.gnF V ps D k (a.getD k 0)) D).den : Int) = m2 at *
                    generalize As.gnF V ps D k (a.getD k 0) = ga at *
                    generalize a.getD k 0 = ja at *
                    have i1 : (k : Int) < (V.length : Int) := by omega
                    have ZC := Lib.hid z2
                    clear z2
                    clear cB00
                    have cB00 := B0.out.c 0 rfl
                    have cB01 := B0.out.c 1 rfl
                    go_wp2_with fail
                    refine (CSa.out _ HA.out).mono ?_
                    rintro e w9 ⟨rfl, hb⟩
                    replace ZC := Lib.hid (keepC hb ZC.out)
                    replace HA := Lib.hid (HA.out.keep hb)
                    replace HIB := Lib.hid (HIB.out.keep hb)
                    replace HIC := Lib.hid (HIC.out.keep hb)
                    replace B0 := Lib.hid (B0.out.keep hb)
                    replace B1 := Lib.hid (B1.out.keep hb)
                    replace HB := Lib.hid (keepB HB.out hb)
                    clear cB00 cB01 hb
                    clear CSa
                    go_upto_region 31 with fail
                    refine at_worldQ (fun v => Below w9.heap.size w9 v ∧ BK v (w9.heap.size) [.int .i64 l1, .int .i64 l2] ∧ BK v (w9.heap.size + 1) [.int .i64 h1, .int .i64 h2]) ⟨below_al (below_al (Below.refl _ _) _) _, ((BK.new w9 [.int .i64 l1, .int .i64 l2] 31).al _), (bkAtL (BK.new (w9.alloc (.cells #[.int .i64 l1, .int .i64 l2] 31)) [.int .i64 h1, .int .i64 h2] 31) (by simp only [World.size_alloc]))⟩ (fun U9 hS => ?_)
                    obtain ⟨hb, hBLo, hBHi⟩ := hS
                    replace ZC := Lib.hid (keepC hb ZC.out)
                    replace HA := Lib.hid (HA.out.keep hb)
                    replace HIB := Lib.hid (HIB.out.keep hb)
                    replace HIC := Lib.hid (HIC.out.keep hb)
                    replace B0 := Lib.hid (B0.out.keep hb)
                    replace B1 := Lib.hid (B1.out.keep hb)
                    replace HB := Lib.hid (keepB HB.out hb)
                    have BLo := Lib.hid hBLo
                    have BHi := Lib.hid hBHi
                    clear hb hBLo hBHi
                    have z2 := ZC.out
                    have g0 := B0.out.c 0 rfl
                    have g1 := B0.out.c 1 rfl
                    have g2 := B1.out.c 0 rfl
                    have g3 := B1.out.c 1 rfl
                    have g4 := B1.out.c 2 rfl
                    clear ZC
                    refine wp_region_noPanic ?_
                    refine wp_region_held_drew (S := (Below U9.heap.size U9)) (by kernel_rfl) ((Below.refl _ _).drew) (fun hHeld => ?_)
                    refine at_anyH (Below U9.heap.size U9) hHeld (fun wd0 hNew => ?_)
                    clear hHeld
                    have hHeld := hNew
                    clear hNew
                    refine tkm 0 rfl hHeld (fun w hSw => by have kz2 := keepC hSw z2; have kg0 := keepC hSw g0; have kg1 := keepC hSw g1; have kg2 := keepC hSw g2; have kg3 := keepC hSw g3; have kg4 := keepC hSw g4; go_simp <;> with_reducible rfl) ?_
                    try simp only [PPz]
                    refine tkm 1 rfl hHeld (fun w hSw => by have kz2 := keepC hSw z2; have kg0 := keepC hSw g0; have kg1 := keepC hSw g1; have kg2 := keepC hSw g2; have kg3 := keepC hSw g3; have kg4 := keepC hSw g4; go_simp <;> with_reducible rfl) ?_
                    try simp only [PPz]
                    refine tkd 2 ?_
                    try simp only [PPz]
                    refine tkd 3 ?_
                    try simp only [PPz]
                    refine tkm 4 rfl hHeld (fun w hSw => by have kz2 := keepC hSw z2; have kg0 := keepC hSw g0; have kg1 := keepC hSw g1; have kg2 := keepC hSw g2; have kg3 := keepC hSw g3; have kg4 := keepC hSw g4; go_simp <;> with_reducible rfl) ?_
                    try simp only [PPz]
                    refine tkd 5 ?_
                    try simp only [PPz]
                    refine tkd 6 ?_
                    try simp only [PPz]
                    refine tkm 7 rfl hHeld (fun w hSw => by have kz2 := keepC hSw z2; have kg0 := keepC hSw g0; have kg1 := keepC hSw g1; have kg2 := keepC hSw g2; have kg3 := keepC hSw g3; have kg4 := keepC hSw g4; go_simp <;> with_reducible rfl) ?_
                    try simp only [PPz]
                    refine tkd 9 ?_
                    try simp only [PPz]
                    refine tkm 10 rfl hHeld (fun w hSw => by have kz2 := keepC hSw z2; have kg0 := keepC hSw g0; have kg1 := keepC hSw g1; have kg2 := keepC hSw g2; have kg3 := keepC hSw g3; have kg4 := keepC hSw g4; go_simp <;> with_reducible rfl) ?_
                    try simp only [PPz]
                    refine dag (fun G a => ∀  (pX : Nat) (W : World), Below U9.heap.size U9 W → BK W pX [.int .i64 m1, .int .i64 m2] → U9.heap.size ≤ pX → G 1 #[true, true, true, true, true, true, true, true, true, true, true, true, true, true, true, true, true, false] ((((((a.put (some 160) (.int .i64 ga)).put (some 163) (.tuple #[.agg #[.int .i64 m1, .int .i64 m2], .int .i64 0])).put (some 151) (.tuple #[.agg #[.int .i64 m1, .int .i64 m2], .int .i64 0])).put (some 164) (.agg #[.int .i64 m1, .int .i64 m2])).put (some 165) (.int .i64 0)).put (some 19) (.pointer (some ⟨pX, 0, none⟩))) W) ?_ (fun Nd0 => ?_)
                    ·
                     intro pX wds0 hHeld BX hX
                     try simp only [PPz]
                     refine tkd 17 ?_
                     try simp only [PPz]
                     refine wpAnyH_done (by kernel_rfl) ?_ _
                     refine NoPanic.normal ?_
                     have hb := hHeld
                     replace HA := Lib.hid (HA.out.keep hb)
                     replace HIB := Lib.hid (HIB.out.keep hb)
                     replace HIC := Lib.hid (HIC.out.keep hb)
                     replace B0 := Lib.hid (B0.out.keep hb)
                     replace B1 := Lib.hid (B1.out.keep hb)
                     replace BLo := Lib.hid (BLo.out.keep hb)
                     replace BHi := Lib.hid (BHi.out.keep hb)
                     replace HB := Lib.hid (keepB HB.out hb)
                     have BG := Lib.hid BX
                     clear hb hHeld BX z2 g0 g1 g2 g3 g4
                     have cBLo0 := BLo.out.c 0 rfl
                     have cBLo1 := BLo.out.c 1 rfl
                     go_wp2_with fail
                     refine (CKa.out _).mono ?_
                     rintro e v1 ⟨rfl, hb⟩
                     replace HA := Lib.hid (HA.out.keep hb)
                     replace HIB := Lib.hid (HIB.out.keep hb)
                     replace HIC := Lib.hid (HIC.out.keep hb)
                     replace B0 := Lib.hid (B0.out.keep hb)
                     replace B1 := Lib.hid (B1.out.keep hb)
                     replace BLo := Lib.hid (BLo.out.keep hb)
                     replace BHi := Lib.hid (BHi.out.keep hb)
                     replace BG := Lib.hid (BG.out.keep hb)
                     replace HB := Lib.hid (keepB HB.out hb)
                     clear cBLo0 cBLo1 hb
                     have cBHi0 := BHi.out.c 0 rfl
                     have cBHi1 := BHi.out.c 1 rfl
                     go_wp2_with fail
                     refine (CKb.out _).mono ?_
                     rintro e v2 ⟨rfl, hb⟩
                     replace HA := Lib.hid (HA.out.keep hb)
                     replace HIB := Lib.hid (HIB.out.keep hb)
                     replace HIC := Lib.hid (HIC.out.keep hb)
                     replace B0 := Lib.hid (B0.out.keep hb)
                     replace B1 := Lib.hid (B1.out.keep hb)
                     replace BLo := Lib.hid (BLo.out.keep hb)
                     replace BHi := Lib.hid (BHi.out.keep hb)
                     replace BG := Lib.hid (BG.out.keep hb)
                     replace HB := Lib.hid (keepB HB.out hb)
                     clear cBHi0 cBHi1 hb
                     have cBG0 := BG.out.c 0 rfl
                     have cBG1 := BG.out.c 1 rfl
                     have cBLo0 := BLo.out.c 0 rfl
                     have cBLo1 := BLo.out.c 1 rfl
                     go_wp2_with fail
                     refine (CLa.out _).mono ?_
                     rintro e v3 ⟨rfl, hb⟩
                     replace HA := Lib.hid (HA.out.keep hb)
                     replace HIB := Lib.hid (HIB.out.keep hb)
                     replace HIC := Lib.hid (HIC.out.keep hb)
                     replace B0 := Lib.hid (B0.out.keep hb)
                     replace B1 := Lib.hid (B1.out.keep hb)
                     replace BLo := Lib.hid (BLo.out.keep hb)
                     replace BHi := Lib.hid (BHi.out.keep hb)
                     replace BG := Lib.hid (BG.out.keep hb)
                     replace HB := Lib.hid (keepB HB.out hb)
                     clear cBG0 cBG1 cBLo0 cBLo1 hb
                     have cBG0 := BG.out.c 0 rfl
                     have cBG1 := BG.out.c 1 rfl
                     have cBHi0 := BHi.out.c 0 rfl
                     have cBHi1 := BHi.out.c 1 rfl
                     go_wp2_with fail
                     refine (CLb.out _).mono ?_
                     rintro e v4 ⟨rfl, hb⟩
                     replace HA := Lib.hid (HA.out.keep hb)
                     replace HIB := Lib.hid (HIB.out.keep hb)
                     replace HIC := Lib.hid (HIC.out.keep hb)
                     replace B0 := Lib.hid (B0.out.keep hb)
                     replace B1 := Lib.hid (B1.out.keep hb)
                     replace BLo := Lib.hid (BLo.out.keep hb)
                     replace BHi := Lib.hid (BHi.out.keep hb)
                     replace BG := Lib.hid (BG.out.keep hb)
                     replace HB := Lib.hid (keepB HB.out hb)
                     clear cBG0 cBG1 cBHi0 cBHi1 hb
                     go_wp2_with fail
                     go_roundw
                     case rel => exact ⟨k + 1, by omega, by go_num, HB⟩
                     case measure => simp [intOf]; omega
                    refine dag (fun G a => ∀  (pX : Nat) (W : World), Below U9.heap.size U9 W → BK W pX [.int .i64 0, .int .i64 0] → U9.heap.size ≤ pX → G 6 #[true, true, true, true, true, true, true, true, true, true, true, false, false, false, false, true, false, false] ((a.put (some 160) (.int .i64 ga)).put (some 19) (.pointer (some ⟨pX, 0, none⟩))) W) ?_ (fun Nd1 => ?_)
                    ·
                     intro pX wds1 hHeld BX hX
                     try simp only [PPz]
                     refine rdy1 11 rfl (fun K hK => ?_)
                     go_simp
                     refine (CMa.out _).mono ?_
                     rintro e wd12 ⟨rfl, hb3⟩
                     go_wp2_with fail
                     refine hK.out _ _ (keepB hHeld hb3) (fun hNew => ?_)
                     replace BX := BX.keep hb3
                     clear hb3
                     clear hHeld hK K
                     have hHeld := hNew
                     clear hNew
                     try simp only [PPz]
                     refine tkd 12 ?_
                     try simp only [PPz]
                     refine tkd 13 ?_
                     try simp only [PPz]
                     refine tkd 14 ?_
                     try simp only [PPz]
                     refine rdy1 16 rfl (fun K hK => ?_)
                     have n0 := BX.c 0 rfl
                     have f0 := BX.f 0 rfl
                     have n1 := BX.c 1 rfl
                     have f1 := BX.f 1 rfl
                     go_simp
                     clear n0 f0 n1 f1
                     refine hK.out _ _ (below_set (below_set hHeld (by omega) _) (by omega) _) (fun hNew => ?_)
                     clear hHeld hK K
                     have hHeld := hNew
                     clear hNew
                     try simp only [PPz]
                     refine at_anyH (fun v => Below U9.heap.size U9 v ∧ BK v pX [.int .i64 m1, .int .i64 m2]) ⟨hHeld, ((BX.set 0 _).set 1 _)⟩ (fun wd16 hS => ?_)
                     clear hHeld BX
                     obtain ⟨hHeld, BX⟩ := hS
                     exact dag_use (Nd0.out _ _ hHeld BX hX) (by kernel_rfl) (by kernel_rfl)
                    refine rdy2 8 15 rfl rfl (fun K hK => ?_) (fun K hK => ?_)
                    ·
                     go_simp
                     refine (CGa.out _ (HA.out.keep hHeld) (HIB.out.keep hHeld) (HIC.out.keep hHeld)).mono ?_
                     rintro e wd17 ⟨rfl, hb3⟩
                     go_wp2_with fail
                     refine hK.out _ _ (keepB hHeld hb3) (fun hNew => ?_)
                     clear hb3
                     clear hHeld hK K
                     have hHeld := hNew
                     clear hNew
                     try simp only [PPz]
                     refine rdy2 11 15 rfl rfl (fun K hK => ?_) (fun K hK => ?_)
                     ·
                      go_simp
                      refine (CMa.out _).mono ?_
                      rintro e wd18 ⟨rfl, hb3⟩
                      go_wp2_with fail
                      refine hK.out _ _ (keepB hHeld hb3) (fun hNew => ?_)
                      clear hb3
                      clear hHeld hK K
                      have hHeld := hNew
                      clear hNew
                      try simp only [PPz]
                      refine tkd 12 ?_
                      try simp only [PPz]
                      refine tkd 13 ?_
                      try simp only [PPz]
                      refine tkd 14 ?_
                      try simp only [PPz]
                      refine rdy1 15 rfl (fun K hK => ?_)
                      go_simp
                      refine hK.out _ _ (below_al hHeld _) (fun hNew => ?_)
                      have hX : U9.heap.size ≤ wd18.heap.size := hHeld.size
                      clear hHeld hK K
                      have hHeld := hNew
                      clear hNew
                      try simp only [PPz]
                      refine at_anyH (fun v => Below U9.heap.size U9 v ∧ BK v wd18.heap.size [.int .i64 0, .int .i64 0]) ⟨hHeld, BK.new _ _ _⟩ (fun wd22 hS => ?_)
                      clear hHeld
                      obtain ⟨hHeld, BX⟩ := hS
                      refine rdy1 16 rfl (fun K hK => ?_)
                      have n0 := BX.c 0 rfl
                      have f0 := BX.f 0 rfl
                      have n1 := BX.c 1 rfl
                      have f1 := BX.f 1 rfl
                      go_simp
                      clear n0 f0 n1 f1
                      refine hK.out _ _ (below_set (below_set hHeld (by omega) _) (by omega) _) (fun hNew => ?_)
                      clear hHeld hK K
                      have hHeld := hNew
                      clear hNew
                      try simp only [PPz]
                      refine at_anyH (fun v => Below U9.heap.size U9 v ∧ BK v wd18.heap.size [.int .i64 m1, .int .i64 m2]) ⟨hHeld, ((BX.set 0 _).set 1 _)⟩ (fun wd23 hS => ?_)
                      clear hHeld BX
                      obtain ⟨hHeld, BX⟩ := hS
                      exact dag_use (Nd0.out _ _ hHeld BX hX) (by kernel_rfl) (by kernel_rfl)
                     ·
                      go_simp
                      refine hK.out _ _ (below_al hHeld _) (fun hNew => ?_)
                      have hX : U9.heap.size ≤ wd17.heap.size := hHeld.size
                      clear hHeld hK K
                      have hHeld := hNew
                      clear hNew
                      try simp only [PPz]
                      refine at_anyH (fun v => Below U9.heap.size U9 v ∧ BK v wd17.heap.size [.int .i64 0, .int .i64 0]) ⟨hHeld, BK.new _ _ _⟩ (fun wd24 hS => ?_)
                      clear hHeld
                      obtain ⟨hHeld, BX⟩ := hS
                      exact dag_use (Nd1.out _ _ hHeld BX hX) (by kernel_rfl) (by kernel_rfl)
                    ·
                     go_simp
                     refine hK.out _ _ (below_al hHeld _) (fun hNew => ?_)
                     have hX : U9.heap.size ≤ wd0.heap.size := hHeld.size
                     clear hHeld hK K
                     have hHeld := hNew
                     clear hNew
                     try simp only [PPz]
                     refine at_anyH (fun v => Below U9.heap.size U9 v ∧ BK v wd0.heap.size [.int .i64 0, .int .i64 0]) ⟨hHeld, BK.new _ _ _⟩ (fun wd25 hS => ?_)
                     clear hHeld
                     obtain ⟨hHeld, BX⟩ := hS
                     refine rdy1 8 rfl (fun K hK => ?_)
                     go_simp
                     refine (CGa.out _ (HA.out.keep hHeld) (HIB.out.keep hHeld) (HIC.out.keep hHeld)).mono ?_
                     rintro e wd26 ⟨rfl, hb3⟩
                     go_wp2_with fail
                     refine hK.out _ _ (keepB hHeld hb3) (fun hNew => ?_)
                     replace BX := BX.keep hb3
                     clear hb3
                     clear hHeld hK K
                     have hHeld := hNew
                     clear hNew
                     try simp only [PPz]
                     exact dag_use (Nd1.out _ _ hHeld BX hX) (by kernel_rfl) (by kernel_rfl)
                  · obtain rfl : k = V.length := by omega
                    go_wp2_with fail
                    go_ret
                    exact ⟨rfl, keepB HBo.out HB.out⟩
            · have d3 : (vl0 != 0) = true := by rw [bne_iff_ne]; exact hz0
              have c0 := B0.out.c 0 rfl
              clear HA HIB HIC C6
              go_wp2_with fail
              go_ret
              exact ⟨rfl, HB.out⟩
  · rw [decide_eq_false h0] at cF
    have CF := Lib.hid cF
    clear cF h hB hC HIB HIC
    unfold maxLen at hl hx hpm
    go_enter Try.func8, Try.ntmps8
    go_upto_region 1 with fail
    refine at_box2 (fun V0 hbb b0 b1 hsz => ?_)
    clear hsz b1
    replace HA := Lib.hid (HA.out.keep hbb)
    have HB := Lib.hid hbb
    have B0 := Lib.hid b0
    clear hbb b0
    go_wp2_with fail
    refine (alive15_any _).mono ?_
    rintro e w1 ⟨rfl, hb⟩
    replace HA := Lib.hid (HA.out.keep hb)
    replace B0 := Lib.hid (B0.out.keep hb)
    replace HB := Lib.hid (keepB HB.out hb)
    clear hb
    have cB00 := B0.out.c 0 rfl
    have cB01 := B0.out.c 1 rfl
    go_wp2_with fail
    refine (CF.out _ HA.out).mono ?_
    rintro e w2 ⟨rfl, hb⟩
    replace HA := Lib.hid (HA.out.keep hb)
    replace B0 := Lib.hid (B0.out.keep hb)
    replace HB := Lib.hid (keepB HB.out hb)
    clear cB00 cB01 hb
    go_wp2_with fail
    go_ret
    exact ⟨rfl, HB.out⟩
end Go.Proofs.Ytncmffhoodfhjaa

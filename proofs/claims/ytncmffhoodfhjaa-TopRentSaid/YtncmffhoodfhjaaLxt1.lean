/- TopRent: leased, for a lease without envy. -/
import Derived.Test.YtncmffhoodfhjaaLxt2
import Derived.Test.YtncmffhoodfhjaaYm
import Derived.Test.YtncmffhoodfhjaaYe
import Derived.Test.YtncmffhoodfhjaaYf
import Derived.Test.YtncmffhoodfhjaaYh
import Derived.Test.YtncmffhoodfhjaaYg
namespace Go.Proofs.Ytncmffhoodfhjaa
open Go.RowKit
set_option maxRecDepth 100000 in
set_option maxHeartbeats 16000000 in
theorem topleased_any (A : Option Addr) (cv : Nat) (V : List (List Int)) (R : Int) (B : Option Addr) (ca : Nat) (a : List Nat) (C : Option Addr) (cp : Nat) (ps : List Int) (D : Int) (w : World) (hl : V.length ≤ maxLen) (hT : As.rchk V R = 0) (hL : Ls w A B C V R a ps D) (ct : As.Cont (As.sc D V) a (As.el ps)) :
    Calls Try.prog 39 #[.agg #[.slice A V.length cv, .int .i64 R], .agg #[.slice B V.length ca, .slice C V.length cp, .int .i64 D]] w fun e w' => e = .returned (.bool true) ∧ Below w.heap.size w w' := by
  have ok := hL.ok
  have n1 := ok.n1
  have n6 := ok.n6
  have le := hL.le
  have e1 := le.d1
  have e60 := le.d60
  have LA := Lib.hid (show (As.al a).length = V.length by rw [As.al_len]; exact hL.la)
  have LP := Lib.hid le.len
  have hv0 : As.vld V R (As.al a) ps D = 0 := by unfold As.vld; rw [if_pos hT, if_pos (As.leB_iff.2 ⟨_, rfl, le⟩)]
  have hen : As.enS V R (As.al a) ps D = [] := by rw [As.enS_yes hv0]; exact (As.envl_nil le.perm).2 ct
  have c5 := fun v (hv : IsM v A V) hX hY => r14Valid_any A cv V R B ca (As.al a) C cp ps D v hl hv (by rw [LA.out]; exact hl) hX hY
  have c6 := fun v (hv : IsM v A V) hX hY => rmEnvies_any A cv V R B ca (As.al a) C cp ps D v hl hv (by rw [LA.out]; exact hl) hX (by rw [LP.out]; exact hl) hY
  unfold EnQ at c6
  rw [hv0, LA.out, LP.out] at c5 c6
  rw [hen] at c6
  have C5 := Lib.hid c5
  have C6 := Lib.hid c6
  have CR := Lib.hid (fun v i (hi : i < V.length) (hv : IsM v A V) => top_range A cv V R i v hl hv hT hi)
  have CSK := Lib.hid (fun v i (hi : i < V.length) (hv : IsM v A V) => rent_stake A cv V R i v hl hv hT hi)
  have CG1 := Lib.hid (fun v i (hi : i < V.length) (hv : IsM v A V) hX hY => rGain_any A cv V R B ca a C cp ps D i (a.getD i 0) v ⟨hL.ok, hL.r0, hL.r1, hL.le, hv, hX, hY⟩ hi (hL.lt hi))
  have CMK := Lib.hid (fun v i (hi : i < V.length) => rmake_q (a := As.gnF V ps D i (a.getD i 0)) (n := D) e1 (by omega) (by have := As.gnF_bd ok le i (hL.lt hi); omega) (by have := As.gnF_bd ok le i (hL.lt hi); omega) v)
  have CK1 := Lib.hid (fun v i => rcheck_q (a := As.skL V R i) (n := V.length) (by omega) (by omega) (by have := As.sk_bd ok hL.r0 hL.r1 i; omega) (by have := As.sk_bd ok hL.r0 hL.r1 i; omega) v)
  have CK2 := Lib.hid (fun v i => rcheck_q (a := As.skH V R i) (n := V.length) (by omega) (by omega) (by have := As.sk_bd ok hL.r0 hL.r1 i; omega) (by have := As.sk_bd ok hL.r0 hL.r1 i; omega) v)
  have CL1 := Lib.hid (fun v i (hi : i < V.length) => rless_q (a := As.gnF V ps D i (a.getD i 0)) (n := D) (c := As.skL V R i) (d := V.length) e1 (by omega) (by have := As.gnF_bd ok le i (hL.lt hi); omega) (by have := As.gnF_bd ok le i (hL.lt hi); omega) (by omega) (by omega) (by have := As.sk_bd ok hL.r0 hL.r1 i; omega) (by have := As.sk_bd ok hL.r0 hL.r1 i; omega) (As.in_stake ok le ct hi).1 v)
  have CL2 := Lib.hid (fun v i (hi : i < V.length) => rless_q (a := As.skH V R i) (n := V.length) (c := As.gnF V ps D i (a.getD i 0)) (d := D) (by omega) (by omega) (by have := As.sk_bd ok hL.r0 hL.r1 i; omega) (by have := As.sk_bd ok hL.r0 hL.r1 i; omega) e1 (by omega) (by have := As.gnF_bd ok le i (hL.lt hi); omega) (by have := As.gnF_bd ok le i (hL.lt hi); omega) (As.in_stake ok le ct hi).2 v)
  have RMK := Lib.hid (fun v j (hj : j < V.length) => rmake_q (a := As.el ps j) (n := D) e1 (by omega) (by have := le.pb j hj; omega) (by have := le.pb j hj; omega) v)
  have RK1 := Lib.hid (fun v j => rcheck_q (a := As.lowN V (As.bst V) R j) (n := V.length) (by omega) (by omega) (by have := As.ends_bd6 ok hL.r0 hL.r1 j; omega) (by have := As.ends_bd6 ok hL.r0 hL.r1 j; omega) v)
  have RK2 := Lib.hid (fun v j => rcheck_q (a := As.highN V (As.bst V) R j) (n := V.length) (by omega) (by omega) (by have := As.ends_bd6 ok hL.r0 hL.r1 j; omega) (by have := As.ends_bd6 ok hL.r0 hL.r1 j; omega) v)
  have RL1 := Lib.hid (fun v j (hj : j < V.length) => rless_q (a := As.el ps j) (n := D) (c := As.lowN V (As.bst V) R j) (d := V.length) e1 (by omega) (by have := le.pb j hj; omega) (by have := le.pb j hj; omega) (by omega) (by omega) (by have := As.ends_bd6 ok hL.r0 hL.r1 j; omega) (by have := As.ends_bd6 ok hL.r0 hL.r1 j; omega) (As.in_rangeT ok le ct hj).1 v)
  have RL2 := Lib.hid (fun v j (hj : j < V.length) => rless_q (a := As.highN V (As.bst V) R j) (n := V.length) (c := As.el ps j) (d := D) (by omega) (by omega) (by have := As.ends_bd6 ok hL.r0 hL.r1 j; omega) (by have := As.ends_bd6 ok hL.r0 hL.r1 j; omega) e1 (by omega) (by have := le.pb j hj; omega) (by have := le.pb j hj; omega) (As.in_rangeT ok le ct hj).2 v)
  have HPB := Lib.hid (fun j (hj : j < V.length) => (show -600000000 ≤ As.el ps j ∧ As.el ps j ≤ 600000000 from by have := le.pb j hj; omega))
  have HLT := Lib.hid (fun i (hi : i < V.length) => hL.lt hi)
  have HA := Lib.hid hL.hM
  have HIB := Lib.hid hL.hB
  have HIC := Lib.hid hL.hC
  have HOK := Lib.hid ok
  have HLE := Lib.hid le
  have HCT := Lib.hid ct
  have HLL := Lib.hid hl
  clear c5 c6 hen hv0 hL ct ok le
  unfold maxLen at hl
  go_enter Try.func39, Try.ntmps39
  go_upto_region 1 with fail
  refine at_box2 (fun V0 hbb b0 b1 hsz => ?_)
  clear hsz
  replace HA := Lib.hid (HA.out.keep hbb)
  replace HIB := Lib.hid (HIB.out.keep hbb)
  replace HIC := Lib.hid (HIC.out.keep hbb)
  have HB := Lib.hid hbb
  have B0 := Lib.hid b0
  have B1 := Lib.hid b1
  clear hbb b0 b1
  have cB00 := B0.out.c 0 rfl
  have cB01 := B0.out.c 1 rfl
  have cB10 := B1.out.c 0 rfl
  have cB11 := B1.out.c 1 rfl
  have cB12 := B1.out.c 2 rfl
  go_wp2_with fail
  refine (C5.out _ HA.out HIB.out HIC.out).mono ?_
  rintro e w1 ⟨rfl, hb⟩
  replace HA := Lib.hid (HA.out.keep hb)
  replace HIB := Lib.hid (HIB.out.keep hb)
  replace HIC := Lib.hid (HIC.out.keep hb)
  replace B0 := Lib.hid (B0.out.keep hb)
  replace B1 := Lib.hid (B1.out.keep hb)
  replace HB := Lib.hid (keepB HB.out hb)
  clear cB00 cB01 cB10 cB11 cB12 hb
  have cB00 := B0.out.c 0 rfl
  have cB01 := B0.out.c 1 rfl
  have cB10 := B1.out.c 0 rfl
  have cB11 := B1.out.c 1 rfl
  have cB12 := B1.out.c 2 rfl
  go_wp2_with fail
  refine (C6.out _ HA.out HIB.out HIC.out).mono ?_
  rintro e w2 ⟨Z, cz, rfl, -, hb⟩
  replace HA := Lib.hid (HA.out.keep hb)
  replace HIB := Lib.hid (HIB.out.keep hb)
  replace HIC := Lib.hid (HIC.out.keep hb)
  replace B0 := Lib.hid (B0.out.keep hb)
  replace B1 := Lib.hid (B1.out.keep hb)
  replace HB := Lib.hid (keepB HB.out hb)
  clear cB00 cB01 cB10 cB11 cB12 hb
  clear C5 C6
  obtain ⟨qb, ob, rfl, -⟩ := list_at HIB.out (j := 0) (by rw [LA.out]; omega)
  obtain ⟨qc, oc, rfl, hps⟩ := list_at HIC.out (j := 0) (by rw [LP.out]; omega)
  have x0 := hps 0 (by rw [LP.out]; omega)
  rw [Nat.add_zero] at x0
  have i0 : (0 : Int) < (V.length : Int) := by omega
  have cB10 := B1.out.c 0 rfl
  have cB11 := B1.out.c 1 rfl
  have cB12 := B1.out.c 2 rfl
  go_wp2_with fail
  clear x0 i0 hps
  clear cB10 cB11 cB12
  have HBo := Lib.hid HB.out
  go_loopw [8, 9] (fun u i W => ∃ k : Nat, k ≤ V.length ∧ i = .int .i64 k ∧ u = .int .i64 (As.mnk ps k) ∧ Hid (Below w2.heap.size w2 W)) (fun _ i _ => V.length - (intOf i).toNat)
  case atStart => exact ⟨0, Nat.zero_le _, rfl, rfl, Lib.hid (Below.refl _ _)⟩
  case round =>
    clear HB
    obtain ⟨k, hk, rfl, rfl, HB⟩ := hrel
    replace HA := Lib.hid (HA.out.keep HB.out)
    replace HIB := Lib.hid (HIB.out.keep HB.out)
    replace HIC := Lib.hid (HIC.out.keep HB.out)
    replace B0 := Lib.hid (B0.out.keep HB.out)
    replace B1 := Lib.hid (B1.out.keep HB.out)
    by_cases hlt : k < V.length
    · have CMa := Lib.hid (fun v => RMK.out v k hlt)
      have CKa := Lib.hid (fun v => RK1.out v k)
      have CKb := Lib.hid (fun v => RK2.out v k)
      have CLa := Lib.hid (fun v => RL1.out v k hlt)
      have CLb := Lib.hid (fun v => RL2.out v k hlt)
      have CSa := Lib.hid (fun v (hv : IsM v A V) => CR.out v k hlt hv)
      obtain ⟨q2, o2, hq2, hy2⟩ := list_at HIC.out (j := 0) (by rw [LP.out]; omega)
      cases hq2
      have z2 := hy2 k (by rw [LP.out]; exact hlt)
      have HMN := Lib.hid (As.mnk_succ ps k)
      clear hy2 CG1 CMK CK1 CK2 CL1 CL2 CSK RMK RK1 RK2 RL1 RL2 CR
      generalize As.mnk ps k = mk at *
      generalize (Rp.q (As.lowN V (As.bst V) R k) V.length).num = l1 at *
      generalize ((Rp.q (As.lowN V (As.bst V) R k) V.length).den : Int) = l2 at *
      generalize (Rp.q (As.highN V (As.bst V) R k) V.length).num = h1 at *
      generalize ((Rp.q (As.highN V (As.bst V) R k) V.length).den : Int) = h2 at *
      generalize (Rp.q (As.el ps k) D).num = m1 at *
      generalize ((Rp.q (As.el ps k) D).den : Int) = m2 at *
      generalize As.el ps k = pk at *
      have i1 : (k : Int) < (V.length : Int) := by omega
      have ZC := Lib.hid z2
      have cB00 := B0.out.c 0 rfl
      have cB01 := B0.out.c 1 rfl
      have cB10 := B1.out.c 0 rfl
      have cB11 := B1.out.c 1 rfl
      have cB12 := B1.out.c 2 rfl
      go_wp2_with fail
      refine (CSa.out _ HA.out).mono ?_
      rintro e w4 ⟨rfl, hb⟩
      replace ZC := Lib.hid (keepC hb ZC.out)
      clear z2
      replace HA := Lib.hid (HA.out.keep hb)
      replace HIB := Lib.hid (HIB.out.keep hb)
      replace HIC := Lib.hid (HIC.out.keep hb)
      replace B0 := Lib.hid (B0.out.keep hb)
      replace B1 := Lib.hid (B1.out.keep hb)
      replace HB := Lib.hid (keepB HB.out hb)
      clear cB00 cB01 cB10 cB11 cB12 hb
      clear CSa
      go_upto_region 13 with fail
      refine at_worldQ (fun v => Below w4.heap.size w4 v ∧ BK v (w4.heap.size) [.int .i64 l1, .int .i64 l2] ∧ BK v (w4.heap.size + 1) [.int .i64 h1, .int .i64 h2]) ⟨below_al (below_al (Below.refl _ _) _) _, ((BK.new w4 [.int .i64 l1, .int .i64 l2] 31).al _), (bkAtL (BK.new (w4.alloc (.cells #[.int .i64 l1, .int .i64 l2] 31)) [.int .i64 h1, .int .i64 h2] 31) (by simp only [World.size_alloc]))⟩ (fun U4 hS => ?_)
      obtain ⟨hb, hBLo, hBHi⟩ := hS
      replace ZC := Lib.hid (keepC hb ZC.out)
      replace HA := Lib.hid (HA.out.keep hb)
      replace HIB := Lib.hid (HIB.out.keep hb)
      replace HIC := Lib.hid (HIC.out.keep hb)
      replace B0 := Lib.hid (B0.out.keep hb)
      replace B1 := Lib.hid (B1.out.keep hb)
      replace HB := Lib.hid (keepB HB.out hb)
      have BLo := Lib.hid hBLo
      have BHi := Lib.hid hBHi
      clear hb hBLo hBHi
      have z2 := ZC.out
      have g2 := B1.out.c 0 rfl
      have g3 := B1.out.c 1 rfl
      have g4 := B1.out.c 2 rfl
      clear ZC
      refine wp_region_noPanic ?_
      refine wp_region_held_drew (S := (Below U4.heap.size U4)) (by kernel_rfl) ((Below.refl _ _).drew) (fun hHeld => ?_)
      refine at_anyH (Below U4.heap.size U4) hHeld (fun wd0 hNew => ?_)
      clear hHeld
      have hHeld := hNew
      clear hNew
      refine tkd 0 ?_
      try simp only [PPz]
      refine tkm 1 rfl hHeld (fun w hSw => by have kz2 := keepC hSw z2; have kg2 := keepC hSw g2; have kg3 := keepC hSw g3; have kg4 := keepC hSw g4; go_simp <;> with_reducible rfl) ?_
      try simp only [PPz]
      refine tkd 2 ?_
      try simp only [PPz]
      refine tkd 3 ?_
      try simp only [PPz]
      refine tkm 4 rfl hHeld (fun w hSw => by have kz2 := keepC hSw z2; have kg2 := keepC hSw g2; have kg3 := keepC hSw g3; have kg4 := keepC hSw g4; go_simp <;> with_reducible rfl) ?_
      try simp only [PPz]
      refine tkd 5 ?_
      try simp only [PPz]
      refine tkm 6 rfl hHeld (fun w hSw => by have kz2 := keepC hSw z2; have kg2 := keepC hSw g2; have kg3 := keepC hSw g3; have kg4 := keepC hSw g4; go_simp <;> with_reducible rfl) ?_
      try simp only [PPz]
      refine dag (fun G a => ∀  (pX : Nat) (W : World), Below U4.heap.size U4 W → BK W pX [.int .i64 m1, .int .i64 m2] → U4.heap.size ≤ pX → G 1 #[true, true, true, true, true, true, true, true, true, true, true, true, true, false] (((((a.put (some 84) (.tuple #[.agg #[.int .i64 m1, .int .i64 m2], .int .i64 0])).put (some 76) (.tuple #[.agg #[.int .i64 m1, .int .i64 m2], .int .i64 0])).put (some 85) (.agg #[.int .i64 m1, .int .i64 m2])).put (some 86) (.int .i64 0)).put (some 13) (.pointer (some ⟨pX, 0, none⟩))) W) ?_ (fun Nd0 => ?_)
      ·
       intro pX wds0 hHeld BX hX
       try simp only [PPz]
       refine tkd 13 ?_
       try simp only [PPz]
       refine wpAnyH_done (by kernel_rfl) ?_ _
       refine NoPanic.normal ?_
       have hb := hHeld
       replace HA := Lib.hid (HA.out.keep hb)
       replace HIB := Lib.hid (HIB.out.keep hb)
       replace HIC := Lib.hid (HIC.out.keep hb)
       replace B0 := Lib.hid (B0.out.keep hb)
       replace B1 := Lib.hid (B1.out.keep hb)
       replace BLo := Lib.hid (BLo.out.keep hb)
       replace BHi := Lib.hid (BHi.out.keep hb)
       replace HB := Lib.hid (keepB HB.out hb)
       have BG := Lib.hid BX
       clear hb hHeld BX z2 g2 g3 g4
       have cBLo0 := BLo.out.c 0 rfl
       have cBLo1 := BLo.out.c 1 rfl
       go_wp2_with fail
       refine (CKa.out _).mono ?_
       rintro e v1 ⟨rfl, hb⟩
       replace HA := Lib.hid (HA.out.keep hb)
       replace HIB := Lib.hid (HIB.out.keep hb)
       replace HIC := Lib.hid (HIC.out.keep hb)
       replace B0 := Lib.hid (B0.out.keep hb)
       replace B1 := Lib.hid (B1.out.keep hb)
       replace BLo := Lib.hid (BLo.out.keep hb)
       replace BHi := Lib.hid (BHi.out.keep hb)
       replace BG := Lib.hid (BG.out.keep hb)
       replace HB := Lib.hid (keepB HB.out hb)
       clear cBLo0 cBLo1 hb
       have cBHi0 := BHi.out.c 0 rfl
       have cBHi1 := BHi.out.c 1 rfl
       go_wp2_with fail
       refine (CKb.out _).mono ?_
       rintro e v2 ⟨rfl, hb⟩
       replace HA := Lib.hid (HA.out.keep hb)
       replace HIB := Lib.hid (HIB.out.keep hb)
       replace HIC := Lib.hid (HIC.out.keep hb)
       replace B0 := Lib.hid (B0.out.keep hb)
       replace B1 := Lib.hid (B1.out.keep hb)
       replace BLo := Lib.hid (BLo.out.keep hb)
       replace BHi := Lib.hid (BHi.out.keep hb)
       replace BG := Lib.hid (BG.out.keep hb)
       replace HB := Lib.hid (keepB HB.out hb)
       clear cBHi0 cBHi1 hb
       have cBG0 := BG.out.c 0 rfl
       have cBG1 := BG.out.c 1 rfl
       have cBLo0 := BLo.out.c 0 rfl
       have cBLo1 := BLo.out.c 1 rfl
       go_wp2_with fail
       refine (CLa.out _).mono ?_
       rintro e v3 ⟨rfl, hb⟩
       replace HA := Lib.hid (HA.out.keep hb)
       replace HIB := Lib.hid (HIB.out.keep hb)
       replace HIC := Lib.hid (HIC.out.keep hb)
       replace B0 := Lib.hid (B0.out.keep hb)
       replace B1 := Lib.hid (B1.out.keep hb)
       replace BLo := Lib.hid (BLo.out.keep hb)
       replace BHi := Lib.hid (BHi.out.keep hb)
       replace BG := Lib.hid (BG.out.keep hb)
       replace HB := Lib.hid (keepB HB.out hb)
       clear cBG0 cBG1 cBLo0 cBLo1 hb
       have cBG0 := BG.out.c 0 rfl
       have cBG1 := BG.out.c 1 rfl
       have cBHi0 := BHi.out.c 0 rfl
       have cBHi1 := BHi.out.c 1 rfl
       go_wp2_with fail
       refine (CLb.out _).mono ?_
       rintro e v4 ⟨rfl, hb⟩
       replace HA := Lib.hid (HA.out.keep hb)
       replace HIB := Lib.hid (HIB.out.keep hb)
       replace HIC := Lib.hid (HIC.out.keep hb)
       replace B0 := Lib.hid (B0.out.keep hb)
       replace B1 := Lib.hid (B1.out.keep hb)
       replace BLo := Lib.hid (BLo.out.keep hb)
       replace BHi := Lib.hid (BHi.out.keep hb)
       replace BG := Lib.hid (BG.out.keep hb)
       replace HB := Lib.hid (keepB HB.out hb)
       clear cBG0 cBG1 cBHi0 cBHi1 hb
       go_wp2_with fail
       go_roundw
       case rel => exact ⟨k + 1, by omega, by go_num, by rw [HMN.out], HB⟩
       case measure => simp [intOf]; omega
      refine rdy2 7 11 rfl rfl (fun K hK => ?_) (fun K hK => ?_)
      ·
       go_simp
       refine (CMa.out _).mono ?_
       rintro e wd9 ⟨rfl, hb3⟩
       go_wp2_with fail
       refine hK.out _ _ (keepB hHeld hb3) (fun hNew => ?_)
       clear hb3
       clear hHeld hK K
       have hHeld := hNew
       clear hNew
       try simp only [PPz]
       refine tkd 8 ?_
       try simp only [PPz]
       refine tkd 9 ?_
       try simp only [PPz]
       refine tkd 10 ?_
       try simp only [PPz]
       refine rdy1 11 rfl (fun K hK => ?_)
       go_simp
       refine hK.out _ _ (below_al hHeld _) (fun hNew => ?_)
       have hX : U4.heap.size ≤ wd9.heap.size := hHeld.size
       clear hHeld hK K
       have hHeld := hNew
       clear hNew
       try simp only [PPz]
       refine at_anyH (fun v => Below U4.heap.size U4 v ∧ BK v wd9.heap.size [.int .i64 0, .int .i64 0]) ⟨hHeld, BK.new _ _ _⟩ (fun wd13 hS => ?_)
       clear hHeld
       obtain ⟨hHeld, BX⟩ := hS
       refine rdy1 12 rfl (fun K hK => ?_)
       have n0 := BX.c 0 rfl
       have f0 := BX.f 0 rfl
       have n1 := BX.c 1 rfl
       have f1 := BX.f 1 rfl
       go_simp
       clear n0 f0 n1 f1
       refine hK.out _ _ (below_set (below_set hHeld (by omega) _) (by omega) _) (fun hNew => ?_)
       clear hHeld hK K
       have hHeld := hNew
       clear hNew
       try simp only [PPz]
       refine at_anyH (fun v => Below U4.heap.size U4 v ∧ BK v wd9.heap.size [.int .i64 m1, .int .i64 m2]) ⟨hHeld, ((BX.set 0 _).set 1 _)⟩ (fun wd14 hS => ?_)
       clear hHeld BX
       obtain ⟨hHeld, BX⟩ := hS
       exact dag_use (Nd0.out _ _ hHeld BX hX) (by kernel_rfl) (by kernel_rfl)
      ·
       go_simp
       refine hK.out _ _ (below_al hHeld _) (fun hNew => ?_)
       have hX : U4.heap.size ≤ wd0.heap.size := hHeld.size
       clear hHeld hK K
       have hHeld := hNew
       clear hNew
       try simp only [PPz]
       refine at_anyH (fun v => Below U4.heap.size U4 v ∧ BK v wd0.heap.size [.int .i64 0, .int .i64 0]) ⟨hHeld, BK.new _ _ _⟩ (fun wd15 hS => ?_)
       clear hHeld
       obtain ⟨hHeld, BX⟩ := hS
       refine rdy1 7 rfl (fun K hK => ?_)
       go_simp
       refine (CMa.out _).mono ?_
       rintro e wd16 ⟨rfl, hb3⟩
       go_wp2_with fail
       refine hK.out _ _ (keepB hHeld hb3) (fun hNew => ?_)
       replace BX := BX.keep hb3
       clear hb3
       clear hHeld hK K
       have hHeld := hNew
       clear hNew
       try simp only [PPz]
       refine tkd 8 ?_
       try simp only [PPz]
       refine tkd 9 ?_
       try simp only [PPz]
       refine tkd 10 ?_
       try simp only [PPz]
       refine rdy1 12 rfl (fun K hK => ?_)
       have n0 := BX.c 0 rfl
       have f0 := BX.f 0 rfl
       have n1 := BX.c 1 rfl
       have f1 := BX.f 1 rfl
       go_simp
       clear n0 f0 n1 f1
       refine hK.out _ _ (below_set (below_set hHeld (by omega) _) (by omega) _) (fun hNew => ?_)
       clear hHeld hK K
       have hHeld := hNew
       clear hNew
       try simp only [PPz]
       refine at_anyH (fun v => Below U4.heap.size U4 v ∧ BK v wd0.heap.size [.int .i64 m1, .int .i64 m2]) ⟨hHeld, ((BX.set 0 _).set 1 _)⟩ (fun wd20 hS => ?_)
       clear hHeld BX
       obtain ⟨hHeld, BX⟩ := hS
       exact dag_use (Nd0.out _ _ hHeld BX hX) (by kernel_rfl) (by kernel_rfl)
    · obtain rfl : k = V.length := by omega
      replace HB := Lib.hid (keepB HBo.out HB.out)
      clear RMK RK1 RK2 RL1 RL2 CR HBo
      obtain ⟨w5, hw5⟩ : ∃ w5 : World, w5 = wr := ⟨_, rfl⟩
      subst hw5
      go_wp2_with fail
      have HBo := Lib.hid HB.out
      go_loopw [15] (fun i W => ∃ k : Nat, k ≤ V.length ∧ i = .int .i64 k ∧ Hid (Below w5.heap.size w5 W)) (fun i _ => V.length - (intOf i).toNat)
      case atStart => exact ⟨0, Nat.zero_le _, rfl, Lib.hid (Below.refl _ _)⟩
      case round =>
        clear HB
        obtain ⟨k, hk, rfl, HB⟩ := hrel
        replace HA := Lib.hid (HA.out.keep HB.out)
        replace HIB := Lib.hid (HIB.out.keep HB.out)
        replace HIC := Lib.hid (HIC.out.keep HB.out)
        replace B0 := Lib.hid (B0.out.keep HB.out)
        replace B1 := Lib.hid (B1.out.keep HB.out)
        by_cases hlt : k < V.length
        · have CGa := Lib.hid (fun v hv hX hY => CG1.out v k hlt hv hX hY)
          have CMa := Lib.hid (fun v => CMK.out v k hlt)
          have CKa := Lib.hid (fun v => CK1.out v k)
          have CKb := Lib.hid (fun v => CK2.out v k)
          have CLa := Lib.hid (fun v => CL1.out v k hlt)
          have CLb := Lib.hid (fun v => CL2.out v k hlt)
          have CSa := Lib.hid (fun v (hv : IsM v A V) => CSK.out v k hlt hv)
          have j1 := HLT.out k hlt
          obtain ⟨q2, o2, hq2, hy2⟩ := list_at HIB.out (j := 0) (by rw [LA.out]; omega)
          cases hq2
          have z2 := hy2 k (by rw [LA.out]; exact hlt)
          rw [As.el_al] at z2
          clear hy2 CG1 CMK CK1 CK2 CL1 CL2 CSK HLT
          generalize (Rp.q (As.skL V R k) V.length).num = l1 at *
          generalize ((Rp.q (As.skL V R k) V.length).den : Int) = l2 at *
          generalize (Rp.q (As.skH V R k) V.length).num = h1 at *
          generalize ((Rp.q (As.skH V R k) V.length).den : Int) = h2 at *
          generalize (Rp.q (As.gnF V ps D k (a.getD k 0)) D).num = m1 at *
          generalize ((Rp.q (As.gnF V ps D k (a.getD k 0)) D).den : Int) = m2 at *
          generalize As.gnF V ps D k (a.getD k 0) = ga at *
          generalize a.getD k 0 = ja at *
          have i1 : (k : Int) < (V.length : Int) := by omega
          have ZC := Lib.hid z2
          clear z2
          have cB00 := B0.out.c 0 rfl
          have cB01 := B0.out.c 1 rfl
          go_wp2_with fail
          refine (CSa.out _ HA.out).mono ?_
          rintro e w6 ⟨rfl, hb⟩
          replace ZC := Lib.hid (keepC hb ZC.out)
          replace HA := Lib.hid (HA.out.keep hb)
          replace HIB := Lib.hid (HIB.out.keep hb)
          replace HIC := Lib.hid (HIC.out.keep hb)
          replace B0 := Lib.hid (B0.out.keep hb)
          replace B1 := Lib.hid (B1.out.keep hb)
          replace HB := Lib.hid (keepB HB.out hb)
          clear cB00 cB01 hb
          clear CSa
          go_upto_region 20 with fail
          refine at_worldQ (fun v => Below w6.heap.size w6 v ∧ BK v (w6.heap.size) [.int .i64 l1, .int .i64 l2] ∧ BK v (w6.heap.size + 1) [.int .i64 h1, .int .i64 h2]) ⟨below_al (below_al (Below.refl _ _) _) _, ((BK.new w6 [.int .i64 l1, .int .i64 l2] 31).al _), (bkAtL (BK.new (w6.alloc (.cells #[.int .i64 l1, .int .i64 l2] 31)) [.int .i64 h1, .int .i64 h2] 31) (by simp only [World.size_alloc]))⟩ (fun U6 hS => ?_)
          obtain ⟨hb, hBLo, hBHi⟩ := hS
          replace ZC := Lib.hid (keepC hb ZC.out)
          replace HA := Lib.hid (HA.out.keep hb)
          replace HIB := Lib.hid (HIB.out.keep hb)
          replace HIC := Lib.hid (HIC.out.keep hb)
          replace B0 := Lib.hid (B0.out.keep hb)
          replace B1 := Lib.hid (B1.out.keep hb)
          replace HB := Lib.hid (keepB HB.out hb)
          have BLo := Lib.hid hBLo
          have BHi := Lib.hid hBHi
          clear hb hBLo hBHi
          have z2 := ZC.out
          have g0 := B0.out.c 0 rfl
          have g1 := B0.out.c 1 rfl
          have g2 := B1.out.c 0 rfl
          have g3 := B1.out.c 1 rfl
          have g4 := B1.out.c 2 rfl
          clear ZC
          refine wp_region_noPanic ?_
          refine wp_region_held_drew (S := (Below U6.heap.size U6)) (by kernel_rfl) ((Below.refl _ _).drew) (fun hHeld => ?_)
          refine at_anyH (Below U6.heap.size U6) hHeld (fun we0 hNew => ?_)
          clear hHeld
          have hHeld := hNew
          clear hNew
          refine tkm 0 rfl hHeld (fun w hSw => by have kz2 := keepC hSw z2; have kg0 := keepC hSw g0; have kg1 := keepC hSw g1; have kg2 := keepC hSw g2; have kg3 := keepC hSw g3; have kg4 := keepC hSw g4; go_simp <;> with_reducible rfl) ?_
          try simp only [PPz]
          refine tkm 1 rfl hHeld (fun w hSw => by have kz2 := keepC hSw z2; have kg0 := keepC hSw g0; have kg1 := keepC hSw g1; have kg2 := keepC hSw g2; have kg3 := keepC hSw g3; have kg4 := keepC hSw g4; go_simp <;> with_reducible rfl) ?_
          try simp only [PPz]
          refine tkd 2 ?_
          try simp only [PPz]
          refine tkd 3 ?_
          try simp only [PPz]
          refine tkm 4 rfl hHeld (fun w hSw => by have kz2 := keepC hSw z2; have kg0 := keepC hSw g0; have kg1 := keepC hSw g1; have kg2 := keepC hSw g2; have kg3 := keepC hSw g3; have kg4 := keepC hSw g4; go_simp <;> with_reducible rfl) ?_
          try simp only [PPz]
          refine tkd 5 ?_
          try simp only [PPz]
          refine tkd 6 ?_
          try simp only [PPz]
          refine tkm 7 rfl hHeld (fun w hSw => by have kz2 := keepC hSw z2; have kg0 := keepC hSw g0; have kg1 := keepC hSw g1; have kg2 := keepC hSw g2; have kg3 := keepC hSw g3; have kg4 := keepC hSw g4; go_simp <;> with_reducible rfl) ?_
          try simp only [PPz]
          refine tkd 9 ?_
          try simp only [PPz]
          refine tkm 10 rfl hHeld (fun w hSw => by have kz2 := keepC hSw z2; have kg0 := keepC hSw g0; have kg1 := keepC hSw g1; have kg2 := keepC hSw g2; have kg3 := keepC hSw g3; have kg4 := keepC hSw g4; go_simp <;> with_reducible rfl) ?_
          try simp only [PPz]
          refine dag (fun G a => ∀  (pX : Nat) (W : World), Below U6.heap.size U6 W → BK W pX [.int .i64 m1, .int .i64 m2] → U6.heap.size ≤ pX → G 1 #[true, true, true, true, true, true, true, true, true, true, true, true, true, true, true, true, true, false] ((((((a.put (some 130) (.int .i64 ga)).put (some 133) (.tuple #[.agg #[.int .i64 m1, .int .i64 m2], .int .i64 0])).put (some 121) (.tuple #[.agg #[.int .i64 m1, .int .i64 m2], .int .i64 0])).put (some 134) (.agg #[.int .i64 m1, .int .i64 m2])).put (some 135) (.int .i64 0)).put (some 19) (.pointer (some ⟨pX, 0, none⟩))) W) ?_ (fun Ne0 => ?_)
          ·
           intro pX wes0 hHeld BX hX
           try simp only [PPz]
           refine tkd 17 ?_
           try simp only [PPz]
           refine wpAnyH_done (by kernel_rfl) ?_ _
           refine NoPanic.normal ?_
           have hb := hHeld
           replace HA := Lib.hid (HA.out.keep hb)
           replace HIB := Lib.hid (HIB.out.keep hb)
           replace HIC := Lib.hid (HIC.out.keep hb)
           replace B0 := Lib.hid (B0.out.keep hb)
           replace B1 := Lib.hid (B1.out.keep hb)
           replace BLo := Lib.hid (BLo.out.keep hb)
           replace BHi := Lib.hid (BHi.out.keep hb)
           replace HB := Lib.hid (keepB HB.out hb)
           have BG := Lib.hid BX
           clear hb hHeld BX z2 g0 g1 g2 g3 g4
           have cBLo0 := BLo.out.c 0 rfl
           have cBLo1 := BLo.out.c 1 rfl
           go_wp2_with fail
           refine (CKa.out _).mono ?_
           rintro e v1 ⟨rfl, hb⟩
           replace HA := Lib.hid (HA.out.keep hb)
           replace HIB := Lib.hid (HIB.out.keep hb)
           replace HIC := Lib.hid (HIC.out.keep hb)
           replace B0 := Lib.hid (B0.out.keep hb)
           replace B1 := Lib.hid (B1.out.keep hb)
           replace BLo := Lib.hid (BLo.out.keep hb)
           replace BHi := Lib.hid (BHi.out.keep hb)
           replace BG := Lib.hid (BG.out.keep hb)
           replace HB := Lib.hid (keepB HB.out hb)
           clear cBLo0 cBLo1 hb
           have cBHi0 := BHi.out.c 0 rfl
           have cBHi1 := BHi.out.c 1 rfl
           go_wp2_with fail
           refine (CKb.out _).mono ?_
           rintro e v2 ⟨rfl, hb⟩
           replace HA := Lib.hid (HA.out.keep hb)
           replace HIB := Lib.hid (HIB.out.keep hb)
           replace HIC := Lib.hid (HIC.out.keep hb)
           replace B0 := Lib.hid (B0.out.keep hb)
           replace B1 := Lib.hid (B1.out.keep hb)
           replace BLo := Lib.hid (BLo.out.keep hb)
           replace BHi := Lib.hid (BHi.out.keep hb)
           replace BG := Lib.hid (BG.out.keep hb)
           replace HB := Lib.hid (keepB HB.out hb)
           clear cBHi0 cBHi1 hb
           have cBG0 := BG.out.c 0 rfl
           have cBG1 := BG.out.c 1 rfl
           have cBLo0 := BLo.out.c 0 rfl
           have cBLo1 := BLo.out.c 1 rfl
           go_wp2_with fail
           refine (CLa.out _).mono ?_
           rintro e v3 ⟨rfl, hb⟩
           replace HA := Lib.hid (HA.out.keep hb)
           replace HIB := Lib.hid (HIB.out.keep hb)
           replace HIC := Lib.hid (HIC.out.keep hb)
           replace B0 := Lib.hid (B0.out.keep hb)
           replace B1 := Lib.hid (B1.out.keep hb)
           replace BLo := Lib.hid (BLo.out.keep hb)
           replace BHi := Lib.hid (BHi.out.keep hb)
           replace BG := Lib.hid (BG.out.keep hb)
           replace HB := Lib.hid (keepB HB.out hb)
           clear cBG0 cBG1 cBLo0 cBLo1 hb
           have cBG0 := BG.out.c 0 rfl
           have cBG1 := BG.out.c 1 rfl
           have cBHi0 := BHi.out.c 0 rfl
           have cBHi1 := BHi.out.c 1 rfl
           go_wp2_with fail
           refine (CLb.out _).mono ?_
           rintro e v4 ⟨rfl, hb⟩
           replace HA := Lib.hid (HA.out.keep hb)
           replace HIB := Lib.hid (HIB.out.keep hb)
           replace HIC := Lib.hid (HIC.out.keep hb)
           replace B0 := Lib.hid (B0.out.keep hb)
           replace B1 := Lib.hid (B1.out.keep hb)
           replace BLo := Lib.hid (BLo.out.keep hb)
           replace BHi := Lib.hid (BHi.out.keep hb)
           replace BG := Lib.hid (BG.out.keep hb)
           replace HB := Lib.hid (keepB HB.out hb)
           clear cBG0 cBG1 cBHi0 cBHi1 hb
           go_wp2_with fail
           go_roundw
           case rel => exact ⟨k + 1, by omega, by go_num, HB⟩
           case measure => simp [intOf]; omega
          refine dag (fun G a => ∀  (pX : Nat) (W : World), Below U6.heap.size U6 W → BK W pX [.int .i64 0, .int .i64 0] → U6.heap.size ≤ pX → G 6 #[true, true, true, true, true, true, true, true, true, true, true, false, false, false, false, true, false, false] ((a.put (some 130) (.int .i64 ga)).put (some 19) (.pointer (some ⟨pX, 0, none⟩))) W) ?_ (fun Ne1 => ?_)
          ·
           intro pX wes1 hHeld BX hX
           try simp only [PPz]
           refine rdy1 11 rfl (fun K hK => ?_)
           go_simp
           refine (CMa.out _).mono ?_
           rintro e we12 ⟨rfl, hb3⟩
           go_wp2_with fail
           refine hK.out _ _ (keepB hHeld hb3) (fun hNew => ?_)
           replace BX := BX.keep hb3
           clear hb3
           clear hHeld hK K
           have hHeld := hNew
           clear hNew
           try simp only [PPz]
           refine tkd 12 ?_
           try simp only [PPz]
           refine tkd 13 ?_
           try simp only [PPz]
           refine tkd 14 ?_
           try simp only [PPz]
           refine rdy1 16 rfl (fun K hK => ?_)
           have n0 := BX.c 0 rfl
           have f0 := BX.f 0 rfl
           have n1 := BX.c 1 rfl
           have f1 := BX.f 1 rfl
           go_simp
           clear n0 f0 n1 f1
           refine hK.out _ _ (below_set (below_set hHeld (by omega) _) (by omega) _) (fun hNew => ?_)
           clear hHeld hK K
           have hHeld := hNew
           clear hNew
           try simp only [PPz]
           refine at_anyH (fun v => Below U6.heap.size U6 v ∧ BK v pX [.int .i64 m1, .int .i64 m2]) ⟨hHeld, ((BX.set 0 _).set 1 _)⟩ (fun we16 hS => ?_)
           clear hHeld BX
           obtain ⟨hHeld, BX⟩ := hS
           exact dag_use (Ne0.out _ _ hHeld BX hX) (by kernel_rfl) (by kernel_rfl)
          refine rdy2 8 15 rfl rfl (fun K hK => ?_) (fun K hK => ?_)
          ·
           go_simp
           refine (CGa.out _ (HA.out.keep hHeld) (HIB.out.keep hHeld) (HIC.out.keep hHeld)).mono ?_
           rintro e we17 ⟨rfl, hb3⟩
           go_wp2_with fail
           refine hK.out _ _ (keepB hHeld hb3) (fun hNew => ?_)
           clear hb3
           clear hHeld hK K
           have hHeld := hNew
           clear hNew
           try simp only [PPz]
           refine rdy2 11 15 rfl rfl (fun K hK => ?_) (fun K hK => ?_)
           ·
            go_simp
            refine (CMa.out _).mono ?_
            rintro e we18 ⟨rfl, hb3⟩
            go_wp2_with fail
            refine hK.out _ _ (keepB hHeld hb3) (fun hNew => ?_)
            clear hb3
            clear hHeld hK K
            have hHeld := hNew
            clear hNew
            try simp only [PPz]
            refine tkd 12 ?_
            try simp only [PPz]
            refine tkd 13 ?_
            try simp only [PPz]
            refine tkd 14 ?_
            try simp only [PPz]
            refine rdy1 15 rfl (fun K hK => ?_)
            go_simp
            refine hK.out _ _ (below_al hHeld _) (fun hNew => ?_)
            have hX : U6.heap.size ≤ we18.heap.size := hHeld.size
            clear hHeld hK K
            have hHeld := hNew
            clear hNew
            try simp only [PPz]
            refine at_anyH (fun v => Below U6.heap.size U6 v ∧ BK v we18.heap.size [.int .i64 0, .int .i64 0]) ⟨hHeld, BK.new _ _ _⟩ (fun we22 hS => ?_)
            clear hHeld
            obtain ⟨hHeld, BX⟩ := hS
            refine rdy1 16 rfl (fun K hK => ?_)
            have n0 := BX.c 0 rfl
            have f0 := BX.f 0 rfl
            have n1 := BX.c 1 rfl
            have f1 := BX.f 1 rfl
            go_simp
            clear n0 f0 n1 f1
            refine hK.out _ _ (below_set (below_set hHeld (by omega) _) (by omega) _) (fun hNew => ?_)
            clear hHeld hK K
            have hHeld := hNew
            clear hNew
            try simp only [PPz]
            refine at_anyH (fun v => Below U6.heap.size U6 v ∧ BK v we18.heap.size [.int .i64 m1, .int .i64 m2]) ⟨hHeld, ((BX.set 0 _).set 1 _)⟩ (fun we23 hS => ?_)
            clear hHeld BX
            obtain ⟨hHeld, BX⟩ := hS
            exact dag_use (Ne0.out _ _ hHeld BX hX) (by kernel_rfl) (by kernel_rfl)
           ·
            go_simp
            refine hK.out _ _ (below_al hHeld _) (fun hNew => ?_)
            have hX : U6.heap.size ≤ we17.heap.size := hHeld.size
            clear hHeld hK K
            have hHeld := hNew
            clear hNew
            try simp only [PPz]
            refine at_anyH (fun v => Below U6.heap.size U6 v ∧ BK v we17.heap.size [.int .i64 0, .int .i64 0]) ⟨hHeld, BK.new _ _ _⟩ (fun we24 hS => ?_)
            clear hHeld
            obtain ⟨hHeld, BX⟩ := hS
            exact dag_use (Ne1.out _ _ hHeld BX hX) (by kernel_rfl) (by kernel_rfl)
          ·
           go_simp
           refine hK.out _ _ (below_al hHeld _) (fun hNew => ?_)
           have hX : U6.heap.size ≤ we0.heap.size := hHeld.size
           clear hHeld hK K
           have hHeld := hNew
           clear hNew
           try simp only [PPz]
           refine at_anyH (fun v => Below U6.heap.size U6 v ∧ BK v we0.heap.size [.int .i64 0, .int .i64 0]) ⟨hHeld, BK.new _ _ _⟩ (fun we25 hS => ?_)
           clear hHeld
           obtain ⟨hHeld, BX⟩ := hS
           refine rdy1 8 rfl (fun K hK => ?_)
           go_simp
           refine (CGa.out _ (HA.out.keep hHeld) (HIB.out.keep hHeld) (HIC.out.keep hHeld)).mono ?_
           rintro e we26 ⟨rfl, hb3⟩
           go_wp2_with fail
           refine hK.out _ _ (keepB hHeld hb3) (fun hNew => ?_)
           replace BX := BX.keep hb3
           clear hb3
           clear hHeld hK K
           have hHeld := hNew
           clear hNew
           try simp only [PPz]
           exact dag_use (Ne1.out _ _ hHeld BX hX) (by kernel_rfl) (by kernel_rfl)
        · obtain rfl : k = V.length := by omega
          replace HB := Lib.hid (keepB HBo.out HB.out)
          clear CG1 CMK CK1 CK2 CL1 CL2 CSK HLT HBo
          obtain ⟨w7, hw7⟩ : ∃ w7 : World, w7 = wr := ⟨_, rfl⟩
          subst hw7
          go_wp2_with fail
          skip
          obtain ⟨i0, hi0, hz0, hz1, hz2⟩ := info_parts intInfo
          have HI := Lib.hid hi0
          have HI2 := Lib.hid hz0
          have HI3 := Lib.hid hz1
          have HI4 := Lib.hid hz2
          obtain ⟨j0, kj0, kz0, kz1, kz2⟩ := info_parts rowInfo
          have HJ := Lib.hid kj0
          have HJ2 := Lib.hid kz0
          have HJ3 := Lib.hid kz1
          have HJ4 := Lib.hid kz2
          clear hi0 hz0 hz1 hz2 kj0 kz0 kz1 kz2
          have HLF := Lib.hid (show As.lft V ps = ml V.length (fun j => As.el ps j - As.mnk ps V.length) from rfl)
          have HSC := Lib.hid (As.sc_mm HOK.out D)
          have HMK := Lib.hid (show -600000000 ≤ As.mnk ps V.length ∧ As.mnk ps V.length ≤ 600000000 from by
            obtain ⟨i, hi, e⟩ := As.mnk_at ps (V.length - 1)
            rw [show V.length - 1 + 1 = V.length by omega] at hi e
            rw [e]; exact HPB.out i hi)
          obtain ⟨F, HF0⟩ : ∃ F : Nat → Nat → Int, F = fun i j => As.vl V i j * D := ⟨_, rfl⟩
          obtain ⟨G0, HG0⟩ : ∃ G0 : Nat → Int, G0 = fun j => As.el ps j - As.mnk ps V.length := ⟨_, rfl⟩
          have HF := Lib.hid (show ∀ i j, As.vl V i j * D = F i j from fun i j => by rw [HF0])
          have HG := Lib.hid (show ∀ j, As.el ps j - As.mnk ps V.length = G0 j from fun j => by rw [HG0])
          replace HSC := Lib.hid (show As.sc D V = mm V.length V.length F by rw [HSC.out, HF0])
          replace HLF := Lib.hid (show As.lft V ps = ml V.length G0 by rw [HLF.out, HG0])
          have HFB := Lib.hid (show ∀ i j, 0 ≤ As.vl V i j ∧ As.vl V i j ≤ 1000000 ∧ 0 ≤ F i j ∧ F i j ≤ 60000000 from fun i j => by
            have h := HOK.out.bd i j
            rw [← HF.out i j]
            have q1 : 0 * D ≤ As.vl V i j * D := Int.mul_le_mul_of_nonneg_right h.1 (by omega)
            have q2 : As.vl V i j * D ≤ 1000000 * D := Int.mul_le_mul_of_nonneg_right h.2 (by omega)
            omega)
          clear HF0 HG0
          generalize hmk : As.mnk ps V.length = mk at *
          have HT0 := Lib.hid (T3.nil w7 V.length F G0 (fun _ => 0) (fun _ => 0))
          go_loopw [21, 22, 23] (fun vv vl i W => ∃ k : Nat, k ≤ V.length ∧ i = .int .i64 k ∧ ∃ H C, Hid (T3 w7 W w7.heap.size V.length k k F G0 vv vl H C)) (fun _ _ i _ => V.length - (intOf i).toNat)
          case atStart => exact ⟨0, Nat.zero_le _, rfl, _, _, HT0⟩
          case round =>
            clear HT0
            obtain ⟨k, hk, rfl, H, C, HT⟩ := hrel
            by_cases hlt : k < V.length
            · obtain ⟨xb, xo, rfl, hrows⟩ := HA.out (by omega)
              obtain ⟨RR, rc, hrow, -, hI⟩ := hrows k hlt
              have hrl := HOK.out.row k hlt
              obtain ⟨rb, ro, rfl, hcs⟩ := hI.1 (by rw [hrl]; omega)
              rw [hrl] at hrow hcs
              have HCS := Lib.hid (show ∀ j, j < V.length → w7.cell? ⟨rb, ro + j, none⟩ = some (.int .i64 (As.vl V k j)) from hcs)
              have HC2 := Lib.hid hrow
              have HC1 := Lib.hid (B0.out.c 0 rfl)
              have HC4 := Lib.hid (B1.out.c 2 rfl)
              clear hrows hI hcs hrow hrl
              have i1 : (k : Int) < (V.length : Int) := by omega
              have HT4 := Lib.hid (T4.start HT.out)
              go_wp2_with fail
              go_loopw [24, 25] (fun vr j W => ∃ y : Nat, y ≤ V.length ∧ j = .int .i64 y ∧ Hid (T4 w7 W w7.heap.size V.length k k F G0 u21 u22 H C vr y)) (fun _ j _ => V.length - (intOf j).toNat)
              case atStart => exact ⟨0, Nat.zero_le _, rfl, HT4⟩
              case round =>
                clear HT4 HT
                obtain ⟨y, hy, rfl, HR⟩ := hrel
                by_cases hly : y < V.length
                · have i2 : (y : Int) < (V.length : Int) := by omega
                  obtain ⟨XA, xc, rfl⟩ := row_formT HR.out.ro
                  have hbR := HR.out.t.tw.bb
                  have HC3 := Lib.hid (HCS.out y hly)
                  have HX0 := Lib.hid (show wr.cell? ⟨w.heap.size, 0, none⟩ = some (.slice (some ⟨xb, xo, none⟩) V.length cv) ∧ wr.cell? ⟨xb, xo + k, none⟩ = some (.slice (some ⟨rb, ro, none⟩) V.length rc) ∧ wr.cell? ⟨rb, ro + y, none⟩ = some (.int .i64 (As.vl V k y)) ∧ wr.cell? ⟨w.heap.size + 1, 2, none⟩ = some (.int .i64 D) from ⟨keepC hbR HC1.out, keepC hbR HC2.out, keepC hbR HC3.out, keepC hbR HC4.out⟩)
                  have HX1 := Lib.hid (show wr.drew.cell? ⟨w.heap.size, 0, none⟩ = some (.slice (some ⟨xb, xo, none⟩) V.length cv) ∧ wr.drew.cell? ⟨xb, xo + k, none⟩ = some (.slice (some ⟨rb, ro, none⟩) V.length rc) ∧ wr.drew.cell? ⟨rb, ro + y, none⟩ = some (.int .i64 (As.vl V k y)) ∧ wr.drew.cell? ⟨w.heap.size + 1, 2, none⟩ = some (.int .i64 D) from HX0.out)
                  have HRD := Lib.hid (HR.out.keep (Below.refl _ _).drew)
                  have hwB := HR.out.t.tw.hB.2
                  have hwB2 : w7.heap.size ≤ wr.drew.heap.size := HR.out.t.tw.hB.2
                  obtain ⟨v1, v2, f1, f2⟩ := HFB.out k y
                  have w1a : IntKind.i64.wrap (As.vl V k y * D) = F k y := by rw [HF.out k y]; exact IntWalk.i64_in _ (by omega)
                  go_upto_region 32 with fail
                  refine wp_region_noPanic ?_
                  refine region_ordU (S := (fun v => v.cell? ⟨w.heap.size, 0, none⟩ = some (.slice (some ⟨xb, xo, none⟩) V.length cv) ∧ v.cell? ⟨xb, xo + k, none⟩ = some (.slice (some ⟨rb, ro, none⟩) V.length rc) ∧ v.cell? ⟨rb, ro + y, none⟩ = some (.int .i64 (As.vl V k y)) ∧ v.cell? ⟨w.heap.size + 1, 2, none⟩ = some (.int .i64 D))) (fun _ => True) 14 (by kernel_rfl) HX0.out (fun hHeld => ?_)
                  refine ordU_take (i := 0) (o := _) (v := ?vu32_0) rfl (by kernel_rfl) (by kernel_rfl) (by kernel_rfl) (by kernel_rfl) (fun _ _ _ h => h) (Or.inl ⟨by kernel_rfl, ?hyu32_0⟩) hHeld ?restu32_0
                  case hyu32_0 => (intro w hSw; obtain ⟨s1, s2, s3, s4⟩ := hSw; go_simp <;> with_reducible rfl)
                  try simp only [PPz]
                  refine ordU_take (i := 1) (o := _) (v := ?vu32_1) rfl (by kernel_rfl) (by kernel_rfl) (by kernel_rfl) (by kernel_rfl) (fun _ _ _ h => h) (Or.inl ⟨by kernel_rfl, ?hyu32_1⟩) hHeld ?restu32_1
                  case hyu32_1 => (intro w hSw; obtain ⟨s1, s2, s3, s4⟩ := hSw; go_simp <;> with_reducible rfl)
                  try simp only [PPz]
                  refine ordU_take (i := 2) (o := _) (v := ?vu32_2) rfl (by kernel_rfl) (by kernel_rfl) (by kernel_rfl) (by kernel_rfl) (fun _ _ _ h => h) (Or.inl ⟨by kernel_rfl, ?hyu32_2⟩) hHeld ?restu32_2
                  case hyu32_2 => (intro w hSw; obtain ⟨s1, s2, s3, s4⟩ := hSw; go_simp <;> with_reducible rfl)
                  try simp only [PPz]
                  refine ordU_take (i := 3) (o := _) (v := ?vu32_3) rfl (by kernel_rfl) (by kernel_rfl) (by kernel_rfl) (by kernel_rfl) (fun _ _ _ h => h) (Or.inl ⟨by kernel_rfl, ?hyu32_3⟩) hHeld ?restu32_3
                  case hyu32_3 => (intro w hSw; obtain ⟨s1, s2, s3, s4⟩ := hSw; go_simp <;> with_reducible rfl)
                  try simp only [PPz]
                  refine ordU_take (i := 4) (o := _) (v := ?vu32_4) rfl (by kernel_rfl) (by kernel_rfl) (by kernel_rfl) (by kernel_rfl) (fun _ _ _ h => h) (Or.inl ⟨by kernel_rfl, ?hyu32_4⟩) hHeld ?restu32_4
                  case hyu32_4 => (intro w hSw; obtain ⟨s1, s2, s3, s4⟩ := hSw; go_simp <;> with_reducible rfl)
                  try simp only [PPz]
                  refine ordU_take (i := 5) (o := _) (v := ?vu32_5) rfl (by kernel_rfl) (by kernel_rfl) (by kernel_rfl) (by kernel_rfl) (fun _ _ _ h => h) (Or.inl ⟨by kernel_rfl, ?hyu32_5⟩) hHeld ?restu32_5
                  case hyu32_5 => (intro w hSw; obtain ⟨s1, s2, s3, s4⟩ := hSw; go_simp <;> with_reducible rfl)
                  try simp only [PPz]
                  refine ordU_take (i := 6) (o := _) (v := ?vu32_6) rfl (by kernel_rfl) (by kernel_rfl) (by kernel_rfl) (by kernel_rfl) (fun _ _ _ h => h) (Or.inl ⟨by kernel_rfl, ?hyu32_6⟩) hHeld ?restu32_6
                  case hyu32_6 => (intro w hSw; obtain ⟨s1, s2, s3, s4⟩ := hSw; go_simp <;> with_reducible rfl)
                  try simp only [PPz]
                  refine ordU_take (i := 7) (o := _) (v := ?vu32_7) rfl (by kernel_rfl) (by kernel_rfl) (by kernel_rfl) (by kernel_rfl) (fun _ _ _ h => h) (Or.inl ⟨by kernel_rfl, ?hyu32_7⟩) hHeld ?restu32_7
                  case hyu32_7 => (intro w hSw; obtain ⟨s1, s2, s3, s4⟩ := hSw; go_simp <;> with_reducible rfl)
                  try simp only [PPz]
                  refine ordU_take (i := 8) (o := _) (v := ?vu32_8) rfl (by kernel_rfl) (by kernel_rfl) (by kernel_rfl) (by kernel_rfl) (fun _ _ _ h => h) (Or.inl ⟨by kernel_rfl, ?hyu32_8⟩) hHeld ?restu32_8
                  case hyu32_8 => (intro w hSw; obtain ⟨s1, s2, s3, s4⟩ := hSw; go_simp <;> with_reducible rfl)
                  try simp only [PPz]
                  refine ordU_take (i := 9) (o := _) (v := ?vu32_9) rfl (by kernel_rfl) (by kernel_rfl) (by kernel_rfl) (by kernel_rfl) (fun _ _ _ h => h) (Or.inl ⟨by kernel_rfl, ?hyu32_9⟩) hHeld ?restu32_9
                  case hyu32_9 => (intro w hSw; obtain ⟨s1, s2, s3, s4⟩ := hSw; go_simp <;> with_reducible rfl)
                  try simp only [PPz]
                  refine ordU_take (i := 10) (o := _) (v := ?vu32_10) rfl (by kernel_rfl) (by kernel_rfl) (by kernel_rfl) (by kernel_rfl) (fun _ _ _ h => h) (Or.inl ⟨by kernel_rfl, ?hyu32_10⟩) hHeld ?restu32_10
                  case hyu32_10 => (intro w hSw; obtain ⟨s1, s2, s3, s4⟩ := hSw; go_simp <;> with_reducible rfl)
                  try simp only [PPz]
                  refine ordU_take (i := 11) (o := _) (v := ?vu32_11) rfl (by kernel_rfl) (by kernel_rfl) (by kernel_rfl) (by kernel_rfl) (fun _ _ _ h => h) (Or.inl ⟨by kernel_rfl, ?hyu32_11⟩) hHeld ?restu32_11
                  case hyu32_11 => (intro w hSw; obtain ⟨s1, s2, s3, s4⟩ := hSw; go_simp <;> with_reducible rfl)
                  try simp only [PPz]
                  refine ordU_ready (rs := [12]) (by kernel_rfl) (by simp) (ReadyU.cons (o := _) rfl (by decide) (fun K hK => ?_) ReadyU.nil)
                  go_simp
                  refine hK.out _ _ ⟨cell_alloc HX1.out.1 _, cell_alloc HX1.out.2.1 _, cell_alloc HX1.out.2.2.1 _, cell_alloc HX1.out.2.2.2 _⟩ (fun hNew => ?_)
                  clear hHeld hK K
                  have hHeld := hNew
                  clear hNew
                  try simp only [PPz]
                  refine ordU_ready (rs := [13]) (by kernel_rfl) (by simp) (ReadyU.cons (o := _) rfl (by decide) (fun K hK => ?_) ReadyU.nil)
                  refine step_append_lies _ (by rfl) _ _ _ (by rfl) w7.heap.size 3 i0 _ 1 8 Try.underlying25 HI.out HI2.out HI3.out HI4.out rfl (by omega) (.slice XA y xc) y ((List.range y).map fun j => Value.int .i64 (F k j)) (by rfl) ((World.ownsRow.alloc HR.out.ro _).drew) ⟨wr.drew.heap.size, 0, none⟩ 1 1 [.int .i64 (F k y)] (by rfl) (by rfl) (World.news_of_block (cs := #[.int .i64 (F k y)]) (t := 3) (fr := (0, 0)) (by exact heap_alloc_new wr _)) (by simp [Value.oneCell']) (by omega) (by unfold maxLen; omega) (by omega) (by simp; omega) (wr.drew.heap.size + 1) (by simp) ?_
                  intro g cap w9 hown1 hgrow0 hat hglt
                  have hgrow : (wr.drew.alloc (.cells #[.int .i64 (F k y)] 3)).grownBy w9 (Value.slice XA y xc).ownBlock := hgrow0
                  have HN := Lib.hid (T4.app HRD.out hgrow hown1 hat)
                  have hb9 := HN.out.t.tw.bb
                  refine hK.out _ _ ⟨keepC hb9 HC1.out, keepC hb9 HC2.out, keepC hb9 HC3.out, keepC hb9 HC4.out⟩ (fun hNew => ?_)
                  clear hHeld hK K
                  have hHeld := hNew
                  clear hNew hown1 hgrow0 hgrow hat hglt hb9
                  try simp only [PPz]
                  refine ordU_at (by kernel_rfl) ?_
                  refine rdy1 14 rfl (fun K hK => ?_)
                  go_simp
                  refine hK.out _ _ trivial (fun hNew => ?_)
                  clear hHeld hK K hNew
                  try simp only [PPz]
                  refine wpAnyH_done (by kernel_rfl) ?_ _
                  refine NoPanic.normal ?_
                  go_wp2_with fail
                  go_roundw
                  case rel => exact ⟨y + 1, by omega, by go_num, HN⟩
                  case measure => simp [intOf]; omega
                · obtain rfl : y = V.length := by omega
                  obtain ⟨h, c, rfl, -, -, -⟩ := own_block HR.out.ro (by omega)
                  have HROW := Lib.hid (fun g cap w9 o hg hown hat => T4.row (g := g) (cap := cap) (W' := w9) (o := o) HR.out (by omega) hg hown hat)
                  obtain ⟨q2, o2, hq2, hy2⟩ := list_at HIC.out (j := 0) (by rw [LP.out]; omega)
                  cases hq2
                  have HP2 := Lib.hid (hy2 k (by rw [LP.out]; exact hlt))
                  clear hy2
                  have HP1 := Lib.hid (B1.out.c 1 rfl)
                  obtain ⟨p1, p2⟩ := HPB.out k hlt
                  obtain ⟨m1, m2⟩ := HMK.out
                  have wG : IntKind.i64.wrap (As.el ps k - mk) = G0 k := by rw [← HG.out k]; exact IntWalk.i64_in _ (by omega)
                  have hwB := HR.out.t.tw.hB.2
                  go_upto_region 34 with (at_builtin; go_loud (refine wpList_append_lies _ rfl _ _ _ rfl w7.heap.size 25 j0 _ 1 24 Try.underlying22 HJ.out HJ2.out HJ3.out HJ4.out rfl (by omega) _ k (rvs V.length H C k) (by rfl) (HR.out.keep (below_al (Below.refl _ _) _)).t.tw.own ⟨wr.heap.size, 0, none⟩ 1 1 [.slice (some ⟨h, 0, none⟩) V.length c] (by rfl) (by rfl) (World.news_of_block (cs := #[.slice (some ⟨h, 0, none⟩) V.length c]) (t := 25) (fr := (0, 0)) (heap_alloc_new wr _)) (by simp [Value.oneCell']) (by omega) (by unfold maxLen; omega) (by omega) (by simp; omega) (wr.heap.size + 1) (by simp) ?_; intro g cap w9 hown2 hgrow2 hat2 hlt2; have HT2 := Lib.hid (HROW.out g cap w9 _ hgrow2 hown2 hat2); clear hown2 hgrow2 hat2 hlt2))
                  have z1 := keepC HT2.out.tw.bb HP1.out
                  have z2 := keepC HT2.out.tw.bb HP2.out
                  have hwB9 := HT2.out.tw.hB.2
                  go_wp2_with (at_builtin; go_loud (refine wpList_append_lies _ rfl _ _ _ rfl w7.heap.size 3 i0 _ 1 8 Try.underlying25 HI.out HI2.out HI3.out HI4.out rfl (by omega) u22 k ((List.range k).map fun j => Value.int .i64 (G0 j)) (by rfl) (HT2.out.keep (below_al (Below.refl _ _) _)).ow ⟨w9.heap.size, 0, none⟩ 1 1 [.int .i64 (G0 k)] (by rfl) (by rfl) (World.news_of_block (cs := #[.int .i64 (G0 k)]) (t := 3) (fr := (0, 0)) (heap_alloc_new w9 _)) (by simp [Value.oneCell']) (by omega) (by unfold maxLen; omega) (by omega) (by simp; omega) (w9.heap.size + 1) (by simp) ?_; intro g3 cap3 w10 hown3 hgrow3 hat3 hlt3; have HT3 := Lib.hid (T3.lst HT2.out hgrow3 hown3 hat3); clear hown3 hgrow3 hat3 hlt3))
                  go_roundw
                  case rel => exact ⟨k + 1, by omega, by go_num, _, _, HT3⟩
                  case measure => simp [intOf]; omega
            · obtain rfl : k = V.length := by omega
              obtain ⟨g, cap, rfl, -, -, -⟩ := own_block HT.out.tw.own (by omega)
              obtain ⟨gl, capl, rfl, -, -, -⟩ := own_block HT.out.ow (by omega)
              have HM := Lib.hid (show IsM wr (some ⟨g, 0, none⟩) (As.sc D V) from by
                rw [HSC.out]
                exact HT.out.tw.isM HLL.out (fun i j hi hj => by have := HFB.out i j; unfold I64; omega))
              have HL := Lib.hid (show IsI wr (some ⟨gl, 0, none⟩) (As.lft V ps) from by
                rw [HLF.out]
                have ho : Own wr w7.heap.size (.slice (some ⟨gl, 0, none⟩) V.length capl) (ml V.length G0) := by
                  unfold Own ml
                  rw [List.length_map, List.length_range, List.map_map]
                  exact HT.out.ow
                refine ho.isI fun x hx => ?_
                obtain ⟨j, hj, rfl⟩ := List.mem_map.1 hx
                have hj2 := List.mem_range.1 hj
                have h1 := HPB.out j hj2
                have h2 := HMK.out
                rw [← HG.out j]
                unfold I64
                omega)
              have HBW := Lib.hid HT.out.tw.bb
              clear HT HI HI2 HI3 HI4 HJ HJ2 HJ3 HJ4 HF HG HFB HSC HLF HMK
              have HBA := Lib.hid (keepB HB.out HBW.out)
              have HI1 := Lib.hid (HIB.out.keep HBW.out)
              have HZ := Lib.hid (B1.out.keep HBW.out)
              have LL : (As.lft V ps).length = V.length := by unfold As.lft; exact ml_len _ _
              have ck := fun v hv => rCheck_any (some ⟨g, 0, none⟩) cap (As.sc D V) v (by rw [As.sc_len]; exact HLL.out) hv
              rw [As.sc_len] at ck
              rcases As.chk_cases (As.sc D V) with h0 | ⟨c1, -⟩
              · have pr := fun v hv => rPriced_any (some ⟨gl, 0, none⟩) capl (As.lft V ps) V.length v (by rw [LL]; exact HLL.out) hv
                rw [LL] at pr
                rw [h0] at ck
                have pv := fun v hv hX hY => asProves_any (some ⟨g, 0, none⟩) cap (As.sc D V) (some ⟨qb, ob, none⟩) ca (As.al a) (some ⟨gl, 0, none⟩) capl (As.lft V ps) v (by rw [As.sc_len]; exact HLL.out) hv (by rw [LA.out]; exact HLL.out) hX (by rw [LL]; exact HLL.out) hY
                rw [As.sc_len, LA.out, LL] at pv
                have be := fun v hv => asBest_any (some ⟨g, 0, none⟩) cap (As.sc D V) v (by rw [As.sc_len]; exact HLL.out) hv
                unfold BestQ at be
                rw [As.sc_len] at be
                simp only [h0] at be
                have va := fun v hv hX => asValue_any (some ⟨g, 0, none⟩) cap (As.sc D V) (some ⟨qb, ob, none⟩) ca (As.al a) v (by rw [As.sc_len]; exact HLL.out) hv (by rw [LA.out]; exact HLL.out) hX
                rw [As.sc_len, LA.out, As.lft_val HLE.out HCT.out h0] at va
                dsimp only at va
                have HPV := Lib.hid (fun h1 => As.lft_prv HLE.out HCT.out h0 h1)
                have CK := Lib.hid ck
                have CP := Lib.hid pr
                have CV := Lib.hid pv
                have CB := Lib.hid be
                have CW := Lib.hid va
                clear ck pr pv be va
                go_wp2_with fail
                refine (CK.out _ HM.out).mono ?_
                rintro e x1 ⟨rfl, hb⟩
                replace HM := Lib.hid (HM.out.keep hb)
                replace HL := Lib.hid (HL.out.keep hb)
                replace HI1 := Lib.hid (HI1.out.keep hb)
                replace HZ := Lib.hid (HZ.out.keep hb)
                replace HBA := Lib.hid (keepB HBA.out hb)
                clear hb
                go_wp2_with fail
                refine (CP.out _ HL.out).mono ?_
                rintro e x2 ⟨rfl, hb⟩
                replace HM := Lib.hid (HM.out.keep hb)
                replace HL := Lib.hid (HL.out.keep hb)
                replace HI1 := Lib.hid (HI1.out.keep hb)
                replace HZ := Lib.hid (HZ.out.keep hb)
                replace HBA := Lib.hid (keepB HBA.out hb)
                clear hb
                cases hP : As.isL (As.lft V ps) V.length 10000000
                · go_wp2_with fail
                  go_ret
                  exact ⟨rfl, HBA.out⟩
                · have pv := CV.out
                  rw [HPV.out hP] at pv
                  dsimp only at pv
                  replace CV := Lib.hid pv
                  clear pv
                  have y0 := HZ.out.c 0 rfl
                  go_wp2_with fail
                  refine (CV.out _ HM.out HI1.out HL.out).mono ?_
                  rintro e x3 ⟨rfl, hb⟩
                  replace HM := Lib.hid (HM.out.keep hb)
                  replace HL := Lib.hid (HL.out.keep hb)
                  replace HI1 := Lib.hid (HI1.out.keep hb)
                  replace HZ := Lib.hid (HZ.out.keep hb)
                  replace HBA := Lib.hid (keepB HBA.out hb)
                  clear hb
                  clear y0
                  go_wp2_with fail
                  refine (CB.out _ HM.out).mono ?_
                  rintro e x4 ⟨ZB, cb, rfl, -, hb⟩
                  replace HM := Lib.hid (HM.out.keep hb)
                  replace HL := Lib.hid (HL.out.keep hb)
                  replace HI1 := Lib.hid (HI1.out.keep hb)
                  replace HZ := Lib.hid (HZ.out.keep hb)
                  replace HBA := Lib.hid (keepB HBA.out hb)
                  clear hb
                  generalize (As.bsl (As.sc D V)).length = lb at *
                  generalize As.bsv (As.sc D V) = bz at *
                  have y0 := HZ.out.c 0 rfl
                  go_wp2_with fail
                  refine (CW.out _ HM.out HI1.out).mono ?_
                  rintro e x5 ⟨rfl, hb⟩
                  replace HM := Lib.hid (HM.out.keep hb)
                  replace HL := Lib.hid (HL.out.keep hb)
                  replace HI1 := Lib.hid (HI1.out.keep hb)
                  replace HZ := Lib.hid (HZ.out.keep hb)
                  replace HBA := Lib.hid (keepB HBA.out hb)
                  clear hb
                  clear y0
                  go_wp2_with fail
                  go_ret
                  exact ⟨rfl, HBA.out⟩
              · have CK := Lib.hid ck
                clear ck
                generalize As.chk (As.sc D V) = c at *
                go_wp2_with fail
                refine (CK.out _ HM.out).mono ?_
                rintro e x1 ⟨rfl, hb⟩
                replace HM := Lib.hid (HM.out.keep hb)
                replace HL := Lib.hid (HL.out.keep hb)
                replace HI1 := Lib.hid (HI1.out.keep hb)
                replace HZ := Lib.hid (HZ.out.keep hb)
                replace HBA := Lib.hid (keepB HBA.out hb)
                clear hb
                go_wp2_with fail
                go_ret
                exact ⟨rfl, HBA.out⟩
end Go.Proofs.Ytncmffhoodfhjaa

/- RoomRents' walk. -/
import Derived.Test.YtpiolhjiflohgaaLws1
namespace Go.Proofs.Ytpiolhjiflohgaa
open Go.RowKit
theorem Rp.q_i64 {a n : Int} (h1 : 1 ≤ n) (h2 : n ≤ 10) (a0 : -1000000000 ≤ a) (a1 : a ≤ 1000000000) : -9223372036854775808 ≤ (Rp.q a n).num ∧ (Rp.q a n).num ≤ 9223372036854775807 ∧ -9223372036854775808 ≤ ((Rp.q a n).den : Int) ∧ ((Rp.q a n).den : Int) ≤ 9223372036854775807 := by
  obtain ⟨h1, h2, h3, h4, _⟩ := Rp.q_ok h1 (by omega) (show -1000000000000000000 ≤ a by omega) (by omega)
  omega
theorem As.ends_bd {V : List (List Int)} {R : Int} (ok : As.Ok V) (r0 : 0 ≤ R) (r1 : R ≤ 10000000) (j : Nat) : -1000000000 ≤ As.lowN V (As.bst V) R j ∧ As.lowN V (As.bst V) R j ≤ 1000000000 ∧ -1000000000 ≤ As.highN V (As.bst V) R j ∧ As.highN V (As.bst V) R j ≤ 1000000000 := by
  have n6 := ok.n6
  have h1 := As.sum6 (f := fun i => As.lkm V (As.bst V) i j) (fun i => As.lkm_b6 ok _ _ _) (k := V.length) n6
  have h2 := As.sum6 (f := fun i => As.lkm V (As.bst V) j i) (fun i => As.lkm_b6 ok _ _ _) (k := V.length) n6
  have hlo : As.lowN V (As.bst V) R j = R + As.sm (fun i => As.lkm V (As.bst V) i j) (List.range V.length) := rfl
  have hhi : As.highN V (As.bst V) R j = R - As.sm (fun i => As.lkm V (As.bst V) j i) (List.range V.length) := rfl
  omega
theorem rent_links (A : Option Addr) (cv : Nat) (V : List (List Int)) (T : Int) (v : World) (hl : V.length ≤ maxLen) (hv : IsM v A V) (hT : As.rchk V T = 0) : Calls Try.prog 13 #[.agg #[.slice A V.length cv, .int .i64 T]] v fun e w' => ∃ X c, e = .returned (.tuple #[.slice X V.length c, .int .i64 0]) ∧ IsM w' X (As.lkt V) ∧ Below v.heap.size v w' := by
  have c := rmLinks_any A cv V T v hl hv
  have e : As.lnS V T = As.lkt V := by unfold As.lnS; rw [if_pos hT]
  unfold LnQ at c
  rw [e, lkt_len, hT] at c
  exact c
theorem rent_range (A : Option Addr) (cv : Nat) (V : List (List Int)) (T : Int) (J : Nat) (v : World) (hl : V.length ≤ maxLen) (hv : IsM v A V) (hT : As.rchk V T = 0) (hJ : J < V.length) : Calls Try.prog 15 #[.agg #[.slice A V.length cv, .int .i64 T], .int .i64 J] v fun e w' => e = .returned (.tuple #[.agg #[.int .i64 (Rp.q (As.lowN V (As.bst V) T J) V.length).num, .int .i64 ((Rp.q (As.lowN V (As.bst V) T J) V.length).den : Int)], .agg #[.int .i64 (Rp.q (As.highN V (As.bst V) T J) V.length).num, .int .i64 ((Rp.q (As.highN V (As.bst V) T J) V.length).den : Int)], .int .i64 0]) ∧ Below v.heap.size v w' := by
  have c := rmRange_any A cv V T J v hl hv
  unfold rgV As.rgS at c
  rw [if_pos hT, if_pos (show (0 : Int) ≤ (J : Int) ∧ (J : Int) < V.length by omega)] at c
  exact c
theorem rent_even (A : Option Addr) (cv : Nat) (V : List (List Int)) (T : Int) (v : World) (hl : V.length ≤ maxLen) (hv : IsM v A V) (hT : As.rchk V T = 0) : Calls Try.prog 11 #[.agg #[.slice A V.length cv, .int .i64 T]] v fun e w' => ∃ X c Y d, e = .returned (.tuple #[.agg #[.slice X V.length c, .slice Y V.length d, .int .i64 (As.rdd V.length (As.evp V (As.bst V) T))], .int .i64 0]) ∧ IsI w' X (As.al (As.bst V)) ∧ IsI w' Y (As.rdp V.length (As.evp V (As.bst V) T)) ∧ Below v.heap.size v w' := by
  have c := rmEven_any A cv V T v hl hv
  have hc : As.chk V = 0 := by
    rcases As.rchk_two V T with ⟨_, hc, _⟩ | ⟨_, h2⟩
    · exact hc
    · exact absurd hT h2
  have e1 : As.evA V T = As.bst V := by unfold As.evA; rw [if_pos hT]
  have e2 : As.evP V T = As.rdp V.length (As.evp V (As.bst V) T) := by unfold As.evP; rw [if_pos hT]
  have e3 : As.evD V T = As.rdd V.length (As.evp V (As.bst V) T) := by unfold As.evD; rw [if_pos hT]
  unfold EvQ at c
  rw [e1, e2, e3, As.rdp_len, (As.bst_top (As.chk_ok hc)).len, hT] at c
  exact c
theorem rent_valid (A : Option Addr) (cv : Nat) (V : List (List Int)) (T : Int) (X : Option Addr) (cx : Nat) (Y : Option Addr) (d : Nat) (v : World) (hl : V.length ≤ maxLen) (hv : IsM v A V) (hT : As.rchk V T = 0) (hX : IsI v X (As.al (As.bst V))) (hY : IsI v Y (As.rdp V.length (As.evp V (As.bst V) T))) : Calls Try.prog 26 #[.agg #[.slice A V.length cv, .int .i64 T], .agg #[.slice X V.length cx, .slice Y V.length d, .int .i64 (As.rdd V.length (As.evp V (As.bst V) T))]] v fun e w' => e = .returned (.int .i64 0) ∧ Below v.heap.size v w' := by
  have hc : As.chk V = 0 := by
    rcases As.rchk_two V T with ⟨_, hc, _⟩ | ⟨_, h2⟩
    · exact hc
    · exact absurd hT h2
  have hlb : (As.al (As.bst V)).length = V.length := by rw [As.al_len]; exact (As.bst_top (As.chk_ok hc)).len
  have c := r14Valid_any A cv V T X cx (As.al (As.bst V)) Y d (As.rdp V.length (As.evp V (As.bst V) T)) (As.rdd V.length (As.evp V (As.bst V) T)) v hl hv (by rw [hlb]; exact hl) hX hY
  have e1 : As.evA V T = As.bst V := by unfold As.evA; rw [if_pos hT]
  have e2 : As.evP V T = As.rdp V.length (As.evp V (As.bst V) T) := by unfold As.evP; rw [if_pos hT]
  have e3 : As.evD V T = As.rdd V.length (As.evp V (As.bst V) T) := by unfold As.evD; rw [if_pos hT]
  have k := (As.even_vld hT).1
  rw [e1, e2, e3] at k
  rw [k, hlb, As.rdp_len] at c
  exact c
set_option maxRecDepth 100000 in
set_option maxHeartbeats 8000000 in
theorem rrents_walk (A : Option Addr) (cv : Nat) (V : List (List Int)) (R S j : Int) (w : World) (hl : V.length ≤ maxLen) (h : IsM w A V) (_hR : I64 R) (_s0 : -9223372036854775808 ≤ S) (_s1 : S ≤ 9223372036854775807) (_j0 : -9223372036854775808 ≤ j) (_j1 : j ≤ 9223372036854775807) :
    Calls Try.prog 8 #[.agg #[.slice A V.length cv, .int .i64 R], .int .i64 S, .int .i64 j] w fun e w' => e = .returned (.bool true) ∧ Below w.heap.size w w' := by
  have HA := Lib.hid h
  have CF := Lib.hid (fun T v (hv : IsM v A V) => fit14_any A cv V T v hl hv)
  have HL := Lib.hid hl
  clear h
  unfold maxLen at hl
  go_enter Try.func8, Try.ntmps8
  go_upto_region 1 with fail
  refine at_box1 (fun V0 hbb b0 hsz => ?_)
  clear hsz
  replace HA := Lib.hid (HA.out.keep hbb)
  have HB := Lib.hid hbb
  have B0 := Lib.hid b0
  clear hbb b0
  go_wp2_with fail
  refine (alive14_any _).mono ?_
  rintro e w1 ⟨rfl, hb⟩
  replace HA := Lib.hid (HA.out.keep hb)
  replace B0 := Lib.hid (B0.out.keep hb)
  replace HB := Lib.hid (keepB HB.out hb)
  clear hb
  have cB00 := B0.out.c 0 rfl
  have cB01 := B0.out.c 1 rfl
  go_upto_region 3 with fail
  refine at_worldQ (fun v => Below w1.heap.size w1 v ∧ BK v (w1.heap.size) [.slice A V.length cv, .int .i64 S]) ⟨below_al (Below.refl _ _) _, BK.new w1 [.slice A V.length cv, .int .i64 S] 24⟩ (fun U1 hS => ?_)
  obtain ⟨hb, hBS⟩ := hS
  replace HA := Lib.hid (HA.out.keep hb)
  replace B0 := Lib.hid (B0.out.keep hb)
  replace HB := Lib.hid (keepB HB.out hb)
  have BS := Lib.hid hBS
  clear cB00 cB01 hb hBS
  have cf1 := CF.out R
  have cf2 := CF.out S
  generalize hz1 : decide (As.rchk V R = 0) = z1 at cf1
  generalize hz2 : decide (As.rchk V S = 0) = z2 at cf2
  have CF1 := Lib.hid cf1
  have CF2 := Lib.hid cf2
  clear CF cf1 cf2
  have cB00 := B0.out.c 0 rfl
  have cB01 := B0.out.c 1 rfl
  have cBS0 := BS.out.c 0 rfl
  have cBS1 := BS.out.c 1 rfl
  go_wp2_with fail
  refine (CF1.out _ HA.out).mono ?_
  rintro e w2 ⟨rfl, hb⟩
  replace HA := Lib.hid (HA.out.keep hb)
  replace B0 := Lib.hid (B0.out.keep hb)
  replace BS := Lib.hid (BS.out.keep hb)
  replace HB := Lib.hid (keepB HB.out hb)
  clear cB00 cB01 cBS0 cBS1 hb
  cases z1 with
  | false =>
    go_wp2_with fail
    go_ret
    exact ⟨rfl, HB.out⟩
  | true =>
    have cB00 := B0.out.c 0 rfl
    have cB01 := B0.out.c 1 rfl
    have cBS0 := BS.out.c 0 rfl
    have cBS1 := BS.out.c 1 rfl
    go_wp2_with fail
    refine (CF2.out _ HA.out).mono ?_
    rintro e w3 ⟨rfl, hb⟩
    replace HA := Lib.hid (HA.out.keep hb)
    replace B0 := Lib.hid (B0.out.keep hb)
    replace BS := Lib.hid (BS.out.keep hb)
    replace HB := Lib.hid (keepB HB.out hb)
    clear cB00 cB01 cBS0 cBS1 hb
    cases z2 with
    | false =>
      go_wp2_with fail
      go_ret
      exact ⟨rfl, HB.out⟩
    | true =>
      clear CF1 CF2
      by_cases hj0 : j < 0
      · have d1 : decide (j < 0) = true := decide_eq_true hj0
        go_wp2_with fail
        go_ret
        exact ⟨rfl, HB.out⟩
      have d1 : decide (j < 0) = false := decide_eq_false hj0
      have cB00 := B0.out.c 0 rfl
      by_cases hj1 : (V.length : Int) ≤ j
      · have d2 : decide ((V.length : Int) ≤ j) = true := decide_eq_true hj1
        go_wp2_with fail
        go_ret
        exact ⟨rfl, HB.out⟩
      have d2 : decide ((V.length : Int) ≤ j) = false := decide_eq_false hj1
      obtain ⟨J, rfl⟩ : ∃ J : Nat, j = J := ⟨j.toNat, by omega⟩
      have hJ : J < V.length := by omega
      have hR := of_decide_eq_true hz1
      have hS := of_decide_eq_true hz2
      obtain ⟨hc, r0, r1⟩ : As.chk V = 0 ∧ 0 ≤ R ∧ R ≤ 10000000 := by
        rcases As.rchk_two V R with ⟨_, hc, r0, r1⟩ | ⟨_, h2⟩
        · exact ⟨hc, r0, r1⟩
        · exact absurd hR h2
      obtain ⟨s0, s1⟩ : 0 ≤ S ∧ S ≤ 10000000 := by
        rcases As.rchk_two V S with ⟨_, _, r0, r1⟩ | ⟨_, h2⟩
        · exact ⟨r0, r1⟩
        · exact absurd hS h2
      have ok := As.chk_ok hc
      clear hz1 hz2
      have CL := Lib.hid (fun T (hT : As.rchk V T = 0) v (hv : IsM v A V) => rent_links A cv V T v HL.out hv hT)
      have CR := Lib.hid (fun T (hT : As.rchk V T = 0) v (hv : IsM v A V) => rent_range A cv V T J v HL.out hv hT hJ)
      have CE := Lib.hid (fun T (hT : As.rchk V T = 0) v (hv : IsM v A V) => rent_even A cv V T v HL.out hv hT)
      have CV := Lib.hid (fun T (hT : As.rchk V T = 0) v X c Y d (hv : IsM v A V) hX hY => rent_valid A cv V T X c Y d v HL.out hv hT hX hY)
      obtain ⟨m1, m2, m3, m4, m5, m6⟩ := As.rent_add ok r0 r1 s0 s1 hJ
      obtain ⟨leR, _⟩ := As.rd_q ok r0 r1 hJ
      obtain ⟨leS, _⟩ := As.rd_q ok s0 s1 hJ
      have pR := leR.pb J hJ
      have pS := leS.pb J hJ
      have dR := leR.d1
      have dR6 := leR.d60
      have dS := leS.d1
      have dS6 := leS.d60
      have n1 := ok.n1
      have n6 := ok.n6
      have lR := leR.len
      have lS := leS.len
      have h3 := As.evp_bd (As.bst_top ok) (by omega) ok.bd r0 r1 hJ
      obtain ⟨l0, l1, h0, h1⟩ := As.ends_bd ok r0 r1 J
      have b1 := Rp.q_i64 (a := S - R) (n := V.length) (by omega) (by omega) (by omega) (by omega)
      have b2 := Rp.q_i64 (a := As.lowN V (As.bst V) R J) (n := V.length) (by omega) (by omega) (by omega) (by omega)
      have b3 := Rp.q_i64 (a := As.highN V (As.bst V) R J) (n := V.length) (by omega) (by omega) (by omega) (by omega)
      have b4 := Rp.q_i64 (a := As.evp V (As.bst V) R J) (n := V.length) (by omega) (by omega) (by omega) (by omega)
      have q1 := rMake_any (S - R) V.length (by omega) (by omega) (by omega) (by omega)
      rw [m1] at q1
      have q2 := fun v => rAdd_any _ _ _ _ v b2.1 b2.2.1 b2.2.2.1 b2.2.2.2 b1.1 b1.2.1 b1.2.2.1 b1.2.2.2
      rw [m2] at q2
      have q3 := fun v => rAdd_any _ _ _ _ v b3.1 b3.2.1 b3.2.2.1 b3.2.2.2 b1.1 b1.2.1 b1.2.2.1 b1.2.2.2
      rw [m3] at q3
      have q4 := rMake_any (As.el (As.rdp V.length (As.evp V (As.bst V) R)) J) (As.rdd V.length (As.evp V (As.bst V) R)) (by omega) (by omega) (by omega) (by omega)
      rw [m4] at q4
      have q5 := rMake_any (As.el (As.rdp V.length (As.evp V (As.bst V) S)) J) (As.rdd V.length (As.evp V (As.bst V) S)) (by omega) (by omega) (by omega) (by omega)
      rw [m5] at q5
      have q6 := fun v => rAdd_any _ _ _ _ v b4.1 b4.2.1 b4.2.2.1 b4.2.2.2 b1.1 b1.2.1 b1.2.2.1 b1.2.2.2
      rw [m6] at q6
      have Q1 := Lib.hid q1
      have Q2 := Lib.hid q2
      have Q3 := Lib.hid q3
      have Q4 := Lib.hid q4
      have Q5 := Lib.hid q5
      have Q6 := Lib.hid q6
      have g1 : IntKind.i64.wrap (S - R) = S - R := IntWalk.i64_in _ (by omega)
      have g2 : IntKind.i64.wrap (V.length : Int) = (V.length : Int) := IntWalk.i64_in _ (by omega)
      have g3 := IntWalk.i64_in (As.el (As.rdp V.length (As.evp V (As.bst V) R)) J) (by omega)
      have g4 := IntWalk.i64_in (As.rdd V.length (As.evp V (As.bst V) R)) (by omega)
      have g5 := IntWalk.i64_in (As.el (As.rdp V.length (As.evp V (As.bst V) S)) J) (by omega)
      have g6 := IntWalk.i64_in (As.rdd V.length (As.evp V (As.bst V) S)) (by omega)
      have G := Lib.hid (And.intro g1 (And.intro g2 (And.intro g3 (And.intro g4 (And.intro g5 g6)))))
      have HLE := Lib.hid (And.intro lR lS)
      have i1 : (J : Int) < (V.length : Int) := by omega
      clear q1 q2 q3 q4 q5 q6 m1 m2 m3 m4 m5 m6 b1 b2 b3 b4 l0 l1 h0 h1 h3 pR pS dR dR6 dS dS6 leR leS lR lS g1 g2 g3 g4 g5 g6 hj0 hj1
      have cB01 := B0.out.c 1 rfl
      go_wp2_with fail
      refine (CL.out R hR _ HA.out).mono ?_
      rintro e w4 ⟨K1, ck1, rfl, hK, hb⟩
      replace HA := Lib.hid (HA.out.keep hb)
      replace B0 := Lib.hid (B0.out.keep hb)
      replace BS := Lib.hid (BS.out.keep hb)
      replace HB := Lib.hid (keepB HB.out hb)
      have IK1 := Lib.hid hK
      clear cB00 cB01 hb hK
      clear d1 d2
      have cBS0 := BS.out.c 0 rfl
      have cBS1 := BS.out.c 1 rfl
      go_wp2_with fail
      refine (CL.out S hS _ HA.out).mono ?_
      rintro e w5 ⟨K2, ck2, rfl, hK, hb⟩
      replace HA := Lib.hid (HA.out.keep hb)
      replace B0 := Lib.hid (B0.out.keep hb)
      replace BS := Lib.hid (BS.out.keep hb)
      replace IK1 := Lib.hid (IK1.out.keep hb)
      replace HB := Lib.hid (keepB HB.out hb)
      have IK2 := Lib.hid hK
      clear cBS0 cBS1 hb hK
      clear CL
      have cB00 := B0.out.c 0 rfl
      have cB01 := B0.out.c 1 rfl
      go_wp2_with fail
      refine (CR.out R hR _ HA.out).mono ?_
      rintro e w6 ⟨rfl, hb⟩
      replace HA := Lib.hid (HA.out.keep hb)
      replace B0 := Lib.hid (B0.out.keep hb)
      replace BS := Lib.hid (BS.out.keep hb)
      replace IK1 := Lib.hid (IK1.out.keep hb)
      replace IK2 := Lib.hid (IK2.out.keep hb)
      replace HB := Lib.hid (keepB HB.out hb)
      clear cB00 cB01 hb
      go_upto_region 8 with fail
      refine at_worldQ (fun v => Below w6.heap.size w6 v ∧ BK v (w6.heap.size) [.int .i64 (Rp.q (As.lowN V (As.bst V) R J) V.length).num, .int .i64 ((Rp.q (As.lowN V (As.bst V) R J) V.length).den : Int)] ∧ BK v (w6.heap.size + 1) [.int .i64 (Rp.q (As.highN V (As.bst V) R J) V.length).num, .int .i64 ((Rp.q (As.highN V (As.bst V) R J) V.length).den : Int)]) ⟨below_al (below_al (Below.refl _ _) _) _, ((BK.new w6 [.int .i64 (Rp.q (As.lowN V (As.bst V) R J) V.length).num, .int .i64 ((Rp.q (As.lowN V (As.bst V) R J) V.length).den : Int)] 40).al _), (bkAtL (BK.new (w6.alloc (.cells #[.int .i64 (Rp.q (As.lowN V (As.bst V) R J) V.length).num, .int .i64 ((Rp.q (As.lowN V (As.bst V) R J) V.length).den : Int)] 40)) [.int .i64 (Rp.q (As.highN V (As.bst V) R J) V.length).num, .int .i64 ((Rp.q (As.highN V (As.bst V) R J) V.length).den : Int)] 40) (by simp only [World.size_alloc]))⟩ (fun U6 hS => ?_)
      obtain ⟨hb, hBa, hBb⟩ := hS
      replace HA := Lib.hid (HA.out.keep hb)
      replace B0 := Lib.hid (B0.out.keep hb)
      replace BS := Lib.hid (BS.out.keep hb)
      replace IK1 := Lib.hid (IK1.out.keep hb)
      replace IK2 := Lib.hid (IK2.out.keep hb)
      replace HB := Lib.hid (keepB HB.out hb)
      have Ba := Lib.hid hBa
      have Bb := Lib.hid hBb
      clear hb hBa hBb
      have cBS0 := BS.out.c 0 rfl
      have cBS1 := BS.out.c 1 rfl
      go_wp2_with fail
      refine (CR.out S hS _ HA.out).mono ?_
      rintro e w7 ⟨rfl, hb⟩
      replace HA := Lib.hid (HA.out.keep hb)
      replace B0 := Lib.hid (B0.out.keep hb)
      replace BS := Lib.hid (BS.out.keep hb)
      replace IK1 := Lib.hid (IK1.out.keep hb)
      replace IK2 := Lib.hid (IK2.out.keep hb)
      replace Ba := Lib.hid (Ba.out.keep hb)
      replace Bb := Lib.hid (Bb.out.keep hb)
      replace HB := Lib.hid (keepB HB.out hb)
      clear cBS0 cBS1 hb
      go_upto_region 9 with fail
      refine at_worldQ (fun v => Below w7.heap.size w7 v ∧ BK v (w7.heap.size) [.int .i64 (Rp.q (As.lowN V (As.bst V) S J) V.length).num, .int .i64 ((Rp.q (As.lowN V (As.bst V) S J) V.length).den : Int)] ∧ BK v (w7.heap.size + 1) [.int .i64 (Rp.q (As.highN V (As.bst V) S J) V.length).num, .int .i64 ((Rp.q (As.highN V (As.bst V) S J) V.length).den : Int)]) ⟨below_al (below_al (Below.refl _ _) _) _, ((BK.new w7 [.int .i64 (Rp.q (As.lowN V (As.bst V) S J) V.length).num, .int .i64 ((Rp.q (As.lowN V (As.bst V) S J) V.length).den : Int)] 40).al _), (bkAtL (BK.new (w7.alloc (.cells #[.int .i64 (Rp.q (As.lowN V (As.bst V) S J) V.length).num, .int .i64 ((Rp.q (As.lowN V (As.bst V) S J) V.length).den : Int)] 40)) [.int .i64 (Rp.q (As.highN V (As.bst V) S J) V.length).num, .int .i64 ((Rp.q (As.highN V (As.bst V) S J) V.length).den : Int)] 40) (by simp only [World.size_alloc]))⟩ (fun U7 hS => ?_)
      obtain ⟨hb, hBc, hBd⟩ := hS
      replace HA := Lib.hid (HA.out.keep hb)
      replace B0 := Lib.hid (B0.out.keep hb)
      replace BS := Lib.hid (BS.out.keep hb)
      replace IK1 := Lib.hid (IK1.out.keep hb)
      replace IK2 := Lib.hid (IK2.out.keep hb)
      replace Ba := Lib.hid (Ba.out.keep hb)
      replace Bb := Lib.hid (Bb.out.keep hb)
      replace HB := Lib.hid (keepB HB.out hb)
      have Bc := Lib.hid hBc
      have Bd := Lib.hid hBd
      clear hb hBc hBd
      clear CR
      have cB00 := B0.out.c 0 rfl
      have cB01 := B0.out.c 1 rfl
      go_wp2_with fail
      refine (CE.out R hR _ HA.out).mono ?_
      rintro e w8 ⟨X1, c1, Y1, d1, rfl, hX, hY, hb⟩
      replace HA := Lib.hid (HA.out.keep hb)
      replace B0 := Lib.hid (B0.out.keep hb)
      replace BS := Lib.hid (BS.out.keep hb)
      replace IK1 := Lib.hid (IK1.out.keep hb)
      replace IK2 := Lib.hid (IK2.out.keep hb)
      replace Ba := Lib.hid (Ba.out.keep hb)
      replace Bb := Lib.hid (Bb.out.keep hb)
      replace Bc := Lib.hid (Bc.out.keep hb)
      replace Bd := Lib.hid (Bd.out.keep hb)
      replace HB := Lib.hid (keepB HB.out hb)
      have IX1 := Lib.hid hX
      have IY1 := Lib.hid hY
      clear cB00 cB01 hb hX hY
      go_upto_region 10 with fail
      refine at_worldQ (fun v => Below w8.heap.size w8 v ∧ BK v (w8.heap.size) [.slice X1 V.length c1, .slice Y1 V.length d1, .int .i64 (As.rdd V.length (As.evp V (As.bst V) R))]) ⟨below_al (Below.refl _ _) _, BK.new w8 [.slice X1 V.length c1, .slice Y1 V.length d1, .int .i64 (As.rdd V.length (As.evp V (As.bst V) R))] 28⟩ (fun U8 hS => ?_)
      obtain ⟨hb, hBx⟩ := hS
      replace HA := Lib.hid (HA.out.keep hb)
      replace B0 := Lib.hid (B0.out.keep hb)
      replace BS := Lib.hid (BS.out.keep hb)
      replace IK1 := Lib.hid (IK1.out.keep hb)
      replace IK2 := Lib.hid (IK2.out.keep hb)
      replace Ba := Lib.hid (Ba.out.keep hb)
      replace Bb := Lib.hid (Bb.out.keep hb)
      replace Bc := Lib.hid (Bc.out.keep hb)
      replace Bd := Lib.hid (Bd.out.keep hb)
      replace IX1 := Lib.hid (IX1.out.keep hb)
      replace IY1 := Lib.hid (IY1.out.keep hb)
      replace HB := Lib.hid (keepB HB.out hb)
      have Bx := Lib.hid hBx
      clear hb hBx
      have cBS0 := BS.out.c 0 rfl
      have cBS1 := BS.out.c 1 rfl
      go_wp2_with fail
      refine (CE.out S hS _ HA.out).mono ?_
      rintro e w9 ⟨X2, c2, Y2, d2, rfl, hX, hY, hb⟩
      replace HA := Lib.hid (HA.out.keep hb)
      replace B0 := Lib.hid (B0.out.keep hb)
      replace BS := Lib.hid (BS.out.keep hb)
      replace IK1 := Lib.hid (IK1.out.keep hb)
      replace IK2 := Lib.hid (IK2.out.keep hb)
      replace Ba := Lib.hid (Ba.out.keep hb)
      replace Bb := Lib.hid (Bb.out.keep hb)
      replace Bc := Lib.hid (Bc.out.keep hb)
      replace Bd := Lib.hid (Bd.out.keep hb)
      replace IX1 := Lib.hid (IX1.out.keep hb)
      replace IY1 := Lib.hid (IY1.out.keep hb)
      replace Bx := Lib.hid (Bx.out.keep hb)
      replace HB := Lib.hid (keepB HB.out hb)
      have IX2 := Lib.hid hX
      have IY2 := Lib.hid hY
      clear cBS0 cBS1 hb hX hY
      go_upto_region 11 with fail
      refine at_worldQ (fun v => Below w9.heap.size w9 v ∧ BK v (w9.heap.size) [.slice X2 V.length c2, .slice Y2 V.length d2, .int .i64 (As.rdd V.length (As.evp V (As.bst V) S))]) ⟨below_al (Below.refl _ _) _, BK.new w9 [.slice X2 V.length c2, .slice Y2 V.length d2, .int .i64 (As.rdd V.length (As.evp V (As.bst V) S))] 28⟩ (fun U9 hS => ?_)
      obtain ⟨hb, hBy⟩ := hS
      replace HA := Lib.hid (HA.out.keep hb)
      replace B0 := Lib.hid (B0.out.keep hb)
      replace BS := Lib.hid (BS.out.keep hb)
      replace IK1 := Lib.hid (IK1.out.keep hb)
      replace IK2 := Lib.hid (IK2.out.keep hb)
      replace Ba := Lib.hid (Ba.out.keep hb)
      replace Bb := Lib.hid (Bb.out.keep hb)
      replace Bc := Lib.hid (Bc.out.keep hb)
      replace Bd := Lib.hid (Bd.out.keep hb)
      replace IX1 := Lib.hid (IX1.out.keep hb)
      replace IY1 := Lib.hid (IY1.out.keep hb)
      replace Bx := Lib.hid (Bx.out.keep hb)
      replace IX2 := Lib.hid (IX2.out.keep hb)
      replace IY2 := Lib.hid (IY2.out.keep hb)
      replace HB := Lib.hid (keepB HB.out hb)
      have By := Lib.hid hBy
      clear hb hBy
      clear CE
      have cB00 := B0.out.c 0 rfl
      have cB01 := B0.out.c 1 rfl
      have cBx0 := Bx.out.c 0 rfl
      have cBx1 := Bx.out.c 1 rfl
      have cBx2 := Bx.out.c 2 rfl
      go_wp2_with fail
      refine (CV.out R hR _ X1 c1 Y1 d1 HA.out IX1.out IY1.out).mono ?_
      rintro e w10 ⟨rfl, hb⟩
      replace HA := Lib.hid (HA.out.keep hb)
      replace B0 := Lib.hid (B0.out.keep hb)
      replace BS := Lib.hid (BS.out.keep hb)
      replace IK1 := Lib.hid (IK1.out.keep hb)
      replace IK2 := Lib.hid (IK2.out.keep hb)
      replace Ba := Lib.hid (Ba.out.keep hb)
      replace Bb := Lib.hid (Bb.out.keep hb)
      replace Bc := Lib.hid (Bc.out.keep hb)
      replace Bd := Lib.hid (Bd.out.keep hb)
      replace IX1 := Lib.hid (IX1.out.keep hb)
      replace IY1 := Lib.hid (IY1.out.keep hb)
      replace Bx := Lib.hid (Bx.out.keep hb)
      replace IX2 := Lib.hid (IX2.out.keep hb)
      replace IY2 := Lib.hid (IY2.out.keep hb)
      replace By := Lib.hid (By.out.keep hb)
      replace HB := Lib.hid (keepB HB.out hb)
      clear cB00 cB01 cBx0 cBx1 cBx2 hb
      have cBS0 := BS.out.c 0 rfl
      have cBS1 := BS.out.c 1 rfl
      have cBy0 := By.out.c 0 rfl
      have cBy1 := By.out.c 1 rfl
      have cBy2 := By.out.c 2 rfl
      go_wp2_with fail
      refine (CV.out S hS _ X2 c2 Y2 d2 HA.out IX2.out IY2.out).mono ?_
      rintro e w11 ⟨rfl, hb⟩
      replace HA := Lib.hid (HA.out.keep hb)
      replace B0 := Lib.hid (B0.out.keep hb)
      replace BS := Lib.hid (BS.out.keep hb)
      replace IK1 := Lib.hid (IK1.out.keep hb)
      replace IK2 := Lib.hid (IK2.out.keep hb)
      replace Ba := Lib.hid (Ba.out.keep hb)
      replace Bb := Lib.hid (Bb.out.keep hb)
      replace Bc := Lib.hid (Bc.out.keep hb)
      replace Bd := Lib.hid (Bd.out.keep hb)
      replace IX1 := Lib.hid (IX1.out.keep hb)
      replace IY1 := Lib.hid (IY1.out.keep hb)
      replace Bx := Lib.hid (Bx.out.keep hb)
      replace IX2 := Lib.hid (IX2.out.keep hb)
      replace IY2 := Lib.hid (IY2.out.keep hb)
      replace By := Lib.hid (By.out.keep hb)
      replace HB := Lib.hid (keepB HB.out hb)
      clear cBS0 cBS1 cBy0 cBy1 cBy2 hb
      clear CV IX1 IX2
      obtain ⟨g1, g2, g3, g4, g5, g6⟩ := G.out
      clear G
      have cB00 := B0.out.c 0 rfl
      have cB01 := B0.out.c 1 rfl
      go_wp2_with fail
      refine (Q1.out _).mono ?_
      rintro e w12 ⟨rfl, hb⟩
      replace HA := Lib.hid (HA.out.keep hb)
      replace B0 := Lib.hid (B0.out.keep hb)
      replace BS := Lib.hid (BS.out.keep hb)
      replace IK1 := Lib.hid (IK1.out.keep hb)
      replace IK2 := Lib.hid (IK2.out.keep hb)
      replace Ba := Lib.hid (Ba.out.keep hb)
      replace Bb := Lib.hid (Bb.out.keep hb)
      replace Bc := Lib.hid (Bc.out.keep hb)
      replace Bd := Lib.hid (Bd.out.keep hb)
      replace IY1 := Lib.hid (IY1.out.keep hb)
      replace Bx := Lib.hid (Bx.out.keep hb)
      replace IY2 := Lib.hid (IY2.out.keep hb)
      replace By := Lib.hid (By.out.keep hb)
      replace HB := Lib.hid (keepB HB.out hb)
      clear cB00 cB01 hb
      go_upto_region 14 with fail
      refine at_worldQ (fun v => Below w12.heap.size w12 v ∧ BK v (w12.heap.size) [.int .i64 (Rp.q (S - R) V.length).num, .int .i64 ((Rp.q (S - R) V.length).den : Int)]) ⟨below_al (Below.refl _ _) _, BK.new w12 [.int .i64 (Rp.q (S - R) V.length).num, .int .i64 ((Rp.q (S - R) V.length).den : Int)] 40⟩ (fun U12 hS => ?_)
      obtain ⟨hb, hBe⟩ := hS
      replace HA := Lib.hid (HA.out.keep hb)
      replace B0 := Lib.hid (B0.out.keep hb)
      replace BS := Lib.hid (BS.out.keep hb)
      replace IK1 := Lib.hid (IK1.out.keep hb)
      replace IK2 := Lib.hid (IK2.out.keep hb)
      replace Ba := Lib.hid (Ba.out.keep hb)
      replace Bb := Lib.hid (Bb.out.keep hb)
      replace Bc := Lib.hid (Bc.out.keep hb)
      replace Bd := Lib.hid (Bd.out.keep hb)
      replace IY1 := Lib.hid (IY1.out.keep hb)
      replace Bx := Lib.hid (Bx.out.keep hb)
      replace IY2 := Lib.hid (IY2.out.keep hb)
      replace By := Lib.hid (By.out.keep hb)
      replace HB := Lib.hid (keepB HB.out hb)
      have Be := Lib.hid hBe
      clear hb hBe
      clear Q1 g1 g2
      have cBa0 := Ba.out.c 0 rfl
      have cBa1 := Ba.out.c 1 rfl
      have cBe0 := Be.out.c 0 rfl
      have cBe1 := Be.out.c 1 rfl
      go_wp2_with fail
      refine (Q2.out _).mono ?_
      rintro e w13 ⟨rfl, hb⟩
      replace HA := Lib.hid (HA.out.keep hb)
      replace B0 := Lib.hid (B0.out.keep hb)
      replace BS := Lib.hid (BS.out.keep hb)
      replace IK1 := Lib.hid (IK1.out.keep hb)
      replace IK2 := Lib.hid (IK2.out.keep hb)
      replace Ba := Lib.hid (Ba.out.keep hb)
      replace Bb := Lib.hid (Bb.out.keep hb)
      replace Bc := Lib.hid (Bc.out.keep hb)
      replace Bd := Lib.hid (Bd.out.keep hb)
      replace IY1 := Lib.hid (IY1.out.keep hb)
      replace Bx := Lib.hid (Bx.out.keep hb)
      replace IY2 := Lib.hid (IY2.out.keep hb)
      replace By := Lib.hid (By.out.keep hb)
      replace Be := Lib.hid (Be.out.keep hb)
      replace HB := Lib.hid (keepB HB.out hb)
      clear cBa0 cBa1 cBe0 cBe1 hb
      go_upto_region 15 with fail
      refine at_worldQ (fun v => Below w13.heap.size w13 v ∧ BK v (w13.heap.size) [.int .i64 (Rp.q (As.lowN V (As.bst V) S J) V.length).num, .int .i64 ((Rp.q (As.lowN V (As.bst V) S J) V.length).den : Int)]) ⟨below_al (Below.refl _ _) _, BK.new w13 [.int .i64 (Rp.q (As.lowN V (As.bst V) S J) V.length).num, .int .i64 ((Rp.q (As.lowN V (As.bst V) S J) V.length).den : Int)] 40⟩ (fun U13 hS => ?_)
      obtain ⟨hb, hBl⟩ := hS
      replace HA := Lib.hid (HA.out.keep hb)
      replace B0 := Lib.hid (B0.out.keep hb)
      replace BS := Lib.hid (BS.out.keep hb)
      replace IK1 := Lib.hid (IK1.out.keep hb)
      replace IK2 := Lib.hid (IK2.out.keep hb)
      replace Ba := Lib.hid (Ba.out.keep hb)
      replace Bb := Lib.hid (Bb.out.keep hb)
      replace Bc := Lib.hid (Bc.out.keep hb)
      replace Bd := Lib.hid (Bd.out.keep hb)
      replace IY1 := Lib.hid (IY1.out.keep hb)
      replace Bx := Lib.hid (Bx.out.keep hb)
      replace IY2 := Lib.hid (IY2.out.keep hb)
      replace By := Lib.hid (By.out.keep hb)
      replace Be := Lib.hid (Be.out.keep hb)
      replace HB := Lib.hid (keepB HB.out hb)
      have Bl := Lib.hid hBl
      clear hb hBl
      clear Q2 Ba
      have cBb0 := Bb.out.c 0 rfl
      have cBb1 := Bb.out.c 1 rfl
      have cBe0 := Be.out.c 0 rfl
      have cBe1 := Be.out.c 1 rfl
      go_wp2_with fail
      refine (Q3.out _).mono ?_
      rintro e w14 ⟨rfl, hb⟩
      replace HA := Lib.hid (HA.out.keep hb)
      replace B0 := Lib.hid (B0.out.keep hb)
      replace BS := Lib.hid (BS.out.keep hb)
      replace IK1 := Lib.hid (IK1.out.keep hb)
      replace IK2 := Lib.hid (IK2.out.keep hb)
      replace Bb := Lib.hid (Bb.out.keep hb)
      replace Bc := Lib.hid (Bc.out.keep hb)
      replace Bd := Lib.hid (Bd.out.keep hb)
      replace IY1 := Lib.hid (IY1.out.keep hb)
      replace Bx := Lib.hid (Bx.out.keep hb)
      replace IY2 := Lib.hid (IY2.out.keep hb)
      replace By := Lib.hid (By.out.keep hb)
      replace Be := Lib.hid (Be.out.keep hb)
      replace Bl := Lib.hid (Bl.out.keep hb)
      replace HB := Lib.hid (keepB HB.out hb)
      clear cBb0 cBb1 cBe0 cBe1 hb
      go_upto_region 16 with fail
      refine at_worldQ (fun v => Below w14.heap.size w14 v ∧ BK v (w14.heap.size) [.int .i64 (Rp.q (As.highN V (As.bst V) S J) V.length).num, .int .i64 ((Rp.q (As.highN V (As.bst V) S J) V.length).den : Int)]) ⟨below_al (Below.refl _ _) _, BK.new w14 [.int .i64 (Rp.q (As.highN V (As.bst V) S J) V.length).num, .int .i64 ((Rp.q (As.highN V (As.bst V) S J) V.length).den : Int)] 40⟩ (fun U14 hS => ?_)
      obtain ⟨hb, hBh⟩ := hS
      replace HA := Lib.hid (HA.out.keep hb)
      replace B0 := Lib.hid (B0.out.keep hb)
      replace BS := Lib.hid (BS.out.keep hb)
      replace IK1 := Lib.hid (IK1.out.keep hb)
      replace IK2 := Lib.hid (IK2.out.keep hb)
      replace Bb := Lib.hid (Bb.out.keep hb)
      replace Bc := Lib.hid (Bc.out.keep hb)
      replace Bd := Lib.hid (Bd.out.keep hb)
      replace IY1 := Lib.hid (IY1.out.keep hb)
      replace Bx := Lib.hid (Bx.out.keep hb)
      replace IY2 := Lib.hid (IY2.out.keep hb)
      replace By := Lib.hid (By.out.keep hb)
      replace Be := Lib.hid (Be.out.keep hb)
      replace Bl := Lib.hid (Bl.out.keep hb)
      replace HB := Lib.hid (keepB HB.out hb)
      have Bh := Lib.hid hBh
      clear hb hBh
      clear Q3 Bb
      obtain ⟨y1, o1, rfl, hy⟩ := list_at IY1.out (j := J) (by rw [HLE.out.1]; exact hJ)
      have p1 := hy J (by rw [HLE.out.1]; exact hJ)
      have x1 := Bx.out.c 1 rfl
      have x2 := Bx.out.c 2 rfl
      clear hy
      go_upto_region 16 with fail
      go_cut [29] (fun x v => ∃ p, x = .pointer (some ⟨p, 0, none⟩) ∧ BK v p [.int .i64 (Rp.q (As.evp V (As.bst V) R J) V.length).num, .int .i64 ((Rp.q (As.evp V (As.bst V) R J) V.length).den : Int)] ∧ Below U14.heap.size U14 v)
      case first =>
        have hB0 := Below.refl U14.heap.size U14
        have Q := Lib.hid Q4.out
        generalize As.el (As.rdp V.length (As.evp V (As.bst V) R)) J = pe at *
        generalize As.rdd V.length (As.evp V (As.bst V) R) = de at *
        generalize (Rp.q (As.evp V (As.bst V) R J) V.length).num = rn at *
        generalize ((Rp.q (As.evp V (As.bst V) R J) V.length).den : Int) = rd at *
        have HK := Lib.hid (fun v (hv : Below U14.heap.size U14 v) => (show v.cell? ⟨w8.heap.size, 1, none⟩ = some (.slice (some ⟨y1, o1, none⟩) V.length d1) ∧ v.cell? ⟨w8.heap.size, 2, none⟩ = some (.int .i64 de) ∧ v.cell? ⟨y1, o1 + J, none⟩ = some (.int .i64 pe) from ⟨keepC hv x1, keepC hv x2, keepC hv p1⟩))
        have hq1 := lt_of_cell x1
        have hq2 := lt_of_cell p1
        clear HA HB B0 BS IK1 IK2 Bc Bd Be Bl
        go_region_held3 (fun v => v.cell? ⟨w8.heap.size, 1, none⟩ = some (.slice (some ⟨y1, o1, none⟩) V.length d1) ∧ v.cell? ⟨w8.heap.size, 2, none⟩ = some (.int .i64 de) ∧ v.cell? ⟨y1, o1 + J, none⟩ = some (.int .i64 pe))
          (first | (exact HK.out _ (by assumption)) | (exact HK.out _ (Below.drew (by assumption))) | (exact HK.out _ (below_al (by assumption) _)) | (exact HK.out _ (below_al (Below.drew (by assumption)) _)) | (exact ⟨cell_far (cell_far (keepC hw5 x1) (by omega) _) (by omega) _, cell_far (cell_far (keepC hw5 x2) (by omega) _) (by omega) _, cell_far (cell_far (keepC hw5 p1) (by omega) _) (by omega) _⟩))
          (first
            | (go_at_call 37; refine (Q.out _).mono ?_; rintro e w5 ⟨rfl, hb5⟩; have hw5 : Below U14.heap.size U14 w5 := (by first | exact keepB hB0 hb5 | exact keepB hB0.drew hb5 | exact keepB (below_al hB0 _) hb5 | exact keepB (below_al hB0.drew _) hb5); (first | (have nbk : BK w5 U14.heap.size [.int .i64 0, .int .i64 0] := (by first | exact (BK.new U14 [.int .i64 0, .int .i64 0] _).keep hb5 | exact (BK.new U14.drew [.int .i64 0, .int .i64 0] _).keep hb5); have nb0 := nbk.c 0 rfl; have nb1 := nbk.c 1 rfl; have nf0 := nbk.f 0 rfl; have nf1 := nbk.f 1 rfl) | skip)))
        all_goals
          go_wp2_with fail
          go_meet
          refine ⟨_, rfl, ?_, ?_⟩
          · first | exact (nbk.set 0 _).set 1 _ | exact BK.new _ _ _
          · first | exact below_set (below_set hw5 (Nat.le_refl _) _) (Nat.le_refl _) _ | exact below_al hw5 _
      case rest =>
        clear p1 x1 x2
        obtain ⟨p, rfl, hbk, hb⟩ := hcut
        rename World => U15
        replace HA := Lib.hid (HA.out.keep hb)
        replace B0 := Lib.hid (B0.out.keep hb)
        replace BS := Lib.hid (BS.out.keep hb)
        replace IK1 := Lib.hid (IK1.out.keep hb)
        replace IK2 := Lib.hid (IK2.out.keep hb)
        replace Bc := Lib.hid (Bc.out.keep hb)
        replace Bd := Lib.hid (Bd.out.keep hb)
        replace IY1 := Lib.hid (IY1.out.keep hb)
        replace Bx := Lib.hid (Bx.out.keep hb)
        replace IY2 := Lib.hid (IY2.out.keep hb)
        replace By := Lib.hid (By.out.keep hb)
        replace Be := Lib.hid (Be.out.keep hb)
        replace Bl := Lib.hid (Bl.out.keep hb)
        replace Bh := Lib.hid (Bh.out.keep hb)
        replace HB := Lib.hid (keepB HB.out hb)
        have Bp := Lib.hid hbk
        clear hbk hb Q4 Bx IY1
        obtain ⟨y2, o2, rfl, hy⟩ := list_at IY2.out (j := J) (by rw [HLE.out.2]; exact hJ)
        have p1 := hy J (by rw [HLE.out.2]; exact hJ)
        have x1 := By.out.c 1 rfl
        have x2 := By.out.c 2 rfl
        clear hy
        go_upto_region 17 with fail
        go_cut [31] (fun x v => ∃ p, x = .pointer (some ⟨p, 0, none⟩) ∧ BK v p [.int .i64 (Rp.q (As.evp V (As.bst V) S J) V.length).num, .int .i64 ((Rp.q (As.evp V (As.bst V) S J) V.length).den : Int)] ∧ Below U15.heap.size U15 v)
        case first =>
          have hB0 := Below.refl U15.heap.size U15
          have Q := Lib.hid Q5.out
          generalize As.el (As.rdp V.length (As.evp V (As.bst V) S)) J = pe at *
          generalize As.rdd V.length (As.evp V (As.bst V) S) = de at *
          generalize (Rp.q (As.evp V (As.bst V) S J) V.length).num = rn at *
          generalize ((Rp.q (As.evp V (As.bst V) S J) V.length).den : Int) = rd at *
          have HK := Lib.hid (fun v (hv : Below U15.heap.size U15 v) => (show v.cell? ⟨w9.heap.size, 1, none⟩ = some (.slice (some ⟨y2, o2, none⟩) V.length d2) ∧ v.cell? ⟨w9.heap.size, 2, none⟩ = some (.int .i64 de) ∧ v.cell? ⟨y2, o2 + J, none⟩ = some (.int .i64 pe) from ⟨keepC hv x1, keepC hv x2, keepC hv p1⟩))
          have hq1 := lt_of_cell x1
          have hq2 := lt_of_cell p1
          clear HA HB B0 BS IK1 IK2 Bc Bd Be Bl
          go_region_held3 (fun v => v.cell? ⟨w9.heap.size, 1, none⟩ = some (.slice (some ⟨y2, o2, none⟩) V.length d2) ∧ v.cell? ⟨w9.heap.size, 2, none⟩ = some (.int .i64 de) ∧ v.cell? ⟨y2, o2 + J, none⟩ = some (.int .i64 pe))
            (first | (exact HK.out _ (by assumption)) | (exact HK.out _ (Below.drew (by assumption))) | (exact HK.out _ (below_al (by assumption) _)) | (exact HK.out _ (below_al (Below.drew (by assumption)) _)) | (exact ⟨cell_far (cell_far (keepC hw5 x1) (by omega) _) (by omega) _, cell_far (cell_far (keepC hw5 x2) (by omega) _) (by omega) _, cell_far (cell_far (keepC hw5 p1) (by omega) _) (by omega) _⟩))
            (first
              | (go_at_call 37; refine (Q.out _).mono ?_; rintro e w5 ⟨rfl, hb5⟩; have hw5 : Below U15.heap.size U15 w5 := (by first | exact keepB hB0 hb5 | exact keepB hB0.drew hb5 | exact keepB (below_al hB0 _) hb5 | exact keepB (below_al hB0.drew _) hb5); (first | (have nbk : BK w5 U15.heap.size [.int .i64 0, .int .i64 0] := (by first | exact (BK.new U15 [.int .i64 0, .int .i64 0] _).keep hb5 | exact (BK.new U15.drew [.int .i64 0, .int .i64 0] _).keep hb5); have nb0 := nbk.c 0 rfl; have nb1 := nbk.c 1 rfl; have nf0 := nbk.f 0 rfl; have nf1 := nbk.f 1 rfl) | skip)))
          all_goals
            go_wp2_with fail
            go_meet
            refine ⟨_, rfl, ?_, ?_⟩
            · first | exact (nbk.set 0 _).set 1 _ | exact BK.new _ _ _
            · first | exact below_set (below_set hw5 (Nat.le_refl _) _) (Nat.le_refl _) _ | exact below_al hw5 _
        case rest =>
          clear p1 x1 x2
          obtain ⟨q, rfl, hbk, hb⟩ := hcut
          rename World => U16
          replace HA := Lib.hid (HA.out.keep hb)
          replace B0 := Lib.hid (B0.out.keep hb)
          replace BS := Lib.hid (BS.out.keep hb)
          replace IK1 := Lib.hid (IK1.out.keep hb)
          replace IK2 := Lib.hid (IK2.out.keep hb)
          replace Bc := Lib.hid (Bc.out.keep hb)
          replace Bd := Lib.hid (Bd.out.keep hb)
          replace IY2 := Lib.hid (IY2.out.keep hb)
          replace By := Lib.hid (By.out.keep hb)
          replace Be := Lib.hid (Be.out.keep hb)
          replace Bl := Lib.hid (Bl.out.keep hb)
          replace Bh := Lib.hid (Bh.out.keep hb)
          replace Bp := Lib.hid (Bp.out.keep hb)
          replace HB := Lib.hid (keepB HB.out hb)
          have Bq := Lib.hid hbk
          clear hbk hb Q5 By IY2
          have cBp0 := Bp.out.c 0 rfl
          have cBp1 := Bp.out.c 1 rfl
          have cBe0 := Be.out.c 0 rfl
          have cBe1 := Be.out.c 1 rfl
          go_wp2_with fail
          refine (Q6.out _).mono ?_
          rintro e w17 ⟨rfl, hb⟩
          replace HA := Lib.hid (HA.out.keep hb)
          replace B0 := Lib.hid (B0.out.keep hb)
          replace BS := Lib.hid (BS.out.keep hb)
          replace IK1 := Lib.hid (IK1.out.keep hb)
          replace IK2 := Lib.hid (IK2.out.keep hb)
          replace Bc := Lib.hid (Bc.out.keep hb)
          replace Bd := Lib.hid (Bd.out.keep hb)
          replace Be := Lib.hid (Be.out.keep hb)
          replace Bl := Lib.hid (Bl.out.keep hb)
          replace Bh := Lib.hid (Bh.out.keep hb)
          replace Bp := Lib.hid (Bp.out.keep hb)
          replace Bq := Lib.hid (Bq.out.keep hb)
          replace HB := Lib.hid (keepB HB.out hb)
          clear cBp0 cBp1 cBe0 cBe1 hb
          go_upto_region 19 with fail
          refine at_worldQ (fun v => Below w17.heap.size w17 v ∧ BK v (w17.heap.size) [.int .i64 (Rp.q (As.evp V (As.bst V) S J) V.length).num, .int .i64 ((Rp.q (As.evp V (As.bst V) S J) V.length).den : Int)]) ⟨below_al (Below.refl _ _) _, BK.new w17 [.int .i64 (Rp.q (As.evp V (As.bst V) S J) V.length).num, .int .i64 ((Rp.q (As.evp V (As.bst V) S J) V.length).den : Int)] 40⟩ (fun U17 hS => ?_)
          obtain ⟨hb, hBt⟩ := hS
          replace HA := Lib.hid (HA.out.keep hb)
          replace B0 := Lib.hid (B0.out.keep hb)
          replace BS := Lib.hid (BS.out.keep hb)
          replace IK1 := Lib.hid (IK1.out.keep hb)
          replace IK2 := Lib.hid (IK2.out.keep hb)
          replace Bc := Lib.hid (Bc.out.keep hb)
          replace Bd := Lib.hid (Bd.out.keep hb)
          replace Be := Lib.hid (Be.out.keep hb)
          replace Bl := Lib.hid (Bl.out.keep hb)
          replace Bh := Lib.hid (Bh.out.keep hb)
          replace Bp := Lib.hid (Bp.out.keep hb)
          replace Bq := Lib.hid (Bq.out.keep hb)
          replace HB := Lib.hid (keepB HB.out hb)
          have Bt := Lib.hid hBt
          clear hb hBt
          clear Q6 Bp Be
          have SL := Lib.hid (sameLists_eq K1 ck1 K2 ck2 (As.lkt V) U17 (by rw [lkt_len]; exact HL.out) IK1.out IK2.out)
          rw [lkt_len] at SL
          clear HA IK1 IK2 B0 BS
          go_wp2_with fail
          refine (SL.out).mono ?_
          rintro e w18 ⟨rfl, hb⟩
          replace Bc := Lib.hid (Bc.out.keep hb)
          replace Bd := Lib.hid (Bd.out.keep hb)
          replace Bl := Lib.hid (Bl.out.keep hb)
          replace Bh := Lib.hid (Bh.out.keep hb)
          replace Bq := Lib.hid (Bq.out.keep hb)
          replace Bt := Lib.hid (Bt.out.keep hb)
          replace HB := Lib.hid (keepB HB.out hb)
          clear hb
          clear SL
          have cBl0 := Bl.out.c 0 rfl
          have cBl1 := Bl.out.c 1 rfl
          have cBc0 := Bc.out.c 0 rfl
          have cBc1 := Bc.out.c 1 rfl
          have cBh0 := Bh.out.c 0 rfl
          have cBh1 := Bh.out.c 1 rfl
          have cBd0 := Bd.out.c 0 rfl
          have cBd1 := Bd.out.c 1 rfl
          have cBt0 := Bt.out.c 0 rfl
          have cBt1 := Bt.out.c 1 rfl
          have cBq0 := Bq.out.c 0 rfl
          have cBq1 := Bq.out.c 1 rfl
          go_wp2_with fail
          go_ret
          exact ⟨rfl, HB.out⟩
end Go.Proofs.Ytpiolhjiflohgaa

/- RentRents' walk. -/
import Derived.Test.YtncmffhoodfhjaaLxh
import Derived.BigRegion
namespace Go.Proofs.Ytncmffhoodfhjaa
open Go.RowKit
theorem el_i64 {n : Nat} {R : Int} {a : List Nat} {P : List Int} {D : Int} (h : As.Le14 n R a P D) (h6 : D ≤ 6) {j : Nat} (hj : j < n) : -60000000 ≤ As.el P j ∧ As.el P j ≤ 60000000 := by
  have := h.pb j hj
  omega
theorem mul_bd {x d a b : Int} (h0 : -a ≤ x) (h1 : x ≤ a) (d0 : 0 ≤ d) (d1 : d ≤ b) (ha : 0 ≤ a) : -(a * b) ≤ x * d ∧ x * d ≤ a * b := by
  have k1 : x * d ≤ a * d := Int.mul_le_mul_of_nonneg_right h1 d0
  have k2 : a * d ≤ a * b := Int.mul_le_mul_of_nonneg_left d1 ha
  have k3 : (-a) * d ≤ x * d := Int.mul_le_mul_of_nonneg_right h0 d0
  rw [Int.neg_mul] at k3
  omega
set_option maxRecDepth 100000 in
set_option maxHeartbeats 8000000 in
theorem rentrents_walk (A : Option Addr) (cv : Nat) (V : List (List Int)) (R S : Int) (w : World) (hl : V.length ≤ maxLen) (h : IsM w A V) (_hR : I64 R) (_s0 : -9223372036854775808 ≤ S) (_s1 : S ≤ 9223372036854775807) :
    Calls Try.prog 9 #[.agg #[.slice A V.length cv, .int .i64 R], .int .i64 S] w fun e w' => e = .returned (.bool true) ∧ Below w.heap.size w w' := by
  have HA := Lib.hid h
  have CF := Lib.hid (fun T v (hv : IsM v A V) => fit15_any A cv V T v hl hv)
  have HL := Lib.hid hl
  clear h
  unfold maxLen at hl
  go_enter Try.func9, Try.ntmps9
  go_upto_region 1 with fail
  refine at_box1 (fun V0 hbb b0 hsz => ?_)
  clear hsz
  replace HA := Lib.hid (HA.out.keep hbb)
  have HB := Lib.hid hbb
  have B0 := Lib.hid b0
  clear hbb b0
  go_wp2_with fail
  refine (alive15_any _).mono ?_
  rintro e w1 ⟨rfl, hb⟩
  replace HA := Lib.hid (HA.out.keep hb)
  replace B0 := Lib.hid (B0.out.keep hb)
  replace HB := Lib.hid (keepB HB.out hb)
  clear hb
  have cB00 := B0.out.c 0 rfl
  have cB01 := B0.out.c 1 rfl
  go_upto_region 3 with fail
  refine at_worldQ (fun v => Below w1.heap.size w1 v ∧ BK v (w1.heap.size) [.slice A V.length cv, .int .i64 S]) ⟨below_al (Below.refl _ _) _, BK.new w1 [.slice A V.length cv, .int .i64 S] 24⟩ (fun U1 hS => ?_)
  obtain ⟨hb, hBS⟩ := hS
  replace HA := Lib.hid (HA.out.keep hb)
  replace B0 := Lib.hid (B0.out.keep hb)
  replace HB := Lib.hid (keepB HB.out hb)
  have BS := Lib.hid hBS
  clear cB00 cB01 hb hBS
  have cf1 := CF.out R
  have cf2 := CF.out S
  generalize hz1 : decide (As.rchk V R = 0) = z1 at cf1
  generalize hz2 : decide (As.rchk V S = 0) = z2 at cf2
  have CF1 := Lib.hid cf1
  have CF2 := Lib.hid cf2
  clear CF cf1 cf2
  have cB00 := B0.out.c 0 rfl
  have cB01 := B0.out.c 1 rfl
  have cBS0 := BS.out.c 0 rfl
  have cBS1 := BS.out.c 1 rfl
  go_wp2_with fail
  refine (CF1.out _ HA.out).mono ?_
  rintro e w2 ⟨rfl, hb⟩
  replace HA := Lib.hid (HA.out.keep hb)
  replace B0 := Lib.hid (B0.out.keep hb)
  replace BS := Lib.hid (BS.out.keep hb)
  replace HB := Lib.hid (keepB HB.out hb)
  clear cB00 cB01 cBS0 cBS1 hb
  cases z1 with
  | false =>
    go_wp2_with fail
    go_ret
    exact ⟨rfl, HB.out⟩
  | true =>
    have cB00 := B0.out.c 0 rfl
    have cB01 := B0.out.c 1 rfl
    have cBS0 := BS.out.c 0 rfl
    have cBS1 := BS.out.c 1 rfl
    go_wp2_with fail
    refine (CF2.out _ HA.out).mono ?_
    rintro e w3 ⟨rfl, hb⟩
    replace HA := Lib.hid (HA.out.keep hb)
    replace B0 := Lib.hid (B0.out.keep hb)
    replace BS := Lib.hid (BS.out.keep hb)
    replace HB := Lib.hid (keepB HB.out hb)
    clear cB00 cB01 cBS0 cBS1 hb
    cases z2 with
    | false =>
      go_wp2_with fail
      go_ret
      exact ⟨rfl, HB.out⟩
    | true =>
      clear CF1 CF2
      have hR := of_decide_eq_true hz1
      have hS := of_decide_eq_true hz2
      have K1 := As.fr_ok hR
      have K2 := As.fr_ok hS
      have K3 := As.cl_ok hR
      have K4 := As.cl_ok hS
      have HK1 := Lib.hid K1
      have HK2 := Lib.hid K2
      have HK3 := Lib.hid K3
      have HK4 := Lib.hid K4
      have HR := Lib.hid hR
      have HS := Lib.hid hS
      have r0 := K1.r0
      have r1 := K1.r1
      have s0 := K2.r0
      have s1 := K2.r1
      have n1 := K1.ok.n1
      have n6 := K1.ok.n6
      obtain ⟨a0, a1⟩ := K1.d6
      obtain ⟨b0, b1⟩ := K2.d6
      obtain ⟨c0, c1⟩ := K3.d6
      obtain ⟨d0, d1⟩ := K4.d6
      have HRA := Lib.hid (fun j (hj : j < V.length) => K1.rent K2 hj)
      have HRC := Lib.hid (fun j (hj : j < V.length) => K3.rent K4 hj)
      have CF1 := Lib.hid (fun v (hv : IsM v A V) => rent_fair A cv V R v HL.out hv hR)
      have CF2 := Lib.hid (fun v (hv : IsM v A V) => rent_fair A cv V S v HL.out hv hS)
      have CC1 := Lib.hid (fun v (hv : IsM v A V) => rent_calm A cv V R v HL.out hv hR)
      have CC2 := Lib.hid (fun v (hv : IsM v A V) => rent_calm A cv V S v HL.out hv hS)
      have CV1 := Lib.hid (fun X c Y d v (hv : IsM v A V) hX hY => rent_vld A cv V R _ _ _ X c Y d v HL.out hv hR K1 hX hY)
      have CV2 := Lib.hid (fun X c Y d v (hv : IsM v A V) hX hY => rent_vld A cv V S _ _ _ X c Y d v HL.out hv hS K2 hX hY)
      have CV3 := Lib.hid (fun X c Y d v (hv : IsM v A V) hX hY => rent_vld A cv V R _ _ _ X c Y d v HL.out hv hR K3 hX hY)
      have CV4 := Lib.hid (fun X c Y d v (hv : IsM v A V) hX hY => rent_vld A cv V S _ _ _ X c Y d v HL.out hv hS K4 hX hY)
      have E1 := Lib.hid (fun j (hj : j < V.length) => el_i64 K1.le a1 hj)
      have E2 := Lib.hid (fun j (hj : j < V.length) => el_i64 K2.le b1 hj)
      have E3 := Lib.hid (fun j (hj : j < V.length) => el_i64 K3.le c1 hj)
      have E4 := Lib.hid (fun j (hj : j < V.length) => el_i64 K4.le d1 hj)
      have N1 := Lib.hid K1.le.len
      have N2 := Lib.hid K2.le.len
      have N3 := Lib.hid K3.le.len
      have N4 := Lib.hid K4.le.len
      clear K1 K2 K3 K4 hR hS hz1 hz2 HK1 HK2 HK3 HK4
      generalize As.frD V R = da at *
      generalize As.frD V S = db at *
      generalize As.clD V R = dc at *
      generalize As.clD V S = dd at *
      generalize As.frP V R = pa at *
      generalize As.frP V S = pb at *
      generalize As.clP V R = pc at *
      generalize As.clP V S = pd at *
      have cB00 := B0.out.c 0 rfl
      have cB01 := B0.out.c 1 rfl
      go_wp2_with fail
      refine (CF1.out _ HA.out).mono ?_
      rintro e w4 ⟨X1, cx1, Y1, cy1, rfl, hX, hY, hb⟩
      replace HA := Lib.hid (HA.out.keep hb)
      replace B0 := Lib.hid (B0.out.keep hb)
      replace BS := Lib.hid (BS.out.keep hb)
      replace HB := Lib.hid (keepB HB.out hb)
      have IX1 := Lib.hid hX
      have IY1 := Lib.hid hY
      clear cB00 cB01 hb hX hY
      go_upto_region 6 with fail
      refine at_worldQ (fun v => Below w4.heap.size w4 v ∧ BK v (w4.heap.size) [.slice X1 V.length cx1, .slice Y1 V.length cy1, .int .i64 da]) ⟨below_al (Below.refl _ _) _, BK.new w4 [.slice X1 V.length cx1, .slice Y1 V.length cy1, .int .i64 da] 27⟩ (fun U4 hS => ?_)
      obtain ⟨hb, hL1⟩ := hS
      replace HA := Lib.hid (HA.out.keep hb)
      replace B0 := Lib.hid (B0.out.keep hb)
      replace BS := Lib.hid (BS.out.keep hb)
      replace IX1 := Lib.hid (IX1.out.keep hb)
      replace IY1 := Lib.hid (IY1.out.keep hb)
      replace HB := Lib.hid (keepB HB.out hb)
      have L1 := Lib.hid hL1
      clear hb hL1
      have cBS0 := BS.out.c 0 rfl
      have cBS1 := BS.out.c 1 rfl
      go_wp2_with fail
      refine (CF2.out _ HA.out).mono ?_
      rintro e w5 ⟨X2, cx2, Y2, cy2, rfl, hX, hY, hb⟩
      replace HA := Lib.hid (HA.out.keep hb)
      replace B0 := Lib.hid (B0.out.keep hb)
      replace BS := Lib.hid (BS.out.keep hb)
      replace IX1 := Lib.hid (IX1.out.keep hb)
      replace IY1 := Lib.hid (IY1.out.keep hb)
      replace L1 := Lib.hid (L1.out.keep hb)
      replace HB := Lib.hid (keepB HB.out hb)
      have IX2 := Lib.hid hX
      have IY2 := Lib.hid hY
      clear cBS0 cBS1 hb hX hY
      go_upto_region 7 with fail
      refine at_worldQ (fun v => Below w5.heap.size w5 v ∧ BK v (w5.heap.size) [.slice X2 V.length cx2, .slice Y2 V.length cy2, .int .i64 db]) ⟨below_al (Below.refl _ _) _, BK.new w5 [.slice X2 V.length cx2, .slice Y2 V.length cy2, .int .i64 db] 27⟩ (fun U5 hS => ?_)
      obtain ⟨hb, hL2⟩ := hS
      replace HA := Lib.hid (HA.out.keep hb)
      replace B0 := Lib.hid (B0.out.keep hb)
      replace BS := Lib.hid (BS.out.keep hb)
      replace IX1 := Lib.hid (IX1.out.keep hb)
      replace IY1 := Lib.hid (IY1.out.keep hb)
      replace L1 := Lib.hid (L1.out.keep hb)
      replace IX2 := Lib.hid (IX2.out.keep hb)
      replace IY2 := Lib.hid (IY2.out.keep hb)
      replace HB := Lib.hid (keepB HB.out hb)
      have L2 := Lib.hid hL2
      clear hb hL2
      have cB00 := B0.out.c 0 rfl
      have cB01 := B0.out.c 1 rfl
      go_wp2_with fail
      refine (CC1.out _ HA.out).mono ?_
      rintro e w6 ⟨X3, cx3, Y3, cy3, rfl, hX, hY, hb⟩
      replace HA := Lib.hid (HA.out.keep hb)
      replace B0 := Lib.hid (B0.out.keep hb)
      replace BS := Lib.hid (BS.out.keep hb)
      replace IX1 := Lib.hid (IX1.out.keep hb)
      replace IY1 := Lib.hid (IY1.out.keep hb)
      replace L1 := Lib.hid (L1.out.keep hb)
      replace IX2 := Lib.hid (IX2.out.keep hb)
      replace IY2 := Lib.hid (IY2.out.keep hb)
      replace L2 := Lib.hid (L2.out.keep hb)
      replace HB := Lib.hid (keepB HB.out hb)
      have IX3 := Lib.hid hX
      have IY3 := Lib.hid hY
      clear cB00 cB01 hb hX hY
      go_upto_region 8 with fail
      refine at_worldQ (fun v => Below w6.heap.size w6 v ∧ BK v (w6.heap.size) [.slice X3 V.length cx3, .slice Y3 V.length cy3, .int .i64 dc]) ⟨below_al (Below.refl _ _) _, BK.new w6 [.slice X3 V.length cx3, .slice Y3 V.length cy3, .int .i64 dc] 27⟩ (fun U6 hS => ?_)
      obtain ⟨hb, hL3⟩ := hS
      replace HA := Lib.hid (HA.out.keep hb)
      replace B0 := Lib.hid (B0.out.keep hb)
      replace BS := Lib.hid (BS.out.keep hb)
      replace IX1 := Lib.hid (IX1.out.keep hb)
      replace IY1 := Lib.hid (IY1.out.keep hb)
      replace L1 := Lib.hid (L1.out.keep hb)
      replace IX2 := Lib.hid (IX2.out.keep hb)
      replace IY2 := Lib.hid (IY2.out.keep hb)
      replace L2 := Lib.hid (L2.out.keep hb)
      replace IX3 := Lib.hid (IX3.out.keep hb)
      replace IY3 := Lib.hid (IY3.out.keep hb)
      replace HB := Lib.hid (keepB HB.out hb)
      have L3 := Lib.hid hL3
      clear hb hL3
      have cBS0 := BS.out.c 0 rfl
      have cBS1 := BS.out.c 1 rfl
      go_wp2_with fail
      refine (CC2.out _ HA.out).mono ?_
      rintro e w7 ⟨X4, cx4, Y4, cy4, rfl, hX, hY, hb⟩
      replace HA := Lib.hid (HA.out.keep hb)
      replace B0 := Lib.hid (B0.out.keep hb)
      replace BS := Lib.hid (BS.out.keep hb)
      replace IX1 := Lib.hid (IX1.out.keep hb)
      replace IY1 := Lib.hid (IY1.out.keep hb)
      replace L1 := Lib.hid (L1.out.keep hb)
      replace IX2 := Lib.hid (IX2.out.keep hb)
      replace IY2 := Lib.hid (IY2.out.keep hb)
      replace L2 := Lib.hid (L2.out.keep hb)
      replace IX3 := Lib.hid (IX3.out.keep hb)
      replace IY3 := Lib.hid (IY3.out.keep hb)
      replace L3 := Lib.hid (L3.out.keep hb)
      replace HB := Lib.hid (keepB HB.out hb)
      have IX4 := Lib.hid hX
      have IY4 := Lib.hid hY
      clear cBS0 cBS1 hb hX hY
      go_upto_region 9 with fail
      refine at_worldQ (fun v => Below w7.heap.size w7 v ∧ BK v (w7.heap.size) [.slice X4 V.length cx4, .slice Y4 V.length cy4, .int .i64 dd]) ⟨below_al (Below.refl _ _) _, BK.new w7 [.slice X4 V.length cx4, .slice Y4 V.length cy4, .int .i64 dd] 27⟩ (fun U7 hS => ?_)
      obtain ⟨hb, hL4⟩ := hS
      replace HA := Lib.hid (HA.out.keep hb)
      replace B0 := Lib.hid (B0.out.keep hb)
      replace BS := Lib.hid (BS.out.keep hb)
      replace IX1 := Lib.hid (IX1.out.keep hb)
      replace IY1 := Lib.hid (IY1.out.keep hb)
      replace L1 := Lib.hid (L1.out.keep hb)
      replace IX2 := Lib.hid (IX2.out.keep hb)
      replace IY2 := Lib.hid (IY2.out.keep hb)
      replace L2 := Lib.hid (L2.out.keep hb)
      replace IX3 := Lib.hid (IX3.out.keep hb)
      replace IY3 := Lib.hid (IY3.out.keep hb)
      replace L3 := Lib.hid (L3.out.keep hb)
      replace IX4 := Lib.hid (IX4.out.keep hb)
      replace IY4 := Lib.hid (IY4.out.keep hb)
      replace HB := Lib.hid (keepB HB.out hb)
      have L4 := Lib.hid hL4
      clear hb hL4
      have cB00 := B0.out.c 0 rfl
      have cB01 := B0.out.c 1 rfl
      have cL10 := L1.out.c 0 rfl
      have cL11 := L1.out.c 1 rfl
      have cL12 := L1.out.c 2 rfl
      go_wp2_with fail
      refine (CV1.out _ _ _ _ _ HA.out IX1.out IY1.out).mono ?_
      rintro e v1 ⟨rfl, hb⟩
      replace HA := Lib.hid (HA.out.keep hb)
      replace B0 := Lib.hid (B0.out.keep hb)
      replace BS := Lib.hid (BS.out.keep hb)
      replace IX1 := Lib.hid (IX1.out.keep hb)
      replace IY1 := Lib.hid (IY1.out.keep hb)
      replace L1 := Lib.hid (L1.out.keep hb)
      replace IX2 := Lib.hid (IX2.out.keep hb)
      replace IY2 := Lib.hid (IY2.out.keep hb)
      replace L2 := Lib.hid (L2.out.keep hb)
      replace IX3 := Lib.hid (IX3.out.keep hb)
      replace IY3 := Lib.hid (IY3.out.keep hb)
      replace L3 := Lib.hid (L3.out.keep hb)
      replace IX4 := Lib.hid (IX4.out.keep hb)
      replace IY4 := Lib.hid (IY4.out.keep hb)
      replace L4 := Lib.hid (L4.out.keep hb)
      replace HB := Lib.hid (keepB HB.out hb)
      clear cB00 cB01 cL10 cL11 cL12 hb
      have cBS0 := BS.out.c 0 rfl
      have cBS1 := BS.out.c 1 rfl
      have cL20 := L2.out.c 0 rfl
      have cL21 := L2.out.c 1 rfl
      have cL22 := L2.out.c 2 rfl
      go_wp2_with fail
      refine (CV2.out _ _ _ _ _ HA.out IX2.out IY2.out).mono ?_
      rintro e v2 ⟨rfl, hb⟩
      replace HA := Lib.hid (HA.out.keep hb)
      replace B0 := Lib.hid (B0.out.keep hb)
      replace BS := Lib.hid (BS.out.keep hb)
      replace IX1 := Lib.hid (IX1.out.keep hb)
      replace IY1 := Lib.hid (IY1.out.keep hb)
      replace L1 := Lib.hid (L1.out.keep hb)
      replace IX2 := Lib.hid (IX2.out.keep hb)
      replace IY2 := Lib.hid (IY2.out.keep hb)
      replace L2 := Lib.hid (L2.out.keep hb)
      replace IX3 := Lib.hid (IX3.out.keep hb)
      replace IY3 := Lib.hid (IY3.out.keep hb)
      replace L3 := Lib.hid (L3.out.keep hb)
      replace IX4 := Lib.hid (IX4.out.keep hb)
      replace IY4 := Lib.hid (IY4.out.keep hb)
      replace L4 := Lib.hid (L4.out.keep hb)
      replace HB := Lib.hid (keepB HB.out hb)
      clear cBS0 cBS1 cL20 cL21 cL22 hb
      have cB00 := B0.out.c 0 rfl
      have cB01 := B0.out.c 1 rfl
      have cL30 := L3.out.c 0 rfl
      have cL31 := L3.out.c 1 rfl
      have cL32 := L3.out.c 2 rfl
      go_wp2_with fail
      refine (CV3.out _ _ _ _ _ HA.out IX3.out IY3.out).mono ?_
      rintro e v3 ⟨rfl, hb⟩
      replace HA := Lib.hid (HA.out.keep hb)
      replace B0 := Lib.hid (B0.out.keep hb)
      replace BS := Lib.hid (BS.out.keep hb)
      replace IX1 := Lib.hid (IX1.out.keep hb)
      replace IY1 := Lib.hid (IY1.out.keep hb)
      replace L1 := Lib.hid (L1.out.keep hb)
      replace IX2 := Lib.hid (IX2.out.keep hb)
      replace IY2 := Lib.hid (IY2.out.keep hb)
      replace L2 := Lib.hid (L2.out.keep hb)
      replace IX3 := Lib.hid (IX3.out.keep hb)
      replace IY3 := Lib.hid (IY3.out.keep hb)
      replace L3 := Lib.hid (L3.out.keep hb)
      replace IX4 := Lib.hid (IX4.out.keep hb)
      replace IY4 := Lib.hid (IY4.out.keep hb)
      replace L4 := Lib.hid (L4.out.keep hb)
      replace HB := Lib.hid (keepB HB.out hb)
      clear cB00 cB01 cL30 cL31 cL32 hb
      have cBS0 := BS.out.c 0 rfl
      have cBS1 := BS.out.c 1 rfl
      have cL40 := L4.out.c 0 rfl
      have cL41 := L4.out.c 1 rfl
      have cL42 := L4.out.c 2 rfl
      go_wp2_with fail
      refine (CV4.out _ _ _ _ _ HA.out IX4.out IY4.out).mono ?_
      rintro e v4 ⟨rfl, hb⟩
      replace HA := Lib.hid (HA.out.keep hb)
      replace B0 := Lib.hid (B0.out.keep hb)
      replace BS := Lib.hid (BS.out.keep hb)
      replace IX1 := Lib.hid (IX1.out.keep hb)
      replace IY1 := Lib.hid (IY1.out.keep hb)
      replace L1 := Lib.hid (L1.out.keep hb)
      replace IX2 := Lib.hid (IX2.out.keep hb)
      replace IY2 := Lib.hid (IY2.out.keep hb)
      replace L2 := Lib.hid (L2.out.keep hb)
      replace IX3 := Lib.hid (IX3.out.keep hb)
      replace IY3 := Lib.hid (IY3.out.keep hb)
      replace L3 := Lib.hid (L3.out.keep hb)
      replace IX4 := Lib.hid (IX4.out.keep hb)
      replace IY4 := Lib.hid (IY4.out.keep hb)
      replace L4 := Lib.hid (L4.out.keep hb)
      replace HB := Lib.hid (keepB HB.out hb)
      clear cBS0 cBS1 cL40 cL41 cL42 hb
      have cB00 := B0.out.c 0 rfl
      have cB01 := B0.out.c 1 rfl
      go_wp2_with fail
      clear cB00 cB01
      clear CV1 CV2 CV3 CV4 CF1 CF2 CC1 CC2 IX1 IX2 IX3 IX4
      go_loopw [16] (fun i W => ∃ k : Nat, k ≤ V.length ∧ i = .int .i64 k ∧ Hid (Below v4.heap.size v4 W)) (fun i _ => V.length - (intOf i).toNat)
      case atStart => exact ⟨0, Nat.zero_le _, rfl, Lib.hid (Below.refl _ _)⟩
      case round =>
        obtain ⟨k, hk, rfl, HW⟩ := hrel
        by_cases hlt : k < V.length
        · have g0 := (L1.out.keep HW.out).c 1 rfl
          have g1 := (L1.out.keep HW.out).c 2 rfl
          have g2 := (L2.out.keep HW.out).c 1 rfl
          have g3 := (L2.out.keep HW.out).c 2 rfl
          have g4 := (L3.out.keep HW.out).c 1 rfl
          have g5 := (L3.out.keep HW.out).c 2 rfl
          have g6 := (L4.out.keep HW.out).c 1 rfl
          have g7 := (L4.out.keep HW.out).c 2 rfl
          have g8 := (B0.out.keep HW.out).c 1 rfl
          obtain ⟨q1, o1, rfl, hy1⟩ := list_at (IY1.out.keep HW.out) (j := k) (by rw [N1.out]; exact hlt)
          obtain ⟨q2, o2, rfl, hy2⟩ := list_at (IY2.out.keep HW.out) (j := k) (by rw [N2.out]; exact hlt)
          obtain ⟨q3, o3, rfl, hy3⟩ := list_at (IY3.out.keep HW.out) (j := k) (by rw [N3.out]; exact hlt)
          obtain ⟨q4, o4, rfl, hy4⟩ := list_at (IY4.out.keep HW.out) (j := k) (by rw [N4.out]; exact hlt)
          have x1 := hy1 k (by rw [N1.out]; exact hlt)
          have x2 := hy2 k (by rw [N2.out]; exact hlt)
          have x3 := hy3 k (by rw [N3.out]; exact hlt)
          have x4 := hy4 k (by rw [N4.out]; exact hlt)
          obtain ⟨e1, f1⟩ := E1.out k hlt
          obtain ⟨e2, f2⟩ := E2.out k hlt
          obtain ⟨e3, f3⟩ := E3.out k hlt
          obtain ⟨e4, f4⟩ := E4.out k hlt
          have m1 := HRA.out k hlt
          have m2 := HRC.out k hlt
          clear hy1 hy2 hy3 hy4
          generalize As.el pa k = p at *
          generalize As.el pb k = q at *
          generalize As.el pc k = r at *
          generalize As.el pd k = s at *
          obtain ⟨b1', b2'⟩ := mul_bd (x := q) (d := da) (a := 60000000) (b := 6) (by omega) (by omega) (by omega) (by omega) (by omega)
          obtain ⟨b3', b4'⟩ := mul_bd (x := p) (d := db) (a := 60000000) (b := 6) (by omega) (by omega) (by omega) (by omega) (by omega)
          obtain ⟨b5', b6'⟩ := mul_bd (x := s) (d := dc) (a := 60000000) (b := 6) (by omega) (by omega) (by omega) (by omega) (by omega)
          obtain ⟨b7', b8'⟩ := mul_bd (x := r) (d := dd) (a := 60000000) (b := 6) (by omega) (by omega) (by omega) (by omega) (by omega)
          obtain ⟨t1, ht1⟩ : ∃ z, q * da = z := ⟨_, rfl⟩
          obtain ⟨t2, ht2⟩ : ∃ z, p * db = z := ⟨_, rfl⟩
          obtain ⟨t3, ht3⟩ : ∃ z, s * dc = z := ⟨_, rfl⟩
          obtain ⟨t4, ht4⟩ : ∃ z, r * dd = z := ⟨_, rfl⟩
          rw [ht1, ht2] at m1
          rw [ht3, ht4] at m2
          rw [ht1] at b1' b2'
          rw [ht2] at b3' b4'
          rw [ht3] at b5' b6'
          rw [ht4] at b7' b8'
          obtain ⟨c1', c2'⟩ := mul_bd (x := S - R) (d := da) (a := 10000000) (b := 6) (by omega) (by omega) (by omega) (by omega) (by omega)
          obtain ⟨c3', c4'⟩ := mul_bd (x := S - R) (d := dc) (a := 10000000) (b := 6) (by omega) (by omega) (by omega) (by omega) (by omega)
          obtain ⟨u1, hu1⟩ : ∃ z, (S - R) * da = z := ⟨_, rfl⟩
          obtain ⟨u2, hu2⟩ : ∃ z, (S - R) * dc = z := ⟨_, rfl⟩
          rw [hu1] at m1 c1' c2'
          rw [hu2] at m2 c3' c4'
          obtain ⟨c5', c6'⟩ := mul_bd (x := u1) (d := db) (a := 60000000) (b := 6) (by omega) (by omega) (by omega) (by omega) (by omega)
          obtain ⟨c7', c8'⟩ := mul_bd (x := u2) (d := dd) (a := 60000000) (b := 6) (by omega) (by omega) (by omega) (by omega) (by omega)
          obtain ⟨o1', ho1⟩ : ∃ z, u1 * db = z := ⟨_, rfl⟩
          obtain ⟨o2', ho2⟩ : ∃ z, u2 * dd = z := ⟨_, rfl⟩
          rw [ho1] at m1 c5' c6'
          rw [ho2] at m2 c7' c8'
          have a1' : IntKind.i64.wrap (q * da) = t1 := by rw [ht1]; exact IntWalk.i64_in _ (by omega)
          have a2' : IntKind.i64.wrap (p * db) = t2 := by rw [ht2]; exact IntWalk.i64_in _ (by omega)
          have a3' : IntKind.i64.wrap (t1 - t2) = t1 - t2 := IntWalk.i64_in _ (by omega)
          have a4' : IntKind.i64.wrap ((t1 - t2) * (V.length : Int)) = o1' := by rw [m1]; exact IntWalk.i64_in _ (by omega)
          have a5' : IntKind.i64.wrap (S - R) = S - R := IntWalk.i64_in _ (by omega)
          have a6' : IntKind.i64.wrap ((S - R) * da) = u1 := by rw [hu1]; exact IntWalk.i64_in _ (by omega)
          have a7' : IntKind.i64.wrap (u1 * db) = o1' := by rw [ho1]; exact IntWalk.i64_in _ (by omega)
          have a8' : IntKind.i64.wrap (s * dc) = t3 := by rw [ht3]; exact IntWalk.i64_in _ (by omega)
          have a9' : IntKind.i64.wrap (r * dd) = t4 := by rw [ht4]; exact IntWalk.i64_in _ (by omega)
          have aa' : IntKind.i64.wrap (t3 - t4) = t3 - t4 := IntWalk.i64_in _ (by omega)
          have ab' : IntKind.i64.wrap ((t3 - t4) * (V.length : Int)) = o2' := by rw [m2]; exact IntWalk.i64_in _ (by omega)
          have ac' : IntKind.i64.wrap ((S - R) * dc) = u2 := by rw [hu2]; exact IntWalk.i64_in _ (by omega)
          have ad' : IntKind.i64.wrap (u2 * dd) = o2' := by rw [ho2]; exact IntWalk.i64_in _ (by omega)
          have n1' : (o1' != o1') = false := bne_self_eq_false _
          have n2' : (o2' != o2') = false := bne_self_eq_false _
          have i1 : (k : Int) < (V.length : Int) := by omega
          clear m1 m2 ht1 ht2 ht3 ht4 hu1 hu2 ho1 ho2 b1' b2' b3' b4' b5' b6' b7' b8' c1' c2' c3' c4' c5' c6' c7' c8' e1 f1 e2 f2 e3 f3 e4 f4
          go_upto_region 15 with fail
          refine wp_region_noPanic ?_
          refine wp_region_held_drew (S := (Below wr.heap.size wr)) (by kernel_rfl) ((Below.refl _ _).drew) (fun hHeld => ?_)
          refine at_anyH (Below wr.heap.size wr) hHeld (fun wr0 hNew => ?_)
          clear hHeld
          have hHeld := hNew
          clear hNew
          have KCr := fun (w : World) (hSw : (Below wr.heap.size wr) w) => And.intro (keepC hSw x1) (And.intro (keepC hSw x2) (And.intro (keepC hSw x3) (And.intro (keepC hSw x4) (And.intro (keepC hSw g0) (And.intro (keepC hSw g1) (And.intro (keepC hSw g2) (And.intro (keepC hSw g3) (And.intro (keepC hSw g4) (And.intro (keepC hSw g5) (And.intro (keepC hSw g6) (And.intro (keepC hSw g7) (keepC hSw g8))))))))))))
          refine tkd 0 ?_
          try simp only [PPz]
          refine tkm 1 rfl hHeld (fun w hSw => by have kc := KCr w hSw; go_simp <;> with_reducible rfl) ?_
          try simp only [PPz]
          refine tkd 2 ?_
          try simp only [PPz]
          refine tkd 3 ?_
          try simp only [PPz]
          refine tkm 4 rfl hHeld (fun w hSw => by have kc := KCr w hSw; go_simp <;> with_reducible rfl) ?_
          try simp only [PPz]
          refine tkd 5 ?_
          try simp only [PPz]
          refine tkm 6 rfl hHeld (fun w hSw => by have kc := KCr w hSw; go_simp <;> with_reducible rfl) ?_
          try simp only [PPz]
          refine tkd 7 ?_
          try simp only [PPz]
          refine tkd 8 ?_
          try simp only [PPz]
          refine tkm 9 rfl hHeld (fun w hSw => by have kc := KCr w hSw; go_simp <;> with_reducible rfl) ?_
          try simp only [PPz]
          refine tkd 10 ?_
          try simp only [PPz]
          refine tkd 11 ?_
          try simp only [PPz]
          refine tkm 12 rfl hHeld (fun w hSw => by have kc := KCr w hSw; go_simp <;> with_reducible rfl) ?_
          try simp only [PPz]
          refine tkd 13 ?_
          try simp only [PPz]
          refine tkm 14 rfl hHeld (fun w hSw => by have kc := KCr w hSw; go_simp <;> with_reducible rfl) ?_
          try simp only [PPz]
          refine tkd 15 ?_
          try simp only [PPz]
          refine tkd 16 ?_
          try simp only [PPz]
          refine tkd 17 ?_
          try simp only [PPz]
          refine tkd 18 ?_
          try simp only [PPz]
          refine tkd 19 ?_
          try simp only [PPz]
          refine tkd 20 ?_
          try simp only [PPz]
          refine tkm 21 rfl hHeld (fun w hSw => by have kc := KCr w hSw; go_simp <;> with_reducible rfl) ?_
          try simp only [PPz]
          refine tkd 22 ?_
          try simp only [PPz]
          refine tkd 23 ?_
          try simp only [PPz]
          refine tkm 24 rfl hHeld (fun w hSw => by have kc := KCr w hSw; go_simp <;> with_reducible rfl) ?_
          try simp only [PPz]
          refine tkd 25 ?_
          try simp only [PPz]
          refine tkd 26 ?_
          try simp only [PPz]
          refine tkm 27 rfl hHeld (fun w hSw => by have kc := KCr w hSw; go_simp <;> with_reducible rfl) ?_
          try simp only [PPz]
          refine tkd 28 ?_
          try simp only [PPz]
          refine tkd 29 ?_
          try simp only [PPz]
          refine tkd 30 ?_
          try simp only [PPz]
          refine tkd 31 ?_
          try simp only [PPz]
          refine tkm 32 rfl hHeld (fun w hSw => by have kc := KCr w hSw; go_simp <;> with_reducible rfl) ?_
          try simp only [PPz]
          refine tkd 33 ?_
          try simp only [PPz]
          refine tkd 34 ?_
          try simp only [PPz]
          refine tkm 35 rfl hHeld (fun w hSw => by have kc := KCr w hSw; go_simp <;> with_reducible rfl) ?_
          try simp only [PPz]
          refine tkd 36 ?_
          try simp only [PPz]
          refine tkm 37 rfl hHeld (fun w hSw => by have kc := KCr w hSw; go_simp <;> with_reducible rfl) ?_
          try simp only [PPz]
          refine tkd 38 ?_
          try simp only [PPz]
          refine tkd 39 ?_
          try simp only [PPz]
          refine tkm 40 rfl hHeld (fun w hSw => by have kc := KCr w hSw; go_simp <;> with_reducible rfl) ?_
          try simp only [PPz]
          refine tkd 41 ?_
          try simp only [PPz]
          refine tkd 42 ?_
          try simp only [PPz]
          refine tkm 43 rfl hHeld (fun w hSw => by have kc := KCr w hSw; go_simp <;> with_reducible rfl) ?_
          try simp only [PPz]
          refine tkd 44 ?_
          try simp only [PPz]
          refine tkm 45 rfl hHeld (fun w hSw => by have kc := KCr w hSw; go_simp <;> with_reducible rfl) ?_
          try simp only [PPz]
          refine tkd 46 ?_
          try simp only [PPz]
          refine tkd 47 ?_
          try simp only [PPz]
          refine tkd 48 ?_
          try simp only [PPz]
          refine tkd 49 ?_
          try simp only [PPz]
          refine tkd 50 ?_
          try simp only [PPz]
          refine tkd 51 ?_
          try simp only [PPz]
          refine tkm 52 rfl hHeld (fun w hSw => by have kc := KCr w hSw; go_simp <;> with_reducible rfl) ?_
          try simp only [PPz]
          refine tkd 53 ?_
          try simp only [PPz]
          refine tkd 54 ?_
          try simp only [PPz]
          refine tkm 55 rfl hHeld (fun w hSw => by have kc := KCr w hSw; go_simp <;> with_reducible rfl) ?_
          try simp only [PPz]
          refine tkd 56 ?_
          try simp only [PPz]
          refine tkd 57 ?_
          try simp only [PPz]
          refine tkm 58 rfl hHeld (fun w hSw => by have kc := KCr w hSw; go_simp <;> with_reducible rfl) ?_
          try simp only [PPz]
          refine tkd 59 ?_
          try simp only [PPz]
          refine tkd 60 ?_
          try simp only [PPz]
          refine tkd 61 ?_
          try simp only [PPz]
          refine wpAnyH_done (by kernel_rfl) ?_ _
          refine NoPanic.normal ?_
          have HN := Lib.hid (keepB HW.out hHeld)
          clear hHeld
          clear a1' a2' a3' a4' a5' a6' a7' a8' a9' aa' ab' ac' ad' x1 x2 x3 x4 g0 g1 g2 g3 g4 g5 g6 g7 g8
          go_wp2_with fail
          go_roundw
          case rel => exact ⟨k + 1, by omega, by go_num, HN⟩
          case measure => simp [intOf]; omega
        · obtain rfl : k = V.length := by omega
          go_wp2_with fail
          go_ret
          exact ⟨rfl, keepB HB.out HW.out⟩
end Go.Proofs.Ytncmffhoodfhjaa

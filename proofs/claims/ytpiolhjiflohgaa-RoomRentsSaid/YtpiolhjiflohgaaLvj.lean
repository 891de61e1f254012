/- RoomLeases' walk. -/
import Derived.Test.YtpiolhjiflohgaaYm
namespace Go.Proofs.Ytpiolhjiflohgaa
open Go.RowKit
namespace As
theorem gnS_le (V : List (List Int)) (R : Int) (xs ps : List Int) (D : Int) : (gnS V R xs ps D).length ≤ maxLen := by
  unfold gnS
  by_cases h : vld V R xs ps D = 0
  · rw [if_pos h, gnl_len]
    have := (vld_zero h).1.n6
    unfold maxLen; omega
  · rw [if_neg h]; exact Nat.zero_le _
theorem enS_le (V : List (List Int)) (R : Int) (xs ps : List Int) (D : Int) : (enS V R xs ps D).length ≤ maxLen := by
  unfold enS
  by_cases h : vld V R xs ps D = 0
  · rw [if_pos h]
    have h6 := (vld_zero h).1.n6
    have := envl_le h6 (xs.map Int.toNat) ps D V.length
    unfold maxLen; omega
  · rw [if_neg h]; exact Nat.zero_le _
end As
set_option maxRecDepth 100000 in
set_option maxHeartbeats 8000000 in
theorem rleases_walk (A : Option Addr) (cv : Nat) (V : List (List Int)) (R : Int) (B : Option Addr) (ca : Nat) (xs : List Int) (C : Option Addr) (cp : Nat) (ps : List Int) (D : Int) (w : World) (hl : V.length ≤ maxLen) (h : IsM w A V) (_hR : I64 R) (hx : xs.length ≤ maxLen) (hB : IsI w B xs) (hpm : ps.length ≤ maxLen) (hC : IsI w C ps) (_hD : I64 D) :
    Calls Try.prog 4 #[.agg #[.slice A V.length cv, .int .i64 R], .agg #[.slice B xs.length ca, .slice C ps.length cp, .int .i64 D]] w fun e w' => e = .returned (.bool true) ∧ Below w.heap.size w w' := by
  have CG := Lib.hid (fun v (hv : Below w.heap.size w v) => r14Great_any A cv V R B ca xs.length C cp ps.length D v hl (h.keep hv) hx hpm)
  have C1 := Lib.hid (fun v (hv : Below w.heap.size w v) => rmGains_any A cv V R B ca xs C cp ps D v hl (h.keep hv) hx (hB.keep hv) hpm (hC.keep hv))
  have C2 := Lib.hid (fun v (hv : Below w.heap.size w v) => rGains_any A cv V R B ca xs C cp ps D v (h.keep hv) (hB.keep hv) (hC.keep hv) (fun v' hv' => r14Valid_any A cv V R B ca xs C cp ps D v' hl ((h.keep hv).keep hv') hx ((hB.keep hv).keep hv') ((hC.keep hv).keep hv')))
  have C3 := Lib.hid (fun v (hv : Below w.heap.size w v) => rmEnvies_any A cv V R B ca xs C cp ps D v hl (h.keep hv) hx (hB.keep hv) hpm (hC.keep hv))
  have C4 := Lib.hid (fun v (hv : Below w.heap.size w v) => r14Envies_any A cv V R B ca xs C cp ps D v hl (h.keep hv) hx (hB.keep hv) (hC.keep hv))
  have C5 := Lib.hid (fun v (hv : Below w.heap.size w v) => rmValid_any A cv V R B ca xs C cp ps D v hl (h.keep hv) hx (hB.keep hv) hpm (hC.keep hv))
  have C6 := Lib.hid (fun v (hv : Below w.heap.size w v) => r14Valid_any A cv V R B ca xs C cp ps D v hl (h.keep hv) hx (hB.keep hv) (hC.keep hv))
  have S1 := Lib.hid (fun v P c Q d (hP : IsI v P (As.gnS V R xs ps D)) (hQ : IsI v Q (As.gnS V R xs ps D)) => same_eq P c Q d (As.gnS V R xs ps D) v (As.gnS_le V R xs ps D) hP hQ)
  have S2 := Lib.hid (fun v P c Q d (hP : IsP v P (As.enS V R xs ps D)) (hQ : IsP v Q (As.enS V R xs ps D)) => samePairs_eq P c Q d (As.enS V R xs ps D) v (As.enS_le V R xs ps D) hP hQ)
  clear h hB hC
  unfold maxLen at hl hx hpm
  go_enter Try.func4, Try.ntmps4
  go_upto_region 1 with fail
  refine at_box2 (fun V0 hbb b0 b1 hsz => ?_)
  clear hsz
  have HX := Lib.hid (Bx.of b0 b1)
  have HB0 := Lib.hid hbb
  have c0 := b0.c 0 rfl
  have c1 := b0.c 1 rfl
  have k0 := b1.c 0 rfl
  have k1 := b1.c 1 rfl
  have k2 := b1.c 2 rfl
  clear b0 b1 hbb
  have hb := Below.refl V0.heap.size V0
  go_wp2_with fail
  refine (CG.out _ HB0.out).mono ?_
  rintro e w1 ⟨z, rfl, hz, hb1⟩
  replace hb := keepB hb hb1
  replace c0 := keepC hb1 c0
  replace c1 := keepC hb1 c1
  replace k0 := keepC hb1 k0
  replace k1 := keepC hb1 k1
  replace k2 := keepC hb1 k2
  clear hb1 hz CG
  cases z with
  | true =>
    go_wp2_with fail
    go_ret
    exact ⟨rfl, keepB HB0.out hb⟩
  | false =>
    go_wp2_with fail
    refine (C1.out _ (keepB HB0.out hb)).mono ?_
    rintro e w2 ⟨X1, d1, rfl, hI1, hb1⟩
    replace hb := keepB hb hb1
    replace c0 := keepC hb1 c0
    replace c1 := keepC hb1 c1
    replace k0 := keepC hb1 k0
    replace k1 := keepC hb1 k1
    replace k2 := keepC hb1 k2
    have I1 := Lib.hid hI1
    clear hb1 hI1
    go_wp2_with fail
    refine (C2.out _ (keepB HB0.out hb)).mono ?_
    rintro e w3 ⟨X2, d2, rfl, hI2, hb1⟩
    replace hb := keepB hb hb1
    replace c0 := keepC hb1 c0
    replace c1 := keepC hb1 c1
    replace k0 := keepC hb1 k0
    replace k1 := keepC hb1 k1
    replace k2 := keepC hb1 k2
    replace I1 := Lib.hid (I1.out.keep hb1)
    have I2 := Lib.hid hI2
    clear hb1 hI2
    go_wp2_with fail
    refine (C3.out _ (keepB HB0.out hb)).mono ?_
    rintro e w4 ⟨X3, d3, rfl, hI3, hb1⟩
    replace hb := keepB hb hb1
    replace c0 := keepC hb1 c0
    replace c1 := keepC hb1 c1
    replace k0 := keepC hb1 k0
    replace k1 := keepC hb1 k1
    replace k2 := keepC hb1 k2
    replace I1 := Lib.hid (I1.out.keep hb1)
    replace I2 := Lib.hid (I2.out.keep hb1)
    have I3 := Lib.hid hI3
    clear hb1 hI3
    go_wp2_with fail
    refine (C4.out _ (keepB HB0.out hb)).mono ?_
    rintro e w5 ⟨X4, d4, rfl, hI4, hb1⟩
    replace hb := keepB hb hb1
    replace I1 := Lib.hid (I1.out.keep hb1)
    replace I2 := Lib.hid (I2.out.keep hb1)
    replace I3 := Lib.hid (I3.out.keep hb1)
    have I4 := Lib.hid hI4
    have HX5 := Lib.hid (HX.out.keep hb)
    have HB5 := Lib.hid (keepB HB0.out hb)
    have T1 := Lib.hid (fun v (hv : Below w5.heap.size w5 v) => S1.out v X1 d1 X2 d2 (I1.out.keep hv) (I2.out.keep hv))
    have T2 := Lib.hid (fun v (hv : Below w5.heap.size w5 v) => S2.out v X3 d3 X4 d4 (I3.out.keep hv) (I4.out.keep hv))
    have T3 := Lib.hid (fun v (hv : Below w5.heap.size w5 v) => C5.out v (keepB HB5.out hv))
    have T4 := Lib.hid (fun v (hv : Below w5.heap.size w5 v) => C6.out v (keepB HB5.out hv))
    have hv := Below.refl w5.heap.size w5
    clear hb1 hI4 hb c0 c1 k0 k1 k2 HX HB0 I1 I2 I3 I4 S1 S2 C1 C2 C3 C4 C5 C6
    generalize As.vld V R xs ps D = c at *
    generalize (As.gnS V R xs ps D).length = n1 at *
    generalize (As.enS V R xs ps D).length = n2 at *
    have e1 : (c == c) = true := by simp
    have HK := Lib.hid (fun v (hv : Below w5.heap.size w5 v) => (show v.cell? ⟨w.heap.size, 0, none⟩ = some (.slice A V.length cv) ∧ v.cell? ⟨w.heap.size, 1, none⟩ = some (.int .i64 R) ∧ v.cell? ⟨w.heap.size + 1, 0, none⟩ = some (.slice B xs.length ca) ∧ v.cell? ⟨w.heap.size + 1, 1, none⟩ = some (.slice C ps.length cp) ∧ v.cell? ⟨w.heap.size + 1, 2, none⟩ = some (.int .i64 D) from ⟨keepC hv HX5.out.p0, keepC hv HX5.out.p1, keepC hv HX5.out.q0, keepC hv HX5.out.q1, keepC hv HX5.out.q2⟩))
    go_upto_region 7 with fail
    go_region_held3 (fun v => v.cell? ⟨w.heap.size, 0, none⟩ = some (.slice A V.length cv) ∧ v.cell? ⟨w.heap.size, 1, none⟩ = some (.int .i64 R) ∧ v.cell? ⟨w.heap.size + 1, 0, none⟩ = some (.slice B xs.length ca) ∧ v.cell? ⟨w.heap.size + 1, 1, none⟩ = some (.slice C ps.length cp) ∧ v.cell? ⟨w.heap.size + 1, 2, none⟩ = some (.int .i64 D))
      (first | (exact HK.out _ (by assumption)) | (exact HK.out _ (Below.drew (by assumption))))
      (first
        | (go_at_call 25; refine (T3.out _ (by first | assumption | exact Below.drew (by assumption))).mono ?_; rintro e w6 ⟨rfl, hb6⟩; have hw6 : Below w5.heap.size w5 w6 := (by first | exact keepB hv hb6 | exact keepB hv.drew hb6))
        | (go_at_call 26; refine (T4.out _ hw6).mono ?_; rintro e w7 ⟨rfl, hb7⟩; have hw7 := keepB hw6 hb7)
        | (go_at_call 27; refine (T1.out _ hw7).mono ?_; rintro e w8 ⟨rfl, hb8⟩; have hw8 := keepB hw7 hb8)
        | (go_at_call 28; refine (T2.out _ hw8).mono ?_; rintro e w9 ⟨rfl, hb9⟩; have hw9 := keepB hw8 hb9))
    all_goals
      go_wp2_with fail
      go_ret
      exact ⟨rfl, keepB HB5.out hw9⟩
end Go.Proofs.Ytpiolhjiflohgaa

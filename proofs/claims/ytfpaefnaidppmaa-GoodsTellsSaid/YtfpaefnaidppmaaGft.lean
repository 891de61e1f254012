/- The law GoodsTells. -/
import Derived.Test.YtfpaefnaidppmaaGec3
import Derived.Test.YtfpaefnaidppmaaGec5
import Derived.Test.YtfpaefnaidppmaaGdr
namespace Go.Proofs.Ytfpaefnaidppmaa
open Go.RowKit
namespace As
theorem evS_le (V : List (List Int)) (a : List Int) : (evS V a).length ≤ maxLen := by
  by_cases h : gvld V a = 0
  · have ok := gchk_ok (gvld_ok h).1
    have h1 : (genv V a V.length).length ≤ 42 := by rw [← gpre_end]; exact gpre_le ok.n6 a (Nat.le_refl _) (Nat.zero_le _)
    rw [evS_yes h]
    unfold maxLen; omega
  · rw [evS_no h]; exact Nat.zero_le _
theorem poS_le (V : List (List Int)) (a : List Int) : (poS V a).length ≤ maxLen := by
  by_cases h : gvld V a = 0
  · have ok := gchk_ok (gvld_ok h).1
    have h1 : (gpoor V a V.length (gm V)).length ≤ V.length := gpk_le V a V.length (gm V) V.length
    have h2 := ok.n6
    rw [poS_yes h, al_len]
    unfold maxLen; omega
  · rw [poS_no h]; exact Nat.zero_le _
theorem vlS_le (V : List (List Int)) (a : List Int) : (vlS V a).length ≤ maxLen := by
  by_cases h : gvld V a = 0
  · have ok := gchk_ok (gvld_ok h).1
    have h2 := ok.n6
    rw [vlS_yes h, mm_len]
    unfold maxLen; omega
  · rw [vlS_no h]; exact Nat.zero_le _
end As
set_option maxRecDepth 100000 in
set_option maxHeartbeats 16000000 in
theorem goodstells_walk (A : Option Addr) (cv : Nat) (V : List (List Int)) (B : Option Addr) (ca : Nat) (a : List Int) (w : World) (hl : V.length ≤ maxLen) (h : IsM w A V) (ha : a.length ≤ maxLen) (hB : IsI w B a) :
    Calls Try.prog 3 #[.agg #[.slice A V.length cv], .slice B a.length ca] w fun e w' => e = .returned (.bool true) ∧ Below w.heap.size w w' := by
  have CF := Lib.hid (fun v (hv : Below w.heap.size w v) => rgGreat_any A cv V B ca a.length v hl (h.keep hv) ha)
  unfold GrGQ at CF
  go_enter Try.func3, Try.ntmps3
  go_upto_region 1 with fail
  refine at_box1 (fun V0 hbb b0 hsz => ?_)
  clear hsz
  have c0 := b0.c 0 rfl
  go_wp2_with fail
  refine (CF.out _ hbb).mono ?_
  rintro e w1 ⟨z, rfl, hz, hb1⟩
  replace c0 := keepC hb1 c0
  replace hbb := keepB hbb hb1
  clear hb1 b0 CF
  cases z with
  | true =>
    go_wp2_with fail
    go_ret
    exact ⟨rfl, hbb⟩
  | false =>
    obtain ⟨v20, r50, a50⟩ := hz rfl
    have CT := Lib.hid (rTwinG_any A cv V w1 v20 r50 (h.keep hbb))
    unfold TwGQ at CT
    have C1 := Lib.hid (fun v X c Y d (hX : IsM v X V) (hY : IsI v Y a) => gValues_any X c V Y d a v hl hX ha hY)
    have C2 := Lib.hid (fun v X c Y d (hX : IsM v X V) (hY : IsI v Y a) => rgValues_any X c V Y d a v hl hX ha hY)
    have C3 := Lib.hid (fun v X c Y d (hX : IsM v X V) (hY : IsI v Y a) => gEnvies_any X c V Y d a v hl hX ha hY)
    have C4 := Lib.hid (fun v X c Y d (hX : IsM v X V) (hY : IsI v Y a) => rgEnvies_any X c V Y d a v hl hX ha hY)
    have C5 := Lib.hid (fun v X c Y d (hX : IsM v X V) (hY : IsI v Y a) => gPoor_any X c V Y d a v hl hX ha hY)
    have C6 := Lib.hid (fun v X c Y d (hX : IsM v X V) (hY : IsI v Y a) => rgPoor_any X c V Y d a v hl hX ha hY)
    unfold VlQ at C1 C2
    unfold EvGQ at C3 C4
    unfold PoQ at C5 C6
    have D1 := Lib.hid (fun v X c (hX : IsM v X V) => gCheck_any X c V v hl hX)
    have D2 := Lib.hid (fun v X c (hX : IsM v X V) => rgCheck_any X c V v hl hX)
    have D3 := Lib.hid (fun v X c Y d (hX : IsM v X V) (hY : IsI v Y a) => gValid_any X c V Y d a v hl hX ha hY)
    have D4 := Lib.hid (fun v X c Y d (hX : IsM v X V) (hY : IsI v Y a) => rgValid_any X c V Y d a v hl hX ha hY)
    have D5 := Lib.hid (fun v X c Y d (hX : IsM v X (As.vlS V a)) (hY : IsM v Y (As.vlS V a)) => sameLists_eq X c Y d (As.vlS V a) v (As.vlS_le V a) hX hY)
    have D6 := Lib.hid (fun v X c Y d (hX : IsP v X (As.evS V a)) (hY : IsP v Y (As.evS V a)) => samePairs_eq X c Y d (As.evS V a) v (As.evS_le V a) hX hY)
    have D7 := Lib.hid (fun v X c Y d (hX : IsI v X (As.poS V a)) (hY : IsI v Y (As.poS V a)) => same_eq X c Y d (As.poS V a) v (As.poS_le V a) hX hY)
    have D8 := Lib.hid (fun v X c Y d (hX : IsM v X V) (hY : IsM v Y V) => sameLists_eq X c Y d V v hl hX hY)
    have D9 := Lib.hid (fun v X c Y d (hX : IsI v X a) (hY : IsI v Y a) => same_eq X c Y d a v ha hX hY)
    generalize As.vlS V a = l1 at *
    generalize As.evS V a = l2 at *
    generalize As.poS V a = l3 at *
    generalize As.gvld V a = e1 at *
    generalize As.gchk V = e2 at *
    have HM := Lib.hid h
    have HI0 := Lib.hid hB
    obtain ⟨i0, hi0, hz0, hz1, hz2⟩ := info_parts intInfo
    have HI := Lib.hid hi0
    have HI2 := Lib.hid hz0
    have HI3 := Lib.hid hz1
    have HI4 := Lib.hid hz2
    clear hz r50 h hi0 hz0 hz1 hz2
    go_wp2_with fail
    refine CT.out.mono ?_
    rintro e w2 ⟨TA, tc, rfl, hT, hb2⟩
    have HT := Lib.hid hT
    replace c0 := keepC hb2 c0
    replace hbb := keepB hbb hb2
    clear hb2 hT CT
    have HBB := Lib.hid hbb
    have C0 := Lib.hid c0
    obtain ⟨na, hna⟩ : ∃ na, a.length = na := ⟨_, rfl⟩
    have HBD := Lib.hid hB.bd
    have HA0 := Lib.hid hB.1
    rw [hna] at HA0 a50 ⊢
    simp only [hna] at C1 C2 C3 C4 C5 C6 D3 D4 D9
    have HNA := Lib.hid hna
    have HNIL := Lib.hid (fun (e : na = 0) => List.length_eq_zero_iff.1 (hna.trans e))
    clear hbb hB hna ha
    by_cases hz0 : na = 0
    · subst hz0
      have hrun := append_none B
      have HAN := Lib.hid (HNIL.out rfl)
      go_upto_region 4 with (at_builtin; (refine wpList_plain rfl fun K hK => ?_; unfold Oper.wp; simp [execOp, resolve, invoke, builtin, hrun, Result.andThen, Act.eval]; refine hK _ _ ?_))
      refine at_worldQ (fun v => Below w2.heap.size w2 v ∧ IsI v (some ⟨w2.heap.size, 0, none⟩) a ∧ BK v (w2.heap.size + 1) [.slice TA V.length tc]) ⟨below_al (below_al (Below.refl _ _) _) _, by rw [HAN.out]; exact isI_nil _ _, by have b := BK.new (w2.alloc (.cells #[] 3)) [.slice TA V.length tc] 24; simpa only [World.size_alloc] using b⟩ (fun wq hS => ?_)
      clear hrun
      generalize w2.heap.size + 1 = p at *
      generalize (some ⟨w2.heap.size, 0, none⟩ : Option Addr) = X at *
      obtain ⟨hbq, hxi, hbp⟩ := hS
      have hbb := keepB HBB.out hbq
      have HTQ := Lib.hid (HT.out.keep hbq)
      have HXI := Lib.hid hxi
      have HMQ := Lib.hid (HM.out.keep hbb)
      have HBI := Lib.hid (HI0.out.keep hbb)
      have c0 := keepC hbq C0.out
      have d0 := hbp.c 0 rfl
      clear hbq hxi hbp
      go_wp2_with fail
      refine (C1.out _ TA tc X _ HTQ.out HXI.out).mono ?_
      rintro e x1 ⟨R1, s1, rfl, h1, hb⟩
      replace HTQ := Lib.hid (HTQ.out.keep hb)
      replace HXI := Lib.hid (HXI.out.keep hb)
      replace HMQ := Lib.hid (HMQ.out.keep hb)
      replace HBI := Lib.hid (HBI.out.keep hb)
      have G1 := Lib.hid h1
      replace c0 := keepC hb c0
      replace d0 := keepC hb d0
      replace hbb := keepB hbb hb
      clear hb h1
      go_wp2_with fail
      refine (C2.out _ A cv _ ca HMQ.out HBI.out).mono ?_
      rintro e x2 ⟨R2, s2, rfl, h2, hb⟩
      replace HTQ := Lib.hid (HTQ.out.keep hb)
      replace HXI := Lib.hid (HXI.out.keep hb)
      replace HMQ := Lib.hid (HMQ.out.keep hb)
      replace HBI := Lib.hid (HBI.out.keep hb)
      replace G1 := Lib.hid (G1.out.keep hb)
      have G2 := Lib.hid h2
      replace c0 := keepC hb c0
      replace d0 := keepC hb d0
      replace hbb := keepB hbb hb
      clear hb h2
      go_wp2_with fail
      refine (C3.out _ TA tc X _ HTQ.out HXI.out).mono ?_
      rintro e x3 ⟨R3, s3, rfl, h3, hb⟩
      replace HTQ := Lib.hid (HTQ.out.keep hb)
      replace HXI := Lib.hid (HXI.out.keep hb)
      replace HMQ := Lib.hid (HMQ.out.keep hb)
      replace HBI := Lib.hid (HBI.out.keep hb)
      replace G1 := Lib.hid (G1.out.keep hb)
      replace G2 := Lib.hid (G2.out.keep hb)
      have G3 := Lib.hid h3
      replace c0 := keepC hb c0
      replace d0 := keepC hb d0
      replace hbb := keepB hbb hb
      clear hb h3
      go_wp2_with fail
      refine (C4.out _ A cv _ ca HMQ.out HBI.out).mono ?_
      rintro e x4 ⟨R4, s4, rfl, h4, hb⟩
      replace HTQ := Lib.hid (HTQ.out.keep hb)
      replace HXI := Lib.hid (HXI.out.keep hb)
      replace HMQ := Lib.hid (HMQ.out.keep hb)
      replace HBI := Lib.hid (HBI.out.keep hb)
      replace G1 := Lib.hid (G1.out.keep hb)
      replace G2 := Lib.hid (G2.out.keep hb)
      replace G3 := Lib.hid (G3.out.keep hb)
      have G4 := Lib.hid h4
      replace c0 := keepC hb c0
      replace d0 := keepC hb d0
      replace hbb := keepB hbb hb
      clear hb h4
      go_wp2_with fail
      refine (C5.out _ TA tc X _ HTQ.out HXI.out).mono ?_
      rintro e x5 ⟨R5, s5, rfl, h5, hb⟩
      replace HTQ := Lib.hid (HTQ.out.keep hb)
      replace HXI := Lib.hid (HXI.out.keep hb)
      replace HMQ := Lib.hid (HMQ.out.keep hb)
      replace HBI := Lib.hid (HBI.out.keep hb)
      replace G1 := Lib.hid (G1.out.keep hb)
      replace G2 := Lib.hid (G2.out.keep hb)
      replace G3 := Lib.hid (G3.out.keep hb)
      replace G4 := Lib.hid (G4.out.keep hb)
      have G5 := Lib.hid h5
      replace c0 := keepC hb c0
      replace d0 := keepC hb d0
      replace hbb := keepB hbb hb
      clear hb h5
      go_wp2_with fail
      refine (C6.out _ A cv _ ca HMQ.out HBI.out).mono ?_
      rintro e wz ⟨R6, s6, rfl, h6, hb⟩
      replace HTQ := Lib.hid (HTQ.out.keep hb)
      replace HXI := Lib.hid (HXI.out.keep hb)
      replace HMQ := Lib.hid (HMQ.out.keep hb)
      replace HBI := Lib.hid (HBI.out.keep hb)
      replace G1 := Lib.hid (G1.out.keep hb)
      replace G2 := Lib.hid (G2.out.keep hb)
      replace G3 := Lib.hid (G3.out.keep hb)
      replace G4 := Lib.hid (G4.out.keep hb)
      replace G5 := Lib.hid (G5.out.keep hb)
      have G6 := Lib.hid h6
      replace c0 := keepC hb c0
      replace d0 := keepC hb d0
      replace hbb := keepB hbb hb
      clear hb h6
      have HZZ := Lib.hid hbb
      have u0 := c0
      have u1 := d0
      have K1 := Lib.hid (fun v (hv : Below wz.heap.size wz v) => D1.out v TA tc (HTQ.out.keep hv))
      have K2 := Lib.hid (fun v (hv : Below wz.heap.size wz v) => D2.out v A cv (HMQ.out.keep hv))
      have K3 := Lib.hid (fun v (hv : Below wz.heap.size wz v) d => D3.out v TA tc X d (HTQ.out.keep hv) (HXI.out.keep hv))
      have K4 := Lib.hid (fun v (hv : Below wz.heap.size wz v) d => D4.out v A cv _ d (HMQ.out.keep hv) (HBI.out.keep hv))
      have K5 := Lib.hid (fun v (hv : Below wz.heap.size wz v) c d => D5.out v R1 c R2 d (G1.out.keep hv) (G2.out.keep hv))
      have K6 := Lib.hid (fun v (hv : Below wz.heap.size wz v) c d => D6.out v R3 c R4 d (G3.out.keep hv) (G4.out.keep hv))
      have K7 := Lib.hid (fun v (hv : Below wz.heap.size wz v) c d => D7.out v R5 c R6 d (G5.out.keep hv) (G6.out.keep hv))
      have K8 := Lib.hid (fun v (hv : Below wz.heap.size wz v) => D8.out v TA tc A cv (HTQ.out.keep hv) (HMQ.out.keep hv))
      have K9 := Lib.hid (fun v (hv : Below wz.heap.size wz v) c d => D9.out v X c _ d (HXI.out.keep hv) (HBI.out.keep hv))
      clear hbb c0 d0 C1 C2 C3 C4 C5 C6 D1 D2 D3 D4 D5 D6 D7 D8 D9
      go_upto_region 10 with fail
      refine wp_region_noPanic ?_
      refine wp_region_held_drew (S := (Below wz.heap.size wz)) (by kernel_rfl) ((Below.refl _ _).drew) (fun hHeld => ?_)
      refine at_anyH (Below wz.heap.size wz) hHeld (fun wa0 hNew => ?_)
      clear hHeld
      have hHeld := hNew
      clear hNew
      refine tkm 0 rfl hHeld (fun w hSw => by have ku0 := keepC hSw u0; have ku1 := keepC hSw u1; go_simp <;> with_reducible rfl) ?_
      try simp only [PPz]
      refine tkm 2 rfl hHeld (fun w hSw => by have ku0 := keepC hSw u0; have ku1 := keepC hSw u1; go_simp <;> with_reducible rfl) ?_
      try simp only [PPz]
      refine rdy1 1 rfl (fun K hK => ?_)
      go_simp
      refine (K1.out _ hHeld).mono ?_
      rintro e wa3 ⟨rfl, hb3⟩
      go_wp2_with fail
      refine hK.out _ _ (keepB hHeld hb3) (fun hNew => ?_)
      clear hb3
      clear hHeld hK K
      have hHeld := hNew
      clear hNew
      try simp only [PPz]
      refine rdy1 3 rfl (fun K hK => ?_)
      go_simp
      refine (K2.out _ hHeld).mono ?_
      rintro e wa4 ⟨rfl, hb3⟩
      go_wp2_with fail
      refine hK.out _ _ (keepB hHeld hb3) (fun hNew => ?_)
      clear hb3
      clear hHeld hK K
      have hHeld := hNew
      clear hNew
      try simp only [PPz]
      refine tkn 4 (.bool true) rfl ?_ hHeld ?_
      · intro w hSw; go_simp; first | done | (with_reducible rfl)
      try simp only [PPz]
      refine tkd 5 ?_
      try simp only [PPz]
      refine tkm 6 rfl hHeld (fun w hSw => by have ku0 := keepC hSw u0; have ku1 := keepC hSw u1; go_simp <;> with_reducible rfl) ?_
      try simp only [PPz]
      refine tkd 7 ?_
      try simp only [PPz]
      refine tkm 9 rfl hHeld (fun w hSw => by have ku0 := keepC hSw u0; have ku1 := keepC hSw u1; go_simp <;> with_reducible rfl) ?_
      try simp only [PPz]
      refine tkd 10 ?_
      try simp only [PPz]
      refine rdy1 8 rfl (fun K hK => ?_)
      go_simp
      refine (K3.out _ hHeld _).mono ?_
      rintro e wa11 ⟨rfl, hb3⟩
      go_wp2_with fail
      refine hK.out _ _ (keepB hHeld hb3) (fun hNew => ?_)
      clear hb3
      clear hHeld hK K
      have hHeld := hNew
      clear hNew
      try simp only [PPz]
      refine rdy1 11 rfl (fun K hK => ?_)
      go_simp
      refine (K4.out _ hHeld _).mono ?_
      rintro e wa12 ⟨rfl, hb3⟩
      go_wp2_with fail
      refine hK.out _ _ (keepB hHeld hb3) (fun hNew => ?_)
      clear hb3
      clear hHeld hK K
      have hHeld := hNew
      clear hNew
      try simp only [PPz]
      refine tkn 12 (.bool true) rfl ?_ hHeld ?_
      · intro w hSw; go_simp; first | done | (with_reducible rfl)
      try simp only [PPz]
      refine tkd 13 ?_
      try simp only [PPz]
      refine tkd 14 ?_
      try simp only [PPz]
      refine tkd 15 ?_
      try simp only [PPz]
      refine tkd 16 ?_
      try simp only [PPz]
      refine rdy1 17 rfl (fun K hK => ?_)
      go_simp
      refine (K5.out _ hHeld _ _).mono ?_
      rintro e wa18 ⟨rfl, hb3⟩
      go_wp2_with fail
      refine hK.out _ _ (keepB hHeld hb3) (fun hNew => ?_)
      clear hb3
      clear hHeld hK K
      have hHeld := hNew
      clear hNew
      try simp only [PPz]
      refine tkd 18 ?_
      try simp only [PPz]
      refine tkd 19 ?_
      try simp only [PPz]
      refine tkd 20 ?_
      try simp only [PPz]
      refine tkd 21 ?_
      try simp only [PPz]
      refine tkn 22 (.bool true) rfl ?_ hHeld ?_
      · intro w hSw; go_simp; first | done | (with_reducible rfl)
      try simp only [PPz]
      refine tkd 23 ?_
      try simp only [PPz]
      refine tkd 24 ?_
      try simp only [PPz]
      refine tkd 25 ?_
      try simp only [PPz]
      refine tkd 26 ?_
      try simp only [PPz]
      refine rdy1 27 rfl (fun K hK => ?_)
      go_simp
      refine (K6.out _ hHeld _ _).mono ?_
      rintro e wa28 ⟨rfl, hb3⟩
      go_wp2_with fail
      refine hK.out _ _ (keepB hHeld hb3) (fun hNew => ?_)
      clear hb3
      clear hHeld hK K
      have hHeld := hNew
      clear hNew
      try simp only [PPz]
      refine tkd 28 ?_
      try simp only [PPz]
      refine tkd 29 ?_
      try simp only [PPz]
      refine tkd 30 ?_
      try simp only [PPz]
      refine tkd 31 ?_
      try simp only [PPz]
      refine tkn 32 (.bool true) rfl ?_ hHeld ?_
      · intro w hSw; go_simp; first | done | (with_reducible rfl)
      try simp only [PPz]
      refine tkd 33 ?_
      try simp only [PPz]
      refine tkd 34 ?_
      try simp only [PPz]
      refine tkd 35 ?_
      try simp only [PPz]
      refine tkd 36 ?_
      try simp only [PPz]
      refine rdy1 37 rfl (fun K hK => ?_)
      go_simp
      refine (K7.out _ hHeld _ _).mono ?_
      rintro e wa38 ⟨rfl, hb3⟩
      go_wp2_with fail
      refine hK.out _ _ (keepB hHeld hb3) (fun hNew => ?_)
      clear hb3
      clear hHeld hK K
      have hHeld := hNew
      clear hNew
      try simp only [PPz]
      refine tkd 38 ?_
      try simp only [PPz]
      refine tkd 39 ?_
      try simp only [PPz]
      refine tkd 40 ?_
      try simp only [PPz]
      refine tkd 41 ?_
      try simp only [PPz]
      refine tkn 42 (.bool true) rfl ?_ hHeld ?_
      · intro w hSw; go_simp; first | done | (with_reducible rfl)
      try simp only [PPz]
      refine tkd 43 ?_
      try simp only [PPz]
      refine tkd 44 ?_
      try simp only [PPz]
      refine tkd 45 ?_
      try simp only [PPz]
      refine tkm 46 rfl hHeld (fun w hSw => by have ku0 := keepC hSw u0; have ku1 := keepC hSw u1; go_simp <;> with_reducible rfl) ?_
      try simp only [PPz]
      refine tkd 47 ?_
      try simp only [PPz]
      refine tkm 48 rfl hHeld (fun w hSw => by have ku0 := keepC hSw u0; have ku1 := keepC hSw u1; go_simp <;> with_reducible rfl) ?_
      try simp only [PPz]
      refine rdy1 49 rfl (fun K hK => ?_)
      go_simp
      refine (K8.out _ hHeld).mono ?_
      rintro e wa50 ⟨rfl, hb3⟩
      go_wp2_with fail
      refine hK.out _ _ (keepB hHeld hb3) (fun hNew => ?_)
      clear hb3
      clear hHeld hK K
      have hHeld := hNew
      clear hNew
      try simp only [PPz]
      refine tkd 50 ?_
      try simp only [PPz]
      refine tkd 51 ?_
      try simp only [PPz]
      refine tkd 52 ?_
      try simp only [PPz]
      refine tkd 53 ?_
      try simp only [PPz]
      refine rdy1 54 rfl (fun K hK => ?_)
      go_simp
      refine (K9.out _ hHeld _ _).mono ?_
      rintro e wa55 ⟨rfl, hb3⟩
      go_wp2_with fail
      refine hK.out _ _ (keepB hHeld hb3) (fun hNew => ?_)
      clear hb3
      clear hHeld hK K
      have hHeld := hNew
      clear hNew
      try simp only [PPz]
      refine tkd 55 ?_
      try simp only [PPz]
      refine tkd 56 ?_
      try simp only [PPz]
      refine wpAnyH_done (by kernel_rfl) ?_ _
      refine NoPanic.normal ?_
      go_wp2_with fail
      go_ret
      exact ⟨rfl, keepB HZZ.out hHeld⟩
    · obtain ⟨bb, bo, rfl, hac⟩ := HA0.out (by omega)
      have HC := Lib.hid (show ∀ (j : Nat) (u : Value), ((List.range na).map fun i => Value.int .i64 (As.el a i))[j]? = some u → w2.cell? ((⟨bb, bo, none⟩ : Addr).add j) = some u from fun j u hj => by
        obtain ⟨hj1, hj2⟩ := List.getElem?_eq_some_iff.1 hj
        simp only [List.length_map, List.length_range] at hj1
        simp only [List.getElem_map, List.getElem_range] at hj2
        rw [Addr.add_lit, ← hj2]
        exact keepC HBB.out (hac j hj1))
      have H1 := Lib.hid (show ∀ u ∈ (List.range na).map fun i => Value.int .i64 (As.el a i), u.oneCell' = true from fun u hu => by
        obtain ⟨j, hj, rfl⟩ := List.mem_map.1 hu
        rfl)
      have HLL := Lib.hid (show ((List.range na).map fun i => Value.int .i64 (As.el a i)).length = na * 1 by simp)
      obtain ⟨rs, hrs⟩ : ∃ rs, ((List.range na).map fun i => Value.int .i64 (As.el a i)) = rs := ⟨_, rfl⟩
      rw [hrs] at HC H1 HLL
      have HRS := Lib.hid hrs
      clear hac hrs
      go_upto_region 4 with (at_builtin; go_loud (refine wpList_append_lies _ rfl _ _ _ rfl w2.heap.size 3 i0 _ 1 8 Try.underlying25 HI.out HI2.out HI3.out HI4.out rfl (by omega) (.slice (some ⟨w2.heap.size, 0, none⟩) 0 0) 0 [] (by rfl) (World.ownsRow_lit w2 #[] 0 (Nat.le_refl _) (by decide) rfl) ⟨bb, bo, none⟩ na ca rs (by rfl) HLL.out (fun j u hj => (below_al (Below.refl _ _) _ : Below w2.heap.size w2 (w2.alloc _)).cell (p := (⟨bb, bo, none⟩ : Addr).add j) (World.block_lt_of_cell? w2 _ (HC.out j u hj)) |>.trans (HC.out j u hj)) H1.out (by omega) (by unfold maxLen; omega) (by omega) (by simp) (w2.heap.size + 1) (by simp) ?_; intro g c w4 hown1 hgrow hat hlt))
      rw [Nat.zero_add, List.nil_append, ← HRS.out] at hown1
      obtain ⟨g', cap', hv, hg', _, hbk⟩ := own_block hown1 (by omega)
      simp only [Value.slice.injEq, Option.some.injEq, Addr.mk.injEq] at hv
      obtain ⟨⟨rfl, -, -⟩, -, rfl⟩ := hv
      have hb4 : Below w2.heap.size w2 w4 := ((Below.refl _ _).alloc (Nat.le_refl _) _).grown hgrow (by simp) (fun k e => by
        have : w2.heap.size = k := by simpa [Value.ownBlock] using e
        omega)
      have hia : IsI w4 (some ⟨g, 0, none⟩) a := by
        have h1 := BF.isI (w := w4) (g := g) (n := na) (F := As.el a) hbk (fun k _ => HBD.out k)
        have e : ml na (As.el a) = a := by
          unfold ml
          refine List.ext_getElem (by simp [HNA.out]) fun j h1 h2 => ?_
          simp only [List.getElem_map, List.getElem_range]
          exact el_lt h2
        rw [e] at h1
        exact h1
      refine at_worldQ (fun v => Below w2.heap.size w2 v ∧ IsI v (some ⟨g, 0, none⟩) a ∧ BK v w4.heap.size [.slice TA V.length tc]) ⟨below_al hb4 _, hia.keep (below_al (Below.refl _ _) _), BK.new _ _ _⟩ (fun wq hS => ?_)
      clear hown1 hgrow hat hlt hbk hb4 hia hg' HC H1 HLL HRS
      generalize w4.heap.size = p at *
      generalize (some ⟨g, 0, none⟩ : Option Addr) = X at *
      generalize (some ⟨bb, bo, none⟩ : Option Addr) = B at *
      obtain ⟨hbq, hxi, hbp⟩ := hS
      have hbb := keepB HBB.out hbq
      have HTQ := Lib.hid (HT.out.keep hbq)
      have HXI := Lib.hid hxi
      have HMQ := Lib.hid (HM.out.keep hbb)
      have HBI := Lib.hid (HI0.out.keep hbb)
      have c0 := keepC hbq C0.out
      have d0 := hbp.c 0 rfl
      clear hbq hxi hbp
      go_wp2_with fail
      refine (C1.out _ TA tc X _ HTQ.out HXI.out).mono ?_
      rintro e x1 ⟨R1, s1, rfl, h1, hb⟩
      replace HTQ := Lib.hid (HTQ.out.keep hb)
      replace HXI := Lib.hid (HXI.out.keep hb)
      replace HMQ := Lib.hid (HMQ.out.keep hb)
      replace HBI := Lib.hid (HBI.out.keep hb)
      have G1 := Lib.hid h1
      replace c0 := keepC hb c0
      replace d0 := keepC hb d0
      replace hbb := keepB hbb hb
      clear hb h1
      go_wp2_with fail
      refine (C2.out _ A cv _ ca HMQ.out HBI.out).mono ?_
      rintro e x2 ⟨R2, s2, rfl, h2, hb⟩
      replace HTQ := Lib.hid (HTQ.out.keep hb)
      replace HXI := Lib.hid (HXI.out.keep hb)
      replace HMQ := Lib.hid (HMQ.out.keep hb)
      replace HBI := Lib.hid (HBI.out.keep hb)
      replace G1 := Lib.hid (G1.out.keep hb)
      have G2 := Lib.hid h2
      replace c0 := keepC hb c0
      replace d0 := keepC hb d0
      replace hbb := keepB hbb hb
      clear hb h2
      go_wp2_with fail
      refine (C3.out _ TA tc X _ HTQ.out HXI.out).mono ?_
      rintro e x3 ⟨R3, s3, rfl, h3, hb⟩
      replace HTQ := Lib.hid (HTQ.out.keep hb)
      replace HXI := Lib.hid (HXI.out.keep hb)
      replace HMQ := Lib.hid (HMQ.out.keep hb)
      replace HBI := Lib.hid (HBI.out.keep hb)
      replace G1 := Lib.hid (G1.out.keep hb)
      replace G2 := Lib.hid (G2.out.keep hb)
      have G3 := Lib.hid h3
      replace c0 := keepC hb c0
      replace d0 := keepC hb d0
      replace hbb := keepB hbb hb
      clear hb h3
      go_wp2_with fail
      refine (C4.out _ A cv _ ca HMQ.out HBI.out).mono ?_
      rintro e x4 ⟨R4, s4, rfl, h4, hb⟩
      replace HTQ := Lib.hid (HTQ.out.keep hb)
      replace HXI := Lib.hid (HXI.out.keep hb)
      replace HMQ := Lib.hid (HMQ.out.keep hb)
      replace HBI := Lib.hid (HBI.out.keep hb)
      replace G1 := Lib.hid (G1.out.keep hb)
      replace G2 := Lib.hid (G2.out.keep hb)
      replace G3 := Lib.hid (G3.out.keep hb)
      have G4 := Lib.hid h4
      replace c0 := keepC hb c0
      replace d0 := keepC hb d0
      replace hbb := keepB hbb hb
      clear hb h4
      go_wp2_with fail
      refine (C5.out _ TA tc X _ HTQ.out HXI.out).mono ?_
      rintro e x5 ⟨R5, s5, rfl, h5, hb⟩
      replace HTQ := Lib.hid (HTQ.out.keep hb)
      replace HXI := Lib.hid (HXI.out.keep hb)
      replace HMQ := Lib.hid (HMQ.out.keep hb)
      replace HBI := Lib.hid (HBI.out.keep hb)
      replace G1 := Lib.hid (G1.out.keep hb)
      replace G2 := Lib.hid (G2.out.keep hb)
      replace G3 := Lib.hid (G3.out.keep hb)
      replace G4 := Lib.hid (G4.out.keep hb)
      have G5 := Lib.hid h5
      replace c0 := keepC hb c0
      replace d0 := keepC hb d0
      replace hbb := keepB hbb hb
      clear hb h5
      go_wp2_with fail
      refine (C6.out _ A cv _ ca HMQ.out HBI.out).mono ?_
      rintro e wz ⟨R6, s6, rfl, h6, hb⟩
      replace HTQ := Lib.hid (HTQ.out.keep hb)
      replace HXI := Lib.hid (HXI.out.keep hb)
      replace HMQ := Lib.hid (HMQ.out.keep hb)
      replace HBI := Lib.hid (HBI.out.keep hb)
      replace G1 := Lib.hid (G1.out.keep hb)
      replace G2 := Lib.hid (G2.out.keep hb)
      replace G3 := Lib.hid (G3.out.keep hb)
      replace G4 := Lib.hid (G4.out.keep hb)
      replace G5 := Lib.hid (G5.out.keep hb)
      have G6 := Lib.hid h6
      replace c0 := keepC hb c0
      replace d0 := keepC hb d0
      replace hbb := keepB hbb hb
      clear hb h6
      have HZZ := Lib.hid hbb
      have u0 := c0
      have u1 := d0
      have K1 := Lib.hid (fun v (hv : Below wz.heap.size wz v) => D1.out v TA tc (HTQ.out.keep hv))
      have K2 := Lib.hid (fun v (hv : Below wz.heap.size wz v) => D2.out v A cv (HMQ.out.keep hv))
      have K3 := Lib.hid (fun v (hv : Below wz.heap.size wz v) d => D3.out v TA tc X d (HTQ.out.keep hv) (HXI.out.keep hv))
      have K4 := Lib.hid (fun v (hv : Below wz.heap.size wz v) d => D4.out v A cv _ d (HMQ.out.keep hv) (HBI.out.keep hv))
      have K5 := Lib.hid (fun v (hv : Below wz.heap.size wz v) c d => D5.out v R1 c R2 d (G1.out.keep hv) (G2.out.keep hv))
      have K6 := Lib.hid (fun v (hv : Below wz.heap.size wz v) c d => D6.out v R3 c R4 d (G3.out.keep hv) (G4.out.keep hv))
      have K7 := Lib.hid (fun v (hv : Below wz.heap.size wz v) c d => D7.out v R5 c R6 d (G5.out.keep hv) (G6.out.keep hv))
      have K8 := Lib.hid (fun v (hv : Below wz.heap.size wz v) => D8.out v TA tc A cv (HTQ.out.keep hv) (HMQ.out.keep hv))
      have K9 := Lib.hid (fun v (hv : Below wz.heap.size wz v) c d => D9.out v X c _ d (HXI.out.keep hv) (HBI.out.keep hv))
      clear hbb c0 d0 C1 C2 C3 C4 C5 C6 D1 D2 D3 D4 D5 D6 D7 D8 D9
      go_upto_region 10 with fail
      refine wp_region_noPanic ?_
      refine wp_region_held_drew (S := (Below wz.heap.size wz)) (by kernel_rfl) ((Below.refl _ _).drew) (fun hHeld => ?_)
      refine at_anyH (Below wz.heap.size wz) hHeld (fun wa0 hNew => ?_)
      clear hHeld
      have hHeld := hNew
      clear hNew
      refine tkm 0 rfl hHeld (fun w hSw => by have ku0 := keepC hSw u0; have ku1 := keepC hSw u1; go_simp <;> with_reducible rfl) ?_
      try simp only [PPz]
      refine tkm 2 rfl hHeld (fun w hSw => by have ku0 := keepC hSw u0; have ku1 := keepC hSw u1; go_simp <;> with_reducible rfl) ?_
      try simp only [PPz]
      refine rdy1 1 rfl (fun K hK => ?_)
      go_simp
      refine (K1.out _ hHeld).mono ?_
      rintro e wa3 ⟨rfl, hb3⟩
      go_wp2_with fail
      refine hK.out _ _ (keepB hHeld hb3) (fun hNew => ?_)
      clear hb3
      clear hHeld hK K
      have hHeld := hNew
      clear hNew
      try simp only [PPz]
      refine rdy1 3 rfl (fun K hK => ?_)
      go_simp
      refine (K2.out _ hHeld).mono ?_
      rintro e wa4 ⟨rfl, hb3⟩
      go_wp2_with fail
      refine hK.out _ _ (keepB hHeld hb3) (fun hNew => ?_)
      clear hb3
      clear hHeld hK K
      have hHeld := hNew
      clear hNew
      try simp only [PPz]
      refine tkn 4 (.bool true) rfl ?_ hHeld ?_
      · intro w hSw; go_simp; first | done | (with_reducible rfl)
      try simp only [PPz]
      refine tkd 5 ?_
      try simp only [PPz]
      refine tkm 6 rfl hHeld (fun w hSw => by have ku0 := keepC hSw u0; have ku1 := keepC hSw u1; go_simp <;> with_reducible rfl) ?_
      try simp only [PPz]
      refine tkd 7 ?_
      try simp only [PPz]
      refine tkm 9 rfl hHeld (fun w hSw => by have ku0 := keepC hSw u0; have ku1 := keepC hSw u1; go_simp <;> with_reducible rfl) ?_
      try simp only [PPz]
      refine tkd 10 ?_
      try simp only [PPz]
      refine rdy1 8 rfl (fun K hK => ?_)
      go_simp
      refine (K3.out _ hHeld _).mono ?_
      rintro e wa11 ⟨rfl, hb3⟩
      go_wp2_with fail
      refine hK.out _ _ (keepB hHeld hb3) (fun hNew => ?_)
      clear hb3
      clear hHeld hK K
      have hHeld := hNew
      clear hNew
      try simp only [PPz]
      refine rdy1 11 rfl (fun K hK => ?_)
      go_simp
      refine (K4.out _ hHeld _).mono ?_
      rintro e wa12 ⟨rfl, hb3⟩
      go_wp2_with fail
      refine hK.out _ _ (keepB hHeld hb3) (fun hNew => ?_)
      clear hb3
      clear hHeld hK K
      have hHeld := hNew
      clear hNew
      try simp only [PPz]
      refine tkn 12 (.bool true) rfl ?_ hHeld ?_
      · intro w hSw; go_simp; first | done | (with_reducible rfl)
      try simp only [PPz]
      refine tkd 13 ?_
      try simp only [PPz]
      refine tkd 14 ?_
      try simp only [PPz]
      refine tkd 15 ?_
      try simp only [PPz]
      refine tkd 16 ?_
      try simp only [PPz]
      refine rdy1 17 rfl (fun K hK => ?_)
      go_simp
      refine (K5.out _ hHeld _ _).mono ?_
      rintro e wa18 ⟨rfl, hb3⟩
      go_wp2_with fail
      refine hK.out _ _ (keepB hHeld hb3) (fun hNew => ?_)
      clear hb3
      clear hHeld hK K
      have hHeld := hNew
      clear hNew
      try simp only [PPz]
      refine tkd 18 ?_
      try simp only [PPz]
      refine tkd 19 ?_
      try simp only [PPz]
      refine tkd 20 ?_
      try simp only [PPz]
      refine tkd 21 ?_
      try simp only [PPz]
      refine tkn 22 (.bool true) rfl ?_ hHeld ?_
      · intro w hSw; go_simp; first | done | (with_reducible rfl)
      try simp only [PPz]
      refine tkd 23 ?_
      try simp only [PPz]
      refine tkd 24 ?_
      try simp only [PPz]
      refine tkd 25 ?_
      try simp only [PPz]
      refine tkd 26 ?_
      try simp only [PPz]
      refine rdy1 27 rfl (fun K hK => ?_)
      go_simp
      refine (K6.out _ hHeld _ _).mono ?_
      rintro e wa28 ⟨rfl, hb3⟩
      go_wp2_with fail
      refine hK.out _ _ (keepB hHeld hb3) (fun hNew => ?_)
      clear hb3
      clear hHeld hK K
      have hHeld := hNew
      clear hNew
      try simp only [PPz]
      refine tkd 28 ?_
      try simp only [PPz]
      refine tkd 29 ?_
      try simp only [PPz]
      refine tkd 30 ?_
      try simp only [PPz]
      refine tkd 31 ?_
      try simp only [PPz]
      refine tkn 32 (.bool true) rfl ?_ hHeld ?_
      · intro w hSw; go_simp; first | done | (with_reducible rfl)
      try simp only [PPz]
      refine tkd 33 ?_
      try simp only [PPz]
      refine tkd 34 ?_
      try simp only [PPz]
      refine tkd 35 ?_
      try simp only [PPz]
      refine tkd 36 ?_
      try simp only [PPz]
      refine rdy1 37 rfl (fun K hK => ?_)
      go_simp
      refine (K7.out _ hHeld _ _).mono ?_
      rintro e wa38 ⟨rfl, hb3⟩
      go_wp2_with fail
      refine hK.out _ _ (keepB hHeld hb3) (fun hNew => ?_)
      clear hb3
      clear hHeld hK K
      have hHeld := hNew
      clear hNew
      try simp only [PPz]
      refine tkd 38 ?_
      try simp only [PPz]
      refine tkd 39 ?_
      try simp only [PPz]
      refine tkd 40 ?_
      try simp only [PPz]
      refine tkd 41 ?_
      try simp only [PPz]
      refine tkn 42 (.bool true) rfl ?_ hHeld ?_
      · intro w hSw; go_simp; first | done | (with_reducible rfl)
      try simp only [PPz]
      refine tkd 43 ?_
      try simp only [PPz]
      refine tkd 44 ?_
      try simp only [PPz]
      refine tkd 45 ?_
      try simp only [PPz]
      refine tkm 46 rfl hHeld (fun w hSw => by have ku0 := keepC hSw u0; have ku1 := keepC hSw u1; go_simp <;> with_reducible rfl) ?_
      try simp only [PPz]
      refine tkd 47 ?_
      try simp only [PPz]
      refine tkm 48 rfl hHeld (fun w hSw => by have ku0 := keepC hSw u0; have ku1 := keepC hSw u1; go_simp <;> with_reducible rfl) ?_
      try simp only [PPz]
      refine rdy1 49 rfl (fun K hK => ?_)
      go_simp
      refine (K8.out _ hHeld).mono ?_
      rintro e wa50 ⟨rfl, hb3⟩
      go_wp2_with fail
      refine hK.out _ _ (keepB hHeld hb3) (fun hNew => ?_)
      clear hb3
      clear hHeld hK K
      have hHeld := hNew
      clear hNew
      try simp only [PPz]
      refine tkd 50 ?_
      try simp only [PPz]
      refine tkd 51 ?_
      try simp only [PPz]
      refine tkd 52 ?_
      try simp only [PPz]
      refine tkd 53 ?_
      try simp only [PPz]
      refine rdy1 54 rfl (fun K hK => ?_)
      go_simp
      refine (K9.out _ hHeld _ _).mono ?_
      rintro e wa55 ⟨rfl, hb3⟩
      go_wp2_with fail
      refine hK.out _ _ (keepB hHeld hb3) (fun hNew => ?_)
      clear hb3
      clear hHeld hK K
      have hHeld := hNew
      clear hNew
      try simp only [PPz]
      refine tkd 55 ?_
      try simp only [PPz]
      refine tkd 56 ?_
      try simp only [PPz]
      refine wpAnyH_done (by kernel_rfl) ?_ _
      refine NoPanic.normal ?_
      go_wp2_with fail
      go_ret
      exact ⟨rfl, keepB HZZ.out hHeld⟩
end Go.Proofs.Ytfpaefnaidppmaa

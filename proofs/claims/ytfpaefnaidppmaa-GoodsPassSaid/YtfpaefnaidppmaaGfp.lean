/- The law GoodsPass. -/
import Derived.Test.YtfpaefnaidppmaaGfa
import Derived.Test.YtfpaefnaidppmaaGpm
namespace Go.Proofs.Ytfpaefnaidppmaa
open Go.RowKit
set_option maxRecDepth 100000 in
set_option maxHeartbeats 16000000 in
theorem goodspass_walk (A : Option Addr) (cv : Nat) (V : List (List Int)) (B : Option Addr) (ca : Nat) (a : List Int) (O : Option Addr) (co : Nat) (os : List Int) (g x : Int) (w : World) (hl : V.length ≤ maxLen) (h : IsM w A V) (ha : a.length ≤ maxLen) (hB : IsI w B a) (ho : os.length ≤ maxLen) (hO : IsI w O os) (g1 : -9223372036854775808 ≤ g) (g2 : g ≤ 9223372036854775807) (x1 : -9223372036854775808 ≤ x) (x2 : x ≤ 9223372036854775807) :
    Calls Try.prog 8 #[.agg #[.slice A V.length cv], .slice B a.length ca, .slice O os.length co, .int .i64 g, .int .i64 x] w fun e w' => e = .returned (.bool true) ∧ Below w.heap.size w w' := by
  have CF := Lib.hid (fun v (hv : Below w.heap.size w v) => fit16_any A cv V B ca a v hl (h.keep hv) ha (hB.keep hv))
  have CS := Lib.hid (fun v (hv : Below w.heap.size w v) => rAssigned_any O co os V.length v ho (hO.keep hv))
  unfold FtQ at CF
  go_enter Try.func8, Try.ntmps8
  go_upto_region 1 with fail
  refine at_box1 (fun V0 hbb b0 hsz => ?_)
  clear hsz
  have c0 := b0.c 0 rfl
  go_wp2_with fail
  refine (alive16_any _).mono ?_
  rintro e w1 ⟨rfl, hb1⟩
  replace c0 := keepC hb1 c0
  replace hbb := keepB hbb hb1
  clear hb1 b0
  go_wp2_with fail
  refine (CF.out _ hbb).mono ?_
  rintro e w2 ⟨z, rfl, hz, hb2⟩
  replace c0 := keepC hb2 c0
  replace hbb := keepB hbb hb2
  clear hb2
  cases z with
  | false =>
    go_wp2_with fail
    go_ret
    exact ⟨rfl, hbb⟩
  | true =>
    have h0 := hz rfl
    obtain ⟨zc, hzc⟩ : ∃ zc, As.isA os V.length = zc := ⟨_, rfl⟩
    rw [hzc] at CS
    go_wp2_with fail
    refine (CS.out _ hbb).mono ?_
    rintro e w3 ⟨rfl, hb3⟩
    replace c0 := keepC hb3 c0
    replace hbb := keepB hbb hb3
    clear hb3
    cases zc with
    | false =>
      go_wp2_with fail
      go_ret
      exact ⟨rfl, hbb⟩
    | true =>
      obtain ⟨o, rfl, hp⟩ := As.isA_perm hzc
      have hG := gd_of h0 h hB
      have n1 := hG.ok.n1
      have n6 := hG.ok.n6
      have hck := (As.gvld_ok h0).1
      have hal := hG.al
      have m10 : a.length ≤ 10 := by have h1 := hG.al.len; have h2 := hG.ok.m10; omega
      have hpl : o.length = V.length := (As.perm_lt hp).1
      have hpal := As.pas_al hp hal
      have hv2 : As.gvld V (As.pas o a) = 0 := As.gvld_al hck hpal
      have hlp : (As.pas o a).length = a.length := As.pas_len o a
      have hmp : a.map (As.ixo (As.al o)) = As.pas o a := As.pass_eq hp hal
      have hbA := As.bck_isA hp
      have hbp := As.bck_perm hp
      have hback : (As.pas o a).map (As.ixo (As.al (As.bck o V.length))) = a := (As.pass_eq hbp hpal).trans (As.pas_back hp hal)
      have BW := Lib.hid (fun i (hi : i < V.length) => @As.bw_pas V a o V.length (As.gm V) hp hal i hi i)
      have LT := Lib.hid (fun i (hi : i < V.length) => (As.perm_lt hp).2 i hi)
      have CPa := Lib.hid (fun v (hv : Below w.heap.size w v) => gPass_any A cv V B ca a O co (As.al o) v hl (h.keep hv) ha (hB.keep hv) ho (hO.keep hv))
      have CVr := Lib.hid (fun v X c (hv : Below w.heap.size w v) (hX : IsI v X (As.pas o a)) => rgValid_any A cv V X c (As.pas o a) v hl (h.keep hv) (by rw [hlp]; exact ha) hX)
      have CPb := Lib.hid (fun v X c Y d (hv : Below w.heap.size w v) (hX : IsI v X (As.pas o a)) (hY : IsI v Y (As.al (As.bck o V.length))) => gPass_any A cv V X c (As.pas o a) Y d (As.al (As.bck o V.length)) v hl (h.keep hv) (by rw [hlp]; exact ha) hX (by rw [As.al_len, As.bck_len]; exact hl) hY)
      have CVa := Lib.hid (fun v (hv : Below w.heap.size w v) => gValues_any A cv V B ca a v hl (h.keep hv) ha (hB.keep hv))
      have CVb := Lib.hid (fun v X c (hv : Below w.heap.size w v) (hX : IsI v X (As.pas o a)) => gValues_any A cv V X c (As.pas o a) v hl (h.keep hv) (by rw [hlp]; exact ha) hX)
      have CG := Lib.hid (fun v (hv : Below w.heap.size w v) => gGive_any A cv V B ca a g x v hl (h.keep hv) ha (hB.keep hv) ⟨x1, x2⟩)
      have HS := Lib.hid (fun v X c (hX : IsI v X a) (hv : Below w.heap.size w v) => same_eq X c B ca a v ha hX (hB.keep hv))
      have HSP := Lib.hid (fun i x (hi : i < V.length) (hx : x < V.length) => As.bkf_step hp hi hx)
      have HZR := Lib.hid (As.bkf_zero o)
      have HBL := Lib.hid (As.bkf_ml hp)
      have HBB' := Lib.hid (fun i x (hx : x < V.length) => @As.bkf_bd o V.length hp i x hx)
      have HLB := Lib.hid (show (As.al (As.bck o V.length)).length = V.length by rw [As.al_len, As.bck_len])
      unfold LsQ at CPa CPb
      unfold VlQ at CVa CVb
      simp only [As.psS_yes h0 hzc, As.psE_yes h0 hzc, hmp, hlp] at CPa
      simp only [As.psS_yes hv2 hbA, As.psE_yes hv2 hbA, hback, hlp, As.al_len, As.bck_len] at CPb
      simp only [hv2, hlp] at CVr
      simp only [h0, As.vlS_yes h0, mm_len] at CVa
      simp only [hv2, As.vlS_yes hv2, mm_len, hlp] at CVb
      rw [As.al_len, hpl] at CPa
      have HO := Lib.hid hO
      have HAI := Lib.hid hB
      have HPL := Lib.hid hpl
      have HMG := Lib.hid hl
      have HLP := Lib.hid hlp
      have HM0 := Lib.hid h
      have H0 := Lib.hid h0
      have HCK := Lib.hid hck
      have HAL := Lib.hid hal
      have MK := ints_make V.length (by omega)
      have e0 : ((V.length : Int) != V.length) = false := by simp
      rw [As.al_len, hpl]
      clear hz hzc hG h hB CF CS hO h0 hck hpal hv2 hmp hbA hbp hback hal hp hlp
      go_wp2_with fail
      refine (CPa.out _ hbb).mono ?_
      rintro e w4 ⟨X, cx, rfl, hX, hb4⟩
      have HX := Lib.hid hX
      replace c0 := keepC hb4 c0
      replace hbb := keepB hbb hb4
      clear hb4 hX CPa
      go_wp2_with fail
      refine (CVr.out _ X cx hbb HX.out).mono ?_
      rintro e w5 ⟨rfl, hb5⟩
      replace HX := Lib.hid (HX.out.keep hb5)
      replace c0 := keepC hb5 c0
      replace hbb := keepB hbb hb5
      have HBB := Lib.hid hbb
      have C0 := Lib.hid c0
      clear hb5 CVr hbb
      go_upto_region 8 with fail
      clear MK c0
      refine at_worldQ (fun v => Below w5.heap.size w5 v ∧ BF v w5.heap.size V.length (fun _ => 0)) ⟨below_al (Below.refl _ _) _, BF.new _ _ _⟩ (fun V6 hS => ?_)
      obtain ⟨hb6, hbf⟩ := hS
      have HB6 := Lib.hid hb6
      have HF6 := Lib.hid hbf
      obtain ⟨p, hpe⟩ : ∃ p, w5.heap.size = p := ⟨_, rfl⟩
      have HPE := Lib.hid hpe
      rw [hpe] at HF6 ⊢
      clear hb6 hbf hpe
      go_wp2_with fail
      go_loopw [15] (fun i W => ∃ m : Nat, m ≤ V.length ∧ i = .int .i64 m ∧ Hid (Below w5.heap.size w5 W) ∧ Hid (BF W p V.length (As.bkf o m))) (fun i _ => V.length - (intOf i).toNat)
      case atStart => exact ⟨0, Nat.zero_le _, rfl, HB6, Lib.hid (HF6.out.cong fun j _ => (HZR.out j).symm)⟩
      case round =>
        clear HB6 HF6
        obtain ⟨m, hm, rfl, HW, HF⟩ := hrel
        by_cases hlt : m < V.length
        · obtain ⟨ob, oo, rfl, hoc⟩ := HO.out.1 (by rw [As.al_len, HPL.out]; omega)
          have y0 := keepC (keepB HBB.out HW.out) (hoc m (by rw [As.al_len, HPL.out]; exact hlt))
          rw [As.el_al] at y0
          have hom := LT.out m hlt
          have y1 := HF.out.c hom
          have y2 := HF.out.f hom
          have HST := Lib.hid (fun x (hx : x < V.length) => HSP.out m x hlt hx)
          clear hoc
          generalize hom' : o.getD m 0 = q at *
          clear hom'
          have i1 : (m : Int) < (V.length : Int) := by omega
          have i2 : (q : Int) < (V.length : Int) := by omega
          go_wp2_with fail
          clear y0 y1 y2
          go_roundw
          case rel => exact ⟨m + 1, by omega, by go_num, Lib.hid (HW.out.setCell (by rw [HPE.out]; exact Nat.le_refl _) _), Lib.hid ((HF.out.set q (m : Int)).cong fun j hj => HST.out j hj)⟩
          case measure => simp [intOf]; omega
        · obtain rfl : m = V.length := by omega
          have HBK := Lib.hid (show IsI wr (some ⟨p, 0, none⟩) (As.al (As.bck o V.length)) by
            rw [← HBL.out]
            exact HF.out.isI (fun j hj => by
              have := HBB'.out V.length j hj
              unfold I64; omega))
          have c0 := keepC HW.out C0.out
          have hbb := keepB HBB.out HW.out
          replace HX := Lib.hid (HX.out.keep HW.out)
          clear HF HBB C0 HW HSP HZR HBL HBB'
          go_wp2_with fail
          refine (CPb.out _ X cx _ _ hbb HX.out HBK.out).mono ?_
          rintro e w7 ⟨U, cu, rfl, hU, hb7⟩
          have HU := Lib.hid hU
          replace HX := Lib.hid (HX.out.keep hb7)
          replace c0 := keepC hb7 c0
          replace hbb := keepB hbb hb7
          clear hb7 hU CPb HBK
          go_wp2_with fail
          refine (CVa.out _ hbb).mono ?_
          rintro e w8 ⟨Y, cy, rfl, hY, hb8⟩
          have HY := Lib.hid hY
          replace HX := Lib.hid (HX.out.keep hb8)
          replace HU := Lib.hid (HU.out.keep hb8)
          replace c0 := keepC hb8 c0
          replace hbb := keepB hbb hb8
          clear hb8 hY CVa
          go_wp2_with fail
          refine (CVb.out _ X cx hbb HX.out).mono ?_
          rintro e w9 ⟨Z, cz, rfl, hZ, hb9⟩
          have HZ := Lib.hid hZ
          replace HY := Lib.hid (HY.out.keep hb9)
          replace HU := Lib.hid (HU.out.keep hb9)
          replace c0 := keepC hb9 c0
          replace hbb := keepB hbb hb9
          clear hb9 hZ CVb HX
          go_wp2_with fail
          refine (HS.out _ U cu HU.out hbb).mono ?_
          rintro e w10 ⟨rfl, hb10⟩
          replace HZ := Lib.hid (HZ.out.keep hb10)
          replace HY := Lib.hid (HY.out.keep hb10)
          replace c0 := keepC hb10 c0
          replace hbb := keepB hbb hb10
          have HBB := Lib.hid hbb
          have C0 := Lib.hid c0
          clear hb10 HU hbb
          go_wp2_with fail
          clear c0
          go_loopw [22] (fun i W => ∃ m : Nat, m ≤ V.length ∧ i = .int .i64 m ∧ Hid (Below w10.heap.size w10 W)) (fun i _ => V.length - (intOf i).toNat)
          case atStart => exact ⟨0, Nat.zero_le _, rfl, Lib.hid (Below.refl _ _)⟩
          case round =>
            obtain ⟨m, hm, rfl, HW⟩ := hrel
            by_cases hlt : m < V.length
            · obtain ⟨ob, oo, rfl, hoc⟩ := HO.out.1 (by rw [As.al_len, HPL.out]; omega)
              obtain ⟨vb, vo, rb, ro, cr, rfl, hvr, hvc⟩ := gmm_at HY.out hlt (by omega)
              obtain ⟨wb, wo, qb, qo, cq, rfl, hwr, hwc⟩ := gmm_at HZ.out hlt (by omega)
              have hom := LT.out m hlt
              have u0 := keepC HW.out hvr
              have u1 := keepC HW.out hwr
              have u2 := keepC HW.out (hwc m hlt)
              have u3 := keepC (keepB HBB.out HW.out) (hoc m (by rw [As.al_len, HPL.out]; exact hlt))
              rw [As.el_al] at u3
              have u4 := keepC HW.out (hvc _ hom)
              rw [BW.out m hlt] at u2
              clear hoc hvr hvc hwr hwc
              generalize o.getD m 0 = q at *
              generalize As.bw V a m q = y at *
              have i1 : (m : Int) < (V.length : Int) := by omega
              have i2 : (q : Int) < (V.length : Int) := by omega
              have e3 : (y != y) = false := by simp
              go_upto_region 20 with fail
              refine wp_region_noPanic ?_
              refine wp_region_held_drew (S := (Below wr.heap.size wr)) (by kernel_rfl) ((Below.refl _ _).drew) (fun hHeld => ?_)
              refine at_anyH (Below wr.heap.size wr) hHeld (fun wa0 hNew => ?_)
              clear hHeld
              have hHeld := hNew
              clear hNew
              refine tkd 0 ?_
              try simp only [PPz]
              refine tkd 1 ?_
              try simp only [PPz]
              refine tkd 2 ?_
              try simp only [PPz]
              refine tkm 3 rfl hHeld (fun w hSw => by have ku0 := keepC hSw u0; have ku1 := keepC hSw u1; have ku2 := keepC hSw u2; have ku3 := keepC hSw u3; have ku4 := keepC hSw u4; go_simp <;> with_reducible rfl) ?_
              try simp only [PPz]
              refine tkd 4 ?_
              try simp only [PPz]
              refine tkd 5 ?_
              try simp only [PPz]
              refine tkd 6 ?_
              try simp only [PPz]
              refine tkn 7 (.bool false) rfl ?_ hHeld ?_
              · intro w hSw; go_simp; first | done | (with_reducible rfl)
              try simp only [PPz]
              refine tkd 8 ?_
              try simp only [PPz]
              refine tkd 9 ?_
              try simp only [PPz]
              refine tkd 10 ?_
              try simp only [PPz]
              refine tkd 11 ?_
              try simp only [PPz]
              refine tkm 12 rfl hHeld (fun w hSw => by have ku0 := keepC hSw u0; have ku1 := keepC hSw u1; have ku2 := keepC hSw u2; have ku3 := keepC hSw u3; have ku4 := keepC hSw u4; go_simp <;> with_reducible rfl) ?_
              try simp only [PPz]
              refine tkd 13 ?_
              try simp only [PPz]
              refine tkd 14 ?_
              try simp only [PPz]
              refine tkd 15 ?_
              try simp only [PPz]
              refine tkn 16 (.bool false) rfl ?_ hHeld ?_
              · intro w hSw; go_simp; first | done | (with_reducible rfl)
              try simp only [PPz]
              refine tkd 17 ?_
              try simp only [PPz]
              refine tkd 18 ?_
              try simp only [PPz]
              refine tkd 19 ?_
              try simp only [PPz]
              refine tkd 20 ?_
              try simp only [PPz]
              refine tkd 21 ?_
              try simp only [PPz]
              refine tkm 22 rfl hHeld (fun w hSw => by have ku0 := keepC hSw u0; have ku1 := keepC hSw u1; have ku2 := keepC hSw u2; have ku3 := keepC hSw u3; have ku4 := keepC hSw u4; go_simp <;> with_reducible rfl) ?_
              try simp only [PPz]
              refine tkd 23 ?_
              try simp only [PPz]
              refine tkd 24 ?_
              try simp only [PPz]
              refine tkm 25 rfl hHeld (fun w hSw => by have ku0 := keepC hSw u0; have ku1 := keepC hSw u1; have ku2 := keepC hSw u2; have ku3 := keepC hSw u3; have ku4 := keepC hSw u4; go_simp <;> with_reducible rfl) ?_
              try simp only [PPz]
              refine tkd 26 ?_
              try simp only [PPz]
              refine tkd 27 ?_
              try simp only [PPz]
              refine tkd 28 ?_
              try simp only [PPz]
              refine tkm 29 rfl hHeld (fun w hSw => by have ku0 := keepC hSw u0; have ku1 := keepC hSw u1; have ku2 := keepC hSw u2; have ku3 := keepC hSw u3; have ku4 := keepC hSw u4; go_simp <;> with_reducible rfl) ?_
              try simp only [PPz]
              refine tkd 30 ?_
              try simp only [PPz]
              refine tkd 31 ?_
              try simp only [PPz]
              refine tkd 32 ?_
              try simp only [PPz]
              refine tkm 33 rfl hHeld (fun w hSw => by have ku0 := keepC hSw u0; have ku1 := keepC hSw u1; have ku2 := keepC hSw u2; have ku3 := keepC hSw u3; have ku4 := keepC hSw u4; go_simp <;> with_reducible rfl) ?_
              try simp only [PPz]
              refine tkd 34 ?_
              try simp only [PPz]
              refine tkm 35 rfl hHeld (fun w hSw => by have ku0 := keepC hSw u0; have ku1 := keepC hSw u1; have ku2 := keepC hSw u2; have ku3 := keepC hSw u3; have ku4 := keepC hSw u4; go_simp <;> with_reducible rfl) ?_
              try simp only [PPz]
              refine tkn 36 (.bool false) rfl ?_ hHeld ?_
              · intro w hSw; go_simp; first | done | (with_reducible rfl)
              try simp only [PPz]
              refine tkd 37 ?_
              try simp only [PPz]
              refine wpAnyH_done (by kernel_rfl) ?_ _
              refine NoPanic.normal ?_
              go_wp2_with fail
              go_roundw
              case rel => exact ⟨m + 1, by omega, by go_num, Lib.hid (keepB HW.out hHeld)⟩
              case measure => simp [intOf]; omega
            · obtain rfl : m = V.length := by omega
              have c0 := keepC HW.out C0.out
              have hbb := keepB HBB.out HW.out
              clear HW HBB C0 HY HZ BW LT
              rcases As.gvld_ne (V := V) (a := a) with _ | ⟨_, hno⟩
              · by_cases hy : As.gvB V a g x = true
                · have hg := of_decide_eq_true hy
                  obtain ⟨y1, y2, y3, y4⟩ := hg
                  obtain ⟨k, rfl⟩ := Int.eq_ofNat_of_zero_le y1
                  have hk : k < a.length := by omega
                  have hsa := As.set_al HAL.out (g := k) (x := x) (by rw [← HAL.out.len]; exact hk) ⟨y3, y4⟩
                  have hvs : As.gvld V (a.set k x) = 0 := As.gvld_al HCK.out hsa
                  have hls : (a.set k x).length = a.length := by rw [List.length_set]
                  have hbd := HAL.out.bd k (by rw [← HAL.out.len]; exact hk)
                  have hgb : As.gvB V (a.set k x) (k : Int) (As.el a k) = true := decide_eq_true ⟨by omega, by rw [hls]; omega, hbd.1, hbd.2⟩
                  have hbk := As.set_back hk x
                  have hes : As.el (a.set k x) k = x := by rw [As.el_set hk, if_pos rfl]
                  have HK2 := Lib.hid (fun v D c (hv : Below w.heap.size w v) (hD : IsI v D (a.set k x)) => rgValid_any A cv V D c (a.set k x) v HMG.out (HM0.out.keep hv) (by rw [hls]; exact ha) hD)
                  have CG2 := Lib.hid (fun v D c (hv : Below w.heap.size w v) (hD : IsI v D (a.set k x)) => gGive_any A cv V D c (a.set k x) (k : Int) (As.el a k) v HMG.out (HM0.out.keep hv) (by rw [hls]; exact ha) hD (HAI.out.bd k))
                  unfold LsQ at CG CG2
                  simp only [As.gvS_yes H0.out hy, As.gvE_yes H0.out hy, Int.toNat_natCast, hls] at CG
                  simp only [As.gvS_yes hvs hgb, As.gvE_yes hvs hgb, Int.toNat_natCast, hls, hbk] at CG2
                  simp only [hvs, hls] at HK2
                  have d1 : decide ((k : Int) < 0) = false := decide_eq_false (by omega)
                  have d2 : decide ((a.length : Int) ≤ (k : Int)) = false := decide_eq_false (by omega)
                  have i1 : (k : Int) < (a.length : Int) := y2
                  have e4 : (x != x) = false := by simp
                  have HES := Lib.hid hes
                  have HLS := Lib.hid hls
                  clear hsa hvs hgb hbk hes hbd hy hls y1 y2 y3 y4
                  go_wp2_with fail
                  refine (CG.out _ hbb).mono ?_
                  rintro e w11 ⟨D, cd, rfl, hD, hb11⟩
                  have HD := Lib.hid hD
                  replace c0 := keepC hb11 c0
                  replace hbb := keepB hbb hb11
                  clear hb11 hD CG
                  go_wp2_with fail
                  refine (HK2.out _ D cd hbb HD.out).mono ?_
                  rintro e w12 ⟨rfl, hb12⟩
                  replace HD := Lib.hid (HD.out.keep hb12)
                  replace c0 := keepC hb12 c0
                  replace hbb := keepB hbb hb12
                  clear hb12 HK2
                  obtain ⟨db, do_, rfl, hdc⟩ := HD.out.1 (by rw [HLS.out]; omega)
                  have t0 := hdc k (by rw [HLS.out]; exact hk)
                  rw [HES.out] at t0
                  obtain ⟨ab, ao, rfl, hac⟩ := HAI.out.1 (by omega)
                  have HK := Lib.hid (fun v (hv : Below w12.heap.size w12 v) => (show v.cell? ⟨w.heap.size, 0, none⟩ = some (.slice A V.length cv) ∧ v.cell? ⟨ab, ao + k, none⟩ = some (.int .i64 (As.el a k)) from ⟨keepC hv c0, keepC (keepB hbb hv) (hac k hk)⟩))
                  have HBB := Lib.hid hbb
                  have hb0 := Below.refl w12.heap.size w12
                  clear hdc hac hbb
                  generalize As.el a k = y at *
                  go_wp2_with fail
                  clear t0 c0
                  go_upto_region 27 with fail
                  go_region_held3 (fun v => v.cell? ⟨w.heap.size, 0, none⟩ = some (.slice A V.length cv) ∧ v.cell? ⟨ab, ao + k, none⟩ = some (.int .i64 y))
                    (first | (exact HK.out _ (by assumption)) | (exact HK.out _ (Below.drew (by assumption))))
                    (first
                      | (go_at_call 26; refine (CG2.out _ _ cd (by first | exact HBB.out | exact HBB.out.drew) (by first | exact HD.out | exact HD.out.keep (Below.refl _ _).drew)).mono ?_; rintro e w13 ⟨E, ce, rfl, hE, hb13⟩; have hw13 : Below w.heap.size w w13 := (by first | exact keepB HBB.out hb13 | exact keepB HBB.out.drew hb13); have hq13 : Below w12.heap.size w12 w13 := (by first | exact hb13 | exact keepB (Below.refl _ _).drew hb13)))
                  all_goals
                    go_wp2_with fail
                    refine (HS.out _ E ce hE hw13).mono ?_
                    rintro e w14 ⟨rfl, hb14⟩
                    have hw14 := keepB hw13 hb14
                    clear hb14 hw13
                    go_wp2_with fail
                    go_ret
                    exact ⟨rfl, hw14⟩
                · have hy : As.gvB V a g x = false := by simpa using hy
                  unfold LsQ at CG
                  simp only [As.gvS_arg hy, As.gvE_arg H0.out hy] at CG
                  clear hy
                  go_wp2_with fail
                  refine (CG.out _ hbb).mono ?_
                  rintro e w11 ⟨D, cd, rfl, -, hb11⟩
                  replace hbb := keepB hbb hb11
                  clear hb11 CG c0
                  go_wp2_with fail
                  go_ret
                  exact ⟨rfl, hbb⟩
              · exact absurd H0.out hno
end Go.Proofs.Ytfpaefnaidppmaa

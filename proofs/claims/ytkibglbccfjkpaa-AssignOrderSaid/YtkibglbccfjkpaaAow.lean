/- AssignOrder's walk. -/
import Derived.Test.YtkibglbccfjkpaaAon
import Derived.Deep.RegionLawGrows
namespace Go.Proofs.Ytkibglbccfjkpaa
open Go.RowKit
theorem Tw.base {w w2 W : World} {B n m : Nat} {F : Nat → Nat → Int} {v : Value} {H C : Nat → Nat} (t : Tw w2 W B n m F v H C) (hb : Below w.heap.size w w2) : Tw w W B n m F v H C :=
  ⟨keepB hb t.bb, ⟨Nat.le_trans hb.size t.hB.1, t.hB.2⟩, t.own, t.rows, t.ds, t.top⟩
set_option linter.unusedSimpArgs false in
set_option maxRecDepth 100000 in
set_option maxHeartbeats 16000000 in
theorem aorder_core (A : Option Addr) (cv : Nat) (V : List (List Int)) (B : Option Addr) (ca : Nat) (ord : List Nat) (it : Nat) (more : Int) (w : World) (hl : V.length ≤ maxLen) (h : IsM w A V) (hB : IsI w B (As.al ord)) (h0 : As.chk V = 0) (ho : ord.Perm (List.range V.length)) (hit : it < V.length) (hm0 : 0 ≤ more) (hm1 : more ≤ 1000000) :
    Calls Try.prog 9 #[.slice A V.length cv, .slice B V.length ca, .int .i64 it, .int .i64 more] w fun e w' => e = .returned (.bool true) ∧ Below w.heap.size w w' := by
  have ok := As.chk_ok h0
  have ht := As.bst_top ok
  have n1 := ok.n1
  have n6 := ok.n6
  obtain ⟨q1, q2⟩ := As.perm_lt ho
  have okp := As.po_ok ok ord
  have hpl : (As.po V ord).length = V.length := by unfold As.po; rw [mm_len]
  have hgl : (As.gro V it more).length = V.length := by unfold As.gro; rw [mm_len]
  have CAl := Lib.hid (asAlive_any w)
  have CF := fun v (hv : Below w.heap.size w v) => fit_any A cv V v hl (h.keep hv)
  rw [show As.ftB V = true by unfold As.ftB; rw [h0]; rfl] at CF
  have HCF := Lib.hid CF
  have CA := fun v (hv : Below w.heap.size w v) => rAssigned_any B ca (As.al ord) V.length v (by rw [As.al_len, q1]; exact hl) (hB.keep hv)
  rw [As.perm_isA ho, As.al_len, q1] at CA
  have HCA := Lib.hid CA
  have HTW := Lib.hid (fun v (hv : Below w.heap.size w v) => rTwin_any A cv V v n1 (by omega) ok.row (h.keep hv))
  have hbt := As.wr_top ok
  have e1 := As.bsv_ok ok
  have CB := Lib.hid (fun v (hv : Below w.heap.size w v) => show Calls Try.prog 12 #[.slice A V.length cv] v (fun e v' => ∃ D c k, e = .returned (.tuple #[.slice D k c, .int .i64 (As.bsv V), .int .i64 0]) ∧ Below v.heap.size v v') from (asBest_any A cv V v hl (h.keep hv)).mono fun e v' hq => by
    obtain ⟨D, c, hd, hI, hb⟩ := hq
    rw [h0] at hd
    exact ⟨D, c, _, hd, hb⟩)
  have CB2 := Lib.hid (fun v g cg (hM : IsM v (some ⟨g, 0, none⟩) (As.po V ord)) => show Calls Try.prog 12 #[.slice (some ⟨g, 0, none⟩) V.length cg] v (fun e v' => ∃ D c k, e = .returned (.tuple #[.slice D k c, .int .i64 (As.bsv V), .int .i64 0]) ∧ Below v.heap.size v v') from by
    have hq := asBest_any (some ⟨g, 0, none⟩) cg (As.po V ord) v (by rw [hpl]; exact hl) hM
    rw [hpl] at hq
    refine hq.mono fun e v' hq => ?_
    obtain ⟨D, c, hd, hI, hb⟩ := hq
    rw [As.ok_chk okp, As.po_bsv ok ho okp] at hd
    exact ⟨D, c, _, hd, hb⟩)
  have CP := Lib.hid (fun v (hv : Below w.heap.size w v) => show Calls Try.prog 14 #[.slice A V.length cv] v (fun e v' => ∃ D c, e = .returned (.tuple #[.slice D V.length c, .int .i64 0]) ∧ IsI v' D (As.prl V) ∧ Below v.heap.size v v') from (asPrices_any A cv V v hl (h.keep hv)).mono fun e v' hq => by
    obtain ⟨D, c, hd, hI, hb⟩ := hq
    rw [As.prl_ok ok, As.lp_len ht, h0] at hd
    exact ⟨D, c, hd, hI, hb⟩)
  have CF2 := Lib.hid (fun v g cg (hM : IsM v (some ⟨g, 0, none⟩) (As.gro V it more)) => show Calls Try.prog 28 #[.slice (some ⟨g, 0, none⟩) V.length cg] v (fun e v' => e = .returned (.bool (As.ftB (As.gro V it more))) ∧ Below v.heap.size v v') from by
    have := fit_any (some ⟨g, 0, none⟩) cg (As.gro V it more) v (by rw [hgl]; exact hl) hM
    rwa [hgl] at this)
  have HG := Lib.hid (show As.ftB (As.gro V it more) = true → (∀ v g cg, IsM v (some ⟨g, 0, none⟩) (As.gro V it more) → Calls Try.prog 12 #[.slice (some ⟨g, 0, none⟩) V.length cg] v (fun e v' => ∃ D c k, e = .returned (.tuple #[.slice D k c, .int .i64 (As.bsv V + more), .int .i64 0]) ∧ Below v.heap.size v v')) ∧
      (∀ v g cg, IsM v (some ⟨g, 0, none⟩) (As.gro V it more) → Calls Try.prog 14 #[.slice (some ⟨g, 0, none⟩) V.length cg] v (fun e v' => ∃ D c, e = .returned (.tuple #[.slice D V.length c, .int .i64 0]) ∧ IsI v' D (As.prl (As.gro V it more)) ∧ Below v.heap.size v v')) ∧
      As.el (As.prl (As.gro V it more)) it ≤ As.el (As.prl V) it + more ∧ (As.prl (As.gro V it more)).length = V.length ∧ 0 ≤ As.el (As.prl (As.gro V it more)) it ∧ As.el (As.prl (As.gro V it more)) it ≤ 1000000 from fun hf => by
    have hcg : As.chk (As.gro V it more) = 0 := by unfold As.ftB at hf; simpa using hf
    have okg := As.chk_ok hcg
    have htg := As.bst_top okg
    have hall := As.gro_all ok hit hm0 okg
    have hlen : (As.prl (As.gro V it more)).length = V.length := by rw [As.prl_ok okg, As.lp_len htg, hgl]
    refine ⟨fun v g cg hM => ?_, fun v g cg hM => ?_, hall.2, hlen, ?_, ?_⟩
    · have hq := asBest_any (some ⟨g, 0, none⟩) cg (As.gro V it more) v (by rw [hgl]; exact hl) hM
      rw [hgl] at hq
      refine hq.mono fun e v' hq => ?_
      obtain ⟨D, c, hd, hI, hb⟩ := hq
      rw [hcg, hall.1] at hd
      exact ⟨D, c, _, hd, hb⟩
    · have hq := asPrices_any (some ⟨g, 0, none⟩) cg (As.gro V it more) v (by rw [hgl]; exact hl) hM
      rw [hgl] at hq
      refine hq.mono fun e v' hq => ?_
      obtain ⟨D, c, hd, hI, hb⟩ := hq
      rw [hlen, hcg] at hd
      exact ⟨D, c, hd, hI, hb⟩
    · rw [As.prl_ok okg]; exact As.lp_nn htg it
    · rw [As.prl_ok okg]; exact As.lp_bound htg (by rw [hgl]; omega) okg.bd (by rw [hgl]; exact hit))
  have hpb : 0 ≤ As.el (As.prl V) it ∧ As.el (As.prl V) it ≤ 1000000 := by
    rw [As.prl_ok ok]; exact ⟨As.lp_nn ht it, As.lp_bound ht (by omega) ok.bd hit⟩
  have HPL := Lib.hid (show (As.prl V).length = V.length by rw [As.prl_ok ok, As.lp_len ht])
  have HPOM := Lib.hid (show ∀ (W : World) (B2 g cap : Nat) (H C : Nat → Nat), Tw w W B2 V.length V.length (fun i j => As.vl V i (ord.getD j 0)) (.slice (some ⟨g, 0, none⟩) V.length cap) H C → IsM W (some ⟨g, 0, none⟩) (As.po V ord) from fun W B2 g cap H C t => t.isM hl (fun i j _ _ => by have := ok.bd i (ord.getD j 0); unfold I64; omega))
  have HGRM := Lib.hid (show ∀ (W : World) (B1 g cap : Nat) (H C : Nat → Nat), Tw w W B1 V.length V.length (fun i j => if i < V.length ∧ j = it then As.vl V i j + more else As.vl V i j) (.slice (some ⟨g, 0, none⟩) V.length cap) H C → IsM W (some ⟨g, 0, none⟩) (As.gro V it more) from fun W B1 g cap H C t => by
    have t' := t.cong (G := fun i j => if j = it then As.vl V i j + more else As.vl V i j) (fun i j hi _ => by
      by_cases e : j = it
      · rw [if_pos ⟨hi, e⟩, if_pos e]
      · rw [if_neg (fun h => e h.2), if_neg e])
    exact t'.isM hl (fun i j _ _ => by have := ok.bd i j; unfold I64; split <;> omega))
  have HOKV := Lib.hid ok
  have HQ2 := Lib.hid q2
  obtain ⟨b, off, rfl, hrows⟩ := h (by omega)
  obtain ⟨ob, oo, rfl, hac⟩ := hB.1 (by rw [As.al_len]; omega)
  have HR := Lib.hid hrows
  have HA := Lib.hid (show ∀ i, i < V.length → w.cell? ⟨ob, oo + i, none⟩ = some (.int .i64 ((ord.getD i 0 : Nat) : Int)) from fun i hi => by
    have := hac i (by rw [As.al_len]; omega)
    rwa [As.el_al] at this)
  obtain ⟨i0, hi0, hz0, hz1, hz2⟩ := info_parts intInfo
  have HI := Lib.hid hi0
  have HI2 := Lib.hid hz0
  have HI3 := Lib.hid hz1
  have HI4 := Lib.hid hz2
  obtain ⟨j0, kj0, kz0, kz1, kz2⟩ := info_parts rowInfo
  have HJ := Lib.hid kj0
  have HJ2 := Lib.hid kz0
  have HJ3 := Lib.hid kz1
  have HJ4 := Lib.hid kz2
  rw [← e1] at hbt
  obtain ⟨hbt1, hbt2⟩ := hbt
  generalize As.bsv V = nv at *
  have HFG : Hid (As.ftB (As.gro V it more) = true ∨ As.ftB (As.gro V it more) = false) := Lib.hid (by cases As.ftB (As.gro V it more) <;> simp)
  clear hi0 hz0 hz1 hz2 kj0 kz0 kz1 kz2 h hB hrows hac ok okp ht CF CA q1 q2 e1 hpl hgl h0 ho
  have d1 : decide ((it : Int) < 0) = false := by rw [decide_eq_false_iff_not]; omega
  have d2 : decide (V.length ≤ it) = false := by rw [decide_eq_false_iff_not]; omega
  have d3 : decide (more < 0) = false := by rw [decide_eq_false_iff_not]; omega
  have d4 : decide (1000000 < more) = false := by rw [decide_eq_false_iff_not]; omega
  go_enter Try.func9, Try.ntmps9
  go_wp2_with fail
  refine CAl.out.mono ?_
  rintro e w1 ⟨rfl, hbb⟩
  clear CAl
  go_wp2_with fail
  refine (HCF.out _ hbb).mono ?_
  rintro e w9 ⟨rfl, hb9⟩
  have hbb9 := keepB hbb hb9
  clear hb9
  replace hbb := hbb9
  clear hbb9
  go_wp2_with fail
  refine (HCA.out _ hbb).mono ?_
  rintro e w9 ⟨rfl, hb9⟩
  have hbb9 := keepB hbb hb9
  clear hb9
  replace hbb := hbb9
  clear hbb9
  go_wp2_with fail
  refine (HTW.out _ hbb).mono ?_
  rintro e w3 ⟨v1, H1, C1, rfl, hT⟩
  obtain ⟨g1, cap1, rfl, hg1⟩ := hT.form (by omega)
  obtain ⟨B1, hB1⟩ : ∃ B1, w9.heap.size = B1 := ⟨_, rfl⟩
  rw [hB1] at hT
  obtain ⟨B2, hB2⟩ : ∃ B2, w3.heap.size = B2 := ⟨_, rfl⟩
  have HOG := Lib.hid (show Og w w3 V ord it more B1 B2 0 0 (.slice (some ⟨g1, 0, none⟩) V.length cap1) (.slice none 0 0) H1 C1 (fun _ => 0) (fun _ => 0) from
    ⟨(hT.base hbb).cong fun i j _ _ => by simp, Tw.nil _ _ _ _ _ _ _ (hT.base hbb).bb ⟨by rw [← hB2]; exact (hT.base hbb).bb.size, by omega⟩, fun i hi => by rw [← hB2]; exact (hT.rows i hi).2.lt, fun b hb => by rw [← hB2]; exact (World.ownsRow.lt hT.own b hb).2, by rw [← hB2]; exact hT.hB.2⟩)
  clear hT hg1 hB1 hB2 hbb HTW HCF HCA d1 d2 d3 d4
  go_wp2_with fail
  go_loopw [10, 12] (fun v2 i W => ∃ k : Nat, k ≤ V.length ∧ i = .int .i64 k ∧ ∃ H2 C2, Hid (Og w W V ord it more B1 B2 k k (.slice (some ⟨g1, 0, none⟩) V.length cap1) v2 H1 C1 H2 C2)) (fun _ i _ => V.length - (intOf i).toNat)
  case atStart => exact ⟨0, Nat.zero_le _, rfl, _, _, HOG⟩
  case round =>
    clear HOG
    obtain ⟨k, hk, rfl, H2, C2, HOG⟩ := hrel
    by_cases hlt : k < V.length
    · obtain ⟨R, c, hc, hrl, hI⟩ := HR.out k hlt
      rw [HOKV.out.row k hlt] at hc
      obtain ⟨rb, ro, rfl, hcs⟩ := hI.1 (by rw [HOKV.out.row k hlt]; omega)
      have HCS := Lib.hid (show ∀ j, j < V.length → w.cell? ⟨rb, ro + j, none⟩ = some (.int .i64 (As.vl V k j)) from fun j hj => hcs j (by rw [HOKV.out.row k hlt]; omega))
      have HC1 := Lib.hid hc
      obtain ⟨B3, hB3⟩ : ∃ B3, wr.heap.size = B3 := ⟨_, rfl⟩
      have HOR := Lib.hid (hB3 ▸ Or.new HOG.out)
      clear hcs hI hrl hc hB3
      go_wp2_with fail
      go_loopw [13, 14] (fun v3 j W => ∃ m : Nat, m ≤ V.length ∧ j = .int .i64 m ∧ Hid (Or w W V ord it more B1 B2 B3 k m (.slice (some ⟨g1, 0, none⟩) V.length cap1) u10 v3 H1 C1 H2 C2)) (fun _ j _ => V.length - (intOf j).toNat)
      case atStart => exact ⟨0, Nat.zero_le _, rfl, HOR⟩
      case round =>
        clear HOR
        obtain ⟨m, hm, rfl, HOR⟩ := hrel
        have hbb := HOR.out.og.g.bb
        by_cases hltm : m < V.length
        · have c1 := keepC hbb HC1.out
          have c2 := keepC hbb (HA.out m hltm)
          have hoj := HQ2.out m hltm
          have c3 := keepC hbb (HCS.out _ hoj)
          have l1 := lt_of_cell c1
          have l2 := lt_of_cell c2
          have l3 := lt_of_cell c3
          have HAPP := Lib.hid (show ∀ (W' : World) (g cap : Nat) (o : Obj), (wr.alloc o).drew.grownBy W' u13.ownBlock → W'.ownsRow B3 3 1 (.slice (some ⟨g, 0, none⟩) (m + 1) cap) (m + 1) ((List.range m).map (fun j => Value.int .i64 (As.vl V k (ord.getD j 0))) ++ [.int .i64 (As.vl V k (ord.getD m 0))]) → Or w W' V ord it more B1 B2 B3 k (m + 1) (.slice (some ⟨g1, 0, none⟩) V.length cap1) u10 (.slice (some ⟨g, 0, none⟩) (m + 1) cap) H1 C1 H2 C2 from fun W' g cap o hgr hown => (HOR.out.keep ((below_al (Below.refl _ _) o).drew)).app hgr hown)
          have hO := HOR.out.own
          have hBW := HOR.out.hB.2
          generalize As.vl V k (ord.getD m 0) = x at *
          generalize ord.getD m 0 = oj at *
          have i1 : (k : Int) < (V.length : Int) := by omega
          have i2 : (m : Int) < (V.length : Int) := by omega
          have i3 : (oj : Int) < (V.length : Int) := by omega
          go_upto_region 13 with fail
          go_region_law (refine step_append_lies _ (by rfl) _ _ _ (by rfl) B3 3 i0 _ 1 8 Try.underlying25 HI.out HI2.out HI3.out HI4.out rfl (by omega) u13 m ((List.range m).map fun j => Value.int .i64 (As.vl V k (ord.getD j 0))) (by rfl) (World.ownsRow.alloc hO _) ⟨wr.heap.size, 0, none⟩ 1 1 [.int .i64 x] (by rfl) (by rfl) (World.news_of_block (cs := #[.int .i64 x]) (t := 3) (fr := (0, 0)) (heap_alloc_new wr _)) (by simp [Value.oneCell']) (by omega) (by unfold maxLen; omega) (by omega) (by simp; omega) (wr.heap.size + 1) (by simp) ?_; intro g cap w4 hown2 hgrow2 hat2 hlt2)
          all_goals
            have HNEW := Lib.hid (HAPP.out _ _ _ _ hgrow2 hown2)
            clear hgrow2 hown2 hat2 hlt2 c1 c2 c3 hO HAPP
            go_wp2_with fail
            go_roundw
            case rel => exact ⟨m + 1, by omega, by go_num, HNEW⟩
            case measure => simp [intOf]; omega
        · obtain rfl : m = V.length := by omega
          obtain ⟨h, c3, rfl, -⟩ := own_block HOR.out.own (by omega)
          have hB2 := HOR.out.og.p.hB.2
          clear hbb
          go_upto_region 15 with (at_builtin; go_loud (refine wpList_append_lies _ rfl _ _ _ rfl B2 25 j0 _ 1 24 Try.underlying22 HJ.out HJ2.out HJ3.out HJ4.out rfl (by omega) _ k (rvs V.length H2 C2 k) (by rfl) (HOR.out.keep (below_al (Below.refl _ _) _)).og.p.own ⟨wr.heap.size, 0, none⟩ 1 1 [.slice (some ⟨h, 0, none⟩) V.length c3] (by rfl) (by rfl) (World.news_of_block (cs := #[.slice (some ⟨h, 0, none⟩) V.length c3]) (t := 25) (fr := (0, 0)) (heap_alloc_new wr _)) (by simp [Value.oneCell']) (by omega) (by unfold maxLen; omega) (by omega) (by simp; omega) (wr.heap.size + 1) (by simp) ?_; intro g cap w4 hown2 hgrow2 hat2 hlt2))
          all_goals
            have HOG2 := Lib.hid (HOR.out.row (by omega) hgrow2 hown2 hat2)
            clear hgrow2 hown2 hat2 hlt2 hB2
            obtain ⟨g', cap', hv, -, -, -, hcl⟩ := HOG2.out.g.form (by omega)
            simp only [Value.slice.injEq, Option.some.injEq, Addr.mk.injEq] at hv
            obtain ⟨⟨rfl, -, -⟩, -, rfl⟩ := hv
            have x1 := hcl k hlt
            have x2 := (HOG2.out.g.rows k hlt).2.c hit
            have x3 := (HOG2.out.g.rows k hlt).2.f hit
            rw [if_neg (fun h => Nat.lt_irrefl _ h.1)] at x2
            have b1 := HOKV.out.bd k it
            have HPUT := Lib.hid (HOG2.out.put hlt)
            clear hcl HOG2 HOR
            generalize As.vl V k it = x at *
            generalize H1 k = hk1 at x1 x2 x3 HPUT
            generalize C1 k = ck1 at x1
            obtain ⟨b11, b12⟩ := b1
            go_wp2_with fail
            go_roundw
            case rel => exact ⟨k + 1, by omega, by go_num, _, _, HPUT⟩
            case measure => simp [intOf]; omega
    · obtain rfl : k = V.length := by omega
      obtain ⟨g2, cap2, rfl, -⟩ := HOG.out.p.form (by omega)
      have HMP := Lib.hid (HPOM.out _ _ _ _ _ _ HOG.out.p)
      have HMG := Lib.hid (HGRM.out _ _ _ _ _ _ HOG.out.g)
      have hbb := HOG.out.g.bb
      have g0 : (nv != nv) = false := by simp
      have g9 : ((V.length : Int) != V.length) = false := by simp
      clear HOG HPOM HGRM HR HA HQ2 HI HI2 HI3 HI4 HJ HJ2 HJ3 HJ4
      go_wp2_with fail
      refine (CB.out _ hbb).mono ?_
      rintro e w9 ⟨D1, k1, k2, rfl, hb9⟩
      have hbb9 := keepB hbb hb9
      replace HMP := Lib.hid (HMP.out.keep hb9)
      replace HMG := Lib.hid (HMG.out.keep hb9)
      clear hb9
      replace hbb := hbb9
      clear hbb9
      go_wp2_with fail
      refine (CB2.out _ _ _ HMP.out).mono ?_
      rintro e w9 ⟨D2, k3, k4, rfl, hb9⟩
      have hbb9 := keepB hbb hb9
      replace HMG := Lib.hid (HMG.out.keep hb9)
      clear hb9
      replace hbb := hbb9
      clear hbb9
      clear HMP CB CB2
      rcases HFG.out with hf | hf
      · obtain ⟨cg1, cg2, hle, hql, hq0, hq1⟩ := HG.out hf
        have CG1 := Lib.hid cg1
        have CG2 := Lib.hid cg2
        have HQL := Lib.hid hql
        rw [hf] at CF2
        clear hf cg1 cg2 hql HG HFG
        go_wp2_with fail
        refine (CF2.out _ _ _ HMG.out).mono ?_
        rintro e w9 ⟨rfl, hb9⟩
        have hbb9 := keepB hbb hb9
        replace HMG := Lib.hid (HMG.out.keep hb9)
        clear hb9
        replace hbb := hbb9
        clear hbb9
        go_wp2_with fail
        refine (CG1.out _ _ _ HMG.out).mono ?_
        rintro e w9 ⟨D3, k5, k6, rfl, hb9⟩
        have hbb9 := keepB hbb hb9
        replace HMG := Lib.hid (HMG.out.keep hb9)
        clear hb9
        replace hbb := hbb9
        clear hbb9
        go_wp2_with fail
        refine (CP.out _ hbb).mono ?_
        rintro e w9 ⟨D4, k7, rfl, hI4, hb9⟩
        have hbb9 := keepB hbb hb9
        replace HMG := Lib.hid (HMG.out.keep hb9)
        clear hb9
        replace hbb := hbb9
        clear hbb9
        have I4 := Lib.hid hI4
        clear hI4
        go_wp2_with fail
        refine (CG2.out _ _ _ HMG.out).mono ?_
        rintro e w9 ⟨D5, k8, rfl, hI5, hb9⟩
        have hbb9 := keepB hbb hb9
        replace HMG := Lib.hid (HMG.out.keep hb9)
        replace I4 := Lib.hid (I4.out.keep hb9)
        clear hb9
        replace hbb := hbb9
        clear hbb9
        obtain ⟨pb, po, rfl, hp⟩ := I4.out.1 (by rw [HPL.out]; omega)
        obtain ⟨qb, qo, rfl, hq⟩ := hI5.1 (by rw [HQL.out]; omega)
        have x1 := hp it (by rw [HPL.out]; exact hit)
        have x2 := hq it (by rw [HQL.out]; exact hit)
        clear hp hq hI5 I4 HMG CG1 CG2 CP CF2 HPL HQL
        generalize As.el (As.prl (As.gro V it more)) it = y at *
        generalize As.el (As.prl V) it = x at *
        obtain ⟨hx0, hx1⟩ := hpb
        have i1 : (it : Int) < (V.length : Int) := by omega
        have g1 : decide (y ≤ x + more) = true := decide_eq_true hle
        have g3 : ((nv + more) != (nv + more)) = false := by simp
        have a1 : IntKind.i64.wrap (x + more) = x + more := IntWalk.i64_in _ (by omega)
        clear hle
        go_upto_region 27 with fail
        go_quiet (fail)
        go_wp2_with fail
        go_ret
        exact ⟨rfl, below_drewN hbb _⟩
      · rw [hf] at CF2
        clear hf HG HFG
        go_wp2_with fail
        refine (CF2.out _ _ _ HMG.out).mono ?_
        rintro e w9 ⟨rfl, hb9⟩
        have hbb9 := keepB hbb hb9
        clear hb9
        replace hbb := hbb9
        clear hbb9
        go_wp2_with fail
        go_ret
        exact ⟨rfl, hbb⟩
end Go.Proofs.Ytkibglbccfjkpaa

/- The law HalveSame. -/
import Derived.Test.YtmfnlapoefihkaaGreatHvw
import Derived.Test.YtmfnlapoefihkaaGreatHvy
namespace Go.Proofs.YtmfnlapoefihkaaGreat
open Go.RowKit
/-- A run's pieces, by their agents. -/
def PN.cells (q : Int × Int × Int × Int) : List Value := [.int .i64 q.1, .int .i64 q.2.1, .int .i64 q.2.2.1, .int .i64 q.2.2.2]
structure PN (v : World) (Pp nn : Nat) (G : Nat → Nat) (S : Nat → Int × Int × Int × Int) : Prop where
  p : BK v Pp ((List.range nn).map fun k => .slice (some ⟨G k, 0, none⟩) 1 1)
  s : ∀ k, k < nn → BK v (G k) (PN.cells (S k))
theorem PN.keep {v v' : World} {Pp nn : Nat} {G : Nat → Nat} {S : Nat → Int × Int × Int × Int} (h : PN v Pp nn G S) (hb : Below v.heap.size v v') : PN v' Pp nn G S := ⟨h.p.keep hb, fun k hk => (h.s k hk).keep hb⟩
theorem rnor_val {len : Int} {c d : List Int} (h : Ck.chk len c d = 0) : Ck.rnorS len c d = (len, Ck.nC c d d.length ++ [len], Ck.nD d d.length, 0) := by
  rw [Ck.rnorS_eq]
  unfold Ck.norS
  rw [if_pos h]
set_option linter.unusedSimpArgs false in
set_option maxHeartbeats 8000000 in
set_option maxRecDepth 100000 in
theorem hsame_walk (A : Option Addr) (ca : Nat) (cs : List CkR) (w : World) (h : IsCs w A cs) :
    Calls Tryz.prog 4 #[.slice A cs.length ca] w fun e w' => e = .returned (.bool true) ∧ Below w.heap.size w w' := by
  have ft := Hv.fit_any A ca cs w h
  cases hft : Hv.fitP (cs.map Ak.dat)
  case false =>
    rw [hft] at ft; have FT := Lib.hid ft; clear ft hft h
    go_enter Tryz.func4, Tryz.ntmps4
    (go_wp2_with fail); refine FT.out.mono ?_; rintro e w1 ⟨rfl, hb⟩; (go_wp2_with fail); refine (alive9_any _).mono ?_; rintro e w2 ⟨rfl, hb2⟩; (go_wp2_with fail)
    go_ret
    exact ⟨rfl, keepB hb hb2⟩
  rw [hft] at ft; have hc := Hv.fit_of hft; obtain ⟨D, hD⟩ : ∃ z, cs.map Ak.dat = z := ⟨_, rfl⟩; rw [hD] at hc; have hgd := Ak.chkS_good hc; have hn6 := hgd.l1; have hn1 := hgd.l0; obtain ⟨nn, hnn⟩ : ∃ z, cs.length = z := ⟨_, rfl⟩
  have hDl : D.length = nn := by rw [← hD, List.length_map, hnn]
  obtain ⟨n, hn⟩ : ∃ z : Int, z = (D.length : Nat) := ⟨_, rfl⟩; obtain ⟨len, hlen⟩ : ∃ z, (Ak.dAt D 0).1 = z := ⟨_, rfl⟩; rw [hDl] at hn6 hn1; have hdq := Hv.nor_deq hc; have hall := Hv.run_all hc hn hlen 6 (List.range nn) 0 1 len 1 1 [] (by simp <;> omega) (Hv.top_inv hc hn hlen hDl); have hall2 := Hv.run_all hdq.ck' rfl (hdq.ln0 hlen) 6 (List.range nn) 0 1 len 1 1 [] (by simp <;> omega) (Hv.top_inv hdq.ck' rfl (hdq.ln0 hlen) (by rw [← hdq.dl]; exact hDl)); have hsm := Hv.run_same hdq hn hlen 6 (List.range nn) 0 1 len 1 1 [] (by simp <;> omega) (Hv.top_inv hc hn hlen hDl)
  have run := fun v (hv : Below w.heap.size w v) => hvrun_any D len nn A ca cs v (h.keep hv) hD hc hnn hlen hall.1
  have run2 := fun v P cp l (hl : l.length = nn) (hd : l.map Ak.dat = D.map Hv.norD) (hC : IsCs v P l) => hvrun_any (D.map Hv.norD) len nn P cp l v hC hd hdq.ck' hl (hdq.ln0 hlen) hall2.1
  rw [← hsm] at run2; have hag := Hv.run_ag 6 _ _ _ _ _ _ hall.1; have lgl := Hv.top_len hc hn hlen hDl; obtain ⟨-, -, -, hch, -⟩ := hall
  generalize Hv.run D len 6 (List.range nn) 0 1 len 1 [] = R at *
  obtain ⟨LL, T⟩ := R; dsimp only at hag hch lgl
  unfold RunH at run run2
  dsimp only at run run2
  have hbg := fun i (hi : i < nn) => Hv.begins hag hch hi
  have pn := fun v Pp G (hB : BK v Pp (Hv.pvs nn T G (fun _ => Value.slice none 0 0))) (hG : ∀ t ∈ T, BK v (G t.1) (Hv.spc t)) => (PN.mk (S := Hv.spOf T) (by rw [Hv.pvs_all hag] at hB; exact hB) (fun k hk => Hv.sp_all hag hG hk) : PN v Pp nn G (Hv.spOf T))
  have sm := fun v Pp Rp G G' (h1 : PN v Pp nn G (Hv.spOf T)) (h2 : PN v Rp nn G' (Hv.spOf T)) => sameDivN_eq Pp Rp nn G G' (Hv.spOf T) v hn6 h1.p h2.p h1.s h2.s
  have sl := fun v Q Q' cq cq' (h1 : IsQs v Q LL) (h2 : IsQs v Q' LL) => rSameLogs_any Q Q' cq cq' LL LL v h1 h2
  rw [show decide (LL = LL) = true by simp] at sl; obtain ⟨m, hm⟩ : ∃ z, LL.length = z := ⟨_, rfl⟩; rw [hm] at sl
  have hnor : ∀ k (hk : k < nn), Ck.chk (Ak.cat cs k).len (Ak.cat cs k).cuts (Ak.cat cs k).dens = 0 ∧ (D.map Hv.norD).take (k + 1) = (D.map Hv.norD).take k ++ [((Ak.cat cs k).len, Ck.nC (Ak.cat cs k).cuts (Ak.cat cs k).dens (Ak.cat cs k).dens.length ++ [(Ak.cat cs k).len], Ck.nD (Ak.cat cs k).dens (Ak.cat cs k).dens.length)] := fun k hk => by
    have hk2 : k < cs.length := by omega
    have e : D[k]? = some (Ak.dat (Ak.cat cs k)) := by
      rw [← hD, List.getElem?_map, Ak.cat_lt hk2]
      simp [hk2]
    refine ⟨hgd.all (Ak.dat (Ak.cat cs k)) (List.mem_of_getElem? e), ?_⟩; rw [List.take_add_one, List.getElem?_map, e]
    rfl
  obtain ⟨bb0, oo, hA, hcc⟩ := h.at_; have HI := Lib.hid (fun k (hk : k < nn) => (h.all _ (Ak.cat_mem (l := cs) (by omega : k < cs.length)))); obtain ⟨i0, hi0, hz0, hz1, hz2⟩ := info_parts cakeInfo; have HIN := Lib.hid hi0; have HIZ := Lib.hid hz0; have HS1 := Lib.hid hz1; have HS2 := Lib.hid hz2; rw [hnn] at ft hA hcc ⊢; have hA' := hA (by omega); subst hA'
  have hnn2 : ((nn : Int) != (nn : Int)) = false := by simp
  have HC := Lib.hid hcc; have FT := Lib.hid ft; have RUN := Lib.hid run; have RUN2 := Lib.hid run2; have PNN := Lib.hid pn; have SM := Lib.hid sm; have SL := Lib.hid sl; have HM := Lib.hid hm; have HNOR := Lib.hid hnor; have HBG := Lib.hid hbg; have HDL := Lib.hid hDl; clear ft run run2 pn sm sl hm hnor hbg hcc hA h hD hc hgd hn hlen hdq hall2 hsm hag lgl hch hft hi0 hz0 hz1 hz2 hnn hDl
  generalize Hv.spOf T = S at *
  go_enter Tryz.func4, Tryz.ntmps4
  (go_wp2_with fail); refine FT.out.mono ?_; rintro e w1 ⟨rfl, hb⟩; have hbb := hb; clear hb FT; (go_wp2_with fail)
  go_loopw [3, 4] (fun v i W => ∃ (k : Nat) (rv : Value) (l : List CkR), k ≤ nn ∧ i = .int .i64 k ∧ v = rv ∧ l.length = k ∧ l.map Ak.dat = (D.map Hv.norD).take k ∧ CRow w w.heap.size 44 rv l W) (fun _ i _ => nn - (intOf i).toNat)
  case atStart => exact ⟨0, _, [], Nat.zero_le _, rfl, rfl, rfl, rfl, ⟨hbb, Nat.le_refl _, hbb.size, World.ownsRow_nil _ _ _ _, fun c hc => by cases hc⟩⟩
  case round =>
    clear hbb; obtain ⟨k, rv, l, hk, rfl, rfl, hlk, hdat, hcr⟩ := hrel; have hbb := hcr.bb
    by_cases hlt : k < nn
    · have hl9 : l.length ≤ 9 := by omega
      have HLK := Lib.hid hlk; have HDAT := Lib.hid hdat; clear hlk hdat; obtain ⟨c, hcc⟩ : ∃ c, Ak.cat cs k = c := ⟨_, rfl⟩; have hno := HNOR.out k hlt; have c0 := keepC hbb (HC.out k hlt).1; have c1 := keepC hbb (HC.out k hlt).2.1; have c2 := keepC hbb (HC.out k hlt).2.2; have hi := HI.out k hlt; rw [hcc] at c0 c1 c2 hi hno; obtain ⟨hck, htk⟩ := hno; have hGd := Ck.nor_good (Ck.chk_good hck); have hi64 := Hv.good_i64 hGd; have hshape := hGd.shape
      have i1 : (0 : Int) ≤ (k : Int) := by omega
      have i2 : (k : Int) < (nn : Int) := by omega
      have nm := fun v (hv : Below w.heap.size w v) => rckNormal_any c.len c.K c.cuts c.ck c.Z c.dens c.cz v (hi.keep hv)
      rw [rnor_val hck] at nm; have NM := Lib.hid nm; have HLEN := Lib.hid hi.1; have HTK := Lib.hid htk; have H64 := Lib.hid hi64; obtain ⟨nc, hnc⟩ : ∃ z, Ck.nC c.cuts c.dens c.dens.length ++ [c.len] = z := ⟨_, rfl⟩; obtain ⟨nd, hnd⟩ : ∃ z, Ck.nD c.dens c.dens.length = z := ⟨_, rfl⟩; rw [hnc, hnd] at NM HTK H64 hshape; obtain ⟨clen, hclen⟩ : ∃ z, c.len = z := ⟨_, rfl⟩; rw [hclen] at NM HTK HLEN hnc hGd hck c0; dsimp only at NM; have HSH := Lib.hid hshape; clear hi hcc nm htk hi64 hck hGd hnc hnd hclen hshape; (go_wp2_with fail); refine (NM.out _ hbb).mono ?_; rintro e w2 ⟨v1, v2, rfl, o1, o2, -, hb1⟩; obtain ⟨A1, p1, rfl⟩ := o1.form; obtain ⟨A2, p2, rfl⟩ := o2.form
      have hrb := fun g e => (World.ownsRow.lt hcr.row g e).2
      have g1 : IsG w2 w.heap.size u3.ownBlock A1 nc := (IsG.of_own o1 H64.out.1 hrb).mono hbb.size; have g2 : IsG w2 w.heap.size u3.ownBlock A2 nd := (IsG.of_own o2 H64.out.2 hrb).mono hbb.size; have hcr1 := hcr.keep hb1; clear c0 c1 c2 o1 o2 hrb hcr hbb NM
      go_upto_region 10 with fail
      refine at_worldQ (fun v => CRow w w.heap.size 44 u3 l v ∧ IsG v w.heap.size u3.ownBlock A1 nc ∧ IsG v w.heap.size u3.ownBlock A2 nd ∧ BK v w2.heap.size [.int .i64 clen, .slice A1 nc.length p1, .slice A2 nd.length p2]) ⟨hcr1.keep (below_al (Below.refl _ _) _), g1.keep (below_al (Below.refl _ _) _), g2.keep (below_al (Below.refl _ _) _), BK.new _ _ _⟩ (fun V hS => ?_); clear hcr1 g1 g2 hb1; obtain ⟨hcr1, g1, g2, BX⟩ := hS
      generalize w2.heap.size = px at *
      have x0 := BX.c 0 rfl; have x1 := BX.c 1 rfl; have x2 := BX.c 2 rfl; have HCR := Lib.hid hcr1; have HG := Lib.hid (And.intro g1 g2); obtain ⟨a1, ha1⟩ : ∃ z, nc.length = z := ⟨_, rfl⟩; obtain ⟨a2, ha2⟩ : ∃ z, nd.length = z := ⟨_, rfl⟩; rw [ha1] at x1; rw [ha2] at x2; have HA1 := Lib.hid ha1; have HA2 := Lib.hid ha2; clear hcr1 g1 g2 BX ha1 ha2
      go_wp2_with (at_builtin; refine wpList_append_lies _ rfl _ _ _ rfl w.heap.size 44 i0 _ 3 56 Tryz.underlying22 HIN.out HIZ.out HS1.out HS2.out rfl (by omega) u3 l.length (Ak.cellsC l) (by rfl) (row_keep HCR.out.row (below_al (Below.refl _ _) _)) ⟨V.heap.size, 0, none⟩ 1 1 (Ak.cells ⟨clen, A1, nc, p1, A2, nd, p2⟩) (by rfl) (by rfl) (fun j u hj => by rw [Addr.add_lit, Nat.zero_add]; unfold Ak.cells at hj; dsimp only at hj; rw [HA1.out, HA2.out] at hj; exact (BK.new V [.int .i64 clen, .slice A1 a1 p1, .slice A2 a2 p2] 44).c j hj) (by intro u hu; simp [Ak.cells] at hu; rcases hu with rfl | rfl | rfl <;> rfl) (by omega) (by unfold maxLen; omega) (by omega) (by rw [World.size_alloc]; have := HCR.out.hB; omega) (V.heap.size + 1) (by simp) ?_; intro g cap w2 hown hgrow hat hglt)
      have hA1 := below_al (Below.refl V.heap.size V) (.cells #[.int .i64 clen, .slice A1 a1 p1, .slice A2 a2 p2] 44); have hC := HCR.out.app (c := ⟨clen, A1, nc, p1, A2, nd, p2⟩) hA1 ⟨HLEN.out, ⟨show nc.length ≤ maxLen by have := HSH.out; unfold maxLen; omega, show nd.length ≤ maxLen by have := HSH.out; unfold maxLen; omega⟩, HG.out.1.keep hA1, HG.out.2.keep hA1⟩ hown hgrow (by rw [World.size_alloc]; exact hat); have HC2 := Lib.hid hC
      have HD2 := Lib.hid (show (l ++ [(⟨clen, A1, nc, p1, A2, nd, p2⟩ : CkR)]).map Ak.dat = (D.map Hv.norD).take (k + 1) by
        rw [List.map_append, HDAT.out, HTK.out]
        rfl)
      have HL2 := Lib.hid (show (l ++ [(⟨clen, A1, nc, p1, A2, nd, p2⟩ : CkR)]).length = k + 1 by simp [HLK.out]); clear hC hA1 hown hgrow hat hglt HG HCR HDAT x0 x1 x2
      go_roundw
      case rel => exact ⟨k + 1, _, _, by omega, by go_num, rfl, HL2.out, HD2.out, HC2.out⟩
      case measure => simp [intOf]; omega
    obtain rfl : k = nn := by omega
    have hdat2 : l.map Ak.dat = D.map Hv.norD := hdat.trans (List.take_of_length_le (by rw [List.length_map, HDL.out]; omega)); have hrow := hcr.row; rw [hlk] at hrow; obtain ⟨gC, capC, rfl, -, -⟩ := World.ownsRow.form hrow (by omega); have hCs := Lib.hid (hcr.isCs hlk.symm (by rw [hlk]; unfold maxLen; omega)); have RN2 := Lib.hid (fun v (hv : IsCs v (some ⟨gC, 0, none⟩) l) => RUN2.out v (some ⟨gC, 0, none⟩) capC l hlk hdat2 hv); clear hdat hdat2 hrow hlk hcr RUN2 HC HI HNOR HDL; (go_wp2_with fail); refine (RUN.out _ hbb).mono ?_; rintro e w2 ⟨Pp, Q, nq, cq, G, rfl, hb, hnq, hq, hpp, hpg⟩; rw [HM.out] at hnq; subst hnq; have hpn := PNN.out _ Pp G hpp hpg; have hcs := hCs.out.keep hb; replace hbb := keepB hbb hb; clear hb hpp hpg RUN hCs
    go_upto_region 12 with fail
    refine at_worldQ (fun v => Below w.heap.size w v ∧ BK v w2.heap.size [.slice (some ⟨Pp, 0, none⟩) k k] ∧ PN v Pp k G S ∧ IsQs v Q LL ∧ IsCs v (some ⟨gC, 0, none⟩) l) ⟨below_al hbb _, BK.new _ _ _, hpn.keep (below_al (Below.refl _ _) _), hq.keep (below_al (Below.refl _ _) _), hcs.keep (below_al (Below.refl _ _) _)⟩ (fun V2 hS => ?_); clear hbb hpn hq hcs; obtain ⟨hbb, B7, hpn, hq, hcs⟩ := hS
    generalize w2.heap.size = p7 at *
    have R2 := Lib.hid (RN2.out V2 hcs); have HQ := Lib.hid hq; clear hcs RN2 hq; (go_wp2_with fail); refine R2.out.mono ?_; rintro e w3 ⟨Rp, Q', nq', cq', G', rfl, hb, hnq, hq', hpp, hpg⟩; rw [HM.out] at hnq; subst hnq; have hpn' := PNN.out _ Rp G' hpp hpg; replace hbb := keepB hbb hb; replace B7 := B7.keep hb; replace hpn := hpn.keep hb; have hq2 := HQ.out.keep hb; clear hb hpp hpg R2 HQ PNN
    go_upto_region 13 with fail
    refine at_worldQ (fun v => Below w.heap.size w v ∧ BK v p7 [.slice (some ⟨Pp, 0, none⟩) k k] ∧ BK v w3.heap.size [.slice (some ⟨Rp, 0, none⟩) k k] ∧ PN v Pp k G S ∧ PN v Rp k G' S ∧ IsQs v Q LL ∧ IsQs v Q' LL) ⟨below_al hbb _, B7.al _, BK.new _ _ _, hpn.keep (below_al (Below.refl _ _) _), hpn'.keep (below_al (Below.refl _ _) _), hq2.keep (below_al (Below.refl _ _) _), hq'.keep (below_al (Below.refl _ _) _)⟩ (fun V3 hS => ?_); clear hbb B7 hpn hpn' hq2 hq'; obtain ⟨hbb, B7, B10, hpn, hpn', hq, hq'⟩ := hS
    generalize w3.heap.size = p10 at *
    have SME := Lib.hid (SM.out V3 Pp Rp G G' hpn hpn'); have SLE := Lib.hid (fun v (hv : Below V3.heap.size V3 v) => SL.out v Q Q' cq cq' (hq.keep hv) (hq'.keep hv)); clear hpn' hq hq' SM SL; have x7 := B7.c 0 rfl; have x10 := B10.c 0 rfl; (go_wp2_with fail); refine SME.out.mono ?_; rintro e w4 ⟨rfl, hb⟩; have hb4 := hb; replace hbb := keepB hbb hb; replace B7 := B7.keep hb; replace hpn := hpn.keep hb; clear hb x7 x10 B10 SME; have x7 := B7.c 0 rfl; (go_wp2_with fail); refine (SLE.out _ hb4).mono ?_; rintro e w5 ⟨rfl, hb⟩; replace hbb := keepB hbb hb; replace B7 := B7.keep hb; replace hpn := hpn.keep hb; clear hb hb4 x7 SLE; have x7 := B7.c 0 rfl; (go_wp2_with fail); clear x7
    go_loopw [13] (fun i W => ∃ i' : Nat, i' ≤ k ∧ i = .int .i64 i' ∧ Below w.heap.size w W ∧ BK W p7 [.slice (some ⟨Pp, 0, none⟩) k k] ∧ PN W Pp k G S) (fun i _ => k - (intOf i).toNat)
    case atStart => exact ⟨0, Nat.zero_le _, rfl, hbb, B7, hpn⟩
    case round =>
      clear hbb B7 hpn; obtain ⟨i, hi, rfl, hbb, B7, hpn⟩ := hrel
      by_cases hin : i < k
      · have x0 := B7.c 0 rfl
        have yi := hpn.p.c i (x := .slice (some ⟨G i, 0, none⟩) 1 1) (by simp [hin]); have Bi := hpn.s i hin; have r0 := Bi.c 0 rfl
        have i1 : (0 : Int) ≤ (i : Int) := by omega
        have i2 : (i : Int) < (k : Int) := by omega
        have HB := Lib.hid (HBG.out i hin); clear Bi
        have hstart : ((S i).1 == 0) = true ∨ (((S i).1 == 0) = false ∧ ¬ (S i).1 = 0) := by
          by_cases g : (S i).1 = 0
          · exact .inl (by simp [g])
          · exact .inr ⟨by simp [g], g⟩
        generalize hbq : ((S i).1 == 0) = bq at *
        (go_wp2_with fail); clear x0 yi r0
        go_loopw [14, 15] (fun b j W => ∃ (q : Nat) (bb : Bool), q ≤ k ∧ j = .int .i64 q ∧ b = .bool bb ∧ (bb = true ∨ (bb = false ∧ ¬ (S i).1 = 0 ∧ ∀ z, z < q → ¬ ((S z).2.2.1 = (S i).1 ∧ (S z).2.2.2 = (S i).2.1))) ∧ Below w.heap.size w W ∧ BK W p7 [.slice (some ⟨Pp, 0, none⟩) k k] ∧ PN W Pp k G S) (fun _ j _ => k - (intOf j).toNat)
        case atStart =>
          refine ⟨0, bq, Nat.zero_le _, rfl, rfl, ?_, hbb, B7, hpn⟩
          rcases hstart with e | ⟨e, g⟩
          · exact .inl e
          · exact .inr ⟨e, g, fun z hz => by omega⟩
        case round =>
          clear hbb B7 hpn hstart hbq; obtain ⟨q, bb, hq, rfl, rfl, hbs, hbb, B7, hpn⟩ := hrel
          by_cases hqn : q < k
          · have j1 : (0 : Int) ≤ (q : Int) := by omega
            have j2 : (q : Int) < (k : Int) := by omega
            rcases hbs with rfl | ⟨rfl, hz, hno⟩
            · go_upto_region 24 with fail
              refine at_worldQ (fun v => Below w.heap.size w v ∧ BK v p7 [.slice (some ⟨Pp, 0, none⟩) k k] ∧ PN v Pp k G S) ⟨hbb, B7, hpn⟩ (fun V hS => ?_); clear hbb B7 hpn; obtain ⟨hbb, B7, hpn⟩ := hS; refine wp_region_noPanic ?_; refine wp_region_held_drew (S := (Below V.heap.size V)) (by kernel_rfl) ((Below.refl _ _).drew) (fun hHeld => ?_); refine at_anyH (Below V.heap.size V) hHeld (fun wt0 hNew => ?_); clear hHeld; have hHeld := hNew; clear hNew; refine tkd 0 rfl hHeld ?_; (try simp only [PPz]); refine tkd 1 rfl hHeld ?_; (try simp only [PPz]); refine tkns 2 rfl hHeld ?_; (try simp only [PPz]); refine tkns 3 rfl hHeld ?_; (try simp only [PPz]); refine tkns 4 rfl hHeld ?_; (try simp only [PPz]); refine tkns 5 rfl hHeld ?_; (try simp only [PPz]); refine tkns 6 rfl hHeld ?_; (try simp only [PPz]); refine tkns 7 rfl hHeld ?_; (try simp only [PPz]); refine tkns 8 rfl hHeld ?_; (try simp only [PPz]); refine tkns 9 rfl hHeld ?_; (try simp only [PPz]); refine tkns 10 rfl hHeld ?_; (try simp only [PPz]); refine tkns 11 rfl hHeld ?_; (try simp only [PPz]); refine tkns 12 rfl hHeld ?_; (try simp only [PPz]); refine tkns 13 rfl hHeld ?_; (try simp only [PPz]); refine tkns 14 rfl hHeld ?_; (try simp only [PPz]); refine tkns 15 rfl hHeld ?_; (try simp only [PPz]); refine tkns 16 rfl hHeld ?_; (try simp only [PPz]); refine tkns 17 rfl hHeld ?_; (try simp only [PPz]); refine tkns 18 rfl hHeld ?_; (try simp only [PPz]); refine tkns 19 rfl hHeld ?_; (try simp only [PPz]); refine tkns 20 rfl hHeld ?_; (try simp only [PPz]); refine tkns 21 rfl hHeld ?_; (try simp only [PPz]); refine tkns 22 rfl hHeld ?_; (try simp only [PPz]); refine tkns 23 rfl hHeld ?_; (try simp only [PPz]); refine tkns 24 rfl hHeld ?_; (try simp only [PPz]); refine tkns 25 rfl hHeld ?_; (try simp only [PPz]); refine tkns 26 rfl hHeld ?_; (try simp only [PPz]); refine tkns 27 rfl hHeld ?_; (try simp only [PPz]); refine tkd 28 rfl hHeld ?_; (try simp only [PPz]); refine tkd 29 rfl hHeld ?_; (try simp only [PPz]); refine wpAnyH_done (by kernel_rfl) ?_ _; refine NoPanic.normal ?_; replace hbb := keepB hbb hHeld; replace B7 := B7.keep hHeld; replace hpn := hpn.keep hHeld; clear hHeld; (go_wp2_with fail)
              go_roundw
              case rel => exact ⟨q + 1, true, by omega, by go_num, rfl, .inl rfl, hbb, B7, hpn⟩
              case measure => simp [intOf]; omega
            · go_upto_region 24 with fail
              refine at_worldQ (fun v => Below w.heap.size w v ∧ BK v p7 [.slice (some ⟨Pp, 0, none⟩) k k] ∧ PN v Pp k G S) ⟨hbb, B7, hpn⟩ (fun V hS => ?_); clear hbb B7 hpn; obtain ⟨hbb, B7, hpn⟩ := hS; have x0 := B7.c 0 rfl; have yq := hpn.p.c q (x := .slice (some ⟨G q, 0, none⟩) 1 1) (by simp [hqn]); have yi := hpn.p.c i (x := .slice (some ⟨G i, 0, none⟩) 1 1) (by simp [hin]); have Bq := hpn.s q hqn; have Bi := hpn.s i hin; have r0 := Bi.c 0 rfl; have r1 := Bi.c 1 rfl; have s0 := Bq.c 0 rfl; have s1 := Bq.c 1 rfl; have s2 := Bq.c 2 rfl; have s3 := Bq.c 3 rfl
              by_cases hM : (S q).2.2.1 = (S i).1 ∧ (S q).2.2.2 = (S i).2.1
              · rw [hM.1] at s2
                rw [hM.2] at s3; refine wp_region_noPanic ?_; refine wp_region_held_drew (S := (Below V.heap.size V)) (by kernel_rfl) ((Below.refl _ _).drew) (fun hHeld => ?_); refine at_anyH (Below V.heap.size V) hHeld (fun wy0 hNew => ?_); clear hHeld; have hHeld := hNew; clear hNew; refine tkd 0 rfl hHeld ?_; (try simp only [PPz]); refine tkd 1 rfl hHeld ?_; (try simp only [PPz]); refine tkd 2 rfl hHeld ?_; (try simp only [PPz]); refine tkm 3 rfl hHeld (fun w hSw => by have kx0 := keepC hSw x0; have kyq := keepC hSw yq; have kyi := keepC hSw yi; have ks0 := keepC hSw s0; have ks1 := keepC hSw s1; have ks2 := keepC hSw s2; have ks3 := keepC hSw s3; have kr0 := keepC hSw r0; have kr1 := keepC hSw r1; go_simp <;> with_reducible rfl) ?_; (try simp only [PPz]); refine tkd 4 rfl hHeld ?_; (try simp only [PPz]); refine tkd 5 rfl hHeld ?_; (try simp only [PPz]); refine tkm 6 rfl hHeld (fun w hSw => by have kx0 := keepC hSw x0; have kyq := keepC hSw yq; have kyi := keepC hSw yi; have ks0 := keepC hSw s0; have ks1 := keepC hSw s1; have ks2 := keepC hSw s2; have ks3 := keepC hSw s3; have kr0 := keepC hSw r0; have kr1 := keepC hSw r1; go_simp <;> with_reducible rfl) ?_; (try simp only [PPz]); refine tkd 7 rfl hHeld ?_; (try simp only [PPz]); refine tkd 8 rfl hHeld ?_; (try simp only [PPz]); refine tkd 9 rfl hHeld ?_; (try simp only [PPz]); refine tkd 10 rfl hHeld ?_; (try simp only [PPz]); refine tkm 11 rfl hHeld (fun w hSw => by have kx0 := keepC hSw x0; have kyq := keepC hSw yq; have kyi := keepC hSw yi; have ks0 := keepC hSw s0; have ks1 := keepC hSw s1; have ks2 := keepC hSw s2; have ks3 := keepC hSw s3; have kr0 := keepC hSw r0; have kr1 := keepC hSw r1; go_simp <;> with_reducible rfl) ?_; (try simp only [PPz]); refine tkd 12 rfl hHeld ?_; (try simp only [PPz]); refine tkd 13 rfl hHeld ?_; (try simp only [PPz]); refine tkm 14 rfl hHeld (fun w hSw => by have kx0 := keepC hSw x0; have kyq := keepC hSw yq; have kyi := keepC hSw yi; have ks0 := keepC hSw s0; have ks1 := keepC hSw s1; have ks2 := keepC hSw s2; have ks3 := keepC hSw s3; have kr0 := keepC hSw r0; have kr1 := keepC hSw r1; go_simp <;> with_reducible rfl) ?_; (try simp only [PPz]); refine tkd 15 rfl hHeld ?_; (try simp only [PPz]); refine tkd 16 rfl hHeld ?_; (try simp only [PPz]); refine tkm 17 rfl hHeld (fun w hSw => by have kx0 := keepC hSw x0; have kyq := keepC hSw yq; have kyi := keepC hSw yi; have ks0 := keepC hSw s0; have ks1 := keepC hSw s1; have ks2 := keepC hSw s2; have ks3 := keepC hSw s3; have kr0 := keepC hSw r0; have kr1 := keepC hSw r1; go_simp <;> with_reducible rfl) ?_; (try simp only [PPz]); refine tkd 18 rfl hHeld ?_; (try simp only [PPz]); refine tkm 19 rfl hHeld (fun w hSw => by have kx0 := keepC hSw x0; have kyq := keepC hSw yq; have kyi := keepC hSw yi; have ks0 := keepC hSw s0; have ks1 := keepC hSw s1; have ks2 := keepC hSw s2; have ks3 := keepC hSw s3; have kr0 := keepC hSw r0; have kr1 := keepC hSw r1; go_simp <;> with_reducible rfl) ?_; (try simp only [PPz]); refine tkd 20 rfl hHeld ?_; (try simp only [PPz]); refine tkd 21 rfl hHeld ?_; (try simp only [PPz]); refine tkm 22 rfl hHeld (fun w hSw => by have kx0 := keepC hSw x0; have kyq := keepC hSw yq; have kyi := keepC hSw yi; have ks0 := keepC hSw s0; have ks1 := keepC hSw s1; have ks2 := keepC hSw s2; have ks3 := keepC hSw s3; have kr0 := keepC hSw r0; have kr1 := keepC hSw r1; go_simp <;> with_reducible rfl) ?_; (try simp only [PPz]); refine tkd 23 rfl hHeld ?_; (try simp only [PPz]); refine tkd 24 rfl hHeld ?_; (try simp only [PPz]); refine tkm 25 rfl hHeld (fun w hSw => by have kx0 := keepC hSw x0; have kyq := keepC hSw yq; have kyi := keepC hSw yi; have ks0 := keepC hSw s0; have ks1 := keepC hSw s1; have ks2 := keepC hSw s2; have ks3 := keepC hSw s3; have kr0 := keepC hSw r0; have kr1 := keepC hSw r1; go_simp <;> with_reducible rfl) ?_; (try simp only [PPz]); refine tkd 26 rfl hHeld ?_; (try simp only [PPz]); refine tkd 27 rfl hHeld ?_; (try simp only [PPz]); refine tkd 28 rfl hHeld ?_; (try simp only [PPz]); refine tkd 29 rfl hHeld ?_; (try simp only [PPz]); refine wpAnyH_done (by kernel_rfl) ?_ _; refine NoPanic.normal ?_; replace hbb := keepB hbb hHeld; replace B7 := B7.keep hHeld; replace hpn := hpn.keep hHeld; clear hHeld; (go_wp2_with fail)
                go_roundw
                case rel => exact ⟨q + 1, true, by omega, by go_num, rfl, .inl rfl, hbb, B7, hpn⟩
                case measure => simp [intOf]; omega
              · refine wp_region_noPanic ?_
                refine wp_region_held_drew (S := (Below V.heap.size V)) (by kernel_rfl) ((Below.refl _ _).drew) (fun hHeld => ?_); refine at_anyH (Below V.heap.size V) hHeld (fun wn0 hNew => ?_); clear hHeld; have hHeld := hNew; clear hNew; refine tkd 0 rfl hHeld ?_; (try simp only [PPz]); refine tkd 1 rfl hHeld ?_; (try simp only [PPz]); refine tkd 2 rfl hHeld ?_; (try simp only [PPz]); refine tkm 3 rfl hHeld (fun w hSw => by have kx0 := keepC hSw x0; have kyq := keepC hSw yq; have kyi := keepC hSw yi; have ks0 := keepC hSw s0; have ks1 := keepC hSw s1; have ks2 := keepC hSw s2; have ks3 := keepC hSw s3; have kr0 := keepC hSw r0; have kr1 := keepC hSw r1; go_simp <;> with_reducible rfl) ?_; (try simp only [PPz]); refine tkd 4 rfl hHeld ?_; (try simp only [PPz]); refine tkd 5 rfl hHeld ?_; (try simp only [PPz]); refine tkm 6 rfl hHeld (fun w hSw => by have kx0 := keepC hSw x0; have kyq := keepC hSw yq; have kyi := keepC hSw yi; have ks0 := keepC hSw s0; have ks1 := keepC hSw s1; have ks2 := keepC hSw s2; have ks3 := keepC hSw s3; have kr0 := keepC hSw r0; have kr1 := keepC hSw r1; go_simp <;> with_reducible rfl) ?_; (try simp only [PPz]); refine tkd 7 rfl hHeld ?_; (try simp only [PPz]); refine tkd 8 rfl hHeld ?_; (try simp only [PPz]); refine tkd 9 rfl hHeld ?_; (try simp only [PPz]); refine tkd 10 rfl hHeld ?_; (try simp only [PPz]); refine tkm 11 rfl hHeld (fun w hSw => by have kx0 := keepC hSw x0; have kyq := keepC hSw yq; have kyi := keepC hSw yi; have ks0 := keepC hSw s0; have ks1 := keepC hSw s1; have ks2 := keepC hSw s2; have ks3 := keepC hSw s3; have kr0 := keepC hSw r0; have kr1 := keepC hSw r1; go_simp <;> with_reducible rfl) ?_; (try simp only [PPz]); refine tkd 12 rfl hHeld ?_; (try simp only [PPz]); refine tkd 13 rfl hHeld ?_; (try simp only [PPz]); refine tkm 14 rfl hHeld (fun w hSw => by have kx0 := keepC hSw x0; have kyq := keepC hSw yq; have kyi := keepC hSw yi; have ks0 := keepC hSw s0; have ks1 := keepC hSw s1; have ks2 := keepC hSw s2; have ks3 := keepC hSw s3; have kr0 := keepC hSw r0; have kr1 := keepC hSw r1; go_simp <;> with_reducible rfl) ?_; (try simp only [PPz]); refine tkd 15 rfl hHeld ?_; (try simp only [PPz]); refine tkd 16 rfl hHeld ?_; (try simp only [PPz]); refine tkm 17 rfl hHeld (fun w hSw => by have kx0 := keepC hSw x0; have kyq := keepC hSw yq; have kyi := keepC hSw yi; have ks0 := keepC hSw s0; have ks1 := keepC hSw s1; have ks2 := keepC hSw s2; have ks3 := keepC hSw s3; have kr0 := keepC hSw r0; have kr1 := keepC hSw r1; go_simp <;> with_reducible rfl) ?_; (try simp only [PPz]); refine tkd 18 rfl hHeld ?_; (try simp only [PPz]); refine tkm 19 rfl hHeld (fun w hSw => by have kx0 := keepC hSw x0; have kyq := keepC hSw yq; have kyi := keepC hSw yi; have ks0 := keepC hSw s0; have ks1 := keepC hSw s1; have ks2 := keepC hSw s2; have ks3 := keepC hSw s3; have kr0 := keepC hSw r0; have kr1 := keepC hSw r1; go_simp <;> with_reducible rfl) ?_; (try simp only [PPz]); refine tkd 20 rfl hHeld ?_; (try simp only [PPz]); refine tkd 21 rfl hHeld ?_; (try simp only [PPz]); refine tkm 22 rfl hHeld (fun w hSw => by have kx0 := keepC hSw x0; have kyq := keepC hSw yq; have kyi := keepC hSw yi; have ks0 := keepC hSw s0; have ks1 := keepC hSw s1; have ks2 := keepC hSw s2; have ks3 := keepC hSw s3; have kr0 := keepC hSw r0; have kr1 := keepC hSw r1; go_simp <;> with_reducible rfl) ?_; (try simp only [PPz]); refine tkd 23 rfl hHeld ?_; (try simp only [PPz]); refine tkd 24 rfl hHeld ?_; (try simp only [PPz]); refine tkm 25 rfl hHeld (fun w hSw => by have kx0 := keepC hSw x0; have kyq := keepC hSw yq; have kyi := keepC hSw yi; have ks0 := keepC hSw s0; have ks1 := keepC hSw s1; have ks2 := keepC hSw s2; have ks3 := keepC hSw s3; have kr0 := keepC hSw r0; have kr1 := keepC hSw r1; go_simp <;> with_reducible rfl) ?_; (try simp only [PPz]); refine tkn 26 (.bool false) rfl ?_ hHeld ?_
                · intro w hSw; go_simp; exact fun h1 h2 => hM ⟨h1, h2⟩
                (try simp only [PPz]); refine tkd 27 rfl hHeld ?_; (try simp only [PPz]); refine tkd 28 rfl hHeld ?_; (try simp only [PPz]); refine tkd 29 rfl hHeld ?_; (try simp only [PPz]); refine wpAnyH_done (by kernel_rfl) ?_ _; refine NoPanic.normal ?_; replace hbb := keepB hbb hHeld; replace B7 := B7.keep hHeld; replace hpn := hpn.keep hHeld; clear hHeld; (go_wp2_with fail)
                go_roundw
                case rel => exact ⟨q + 1, false, by omega, by go_num, rfl, .inr ⟨rfl, hz, fun k hk => by rcases Nat.lt_succ_iff_lt_or_eq.1 hk with g | rfl <;> first | exact hno k g | exact hM⟩, hbb, B7, hpn⟩
                case measure => simp [intOf]; omega
          · obtain rfl : q = k := by omega
            have hbt : bb = true := by
              rcases hbs with e | ⟨-, hz, hno⟩
              · exact e
              · rcases HB.out with g | ⟨z, hzk, g⟩
                · exact absurd g hz
                · exact absurd g (hno z hzk)
            subst hbt; clear hbs; (go_wp2_with fail)
            go_roundw
            case rel => exact ⟨i + 1, by omega, by go_num, hbb, B7, hpn⟩
            case measure => simp [intOf]; omega
      · obtain rfl : i = k := by omega
        (go_wp2_with fail); refine (alive9_any _).mono ?_; rintro e w6 ⟨rfl, hb⟩; (go_wp2_with fail)
        go_ret
        exact ⟨rfl, keepB hbb hb⟩
end Go.Proofs.YtmfnlapoefihkaaGreat

/- Package ask's copied. -/
import Derived.Test.YtniagnldiegamaaGreatGi
import Derived.Test.YtniagnldiegamaaGreatGj
namespace Go.Proofs.YtniagnldiegamaaGreat
open Go.RowKit
namespace Ak
theorem _root_.Go.Proofs.YtniagnldiegamaaGreat.row_gb {F : Nat → Prop} {V W : World} {B sz n : Nat} {e : TypeId} {v : Value} {cs : List Value} (h : V.ownsRow B e sz v n cs) (hg : GB F V W) (hn : ∀ g, v.ownBlock = some g → ¬ F g) : W.ownsRow B e sz v n cs := by
  refine ⟨h.1, ?_⟩
  rcases h.2 with h2 | ⟨g, cap, cur, h1, h2, h3, h4, h5, h6⟩
  · exact .inl h2
  · refine .inr ⟨g, cap, cur, h1, h2, ?_, h4, h5, h6⟩
    have hlt : g < V.heap.size := (Array.getElem?_eq_some_iff.1 h3).1; rw [hg.block g hlt (hn g (by rw [h1]; rfl))]; exact h3
theorem _root_.Go.Proofs.YtniagnldiegamaaGreat.row_far {V : World} {B sz n NB off : Nat} {e : TypeId} {v : Value} {cs : List Value} (h : V.ownsRow B e sz v n cs) (hne : v.ownBlock ≠ some NB) (u : Value) : (V.setCell ⟨NB, off, none⟩ u).ownsRow B e sz v n cs :=
  World.ownsRow.kept (row := some NB) h ⟨rfl, rfl, rfl, by simp [World.setCell], fun k _ hk => Below.heap_setCell V ⟨NB, off, none⟩ u k (fun e => hk (by rw [e]))⟩ (.inr hne)
end Ak
theorem CRow.set {w V : World} {B p o : Nat} {e : TypeId} {v : Value} {cs : List CkR} (h : CRow w B e v cs V) (hp : p < B) (hw : w.heap.size ≤ p) (u : Value) : CRow w B e v cs (V.setCell ⟨p, o, none⟩ u) :=
  ⟨below_st h.bb hw u, h.hw, by rw [World.size_setCell]; exact h.hB, row_far h.row (fun e => by have := (World.ownsRow.lt h.row p e).1; omega) u, fun c hc => (h.all c hc).set hp u⟩
theorem cakeInfo : (Tryz.prog.info? 67).map (fun i => (i.zero, i.size, i.bytes)) = some (some (.agg #[.int .i64 0, .slice none 0 0, .slice none 0 0]), 3, 56) := by kernel_rfl
set_option linter.unusedSimpArgs false in
set_option maxHeartbeats 8000000 in
set_option maxRecDepth 100000 in
theorem copied_any (A : Option Addr) (ca : Nat) (cs : List CkR) (Q : Option Addr) (qs : List Qr) (cq : Nat) (w : World) (h : IsCs w A cs) (hq : IsQs w Q qs) (hg : ∀ c ∈ cs, Ak.ckD (Ak.dat c) = 0) (hl6 : cs.length ≤ 6) (hl3 : qs.length ≤ 3000) :
    Calls Tryz.prog 63 #[.agg #[.slice A cs.length ca, .slice Q qs.length cq]] w fun e w' => ∃ (N : Nat) (rv lv : Value) (l : List CkR), e = .returned (.agg #[rv, lv]) ∧ l.map Ak.dat = cs.map Ak.dat ∧ CRow w (N + 1) 67 rv l w' ∧ w'.ownsRow w.heap.size 76 8 lv qs.length (Ak.cellsQ qs) ∧ ∀ g, lv.ownBlock = some g → g < N := by
  obtain ⟨bb, o, hA, hc⟩ := h.at_; have HC := Lib.hid hc; have HA := Lib.hid hA; have HI := Lib.hid (fun k (hk : k < cs.length) => And.intro (h.all _ (Ak.cat_mem hk)) (hg _ (Ak.cat_mem hk))); have QC := Lib.hid (fun v (hv : Below w.heap.size w v) => qclone_any Q cq qs v (hq.keep hv) hl3); obtain ⟨i0, hi0, hz0, hz1, hz2⟩ := info_parts cakeInfo; have HIN := Lib.hid hi0; have HIZ := Lib.hid hz0; have HS1 := Lib.hid hz1; have HS2 := Lib.hid hz2; clear h hq hg hc hA hi0 hz0 hz1 hz2
  go_enter Tryz.func63, Tryz.ntmps63
  go_upto_region 1 with fail
  refine at_worldQ (fun v => Below w.heap.size w v ∧ BK v w.heap.size [.slice A cs.length ca, .slice Q qs.length cq] ∧ BK v (w.heap.size + 1) [.slice none 0 0, .slice none 0 0]) ⟨below_al (below_al (Below.refl _ _) _) _, (BK.new w [.slice A cs.length ca, .slice Q qs.length cq] _).al _, by have b := BK.new (w.alloc (.cells #[.slice A cs.length ca, .slice Q qs.length cq] 118)) [.slice none 0 0, .slice none 0 0] 26; simpa only [World.size_alloc] using b⟩ (fun V0 hS => ?_); obtain ⟨hbb, BD, BR⟩ := hS; have p1 := BD.c 1 rfl; (go_wp2_with fail); refine (QC.out _ hbb).mono ?_; rintro e w1 ⟨lv, rfl, hacc⟩; obtain ⟨Q2, cq2, rfl, _⟩ := Ak.row_cap hacc.row; have hb1 := hacc.bb; have hlog : w1.ownsRow (w.heap.size + 2) 76 8 (Value.slice Q2 qs.length cq2) qs.length (Ak.cellsQ qs) := World.ownsRow.mono hacc.row (by have := BR.lt; omega)
  have hlv := fun g e => (World.ownsRow.lt hacc.row g e).2
  clear hacc p1 QC; replace hbb := keepB hbb hb1; replace BD := BD.keep hb1; replace BR := BR.keep hb1; clear hb1
  go_upto_region 2 with fail
  have hN0 : w.heap.size + 1 < w1.heap.size := BR.lt; refine at_worldQ (fun v => Below w.heap.size w v ∧ BK v w.heap.size [.slice A cs.length ca, .slice Q qs.length cq] ∧ BK v (w.heap.size + 1) [.slice none 0 0, .slice none 0 0] ∧ BK v w1.heap.size [.slice none 0 0, (Value.slice Q2 qs.length cq2)] ∧ v.ownsRow (w.heap.size + 2) 76 8 (Value.slice Q2 qs.length cq2) qs.length (Ak.cellsQ qs) ∧ w1.heap.size + 1 ≤ v.heap.size) ⟨below_al hbb _, BD.al _, BR.al _, BK.new w1 [.slice none 0 0, (Value.slice Q2 qs.length cq2)] _, row_keep hlog (below_al (Below.refl _ _) _), by simp⟩ (fun V1 hS => ?_); clear hbb BD BR hlog; obtain ⟨hbb, BD, BR, BN, hlog, hNs⟩ := hS
  generalize w1.heap.size = N at *
  have HLV := Lib.hid hlv; clear hlv; have p0 := BD.c 0 rfl; (go_wp2_with fail)
  go_loopw [15] (fun i W => ∃ (k : Nat) (rv : Value) (l : List CkR), k ≤ cs.length ∧ i = .int .i64 k ∧ l.length = k ∧ l.map Ak.dat = (cs.map Ak.dat).take k ∧ CRow w (N + 1) 67 rv l W ∧ BK W w.heap.size [.slice A cs.length ca, .slice Q qs.length cq] ∧ BK W (w.heap.size + 1) [.slice none 0 0, .slice none 0 0] ∧ BK W N [rv, (Value.slice Q2 qs.length cq2)] ∧ W.ownsRow (w.heap.size + 2) 76 8 (Value.slice Q2 qs.length cq2) qs.length (Ak.cellsQ qs)) (fun i _ => cs.length - (intOf i).toNat)
  case atStart => exact ⟨0, _, [], Nat.zero_le _, rfl, rfl, rfl, ⟨hbb, by omega, hNs, World.ownsRow_nil _ _ _ _, fun c hc => by cases hc⟩, BD, BR, BN, hlog⟩
  case round =>
    clear hbb BD BR BN hlog hNs p0; obtain ⟨k, rv, l, hk, rfl, hlk, hdat, hcr, BD, BR, BN, hlog⟩ := hrel; obtain ⟨R, cr, rfl, _⟩ := Ak.row_cap hcr.row; have HLK := Lib.hid hlk; have HDAT := Lib.hid hdat; have HNW := Lib.hid hcr.hw; have hN1 := hcr.hB; have hbb := hcr.bb; have hrow := hcr.row; have HALL := Lib.hid hcr.all; have HRB := Lib.hid (fun g e => (World.ownsRow.lt hcr.row g e).1)
    by_cases hlt : k < cs.length
    · have hl5 : l.length ≤ 5 := by omega
      clear hcr hlk hdat; have hA' := HA.out (by omega); subst hA'; obtain ⟨c, hcc⟩ : ∃ c, Ak.cat cs k = c := ⟨_, rfl⟩; have HCC := Lib.hid hcc; have c0 := keepC hbb (HC.out k hlt).1; have c1 := keepC hbb (HC.out k hlt).2.1; have c2 := keepC hbb (HC.out k hlt).2.2; have hi := HI.out k hlt; rw [hcc] at c0 c1 c2 hi; obtain ⟨hi, hgc⟩ := hi; have hG := Ck.chk_good (show Ck.chk c.len c.cuts c.dens = 0 from hgc); obtain ⟨hlen, hlens, iK, iZ⟩ := hi; obtain ⟨sh1, sh2, sh3⟩ := hG.shape
      have hK0 : 0 < c.cuts.length := by omega
      have hZ0 : 0 < c.dens.length := by omega
      have hK1 : c.cuts.length ≤ 1000 := by omega
      have hZ1 : c.dens.length ≤ 1000 := by omega
      obtain ⟨bK, oK, hKe, hKc⟩ := iK.1 hK0; obtain ⟨bZ, oZ, hZe, hZc⟩ := iZ.1 hZ0; have CK := Lib.hid (fun v (hv : Below w.heap.size w v) => (show Calls Tryz.prog 92 #[.slice c.K c.cuts.length c.ck] v fun e w' => ∃ u, e = .returned u ∧ Own w' v.heap.size u c.cuts ∧ Below v.heap.size v w' from hKe ▸ clone_any bK oK c.cuts.length c.ck c.cuts v rfl hK0 hK1 (fun i hi => keepC hv (hKc i hi)))); have CZ := Lib.hid (fun v (hv : Below w.heap.size w v) => (show Calls Tryz.prog 92 #[.slice c.Z c.dens.length c.cz] v fun e w' => ∃ u, e = .returned u ∧ Own w' v.heap.size u c.dens ∧ Below v.heap.size v w' from hZe ▸ clone_any bZ oZ c.dens.length c.cz c.dens v rfl hZ0 hZ1 (fun i hi => keepC hv (hZc i hi)))); have HIK := Lib.hid iK.2; have HIZ2 := Lib.hid iZ.2; have HLEN := Lib.hid (And.intro hlen hlens)
      have i1 : (0 : Int) ≤ (k : Int) := by omega
      have i2 : (k : Int) < (cs.length : Int) := by omega
      have hNlt := BN.lt; clear hcc hgc hG hlen hlens iK iZ sh1 sh2 sh3 hK0 hZ0 hK1 hZ1 hKe hKc hZe hZc
      go_upto_region 5 with fail
      refine at_worldQ (fun v => Below w.heap.size w v ∧ w.heap.size ≤ v.heap.size ∧ N + 1 ≤ v.heap.size ∧ v.heap.size = wr.heap.size + 1 ∧ BK v w.heap.size [.slice (some ⟨bb, o, none⟩) cs.length ca, .slice Q qs.length cq] ∧ BK v (w.heap.size + 1) [.slice none 0 0, .slice none 0 0] ∧ BK v N [(Value.slice R l.length cr), (Value.slice Q2 qs.length cq2)] ∧ v.ownsRow (N + 1) 67 3 (Value.slice R l.length cr) l.length (Ak.cellsC l) ∧ (∀ x ∈ l, IsCG v (N + 1) (Value.slice R l.length cr).ownBlock x) ∧ v.ownsRow (w.heap.size + 2) 76 8 (Value.slice Q2 qs.length cq2) qs.length (Ak.cellsQ qs) ∧ BK v wr.heap.size [.int .i64 c.len, .slice c.K c.cuts.length c.ck, .slice c.Z c.dens.length c.cz])
        ⟨below_al hbb _, (below_al hbb _).size, Nat.le_trans hN1 (by simp), by simp, BD.al _, BR.al _, BN.al _, row_keep hrow (below_al (Below.refl _ _) _), fun x hx => (HALL.out x hx).keep (below_al (Below.refl _ _) _), row_keep hlog (below_al (Below.refl _ _) _), BK.new wr [.int .i64 c.len, .slice c.K c.cuts.length c.ck, .slice c.Z c.dens.length c.cz] _⟩ (fun V hS => ?_)
      have hrl := fun g e => (World.ownsRow.lt hrow g e).2
      clear hbb BD BR BN hrow HALL hlog c0 c1 c2 hN1; obtain ⟨hbb, hBV, hN1, hVs, BD, BR, BN, hrow, hall, hlog, B5⟩ := hS
      generalize wr.heap.size = P5 at *
      have hnP : ¬ (P5 = N ∨ (Value.slice R l.length cr).ownBlock = some P5) := fun hh => hh.elim (fun e => by omega) (fun e => by have := hrl P5 e; omega)
      have c0 := B5.c 0 rfl; have c1 := B5.c 1 rfl; have c2 := B5.c 2 rfl; have HALL := Lib.hid hall; have LOG := Lib.hid hlog; have HF := Lib.hid (show ∀ k, (k = N ∨ (Value.slice R l.length cr).ownBlock = some k) → w.heap.size ≤ k from fun k hk => hk.elim (fun e => by omega) (fun e => by have := HRB.out k e; omega)); have hF := HF.out; clear hall hlog hrl B5; refine wp_region_noPanic ?_; refine wp_region_held_drew (S := (GB (fun k => k = N ∨ (Value.slice R l.length cr).ownBlock = some k) V)) (by kernel_rfl) ((GB.refl _ _).drew) (fun hHeld => ?_); refine at_anyH (fun u => GB (fun k => k = N ∨ (Value.slice R l.length cr).ownBlock = some k) V u ∧ BK u N [(Value.slice R l.length cr), (Value.slice Q2 qs.length cq2)] ∧ u.ownsRow (N + 1) 67 3 (Value.slice R l.length cr) l.length (Ak.cellsC l)) ⟨hHeld, BN.drew, World.ownsRow.drew hrow⟩ (fun W0 hNew => ?_); clear hHeld BN hrow; obtain ⟨hHeld, BN, hrow⟩ := hNew; refine tkd 0 ?_; refine tkd 2 ?_; (try simp only [PPz]); refine tkm 3 rfl hHeld (fun w hSw => by have kc0 := hSw.cell hnP c0; have kc1 := hSw.cell hnP c1; have kc2 := hSw.cell hnP c2; go_simp <;> with_reducible rfl) ?_; (try simp only [PPz]); refine tkd 4 ?_; (try simp only [PPz]); refine tkm 5 rfl hHeld (fun w hSw => by have kc0 := hSw.cell hnP c0; have kc1 := hSw.cell hnP c1; have kc2 := hSw.cell hnP c2; go_simp <;> with_reducible rfl) ?_; (try simp only [PPz]); refine tkd 7 ?_; (try simp only [PPz]); refine tkm 8 rfl hHeld (fun w hSw => by have kc0 := hSw.cell hnP c0; have kc1 := hSw.cell hnP c1; have kc2 := hSw.cell hnP c2; go_simp <;> with_reducible rfl) ?_; (try simp only [PPz]); refine rdy2 1 6 rfl rfl (fun K hK => ?_) (fun K hK => ?_)
      ·
        have n0 := BN.c 0 rfl; go_simp; clear n0; refine hK.out _ _ hHeld (fun hNew => ?_); replace hHeld := hNew; clear hNew hK K; (try simp only [PPz]); refine rdy1 6 rfl (fun K hK => ?_); go_simp; refine (CK.out _ (hHeld.toBelow hbb (fun k hk => hF k hk) hBV)).mono ?_; rintro e Wz9 ⟨u1, rfl, ow1, hb3⟩; obtain ⟨A1, p1, rfl⟩ := ow1.form; have g1 : IsG Wz9 (N + 1) (Value.slice R l.length cr).ownBlock A1 c.cuts := (IsG.of_own ow1 HIK.out (fun g hg => (World.ownsRow.lt hrow g hg).2)).mono (Nat.le_trans hN1 hHeld.size); clear ow1; (go_wp2_with fail); refine hK.out _ _ (hHeld.below hb3) (fun hNew => ?_); replace BN := BN.keep hb3; replace hrow := row_keep hrow hb3; replace hHeld := hNew; clear hNew hK K hb3; (try simp only [PPz]); refine rdy1 9 rfl (fun K hK => ?_); go_simp; refine (CZ.out _ (hHeld.toBelow hbb (fun k hk => hF k hk) hBV)).mono ?_; rintro e Wz10 ⟨u2, rfl, ow2, hb3⟩; obtain ⟨A2, p2, rfl⟩ := ow2.form; have g2 : IsG Wz10 (N + 1) (Value.slice R l.length cr).ownBlock A2 c.dens := (IsG.of_own ow2 HIZ2.out (fun g hg => (World.ownsRow.lt hrow g hg).2)).mono (Nat.le_trans hN1 hHeld.size); clear ow2; (go_wp2_with fail); refine hK.out _ _ (hHeld.below hb3) (fun hNew => ?_); replace g1 := g1.keep hb3; replace BN := BN.keep hb3; replace hrow := row_keep hrow hb3; replace hHeld := hNew; clear hNew hK K hb3; (try simp only [PPz]); refine tkd 10 ?_; (try simp only [PPz]); refine rdy1 11 rfl (fun K hK => ?_); go_simp; refine hK.out _ _ (hHeld.al _) (fun hNew => ?_); replace hHeld := hNew; clear hNew hK K; (try simp only [PPz]); refine at_anyH (fun u => GB (fun k => k = N ∨ (Value.slice R l.length cr).ownBlock = some k) V u ∧ BK u N [(Value.slice R l.length cr), (Value.slice Q2 qs.length cq2)] ∧ u.ownsRow (N + 1) 67 3 (Value.slice R l.length cr) l.length (Ak.cellsC l) ∧ IsG u (N + 1) (Value.slice R l.length cr).ownBlock A1 c.cuts ∧ IsG u (N + 1) (Value.slice R l.length cr).ownBlock A2 c.dens ∧ BK u Wz10.heap.size [.int .i64 c.len, .slice A1 c.cuts.length p1, .slice A2 c.dens.length p2]) ⟨hHeld, BN.al _, row_keep hrow (below_al (Below.refl _ _) _), g1.keep (below_al (Below.refl _ _) _), g2.keep (below_al (Below.refl _ _) _), BK.new _ _ _⟩ (fun Wz12 hS => ?_); clear hHeld BN hrow g1 g2; obtain ⟨hHeld, BN, hrow, g1, g2, BX⟩ := hS; obtain ⟨PX, hPX⟩ : ∃ PX, Wz10.heap.size = PX := ⟨_, rfl⟩; rw [hPX] at BX ⊢; clear hPX; refine rdy1 12 rfl (fun K hK => ?_); refine step_append_lies _ (by rfl) _ _ _ (by rfl) (N + 1) 67 i0 _ 3 56 Tryz.underlying22 HIN.out HIZ.out HS1.out HS2.out rfl (by omega) (Value.slice R l.length cr) l.length (Ak.cellsC l) (by rfl) hrow ⟨PX, 0, none⟩ 1 1 (Ak.cells ⟨c.len, A1, c.cuts, p1, A2, c.dens, p2⟩) (by rfl) (by rfl) (fun j u hj => by rw [Addr.add_lit, Nat.zero_add]; exact BX.c j hj) (by intro u hu; simp [Ak.cells] at hu; rcases hu with rfl | rfl | rfl <;> rfl) (by omega) (by unfold maxLen; omega) (by omega) (Nat.le_trans hN1 hHeld.size) _ rfl ?_; intro g cap Wz13 hown hgrow hat hglt
        have hnr : (Value.slice R l.length cr).ownBlock ≠ some N := fun e => by have := (World.ownsRow.lt hrow N e).1; omega
        have hCG : IsCG Wz12 (N + 1) (Value.slice R l.length cr).ownBlock ⟨c.len, A1, c.cuts, p1, A2, c.dens, p2⟩ := ⟨HLEN.out.1, HLEN.out.2, g1, g2⟩; have hlw := hHeld; clear g1 g2 BX; replace BN := BN.grown hgrow hnr; refine hK.out _ _ (hHeld.grown hgrow (fun j e => .inl (.inr e))) (fun hNew => ?_); replace hHeld := hNew; clear hNew hK K; (try simp only [PPz]); refine tkd 13 ?_; (try simp only [PPz]); refine rdy1 14 rfl (fun K hK => ?_); have n0 := BN.c 0 rfl; have f0 := BN.f 0 rfl; go_simp; clear n0 f0; refine hK.out _ _ (hHeld.set (.inl (.inl rfl)) _) (fun hNew => ?_); replace hHeld := hNew; clear hNew hK K; (try simp only [PPz]); refine wpAnyH_done (by kernel_rfl) ?_ _; refine NoPanic.normal ?_
        have hr' : ∀ j, (Value.slice (some ⟨g, 0, none⟩) (l.length + 1) cap).ownBlock = some j → (Value.slice R l.length cr).ownBlock = some j ∨ V.heap.size ≤ j := by
          intro j e
          have e : g = j := by simpa [Value.ownBlock] using e
          subst e
          rcases hat with e | e
          · exact .inl e
          · right; have := hlw.size; omega
        have hgN : N + 1 ≤ g := (World.ownsRow.lt hown g rfl).1
        have hcr := hCG.grown (row' := (Value.slice (some ⟨g, 0, none⟩) (l.length + 1) cap).ownBlock) hgrow (fun j e => by
          have e : g = j := by simpa [Value.ownBlock] using e
          subst e
          rcases hat with e | e
          · exact .inl e
          · exact .inr (by omega))
        have hcs := hcr.set (p := N) (o := 0) (Nat.lt_succ_self N) (.slice (some ⟨g, 0, none⟩) (l.length + 1) cap)
        have hFn : ∀ p, p ≤ w.heap.size + 1 → ¬ (p = N ∨ (Value.slice R l.length cr).ownBlock = some p) := fun p hp hh => hh.elim (fun e => by omega) (fun e => by have := HRB.out p e; omega)
        have hbb' := hHeld.toBelow hbb HF.out hBV; have BD' := BD.gb hHeld (hFn _ (by omega)); have BR' := BR.gb hHeld (hFn _ (by omega)); have BN' := BN.set 0 (.slice (some ⟨g, 0, none⟩) (l.length + 1) cap); have LOG' := row_gb LOG.out hHeld (fun j e hh => hh.elim (fun e' => by have := HLV.out j e; omega) (fun e' => by have := HLV.out j e; have := HRB.out j e'; omega))
        have hrow' := row_far (NB := N) (off := 0) hown (fun e => by
          have e : g = N := by simpa [Value.ownBlock] using e
          omega) (.slice (some ⟨g, 0, none⟩) (l.length + 1) cap)
        have HC' : CRow w (N + 1) 67 (.slice (some ⟨g, 0, none⟩) (l.length + 1) cap) (l ++ [⟨c.len, A1, c.cuts, p1, A2, c.dens, p2⟩]) (Wz13.setCell ⟨N, 0, none⟩ (.slice (some ⟨g, 0, none⟩) (l.length + 1) cap)) :=
          ⟨hbb', HNW.out, Nat.le_trans hN1 hHeld.size, by rw [List.length_append, Ak.cellsC_app]; simpa [Ak.cellsC] using hrow', fun x hx => (List.mem_append.1 hx).elim (fun hx => (HALL.out x hx).gb hHeld (fun j hj => hj.elim (fun e => .inl (by omega)) .inr) hr') (fun hx => by
            have : x = ⟨c.len, A1, c.cuts, p1, A2, c.dens, p2⟩ := by simpa using hx
            subst this
            exact hcs)⟩
        have HDAT' : (l ++ [(⟨c.len, A1, c.cuts, p1, A2, c.dens, p2⟩ : CkR)]).map Ak.dat = (cs.map Ak.dat).take (k + 1) := by
          rw [List.map_append, HDAT.out, List.take_add_one, List.getElem?_eq_getElem (by simpa using hlt), ← HCC.out]
          simp [Ak.dat, Ak.cat_lt hlt]
        have HLL' : (l ++ [(⟨c.len, A1, c.cuts, p1, A2, c.dens, p2⟩ : CkR)]).length = k + 1 := by simp [HLK.out]
        clear hcr hcs hgrow hat hHeld hlw BN BD BR hbb hr' hrow hFn hrow'; have HCH := Lib.hid HC'; have HDH := Lib.hid HDAT'; have HLH := Lib.hid HLL'; have HLG := Lib.hid LOG'; clear HC' HDAT' HLL' LOG' hCG hgN hown; (go_wp2_with fail)
        go_roundw
        case rel => exact ⟨k + 1, _, _, by omega, by go_num, HLH.out, HDH.out, HCH.out, BD', BR', BN', HLG.out⟩
        case measure => simp [intOf]; omega
      ·
        go_simp; refine (CK.out _ (hHeld.toBelow hbb (fun k hk => hF k hk) hBV)).mono ?_; rintro e Wz16 ⟨u1, rfl, ow1, hb3⟩; obtain ⟨A1, p1, rfl⟩ := ow1.form; have g1 : IsG Wz16 (N + 1) (Value.slice R l.length cr).ownBlock A1 c.cuts := (IsG.of_own ow1 HIK.out (fun g hg => (World.ownsRow.lt hrow g hg).2)).mono (Nat.le_trans hN1 hHeld.size); clear ow1; (go_wp2_with fail); refine hK.out _ _ (hHeld.below hb3) (fun hNew => ?_); replace BN := BN.keep hb3; replace hrow := row_keep hrow hb3; replace hHeld := hNew; clear hNew hK K hb3; (try simp only [PPz]); refine rdy2 1 9 rfl rfl (fun K hK => ?_) (fun K hK => ?_)
        ·
          have n0 := BN.c 0 rfl; go_simp; clear n0; refine hK.out _ _ hHeld (fun hNew => ?_); replace hHeld := hNew; clear hNew hK K; (try simp only [PPz]); refine rdy1 9 rfl (fun K hK => ?_); go_simp; refine (CZ.out _ (hHeld.toBelow hbb (fun k hk => hF k hk) hBV)).mono ?_; rintro e Wz18 ⟨u2, rfl, ow2, hb3⟩; obtain ⟨A2, p2, rfl⟩ := ow2.form; have g2 : IsG Wz18 (N + 1) (Value.slice R l.length cr).ownBlock A2 c.dens := (IsG.of_own ow2 HIZ2.out (fun g hg => (World.ownsRow.lt hrow g hg).2)).mono (Nat.le_trans hN1 hHeld.size); clear ow2; (go_wp2_with fail); refine hK.out _ _ (hHeld.below hb3) (fun hNew => ?_); replace g1 := g1.keep hb3; replace BN := BN.keep hb3; replace hrow := row_keep hrow hb3; replace hHeld := hNew; clear hNew hK K hb3; (try simp only [PPz]); refine tkd 10 ?_; (try simp only [PPz]); refine rdy1 11 rfl (fun K hK => ?_); go_simp; refine hK.out _ _ (hHeld.al _) (fun hNew => ?_); replace hHeld := hNew; clear hNew hK K; (try simp only [PPz]); refine at_anyH (fun u => GB (fun k => k = N ∨ (Value.slice R l.length cr).ownBlock = some k) V u ∧ BK u N [(Value.slice R l.length cr), (Value.slice Q2 qs.length cq2)] ∧ u.ownsRow (N + 1) 67 3 (Value.slice R l.length cr) l.length (Ak.cellsC l) ∧ IsG u (N + 1) (Value.slice R l.length cr).ownBlock A1 c.cuts ∧ IsG u (N + 1) (Value.slice R l.length cr).ownBlock A2 c.dens ∧ BK u Wz18.heap.size [.int .i64 c.len, .slice A1 c.cuts.length p1, .slice A2 c.dens.length p2]) ⟨hHeld, BN.al _, row_keep hrow (below_al (Below.refl _ _) _), g1.keep (below_al (Below.refl _ _) _), g2.keep (below_al (Below.refl _ _) _), BK.new _ _ _⟩ (fun Wz20 hS => ?_); clear hHeld BN hrow g1 g2; obtain ⟨hHeld, BN, hrow, g1, g2, BX⟩ := hS; obtain ⟨PX, hPX⟩ : ∃ PX, Wz18.heap.size = PX := ⟨_, rfl⟩; rw [hPX] at BX ⊢; clear hPX; refine rdy1 12 rfl (fun K hK => ?_); refine step_append_lies _ (by rfl) _ _ _ (by rfl) (N + 1) 67 i0 _ 3 56 Tryz.underlying22 HIN.out HIZ.out HS1.out HS2.out rfl (by omega) (Value.slice R l.length cr) l.length (Ak.cellsC l) (by rfl) hrow ⟨PX, 0, none⟩ 1 1 (Ak.cells ⟨c.len, A1, c.cuts, p1, A2, c.dens, p2⟩) (by rfl) (by rfl) (fun j u hj => by rw [Addr.add_lit, Nat.zero_add]; exact BX.c j hj) (by intro u hu; simp [Ak.cells] at hu; rcases hu with rfl | rfl | rfl <;> rfl) (by omega) (by unfold maxLen; omega) (by omega) (Nat.le_trans hN1 hHeld.size) _ rfl ?_; intro g cap Wz21 hown hgrow hat hglt
          have hnr : (Value.slice R l.length cr).ownBlock ≠ some N := fun e => by have := (World.ownsRow.lt hrow N e).1; omega
          have hCG : IsCG Wz20 (N + 1) (Value.slice R l.length cr).ownBlock ⟨c.len, A1, c.cuts, p1, A2, c.dens, p2⟩ := ⟨HLEN.out.1, HLEN.out.2, g1, g2⟩; have hlw := hHeld; clear g1 g2 BX; replace BN := BN.grown hgrow hnr; refine hK.out _ _ (hHeld.grown hgrow (fun j e => .inl (.inr e))) (fun hNew => ?_); replace hHeld := hNew; clear hNew hK K; (try simp only [PPz]); refine tkd 13 ?_; (try simp only [PPz]); refine rdy1 14 rfl (fun K hK => ?_); have n0 := BN.c 0 rfl; have f0 := BN.f 0 rfl; go_simp; clear n0 f0; refine hK.out _ _ (hHeld.set (.inl (.inl rfl)) _) (fun hNew => ?_); replace hHeld := hNew; clear hNew hK K; (try simp only [PPz]); refine wpAnyH_done (by kernel_rfl) ?_ _; refine NoPanic.normal ?_
          have hr' : ∀ j, (Value.slice (some ⟨g, 0, none⟩) (l.length + 1) cap).ownBlock = some j → (Value.slice R l.length cr).ownBlock = some j ∨ V.heap.size ≤ j := by
            intro j e
            have e : g = j := by simpa [Value.ownBlock] using e
            subst e
            rcases hat with e | e
            · exact .inl e
            · right; have := hlw.size; omega
          have hgN : N + 1 ≤ g := (World.ownsRow.lt hown g rfl).1
          have hcr := hCG.grown (row' := (Value.slice (some ⟨g, 0, none⟩) (l.length + 1) cap).ownBlock) hgrow (fun j e => by
            have e : g = j := by simpa [Value.ownBlock] using e
            subst e
            rcases hat with e | e
            · exact .inl e
            · exact .inr (by omega))
          have hcs := hcr.set (p := N) (o := 0) (Nat.lt_succ_self N) (.slice (some ⟨g, 0, none⟩) (l.length + 1) cap)
          have hFn : ∀ p, p ≤ w.heap.size + 1 → ¬ (p = N ∨ (Value.slice R l.length cr).ownBlock = some p) := fun p hp hh => hh.elim (fun e => by omega) (fun e => by have := HRB.out p e; omega)
          have hbb' := hHeld.toBelow hbb HF.out hBV; have BD' := BD.gb hHeld (hFn _ (by omega)); have BR' := BR.gb hHeld (hFn _ (by omega)); have BN' := BN.set 0 (.slice (some ⟨g, 0, none⟩) (l.length + 1) cap); have LOG' := row_gb LOG.out hHeld (fun j e hh => hh.elim (fun e' => by have := HLV.out j e; omega) (fun e' => by have := HLV.out j e; have := HRB.out j e'; omega))
          have hrow' := row_far (NB := N) (off := 0) hown (fun e => by
            have e : g = N := by simpa [Value.ownBlock] using e
            omega) (.slice (some ⟨g, 0, none⟩) (l.length + 1) cap)
          have HC' : CRow w (N + 1) 67 (.slice (some ⟨g, 0, none⟩) (l.length + 1) cap) (l ++ [⟨c.len, A1, c.cuts, p1, A2, c.dens, p2⟩]) (Wz21.setCell ⟨N, 0, none⟩ (.slice (some ⟨g, 0, none⟩) (l.length + 1) cap)) :=
            ⟨hbb', HNW.out, Nat.le_trans hN1 hHeld.size, by rw [List.length_append, Ak.cellsC_app]; simpa [Ak.cellsC] using hrow', fun x hx => (List.mem_append.1 hx).elim (fun hx => (HALL.out x hx).gb hHeld (fun j hj => hj.elim (fun e => .inl (by omega)) .inr) hr') (fun hx => by
              have : x = ⟨c.len, A1, c.cuts, p1, A2, c.dens, p2⟩ := by simpa using hx
              subst this
              exact hcs)⟩
          have HDAT' : (l ++ [(⟨c.len, A1, c.cuts, p1, A2, c.dens, p2⟩ : CkR)]).map Ak.dat = (cs.map Ak.dat).take (k + 1) := by
            rw [List.map_append, HDAT.out, List.take_add_one, List.getElem?_eq_getElem (by simpa using hlt), ← HCC.out]
            simp [Ak.dat, Ak.cat_lt hlt]
          have HLL' : (l ++ [(⟨c.len, A1, c.cuts, p1, A2, c.dens, p2⟩ : CkR)]).length = k + 1 := by simp [HLK.out]
          clear hcr hcs hgrow hat hHeld hlw BN BD BR hbb hr' hrow hFn hrow'; have HCH := Lib.hid HC'; have HDH := Lib.hid HDAT'; have HLH := Lib.hid HLL'; have HLG := Lib.hid LOG'; clear HC' HDAT' HLL' LOG' hCG hgN hown; (go_wp2_with fail)
          go_roundw
          case rel => exact ⟨k + 1, _, _, by omega, by go_num, HLH.out, HDH.out, HCH.out, BD', BR', BN', HLG.out⟩
          case measure => simp [intOf]; omega
        ·
          go_simp; refine (CZ.out _ (hHeld.toBelow hbb (fun k hk => hF k hk) hBV)).mono ?_; rintro e Wz24 ⟨u2, rfl, ow2, hb3⟩; obtain ⟨A2, p2, rfl⟩ := ow2.form; have g2 : IsG Wz24 (N + 1) (Value.slice R l.length cr).ownBlock A2 c.dens := (IsG.of_own ow2 HIZ2.out (fun g hg => (World.ownsRow.lt hrow g hg).2)).mono (Nat.le_trans hN1 hHeld.size); clear ow2; (go_wp2_with fail); refine hK.out _ _ (hHeld.below hb3) (fun hNew => ?_); replace g1 := g1.keep hb3; replace BN := BN.keep hb3; replace hrow := row_keep hrow hb3; replace hHeld := hNew; clear hNew hK K hb3; (try simp only [PPz]); refine tkd 10 ?_; (try simp only [PPz]); refine rdy2 1 11 rfl rfl (fun K hK => ?_) (fun K hK => ?_)
          ·
            have n0 := BN.c 0 rfl; go_simp; clear n0; refine hK.out _ _ hHeld (fun hNew => ?_); replace hHeld := hNew; clear hNew hK K; (try simp only [PPz]); refine rdy1 11 rfl (fun K hK => ?_); go_simp; refine hK.out _ _ (hHeld.al _) (fun hNew => ?_); replace hHeld := hNew; clear hNew hK K; (try simp only [PPz]); refine at_anyH (fun u => GB (fun k => k = N ∨ (Value.slice R l.length cr).ownBlock = some k) V u ∧ BK u N [(Value.slice R l.length cr), (Value.slice Q2 qs.length cq2)] ∧ u.ownsRow (N + 1) 67 3 (Value.slice R l.length cr) l.length (Ak.cellsC l) ∧ IsG u (N + 1) (Value.slice R l.length cr).ownBlock A1 c.cuts ∧ IsG u (N + 1) (Value.slice R l.length cr).ownBlock A2 c.dens ∧ BK u Wz24.heap.size [.int .i64 c.len, .slice A1 c.cuts.length p1, .slice A2 c.dens.length p2]) ⟨hHeld, BN.al _, row_keep hrow (below_al (Below.refl _ _) _), g1.keep (below_al (Below.refl _ _) _), g2.keep (below_al (Below.refl _ _) _), BK.new _ _ _⟩ (fun Wz27 hS => ?_); clear hHeld BN hrow g1 g2; obtain ⟨hHeld, BN, hrow, g1, g2, BX⟩ := hS; obtain ⟨PX, hPX⟩ : ∃ PX, Wz24.heap.size = PX := ⟨_, rfl⟩; rw [hPX] at BX ⊢; clear hPX; refine rdy1 12 rfl (fun K hK => ?_); refine step_append_lies _ (by rfl) _ _ _ (by rfl) (N + 1) 67 i0 _ 3 56 Tryz.underlying22 HIN.out HIZ.out HS1.out HS2.out rfl (by omega) (Value.slice R l.length cr) l.length (Ak.cellsC l) (by rfl) hrow ⟨PX, 0, none⟩ 1 1 (Ak.cells ⟨c.len, A1, c.cuts, p1, A2, c.dens, p2⟩) (by rfl) (by rfl) (fun j u hj => by rw [Addr.add_lit, Nat.zero_add]; exact BX.c j hj) (by intro u hu; simp [Ak.cells] at hu; rcases hu with rfl | rfl | rfl <;> rfl) (by omega) (by unfold maxLen; omega) (by omega) (Nat.le_trans hN1 hHeld.size) _ rfl ?_; intro g cap Wz28 hown hgrow hat hglt
            have hnr : (Value.slice R l.length cr).ownBlock ≠ some N := fun e => by have := (World.ownsRow.lt hrow N e).1; omega
            have hCG : IsCG Wz27 (N + 1) (Value.slice R l.length cr).ownBlock ⟨c.len, A1, c.cuts, p1, A2, c.dens, p2⟩ := ⟨HLEN.out.1, HLEN.out.2, g1, g2⟩; have hlw := hHeld; clear g1 g2 BX; replace BN := BN.grown hgrow hnr; refine hK.out _ _ (hHeld.grown hgrow (fun j e => .inl (.inr e))) (fun hNew => ?_); replace hHeld := hNew; clear hNew hK K; (try simp only [PPz]); refine tkd 13 ?_; (try simp only [PPz]); refine rdy1 14 rfl (fun K hK => ?_); have n0 := BN.c 0 rfl; have f0 := BN.f 0 rfl; go_simp; clear n0 f0; refine hK.out _ _ (hHeld.set (.inl (.inl rfl)) _) (fun hNew => ?_); replace hHeld := hNew; clear hNew hK K; (try simp only [PPz]); refine wpAnyH_done (by kernel_rfl) ?_ _; refine NoPanic.normal ?_
            have hr' : ∀ j, (Value.slice (some ⟨g, 0, none⟩) (l.length + 1) cap).ownBlock = some j → (Value.slice R l.length cr).ownBlock = some j ∨ V.heap.size ≤ j := by
              intro j e
              have e : g = j := by simpa [Value.ownBlock] using e
              subst e
              rcases hat with e | e
              · exact .inl e
              · right; have := hlw.size; omega
            have hgN : N + 1 ≤ g := (World.ownsRow.lt hown g rfl).1
            have hcr := hCG.grown (row' := (Value.slice (some ⟨g, 0, none⟩) (l.length + 1) cap).ownBlock) hgrow (fun j e => by
              have e : g = j := by simpa [Value.ownBlock] using e
              subst e
              rcases hat with e | e
              · exact .inl e
              · exact .inr (by omega))
            have hcs := hcr.set (p := N) (o := 0) (Nat.lt_succ_self N) (.slice (some ⟨g, 0, none⟩) (l.length + 1) cap)
            have hFn : ∀ p, p ≤ w.heap.size + 1 → ¬ (p = N ∨ (Value.slice R l.length cr).ownBlock = some p) := fun p hp hh => hh.elim (fun e => by omega) (fun e => by have := HRB.out p e; omega)
            have hbb' := hHeld.toBelow hbb HF.out hBV; have BD' := BD.gb hHeld (hFn _ (by omega)); have BR' := BR.gb hHeld (hFn _ (by omega)); have BN' := BN.set 0 (.slice (some ⟨g, 0, none⟩) (l.length + 1) cap); have LOG' := row_gb LOG.out hHeld (fun j e hh => hh.elim (fun e' => by have := HLV.out j e; omega) (fun e' => by have := HLV.out j e; have := HRB.out j e'; omega))
            have hrow' := row_far (NB := N) (off := 0) hown (fun e => by
              have e : g = N := by simpa [Value.ownBlock] using e
              omega) (.slice (some ⟨g, 0, none⟩) (l.length + 1) cap)
            have HC' : CRow w (N + 1) 67 (.slice (some ⟨g, 0, none⟩) (l.length + 1) cap) (l ++ [⟨c.len, A1, c.cuts, p1, A2, c.dens, p2⟩]) (Wz28.setCell ⟨N, 0, none⟩ (.slice (some ⟨g, 0, none⟩) (l.length + 1) cap)) :=
              ⟨hbb', HNW.out, Nat.le_trans hN1 hHeld.size, by rw [List.length_append, Ak.cellsC_app]; simpa [Ak.cellsC] using hrow', fun x hx => (List.mem_append.1 hx).elim (fun hx => (HALL.out x hx).gb hHeld (fun j hj => hj.elim (fun e => .inl (by omega)) .inr) hr') (fun hx => by
                have : x = ⟨c.len, A1, c.cuts, p1, A2, c.dens, p2⟩ := by simpa using hx
                subst this
                exact hcs)⟩
            have HDAT' : (l ++ [(⟨c.len, A1, c.cuts, p1, A2, c.dens, p2⟩ : CkR)]).map Ak.dat = (cs.map Ak.dat).take (k + 1) := by
              rw [List.map_append, HDAT.out, List.take_add_one, List.getElem?_eq_getElem (by simpa using hlt), ← HCC.out]
              simp [Ak.dat, Ak.cat_lt hlt]
            have HLL' : (l ++ [(⟨c.len, A1, c.cuts, p1, A2, c.dens, p2⟩ : CkR)]).length = k + 1 := by simp [HLK.out]
            clear hcr hcs hgrow hat hHeld hlw BN BD BR hbb hr' hrow hFn hrow'; have HCH := Lib.hid HC'; have HDH := Lib.hid HDAT'; have HLH := Lib.hid HLL'; have HLG := Lib.hid LOG'; clear HC' HDAT' HLL' LOG' hCG hgN hown; (go_wp2_with fail)
            go_roundw
            case rel => exact ⟨k + 1, _, _, by omega, by go_num, HLH.out, HDH.out, HCH.out, BD', BR', BN', HLG.out⟩
            case measure => simp [intOf]; omega
          ·
            go_simp; refine hK.out _ _ (hHeld.al _) (fun hNew => ?_); replace hHeld := hNew; clear hNew hK K; (try simp only [PPz]); refine at_anyH (fun u => GB (fun k => k = N ∨ (Value.slice R l.length cr).ownBlock = some k) V u ∧ BK u N [(Value.slice R l.length cr), (Value.slice Q2 qs.length cq2)] ∧ u.ownsRow (N + 1) 67 3 (Value.slice R l.length cr) l.length (Ak.cellsC l) ∧ IsG u (N + 1) (Value.slice R l.length cr).ownBlock A1 c.cuts ∧ IsG u (N + 1) (Value.slice R l.length cr).ownBlock A2 c.dens ∧ BK u Wz24.heap.size [.int .i64 c.len, .slice A1 c.cuts.length p1, .slice A2 c.dens.length p2]) ⟨hHeld, BN.al _, row_keep hrow (below_al (Below.refl _ _) _), g1.keep (below_al (Below.refl _ _) _), g2.keep (below_al (Below.refl _ _) _), BK.new _ _ _⟩ (fun Wz31 hS => ?_); clear hHeld BN hrow g1 g2; obtain ⟨hHeld, BN, hrow, g1, g2, BX⟩ := hS; obtain ⟨PX, hPX⟩ : ∃ PX, Wz24.heap.size = PX := ⟨_, rfl⟩; rw [hPX] at BX ⊢; clear hPX; refine rdy1 1 rfl (fun K hK => ?_); have n0 := BN.c 0 rfl; go_simp; clear n0; refine hK.out _ _ hHeld (fun hNew => ?_); replace hHeld := hNew; clear hNew hK K; (try simp only [PPz]); refine rdy1 12 rfl (fun K hK => ?_); refine step_append_lies _ (by rfl) _ _ _ (by rfl) (N + 1) 67 i0 _ 3 56 Tryz.underlying22 HIN.out HIZ.out HS1.out HS2.out rfl (by omega) (Value.slice R l.length cr) l.length (Ak.cellsC l) (by rfl) hrow ⟨PX, 0, none⟩ 1 1 (Ak.cells ⟨c.len, A1, c.cuts, p1, A2, c.dens, p2⟩) (by rfl) (by rfl) (fun j u hj => by rw [Addr.add_lit, Nat.zero_add]; exact BX.c j hj) (by intro u hu; simp [Ak.cells] at hu; rcases hu with rfl | rfl | rfl <;> rfl) (by omega) (by unfold maxLen; omega) (by omega) (Nat.le_trans hN1 hHeld.size) _ rfl ?_; intro g cap Wz33 hown hgrow hat hglt
            have hnr : (Value.slice R l.length cr).ownBlock ≠ some N := fun e => by have := (World.ownsRow.lt hrow N e).1; omega
            have hCG : IsCG Wz31 (N + 1) (Value.slice R l.length cr).ownBlock ⟨c.len, A1, c.cuts, p1, A2, c.dens, p2⟩ := ⟨HLEN.out.1, HLEN.out.2, g1, g2⟩; have hlw := hHeld; clear g1 g2 BX; replace BN := BN.grown hgrow hnr; refine hK.out _ _ (hHeld.grown hgrow (fun j e => .inl (.inr e))) (fun hNew => ?_); replace hHeld := hNew; clear hNew hK K; (try simp only [PPz]); refine tkd 13 ?_; (try simp only [PPz]); refine rdy1 14 rfl (fun K hK => ?_); have n0 := BN.c 0 rfl; have f0 := BN.f 0 rfl; go_simp; clear n0 f0; refine hK.out _ _ (hHeld.set (.inl (.inl rfl)) _) (fun hNew => ?_); replace hHeld := hNew; clear hNew hK K; (try simp only [PPz]); refine wpAnyH_done (by kernel_rfl) ?_ _; refine NoPanic.normal ?_
            have hr' : ∀ j, (Value.slice (some ⟨g, 0, none⟩) (l.length + 1) cap).ownBlock = some j → (Value.slice R l.length cr).ownBlock = some j ∨ V.heap.size ≤ j := by
              intro j e
              have e : g = j := by simpa [Value.ownBlock] using e
              subst e
              rcases hat with e | e
              · exact .inl e
              · right; have := hlw.size; omega
            have hgN : N + 1 ≤ g := (World.ownsRow.lt hown g rfl).1
            have hcr := hCG.grown (row' := (Value.slice (some ⟨g, 0, none⟩) (l.length + 1) cap).ownBlock) hgrow (fun j e => by
              have e : g = j := by simpa [Value.ownBlock] using e
              subst e
              rcases hat with e | e
              · exact .inl e
              · exact .inr (by omega))
            have hcs := hcr.set (p := N) (o := 0) (Nat.lt_succ_self N) (.slice (some ⟨g, 0, none⟩) (l.length + 1) cap)
            have hFn : ∀ p, p ≤ w.heap.size + 1 → ¬ (p = N ∨ (Value.slice R l.length cr).ownBlock = some p) := fun p hp hh => hh.elim (fun e => by omega) (fun e => by have := HRB.out p e; omega)
            have hbb' := hHeld.toBelow hbb HF.out hBV; have BD' := BD.gb hHeld (hFn _ (by omega)); have BR' := BR.gb hHeld (hFn _ (by omega)); have BN' := BN.set 0 (.slice (some ⟨g, 0, none⟩) (l.length + 1) cap); have LOG' := row_gb LOG.out hHeld (fun j e hh => hh.elim (fun e' => by have := HLV.out j e; omega) (fun e' => by have := HLV.out j e; have := HRB.out j e'; omega))
            have hrow' := row_far (NB := N) (off := 0) hown (fun e => by
              have e : g = N := by simpa [Value.ownBlock] using e
              omega) (.slice (some ⟨g, 0, none⟩) (l.length + 1) cap)
            have HC' : CRow w (N + 1) 67 (.slice (some ⟨g, 0, none⟩) (l.length + 1) cap) (l ++ [⟨c.len, A1, c.cuts, p1, A2, c.dens, p2⟩]) (Wz33.setCell ⟨N, 0, none⟩ (.slice (some ⟨g, 0, none⟩) (l.length + 1) cap)) :=
              ⟨hbb', HNW.out, Nat.le_trans hN1 hHeld.size, by rw [List.length_append, Ak.cellsC_app]; simpa [Ak.cellsC] using hrow', fun x hx => (List.mem_append.1 hx).elim (fun hx => (HALL.out x hx).gb hHeld (fun j hj => hj.elim (fun e => .inl (by omega)) .inr) hr') (fun hx => by
                have : x = ⟨c.len, A1, c.cuts, p1, A2, c.dens, p2⟩ := by simpa using hx
                subst this
                exact hcs)⟩
            have HDAT' : (l ++ [(⟨c.len, A1, c.cuts, p1, A2, c.dens, p2⟩ : CkR)]).map Ak.dat = (cs.map Ak.dat).take (k + 1) := by
              rw [List.map_append, HDAT.out, List.take_add_one, List.getElem?_eq_getElem (by simpa using hlt), ← HCC.out]
              simp [Ak.dat, Ak.cat_lt hlt]
            have HLL' : (l ++ [(⟨c.len, A1, c.cuts, p1, A2, c.dens, p2⟩ : CkR)]).length = k + 1 := by simp [HLK.out]
            clear hcr hcs hgrow hat hHeld hlw BN BD BR hbb hr' hrow hFn hrow'; have HCH := Lib.hid HC'; have HDH := Lib.hid HDAT'; have HLH := Lib.hid HLL'; have HLG := Lib.hid LOG'; clear HC' HDAT' HLL' LOG' hCG hgN hown; (go_wp2_with fail)
            go_roundw
            case rel => exact ⟨k + 1, _, _, by omega, by go_num, HLH.out, HDH.out, HCH.out, BD', BR', BN', HLG.out⟩
            case measure => simp [intOf]; omega
    · obtain rfl : k = cs.length := by omega
      have n0 := BN.c 0 rfl; have n1 := BN.c 1 rfl; have r0 := BR.c 0 rfl; have r1 := BR.c 1 rfl; have f0 := BR.f 0 rfl; have f1 := BR.f 1 rfl; have hres : CRow w (N + 1) 67 (Value.slice R l.length cr) l ((wr.setCell ⟨w.heap.size + 1, 0, none⟩ (Value.slice R l.length cr)).setCell ⟨w.heap.size + 1, 1, none⟩ (Value.slice Q2 qs.length cq2)) := (hcr.set (by omega) (by omega) _).set (by omega) (by omega) _; have hlg : ((wr.setCell ⟨w.heap.size + 1, 0, none⟩ (Value.slice R l.length cr)).setCell ⟨w.heap.size + 1, 1, none⟩ (Value.slice Q2 qs.length cq2)).ownsRow w.heap.size 76 8 (Value.slice Q2 qs.length cq2) qs.length (Ak.cellsQ qs) := World.ownsRow.mono (row_far (row_far hlog (fun e => by have := (World.ownsRow.lt hlog _ e).1; omega) _) (fun e => by have := (World.ownsRow.lt hlog _ e).1; omega) _) (by omega); have HRES := Lib.hid hres; have HLG := Lib.hid hlg; have HD := Lib.hid (hdat.trans (List.take_of_length_le (by simp))); clear hres hlg hcr hlog hrow hbb HALL HRB hdat HDAT BD hlk HLK hlt hk hl6 HC HA HI; (go_wp2_with fail); exact bodyPost_ret (v := .agg #[(Value.slice R l.length cr), (Value.slice Q2 qs.length cq2)]) (by simp [results, Tryz.results63, go_sem, n0, n1, r0, r1]) rfl ⟨N, (Value.slice R l.length cr), (Value.slice Q2 qs.length cq2), l, rfl, HD.out, HRES.out, HLG.out, HLV.out⟩
end Go.Proofs.YtniagnldiegamaaGreat


/- Package halve: divide, where all is answered. Package halve: Run of valid cakes. -/
import Derived.Test.YtmfnlapoefihkaaGreatWk
import Derived.Test.YtmfnlapoefihkaaGreatWd
import Derived.Deep.OwnRows
namespace Go.Proofs.YtmfnlapoefihkaaGreat
open Go.RowKit
/-- A desk that outlives whatever is written into the blocks of F. -/
def DkP (F : Nat → Prop) (w : World) (A : Option Addr) (cs : List CkR) (Q : Option Addr) (qs : List Qr) : Prop := ∀ w', GB F w w' → IsCs w' A cs ∧ IsQs w' Q qs
namespace Hv
theorem gb_comp {F : Nat → Prop} {U V W : World} (h : GB F U V) (k : GB F V W) : GB F U W :=
  ⟨k.os.trans h.os, k.tape.trans h.tape, k.output.trans h.output, Nat.le_trans h.size k.size, fun i hi hn => (k.block i (Nat.lt_of_lt_of_le hi h.size) hn).trans (h.block i hi hn)⟩
theorem gb_trans {F : Nat → Prop} {w V W : World} (hb : Below w.heap.size w V) (h : GB F V W) : GB F w W := gb_comp ((GB.refl F w).below hb) h
theorem gb_set {F : Nat → Prop} {V W : World} {p o : Nat} (h : GB F V W) (hp : F p ∨ V.heap.size ≤ p) (x : Value) : GB F V (W.setCell ⟨p, o, none⟩ x) := h.set hp x
end Hv
theorem DkP.keep {F : Nat → Prop} {w w' : World} {A : Option Addr} {cs : List CkR} {Q : Option Addr} {qs : List Qr} (h : DkP F w A cs Q qs) (hg : GB F w w') : DkP F w' A cs Q qs := fun _ k => h _ (Hv.gb_comp hg k)
theorem DkP.weak {F F' : Nat → Prop} {w : World} {A : Option Addr} {cs : List CkR} {Q : Option Addr} {qs : List Qr} (h : DkP F w A cs Q qs) (hF : ∀ k, F' k → F k) : DkP F' w A cs Q qs := fun _ k => h _ (k.weak hF)
theorem FD.dkp {F : Nat → Prop} {lo : Nat} {w : World} {A : Option Addr} {ca : Nat} {cs : List CkR} {Q : Option Addr} {cq : Nat} {qs : List Qr} (h : FD w lo A ca cs Q cq qs) (hp : ∀ k, F k → k < lo) : DkP F w A cs Q qs := fun _ k =>
  have hf := h.mid ((Mid.refl lo w).gb' k (fun j h1 h2 hk => by have := hp j hk; omega))
  ⟨hf.isCs, hf.isQs⟩
namespace Hv
/-- The slice of spans that an agent has. -/
def pv (T : List Sp) (G : Nat → Nat) (vals : Nat → Value) (k : Nat) : Value := if k ∈ T.map (fun t => t.1) then .slice (some ⟨G k, 0, none⟩) 1 1 else vals k
def pvs (N : Nat) (T : List Sp) (G : Nat → Nat) (vals : Nat → Value) : List Value := (List.range N).map (pv T G vals)
theorem pvs_one (N x g : Nat) (a b c d : Int) (vals : Nat → Value) : ((List.range N).map vals).set x (.slice (some ⟨g, 0, none⟩) 1 1) = pvs N [(x, a, b, c, d)] (fun _ => g) vals := by
  unfold pvs
  refine List.ext_getElem (by simp) fun k h1 h2 => ?_
  simp only [List.getElem_set, List.getElem_map, List.getElem_range]
  unfold pv
  by_cases h : x = k
  · rw [if_pos h, if_pos (by simp [h])]
  · rw [if_neg h, if_neg (by simp; omega)]
theorem pvs_app (N : Nat) (T1 T2 : List Sp) (G1 G2 : Nat → Nat) (vals : Nat → Value) : pvs N T2 G2 (pv T1 G1 vals) = pvs N (T1 ++ T2) (fun k => if k ∈ T2.map (fun t => t.1) then G2 k else G1 k) vals := by
  unfold pvs
  refine List.ext_getElem (by simp) fun k h1 h2 => ?_
  simp only [List.getElem_map, List.getElem_range]
  unfold pv
  have ha : k ∈ (T1 ++ T2).map (fun t => t.1) ↔ (k ∈ T1.map (fun t => t.1) ∨ k ∈ T2.map (fun t => t.1)) := by rw [List.map_append]; exact List.mem_append
  by_cases h : k ∈ T2.map (fun t => t.1)
  · rw [if_pos h, if_pos (ha.2 (.inr h))]
    dsimp only
    rw [if_pos h]
  · by_cases h' : k ∈ T1.map (fun t => t.1)
    · rw [if_neg h, if_pos h', if_pos (ha.2 (.inl h'))]
      dsimp only
      rw [if_neg h]
    · rw [if_neg h, if_neg h', if_neg (fun e => (ha.1 e).elim h' h)]
def spc (t : Sp) : List Value := [.int .i64 t.2.1, .int .i64 t.2.2.1, .int .i64 t.2.2.2.1, .int .i64 t.2.2.2.2]
end Hv
/-- What divide gives: a desk, and the pieces in their places. -/
def DvQ (F : Nat → Prop) (D : List CkD) (Pp N : Nat) (vals : Nat → Value) (R : List Qr × List Hv.Sp) (w : World) (e : Ending) (w' : World) : Prop :=
  ∃ (A2 : Option Addr) (m2 ca2 : Nat) (Q2 : Option Addr) (n2 cq2 : Nat) (l2 : List CkR) (G : Nat → Nat), e = .returned (.tuple #[.agg #[.slice A2 m2 ca2, .slice Q2 n2 cq2], .int .i64 0]) ∧ GB (fun k => k = Pp) w w' ∧ l2.length = m2 ∧ R.1.length = n2 ∧ l2.map Ak.dat = D ∧ DkP F w' A2 l2 Q2 R.1 ∧
    BK w' Pp (Hv.pvs N R.2 G vals) ∧ ∀ t ∈ R.2, w.heap.size ≤ G t.1 ∧ BK w' (G t.1) (Hv.spc t)
/-- Split, as a function. -/
def SpD (D : List CkD) (len a b c d : Int) (l : List Nat) (L : List Qr) (w : World) (e : Ending) (w' : World) : Prop :=
  ∃ (A2 : Option Addr) (m2 ca2 : Nat) (Q2 : Option Addr) (n2 cq2 : Nat) (l2 : List CkR) (gl cl gr cr : Nat), e = .returned (.tuple #[.agg #[.slice A2 m2 ca2, .slice Q2 n2 cq2], .agg #[.int .i64 (Hv.cut D len a b c d l).2.1, .int .i64 (Hv.cut D len a b c d l).2.2], .slice (some ⟨gl, 0, none⟩) (l.length / 2) cl, .slice (some ⟨gr, 0, none⟩) (l.length - l.length / 2) cr, .int .i64 0]) ∧
    Below w.heap.size w w' ∧ l2.length = m2 ∧ (Hv.slog D len a b c d l L).length = n2 ∧ l2.map Ak.dat = D ∧ FD w' w.heap.size A2 ca2 l2 Q2 cq2 (Hv.slog D len a b c d l L) ∧ w.heap.size ≤ gl ∧ BK w' gl (Hi.cells1 (Hv.lft D len a b c d l)) ∧ w.heap.size ≤ gr ∧ BK w' gr (Hi.cells1 (Hv.rgt D len a b c d l))
theorem hvsplit_fit (D : List CkD) (len a b c d : Int) (l : List Nat) (L : List Qr) (A : Option Addr) (ca : Nat) (cs : List CkR) (Q : Option Addr) (cq p n cap m k : Nat) (w : World) (h : IsCs w A cs) (hq : IsQs w Q L) (hm : cs.length = m) (hk : L.length = k) (hD : cs.map Ak.dat = D) (hlen : (Ak.dAt D 0).1 = len) (hB : BK w p (Hi.cells1 l)) (hn : l.length = n) (hS : Hv.SFit D len l a b c d L) :
    Calls Tryz.prog 25 #[.agg #[.slice A m ca, .slice Q k cq], .slice (some ⟨p, 0, none⟩) n cap, .agg #[.int .i64 a, .int .i64 b], .agg #[.int .i64 c, .int .i64 d]] w (SpD D len a b c d l L w) := by
  subst hm hk hn hD; have hgd := Ak.chkS_good hS.ck; have hc0 := hgd.l0; rw [List.length_map] at hc0; have hG := Ck.chk_good (show Ck.chk (Ak.dAt (cs.map Ak.dat) 0).1 (Ak.dAt (cs.map Ak.dat) 0).2.1 (Ak.dAt (cs.map Ak.dat) 0).2.2 = 0 from hgd.all _ (by unfold Ak.dAt; rw [List.getD_eq_getElem?_getD, List.getElem?_eq_getElem (by rw [List.length_map]; exact hc0)]; exact List.getElem_mem _)); have l0 := hG.len0; have l1 := hG.len1; rw [hlen] at l0 l1
  have hl : (Ak.cat cs 0).len = len := by
    rw [Ak.dAt_map cs hc0] at hlen; exact hlen
  obtain ⟨p0, p1, p2, p3, p4, _, _⟩ := Hv.prt_spec hS.h2 hS.h6; refine (hvsplit_any A ca cs Q L cq p l.length cap (l.length / 2) l len a b c d (Hv.prt l).1 (Hv.prt l).2.1 _ _ _ w h hq hS.ck hB rfl hS.h2 hS.h6 rfl hS.so (fun x hx => by have := hS.lt x hx; rwa [List.length_map] at this) hl l0 l1 hS.pa hS.a0 hS.pc hS.c0 hS.ac hS.cl ?_ ⟨by omega, by omega⟩ ⟨by omega, by omega⟩ hS.ask hS.ok).mono ?_
  · show Hv.prt l = _
    rw [← p0]
  rintro e w' ⟨A2, m2, ca2, Q2, n2, cq2, l2, M, ma, mb, gl, cl, Sl, gr, cr, Sr, rfl, hb, hm2, hn2, hd2, hfd, hpm, hsm, ⟨h1, h2⟩, hPl, hIl, hBl, hPr, hIr, hBr, hgl, hgr⟩; have hM : M = Hv.srtM (cs.map Ak.dat) len a b c d l := Hv.srtM_eq hS.so hpm hsm; subst hM; have hSl : Sl = Hv.lft (cs.map Ak.dat) len a b c d l := Hv.nsrt_eq hPl hIl; have hSr : Sr = Hv.rgt (cs.map Ak.dat) len a b c d l := Hv.nsrt_eq hPr hIr; subst hSl hSr h1 h2; exact ⟨A2, m2, ca2, Q2, n2, cq2, l2, gl, cl, gr, cr, rfl, hb, hm2.symm, hn2.symm, hd2, hfd, hgl, hBl, hgr, hBr⟩
theorem dvq_one {F : Nat → Prop} {D : List CkD} {Pp N m k : Nat} {vals : Nat → Value} {L : List Qr} {x : Nat} {a b c d : Int} {w : World} {A : Option Addr} {ca : Nat} {Q : Option Addr} {cq : Nat} {cs : List CkR} (hF0 : F Pp) (hK : DkP F w A cs Q L) (hm : cs.length = m) (hk : L.length = k) (hD : cs.map Ak.dat = D) (G : Nat) (w' : World) (hg : GB (fun k => k = Pp) w w') (hB : BK w' Pp (((List.range N).map vals).set x (.slice (some ⟨G, 0, none⟩) 1 1))) (hG : w.heap.size ≤ G) (hX : BK w' G [.int .i64 a, .int .i64 b, .int .i64 c, .int .i64 d]) :
    DvQ F D Pp N vals (L, [(x, a, b, c, d)]) w (.returned (.tuple #[.agg #[.slice A m ca, .slice Q k cq], .int .i64 0])) w' := by
  refine ⟨A, m, ca, Q, k, cq, cs, fun _ => G, rfl, hg, hm, hk, hD, hK.keep (hg.weak (fun k hk => hk ▸ hF0)), ?_, fun t ht => ?_⟩
  · rw [Hv.pvs_one N x G a b c d vals] at hB
    exact hB
  · rw [List.mem_singleton.1 ht]
    exact ⟨hG, hX⟩
set_option linter.unusedSimpArgs false in
set_option maxHeartbeats 8000000 in
set_option maxRecDepth 100000 in
theorem hvdivide_one (F : Nat → Prop) (D : List CkD) (A : Option Addr) (ca : Nat) (cs : List CkR) (Q : Option Addr) (cq p cap m k Pp N l0 : Nat) (L : List Qr) (a b c d : Int) (vals : Nat → Value) (w : World) (hF0 : F Pp) (hK : DkP F w A cs Q L) (hm : cs.length = m) (hk : L.length = k) (hD : cs.map Ak.dat = D) (hB : BK w p (Hi.cells1 [l0])) (hl : l0 < N) (hpp : p ≠ Pp) (hBP : BK w Pp ((List.range N).map vals)) :
    Calls Tryz.prog 29 #[.agg #[.slice A m ca, .slice Q k cq], .slice (some ⟨p, 0, none⟩) 1 cap, .agg #[.int .i64 a, .int .i64 b, .int .i64 c, .int .i64 d], .slice (some ⟨Pp, 0, none⟩) N N] w (DvQ F D Pp N vals (L, [(l0, a, b, c, d)]) w) := by
  have HE := Lib.hid (fun G w' => dvq_one (ca := ca) (cq := cq) (x := l0) (a := a) (b := b) (c := c) (d := d) (N := N) (vals := vals) hF0 hK hm hk hD G w'); have hBl := hB.lt; have hPw := hBP.lt
  have hPl : ((List.range N).map vals)[l0]? = some (vals l0) := by simp [hl]
  have i1 : (l0 : Int) < (N : Int) := by omega
  clear hK hm hk hD hF0
  generalize DvQ F D Pp N vals (L, [(l0, a, b, c, d)]) w = QQ at *
  go_enter Tryz.func29, Tryz.ntmps29
  go_upto_region 2 with fail
  refine at_box3 (fun V hbb B0 B1 B2 hVs => ?_); have p0 := (hB.keep hbb).c 0 (x := .int .i64 (l0 : Nat)) rfl; have s0 := B1.c 0 rfl; have s1 := B1.c 1 rfl; have s2 := B1.c 2 rfl; have s3 := B1.c 3 rfl; have BP := hBP.keep hbb; refine wp_region_noPanic ?_; refine wp_region_held_drew (S := (GB (fun k => k = Pp) V)) (by kernel_rfl) ((GB.refl _ _).drew) (fun hHeld => ?_); refine at_anyH (fun v => GB (fun k => k = Pp) V v ∧ BK v (Pp) ((List.range N).map vals)) ⟨hHeld, BP.drew⟩ (fun wt0 hNew => ?_); clear hHeld BP; obtain ⟨hHeld, BP⟩ := hNew; refine tkd 0 rfl hHeld ?_; (try simp only [PPz]); refine tkd 1 rfl hHeld ?_; (try simp only [PPz]); refine tkd 2 rfl hHeld ?_; (try simp only [PPz]); refine tkm 3 rfl hHeld (fun w hSw => by have kp0 := hSw.cell (by omega) p0; have ks0 := hSw.cell (by omega) s0; have ks1 := hSw.cell (by omega) s1; have ks2 := hSw.cell (by omega) s2; have ks3 := hSw.cell (by omega) s3; go_simp <;> with_reducible rfl) ?_; (try simp only [PPz]); refine tkm 4 rfl hHeld (fun w hSw => by have kp0 := hSw.cell (by omega) p0; have ks0 := hSw.cell (by omega) s0; have ks1 := hSw.cell (by omega) s1; have ks2 := hSw.cell (by omega) s2; have ks3 := hSw.cell (by omega) s3; go_simp <;> with_reducible rfl) ?_; (try simp only [PPz]); refine rdy1 5 rfl (fun K hK => ?_); go_simp; refine hK.out _ _ (hHeld.al _) (fun hNew => ?_); have hX : V.heap.size ≤ wt0.heap.size := hHeld.size; have dPX := BP.lt; clear hHeld hK K; have hHeld := hNew; clear hNew; (try simp only [PPz]); refine at_anyH (fun v => GB (fun k => k = Pp) V v ∧ BK v (Pp) ((List.range N).map vals) ∧ BK v (wt0.heap.size) [.int .i64 a, .int .i64 b, .int .i64 c, .int .i64 d]) ⟨hHeld, BP.al _, BK.new _ _ _⟩ (fun wt6 hS => ?_); clear hHeld BP; obtain ⟨hHeld, BP, BX⟩ := hS; refine tkd 6 rfl hHeld ?_; (try simp only [PPz]); refine rdy1 7 rfl (fun K hK => ?_); have n0 := BP.c l0 hPl; have f0 := BP.f l0 hPl; go_simp; clear n0 f0; refine hK.out _ _ (hHeld.set (.inl rfl) _) (fun hNew => ?_); clear hHeld hK K; have hHeld := hNew; clear hNew; (try simp only [PPz]); refine at_anyH (fun v => GB (fun k => k = Pp) V v ∧ BK v (Pp) (((List.range N).map vals).set l0 (.slice (some ⟨wt0.heap.size, 0, none⟩) 1 1)) ∧ BK v (wt0.heap.size) [.int .i64 a, .int .i64 b, .int .i64 c, .int .i64 d]) ⟨hHeld, BP.set l0 _, BX.far (by omega) _ _⟩ (fun wt8 hS => ?_); clear hHeld BP BX; obtain ⟨hHeld, BP, BX⟩ := hS; refine wpAnyH_done (by kernel_rfl) ?_ _; refine NoPanic.normal ?_; have B0 := B0.gb hHeld (fun h => by omega); have B2 := B2.gb hHeld (fun h => by omega); have r0 := B0.c 0 rfl; have r1 := B0.c 1 rfl; have t0 := B2.c 0 rfl; have t1 := B2.c 1 rfl; have f0 := B2.f 0 rfl; have f1 := B2.f 1 rfl; have hg2 := hHeld.size; obtain ⟨G, hG⟩ : ∃ z, wt0.heap.size = z := ⟨_, rfl⟩; rw [hG] at BP BX; (go_wp2_with fail); exact bodyPost_ret (v := .tuple #[.agg #[.slice A m ca, .slice Q k cq], .int .i64 0]) (by simp [results, Tryz.results29, go_sem, r0, r1, t0, t1, f0, f1]) rfl (HE.out G _ (Hv.gb_set (Hv.gb_set (Hv.gb_trans hbb hHeld) (.inr (by omega)) _) (.inr (by omega)) _) ((BP.far (by omega) _ _).far (by omega) _ _) (by omega) ((BX.far (by omega) _ _).far (by omega) _ _))
theorem dvq_two {F : Nat → Prop} {D : List CkD} {Pp N : Nat} {vals : Nat → Value} {L2 : List Qr} {T1 T2 : List Hv.Sp} {G1 G2 : Nat → Nat} {w w4 : World} {A4 : Option Addr} {m4 ca4 : Nat} {Q4 : Option Addr} {n4 cq4 : Nat} {l4 : List CkR}
    (h12 : ∀ t ∈ T1, t.1 ∉ T2.map (fun t => t.1)) (hg : GB (fun k => k = Pp) w w4) (hm : l4.length = m4) (hn : L2.length = n4) (hd : l4.map Ak.dat = D) (hK : DkP F w4 A4 l4 Q4 L2) (hB : BK w4 Pp (Hv.pvs N T2 G2 (Hv.pv T1 G1 vals)))
    (h1 : ∀ t ∈ T1, w.heap.size ≤ G1 t.1 ∧ BK w4 (G1 t.1) (Hv.spc t)) (h2 : ∀ t ∈ T2, w.heap.size ≤ G2 t.1 ∧ BK w4 (G2 t.1) (Hv.spc t)) :
    DvQ F D Pp N vals (L2, T1 ++ T2) w (.returned (.tuple #[.agg #[.slice A4 m4 ca4, .slice Q4 n4 cq4], .int .i64 0])) w4 := by
  refine ⟨A4, m4, ca4, Q4, n4, cq4, l4, fun k => if k ∈ T2.map (fun t => t.1) then G2 k else G1 k, rfl, hg, hm, hn, hd, hK, ?_, fun t ht => ?_⟩
  · rw [← Hv.pvs_app]
    exact hB
  · rcases List.mem_append.1 ht with ht | ht
    · have e := h12 t ht
      dsimp only
      rw [if_neg e]; exact h1 t ht
    · have e : t.1 ∈ T2.map (fun t => t.1) := List.mem_map.2 ⟨t, ht, rfl⟩
      dsimp only
      rw [if_pos e]; exact h2 t ht
def DvAll (D : List CkD) (len : Int) (N f : Nat) : Prop := ∀ (F : Nat → Prop) (A : Option Addr) (ca : Nat) (cs : List CkR) (Q : Option Addr) (cq p n cap m k Pp : Nat) (l : List Nat) (L : List Qr) (a b c d : Int) (vals : Nat → Value) (w : World), F Pp → (∀ k, F k → k < w.heap.size) → DkP F w A cs Q L → cs.length = m → L.length = k → cs.map Ak.dat = D → BK w p (Hi.cells1 l) → l.length = n → p ≠ Pp → BK w Pp ((List.range N).map vals) → Hv.Fine D len f l a b c d L →
    Calls Tryz.prog 29 #[.agg #[.slice A m ca, .slice Q k cq], .slice (some ⟨p, 0, none⟩) n cap, .agg #[.int .i64 a, .int .i64 b, .int .i64 c, .int .i64 d], .slice (some ⟨Pp, 0, none⟩) N N] w (DvQ F D Pp N vals (Hv.run D len f l a b c d L) w)
set_option linter.unusedSimpArgs false in
set_option maxHeartbeats 8000000 in
set_option maxRecDepth 100000 in
theorem hvdivide_two (D : List CkD) (len : Int) (N f : Nat) (hlen : (Ak.dAt D 0).1 = len) (IH : DvAll D len N f) (F : Nat → Prop) (A : Option Addr) (ca : Nat) (cs : List CkR) (Q : Option Addr) (cq p n cap m k Pp : Nat) (l : List Nat) (L : List Qr) (a b c d : Int) (vals : Nat → Value) (w : World) (hF0 : F Pp) (hF : ∀ k, F k → k < w.heap.size) (hK : DkP F w A cs Q L) (hm : cs.length = m) (hk : L.length = k) (hD : cs.map Ak.dat = D) (hB : BK w p (Hi.cells1 l)) (hn : l.length = n) (hBP : BK w Pp ((List.range N).map vals))
    (hS : Hv.SFit D len l a b c d L) (hF1 : Hv.Fine D len f (Hv.lft D len a b c d l) a b (Hv.cut D len a b c d l).2.1 (Hv.cut D len a b c d l).2.2 (Hv.slog D len a b c d l L)) (hF2 : Hv.Fine D len f (Hv.rgt D len a b c d l) (Hv.cut D len a b c d l).2.1 (Hv.cut D len a b c d l).2.2 c d (Hv.run D len f (Hv.lft D len a b c d l) a b (Hv.cut D len a b c d l).2.1 (Hv.cut D len a b c d l).2.2 (Hv.slog D len a b c d l L)).1) :
    Calls Tryz.prog 29 #[.agg #[.slice A m ca, .slice Q k cq], .slice (some ⟨p, 0, none⟩) n cap, .agg #[.int .i64 a, .int .i64 b, .int .i64 c, .int .i64 d], .slice (some ⟨Pp, 0, none⟩) N N] w (DvQ F D Pp N vals (Hv.run D len (f + 1) l a b c d L) w) := by
  have hn2 : 2 ≤ n := by rw [← hn]; exact hS.h2
  have hn6 : n ≤ 6 := by rw [← hn]; exact hS.h6
  have sp := fun v (hv : Below w.heap.size w v) => hvsplit_fit D len a b c d l L A ca cs Q cq p n cap m k v ((hK _ ((GB.refl F w).below hv)).1) ((hK _ ((GB.refl F w).below hv)).2) hm hk hD hlen (hB.keep hv) hn hS
  have hPw := hBP.lt
  have e1 : ((n : Int) == 1) = false := by
    rw [beq_eq_false_iff_ne]
    omega
  have hll : (Hv.lft D len a b c d l).length = n / 2 := by rw [Hv.lft_len, hn]
  have hrl : (Hv.rgt D len a b c d l).length = n - n / 2 := by rw [Hv.rgt_len, hn]
  have p1 := Hv.run_ag f _ _ _ _ _ _ hF1; have p2 := Hv.run_ag f _ _ _ _ _ _ hF2
  have h12 : ∀ t ∈ (Hv.run D len f (Hv.lft D len a b c d l) a b (Hv.cut D len a b c d l).2.1 (Hv.cut D len a b c d l).2.2 (Hv.slog D len a b c d l L)).2, t.1 ∉ (Hv.run D len f (Hv.rgt D len a b c d l) (Hv.cut D len a b c d l).2.1 (Hv.cut D len a b c d l).2.2 c d (Hv.run D len f (Hv.lft D len a b c d l) a b (Hv.cut D len a b c d l).2.1 (Hv.cut D len a b c d l).2.2 (Hv.slog D len a b c d l L)).1).2.map (fun t => t.1) :=
    fun t ht h => Hv.lr_no (D := D) (len := len) (a := a) (b := b) (c := c) (d := d) hS.so (p1.mem_iff.1 (List.mem_map.2 ⟨t, ht, rfl⟩)) (p2.mem_iff.1 h)
  have hrun : Hv.run D len (f + 1) l a b c d L = ((Hv.run D len f (Hv.rgt D len a b c d l) (Hv.cut D len a b c d l).2.1 (Hv.cut D len a b c d l).2.2 c d (Hv.run D len f (Hv.lft D len a b c d l) a b (Hv.cut D len a b c d l).2.1 (Hv.cut D len a b c d l).2.2 (Hv.slog D len a b c d l L)).1).1, (Hv.run D len f (Hv.lft D len a b c d l) a b (Hv.cut D len a b c d l).2.1 (Hv.cut D len a b c d l).2.2 (Hv.slog D len a b c d l L)).2 ++ (Hv.run D len f (Hv.rgt D len a b c d l) (Hv.cut D len a b c d l).2.1 (Hv.cut D len a b c d l).2.2 c d (Hv.run D len f (Hv.lft D len a b c d l) a b (Hv.cut D len a b c d l).2.1 (Hv.cut D len a b c d l).2.2 (Hv.slog D len a b c d l L)).1).2) := by
    show (if l.length = 1 then _ else _) = _
    rw [if_neg (show ¬ l.length = 1 by omega)]
  rw [hrun]
  unfold SpD at sp
  rw [hn] at sp
  have IL := fun F A ca cs Q cq p cap m k vals v h1 h2 h3 h4 h5 h6 h7 h8 h9 => IH F A ca cs Q cq p (n / 2) cap m k Pp (Hv.lft D len a b c d l) (Hv.slog D len a b c d l L) a b (Hv.cut D len a b c d l).2.1 (Hv.cut D len a b c d l).2.2 vals v h1 h2 h3 h4 h5 h6 h7 hll h8 h9 hF1
  have IR := fun F A ca cs Q cq p cap m k vals v h1 h2 h3 h4 h5 h6 h7 h8 h9 => IH F A ca cs Q cq p (n - n / 2) cap m k Pp (Hv.rgt D len a b c d l) _ (Hv.cut D len a b c d l).2.1 (Hv.cut D len a b c d l).2.2 c d vals v h1 h2 h3 h4 h5 h6 h7 hrl h8 h9 hF2
  clear IH hF1 hF2 hll hrl p1 p2 hrun hS hlen
  generalize Hv.run D len f (Hv.rgt D len a b c d l) (Hv.cut D len a b c d l).2.1 (Hv.cut D len a b c d l).2.2 c d (Hv.run D len f (Hv.lft D len a b c d l) a b (Hv.cut D len a b c d l).2.1 (Hv.cut D len a b c d l).2.2 (Hv.slog D len a b c d l L)).1 = R2 at *
  generalize Hv.run D len f (Hv.lft D len a b c d l) a b (Hv.cut D len a b c d l).2.1 (Hv.cut D len a b c d l).2.2 (Hv.slog D len a b c d l L) = R1 at *
  generalize Hv.slog D len a b c d l L = LL at *
  generalize Hv.lft D len a b c d l = Sl at *
  generalize Hv.rgt D len a b c d l = Sr at *
  generalize (Hv.cut D len a b c d l).2.1 = ma at *
  generalize (Hv.cut D len a b c d l).2.2 = mb at *
  obtain ⟨mh, hmh⟩ : ∃ z, n / 2 = z := ⟨_, rfl⟩; obtain ⟨nh, hnh⟩ : ∃ z, n - mh = z := ⟨_, rfl⟩; rw [hmh] at sp IL IR; rw [hnh] at sp IR; obtain ⟨L1, T1⟩ := R1; obtain ⟨L2, T2⟩ := R2; dsimp only at h12 ⊢; have SP := Lib.hid sp; have HIL := Lib.hid IL; have HIR := Lib.hid IR; have H12 := Lib.hid h12; have HF := Lib.hid hF; have HF0 := Lib.hid hF0; clear sp IL IR h12 hF hF0 hK hB hn hm hk hD hmh hnh; have HE := Lib.hid (fun A4 m4 ca4 Q4 n4 cq4 l4 G1 G2 (w4 : World) => dvq_two (F := F) (D := D) (Pp := Pp) (N := N) (vals := vals) (L2 := L2) (T1 := T1) (T2 := T2) (G1 := G1) (G2 := G2) (w := w) (w4 := w4) (A4 := A4) (m4 := m4) (ca4 := ca4) (Q4 := Q4) (n4 := n4) (cq4 := cq4) (l4 := l4) H12.out)
  unfold DvQ at HIL HIR
  generalize DvQ F D Pp N vals (L2, T1 ++ T2) w = QQ at *
  go_enter Tryz.func29, Tryz.ntmps29
  go_upto_region 1 with fail
  refine at_box3 (fun V hbb B0 B1 B2 hVs => ?_); have p0 := B0.c 0 rfl; have p1 := B0.c 1 rfl; have s0 := B1.c 0 rfl; have s1 := B1.c 1 rfl; have s2 := B1.c 2 rfl; have s3 := B1.c 3 rfl; (go_wp2_with fail); refine (SP.out _ hbb).mono ?_; rintro e w1 ⟨A2, m2, ca2, Q2, n2, cq2, l2, gl, cl, gr, cr, rfl, hb, hm2, hn2', hd2, hfd, hgl, hBl, hgr, hBr⟩; have hs1 := hb.size; have BP := (hBP.keep hbb).keep hb; replace hbb := keepB hbb hb; replace B0 := B0.keep hb; replace B1 := B1.keep hb; replace B2 := B2.keep hb; rw [hVs] at hs1 hgl hgr hfd; have HM2 := Lib.hid hm2; have HN2 := Lib.hid hn2'; have HD2 := Lib.hid hd2; have HFD := Lib.hid hfd; have hgl1 := hBl.lt; have hgr1 := hBr.lt; clear hb p0 p1 s0 s1 s2 s3 hm2 hn2' hd2 hfd hVs SP; have r0 := (B0.al (.cells #[.int .i64 0, .int .i64 0] 51)).c 0 rfl; have r1 := (B0.al (.cells #[.int .i64 0, .int .i64 0] 51)).c 1 rfl; have f0 := (B0.al (.cells #[.int .i64 0, .int .i64 0] 51)).f 0 rfl; have f1 := (B0.al (.cells #[.int .i64 0, .int .i64 0] 51)).f 1 rfl
  go_upto_region 5 with fail
  refine at_worldQ (fun v => Below w.heap.size w v ∧ BK v w.heap.size [.slice A2 m2 ca2, .slice Q2 n2 cq2] ∧ BK v (w.heap.size + 1) [.int .i64 a, .int .i64 b, .int .i64 c, .int .i64 d] ∧ BK v (w.heap.size + 2) [.slice none 0 0, .slice none 0 0] ∧ BK v w1.heap.size [.int .i64 ma, .int .i64 mb] ∧ BK v gl (Hi.cells1 Sl) ∧ BK v gr (Hi.cells1 Sr) ∧ BK v Pp ((List.range N).map vals) ∧ FD v (w.heap.size + 3) A2 ca2 l2 Q2 cq2 LL ∧ w1.heap.size < v.heap.size)
    ⟨below_set (below_set (below_set (below_set (below_al hbb _) (by omega) _) (by omega) _) (by omega) _) (by omega) _, ((((B0.al _).set 0 _).set 1 _).far (by omega) _ _).far (by omega) _ _, ((((B1.al _).far (by omega) _ _).far (by omega) _ _).far (by omega) _ _).far (by omega) _ _, ((((B2.al _).far (by omega) _ _).far (by omega) _ _).far (by omega) _ _).far (by omega) _ _, ((((BK.new w1 [.int .i64 0, .int .i64 0] 51).far (by omega) _ _).far (by omega) _ _).set 0 _).set 1 _, ((((hBl.al _).far (by omega) _ _).far (by omega) _ _).far (by omega) _ _).far (by omega) _ _, ((((hBr.al _).far (by omega) _ _).far (by omega) _ _).far (by omega) _ _).far (by omega) _ _, ((((BP.al _).far (by omega) _ _).far (by omega) _ _).far (by omega) _ _).far (by omega) _ _,
      HFD.out.mid (((((Mid.refl (w.heap.size + 3) w1).al _).set (.inl (by omega)) _).set (.inl (by omega)) _).set (.inr (Nat.le_refl _)) _ |>.set (.inr (Nat.le_refl _)) _), by simp only [World.size_alloc, World.size_setCell]; omega⟩ (fun V5 hS => ?_)
  clear hbb B0 B1 B2 hBl hBr BP r0 r1 f0 f1 HFD; obtain ⟨hbb, B0, B1, B2, B3, BL, BR, BP, hfd, hs5⟩ := hS; have hK5 := hfd.dkp (F := fun k => F k ∨ k = w.heap.size ∨ k = w.heap.size + 2) (fun k hk => by rcases hk with hk | hk | hk <;> first | (have := HF.out k hk; omega) | omega)
  have hF5 : ∀ k, (F k ∨ k = w.heap.size ∨ k = w.heap.size + 2) → k < V5.heap.size := fun k hk => by rcases hk with hk | hk | hk <;> first | (have := HF.out k hk; omega) | omega
  have IL5 := HIL.out (fun k => F k ∨ k = w.heap.size ∨ k = w.heap.size + 2) A2 ca2 l2 Q2 cq2 gl cl m2 n2 vals V5 (.inl HF0.out) hF5 hK5 HM2.out HN2.out HD2.out BL (by omega) BP; have hs15 : w.heap.size + 3 ≤ w1.heap.size := hs1; have hgl5 := BL.lt; have hgr5 := BR.lt; have IL6 := Lib.hid IL5; have HG5 := Lib.hid ((GB.refl (fun k => k = Pp) w).below hbb); have HF5 := Lib.hid hF5; obtain ⟨p3, hp3⟩ : ∃ z, w1.heap.size = z := ⟨_, rfl⟩; rw [hp3] at B3 hs5 hs15 ⊢; clear hgl1 hgr1 hfd hK5 hF5 IL5 HIL HM2 HN2 HD2 BL BP hbb hs1 hp3; have p0 := B0.c 0 rfl; have p1 := B0.c 1 rfl; have s0 := B1.c 0 rfl; have s1 := B1.c 1 rfl; have q0 := B3.c 0 rfl; have q1 := B3.c 1 rfl; (go_wp2_with fail); refine IL6.out.mono ?_; rintro e w2 ⟨A3, m3, ca3, Q3, n3, cq3, l3, G1, rfl, hg, hm3, hn3, hd3, hk3, hBP3, hT1⟩; have hs2 := hg.size; replace B0 := B0.gb hg (fun h => by omega); replace B1 := B1.gb hg (fun h => by omega); replace B2 := B2.gb hg (fun h => by omega); replace B3 := B3.gb hg (fun h => by omega); replace BR := BR.gb hg (fun h => by omega); have HM3 := Lib.hid hm3; have HN3 := Lib.hid hn3; have HD3 := Lib.hid hd3; have HK3 := Lib.hid hk3; have HT1 := Lib.hid hT1; have HG3 := Lib.hid (Hv.gb_comp HG5.out hg); clear p0 p1 s0 s1 q0 q1 hm3 hn3 hd3 hk3 hT1 hg HG5 IL6; have r0 := B0.c 0 rfl; have r1 := B0.c 1 rfl; have f0 := B0.f 0 rfl; have f1 := B0.f 1 rfl
  go_upto_region 8 with fail
  refine at_worldQ (fun v => GB (fun k => k = Pp) w v ∧ BK v w.heap.size [.slice A3 m3 ca3, .slice Q3 n3 cq3] ∧ BK v (w.heap.size + 1) [.int .i64 a, .int .i64 b, .int .i64 c, .int .i64 d] ∧ BK v (w.heap.size + 2) [.slice none 0 0, .slice none 0 0] ∧ BK v p3 [.int .i64 ma, .int .i64 mb] ∧ BK v gr (Hi.cells1 Sr) ∧ BK v Pp (Hv.pvs N T1 G1 vals) ∧ DkP (fun k => F k ∨ k = w.heap.size ∨ k = w.heap.size + 2) v A3 l3 Q3 L1 ∧ (∀ t ∈ T1, V5.heap.size ≤ G1 t.1 ∧ BK v (G1 t.1) (Hv.spc t)) ∧ V5.heap.size ≤ v.heap.size)
    ⟨Hv.gb_set (Hv.gb_set HG3.out (.inr (by omega)) _) (.inr (by omega)) _, (B0.set 0 _).set 1 _, (B1.far (by omega) _ _).far (by omega) _ _, (B2.far (by omega) _ _).far (by omega) _ _, (B3.far (by omega) _ _).far (by omega) _ _, (BR.far (by omega) _ _).far (by omega) _ _, (hBP3.far (by omega) _ _).far (by omega) _ _,
      HK3.out.keep (Hv.gb_set (Hv.gb_set (GB.refl _ _) (.inl (.inr (.inl rfl))) _) (.inl (.inr (.inl rfl))) _), fun t ht => ⟨(HT1.out t ht).1, ((HT1.out t ht).2.far (by have := (HT1.out t ht).1; omega) _ _).far (by have := (HT1.out t ht).1; omega) _ _⟩, by simp only [World.size_setCell]; exact hs2⟩ (fun V8 hS => ?_)
  clear B0 B1 B2 B3 BR hBP3 r0 r1 f0 f1 HK3 HT1 HG3; obtain ⟨hg8, B0, B1, B2, B3, BR, BP, hk8, hT8, hs8⟩ := hS; have IR8 := HIR.out (fun k => F k ∨ k = w.heap.size ∨ k = w.heap.size + 2) A3 ca3 l3 Q3 cq3 gr cr m3 n3 (Hv.pv T1 G1 vals) V8 (.inl HF0.out) (fun k hk => Nat.lt_of_lt_of_le (HF5.out k hk) hs8) hk8 HM3.out HN3.out HD3.out BR (by omega) BP; have IR9 := Lib.hid IR8; have HG8 := Lib.hid hg8; have HT8 := Lib.hid hT8; clear IR8 hg8 hT8 hk8 HIR HM3 HN3 HD3 BR BP HF5; have p0 := B0.c 0 rfl; have p1 := B0.c 1 rfl; have s2 := B1.c 2 rfl; have s3 := B1.c 3 rfl; have q0 := B3.c 0 rfl; have q1 := B3.c 1 rfl; (go_wp2_with fail); refine IR9.out.mono ?_; rintro e w3 ⟨A4, m4, ca4, Q4, n4, cq4, l4, G2, rfl, hg, hm4, hn4, hd4, hk4, hBP4, hT2⟩; replace B2 := B2.gb hg (fun h => by omega); have hs3 := hg.size; have HM4 := Lib.hid hm4; have HN4 := Lib.hid hn4; have HD4 := Lib.hid hd4; have HK4 := Lib.hid hk4; have HT2 := Lib.hid hT2; have HG4 := Lib.hid (Hv.gb_comp HG8.out hg); have HT1 := Lib.hid (fun t (ht : t ∈ T1) => And.intro (HT8.out t ht).1 ((HT8.out t ht).2.gb hg (fun h => by have := (HT8.out t ht).1; omega))); clear p0 p1 s2 s3 q0 q1 B0 B1 B3 hm4 hn4 hd4 hk4 hT2 hg HG8 HT8 IR9; have r0 := B2.c 0 rfl; have r1 := B2.c 1 rfl; have f0 := B2.f 0 rfl; have f1 := B2.f 1 rfl; (go_wp2_with fail)
  exact bodyPost_ret (v := .tuple #[.agg #[.slice A4 m4 ca4, .slice Q4 n4 cq4], .int .i64 0]) (by simp [results, Tryz.results29, go_sem, r0, r1, f0, f1]) rfl (HE.out A4 m4 ca4 Q4 n4 cq4 l4 G1 G2 _ (Hv.gb_set (Hv.gb_set HG4.out (.inr (by omega)) _) (.inr (by omega)) _) HM4.out HN4.out HD4.out ((HK4.out.keep (Hv.gb_set (Hv.gb_set (GB.refl _ _) (.inl (.inr (.inr rfl))) _) (.inl (.inr (.inr rfl))) _)).weak (fun k hk => .inl hk)) ((hBP4.far (by omega) _ _).far (by omega) _ _)
    (fun t ht => ⟨by have := (HT1.out t ht).1; omega, ((HT1.out t ht).2.far (by have := (HT1.out t ht).1; omega) _ _).far (by have := (HT1.out t ht).1; omega) _ _⟩) (fun t ht => ⟨by have := (HT2.out t ht).1; omega, ((HT2.out t ht).2.far (by have := (HT2.out t ht).1; omega) _ _).far (by have := (HT2.out t ht).1; omega) _ _⟩))
theorem hvdivide_any (D : List CkD) (len : Int) (N : Nat) (hlen : (Ak.dAt D 0).1 = len) (hN : D.length ≤ N) : ∀ f, DvAll D len N f
  | 0 => fun F A ca cs Q cq p n cap m k Pp l L a b c d vals w h0 h1 h2 h3 h4 h5 h6 h7 h8 h9 h10 => h10.elim
  | f + 1 => fun F A ca cs Q cq p n cap m k Pp l L a b c d vals w h0 h1 h2 h3 h4 h5 h6 h7 h8 h9 h10 => by
    rcases h10 with ⟨h, hx⟩ | ⟨hS, g1, g2⟩
    · obtain ⟨x, rfl⟩ := List.length_eq_one_iff.1 h
      subst h7
      have e : Hv.run D len (f + 1) [x] a b c d L = (L, [(x, a, b, c, d)]) := by
        show (if ([x] : List Nat).length = 1 then _ else _) = _
        rw [if_pos (show ([x] : List Nat).length = 1 from rfl)]
        rfl
      rw [e]; exact hvdivide_one F D A ca cs Q cq p cap m k Pp N x L a b c d vals w h0 h2 h3 h4 h5 h6 (Nat.lt_of_lt_of_le hx hN) h8 h9
    · exact hvdivide_two D len N f hlen (hvdivide_any D len N hlen hN f) F A ca cs Q cq p n cap m k Pp l L a b c d vals w h0 h1 h2 h3 h4 h5 h6 h7 h9 hS g1 g2
end Go.Proofs.YtmfnlapoefihkaaGreat
namespace Go.Proofs.YtmfnlapoefihkaaGreat
open Go.RowKit
theorem hvspan_make (n : Nat) (hn : n ≤ 1000) (v : World) : Sem.run Tryz.prog (Instr.makeSlice 25 (.int .i64 (n : Int)) (.int .i64 (n : Int))) v = .ok (.slice (some ⟨v.heap.size, 0, none⟩) n n) (v.alloc (.cells (Array.replicate n (Value.slice none 0 0)) 49)) := by
  have h := run_make_row' (P := Tryz.prog) 25 49 (.slice none 0 0) 24 (by kernel_rfl) (by kernel_rfl) rfl .i64 .i64 n (by omega) (by omega) v
  have e : madeCells #[Value.slice none 0 0] n = Array.replicate n (Value.slice none 0 0) := by
    apply Array.ext
    · simp [madeCells]
    · intro i h1 h2
      simp [madeCells, Nat.mod_one]
  rw [e] at h; exact h
/-- What divide leaves for Run. -/
structure DvA (b0 bx Pp nn : Nat) (T : List Hv.Sp) (G : Nat → Nat) (A2 : Option Addr) (l2 : List CkR) (Q2 : Option Addr) (L : List Qr) (v : World) : Prop where
  l0 : b0 < bx
  l1 : b0 < Pp
  ne : bx ≠ Pp
  bp : BK v Pp (Hv.pvs nn T G (fun _ => Value.slice none 0 0))
  sp : ∀ t ∈ T, bx < G t.1 ∧ BK v (G t.1) (Hv.spc t)
  dk : DkP (fun k => k = Pp ∨ k = bx ∨ k = b0) v A2 l2 Q2 L
theorem DvA.set {b0 bx Pp nn : Nat} {T : List Hv.Sp} {G : Nat → Nat} {A2 : Option Addr} {l2 : List CkR} {Q2 : Option Addr} {L : List Qr} {v : World} (h : DvA b0 bx Pp nn T G A2 l2 Q2 L v) {p o : Nat} (hp : p = bx ∨ p = b0) (x : Value) : DvA b0 bx Pp nn T G A2 l2 Q2 L (v.setCell ⟨p, o, none⟩ x) :=
  ⟨h.l0, h.l1, h.ne, h.bp.far (by have := h.ne; have := h.l1; omega) _ _, fun t ht => ⟨(h.sp t ht).1, (h.sp t ht).2.far (by have := (h.sp t ht).1; have := h.l0; omega) _ _⟩, h.dk.keep ((GB.refl _ _).set (.inl (.inr hp)) x)⟩
theorem DvA.gb {b0 bx Pp nn : Nat} {T : List Hv.Sp} {G : Nat → Nat} {A2 : Option Addr} {l2 : List CkR} {Q2 : Option Addr} {L : List Qr} {F : Nat → Prop} {v v' : World} (h : DvA b0 bx Pp nn T G A2 l2 Q2 L v) (hg : GB F v v') (hF : ∀ k, F k → k = bx ∨ k = b0) : DvA b0 bx Pp nn T G A2 l2 Q2 L v' :=
  ⟨h.l0, h.l1, h.ne, h.bp.gb hg (fun e => by have := hF _ e; have := h.ne; have := h.l1; omega), fun t ht => ⟨(h.sp t ht).1, (h.sp t ht).2.gb hg (fun e => by have := hF _ e; have := (h.sp t ht).1; have := h.l0; omega)⟩, h.dk.keep (hg.weak (fun k hk => .inr (hF k hk)))⟩
/-- What Run gives. -/
def RunH (nn : Nat) (R : List Qr × List Hv.Sp) (w : World) (e : Ending) (w' : World) : Prop :=
  ∃ (Pp : Nat) (Q : Option Addr) (nq cq : Nat) (G : Nat → Nat), e = .returned (.tuple #[.agg #[.slice (some ⟨Pp, 0, none⟩) nn nn], .slice Q nq cq, .int .i64 0]) ∧ Below w.heap.size w w' ∧ R.1.length = nq ∧ IsQs w' Q R.1 ∧ BK w' Pp (Hv.pvs nn R.2 G (fun _ => Value.slice none 0 0)) ∧ ∀ t ∈ R.2, BK w' (G t.1) (Hv.spc t)
set_option linter.unusedSimpArgs false in
set_option maxHeartbeats 8000000 in
set_option maxRecDepth 100000 in
theorem hvrun_any (D : List CkD) (len : Int) (nn : Nat) (A : Option Addr) (ca : Nat) (cs : List CkR) (w : World) (h : IsCs w A cs) (hD : cs.map Ak.dat = D) (hc : Ak.chkS D 0 = 0) (hnn : cs.length = nn) (hlen : (Ak.dAt D 0).1 = len) (hF : Hv.Fine D len 6 (List.range nn) 0 1 len 1 []) :
    Calls Tryz.prog 8 #[.slice A nn ca] w (RunH nn (Hv.run D len 6 (List.range nn) 0 1 len 1 []) w) := by
  have op := fun v (hv : Below w.heap.size w v) => askOpen_any A ca cs v (h.keep hv)
  rw [hD, hnn] at op
  unfold OpenQ at op
  have hgd := Ak.chkS_good hc
  have hDl : D.length = nn := by rw [← hD, List.length_map, hnn]
  have hn6 : nn ≤ 6 := by rw [← hDl]; exact hgd.l1
  have hn1 : 1 ≤ nn := by rw [← hDl]; exact hgd.l0
  have dv := hvdivide_any D len nn hlen (by omega) 6
  have hrng : (Hv.rng nn).map (Value.int .i64) = Hi.cells1 (List.range nn) := by
    unfold Hv.rng Hi.cells1
    rw [List.map_map]
    rfl
  have hnil : List.replicate nn (Value.slice none 0 0) = ((List.range nn).map (fun _ => Value.slice none 0 0)) := List.ext_getElem (by simp) (fun k h1 h2 => by simp); have OP := Lib.hid op; have DV0 := Lib.hid (fun (F : Nat → Prop) A ca cs Q cq p cap Pp w h1 h2 h3 h4 h5 h6 h7 h8 => dv F A ca cs Q cq p nn cap nn 0 Pp (List.range nn) [] 0 1 len 1 (fun _ => Value.slice none 0 0) w h1 h2 h3 h4 rfl h5 h6 (by simp) h7 h8 hF); have HC := Lib.hid hc; have HDL := Lib.hid hDl; have HLEN := Lib.hid hlen; clear op dv hF hc hDl hlen hgd hD h hnn
  generalize Hv.run D len 6 (List.range nn) 0 1 len 1 [] = R at *
  unfold RunH
  go_enter Tryz.func8, Tryz.ntmps8
  go_upto_region 1 with fail
  refine at_box1 (fun V hbb B0 hVs => ?_); (go_wp2_with fail); refine (OP.out _ hbb).mono ?_; rintro e w1 ⟨hb, ⟨hne, _⟩ | ⟨_, A1, ca1, cs1, Q1, cq1, rfl, hd1, hfd⟩⟩
  · exact absurd HC.out hne
  have hcl1 : cs1.length = nn := by rw [← HDL.out, ← hd1, List.length_map]
  have hl1 : (Ak.cat cs1 0).len = len := by
    have e := HLEN.out; rw [← hd1, Ak.dAt_map cs1 (by omega)] at e; exact e
  rw [hcl1]; have HD1 := Lib.hid hd1; have HL1 := Lib.hid hl1; have HCL1 := Lib.hid hcl1; clear hd1 hl1 hcl1 OP; have hv1 := hb.size; replace hbb := keepB hbb hb; replace B0 := B0.keep hb; clear hb
  go_upto_region 4 with fail
  refine at_worldQ (fun v => Below w.heap.size w v ∧ BK v w.heap.size [.slice none 0 0] ∧ BK v w1.heap.size [.slice A1 nn ca1, .slice Q1 0 cq1] ∧ GB (fun _ => False) w1 v ∧ v.heap.size = w1.heap.size + 1) ⟨below_al hbb _, B0.al _, BK.new _ _ _, (GB.refl _ _).al _, by simp only [World.size_alloc]⟩ (fun V4 hS => ?_); clear hbb B0; obtain ⟨hbb, B0, B6, hG14, hs4⟩ := hS; have hmk := hvspan_make nn (by omega); have d0 := B0.lt; have c0' := (B0.al (.cells (Array.replicate nn (Value.slice none 0 0)) 49)).c 0 rfl; have f0' := (B0.al (.cells (Array.replicate nn (Value.slice none 0 0)) 49)).f 0 rfl
  go_upto_region 5 with fail
  refine at_worldQ (fun v => Below w.heap.size w v ∧ BK v w.heap.size [.slice (some ⟨w1.heap.size + 1, 0, none⟩) nn nn] ∧ BK v w1.heap.size [.slice A1 nn ca1, .slice Q1 0 cq1] ∧ BK v (w1.heap.size + 1) ((List.range nn).map (fun _ => Value.slice none 0 0)) ∧ GB (fun k => k = w.heap.size) w1 v ∧ v.heap.size = w1.heap.size + 2) ⟨below_set (below_al hbb _) (by omega) _, (B0.al _).set 0 _, (B6.al _).far (by omega) _ _, (by
    have b := BK.new V4 (List.replicate nn (Value.slice none 0 0)) 49; rw [List.toArray_replicate, hs4] at b; rw [← hnil]
    exact b.far (by omega) _ _), ((hG14.weak (F' := fun k => k = w.heap.size) fun k h => h.elim).al _).set (.inl rfl) _, by simp [hs4]⟩ (fun V hS => ?_)
  clear hbb B0 B6 hG14 hs4 c0' f0' hmk d0; obtain ⟨hbb, hB0, BD, BP, hG, hs5⟩ := hS; rw [hVs] at hfd hv1; obtain ⟨bx, hbx⟩ : ∃ z, w1.heap.size = z := ⟨_, rfl⟩; obtain ⟨Pp, hPp⟩ : ∃ z, w1.heap.size + 1 = z := ⟨_, rfl⟩; rw [hPp] at hB0 BP; rw [hbx] at BD hs5 hPp hv1
  have hK : ∀ (F : Nat → Prop), (∀ k, F k → k = Pp ∨ k = bx ∨ k = w.heap.size) → DkP F V A1 cs1 Q1 [] := fun F hF w' k => by
    have hm : Mid (w.heap.size + 1) w1 V := (Mid.refl (w.heap.size + 1) w1).gb' hG (fun j h1 h2 e => by omega); have hf := hfd.mid (hm.gb' k (fun j h1 h2 e => by have := hF j e; omega)); exact ⟨hf.isCs, hf.isQs⟩
  have hdv := fun (v : World) (g cp : Nat) (hg : GB (fun k => k = Pp) V v) (hE : BK v g (Hi.cells1 (List.range nn))) (hP : BK v Pp ((List.range nn).map (fun _ => Value.slice none 0 0))) (hgp : V.heap.size ≤ g) => DV0.out (fun k => k = Pp ∨ k = bx ∨ k = w.heap.size) A1 ca1 cs1 Q1 cq1 g cp Pp v (.inl rfl) (fun k hk => by have := hg.size; omega) ((hK _ (fun _ h => h)).keep (hg.weak fun _ h => .inl h)) HCL1.out HD1.out hE (by omega) hP
  have hal := fun (v : World) (hg : GB (fun k => k = Pp) V v) => hvall_any A1 ca1 cs1 Q1 0 cq1 len v (hK _ (fun _ h => .inl h) v hg).1 (by have := HCL1.out; omega) HL1.out
  rw [HCL1.out] at hal
  have hev := fun v => hvevery_any A1 nn ca1 Q1 0 cq1 v hn1 hn6
  unfold DvQ at hdv
  have DV := Lib.hid hdv; have AL := Lib.hid hal; have EV := Lib.hid hev; have d0 := BD.c 0 rfl; have d1 := BD.c 1 rfl; have c0 := hB0.c 0 rfl; clear hK hdv hal hev DV0 hfd hG
  go_upto_region 5 with fail
  have hPp := BKk.mk BP; refine wp_region_noPanic ?_; refine region_ordU (S := (GB (fun k => k = Pp) V)) (GB (fun k => k = Pp ∨ k = bx) V) 11 (by kernel_rfl) ((GB.refl _ _).drew) (fun hHeld => ?_); refine at_ordU (fun v => GB (fun k => k = Pp) V v ∧ BKk v Pp ((List.range nn).map (fun _ => Value.slice none 0 0))) ⟨hHeld, ⟨hPp.b.drew⟩⟩ (fun wu0 hNew => ?_); clear hHeld hPp; obtain ⟨hHeld, hPp⟩ := hNew; refine ordU_take (i := 0) (o := _) (v := ?vu1) rfl (by kernel_rfl) (by kernel_rfl) (by kernel_rfl) (by kernel_rfl) (fun _ _ _ h => h) (Or.inl ⟨by kernel_rfl, ?hyu1⟩) hHeld ?restu1
  case hyu1 => (intro w hSw; have kd0 := hSw.cell (by omega) d0; have kd1 := hSw.cell (by omega) d1; have kc0 := hSw.cell (by omega) c0; go_simp <;> with_reducible rfl)
  (try simp only [PPz]); refine ordU_take (i := 1) (o := _) (v := ?vu2) rfl (by kernel_rfl) (by kernel_rfl) (by kernel_rfl) (by kernel_rfl) (fun _ _ _ h => h) (Or.inl ⟨by kernel_rfl, ?hyu2⟩) hHeld ?restu2
  case hyu2 => (intro w hSw; have kd0 := hSw.cell (by omega) d0; have kd1 := hSw.cell (by omega) d1; have kc0 := hSw.cell (by omega) c0; go_simp <;> with_reducible rfl)
  (try simp only [PPz]); refine ordU_take (i := 3) (o := _) (v := ?vu3) rfl (by kernel_rfl) (by kernel_rfl) (by kernel_rfl) (by kernel_rfl) (fun _ _ _ h => h) (Or.inl ⟨by kernel_rfl, ?hyu3⟩) hHeld ?restu3
  case hyu3 => (intro w hSw; have kd0 := hSw.cell (by omega) d0; have kd1 := hSw.cell (by omega) d1; have kc0 := hSw.cell (by omega) c0; go_simp <;> with_reducible rfl)
  (try simp only [PPz]); refine ordU_take (i := 5) (o := _) (v := ?vu4) rfl (by kernel_rfl) (by kernel_rfl) (by kernel_rfl) (by kernel_rfl) (fun _ _ _ h => h) (Or.inl ⟨by kernel_rfl, ?hyu4⟩) hHeld ?restu4
  case hyu4 => (intro w hSw; go_simp <;> with_reducible rfl)
  (try simp only [PPz]); refine ordU_take (i := 6) (o := _) (v := ?vu5) rfl (by kernel_rfl) (by kernel_rfl) (by kernel_rfl) (by kernel_rfl) (fun _ _ _ h => h) (Or.inl ⟨by kernel_rfl, ?hyu5⟩) hHeld ?restu5
  case hyu5 => (intro w hSw; have kd0 := hSw.cell (by omega) d0; have kd1 := hSw.cell (by omega) d1; have kc0 := hSw.cell (by omega) c0; go_simp <;> with_reducible rfl)
  (try simp only [PPz]); refine ordU_ready (rs := [2]) (by kernel_rfl) (by simp) (ReadyU.cons (o := _) rfl (by decide) (fun K hK => ?_) ReadyU.nil); go_simp; refine (EV.out _).mono ?_; rintro e wu6 ⟨ge, ce, rfl, hge, -, hBe, hb3⟩; have hE := BKk.mk (hrng ▸ hBe); replace hge : V.heap.size ≤ ge := Nat.le_trans hHeld.size hge; clear hBe; (go_wp2_with fail); refine hK.out _ _ (hHeld.below hb3) (fun hNew => ?_); replace hPp := hPp.call hb3; clear hb3; clear hHeld hK K; have hHeld := hNew; clear hNew; (try simp only [PPz]); refine ordU_ready (rs := [4]) (by kernel_rfl) (by simp) (ReadyU.cons (o := _) rfl (by decide) (fun K hK => ?_) ReadyU.nil); go_simp; refine (AL.out _ hHeld).mono ?_; rintro e wu7 ⟨rfl, hb3⟩; (go_wp2_with fail); refine hK.out _ _ (hHeld.below hb3) (fun hNew => ?_); replace hPp := hPp.call hb3; replace hE := hE.call hb3; clear hb3; clear hHeld hK K; have hHeld := hNew; clear hNew; (try simp only [PPz]); refine ordU_ready (rs := [7]) (by kernel_rfl) (by simp) (ReadyU.cons (o := _) rfl (by decide) (fun K hK => ?_) ReadyU.nil); have hsw := hHeld.size; go_simp; refine (DV.out wu7 ge ce hHeld hE.b hPp.b hge).mono ?_; rintro e wu8 ⟨A2, m2, ca2, Q2, n2, cq2, l2, G, rfl, hg3, hm2, hn2, hd2, hk2, hBP2, hT2⟩; have hDA : DvA w.heap.size bx Pp nn R.2 G A2 l2 Q2 R.1 wu8 := ⟨by omega, by omega, by omega, hBP2, fun t ht => ⟨by have := (hT2 t ht).1; omega, (hT2 t ht).2⟩, hk2⟩; have HN2 := Lib.hid hn2; clear hE hPp hm2 hn2 hd2 hk2 hBP2 hT2 hsw; (go_wp2_with fail); refine hK.out _ _ (Hv.gb_comp hHeld hg3) (fun hNew => ?_); clear hg3; clear hHeld hK K; have hHeld := hNew; clear hNew; (try simp only [PPz]); refine ordU_take (i := 8) (o := _) (v := ?vu9) rfl (by kernel_rfl) (by kernel_rfl) (by kernel_rfl) (by kernel_rfl) (fun _ _ _ h => h) (Or.inl ⟨by kernel_rfl, ?hyu9⟩) hHeld ?restu9
  case hyu9 => (intro w hSw; go_simp <;> with_reducible rfl)
  (try simp only [PPz]); refine ordU_take (i := 9) (o := _) (v := ?vu10) rfl (by kernel_rfl) (by kernel_rfl) (by kernel_rfl) (by kernel_rfl) (fun _ _ _ h => h) (Or.inl ⟨by kernel_rfl, ?hyu10⟩) hHeld ?restu10
  case hyu10 => (intro w hSw; go_simp <;> with_reducible rfl)
  (try simp only [PPz]); refine ordU_take2 (i := 10) (o := _) (v := ?vu11) rfl (by kernel_rfl) (by kernel_rfl) (by kernel_rfl) (by decide) (fun  _ _ _ h => h) (Or.inl ⟨by kernel_rfl, ?hyu11⟩) (Or.inl ⟨by kernel_rfl, ?hzu11⟩) hHeld ?restu11
  case hyu11 => (intro w hSw; go_simp <;> with_reducible rfl)
  case hzu11 => (intro w hSw; go_simp <;> with_reducible rfl)
  (try simp only [PPz]); refine ordU_at (by kernel_rfl) ?_; replace BD := BD.gb hHeld (fun h => by omega); replace hHeld : GB (fun k => k = Pp ∨ k = bx) V wu8 := hHeld.weak (fun k hk => .inl hk); refine rdy1 11 rfl (fun K hK => ?_); have n0 := BD.c 0 rfl; have f0 := BD.f 0 rfl; have n1 := BD.c 1 rfl; have f1 := BD.f 1 rfl; go_simp; clear n0 f0 n1 f1; refine hK.out _ _ ((hHeld.set (.inl (.inr rfl)) _).set (.inl (.inr rfl)) _) (fun hNew => ?_); clear hHeld hK K; have hHeld := hNew; clear hNew; (try simp only [PPz]); refine at_anyH (fun v => GB (fun k => k = Pp ∨ k = bx) V v ∧ BK v (bx) [.slice A2 m2 ca2, .slice Q2 n2 cq2] ∧ DvA w.heap.size bx Pp nn R.2 G A2 l2 Q2 R.1 v) ⟨hHeld, ((BD.set 0 _).set 1 _), ((hDA.set (by omega) _).set (by omega) _)⟩ (fun wu12 hS => ?_); clear hHeld BD hDA; obtain ⟨hHeld, BD, hDA⟩ := hS; refine tkd 12 rfl hHeld ?_; (try simp only [PPz]); refine wpAnyH_done (by kernel_rfl) ?_ _; refine NoPanic.normal ?_; have hbb2 := hHeld.toBelow hbb (fun k hk => by rcases hk with hk | hk <;> omega) (by omega); have B0 := hB0.gb hHeld (fun h => by omega); have hsx := hHeld.size
  go_upto_region 8 with fail
  refine at_worldQ (fun v => Below w.heap.size w v ∧ BK v w.heap.size [.slice (some ⟨Pp, 0, none⟩) nn nn] ∧ BK v bx [.slice A2 m2 ca2, .slice Q2 n2 cq2] ∧ DvA w.heap.size bx Pp nn R.2 G A2 l2 Q2 R.1 v ∧ w.heap.size < v.heap.size) ⟨hbb2, B0, BD, hDA, by omega⟩ (fun W8 hS => ?_); clear hbb2 B0 BD hDA hbb hHeld hB0 hsx; obtain ⟨hbb2, B0, BD, hDA, hw8⟩ := hS; have r0 := B0.c 0 rfl; have q1 := BD.c 1 rfl; have hl0 := hDA.l0; refine wp_region_noPanic ?_; refine region_ordU (S := (GB (fun _ => False) W8)) (GB (fun k => k = w.heap.size) W8) 3 (by kernel_rfl) ((GB.refl _ _).drew) (fun hHeld => ?_); refine at_ordU (fun v => GB (fun _ => False) W8 v) hHeld (fun wx0 hNew => ?_); clear hHeld; have hHeld := hNew; clear hNew; refine ordU_take (i := 0) (o := _) (v := ?vx1) rfl (by kernel_rfl) (by kernel_rfl) (by kernel_rfl) (by kernel_rfl) (fun _ _ _ h => h) (Or.inl ⟨by kernel_rfl, ?hyx1⟩) hHeld ?restx1
  case hyx1 => (intro w hSw; have kr0 := hSw.cell (fun h => h) r0; have kq1 := hSw.cell (fun h => h) q1; go_simp <;> with_reducible rfl)
  (try simp only [PPz]); refine ordU_take2 (i := 1) (o := _) (v := ?vx2) rfl (by kernel_rfl) (by kernel_rfl) (by kernel_rfl) (by decide) (fun  _ _ _ h => h) (Or.inl ⟨by kernel_rfl, ?hyx2⟩) (Or.inl ⟨by kernel_rfl, ?hzx2⟩) hHeld ?restx2
  case hyx2 => (intro w hSw; go_simp <;> with_reducible rfl)
  case hzx2 => (intro w hSw; go_simp <;> with_reducible rfl)
  (try simp only [PPz]); refine ordU_take2 (i := 2) (o := _) (v := ?vx3) rfl (by kernel_rfl) (by kernel_rfl) (by kernel_rfl) (by decide) (fun  _ _ _ h => h) (Or.inl ⟨by kernel_rfl, ?hyx3⟩) (Or.inl ⟨by kernel_rfl, ?hzx3⟩) hHeld ?restx3
  case hyx3 => (intro w hSw; have kr0 := hSw.cell (fun h => h) r0; have kq1 := hSw.cell (fun h => h) q1; go_simp <;> with_reducible rfl)
  case hzx3 => (intro w hSw; have kq1 := hSw.cell (by omega) q1; go_simp <;> with_reducible rfl)
  (try simp only [PPz]); refine ordU_at (by kernel_rfl) ?_; replace B0 := B0.gb hHeld (fun h => h); replace hHeld : GB (fun k => k = w.heap.size) W8 wx0 := hHeld.weak (fun k hk => False.elim hk); refine rdy1 3 rfl (fun K hK => ?_); have n0 := B0.c 0 rfl; have f0 := B0.f 0 rfl; go_simp; clear n0 f0; refine hK.out _ _ (hHeld.set (.inl rfl) _) (fun hNew => ?_); clear hHeld hK K; have hHeld := hNew; clear hNew; (try simp only [PPz]); refine at_anyH (fun v => GB (fun k => k = w.heap.size) W8 v ∧ BK v (w.heap.size) [.slice (some ⟨Pp, 0, none⟩) nn nn]) ⟨hHeld, (B0.set 0 _)⟩ (fun wx4 hS => ?_); clear hHeld B0; obtain ⟨hHeld, B0⟩ := hS; refine tkd 4 rfl hHeld ?_; (try simp only [PPz]); refine tkd 5 rfl hHeld ?_; (try simp only [PPz]); refine wpAnyH_done (by kernel_rfl) ?_ _; refine NoPanic.normal ?_; have hDA2 := hDA.gb hHeld (fun k hk => .inr hk); have hbb3 := hHeld.toBelow hbb2 (fun k hk => by omega) (by omega); have z0 := B0.c 0 rfl; (go_wp2_with fail); exact bodyPost_ret (v := .tuple #[.agg #[.slice (some ⟨Pp, 0, none⟩) nn nn], .slice Q2 n2 cq2, .int .i64 0]) (by simp [results, Tryz.results8, go_sem, z0]) rfl ⟨Pp, Q2, n2, cq2, G, rfl, hbb3, HN2.out, (hDA2.dk _ (GB.refl _ _)).2, hDA2.bp, fun t ht => (hDA2.sp t ht).2⟩
end Go.Proofs.YtmfnlapoefihkaaGreat


/- Package ask's Value, Mark, Open, Total. Package ask's Replay. -/
import Derived.Test.YtniagnldiegamaaGreatAskpu
import Derived.Test.YtniagnldiegamaaGreatTot
set_option linter.unusedSimpArgs false
set_option maxHeartbeats 8000000
set_option maxRecDepth 100000
namespace Go.Proofs.YtniagnldiegamaaGreat
open Go.RowKit
theorem askValue_any (A : Option Addr) (ca : Nat) (cs : List CkR) (Q : Option Addr) (qs : List Qr) (cq : Nat) (ag a b c d : Int) (w : World) (h : IsCs w A cs) (hq : IsQs w Q qs) (h1 : I64 ag) (h2 : I64 a) (h3 : I64 b) (h4 : I64 c) (h5 : I64 d) :
    Calls Tryz.prog 112 #[.agg #[.slice A cs.length ca, .slice Q qs.length cq], .int .i64 ag, .agg #[.int .i64 a, .int .i64 b], .agg #[.int .i64 c, .int .i64 d]] w (PutQ (cs.map Ak.dat) qs ⟨ag, 1, a, b, c, d, 0, 0⟩ w) := by
  have PU := Lib.hid (fun v (hv : Below w.heap.size w v) => put_any A ca cs Q qs cq ag 1 a b c d 0 0 v (h.keep hv) (hq.keep hv) ⟨h1, show (0 : Int) ≤ 1 ∧ (1 : Int) ≤ 255 by decide, h2, h3, h4, h5, show I64 0 from ⟨by decide, by decide⟩, show I64 0 from ⟨by decide, by decide⟩⟩)
  unfold PutQ at PU ⊢
  generalize Ak.putE (cs.map Ak.dat) qs.length ⟨ag, 1, a, b, c, d, 0, 0⟩ = z at *
  generalize Ak.told (cs.map Ak.dat) ⟨ag, 1, a, b, c, d, 0, 0⟩ = tq at *
  clear h hq h1 h2 h3 h4 h5
  go_enter Tryz.func112, Tryz.ntmps112
  go_upto_region 1 with fail
  refine at_box5 (fun V hbb B0 B1 B2 B3 B4 hVs => ?_); have p0 := B0.c 0 rfl; have p1 := B0.c 1 rfl; have y0 := B1.c 0 rfl; have y1 := B1.c 1 rfl; have z0 := B2.c 0 rfl; have z1 := B2.c 1 rfl; (go_wp2_with fail); refine (PU.out _ hbb).mono ?_; rintro e w1 ⟨hb, hres⟩; clear p0 p1 y0 y1 z0 z1; replace B3 := B3.keep hb; replace B4 := B4.keep hb
  rcases hres with ⟨hne, rfl⟩ | ⟨he, A2, ca2, l, Q2, cq2, rfl, hdat, hfd⟩
  ·
    have r0 := B3.c 0 rfl; have r1 := B3.c 1 rfl; have f0 := B3.f 0 rfl; have f1 := B3.f 1 rfl; have t0 := B4.c 0 rfl; have t1 := B4.c 1 rfl; have g0 := B4.f 0 rfl; have g1 := B4.f 1 rfl; (go_wp2_with fail); exact bodyPost_ret (v := .tuple #[.agg #[.slice none 0 0, .slice none 0 0], .agg #[.int .i64 0, .int .i64 0], .int .i64 z]) (by simp [results, Tryz.results112, go_sem, r0, r1, t0, t1]) rfl ⟨below_set (below_set (below_set (below_set (keepB hbb hb) (by omega) _) (by omega) _) (by omega) _) (by omega) _, .inl ⟨hne, rfl⟩⟩
  · have hfd' := ((((hfd.set (p := w.heap.size + 3) (o := 0) (by omega) (.slice A2 l.length ca2)).set (p := w.heap.size + 3) (o := 1) (by omega) (.slice Q2 (qs.length + 1) cq2)).set (p := w.heap.size + 4) (o := 0) (by omega) (.int .i64 tq.x)).set (p := w.heap.size + 4) (o := 1) (by omega) (.int .i64 tq.y)).mono (show w.heap.size ≤ V.heap.size by omega)
    have HFD := Lib.hid hfd'; have HDAT := Lib.hid hdat; have HE := Lib.hid he; clear hfd hfd' hdat he; have r0 := B3.c 0 rfl; have r1 := B3.c 1 rfl; have f0 := B3.f 0 rfl; have f1 := B3.f 1 rfl; have t0 := B4.c 0 rfl; have t1 := B4.c 1 rfl; have g0 := B4.f 0 rfl; have g1 := B4.f 1 rfl; (go_wp2_with fail); exact bodyPost_ret (v := .tuple #[.agg #[.slice A2 l.length ca2, .slice Q2 (qs ++ [tq]).length cq2], .agg #[.int .i64 tq.x, .int .i64 tq.y], .int .i64 0]) (by simp [results, Tryz.results112, go_sem, r0, r1, t0, t1]) rfl ⟨below_set (below_set (below_set (below_set (keepB hbb hb) (by omega) _) (by omega) _) (by omega) _) (by omega) _, .inr ⟨HE.out, A2, ca2, l, Q2, cq2, rfl, HDAT.out, HFD.out⟩⟩
theorem askMark_any (A : Option Addr) (ca : Nat) (cs : List CkR) (Q : Option Addr) (qs : List Qr) (cq : Nat) (ag a b c d : Int) (w : World) (h : IsCs w A cs) (hq : IsQs w Q qs) (h1 : I64 ag) (h2 : I64 a) (h3 : I64 b) (h4 : I64 c) (h5 : I64 d) :
    Calls Tryz.prog 75 #[.agg #[.slice A cs.length ca, .slice Q qs.length cq], .int .i64 ag, .agg #[.int .i64 a, .int .i64 b], .agg #[.int .i64 c, .int .i64 d]] w (PutQ (cs.map Ak.dat) qs ⟨ag, 2, a, b, c, d, 0, 0⟩ w) := by
  have PU := Lib.hid (fun v (hv : Below w.heap.size w v) => put_any A ca cs Q qs cq ag 2 a b c d 0 0 v (h.keep hv) (hq.keep hv) ⟨h1, show (0 : Int) ≤ 2 ∧ (2 : Int) ≤ 255 by decide, h2, h3, h4, h5, show I64 0 from ⟨by decide, by decide⟩, show I64 0 from ⟨by decide, by decide⟩⟩)
  unfold PutQ at PU ⊢
  generalize Ak.putE (cs.map Ak.dat) qs.length ⟨ag, 2, a, b, c, d, 0, 0⟩ = z at *
  generalize Ak.told (cs.map Ak.dat) ⟨ag, 2, a, b, c, d, 0, 0⟩ = tq at *
  clear h hq h1 h2 h3 h4 h5
  go_enter Tryz.func75, Tryz.ntmps75
  go_upto_region 1 with fail
  refine at_box5 (fun V hbb B0 B1 B2 B3 B4 hVs => ?_); have p0 := B0.c 0 rfl; have p1 := B0.c 1 rfl; have y0 := B1.c 0 rfl; have y1 := B1.c 1 rfl; have z0 := B2.c 0 rfl; have z1 := B2.c 1 rfl; (go_wp2_with fail); refine (PU.out _ hbb).mono ?_; rintro e w1 ⟨hb, hres⟩; clear p0 p1 y0 y1 z0 z1; replace B3 := B3.keep hb; replace B4 := B4.keep hb
  rcases hres with ⟨hne, rfl⟩ | ⟨he, A2, ca2, l, Q2, cq2, rfl, hdat, hfd⟩
  ·
    have r0 := B3.c 0 rfl; have r1 := B3.c 1 rfl; have f0 := B3.f 0 rfl; have f1 := B3.f 1 rfl; have t0 := B4.c 0 rfl; have t1 := B4.c 1 rfl; have g0 := B4.f 0 rfl; have g1 := B4.f 1 rfl; (go_wp2_with fail); exact bodyPost_ret (v := .tuple #[.agg #[.slice none 0 0, .slice none 0 0], .agg #[.int .i64 0, .int .i64 0], .int .i64 z]) (by simp [results, Tryz.results75, go_sem, r0, r1, t0, t1]) rfl ⟨below_set (below_set (below_set (below_set (keepB hbb hb) (by omega) _) (by omega) _) (by omega) _) (by omega) _, .inl ⟨hne, rfl⟩⟩
  · have hfd' := ((((hfd.set (p := w.heap.size + 3) (o := 0) (by omega) (.slice A2 l.length ca2)).set (p := w.heap.size + 3) (o := 1) (by omega) (.slice Q2 (qs.length + 1) cq2)).set (p := w.heap.size + 4) (o := 0) (by omega) (.int .i64 tq.x)).set (p := w.heap.size + 4) (o := 1) (by omega) (.int .i64 tq.y)).mono (show w.heap.size ≤ V.heap.size by omega)
    have HFD := Lib.hid hfd'; have HDAT := Lib.hid hdat; have HE := Lib.hid he; clear hfd hfd' hdat he; have r0 := B3.c 0 rfl; have r1 := B3.c 1 rfl; have f0 := B3.f 0 rfl; have f1 := B3.f 1 rfl; have t0 := B4.c 0 rfl; have t1 := B4.c 1 rfl; have g0 := B4.f 0 rfl; have g1 := B4.f 1 rfl; (go_wp2_with fail); exact bodyPost_ret (v := .tuple #[.agg #[.slice A2 l.length ca2, .slice Q2 (qs ++ [tq]).length cq2], .agg #[.int .i64 tq.x, .int .i64 tq.y], .int .i64 0]) (by simp [results, Tryz.results75, go_sem, r0, r1, t0, t1]) rfl ⟨below_set (below_set (below_set (below_set (keepB hbb hb) (by omega) _) (by omega) _) (by omega) _) (by omega) _, .inr ⟨HE.out, A2, ca2, l, Q2, cq2, rfl, HDAT.out, HFD.out⟩⟩
/-- What Open gives. -/
def OpenQ (D : List CkD) (w : World) (e : Ending) (w' : World) : Prop :=
  Below w.heap.size w w' ∧ ((Ak.chkS D 0 ≠ 0 ∧ e = .returned (.tuple #[.agg #[.slice none 0 0, .slice none 0 0], .int .i64 (Ak.chkS D 0)])) ∨
    (Ak.chkS D 0 = 0 ∧ ∃ A ca l Q cq, e = .returned (.tuple #[.agg #[.slice A l.length ca, .slice Q 0 cq], .int .i64 0]) ∧ l.map Ak.dat = D ∧ FD w' w.heap.size A ca l Q cq []))
theorem askOpen_any (A : Option Addr) (ca : Nat) (cs : List CkR) (w : World) (h : IsCs w A cs) :
    Calls Tryz.prog 35 #[.slice A cs.length ca] w (OpenQ (cs.map Ak.dat) w) := by
  unfold OpenQ
  have ch := fun v (hv : Below w.heap.size w v) => askCheck_any A ca cs none 0 0 v (by simp) (h.keep hv)
  by_cases h1 : Ak.chkS (cs.map Ak.dat) 0 = 0
  · have hgd := Ak.chkS_good h1
    have l1 := hgd.l1; rw [List.length_map] at l1
    have hgc : ∀ c ∈ cs, Ak.ckD (Ak.dat c) = 0 := fun c hc => hgd.all _ (List.mem_map_of_mem hc)
    have cp := fun v (hv : Below w.heap.size w v) => copied_any A ca cs none [] 0 v (h.keep hv) (isQs_nil v none) hgc l1 (by simp)
    rw [h1] at ch; have CH := Lib.hid ch; have CP := Lib.hid cp; have HE := Lib.hid h1
    simp only [List.length_nil] at CP
    have e0 : ((0 : Int) != 0) = false := rfl; clear ch cp h1 hgd hgc h
    go_enter Tryz.func35, Tryz.ntmps35
    go_upto_region 2 with fail
    refine at_box2 (fun V hbb B0 B1 hVs => ?_); have p0 := B1.c 0 rfl; have p1 := B1.c 1 rfl; (go_wp2_with fail); refine (CH.out _ hbb).mono ?_; rintro e w1 ⟨rfl, hb⟩; clear p0 p1; replace hbb := keepB hbb hb; replace B0 := B0.keep hb; replace B1 := B1.keep hb; have hws := hb.size; clear hb; have p0 := B1.c 0 rfl; have p1 := B1.c 1 rfl; (go_wp2_with fail); refine (CP.out _ hbb).mono ?_; rintro e w2 ⟨N, rv, lv, l, rfl, hdat, hcr, hlog, hlv⟩; obtain ⟨R, cr, rfl, _⟩ := Ak.row_cap hcr.row; obtain ⟨Q2, cq2, rfl, _⟩ := Ak.row_cap hlog; have hN := hcr.hw; have hfd : FD w2 w1.heap.size R cr l Q2 cq2 [] := ⟨World.ownsRow.mono hcr.row hN, fun c hc => ⟨(hcr.all c hc).1, (hcr.all c hc).2.1, ((hcr.all c hc).2.2.1.row (fun g e => by cases e)).mono hN, ((hcr.all c hc).2.2.2.row (fun g e => by cases e)).mono hN⟩, hlog, (by intro q hq; cases hq), by have := congrArg List.length hdat; simp at this; unfold maxLen; omega, by simp⟩; clear p0 p1; have hfd' := ((hfd.set (p := w.heap.size) (o := 0) (by omega) (.slice R l.length cr)).set (p := w.heap.size) (o := 1) (by omega) (.slice Q2 0 cq2)).mono (show w.heap.size ≤ w1.heap.size by omega); have HFD := Lib.hid hfd'; have HDAT := Lib.hid hdat; replace B0 := B0.keep hcr.bb; replace hbb := keepB hbb hcr.bb; clear hfd hfd' hdat hlog hlv hcr hN l1; have r0 := B0.c 0 rfl; have r1 := B0.c 1 rfl; have f0 := B0.f 0 rfl; have f1 := B0.f 1 rfl; (go_wp2_with fail); exact bodyPost_ret (v := .tuple #[.agg #[.slice R l.length cr, .slice Q2 0 cq2], .int .i64 0]) (by simp [results, Tryz.results35, go_sem, r0, r1]) rfl ⟨below_set (below_set hbb (by omega) _) (by omega) _, .inr ⟨HE.out, R, cr, l, Q2, cq2, rfl, HDAT.out, HFD.out⟩⟩
  · have HNZ := Lib.hid h1
    have n1 : (Ak.chkS (cs.map Ak.dat) 0 != 0) = true := by rw [bne_iff_ne]; exact h1
    generalize Ak.chkS (cs.map Ak.dat) 0 = z at *
    have CH := Lib.hid ch; clear ch h1 h
    go_enter Tryz.func35, Tryz.ntmps35
    go_upto_region 2 with fail
    refine at_box2 (fun V hbb B0 B1 hVs => ?_); have p0 := B1.c 0 rfl; have p1 := B1.c 1 rfl; (go_wp2_with fail); refine (CH.out _ hbb).mono ?_; rintro e w1 ⟨rfl, hb⟩; clear p0 p1; replace hbb := keepB hbb hb; replace B0 := B0.keep hb; clear hb; have r0 := B0.c 0 rfl; have r1 := B0.c 1 rfl; have f0 := B0.f 0 rfl; have f1 := B0.f 1 rfl; (go_wp2_with fail); exact bodyPost_ret (v := .tuple #[.agg #[.slice none 0 0, .slice none 0 0], .int .i64 z]) (by simp [results, Tryz.results35, go_sem, r0, r1]) rfl ⟨below_set (below_set hbb (by omega) _) (by omega) _, .inl ⟨HNZ.out, rfl⟩⟩
theorem askTotal_good (A : Option Addr) (ca : Nat) (cs : List CkR) (Q : Option Addr) (m cq k : Nat) (w : World) (h : IsCs w A cs) (hm : m ≤ maxLen) (hc : Ak.chkS (cs.map Ak.dat) m = 0) (hk : k < cs.length) :
    Calls Tryz.prog 104 #[.agg #[.slice A cs.length ca, .slice Q m cq], .int .i64 k] w fun e w' => e = .returned (.tuple #[.int .i64 (Ck.totS (Ak.cat cs k).len (Ak.cat cs k).cuts (Ak.cat cs k).dens).1, .int .i64 (Ck.totS (Ak.cat cs k).len (Ak.cat cs k).cuts (Ak.cat cs k).dens).2]) ∧ Below w.heap.size w w' := by
  have ch := fun v (hv : Below w.heap.size w v) => askCheck_any A ca cs Q m cq v hm (h.keep hv)
  rw [hc] at ch
  have has := fun v => has_any A cs.length ca Q m cq k v
  rw [decide_eq_true (show (0 : Int) ≤ k ∧ (k : Int) < cs.length by omega)] at has; have hln := h.len
  unfold maxLen at hln
  obtain ⟨bb, o, hA, hcl⟩ := h.at_; obtain rfl := hA (by omega); have hi := h.all _ (Ak.cat_mem hk); have hcl := hcl k hk
  generalize Ak.cat cs k = cc at *
  have tt := fun v (hv : Below w.heap.size w v) => ckTotal_any cc.len cc.K cc.cuts cc.ck cc.Z cc.dens cc.cz v (hi.keep hv)
  generalize Ck.totS cc.len cc.cuts cc.dens = R at *
  obtain ⟨R1, R2⟩ := R; dsimp only at tt ⊢; have CH := Lib.hid ch; have HAS := Lib.hid has; have TT := Lib.hid tt; have HCL := Lib.hid hcl
  have i1 : (0 : Int) ≤ (k : Int) := by omega
  have i2 : (k : Int) < (cs.length : Int) := by omega
  have e0 : ((0 : Int) != 0) = false := rfl; clear ch has tt hcl hA hi h hc hm
  go_enter Tryz.func104, Tryz.ntmps104
  go_upto_region 1 with fail
  refine at_box1 (fun V hbb B0 hVs => ?_); have p0 := B0.c 0 rfl; have p1 := B0.c 1 rfl; (go_wp2_with fail); refine (CH.out _ hbb).mono ?_; rintro e w1 ⟨rfl, hb⟩; clear p0 p1; replace hbb := keepB hbb hb; replace B0 := B0.keep hb; clear hb; have p0 := B0.c 0 rfl; have p1 := B0.c 1 rfl
  go_upto_region 5 with fail
  clear p0 p1; refine at_worldQ (fun v => Below w.heap.size w v ∧ BK v w1.heap.size [.slice (some ⟨bb, o, none⟩) cs.length ca, .slice Q m cq]) ⟨below_al hbb _, BK.new w1 [.slice (some ⟨bb, o, none⟩) cs.length ca, .slice Q m cq] _⟩ (fun V5 hS => ?_); clear hbb B0; obtain ⟨hbb, B1⟩ := hS
  generalize w1.heap.size = P1 at *
  have p0 := B1.c 0 rfl; have p1 := B1.c 1 rfl; (go_wp2_with fail); refine (HAS.out _).mono ?_; rintro e w2 ⟨rfl, hb⟩; clear p0 p1; replace hbb := keepB hbb hb; replace B1 := B1.keep hb; clear hb; have p0 := B1.c 0 rfl; have p1 := B1.c 1 rfl; have c0 := keepC hbb HCL.out.1; have c1 := keepC hbb HCL.out.2.1; have c2 := keepC hbb HCL.out.2.2; (go_wp2_with fail); refine (TT.out _ hbb).mono ?_; rintro e w3 ⟨rfl, hb⟩; replace hbb := keepB hbb hb; clear hb p0 p1 c0 c1 c2; (go_wp2_with fail)
  go_ret2
  exact ⟨rfl, hbb⟩
end Go.Proofs.YtniagnldiegamaaGreat
namespace Go.Proofs.YtniagnldiegamaaGreat
open Go.RowKit
namespace Ak
end Ak
end Go.Proofs.YtniagnldiegamaaGreat


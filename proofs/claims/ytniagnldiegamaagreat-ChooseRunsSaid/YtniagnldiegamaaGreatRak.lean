/- The reference's Open, Agent, answer. -/
import Derived.Test.YtniagnldiegamaaGreatGl
import Derived.Test.YtniagnldiegamaaGreatWf
import Derived.Test.YtniagnldiegamaaGreatGk
import Derived.Test.YtniagnldiegamaaGreatRmk
import Derived.Test.YtniagnldiegamaaGreatTrx
set_option linter.unusedSimpArgs false
set_option maxHeartbeats 8000000
set_option maxRecDepth 100000
namespace Go.Proofs.YtniagnldiegamaaGreat
open Go.RowKit
theorem twins_ok {D : List CkD} {cs : List CkR} (hD : cs.map Ak.dat = D) (h : Ak.chkS D 0 = 0) : cs.length ≤ 6 ∧ ∀ c ∈ cs, c.cuts.length ≤ 60 ∧ c.dens.length ≤ 60 := by
  subst hD; have g := Ak.chkS_good h; have l1 := g.l1; rw [List.length_map] at l1; refine ⟨l1, fun c hc => ?_⟩; have hG := Ck.chk_good (show Ck.chk c.len c.cuts c.dens = 0 from g.all _ (List.mem_map_of_mem hc)); have := hG.shape
  omega
theorem crow_fd {w V : World} {R : Option Addr} {cr : Nat} {l : List CkR} (hcr : CRow w w.heap.size 67 (.slice R l.length cr) l V) : ∀ c ∈ l, IsCG V w.heap.size none c := fun c hc => ⟨(hcr.all c hc).1, (hcr.all c hc).2.1, (hcr.all c hc).2.2.1.row (fun g e => by cases e), (hcr.all c hc).2.2.2.row (fun g e => by cases e)⟩
theorem ragent_any (A : Option Addr) (n ca : Nat) (Q : Option Addr) (m cq : Nat) (k : Int) (w : World) (h0 : 0 ≤ k) (h1 : k < (n : Nat)) :
    Calls Tryz.prog 107 #[.agg #[.slice A n ca, .slice Q m cq], .int .i64 k] w fun e w' => e = .returned (.bool true) ∧ Below w.heap.size w w' := by
  go_enter Tryz.func107, Tryz.ntmps107
  go_upto_region 1 with fail
  refine at_box1 (fun V hbb B0 hVs => ?_); have cB00 := B0.c 0 rfl; have cB01 := B0.c 1 rfl; (go_wp2_with fail)
  go_ret
  exact ⟨rfl, hbb⟩
theorem ransM_any (A : Option Addr) (ca : Nat) (cs : List CkR) (j : Nat) (a b c d x y : Int) (w : World) (h : IsCs w A cs) (hc : Ak.chkS (cs.map Ak.dat) 0 = 0) (hj : j < cs.length) (hx : Ak.kS (Ak.dAt (cs.map Ak.dat) j) a b c d = (x, y, 0)) :
    Calls Tryz.prog 108 #[.slice A cs.length ca, .agg #[.int .i64 (j : Nat), .int .u8 2, .int .i64 a, .int .i64 b, .int .i64 c, .int .i64 d, .int .i64 0, .int .i64 0]] w fun e w' => e = .returned (.tuple #[.agg #[.int .i64 x, .int .i64 y], .int .i64 0]) ∧ Below w.heap.size w w' := by
  obtain ⟨c0, hc0⟩ : ∃ z, Ak.cat cs j = z := ⟨_, rfl⟩; have hm : c0 ∈ cs := hc0 ▸ Ak.cat_mem hj
  have hd : Ak.dAt (cs.map Ak.dat) j = Ak.dat c0 := by rw [← hc0]; exact Ak.dAt_map cs hj
  have hck := (Ak.chkS_good hc).all (Ak.dat c0) (List.mem_map_of_mem hm)
  have hk : Ck.pt c0.len a b = true ∧ Rp.Ok c d ∧ 0 ≤ c ∧ Ck.mrk c0.len c0.cuts c0.dens a b c d = (x, y, 0) := by
    rw [hd] at hx
    unfold Ak.kS at hx
    split at hx
    · next g => exact ⟨g.1, g.2.1, g.2.2, hx⟩
    · simp at hx
  have vl := fun v (hv : Below w.heap.size w v) => rmark_any c0.len c0.K c0.cuts c0.ck c0.Z c0.dens c0.cz a b c d v ((h.all _ hm).keep hv) hck hk.1 hk.2.1 hk.2.2.1
  rw [hk.2.2.2] at vl; have VL := Lib.hid vl; have HC := Lib.hid h; clear vl h hck hk hx hd hc hm
  go_enter Tryz.func108, Tryz.ntmps108
  go_upto_region 1 with fail
  refine at_box2 (fun V hbb B0 B1 hVs => ?_)

  have cB00 := B0.c 0 rfl; have cB01 := B0.c 1 rfl; have cB02 := B0.c 2 rfl; have cB03 := B0.c 3 rfl; have cB04 := B0.c 4 rfl; have cB05 := B0.c 5 rfl; have cB06 := B0.c 6 rfl; have cB07 := B0.c 7 rfl
  have j0 : (0 : Int) ≤ (j : Nat) := by omega
  have j1 : ((j : Nat) : Int) < (cs.length : Nat) := by omega
  obtain ⟨cb, co, hA, hcl⟩ := HC.out.at_; obtain rfl := hA (by omega); have hcl := hcl j hj; rw [hc0] at hcl; obtain ⟨y0, y1, y2⟩ := hcl; have hcbw := lt_of_cell y0
  (try dsimp only at hcbw)
  have y0 := keepC hbb y0; have y1 := keepC hbb y1; have y2 := keepC hbb y2; clear hA hcl
  go_upto_region 3 with fail
  refine at_worldQ (fun v => Below w.heap.size w v ∧ BK v (w.heap.size) [.int .i64 (j : Nat), .int .u8 2, .int .i64 a, .int .i64 b, .int .i64 c, .int .i64 d, .int .i64 0, .int .i64 0] ∧ BK v (w.heap.size + 1) [.int .i64 0, .int .i64 0] ∧ v = V) ⟨hbb, B0, B1, rfl⟩ (fun V2 hS => ?_); obtain ⟨-, -, -, hV⟩ := hS; subst hV
  have NB0 : ¬ (w.heap.size = w.heap.size + 1) := by omega
  have NBc : ¬ (cb = w.heap.size + 1) := fun e => by omega
  have BR := B1; clear B1; refine wp_region_noPanic ?_; refine wp_region_held_drew (S := (GB (fun k => k = w.heap.size + 1) V2)) (by kernel_rfl) ((GB.refl _ _).drew) (fun hHeld => ?_); refine at_anyH (fun v => GB (fun k => k = w.heap.size + 1) V2 v ∧ BK v (w.heap.size + 1) [.int .i64 0, .int .i64 0]) ⟨hHeld, BR.drew⟩ (fun wt0 hNew => ?_); clear hHeld BR; obtain ⟨hHeld, BR⟩ := hNew; refine tkd 0 ?_; refine tkd 1 ?_; (try simp only [PPz]); refine tkm 2 rfl hHeld (fun w hSw => by have kcB00 := hSw.cell (fun h => NB0 h) cB00; have kcB01 := hSw.cell (fun h => NB0 h) cB01; have kcB02 := hSw.cell (fun h => NB0 h) cB02; have kcB03 := hSw.cell (fun h => NB0 h) cB03; have kcB04 := hSw.cell (fun h => NB0 h) cB04; have kcB05 := hSw.cell (fun h => NB0 h) cB05; have kcB06 := hSw.cell (fun h => NB0 h) cB06; have kcB07 := hSw.cell (fun h => NB0 h) cB07; have ky0 := hSw.cell (fun h => NBc h) y0; have ky1 := hSw.cell (fun h => NBc h) y1; have ky2 := hSw.cell (fun h => NBc h) y2; go_simp <;> with_reducible rfl) ?_; (try simp only [PPz]); refine tkd 3 ?_; (try simp only [PPz]); refine tkm 4 rfl hHeld (fun w hSw => by have kcB00 := hSw.cell (fun h => NB0 h) cB00; have kcB01 := hSw.cell (fun h => NB0 h) cB01; have kcB02 := hSw.cell (fun h => NB0 h) cB02; have kcB03 := hSw.cell (fun h => NB0 h) cB03; have kcB04 := hSw.cell (fun h => NB0 h) cB04; have kcB05 := hSw.cell (fun h => NB0 h) cB05; have kcB06 := hSw.cell (fun h => NB0 h) cB06; have kcB07 := hSw.cell (fun h => NB0 h) cB07; have ky0 := hSw.cell (fun h => NBc h) y0; have ky1 := hSw.cell (fun h => NBc h) y1; have ky2 := hSw.cell (fun h => NBc h) y2; go_simp <;> with_reducible rfl) ?_; (try simp only [PPz]); refine tkd 5 ?_; (try simp only [PPz]); refine tkm 6 rfl hHeld (fun w hSw => by have kcB00 := hSw.cell (fun h => NB0 h) cB00; have kcB01 := hSw.cell (fun h => NB0 h) cB01; have kcB02 := hSw.cell (fun h => NB0 h) cB02; have kcB03 := hSw.cell (fun h => NB0 h) cB03; have kcB04 := hSw.cell (fun h => NB0 h) cB04; have kcB05 := hSw.cell (fun h => NB0 h) cB05; have kcB06 := hSw.cell (fun h => NB0 h) cB06; have kcB07 := hSw.cell (fun h => NB0 h) cB07; have ky0 := hSw.cell (fun h => NBc h) y0; have ky1 := hSw.cell (fun h => NBc h) y1; have ky2 := hSw.cell (fun h => NBc h) y2; go_simp <;> with_reducible rfl) ?_; (try simp only [PPz]); refine tkd 7 ?_; (try simp only [PPz]); refine tkm 8 rfl hHeld (fun w hSw => by have kcB00 := hSw.cell (fun h => NB0 h) cB00; have kcB01 := hSw.cell (fun h => NB0 h) cB01; have kcB02 := hSw.cell (fun h => NB0 h) cB02; have kcB03 := hSw.cell (fun h => NB0 h) cB03; have kcB04 := hSw.cell (fun h => NB0 h) cB04; have kcB05 := hSw.cell (fun h => NB0 h) cB05; have kcB06 := hSw.cell (fun h => NB0 h) cB06; have kcB07 := hSw.cell (fun h => NB0 h) cB07; have ky0 := hSw.cell (fun h => NBc h) y0; have ky1 := hSw.cell (fun h => NBc h) y1; have ky2 := hSw.cell (fun h => NBc h) y2; go_simp <;> with_reducible rfl) ?_; (try simp only [PPz]); refine rdy1 9 rfl (fun K hK => ?_); go_simp; refine (VL.out _ (hHeld.toBelow hbb (fun k h => by have h : k = w.heap.size + 1 := h; omega) hbb.size)).mono ?_; rintro e wt10 ⟨rfl, hb3⟩; (go_wp2_with fail); refine hK.out _ _ (hHeld.below hb3) (fun hNew => ?_); replace BR := BR.keep hb3; replace hHeld := hNew; clear hNew hK K hb3; (try simp only [PPz]); refine tkd 10 ?_; refine tkd 11 ?_; (try simp only [PPz]); refine rdy1 12 rfl (fun K hK => ?_); have n0 := BR.c 0 rfl; have f0 := BR.f 0 rfl; have n1 := BR.c 1 rfl; have f1 := BR.f 1 rfl; go_simp; clear n0 f0 n1 f1; refine hK.out _ _ ((hHeld.set (.inl rfl) _).set (.inl rfl) _) (fun hNew => ?_); replace hHeld := hNew; clear hNew hK K; (try simp only [PPz]); refine at_anyH (fun v => GB (fun k => k = w.heap.size + 1) V2 v ∧ BK v (w.heap.size + 1) [.int .i64 x, .int .i64 y]) ⟨hHeld, ((BR.set 0 _).set 1 _)⟩ (fun wt13 hS => ?_); clear hHeld BR; obtain ⟨hHeld, BR⟩ := hS; refine tkd 13 ?_; (try simp only [PPz]); refine wpAnyH_done (by kernel_rfl) ?_ _; refine NoPanic.normal ?_; have r0 := BR.c 0 rfl; have r1 := BR.c 1 rfl; have hb9 := hHeld.toBelow hbb (fun k h => by have h : k = w.heap.size + 1 := h; omega) hbb.size; (go_wp2_with fail); exact bodyPost_ret (v := .tuple #[.agg #[.int .i64 x, .int .i64 y], .int .i64 0]) (by simp [results, Tryz.results108, go_sem, r0, r1]) rfl ⟨rfl, hb9⟩
theorem ransV_any (A : Option Addr) (ca : Nat) (cs : List CkR) (j : Nat) (a b c d x y : Int) (w : World) (h : IsCs w A cs) (hc : Ak.chkS (cs.map Ak.dat) 0 = 0) (hj : j < cs.length) (hx : Ak.vS (Ak.dAt (cs.map Ak.dat) j) a b c d = (x, y, 0)) :
    Calls Tryz.prog 108 #[.slice A cs.length ca, .agg #[.int .i64 (j : Nat), .int .u8 1, .int .i64 a, .int .i64 b, .int .i64 c, .int .i64 d, .int .i64 0, .int .i64 0]] w fun e w' => e = .returned (.tuple #[.agg #[.int .i64 x, .int .i64 y], .int .i64 0]) ∧ Below w.heap.size w w' := by
  obtain ⟨c0, hc0⟩ : ∃ z, Ak.cat cs j = z := ⟨_, rfl⟩; have hm : c0 ∈ cs := hc0 ▸ Ak.cat_mem hj
  have hd : Ak.dAt (cs.map Ak.dat) j = Ak.dat c0 := by rw [← hc0]; exact Ak.dAt_map cs hj
  have hck := (Ak.chkS_good hc).all (Ak.dat c0) (List.mem_map_of_mem hm)
  have hk : Ck.pt c0.len a b = true ∧ Ck.pt c0.len c d = true ∧ Rp.q a b ≤ Rp.q c d ∧ Ck.vgo c0.cuts c0.dens a b c d c0.dens.length = (x, y, 0) := by
    rw [hd] at hx
    unfold Ak.vS at hx
    split at hx
    · next g => exact ⟨g.1, g.2.1, Rat.not_lt.1 g.2.2, hx⟩
    · simp at hx
  have vl := fun v (hv : Below w.heap.size w v) => rvalue_any c0.len c0.K c0.cuts c0.ck c0.Z c0.dens c0.cz a b c d v ((h.all _ hm).keep hv) hck hk.1 hk.2.1 hk.2.2.1
  rw [hk.2.2.2] at vl; have VL := Lib.hid vl; have HC := Lib.hid h; clear vl h hck hk hx hd hc hm
  go_enter Tryz.func108, Tryz.ntmps108
  go_upto_region 1 with fail
  refine at_box2 (fun V hbb B0 B1 hVs => ?_)

  have cB00 := B0.c 0 rfl; have cB01 := B0.c 1 rfl; have cB02 := B0.c 2 rfl; have cB03 := B0.c 3 rfl; have cB04 := B0.c 4 rfl; have cB05 := B0.c 5 rfl; have cB06 := B0.c 6 rfl; have cB07 := B0.c 7 rfl
  have j0 : (0 : Int) ≤ (j : Nat) := by omega
  have j1 : ((j : Nat) : Int) < (cs.length : Nat) := by omega
  obtain ⟨cb, co, hA, hcl⟩ := HC.out.at_; obtain rfl := hA (by omega); have hcl := hcl j hj; rw [hc0] at hcl; obtain ⟨y0, y1, y2⟩ := hcl; have hcbw := lt_of_cell y0
  (try dsimp only at hcbw)
  have y0 := keepC hbb y0; have y1 := keepC hbb y1; have y2 := keepC hbb y2; clear hA hcl
  go_upto_region 2 with fail
  refine at_worldQ (fun v => Below w.heap.size w v ∧ BK v (w.heap.size) [.int .i64 (j : Nat), .int .u8 1, .int .i64 a, .int .i64 b, .int .i64 c, .int .i64 d, .int .i64 0, .int .i64 0] ∧ BK v (w.heap.size + 1) [.int .i64 0, .int .i64 0] ∧ v = V) ⟨hbb, B0, B1, rfl⟩ (fun V2 hS => ?_); obtain ⟨-, -, -, hV⟩ := hS; subst hV
  have NB0 : ¬ (w.heap.size = w.heap.size + 1) := by omega
  have NBc : ¬ (cb = w.heap.size + 1) := fun e => by omega
  have BR := B1; clear B1; refine wp_region_noPanic ?_; refine wp_region_held_drew (S := (GB (fun k => k = w.heap.size + 1) V2)) (by kernel_rfl) ((GB.refl _ _).drew) (fun hHeld => ?_); refine at_anyH (fun v => GB (fun k => k = w.heap.size + 1) V2 v ∧ BK v (w.heap.size + 1) [.int .i64 0, .int .i64 0]) ⟨hHeld, BR.drew⟩ (fun wt0 hNew => ?_); clear hHeld BR; obtain ⟨hHeld, BR⟩ := hNew; refine tkd 0 ?_; refine tkd 1 ?_; (try simp only [PPz]); refine tkm 2 rfl hHeld (fun w hSw => by have kcB00 := hSw.cell (fun h => NB0 h) cB00; have kcB01 := hSw.cell (fun h => NB0 h) cB01; have kcB02 := hSw.cell (fun h => NB0 h) cB02; have kcB03 := hSw.cell (fun h => NB0 h) cB03; have kcB04 := hSw.cell (fun h => NB0 h) cB04; have kcB05 := hSw.cell (fun h => NB0 h) cB05; have kcB06 := hSw.cell (fun h => NB0 h) cB06; have kcB07 := hSw.cell (fun h => NB0 h) cB07; have ky0 := hSw.cell (fun h => NBc h) y0; have ky1 := hSw.cell (fun h => NBc h) y1; have ky2 := hSw.cell (fun h => NBc h) y2; go_simp <;> with_reducible rfl) ?_; (try simp only [PPz]); refine tkd 3 ?_; (try simp only [PPz]); refine tkm 4 rfl hHeld (fun w hSw => by have kcB00 := hSw.cell (fun h => NB0 h) cB00; have kcB01 := hSw.cell (fun h => NB0 h) cB01; have kcB02 := hSw.cell (fun h => NB0 h) cB02; have kcB03 := hSw.cell (fun h => NB0 h) cB03; have kcB04 := hSw.cell (fun h => NB0 h) cB04; have kcB05 := hSw.cell (fun h => NB0 h) cB05; have kcB06 := hSw.cell (fun h => NB0 h) cB06; have kcB07 := hSw.cell (fun h => NB0 h) cB07; have ky0 := hSw.cell (fun h => NBc h) y0; have ky1 := hSw.cell (fun h => NBc h) y1; have ky2 := hSw.cell (fun h => NBc h) y2; go_simp <;> with_reducible rfl) ?_; (try simp only [PPz]); refine tkd 5 ?_; (try simp only [PPz]); refine tkm 6 rfl hHeld (fun w hSw => by have kcB00 := hSw.cell (fun h => NB0 h) cB00; have kcB01 := hSw.cell (fun h => NB0 h) cB01; have kcB02 := hSw.cell (fun h => NB0 h) cB02; have kcB03 := hSw.cell (fun h => NB0 h) cB03; have kcB04 := hSw.cell (fun h => NB0 h) cB04; have kcB05 := hSw.cell (fun h => NB0 h) cB05; have kcB06 := hSw.cell (fun h => NB0 h) cB06; have kcB07 := hSw.cell (fun h => NB0 h) cB07; have ky0 := hSw.cell (fun h => NBc h) y0; have ky1 := hSw.cell (fun h => NBc h) y1; have ky2 := hSw.cell (fun h => NBc h) y2; go_simp <;> with_reducible rfl) ?_; (try simp only [PPz]); refine tkd 7 ?_; (try simp only [PPz]); refine tkm 8 rfl hHeld (fun w hSw => by have kcB00 := hSw.cell (fun h => NB0 h) cB00; have kcB01 := hSw.cell (fun h => NB0 h) cB01; have kcB02 := hSw.cell (fun h => NB0 h) cB02; have kcB03 := hSw.cell (fun h => NB0 h) cB03; have kcB04 := hSw.cell (fun h => NB0 h) cB04; have kcB05 := hSw.cell (fun h => NB0 h) cB05; have kcB06 := hSw.cell (fun h => NB0 h) cB06; have kcB07 := hSw.cell (fun h => NB0 h) cB07; have ky0 := hSw.cell (fun h => NBc h) y0; have ky1 := hSw.cell (fun h => NBc h) y1; have ky2 := hSw.cell (fun h => NBc h) y2; go_simp <;> with_reducible rfl) ?_; (try simp only [PPz]); refine rdy1 9 rfl (fun K hK => ?_); go_simp; refine (VL.out _ (hHeld.toBelow hbb (fun k h => by have h : k = w.heap.size + 1 := h; omega) hbb.size)).mono ?_; rintro e wt10 ⟨rfl, hb3⟩; (go_wp2_with fail); refine hK.out _ _ (hHeld.below hb3) (fun hNew => ?_); replace BR := BR.keep hb3; replace hHeld := hNew; clear hNew hK K hb3; (try simp only [PPz]); refine tkd 10 ?_; refine tkd 11 ?_; (try simp only [PPz]); refine rdy1 12 rfl (fun K hK => ?_); have n0 := BR.c 0 rfl; have f0 := BR.f 0 rfl; have n1 := BR.c 1 rfl; have f1 := BR.f 1 rfl; go_simp; clear n0 f0 n1 f1; refine hK.out _ _ ((hHeld.set (.inl rfl) _).set (.inl rfl) _) (fun hNew => ?_); replace hHeld := hNew; clear hNew hK K; (try simp only [PPz]); refine at_anyH (fun v => GB (fun k => k = w.heap.size + 1) V2 v ∧ BK v (w.heap.size + 1) [.int .i64 x, .int .i64 y]) ⟨hHeld, ((BR.set 0 _).set 1 _)⟩ (fun wt13 hS => ?_); clear hHeld BR; obtain ⟨hHeld, BR⟩ := hS; refine tkd 13 ?_; (try simp only [PPz]); refine wpAnyH_done (by kernel_rfl) ?_ _; refine NoPanic.normal ?_; have r0 := BR.c 0 rfl; have r1 := BR.c 1 rfl; have hb9 := hHeld.toBelow hbb (fun k h => by have h : k = w.heap.size + 1 := h; omega) hbb.size; (go_wp2_with fail); exact bodyPost_ret (v := .tuple #[.agg #[.int .i64 x, .int .i64 y], .int .i64 0]) (by simp [results, Tryz.results108, go_sem, r0, r1]) rfl ⟨rfl, hb9⟩
end Go.Proofs.YtniagnldiegamaaGreat


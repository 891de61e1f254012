/- A struct of two numbers, out of a list of cells. Slices of cakes and of queries, as arguments that are opened. Desks, as arguments that are opened. The reference's Check of desks. What the law AskPrivate wants of the answers of a desk. What the law of package choose asks: Same of equal pieces, two, piece. Package choose: the steps and the run of two valid cakes, as functions of the cutter's and the chooser's cake. What the law of package choose asks: alive. What the law of package choose asks: Cakes, fit. The walk of the law ChooseTurned: it answers true. -/
import Derived.Test.YtaaamcleilpnhaaOpen
import Derived.Test.YtaaamcleilpnhaaAskm
import Derived.Test.YtaaamcleilpnhaaAskc
import Derived.Test.YtaaamcleilpnhaaRcheck
import Derived.Test.YtaaamcleilpnhaaSd
import Derived.Test.YtaaamcleilpnhaaAskop
import Derived.Test.YtaaamcleilpnhaaAskt
import Derived.Test.YtaaamcleilpnhaaKb
namespace Go.Proofs.Ytaaamcleilpnhaa
open Go.ChangeShapes Go.WideShapes Go.ChangeAt Go.RowKit Go.Joins Go.Deep
section
variable {H : Type} {enc : TypeId × Value → H} {P : Program} {w : World} {base : Nat} {spare : Nat → Bool} {held : Bool}
/-- A struct of two numbers, out of a list of cells. -/
theorem trod_two {t u : TypeId} {f0 f1 : Field} {n : Nat} {cs : List Value} {y : DataW H × List MemPlace} (he : P.underlying t = some (.struct #[f0, f1])) (h0 : f0.type = u ∧ f0.offset = 0) (h1 : f1.type = u ∧ f1.offset = 1)
    (hu : P.underlying u = some (.int .i64)) (hc : P.cellsOf u = 1) (hC : P.cellsOf t = 2) (h : DataW.trod enc P w base spare held n t cs = some y) : ∃ a b, cs = [.int .i64 a, .int .i64 b] ∧ I64 a ∧ I64 b := by
  obtain ⟨ys, n', _, _, hl, hyl, hf⟩ := DataW.trod_struct he h
  rw [hC] at hl
  have g0 := hf 0 f0 rfl
  have g1 := hf 1 f1 rfl
  rw [h0.1, h0.2, hc] at g0
  rw [h1.1, h1.2, hc] at g1
  match cs, hl with
  | [c0, c1], _ =>
    have hyl' : ys.length = 2 := hyl
    rw [List.getElem?_eq_getElem (show 0 < ys.length by omega)] at g0
    rw [List.getElem?_eq_getElem (show 1 < ys.length by omega)] at g1
    obtain ⟨a, ea, _, wa⟩ := DataW.trod_int hu g0
    obtain ⟨b, eb, _, wb⟩ := DataW.trod_int hu g1
    simp at ea eb
    subst ea eb
    exact ⟨a, b, rfl, wf_i64 wa, wf_i64 wb⟩
end
end Go.Proofs.Ytaaamcleilpnhaa
namespace Go.Proofs.Ytaaamcleilpnhaa
open Go.ChangeShapes Go.WideShapes Go.ChangeAt Go.RowKit Go.Joins Go.Deep
theorem wf_u8 {a : Int} (h : (Lit.int .u8 a).wf = true) : 0 ≤ a ∧ a ≤ 255 := by
  simp [Lit.wf, IntKind.min, IntKind.max, IntKind.signed, IntKind.bits] at h
  omega
section
variable {H : Type} {enc : TypeId × Value → H} {P : Program} {w : World} {base : Nat} {spare : Nat → Bool} {held : Bool}
theorem open_cakes_any {t e s u : TypeId} {f0 f1 f2 : Field} {fuel : Nat} {cs : List Value} {x : DataW H × List MemPlace} (ht : P.underlying t = some (.slice e)) (he : P.underlying e = some (.struct #[f0, f1, f2]))
    (hone : oneCellFields P #[f0, f1, f2] = true) (hC : P.cellsOf e = 3) (h0 : f0.type = u) (h1 : f1.type = s) (h2 : f2.type = s) (hs : P.underlying s = some (.slice u)) (hu : P.underlying u = some (.int .i64)) (hcu : P.cellsOf u = 1)
    (h : DataW.trod enc P w base spare held fuel t cs = some x) : ∃ A len cap xs, cs = [.slice A len cap] ∧ xs.length = len ∧ len ≤ cap ∧ cap ≤ maxLen ∧ IsCs w A xs := by
  rcases open_slice_fields ht he hone hC h with ⟨rfl, _⟩ | ⟨a, len, cap, m, D, Pl, rfl, hb, hl, hm, hmm, hx, hi⟩
  · exact ⟨none, 0, 0, [], rfl, rfl, Nat.le_refl _, by unfold maxLen; omega, isC_nil w none⟩
  · have hml : len ≤ m := by rw [hmm]; split <;> omega
    have key : ∀ i, i < len → ∃ c : CkR, IsC w c ∧ w.cell? (a.add (i * 3)) = some (.int .i64 c.len) ∧ w.cell? (a.add (i * 3 + 1)) = some (.slice c.K c.cuts.length c.ck) ∧ w.cell? (a.add (i * 3 + 2)) = some (.slice c.Z c.dens.length c.cz) := by
      intro i hlt
      obtain ⟨ys, n, _, _, _, hf⟩ := hi i (by omega)
      obtain ⟨v0, y0, c0, _, t0⟩ := hf 0 f0 rfl
      obtain ⟨v1, y1, c1, _, t1⟩ := hf 1 f1 rfl
      obtain ⟨v2, y2, c2, _, t2⟩ := hf 2 f2 rfl
      rw [h0] at t0
      rw [h1] at t1
      rw [h2] at t2
      obtain ⟨n0, e0, _, w0⟩ := DataW.trod_int hu t0
      obtain ⟨K, ck, cuts, e1, l1, i1⟩ := open_ints_any hs hu hcu t1
      obtain ⟨Z, cz, dens, e2, l2, i2⟩ := open_ints_any hs hu hcu t2
      simp only [List.cons.injEq, and_true] at e0 e1 e2
      subst e0 e1 e2
      exact ⟨⟨n0, K, cuts, ck, Z, dens, cz⟩, ⟨wf_i64 w0, ⟨l1, l2⟩, i1, i2⟩, c0, c1, c2⟩
    obtain ⟨f, hf⟩ := choose_lt key
    have hat : ∀ i, i < len → Ak.cat ((List.range len).map f) i = f i := fun i hlt => by rw [Ak.cat_lt (by simpa using hlt)]; simp
    refine ⟨some a, len, cap, (List.range len).map f, rfl, by simp, hl, hm, ⟨fun hpos => ?_, ?_, by simp; omega⟩⟩
    · simp only [List.length_map, List.length_range] at hpos
      obtain ⟨b, off, spot⟩ := a
      have hspot : spot = none := by simpa [Addr.add] using World.cell?_spot (hf 0 hpos).2.1
      subst hspot
      refine ⟨b, off, rfl, fun i hlt => ?_⟩
      simp only [List.length_map, List.length_range] at hlt
      have := (hf i hlt).2
      rw [Addr.add_lit, Addr.add_lit, Addr.add_lit] at this
      rw [hat i hlt, Nat.add_assoc, Nat.add_assoc]
      exact this
    · intro p hp
      obtain ⟨i, hi', rfl⟩ := List.mem_map.1 hp
      exact (hf i (by simpa using hi')).1
theorem open_queries_any {t e r u k8 i8 : TypeId} {f0 f1 f2 f3 f4 g0 g1 : Field} {fuel : Nat} {cs : List Value} {x : DataW H × List MemPlace} (ht : P.underlying t = some (.slice e)) (he : P.underlying e = some (.struct #[f0, f1, f2, f3, f4])) (hr : P.underlying r = some (.struct #[g0, g1]))
    (hC : P.cellsOf e = 8) (hCr : P.cellsOf r = 2) (h0 : f0.type = i8 ∧ f0.offset = 0) (h1 : f1.type = k8 ∧ f1.offset = 1) (h2 : f2.type = r ∧ f2.offset = 2) (h3 : f3.type = r ∧ f3.offset = 4) (h4 : f4.type = r ∧ f4.offset = 6)
    (k0 : g0.type = u ∧ g0.offset = 0) (k1 : g1.type = u ∧ g1.offset = 1) (hu : P.underlying u = some (.int .i64)) (hcu : P.cellsOf u = 1) (hk8 : P.underlying k8 = some (.int .u8)) (hck : P.cellsOf k8 = 1) (hi8 : P.underlying i8 = some (.int .i64)) (hci : P.cellsOf i8 = 1)
    (h : DataW.trod enc P w base spare held fuel t cs = some x) : ∃ A len cap xs, cs = [.slice A len cap] ∧ xs.length = len ∧ len ≤ cap ∧ cap ≤ maxLen ∧ IsQs w A xs := by
  rcases open_slice ht h with ⟨rfl, _⟩ | ⟨a, len, cap, m, n, D, Pl, rfl, hb, hl, hm, hmm, hx, hi⟩
  · exact ⟨none, 0, 0, [], rfl, rfl, Nat.le_refl _, by unfold maxLen; omega, isQs_nil w none⟩
  · have hml : len ≤ m := by rw [hmm]; split <;> omega
    have key : ∀ i, i < len → ∃ q : Qr, Ak.Q64 q ∧ Ak.Q8 (fun j => w.cell? (a.add (i * 8 + j))) q := by
      intro i hlt
      obtain ⟨cs', hc, ht'⟩ := hi i (by omega)
      rw [hC] at hc
      obtain ⟨ys, n', _, _, hl8, hyl, hf⟩ := DataW.trod_struct he ht'
      obtain ⟨_, hcl, hat⟩ := World.cells?_some hc
      have t0 := hf 0 f0 rfl
      have t1 := hf 1 f1 rfl
      have t2 := hf 2 f2 rfl
      have t3 := hf 3 f3 rfl
      have t4 := hf 4 f4 rfl
      rw [h0.1, h0.2, hci] at t0
      rw [h1.1, h1.2, hck] at t1
      rw [h2.1, h2.2, hCr] at t2
      rw [h3.1, h3.2, hCr] at t3
      rw [h4.1, h4.2, hCr] at t4
      have hyl' : ys.length = 5 := hyl
      rw [List.getElem?_eq_getElem (show 0 < ys.length by omega)] at t0
      rw [List.getElem?_eq_getElem (show 1 < ys.length by omega)] at t1
      rw [List.getElem?_eq_getElem (show 2 < ys.length by omega)] at t2
      rw [List.getElem?_eq_getElem (show 3 < ys.length by omega)] at t3
      rw [List.getElem?_eq_getElem (show 4 < ys.length by omega)] at t4
      obtain ⟨ag, e0, _, w0⟩ := DataW.trod_int hi8 t0
      obtain ⟨kd, e1, _, w1⟩ := DataW.trod_int hk8 t1
      obtain ⟨p2, q2, e2, x2, z2⟩ := trod_two hr k0 k1 hu hcu hCr t2
      obtain ⟨p3, q3, e3, x3, z3⟩ := trod_two hr k0 k1 hu hcu hCr t3
      obtain ⟨p4, q4, e4, x4, z4⟩ := trod_two hr k0 k1 hu hcu hCr t4
      match cs', hcl with
      | [d0, d1, d2, d3, d4, d5, d6, d7], _ =>
        simp at e0 e1 e2 e3 e4
        subst e0 e1
        obtain ⟨rfl, rfl⟩ := e2
        obtain ⟨rfl, rfl⟩ := e3
        obtain ⟨rfl, rfl⟩ := e4
        have a0 := hat 0 (by omega)
        have a1 := hat 1 (by omega)
        have a2 := hat 2 (by omega)
        have a3 := hat 3 (by omega)
        have a4 := hat 4 (by omega)
        have a5 := hat 5 (by omega)
        have a6 := hat 6 (by omega)
        have a7 := hat 7 (by omega)
        rw [Go.Deep.add_add] at a0 a1 a2 a3 a4 a5 a6 a7
        exact ⟨⟨ag, kd, p2, q2, p3, q3, p4, q4⟩, ⟨wf_i64 w0, wf_u8 w1, x2, z2, x3, z3, x4, z4⟩, a0, a1, a2, a3, a4, a5, a6, a7⟩
    obtain ⟨f, hf⟩ := choose_lt key
    have hat : ∀ i, i < len → Ak.qat ((List.range len).map f) i = f i := fun i hlt => by rw [Ak.qat_lt (by simpa using hlt)]; simp
    refine ⟨some a, len, cap, (List.range len).map f, rfl, by simp, hl, hm, ⟨fun hpos => ?_, ?_, by simp; omega⟩⟩
    · simp only [List.length_map, List.length_range] at hpos
      obtain ⟨b, off, spot⟩ := a
      have hspot : spot = none := by simpa [Addr.add] using World.cell?_spot (hf 0 hpos).2.1
      subst hspot
      refine ⟨b, off, rfl, fun i hlt => ?_⟩
      simp only [List.length_map, List.length_range] at hlt
      have := (hf i hlt).2
      simp only [Addr.add_lit] at this
      rw [hat i hlt]
      simp only [Nat.add_assoc]
      exact this
    · intro p hp
      obtain ⟨i, hi', rfl⟩ := List.mem_map.1 hp
      exact (hf i (by simpa using hi')).1
end
section
variable {H : Type} {enc : TypeId × Value → H} {w : World} {base : Nat} {spare : Nat → Bool} {held : Bool}
set_option maxRecDepth 100000 in
theorem open_cakes {r : Reach} {b0 : Nat} {v : Value} {d : DataW H} {p : List MemPlace} (hv : Value.okWide Try.prog w r b0 45 v) (h : DataW.Trod enc Try.prog w base spare held 45 v d p) :
    ∃ A cap xs, v = .slice A xs.length cap ∧ IsCs w A xs := by
  obtain ⟨a, len, cap, rfl⟩ := okWide_slice Try.underlying45 hv
  obtain ⟨fuel, hf⟩ := h
  obtain ⟨A, len', cap', xs, hcs, hl, h1, h2, hx⟩ := open_cakes_any Try.underlying45 Try.underlying33 (by kernel_rfl) cellsCake rfl rfl rfl Try.underlying31 Try.underlying3 cellsInt hf
  simp [Value.cells] at hcs
  obtain ⟨rfl, rfl, rfl⟩ := hcs
  subst hl
  exact ⟨a, cap, xs, rfl, hx⟩
set_option maxRecDepth 100000 in
theorem open_queries {r : Reach} {b0 : Nat} {v : Value} {d : DataW H} {p : List MemPlace} (hv : Value.okWide Try.prog w r b0 47 v) (h : DataW.Trod enc Try.prog w base spare held 47 v d p) :
    ∃ A cap xs, v = .slice A xs.length cap ∧ IsQs w A xs := by
  obtain ⟨a, len, cap, rfl⟩ := okWide_slice Try.underlying47 hv
  obtain ⟨fuel, hf⟩ := h
  obtain ⟨A, len', cap', xs, hcs, hl, h1, h2, hx⟩ := open_queries_any Try.underlying47 Try.underlying59 Try.underlying23 (by kernel_rfl) cellsRatio ⟨rfl, rfl⟩ ⟨rfl, rfl⟩ ⟨rfl, rfl⟩ ⟨rfl, rfl⟩ ⟨rfl, rfl⟩ ⟨rfl, rfl⟩ ⟨rfl, rfl⟩ Try.underlying2 (by kernel_rfl) Try.underlying5 (by kernel_rfl) Try.underlying3 cellsInt hf
  simp [Value.cells] at hcs
  obtain ⟨rfl, rfl, rfl⟩ := hcs
  subst hl
  exact ⟨a, cap, xs, rfl, hx⟩
end
end Go.Proofs.Ytaaamcleilpnhaa
namespace Go.Proofs.Ytaaamcleilpnhaa
open Go.ChangeShapes Go.WideShapes Go.ChangeAt Go.RowKit Go.Joins Go.Deep
section
variable {H : Type} {enc : TypeId × Value → H} {w : World} {base : Nat} {spare : Nat → Bool} {held : Bool}
theorem cellsDesk : Try.prog.cellsOf 49 = 2 := by kernel_rfl
set_option maxRecDepth 100000 in
theorem open_desk {r : Reach} {b0 : Nat} {v : Value} {d : DataW H} {p : List MemPlace} (hv : Value.okWide Try.prog w r b0 49 v) (h : DataW.Trod enc Try.prog w base spare held 49 v d p) :
    ∃ A ca xs Q cq ys, v = .agg #[.slice A xs.length ca, .slice Q ys.length cq] ∧ IsCs w A xs ∧ IsQs w Q ys := by
  obtain ⟨c0, c1, y0, y1, k, rfl, rfl, rfl, hy0, hy1⟩ := open_agg2 Try.underlying49 (by kernel_rfl) cellsDesk hv h
  obtain ⟨A, len, ca, xs, e0, hl0, _, _, hx⟩ := open_cakes_any Try.underlying45 Try.underlying33 (by kernel_rfl) cellsCake rfl rfl rfl Try.underlying31 Try.underlying3 cellsInt hy0
  obtain ⟨Q, len', cq, ys, e1, hl1, _, _, hy⟩ := open_queries_any Try.underlying47 Try.underlying59 Try.underlying23 (by kernel_rfl) cellsRatio ⟨rfl, rfl⟩ ⟨rfl, rfl⟩ ⟨rfl, rfl⟩ ⟨rfl, rfl⟩ ⟨rfl, rfl⟩ ⟨rfl, rfl⟩ ⟨rfl, rfl⟩ Try.underlying2 (by kernel_rfl) Try.underlying5 (by kernel_rfl) Try.underlying3 cellsInt hy1
  simp only [List.cons.injEq, and_true] at e0 e1
  subst e0 e1 hl0 hl1
  exact ⟨A, ca, xs, Q, cq, ys, rfl, hx, hy⟩
end
end Go.Proofs.Ytaaamcleilpnhaa
namespace Go.Proofs.Ytaaamcleilpnhaa
open Go.RowKit
set_option linter.unusedSimpArgs false in
set_option maxHeartbeats 8000000 in
set_option maxRecDepth 100000 in
theorem rAskCheck_any (A : Option Addr) (ca : Nat) (cs : List CkR) (Q : Option Addr) (m cq : Nat) (w : World) (hm : m ≤ maxLen) (h : IsCs w A cs) :
    Calls Try.prog 31 #[.agg #[.slice A cs.length ca, .slice Q m cq]] w fun e w' => e = .returned (.int .i64 (Ak.chkS (cs.map Ak.dat) m)) ∧ Below w.heap.size w w' := by
  obtain ⟨b, o, hA, hc⟩ := h.at_
  have HC := Lib.hid hc
  have HA := Lib.hid hA
  have HI := Lib.hid (fun k (hk : k < cs.length) => h.all _ (Ak.cat_mem hk))
  have hln := h.len
  clear h hc hA
  unfold maxLen at hm hln
  by_cases h1 : 6 < cs.length
  · have e := Ak.chkS_many (cs := cs.map Ak.dat) (n := m) (.inl (by rw [List.length_map]; exact h1))
    rw [e]
    have d1 : decide ((6 : Int) < (cs.length : Int)) = true := decide_eq_true (by omega)
    clear HC HA HI e h1
    go_enter Try.func31, Try.ntmps31
    go_wp2_with fail
    go_ret
    exact ⟨rfl, below_al (Below.refl _ _) _⟩
  have d1 : decide ((6 : Int) < (cs.length : Int)) = false := decide_eq_false (by omega)
  by_cases h2 : 2000 < m
  · have e := Ak.chkS_many (cs := cs.map Ak.dat) (n := m) (.inr h2)
    rw [e]
    have d2 : decide ((2000 : Int) < (m : Int)) = true := decide_eq_true (by omega)
    clear HC HA HI e h1 h2
    go_enter Try.func31, Try.ntmps31
    go_wp2_with fail
    go_ret
    exact ⟨rfl, below_al (Below.refl _ _) _⟩
  have d2 : decide ((2000 : Int) < (m : Int)) = false := decide_eq_false (by omega)
  have HN := Lib.hid (show ¬ (6 < (cs.map Ak.dat).length ∨ 2000 < m) by rw [List.length_map]; omega)
  by_cases h3 : cs.length = 0
  · have e := Ak.chkS_none (cs := cs.map Ak.dat) (n := m) HN.out (by rw [List.length_map]; exact h3)
    rw [e]
    have d3 : ((cs.length : Int) == 0) = true := by rw [beq_iff_eq]; omega
    clear HC HA HI e h1 h2 h3
    go_enter Try.func31, Try.ntmps31
    go_wp2_with fail
    go_ret
    exact ⟨rfl, below_al (Below.refl _ _) _⟩
  have d3 : ((cs.length : Int) == 0) = false := by rw [beq_eq_false_iff_ne]; omega
  have H3 := Lib.hid (show ¬ (cs.map Ak.dat).length = 0 by rw [List.length_map]; exact h3)
  obtain ⟨R, hR⟩ : ∃ R, Ak.chkS (cs.map Ak.dat) m = R := ⟨_, rfl⟩
  rw [hR]
  have HR := Lib.hid hR
  have h0 : 0 < cs.length := by omega
  clear hR h1 h2 h3
  go_enter Try.func31, Try.ntmps31
  go_upto_region 1 with fail
  refine at_worldQ (fun v => Below w.heap.size w v ∧ BK v w.heap.size [.slice A cs.length ca, .slice Q m cq]) ⟨below_al (Below.refl _ _) _, BK.new w [.slice A cs.length ca, .slice Q m cq] _⟩ (fun V hS => ?_)
  have q0 := hS.2.c 0 rfl
  have q1 := hS.2.c 1 rfl
  go_wp2_with fail
  go_loopw [3] (fun i W => ∃ k : Nat, k ≤ cs.length ∧ i = .int .i64 k ∧ (∀ j, j < k → Ak.ckD (Ak.dAt (cs.map Ak.dat) j) = 0) ∧ Below w.heap.size w W ∧ BK W w.heap.size [.slice A cs.length ca, .slice Q m cq]) (fun i _ => cs.length - (intOf i).toNat)
  case atStart => exact ⟨0, Nat.zero_le _, rfl, fun j hj => absurd hj (Nat.not_lt_zero _), hS⟩
  case round =>
    clear hS q0 q1
    obtain ⟨k, hk, rfl, hok, hbb, B⟩ := hrel
    have HOK := Lib.hid hok
    clear hok
    have q0 := B.c 0 rfl
    by_cases hlt : k < cs.length
    ·
      have hA' := HA.out (by omega)
      subst hA'
      obtain ⟨c, hcc⟩ : ∃ c, Ak.cat cs k = c := ⟨_, rfl⟩
      have c0 := keepC hbb (HC.out k hlt).1
      have c1 := keepC hbb (HC.out k hlt).2.1
      have c2 := keepC hbb (HC.out k hlt).2.2
      have hi := HI.out k hlt
      rw [hcc] at c0 c1 c2 hi
      have i1 : (0 : Int) ≤ (k : Int) := by omega
      have i2 : (k : Int) < (cs.length : Int) := by omega
      have ck := fun v (hv : Below w.heap.size w v) => rckCheck_any c.len c.K c.cuts c.ck c.Z c.dens c.cz v (hi.keep hv)
      have EK := Lib.hid (show Ak.ckD (Ak.dAt (cs.map Ak.dat) k) = Ck.chk c.len c.cuts c.dens by rw [Ak.dAt_map cs hlt, hcc]; rfl)
      by_cases hz : Ck.chk c.len c.cuts c.dens = 0
      · rw [hz] at ck
        have EB := Lib.hid (show Ak.ckD (Ak.dAt (cs.map Ak.dat) k) = 0 by rw [EK.out, hz])
        have CK := Lib.hid ck
        have e0 : ((0 : Int) != 0) = false := rfl
        clear ck hz EK hcc hi
        go_wp2_with fail
        refine (CK.out _ hbb).mono ?_
        rintro e w5 ⟨rfl, hb5⟩
        replace hbb := keepB hbb hb5
        replace B := B.keep hb5
        clear hb5
        go_wp2_with fail
        go_roundw
        case rel => exact ⟨k + 1, by omega, by go_num, fun j hj => (Nat.lt_succ_iff_lt_or_eq.1 hj).elim (HOK.out j) (fun e => e ▸ EB.out), hbb, B⟩
        case measure => simp [intOf]; omega
      · have EB := Lib.hid (show Ak.chkS (cs.map Ak.dat) m = Ck.chk c.len c.cuts c.dens by
          have := Ak.firstE_take (l := cs.map Ak.dat) (k := k) HOK.out (by simpa using hlt) (by rw [EK.out]; exact hz)
          rw [Ak.chkS_first HN.out H3.out (by rw [this, EK.out]; exact hz), this, EK.out])
        have n1 : (Ck.chk c.len c.cuts c.dens != 0) = true := by rw [bne_iff_ne]; exact hz
        generalize Ck.chk c.len c.cuts c.dens = z at *
        have CK := Lib.hid ck
        clear ck hz EK  hi
        go_wp2_with fail
        refine (CK.out _ hbb).mono ?_
        rintro e w5 ⟨rfl, hb5⟩
        replace hbb := keepB hbb hb5
        replace B := B.keep hb5
        clear hb5 c0 c1 c2 q0
        have q0 := B.c 0 rfl
        have c0 := keepC hbb (HC.out k hlt).1
        have c1 := keepC hbb (HC.out k hlt).2.1
        have c2 := keepC hbb (HC.out k hlt).2.2
        rw [hcc] at c0 c1 c2
        clear hcc
        have eR := HR.out.symm.trans EB.out
        subst eR
        go_wp2_with fail
        refine (CK.out _ hbb).mono ?_
        rintro e w6 ⟨rfl, hb6⟩
        replace hbb := keepB hbb hb6
        clear c0 c1 c2 q0
        go_wp2_with fail
        go_ret
        exact ⟨rfl, hbb⟩
    · obtain rfl : k = cs.length := by omega
      have HE := Lib.hid (Ak.firstE_zero (l := cs.map Ak.dat) (fun j hj => HOK.out j (by simpa using hj)))
      clear HOK hlt
      have q0 := B.c 0 rfl

      go_wp2_with fail
      go_loopw [4] (fun i W => ∃ k : Nat, k ≤ cs.length ∧ i = .int .i64 k ∧ (∀ j, j < k → (Ak.dAt (cs.map Ak.dat) j).1 = (Ak.dAt (cs.map Ak.dat) 0).1) ∧ Below w.heap.size w W ∧ BK W w.heap.size [.slice A cs.length ca, .slice Q m cq]) (fun i _ => cs.length - (intOf i).toNat)
      case atStart => exact ⟨0, Nat.zero_le _, rfl, fun j hj => absurd hj (Nat.not_lt_zero _), hbb, B⟩
      case round =>
        clear hbb B q0
        obtain ⟨k, hk, rfl, hok, hbb, B⟩ := hrel
        have HOK := Lib.hid hok
        clear hok
        have q0 := B.c 0 rfl
        by_cases hlt : k < cs.length
        · have HK := Lib.hid (show k < (cs.map Ak.dat).length by rw [List.length_map]; exact hlt)
          have hA' := HA.out (by omega)
          subst hA'
          obtain ⟨c, hcc⟩ : ∃ c, Ak.cat cs k = c := ⟨_, rfl⟩
          have c0 := keepC hbb (HC.out k hlt).1
          have c1 := keepC hbb (HC.out k hlt).2.1
          have c2 := keepC hbb (HC.out k hlt).2.2
          have hi := HI.out k hlt
          rw [hcc] at c0 c1 c2 hi
          have i1 : (0 : Int) ≤ (k : Int) := by omega
          have i2 : (k : Int) < (cs.length : Int) := by omega
          have z0 := keepC hbb (HC.out 0 h0).1
          rw [Nat.zero_mul, Nat.add_zero] at z0
          obtain ⟨l, hl⟩ : ∃ l, c.len = l := ⟨_, rfl⟩
          obtain ⟨l0, hl0⟩ : ∃ l0, (Ak.cat cs 0).len = l0 := ⟨_, rfl⟩
          rw [hl0] at z0
          rw [hl] at c0
          by_cases hll : l = l0
          · have EB := Lib.hid (show (Ak.dAt (cs.map Ak.dat) k).1 = (Ak.dAt (cs.map Ak.dat) 0).1 by rw [Ak.dAt_map cs hlt, Ak.dAt_map cs h0, hcc]; show c.len = _; rw [hl, hll, ← hl0]; rfl)
            subst hll
            clear hl hl0 hcc hi
            go_upto_region 13 with fail
            refine at_worldQ (fun v => Below w.heap.size w v ∧ BK v w.heap.size [.slice (some ⟨b, o, none⟩) cs.length ca, .slice Q m cq] ∧ v.cell? ⟨b, o + k * 3, none⟩ = some (.int .i64 l) ∧ v.cell? ⟨b, o, none⟩ = some (.int .i64 l)) ⟨hbb, B, c0, z0⟩ (fun V2 hS => ?_)
            clear hbb B z0 c0 c1 c2
            obtain ⟨hbb, B, p0, z0⟩ := hS
            have q0 := B.c 0 rfl
            refine wp_region_noPanic ?_
            refine wp_region_held_drew (S := (Below V2.heap.size V2)) (by kernel_rfl) ((Below.refl _ _).drew) (fun hHeld => ?_)
            refine at_anyH (Below V2.heap.size V2) hHeld (fun wq700 hNew => ?_)
            clear hHeld
            have hHeld := hNew
            clear hNew
            refine wpAnyH_take (i := 0) (oi := _) (v := ?vq701) rfl (by kernel_rfl) (by kernel_rfl) (by kernel_rfl) (fun _ _ _ h => h) (Or.inl ⟨by kernel_rfl, ?hyq701⟩) hHeld ?restq701
            case hyq701 => (intro w hSw; go_simp; first | done | (with_reducible rfl))
            try simp only [Act.put, PA, PB]
            refine wpAnyH_take (i := 1) (oi := _) (v := ?vq702) rfl (by kernel_rfl) (by kernel_rfl) (by kernel_rfl) (fun _ _ _ h => h) (Or.inl ⟨by kernel_rfl, ?hyq702⟩) hHeld ?restq702
            case hyq702 => (intro w hSw; have kp0 := keepC hSw p0; have kq0 := keepC hSw q0; have kz0 := keepC hSw z0; go_simp; first | done | (with_reducible rfl))
            try simp only [Act.put, PA, PB]
            refine wpAnyH_take (i := 2) (oi := _) (v := ?vq703) rfl (by kernel_rfl) (by kernel_rfl) (by kernel_rfl) (fun _ _ _ h => h) (Or.inl ⟨by kernel_rfl, ?hyq703⟩) hHeld ?restq703
            case hyq703 => (intro w hSw; go_simp; first | done | (with_reducible rfl))
            try simp only [Act.put, PA, PB]
            refine wpAnyH_take (i := 3) (oi := _) (v := ?vq704) rfl (by kernel_rfl) (by kernel_rfl) (by kernel_rfl) (fun _ _ _ h => h) (Or.inl ⟨by kernel_rfl, ?hyq704⟩) hHeld ?restq704
            case hyq704 => (intro w hSw; go_simp; first | done | (with_reducible rfl))
            try simp only [Act.put, PA, PB]
            refine wpAnyH_take (i := 4) (oi := _) (v := ?vq705) rfl (by kernel_rfl) (by kernel_rfl) (by kernel_rfl) (fun _ _ _ h => h) (Or.inl ⟨by kernel_rfl, ?hyq705⟩) hHeld ?restq705
            case hyq705 => (intro w hSw; go_simp; first | done | (with_reducible rfl))
            try simp only [Act.put, PA, PB]
            refine wpAnyH_take (i := 5) (oi := _) (v := ?vq706) rfl (by kernel_rfl) (by kernel_rfl) (by kernel_rfl) (fun _ _ _ h => h) (Or.inl ⟨by kernel_rfl, ?hyq706⟩) hHeld ?restq706
            case hyq706 => (intro w hSw; have kp0 := keepC hSw p0; have kq0 := keepC hSw q0; have kz0 := keepC hSw z0; go_simp; first | done | (with_reducible rfl))
            try simp only [Act.put, PA, PB]
            refine wpAnyH_take (i := 6) (oi := _) (v := ?vq707) rfl (by kernel_rfl) (by kernel_rfl) (by kernel_rfl) (fun _ _ _ h => h) (Or.inl ⟨by kernel_rfl, ?hyq707⟩) hHeld ?restq707
            case hyq707 => (intro w hSw; go_simp; first | done | (with_reducible rfl))
            try simp only [Act.put, PA, PB]
            refine wpAnyH_take (i := 7) (oi := _) (v := ?vq708) rfl (by kernel_rfl) (by kernel_rfl) (by kernel_rfl) (fun _ _ _ h => h) (Or.inl ⟨by kernel_rfl, ?hyq708⟩) hHeld ?restq708
            case hyq708 => (intro w hSw; have kp0 := keepC hSw p0; have kq0 := keepC hSw q0; have kz0 := keepC hSw z0; go_simp; first | done | (with_reducible rfl))
            try simp only [Act.put, PA, PB]
            refine wpAnyH_take (i := 8) (oi := _) (v := ?vq709) rfl (by kernel_rfl) (by kernel_rfl) (by kernel_rfl) (fun _ _ _ h => h) (Or.inl ⟨by kernel_rfl, ?hyq709⟩) hHeld ?restq709
            case hyq709 => (intro w hSw; go_simp; first | done | (with_reducible rfl))
            try simp only [Act.put, PA, PB]
            refine wpAnyH_take (i := 9) (oi := _) (v := ?vq7010) rfl (by kernel_rfl) (by kernel_rfl) (by kernel_rfl) (fun _ _ _ h => h) (Or.inl ⟨by kernel_rfl, ?hyq7010⟩) hHeld ?restq7010
            case hyq7010 => (intro w hSw; go_simp; first | done | (with_reducible rfl))
            try simp only [Act.put, PA, PB]
            refine wpAnyH_take (i := 10) (oi := _) (v := ?vq7011) rfl (by kernel_rfl) (by kernel_rfl) (by kernel_rfl) (fun _ _ _ h => h) (Or.inl ⟨by kernel_rfl, ?hyq7011⟩) hHeld ?restq7011
            case hyq7011 => (intro w hSw; have kp0 := keepC hSw p0; have kq0 := keepC hSw q0; have kz0 := keepC hSw z0; go_simp; first | done | (with_reducible rfl))
            try simp only [Act.put, PA, PB]
            refine wpAnyH_take (i := 11) (oi := _) (v := ?vq7012) rfl (by kernel_rfl) (by kernel_rfl) (by kernel_rfl) (fun _ _ _ h => h) (Or.inl ⟨by kernel_rfl, ?hyq7012⟩) hHeld ?restq7012
            case hyq7012 => (intro w hSw; go_simp; first | done | (with_reducible rfl))
            try simp only [Act.put, PA, PB]
            refine wpAnyH_done (by kernel_rfl) ?_ _
            refine NoPanic.normal ?_
            replace hbb := keepB hbb hHeld
            replace B := B.keep hHeld
            clear hHeld
            go_wp2_with fail
            go_roundw
            case rel => exact ⟨k + 1, by omega, by go_num, fun j hj => (Nat.lt_succ_iff_lt_or_eq.1 hj).elim (HOK.out j) (fun e => e ▸ EB.out), hbb, B⟩
            case measure => simp [intOf]; omega
          · have EB := Lib.hid (show (Ak.dAt (cs.map Ak.dat) k).1 ≠ (Ak.dAt (cs.map Ak.dat) 0).1 by rw [Ak.dAt_map cs hlt, Ak.dAt_map cs h0, hcc]; show c.len ≠ (Ak.cat cs 0).len; rw [hl, hl0]; exact hll)
            have HNE := Lib.hid hll
            clear hl hl0 hcc hi hll
            go_upto_region 13 with fail
            refine at_worldQ (fun v => Below w.heap.size w v ∧ BK v w.heap.size [.slice (some ⟨b, o, none⟩) cs.length ca, .slice Q m cq] ∧ v.cell? ⟨b, o + k * 3, none⟩ = some (.int .i64 l) ∧ v.cell? ⟨b, o, none⟩ = some (.int .i64 l0)) ⟨hbb, B, c0, z0⟩ (fun V2 hS => ?_)
            clear hbb B z0 c0 c1 c2
            obtain ⟨hbb, B, p0, z0⟩ := hS
            have q0 := B.c 0 rfl
            refine wp_region_noPanic ?_
            refine wp_region_held_drew (S := (Below V2.heap.size V2)) (by kernel_rfl) ((Below.refl _ _).drew) (fun hHeld => ?_)
            refine at_anyH (Below V2.heap.size V2) hHeld (fun wr700 hNew => ?_)
            clear hHeld
            have hHeld := hNew
            clear hNew
            refine wpAnyH_take (i := 0) (oi := _) (v := ?vr701) rfl (by kernel_rfl) (by kernel_rfl) (by kernel_rfl) (fun _ _ _ h => h) (Or.inl ⟨by kernel_rfl, ?hyr701⟩) hHeld ?restr701
            case hyr701 => (intro w hSw; go_simp; first | done | (with_reducible rfl))
            try simp only [Act.put, PA, PB]
            refine wpAnyH_take (i := 1) (oi := _) (v := ?vr702) rfl (by kernel_rfl) (by kernel_rfl) (by kernel_rfl) (fun _ _ _ h => h) (Or.inl ⟨by kernel_rfl, ?hyr702⟩) hHeld ?restr702
            case hyr702 => (intro w hSw; have kp0 := keepC hSw p0; have kq0 := keepC hSw q0; have kz0 := keepC hSw z0; go_simp; first | done | (with_reducible rfl))
            try simp only [Act.put, PA, PB]
            refine wpAnyH_take (i := 2) (oi := _) (v := ?vr703) rfl (by kernel_rfl) (by kernel_rfl) (by kernel_rfl) (fun _ _ _ h => h) (Or.inl ⟨by kernel_rfl, ?hyr703⟩) hHeld ?restr703
            case hyr703 => (intro w hSw; go_simp; first | done | (with_reducible rfl))
            try simp only [Act.put, PA, PB]
            refine wpAnyH_take (i := 3) (oi := _) (v := ?vr704) rfl (by kernel_rfl) (by kernel_rfl) (by kernel_rfl) (fun _ _ _ h => h) (Or.inl ⟨by kernel_rfl, ?hyr704⟩) hHeld ?restr704
            case hyr704 => (intro w hSw; go_simp; first | done | (with_reducible rfl))
            try simp only [Act.put, PA, PB]
            refine wpAnyH_take (i := 4) (oi := _) (v := ?vr705) rfl (by kernel_rfl) (by kernel_rfl) (by kernel_rfl) (fun _ _ _ h => h) (Or.inl ⟨by kernel_rfl, ?hyr705⟩) hHeld ?restr705
            case hyr705 => (intro w hSw; go_simp; first | done | (with_reducible rfl))
            try simp only [Act.put, PA, PB]
            refine wpAnyH_take (i := 5) (oi := _) (v := ?vr706) rfl (by kernel_rfl) (by kernel_rfl) (by kernel_rfl) (fun _ _ _ h => h) (Or.inl ⟨by kernel_rfl, ?hyr706⟩) hHeld ?restr706
            case hyr706 => (intro w hSw; have kp0 := keepC hSw p0; have kq0 := keepC hSw q0; have kz0 := keepC hSw z0; go_simp; first | done | (with_reducible rfl))
            try simp only [Act.put, PA, PB]
            refine wpAnyH_take (i := 6) (oi := _) (v := ?vr707) rfl (by kernel_rfl) (by kernel_rfl) (by kernel_rfl) (fun _ _ _ h => h) (Or.inl ⟨by kernel_rfl, ?hyr707⟩) hHeld ?restr707
            case hyr707 => (intro w hSw; go_simp; first | done | (with_reducible rfl))
            try simp only [Act.put, PA, PB]
            refine wpAnyH_take (i := 7) (oi := _) (v := ?vr708) rfl (by kernel_rfl) (by kernel_rfl) (by kernel_rfl) (fun _ _ _ h => h) (Or.inl ⟨by kernel_rfl, ?hyr708⟩) hHeld ?restr708
            case hyr708 => (intro w hSw; have kp0 := keepC hSw p0; have kq0 := keepC hSw q0; have kz0 := keepC hSw z0; go_simp; first | done | (with_reducible rfl))
            try simp only [Act.put, PA, PB]
            refine wpAnyH_take (i := 8) (oi := _) (v := ?vr709) rfl (by kernel_rfl) (by kernel_rfl) (by kernel_rfl) (fun _ _ _ h => h) (Or.inl ⟨by kernel_rfl, ?hyr709⟩) hHeld ?restr709
            case hyr709 => (intro w hSw; go_simp; first | done | (with_reducible rfl))
            try simp only [Act.put, PA, PB]
            refine wpAnyH_take (i := 9) (oi := _) (v := ?vr7010) rfl (by kernel_rfl) (by kernel_rfl) (by kernel_rfl) (fun _ _ _ h => h) (Or.inl ⟨by kernel_rfl, ?hyr7010⟩) hHeld ?restr7010
            case hyr7010 => (intro w hSw; go_simp; first | done | (with_reducible rfl))
            try simp only [Act.put, PA, PB]
            refine wpAnyH_take (i := 10) (oi := _) (v := ?vr7011) rfl (by kernel_rfl) (by kernel_rfl) (by kernel_rfl) (fun _ _ _ h => h) (Or.inl ⟨by kernel_rfl, ?hyr7011⟩) hHeld ?restr7011
            case hyr7011 => (intro w hSw; have kp0 := keepC hSw p0; have kq0 := keepC hSw q0; have kz0 := keepC hSw z0; go_simp; first | done | (with_reducible rfl))
            try simp only [Act.put, PA, PB]
            refine wpAnyH_take (i := 11) (oi := _) (v := .bool true) rfl (by kernel_rfl) (by kernel_rfl) (by kernel_rfl) (fun _ _ _ h => h) (Or.inl ⟨by kernel_rfl, ?_⟩) hHeld ?_
            · intro w hSw
              have kp0 := keepC hSw p0
              have kq0 := keepC hSw q0
              have kz0 := keepC hSw z0
              go_simp
              exact HNE.out
            try simp only [Act.put, PA, PB]
            refine wpAnyH_done (by kernel_rfl) ?_ _
            refine NoPanic.normal ?_
            replace hbb := keepB hbb hHeld
            clear hHeld
            have eR := HR.out.symm.trans (Ak.chkS_bad HN.out H3.out HE.out HK.out EB.out)
            subst eR
            go_wp2_with fail
            go_ret
            exact ⟨rfl, hbb⟩
        · obtain rfl : k = cs.length := by omega
          have eR := HR.out.symm.trans (Ak.chkS_ok HN.out H3.out HE.out (fun j hj => HOK.out j (by simpa using hj)))
          subst eR
          clear HOK HA HC HI
          go_wp2_with fail
          go_ret
          exact ⟨rfl, hbb⟩

end Go.Proofs.Ytaaamcleilpnhaa
namespace Go.Proofs.Ytaaamcleilpnhaa
open Go.RowKit
namespace Ak
/-- What is told of an answer. -/
def res (E : Int) (r : Int × Int × Int) : Int × Int := if E = 0 then (r.1, r.2.1) else (0, 0)
theorem great_of {os : List CkR} (h : greatCs (os.map dat) = false) : (∀ c ∈ os, c.cuts.length ≤ 60 ∧ c.dens.length ≤ 60) ∧ os.length ≤ 10 := by
  unfold greatCs at h
  rw [Bool.or_eq_false_iff] at h
  obtain ⟨h1, h2⟩ := h
  have h2 := of_decide_eq_false h2
  rw [List.length_map] at h2
  refine ⟨fun c hc => ?_, by omega⟩
  have := List.any_eq_false.1 h1 (dat c) (List.mem_map_of_mem hc)
  unfold greatC dat at this
  simp at this
  omega
theorem ansS_at {D : List CkD} {k kd : Int} {j : Nat} {a b c d : Int} (hk : k = j) (hj : j < D.length) : ansS D ⟨k, kd, a, b, c, d, 0, 0⟩ = if kd = 1 then vS (dAt D j) a b c d else if kd = 2 then kS (dAt D j) a b c d else (0, 0, 2) := by
  subst hk
  unfold ansS
  dsimp only
  rw [if_pos (by omega)]
  simp
theorem putE_at {D : List CkD} {n : Nat} {q : Qr} {r : Int × Int × Int} (h : chkS D n = 0) (hr : ansS D q = r) : putE D n q = if r.2.2 ≠ 0 then r.2.2 else if n = 2000 then 4 else 0 := by
  unfold putE
  rw [if_neg (fun k => k h), hr]
theorem cellsC_set : ∀ (l : List CkR) (k : Nat) (c : CkR), cellsC (l.set k c) = (((cellsC l).set (k * 3) (.int .i64 c.len)).set (k * 3 + 1) (.slice c.K c.cuts.length c.ck)).set (k * 3 + 2) (.slice c.Z c.dens.length c.cz)
  | [], _, _ => rfl
  | x :: l, 0, c => rfl
  | x :: l, k + 1, c => by
    have ih := cellsC_set l k c
    have e : ∀ (y : CkR) (m : List CkR), cellsC (y :: m) = .int .i64 y.len :: .slice y.K y.cuts.length y.ck :: .slice y.Z y.dens.length y.cz :: cellsC m := fun _ _ => rfl
    rw [List.set_cons_succ, e, e, ih, show (k + 1) * 3 = k * 3 + 1 + 1 + 1 by omega, show k * 3 + 1 + 1 + 1 + 1 = (k * 3 + 1) + 1 + 1 + 1 by omega, show k * 3 + 1 + 1 + 1 + 2 = (k * 3 + 2) + 1 + 1 + 1 by omega]
    simp only [List.set_cons_succ]
end Ak
/-- The desk behind a query, where there is no error. -/
def FC (E : Int) (D : List CkD) (L : List Qr) (B : Nat) (A : Option Addr) (m ca : Nat) (Q : Option Addr) (n cq : Nat) (W : World) : Prop := E = 0 → ∃ l, m = l.length ∧ n = L.length ∧ l.map Ak.dat = D ∧ FD W B A ca l Q cq L
section
variable {E : Int} {D : List CkD} {L : List Qr} {B m ca n cq : Nat} {A Q : Option Addr} {W W' : World}
theorem FC.keep (h : FC E D L B A m ca Q n cq W) (hb : Below W.heap.size W W') : FC E D L B A m ca Q n cq W' := fun e => (h e).elim fun l k => ⟨l, k.1, k.2.1, k.2.2.1, k.2.2.2.keep hb⟩
theorem FC.mid (h : FC E D L B A m ca Q n cq W) (hb : Mid B W W') : FC E D L B A m ca Q n cq W' := fun e => (h e).elim fun l k => ⟨l, k.1, k.2.1, k.2.2.1, k.2.2.2.mid hb⟩
end
theorem PutQ.two {D : List CkD} {qs : List Qr} {q : Qr} {w w' : World} {e : Ending} (h : PutQ D qs q w e w') {E : Int} (hE : Ak.putE D qs.length q = E) {r : Int × Int × Int} (hr : Ak.ansS D q = r) :
    ∃ (A : Option Addr) (m ca : Nat) (Q : Option Addr) (n cq : Nat), e = .returned (.tuple #[.agg #[.slice A m ca, .slice Q n cq], .agg #[.int .i64 (Ak.res E r).1, .int .i64 (Ak.res E r).2], .int .i64 E]) ∧ Below w.heap.size w w' ∧ FC E D (qs ++ [{ q with x := r.1, y := r.2.1 }]) w.heap.size A m ca Q n cq w' := by
  have ht : Ak.told D q = { q with x := r.1, y := r.2.1 } := by unfold Ak.told; rw [hr]
  obtain ⟨hb, ⟨hn, he⟩ | ⟨h0, A, ca, l, Q, cq, he, hdat, hfd⟩⟩ := h
  · rw [hE] at hn he
    exact ⟨none, 0, 0, none, 0, 0, by unfold Ak.res; rw [if_neg hn]; exact he, hb, fun k => absurd k hn⟩
  · rw [hE] at h0
    rw [ht] at he hfd
    subst h0
    exact ⟨A, l.length, ca, Q, _, cq, by unfold Ak.res; rw [if_pos rfl]; exact he, hb, fun _ => ⟨l, rfl, rfl, hdat, hfd⟩⟩
theorem row_le {w : World} {B g n cap sz : Nat} {e : TypeId} {cs : List Value} (h : w.ownsRow B e sz (.slice (some ⟨g, 0, none⟩) n cap) n cs) : n ≤ cap := by
  rcases h.2 with ⟨h1, _⟩ | ⟨g', cap', cur, h1, _, _, h4, _⟩
  · cases h1
  · simp only [Value.slice.injEq] at h1
    omega
theorem IsQs.pre {w : World} {A : Option Addr} {qs : List Qr} {q : Qr} (h : IsQs w A (qs ++ [q])) : IsQs w A qs :=
  ⟨fun h0 => by
    obtain ⟨b, off, e, hc⟩ := h.cell (by simp)
    refine ⟨b, off, e, fun i hi => ?_⟩
    have := hc i (by simp; omega)
    rwa [show Ak.qat (qs ++ [q]) i = Ak.qat qs i by rw [Ak.qat_lt (by simp; omega), Ak.qat_lt hi, List.getElem_append_left hi]] at this, fun x hx => h.all x (by simp [hx]), by have := h.len; simp at this; omega⟩
theorem last_q {w : World} {B g n cap : Nat} {e : TypeId} {qs : List Qr} {q : Qr} (h : w.ownsRow B e 8 (.slice (some ⟨g, 0, none⟩) n cap) n (Ak.cellsQ (qs ++ [q]))) : w.cell? ⟨g, qs.length * 8, none⟩ = some (.int .i64 q.ag) ∧ w.cell? ⟨g, qs.length * 8 + 1, none⟩ = some (.int .u8 q.kd) ∧ w.cell? ⟨g, qs.length * 8 + 2, none⟩ = some (.int .i64 q.a) ∧ w.cell? ⟨g, qs.length * 8 + 3, none⟩ = some (.int .i64 q.b) ∧
    w.cell? ⟨g, qs.length * 8 + 4, none⟩ = some (.int .i64 q.c) ∧ w.cell? ⟨g, qs.length * 8 + 5, none⟩ = some (.int .i64 q.d) ∧ w.cell? ⟨g, qs.length * 8 + 6, none⟩ = some (.int .i64 q.x) ∧ w.cell? ⟨g, qs.length * 8 + 7, none⟩ = some (.int .i64 q.y) := by
  have hl := h.1
  rw [Ak.cellsQ_len, List.length_append, List.length_singleton] at hl
  have hn : n = qs.length + 1 := by omega
  have k := Ak.cellsQ_at (l := qs ++ [q]) (k := qs.length) (by simp)
  rw [show Ak.qat (qs ++ [q]) qs.length = q by rw [Ak.qat_lt (by simp)]; simp] at k
  obtain ⟨k0, k1, k2, k3, k4, k5, k6, k7⟩ := k
  have c : ∀ j, j < 8 → w.cell? ⟨g, qs.length * 8 + j, none⟩ = (Ak.cellsQ (qs ++ [q]))[qs.length * 8 + j]? := fun j hj => World.ownsRow.cellAt h _ (by omega)
  exact ⟨(c 0 (by omega)).trans k0, (c 1 (by omega)).trans k1, (c 2 (by omega)).trans k2, (c 3 (by omega)).trans k3, (c 4 (by omega)).trans k4, (c 5 (by omega)).trans k5, (c 6 (by omega)).trans k6, (c 7 (by omega)).trans k7⟩
end Go.Proofs.Ytaaamcleilpnhaa
namespace Go.Proofs.Ytaaamcleilpnhaa
open Go.RowKit
set_option linter.unusedSimpArgs false in
set_option maxHeartbeats 8000000 in
set_option maxRecDepth 100000 in
theorem same1_eq (g h : Nat) (a b c d : Int) (w : World) (B1 : BK w g [.int .i64 a, .int .i64 b, .int .i64 c, .int .i64 d]) (B2 : BK w h [.int .i64 a, .int .i64 b, .int .i64 c, .int .i64 d]) :
    Calls Try.prog 58 #[.slice (some ⟨g, 0, none⟩) 1 1, .slice (some ⟨h, 0, none⟩) 1 1] w fun e w' => e = .returned (.bool true) ∧ Below w.heap.size w w' := by
  have HB1 := Lib.hid B1
  have HB2 := Lib.hid B2
  clear B1 B2
  go_enter Try.func58, Try.ntmps58
  go_wp2_with fail
  go_loopw [5] (fun i W => ∃ k : Nat, k ≤ 1 ∧ i = .int .i64 k ∧ Below w.heap.size w W) (fun i _ => 1 - (intOf i).toNat)
  case atStart => exact ⟨0, by omega, rfl, Below.refl _ _⟩
  case round =>
    obtain ⟨k, hk, rfl, hbb⟩ := hrel
    rcases (show k = 0 ∨ k = 1 by omega) with rfl | rfl
    · go_upto_region 6 with fail
      refine at_worldQ (fun v => Below w.heap.size w v) hbb (fun V hS => ?_)
      clear hbb
      have hbb := hS
      clear hS
      have c0 := keepC hbb (HB1.out.c 0 rfl)
      have c1 := keepC hbb (HB1.out.c 1 rfl)
      have c2 := keepC hbb (HB1.out.c 2 rfl)
      have c3 := keepC hbb (HB1.out.c 3 rfl)
      have d0 := keepC hbb (HB2.out.c 0 rfl)
      have d1 := keepC hbb (HB2.out.c 1 rfl)
      have d2 := keepC hbb (HB2.out.c 2 rfl)
      have d3 := keepC hbb (HB2.out.c 3 rfl)
      refine wp_region_noPanic ?_
      refine wp_region_held_drew (S := (Below V.heap.size V)) (by kernel_rfl) ((Below.refl _ _).drew) (fun hHeld => ?_)
      refine at_anyH (Below V.heap.size V) hHeld (fun wq0 hNew => ?_)
      clear hHeld
      have hHeld := hNew
      clear hNew
      refine wpAnyH_take (i := 0) (oi := _) (v := ?vq1) rfl (by kernel_rfl) (by kernel_rfl) (by kernel_rfl) (fun _ _ _ h => h) (Or.inl ⟨by kernel_rfl, ?hyq1⟩) hHeld ?restq1
      case hyq1 => (intro w hSw; go_simp; first | done | (with_reducible rfl))
      try simp only [Act.put, PA, PB]
      refine wpAnyH_take (i := 1) (oi := _) (v := ?vq2) rfl (by kernel_rfl) (by kernel_rfl) (by kernel_rfl) (fun _ _ _ h => h) (Or.inl ⟨by kernel_rfl, ?hyq2⟩) hHeld ?restq2
      case hyq2 => (intro w hSw; go_simp; first | done | (with_reducible rfl))
      try simp only [Act.put, PA, PB]
      refine wpAnyH_take (i := 2) (oi := _) (v := ?vq3) rfl (by kernel_rfl) (by kernel_rfl) (by kernel_rfl) (fun _ _ _ h => h) (Or.inl ⟨by kernel_rfl, ?hyq3⟩) hHeld ?restq3
      case hyq3 => (intro w hSw; go_simp; first | done | (with_reducible rfl))
      try simp only [Act.put, PA, PB]
      refine wpAnyH_take (i := 3) (oi := _) (v := ?vq4) rfl (by kernel_rfl) (by kernel_rfl) (by kernel_rfl) (fun _ _ _ h => h) (Or.inl ⟨by kernel_rfl, ?hyq4⟩) hHeld ?restq4
      case hyq4 => (intro w hSw; have kc0 := keepC hSw c0; have kc1 := keepC hSw c1; have kc2 := keepC hSw c2; have kc3 := keepC hSw c3; have kd0 := keepC hSw d0; have kd1 := keepC hSw d1; have kd2 := keepC hSw d2; have kd3 := keepC hSw d3; go_simp; first | done | (with_reducible rfl))
      try simp only [Act.put, PA, PB]
      refine wpAnyH_take (i := 4) (oi := _) (v := ?vq5) rfl (by kernel_rfl) (by kernel_rfl) (by kernel_rfl) (fun _ _ _ h => h) (Or.inl ⟨by kernel_rfl, ?hyq5⟩) hHeld ?restq5
      case hyq5 => (intro w hSw; go_simp; first | done | (with_reducible rfl))
      try simp only [Act.put, PA, PB]
      refine wpAnyH_take (i := 5) (oi := _) (v := ?vq6) rfl (by kernel_rfl) (by kernel_rfl) (by kernel_rfl) (fun _ _ _ h => h) (Or.inl ⟨by kernel_rfl, ?hyq6⟩) hHeld ?restq6
      case hyq6 => (intro w hSw; go_simp; first | done | (with_reducible rfl))
      try simp only [Act.put, PA, PB]
      refine wpAnyH_take (i := 6) (oi := _) (v := ?vq7) rfl (by kernel_rfl) (by kernel_rfl) (by kernel_rfl) (fun _ _ _ h => h) (Or.inl ⟨by kernel_rfl, ?hyq7⟩) hHeld ?restq7
      case hyq7 => (intro w hSw; go_simp; first | done | (with_reducible rfl))
      try simp only [Act.put, PA, PB]
      refine wpAnyH_take (i := 7) (oi := _) (v := ?vq8) rfl (by kernel_rfl) (by kernel_rfl) (by kernel_rfl) (fun _ _ _ h => h) (Or.inl ⟨by kernel_rfl, ?hyq8⟩) hHeld ?restq8
      case hyq8 => (intro w hSw; have kc0 := keepC hSw c0; have kc1 := keepC hSw c1; have kc2 := keepC hSw c2; have kc3 := keepC hSw c3; have kd0 := keepC hSw d0; have kd1 := keepC hSw d1; have kd2 := keepC hSw d2; have kd3 := keepC hSw d3; go_simp; first | done | (with_reducible rfl))
      try simp only [Act.put, PA, PB]
      refine wpAnyH_take (i := 8) (oi := _) (v := ?vq9) rfl (by kernel_rfl) (by kernel_rfl) (by kernel_rfl) (fun _ _ _ h => h) (Or.inl ⟨by kernel_rfl, ?hyq9⟩) hHeld ?restq9
      case hyq9 => (intro w hSw; go_simp; first | done | (with_reducible rfl))
      try simp only [Act.put, PA, PB]
      refine wpAnyH_done (by kernel_rfl) ?_ _
      refine NoPanic.normal ?_
      skip
      replace hbb := keepB hbb hHeld
      clear hHeld
      go_wp2_with fail
      go_roundw
      case rel => exact ⟨1, by omega, by go_num, hbb⟩
      case measure => simp [intOf]
    · go_wp2_with fail
      go_ret
      exact ⟨rfl, hbb⟩
set_option linter.unusedSimpArgs false in
set_option maxHeartbeats 8000000 in
set_option maxRecDepth 100000 in
theorem sameDiv_eq (P R B B' g0 g1 h0 h1 : Nat) (a0 b0 c0 d0 a1 b1 c1 d1 : Int) (w : World) (hA : DivB B P g0 g1 a0 b0 c0 d0 a1 b1 c1 d1 w) (hB : DivB B' R h0 h1 a0 b0 c0 d0 a1 b1 c1 d1 w) :
    Calls Try.prog 49 #[.agg #[.slice (some ⟨P, 0, none⟩) 2 2], .agg #[.slice (some ⟨R, 0, none⟩) 2 2]] w fun e w' => e = .returned (.bool true) ∧ Below w.heap.size w w' := by
  have s0 := fun v (hv : Below w.heap.size w v) => same1_eq g0 h0 a0 b0 c0 d0 v (hA.s0.keep hv) (hB.s0.keep hv)
  have s1 := fun v (hv : Below w.heap.size w v) => same1_eq g1 h1 a1 b1 c1 d1 v (hA.s1.keep hv) (hB.s1.keep hv)
  have S0 := Lib.hid s0
  have S1 := Lib.hid s1
  have HP0 := Lib.hid (hA.p.c 0 rfl)
  have HP1 := Lib.hid (hA.p.c 1 rfl)
  have HQ0 := Lib.hid (hB.p.c 0 rfl)
  have HQ1 := Lib.hid (hB.p.c 1 rfl)
  clear s0 s1 hA hB
  go_enter Try.func49, Try.ntmps49
  go_upto_region 1 with fail
  refine at_worldQ (fun v => Below w.heap.size w v ∧ BK v (w.heap.size) [.slice (some ⟨P, 0, none⟩) 2 2] ∧ BK v (w.heap.size + 1) [.slice (some ⟨R, 0, none⟩) 2 2] ∧ v.heap.size = w.heap.size + 2) ⟨(below_al (below_al (Below.refl _ _) _) _), (by have b := ((BK.new w [.slice (some ⟨P, 0, none⟩) 2 2] 77).al (.cells #[.slice (some ⟨R, 0, none⟩) 2 2] 77)); simpa only [World.size_alloc] using b), (by have b := (BK.new (w.alloc (.cells #[.slice (some ⟨P, 0, none⟩) 2 2] 77)) [.slice (some ⟨R, 0, none⟩) 2 2] 77); simpa only [World.size_alloc] using b), by simp only [World.size_alloc]⟩ (fun V hS => ?_)
  obtain ⟨hbb, B0, B1, hVs⟩ := hS
  have BX := B0
  have BY := B1
  clear B0 B1 hVs
  have x0 := BX.c 0 rfl
  have y0 := BY.c 0 rfl
  go_wp2_with fail
  clear x0 y0
  go_loopw [5] (fun i W => ∃ k : Nat, k ≤ 2 ∧ i = .int .i64 k ∧ Below w.heap.size w W ∧ BK W w.heap.size [.slice (some ⟨P, 0, none⟩) 2 2] ∧ BK W (w.heap.size + 1) [.slice (some ⟨R, 0, none⟩) 2 2]) (fun i _ => 2 - (intOf i).toNat)
  case atStart => exact ⟨0, by omega, rfl, hbb, BX, BY⟩
  case round =>
    clear hbb BX BY
    obtain ⟨k, hk, rfl, hbb, BX, BY⟩ := hrel
    rcases (show k = 0 ∨ k = 1 ∨ k = 2 by omega) with rfl | rfl | rfl
    · have x0 := BX.c 0 rfl
      have y0 := BY.c 0 rfl
      have p0 := keepC hbb HP0.out
      have p1 := keepC hbb HP1.out
      have q0 := keepC hbb HQ0.out
      have q1 := keepC hbb HQ1.out
      go_upto_region 6 with fail
      refine at_worldQ (fun v => Below w.heap.size w v ∧ BK v w.heap.size [.slice (some ⟨P, 0, none⟩) 2 2] ∧ BK v (w.heap.size + 1) [.slice (some ⟨R, 0, none⟩) 2 2]) ⟨hbb, BX, BY⟩ (fun V6 hS => ?_)
      clear hbb BX BY x0 y0 p0 p1 q0 q1
      obtain ⟨hbb, BX, BY⟩ := hS
      have x0 := BX.c 0 rfl
      have y0 := BY.c 0 rfl
      have p0 := keepC hbb HP0.out
      have p1 := keepC hbb HP1.out
      have q0 := keepC hbb HQ0.out
      have q1 := keepC hbb HQ1.out
      refine wp_region_noPanic ?_
      refine wp_region_held_drew (S := (Below V6.heap.size V6)) (by kernel_rfl) ((Below.refl _ _).drew) (fun hHeld => ?_)
      refine at_anyH (Below V6.heap.size V6) hHeld (fun wr00 hNew => ?_)
      clear hHeld
      have hHeld := hNew
      clear hNew
      refine wpAnyH_take (i := 0) (oi := _) (v := ?vr01) rfl (by kernel_rfl) (by kernel_rfl) (by kernel_rfl) (fun _ _ _ h => h) (Or.inl ⟨by kernel_rfl, ?hyr01⟩) hHeld ?restr01
      case hyr01 => (intro w hSw; go_simp; first | done | (with_reducible rfl))
      try simp only [Act.put, PA, PB]
      refine wpAnyH_take (i := 1) (oi := _) (v := ?vr02) rfl (by kernel_rfl) (by kernel_rfl) (by kernel_rfl) (fun _ _ _ h => h) (Or.inl ⟨by kernel_rfl, ?hyr02⟩) hHeld ?restr02
      case hyr02 => (intro w hSw; have kx0 := keepC hSw x0; have ky0 := keepC hSw y0; have kp0 := keepC hSw p0; have kp1 := keepC hSw p1; have kq0 := keepC hSw q0; have kq1 := keepC hSw q1; go_simp; first | done | (with_reducible rfl))
      try simp only [Act.put, PA, PB]
      refine wpAnyH_take (i := 2) (oi := _) (v := ?vr03) rfl (by kernel_rfl) (by kernel_rfl) (by kernel_rfl) (fun _ _ _ h => h) (Or.inl ⟨by kernel_rfl, ?hyr03⟩) hHeld ?restr03
      case hyr03 => (intro w hSw; go_simp; first | done | (with_reducible rfl))
      try simp only [Act.put, PA, PB]
      refine wpAnyH_take (i := 3) (oi := _) (v := ?vr04) rfl (by kernel_rfl) (by kernel_rfl) (by kernel_rfl) (fun _ _ _ h => h) (Or.inl ⟨by kernel_rfl, ?hyr04⟩) hHeld ?restr04
      case hyr04 => (intro w hSw; go_simp; first | done | (with_reducible rfl))
      try simp only [Act.put, PA, PB]
      refine wpAnyH_take (i := 4) (oi := _) (v := ?vr05) rfl (by kernel_rfl) (by kernel_rfl) (by kernel_rfl) (fun _ _ _ h => h) (Or.inl ⟨by kernel_rfl, ?hyr05⟩) hHeld ?restr05
      case hyr05 => (intro w hSw; have kx0 := keepC hSw x0; have ky0 := keepC hSw y0; have kp0 := keepC hSw p0; have kp1 := keepC hSw p1; have kq0 := keepC hSw q0; have kq1 := keepC hSw q1; go_simp; first | done | (with_reducible rfl))
      try simp only [Act.put, PA, PB]
      refine wpAnyH_take (i := 5) (oi := _) (v := ?vr06) rfl (by kernel_rfl) (by kernel_rfl) (by kernel_rfl) (fun _ _ _ h => h) (Or.inl ⟨by kernel_rfl, ?hyr06⟩) hHeld ?restr06
      case hyr06 => (intro w hSw; go_simp; first | done | (with_reducible rfl))
      try simp only [Act.put, PA, PB]
      refine wpAnyH_take (i := 6) (oi := _) (v := ?vr07) rfl (by kernel_rfl) (by kernel_rfl) (by kernel_rfl) (fun _ _ _ h => h) (Or.inl ⟨by kernel_rfl, ?hyr07⟩) hHeld ?restr07
      case hyr07 => (intro w hSw; have kx0 := keepC hSw x0; have ky0 := keepC hSw y0; have kp0 := keepC hSw p0; have kp1 := keepC hSw p1; have kq0 := keepC hSw q0; have kq1 := keepC hSw q1; go_simp; first | done | (with_reducible rfl))
      try simp only [Act.put, PA, PB]
      refine wpAnyH_take (i := 7) (oi := _) (v := ?vr08) rfl (by kernel_rfl) (by kernel_rfl) (by kernel_rfl) (fun _ _ _ h => h) (Or.inl ⟨by kernel_rfl, ?hyr08⟩) hHeld ?restr08
      case hyr08 => (intro w hSw; go_simp; first | done | (with_reducible rfl))
      try simp only [Act.put, PA, PB]
      refine wpAnyH_take (i := 8) (oi := _) (v := ?vr09) rfl (by kernel_rfl) (by kernel_rfl) (by kernel_rfl) (fun _ _ _ h => h) (Or.inl ⟨by kernel_rfl, ?hyr09⟩) hHeld ?restr09
      case hyr09 => (intro w hSw; go_simp; first | done | (with_reducible rfl))
      try simp only [Act.put, PA, PB]
      refine wpAnyH_take (i := 9) (oi := _) (v := ?vr010) rfl (by kernel_rfl) (by kernel_rfl) (by kernel_rfl) (fun _ _ _ h => h) (Or.inl ⟨by kernel_rfl, ?hyr010⟩) hHeld ?restr010
      case hyr010 => (intro w hSw; have kx0 := keepC hSw x0; have ky0 := keepC hSw y0; have kp0 := keepC hSw p0; have kp1 := keepC hSw p1; have kq0 := keepC hSw q0; have kq1 := keepC hSw q1; go_simp; first | done | (with_reducible rfl))
      try simp only [Act.put, PA, PB]
      refine wpAnyH_ready (rs := [10]) (by kernel_rfl) (by simp) (AllReadyH.cons (o := _) rfl (fun K hK => ?_) AllReadyH.nil)
      go_simp
      refine (S0.out _ (hbb.trans (hHeld.mono hbb.size))).mono ?_
      rintro e wr011 ⟨rfl, hb3⟩
      go_wp2_with fail
      refine hK.out _ _ (keepB hHeld hb3) (fun hNew => ?_)
      clear hb3
      clear hHeld hK K
      have hHeld := hNew
      clear hNew
      try simp only [Act.put, PA, PB]
      refine wpAnyH_take (i := 11) (oi := _) (v := ?vr012) rfl (by kernel_rfl) (by kernel_rfl) (by kernel_rfl) (fun _ _ _ h => h) (Or.inl ⟨by kernel_rfl, ?hyr012⟩) hHeld ?restr012
      case hyr012 => (intro w hSw; go_simp; first | done | (with_reducible rfl))
      try simp only [Act.put, PA, PB]
      refine wpAnyH_done (by kernel_rfl) ?_ _
      refine NoPanic.normal ?_
      skip
      replace BX := BX.keep hHeld
      replace BY := BY.keep hHeld
      replace hbb := keepB hbb hHeld
      clear hHeld x0 y0 p0 p1 q0 q1
      go_wp2_with fail
      go_roundw
      case rel => exact ⟨1, by omega, by go_num, hbb, BX, BY⟩
      case measure => simp [intOf]

    · have x0 := BX.c 0 rfl
      have y0 := BY.c 0 rfl
      have p0 := keepC hbb HP0.out
      have p1 := keepC hbb HP1.out
      have q0 := keepC hbb HQ0.out
      have q1 := keepC hbb HQ1.out
      go_upto_region 6 with fail
      refine at_worldQ (fun v => Below w.heap.size w v ∧ BK v w.heap.size [.slice (some ⟨P, 0, none⟩) 2 2] ∧ BK v (w.heap.size + 1) [.slice (some ⟨R, 0, none⟩) 2 2]) ⟨hbb, BX, BY⟩ (fun V6 hS => ?_)
      clear hbb BX BY x0 y0 p0 p1 q0 q1
      obtain ⟨hbb, BX, BY⟩ := hS
      have x0 := BX.c 0 rfl
      have y0 := BY.c 0 rfl
      have p0 := keepC hbb HP0.out
      have p1 := keepC hbb HP1.out
      have q0 := keepC hbb HQ0.out
      have q1 := keepC hbb HQ1.out
      refine wp_region_noPanic ?_
      refine wp_region_held_drew (S := (Below V6.heap.size V6)) (by kernel_rfl) ((Below.refl _ _).drew) (fun hHeld => ?_)
      refine at_anyH (Below V6.heap.size V6) hHeld (fun wr10 hNew => ?_)
      clear hHeld
      have hHeld := hNew
      clear hNew
      refine wpAnyH_take (i := 0) (oi := _) (v := ?vr11) rfl (by kernel_rfl) (by kernel_rfl) (by kernel_rfl) (fun _ _ _ h => h) (Or.inl ⟨by kernel_rfl, ?hyr11⟩) hHeld ?restr11
      case hyr11 => (intro w hSw; go_simp; first | done | (with_reducible rfl))
      try simp only [Act.put, PA, PB]
      refine wpAnyH_take (i := 1) (oi := _) (v := ?vr12) rfl (by kernel_rfl) (by kernel_rfl) (by kernel_rfl) (fun _ _ _ h => h) (Or.inl ⟨by kernel_rfl, ?hyr12⟩) hHeld ?restr12
      case hyr12 => (intro w hSw; have kx0 := keepC hSw x0; have ky0 := keepC hSw y0; have kp0 := keepC hSw p0; have kp1 := keepC hSw p1; have kq0 := keepC hSw q0; have kq1 := keepC hSw q1; go_simp; first | done | (with_reducible rfl))
      try simp only [Act.put, PA, PB]
      refine wpAnyH_take (i := 2) (oi := _) (v := ?vr13) rfl (by kernel_rfl) (by kernel_rfl) (by kernel_rfl) (fun _ _ _ h => h) (Or.inl ⟨by kernel_rfl, ?hyr13⟩) hHeld ?restr13
      case hyr13 => (intro w hSw; go_simp; first | done | (with_reducible rfl))
      try simp only [Act.put, PA, PB]
      refine wpAnyH_take (i := 3) (oi := _) (v := ?vr14) rfl (by kernel_rfl) (by kernel_rfl) (by kernel_rfl) (fun _ _ _ h => h) (Or.inl ⟨by kernel_rfl, ?hyr14⟩) hHeld ?restr14
      case hyr14 => (intro w hSw; go_simp; first | done | (with_reducible rfl))
      try simp only [Act.put, PA, PB]
      refine wpAnyH_take (i := 4) (oi := _) (v := ?vr15) rfl (by kernel_rfl) (by kernel_rfl) (by kernel_rfl) (fun _ _ _ h => h) (Or.inl ⟨by kernel_rfl, ?hyr15⟩) hHeld ?restr15
      case hyr15 => (intro w hSw; have kx0 := keepC hSw x0; have ky0 := keepC hSw y0; have kp0 := keepC hSw p0; have kp1 := keepC hSw p1; have kq0 := keepC hSw q0; have kq1 := keepC hSw q1; go_simp; first | done | (with_reducible rfl))
      try simp only [Act.put, PA, PB]
      refine wpAnyH_take (i := 5) (oi := _) (v := ?vr16) rfl (by kernel_rfl) (by kernel_rfl) (by kernel_rfl) (fun _ _ _ h => h) (Or.inl ⟨by kernel_rfl, ?hyr16⟩) hHeld ?restr16
      case hyr16 => (intro w hSw; go_simp; first | done | (with_reducible rfl))
      try simp only [Act.put, PA, PB]
      refine wpAnyH_take (i := 6) (oi := _) (v := ?vr17) rfl (by kernel_rfl) (by kernel_rfl) (by kernel_rfl) (fun _ _ _ h => h) (Or.inl ⟨by kernel_rfl, ?hyr17⟩) hHeld ?restr17
      case hyr17 => (intro w hSw; have kx0 := keepC hSw x0; have ky0 := keepC hSw y0; have kp0 := keepC hSw p0; have kp1 := keepC hSw p1; have kq0 := keepC hSw q0; have kq1 := keepC hSw q1; go_simp; first | done | (with_reducible rfl))
      try simp only [Act.put, PA, PB]
      refine wpAnyH_take (i := 7) (oi := _) (v := ?vr18) rfl (by kernel_rfl) (by kernel_rfl) (by kernel_rfl) (fun _ _ _ h => h) (Or.inl ⟨by kernel_rfl, ?hyr18⟩) hHeld ?restr18
      case hyr18 => (intro w hSw; go_simp; first | done | (with_reducible rfl))
      try simp only [Act.put, PA, PB]
      refine wpAnyH_take (i := 8) (oi := _) (v := ?vr19) rfl (by kernel_rfl) (by kernel_rfl) (by kernel_rfl) (fun _ _ _ h => h) (Or.inl ⟨by kernel_rfl, ?hyr19⟩) hHeld ?restr19
      case hyr19 => (intro w hSw; go_simp; first | done | (with_reducible rfl))
      try simp only [Act.put, PA, PB]
      refine wpAnyH_take (i := 9) (oi := _) (v := ?vr110) rfl (by kernel_rfl) (by kernel_rfl) (by kernel_rfl) (fun _ _ _ h => h) (Or.inl ⟨by kernel_rfl, ?hyr110⟩) hHeld ?restr110
      case hyr110 => (intro w hSw; have kx0 := keepC hSw x0; have ky0 := keepC hSw y0; have kp0 := keepC hSw p0; have kp1 := keepC hSw p1; have kq0 := keepC hSw q0; have kq1 := keepC hSw q1; go_simp; first | done | (with_reducible rfl))
      try simp only [Act.put, PA, PB]
      refine wpAnyH_ready (rs := [10]) (by kernel_rfl) (by simp) (AllReadyH.cons (o := _) rfl (fun K hK => ?_) AllReadyH.nil)
      go_simp
      refine (S1.out _ (hbb.trans (hHeld.mono hbb.size))).mono ?_
      rintro e wr111 ⟨rfl, hb3⟩
      go_wp2_with fail
      refine hK.out _ _ (keepB hHeld hb3) (fun hNew => ?_)
      clear hb3
      clear hHeld hK K
      have hHeld := hNew
      clear hNew
      try simp only [Act.put, PA, PB]
      refine wpAnyH_take (i := 11) (oi := _) (v := ?vr112) rfl (by kernel_rfl) (by kernel_rfl) (by kernel_rfl) (fun _ _ _ h => h) (Or.inl ⟨by kernel_rfl, ?hyr112⟩) hHeld ?restr112
      case hyr112 => (intro w hSw; go_simp; first | done | (with_reducible rfl))
      try simp only [Act.put, PA, PB]
      refine wpAnyH_done (by kernel_rfl) ?_ _
      refine NoPanic.normal ?_
      skip
      replace BX := BX.keep hHeld
      replace BY := BY.keep hHeld
      replace hbb := keepB hbb hHeld
      clear hHeld x0 y0 p0 p1 q0 q1
      go_wp2_with fail
      go_roundw
      case rel => exact ⟨2, by omega, by go_num, hbb, BX, BY⟩
      case measure => simp [intOf]

    · have x0 := BX.c 0 rfl
      have y0 := BY.c 0 rfl
      go_wp2_with fail
      go_ret
      exact ⟨rfl, hbb⟩
theorem two7_any (w : World) : Calls Try.prog 41 #[] w (TwoQ w) := by
  unfold TwoQ
  go_enter Try.func41, Try.ntmps41
  go_wp2
  go_ret
  first
    | exact ⟨_, _, rfl, rfl, rfl, two_lay w⟩
    | exact ⟨_, rfl, _, rfl, rfl, two_lay w⟩
end Go.Proofs.Ytaaamcleilpnhaa
namespace Go.Proofs.Ytaaamcleilpnhaa
open Go.RowKit
namespace Ch
def pick {α : Type} (a b c : α) : Nat → α
  | 0 => a
  | 1 => b
  | _ => c
theorem chkS_up {D : List CkD} {n : Nat} (h : Ak.chkS D 0 = 0) (hn : n ≤ 2000) : Ak.chkS D n = 0 := by
  have g := Ak.chkS_good h
  exact Ak.good_chkS ⟨g.l0, g.l1, hn, g.all, g.same⟩
/-- What is asked and answered. -/
structure Rn (D : List CkD) (k j : Nat) (h1 h2 g1 g2 x y v1 v2 z : Int) : Prop where
  kj : (k = 0 ∧ j = 1) ∨ (k = 1 ∧ j = 0)
  hh : hf (Ak.dAt D k) = (h1, h2, 0)
  hg : hf (Ak.dAt D j) = (g1, g2, 0)
  hm : Ak.kS (Ak.dAt D k) 0 1 h1 h2 = (x, y, 0)
  hv : Ak.vS (Ak.dAt D j) 0 1 x y = (v1, v2, 0)
  hz : Rp.cmpS v1 v2 g1 g2 = (z, 0)
  b1 : I64 h1
  b2 : I64 h2
  b3 : I64 g1
  b4 : I64 g2
  b5 : I64 x
  b6 : I64 y
  b7 : I64 v1
  b8 : I64 v2
theorem ok64 {n d : Int} (h : Rp.Ok n d) : I64 n ∧ I64 d := by
  have := h.1; have := h.2.1; have := h.2.2.1; have := h.2.2.2.1
  unfold I64; omega
/-- The run of a cutter's and a chooser's cake. -/
theorem rn_of {c d : CkD} (hc : Ak.ckD c = 0) (hd : Ak.ckD d = 0) (hl : d.1 = c.1) : ∃ h1 h2 g1 g2 x y v1 v2 z, hf c = (h1, h2, 0) ∧ hf d = (g1, g2, 0) ∧ Ak.kS c 0 1 h1 h2 = (x, y, 0) ∧ Ak.vS d 0 1 x y = (v1, v2, 0) ∧ Rp.cmpS v1 v2 g1 g2 = (z, 0) ∧
    I64 h1 ∧ I64 h2 ∧ I64 g1 ∧ I64 g2 ∧ I64 x ∧ I64 y ∧ I64 v1 ∧ I64 v2 := by
  obtain ⟨x, y, hk, hp, D, d1, d2, dd⟩ := mark_half hc
  obtain ⟨v1, v2, hv, hvo⟩ := value_at hd (by rw [hl]; exact hp) d1 d2 dd
  obtain ⟨a0, a1, _, _⟩ := hf_ok hc
  obtain ⟨e0, e1, _, _⟩ := hf_ok hd
  rcases hh : hf c with ⟨h1, h2, h3⟩
  rcases hg : hf d with ⟨g1, g2, g3⟩
  rw [hh] at hk a0 a1
  rw [hg] at e0 e1
  dsimp only at a0 a1 e0 e1 hk
  subst a0 e0
  have hz := Rp.cmpS_ok hvo e1
  have o := pt_spec hp
  exact ⟨h1, h2, g1, g2, x, y, v1, v2, _, rfl, rfl, hk, hv, hz, (ok64 a1).1, (ok64 a1).2, (ok64 e1).1, (ok64 e1).2, (ok64 o.1).1, (ok64 o.1).2, (ok64 hvo).1, (ok64 hvo).2⟩
end Ch
section
variable {D : List CkD} {k j : Nat} {h1 h2 g1 g2 x y v1 v2 z : Int}
theorem Ch.Rn.cmp (R : Ch.Rn D k j h1 h2 g1 g2 x y v1 v2 z) (v : World) : Calls Try.prog 92 #[.agg #[.int .i64 v1, .int .i64 v2], .agg #[.int .i64 g1, .int .i64 g2]] v fun e v' => e = .returned (.tuple #[.int .i64 z, .int .i64 0]) ∧ Below v.heap.size v v' := by
  have := Cmp_any v1 v2 g1 g2 v R.b7.1 R.b7.2 R.b8.1 R.b8.2 R.b3.1 R.b3.2 R.b4.1 R.b4.2
  rw [R.hz] at this
  exact this
theorem Ch.Rn.step0 (R : Ch.Rn D k j h1 h2 g1 g2 x y v1 v2 z) (hc : Ak.chkS D 0 = 0) (hl : D.length = 2) (A : Option Addr) (ca : Nat) (l : List CkR) (Q : Option Addr) (cq : Nat) (v : World) (hi : IsCs v A l) (hd : l.map Ak.dat = D) (hq : IsQs v Q []) :
    Calls Try.prog 87 #[.agg #[.slice A l.length ca, .slice Q ([] : List Qr).length cq, .int .i64 k, .int .i64 0, .int .i64 0, .int .i64 1, .bool false]] v (StQ D [⟨k, 2, 0, 1, h1, h2, x, y⟩] k 1 x y false v) := by
  have hk : k < D.length := by have := R.kj; omega
  have ha : Ak.ansS D ⟨(k : Int), 2, 0, 1, h1, h2, 0, 0⟩ = (x, y, 0) := by
    rw [Ak.ansS_at rfl hk, if_neg (by decide), if_pos rfl, R.hm]
  refine following0 A l.length ca Q ([] : List Qr).length cq k 0 1 false D [⟨k, 2, 0, 1, h1, h2, x, y⟩] k 1 x y false v (fun u hu => ?_)
  have := afterCut_good A ca l Q [] cq k 0 0 1 false h1 h2 ⟨k, 2, 0, 1, h1, h2, x, y⟩ u (hi.keep hu) (hq.keep hu)
  rw [hd] at this
  refine this hc (by rw [← hd, List.length_map] at hk; exact hk) R.hh R.b1 R.b2 ?_ ?_
  · rw [Ak.putE_at (n := ([] : List Qr).length) hc ha]
    rfl
  · unfold Ak.told
    rw [ha]
theorem Ch.Rn.step1 (R : Ch.Rn D k j h1 h2 g1 g2 x y v1 v2 z) (hc : Ak.chkS D 0 = 0) (hl : D.length = 2) (q : Qr) (A : Option Addr) (ca : Nat) (l : List CkR) (Q : Option Addr) (cq : Nat) (v : World) (hi : IsCs v A l) (hd : l.map Ak.dat = D) (hq : IsQs v Q [q]) :
    Calls Try.prog 87 #[.agg #[.slice A l.length ca, .slice Q [q].length cq, .int .i64 k, .int .i64 1, .int .i64 x, .int .i64 y, .bool false]] v (StQ D [q, ⟨j, 1, 0, 1, x, y, v1, v2⟩] k 2 x y (decide (0 ≤ z)) v) := by
  have hj : j < D.length := by have := R.kj; omega
  have hc1 : Ak.chkS D [q].length = 0 := Ch.chkS_up hc (by simp)
  have ha : Ak.ansS D ⟨(j : Int), 1, 0, 1, x, y, 0, 0⟩ = (v1, v2, 0) := by
    rw [Ak.ansS_at rfl hj, if_pos rfl, R.hv]
  refine following1 A l.length ca Q [q].length cq k x y false D [q, ⟨j, 1, 0, 1, x, y, v1, v2⟩] k 2 x y (decide (0 ≤ z)) v (fun u hu => ?_)
  have := afterChoice_good A ca l Q [q] cq k 1 x y false j g1 g2 z ⟨j, 1, 0, 1, x, y, v1, v2⟩ u (hi.keep hu) (hq.keep hu)
  rw [hd] at this
  refine this hc1 R.kj (by rw [← hd, List.length_map] at hj; exact hj) R.b5 R.b6 R.hg ?_ ?_ R.cmp
  · rw [Ak.putE_at hc1 ha]
    rfl
  · unfold Ak.told
    rw [ha]
/-- The states, one after the other. -/
theorem Ch.Rn.reach (R : Ch.Rn D k j h1 h2 g1 g2 x y v1 v2 z) (hc : Ak.chkS D 0 = 0) (hl : D.length = 2) (s : Nat) (hs : s ≤ 2) (A : Option Addr) (ca : Nat) (cs : List CkR) (w : World) (h : IsCs w A cs) (hD : cs.map Ak.dat = D) :
    Calls Try.prog 85 #[.slice A cs.length ca, .int .i64 k, .int .i64 (s : Nat)] w (StR D (Ch.pick [] [⟨k, 2, 0, 1, h1, h2, x, y⟩] [⟨k, 2, 0, 1, h1, h2, x, y⟩, ⟨j, 1, 0, 1, x, y, v1, v2⟩] s) k (s : Nat) (Ch.pick 0 x x s) (Ch.pick 1 y y s) (Ch.pick false false (decide (0 ≤ z)) s) w) := by
  refine reached_good A ca cs k s D (Ch.pick [] [⟨k, 2, 0, 1, h1, h2, x, y⟩] [⟨k, 2, 0, 1, h1, h2, x, y⟩, ⟨j, 1, 0, 1, x, y, v1, v2⟩]) (Ch.pick 0 x x) (Ch.pick 1 y y) (Ch.pick false false (decide (0 ≤ z))) w h hD hc (by rw [← hD, List.length_map] at hl; exact hl) (by have := R.kj; omega) ⟨rfl, rfl, rfl, rfl⟩ (fun i hi A ca l Q cq v h1 h2 h3 => ?_)
  rcases (show i = 0 ∨ i = 1 by omega) with rfl | rfl
  · exact R.step0 hc hl A ca l Q cq v h1 h2 h3
  · exact R.step1 hc hl _ A ca l Q cq v h1 h2 h3
end
section
variable {D : List CkD} {h1 h2 g1 g2 x y v1 v2 z : Int}
theorem cat0_len {l : List CkR} {len : Int} (hd : l.map Ak.dat = D) (hl : D.length = 2) (hn : (Ak.dAt D 0).1 = len) : (Ak.cat l 0).len = len := by
  have h2 : 0 < l.length := by rw [← List.length_map (f := Ak.dat), hd]; omega
  rw [← hn, ← hd, Ak.dAt_map l h2]
  rfl
/-- The agent 0 cuts. -/
theorem Ch.Rn.run0 (R : Ch.Rn D 0 1 h1 h2 g1 g2 x y v1 v2 z) (hc : Ak.chkS D 0 = 0) (hl : D.length = 2) (len : Int) (hn : (Ak.dAt D 0).1 = len) (A : Option Addr) (ca : Nat) (cs : List CkR) (w : World) (h : IsCs w A cs) (hD : cs.map Ak.dat = D) :
    Calls Try.prog 44 #[.slice A cs.length ca, .int .i64 0] w (RunQ [⟨0, 2, 0, 1, h1, h2, x, y⟩, ⟨1, 1, 0, 1, x, y, v1, v2⟩] (if 0 ≤ z then x else 0) (if 0 ≤ z then y else 1) (if 0 ≤ z then len else x) (if 0 ≤ z then 1 else y) (if 0 ≤ z then 0 else x) (if 0 ≤ z then 1 else y) (if 0 ≤ z then x else len) (if 0 ≤ z then y else 1) w) := by
  refine run_of A ca cs.length 0 x y (decide (0 ≤ z)) D _ _ _ _ _ _ _ _ _ w (fun v hv => R.reach hc hl 2 (Nat.le_refl _) A ca cs v (h.keep hv) hD) (fun A ca l Q n cq v hi hd => ?_)
  have hl2 : l.length = 2 := by rw [← List.length_map (f := Ak.dat), hd]; exact hl
  have hlen := cat0_len hd hl hn
  by_cases hz : 0 ≤ z
  · simp only [if_pos hz, decide_eq_true hz]
    exact divided0t A ca l Q n cq 2 x y len v hi hl2 hlen
  · simp only [if_neg hz, decide_eq_false hz]
    exact divided0f A ca l Q n cq 2 x y len v hi hl2 hlen
/-- The agent 1 cuts. -/
theorem Ch.Rn.run1 (R : Ch.Rn D 1 0 h1 h2 g1 g2 x y v1 v2 z) (hc : Ak.chkS D 0 = 0) (hl : D.length = 2) (len : Int) (hn : (Ak.dAt D 0).1 = len) (A : Option Addr) (ca : Nat) (cs : List CkR) (w : World) (h : IsCs w A cs) (hD : cs.map Ak.dat = D) :
    Calls Try.prog 44 #[.slice A cs.length ca, .int .i64 1] w (RunQ [⟨1, 2, 0, 1, h1, h2, x, y⟩, ⟨0, 1, 0, 1, x, y, v1, v2⟩] (if 0 ≤ z then 0 else x) (if 0 ≤ z then 1 else y) (if 0 ≤ z then x else len) (if 0 ≤ z then y else 1) (if 0 ≤ z then x else 0) (if 0 ≤ z then y else 1) (if 0 ≤ z then len else x) (if 0 ≤ z then 1 else y) w) := by
  refine run_of A ca cs.length 1 x y (decide (0 ≤ z)) D _ _ _ _ _ _ _ _ _ w (fun v hv => R.reach hc hl 2 (Nat.le_refl _) A ca cs v (h.keep hv) hD) (fun A ca l Q n cq v hi hd => ?_)
  have hl2 : l.length = 2 := by rw [← List.length_map (f := Ak.dat), hd]; exact hl
  have hlen := cat0_len hd hl hn
  by_cases hz : 0 ≤ z
  · simp only [if_pos hz, decide_eq_true hz]
    exact divided1t A ca l Q n cq 2 x y len v hi hl2 hlen
  · simp only [if_neg hz, decide_eq_false hz]
    exact divided1f A ca l Q n cq 2 x y len v hi hl2 hlen
end
end Go.Proofs.Ytaaamcleilpnhaa
namespace Go.Proofs.Ytaaamcleilpnhaa
open Go.RowKit
theorem BK.call {w v : World} {p : Nat} {l : List Value} (h : BK w p l) (hb : Below w.heap.size w v) : BK v p l := h.keep hb
theorem BK.size {w : World} {p : Nat} {l : List Value} (h : BK w p l) : p < w.heap.size := h.lt
theorem al7_0 : Ch.Rn [(2, [0, 2], [1]), (2, [0, 1, 2], [3, 1])] 0 1 1 1 2 1 1 1 3 1 1 := ⟨by decide, by decide +kernel, by decide +kernel, by decide +kernel, by decide +kernel, by decide +kernel, ⟨by decide, by decide⟩, ⟨by decide, by decide⟩, ⟨by decide, by decide⟩, ⟨by decide, by decide⟩, ⟨by decide, by decide⟩, ⟨by decide, by decide⟩, ⟨by decide, by decide⟩, ⟨by decide, by decide⟩⟩
theorem al7_1 : Ch.Rn [(2, [0, 2], [1]), (2, [0, 1, 2], [3, 1])] 1 0 2 1 1 1 2 3 2 3 (-1) := ⟨by decide, by decide +kernel, by decide +kernel, by decide +kernel, by decide +kernel, by decide +kernel, ⟨by decide, by decide⟩, ⟨by decide, by decide⟩, ⟨by decide, by decide⟩, ⟨by decide, by decide⟩, ⟨by decide, by decide⟩, ⟨by decide, by decide⟩, ⟨by decide, by decide⟩, ⟨by decide, by decide⟩⟩
theorem al7_chk : Ak.chkS [(2, [0, 2], [1]), (2, [0, 1, 2], [3, 1])] 0 = 0 := by decide +kernel
theorem al7_run0 (P : Nat) (l : List CkR) (w : World) (hl : l.length = 2) (hd : l.map Ak.dat = [(2, [0, 2], [1]), (2, [0, 1, 2], [3, 1])]) (h : IsCs w (some ⟨P, 0, none⟩) l) : Calls Try.prog 44 #[.slice (some ⟨P, 0, none⟩) 2 2, .int .i64 0] w (RunQ [⟨0, 2, 0, 1, 1, 1, 1, 1⟩, ⟨1, 1, 0, 1, 1, 1, 3, 1⟩] 1 1 2 1 0 1 1 1 w) := by
  have := al7_0.run0 al7_chk rfl 2 rfl (some ⟨P, 0, none⟩) 2 l w h hd
  rw [hl] at this
  exact this
theorem al7_run1 (P : Nat) (l : List CkR) (w : World) (hl : l.length = 2) (hd : l.map Ak.dat = [(2, [0, 2], [1]), (2, [0, 1, 2], [3, 1])]) (h : IsCs w (some ⟨P, 0, none⟩) l) : Calls Try.prog 44 #[.slice (some ⟨P, 0, none⟩) 2 2, .int .i64 1] w (RunQ [⟨1, 2, 0, 1, 2, 1, 2, 3⟩, ⟨0, 1, 0, 1, 2, 3, 2, 3⟩] 2 3 2 1 0 1 2 3 w) := by
  have := al7_1.run1 al7_chk rfl 2 rfl (some ⟨P, 0, none⟩) 2 l w h hd
  rw [hl] at this
  exact this
set_option linter.unusedSimpArgs false in
set_option maxHeartbeats 8000000 in
set_option maxRecDepth 100000 in
theorem piece7_any (a b c d : Int) (w : World) : Calls Try.prog 89 #[.agg #[.int .i64 a, .int .i64 b], .agg #[.int .i64 c, .int .i64 d]] w fun e w' => ∃ g, e = .returned (.slice (some ⟨g, 0, none⟩) 1 1) ∧ Below w.heap.size w w' ∧ BK w' g [.int .i64 a, .int .i64 b, .int .i64 c, .int .i64 d] := by
  go_enter Try.func89, Try.ntmps89
  go_upto_region 1 with fail
  refine at_worldQ (fun v => Below w.heap.size w v ∧ BK v (w.heap.size) [.int .i64 a, .int .i64 b] ∧ BK v (w.heap.size + 1) [.int .i64 c, .int .i64 d] ∧ v.heap.size = w.heap.size + 2) ⟨(below_al (below_al (Below.refl _ _) _) _), (by have b := ((BK.new w [.int .i64 a, .int .i64 b] 23).al (.cells #[.int .i64 c, .int .i64 d] 23)); simpa only [World.size_alloc] using b), (by have b := (BK.new (w.alloc (.cells #[.int .i64 a, .int .i64 b] 23)) [.int .i64 c, .int .i64 d] 23); simpa only [World.size_alloc] using b), by simp only [World.size_alloc]⟩ (fun V hS => ?_)
  obtain ⟨hbb, B0, B1, hVs⟩ := hS
  have p0 := B0.c 0 rfl
  have p1 := B0.c 1 rfl
  have q0 := B1.c 0 rfl
  have q1 := B1.c 1 rfl
  clear hVs
  go_wp2_with fail
  go_ret
  exact ⟨_, rfl, below_al hbb _, BK.new _ _ _⟩
set_option linter.unusedSimpArgs false in
set_option maxHeartbeats 8000000 in
set_option maxRecDepth 100000 in
theorem alive7_any (w : World) : Calls Try.prog 47 #[] w fun e w' => e = .returned (.bool true) ∧ Below w.heap.size w w' := by
  go_enter Try.func47, Try.ntmps47
  go_wp2_with fail
  refine (rOf_any _ _).mono ?_
  rintro e w1 ⟨rfl, hb⟩
  have hbb := hb
  clear hb
  go_wp2_with fail
  refine (rOf_any _ _).mono ?_
  rintro e w2 ⟨rfl, hb⟩
  replace hbb := hbb.trans (hb.mono hbb.size)
  clear hb
  go_wp2_with fail
  refine (rOf_any _ _).mono ?_
  rintro e w3 ⟨rfl, hb⟩
  replace hbb := hbb.trans (hb.mono hbb.size)
  clear hb
  go_upto_region 2 with fail
  refine at_worldQ (fun v => Below w.heap.size w v ∧ w.heap.size ≤ v.heap.size ∧ BK v (w3.heap.size) [.int .i64 0, .int .i64 1] ∧ BK v (w3.heap.size + 1) [.int .i64 1, .int .i64 1] ∧ BK v (w3.heap.size + 1 + 1) [.int .i64 2, .int .i64 1] ∧ BK v (w3.heap.size + 1 + 1 + 1) [.int .i64 2, .int .i64 3]) ⟨(below_al (below_al (below_al (below_al hbb _) _) _) _), Below.size (B := w.heap.size) (w := w) (below_al (below_al (below_al (below_al hbb _) _) _) _), (by have b := ((((BK.new w3 [.int .i64 0, .int .i64 1] 23).al (.cells #[.int .i64 1, .int .i64 1] 23)).al (.cells #[.int .i64 2, .int .i64 1] 23)).al (.cells #[.int .i64 2, .int .i64 3] 23)); simpa only [World.size_alloc] using b), (by have b := (((BK.new (w3.alloc (.cells #[.int .i64 0, .int .i64 1] 23)) [.int .i64 1, .int .i64 1] 23).al (.cells #[.int .i64 2, .int .i64 1] 23)).al (.cells #[.int .i64 2, .int .i64 3] 23)); simpa only [World.size_alloc] using b), (by have b := ((BK.new ((w3.alloc (.cells #[.int .i64 0, .int .i64 1] 23)).alloc (.cells #[.int .i64 1, .int .i64 1] 23)) [.int .i64 2, .int .i64 1] 23).al (.cells #[.int .i64 2, .int .i64 3] 23)); simpa only [World.size_alloc] using b), (by have b := (BK.new (((w3.alloc (.cells #[.int .i64 0, .int .i64 1] 23)).alloc (.cells #[.int .i64 1, .int .i64 1] 23)).alloc (.cells #[.int .i64 2, .int .i64 1] 23)) [.int .i64 2, .int .i64 3] 23); simpa only [World.size_alloc] using b)⟩ (fun V2 hS => ?_)
  clear hbb 
  obtain ⟨hbb, hBV, BZ, BO, BA, BT⟩ := hS
  generalize w3.heap.size + 1 + 1 + 1 = p3 at *
  generalize w3.heap.size + 1 + 1 = p2 at *
  generalize w3.heap.size + 1 = p1 at *
  generalize w3.heap.size = p0 at *
  go_wp2_with fail
  refine (two7_any _).mono ?_
  rintro e wta ⟨Pa, la, rfl, hla, hda, hcra⟩
  have RN := Lib.hid (al7_run0 Pa la wta hla hda (hcra.isCs hla.symm (by unfold maxLen; omega)))
  have hb := hcra.bb
  clear hcra hda hla
  replace BZ := BZ.keep hb
  replace BO := BO.keep hb
  replace BA := BA.keep hb
  replace BT := BT.keep hb
  replace hbb := keepB hbb hb
  clear hb
  go_wp2_with fail
  refine RN.out.mono ?_
  rintro e wra ⟨Da, ga, ka, Qa, na, cqa, rfl, hb, hna, hqq, hdva⟩
  have hn2 : na = 2 := hna
  clear hna RN hqq
  subst hn2
  replace BZ := BZ.keep hb
  replace BO := BO.keep hb
  replace BA := BA.keep hb
  replace BT := BT.keep hb
  replace hbb := keepB hbb hb
  clear hb
  go_upto_region 3 with fail
  refine at_worldQ (fun v => Below w.heap.size w v ∧ w.heap.size ≤ v.heap.size ∧ BK v p0 [.int .i64 0, .int .i64 1] ∧ BK v p1 [.int .i64 1, .int .i64 1] ∧ BK v p2 [.int .i64 2, .int .i64 1] ∧ BK v p3 [.int .i64 2, .int .i64 3] ∧ BK v wra.heap.size [.slice (some ⟨Da, 0, none⟩) 2 2] ∧ DivB 0 Da ga ka 1 1 2 1 0 1 1 1 v) ⟨(below_al hbb _), Below.size (B := w.heap.size) (w := w) (below_al hbb _), BZ.al _, BO.al _, BA.al _, BT.al _, BK.new _ _ _, (hdva.mono (Nat.zero_le _)).al _⟩ (fun V3 hS => ?_)
  clear hbb BZ BO BA BT hBV
  obtain ⟨hbb, hBV, BZ, BO, BA, BT, Ba, Ea⟩ := hS
  clear hdva
  generalize wra.heap.size = ba at *
  go_wp2_with fail
  refine (two7_any _).mono ?_
  rintro e wtb ⟨Pb, lb, rfl, hlb, hdb, hcrb⟩
  have RN := Lib.hid (al7_run1 Pb lb wtb hlb hdb (hcrb.isCs hlb.symm (by unfold maxLen; omega)))
  have hb := hcrb.bb
  clear hcrb hdb hlb
  replace BZ := BZ.keep hb
  replace BO := BO.keep hb
  replace BA := BA.keep hb
  replace BT := BT.keep hb
  replace Ba := Ba.keep hb
  replace Ea := Ea.call hb
  replace hbb := keepB hbb hb
  clear hb
  go_wp2_with fail
  refine RN.out.mono ?_
  rintro e wrb ⟨Db, gb, kb, Qb, nb, cqb, rfl, hb, hnb, hqq, hdvb⟩
  have hn2 : nb = 2 := hnb
  clear hnb RN hqq
  subst hn2
  replace BZ := BZ.keep hb
  replace BO := BO.keep hb
  replace BA := BA.keep hb
  replace BT := BT.keep hb
  replace Ba := Ba.keep hb
  replace Ea := Ea.call hb
  replace hbb := keepB hbb hb
  clear hb
  go_upto_region 4 with fail
  refine at_worldQ (fun v => Below w.heap.size w v ∧ w.heap.size ≤ v.heap.size ∧ BK v p0 [.int .i64 0, .int .i64 1] ∧ BK v p1 [.int .i64 1, .int .i64 1] ∧ BK v p2 [.int .i64 2, .int .i64 1] ∧ BK v p3 [.int .i64 2, .int .i64 3] ∧ BK v ba [.slice (some ⟨Da, 0, none⟩) 2 2] ∧ DivB 0 Da ga ka 1 1 2 1 0 1 1 1 v ∧ BK v wrb.heap.size [.slice (some ⟨Db, 0, none⟩) 2 2] ∧ DivB 0 Db gb kb 2 3 2 1 0 1 2 3 v) ⟨(below_al hbb _), Below.size (B := w.heap.size) (w := w) (below_al hbb _), BZ.al _, BO.al _, BA.al _, BT.al _, Ba.al _, Ea.al _, BK.new _ _ _, (hdvb.mono (Nat.zero_le _)).al _⟩ (fun V4 hS => ?_)
  clear hbb BZ BO BA BT Ba Ea hBV
  obtain ⟨hbb, hBV, BZ, BO, BA, BT, Ba, Ea, Bb, Eb⟩ := hS
  clear hdvb
  generalize wrb.heap.size = bb at *
  have z0 := BZ.c 0 rfl
  have z1 := BZ.c 1 rfl
  have o0 := BO.c 0 rfl
  have o1 := BO.c 1 rfl
  have a0 := BA.c 0 rfl
  have a1 := BA.c 1 rfl
  have t0 := BT.c 0 rfl
  have t1 := BT.c 1 rfl
  have da := Ba.c 0 rfl
  have db := Bb.c 0 rfl
  refine wp_region_noPanic ?_
  refine wp_region_held_drew (S := (GB (fun _ => False) V4)) (by kernel_rfl) ((GB.refl _ _).drew) (fun hHeld => ?_)
  refine at_anyH (fun v => GB (fun _ => False) V4 v) hHeld (fun wv0 hNew => ?_)
  clear hHeld
  have hHeld := hNew
  clear hNew
  refine wpAnyH_take (i := 0) (oi := _) (v := ?vv1) rfl (by kernel_rfl) (by kernel_rfl) (by kernel_rfl) (fun _ _ _ h => h) (Or.inl ⟨by kernel_rfl, ?hyv1⟩) hHeld ?restv1
  case hyv1 => (intro w hSw; go_simp; first | done | (with_reducible rfl))
  try simp only [Act.put, PA, PB]
  refine wpAnyH_take (i := 1) (oi := _) (v := ?vv2) rfl (by kernel_rfl) (by kernel_rfl) (by kernel_rfl) (fun _ _ _ h => h) (Or.inl ⟨by kernel_rfl, ?hyv2⟩) hHeld ?restv2
  case hyv2 => (intro w hSw; go_simp; first | done | (with_reducible rfl))
  try simp only [Act.put, PA, PB]
  refine wpAnyH_take (i := 2) (oi := _) (v := ?vv3) rfl (by kernel_rfl) (by kernel_rfl) (by kernel_rfl) (fun _ _ _ h => h) (Or.inl ⟨by kernel_rfl, ?hyv3⟩) hHeld ?restv3
  case hyv3 => (intro w hSw; go_simp; first | done | (with_reducible rfl))
  try simp only [Act.put, PA, PB]
  refine wpAnyH_take (i := 3) (oi := _) (v := ?vv4) rfl (by kernel_rfl) (by kernel_rfl) (by kernel_rfl) (fun _ _ _ h => h) (Or.inl ⟨by kernel_rfl, ?hyv4⟩) hHeld ?restv4
  case hyv4 => (intro w hSw; have kz0 := hSw.cell (fun h => h) z0; have kz1 := hSw.cell (fun h => h) z1; have ko0 := hSw.cell (fun h => h) o0; have ko1 := hSw.cell (fun h => h) o1; have ka0 := hSw.cell (fun h => h) a0; have ka1 := hSw.cell (fun h => h) a1; have kt0 := hSw.cell (fun h => h) t0; have kt1 := hSw.cell (fun h => h) t1; have kda := hSw.cell (fun h => h) da; have kdb := hSw.cell (fun h => h) db; go_simp; first | done | (with_reducible rfl))
  try simp only [Act.put, PA, PB]
  refine wpAnyH_take (i := 4) (oi := _) (v := ?vv5) rfl (by kernel_rfl) (by kernel_rfl) (by kernel_rfl) (fun _ _ _ h => h) (Or.inl ⟨by kernel_rfl, ?hyv5⟩) hHeld ?restv5
  case hyv5 => (intro w hSw; have kz0 := hSw.cell (fun h => h) z0; have kz1 := hSw.cell (fun h => h) z1; have ko0 := hSw.cell (fun h => h) o0; have ko1 := hSw.cell (fun h => h) o1; have ka0 := hSw.cell (fun h => h) a0; have ka1 := hSw.cell (fun h => h) a1; have kt0 := hSw.cell (fun h => h) t0; have kt1 := hSw.cell (fun h => h) t1; have kda := hSw.cell (fun h => h) da; have kdb := hSw.cell (fun h => h) db; go_simp; first | done | (with_reducible rfl))
  try simp only [Act.put, PA, PB]
  refine wpAnyH_take (i := 5) (oi := _) (v := ?vv6) rfl (by kernel_rfl) (by kernel_rfl) (by kernel_rfl) (fun _ _ _ h => h) (Or.inl ⟨by kernel_rfl, ?hyv6⟩) hHeld ?restv6
  case hyv6 => (intro w hSw; have kz0 := hSw.cell (fun h => h) z0; have kz1 := hSw.cell (fun h => h) z1; have ko0 := hSw.cell (fun h => h) o0; have ko1 := hSw.cell (fun h => h) o1; have ka0 := hSw.cell (fun h => h) a0; have ka1 := hSw.cell (fun h => h) a1; have kt0 := hSw.cell (fun h => h) t0; have kt1 := hSw.cell (fun h => h) t1; have kda := hSw.cell (fun h => h) da; have kdb := hSw.cell (fun h => h) db; go_simp; first | done | (with_reducible rfl))
  try simp only [Act.put, PA, PB]
  refine wpAnyH_take (i := 7) (oi := _) (v := ?vv7) rfl (by kernel_rfl) (by kernel_rfl) (by kernel_rfl) (fun _ _ _ h => h) (Or.inl ⟨by kernel_rfl, ?hyv7⟩) hHeld ?restv7
  case hyv7 => (intro w hSw; have kz0 := hSw.cell (fun h => h) z0; have kz1 := hSw.cell (fun h => h) z1; have ko0 := hSw.cell (fun h => h) o0; have ko1 := hSw.cell (fun h => h) o1; have ka0 := hSw.cell (fun h => h) a0; have ka1 := hSw.cell (fun h => h) a1; have kt0 := hSw.cell (fun h => h) t0; have kt1 := hSw.cell (fun h => h) t1; have kda := hSw.cell (fun h => h) da; have kdb := hSw.cell (fun h => h) db; go_simp; first | done | (with_reducible rfl))
  try simp only [Act.put, PA, PB]
  refine wpAnyH_take (i := 8) (oi := _) (v := ?vv8) rfl (by kernel_rfl) (by kernel_rfl) (by kernel_rfl) (fun _ _ _ h => h) (Or.inl ⟨by kernel_rfl, ?hyv8⟩) hHeld ?restv8
  case hyv8 => (intro w hSw; have kz0 := hSw.cell (fun h => h) z0; have kz1 := hSw.cell (fun h => h) z1; have ko0 := hSw.cell (fun h => h) o0; have ko1 := hSw.cell (fun h => h) o1; have ka0 := hSw.cell (fun h => h) a0; have ka1 := hSw.cell (fun h => h) a1; have kt0 := hSw.cell (fun h => h) t0; have kt1 := hSw.cell (fun h => h) t1; have kda := hSw.cell (fun h => h) da; have kdb := hSw.cell (fun h => h) db; go_simp; first | done | (with_reducible rfl))
  try simp only [Act.put, PA, PB]
  refine wpAnyH_ready (rs := [6]) (by kernel_rfl) (by simp) (AllReadyH.cons (o := _) rfl (fun K hK => ?_) AllReadyH.nil)
  go_simp
  refine (piece7_any 1 1 2 1 _).mono ?_
  rintro e wv9 ⟨q6, rfl, hb3, H6⟩
  go_wp2_with fail
  refine hK.out _ _ (hHeld.below hb3) (fun hNew => ?_)
  clear hb3
  clear hHeld hK K
  have hHeld := hNew
  clear hNew
  try simp only [Act.put, PA, PB]
  refine wpAnyH_ready (rs := [9]) (by kernel_rfl) (by simp) (AllReadyH.cons (o := _) rfl (fun K hK => ?_) AllReadyH.nil)
  go_simp
  refine (piece7_any 0 1 1 1 _).mono ?_
  rintro e wv10 ⟨q9, rfl, hb3, H9⟩
  go_wp2_with fail
  refine hK.out _ _ (hHeld.below hb3) (fun hNew => ?_)
  replace H6 := H6.call hb3
  clear hb3
  clear hHeld hK K
  have hHeld := hNew
  clear hNew
  try simp only [Act.put, PA, PB]
  refine wpAnyH_ready (rs := [10]) (by kernel_rfl) (by simp) (AllReadyH.cons (o := _) rfl (fun K hK => ?_) AllReadyH.nil)
  go_simp
  refine hK.out _ _ (hHeld.al _) (fun hNew => ?_)
  have hX : V4.heap.size ≤ wv10.heap.size := hHeld.size
  clear hHeld hK K
  have hHeld := hNew
  clear hNew
  try simp only [Act.put, PA, PB]
  have gXH6 := H6.size
  have gXH9 := H9.size
  refine at_anyH (fun v => GB (fun _ => False) V4 v ∧ BK v (wv10.heap.size) [.slice (some ⟨q6, 0, none⟩) 1 1, .slice (some ⟨q9, 0, none⟩) 1 1] ∧ BK v q6 [.int .i64 1, .int .i64 1, .int .i64 2, .int .i64 1] ∧ BK v q9 [.int .i64 0, .int .i64 1, .int .i64 1, .int .i64 1]) ⟨hHeld, BK.new _ _ _, H6.al _, H9.al _⟩ (fun wv11 hS => ?_)
  clear hHeld H6 H9
  obtain ⟨hHeld, BX, H6, H9⟩ := hS
  refine wpAnyH_take (i := 11) (oi := _) (v := ?vv12) rfl (by kernel_rfl) (by kernel_rfl) (by kernel_rfl) (fun _ _ _ h => h) (Or.inl ⟨by kernel_rfl, ?hyv12⟩) hHeld ?restv12
  case hyv12 => (intro w hSw; go_simp; first | done | (with_reducible rfl))
  try simp only [Act.put, PA, PB]
  refine wpAnyH_ready (rs := [12]) (by kernel_rfl) (by simp) (AllReadyH.cons (o := _) rfl (fun K hK => ?_) AllReadyH.nil)
  go_simp
  refine (sameDiv_eq Da (wv10.heap.size) 0 0 ga ka q6 q9 _ _ _ _ _ _ _ _ _ (Ea.call (hHeld.toBelow (Below.refl _ _) (fun k hk => hk.elim) (Nat.le_refl _))) ⟨Nat.zero_le _, Nat.zero_le _, Nat.zero_le _, BX, H6, H9⟩).mono ?_
  rintro e wv13 ⟨rfl, hb3⟩
  go_wp2_with fail
  refine hK.out _ _ (hHeld.below hb3) (fun hNew => ?_)
  replace BX := BX.keep hb3
  replace H6 := H6.call hb3
  replace H9 := H9.call hb3
  clear hb3
  clear hHeld hK K
  have hHeld := hNew
  clear hNew
  try simp only [Act.put, PA, PB]
  refine wpAnyH_take (i := 13) (oi := _) (v := ?vv14) rfl (by kernel_rfl) (by kernel_rfl) (by kernel_rfl) (fun _ _ _ h => h) (Or.inl ⟨by kernel_rfl, ?hyv14⟩) hHeld ?restv14
  case hyv14 => (intro w hSw; go_simp; first | done | (with_reducible rfl))
  try simp only [Act.put, PA, PB]
  refine wpAnyH_take (i := 14) (oi := _) (v := ?vv15) rfl (by kernel_rfl) (by kernel_rfl) (by kernel_rfl) (fun _ _ _ h => h) (Or.inl ⟨by kernel_rfl, ?hyv15⟩) hHeld ?restv15
  case hyv15 => (intro w hSw; go_simp; first | done | (with_reducible rfl))
  try simp only [Act.put, PA, PB]
  refine wpAnyH_take (i := 15) (oi := _) (v := ?vv16) rfl (by kernel_rfl) (by kernel_rfl) (by kernel_rfl) (fun _ _ _ h => h) (Or.inl ⟨by kernel_rfl, ?hyv16⟩) hHeld ?restv16
  case hyv16 => (intro w hSw; go_simp; first | done | (with_reducible rfl))
  try simp only [Act.put, PA, PB]
  refine wpAnyH_take (i := 16) (oi := _) (v := ?vv17) rfl (by kernel_rfl) (by kernel_rfl) (by kernel_rfl) (fun _ _ _ h => h) (Or.inl ⟨by kernel_rfl, ?hyv17⟩) hHeld ?restv17
  case hyv17 => (intro w hSw; go_simp; first | done | (with_reducible rfl))
  try simp only [Act.put, PA, PB]
  refine wpAnyH_take (i := 17) (oi := _) (v := ?vv18) rfl (by kernel_rfl) (by kernel_rfl) (by kernel_rfl) (fun _ _ _ h => h) (Or.inl ⟨by kernel_rfl, ?hyv18⟩) hHeld ?restv18
  case hyv18 => (intro w hSw; go_simp; first | done | (with_reducible rfl))
  try simp only [Act.put, PA, PB]
  refine wpAnyH_take (i := 18) (oi := _) (v := ?vv19) rfl (by kernel_rfl) (by kernel_rfl) (by kernel_rfl) (fun _ _ _ h => h) (Or.inl ⟨by kernel_rfl, ?hyv19⟩) hHeld ?restv19
  case hyv19 => (intro w hSw; go_simp; first | done | (with_reducible rfl))
  try simp only [Act.put, PA, PB]
  refine wpAnyH_take (i := 19) (oi := _) (v := ?vv20) rfl (by kernel_rfl) (by kernel_rfl) (by kernel_rfl) (fun _ _ _ h => h) (Or.inl ⟨by kernel_rfl, ?hyv20⟩) hHeld ?restv20
  case hyv20 => (intro w hSw; go_simp; first | done | (with_reducible rfl))
  try simp only [Act.put, PA, PB]
  refine wpAnyH_take (i := 20) (oi := _) (v := ?vv21) rfl (by kernel_rfl) (by kernel_rfl) (by kernel_rfl) (fun _ _ _ h => h) (Or.inl ⟨by kernel_rfl, ?hyv21⟩) hHeld ?restv21
  case hyv21 => (intro w hSw; go_simp; first | done | (with_reducible rfl))
  try simp only [Act.put, PA, PB]
  refine wpAnyH_take (i := 21) (oi := _) (v := ?vv22) rfl (by kernel_rfl) (by kernel_rfl) (by kernel_rfl) (fun _ _ _ h => h) (Or.inl ⟨by kernel_rfl, ?hyv22⟩) hHeld ?restv22
  case hyv22 => (intro w hSw; go_simp; first | done | (with_reducible rfl))
  try simp only [Act.put, PA, PB]
  refine wpAnyH_take (i := 22) (oi := _) (v := ?vv23) rfl (by kernel_rfl) (by kernel_rfl) (by kernel_rfl) (fun _ _ _ h => h) (Or.inl ⟨by kernel_rfl, ?hyv23⟩) hHeld ?restv23
  case hyv23 => (intro w hSw; go_simp; first | done | (with_reducible rfl))
  try simp only [Act.put, PA, PB]
  refine wpAnyH_take (i := 23) (oi := _) (v := ?vv24) rfl (by kernel_rfl) (by kernel_rfl) (by kernel_rfl) (fun _ _ _ h => h) (Or.inl ⟨by kernel_rfl, ?hyv24⟩) hHeld ?restv24
  case hyv24 => (intro w hSw; go_simp; first | done | (with_reducible rfl))
  try simp only [Act.put, PA, PB]
  refine wpAnyH_take (i := 24) (oi := _) (v := ?vv25) rfl (by kernel_rfl) (by kernel_rfl) (by kernel_rfl) (fun _ _ _ h => h) (Or.inl ⟨by kernel_rfl, ?hyv25⟩) hHeld ?restv25
  case hyv25 => (intro w hSw; have kz0 := hSw.cell (fun h => h) z0; have kz1 := hSw.cell (fun h => h) z1; have ko0 := hSw.cell (fun h => h) o0; have ko1 := hSw.cell (fun h => h) o1; have ka0 := hSw.cell (fun h => h) a0; have ka1 := hSw.cell (fun h => h) a1; have kt0 := hSw.cell (fun h => h) t0; have kt1 := hSw.cell (fun h => h) t1; have kda := hSw.cell (fun h => h) da; have kdb := hSw.cell (fun h => h) db; go_simp; first | done | (with_reducible rfl))
  try simp only [Act.put, PA, PB]
  refine wpAnyH_take (i := 25) (oi := _) (v := ?vv26) rfl (by kernel_rfl) (by kernel_rfl) (by kernel_rfl) (fun _ _ _ h => h) (Or.inl ⟨by kernel_rfl, ?hyv26⟩) hHeld ?restv26
  case hyv26 => (intro w hSw; have kz0 := hSw.cell (fun h => h) z0; have kz1 := hSw.cell (fun h => h) z1; have ko0 := hSw.cell (fun h => h) o0; have ko1 := hSw.cell (fun h => h) o1; have ka0 := hSw.cell (fun h => h) a0; have ka1 := hSw.cell (fun h => h) a1; have kt0 := hSw.cell (fun h => h) t0; have kt1 := hSw.cell (fun h => h) t1; have kda := hSw.cell (fun h => h) da; have kdb := hSw.cell (fun h => h) db; go_simp; first | done | (with_reducible rfl))
  try simp only [Act.put, PA, PB]
  refine wpAnyH_take (i := 26) (oi := _) (v := ?vv27) rfl (by kernel_rfl) (by kernel_rfl) (by kernel_rfl) (fun _ _ _ h => h) (Or.inl ⟨by kernel_rfl, ?hyv27⟩) hHeld ?restv27
  case hyv27 => (intro w hSw; have kz0 := hSw.cell (fun h => h) z0; have kz1 := hSw.cell (fun h => h) z1; have ko0 := hSw.cell (fun h => h) o0; have ko1 := hSw.cell (fun h => h) o1; have ka0 := hSw.cell (fun h => h) a0; have ka1 := hSw.cell (fun h => h) a1; have kt0 := hSw.cell (fun h => h) t0; have kt1 := hSw.cell (fun h => h) t1; have kda := hSw.cell (fun h => h) da; have kdb := hSw.cell (fun h => h) db; go_simp; first | done | (with_reducible rfl))
  try simp only [Act.put, PA, PB]
  refine wpAnyH_take (i := 28) (oi := _) (v := ?vv28) rfl (by kernel_rfl) (by kernel_rfl) (by kernel_rfl) (fun _ _ _ h => h) (Or.inl ⟨by kernel_rfl, ?hyv28⟩) hHeld ?restv28
  case hyv28 => (intro w hSw; have kz0 := hSw.cell (fun h => h) z0; have kz1 := hSw.cell (fun h => h) z1; have ko0 := hSw.cell (fun h => h) o0; have ko1 := hSw.cell (fun h => h) o1; have ka0 := hSw.cell (fun h => h) a0; have ka1 := hSw.cell (fun h => h) a1; have kt0 := hSw.cell (fun h => h) t0; have kt1 := hSw.cell (fun h => h) t1; have kda := hSw.cell (fun h => h) da; have kdb := hSw.cell (fun h => h) db; go_simp; first | done | (with_reducible rfl))
  try simp only [Act.put, PA, PB]
  refine wpAnyH_take (i := 29) (oi := _) (v := ?vv29) rfl (by kernel_rfl) (by kernel_rfl) (by kernel_rfl) (fun _ _ _ h => h) (Or.inl ⟨by kernel_rfl, ?hyv29⟩) hHeld ?restv29
  case hyv29 => (intro w hSw; have kz0 := hSw.cell (fun h => h) z0; have kz1 := hSw.cell (fun h => h) z1; have ko0 := hSw.cell (fun h => h) o0; have ko1 := hSw.cell (fun h => h) o1; have ka0 := hSw.cell (fun h => h) a0; have ka1 := hSw.cell (fun h => h) a1; have kt0 := hSw.cell (fun h => h) t0; have kt1 := hSw.cell (fun h => h) t1; have kda := hSw.cell (fun h => h) da; have kdb := hSw.cell (fun h => h) db; go_simp; first | done | (with_reducible rfl))
  try simp only [Act.put, PA, PB]
  refine wpAnyH_ready (rs := [27]) (by kernel_rfl) (by simp) (AllReadyH.cons (o := _) rfl (fun K hK => ?_) AllReadyH.nil)
  go_simp
  refine (piece7_any 2 3 2 1 _).mono ?_
  rintro e wv30 ⟨q27, rfl, hb3, H27⟩
  go_wp2_with fail
  refine hK.out _ _ (hHeld.below hb3) (fun hNew => ?_)
  have cX := BX.lt
  replace BX := BX.keep hb3
  replace H6 := H6.call hb3
  replace H9 := H9.call hb3
  clear hb3
  clear hHeld hK K
  have hHeld := hNew
  clear hNew
  try simp only [Act.put, PA, PB]
  refine wpAnyH_ready (rs := [30]) (by kernel_rfl) (by simp) (AllReadyH.cons (o := _) rfl (fun K hK => ?_) AllReadyH.nil)
  go_simp
  refine (piece7_any 0 1 2 3 _).mono ?_
  rintro e wv31 ⟨q30, rfl, hb3, H30⟩
  go_wp2_with fail
  refine hK.out _ _ (hHeld.below hb3) (fun hNew => ?_)
  have cX := BX.lt
  replace BX := BX.keep hb3
  replace H6 := H6.call hb3
  replace H9 := H9.call hb3
  replace H27 := H27.call hb3
  clear hb3
  clear hHeld hK K
  have hHeld := hNew
  clear hNew
  try simp only [Act.put, PA, PB]
  refine wpAnyH_ready (rs := [31]) (by kernel_rfl) (by simp) (AllReadyH.cons (o := _) rfl (fun K hK => ?_) AllReadyH.nil)
  go_simp
  refine hK.out _ _ (hHeld.al _) (fun hNew => ?_)
  have hY : V4.heap.size ≤ wv31.heap.size := hHeld.size
  have dXY := BX.lt
  clear hHeld hK K
  have hHeld := hNew
  clear hNew
  try simp only [Act.put, PA, PB]
  have gYH6 := H6.size
  have gYH9 := H9.size
  have gYH27 := H27.size
  have gYH30 := H30.size
  refine at_anyH (fun v => GB (fun _ => False) V4 v ∧ BK v (wv10.heap.size) [.slice (some ⟨q6, 0, none⟩) 1 1, .slice (some ⟨q9, 0, none⟩) 1 1] ∧ BK v (wv31.heap.size) [.slice (some ⟨q27, 0, none⟩) 1 1, .slice (some ⟨q30, 0, none⟩) 1 1] ∧ BK v q6 [.int .i64 1, .int .i64 1, .int .i64 2, .int .i64 1] ∧ BK v q9 [.int .i64 0, .int .i64 1, .int .i64 1, .int .i64 1] ∧ BK v q27 [.int .i64 2, .int .i64 3, .int .i64 2, .int .i64 1] ∧ BK v q30 [.int .i64 0, .int .i64 1, .int .i64 2, .int .i64 3]) ⟨hHeld, BX.al _, BK.new _ _ _, H6.al _, H9.al _, H27.al _, H30.al _⟩ (fun wv32 hS => ?_)
  clear hHeld BX H6 H9 H27 H30
  obtain ⟨hHeld, BX, BY, H6, H9, H27, H30⟩ := hS
  refine wpAnyH_take (i := 32) (oi := _) (v := ?vv33) rfl (by kernel_rfl) (by kernel_rfl) (by kernel_rfl) (fun _ _ _ h => h) (Or.inl ⟨by kernel_rfl, ?hyv33⟩) hHeld ?restv33
  case hyv33 => (intro w hSw; go_simp; first | done | (with_reducible rfl))
  try simp only [Act.put, PA, PB]
  refine wpAnyH_ready (rs := [33]) (by kernel_rfl) (by simp) (AllReadyH.cons (o := _) rfl (fun K hK => ?_) AllReadyH.nil)
  go_simp
  refine (sameDiv_eq Db (wv31.heap.size) 0 0 gb kb q27 q30 _ _ _ _ _ _ _ _ _ (Eb.call (hHeld.toBelow (Below.refl _ _) (fun k hk => hk.elim) (Nat.le_refl _))) ⟨Nat.zero_le _, Nat.zero_le _, Nat.zero_le _, BY, H27, H30⟩).mono ?_
  rintro e wv34 ⟨rfl, hb3⟩
  go_wp2_with fail
  refine hK.out _ _ (hHeld.below hb3) (fun hNew => ?_)
  replace BX := BX.keep hb3
  replace BY := BY.keep hb3
  replace H6 := H6.call hb3
  replace H9 := H9.call hb3
  replace H27 := H27.call hb3
  replace H30 := H30.call hb3
  clear hb3
  clear hHeld hK K
  have hHeld := hNew
  clear hNew
  try simp only [Act.put, PA, PB]
  refine wpAnyH_take (i := 34) (oi := _) (v := ?vv35) rfl (by kernel_rfl) (by kernel_rfl) (by kernel_rfl) (fun _ _ _ h => h) (Or.inl ⟨by kernel_rfl, ?hyv35⟩) hHeld ?restv35
  case hyv35 => (intro w hSw; go_simp; first | done | (with_reducible rfl))
  try simp only [Act.put, PA, PB]
  refine wpAnyH_take (i := 35) (oi := _) (v := ?vv36) rfl (by kernel_rfl) (by kernel_rfl) (by kernel_rfl) (fun _ _ _ h => h) (Or.inl ⟨by kernel_rfl, ?hyv36⟩) hHeld ?restv36
  case hyv36 => (intro w hSw; go_simp; first | done | (with_reducible rfl))
  try simp only [Act.put, PA, PB]
  refine wpAnyH_done (by kernel_rfl) ?_ _
  refine NoPanic.normal ?_
  skip
  have hbb2 := hHeld.toBelow hbb (fun k hk => hk.elim) hBV
  go_wp2_with fail
  go_ret
  exact ⟨rfl, hbb2⟩
end Go.Proofs.Ytaaamcleilpnhaa
namespace Go.Proofs.Ytaaamcleilpnhaa
open Go.RowKit
namespace Ch
/-- The error of cakes and a cutter. -/
def cakesE (D : List CkD) (K : Int) : Int := if Ak.chkS D 0 ≠ 0 then Ak.chkS D 0 else if D.length ≠ 2 ∨ K < 0 ∨ 1 < K then 2 else 0
def fitP (D : List CkD) (K : Int) : Bool := !Ak.greatCs D && decide (cakesE D K = 0)
theorem fit_of {D : List CkD} {K : Int} (h : fitP D K = true) : Ak.chkS D 0 = 0 ∧ D.length = 2 ∧ (K = 0 ∨ K = 1) := by
  unfold fitP at h
  rw [Bool.and_eq_true] at h
  have h2 := of_decide_eq_true h.2
  unfold cakesE at h2
  split at h2
  · rename_i g
    exact absurd h2 g
  · rename_i g
    rw [Decidable.not_not] at g
    split at h2
    · cases h2
    · rename_i g2
      exact ⟨g, by omega, by omega⟩
end Ch
set_option linter.unusedSimpArgs false in
set_option maxHeartbeats 8000000 in
set_option maxRecDepth 100000 in
theorem cakes_any (A : Option Addr) (ca : Nat) (cs : List CkR) (K : Int) (w : World) (h : IsCs w A cs) :
    Calls Try.prog 90 #[.slice A cs.length ca, .int .i64 K] w fun e w' => e = .returned (.int .i64 (Ch.cakesE (cs.map Ak.dat) K)) ∧ Below w.heap.size w w' := by
  have ch := fun v (hv : Below w.heap.size w v) => rAskCheck_any A ca cs none 0 0 v (by simp) (h.keep hv)
  unfold Ch.cakesE
  rw [List.length_map]
  clear h
  by_cases h1 : Ak.chkS (cs.map Ak.dat) 0 = 0
  case neg =>
    have n1 : (Ak.chkS (cs.map Ak.dat) 0 != 0) = true := by rw [bne_iff_ne]; exact h1
    rw [if_pos h1]
    clear h1
    generalize Ak.chkS (cs.map Ak.dat) 0 = z at *
    have CH := Lib.hid ch
    clear ch
    go_enter Try.func90, Try.ntmps90
    go_wp2_with fail
    refine (CH.out _ (Below.refl _ _)).mono ?_
    rintro e w1 ⟨rfl, hb⟩
    go_wp2_with fail
    go_ret
    exact ⟨rfl, hb⟩
  rw [h1] at ch
  rw [if_neg (fun k => k h1)]
  have CH := Lib.hid ch
  have e0 : ((0 : Int) != 0) = false := rfl
  clear ch h1
  by_cases hl : cs.length = 2
  case neg =>
    rw [if_pos (.inl hl)]
    have e2 : (((cs.length : Nat) : Int) != 2) = true := by rw [bne_iff_ne]; omega
    clear hl
    go_enter Try.func90, Try.ntmps90
    go_wp2_with fail
    refine (CH.out _ (Below.refl _ _)).mono ?_
    rintro e w1 ⟨rfl, hb⟩
    go_wp2_with fail
    go_ret
    exact ⟨rfl, hb⟩
  by_cases hk0 : K < 0
  case pos =>
    rw [if_pos (.inr (.inl hk0))]
    have e2 : (((cs.length : Nat) : Int) != 2) = false := by rw [hl]; rfl
    clear hl
    go_enter Try.func90, Try.ntmps90
    go_wp2_with fail
    refine (CH.out _ (Below.refl _ _)).mono ?_
    rintro e w1 ⟨rfl, hb⟩
    go_wp2_with fail
    go_ret
    exact ⟨rfl, hb⟩
  by_cases hk1 : 1 < K
  case pos =>
    rw [if_pos (.inr (.inr hk1))]
    have e2 : (((cs.length : Nat) : Int) != 2) = false := by rw [hl]; rfl
    clear hl
    go_enter Try.func90, Try.ntmps90
    go_wp2_with fail
    refine (CH.out _ (Below.refl _ _)).mono ?_
    rintro e w1 ⟨rfl, hb⟩
    go_wp2_with fail
    go_ret
    exact ⟨rfl, hb⟩
  rw [if_neg (by omega)]
  have e2 : (((cs.length : Nat) : Int) != 2) = false := by rw [hl]; rfl
  clear hl
  go_enter Try.func90, Try.ntmps90
  go_wp2_with fail
  refine (CH.out _ (Below.refl _ _)).mono ?_
  rintro e w1 ⟨rfl, hb⟩
  go_wp2_with fail
  go_ret
  exact ⟨rfl, hb⟩
set_option linter.unusedSimpArgs false in
set_option maxHeartbeats 8000000 in
set_option maxRecDepth 100000 in
theorem fit_any (A : Option Addr) (ca : Nat) (cs : List CkR) (K : Int) (w : World) (h : IsCs w A cs) :
    Calls Try.prog 48 #[.slice A cs.length ca, .int .i64 K] w fun e w' => e = .returned (.bool (Ch.fitP (cs.map Ak.dat) K)) ∧ Below w.heap.size w w' := by
  have gr := rGreatCakes_any A ca cs w h
  have ck := fun v (hv : Below w.heap.size w v) => cakes_any A ca cs K v (h.keep hv)
  unfold Ch.fitP
  clear h
  cases hg : Ak.greatCs (cs.map Ak.dat)
  case true =>
    rw [hg] at gr
    have GR := Lib.hid gr
    clear gr ck hg
    go_enter Try.func48, Try.ntmps48
    go_wp2_with fail
    refine GR.out.mono ?_
    rintro e w1 ⟨rfl, hb⟩
    go_wp2_with fail
    go_ret
    exact ⟨rfl, hb⟩
  rw [hg] at gr
  generalize Ch.cakesE (cs.map Ak.dat) K = E at *
  have GR := Lib.hid gr
  have CK := Lib.hid ck
  clear gr ck hg
  by_cases hE : E = 0
  · subst hE
    go_enter Try.func48, Try.ntmps48
    go_wp2_with fail
    refine GR.out.mono ?_
    rintro e w1 ⟨rfl, hb⟩
    go_wp2_with fail
    refine (CK.out _ hb).mono ?_
    rintro e w2 ⟨rfl, hb2⟩
    go_wp2_with fail
    go_ret
    exact ⟨rfl, keepB hb hb2⟩
  · have eb : (E == 0) = false := by rw [beq_eq_false_iff_ne]; exact hE
    rw [decide_eq_false hE]
    clear hE
    go_enter Try.func48, Try.ntmps48
    go_wp2_with fail
    refine GR.out.mono ?_
    rintro e w1 ⟨rfl, hb⟩
    go_wp2_with fail
    refine (CK.out _ hb).mono ?_
    rintro e w2 ⟨rfl, hb2⟩
    go_wp2_with fail
    go_ret
    exact ⟨rfl, keepB hb hb2⟩
end Go.Proofs.Ytaaamcleilpnhaa
namespace Go.Proofs.Ytaaamcleilpnhaa
open Go.RowKit
theorem BK.mid {Wd W : World} {B p : Nat} {l : List Value} (h : BK Wd p l) (hm : Mid B Wd W) (hp : B ≤ p) : BK W p l :=
  have hb := hm.block p hp h.1
  ⟨Nat.lt_of_lt_of_le h.1 hm.size, fun j x e => ⟨(World.cell?_of_block hb).trans (h.2 j x e).1, (World.frozen?_of_block hb).trans (h.2 j x e).2⟩⟩
theorem DivB.mid {Wd W : World} {B P g0 g1 : Nat} {a0 b0 c0 d0 a1 b1 c1 d1 : Int} (h : DivB B P g0 g1 a0 b0 c0 d0 a1 b1 c1 d1 Wd) (hm : Mid B Wd W) : DivB B P g0 g1 a0 b0 c0 d0 a1 b1 c1 d1 W := ⟨h.hP, h.h0, h.h1, h.p.mid hm h.hP, h.s0.mid hm h.h0, h.s1.mid hm h.h1⟩
theorem isCs2 {u : World} {p : Nat} {x0 x1 : CkR} (b : BK u p [.int .i64 x1.len, .slice x1.K x1.cuts.length x1.ck, .slice x1.Z x1.dens.length x1.cz, .int .i64 x0.len, .slice x0.K x0.cuts.length x0.ck, .slice x0.Z x0.dens.length x0.cz]) (h0 : IsC u x0) (h1 : IsC u x1) : IsCs u (some ⟨p, 0, none⟩) [x1, x0] :=
  isCs_bk (cs := [x1, x0]) b (fun c hc => by
    simp at hc
    rcases hc with rfl | rfl
    · exact h1
    · exact h0) (by unfold maxLen; simp)
/-- Both runs, with the agents exchanged. -/
theorem two_runs (x0 x1 : CkR) (K J : Int) (hk : (K = 0 ∧ J = 1) ∨ (K = 1 ∧ J = 0)) (hc : Ak.chkS [Ak.dat x0, Ak.dat x1] 0 = 0) :
    ∃ (L1 L2 : List Qr) (a0 b0 c0 d0 a1 b1 c1 d1 : Int), (∀ (w : World) (A : Option Addr) (ca : Nat) (cs : List CkR), IsCs w A cs → cs.map Ak.dat = [Ak.dat x0, Ak.dat x1] → Calls Try.prog 44 #[.slice A cs.length ca, .int .i64 K] w (RunQ L1 a0 b0 c0 d0 a1 b1 c1 d1 w)) ∧
      (∀ (w : World) (A : Option Addr) (ca : Nat) (cs : List CkR), IsCs w A cs → cs.map Ak.dat = [Ak.dat x1, Ak.dat x0] → Calls Try.prog 44 #[.slice A cs.length ca, .int .i64 J] w (RunQ L2 a1 b1 c1 d1 a0 b0 c0 d0 w)) := by
  have g := Ak.chkS_good hc
  have g0 := g.all (Ak.dat x0) (by simp)
  have g1 := g.all (Ak.dat x1) (by simp)
  have gl : (Ak.dat x1).1 = (Ak.dat x0).1 := g.same (Ak.dat x1) (by simp)
  have hc2 : Ak.chkS [Ak.dat x1, Ak.dat x0] 0 = 0 := Ak.good_chkS ⟨by simp, by simp, by simp, fun c hc => g.all c (by simp at hc ⊢; exact hc.symm), fun c hc => by
    simp at hc
    rcases hc with rfl | rfl
    · rfl
    · exact gl.symm⟩
  rcases hk with ⟨rfl, rfl⟩ | ⟨rfl, rfl⟩
  · obtain ⟨h1, h2, g1', g2', x, y, v1, v2, z, e1, e2, e3, e4, e5, b1, b2, b3, b4, b5, b6, b7, b8⟩ := Ch.rn_of g0 g1 gl
    have R1 : Ch.Rn [Ak.dat x0, Ak.dat x1] 0 1 h1 h2 g1' g2' x y v1 v2 z := ⟨.inl ⟨rfl, rfl⟩, e1, e2, e3, e4, e5, b1, b2, b3, b4, b5, b6, b7, b8⟩
    have R2 : Ch.Rn [Ak.dat x1, Ak.dat x0] 1 0 h1 h2 g1' g2' x y v1 v2 z := ⟨.inr ⟨rfl, rfl⟩, e1, e2, e3, e4, e5, b1, b2, b3, b4, b5, b6, b7, b8⟩
    exact ⟨_, _, _, _, _, _, _, _, _, _, fun w A ca cs h hD => R1.run0 hc rfl _ rfl A ca cs w h hD, fun w A ca cs h hD => R2.run1 hc2 rfl _ gl A ca cs w h hD⟩
  · obtain ⟨h1, h2, g1', g2', x, y, v1, v2, z, e1, e2, e3, e4, e5, b1, b2, b3, b4, b5, b6, b7, b8⟩ := Ch.rn_of g1 g0 gl.symm
    have R1 : Ch.Rn [Ak.dat x0, Ak.dat x1] 1 0 h1 h2 g1' g2' x y v1 v2 z := ⟨.inr ⟨rfl, rfl⟩, e1, e2, e3, e4, e5, b1, b2, b3, b4, b5, b6, b7, b8⟩
    have R2 : Ch.Rn [Ak.dat x1, Ak.dat x0] 0 1 h1 h2 g1' g2' x y v1 v2 z := ⟨.inl ⟨rfl, rfl⟩, e1, e2, e3, e4, e5, b1, b2, b3, b4, b5, b6, b7, b8⟩
    exact ⟨_, _, _, _, _, _, _, _, _, _, fun w A ca cs h hD => R1.run1 hc rfl _ rfl A ca cs w h hD, fun w A ca cs h hD => R2.run0 hc2 rfl _ gl A ca cs w h hD⟩
set_option linter.unusedSimpArgs false in
set_option maxHeartbeats 8000000 in
set_option maxRecDepth 100000 in
theorem turned_fit0 (A : Option Addr) (ca : Nat) (x0 x1 : CkR) (w : World) (h : IsCs w A [x0, x1]) (hf : Ch.fitP [Ak.dat x0, Ak.dat x1] 0 = true) :
    Calls Try.prog 8 #[.slice A 2 ca, .int .i64 0] w fun e w' => e = .returned (.bool true) ∧ Below w.heap.size w w' := by
  obtain ⟨L1, L2, a0, b0, c0, d0, a1, b1, c1, d1, r1, r2⟩ := two_runs x0 x1 0 1 (by decide) (Ch.fit_of hf).1
  have ft := fit_any A ca [x0, x1] 0 w h
  rw [show [x0, x1].map Ak.dat = [Ak.dat x0, Ak.dat x1] from rfl, hf] at ft
  obtain ⟨bb, o, hA, hcl⟩ := h.at_
  obtain rfl := hA (by simp)
  have HI0 := Lib.hid (h.all x0 (by simp))
  have HI1 := Lib.hid (h.all x1 (by simp))
  have hc0 := hcl 0 (by simp)
  have hc1 := hcl 1 (by simp)
  rw [show Ak.cat [x0, x1] 0 = x0 from rfl, show o + 0 * 3 = o by omega] at hc0
  rw [show Ak.cat [x0, x1] 1 = x1 from rfl, show o + 1 * 3 = o + 3 by omega] at hc1
  have FT := Lib.hid ft
  have HH := Lib.hid h
  have HC0 := Lib.hid hc0
  have HC1 := Lib.hid hc1
  have R1 := Lib.hid r1
  have R2 := Lib.hid (fun (w : World) (p : Nat) (hp : IsCs w (some ⟨p, 0, none⟩) [x1, x0]) => r2 w (some ⟨p, 0, none⟩) 2 [x1, x0] hp rfl)
  have HCS := Lib.hid (fun (u : World) (p : Nat) b => isCs2 (u := u) (p := p) (x0 := x0) (x1 := x1) b)
  clear ft h hA hcl hc0 hc1 r1 r2 hf
  generalize x0.cuts.length = y0n at *
  generalize x0.dens.length = y0m at *
  generalize x0.len = y0l at *
  generalize x0.K = y0K at *
  generalize x0.ck = y0c at *
  generalize x0.Z = y0Z at *
  generalize x0.cz = y0z at *
  generalize x1.cuts.length = y1n at *
  generalize x1.dens.length = y1m at *
  generalize x1.len = y1l at *
  generalize x1.K = y1K at *
  generalize x1.ck = y1c at *
  generalize x1.Z = y1Z at *
  generalize x1.cz = y1z at *
  go_enter Try.func8, Try.ntmps8
  go_wp2_with fail
  refine FT.out.mono ?_
  rintro e w1 ⟨rfl, hbb⟩
  go_wp2_with fail
  refine (R1.out _ _ _ _ (HH.out.keep hbb) rfl).mono ?_
  unfold RunQ
  rintro e w2 ⟨Da, ga0, ga1, Qa, na, cqa, rfl, hb, hna, hqa, hda⟩
  clear hna hqa
  replace hbb := keepB hbb hb
  clear hb
  go_upto_region 4 with fail
  refine at_worldQ (fun v => Below w.heap.size w v ∧ w.heap.size ≤ v.heap.size ∧ BK v w2.heap.size [.slice (some ⟨Da, 0, none⟩) 2 2] ∧ DivB 0 Da ga0 ga1 a0 b0 c0 d0 a1 b1 c1 d1 v) ⟨(below_al hbb _), Below.size (B := w.heap.size) (w := w) (below_al hbb _), BK.new _ _ _, (hda.mono (Nat.zero_le _)).al _⟩ (fun V4 hS => ?_)
  clear hbb 
  obtain ⟨hbb, hBV, Ba, Ea⟩ := hS
  clear hda
  generalize w2.heap.size = pa at *
  have u0 := keepC hbb HC0.out.1
  have u1 := keepC hbb HC0.out.2.1
  have u2 := keepC hbb HC0.out.2.2
  have v0 := keepC hbb HC1.out.1
  have v1 := keepC hbb HC1.out.2.1
  have v2 := keepC hbb HC1.out.2.2
  go_cut [8, 10] (fun x z v => ∃ (p R h0 h1 : Nat), x = .pointer (some ⟨p, 0, none⟩) ∧ z = .int .i64 0 ∧ BK v p [.slice (some ⟨R, 0, none⟩) 2 2] ∧ DivB 0 R h0 h1 a1 b1 c1 d1 a0 b0 c0 d0 v ∧ Below V4.heap.size V4 v)
  case first =>
    refine wp_region_held_drew (S := (GB (fun _ => False) V4)) (by kernel_rfl) ((GB.refl _ _).drew) (fun hHeld => ?_)
    refine at_anyH (fun v => GB (fun _ => False) V4 v) hHeld (fun wa0 hNew => ?_)
    clear hHeld
    have hHeld := hNew
    clear hNew
    refine wpAnyH_take (i := 0) (oi := _) (v := ?va1) rfl (by kernel_rfl) (by kernel_rfl) (by kernel_rfl) (fun _ _ _ h => h) (Or.inl ⟨by kernel_rfl, ?hya1⟩) hHeld ?resta1
    case hya1 => (intro w hSw; go_simp; first | done | (with_reducible rfl))
    try simp only [Act.put, PA, PB]
    refine wpAnyH_take (i := 1) (oi := _) (v := ?va2) rfl (by kernel_rfl) (by kernel_rfl) (by kernel_rfl) (fun _ _ _ h => h) (Or.inl ⟨by kernel_rfl, ?hya2⟩) hHeld ?resta2
    case hya2 => (intro w hSw; go_simp; first | done | (with_reducible rfl))
    try simp only [Act.put, PA, PB]
    refine wpAnyH_take (i := 2) (oi := _) (v := ?va3) rfl (by kernel_rfl) (by kernel_rfl) (by kernel_rfl) (fun _ _ _ h => h) (Or.inl ⟨by kernel_rfl, ?hya3⟩) hHeld ?resta3
    case hya3 => (intro w hSw; have ku0 := hSw.cell (fun h => h) u0; have ku1 := hSw.cell (fun h => h) u1; have ku2 := hSw.cell (fun h => h) u2; have kv0 := hSw.cell (fun h => h) v0; have kv1 := hSw.cell (fun h => h) v1; have kv2 := hSw.cell (fun h => h) v2; go_simp; first | done | (with_reducible rfl))
    try simp only [Act.put, PA, PB]
    refine wpAnyH_take (i := 3) (oi := _) (v := ?va4) rfl (by kernel_rfl) (by kernel_rfl) (by kernel_rfl) (fun _ _ _ h => h) (Or.inl ⟨by kernel_rfl, ?hya4⟩) hHeld ?resta4
    case hya4 => (intro w hSw; go_simp; first | done | (with_reducible rfl))
    try simp only [Act.put, PA, PB]
    refine wpAnyH_take (i := 4) (oi := _) (v := ?va5) rfl (by kernel_rfl) (by kernel_rfl) (by kernel_rfl) (fun _ _ _ h => h) (Or.inl ⟨by kernel_rfl, ?hya5⟩) hHeld ?resta5
    case hya5 => (intro w hSw; go_simp; first | done | (with_reducible rfl))
    try simp only [Act.put, PA, PB]
    refine wpAnyH_take (i := 5) (oi := _) (v := ?va6) rfl (by kernel_rfl) (by kernel_rfl) (by kernel_rfl) (fun _ _ _ h => h) (Or.inl ⟨by kernel_rfl, ?hya6⟩) hHeld ?resta6
    case hya6 => (intro w hSw; have ku0 := hSw.cell (fun h => h) u0; have ku1 := hSw.cell (fun h => h) u1; have ku2 := hSw.cell (fun h => h) u2; have kv0 := hSw.cell (fun h => h) v0; have kv1 := hSw.cell (fun h => h) v1; have kv2 := hSw.cell (fun h => h) v2; go_simp; first | done | (with_reducible rfl))
    try simp only [Act.put, PA, PB]
    refine wpAnyH_take (i := 7) (oi := _) (v := ?va7) rfl (by kernel_rfl) (by kernel_rfl) (by kernel_rfl) (fun _ _ _ h => h) (Or.inl ⟨by kernel_rfl, ?hya7⟩) hHeld ?resta7
    case hya7 => (intro w hSw; go_simp; first | done | (with_reducible rfl))
    try simp only [Act.put, PA, PB]
    refine wpAnyH_take (i := 8) (oi := _) (v := ?va8) rfl (by kernel_rfl) (by kernel_rfl) (by kernel_rfl) (fun _ _ _ h => h) (Or.inl ⟨by kernel_rfl, ?hya8⟩) hHeld ?resta8
    case hya8 => (intro w hSw; go_simp; first | done | (with_reducible rfl))
    try simp only [Act.put, PA, PB]
    refine wpAnyH_ready (rs := [6, 14]) (by kernel_rfl) (by simp) (AllReadyH.cons (o := _) rfl (fun K hK => ?_) (AllReadyH.cons (o := _) rfl (fun K hK => ?_) AllReadyH.nil))
    ·
      go_simp
      refine hK.out _ _ (hHeld.al _) (fun hNew => ?_)
      have hX : V4.heap.size ≤ wa0.heap.size := hHeld.size
      clear hHeld hK K
      have hHeld := hNew
      clear hNew
      try simp only [Act.put, PA, PB]
      refine at_anyH (fun v => GB (fun _ => False) V4 v ∧ BK v (wa0.heap.size) [.int .i64 y1l, .slice y1K y1n y1c, .slice y1Z y1m y1z, .int .i64 y0l, .slice y0K y0n y0c, .slice y0Z y0m y0z]) ⟨hHeld, BK.new _ _ _⟩ (fun wa9 hS => ?_)
      clear hHeld
      obtain ⟨hHeld, BX⟩ := hS
      refine wpAnyH_ready (rs := [9, 14]) (by kernel_rfl) (by simp) (AllReadyH.cons (o := _) rfl (fun K hK => ?_) (AllReadyH.cons (o := _) rfl (fun K hK => ?_) AllReadyH.nil))
      ·
        go_simp
        refine (R2.out wa9 (wa0.heap.size) (HCS.out _ _ BX (HI0.out.keep (keepB hbb (hHeld.toBelow (Below.refl _ _) (fun k hk => hk.elim) (Nat.le_refl _)))) (HI1.out.keep (keepB hbb (hHeld.toBelow (Below.refl _ _) (fun k hk => hk.elim) (Nat.le_refl _)))))).mono ?_
        rintro e wa10 hrun
        unfold RunQ at hrun
        obtain ⟨Db, gb, kb, Qb, nb, cqb, rfl, hb3, hnb, hqb, hdb⟩ := hrun
        clear hnb hqb
        have hm := Mid.refl wa9.heap.size wa10
        have hvw := hHeld.size
        go_wp2_with fail
        refine hK.out _ _ (hHeld.below hb3) (fun hNew => ?_)
        have cX := BX.lt
        replace BX := BX.keep hb3
        clear hb3
        clear hHeld hK K
        have hHeld := hNew
        clear hNew
        try simp only [Act.put, PA, PB]
        refine wpAnyH_take (i := 10) (oi := _) (v := ?va11) rfl (by kernel_rfl) (by kernel_rfl) (by kernel_rfl) (fun _ _ _ h => h) (Or.inl ⟨by kernel_rfl, ?hya11⟩) hHeld ?resta11
        case hya11 => (intro w hSw; go_simp; first | done | (with_reducible rfl))
        try simp only [Act.put, PA, PB]
        refine wpAnyH_take (i := 11) (oi := _) (v := ?va12) rfl (by kernel_rfl) (by kernel_rfl) (by kernel_rfl) (fun _ _ _ h => h) (Or.inl ⟨by kernel_rfl, ?hya12⟩) hHeld ?resta12
        case hya12 => (intro w hSw; go_simp; first | done | (with_reducible rfl))
        try simp only [Act.put, PA, PB]
        refine wpAnyH_take (i := 12) (oi := _) (v := ?va13) rfl (by kernel_rfl) (by kernel_rfl) (by kernel_rfl) (fun _ _ _ h => h) (Or.inl ⟨by kernel_rfl, ?hya13⟩) hHeld ?resta13
        case hya13 => (intro w hSw; go_simp; first | done | (with_reducible rfl))
        try simp only [Act.put, PA, PB]
        refine wpAnyH_take (i := 13) (oi := _) (v := ?va14) rfl (by kernel_rfl) (by kernel_rfl) (by kernel_rfl) (fun _ _ _ h => h) (Or.inl ⟨by kernel_rfl, ?hya14⟩) hHeld ?resta14
        case hya14 => (intro w hSw; go_simp; first | done | (with_reducible rfl))
        try simp only [Act.put, PA, PB]
        refine wpAnyH_ready (rs := [14]) (by kernel_rfl) (by simp) (AllReadyH.cons (o := _) rfl (fun K hK => ?_) AllReadyH.nil)
        go_simp
        refine hK.out _ _ (hHeld.al _) (fun hNew => ?_)
        have hY : V4.heap.size ≤ wa10.heap.size := hHeld.size
        have dXY := BX.lt
        clear hHeld hK K
        have hHeld := hNew
        clear hNew
        try simp only [Act.put, PA, PB]
        have gYhm := hm.size
        refine at_anyH (fun v => GB (fun _ => False) V4 v ∧ BK v (wa0.heap.size) [.int .i64 y1l, .slice y1K y1n y1c, .slice y1Z y1m y1z, .int .i64 y0l, .slice y0K y0n y0c, .slice y0Z y0m y0z] ∧ BK v (wa10.heap.size) [.slice none 0 0] ∧ Mid wa9.heap.size wa10 v) ⟨hHeld, BX.al _, BK.new _ _ _, hm.al _⟩ (fun wa15 hS => ?_)
        clear hHeld BX hm
        obtain ⟨hHeld, BX, BY, hm⟩ := hS
        refine wpAnyH_ready (rs := [15]) (by kernel_rfl) (by simp) (AllReadyH.cons (o := _) rfl (fun K hK => ?_) AllReadyH.nil)
        have n0 := BY.c 0 rfl
        have f0 := BY.f 0 rfl
        go_simp
        clear n0 f0
        refine hK.out _ _ (hHeld.set (.inr hY) _) (fun hNew => ?_)
        clear hHeld hK K
        have hHeld := hNew
        clear hNew
        try simp only [Act.put, PA, PB]
        refine at_anyH (fun v => GB (fun _ => False) V4 v ∧ BK v (wa0.heap.size) [.int .i64 y1l, .slice y1K y1n y1c, .slice y1Z y1m y1z, .int .i64 y0l, .slice y0K y0n y0c, .slice y0Z y0m y0z] ∧ BK v (wa10.heap.size) [.slice (some ⟨Db, 0, none⟩) 2 2] ∧ Mid wa9.heap.size wa10 v) ⟨hHeld, (BX.far (by omega) _ _), (BY.set 0 _), (hm.set (by omega) _)⟩ (fun wa16 hS => ?_)
        clear hHeld BX BY hm
        obtain ⟨hHeld, BX, BY, hm⟩ := hS
        refine wpAnyH_take (i := 16) (oi := _) (v := ?va17) rfl (by kernel_rfl) (by kernel_rfl) (by kernel_rfl) (fun _ _ _ h => h) (Or.inl ⟨by kernel_rfl, ?hya17⟩) hHeld ?resta17
        case hya17 => (intro w hSw; go_simp; first | done | (with_reducible rfl))
        try simp only [Act.put, PA, PB]
        refine wpAnyH_take (i := 17) (oi := _) (v := ?va18) rfl (by kernel_rfl) (by kernel_rfl) (by kernel_rfl) (fun _ _ _ h => h) (Or.inl ⟨by kernel_rfl, ?hya18⟩) hHeld ?resta18
        case hya18 => (intro w hSw; go_simp; first | done | (with_reducible rfl))
        try simp only [Act.put, PA, PB]
        refine wpAnyH_done (by kernel_rfl) ?_ _
        go_wp2_with fail
        go_meet
        exact ⟨_, Db, gb, kb, rfl, rfl, BY, (hdb.mid hm).mono (Nat.zero_le _), hHeld.toBelow (Below.refl _ _) (fun k hk => hk.elim) (Nat.le_refl _)⟩
      ·
        go_simp
        refine hK.out _ _ (hHeld.al _) (fun hNew => ?_)
        have hY : V4.heap.size ≤ wa9.heap.size := hHeld.size
        have dXY := BX.lt
        clear hHeld hK K
        have hHeld := hNew
        clear hNew
        try simp only [Act.put, PA, PB]
        refine at_anyH (fun v => GB (fun _ => False) V4 v ∧ BK v (wa0.heap.size) [.int .i64 y1l, .slice y1K y1n y1c, .slice y1Z y1m y1z, .int .i64 y0l, .slice y0K y0n y0c, .slice y0Z y0m y0z] ∧ BK v (wa9.heap.size) [.slice none 0 0]) ⟨hHeld, BX.al _, BK.new _ _ _⟩ (fun wa19 hS => ?_)
        clear hHeld BX
        obtain ⟨hHeld, BX, BY⟩ := hS
        refine wpAnyH_ready (rs := [9]) (by kernel_rfl) (by simp) (AllReadyH.cons (o := _) rfl (fun K hK => ?_) AllReadyH.nil)
        go_simp
        refine (R2.out wa19 (wa0.heap.size) (HCS.out _ _ BX (HI0.out.keep (keepB hbb (hHeld.toBelow (Below.refl _ _) (fun k hk => hk.elim) (Nat.le_refl _)))) (HI1.out.keep (keepB hbb (hHeld.toBelow (Below.refl _ _) (fun k hk => hk.elim) (Nat.le_refl _)))))).mono ?_
        rintro e wa20 hrun
        unfold RunQ at hrun
        obtain ⟨Db, gb, kb, Qb, nb, cqb, rfl, hb3, hnb, hqb, hdb⟩ := hrun
        clear hnb hqb
        have hm := Mid.refl wa19.heap.size wa20
        have hvw := hHeld.size
        go_wp2_with fail
        refine hK.out _ _ (hHeld.below hb3) (fun hNew => ?_)
        have cX := BX.lt
        replace BX := BX.keep hb3
        have cY := BY.lt
        replace BY := BY.keep hb3
        clear hb3
        clear hHeld hK K
        have hHeld := hNew
        clear hNew
        try simp only [Act.put, PA, PB]
        refine wpAnyH_take (i := 10) (oi := _) (v := ?va21) rfl (by kernel_rfl) (by kernel_rfl) (by kernel_rfl) (fun _ _ _ h => h) (Or.inl ⟨by kernel_rfl, ?hya21⟩) hHeld ?resta21
        case hya21 => (intro w hSw; go_simp; first | done | (with_reducible rfl))
        try simp only [Act.put, PA, PB]
        refine wpAnyH_take (i := 11) (oi := _) (v := ?va22) rfl (by kernel_rfl) (by kernel_rfl) (by kernel_rfl) (fun _ _ _ h => h) (Or.inl ⟨by kernel_rfl, ?hya22⟩) hHeld ?resta22
        case hya22 => (intro w hSw; go_simp; first | done | (with_reducible rfl))
        try simp only [Act.put, PA, PB]
        refine wpAnyH_take (i := 12) (oi := _) (v := ?va23) rfl (by kernel_rfl) (by kernel_rfl) (by kernel_rfl) (fun _ _ _ h => h) (Or.inl ⟨by kernel_rfl, ?hya23⟩) hHeld ?resta23
        case hya23 => (intro w hSw; go_simp; first | done | (with_reducible rfl))
        try simp only [Act.put, PA, PB]
        refine wpAnyH_take (i := 13) (oi := _) (v := ?va24) rfl (by kernel_rfl) (by kernel_rfl) (by kernel_rfl) (fun _ _ _ h => h) (Or.inl ⟨by kernel_rfl, ?hya24⟩) hHeld ?resta24
        case hya24 => (intro w hSw; go_simp; first | done | (with_reducible rfl))
        try simp only [Act.put, PA, PB]
        refine wpAnyH_ready (rs := [15]) (by kernel_rfl) (by simp) (AllReadyH.cons (o := _) rfl (fun K hK => ?_) AllReadyH.nil)
        have n0 := BY.c 0 rfl
        have f0 := BY.f 0 rfl
        go_simp
        clear n0 f0
        refine hK.out _ _ (hHeld.set (.inr hY) _) (fun hNew => ?_)
        clear hHeld hK K
        have hHeld := hNew
        clear hNew
        try simp only [Act.put, PA, PB]
        refine at_anyH (fun v => GB (fun _ => False) V4 v ∧ BK v (wa0.heap.size) [.int .i64 y1l, .slice y1K y1n y1c, .slice y1Z y1m y1z, .int .i64 y0l, .slice y0K y0n y0c, .slice y0Z y0m y0z] ∧ BK v (wa9.heap.size) [.slice (some ⟨Db, 0, none⟩) 2 2] ∧ Mid wa19.heap.size wa20 v) ⟨hHeld, (BX.far (by omega) _ _), (BY.set 0 _), (hm.set (by omega) _)⟩ (fun wa25 hS => ?_)
        clear hHeld BX BY hm
        obtain ⟨hHeld, BX, BY, hm⟩ := hS
        refine wpAnyH_take (i := 16) (oi := _) (v := ?va26) rfl (by kernel_rfl) (by kernel_rfl) (by kernel_rfl) (fun _ _ _ h => h) (Or.inl ⟨by kernel_rfl, ?hya26⟩) hHeld ?resta26
        case hya26 => (intro w hSw; go_simp; first | done | (with_reducible rfl))
        try simp only [Act.put, PA, PB]
        refine wpAnyH_take (i := 17) (oi := _) (v := ?va27) rfl (by kernel_rfl) (by kernel_rfl) (by kernel_rfl) (fun _ _ _ h => h) (Or.inl ⟨by kernel_rfl, ?hya27⟩) hHeld ?resta27
        case hya27 => (intro w hSw; go_simp; first | done | (with_reducible rfl))
        try simp only [Act.put, PA, PB]
        refine wpAnyH_done (by kernel_rfl) ?_ _
        go_wp2_with fail
        go_meet
        exact ⟨_, Db, gb, kb, rfl, rfl, BY, (hdb.mid hm).mono (Nat.zero_le _), hHeld.toBelow (Below.refl _ _) (fun k hk => hk.elim) (Nat.le_refl _)⟩
    ·
      go_simp
      refine hK.out _ _ (hHeld.al _) (fun hNew => ?_)
      have hY : V4.heap.size ≤ wa0.heap.size := hHeld.size
      clear hHeld hK K
      have hHeld := hNew
      clear hNew
      try simp only [Act.put, PA, PB]
      refine at_anyH (fun v => GB (fun _ => False) V4 v ∧ BK v (wa0.heap.size) [.slice none 0 0]) ⟨hHeld, BK.new _ _ _⟩ (fun wa28 hS => ?_)
      clear hHeld
      obtain ⟨hHeld, BY⟩ := hS
      refine wpAnyH_ready (rs := [6]) (by kernel_rfl) (by simp) (AllReadyH.cons (o := _) rfl (fun K hK => ?_) AllReadyH.nil)
      go_simp
      refine hK.out _ _ (hHeld.al _) (fun hNew => ?_)
      have hX : V4.heap.size ≤ wa28.heap.size := hHeld.size
      have dYX := BY.lt
      clear hHeld hK K
      have hHeld := hNew
      clear hNew
      try simp only [Act.put, PA, PB]
      refine at_anyH (fun v => GB (fun _ => False) V4 v ∧ BK v (wa0.heap.size) [.slice none 0 0] ∧ BK v (wa28.heap.size) [.int .i64 y1l, .slice y1K y1n y1c, .slice y1Z y1m y1z, .int .i64 y0l, .slice y0K y0n y0c, .slice y0Z y0m y0z]) ⟨hHeld, BY.al _, BK.new _ _ _⟩ (fun wa29 hS => ?_)
      clear hHeld BY
      obtain ⟨hHeld, BY, BX⟩ := hS
      refine wpAnyH_ready (rs := [9]) (by kernel_rfl) (by simp) (AllReadyH.cons (o := _) rfl (fun K hK => ?_) AllReadyH.nil)
      go_simp
      refine (R2.out wa29 (wa28.heap.size) (HCS.out _ _ BX (HI0.out.keep (keepB hbb (hHeld.toBelow (Below.refl _ _) (fun k hk => hk.elim) (Nat.le_refl _)))) (HI1.out.keep (keepB hbb (hHeld.toBelow (Below.refl _ _) (fun k hk => hk.elim) (Nat.le_refl _)))))).mono ?_
      rintro e wa30 hrun
      unfold RunQ at hrun
      obtain ⟨Db, gb, kb, Qb, nb, cqb, rfl, hb3, hnb, hqb, hdb⟩ := hrun
      clear hnb hqb
      have hm := Mid.refl wa29.heap.size wa30
      have hvw := hHeld.size
      go_wp2_with fail
      refine hK.out _ _ (hHeld.below hb3) (fun hNew => ?_)
      have cY := BY.lt
      replace BY := BY.keep hb3
      have cX := BX.lt
      replace BX := BX.keep hb3
      clear hb3
      clear hHeld hK K
      have hHeld := hNew
      clear hNew
      try simp only [Act.put, PA, PB]
      refine wpAnyH_take (i := 10) (oi := _) (v := ?va31) rfl (by kernel_rfl) (by kernel_rfl) (by kernel_rfl) (fun _ _ _ h => h) (Or.inl ⟨by kernel_rfl, ?hya31⟩) hHeld ?resta31
      case hya31 => (intro w hSw; go_simp; first | done | (with_reducible rfl))
      try simp only [Act.put, PA, PB]
      refine wpAnyH_take (i := 11) (oi := _) (v := ?va32) rfl (by kernel_rfl) (by kernel_rfl) (by kernel_rfl) (fun _ _ _ h => h) (Or.inl ⟨by kernel_rfl, ?hya32⟩) hHeld ?resta32
      case hya32 => (intro w hSw; go_simp; first | done | (with_reducible rfl))
      try simp only [Act.put, PA, PB]
      refine wpAnyH_take (i := 12) (oi := _) (v := ?va33) rfl (by kernel_rfl) (by kernel_rfl) (by kernel_rfl) (fun _ _ _ h => h) (Or.inl ⟨by kernel_rfl, ?hya33⟩) hHeld ?resta33
      case hya33 => (intro w hSw; go_simp; first | done | (with_reducible rfl))
      try simp only [Act.put, PA, PB]
      refine wpAnyH_take (i := 13) (oi := _) (v := ?va34) rfl (by kernel_rfl) (by kernel_rfl) (by kernel_rfl) (fun _ _ _ h => h) (Or.inl ⟨by kernel_rfl, ?hya34⟩) hHeld ?resta34
      case hya34 => (intro w hSw; go_simp; first | done | (with_reducible rfl))
      try simp only [Act.put, PA, PB]
      refine wpAnyH_ready (rs := [15]) (by kernel_rfl) (by simp) (AllReadyH.cons (o := _) rfl (fun K hK => ?_) AllReadyH.nil)
      have n0 := BY.c 0 rfl
      have f0 := BY.f 0 rfl
      go_simp
      clear n0 f0
      refine hK.out _ _ (hHeld.set (.inr hY) _) (fun hNew => ?_)
      clear hHeld hK K
      have hHeld := hNew
      clear hNew
      try simp only [Act.put, PA, PB]
      refine at_anyH (fun v => GB (fun _ => False) V4 v ∧ BK v (wa0.heap.size) [.slice (some ⟨Db, 0, none⟩) 2 2] ∧ BK v (wa28.heap.size) [.int .i64 y1l, .slice y1K y1n y1c, .slice y1Z y1m y1z, .int .i64 y0l, .slice y0K y0n y0c, .slice y0Z y0m y0z] ∧ Mid wa29.heap.size wa30 v) ⟨hHeld, (BY.set 0 _), (BX.far (by omega) _ _), (hm.set (by omega) _)⟩ (fun wa35 hS => ?_)
      clear hHeld BY BX hm
      obtain ⟨hHeld, BY, BX, hm⟩ := hS
      refine wpAnyH_take (i := 16) (oi := _) (v := ?va36) rfl (by kernel_rfl) (by kernel_rfl) (by kernel_rfl) (fun _ _ _ h => h) (Or.inl ⟨by kernel_rfl, ?hya36⟩) hHeld ?resta36
      case hya36 => (intro w hSw; go_simp; first | done | (with_reducible rfl))
      try simp only [Act.put, PA, PB]
      refine wpAnyH_take (i := 17) (oi := _) (v := ?va37) rfl (by kernel_rfl) (by kernel_rfl) (by kernel_rfl) (fun _ _ _ h => h) (Or.inl ⟨by kernel_rfl, ?hya37⟩) hHeld ?resta37
      case hya37 => (intro w hSw; go_simp; first | done | (with_reducible rfl))
      try simp only [Act.put, PA, PB]
      refine wpAnyH_done (by kernel_rfl) ?_ _
      go_wp2_with fail
      go_meet
      exact ⟨_, Db, gb, kb, rfl, rfl, BY, (hdb.mid hm).mono (Nat.zero_le _), hHeld.toBelow (Below.refl _ _) (fun k hk => hk.elim) (Nat.le_refl _)⟩
  case rest =>
    obtain ⟨pb, R, h0, h1, rfl, rfl, Bb, Eb, hb⟩ := hcut
    clear u0 u1 u2 v0 v1 v2
    replace Ba := Ba.keep hb
    replace Ea := Ea.call hb
    replace hbb := keepB hbb hb
    clear hb
    have da := Ba.c 0 rfl
    have e0 : ((0 : Int) != 0) = false := rfl
    have e2 : ((2 : Int) != 2) = false := rfl
    go_upto_region 7 with fail
    clear da e0 e2
    refine at_worldQ (fun v => Below w.heap.size w v ∧ w.heap.size ≤ v.heap.size ∧ BK v pa [.slice (some ⟨Da, 0, none⟩) 2 2] ∧ DivB 0 Da ga0 ga1 a0 b0 c0 d0 a1 b1 c1 d1 v ∧ BK v pb [.slice (some ⟨R, 0, none⟩) 2 2] ∧ DivB 0 R h0 h1 a1 b1 c1 d1 a0 b0 c0 d0 v) ⟨hbb, Below.size (B := w.heap.size) (w := w) hbb, Ba, Ea, Bb, Eb⟩ (fun V7 hS => ?_)
    clear hbb Ba Ea Bb Eb hBV
    obtain ⟨hbb, hBV, Ba, Ea, Bb, Eb⟩ := hS
    have da := Ba.c 0 rfl
    have db := Bb.c 0 rfl
    have s0 := Ea.p.c 0 rfl
    have s1 := Ea.p.c 1 rfl
    refine wp_region_noPanic ?_
    refine wp_region_held_drew (S := (GB (fun _ => False) V7)) (by kernel_rfl) ((GB.refl _ _).drew) (fun hHeld => ?_)
    refine at_anyH (fun v => GB (fun _ => False) V7 v) hHeld (fun wb0 hNew => ?_)
    clear hHeld
    have hHeld := hNew
    clear hNew
    refine wpAnyH_take (i := 0) (oi := _) (v := ?vb1) rfl (by kernel_rfl) (by kernel_rfl) (by kernel_rfl) (fun _ _ _ h => h) (Or.inl ⟨by kernel_rfl, ?hyb1⟩) hHeld ?restb1
    case hyb1 => (intro w hSw; have ks0 := hSw.cell (fun h => h) s0; have ks1 := hSw.cell (fun h => h) s1; have kda := hSw.cell (fun h => h) da; have kdb := hSw.cell (fun h => h) db; go_simp; first | done | (with_reducible rfl))
    try simp only [Act.put, PA, PB]
    refine wpAnyH_take (i := 1) (oi := _) (v := ?vb2) rfl (by kernel_rfl) (by kernel_rfl) (by kernel_rfl) (fun _ _ _ h => h) (Or.inl ⟨by kernel_rfl, ?hyb2⟩) hHeld ?restb2
    case hyb2 => (intro w hSw; go_simp; first | done | (with_reducible rfl))
    try simp only [Act.put, PA, PB]
    refine wpAnyH_take (i := 2) (oi := _) (v := ?vb3) rfl (by kernel_rfl) (by kernel_rfl) (by kernel_rfl) (fun _ _ _ h => h) (Or.inl ⟨by kernel_rfl, ?hyb3⟩) hHeld ?restb3
    case hyb3 => (intro w hSw; have ks0 := hSw.cell (fun h => h) s0; have ks1 := hSw.cell (fun h => h) s1; have kda := hSw.cell (fun h => h) da; have kdb := hSw.cell (fun h => h) db; go_simp; first | done | (with_reducible rfl))
    try simp only [Act.put, PA, PB]
    refine wpAnyH_take (i := 3) (oi := _) (v := ?vb4) rfl (by kernel_rfl) (by kernel_rfl) (by kernel_rfl) (fun _ _ _ h => h) (Or.inl ⟨by kernel_rfl, ?hyb4⟩) hHeld ?restb4
    case hyb4 => (intro w hSw; go_simp; first | done | (with_reducible rfl))
    try simp only [Act.put, PA, PB]
    refine wpAnyH_take (i := 4) (oi := _) (v := ?vb5) rfl (by kernel_rfl) (by kernel_rfl) (by kernel_rfl) (fun _ _ _ h => h) (Or.inl ⟨by kernel_rfl, ?hyb5⟩) hHeld ?restb5
    case hyb5 => (intro w hSw; have ks0 := hSw.cell (fun h => h) s0; have ks1 := hSw.cell (fun h => h) s1; have kda := hSw.cell (fun h => h) da; have kdb := hSw.cell (fun h => h) db; go_simp; first | done | (with_reducible rfl))
    try simp only [Act.put, PA, PB]
    refine wpAnyH_take (i := 5) (oi := _) (v := ?vb6) rfl (by kernel_rfl) (by kernel_rfl) (by kernel_rfl) (fun _ _ _ h => h) (Or.inl ⟨by kernel_rfl, ?hyb6⟩) hHeld ?restb6
    case hyb6 => (intro w hSw; go_simp; first | done | (with_reducible rfl))
    try simp only [Act.put, PA, PB]
    refine wpAnyH_take (i := 6) (oi := _) (v := ?vb7) rfl (by kernel_rfl) (by kernel_rfl) (by kernel_rfl) (fun _ _ _ h => h) (Or.inl ⟨by kernel_rfl, ?hyb7⟩) hHeld ?restb7
    case hyb7 => (intro w hSw; have ks0 := hSw.cell (fun h => h) s0; have ks1 := hSw.cell (fun h => h) s1; have kda := hSw.cell (fun h => h) da; have kdb := hSw.cell (fun h => h) db; go_simp; first | done | (with_reducible rfl))
    try simp only [Act.put, PA, PB]
    refine wpAnyH_take (i := 7) (oi := _) (v := ?vb8) rfl (by kernel_rfl) (by kernel_rfl) (by kernel_rfl) (fun _ _ _ h => h) (Or.inl ⟨by kernel_rfl, ?hyb8⟩) hHeld ?restb8
    case hyb8 => (intro w hSw; go_simp; first | done | (with_reducible rfl))
    try simp only [Act.put, PA, PB]
    refine wpAnyH_take (i := 8) (oi := _) (v := ?vb9) rfl (by kernel_rfl) (by kernel_rfl) (by kernel_rfl) (fun _ _ _ h => h) (Or.inl ⟨by kernel_rfl, ?hyb9⟩) hHeld ?restb9
    case hyb9 => (intro w hSw; have ks0 := hSw.cell (fun h => h) s0; have ks1 := hSw.cell (fun h => h) s1; have kda := hSw.cell (fun h => h) da; have kdb := hSw.cell (fun h => h) db; go_simp; first | done | (with_reducible rfl))
    try simp only [Act.put, PA, PB]
    refine wpAnyH_ready (rs := [9]) (by kernel_rfl) (by simp) (AllReadyH.cons (o := _) rfl (fun K hK => ?_) AllReadyH.nil)
    go_simp
    refine hK.out _ _ (hHeld.al _) (fun hNew => ?_)
    have hX : V7.heap.size ≤ wb0.heap.size := hHeld.size
    clear hHeld hK K
    have hHeld := hNew
    clear hNew
    try simp only [Act.put, PA, PB]
    refine at_anyH (fun v => GB (fun _ => False) V7 v ∧ BK v (wb0.heap.size) [.slice (some ⟨ga1, 0, none⟩) 1 1, .slice (some ⟨ga0, 0, none⟩) 1 1]) ⟨hHeld, BK.new _ _ _⟩ (fun wb10 hS => ?_)
    clear hHeld
    obtain ⟨hHeld, BX⟩ := hS
    refine wpAnyH_take (i := 10) (oi := _) (v := ?vb11) rfl (by kernel_rfl) (by kernel_rfl) (by kernel_rfl) (fun _ _ _ h => h) (Or.inl ⟨by kernel_rfl, ?hyb11⟩) hHeld ?restb11
    case hyb11 => (intro w hSw; go_simp; first | done | (with_reducible rfl))
    try simp only [Act.put, PA, PB]
    refine wpAnyH_ready (rs := [11]) (by kernel_rfl) (by simp) (AllReadyH.cons (o := _) rfl (fun K hK => ?_) AllReadyH.nil)
    go_simp
    refine (sameDiv_eq R (wb0.heap.size) 0 0 h0 h1 ga1 ga0 _ _ _ _ _ _ _ _ _ (Eb.call (hHeld.toBelow (Below.refl _ _) (fun k hk => hk.elim) (Nat.le_refl _))) ⟨Nat.zero_le _, Nat.zero_le _, Nat.zero_le _, BX, Ea.s1.keep (hHeld.toBelow (Below.refl _ _) (fun k hk => hk.elim) (Nat.le_refl _)), Ea.s0.keep (hHeld.toBelow (Below.refl _ _) (fun k hk => hk.elim) (Nat.le_refl _))⟩).mono ?_
    rintro e wb12 ⟨rfl, hb3⟩
    go_wp2_with fail
    refine hK.out _ _ (hHeld.below hb3) (fun hNew => ?_)
    replace BX := BX.keep hb3
    clear hb3
    clear hHeld hK K
    have hHeld := hNew
    clear hNew
    try simp only [Act.put, PA, PB]
    refine wpAnyH_take (i := 12) (oi := _) (v := ?vb13) rfl (by kernel_rfl) (by kernel_rfl) (by kernel_rfl) (fun _ _ _ h => h) (Or.inl ⟨by kernel_rfl, ?hyb13⟩) hHeld ?restb13
    case hyb13 => (intro w hSw; go_simp; first | done | (with_reducible rfl))
    try simp only [Act.put, PA, PB]
    refine wpAnyH_ready (rs := [13]) (by kernel_rfl) (by simp) (AllReadyH.cons (o := _) rfl (fun K hK => ?_) AllReadyH.nil)
    go_simp
    refine (alive7_any _).mono ?_
    rintro e wb14 ⟨rfl, hb3⟩
    go_wp2_with fail
    refine hK.out _ _ (hHeld.below hb3) (fun hNew => ?_)
    replace BX := BX.keep hb3
    clear hb3
    clear hHeld hK K
    have hHeld := hNew
    clear hNew
    try simp only [Act.put, PA, PB]
    refine wpAnyH_take (i := 14) (oi := _) (v := ?vb15) rfl (by kernel_rfl) (by kernel_rfl) (by kernel_rfl) (fun _ _ _ h => h) (Or.inl ⟨by kernel_rfl, ?hyb15⟩) hHeld ?restb15
    case hyb15 => (intro w hSw; go_simp; first | done | (with_reducible rfl))
    try simp only [Act.put, PA, PB]
    refine wpAnyH_take (i := 15) (oi := _) (v := ?vb16) rfl (by kernel_rfl) (by kernel_rfl) (by kernel_rfl) (fun _ _ _ h => h) (Or.inl ⟨by kernel_rfl, ?hyb16⟩) hHeld ?restb16
    case hyb16 => (intro w hSw; go_simp; first | done | (with_reducible rfl))
    try simp only [Act.put, PA, PB]
    refine wpAnyH_done (by kernel_rfl) ?_ _
    refine NoPanic.normal ?_
    skip
    have hbb2 := hHeld.toBelow hbb (fun k hk => hk.elim) hBV
    go_wp2_with fail
    go_ret
    exact ⟨rfl, hbb2⟩
set_option linter.unusedSimpArgs false in
set_option maxHeartbeats 8000000 in
set_option maxRecDepth 100000 in
theorem turned_fit1 (A : Option Addr) (ca : Nat) (x0 x1 : CkR) (w : World) (h : IsCs w A [x0, x1]) (hf : Ch.fitP [Ak.dat x0, Ak.dat x1] 1 = true) :
    Calls Try.prog 8 #[.slice A 2 ca, .int .i64 1] w fun e w' => e = .returned (.bool true) ∧ Below w.heap.size w w' := by
  obtain ⟨L1, L2, a0, b0, c0, d0, a1, b1, c1, d1, r1, r2⟩ := two_runs x0 x1 1 0 (by decide) (Ch.fit_of hf).1
  have ft := fit_any A ca [x0, x1] 1 w h
  rw [show [x0, x1].map Ak.dat = [Ak.dat x0, Ak.dat x1] from rfl, hf] at ft
  obtain ⟨bb, o, hA, hcl⟩ := h.at_
  obtain rfl := hA (by simp)
  have HI0 := Lib.hid (h.all x0 (by simp))
  have HI1 := Lib.hid (h.all x1 (by simp))
  have hc0 := hcl 0 (by simp)
  have hc1 := hcl 1 (by simp)
  rw [show Ak.cat [x0, x1] 0 = x0 from rfl, show o + 0 * 3 = o by omega] at hc0
  rw [show Ak.cat [x0, x1] 1 = x1 from rfl, show o + 1 * 3 = o + 3 by omega] at hc1
  have FT := Lib.hid ft
  have HH := Lib.hid h
  have HC0 := Lib.hid hc0
  have HC1 := Lib.hid hc1
  have R1 := Lib.hid r1
  have R2 := Lib.hid (fun (w : World) (p : Nat) (hp : IsCs w (some ⟨p, 0, none⟩) [x1, x0]) => r2 w (some ⟨p, 0, none⟩) 2 [x1, x0] hp rfl)
  have HCS := Lib.hid (fun (u : World) (p : Nat) b => isCs2 (u := u) (p := p) (x0 := x0) (x1 := x1) b)
  clear ft h hA hcl hc0 hc1 r1 r2 hf
  generalize x0.cuts.length = y0n at *
  generalize x0.dens.length = y0m at *
  generalize x0.len = y0l at *
  generalize x0.K = y0K at *
  generalize x0.ck = y0c at *
  generalize x0.Z = y0Z at *
  generalize x0.cz = y0z at *
  generalize x1.cuts.length = y1n at *
  generalize x1.dens.length = y1m at *
  generalize x1.len = y1l at *
  generalize x1.K = y1K at *
  generalize x1.ck = y1c at *
  generalize x1.Z = y1Z at *
  generalize x1.cz = y1z at *
  go_enter Try.func8, Try.ntmps8
  go_wp2_with fail
  refine FT.out.mono ?_
  rintro e w1 ⟨rfl, hbb⟩
  go_wp2_with fail
  refine (R1.out _ _ _ _ (HH.out.keep hbb) rfl).mono ?_
  unfold RunQ
  rintro e w2 ⟨Da, ga0, ga1, Qa, na, cqa, rfl, hb, hna, hqa, hda⟩
  clear hna hqa
  replace hbb := keepB hbb hb
  clear hb
  go_upto_region 4 with fail
  refine at_worldQ (fun v => Below w.heap.size w v ∧ w.heap.size ≤ v.heap.size ∧ BK v w2.heap.size [.slice (some ⟨Da, 0, none⟩) 2 2] ∧ DivB 0 Da ga0 ga1 a0 b0 c0 d0 a1 b1 c1 d1 v) ⟨(below_al hbb _), Below.size (B := w.heap.size) (w := w) (below_al hbb _), BK.new _ _ _, (hda.mono (Nat.zero_le _)).al _⟩ (fun V4 hS => ?_)
  clear hbb 
  obtain ⟨hbb, hBV, Ba, Ea⟩ := hS
  clear hda
  generalize w2.heap.size = pa at *
  have u0 := keepC hbb HC0.out.1
  have u1 := keepC hbb HC0.out.2.1
  have u2 := keepC hbb HC0.out.2.2
  have v0 := keepC hbb HC1.out.1
  have v1 := keepC hbb HC1.out.2.1
  have v2 := keepC hbb HC1.out.2.2
  go_cut [8, 10] (fun x z v => ∃ (p R h0 h1 : Nat), x = .pointer (some ⟨p, 0, none⟩) ∧ z = .int .i64 0 ∧ BK v p [.slice (some ⟨R, 0, none⟩) 2 2] ∧ DivB 0 R h0 h1 a1 b1 c1 d1 a0 b0 c0 d0 v ∧ Below V4.heap.size V4 v)
  case first =>
    refine wp_region_held_drew (S := (GB (fun _ => False) V4)) (by kernel_rfl) ((GB.refl _ _).drew) (fun hHeld => ?_)
    refine at_anyH (fun v => GB (fun _ => False) V4 v) hHeld (fun wa0 hNew => ?_)
    clear hHeld
    have hHeld := hNew
    clear hNew
    refine wpAnyH_take (i := 0) (oi := _) (v := ?va1) rfl (by kernel_rfl) (by kernel_rfl) (by kernel_rfl) (fun _ _ _ h => h) (Or.inl ⟨by kernel_rfl, ?hya1⟩) hHeld ?resta1
    case hya1 => (intro w hSw; go_simp; first | done | (with_reducible rfl))
    try simp only [Act.put, PA, PB]
    refine wpAnyH_take (i := 1) (oi := _) (v := ?va2) rfl (by kernel_rfl) (by kernel_rfl) (by kernel_rfl) (fun _ _ _ h => h) (Or.inl ⟨by kernel_rfl, ?hya2⟩) hHeld ?resta2
    case hya2 => (intro w hSw; go_simp; first | done | (with_reducible rfl))
    try simp only [Act.put, PA, PB]
    refine wpAnyH_take (i := 2) (oi := _) (v := ?va3) rfl (by kernel_rfl) (by kernel_rfl) (by kernel_rfl) (fun _ _ _ h => h) (Or.inl ⟨by kernel_rfl, ?hya3⟩) hHeld ?resta3
    case hya3 => (intro w hSw; have ku0 := hSw.cell (fun h => h) u0; have ku1 := hSw.cell (fun h => h) u1; have ku2 := hSw.cell (fun h => h) u2; have kv0 := hSw.cell (fun h => h) v0; have kv1 := hSw.cell (fun h => h) v1; have kv2 := hSw.cell (fun h => h) v2; go_simp; first | done | (with_reducible rfl))
    try simp only [Act.put, PA, PB]
    refine wpAnyH_take (i := 3) (oi := _) (v := ?va4) rfl (by kernel_rfl) (by kernel_rfl) (by kernel_rfl) (fun _ _ _ h => h) (Or.inl ⟨by kernel_rfl, ?hya4⟩) hHeld ?resta4
    case hya4 => (intro w hSw; go_simp; first | done | (with_reducible rfl))
    try simp only [Act.put, PA, PB]
    refine wpAnyH_take (i := 4) (oi := _) (v := ?va5) rfl (by kernel_rfl) (by kernel_rfl) (by kernel_rfl) (fun _ _ _ h => h) (Or.inl ⟨by kernel_rfl, ?hya5⟩) hHeld ?resta5
    case hya5 => (intro w hSw; go_simp; first | done | (with_reducible rfl))
    try simp only [Act.put, PA, PB]
    refine wpAnyH_take (i := 5) (oi := _) (v := ?va6) rfl (by kernel_rfl) (by kernel_rfl) (by kernel_rfl) (fun _ _ _ h => h) (Or.inl ⟨by kernel_rfl, ?hya6⟩) hHeld ?resta6
    case hya6 => (intro w hSw; have ku0 := hSw.cell (fun h => h) u0; have ku1 := hSw.cell (fun h => h) u1; have ku2 := hSw.cell (fun h => h) u2; have kv0 := hSw.cell (fun h => h) v0; have kv1 := hSw.cell (fun h => h) v1; have kv2 := hSw.cell (fun h => h) v2; go_simp; first | done | (with_reducible rfl))
    try simp only [Act.put, PA, PB]
    refine wpAnyH_take (i := 7) (oi := _) (v := ?va7) rfl (by kernel_rfl) (by kernel_rfl) (by kernel_rfl) (fun _ _ _ h => h) (Or.inl ⟨by kernel_rfl, ?hya7⟩) hHeld ?resta7
    case hya7 => (intro w hSw; go_simp; first | done | (with_reducible rfl))
    try simp only [Act.put, PA, PB]
    refine wpAnyH_take (i := 8) (oi := _) (v := ?va8) rfl (by kernel_rfl) (by kernel_rfl) (by kernel_rfl) (fun _ _ _ h => h) (Or.inl ⟨by kernel_rfl, ?hya8⟩) hHeld ?resta8
    case hya8 => (intro w hSw; go_simp; first | done | (with_reducible rfl))
    try simp only [Act.put, PA, PB]
    refine wpAnyH_ready (rs := [6, 14]) (by kernel_rfl) (by simp) (AllReadyH.cons (o := _) rfl (fun K hK => ?_) (AllReadyH.cons (o := _) rfl (fun K hK => ?_) AllReadyH.nil))
    ·
      go_simp
      refine hK.out _ _ (hHeld.al _) (fun hNew => ?_)
      have hX : V4.heap.size ≤ wa0.heap.size := hHeld.size
      clear hHeld hK K
      have hHeld := hNew
      clear hNew
      try simp only [Act.put, PA, PB]
      refine at_anyH (fun v => GB (fun _ => False) V4 v ∧ BK v (wa0.heap.size) [.int .i64 y1l, .slice y1K y1n y1c, .slice y1Z y1m y1z, .int .i64 y0l, .slice y0K y0n y0c, .slice y0Z y0m y0z]) ⟨hHeld, BK.new _ _ _⟩ (fun wa9 hS => ?_)
      clear hHeld
      obtain ⟨hHeld, BX⟩ := hS
      refine wpAnyH_ready (rs := [9, 14]) (by kernel_rfl) (by simp) (AllReadyH.cons (o := _) rfl (fun K hK => ?_) (AllReadyH.cons (o := _) rfl (fun K hK => ?_) AllReadyH.nil))
      ·
        go_simp
        refine (R2.out wa9 (wa0.heap.size) (HCS.out _ _ BX (HI0.out.keep (keepB hbb (hHeld.toBelow (Below.refl _ _) (fun k hk => hk.elim) (Nat.le_refl _)))) (HI1.out.keep (keepB hbb (hHeld.toBelow (Below.refl _ _) (fun k hk => hk.elim) (Nat.le_refl _)))))).mono ?_
        rintro e wa10 hrun
        unfold RunQ at hrun
        obtain ⟨Db, gb, kb, Qb, nb, cqb, rfl, hb3, hnb, hqb, hdb⟩ := hrun
        clear hnb hqb
        have hm := Mid.refl wa9.heap.size wa10
        have hvw := hHeld.size
        go_wp2_with fail
        refine hK.out _ _ (hHeld.below hb3) (fun hNew => ?_)
        have cX := BX.lt
        replace BX := BX.keep hb3
        clear hb3
        clear hHeld hK K
        have hHeld := hNew
        clear hNew
        try simp only [Act.put, PA, PB]
        refine wpAnyH_take (i := 10) (oi := _) (v := ?va11) rfl (by kernel_rfl) (by kernel_rfl) (by kernel_rfl) (fun _ _ _ h => h) (Or.inl ⟨by kernel_rfl, ?hya11⟩) hHeld ?resta11
        case hya11 => (intro w hSw; go_simp; first | done | (with_reducible rfl))
        try simp only [Act.put, PA, PB]
        refine wpAnyH_take (i := 11) (oi := _) (v := ?va12) rfl (by kernel_rfl) (by kernel_rfl) (by kernel_rfl) (fun _ _ _ h => h) (Or.inl ⟨by kernel_rfl, ?hya12⟩) hHeld ?resta12
        case hya12 => (intro w hSw; go_simp; first | done | (with_reducible rfl))
        try simp only [Act.put, PA, PB]
        refine wpAnyH_take (i := 12) (oi := _) (v := ?va13) rfl (by kernel_rfl) (by kernel_rfl) (by kernel_rfl) (fun _ _ _ h => h) (Or.inl ⟨by kernel_rfl, ?hya13⟩) hHeld ?resta13
        case hya13 => (intro w hSw; go_simp; first | done | (with_reducible rfl))
        try simp only [Act.put, PA, PB]
        refine wpAnyH_take (i := 13) (oi := _) (v := ?va14) rfl (by kernel_rfl) (by kernel_rfl) (by kernel_rfl) (fun _ _ _ h => h) (Or.inl ⟨by kernel_rfl, ?hya14⟩) hHeld ?resta14
        case hya14 => (intro w hSw; go_simp; first | done | (with_reducible rfl))
        try simp only [Act.put, PA, PB]
        refine wpAnyH_ready (rs := [14]) (by kernel_rfl) (by simp) (AllReadyH.cons (o := _) rfl (fun K hK => ?_) AllReadyH.nil)
        go_simp
        refine hK.out _ _ (hHeld.al _) (fun hNew => ?_)
        have hY : V4.heap.size ≤ wa10.heap.size := hHeld.size
        have dXY := BX.lt
        clear hHeld hK K
        have hHeld := hNew
        clear hNew
        try simp only [Act.put, PA, PB]
        have gYhm := hm.size
        refine at_anyH (fun v => GB (fun _ => False) V4 v ∧ BK v (wa0.heap.size) [.int .i64 y1l, .slice y1K y1n y1c, .slice y1Z y1m y1z, .int .i64 y0l, .slice y0K y0n y0c, .slice y0Z y0m y0z] ∧ BK v (wa10.heap.size) [.slice none 0 0] ∧ Mid wa9.heap.size wa10 v) ⟨hHeld, BX.al _, BK.new _ _ _, hm.al _⟩ (fun wa15 hS => ?_)
        clear hHeld BX hm
        obtain ⟨hHeld, BX, BY, hm⟩ := hS
        refine wpAnyH_ready (rs := [15]) (by kernel_rfl) (by simp) (AllReadyH.cons (o := _) rfl (fun K hK => ?_) AllReadyH.nil)
        have n0 := BY.c 0 rfl
        have f0 := BY.f 0 rfl
        go_simp
        clear n0 f0
        refine hK.out _ _ (hHeld.set (.inr hY) _) (fun hNew => ?_)
        clear hHeld hK K
        have hHeld := hNew
        clear hNew
        try simp only [Act.put, PA, PB]
        refine at_anyH (fun v => GB (fun _ => False) V4 v ∧ BK v (wa0.heap.size) [.int .i64 y1l, .slice y1K y1n y1c, .slice y1Z y1m y1z, .int .i64 y0l, .slice y0K y0n y0c, .slice y0Z y0m y0z] ∧ BK v (wa10.heap.size) [.slice (some ⟨Db, 0, none⟩) 2 2] ∧ Mid wa9.heap.size wa10 v) ⟨hHeld, (BX.far (by omega) _ _), (BY.set 0 _), (hm.set (by omega) _)⟩ (fun wa16 hS => ?_)
        clear hHeld BX BY hm
        obtain ⟨hHeld, BX, BY, hm⟩ := hS
        refine wpAnyH_take (i := 16) (oi := _) (v := ?va17) rfl (by kernel_rfl) (by kernel_rfl) (by kernel_rfl) (fun _ _ _ h => h) (Or.inl ⟨by kernel_rfl, ?hya17⟩) hHeld ?resta17
        case hya17 => (intro w hSw; go_simp; first | done | (with_reducible rfl))
        try simp only [Act.put, PA, PB]
        refine wpAnyH_take (i := 17) (oi := _) (v := ?va18) rfl (by kernel_rfl) (by kernel_rfl) (by kernel_rfl) (fun _ _ _ h => h) (Or.inl ⟨by kernel_rfl, ?hya18⟩) hHeld ?resta18
        case hya18 => (intro w hSw; go_simp; first | done | (with_reducible rfl))
        try simp only [Act.put, PA, PB]
        refine wpAnyH_done (by kernel_rfl) ?_ _
        go_wp2_with fail
        go_meet
        exact ⟨_, Db, gb, kb, rfl, rfl, BY, (hdb.mid hm).mono (Nat.zero_le _), hHeld.toBelow (Below.refl _ _) (fun k hk => hk.elim) (Nat.le_refl _)⟩
      ·
        go_simp
        refine hK.out _ _ (hHeld.al _) (fun hNew => ?_)
        have hY : V4.heap.size ≤ wa9.heap.size := hHeld.size
        have dXY := BX.lt
        clear hHeld hK K
        have hHeld := hNew
        clear hNew
        try simp only [Act.put, PA, PB]
        refine at_anyH (fun v => GB (fun _ => False) V4 v ∧ BK v (wa0.heap.size) [.int .i64 y1l, .slice y1K y1n y1c, .slice y1Z y1m y1z, .int .i64 y0l, .slice y0K y0n y0c, .slice y0Z y0m y0z] ∧ BK v (wa9.heap.size) [.slice none 0 0]) ⟨hHeld, BX.al _, BK.new _ _ _⟩ (fun wa19 hS => ?_)
        clear hHeld BX
        obtain ⟨hHeld, BX, BY⟩ := hS
        refine wpAnyH_ready (rs := [9]) (by kernel_rfl) (by simp) (AllReadyH.cons (o := _) rfl (fun K hK => ?_) AllReadyH.nil)
        go_simp
        refine (R2.out wa19 (wa0.heap.size) (HCS.out _ _ BX (HI0.out.keep (keepB hbb (hHeld.toBelow (Below.refl _ _) (fun k hk => hk.elim) (Nat.le_refl _)))) (HI1.out.keep (keepB hbb (hHeld.toBelow (Below.refl _ _) (fun k hk => hk.elim) (Nat.le_refl _)))))).mono ?_
        rintro e wa20 hrun
        unfold RunQ at hrun
        obtain ⟨Db, gb, kb, Qb, nb, cqb, rfl, hb3, hnb, hqb, hdb⟩ := hrun
        clear hnb hqb
        have hm := Mid.refl wa19.heap.size wa20
        have hvw := hHeld.size
        go_wp2_with fail
        refine hK.out _ _ (hHeld.below hb3) (fun hNew => ?_)
        have cX := BX.lt
        replace BX := BX.keep hb3
        have cY := BY.lt
        replace BY := BY.keep hb3
        clear hb3
        clear hHeld hK K
        have hHeld := hNew
        clear hNew
        try simp only [Act.put, PA, PB]
        refine wpAnyH_take (i := 10) (oi := _) (v := ?va21) rfl (by kernel_rfl) (by kernel_rfl) (by kernel_rfl) (fun _ _ _ h => h) (Or.inl ⟨by kernel_rfl, ?hya21⟩) hHeld ?resta21
        case hya21 => (intro w hSw; go_simp; first | done | (with_reducible rfl))
        try simp only [Act.put, PA, PB]
        refine wpAnyH_take (i := 11) (oi := _) (v := ?va22) rfl (by kernel_rfl) (by kernel_rfl) (by kernel_rfl) (fun _ _ _ h => h) (Or.inl ⟨by kernel_rfl, ?hya22⟩) hHeld ?resta22
        case hya22 => (intro w hSw; go_simp; first | done | (with_reducible rfl))
        try simp only [Act.put, PA, PB]
        refine wpAnyH_take (i := 12) (oi := _) (v := ?va23) rfl (by kernel_rfl) (by kernel_rfl) (by kernel_rfl) (fun _ _ _ h => h) (Or.inl ⟨by kernel_rfl, ?hya23⟩) hHeld ?resta23
        case hya23 => (intro w hSw; go_simp; first | done | (with_reducible rfl))
        try simp only [Act.put, PA, PB]
        refine wpAnyH_take (i := 13) (oi := _) (v := ?va24) rfl (by kernel_rfl) (by kernel_rfl) (by kernel_rfl) (fun _ _ _ h => h) (Or.inl ⟨by kernel_rfl, ?hya24⟩) hHeld ?resta24
        case hya24 => (intro w hSw; go_simp; first | done | (with_reducible rfl))
        try simp only [Act.put, PA, PB]
        refine wpAnyH_ready (rs := [15]) (by kernel_rfl) (by simp) (AllReadyH.cons (o := _) rfl (fun K hK => ?_) AllReadyH.nil)
        have n0 := BY.c 0 rfl
        have f0 := BY.f 0 rfl
        go_simp
        clear n0 f0
        refine hK.out _ _ (hHeld.set (.inr hY) _) (fun hNew => ?_)
        clear hHeld hK K
        have hHeld := hNew
        clear hNew
        try simp only [Act.put, PA, PB]
        refine at_anyH (fun v => GB (fun _ => False) V4 v ∧ BK v (wa0.heap.size) [.int .i64 y1l, .slice y1K y1n y1c, .slice y1Z y1m y1z, .int .i64 y0l, .slice y0K y0n y0c, .slice y0Z y0m y0z] ∧ BK v (wa9.heap.size) [.slice (some ⟨Db, 0, none⟩) 2 2] ∧ Mid wa19.heap.size wa20 v) ⟨hHeld, (BX.far (by omega) _ _), (BY.set 0 _), (hm.set (by omega) _)⟩ (fun wa25 hS => ?_)
        clear hHeld BX BY hm
        obtain ⟨hHeld, BX, BY, hm⟩ := hS
        refine wpAnyH_take (i := 16) (oi := _) (v := ?va26) rfl (by kernel_rfl) (by kernel_rfl) (by kernel_rfl) (fun _ _ _ h => h) (Or.inl ⟨by kernel_rfl, ?hya26⟩) hHeld ?resta26
        case hya26 => (intro w hSw; go_simp; first | done | (with_reducible rfl))
        try simp only [Act.put, PA, PB]
        refine wpAnyH_take (i := 17) (oi := _) (v := ?va27) rfl (by kernel_rfl) (by kernel_rfl) (by kernel_rfl) (fun _ _ _ h => h) (Or.inl ⟨by kernel_rfl, ?hya27⟩) hHeld ?resta27
        case hya27 => (intro w hSw; go_simp; first | done | (with_reducible rfl))
        try simp only [Act.put, PA, PB]
        refine wpAnyH_done (by kernel_rfl) ?_ _
        go_wp2_with fail
        go_meet
        exact ⟨_, Db, gb, kb, rfl, rfl, BY, (hdb.mid hm).mono (Nat.zero_le _), hHeld.toBelow (Below.refl _ _) (fun k hk => hk.elim) (Nat.le_refl _)⟩
    ·
      go_simp
      refine hK.out _ _ (hHeld.al _) (fun hNew => ?_)
      have hY : V4.heap.size ≤ wa0.heap.size := hHeld.size
      clear hHeld hK K
      have hHeld := hNew
      clear hNew
      try simp only [Act.put, PA, PB]
      refine at_anyH (fun v => GB (fun _ => False) V4 v ∧ BK v (wa0.heap.size) [.slice none 0 0]) ⟨hHeld, BK.new _ _ _⟩ (fun wa28 hS => ?_)
      clear hHeld
      obtain ⟨hHeld, BY⟩ := hS
      refine wpAnyH_ready (rs := [6]) (by kernel_rfl) (by simp) (AllReadyH.cons (o := _) rfl (fun K hK => ?_) AllReadyH.nil)
      go_simp
      refine hK.out _ _ (hHeld.al _) (fun hNew => ?_)
      have hX : V4.heap.size ≤ wa28.heap.size := hHeld.size
      have dYX := BY.lt
      clear hHeld hK K
      have hHeld := hNew
      clear hNew
      try simp only [Act.put, PA, PB]
      refine at_anyH (fun v => GB (fun _ => False) V4 v ∧ BK v (wa0.heap.size) [.slice none 0 0] ∧ BK v (wa28.heap.size) [.int .i64 y1l, .slice y1K y1n y1c, .slice y1Z y1m y1z, .int .i64 y0l, .slice y0K y0n y0c, .slice y0Z y0m y0z]) ⟨hHeld, BY.al _, BK.new _ _ _⟩ (fun wa29 hS => ?_)
      clear hHeld BY
      obtain ⟨hHeld, BY, BX⟩ := hS
      refine wpAnyH_ready (rs := [9]) (by kernel_rfl) (by simp) (AllReadyH.cons (o := _) rfl (fun K hK => ?_) AllReadyH.nil)
      go_simp
      refine (R2.out wa29 (wa28.heap.size) (HCS.out _ _ BX (HI0.out.keep (keepB hbb (hHeld.toBelow (Below.refl _ _) (fun k hk => hk.elim) (Nat.le_refl _)))) (HI1.out.keep (keepB hbb (hHeld.toBelow (Below.refl _ _) (fun k hk => hk.elim) (Nat.le_refl _)))))).mono ?_
      rintro e wa30 hrun
      unfold RunQ at hrun
      obtain ⟨Db, gb, kb, Qb, nb, cqb, rfl, hb3, hnb, hqb, hdb⟩ := hrun
      clear hnb hqb
      have hm := Mid.refl wa29.heap.size wa30
      have hvw := hHeld.size
      go_wp2_with fail
      refine hK.out _ _ (hHeld.below hb3) (fun hNew => ?_)
      have cY := BY.lt
      replace BY := BY.keep hb3
      have cX := BX.lt
      replace BX := BX.keep hb3
      clear hb3
      clear hHeld hK K
      have hHeld := hNew
      clear hNew
      try simp only [Act.put, PA, PB]
      refine wpAnyH_take (i := 10) (oi := _) (v := ?va31) rfl (by kernel_rfl) (by kernel_rfl) (by kernel_rfl) (fun _ _ _ h => h) (Or.inl ⟨by kernel_rfl, ?hya31⟩) hHeld ?resta31
      case hya31 => (intro w hSw; go_simp; first | done | (with_reducible rfl))
      try simp only [Act.put, PA, PB]
      refine wpAnyH_take (i := 11) (oi := _) (v := ?va32) rfl (by kernel_rfl) (by kernel_rfl) (by kernel_rfl) (fun _ _ _ h => h) (Or.inl ⟨by kernel_rfl, ?hya32⟩) hHeld ?resta32
      case hya32 => (intro w hSw; go_simp; first | done | (with_reducible rfl))
      try simp only [Act.put, PA, PB]
      refine wpAnyH_take (i := 12) (oi := _) (v := ?va33) rfl (by kernel_rfl) (by kernel_rfl) (by kernel_rfl) (fun _ _ _ h => h) (Or.inl ⟨by kernel_rfl, ?hya33⟩) hHeld ?resta33
      case hya33 => (intro w hSw; go_simp; first | done | (with_reducible rfl))
      try simp only [Act.put, PA, PB]
      refine wpAnyH_take (i := 13) (oi := _) (v := ?va34) rfl (by kernel_rfl) (by kernel_rfl) (by kernel_rfl) (fun _ _ _ h => h) (Or.inl ⟨by kernel_rfl, ?hya34⟩) hHeld ?resta34
      case hya34 => (intro w hSw; go_simp; first | done | (with_reducible rfl))
      try simp only [Act.put, PA, PB]
      refine wpAnyH_ready (rs := [15]) (by kernel_rfl) (by simp) (AllReadyH.cons (o := _) rfl (fun K hK => ?_) AllReadyH.nil)
      have n0 := BY.c 0 rfl
      have f0 := BY.f 0 rfl
      go_simp
      clear n0 f0
      refine hK.out _ _ (hHeld.set (.inr hY) _) (fun hNew => ?_)
      clear hHeld hK K
      have hHeld := hNew
      clear hNew
      try simp only [Act.put, PA, PB]
      refine at_anyH (fun v => GB (fun _ => False) V4 v ∧ BK v (wa0.heap.size) [.slice (some ⟨Db, 0, none⟩) 2 2] ∧ BK v (wa28.heap.size) [.int .i64 y1l, .slice y1K y1n y1c, .slice y1Z y1m y1z, .int .i64 y0l, .slice y0K y0n y0c, .slice y0Z y0m y0z] ∧ Mid wa29.heap.size wa30 v) ⟨hHeld, (BY.set 0 _), (BX.far (by omega) _ _), (hm.set (by omega) _)⟩ (fun wa35 hS => ?_)
      clear hHeld BY BX hm
      obtain ⟨hHeld, BY, BX, hm⟩ := hS
      refine wpAnyH_take (i := 16) (oi := _) (v := ?va36) rfl (by kernel_rfl) (by kernel_rfl) (by kernel_rfl) (fun _ _ _ h => h) (Or.inl ⟨by kernel_rfl, ?hya36⟩) hHeld ?resta36
      case hya36 => (intro w hSw; go_simp; first | done | (with_reducible rfl))
      try simp only [Act.put, PA, PB]
      refine wpAnyH_take (i := 17) (oi := _) (v := ?va37) rfl (by kernel_rfl) (by kernel_rfl) (by kernel_rfl) (fun _ _ _ h => h) (Or.inl ⟨by kernel_rfl, ?hya37⟩) hHeld ?resta37
      case hya37 => (intro w hSw; go_simp; first | done | (with_reducible rfl))
      try simp only [Act.put, PA, PB]
      refine wpAnyH_done (by kernel_rfl) ?_ _
      go_wp2_with fail
      go_meet
      exact ⟨_, Db, gb, kb, rfl, rfl, BY, (hdb.mid hm).mono (Nat.zero_le _), hHeld.toBelow (Below.refl _ _) (fun k hk => hk.elim) (Nat.le_refl _)⟩
  case rest =>
    obtain ⟨pb, R, h0, h1, rfl, rfl, Bb, Eb, hb⟩ := hcut
    clear u0 u1 u2 v0 v1 v2
    replace Ba := Ba.keep hb
    replace Ea := Ea.call hb
    replace hbb := keepB hbb hb
    clear hb
    have da := Ba.c 0 rfl
    have e0 : ((0 : Int) != 0) = false := rfl
    have e2 : ((2 : Int) != 2) = false := rfl
    go_upto_region 7 with fail
    clear da e0 e2
    refine at_worldQ (fun v => Below w.heap.size w v ∧ w.heap.size ≤ v.heap.size ∧ BK v pa [.slice (some ⟨Da, 0, none⟩) 2 2] ∧ DivB 0 Da ga0 ga1 a0 b0 c0 d0 a1 b1 c1 d1 v ∧ BK v pb [.slice (some ⟨R, 0, none⟩) 2 2] ∧ DivB 0 R h0 h1 a1 b1 c1 d1 a0 b0 c0 d0 v) ⟨hbb, Below.size (B := w.heap.size) (w := w) hbb, Ba, Ea, Bb, Eb⟩ (fun V7 hS => ?_)
    clear hbb Ba Ea Bb Eb hBV
    obtain ⟨hbb, hBV, Ba, Ea, Bb, Eb⟩ := hS
    have da := Ba.c 0 rfl
    have db := Bb.c 0 rfl
    have s0 := Ea.p.c 0 rfl
    have s1 := Ea.p.c 1 rfl
    refine wp_region_noPanic ?_
    refine wp_region_held_drew (S := (GB (fun _ => False) V7)) (by kernel_rfl) ((GB.refl _ _).drew) (fun hHeld => ?_)
    refine at_anyH (fun v => GB (fun _ => False) V7 v) hHeld (fun wb0 hNew => ?_)
    clear hHeld
    have hHeld := hNew
    clear hNew
    refine wpAnyH_take (i := 0) (oi := _) (v := ?vb1) rfl (by kernel_rfl) (by kernel_rfl) (by kernel_rfl) (fun _ _ _ h => h) (Or.inl ⟨by kernel_rfl, ?hyb1⟩) hHeld ?restb1
    case hyb1 => (intro w hSw; have ks0 := hSw.cell (fun h => h) s0; have ks1 := hSw.cell (fun h => h) s1; have kda := hSw.cell (fun h => h) da; have kdb := hSw.cell (fun h => h) db; go_simp; first | done | (with_reducible rfl))
    try simp only [Act.put, PA, PB]
    refine wpAnyH_take (i := 1) (oi := _) (v := ?vb2) rfl (by kernel_rfl) (by kernel_rfl) (by kernel_rfl) (fun _ _ _ h => h) (Or.inl ⟨by kernel_rfl, ?hyb2⟩) hHeld ?restb2
    case hyb2 => (intro w hSw; go_simp; first | done | (with_reducible rfl))
    try simp only [Act.put, PA, PB]
    refine wpAnyH_take (i := 2) (oi := _) (v := ?vb3) rfl (by kernel_rfl) (by kernel_rfl) (by kernel_rfl) (fun _ _ _ h => h) (Or.inl ⟨by kernel_rfl, ?hyb3⟩) hHeld ?restb3
    case hyb3 => (intro w hSw; have ks0 := hSw.cell (fun h => h) s0; have ks1 := hSw.cell (fun h => h) s1; have kda := hSw.cell (fun h => h) da; have kdb := hSw.cell (fun h => h) db; go_simp; first | done | (with_reducible rfl))
    try simp only [Act.put, PA, PB]
    refine wpAnyH_take (i := 3) (oi := _) (v := ?vb4) rfl (by kernel_rfl) (by kernel_rfl) (by kernel_rfl) (fun _ _ _ h => h) (Or.inl ⟨by kernel_rfl, ?hyb4⟩) hHeld ?restb4
    case hyb4 => (intro w hSw; go_simp; first | done | (with_reducible rfl))
    try simp only [Act.put, PA, PB]
    refine wpAnyH_take (i := 4) (oi := _) (v := ?vb5) rfl (by kernel_rfl) (by kernel_rfl) (by kernel_rfl) (fun _ _ _ h => h) (Or.inl ⟨by kernel_rfl, ?hyb5⟩) hHeld ?restb5
    case hyb5 => (intro w hSw; have ks0 := hSw.cell (fun h => h) s0; have ks1 := hSw.cell (fun h => h) s1; have kda := hSw.cell (fun h => h) da; have kdb := hSw.cell (fun h => h) db; go_simp; first | done | (with_reducible rfl))
    try simp only [Act.put, PA, PB]
    refine wpAnyH_take (i := 5) (oi := _) (v := ?vb6) rfl (by kernel_rfl) (by kernel_rfl) (by kernel_rfl) (fun _ _ _ h => h) (Or.inl ⟨by kernel_rfl, ?hyb6⟩) hHeld ?restb6
    case hyb6 => (intro w hSw; go_simp; first | done | (with_reducible rfl))
    try simp only [Act.put, PA, PB]
    refine wpAnyH_take (i := 6) (oi := _) (v := ?vb7) rfl (by kernel_rfl) (by kernel_rfl) (by kernel_rfl) (fun _ _ _ h => h) (Or.inl ⟨by kernel_rfl, ?hyb7⟩) hHeld ?restb7
    case hyb7 => (intro w hSw; have ks0 := hSw.cell (fun h => h) s0; have ks1 := hSw.cell (fun h => h) s1; have kda := hSw.cell (fun h => h) da; have kdb := hSw.cell (fun h => h) db; go_simp; first | done | (with_reducible rfl))
    try simp only [Act.put, PA, PB]
    refine wpAnyH_take (i := 7) (oi := _) (v := ?vb8) rfl (by kernel_rfl) (by kernel_rfl) (by kernel_rfl) (fun _ _ _ h => h) (Or.inl ⟨by kernel_rfl, ?hyb8⟩) hHeld ?restb8
    case hyb8 => (intro w hSw; go_simp; first | done | (with_reducible rfl))
    try simp only [Act.put, PA, PB]
    refine wpAnyH_take (i := 8) (oi := _) (v := ?vb9) rfl (by kernel_rfl) (by kernel_rfl) (by kernel_rfl) (fun _ _ _ h => h) (Or.inl ⟨by kernel_rfl, ?hyb9⟩) hHeld ?restb9
    case hyb9 => (intro w hSw; have ks0 := hSw.cell (fun h => h) s0; have ks1 := hSw.cell (fun h => h) s1; have kda := hSw.cell (fun h => h) da; have kdb := hSw.cell (fun h => h) db; go_simp; first | done | (with_reducible rfl))
    try simp only [Act.put, PA, PB]
    refine wpAnyH_ready (rs := [9]) (by kernel_rfl) (by simp) (AllReadyH.cons (o := _) rfl (fun K hK => ?_) AllReadyH.nil)
    go_simp
    refine hK.out _ _ (hHeld.al _) (fun hNew => ?_)
    have hX : V7.heap.size ≤ wb0.heap.size := hHeld.size
    clear hHeld hK K
    have hHeld := hNew
    clear hNew
    try simp only [Act.put, PA, PB]
    refine at_anyH (fun v => GB (fun _ => False) V7 v ∧ BK v (wb0.heap.size) [.slice (some ⟨ga1, 0, none⟩) 1 1, .slice (some ⟨ga0, 0, none⟩) 1 1]) ⟨hHeld, BK.new _ _ _⟩ (fun wb10 hS => ?_)
    clear hHeld
    obtain ⟨hHeld, BX⟩ := hS
    refine wpAnyH_take (i := 10) (oi := _) (v := ?vb11) rfl (by kernel_rfl) (by kernel_rfl) (by kernel_rfl) (fun _ _ _ h => h) (Or.inl ⟨by kernel_rfl, ?hyb11⟩) hHeld ?restb11
    case hyb11 => (intro w hSw; go_simp; first | done | (with_reducible rfl))
    try simp only [Act.put, PA, PB]
    refine wpAnyH_ready (rs := [11]) (by kernel_rfl) (by simp) (AllReadyH.cons (o := _) rfl (fun K hK => ?_) AllReadyH.nil)
    go_simp
    refine (sameDiv_eq R (wb0.heap.size) 0 0 h0 h1 ga1 ga0 _ _ _ _ _ _ _ _ _ (Eb.call (hHeld.toBelow (Below.refl _ _) (fun k hk => hk.elim) (Nat.le_refl _))) ⟨Nat.zero_le _, Nat.zero_le _, Nat.zero_le _, BX, Ea.s1.keep (hHeld.toBelow (Below.refl _ _) (fun k hk => hk.elim) (Nat.le_refl _)), Ea.s0.keep (hHeld.toBelow (Below.refl _ _) (fun k hk => hk.elim) (Nat.le_refl _))⟩).mono ?_
    rintro e wb12 ⟨rfl, hb3⟩
    go_wp2_with fail
    refine hK.out _ _ (hHeld.below hb3) (fun hNew => ?_)
    replace BX := BX.keep hb3
    clear hb3
    clear hHeld hK K
    have hHeld := hNew
    clear hNew
    try simp only [Act.put, PA, PB]
    refine wpAnyH_take (i := 12) (oi := _) (v := ?vb13) rfl (by kernel_rfl) (by kernel_rfl) (by kernel_rfl) (fun _ _ _ h => h) (Or.inl ⟨by kernel_rfl, ?hyb13⟩) hHeld ?restb13
    case hyb13 => (intro w hSw; go_simp; first | done | (with_reducible rfl))
    try simp only [Act.put, PA, PB]
    refine wpAnyH_ready (rs := [13]) (by kernel_rfl) (by simp) (AllReadyH.cons (o := _) rfl (fun K hK => ?_) AllReadyH.nil)
    go_simp
    refine (alive7_any _).mono ?_
    rintro e wb14 ⟨rfl, hb3⟩
    go_wp2_with fail
    refine hK.out _ _ (hHeld.below hb3) (fun hNew => ?_)
    replace BX := BX.keep hb3
    clear hb3
    clear hHeld hK K
    have hHeld := hNew
    clear hNew
    try simp only [Act.put, PA, PB]
    refine wpAnyH_take (i := 14) (oi := _) (v := ?vb15) rfl (by kernel_rfl) (by kernel_rfl) (by kernel_rfl) (fun _ _ _ h => h) (Or.inl ⟨by kernel_rfl, ?hyb15⟩) hHeld ?restb15
    case hyb15 => (intro w hSw; go_simp; first | done | (with_reducible rfl))
    try simp only [Act.put, PA, PB]
    refine wpAnyH_take (i := 15) (oi := _) (v := ?vb16) rfl (by kernel_rfl) (by kernel_rfl) (by kernel_rfl) (fun _ _ _ h => h) (Or.inl ⟨by kernel_rfl, ?hyb16⟩) hHeld ?restb16
    case hyb16 => (intro w hSw; go_simp; first | done | (with_reducible rfl))
    try simp only [Act.put, PA, PB]
    refine wpAnyH_done (by kernel_rfl) ?_ _
    refine NoPanic.normal ?_
    skip
    have hbb2 := hHeld.toBelow hbb (fun k hk => hk.elim) hBV
    go_wp2_with fail
    go_ret
    exact ⟨rfl, hbb2⟩
set_option linter.unusedSimpArgs false in
set_option maxHeartbeats 8000000 in
set_option maxRecDepth 100000 in
theorem turned_walk (A : Option Addr) (ca : Nat) (cs : List CkR) (K : Int) (w : World) (h : IsCs w A cs) (k0 : -9223372036854775808 ≤ K) (k1 : K ≤ 9223372036854775807) :
    Calls Try.prog 8 #[.slice A cs.length ca, .int .i64 K] w fun e w' => e = .returned (.bool true) ∧ Below w.heap.size w w' := by
  by_cases hf : Ch.fitP (cs.map Ak.dat) K = true
  · obtain ⟨_, hl, hk⟩ := Ch.fit_of hf
    rw [List.length_map] at hl
    obtain ⟨x0, x1, rfl⟩ : ∃ x0 x1, cs = [x0, x1] := by
      match cs, hl with
      | [a, b], _ => exact ⟨a, b, rfl⟩
    rcases hk with rfl | rfl
    · exact turned_fit0 A ca x0 x1 w h hf
    · exact turned_fit1 A ca x0 x1 w h hf
  · have ft := fit_any A ca cs K w h
    rw [Bool.not_eq_true] at hf
    rw [hf] at ft
    have FT := Lib.hid ft
    clear ft hf h
    go_enter Try.func8, Try.ntmps8
    go_wp2_with fail
    refine FT.out.mono ?_
    rintro e w1 ⟨rfl, hb⟩
    go_wp2_with fail
    refine (alive7_any _).mono ?_
    rintro e w2 ⟨rfl, hb2⟩
    go_wp2_with fail
    go_ret
    exact ⟨rfl, keepB hb hb2⟩
end Go.Proofs.Ytaaamcleilpnhaa

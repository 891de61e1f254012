/- A struct of two numbers, out of a list of cells. Slices of cakes and of queries, as arguments that are opened. Desks, as arguments that are opened. The reference's Check of desks. What the law AskPrivate wants of the answers of a desk. What the law of package choose asks: Same of equal pieces, two, piece. Package choose: the steps and the run of two valid cakes, as functions of the cutter's and the chooser's cake. What the law of package choose asks: alive. What the law of package choose asks: Cakes, fit. Package choose: Check, Next, Division, Start of valid states. What ChooseLine asks of valid states. The walk of the law ChooseLine: it answers true. -/
import Derived.Test.YtaaamcleilpnhaaOpen
import Derived.Test.YtaaamcleilpnhaaAskm
import Derived.Test.YtaaamcleilpnhaaAskc
import Derived.Test.YtaaamcleilpnhaaRcheck
import Derived.Test.YtaaamcleilpnhaaSd
import Derived.Test.YtaaamcleilpnhaaAskop
import Derived.Test.YtaaamcleilpnhaaAskt
import Derived.Test.YtaaamcleilpnhaaKb
namespace Go.Proofs.Ytaaamcleilpnhaa
open Go.ChangeShapes Go.WideShapes Go.ChangeAt Go.RowKit Go.Joins Go.Deep
section
variable {H : Type} {enc : TypeId × Value → H} {P : Program} {w : World} {base : Nat} {spare : Nat → Bool} {held : Bool}
/-- A struct of two numbers, out of a list of cells. -/
theorem trod_two {t u : TypeId} {f0 f1 : Field} {n : Nat} {cs : List Value} {y : DataW H × List MemPlace} (he : P.underlying t = some (.struct #[f0, f1])) (h0 : f0.type = u ∧ f0.offset = 0) (h1 : f1.type = u ∧ f1.offset = 1)
    (hu : P.underlying u = some (.int .i64)) (hc : P.cellsOf u = 1) (hC : P.cellsOf t = 2) (h : DataW.trod enc P w base spare held n t cs = some y) : ∃ a b, cs = [.int .i64 a, .int .i64 b] ∧ I64 a ∧ I64 b := by
  obtain ⟨ys, n', _, _, hl, hyl, hf⟩ := DataW.trod_struct he h
  rw [hC] at hl
  have g0 := hf 0 f0 rfl
  have g1 := hf 1 f1 rfl
  rw [h0.1, h0.2, hc] at g0
  rw [h1.1, h1.2, hc] at g1
  match cs, hl with
  | [c0, c1], _ =>
    have hyl' : ys.length = 2 := hyl
    rw [List.getElem?_eq_getElem (show 0 < ys.length by omega)] at g0
    rw [List.getElem?_eq_getElem (show 1 < ys.length by omega)] at g1
    obtain ⟨a, ea, _, wa⟩ := DataW.trod_int hu g0
    obtain ⟨b, eb, _, wb⟩ := DataW.trod_int hu g1
    simp at ea eb
    subst ea eb
    exact ⟨a, b, rfl, wf_i64 wa, wf_i64 wb⟩
end
end Go.Proofs.Ytaaamcleilpnhaa
namespace Go.Proofs.Ytaaamcleilpnhaa
open Go.ChangeShapes Go.WideShapes Go.ChangeAt Go.RowKit Go.Joins Go.Deep
theorem wf_u8 {a : Int} (h : (Lit.int .u8 a).wf = true) : 0 ≤ a ∧ a ≤ 255 := by
  simp [Lit.wf, IntKind.min, IntKind.max, IntKind.signed, IntKind.bits] at h
  omega
section
variable {H : Type} {enc : TypeId × Value → H} {P : Program} {w : World} {base : Nat} {spare : Nat → Bool} {held : Bool}
theorem open_cakes_any {t e s u : TypeId} {f0 f1 f2 : Field} {fuel : Nat} {cs : List Value} {x : DataW H × List MemPlace} (ht : P.underlying t = some (.slice e)) (he : P.underlying e = some (.struct #[f0, f1, f2]))
    (hone : oneCellFields P #[f0, f1, f2] = true) (hC : P.cellsOf e = 3) (h0 : f0.type = u) (h1 : f1.type = s) (h2 : f2.type = s) (hs : P.underlying s = some (.slice u)) (hu : P.underlying u = some (.int .i64)) (hcu : P.cellsOf u = 1)
    (h : DataW.trod enc P w base spare held fuel t cs = some x) : ∃ A len cap xs, cs = [.slice A len cap] ∧ xs.length = len ∧ len ≤ cap ∧ cap ≤ maxLen ∧ IsCs w A xs := by
  rcases open_slice_fields ht he hone hC h with ⟨rfl, _⟩ | ⟨a, len, cap, m, D, Pl, rfl, hb, hl, hm, hmm, hx, hi⟩
  · exact ⟨none, 0, 0, [], rfl, rfl, Nat.le_refl _, by unfold maxLen; omega, isC_nil w none⟩
  · have hml : len ≤ m := by rw [hmm]; split <;> omega
    have key : ∀ i, i < len → ∃ c : CkR, IsC w c ∧ w.cell? (a.add (i * 3)) = some (.int .i64 c.len) ∧ w.cell? (a.add (i * 3 + 1)) = some (.slice c.K c.cuts.length c.ck) ∧ w.cell? (a.add (i * 3 + 2)) = some (.slice c.Z c.dens.length c.cz) := by
      intro i hlt
      obtain ⟨ys, n, _, _, _, hf⟩ := hi i (by omega)
      obtain ⟨v0, y0, c0, _, t0⟩ := hf 0 f0 rfl
      obtain ⟨v1, y1, c1, _, t1⟩ := hf 1 f1 rfl
      obtain ⟨v2, y2, c2, _, t2⟩ := hf 2 f2 rfl
      rw [h0] at t0
      rw [h1] at t1
      rw [h2] at t2
      obtain ⟨n0, e0, _, w0⟩ := DataW.trod_int hu t0
      obtain ⟨K, ck, cuts, e1, l1, i1⟩ := open_ints_any hs hu hcu t1
      obtain ⟨Z, cz, dens, e2, l2, i2⟩ := open_ints_any hs hu hcu t2
      simp only [List.cons.injEq, and_true] at e0 e1 e2
      subst e0 e1 e2
      exact ⟨⟨n0, K, cuts, ck, Z, dens, cz⟩, ⟨wf_i64 w0, ⟨l1, l2⟩, i1, i2⟩, c0, c1, c2⟩
    obtain ⟨f, hf⟩ := choose_lt key
    have hat : ∀ i, i < len → Ak.cat ((List.range len).map f) i = f i := fun i hlt => by rw [Ak.cat_lt (by simpa using hlt)]; simp
    refine ⟨some a, len, cap, (List.range len).map f, rfl, by simp, hl, hm, ⟨fun hpos => ?_, ?_, by simp; omega⟩⟩
    · simp only [List.length_map, List.length_range] at hpos
      obtain ⟨b, off, spot⟩ := a
      have hspot : spot = none := by simpa [Addr.add] using World.cell?_spot (hf 0 hpos).2.1
      subst hspot
      refine ⟨b, off, rfl, fun i hlt => ?_⟩
      simp only [List.length_map, List.length_range] at hlt
      have := (hf i hlt).2
      rw [Addr.add_lit, Addr.add_lit, Addr.add_lit] at this
      rw [hat i hlt, Nat.add_assoc, Nat.add_assoc]
      exact this
    · intro p hp
      obtain ⟨i, hi', rfl⟩ := List.mem_map.1 hp
      exact (hf i (by simpa using hi')).1
theorem open_queries_any {t e r u k8 i8 : TypeId} {f0 f1 f2 f3 f4 g0 g1 : Field} {fuel : Nat} {cs : List Value} {x : DataW H × List MemPlace} (ht : P.underlying t = some (.slice e)) (he : P.underlying e = some (.struct #[f0, f1, f2, f3, f4])) (hr : P.underlying r = some (.struct #[g0, g1]))
    (hC : P.cellsOf e = 8) (hCr : P.cellsOf r = 2) (h0 : f0.type = i8 ∧ f0.offset = 0) (h1 : f1.type = k8 ∧ f1.offset = 1) (h2 : f2.type = r ∧ f2.offset = 2) (h3 : f3.type = r ∧ f3.offset = 4) (h4 : f4.type = r ∧ f4.offset = 6)
    (k0 : g0.type = u ∧ g0.offset = 0) (k1 : g1.type = u ∧ g1.offset = 1) (hu : P.underlying u = some (.int .i64)) (hcu : P.cellsOf u = 1) (hk8 : P.underlying k8 = some (.int .u8)) (hck : P.cellsOf k8 = 1) (hi8 : P.underlying i8 = some (.int .i64)) (hci : P.cellsOf i8 = 1)
    (h : DataW.trod enc P w base spare held fuel t cs = some x) : ∃ A len cap xs, cs = [.slice A len cap] ∧ xs.length = len ∧ len ≤ cap ∧ cap ≤ maxLen ∧ IsQs w A xs := by
  rcases open_slice ht h with ⟨rfl, _⟩ | ⟨a, len, cap, m, n, D, Pl, rfl, hb, hl, hm, hmm, hx, hi⟩
  · exact ⟨none, 0, 0, [], rfl, rfl, Nat.le_refl _, by unfold maxLen; omega, isQs_nil w none⟩
  · have hml : len ≤ m := by rw [hmm]; split <;> omega
    have key : ∀ i, i < len → ∃ q : Qr, Ak.Q64 q ∧ Ak.Q8 (fun j => w.cell? (a.add (i * 8 + j))) q := by
      intro i hlt
      obtain ⟨cs', hc, ht'⟩ := hi i (by omega)
      rw [hC] at hc
      obtain ⟨ys, n', _, _, hl8, hyl, hf⟩ := DataW.trod_struct he ht'
      obtain ⟨_, hcl, hat⟩ := World.cells?_some hc
      have t0 := hf 0 f0 rfl
      have t1 := hf 1 f1 rfl
      have t2 := hf 2 f2 rfl
      have t3 := hf 3 f3 rfl
      have t4 := hf 4 f4 rfl
      rw [h0.1, h0.2, hci] at t0
      rw [h1.1, h1.2, hck] at t1
      rw [h2.1, h2.2, hCr] at t2
      rw [h3.1, h3.2, hCr] at t3
      rw [h4.1, h4.2, hCr] at t4
      have hyl' : ys.length = 5 := hyl
      rw [List.getElem?_eq_getElem (show 0 < ys.length by omega)] at t0
      rw [List.getElem?_eq_getElem (show 1 < ys.length by omega)] at t1
      rw [List.getElem?_eq_getElem (show 2 < ys.length by omega)] at t2
      rw [List.getElem?_eq_getElem (show 3 < ys.length by omega)] at t3
      rw [List.getElem?_eq_getElem (show 4 < ys.length by omega)] at t4
      obtain ⟨ag, e0, _, w0⟩ := DataW.trod_int hi8 t0
      obtain ⟨kd, e1, _, w1⟩ := DataW.trod_int hk8 t1
      obtain ⟨p2, q2, e2, x2, z2⟩ := trod_two hr k0 k1 hu hcu hCr t2
      obtain ⟨p3, q3, e3, x3, z3⟩ := trod_two hr k0 k1 hu hcu hCr t3
      obtain ⟨p4, q4, e4, x4, z4⟩ := trod_two hr k0 k1 hu hcu hCr t4
      match cs', hcl with
      | [d0, d1, d2, d3, d4, d5, d6, d7], _ =>
        simp at e0 e1 e2 e3 e4
        subst e0 e1
        obtain ⟨rfl, rfl⟩ := e2
        obtain ⟨rfl, rfl⟩ := e3
        obtain ⟨rfl, rfl⟩ := e4
        have a0 := hat 0 (by omega)
        have a1 := hat 1 (by omega)
        have a2 := hat 2 (by omega)
        have a3 := hat 3 (by omega)
        have a4 := hat 4 (by omega)
        have a5 := hat 5 (by omega)
        have a6 := hat 6 (by omega)
        have a7 := hat 7 (by omega)
        rw [Go.Deep.add_add] at a0 a1 a2 a3 a4 a5 a6 a7
        exact ⟨⟨ag, kd, p2, q2, p3, q3, p4, q4⟩, ⟨wf_i64 w0, wf_u8 w1, x2, z2, x3, z3, x4, z4⟩, a0, a1, a2, a3, a4, a5, a6, a7⟩
    obtain ⟨f, hf⟩ := choose_lt key
    have hat : ∀ i, i < len → Ak.qat ((List.range len).map f) i = f i := fun i hlt => by rw [Ak.qat_lt (by simpa using hlt)]; simp
    refine ⟨some a, len, cap, (List.range len).map f, rfl, by simp, hl, hm, ⟨fun hpos => ?_, ?_, by simp; omega⟩⟩
    · simp only [List.length_map, List.length_range] at hpos
      obtain ⟨b, off, spot⟩ := a
      have hspot : spot = none := by simpa [Addr.add] using World.cell?_spot (hf 0 hpos).2.1
      subst hspot
      refine ⟨b, off, rfl, fun i hlt => ?_⟩
      simp only [List.length_map, List.length_range] at hlt
      have := (hf i hlt).2
      simp only [Addr.add_lit] at this
      rw [hat i hlt]
      simp only [Nat.add_assoc]
      exact this
    · intro p hp
      obtain ⟨i, hi', rfl⟩ := List.mem_map.1 hp
      exact (hf i (by simpa using hi')).1
end
section
variable {H : Type} {enc : TypeId × Value → H} {w : World} {base : Nat} {spare : Nat → Bool} {held : Bool}
set_option maxRecDepth 100000 in
theorem open_cakes {r : Reach} {b0 : Nat} {v : Value} {d : DataW H} {p : List MemPlace} (hv : Value.okWide Try.prog w r b0 45 v) (h : DataW.Trod enc Try.prog w base spare held 45 v d p) :
    ∃ A cap xs, v = .slice A xs.length cap ∧ IsCs w A xs := by
  obtain ⟨a, len, cap, rfl⟩ := okWide_slice Try.underlying45 hv
  obtain ⟨fuel, hf⟩ := h
  obtain ⟨A, len', cap', xs, hcs, hl, h1, h2, hx⟩ := open_cakes_any Try.underlying45 Try.underlying33 (by kernel_rfl) cellsCake rfl rfl rfl Try.underlying31 Try.underlying3 cellsInt hf
  simp [Value.cells] at hcs
  obtain ⟨rfl, rfl, rfl⟩ := hcs
  subst hl
  exact ⟨a, cap, xs, rfl, hx⟩
set_option maxRecDepth 100000 in
theorem open_queries {r : Reach} {b0 : Nat} {v : Value} {d : DataW H} {p : List MemPlace} (hv : Value.okWide Try.prog w r b0 47 v) (h : DataW.Trod enc Try.prog w base spare held 47 v d p) :
    ∃ A cap xs, v = .slice A xs.length cap ∧ IsQs w A xs := by
  obtain ⟨a, len, cap, rfl⟩ := okWide_slice Try.underlying47 hv
  obtain ⟨fuel, hf⟩ := h
  obtain ⟨A, len', cap', xs, hcs, hl, h1, h2, hx⟩ := open_queries_any Try.underlying47 Try.underlying59 Try.underlying23 (by kernel_rfl) cellsRatio ⟨rfl, rfl⟩ ⟨rfl, rfl⟩ ⟨rfl, rfl⟩ ⟨rfl, rfl⟩ ⟨rfl, rfl⟩ ⟨rfl, rfl⟩ ⟨rfl, rfl⟩ Try.underlying2 (by kernel_rfl) Try.underlying5 (by kernel_rfl) Try.underlying3 cellsInt hf
  simp [Value.cells] at hcs
  obtain ⟨rfl, rfl, rfl⟩ := hcs
  subst hl
  exact ⟨a, cap, xs, rfl, hx⟩
end
end Go.Proofs.Ytaaamcleilpnhaa
namespace Go.Proofs.Ytaaamcleilpnhaa
open Go.ChangeShapes Go.WideShapes Go.ChangeAt Go.RowKit Go.Joins Go.Deep
section
variable {H : Type} {enc : TypeId × Value → H} {w : World} {base : Nat} {spare : Nat → Bool} {held : Bool}
theorem cellsDesk : Try.prog.cellsOf 49 = 2 := by kernel_rfl
set_option maxRecDepth 100000 in
theorem open_desk {r : Reach} {b0 : Nat} {v : Value} {d : DataW H} {p : List MemPlace} (hv : Value.okWide Try.prog w r b0 49 v) (h : DataW.Trod enc Try.prog w base spare held 49 v d p) :
    ∃ A ca xs Q cq ys, v = .agg #[.slice A xs.length ca, .slice Q ys.length cq] ∧ IsCs w A xs ∧ IsQs w Q ys := by
  obtain ⟨c0, c1, y0, y1, k, rfl, rfl, rfl, hy0, hy1⟩ := open_agg2 Try.underlying49 (by kernel_rfl) cellsDesk hv h
  obtain ⟨A, len, ca, xs, e0, hl0, _, _, hx⟩ := open_cakes_any Try.underlying45 Try.underlying33 (by kernel_rfl) cellsCake rfl rfl rfl Try.underlying31 Try.underlying3 cellsInt hy0
  obtain ⟨Q, len', cq, ys, e1, hl1, _, _, hy⟩ := open_queries_any Try.underlying47 Try.underlying59 Try.underlying23 (by kernel_rfl) cellsRatio ⟨rfl, rfl⟩ ⟨rfl, rfl⟩ ⟨rfl, rfl⟩ ⟨rfl, rfl⟩ ⟨rfl, rfl⟩ ⟨rfl, rfl⟩ ⟨rfl, rfl⟩ Try.underlying2 (by kernel_rfl) Try.underlying5 (by kernel_rfl) Try.underlying3 cellsInt hy1
  simp only [List.cons.injEq, and_true] at e0 e1
  subst e0 e1 hl0 hl1
  exact ⟨A, ca, xs, Q, cq, ys, rfl, hx, hy⟩
end
end Go.Proofs.Ytaaamcleilpnhaa
namespace Go.Proofs.Ytaaamcleilpnhaa
open Go.RowKit
set_option linter.unusedSimpArgs false in
set_option maxHeartbeats 8000000 in
set_option maxRecDepth 100000 in
theorem rAskCheck_any (A : Option Addr) (ca : Nat) (cs : List CkR) (Q : Option Addr) (m cq : Nat) (w : World) (hm : m ≤ maxLen) (h : IsCs w A cs) :
    Calls Try.prog 31 #[.agg #[.slice A cs.length ca, .slice Q m cq]] w fun e w' => e = .returned (.int .i64 (Ak.chkS (cs.map Ak.dat) m)) ∧ Below w.heap.size w w' := by
  obtain ⟨b, o, hA, hc⟩ := h.at_
  have HC := Lib.hid hc
  have HA := Lib.hid hA
  have HI := Lib.hid (fun k (hk : k < cs.length) => h.all _ (Ak.cat_mem hk))
  have hln := h.len
  clear h hc hA
  unfold maxLen at hm hln
  by_cases h1 : 6 < cs.length
  · have e := Ak.chkS_many (cs := cs.map Ak.dat) (n := m) (.inl (by rw [List.length_map]; exact h1))
    rw [e]
    have d1 : decide ((6 : Int) < (cs.length : Int)) = true := decide_eq_true (by omega)
    clear HC HA HI e h1
    go_enter Try.func31, Try.ntmps31
    go_wp2_with fail
    go_ret
    exact ⟨rfl, below_al (Below.refl _ _) _⟩
  have d1 : decide ((6 : Int) < (cs.length : Int)) = false := decide_eq_false (by omega)
  by_cases h2 : 2000 < m
  · have e := Ak.chkS_many (cs := cs.map Ak.dat) (n := m) (.inr h2)
    rw [e]
    have d2 : decide ((2000 : Int) < (m : Int)) = true := decide_eq_true (by omega)
    clear HC HA HI e h1 h2
    go_enter Try.func31, Try.ntmps31
    go_wp2_with fail
    go_ret
    exact ⟨rfl, below_al (Below.refl _ _) _⟩
  have d2 : decide ((2000 : Int) < (m : Int)) = false := decide_eq_false (by omega)
  have HN := Lib.hid (show ¬ (6 < (cs.map Ak.dat).length ∨ 2000 < m) by rw [List.length_map]; omega)
  by_cases h3 : cs.length = 0
  · have e := Ak.chkS_none (cs := cs.map Ak.dat) (n := m) HN.out (by rw [List.length_map]; exact h3)
    rw [e]
    have d3 : ((cs.length : Int) == 0) = true := by rw [beq_iff_eq]; omega
    clear HC HA HI e h1 h2 h3
    go_enter Try.func31, Try.ntmps31
    go_wp2_with fail
    go_ret
    exact ⟨rfl, below_al (Below.refl _ _) _⟩
  have d3 : ((cs.length : Int) == 0) = false := by rw [beq_eq_false_iff_ne]; omega
  have H3 := Lib.hid (show ¬ (cs.map Ak.dat).length = 0 by rw [List.length_map]; exact h3)
  obtain ⟨R, hR⟩ : ∃ R, Ak.chkS (cs.map Ak.dat) m = R := ⟨_, rfl⟩
  rw [hR]
  have HR := Lib.hid hR
  have h0 : 0 < cs.length := by omega
  clear hR h1 h2 h3
  go_enter Try.func31, Try.ntmps31
  go_upto_region 1 with fail
  refine at_worldQ (fun v => Below w.heap.size w v ∧ BK v w.heap.size [.slice A cs.length ca, .slice Q m cq]) ⟨below_al (Below.refl _ _) _, BK.new w [.slice A cs.length ca, .slice Q m cq] _⟩ (fun V hS => ?_)
  have q0 := hS.2.c 0 rfl
  have q1 := hS.2.c 1 rfl
  go_wp2_with fail
  go_loopw [3] (fun i W => ∃ k : Nat, k ≤ cs.length ∧ i = .int .i64 k ∧ (∀ j, j < k → Ak.ckD (Ak.dAt (cs.map Ak.dat) j) = 0) ∧ Below w.heap.size w W ∧ BK W w.heap.size [.slice A cs.length ca, .slice Q m cq]) (fun i _ => cs.length - (intOf i).toNat)
  case atStart => exact ⟨0, Nat.zero_le _, rfl, fun j hj => absurd hj (Nat.not_lt_zero _), hS⟩
  case round =>
    clear hS q0 q1
    obtain ⟨k, hk, rfl, hok, hbb, B⟩ := hrel
    have HOK := Lib.hid hok
    clear hok
    have q0 := B.c 0 rfl
    by_cases hlt : k < cs.length
    ·
      have hA' := HA.out (by omega)
      subst hA'
      obtain ⟨c, hcc⟩ : ∃ c, Ak.cat cs k = c := ⟨_, rfl⟩
      have c0 := keepC hbb (HC.out k hlt).1
      have c1 := keepC hbb (HC.out k hlt).2.1
      have c2 := keepC hbb (HC.out k hlt).2.2
      have hi := HI.out k hlt
      rw [hcc] at c0 c1 c2 hi
      have i1 : (0 : Int) ≤ (k : Int) := by omega
      have i2 : (k : Int) < (cs.length : Int) := by omega
      have ck := fun v (hv : Below w.heap.size w v) => rckCheck_any c.len c.K c.cuts c.ck c.Z c.dens c.cz v (hi.keep hv)
      have EK := Lib.hid (show Ak.ckD (Ak.dAt (cs.map Ak.dat) k) = Ck.chk c.len c.cuts c.dens by rw [Ak.dAt_map cs hlt, hcc]; rfl)
      by_cases hz : Ck.chk c.len c.cuts c.dens = 0
      · rw [hz] at ck
        have EB := Lib.hid (show Ak.ckD (Ak.dAt (cs.map Ak.dat) k) = 0 by rw [EK.out, hz])
        have CK := Lib.hid ck
        have e0 : ((0 : Int) != 0) = false := rfl
        clear ck hz EK hcc hi
        go_wp2_with fail
        refine (CK.out _ hbb).mono ?_
        rintro e w5 ⟨rfl, hb5⟩
        replace hbb := keepB hbb hb5
        replace B := B.keep hb5
        clear hb5
        go_wp2_with fail
        go_roundw
        case rel => exact ⟨k + 1, by omega, by go_num, fun j hj => (Nat.lt_succ_iff_lt_or_eq.1 hj).elim (HOK.out j) (fun e => e ▸ EB.out), hbb, B⟩
        case measure => simp [intOf]; omega
      · have EB := Lib.hid (show Ak.chkS (cs.map Ak.dat) m = Ck.chk c.len c.cuts c.dens by
          have := Ak.firstE_take (l := cs.map Ak.dat) (k := k) HOK.out (by simpa using hlt) (by rw [EK.out]; exact hz)
          rw [Ak.chkS_first HN.out H3.out (by rw [this, EK.out]; exact hz), this, EK.out])
        have n1 : (Ck.chk c.len c.cuts c.dens != 0) = true := by rw [bne_iff_ne]; exact hz
        generalize Ck.chk c.len c.cuts c.dens = z at *
        have CK := Lib.hid ck
        clear ck hz EK  hi
        go_wp2_with fail
        refine (CK.out _ hbb).mono ?_
        rintro e w5 ⟨rfl, hb5⟩
        replace hbb := keepB hbb hb5
        replace B := B.keep hb5
        clear hb5 c0 c1 c2 q0
        have q0 := B.c 0 rfl
        have c0 := keepC hbb (HC.out k hlt).1
        have c1 := keepC hbb (HC.out k hlt).2.1
        have c2 := keepC hbb (HC.out k hlt).2.2
        rw [hcc] at c0 c1 c2
        clear hcc
        have eR := HR.out.symm.trans EB.out
        subst eR
        go_wp2_with fail
        refine (CK.out _ hbb).mono ?_
        rintro e w6 ⟨rfl, hb6⟩
        replace hbb := keepB hbb hb6
        clear c0 c1 c2 q0
        go_wp2_with fail
        go_ret
        exact ⟨rfl, hbb⟩
    · obtain rfl : k = cs.length := by omega
      have HE := Lib.hid (Ak.firstE_zero (l := cs.map Ak.dat) (fun j hj => HOK.out j (by simpa using hj)))
      clear HOK hlt
      have q0 := B.c 0 rfl

      go_wp2_with fail
      go_loopw [4] (fun i W => ∃ k : Nat, k ≤ cs.length ∧ i = .int .i64 k ∧ (∀ j, j < k → (Ak.dAt (cs.map Ak.dat) j).1 = (Ak.dAt (cs.map Ak.dat) 0).1) ∧ Below w.heap.size w W ∧ BK W w.heap.size [.slice A cs.length ca, .slice Q m cq]) (fun i _ => cs.length - (intOf i).toNat)
      case atStart => exact ⟨0, Nat.zero_le _, rfl, fun j hj => absurd hj (Nat.not_lt_zero _), hbb, B⟩
      case round =>
        clear hbb B q0
        obtain ⟨k, hk, rfl, hok, hbb, B⟩ := hrel
        have HOK := Lib.hid hok
        clear hok
        have q0 := B.c 0 rfl
        by_cases hlt : k < cs.length
        · have HK := Lib.hid (show k < (cs.map Ak.dat).length by rw [List.length_map]; exact hlt)
          have hA' := HA.out (by omega)
          subst hA'
          obtain ⟨c, hcc⟩ : ∃ c, Ak.cat cs k = c := ⟨_, rfl⟩
          have c0 := keepC hbb (HC.out k hlt).1
          have c1 := keepC hbb (HC.out k hlt).2.1
          have c2 := keepC hbb (HC.out k hlt).2.2
          have hi := HI.out k hlt
          rw [hcc] at c0 c1 c2 hi
          have i1 : (0 : Int) ≤ (k : Int) := by omega
          have i2 : (k : Int) < (cs.length : Int) := by omega
          have z0 := keepC hbb (HC.out 0 h0).1
          rw [Nat.zero_mul, Nat.add_zero] at z0
          obtain ⟨l, hl⟩ : ∃ l, c.len = l := ⟨_, rfl⟩
          obtain ⟨l0, hl0⟩ : ∃ l0, (Ak.cat cs 0).len = l0 := ⟨_, rfl⟩
          rw [hl0] at z0
          rw [hl] at c0
          by_cases hll : l = l0
          · have EB := Lib.hid (show (Ak.dAt (cs.map Ak.dat) k).1 = (Ak.dAt (cs.map Ak.dat) 0).1 by rw [Ak.dAt_map cs hlt, Ak.dAt_map cs h0, hcc]; show c.len = _; rw [hl, hll, ← hl0]; rfl)
            subst hll
            clear hl hl0 hcc hi
            go_upto_region 13 with fail
            refine at_worldQ (fun v => Below w.heap.size w v ∧ BK v w.heap.size [.slice (some ⟨b, o, none⟩) cs.length ca, .slice Q m cq] ∧ v.cell? ⟨b, o + k * 3, none⟩ = some (.int .i64 l) ∧ v.cell? ⟨b, o, none⟩ = some (.int .i64 l)) ⟨hbb, B, c0, z0⟩ (fun V2 hS => ?_)
            clear hbb B z0 c0 c1 c2
            obtain ⟨hbb, B, p0, z0⟩ := hS
            have q0 := B.c 0 rfl
            refine wp_region_noPanic ?_
            refine wp_region_held_drew (S := (Below V2.heap.size V2)) (by kernel_rfl) ((Below.refl _ _).drew) (fun hHeld => ?_)
            refine at_anyH (Below V2.heap.size V2) hHeld (fun wq700 hNew => ?_)
            clear hHeld
            have hHeld := hNew
            clear hNew
            refine wpAnyH_take (i := 0) (oi := _) (v := ?vq701) rfl (by kernel_rfl) (by kernel_rfl) (by kernel_rfl) (fun _ _ _ h => h) (Or.inl ⟨by kernel_rfl, ?hyq701⟩) hHeld ?restq701
            case hyq701 => (intro w hSw; go_simp; first | done | (with_reducible rfl))
            try simp only [Act.put, PA, PB]
            refine wpAnyH_take (i := 1) (oi := _) (v := ?vq702) rfl (by kernel_rfl) (by kernel_rfl) (by kernel_rfl) (fun _ _ _ h => h) (Or.inl ⟨by kernel_rfl, ?hyq702⟩) hHeld ?restq702
            case hyq702 => (intro w hSw; have kp0 := keepC hSw p0; have kq0 := keepC hSw q0; have kz0 := keepC hSw z0; go_simp; first | done | (with_reducible rfl))
            try simp only [Act.put, PA, PB]
            refine wpAnyH_take (i := 2) (oi := _) (v := ?vq703) rfl (by kernel_rfl) (by kernel_rfl) (by kernel_rfl) (fun _ _ _ h => h) (Or.inl ⟨by kernel_rfl, ?hyq703⟩) hHeld ?restq703
            case hyq703 => (intro w hSw; go_simp; first | done | (with_reducible rfl))
            try simp only [Act.put, PA, PB]
            refine wpAnyH_take (i := 3) (oi := _) (v := ?vq704) rfl (by kernel_rfl) (by kernel_rfl) (by kernel_rfl) (fun _ _ _ h => h) (Or.inl ⟨by kernel_rfl, ?hyq704⟩) hHeld ?restq704
            case hyq704 => (intro w hSw; go_simp; first | done | (with_reducible rfl))
            try simp only [Act.put, PA, PB]
            refine wpAnyH_take (i := 4) (oi := _) (v := ?vq705) rfl (by kernel_rfl) (by kernel_rfl) (by kernel_rfl) (fun _ _ _ h => h) (Or.inl ⟨by kernel_rfl, ?hyq705⟩) hHeld ?restq705
            case hyq705 => (intro w hSw; go_simp; first | done | (with_reducible rfl))
            try simp only [Act.put, PA, PB]
            refine wpAnyH_take (i := 5) (oi := _) (v := ?vq706) rfl (by kernel_rfl) (by kernel_rfl) (by kernel_rfl) (fun _ _ _ h => h) (Or.inl ⟨by kernel_rfl, ?hyq706⟩) hHeld ?restq706
            case hyq706 => (intro w hSw; have kp0 := keepC hSw p0; have kq0 := keepC hSw q0; have kz0 := keepC hSw z0; go_simp; first | done | (with_reducible rfl))
            try simp only [Act.put, PA, PB]
            refine wpAnyH_take (i := 6) (oi := _) (v := ?vq707) rfl (by kernel_rfl) (by kernel_rfl) (by kernel_rfl) (fun _ _ _ h => h) (Or.inl ⟨by kernel_rfl, ?hyq707⟩) hHeld ?restq707
            case hyq707 => (intro w hSw; go_simp; first | done | (with_reducible rfl))
            try simp only [Act.put, PA, PB]
            refine wpAnyH_take (i := 7) (oi := _) (v := ?vq708) rfl (by kernel_rfl) (by kernel_rfl) (by kernel_rfl) (fun _ _ _ h => h) (Or.inl ⟨by kernel_rfl, ?hyq708⟩) hHeld ?restq708
            case hyq708 => (intro w hSw; have kp0 := keepC hSw p0; have kq0 := keepC hSw q0; have kz0 := keepC hSw z0; go_simp; first | done | (with_reducible rfl))
            try simp only [Act.put, PA, PB]
            refine wpAnyH_take (i := 8) (oi := _) (v := ?vq709) rfl (by kernel_rfl) (by kernel_rfl) (by kernel_rfl) (fun _ _ _ h => h) (Or.inl ⟨by kernel_rfl, ?hyq709⟩) hHeld ?restq709
            case hyq709 => (intro w hSw; go_simp; first | done | (with_reducible rfl))
            try simp only [Act.put, PA, PB]
            refine wpAnyH_take (i := 9) (oi := _) (v := ?vq7010) rfl (by kernel_rfl) (by kernel_rfl) (by kernel_rfl) (fun _ _ _ h => h) (Or.inl ⟨by kernel_rfl, ?hyq7010⟩) hHeld ?restq7010
            case hyq7010 => (intro w hSw; go_simp; first | done | (with_reducible rfl))
            try simp only [Act.put, PA, PB]
            refine wpAnyH_take (i := 10) (oi := _) (v := ?vq7011) rfl (by kernel_rfl) (by kernel_rfl) (by kernel_rfl) (fun _ _ _ h => h) (Or.inl ⟨by kernel_rfl, ?hyq7011⟩) hHeld ?restq7011
            case hyq7011 => (intro w hSw; have kp0 := keepC hSw p0; have kq0 := keepC hSw q0; have kz0 := keepC hSw z0; go_simp; first | done | (with_reducible rfl))
            try simp only [Act.put, PA, PB]
            refine wpAnyH_take (i := 11) (oi := _) (v := ?vq7012) rfl (by kernel_rfl) (by kernel_rfl) (by kernel_rfl) (fun _ _ _ h => h) (Or.inl ⟨by kernel_rfl, ?hyq7012⟩) hHeld ?restq7012
            case hyq7012 => (intro w hSw; go_simp; first | done | (with_reducible rfl))
            try simp only [Act.put, PA, PB]
            refine wpAnyH_done (by kernel_rfl) ?_ _
            refine NoPanic.normal ?_
            replace hbb := keepB hbb hHeld
            replace B := B.keep hHeld
            clear hHeld
            go_wp2_with fail
            go_roundw
            case rel => exact ⟨k + 1, by omega, by go_num, fun j hj => (Nat.lt_succ_iff_lt_or_eq.1 hj).elim (HOK.out j) (fun e => e ▸ EB.out), hbb, B⟩
            case measure => simp [intOf]; omega
          · have EB := Lib.hid (show (Ak.dAt (cs.map Ak.dat) k).1 ≠ (Ak.dAt (cs.map Ak.dat) 0).1 by rw [Ak.dAt_map cs hlt, Ak.dAt_map cs h0, hcc]; show c.len ≠ (Ak.cat cs 0).len; rw [hl, hl0]; exact hll)
            have HNE := Lib.hid hll
            clear hl hl0 hcc hi hll
            go_upto_region 13 with fail
            refine at_worldQ (fun v => Below w.heap.size w v ∧ BK v w.heap.size [.slice (some ⟨b, o, none⟩) cs.length ca, .slice Q m cq] ∧ v.cell? ⟨b, o + k * 3, none⟩ = some (.int .i64 l) ∧ v.cell? ⟨b, o, none⟩ = some (.int .i64 l0)) ⟨hbb, B, c0, z0⟩ (fun V2 hS => ?_)
            clear hbb B z0 c0 c1 c2
            obtain ⟨hbb, B, p0, z0⟩ := hS
            have q0 := B.c 0 rfl
            refine wp_region_noPanic ?_
            refine wp_region_held_drew (S := (Below V2.heap.size V2)) (by kernel_rfl) ((Below.refl _ _).drew) (fun hHeld => ?_)
            refine at_anyH (Below V2.heap.size V2) hHeld (fun wr700 hNew => ?_)
            clear hHeld
            have hHeld := hNew
            clear hNew
            refine wpAnyH_take (i := 0) (oi := _) (v := ?vr701) rfl (by kernel_rfl) (by kernel_rfl) (by kernel_rfl) (fun _ _ _ h => h) (Or.inl ⟨by kernel_rfl, ?hyr701⟩) hHeld ?restr701
            case hyr701 => (intro w hSw; go_simp; first | done | (with_reducible rfl))
            try simp only [Act.put, PA, PB]
            refine wpAnyH_take (i := 1) (oi := _) (v := ?vr702) rfl (by kernel_rfl) (by kernel_rfl) (by kernel_rfl) (fun _ _ _ h => h) (Or.inl ⟨by kernel_rfl, ?hyr702⟩) hHeld ?restr702
            case hyr702 => (intro w hSw; have kp0 := keepC hSw p0; have kq0 := keepC hSw q0; have kz0 := keepC hSw z0; go_simp; first | done | (with_reducible rfl))
            try simp only [Act.put, PA, PB]
            refine wpAnyH_take (i := 2) (oi := _) (v := ?vr703) rfl (by kernel_rfl) (by kernel_rfl) (by kernel_rfl) (fun _ _ _ h => h) (Or.inl ⟨by kernel_rfl, ?hyr703⟩) hHeld ?restr703
            case hyr703 => (intro w hSw; go_simp; first | done | (with_reducible rfl))
            try simp only [Act.put, PA, PB]
            refine wpAnyH_take (i := 3) (oi := _) (v := ?vr704) rfl (by kernel_rfl) (by kernel_rfl) (by kernel_rfl) (fun _ _ _ h => h) (Or.inl ⟨by kernel_rfl, ?hyr704⟩) hHeld ?restr704
            case hyr704 => (intro w hSw; go_simp; first | done | (with_reducible rfl))
            try simp only [Act.put, PA, PB]
            refine wpAnyH_take (i := 4) (oi := _) (v := ?vr705) rfl (by kernel_rfl) (by kernel_rfl) (by kernel_rfl) (fun _ _ _ h => h) (Or.inl ⟨by kernel_rfl, ?hyr705⟩) hHeld ?restr705
            case hyr705 => (intro w hSw; go_simp; first | done | (with_reducible rfl))
            try simp only [Act.put, PA, PB]
            refine wpAnyH_take (i := 5) (oi := _) (v := ?vr706) rfl (by kernel_rfl) (by kernel_rfl) (by kernel_rfl) (fun _ _ _ h => h) (Or.inl ⟨by kernel_rfl, ?hyr706⟩) hHeld ?restr706
            case hyr706 => (intro w hSw; have kp0 := keepC hSw p0; have kq0 := keepC hSw q0; have kz0 := keepC hSw z0; go_simp; first | done | (with_reducible rfl))
            try simp only [Act.put, PA, PB]
            refine wpAnyH_take (i := 6) (oi := _) (v := ?vr707) rfl (by kernel_rfl) (by kernel_rfl) (by kernel_rfl) (fun _ _ _ h => h) (Or.inl ⟨by kernel_rfl, ?hyr707⟩) hHeld ?restr707
            case hyr707 => (intro w hSw; go_simp; first | done | (with_reducible rfl))
            try simp only [Act.put, PA, PB]
            refine wpAnyH_take (i := 7) (oi := _) (v := ?vr708) rfl (by kernel_rfl) (by kernel_rfl) (by kernel_rfl) (fun _ _ _ h => h) (Or.inl ⟨by kernel_rfl, ?hyr708⟩) hHeld ?restr708
            case hyr708 => (intro w hSw; have kp0 := keepC hSw p0; have kq0 := keepC hSw q0; have kz0 := keepC hSw z0; go_simp; first | done | (with_reducible rfl))
            try simp only [Act.put, PA, PB]
            refine wpAnyH_take (i := 8) (oi := _) (v := ?vr709) rfl (by kernel_rfl) (by kernel_rfl) (by kernel_rfl) (fun _ _ _ h => h) (Or.inl ⟨by kernel_rfl, ?hyr709⟩) hHeld ?restr709
            case hyr709 => (intro w hSw; go_simp; first | done | (with_reducible rfl))
            try simp only [Act.put, PA, PB]
            refine wpAnyH_take (i := 9) (oi := _) (v := ?vr7010) rfl (by kernel_rfl) (by kernel_rfl) (by kernel_rfl) (fun _ _ _ h => h) (Or.inl ⟨by kernel_rfl, ?hyr7010⟩) hHeld ?restr7010
            case hyr7010 => (intro w hSw; go_simp; first | done | (with_reducible rfl))
            try simp only [Act.put, PA, PB]
            refine wpAnyH_take (i := 10) (oi := _) (v := ?vr7011) rfl (by kernel_rfl) (by kernel_rfl) (by kernel_rfl) (fun _ _ _ h => h) (Or.inl ⟨by kernel_rfl, ?hyr7011⟩) hHeld ?restr7011
            case hyr7011 => (intro w hSw; have kp0 := keepC hSw p0; have kq0 := keepC hSw q0; have kz0 := keepC hSw z0; go_simp; first | done | (with_reducible rfl))
            try simp only [Act.put, PA, PB]
            refine wpAnyH_take (i := 11) (oi := _) (v := .bool true) rfl (by kernel_rfl) (by kernel_rfl) (by kernel_rfl) (fun _ _ _ h => h) (Or.inl ⟨by kernel_rfl, ?_⟩) hHeld ?_
            · intro w hSw
              have kp0 := keepC hSw p0
              have kq0 := keepC hSw q0
              have kz0 := keepC hSw z0
              go_simp
              exact HNE.out
            try simp only [Act.put, PA, PB]
            refine wpAnyH_done (by kernel_rfl) ?_ _
            refine NoPanic.normal ?_
            replace hbb := keepB hbb hHeld
            clear hHeld
            have eR := HR.out.symm.trans (Ak.chkS_bad HN.out H3.out HE.out HK.out EB.out)
            subst eR
            go_wp2_with fail
            go_ret
            exact ⟨rfl, hbb⟩
        · obtain rfl : k = cs.length := by omega
          have eR := HR.out.symm.trans (Ak.chkS_ok HN.out H3.out HE.out (fun j hj => HOK.out j (by simpa using hj)))
          subst eR
          clear HOK HA HC HI
          go_wp2_with fail
          go_ret
          exact ⟨rfl, hbb⟩

end Go.Proofs.Ytaaamcleilpnhaa
namespace Go.Proofs.Ytaaamcleilpnhaa
open Go.RowKit
namespace Ak
/-- What is told of an answer. -/
def res (E : Int) (r : Int × Int × Int) : Int × Int := if E = 0 then (r.1, r.2.1) else (0, 0)
theorem great_of {os : List CkR} (h : greatCs (os.map dat) = false) : (∀ c ∈ os, c.cuts.length ≤ 60 ∧ c.dens.length ≤ 60) ∧ os.length ≤ 10 := by
  unfold greatCs at h
  rw [Bool.or_eq_false_iff] at h
  obtain ⟨h1, h2⟩ := h
  have h2 := of_decide_eq_false h2
  rw [List.length_map] at h2
  refine ⟨fun c hc => ?_, by omega⟩
  have := List.any_eq_false.1 h1 (dat c) (List.mem_map_of_mem hc)
  unfold greatC dat at this
  simp at this
  omega
theorem ansS_at {D : List CkD} {k kd : Int} {j : Nat} {a b c d : Int} (hk : k = j) (hj : j < D.length) : ansS D ⟨k, kd, a, b, c, d, 0, 0⟩ = if kd = 1 then vS (dAt D j) a b c d else if kd = 2 then kS (dAt D j) a b c d else (0, 0, 2) := by
  subst hk
  unfold ansS
  dsimp only
  rw [if_pos (by omega)]
  simp
theorem putE_at {D : List CkD} {n : Nat} {q : Qr} {r : Int × Int × Int} (h : chkS D n = 0) (hr : ansS D q = r) : putE D n q = if r.2.2 ≠ 0 then r.2.2 else if n = 2000 then 4 else 0 := by
  unfold putE
  rw [if_neg (fun k => k h), hr]
theorem cellsC_set : ∀ (l : List CkR) (k : Nat) (c : CkR), cellsC (l.set k c) = (((cellsC l).set (k * 3) (.int .i64 c.len)).set (k * 3 + 1) (.slice c.K c.cuts.length c.ck)).set (k * 3 + 2) (.slice c.Z c.dens.length c.cz)
  | [], _, _ => rfl
  | x :: l, 0, c => rfl
  | x :: l, k + 1, c => by
    have ih := cellsC_set l k c
    have e : ∀ (y : CkR) (m : List CkR), cellsC (y :: m) = .int .i64 y.len :: .slice y.K y.cuts.length y.ck :: .slice y.Z y.dens.length y.cz :: cellsC m := fun _ _ => rfl
    rw [List.set_cons_succ, e, e, ih, show (k + 1) * 3 = k * 3 + 1 + 1 + 1 by omega, show k * 3 + 1 + 1 + 1 + 1 = (k * 3 + 1) + 1 + 1 + 1 by omega, show k * 3 + 1 + 1 + 1 + 2 = (k * 3 + 2) + 1 + 1 + 1 by omega]
    simp only [List.set_cons_succ]
end Ak
/-- The desk behind a query, where there is no error. -/
def FC (E : Int) (D : List CkD) (L : List Qr) (B : Nat) (A : Option Addr) (m ca : Nat) (Q : Option Addr) (n cq : Nat) (W : World) : Prop := E = 0 → ∃ l, m = l.length ∧ n = L.length ∧ l.map Ak.dat = D ∧ FD W B A ca l Q cq L
section
variable {E : Int} {D : List CkD} {L : List Qr} {B m ca n cq : Nat} {A Q : Option Addr} {W W' : World}
theorem FC.keep (h : FC E D L B A m ca Q n cq W) (hb : Below W.heap.size W W') : FC E D L B A m ca Q n cq W' := fun e => (h e).elim fun l k => ⟨l, k.1, k.2.1, k.2.2.1, k.2.2.2.keep hb⟩
theorem FC.mid (h : FC E D L B A m ca Q n cq W) (hb : Mid B W W') : FC E D L B A m ca Q n cq W' := fun e => (h e).elim fun l k => ⟨l, k.1, k.2.1, k.2.2.1, k.2.2.2.mid hb⟩
end
theorem PutQ.two {D : List CkD} {qs : List Qr} {q : Qr} {w w' : World} {e : Ending} (h : PutQ D qs q w e w') {E : Int} (hE : Ak.putE D qs.length q = E) {r : Int × Int × Int} (hr : Ak.ansS D q = r) :
    ∃ (A : Option Addr) (m ca : Nat) (Q : Option Addr) (n cq : Nat), e = .returned (.tuple #[.agg #[.slice A m ca, .slice Q n cq], .agg #[.int .i64 (Ak.res E r).1, .int .i64 (Ak.res E r).2], .int .i64 E]) ∧ Below w.heap.size w w' ∧ FC E D (qs ++ [{ q with x := r.1, y := r.2.1 }]) w.heap.size A m ca Q n cq w' := by
  have ht : Ak.told D q = { q with x := r.1, y := r.2.1 } := by unfold Ak.told; rw [hr]
  obtain ⟨hb, ⟨hn, he⟩ | ⟨h0, A, ca, l, Q, cq, he, hdat, hfd⟩⟩ := h
  · rw [hE] at hn he
    exact ⟨none, 0, 0, none, 0, 0, by unfold Ak.res; rw [if_neg hn]; exact he, hb, fun k => absurd k hn⟩
  · rw [hE] at h0
    rw [ht] at he hfd
    subst h0
    exact ⟨A, l.length, ca, Q, _, cq, by unfold Ak.res; rw [if_pos rfl]; exact he, hb, fun _ => ⟨l, rfl, rfl, hdat, hfd⟩⟩
theorem row_le {w : World} {B g n cap sz : Nat} {e : TypeId} {cs : List Value} (h : w.ownsRow B e sz (.slice (some ⟨g, 0, none⟩) n cap) n cs) : n ≤ cap := by
  rcases h.2 with ⟨h1, _⟩ | ⟨g', cap', cur, h1, _, _, h4, _⟩
  · cases h1
  · simp only [Value.slice.injEq] at h1
    omega
theorem IsQs.pre {w : World} {A : Option Addr} {qs : List Qr} {q : Qr} (h : IsQs w A (qs ++ [q])) : IsQs w A qs :=
  ⟨fun h0 => by
    obtain ⟨b, off, e, hc⟩ := h.cell (by simp)
    refine ⟨b, off, e, fun i hi => ?_⟩
    have := hc i (by simp; omega)
    rwa [show Ak.qat (qs ++ [q]) i = Ak.qat qs i by rw [Ak.qat_lt (by simp; omega), Ak.qat_lt hi, List.getElem_append_left hi]] at this, fun x hx => h.all x (by simp [hx]), by have := h.len; simp at this; omega⟩
theorem last_q {w : World} {B g n cap : Nat} {e : TypeId} {qs : List Qr} {q : Qr} (h : w.ownsRow B e 8 (.slice (some ⟨g, 0, none⟩) n cap) n (Ak.cellsQ (qs ++ [q]))) : w.cell? ⟨g, qs.length * 8, none⟩ = some (.int .i64 q.ag) ∧ w.cell? ⟨g, qs.length * 8 + 1, none⟩ = some (.int .u8 q.kd) ∧ w.cell? ⟨g, qs.length * 8 + 2, none⟩ = some (.int .i64 q.a) ∧ w.cell? ⟨g, qs.length * 8 + 3, none⟩ = some (.int .i64 q.b) ∧
    w.cell? ⟨g, qs.length * 8 + 4, none⟩ = some (.int .i64 q.c) ∧ w.cell? ⟨g, qs.length * 8 + 5, none⟩ = some (.int .i64 q.d) ∧ w.cell? ⟨g, qs.length * 8 + 6, none⟩ = some (.int .i64 q.x) ∧ w.cell? ⟨g, qs.length * 8 + 7, none⟩ = some (.int .i64 q.y) := by
  have hl := h.1
  rw [Ak.cellsQ_len, List.length_append, List.length_singleton] at hl
  have hn : n = qs.length + 1 := by omega
  have k := Ak.cellsQ_at (l := qs ++ [q]) (k := qs.length) (by simp)
  rw [show Ak.qat (qs ++ [q]) qs.length = q by rw [Ak.qat_lt (by simp)]; simp] at k
  obtain ⟨k0, k1, k2, k3, k4, k5, k6, k7⟩ := k
  have c : ∀ j, j < 8 → w.cell? ⟨g, qs.length * 8 + j, none⟩ = (Ak.cellsQ (qs ++ [q]))[qs.length * 8 + j]? := fun j hj => World.ownsRow.cellAt h _ (by omega)
  exact ⟨(c 0 (by omega)).trans k0, (c 1 (by omega)).trans k1, (c 2 (by omega)).trans k2, (c 3 (by omega)).trans k3, (c 4 (by omega)).trans k4, (c 5 (by omega)).trans k5, (c 6 (by omega)).trans k6, (c 7 (by omega)).trans k7⟩
end Go.Proofs.Ytaaamcleilpnhaa
namespace Go.Proofs.Ytaaamcleilpnhaa
open Go.RowKit
set_option linter.unusedSimpArgs false in
set_option maxHeartbeats 8000000 in
set_option maxRecDepth 100000 in
theorem same1_eq (g h : Nat) (a b c d : Int) (w : World) (B1 : BK w g [.int .i64 a, .int .i64 b, .int .i64 c, .int .i64 d]) (B2 : BK w h [.int .i64 a, .int .i64 b, .int .i64 c, .int .i64 d]) :
    Calls Try.prog 58 #[.slice (some ⟨g, 0, none⟩) 1 1, .slice (some ⟨h, 0, none⟩) 1 1] w fun e w' => e = .returned (.bool true) ∧ Below w.heap.size w w' := by
  have HB1 := Lib.hid B1
  have HB2 := Lib.hid B2
  clear B1 B2
  go_enter Try.func58, Try.ntmps58
  go_wp2_with fail
  go_loopw [5] (fun i W => ∃ k : Nat, k ≤ 1 ∧ i = .int .i64 k ∧ Below w.heap.size w W) (fun i _ => 1 - (intOf i).toNat)
  case atStart => exact ⟨0, by omega, rfl, Below.refl _ _⟩
  case round =>
    obtain ⟨k, hk, rfl, hbb⟩ := hrel
    rcases (show k = 0 ∨ k = 1 by omega) with rfl | rfl
    · go_upto_region 6 with fail
      refine at_worldQ (fun v => Below w.heap.size w v) hbb (fun V hS => ?_)
      clear hbb
      have hbb := hS
      clear hS
      have c0 := keepC hbb (HB1.out.c 0 rfl)
      have c1 := keepC hbb (HB1.out.c 1 rfl)
      have c2 := keepC hbb (HB1.out.c 2 rfl)
      have c3 := keepC hbb (HB1.out.c 3 rfl)
      have d0 := keepC hbb (HB2.out.c 0 rfl)
      have d1 := keepC hbb (HB2.out.c 1 rfl)
      have d2 := keepC hbb (HB2.out.c 2 rfl)
      have d3 := keepC hbb (HB2.out.c 3 rfl)
      refine wp_region_noPanic ?_
      refine wp_region_held_drew (S := (Below V.heap.size V)) (by kernel_rfl) ((Below.refl _ _).drew) (fun hHeld => ?_)
      refine at_anyH (Below V.heap.size V) hHeld (fun wq0 hNew => ?_)
      clear hHeld
      have hHeld := hNew
      clear hNew
      refine wpAnyH_take (i := 0) (oi := _) (v := ?vq1) rfl (by kernel_rfl) (by kernel_rfl) (by kernel_rfl) (fun _ _ _ h => h) (Or.inl ⟨by kernel_rfl, ?hyq1⟩) hHeld ?restq1
      case hyq1 => (intro w hSw; go_simp; first | done | (with_reducible rfl))
      try simp only [Act.put, PA, PB]
      refine wpAnyH_take (i := 1) (oi := _) (v := ?vq2) rfl (by kernel_rfl) (by kernel_rfl) (by kernel_rfl) (fun _ _ _ h => h) (Or.inl ⟨by kernel_rfl, ?hyq2⟩) hHeld ?restq2
      case hyq2 => (intro w hSw; go_simp; first | done | (with_reducible rfl))
      try simp only [Act.put, PA, PB]
      refine wpAnyH_take (i := 2) (oi := _) (v := ?vq3) rfl (by kernel_rfl) (by kernel_rfl) (by kernel_rfl) (fun _ _ _ h => h) (Or.inl ⟨by kernel_rfl, ?hyq3⟩) hHeld ?restq3
      case hyq3 => (intro w hSw; go_simp; first | done | (with_reducible rfl))
      try simp only [Act.put, PA, PB]
      refine wpAnyH_take (i := 3) (oi := _) (v := ?vq4) rfl (by kernel_rfl) (by kernel_rfl) (by kernel_rfl) (fun _ _ _ h => h) (Or.inl ⟨by kernel_rfl, ?hyq4⟩) hHeld ?restq4
      case hyq4 => (intro w hSw; have kc0 := keepC hSw c0; have kc1 := keepC hSw c1; have kc2 := keepC hSw c2; have kc3 := keepC hSw c3; have kd0 := keepC hSw d0; have kd1 := keepC hSw d1; have kd2 := keepC hSw d2; have kd3 := keepC hSw d3; go_simp; first | done | (with_reducible rfl))
      try simp only [Act.put, PA, PB]
      refine wpAnyH_take (i := 4) (oi := _) (v := ?vq5) rfl (by kernel_rfl) (by kernel_rfl) (by kernel_rfl) (fun _ _ _ h => h) (Or.inl ⟨by kernel_rfl, ?hyq5⟩) hHeld ?restq5
      case hyq5 => (intro w hSw; go_simp; first | done | (with_reducible rfl))
      try simp only [Act.put, PA, PB]
      refine wpAnyH_take (i := 5) (oi := _) (v := ?vq6) rfl (by kernel_rfl) (by kernel_rfl) (by kernel_rfl) (fun _ _ _ h => h) (Or.inl ⟨by kernel_rfl, ?hyq6⟩) hHeld ?restq6
      case hyq6 => (intro w hSw; go_simp; first | done | (with_reducible rfl))
      try simp only [Act.put, PA, PB]
      refine wpAnyH_take (i := 6) (oi := _) (v := ?vq7) rfl (by kernel_rfl) (by kernel_rfl) (by kernel_rfl) (fun _ _ _ h => h) (Or.inl ⟨by kernel_rfl, ?hyq7⟩) hHeld ?restq7
      case hyq7 => (intro w hSw; go_simp; first | done | (with_reducible rfl))
      try simp only [Act.put, PA, PB]
      refine wpAnyH_take (i := 7) (oi := _) (v := ?vq8) rfl (by kernel_rfl) (by kernel_rfl) (by kernel_rfl) (fun _ _ _ h => h) (Or.inl ⟨by kernel_rfl, ?hyq8⟩) hHeld ?restq8
      case hyq8 => (intro w hSw; have kc0 := keepC hSw c0; have kc1 := keepC hSw c1; have kc2 := keepC hSw c2; have kc3 := keepC hSw c3; have kd0 := keepC hSw d0; have kd1 := keepC hSw d1; have kd2 := keepC hSw d2; have kd3 := keepC hSw d3; go_simp; first | done | (with_reducible rfl))
      try simp only [Act.put, PA, PB]
      refine wpAnyH_take (i := 8) (oi := _) (v := ?vq9) rfl (by kernel_rfl) (by kernel_rfl) (by kernel_rfl) (fun _ _ _ h => h) (Or.inl ⟨by kernel_rfl, ?hyq9⟩) hHeld ?restq9
      case hyq9 => (intro w hSw; go_simp; first | done | (with_reducible rfl))
      try simp only [Act.put, PA, PB]
      refine wpAnyH_done (by kernel_rfl) ?_ _
      refine NoPanic.normal ?_
      skip
      replace hbb := keepB hbb hHeld
      clear hHeld
      go_wp2_with fail
      go_roundw
      case rel => exact ⟨1, by omega, by go_num, hbb⟩
      case measure => simp [intOf]
    · go_wp2_with fail
      go_ret
      exact ⟨rfl, hbb⟩
set_option linter.unusedSimpArgs false in
set_option maxHeartbeats 8000000 in
set_option maxRecDepth 100000 in
theorem sameDiv_eq (P R B B' g0 g1 h0 h1 : Nat) (a0 b0 c0 d0 a1 b1 c1 d1 : Int) (w : World) (hA : DivB B P g0 g1 a0 b0 c0 d0 a1 b1 c1 d1 w) (hB : DivB B' R h0 h1 a0 b0 c0 d0 a1 b1 c1 d1 w) :
    Calls Try.prog 49 #[.agg #[.slice (some ⟨P, 0, none⟩) 2 2], .agg #[.slice (some ⟨R, 0, none⟩) 2 2]] w fun e w' => e = .returned (.bool true) ∧ Below w.heap.size w w' := by
  have s0 := fun v (hv : Below w.heap.size w v) => same1_eq g0 h0 a0 b0 c0 d0 v (hA.s0.keep hv) (hB.s0.keep hv)
  have s1 := fun v (hv : Below w.heap.size w v) => same1_eq g1 h1 a1 b1 c1 d1 v (hA.s1.keep hv) (hB.s1.keep hv)
  have S0 := Lib.hid s0
  have S1 := Lib.hid s1
  have HP0 := Lib.hid (hA.p.c 0 rfl)
  have HP1 := Lib.hid (hA.p.c 1 rfl)
  have HQ0 := Lib.hid (hB.p.c 0 rfl)
  have HQ1 := Lib.hid (hB.p.c 1 rfl)
  clear s0 s1 hA hB
  go_enter Try.func49, Try.ntmps49
  go_upto_region 1 with fail
  refine at_worldQ (fun v => Below w.heap.size w v ∧ BK v (w.heap.size) [.slice (some ⟨P, 0, none⟩) 2 2] ∧ BK v (w.heap.size + 1) [.slice (some ⟨R, 0, none⟩) 2 2] ∧ v.heap.size = w.heap.size + 2) ⟨(below_al (below_al (Below.refl _ _) _) _), (by have b := ((BK.new w [.slice (some ⟨P, 0, none⟩) 2 2] 77).al (.cells #[.slice (some ⟨R, 0, none⟩) 2 2] 77)); simpa only [World.size_alloc] using b), (by have b := (BK.new (w.alloc (.cells #[.slice (some ⟨P, 0, none⟩) 2 2] 77)) [.slice (some ⟨R, 0, none⟩) 2 2] 77); simpa only [World.size_alloc] using b), by simp only [World.size_alloc]⟩ (fun V hS => ?_)
  obtain ⟨hbb, B0, B1, hVs⟩ := hS
  have BX := B0
  have BY := B1
  clear B0 B1 hVs
  have x0 := BX.c 0 rfl
  have y0 := BY.c 0 rfl
  go_wp2_with fail
  clear x0 y0
  go_loopw [5] (fun i W => ∃ k : Nat, k ≤ 2 ∧ i = .int .i64 k ∧ Below w.heap.size w W ∧ BK W w.heap.size [.slice (some ⟨P, 0, none⟩) 2 2] ∧ BK W (w.heap.size + 1) [.slice (some ⟨R, 0, none⟩) 2 2]) (fun i _ => 2 - (intOf i).toNat)
  case atStart => exact ⟨0, by omega, rfl, hbb, BX, BY⟩
  case round =>
    clear hbb BX BY
    obtain ⟨k, hk, rfl, hbb, BX, BY⟩ := hrel
    rcases (show k = 0 ∨ k = 1 ∨ k = 2 by omega) with rfl | rfl | rfl
    · have x0 := BX.c 0 rfl
      have y0 := BY.c 0 rfl
      have p0 := keepC hbb HP0.out
      have p1 := keepC hbb HP1.out
      have q0 := keepC hbb HQ0.out
      have q1 := keepC hbb HQ1.out
      go_upto_region 6 with fail
      refine at_worldQ (fun v => Below w.heap.size w v ∧ BK v w.heap.size [.slice (some ⟨P, 0, none⟩) 2 2] ∧ BK v (w.heap.size + 1) [.slice (some ⟨R, 0, none⟩) 2 2]) ⟨hbb, BX, BY⟩ (fun V6 hS => ?_)
      clear hbb BX BY x0 y0 p0 p1 q0 q1
      obtain ⟨hbb, BX, BY⟩ := hS
      have x0 := BX.c 0 rfl
      have y0 := BY.c 0 rfl
      have p0 := keepC hbb HP0.out
      have p1 := keepC hbb HP1.out
      have q0 := keepC hbb HQ0.out
      have q1 := keepC hbb HQ1.out
      refine wp_region_noPanic ?_
      refine wp_region_held_drew (S := (Below V6.heap.size V6)) (by kernel_rfl) ((Below.refl _ _).drew) (fun hHeld => ?_)
      refine at_anyH (Below V6.heap.size V6) hHeld (fun wr00 hNew => ?_)
      clear hHeld
      have hHeld := hNew
      clear hNew
      refine wpAnyH_take (i := 0) (oi := _) (v := ?vr01) rfl (by kernel_rfl) (by kernel_rfl) (by kernel_rfl) (fun _ _ _ h => h) (Or.inl ⟨by kernel_rfl, ?hyr01⟩) hHeld ?restr01
      case hyr01 => (intro w hSw; go_simp; first | done | (with_reducible rfl))
      try simp only [Act.put, PA, PB]
      refine wpAnyH_take (i := 1) (oi := _) (v := ?vr02) rfl (by kernel_rfl) (by kernel_rfl) (by kernel_rfl) (fun _ _ _ h => h) (Or.inl ⟨by kernel_rfl, ?hyr02⟩) hHeld ?restr02
      case hyr02 => (intro w hSw; have kx0 := keepC hSw x0; have ky0 := keepC hSw y0; have kp0 := keepC hSw p0; have kp1 := keepC hSw p1; have kq0 := keepC hSw q0; have kq1 := keepC hSw q1; go_simp; first | done | (with_reducible rfl))
      try simp only [Act.put, PA, PB]
      refine wpAnyH_take (i := 2) (oi := _) (v := ?vr03) rfl (by kernel_rfl) (by kernel_rfl) (by kernel_rfl) (fun _ _ _ h => h) (Or.inl ⟨by kernel_rfl, ?hyr03⟩) hHeld ?restr03
      case hyr03 => (intro w hSw; go_simp; first | done | (with_reducible rfl))
      try simp only [Act.put, PA, PB]
      refine wpAnyH_take (i := 3) (oi := _) (v := ?vr04) rfl (by kernel_rfl) (by kernel_rfl) (by kernel_rfl) (fun _ _ _ h => h) (Or.inl ⟨by kernel_rfl, ?hyr04⟩) hHeld ?restr04
      case hyr04 => (intro w hSw; go_simp; first | done | (with_reducible rfl))
      try simp only [Act.put, PA, PB]
      refine wpAnyH_take (i := 4) (oi := _) (v := ?vr05) rfl (by kernel_rfl) (by kernel_rfl) (by kernel_rfl) (fun _ _ _ h => h) (Or.inl ⟨by kernel_rfl, ?hyr05⟩) hHeld ?restr05
      case hyr05 => (intro w hSw; have kx0 := keepC hSw x0; have ky0 := keepC hSw y0; have kp0 := keepC hSw p0; have kp1 := keepC hSw p1; have kq0 := keepC hSw q0; have kq1 := keepC hSw q1; go_simp; first | done | (with_reducible rfl))
      try simp only [Act.put, PA, PB]
      refine wpAnyH_take (i := 5) (oi := _) (v := ?vr06) rfl (by kernel_rfl) (by kernel_rfl) (by kernel_rfl) (fun _ _ _ h => h) (Or.inl ⟨by kernel_rfl, ?hyr06⟩) hHeld ?restr06
      case hyr06 => (intro w hSw; go_simp; first | done | (with_reducible rfl))
      try simp only [Act.put, PA, PB]
      refine wpAnyH_take (i := 6) (oi := _) (v := ?vr07) rfl (by kernel_rfl) (by kernel_rfl) (by kernel_rfl) (fun _ _ _ h => h) (Or.inl ⟨by kernel_rfl, ?hyr07⟩) hHeld ?restr07
      case hyr07 => (intro w hSw; have kx0 := keepC hSw x0; have ky0 := keepC hSw y0; have kp0 := keepC hSw p0; have kp1 := keepC hSw p1; have kq0 := keepC hSw q0; have kq1 := keepC hSw q1; go_simp; first | done | (with_reducible rfl))
      try simp only [Act.put, PA, PB]
      refine wpAnyH_take (i := 7) (oi := _) (v := ?vr08) rfl (by kernel_rfl) (by kernel_rfl) (by kernel_rfl) (fun _ _ _ h => h) (Or.inl ⟨by kernel_rfl, ?hyr08⟩) hHeld ?restr08
      case hyr08 => (intro w hSw; go_simp; first | done | (with_reducible rfl))
      try simp only [Act.put, PA, PB]
      refine wpAnyH_take (i := 8) (oi := _) (v := ?vr09) rfl (by kernel_rfl) (by kernel_rfl) (by kernel_rfl) (fun _ _ _ h => h) (Or.inl ⟨by kernel_rfl, ?hyr09⟩) hHeld ?restr09
      case hyr09 => (intro w hSw; go_simp; first | done | (with_reducible rfl))
      try simp only [Act.put, PA, PB]
      refine wpAnyH_take (i := 9) (oi := _) (v := ?vr010) rfl (by kernel_rfl) (by kernel_rfl) (by kernel_rfl) (fun _ _ _ h => h) (Or.inl ⟨by kernel_rfl, ?hyr010⟩) hHeld ?restr010
      case hyr010 => (intro w hSw; have kx0 := keepC hSw x0; have ky0 := keepC hSw y0; have kp0 := keepC hSw p0; have kp1 := keepC hSw p1; have kq0 := keepC hSw q0; have kq1 := keepC hSw q1; go_simp; first | done | (with_reducible rfl))
      try simp only [Act.put, PA, PB]
      refine wpAnyH_ready (rs := [10]) (by kernel_rfl) (by simp) (AllReadyH.cons (o := _) rfl (fun K hK => ?_) AllReadyH.nil)
      go_simp
      refine (S0.out _ (hbb.trans (hHeld.mono hbb.size))).mono ?_
      rintro e wr011 ⟨rfl, hb3⟩
      go_wp2_with fail
      refine hK.out _ _ (keepB hHeld hb3) (fun hNew => ?_)
      clear hb3
      clear hHeld hK K
      have hHeld := hNew
      clear hNew
      try simp only [Act.put, PA, PB]
      refine wpAnyH_take (i := 11) (oi := _) (v := ?vr012) rfl (by kernel_rfl) (by kernel_rfl) (by kernel_rfl) (fun _ _ _ h => h) (Or.inl ⟨by kernel_rfl, ?hyr012⟩) hHeld ?restr012
      case hyr012 => (intro w hSw; go_simp; first | done | (with_reducible rfl))
      try simp only [Act.put, PA, PB]
      refine wpAnyH_done (by kernel_rfl) ?_ _
      refine NoPanic.normal ?_
      skip
      replace BX := BX.keep hHeld
      replace BY := BY.keep hHeld
      replace hbb := keepB hbb hHeld
      clear hHeld x0 y0 p0 p1 q0 q1
      go_wp2_with fail
      go_roundw
      case rel => exact ⟨1, by omega, by go_num, hbb, BX, BY⟩
      case measure => simp [intOf]

    · have x0 := BX.c 0 rfl
      have y0 := BY.c 0 rfl
      have p0 := keepC hbb HP0.out
      have p1 := keepC hbb HP1.out
      have q0 := keepC hbb HQ0.out
      have q1 := keepC hbb HQ1.out
      go_upto_region 6 with fail
      refine at_worldQ (fun v => Below w.heap.size w v ∧ BK v w.heap.size [.slice (some ⟨P, 0, none⟩) 2 2] ∧ BK v (w.heap.size + 1) [.slice (some ⟨R, 0, none⟩) 2 2]) ⟨hbb, BX, BY⟩ (fun V6 hS => ?_)
      clear hbb BX BY x0 y0 p0 p1 q0 q1
      obtain ⟨hbb, BX, BY⟩ := hS
      have x0 := BX.c 0 rfl
      have y0 := BY.c 0 rfl
      have p0 := keepC hbb HP0.out
      have p1 := keepC hbb HP1.out
      have q0 := keepC hbb HQ0.out
      have q1 := keepC hbb HQ1.out
      refine wp_region_noPanic ?_
      refine wp_region_held_drew (S := (Below V6.heap.size V6)) (by kernel_rfl) ((Below.refl _ _).drew) (fun hHeld => ?_)
      refine at_anyH (Below V6.heap.size V6) hHeld (fun wr10 hNew => ?_)
      clear hHeld
      have hHeld := hNew
      clear hNew
      refine wpAnyH_take (i := 0) (oi := _) (v := ?vr11) rfl (by kernel_rfl) (by kernel_rfl) (by kernel_rfl) (fun _ _ _ h => h) (Or.inl ⟨by kernel_rfl, ?hyr11⟩) hHeld ?restr11
      case hyr11 => (intro w hSw; go_simp; first | done | (with_reducible rfl))
      try simp only [Act.put, PA, PB]
      refine wpAnyH_take (i := 1) (oi := _) (v := ?vr12) rfl (by kernel_rfl) (by kernel_rfl) (by kernel_rfl) (fun _ _ _ h => h) (Or.inl ⟨by kernel_rfl, ?hyr12⟩) hHeld ?restr12
      case hyr12 => (intro w hSw; have kx0 := keepC hSw x0; have ky0 := keepC hSw y0; have kp0 := keepC hSw p0; have kp1 := keepC hSw p1; have kq0 := keepC hSw q0; have kq1 := keepC hSw q1; go_simp; first | done | (with_reducible rfl))
      try simp only [Act.put, PA, PB]
      refine wpAnyH_take (i := 2) (oi := _) (v := ?vr13) rfl (by kernel_rfl) (by kernel_rfl) (by kernel_rfl) (fun _ _ _ h => h) (Or.inl ⟨by kernel_rfl, ?hyr13⟩) hHeld ?restr13
      case hyr13 => (intro w hSw; go_simp; first | done | (with_reducible rfl))
      try simp only [Act.put, PA, PB]
      refine wpAnyH_take (i := 3) (oi := _) (v := ?vr14) rfl (by kernel_rfl) (by kernel_rfl) (by kernel_rfl) (fun _ _ _ h => h) (Or.inl ⟨by kernel_rfl, ?hyr14⟩) hHeld ?restr14
      case hyr14 => (intro w hSw; go_simp; first | done | (with_reducible rfl))
      try simp only [Act.put, PA, PB]
      refine wpAnyH_take (i := 4) (oi := _) (v := ?vr15) rfl (by kernel_rfl) (by kernel_rfl) (by kernel_rfl) (fun _ _ _ h => h) (Or.inl ⟨by kernel_rfl, ?hyr15⟩) hHeld ?restr15
      case hyr15 => (intro w hSw; have kx0 := keepC hSw x0; have ky0 := keepC hSw y0; have kp0 := keepC hSw p0; have kp1 := keepC hSw p1; have kq0 := keepC hSw q0; have kq1 := keepC hSw q1; go_simp; first | done | (with_reducible rfl))
      try simp only [Act.put, PA, PB]
      refine wpAnyH_take (i := 5) (oi := _) (v := ?vr16) rfl (by kernel_rfl) (by kernel_rfl) (by kernel_rfl) (fun _ _ _ h => h) (Or.inl ⟨by kernel_rfl, ?hyr16⟩) hHeld ?restr16
      case hyr16 => (intro w hSw; go_simp; first | done | (with_reducible rfl))
      try simp only [Act.put, PA, PB]
      refine wpAnyH_take (i := 6) (oi := _) (v := ?vr17) rfl (by kernel_rfl) (by kernel_rfl) (by kernel_rfl) (fun _ _ _ h => h) (Or.inl ⟨by kernel_rfl, ?hyr17⟩) hHeld ?restr17
      case hyr17 => (intro w hSw; have kx0 := keepC hSw x0; have ky0 := keepC hSw y0; have kp0 := keepC hSw p0; have kp1 := keepC hSw p1; have kq0 := keepC hSw q0; have kq1 := keepC hSw q1; go_simp; first | done | (with_reducible rfl))
      try simp only [Act.put, PA, PB]
      refine wpAnyH_take (i := 7) (oi := _) (v := ?vr18) rfl (by kernel_rfl) (by kernel_rfl) (by kernel_rfl) (fun _ _ _ h => h) (Or.inl ⟨by kernel_rfl, ?hyr18⟩) hHeld ?restr18
      case hyr18 => (intro w hSw; go_simp; first | done | (with_reducible rfl))
      try simp only [Act.put, PA, PB]
      refine wpAnyH_take (i := 8) (oi := _) (v := ?vr19) rfl (by kernel_rfl) (by kernel_rfl) (by kernel_rfl) (fun _ _ _ h => h) (Or.inl ⟨by kernel_rfl, ?hyr19⟩) hHeld ?restr19
      case hyr19 => (intro w hSw; go_simp; first | done | (with_reducible rfl))
      try simp only [Act.put, PA, PB]
      refine wpAnyH_take (i := 9) (oi := _) (v := ?vr110) rfl (by kernel_rfl) (by kernel_rfl) (by kernel_rfl) (fun _ _ _ h => h) (Or.inl ⟨by kernel_rfl, ?hyr110⟩) hHeld ?restr110
      case hyr110 => (intro w hSw; have kx0 := keepC hSw x0; have ky0 := keepC hSw y0; have kp0 := keepC hSw p0; have kp1 := keepC hSw p1; have kq0 := keepC hSw q0; have kq1 := keepC hSw q1; go_simp; first | done | (with_reducible rfl))
      try simp only [Act.put, PA, PB]
      refine wpAnyH_ready (rs := [10]) (by kernel_rfl) (by simp) (AllReadyH.cons (o := _) rfl (fun K hK => ?_) AllReadyH.nil)
      go_simp
      refine (S1.out _ (hbb.trans (hHeld.mono hbb.size))).mono ?_
      rintro e wr111 ⟨rfl, hb3⟩
      go_wp2_with fail
      refine hK.out _ _ (keepB hHeld hb3) (fun hNew => ?_)
      clear hb3
      clear hHeld hK K
      have hHeld := hNew
      clear hNew
      try simp only [Act.put, PA, PB]
      refine wpAnyH_take (i := 11) (oi := _) (v := ?vr112) rfl (by kernel_rfl) (by kernel_rfl) (by kernel_rfl) (fun _ _ _ h => h) (Or.inl ⟨by kernel_rfl, ?hyr112⟩) hHeld ?restr112
      case hyr112 => (intro w hSw; go_simp; first | done | (with_reducible rfl))
      try simp only [Act.put, PA, PB]
      refine wpAnyH_done (by kernel_rfl) ?_ _
      refine NoPanic.normal ?_
      skip
      replace BX := BX.keep hHeld
      replace BY := BY.keep hHeld
      replace hbb := keepB hbb hHeld
      clear hHeld x0 y0 p0 p1 q0 q1
      go_wp2_with fail
      go_roundw
      case rel => exact ⟨2, by omega, by go_num, hbb, BX, BY⟩
      case measure => simp [intOf]

    · have x0 := BX.c 0 rfl
      have y0 := BY.c 0 rfl
      go_wp2_with fail
      go_ret
      exact ⟨rfl, hbb⟩
theorem two7_any (w : World) : Calls Try.prog 41 #[] w (TwoQ w) := by
  unfold TwoQ
  go_enter Try.func41, Try.ntmps41
  go_wp2
  go_ret
  first
    | exact ⟨_, _, rfl, rfl, rfl, two_lay w⟩
    | exact ⟨_, rfl, _, rfl, rfl, two_lay w⟩
end Go.Proofs.Ytaaamcleilpnhaa
namespace Go.Proofs.Ytaaamcleilpnhaa
open Go.RowKit
namespace Ch
def pick {α : Type} (a b c : α) : Nat → α
  | 0 => a
  | 1 => b
  | _ => c
theorem chkS_up {D : List CkD} {n : Nat} (h : Ak.chkS D 0 = 0) (hn : n ≤ 2000) : Ak.chkS D n = 0 := by
  have g := Ak.chkS_good h
  exact Ak.good_chkS ⟨g.l0, g.l1, hn, g.all, g.same⟩
/-- What is asked and answered. -/
structure Rn (D : List CkD) (k j : Nat) (h1 h2 g1 g2 x y v1 v2 z : Int) : Prop where
  kj : (k = 0 ∧ j = 1) ∨ (k = 1 ∧ j = 0)
  hh : hf (Ak.dAt D k) = (h1, h2, 0)
  hg : hf (Ak.dAt D j) = (g1, g2, 0)
  hm : Ak.kS (Ak.dAt D k) 0 1 h1 h2 = (x, y, 0)
  hv : Ak.vS (Ak.dAt D j) 0 1 x y = (v1, v2, 0)
  hz : Rp.cmpS v1 v2 g1 g2 = (z, 0)
  b1 : I64 h1
  b2 : I64 h2
  b3 : I64 g1
  b4 : I64 g2
  b5 : I64 x
  b6 : I64 y
  b7 : I64 v1
  b8 : I64 v2
theorem ok64 {n d : Int} (h : Rp.Ok n d) : I64 n ∧ I64 d := by
  have := h.1; have := h.2.1; have := h.2.2.1; have := h.2.2.2.1
  unfold I64; omega
/-- The run of a cutter's and a chooser's cake. -/
theorem rn_of {c d : CkD} (hc : Ak.ckD c = 0) (hd : Ak.ckD d = 0) (hl : d.1 = c.1) : ∃ h1 h2 g1 g2 x y v1 v2 z, hf c = (h1, h2, 0) ∧ hf d = (g1, g2, 0) ∧ Ak.kS c 0 1 h1 h2 = (x, y, 0) ∧ Ak.vS d 0 1 x y = (v1, v2, 0) ∧ Rp.cmpS v1 v2 g1 g2 = (z, 0) ∧
    I64 h1 ∧ I64 h2 ∧ I64 g1 ∧ I64 g2 ∧ I64 x ∧ I64 y ∧ I64 v1 ∧ I64 v2 := by
  obtain ⟨x, y, hk, hp, D, d1, d2, dd⟩ := mark_half hc
  obtain ⟨v1, v2, hv, hvo⟩ := value_at hd (by rw [hl]; exact hp) d1 d2 dd
  obtain ⟨a0, a1, _, _⟩ := hf_ok hc
  obtain ⟨e0, e1, _, _⟩ := hf_ok hd
  rcases hh : hf c with ⟨h1, h2, h3⟩
  rcases hg : hf d with ⟨g1, g2, g3⟩
  rw [hh] at hk a0 a1
  rw [hg] at e0 e1
  dsimp only at a0 a1 e0 e1 hk
  subst a0 e0
  have hz := Rp.cmpS_ok hvo e1
  have o := pt_spec hp
  exact ⟨h1, h2, g1, g2, x, y, v1, v2, _, rfl, rfl, hk, hv, hz, (ok64 a1).1, (ok64 a1).2, (ok64 e1).1, (ok64 e1).2, (ok64 o.1).1, (ok64 o.1).2, (ok64 hvo).1, (ok64 hvo).2⟩
end Ch
section
variable {D : List CkD} {k j : Nat} {h1 h2 g1 g2 x y v1 v2 z : Int}
theorem Ch.Rn.cmp (R : Ch.Rn D k j h1 h2 g1 g2 x y v1 v2 z) (v : World) : Calls Try.prog 92 #[.agg #[.int .i64 v1, .int .i64 v2], .agg #[.int .i64 g1, .int .i64 g2]] v fun e v' => e = .returned (.tuple #[.int .i64 z, .int .i64 0]) ∧ Below v.heap.size v v' := by
  have := Cmp_any v1 v2 g1 g2 v R.b7.1 R.b7.2 R.b8.1 R.b8.2 R.b3.1 R.b3.2 R.b4.1 R.b4.2
  rw [R.hz] at this
  exact this
theorem Ch.Rn.step0 (R : Ch.Rn D k j h1 h2 g1 g2 x y v1 v2 z) (hc : Ak.chkS D 0 = 0) (hl : D.length = 2) (A : Option Addr) (ca : Nat) (l : List CkR) (Q : Option Addr) (cq : Nat) (v : World) (hi : IsCs v A l) (hd : l.map Ak.dat = D) (hq : IsQs v Q []) :
    Calls Try.prog 87 #[.agg #[.slice A l.length ca, .slice Q ([] : List Qr).length cq, .int .i64 k, .int .i64 0, .int .i64 0, .int .i64 1, .bool false]] v (StQ D [⟨k, 2, 0, 1, h1, h2, x, y⟩] k 1 x y false v) := by
  have hk : k < D.length := by have := R.kj; omega
  have ha : Ak.ansS D ⟨(k : Int), 2, 0, 1, h1, h2, 0, 0⟩ = (x, y, 0) := by
    rw [Ak.ansS_at rfl hk, if_neg (by decide), if_pos rfl, R.hm]
  refine following0 A l.length ca Q ([] : List Qr).length cq k 0 1 false D [⟨k, 2, 0, 1, h1, h2, x, y⟩] k 1 x y false v (fun u hu => ?_)
  have := afterCut_good A ca l Q [] cq k 0 0 1 false h1 h2 ⟨k, 2, 0, 1, h1, h2, x, y⟩ u (hi.keep hu) (hq.keep hu)
  rw [hd] at this
  refine this hc (by rw [← hd, List.length_map] at hk; exact hk) R.hh R.b1 R.b2 ?_ ?_
  · rw [Ak.putE_at (n := ([] : List Qr).length) hc ha]
    rfl
  · unfold Ak.told
    rw [ha]
theorem Ch.Rn.step1 (R : Ch.Rn D k j h1 h2 g1 g2 x y v1 v2 z) (hc : Ak.chkS D 0 = 0) (hl : D.length = 2) (q : Qr) (A : Option Addr) (ca : Nat) (l : List CkR) (Q : Option Addr) (cq : Nat) (v : World) (hi : IsCs v A l) (hd : l.map Ak.dat = D) (hq : IsQs v Q [q]) :
    Calls Try.prog 87 #[.agg #[.slice A l.length ca, .slice Q [q].length cq, .int .i64 k, .int .i64 1, .int .i64 x, .int .i64 y, .bool false]] v (StQ D [q, ⟨j, 1, 0, 1, x, y, v1, v2⟩] k 2 x y (decide (0 ≤ z)) v) := by
  have hj : j < D.length := by have := R.kj; omega
  have hc1 : Ak.chkS D [q].length = 0 := Ch.chkS_up hc (by simp)
  have ha : Ak.ansS D ⟨(j : Int), 1, 0, 1, x, y, 0, 0⟩ = (v1, v2, 0) := by
    rw [Ak.ansS_at rfl hj, if_pos rfl, R.hv]
  refine following1 A l.length ca Q [q].length cq k x y false D [q, ⟨j, 1, 0, 1, x, y, v1, v2⟩] k 2 x y (decide (0 ≤ z)) v (fun u hu => ?_)
  have := afterChoice_good A ca l Q [q] cq k 1 x y false j g1 g2 z ⟨j, 1, 0, 1, x, y, v1, v2⟩ u (hi.keep hu) (hq.keep hu)
  rw [hd] at this
  refine this hc1 R.kj (by rw [← hd, List.length_map] at hj; exact hj) R.b5 R.b6 R.hg ?_ ?_ R.cmp
  · rw [Ak.putE_at hc1 ha]
    rfl
  · unfold Ak.told
    rw [ha]
/-- The states, one after the other. -/
theorem Ch.Rn.reach (R : Ch.Rn D k j h1 h2 g1 g2 x y v1 v2 z) (hc : Ak.chkS D 0 = 0) (hl : D.length = 2) (s : Nat) (hs : s ≤ 2) (A : Option Addr) (ca : Nat) (cs : List CkR) (w : World) (h : IsCs w A cs) (hD : cs.map Ak.dat = D) :
    Calls Try.prog 85 #[.slice A cs.length ca, .int .i64 k, .int .i64 (s : Nat)] w (StR D (Ch.pick [] [⟨k, 2, 0, 1, h1, h2, x, y⟩] [⟨k, 2, 0, 1, h1, h2, x, y⟩, ⟨j, 1, 0, 1, x, y, v1, v2⟩] s) k (s : Nat) (Ch.pick 0 x x s) (Ch.pick 1 y y s) (Ch.pick false false (decide (0 ≤ z)) s) w) := by
  refine reached_good A ca cs k s D (Ch.pick [] [⟨k, 2, 0, 1, h1, h2, x, y⟩] [⟨k, 2, 0, 1, h1, h2, x, y⟩, ⟨j, 1, 0, 1, x, y, v1, v2⟩]) (Ch.pick 0 x x) (Ch.pick 1 y y) (Ch.pick false false (decide (0 ≤ z))) w h hD hc (by rw [← hD, List.length_map] at hl; exact hl) (by have := R.kj; omega) ⟨rfl, rfl, rfl, rfl⟩ (fun i hi A ca l Q cq v h1 h2 h3 => ?_)
  rcases (show i = 0 ∨ i = 1 by omega) with rfl | rfl
  · exact R.step0 hc hl A ca l Q cq v h1 h2 h3
  · exact R.step1 hc hl _ A ca l Q cq v h1 h2 h3
end
section
variable {D : List CkD} {h1 h2 g1 g2 x y v1 v2 z : Int}
theorem cat0_len {l : List CkR} {len : Int} (hd : l.map Ak.dat = D) (hl : D.length = 2) (hn : (Ak.dAt D 0).1 = len) : (Ak.cat l 0).len = len := by
  have h2 : 0 < l.length := by rw [← List.length_map (f := Ak.dat), hd]; omega
  rw [← hn, ← hd, Ak.dAt_map l h2]
  rfl
/-- The agent 0 cuts. -/
theorem Ch.Rn.run0 (R : Ch.Rn D 0 1 h1 h2 g1 g2 x y v1 v2 z) (hc : Ak.chkS D 0 = 0) (hl : D.length = 2) (len : Int) (hn : (Ak.dAt D 0).1 = len) (A : Option Addr) (ca : Nat) (cs : List CkR) (w : World) (h : IsCs w A cs) (hD : cs.map Ak.dat = D) :
    Calls Try.prog 44 #[.slice A cs.length ca, .int .i64 0] w (RunQ [⟨0, 2, 0, 1, h1, h2, x, y⟩, ⟨1, 1, 0, 1, x, y, v1, v2⟩] (if 0 ≤ z then x else 0) (if 0 ≤ z then y else 1) (if 0 ≤ z then len else x) (if 0 ≤ z then 1 else y) (if 0 ≤ z then 0 else x) (if 0 ≤ z then 1 else y) (if 0 ≤ z then x else len) (if 0 ≤ z then y else 1) w) := by
  refine run_of A ca cs.length 0 x y (decide (0 ≤ z)) D _ _ _ _ _ _ _ _ _ w (fun v hv => R.reach hc hl 2 (Nat.le_refl _) A ca cs v (h.keep hv) hD) (fun A ca l Q n cq v hi hd => ?_)
  have hl2 : l.length = 2 := by rw [← List.length_map (f := Ak.dat), hd]; exact hl
  have hlen := cat0_len hd hl hn
  by_cases hz : 0 ≤ z
  · simp only [if_pos hz, decide_eq_true hz]
    exact divided0t A ca l Q n cq 2 x y len v hi hl2 hlen
  · simp only [if_neg hz, decide_eq_false hz]
    exact divided0f A ca l Q n cq 2 x y len v hi hl2 hlen
/-- The agent 1 cuts. -/
theorem Ch.Rn.run1 (R : Ch.Rn D 1 0 h1 h2 g1 g2 x y v1 v2 z) (hc : Ak.chkS D 0 = 0) (hl : D.length = 2) (len : Int) (hn : (Ak.dAt D 0).1 = len) (A : Option Addr) (ca : Nat) (cs : List CkR) (w : World) (h : IsCs w A cs) (hD : cs.map Ak.dat = D) :
    Calls Try.prog 44 #[.slice A cs.length ca, .int .i64 1] w (RunQ [⟨1, 2, 0, 1, h1, h2, x, y⟩, ⟨0, 1, 0, 1, x, y, v1, v2⟩] (if 0 ≤ z then 0 else x) (if 0 ≤ z then 1 else y) (if 0 ≤ z then x else len) (if 0 ≤ z then y else 1) (if 0 ≤ z then x else 0) (if 0 ≤ z then y else 1) (if 0 ≤ z then len else x) (if 0 ≤ z then 1 else y) w) := by
  refine run_of A ca cs.length 1 x y (decide (0 ≤ z)) D _ _ _ _ _ _ _ _ _ w (fun v hv => R.reach hc hl 2 (Nat.le_refl _) A ca cs v (h.keep hv) hD) (fun A ca l Q n cq v hi hd => ?_)
  have hl2 : l.length = 2 := by rw [← List.length_map (f := Ak.dat), hd]; exact hl
  have hlen := cat0_len hd hl hn
  by_cases hz : 0 ≤ z
  · simp only [if_pos hz, decide_eq_true hz]
    exact divided1t A ca l Q n cq 2 x y len v hi hl2 hlen
  · simp only [if_neg hz, decide_eq_false hz]
    exact divided1f A ca l Q n cq 2 x y len v hi hl2 hlen
end
end Go.Proofs.Ytaaamcleilpnhaa
namespace Go.Proofs.Ytaaamcleilpnhaa
open Go.RowKit
theorem BK.call {w v : World} {p : Nat} {l : List Value} (h : BK w p l) (hb : Below w.heap.size w v) : BK v p l := h.keep hb
theorem BK.size {w : World} {p : Nat} {l : List Value} (h : BK w p l) : p < w.heap.size := h.lt
theorem al7_0 : Ch.Rn [(2, [0, 2], [1]), (2, [0, 1, 2], [3, 1])] 0 1 1 1 2 1 1 1 3 1 1 := ⟨by decide, by decide +kernel, by decide +kernel, by decide +kernel, by decide +kernel, by decide +kernel, ⟨by decide, by decide⟩, ⟨by decide, by decide⟩, ⟨by decide, by decide⟩, ⟨by decide, by decide⟩, ⟨by decide, by decide⟩, ⟨by decide, by decide⟩, ⟨by decide, by decide⟩, ⟨by decide, by decide⟩⟩
theorem al7_1 : Ch.Rn [(2, [0, 2], [1]), (2, [0, 1, 2], [3, 1])] 1 0 2 1 1 1 2 3 2 3 (-1) := ⟨by decide, by decide +kernel, by decide +kernel, by decide +kernel, by decide +kernel, by decide +kernel, ⟨by decide, by decide⟩, ⟨by decide, by decide⟩, ⟨by decide, by decide⟩, ⟨by decide, by decide⟩, ⟨by decide, by decide⟩, ⟨by decide, by decide⟩, ⟨by decide, by decide⟩, ⟨by decide, by decide⟩⟩
theorem al7_chk : Ak.chkS [(2, [0, 2], [1]), (2, [0, 1, 2], [3, 1])] 0 = 0 := by decide +kernel
theorem al7_run0 (P : Nat) (l : List CkR) (w : World) (hl : l.length = 2) (hd : l.map Ak.dat = [(2, [0, 2], [1]), (2, [0, 1, 2], [3, 1])]) (h : IsCs w (some ⟨P, 0, none⟩) l) : Calls Try.prog 44 #[.slice (some ⟨P, 0, none⟩) 2 2, .int .i64 0] w (RunQ [⟨0, 2, 0, 1, 1, 1, 1, 1⟩, ⟨1, 1, 0, 1, 1, 1, 3, 1⟩] 1 1 2 1 0 1 1 1 w) := by
  have := al7_0.run0 al7_chk rfl 2 rfl (some ⟨P, 0, none⟩) 2 l w h hd
  rw [hl] at this
  exact this
theorem al7_run1 (P : Nat) (l : List CkR) (w : World) (hl : l.length = 2) (hd : l.map Ak.dat = [(2, [0, 2], [1]), (2, [0, 1, 2], [3, 1])]) (h : IsCs w (some ⟨P, 0, none⟩) l) : Calls Try.prog 44 #[.slice (some ⟨P, 0, none⟩) 2 2, .int .i64 1] w (RunQ [⟨1, 2, 0, 1, 2, 1, 2, 3⟩, ⟨0, 1, 0, 1, 2, 3, 2, 3⟩] 2 3 2 1 0 1 2 3 w) := by
  have := al7_1.run1 al7_chk rfl 2 rfl (some ⟨P, 0, none⟩) 2 l w h hd
  rw [hl] at this
  exact this
set_option linter.unusedSimpArgs false in
set_option maxHeartbeats 8000000 in
set_option maxRecDepth 100000 in
theorem piece7_any (a b c d : Int) (w : World) : Calls Try.prog 89 #[.agg #[.int .i64 a, .int .i64 b], .agg #[.int .i64 c, .int .i64 d]] w fun e w' => ∃ g, e = .returned (.slice (some ⟨g, 0, none⟩) 1 1) ∧ Below w.heap.size w w' ∧ BK w' g [.int .i64 a, .int .i64 b, .int .i64 c, .int .i64 d] := by
  go_enter Try.func89, Try.ntmps89
  go_upto_region 1 with fail
  refine at_worldQ (fun v => Below w.heap.size w v ∧ BK v (w.heap.size) [.int .i64 a, .int .i64 b] ∧ BK v (w.heap.size + 1) [.int .i64 c, .int .i64 d] ∧ v.heap.size = w.heap.size + 2) ⟨(below_al (below_al (Below.refl _ _) _) _), (by have b := ((BK.new w [.int .i64 a, .int .i64 b] 23).al (.cells #[.int .i64 c, .int .i64 d] 23)); simpa only [World.size_alloc] using b), (by have b := (BK.new (w.alloc (.cells #[.int .i64 a, .int .i64 b] 23)) [.int .i64 c, .int .i64 d] 23); simpa only [World.size_alloc] using b), by simp only [World.size_alloc]⟩ (fun V hS => ?_)
  obtain ⟨hbb, B0, B1, hVs⟩ := hS
  have p0 := B0.c 0 rfl
  have p1 := B0.c 1 rfl
  have q0 := B1.c 0 rfl
  have q1 := B1.c 1 rfl
  clear hVs
  go_wp2_with fail
  go_ret
  exact ⟨_, rfl, below_al hbb _, BK.new _ _ _⟩
set_option linter.unusedSimpArgs false in
set_option maxHeartbeats 8000000 in
set_option maxRecDepth 100000 in
theorem alive7_any (w : World) : Calls Try.prog 47 #[] w fun e w' => e = .returned (.bool true) ∧ Below w.heap.size w w' := by
  go_enter Try.func47, Try.ntmps47
  go_wp2_with fail
  refine (rOf_any _ _).mono ?_
  rintro e w1 ⟨rfl, hb⟩
  have hbb := hb
  clear hb
  go_wp2_with fail
  refine (rOf_any _ _).mono ?_
  rintro e w2 ⟨rfl, hb⟩
  replace hbb := hbb.trans (hb.mono hbb.size)
  clear hb
  go_wp2_with fail
  refine (rOf_any _ _).mono ?_
  rintro e w3 ⟨rfl, hb⟩
  replace hbb := hbb.trans (hb.mono hbb.size)
  clear hb
  go_upto_region 2 with fail
  refine at_worldQ (fun v => Below w.heap.size w v ∧ w.heap.size ≤ v.heap.size ∧ BK v (w3.heap.size) [.int .i64 0, .int .i64 1] ∧ BK v (w3.heap.size + 1) [.int .i64 1, .int .i64 1] ∧ BK v (w3.heap.size + 1 + 1) [.int .i64 2, .int .i64 1] ∧ BK v (w3.heap.size + 1 + 1 + 1) [.int .i64 2, .int .i64 3]) ⟨(below_al (below_al (below_al (below_al hbb _) _) _) _), Below.size (B := w.heap.size) (w := w) (below_al (below_al (below_al (below_al hbb _) _) _) _), (by have b := ((((BK.new w3 [.int .i64 0, .int .i64 1] 23).al (.cells #[.int .i64 1, .int .i64 1] 23)).al (.cells #[.int .i64 2, .int .i64 1] 23)).al (.cells #[.int .i64 2, .int .i64 3] 23)); simpa only [World.size_alloc] using b), (by have b := (((BK.new (w3.alloc (.cells #[.int .i64 0, .int .i64 1] 23)) [.int .i64 1, .int .i64 1] 23).al (.cells #[.int .i64 2, .int .i64 1] 23)).al (.cells #[.int .i64 2, .int .i64 3] 23)); simpa only [World.size_alloc] using b), (by have b := ((BK.new ((w3.alloc (.cells #[.int .i64 0, .int .i64 1] 23)).alloc (.cells #[.int .i64 1, .int .i64 1] 23)) [.int .i64 2, .int .i64 1] 23).al (.cells #[.int .i64 2, .int .i64 3] 23)); simpa only [World.size_alloc] using b), (by have b := (BK.new (((w3.alloc (.cells #[.int .i64 0, .int .i64 1] 23)).alloc (.cells #[.int .i64 1, .int .i64 1] 23)).alloc (.cells #[.int .i64 2, .int .i64 1] 23)) [.int .i64 2, .int .i64 3] 23); simpa only [World.size_alloc] using b)⟩ (fun V2 hS => ?_)
  clear hbb 
  obtain ⟨hbb, hBV, BZ, BO, BA, BT⟩ := hS
  generalize w3.heap.size + 1 + 1 + 1 = p3 at *
  generalize w3.heap.size + 1 + 1 = p2 at *
  generalize w3.heap.size + 1 = p1 at *
  generalize w3.heap.size = p0 at *
  go_wp2_with fail
  refine (two7_any _).mono ?_
  rintro e wta ⟨Pa, la, rfl, hla, hda, hcra⟩
  have RN := Lib.hid (al7_run0 Pa la wta hla hda (hcra.isCs hla.symm (by unfold maxLen; omega)))
  have hb := hcra.bb
  clear hcra hda hla
  replace BZ := BZ.keep hb
  replace BO := BO.keep hb
  replace BA := BA.keep hb
  replace BT := BT.keep hb
  replace hbb := keepB hbb hb
  clear hb
  go_wp2_with fail
  refine RN.out.mono ?_
  rintro e wra ⟨Da, ga, ka, Qa, na, cqa, rfl, hb, hna, hqq, hdva⟩
  have hn2 : na = 2 := hna
  clear hna RN hqq
  subst hn2
  replace BZ := BZ.keep hb
  replace BO := BO.keep hb
  replace BA := BA.keep hb
  replace BT := BT.keep hb
  replace hbb := keepB hbb hb
  clear hb
  go_upto_region 3 with fail
  refine at_worldQ (fun v => Below w.heap.size w v ∧ w.heap.size ≤ v.heap.size ∧ BK v p0 [.int .i64 0, .int .i64 1] ∧ BK v p1 [.int .i64 1, .int .i64 1] ∧ BK v p2 [.int .i64 2, .int .i64 1] ∧ BK v p3 [.int .i64 2, .int .i64 3] ∧ BK v wra.heap.size [.slice (some ⟨Da, 0, none⟩) 2 2] ∧ DivB 0 Da ga ka 1 1 2 1 0 1 1 1 v) ⟨(below_al hbb _), Below.size (B := w.heap.size) (w := w) (below_al hbb _), BZ.al _, BO.al _, BA.al _, BT.al _, BK.new _ _ _, (hdva.mono (Nat.zero_le _)).al _⟩ (fun V3 hS => ?_)
  clear hbb BZ BO BA BT hBV
  obtain ⟨hbb, hBV, BZ, BO, BA, BT, Ba, Ea⟩ := hS
  clear hdva
  generalize wra.heap.size = ba at *
  go_wp2_with fail
  refine (two7_any _).mono ?_
  rintro e wtb ⟨Pb, lb, rfl, hlb, hdb, hcrb⟩
  have RN := Lib.hid (al7_run1 Pb lb wtb hlb hdb (hcrb.isCs hlb.symm (by unfold maxLen; omega)))
  have hb := hcrb.bb
  clear hcrb hdb hlb
  replace BZ := BZ.keep hb
  replace BO := BO.keep hb
  replace BA := BA.keep hb
  replace BT := BT.keep hb
  replace Ba := Ba.keep hb
  replace Ea := Ea.call hb
  replace hbb := keepB hbb hb
  clear hb
  go_wp2_with fail
  refine RN.out.mono ?_
  rintro e wrb ⟨Db, gb, kb, Qb, nb, cqb, rfl, hb, hnb, hqq, hdvb⟩
  have hn2 : nb = 2 := hnb
  clear hnb RN hqq
  subst hn2
  replace BZ := BZ.keep hb
  replace BO := BO.keep hb
  replace BA := BA.keep hb
  replace BT := BT.keep hb
  replace Ba := Ba.keep hb
  replace Ea := Ea.call hb
  replace hbb := keepB hbb hb
  clear hb
  go_upto_region 4 with fail
  refine at_worldQ (fun v => Below w.heap.size w v ∧ w.heap.size ≤ v.heap.size ∧ BK v p0 [.int .i64 0, .int .i64 1] ∧ BK v p1 [.int .i64 1, .int .i64 1] ∧ BK v p2 [.int .i64 2, .int .i64 1] ∧ BK v p3 [.int .i64 2, .int .i64 3] ∧ BK v ba [.slice (some ⟨Da, 0, none⟩) 2 2] ∧ DivB 0 Da ga ka 1 1 2 1 0 1 1 1 v ∧ BK v wrb.heap.size [.slice (some ⟨Db, 0, none⟩) 2 2] ∧ DivB 0 Db gb kb 2 3 2 1 0 1 2 3 v) ⟨(below_al hbb _), Below.size (B := w.heap.size) (w := w) (below_al hbb _), BZ.al _, BO.al _, BA.al _, BT.al _, Ba.al _, Ea.al _, BK.new _ _ _, (hdvb.mono (Nat.zero_le _)).al _⟩ (fun V4 hS => ?_)
  clear hbb BZ BO BA BT Ba Ea hBV
  obtain ⟨hbb, hBV, BZ, BO, BA, BT, Ba, Ea, Bb, Eb⟩ := hS
  clear hdvb
  generalize wrb.heap.size = bb at *
  have z0 := BZ.c 0 rfl
  have z1 := BZ.c 1 rfl
  have o0 := BO.c 0 rfl
  have o1 := BO.c 1 rfl
  have a0 := BA.c 0 rfl
  have a1 := BA.c 1 rfl
  have t0 := BT.c 0 rfl
  have t1 := BT.c 1 rfl
  have da := Ba.c 0 rfl
  have db := Bb.c 0 rfl
  refine wp_region_noPanic ?_
  refine wp_region_held_drew (S := (GB (fun _ => False) V4)) (by kernel_rfl) ((GB.refl _ _).drew) (fun hHeld => ?_)
  refine at_anyH (fun v => GB (fun _ => False) V4 v) hHeld (fun wv0 hNew => ?_)
  clear hHeld
  have hHeld := hNew
  clear hNew
  refine wpAnyH_take (i := 0) (oi := _) (v := ?vv1) rfl (by kernel_rfl) (by kernel_rfl) (by kernel_rfl) (fun _ _ _ h => h) (Or.inl ⟨by kernel_rfl, ?hyv1⟩) hHeld ?restv1
  case hyv1 => (intro w hSw; go_simp; first | done | (with_reducible rfl))
  try simp only [Act.put, PA, PB]
  refine wpAnyH_take (i := 1) (oi := _) (v := ?vv2) rfl (by kernel_rfl) (by kernel_rfl) (by kernel_rfl) (fun _ _ _ h => h) (Or.inl ⟨by kernel_rfl, ?hyv2⟩) hHeld ?restv2
  case hyv2 => (intro w hSw; go_simp; first | done | (with_reducible rfl))
  try simp only [Act.put, PA, PB]
  refine wpAnyH_take (i := 2) (oi := _) (v := ?vv3) rfl (by kernel_rfl) (by kernel_rfl) (by kernel_rfl) (fun _ _ _ h => h) (Or.inl ⟨by kernel_rfl, ?hyv3⟩) hHeld ?restv3
  case hyv3 => (intro w hSw; go_simp; first | done | (with_reducible rfl))
  try simp only [Act.put, PA, PB]
  refine wpAnyH_take (i := 3) (oi := _) (v := ?vv4) rfl (by kernel_rfl) (by kernel_rfl) (by kernel_rfl) (fun _ _ _ h => h) (Or.inl ⟨by kernel_rfl, ?hyv4⟩) hHeld ?restv4
  case hyv4 => (intro w hSw; have kz0 := hSw.cell (fun h => h) z0; have kz1 := hSw.cell (fun h => h) z1; have ko0 := hSw.cell (fun h => h) o0; have ko1 := hSw.cell (fun h => h) o1; have ka0 := hSw.cell (fun h => h) a0; have ka1 := hSw.cell (fun h => h) a1; have kt0 := hSw.cell (fun h => h) t0; have kt1 := hSw.cell (fun h => h) t1; have kda := hSw.cell (fun h => h) da; have kdb := hSw.cell (fun h => h) db; go_simp; first | done | (with_reducible rfl))
  try simp only [Act.put, PA, PB]
  refine wpAnyH_take (i := 4) (oi := _) (v := ?vv5) rfl (by kernel_rfl) (by kernel_rfl) (by kernel_rfl) (fun _ _ _ h => h) (Or.inl ⟨by kernel_rfl, ?hyv5⟩) hHeld ?restv5
  case hyv5 => (intro w hSw; have kz0 := hSw.cell (fun h => h) z0; have kz1 := hSw.cell (fun h => h) z1; have ko0 := hSw.cell (fun h => h) o0; have ko1 := hSw.cell (fun h => h) o1; have ka0 := hSw.cell (fun h => h) a0; have ka1 := hSw.cell (fun h => h) a1; have kt0 := hSw.cell (fun h => h) t0; have kt1 := hSw.cell (fun h => h) t1; have kda := hSw.cell (fun h => h) da; have kdb := hSw.cell (fun h => h) db; go_simp; first | done | (with_reducible rfl))
  try simp only [Act.put, PA, PB]
  refine wpAnyH_take (i := 5) (oi := _) (v := ?vv6) rfl (by kernel_rfl) (by kernel_rfl) (by kernel_rfl) (fun _ _ _ h => h) (Or.inl ⟨by kernel_rfl, ?hyv6⟩) hHeld ?restv6
  case hyv6 => (intro w hSw; have kz0 := hSw.cell (fun h => h) z0; have kz1 := hSw.cell (fun h => h) z1; have ko0 := hSw.cell (fun h => h) o0; have ko1 := hSw.cell (fun h => h) o1; have ka0 := hSw.cell (fun h => h) a0; have ka1 := hSw.cell (fun h => h) a1; have kt0 := hSw.cell (fun h => h) t0; have kt1 := hSw.cell (fun h => h) t1; have kda := hSw.cell (fun h => h) da; have kdb := hSw.cell (fun h => h) db; go_simp; first | done | (with_reducible rfl))
  try simp only [Act.put, PA, PB]
  refine wpAnyH_take (i := 7) (oi := _) (v := ?vv7) rfl (by kernel_rfl) (by kernel_rfl) (by kernel_rfl) (fun _ _ _ h => h) (Or.inl ⟨by kernel_rfl, ?hyv7⟩) hHeld ?restv7
  case hyv7 => (intro w hSw; have kz0 := hSw.cell (fun h => h) z0; have kz1 := hSw.cell (fun h => h) z1; have ko0 := hSw.cell (fun h => h) o0; have ko1 := hSw.cell (fun h => h) o1; have ka0 := hSw.cell (fun h => h) a0; have ka1 := hSw.cell (fun h => h) a1; have kt0 := hSw.cell (fun h => h) t0; have kt1 := hSw.cell (fun h => h) t1; have kda := hSw.cell (fun h => h) da; have kdb := hSw.cell (fun h => h) db; go_simp; first | done | (with_reducible rfl))
  try simp only [Act.put, PA, PB]
  refine wpAnyH_take (i := 8) (oi := _) (v := ?vv8) rfl (by kernel_rfl) (by kernel_rfl) (by kernel_rfl) (fun _ _ _ h => h) (Or.inl ⟨by kernel_rfl, ?hyv8⟩) hHeld ?restv8
  case hyv8 => (intro w hSw; have kz0 := hSw.cell (fun h => h) z0; have kz1 := hSw.cell (fun h => h) z1; have ko0 := hSw.cell (fun h => h) o0; have ko1 := hSw.cell (fun h => h) o1; have ka0 := hSw.cell (fun h => h) a0; have ka1 := hSw.cell (fun h => h) a1; have kt0 := hSw.cell (fun h => h) t0; have kt1 := hSw.cell (fun h => h) t1; have kda := hSw.cell (fun h => h) da; have kdb := hSw.cell (fun h => h) db; go_simp; first | done | (with_reducible rfl))
  try simp only [Act.put, PA, PB]
  refine wpAnyH_ready (rs := [6]) (by kernel_rfl) (by simp) (AllReadyH.cons (o := _) rfl (fun K hK => ?_) AllReadyH.nil)
  go_simp
  refine (piece7_any 1 1 2 1 _).mono ?_
  rintro e wv9 ⟨q6, rfl, hb3, H6⟩
  go_wp2_with fail
  refine hK.out _ _ (hHeld.below hb3) (fun hNew => ?_)
  clear hb3
  clear hHeld hK K
  have hHeld := hNew
  clear hNew
  try simp only [Act.put, PA, PB]
  refine wpAnyH_ready (rs := [9]) (by kernel_rfl) (by simp) (AllReadyH.cons (o := _) rfl (fun K hK => ?_) AllReadyH.nil)
  go_simp
  refine (piece7_any 0 1 1 1 _).mono ?_
  rintro e wv10 ⟨q9, rfl, hb3, H9⟩
  go_wp2_with fail
  refine hK.out _ _ (hHeld.below hb3) (fun hNew => ?_)
  replace H6 := H6.call hb3
  clear hb3
  clear hHeld hK K
  have hHeld := hNew
  clear hNew
  try simp only [Act.put, PA, PB]
  refine wpAnyH_ready (rs := [10]) (by kernel_rfl) (by simp) (AllReadyH.cons (o := _) rfl (fun K hK => ?_) AllReadyH.nil)
  go_simp
  refine hK.out _ _ (hHeld.al _) (fun hNew => ?_)
  have hX : V4.heap.size ≤ wv10.heap.size := hHeld.size
  clear hHeld hK K
  have hHeld := hNew
  clear hNew
  try simp only [Act.put, PA, PB]
  have gXH6 := H6.size
  have gXH9 := H9.size
  refine at_anyH (fun v => GB (fun _ => False) V4 v ∧ BK v (wv10.heap.size) [.slice (some ⟨q6, 0, none⟩) 1 1, .slice (some ⟨q9, 0, none⟩) 1 1] ∧ BK v q6 [.int .i64 1, .int .i64 1, .int .i64 2, .int .i64 1] ∧ BK v q9 [.int .i64 0, .int .i64 1, .int .i64 1, .int .i64 1]) ⟨hHeld, BK.new _ _ _, H6.al _, H9.al _⟩ (fun wv11 hS => ?_)
  clear hHeld H6 H9
  obtain ⟨hHeld, BX, H6, H9⟩ := hS
  refine wpAnyH_take (i := 11) (oi := _) (v := ?vv12) rfl (by kernel_rfl) (by kernel_rfl) (by kernel_rfl) (fun _ _ _ h => h) (Or.inl ⟨by kernel_rfl, ?hyv12⟩) hHeld ?restv12
  case hyv12 => (intro w hSw; go_simp; first | done | (with_reducible rfl))
  try simp only [Act.put, PA, PB]
  refine wpAnyH_ready (rs := [12]) (by kernel_rfl) (by simp) (AllReadyH.cons (o := _) rfl (fun K hK => ?_) AllReadyH.nil)
  go_simp
  refine (sameDiv_eq Da (wv10.heap.size) 0 0 ga ka q6 q9 _ _ _ _ _ _ _ _ _ (Ea.call (hHeld.toBelow (Below.refl _ _) (fun k hk => hk.elim) (Nat.le_refl _))) ⟨Nat.zero_le _, Nat.zero_le _, Nat.zero_le _, BX, H6, H9⟩).mono ?_
  rintro e wv13 ⟨rfl, hb3⟩
  go_wp2_with fail
  refine hK.out _ _ (hHeld.below hb3) (fun hNew => ?_)
  replace BX := BX.keep hb3
  replace H6 := H6.call hb3
  replace H9 := H9.call hb3
  clear hb3
  clear hHeld hK K
  have hHeld := hNew
  clear hNew
  try simp only [Act.put, PA, PB]
  refine wpAnyH_take (i := 13) (oi := _) (v := ?vv14) rfl (by kernel_rfl) (by kernel_rfl) (by kernel_rfl) (fun _ _ _ h => h) (Or.inl ⟨by kernel_rfl, ?hyv14⟩) hHeld ?restv14
  case hyv14 => (intro w hSw; go_simp; first | done | (with_reducible rfl))
  try simp only [Act.put, PA, PB]
  refine wpAnyH_take (i := 14) (oi := _) (v := ?vv15) rfl (by kernel_rfl) (by kernel_rfl) (by kernel_rfl) (fun _ _ _ h => h) (Or.inl ⟨by kernel_rfl, ?hyv15⟩) hHeld ?restv15
  case hyv15 => (intro w hSw; go_simp; first | done | (with_reducible rfl))
  try simp only [Act.put, PA, PB]
  refine wpAnyH_take (i := 15) (oi := _) (v := ?vv16) rfl (by kernel_rfl) (by kernel_rfl) (by kernel_rfl) (fun _ _ _ h => h) (Or.inl ⟨by kernel_rfl, ?hyv16⟩) hHeld ?restv16
  case hyv16 => (intro w hSw; go_simp; first | done | (with_reducible rfl))
  try simp only [Act.put, PA, PB]
  refine wpAnyH_take (i := 16) (oi := _) (v := ?vv17) rfl (by kernel_rfl) (by kernel_rfl) (by kernel_rfl) (fun _ _ _ h => h) (Or.inl ⟨by kernel_rfl, ?hyv17⟩) hHeld ?restv17
  case hyv17 => (intro w hSw; go_simp; first | done | (with_reducible rfl))
  try simp only [Act.put, PA, PB]
  refine wpAnyH_take (i := 17) (oi := _) (v := ?vv18) rfl (by kernel_rfl) (by kernel_rfl) (by kernel_rfl) (fun _ _ _ h => h) (Or.inl ⟨by kernel_rfl, ?hyv18⟩) hHeld ?restv18
  case hyv18 => (intro w hSw; go_simp; first | done | (with_reducible rfl))
  try simp only [Act.put, PA, PB]
  refine wpAnyH_take (i := 18) (oi := _) (v := ?vv19) rfl (by kernel_rfl) (by kernel_rfl) (by kernel_rfl) (fun _ _ _ h => h) (Or.inl ⟨by kernel_rfl, ?hyv19⟩) hHeld ?restv19
  case hyv19 => (intro w hSw; go_simp; first | done | (with_reducible rfl))
  try simp only [Act.put, PA, PB]
  refine wpAnyH_take (i := 19) (oi := _) (v := ?vv20) rfl (by kernel_rfl) (by kernel_rfl) (by kernel_rfl) (fun _ _ _ h => h) (Or.inl ⟨by kernel_rfl, ?hyv20⟩) hHeld ?restv20
  case hyv20 => (intro w hSw; go_simp; first | done | (with_reducible rfl))
  try simp only [Act.put, PA, PB]
  refine wpAnyH_take (i := 20) (oi := _) (v := ?vv21) rfl (by kernel_rfl) (by kernel_rfl) (by kernel_rfl) (fun _ _ _ h => h) (Or.inl ⟨by kernel_rfl, ?hyv21⟩) hHeld ?restv21
  case hyv21 => (intro w hSw; go_simp; first | done | (with_reducible rfl))
  try simp only [Act.put, PA, PB]
  refine wpAnyH_take (i := 21) (oi := _) (v := ?vv22) rfl (by kernel_rfl) (by kernel_rfl) (by kernel_rfl) (fun _ _ _ h => h) (Or.inl ⟨by kernel_rfl, ?hyv22⟩) hHeld ?restv22
  case hyv22 => (intro w hSw; go_simp; first | done | (with_reducible rfl))
  try simp only [Act.put, PA, PB]
  refine wpAnyH_take (i := 22) (oi := _) (v := ?vv23) rfl (by kernel_rfl) (by kernel_rfl) (by kernel_rfl) (fun _ _ _ h => h) (Or.inl ⟨by kernel_rfl, ?hyv23⟩) hHeld ?restv23
  case hyv23 => (intro w hSw; go_simp; first | done | (with_reducible rfl))
  try simp only [Act.put, PA, PB]
  refine wpAnyH_take (i := 23) (oi := _) (v := ?vv24) rfl (by kernel_rfl) (by kernel_rfl) (by kernel_rfl) (fun _ _ _ h => h) (Or.inl ⟨by kernel_rfl, ?hyv24⟩) hHeld ?restv24
  case hyv24 => (intro w hSw; go_simp; first | done | (with_reducible rfl))
  try simp only [Act.put, PA, PB]
  refine wpAnyH_take (i := 24) (oi := _) (v := ?vv25) rfl (by kernel_rfl) (by kernel_rfl) (by kernel_rfl) (fun _ _ _ h => h) (Or.inl ⟨by kernel_rfl, ?hyv25⟩) hHeld ?restv25
  case hyv25 => (intro w hSw; have kz0 := hSw.cell (fun h => h) z0; have kz1 := hSw.cell (fun h => h) z1; have ko0 := hSw.cell (fun h => h) o0; have ko1 := hSw.cell (fun h => h) o1; have ka0 := hSw.cell (fun h => h) a0; have ka1 := hSw.cell (fun h => h) a1; have kt0 := hSw.cell (fun h => h) t0; have kt1 := hSw.cell (fun h => h) t1; have kda := hSw.cell (fun h => h) da; have kdb := hSw.cell (fun h => h) db; go_simp; first | done | (with_reducible rfl))
  try simp only [Act.put, PA, PB]
  refine wpAnyH_take (i := 25) (oi := _) (v := ?vv26) rfl (by kernel_rfl) (by kernel_rfl) (by kernel_rfl) (fun _ _ _ h => h) (Or.inl ⟨by kernel_rfl, ?hyv26⟩) hHeld ?restv26
  case hyv26 => (intro w hSw; have kz0 := hSw.cell (fun h => h) z0; have kz1 := hSw.cell (fun h => h) z1; have ko0 := hSw.cell (fun h => h) o0; have ko1 := hSw.cell (fun h => h) o1; have ka0 := hSw.cell (fun h => h) a0; have ka1 := hSw.cell (fun h => h) a1; have kt0 := hSw.cell (fun h => h) t0; have kt1 := hSw.cell (fun h => h) t1; have kda := hSw.cell (fun h => h) da; have kdb := hSw.cell (fun h => h) db; go_simp; first | done | (with_reducible rfl))
  try simp only [Act.put, PA, PB]
  refine wpAnyH_take (i := 26) (oi := _) (v := ?vv27) rfl (by kernel_rfl) (by kernel_rfl) (by kernel_rfl) (fun _ _ _ h => h) (Or.inl ⟨by kernel_rfl, ?hyv27⟩) hHeld ?restv27
  case hyv27 => (intro w hSw; have kz0 := hSw.cell (fun h => h) z0; have kz1 := hSw.cell (fun h => h) z1; have ko0 := hSw.cell (fun h => h) o0; have ko1 := hSw.cell (fun h => h) o1; have ka0 := hSw.cell (fun h => h) a0; have ka1 := hSw.cell (fun h => h) a1; have kt0 := hSw.cell (fun h => h) t0; have kt1 := hSw.cell (fun h => h) t1; have kda := hSw.cell (fun h => h) da; have kdb := hSw.cell (fun h => h) db; go_simp; first | done | (with_reducible rfl))
  try simp only [Act.put, PA, PB]
  refine wpAnyH_take (i := 28) (oi := _) (v := ?vv28) rfl (by kernel_rfl) (by kernel_rfl) (by kernel_rfl) (fun _ _ _ h => h) (Or.inl ⟨by kernel_rfl, ?hyv28⟩) hHeld ?restv28
  case hyv28 => (intro w hSw; have kz0 := hSw.cell (fun h => h) z0; have kz1 := hSw.cell (fun h => h) z1; have ko0 := hSw.cell (fun h => h) o0; have ko1 := hSw.cell (fun h => h) o1; have ka0 := hSw.cell (fun h => h) a0; have ka1 := hSw.cell (fun h => h) a1; have kt0 := hSw.cell (fun h => h) t0; have kt1 := hSw.cell (fun h => h) t1; have kda := hSw.cell (fun h => h) da; have kdb := hSw.cell (fun h => h) db; go_simp; first | done | (with_reducible rfl))
  try simp only [Act.put, PA, PB]
  refine wpAnyH_take (i := 29) (oi := _) (v := ?vv29) rfl (by kernel_rfl) (by kernel_rfl) (by kernel_rfl) (fun _ _ _ h => h) (Or.inl ⟨by kernel_rfl, ?hyv29⟩) hHeld ?restv29
  case hyv29 => (intro w hSw; have kz0 := hSw.cell (fun h => h) z0; have kz1 := hSw.cell (fun h => h) z1; have ko0 := hSw.cell (fun h => h) o0; have ko1 := hSw.cell (fun h => h) o1; have ka0 := hSw.cell (fun h => h) a0; have ka1 := hSw.cell (fun h => h) a1; have kt0 := hSw.cell (fun h => h) t0; have kt1 := hSw.cell (fun h => h) t1; have kda := hSw.cell (fun h => h) da; have kdb := hSw.cell (fun h => h) db; go_simp; first | done | (with_reducible rfl))
  try simp only [Act.put, PA, PB]
  refine wpAnyH_ready (rs := [27]) (by kernel_rfl) (by simp) (AllReadyH.cons (o := _) rfl (fun K hK => ?_) AllReadyH.nil)
  go_simp
  refine (piece7_any 2 3 2 1 _).mono ?_
  rintro e wv30 ⟨q27, rfl, hb3, H27⟩
  go_wp2_with fail
  refine hK.out _ _ (hHeld.below hb3) (fun hNew => ?_)
  have cX := BX.lt
  replace BX := BX.keep hb3
  replace H6 := H6.call hb3
  replace H9 := H9.call hb3
  clear hb3
  clear hHeld hK K
  have hHeld := hNew
  clear hNew
  try simp only [Act.put, PA, PB]
  refine wpAnyH_ready (rs := [30]) (by kernel_rfl) (by simp) (AllReadyH.cons (o := _) rfl (fun K hK => ?_) AllReadyH.nil)
  go_simp
  refine (piece7_any 0 1 2 3 _).mono ?_
  rintro e wv31 ⟨q30, rfl, hb3, H30⟩
  go_wp2_with fail
  refine hK.out _ _ (hHeld.below hb3) (fun hNew => ?_)
  have cX := BX.lt
  replace BX := BX.keep hb3
  replace H6 := H6.call hb3
  replace H9 := H9.call hb3
  replace H27 := H27.call hb3
  clear hb3
  clear hHeld hK K
  have hHeld := hNew
  clear hNew
  try simp only [Act.put, PA, PB]
  refine wpAnyH_ready (rs := [31]) (by kernel_rfl) (by simp) (AllReadyH.cons (o := _) rfl (fun K hK => ?_) AllReadyH.nil)
  go_simp
  refine hK.out _ _ (hHeld.al _) (fun hNew => ?_)
  have hY : V4.heap.size ≤ wv31.heap.size := hHeld.size
  have dXY := BX.lt
  clear hHeld hK K
  have hHeld := hNew
  clear hNew
  try simp only [Act.put, PA, PB]
  have gYH6 := H6.size
  have gYH9 := H9.size
  have gYH27 := H27.size
  have gYH30 := H30.size
  refine at_anyH (fun v => GB (fun _ => False) V4 v ∧ BK v (wv10.heap.size) [.slice (some ⟨q6, 0, none⟩) 1 1, .slice (some ⟨q9, 0, none⟩) 1 1] ∧ BK v (wv31.heap.size) [.slice (some ⟨q27, 0, none⟩) 1 1, .slice (some ⟨q30, 0, none⟩) 1 1] ∧ BK v q6 [.int .i64 1, .int .i64 1, .int .i64 2, .int .i64 1] ∧ BK v q9 [.int .i64 0, .int .i64 1, .int .i64 1, .int .i64 1] ∧ BK v q27 [.int .i64 2, .int .i64 3, .int .i64 2, .int .i64 1] ∧ BK v q30 [.int .i64 0, .int .i64 1, .int .i64 2, .int .i64 3]) ⟨hHeld, BX.al _, BK.new _ _ _, H6.al _, H9.al _, H27.al _, H30.al _⟩ (fun wv32 hS => ?_)
  clear hHeld BX H6 H9 H27 H30
  obtain ⟨hHeld, BX, BY, H6, H9, H27, H30⟩ := hS
  refine wpAnyH_take (i := 32) (oi := _) (v := ?vv33) rfl (by kernel_rfl) (by kernel_rfl) (by kernel_rfl) (fun _ _ _ h => h) (Or.inl ⟨by kernel_rfl, ?hyv33⟩) hHeld ?restv33
  case hyv33 => (intro w hSw; go_simp; first | done | (with_reducible rfl))
  try simp only [Act.put, PA, PB]
  refine wpAnyH_ready (rs := [33]) (by kernel_rfl) (by simp) (AllReadyH.cons (o := _) rfl (fun K hK => ?_) AllReadyH.nil)
  go_simp
  refine (sameDiv_eq Db (wv31.heap.size) 0 0 gb kb q27 q30 _ _ _ _ _ _ _ _ _ (Eb.call (hHeld.toBelow (Below.refl _ _) (fun k hk => hk.elim) (Nat.le_refl _))) ⟨Nat.zero_le _, Nat.zero_le _, Nat.zero_le _, BY, H27, H30⟩).mono ?_
  rintro e wv34 ⟨rfl, hb3⟩
  go_wp2_with fail
  refine hK.out _ _ (hHeld.below hb3) (fun hNew => ?_)
  replace BX := BX.keep hb3
  replace BY := BY.keep hb3
  replace H6 := H6.call hb3
  replace H9 := H9.call hb3
  replace H27 := H27.call hb3
  replace H30 := H30.call hb3
  clear hb3
  clear hHeld hK K
  have hHeld := hNew
  clear hNew
  try simp only [Act.put, PA, PB]
  refine wpAnyH_take (i := 34) (oi := _) (v := ?vv35) rfl (by kernel_rfl) (by kernel_rfl) (by kernel_rfl) (fun _ _ _ h => h) (Or.inl ⟨by kernel_rfl, ?hyv35⟩) hHeld ?restv35
  case hyv35 => (intro w hSw; go_simp; first | done | (with_reducible rfl))
  try simp only [Act.put, PA, PB]
  refine wpAnyH_take (i := 35) (oi := _) (v := ?vv36) rfl (by kernel_rfl) (by kernel_rfl) (by kernel_rfl) (fun _ _ _ h => h) (Or.inl ⟨by kernel_rfl, ?hyv36⟩) hHeld ?restv36
  case hyv36 => (intro w hSw; go_simp; first | done | (with_reducible rfl))
  try simp only [Act.put, PA, PB]
  refine wpAnyH_done (by kernel_rfl) ?_ _
  refine NoPanic.normal ?_
  skip
  have hbb2 := hHeld.toBelow hbb (fun k hk => hk.elim) hBV
  go_wp2_with fail
  go_ret
  exact ⟨rfl, hbb2⟩
end Go.Proofs.Ytaaamcleilpnhaa
namespace Go.Proofs.Ytaaamcleilpnhaa
open Go.RowKit
namespace Ch
/-- The error of cakes and a cutter. -/
def cakesE (D : List CkD) (K : Int) : Int := if Ak.chkS D 0 ≠ 0 then Ak.chkS D 0 else if D.length ≠ 2 ∨ K < 0 ∨ 1 < K then 2 else 0
def fitP (D : List CkD) (K : Int) : Bool := !Ak.greatCs D && decide (cakesE D K = 0)
theorem fit_of {D : List CkD} {K : Int} (h : fitP D K = true) : Ak.chkS D 0 = 0 ∧ D.length = 2 ∧ (K = 0 ∨ K = 1) := by
  unfold fitP at h
  rw [Bool.and_eq_true] at h
  have h2 := of_decide_eq_true h.2
  unfold cakesE at h2
  split at h2
  · rename_i g
    exact absurd h2 g
  · rename_i g
    rw [Decidable.not_not] at g
    split at h2
    · cases h2
    · rename_i g2
      exact ⟨g, by omega, by omega⟩
end Ch
set_option linter.unusedSimpArgs false in
set_option maxHeartbeats 8000000 in
set_option maxRecDepth 100000 in
theorem cakes_any (A : Option Addr) (ca : Nat) (cs : List CkR) (K : Int) (w : World) (h : IsCs w A cs) :
    Calls Try.prog 90 #[.slice A cs.length ca, .int .i64 K] w fun e w' => e = .returned (.int .i64 (Ch.cakesE (cs.map Ak.dat) K)) ∧ Below w.heap.size w w' := by
  have ch := fun v (hv : Below w.heap.size w v) => rAskCheck_any A ca cs none 0 0 v (by simp) (h.keep hv)
  unfold Ch.cakesE
  rw [List.length_map]
  clear h
  by_cases h1 : Ak.chkS (cs.map Ak.dat) 0 = 0
  case neg =>
    have n1 : (Ak.chkS (cs.map Ak.dat) 0 != 0) = true := by rw [bne_iff_ne]; exact h1
    rw [if_pos h1]
    clear h1
    generalize Ak.chkS (cs.map Ak.dat) 0 = z at *
    have CH := Lib.hid ch
    clear ch
    go_enter Try.func90, Try.ntmps90
    go_wp2_with fail
    refine (CH.out _ (Below.refl _ _)).mono ?_
    rintro e w1 ⟨rfl, hb⟩
    go_wp2_with fail
    go_ret
    exact ⟨rfl, hb⟩
  rw [h1] at ch
  rw [if_neg (fun k => k h1)]
  have CH := Lib.hid ch
  have e0 : ((0 : Int) != 0) = false := rfl
  clear ch h1
  by_cases hl : cs.length = 2
  case neg =>
    rw [if_pos (.inl hl)]
    have e2 : (((cs.length : Nat) : Int) != 2) = true := by rw [bne_iff_ne]; omega
    clear hl
    go_enter Try.func90, Try.ntmps90
    go_wp2_with fail
    refine (CH.out _ (Below.refl _ _)).mono ?_
    rintro e w1 ⟨rfl, hb⟩
    go_wp2_with fail
    go_ret
    exact ⟨rfl, hb⟩
  by_cases hk0 : K < 0
  case pos =>
    rw [if_pos (.inr (.inl hk0))]
    have e2 : (((cs.length : Nat) : Int) != 2) = false := by rw [hl]; rfl
    clear hl
    go_enter Try.func90, Try.ntmps90
    go_wp2_with fail
    refine (CH.out _ (Below.refl _ _)).mono ?_
    rintro e w1 ⟨rfl, hb⟩
    go_wp2_with fail
    go_ret
    exact ⟨rfl, hb⟩
  by_cases hk1 : 1 < K
  case pos =>
    rw [if_pos (.inr (.inr hk1))]
    have e2 : (((cs.length : Nat) : Int) != 2) = false := by rw [hl]; rfl
    clear hl
    go_enter Try.func90, Try.ntmps90
    go_wp2_with fail
    refine (CH.out _ (Below.refl _ _)).mono ?_
    rintro e w1 ⟨rfl, hb⟩
    go_wp2_with fail
    go_ret
    exact ⟨rfl, hb⟩
  rw [if_neg (by omega)]
  have e2 : (((cs.length : Nat) : Int) != 2) = false := by rw [hl]; rfl
  clear hl
  go_enter Try.func90, Try.ntmps90
  go_wp2_with fail
  refine (CH.out _ (Below.refl _ _)).mono ?_
  rintro e w1 ⟨rfl, hb⟩
  go_wp2_with fail
  go_ret
  exact ⟨rfl, hb⟩
set_option linter.unusedSimpArgs false in
set_option maxHeartbeats 8000000 in
set_option maxRecDepth 100000 in
theorem fit_any (A : Option Addr) (ca : Nat) (cs : List CkR) (K : Int) (w : World) (h : IsCs w A cs) :
    Calls Try.prog 48 #[.slice A cs.length ca, .int .i64 K] w fun e w' => e = .returned (.bool (Ch.fitP (cs.map Ak.dat) K)) ∧ Below w.heap.size w w' := by
  have gr := rGreatCakes_any A ca cs w h
  have ck := fun v (hv : Below w.heap.size w v) => cakes_any A ca cs K v (h.keep hv)
  unfold Ch.fitP
  clear h
  cases hg : Ak.greatCs (cs.map Ak.dat)
  case true =>
    rw [hg] at gr
    have GR := Lib.hid gr
    clear gr ck hg
    go_enter Try.func48, Try.ntmps48
    go_wp2_with fail
    refine GR.out.mono ?_
    rintro e w1 ⟨rfl, hb⟩
    go_wp2_with fail
    go_ret
    exact ⟨rfl, hb⟩
  rw [hg] at gr
  generalize Ch.cakesE (cs.map Ak.dat) K = E at *
  have GR := Lib.hid gr
  have CK := Lib.hid ck
  clear gr ck hg
  by_cases hE : E = 0
  · subst hE
    go_enter Try.func48, Try.ntmps48
    go_wp2_with fail
    refine GR.out.mono ?_
    rintro e w1 ⟨rfl, hb⟩
    go_wp2_with fail
    refine (CK.out _ hb).mono ?_
    rintro e w2 ⟨rfl, hb2⟩
    go_wp2_with fail
    go_ret
    exact ⟨rfl, keepB hb hb2⟩
  · have eb : (E == 0) = false := by rw [beq_eq_false_iff_ne]; exact hE
    rw [decide_eq_false hE]
    clear hE
    go_enter Try.func48, Try.ntmps48
    go_wp2_with fail
    refine GR.out.mono ?_
    rintro e w1 ⟨rfl, hb⟩
    go_wp2_with fail
    refine (CK.out _ hb).mono ?_
    rintro e w2 ⟨rfl, hb2⟩
    go_wp2_with fail
    go_ret
    exact ⟨rfl, keepB hb hb2⟩
end Go.Proofs.Ytaaamcleilpnhaa
namespace Go.Proofs.Ytaaamcleilpnhaa
open Go.RowKit
set_option linter.unusedSimpArgs false in
set_option maxHeartbeats 8000000 in
set_option maxRecDepth 100000 in
theorem qEqual_eq (A B : Option Addr) (n m ca cb : Nat) (xs : List Qr) (w : World) (ha : IsQs w A xs) (hb : IsQs w B xs) (hn : n = xs.length) (hm : m = xs.length) :
    Calls Try.prog 88 #[.slice A n ca, .slice B m cb] w fun e w' => e = .returned (.bool true) ∧ Below w.heap.size w w' := by
  subst hn hm
  obtain ⟨b1, o1, hA, hc⟩ := ha.at_
  obtain ⟨b2, o2, hB, hd⟩ := hb.at_
  have HC := Lib.hid hc
  have HD := Lib.hid hd
  have HA := Lib.hid hA
  have HB := Lib.hid hB
  have hml := ha.len
  clear hc hd hA hB ha hb
  have hm2 : (xs.length : Int) ≤ 9223372036854775807 := by unfold maxLen at hml; omega
  clear hml
  go_enter Try.func88, Try.ntmps88
  go_wp2_with fail
  go_loopw [13] (fun i W => ∃ k : Nat, k ≤ xs.length ∧ i = .int .i64 k ∧ Below w.heap.size w W) (fun i _ => xs.length - (intOf i).toNat)
  case atStart => exact ⟨0, Nat.zero_le _, rfl, Below.refl _ _⟩
  case round =>
    obtain ⟨k, hk, rfl, hbb⟩ := hrel
    by_cases hlt : k < xs.length
    · have hA' := HA.out (by omega)
      subst hA'
      have hB' := HB.out (by omega)
      subst hB'
      obtain ⟨s, hs⟩ : ∃ s, Ak.qat xs k = s := ⟨_, rfl⟩
      obtain ⟨c0, c1, c2, c3, c4, c5, c6, c7⟩ := (HC.out k hlt).keep hbb
      obtain ⟨d0, d1, d2, d3, d4, d5, d6, d7⟩ := (HD.out k hlt).keep hbb
      rw [hs] at c0 c1 c2 c3 c4 c5 c6 c7 d0 d1 d2 d3 d4 d5 d6 d7
      dsimp only at c0 c1 c2 c3 c4 c5 c6 c7 d0 d1 d2 d3 d4 d5 d6 d7
      rw [Nat.add_zero] at c0 d0
      have i1 : (0 : Int) ≤ (k : Int) := by omega
      have i2 : (k : Int) < (xs.length : Int) := by omega
      clear hs
      go_upto_region 6 with fail
      refine at_worldQ (fun v => Below w.heap.size w v ∧ v.cell? ⟨b1, o1 + k * 8, none⟩ = some (.int .i64 s.ag) ∧ v.cell? ⟨b1, o1 + k * 8 + 1, none⟩ = some (.int .u8 s.kd) ∧ v.cell? ⟨b1, o1 + k * 8 + 2, none⟩ = some (.int .i64 s.a) ∧ v.cell? ⟨b1, o1 + k * 8 + 3, none⟩ = some (.int .i64 s.b) ∧ v.cell? ⟨b1, o1 + k * 8 + 4, none⟩ = some (.int .i64 s.c) ∧ v.cell? ⟨b1, o1 + k * 8 + 5, none⟩ = some (.int .i64 s.d) ∧ v.cell? ⟨b1, o1 + k * 8 + 6, none⟩ = some (.int .i64 s.x) ∧ v.cell? ⟨b1, o1 + k * 8 + 7, none⟩ = some (.int .i64 s.y) ∧ v.cell? ⟨b2, o2 + k * 8, none⟩ = some (.int .i64 s.ag) ∧ v.cell? ⟨b2, o2 + k * 8 + 1, none⟩ = some (.int .u8 s.kd) ∧ v.cell? ⟨b2, o2 + k * 8 + 2, none⟩ = some (.int .i64 s.a) ∧ v.cell? ⟨b2, o2 + k * 8 + 3, none⟩ = some (.int .i64 s.b) ∧ v.cell? ⟨b2, o2 + k * 8 + 4, none⟩ = some (.int .i64 s.c) ∧ v.cell? ⟨b2, o2 + k * 8 + 5, none⟩ = some (.int .i64 s.d) ∧ v.cell? ⟨b2, o2 + k * 8 + 6, none⟩ = some (.int .i64 s.x) ∧ v.cell? ⟨b2, o2 + k * 8 + 7, none⟩ = some (.int .i64 s.y)) ⟨hbb, c0, c1, c2, c3, c4, c5, c6, c7, d0, d1, d2, d3, d4, d5, d6, d7⟩ (fun V hS => ?_)
      clear hbb c0 c1 c2 c3 c4 c5 c6 c7 d0 d1 d2 d3 d4 d5 d6 d7
      obtain ⟨hbb, c0, c1, c2, c3, c4, c5, c6, c7, d0, d1, d2, d3, d4, d5, d6, d7⟩ := hS
      refine wp_region_noPanic ?_
      refine wp_region_held_drew (S := (Below V.heap.size V)) (by kernel_rfl) ((Below.refl _ _).drew) (fun hHeld => ?_)
      refine at_anyH (Below V.heap.size V) hHeld (fun wq0 hNew => ?_)
      clear hHeld
      have hHeld := hNew
      clear hNew
      refine wpAnyH_take (i := 0) (oi := _) (v := ?vq1) rfl (by kernel_rfl) (by kernel_rfl) (by kernel_rfl) (fun _ _ _ h => h) (Or.inl ⟨by kernel_rfl, ?hyq1⟩) hHeld ?restq1
      case hyq1 => (intro w hSw; go_simp; first | done | (with_reducible rfl))
      try simp only [Act.put, PA, PB]
      refine wpAnyH_take (i := 1) (oi := _) (v := ?vq2) rfl (by kernel_rfl) (by kernel_rfl) (by kernel_rfl) (fun _ _ _ h => h) (Or.inl ⟨by kernel_rfl, ?hyq2⟩) hHeld ?restq2
      case hyq2 => (intro w hSw; go_simp; first | done | (with_reducible rfl))
      try simp only [Act.put, PA, PB]
      refine wpAnyH_take (i := 2) (oi := _) (v := ?vq3) rfl (by kernel_rfl) (by kernel_rfl) (by kernel_rfl) (fun _ _ _ h => h) (Or.inl ⟨by kernel_rfl, ?hyq3⟩) hHeld ?restq3
      case hyq3 => (intro w hSw; go_simp; first | done | (with_reducible rfl))
      try simp only [Act.put, PA, PB]
      refine wpAnyH_take (i := 3) (oi := _) (v := ?vq4) rfl (by kernel_rfl) (by kernel_rfl) (by kernel_rfl) (fun _ _ _ h => h) (Or.inl ⟨by kernel_rfl, ?hyq4⟩) hHeld ?restq4
      case hyq4 => (intro w hSw; have kc0 := keepC hSw c0; have kc1 := keepC hSw c1; have kc2 := keepC hSw c2; have kc3 := keepC hSw c3; have kc4 := keepC hSw c4; have kc5 := keepC hSw c5; have kc6 := keepC hSw c6; have kc7 := keepC hSw c7; have kd0 := keepC hSw d0; have kd1 := keepC hSw d1; have kd2 := keepC hSw d2; have kd3 := keepC hSw d3; have kd4 := keepC hSw d4; have kd5 := keepC hSw d5; have kd6 := keepC hSw d6; have kd7 := keepC hSw d7; go_simp; first | done | (with_reducible rfl))
      try simp only [Act.put, PA, PB]
      refine wpAnyH_take (i := 4) (oi := _) (v := ?vq5) rfl (by kernel_rfl) (by kernel_rfl) (by kernel_rfl) (fun _ _ _ h => h) (Or.inl ⟨by kernel_rfl, ?hyq5⟩) hHeld ?restq5
      case hyq5 => (intro w hSw; go_simp; first | done | (with_reducible rfl))
      try simp only [Act.put, PA, PB]
      refine wpAnyH_take (i := 5) (oi := _) (v := ?vq6) rfl (by kernel_rfl) (by kernel_rfl) (by kernel_rfl) (fun _ _ _ h => h) (Or.inl ⟨by kernel_rfl, ?hyq6⟩) hHeld ?restq6
      case hyq6 => (intro w hSw; go_simp; first | done | (with_reducible rfl))
      try simp only [Act.put, PA, PB]
      refine wpAnyH_take (i := 6) (oi := _) (v := ?vq7) rfl (by kernel_rfl) (by kernel_rfl) (by kernel_rfl) (fun _ _ _ h => h) (Or.inl ⟨by kernel_rfl, ?hyq7⟩) hHeld ?restq7
      case hyq7 => (intro w hSw; go_simp; first | done | (with_reducible rfl))
      try simp only [Act.put, PA, PB]
      refine wpAnyH_take (i := 7) (oi := _) (v := ?vq8) rfl (by kernel_rfl) (by kernel_rfl) (by kernel_rfl) (fun _ _ _ h => h) (Or.inl ⟨by kernel_rfl, ?hyq8⟩) hHeld ?restq8
      case hyq8 => (intro w hSw; have kc0 := keepC hSw c0; have kc1 := keepC hSw c1; have kc2 := keepC hSw c2; have kc3 := keepC hSw c3; have kc4 := keepC hSw c4; have kc5 := keepC hSw c5; have kc6 := keepC hSw c6; have kc7 := keepC hSw c7; have kd0 := keepC hSw d0; have kd1 := keepC hSw d1; have kd2 := keepC hSw d2; have kd3 := keepC hSw d3; have kd4 := keepC hSw d4; have kd5 := keepC hSw d5; have kd6 := keepC hSw d6; have kd7 := keepC hSw d7; go_simp; first | done | (with_reducible rfl))
      try simp only [Act.put, PA, PB]
      refine wpAnyH_take (i := 8) (oi := _) (v := ?vq9) rfl (by kernel_rfl) (by kernel_rfl) (by kernel_rfl) (fun _ _ _ h => h) (Or.inl ⟨by kernel_rfl, ?hyq9⟩) hHeld ?restq9
      case hyq9 => (intro w hSw; go_simp; first | done | (with_reducible rfl))
      try simp only [Act.put, PA, PB]
      refine wpAnyH_done (by kernel_rfl) ?_ _
      refine NoPanic.normal ?_
      skip
      replace hbb := keepB hbb hHeld
      clear hHeld
      go_wp2_with fail
      go_roundw
      case rel => exact ⟨k + 1, by omega, by go_num, hbb⟩
      case measure => simp [intOf]; omega
    · have i2 : ¬ (k : Int) < (xs.length : Int) := by omega
      go_wp2_with fail
      go_ret
      exact ⟨rfl, hbb⟩
set_option linter.unusedSimpArgs false in
set_option maxHeartbeats 8000000 in
set_option maxRecDepth 100000 in
theorem check_ok (A : Option Addr) (m ca : Nat) (Q : Option Addr) (n cq : Nat) (K s x y : Int) (b : Bool) (D : List CkD) (L : List Qr) (l : List CkR) (w : World) (h : IsCs w A l) (hm : m = l.length) (hd : l.map Ak.dat = D) (hq : IsQs w Q L) (hn : n = L.length) (hs : s = 0 ∨ s = 1 ∨ s = 2) (hc : Ak.chkS D n = 0)
    (hR : ∀ v, Below w.heap.size w v → Calls Try.prog 85 #[.slice A m ca, .int .i64 K, .int .i64 s] v (StR D L K s x y b v)) :
    Calls Try.prog 45 #[.agg #[.slice A m ca, .slice Q n cq, .int .i64 K, .int .i64 s, .int .i64 x, .int .i64 y, .bool b]] w fun e w' => e = .returned (.int .i64 0) ∧ Below w.heap.size w w' := by
  have hl := hq.len
  have ch := fun v (hv : Below w.heap.size w v) => askCheck_any A ca l Q n cq v (by rw [hn]; exact hl) (h.keep hv)
  rw [hd, hc, ← hm] at ch
  unfold StR at hR
  have CH := Lib.hid ch
  have REA := Lib.hid hR
  have HQ := Lib.hid hq
  have HN := Lib.hid hn
  have e0 : ((0 : Int) != 0) = false := rfl
  clear ch hR hq hn hl hm hd h hc
  rcases hs with rfl | rfl | rfl
  · go_enter Try.func45, Try.ntmps45
    go_upto_region 1 with fail
    refine at_worldQ (fun v => Below w.heap.size w v ∧ BK v (w.heap.size) [.slice A m ca, .slice Q n cq, .int .i64 K, .int .i64 0, .int .i64 x, .int .i64 y, .bool b] ∧ v.heap.size = w.heap.size + 1) ⟨(below_al (Below.refl _ _) _), (by have b := (BK.new w [.slice A m ca, .slice Q n cq, .int .i64 K, .int .i64 0, .int .i64 x, .int .i64 y, .bool b] 72); simpa only [World.size_alloc] using b), by simp only [World.size_alloc]⟩ (fun V hS => ?_)
    obtain ⟨hbb, B0, hVs⟩ := hS
    have p0 := B0.c 0 rfl
    have p1 := B0.c 1 rfl
    have p2 := B0.c 2 rfl
    have p3 := B0.c 3 rfl
    have p4 := B0.c 4 rfl
    have p5 := B0.c 5 rfl
    have p6 := B0.c 6 rfl
    clear hVs
    go_wp2_with fail
    refine (CH.out _ hbb).mono ?_
    rintro e w1 ⟨rfl, hb⟩
    clear p0 p1 p2 p3 p4 p5 p6
    replace hbb := keepB hbb hb
    replace B0 := B0.keep hb
    clear hb
    have p0 := B0.c 0 rfl
    have p1 := B0.c 1 rfl
    have p2 := B0.c 2 rfl
    have p3 := B0.c 3 rfl
    have p4 := B0.c 4 rfl
    have p5 := B0.c 5 rfl
    have p6 := B0.c 6 rfl
    go_wp2_with fail
    refine (REA.out _ hbb).mono ?_
    rintro e w2 ⟨A1, m1, ca1, Q1, n1, cq1, l1, rfl, hb, hm1, hn1, hd1, hfd⟩
    have HM1 := Lib.hid hm1
    have HN1 := Lib.hid hn1
    have HD1 := Lib.hid hd1
    clear hm1 hn1 hd1
    clear p0 p1 p2 p3 p4 p5 p6
    replace hbb := keepB hbb hb
    replace B0 := B0.keep hb
    clear hb
    go_upto_region 7 with fail
    refine at_worldQ (fun v => Below w.heap.size w v ∧ BK v w.heap.size [.slice A m ca, .slice Q n cq, .int .i64 K, .int .i64 0, .int .i64 x, .int .i64 y, .bool b] ∧ BK v w2.heap.size [.slice A1 m1 ca1, .slice Q1 n1 cq1, .int .i64 K, .int .i64 0, .int .i64 x, .int .i64 y, .bool b] ∧ IsQs v Q1 L) ⟨below_al hbb _, B0.al _, BK.new _ _ _, hfd.isQs.keep (below_al (Below.refl _ _) _)⟩ (fun V7 hS => ?_)
    clear hbb B0 hfd
    obtain ⟨hbb, B0, B4, hqs⟩ := hS
    have EQ := Lib.hid (fun v (hv : Below V7.heap.size V7 v) => qEqual_eq Q Q1 n n1 cq cq1 L v (HQ.out.keep (keepB hbb hv)) (hqs.keep hv) HN.out HN1.out)
    clear hqs
    have p0 := B0.c 0 rfl
    have p1 := B0.c 1 rfl
    have p2 := B0.c 2 rfl
    have p3 := B0.c 3 rfl
    have p4 := B0.c 4 rfl
    have p5 := B0.c 5 rfl
    have p6 := B0.c 6 rfl
    have r0 := B4.c 0 rfl
    have r1 := B4.c 1 rfl
    have r2 := B4.c 2 rfl
    have r3 := B4.c 3 rfl
    have r4 := B4.c 4 rfl
    have r5 := B4.c 5 rfl
    have r6 := B4.c 6 rfl
    clear e0
    go_wp2_with fail
    refine (EQ.out _ (Below.refl _ _)).mono ?_
    rintro e w3 ⟨rfl, hb⟩
    go_wp2_with fail
    go_ret
    exact ⟨rfl, keepB hbb hb⟩

  · go_enter Try.func45, Try.ntmps45
    go_upto_region 1 with fail
    refine at_worldQ (fun v => Below w.heap.size w v ∧ BK v (w.heap.size) [.slice A m ca, .slice Q n cq, .int .i64 K, .int .i64 1, .int .i64 x, .int .i64 y, .bool b] ∧ v.heap.size = w.heap.size + 1) ⟨(below_al (Below.refl _ _) _), (by have b := (BK.new w [.slice A m ca, .slice Q n cq, .int .i64 K, .int .i64 1, .int .i64 x, .int .i64 y, .bool b] 72); simpa only [World.size_alloc] using b), by simp only [World.size_alloc]⟩ (fun V hS => ?_)
    obtain ⟨hbb, B0, hVs⟩ := hS
    have p0 := B0.c 0 rfl
    have p1 := B0.c 1 rfl
    have p2 := B0.c 2 rfl
    have p3 := B0.c 3 rfl
    have p4 := B0.c 4 rfl
    have p5 := B0.c 5 rfl
    have p6 := B0.c 6 rfl
    clear hVs
    go_wp2_with fail
    refine (CH.out _ hbb).mono ?_
    rintro e w1 ⟨rfl, hb⟩
    clear p0 p1 p2 p3 p4 p5 p6
    replace hbb := keepB hbb hb
    replace B0 := B0.keep hb
    clear hb
    have p0 := B0.c 0 rfl
    have p1 := B0.c 1 rfl
    have p2 := B0.c 2 rfl
    have p3 := B0.c 3 rfl
    have p4 := B0.c 4 rfl
    have p5 := B0.c 5 rfl
    have p6 := B0.c 6 rfl
    go_wp2_with fail
    refine (REA.out _ hbb).mono ?_
    rintro e w2 ⟨A1, m1, ca1, Q1, n1, cq1, l1, rfl, hb, hm1, hn1, hd1, hfd⟩
    have HM1 := Lib.hid hm1
    have HN1 := Lib.hid hn1
    have HD1 := Lib.hid hd1
    clear hm1 hn1 hd1
    clear p0 p1 p2 p3 p4 p5 p6
    replace hbb := keepB hbb hb
    replace B0 := B0.keep hb
    clear hb
    go_upto_region 7 with fail
    refine at_worldQ (fun v => Below w.heap.size w v ∧ BK v w.heap.size [.slice A m ca, .slice Q n cq, .int .i64 K, .int .i64 1, .int .i64 x, .int .i64 y, .bool b] ∧ BK v w2.heap.size [.slice A1 m1 ca1, .slice Q1 n1 cq1, .int .i64 K, .int .i64 1, .int .i64 x, .int .i64 y, .bool b] ∧ IsQs v Q1 L) ⟨below_al hbb _, B0.al _, BK.new _ _ _, hfd.isQs.keep (below_al (Below.refl _ _) _)⟩ (fun V7 hS => ?_)
    clear hbb B0 hfd
    obtain ⟨hbb, B0, B4, hqs⟩ := hS
    have EQ := Lib.hid (fun v (hv : Below V7.heap.size V7 v) => qEqual_eq Q Q1 n n1 cq cq1 L v (HQ.out.keep (keepB hbb hv)) (hqs.keep hv) HN.out HN1.out)
    clear hqs
    have p0 := B0.c 0 rfl
    have p1 := B0.c 1 rfl
    have p2 := B0.c 2 rfl
    have p3 := B0.c 3 rfl
    have p4 := B0.c 4 rfl
    have p5 := B0.c 5 rfl
    have p6 := B0.c 6 rfl
    have r0 := B4.c 0 rfl
    have r1 := B4.c 1 rfl
    have r2 := B4.c 2 rfl
    have r3 := B4.c 3 rfl
    have r4 := B4.c 4 rfl
    have r5 := B4.c 5 rfl
    have r6 := B4.c 6 rfl
    clear e0
    go_wp2_with fail
    refine (EQ.out _ (Below.refl _ _)).mono ?_
    rintro e w3 ⟨rfl, hb⟩
    go_wp2_with fail
    go_ret
    exact ⟨rfl, keepB hbb hb⟩

  · go_enter Try.func45, Try.ntmps45
    go_upto_region 1 with fail
    refine at_worldQ (fun v => Below w.heap.size w v ∧ BK v (w.heap.size) [.slice A m ca, .slice Q n cq, .int .i64 K, .int .i64 2, .int .i64 x, .int .i64 y, .bool b] ∧ v.heap.size = w.heap.size + 1) ⟨(below_al (Below.refl _ _) _), (by have b := (BK.new w [.slice A m ca, .slice Q n cq, .int .i64 K, .int .i64 2, .int .i64 x, .int .i64 y, .bool b] 72); simpa only [World.size_alloc] using b), by simp only [World.size_alloc]⟩ (fun V hS => ?_)
    obtain ⟨hbb, B0, hVs⟩ := hS
    have p0 := B0.c 0 rfl
    have p1 := B0.c 1 rfl
    have p2 := B0.c 2 rfl
    have p3 := B0.c 3 rfl
    have p4 := B0.c 4 rfl
    have p5 := B0.c 5 rfl
    have p6 := B0.c 6 rfl
    clear hVs
    go_wp2_with fail
    refine (CH.out _ hbb).mono ?_
    rintro e w1 ⟨rfl, hb⟩
    clear p0 p1 p2 p3 p4 p5 p6
    replace hbb := keepB hbb hb
    replace B0 := B0.keep hb
    clear hb
    have p0 := B0.c 0 rfl
    have p1 := B0.c 1 rfl
    have p2 := B0.c 2 rfl
    have p3 := B0.c 3 rfl
    have p4 := B0.c 4 rfl
    have p5 := B0.c 5 rfl
    have p6 := B0.c 6 rfl
    go_wp2_with fail
    refine (REA.out _ hbb).mono ?_
    rintro e w2 ⟨A1, m1, ca1, Q1, n1, cq1, l1, rfl, hb, hm1, hn1, hd1, hfd⟩
    have HM1 := Lib.hid hm1
    have HN1 := Lib.hid hn1
    have HD1 := Lib.hid hd1
    clear hm1 hn1 hd1
    clear p0 p1 p2 p3 p4 p5 p6
    replace hbb := keepB hbb hb
    replace B0 := B0.keep hb
    clear hb
    go_upto_region 7 with fail
    refine at_worldQ (fun v => Below w.heap.size w v ∧ BK v w.heap.size [.slice A m ca, .slice Q n cq, .int .i64 K, .int .i64 2, .int .i64 x, .int .i64 y, .bool b] ∧ BK v w2.heap.size [.slice A1 m1 ca1, .slice Q1 n1 cq1, .int .i64 K, .int .i64 2, .int .i64 x, .int .i64 y, .bool b] ∧ IsQs v Q1 L) ⟨below_al hbb _, B0.al _, BK.new _ _ _, hfd.isQs.keep (below_al (Below.refl _ _) _)⟩ (fun V7 hS => ?_)
    clear hbb B0 hfd
    obtain ⟨hbb, B0, B4, hqs⟩ := hS
    have EQ := Lib.hid (fun v (hv : Below V7.heap.size V7 v) => qEqual_eq Q Q1 n n1 cq cq1 L v (HQ.out.keep (keepB hbb hv)) (hqs.keep hv) HN.out HN1.out)
    clear hqs
    have p0 := B0.c 0 rfl
    have p1 := B0.c 1 rfl
    have p2 := B0.c 2 rfl
    have p3 := B0.c 3 rfl
    have p4 := B0.c 4 rfl
    have p5 := B0.c 5 rfl
    have p6 := B0.c 6 rfl
    have r0 := B4.c 0 rfl
    have r1 := B4.c 1 rfl
    have r2 := B4.c 2 rfl
    have r3 := B4.c 3 rfl
    have r4 := B4.c 4 rfl
    have r5 := B4.c 5 rfl
    have r6 := B4.c 6 rfl
    clear e0
    go_wp2_with fail
    refine (EQ.out _ (Below.refl _ _)).mono ?_
    rintro e w3 ⟨rfl, hb⟩
    go_wp2_with fail
    go_ret
    exact ⟨rfl, keepB hbb hb⟩

set_option linter.unusedSimpArgs false in
set_option maxHeartbeats 8000000 in
set_option maxRecDepth 100000 in
theorem next_ok (A : Option Addr) (m ca : Nat) (Q : Option Addr) (n cq : Nat) (K s x y : Int) (b : Bool) (w : World) (D : List CkD) (L2 : List Qr) (s2 x2 y2 : Int) (b2 : Bool) (es : (s == 2) = false) (hCk : ∀ v, Below w.heap.size w v → Calls Try.prog 45 #[.agg #[.slice A m ca, .slice Q n cq, .int .i64 K, .int .i64 s, .int .i64 x, .int .i64 y, .bool b]] v fun e v' => e = .returned (.int .i64 0) ∧ Below v.heap.size v v')
    (hF : ∀ v, Below w.heap.size w v → Calls Try.prog 87 #[.agg #[.slice A m ca, .slice Q n cq, .int .i64 K, .int .i64 s, .int .i64 x, .int .i64 y, .bool b]] v (StQ D L2 K s2 x2 y2 b2 v)) :
    Calls Try.prog 43 #[.agg #[.slice A m ca, .slice Q n cq, .int .i64 K, .int .i64 s, .int .i64 x, .int .i64 y, .bool b]] w (StR D L2 K s2 x2 y2 b2 w) := by
  unfold StQ at hF
  have CKK := Lib.hid hCk
  have FOL := Lib.hid hF
  have e0 : ((0 : Int) != 0) = false := rfl
  clear hCk hF
  go_enter Try.func43, Try.ntmps43
  go_upto_region 1 with fail
  refine at_worldQ (fun v => Below w.heap.size w v ∧ BK v (w.heap.size) [.slice A m ca, .slice Q n cq, .int .i64 K, .int .i64 s, .int .i64 x, .int .i64 y, .bool b] ∧ BK v (w.heap.size + 1) [.slice none 0 0, .slice none 0 0, .int .i64 0, .int .i64 0, .int .i64 0, .int .i64 0, .bool false] ∧ v.heap.size = w.heap.size + 2) ⟨(below_al (below_al (Below.refl _ _) _) _), (by have b := ((BK.new w [.slice A m ca, .slice Q n cq, .int .i64 K, .int .i64 s, .int .i64 x, .int .i64 y, .bool b] 72).al (.cells #[.slice none 0 0, .slice none 0 0, .int .i64 0, .int .i64 0, .int .i64 0, .int .i64 0, .bool false] 72)); simpa only [World.size_alloc] using b), (by have b := (BK.new (w.alloc (.cells #[.slice A m ca, .slice Q n cq, .int .i64 K, .int .i64 s, .int .i64 x, .int .i64 y, .bool b] 72)) [.slice none 0 0, .slice none 0 0, .int .i64 0, .int .i64 0, .int .i64 0, .int .i64 0, .bool false] 72); simpa only [World.size_alloc] using b), by simp only [World.size_alloc]⟩ (fun V hS => ?_)
  obtain ⟨hbb, B0, B1, hVs⟩ := hS
  have p0 := B0.c 0 rfl
  have p1 := B0.c 1 rfl
  have p2 := B0.c 2 rfl
  have p3 := B0.c 3 rfl
  have p4 := B0.c 4 rfl
  have p5 := B0.c 5 rfl
  have p6 := B0.c 6 rfl
  clear hVs
  go_wp2_with fail
  refine (CKK.out _ hbb).mono ?_
  rintro e w1 ⟨rfl, hb⟩
  clear p0 p1 p2 p3 p4 p5 p6
  replace hbb := keepB hbb hb
  replace B0 := B0.keep hb
  replace B1 := B1.keep hb
  clear hb
  have p0 := B0.c 0 rfl
  have p1 := B0.c 1 rfl
  have p2 := B0.c 2 rfl
  have p3 := B0.c 3 rfl
  have p4 := B0.c 4 rfl
  have p5 := B0.c 5 rfl
  have p6 := B0.c 6 rfl
  go_wp2_with fail
  refine (FOL.out _ hbb).mono ?_
  rintro e w2 ⟨A1, m1, ca1, Q1, n1, cq1, l1, rfl, hb, hm1, hn1, hd1, hfd⟩
  have HM1 := Lib.hid hm1
  have HN1 := Lib.hid hn1
  have HD1 := Lib.hid hd1
  clear hm1 hn1 hd1
  have hlt1 := B1.lt
  clear p0 p1 p2 p3 p4 p5 p6 B0 e0 es
  replace hbb := keepB hbb hb
  replace B1 := B1.keep hb
  clear hb
  have hlt := B1.lt
  have ya0 := B1.c 0 rfl
  have ya1 := B1.c 1 rfl
  have ya2 := B1.c 2 rfl
  have ya3 := B1.c 3 rfl
  have ya4 := B1.c 4 rfl
  have ya5 := B1.c 5 rfl
  have ya6 := B1.c 6 rfl
  have yb0 := B1.f 0 rfl
  have yb1 := B1.f 1 rfl
  have yb2 := B1.f 2 rfl
  have yb3 := B1.f 3 rfl
  have yb4 := B1.f 4 rfl
  have yb5 := B1.f 5 rfl
  have yb6 := B1.f 6 rfl
  go_wp2_with fail
  exact bodyPost_ret (v := .tuple #[.agg #[.slice A1 m1 ca1, .slice Q1 n1 cq1, .int .i64 K, .int .i64 s2, .int .i64 x2, .int .i64 y2, .bool b2], .int .i64 0]) (by simp [results, Try.results43, go_sem, ya0, ya1, ya2, ya3, ya4, ya5, ya6]) rfl (StR.mk A1 m1 ca1 Q1 n1 cq1 l1 rfl (below_set (below_set (below_set (below_set (below_set (below_set (below_set hbb (by omega) _) (by omega) _) (by omega) _) (by omega) _) (by omega) _) (by omega) _) (by omega) _) HM1.out HN1.out HD1.out ((((((((hfd.set (by omega) _).set (by omega) _).set (by omega) _).set (by omega) _).set (by omega) _).set (by omega) _).set (by omega) _).mono (by omega)))
set_option linter.unusedSimpArgs false in
set_option maxHeartbeats 8000000 in
set_option maxRecDepth 100000 in
theorem next_end (A : Option Addr) (m ca : Nat) (Q : Option Addr) (n cq : Nat) (K x y : Int) (b : Bool) (w : World) (hCk : ∀ v, Below w.heap.size w v → Calls Try.prog 45 #[.agg #[.slice A m ca, .slice Q n cq, .int .i64 K, .int .i64 2, .int .i64 x, .int .i64 y, .bool b]] v fun e v' => e = .returned (.int .i64 0) ∧ Below v.heap.size v v') :
    Calls Try.prog 43 #[.agg #[.slice A m ca, .slice Q n cq, .int .i64 K, .int .i64 2, .int .i64 x, .int .i64 y, .bool b]] w fun e w' => e = .returned (.tuple #[.agg #[.slice none 0 0, .slice none 0 0, .int .i64 0, .int .i64 0, .int .i64 0, .int .i64 0, .bool false], .int .i64 36]) ∧ Below w.heap.size w w' := by
  have CKK := Lib.hid hCk
  have e0 : ((0 : Int) != 0) = false := rfl
  clear hCk
  go_enter Try.func43, Try.ntmps43
  go_upto_region 1 with fail
  refine at_worldQ (fun v => Below w.heap.size w v ∧ BK v (w.heap.size) [.slice A m ca, .slice Q n cq, .int .i64 K, .int .i64 2, .int .i64 x, .int .i64 y, .bool b] ∧ BK v (w.heap.size + 1) [.slice none 0 0, .slice none 0 0, .int .i64 0, .int .i64 0, .int .i64 0, .int .i64 0, .bool false] ∧ v.heap.size = w.heap.size + 2) ⟨(below_al (below_al (Below.refl _ _) _) _), (by have b := ((BK.new w [.slice A m ca, .slice Q n cq, .int .i64 K, .int .i64 2, .int .i64 x, .int .i64 y, .bool b] 72).al (.cells #[.slice none 0 0, .slice none 0 0, .int .i64 0, .int .i64 0, .int .i64 0, .int .i64 0, .bool false] 72)); simpa only [World.size_alloc] using b), (by have b := (BK.new (w.alloc (.cells #[.slice A m ca, .slice Q n cq, .int .i64 K, .int .i64 2, .int .i64 x, .int .i64 y, .bool b] 72)) [.slice none 0 0, .slice none 0 0, .int .i64 0, .int .i64 0, .int .i64 0, .int .i64 0, .bool false] 72); simpa only [World.size_alloc] using b), by simp only [World.size_alloc]⟩ (fun V hS => ?_)
  obtain ⟨hbb, B0, B1, hVs⟩ := hS
  have p0 := B0.c 0 rfl
  have p1 := B0.c 1 rfl
  have p2 := B0.c 2 rfl
  have p3 := B0.c 3 rfl
  have p4 := B0.c 4 rfl
  have p5 := B0.c 5 rfl
  have p6 := B0.c 6 rfl
  clear hVs
  go_wp2_with fail
  refine (CKK.out _ hbb).mono ?_
  rintro e w1 ⟨rfl, hb⟩
  clear p0 p1 p2 p3 p4 p5 p6
  replace hbb := keepB hbb hb
  replace B0 := B0.keep hb
  replace B1 := B1.keep hb
  clear hb
  have p0 := B0.c 0 rfl
  have p1 := B0.c 1 rfl
  have p2 := B0.c 2 rfl
  have p3 := B0.c 3 rfl
  have p4 := B0.c 4 rfl
  have p5 := B0.c 5 rfl
  have p6 := B0.c 6 rfl
  have ya0 := B1.c 0 rfl
  have ya1 := B1.c 1 rfl
  have ya2 := B1.c 2 rfl
  have ya3 := B1.c 3 rfl
  have ya4 := B1.c 4 rfl
  have ya5 := B1.c 5 rfl
  have ya6 := B1.c 6 rfl
  have yb0 := B1.f 0 rfl
  have yb1 := B1.f 1 rfl
  have yb2 := B1.f 2 rfl
  have yb3 := B1.f 3 rfl
  have yb4 := B1.f 4 rfl
  have yb5 := B1.f 5 rfl
  have yb6 := B1.f 6 rfl
  go_wp2_with fail
  exact bodyPost_ret (v := .tuple #[.agg #[.slice none 0 0, .slice none 0 0, .int .i64 0, .int .i64 0, .int .i64 0, .int .i64 0, .bool false], .int .i64 36]) (by simp [results, Try.results43, go_sem, ya0, ya1, ya2, ya3, ya4, ya5, ya6]) rfl ⟨rfl, (below_set (below_set (below_set (below_set (below_set (below_set (below_set hbb (by omega) _) (by omega) _) (by omega) _) (by omega) _) (by omega) _) (by omega) _) (by omega) _)⟩
set_option linter.unusedSimpArgs false in
set_option maxHeartbeats 8000000 in
set_option maxRecDepth 100000 in
theorem division_ok (A : Option Addr) (m ca : Nat) (Q : Option Addr) (n cq : Nat) (K x y : Int) (b : Bool) (w : World) (a0 b0 c0 d0 a1 b1 c1 d1 : Int) (hCk : ∀ v, Below w.heap.size w v → Calls Try.prog 45 #[.agg #[.slice A m ca, .slice Q n cq, .int .i64 K, .int .i64 2, .int .i64 x, .int .i64 y, .bool b]] v fun e v' => e = .returned (.int .i64 0) ∧ Below v.heap.size v v')
    (hD : ∀ v, Below w.heap.size w v → Calls Try.prog 86 #[.agg #[.slice A m ca, .slice Q n cq, .int .i64 K, .int .i64 2, .int .i64 x, .int .i64 y, .bool b]] v (DivQ a0 b0 c0 d0 a1 b1 c1 d1 v)) :
    Calls Try.prog 42 #[.agg #[.slice A m ca, .slice Q n cq, .int .i64 K, .int .i64 2, .int .i64 x, .int .i64 y, .bool b]] w fun e w' => ∃ P g0 g1, e = .returned (.tuple #[.agg #[.slice (some ⟨P, 0, none⟩) 2 2], .int .i64 0]) ∧ Below w.heap.size w w' ∧ DivB 0 P g0 g1 a0 b0 c0 d0 a1 b1 c1 d1 w' := by
  unfold DivQ at hD
  have CKK := Lib.hid hCk
  have DVD := Lib.hid hD
  have e0 : ((0 : Int) != 0) = false := rfl
  have e2 : ((2 : Int) != 2) = false := rfl
  clear hCk hD
  go_enter Try.func42, Try.ntmps42
  go_upto_region 1 with fail
  refine at_worldQ (fun v => Below w.heap.size w v ∧ BK v (w.heap.size) [.slice A m ca, .slice Q n cq, .int .i64 K, .int .i64 2, .int .i64 x, .int .i64 y, .bool b] ∧ BK v (w.heap.size + 1) [.slice none 0 0] ∧ v.heap.size = w.heap.size + 2) ⟨(below_al (below_al (Below.refl _ _) _) _), (by have b := ((BK.new w [.slice A m ca, .slice Q n cq, .int .i64 K, .int .i64 2, .int .i64 x, .int .i64 y, .bool b] 72).al (.cells #[.slice none 0 0] 77)); simpa only [World.size_alloc] using b), (by have b := (BK.new (w.alloc (.cells #[.slice A m ca, .slice Q n cq, .int .i64 K, .int .i64 2, .int .i64 x, .int .i64 y, .bool b] 72)) [.slice none 0 0] 77); simpa only [World.size_alloc] using b), by simp only [World.size_alloc]⟩ (fun V hS => ?_)
  obtain ⟨hbb, B0, B1, hVs⟩ := hS
  have p0 := B0.c 0 rfl
  have p1 := B0.c 1 rfl
  have p2 := B0.c 2 rfl
  have p3 := B0.c 3 rfl
  have p4 := B0.c 4 rfl
  have p5 := B0.c 5 rfl
  have p6 := B0.c 6 rfl
  clear hVs
  go_wp2_with fail
  refine (CKK.out _ hbb).mono ?_
  rintro e w1 ⟨rfl, hb⟩
  clear p0 p1 p2 p3 p4 p5 p6
  replace hbb := keepB hbb hb
  replace B0 := B0.keep hb
  replace B1 := B1.keep hb
  clear hb
  have p0 := B0.c 0 rfl
  have p1 := B0.c 1 rfl
  have p2 := B0.c 2 rfl
  have p3 := B0.c 3 rfl
  have p4 := B0.c 4 rfl
  have p5 := B0.c 5 rfl
  have p6 := B0.c 6 rfl
  go_wp2_with fail
  refine (DVD.out _ hbb).mono ?_
  rintro e w2 ⟨P, g0, g1, rfl, hb, hdv⟩
  have hlt1 := B1.lt
  clear p0 p1 p2 p3 p4 p5 p6 B0 e0 e2
  replace hbb := keepB hbb hb
  replace B1 := B1.keep hb
  clear hb
  have hlt := B1.lt
  have ya0 := B1.c 0 rfl
  have yb0 := B1.f 0 rfl
  go_wp2_with fail
  exact bodyPost_ret (v := .tuple #[.agg #[.slice (some ⟨P, 0, none⟩) 2 2], .int .i64 0]) (by simp [results, Try.results42, go_sem, ya0]) rfl ⟨P, g0, g1, rfl, (below_set hbb (by omega) _), (hdv.set (by omega) _).mono (Nat.zero_le _)⟩
set_option linter.unusedSimpArgs false in
set_option maxHeartbeats 8000000 in
set_option maxRecDepth 100000 in
theorem start_ok (A : Option Addr) (m ca : Nat) (K x y : Int) (b : Bool) (D : List CkD) (L : List Qr) (w : World) (hR : ∀ v, Below w.heap.size w v → Calls Try.prog 85 #[.slice A m ca, .int .i64 K, .int .i64 0] v (StR D L K 0 x y b v)) :
    Calls Try.prog 40 #[.slice A m ca, .int .i64 K] w (StR D L K 0 x y b w) := by
  unfold StR at hR
  have REA := Lib.hid hR
  clear hR
  go_enter Try.func40, Try.ntmps40
  go_upto_region 1 with fail
  refine at_worldQ (fun v => Below w.heap.size w v ∧ BK v (w.heap.size) [.slice none 0 0, .slice none 0 0, .int .i64 0, .int .i64 0, .int .i64 0, .int .i64 0, .bool false] ∧ v.heap.size = w.heap.size + 1) ⟨(below_al (Below.refl _ _) _), (by have b := (BK.new w [.slice none 0 0, .slice none 0 0, .int .i64 0, .int .i64 0, .int .i64 0, .int .i64 0, .bool false] 72); simpa only [World.size_alloc] using b), by simp only [World.size_alloc]⟩ (fun V hS => ?_)
  obtain ⟨hbb, B0, hVs⟩ := hS
  clear hVs
  go_wp2_with fail
  refine (REA.out _ hbb).mono ?_
  rintro e w2 ⟨A1, m1, ca1, Q1, n1, cq1, l1, rfl, hb, hm1, hn1, hd1, hfd⟩
  have HM1 := Lib.hid hm1
  have HN1 := Lib.hid hn1
  have HD1 := Lib.hid hd1
  clear hm1 hn1 hd1
  have hlt1 := B0.lt
  replace hbb := keepB hbb hb
  replace B0 := B0.keep hb
  clear hb
  have hlt := B0.lt
  have ya0 := B0.c 0 rfl
  have ya1 := B0.c 1 rfl
  have ya2 := B0.c 2 rfl
  have ya3 := B0.c 3 rfl
  have ya4 := B0.c 4 rfl
  have ya5 := B0.c 5 rfl
  have ya6 := B0.c 6 rfl
  have yb0 := B0.f 0 rfl
  have yb1 := B0.f 1 rfl
  have yb2 := B0.f 2 rfl
  have yb3 := B0.f 3 rfl
  have yb4 := B0.f 4 rfl
  have yb5 := B0.f 5 rfl
  have yb6 := B0.f 6 rfl
  go_wp2_with fail
  exact bodyPost_ret (v := .tuple #[.agg #[.slice A1 m1 ca1, .slice Q1 n1 cq1, .int .i64 K, .int .i64 0, .int .i64 x, .int .i64 y, .bool b], .int .i64 0]) (by simp [results, Try.results40, go_sem, ya0, ya1, ya2, ya3, ya4, ya5, ya6]) rfl (StR.mk A1 m1 ca1 Q1 n1 cq1 l1 rfl (below_set (below_set (below_set (below_set (below_set (below_set (below_set hbb (by omega) _) (by omega) _) (by omega) _) (by omega) _) (by omega) _) (by omega) _) (by omega) _) HM1.out HN1.out HD1.out ((((((((hfd.set (by omega) _).set (by omega) _).set (by omega) _).set (by omega) _).set (by omega) _).set (by omega) _).set (by omega) _).mono (by omega)))
end Go.Proofs.Ytaaamcleilpnhaa
namespace Go.Proofs.Ytaaamcleilpnhaa
open Go.RowKit
/-- What Run gives for two valid cakes, with the desk that the log lies in. -/
def RunF (L : List Qr) (a0 b0 c0 d0 a1 b1 c1 d1 : Int) (w : World) (e : Ending) (w' : World) : Prop :=
  ∃ (P g0 g1 : Nat) (A : Option Addr) (ca : Nat) (Q : Option Addr) (cq : Nat) (l : List CkR) (n : Nat), e = .returned (.tuple #[.agg #[.slice (some ⟨P, 0, none⟩) 2 2], .slice Q n cq, .int .i64 0]) ∧ Below w.heap.size w w' ∧ n = L.length ∧ FD w' w.heap.size A ca l Q cq L ∧ DivB w.heap.size P g0 g1 a0 b0 c0 d0 a1 b1 c1 d1 w'
set_option linter.unusedSimpArgs false in
set_option maxHeartbeats 8000000 in
set_option maxRecDepth 100000 in
theorem run_of2 (A : Option Addr) (ca n : Nat) (K x y : Int) (b : Bool) (D : List CkD) (L : List Qr) (a0 b0 c0 d0 a1 b1 c1 d1 : Int) (w : World)
    (hR : ∀ v, Below w.heap.size w v → Calls Try.prog 85 #[.slice A n ca, .int .i64 K, .int .i64 2] v (StR D L K 2 x y b v))
    (hV : ∀ (A : Option Addr) (ca : Nat) (l : List CkR) (Q : Option Addr) (n cq : Nat) (v : World), IsCs v A l → l.map Ak.dat = D → Calls Try.prog 86 #[.agg #[.slice A l.length ca, .slice Q n cq, .int .i64 K, .int .i64 2, .int .i64 x, .int .i64 y, .bool b]] v (DivQ a0 b0 c0 d0 a1 b1 c1 d1 v)) :
    Calls Try.prog 44 #[.slice A n ca, .int .i64 K] w (RunF L a0 b0 c0 d0 a1 b1 c1 d1 w) := by
  unfold StR at hR
  have RE := Lib.hid hR
  have DV := Lib.hid hV
  have e0 : ((0 : Int) != 0) = false := rfl
  clear hR hV
  unfold RunF
  go_enter Try.func44, Try.ntmps44
  go_upto_region 1 with fail
  refine at_worldQ (fun v => Below w.heap.size w v ∧ BK v (w.heap.size) [.slice none 0 0] ∧ v.heap.size = w.heap.size + 1) ⟨(below_al (Below.refl _ _) _), (by have b := (BK.new w [.slice none 0 0] 77); simpa only [World.size_alloc] using b), by simp only [World.size_alloc]⟩ (fun V hS => ?_)
  obtain ⟨hbb, B0, hVs⟩ := hS
  have hV0 : w.heap.size + 1 ≤ V.heap.size := by omega
  clear hVs
  go_wp2_with fail
  refine (RE.out _ hbb).mono ?_
  rintro e w1 ⟨A1, m1, ca1, Q1, n1, cq1, l1, rfl, hb, hm1, hn1, hd1, hfd⟩
  have HM1 := Lib.hid hm1
  have HN1 := Lib.hid hn1
  have HD1 := Lib.hid hd1
  clear hm1 hn1 hd1
  replace hbb := keepB hbb hb
  replace B0 := B0.keep hb
  have hw1 := hb.size
  clear hb
  go_upto_region 2 with fail
  refine at_worldQ (fun v => Below w.heap.size w v ∧ BK v w.heap.size [.slice none 0 0] ∧ BK v w1.heap.size [.slice A1 m1 ca1, .slice Q1 n1 cq1, .int .i64 K, .int .i64 2, .int .i64 x, .int .i64 y, .bool b] ∧ FD v V.heap.size A1 ca1 l1 Q1 cq1 L ∧ w.heap.size + 1 ≤ v.heap.size) ⟨below_al hbb _, B0.al _, BK.new _ _ _, hfd.keep (below_al (Below.refl _ _) _), by simp only [World.size_alloc]; omega⟩ (fun V4 hS => ?_)
  clear hbb B0 hfd
  obtain ⟨hbb, B0, BX, hfd, hV4⟩ := hS
  have hX : w.heap.size + 1 ≤ w1.heap.size := by omega
  clear hw1
  generalize w1.heap.size = X at *
  generalize V.heap.size = BV at *
  go_upto_region 4 with fail
  clear e0
  have s0 := BX.c 0 rfl
  have s1 := BX.c 1 rfl
  have s2 := BX.c 2 rfl
  have s3 := BX.c 3 rfl
  have s4 := BX.c 4 rfl
  have s5 := BX.c 5 rfl
  have s6 := BX.c 6 rfl
  have dv := fun u (hu : IsCs u A1 l1) => DV.out A1 ca1 l1 Q1 n1 cq1 u hu HD1.out
  rw [← HM1.out] at dv
  have DVL := Lib.hid dv
  clear dv
  refine wp_region_noPanic ?_
  refine region_ordU (S := (GB (fun _ => False) V4)) (GB (fun k => k = w.heap.size) V4) 5 (by kernel_rfl) ((GB.refl _ _).drew) (fun hHeld => ?_)
  refine at_ordU (fun v => GB (fun _ => False) V4 v) hHeld (fun wa0 hNew => ?_)
  clear hHeld
  have hHeld := hNew
  clear hNew
  refine ordU_take (i := 0) (o := _) (v := ?va1) rfl (by kernel_rfl) (by kernel_rfl) (by kernel_rfl) (by kernel_rfl) (fun _ _ _ h => h) (Or.inl ⟨by kernel_rfl, ?hya1⟩) hHeld ?resta1
  case hya1 => (intro w hSw; have ks0 := hSw.cell (fun h => h) s0; have ks1 := hSw.cell (fun h => h) s1; have ks2 := hSw.cell (fun h => h) s2; have ks3 := hSw.cell (fun h => h) s3; have ks4 := hSw.cell (fun h => h) s4; have ks5 := hSw.cell (fun h => h) s5; have ks6 := hSw.cell (fun h => h) s6; go_simp; first | done | (with_reducible rfl))
  try simp only [Act.put, PA, PB]
  refine ordU_take2 (i := 2) (o := _) (v := ?va2) rfl (by kernel_rfl) (by kernel_rfl) (by kernel_rfl) (by decide) (fun  _ _ _ h => h) (Or.inl ⟨by kernel_rfl, ?hya2⟩) (Or.inl ⟨by kernel_rfl, ?hza2⟩) hHeld ?resta2
  case hya2 => (intro w hSw; go_simp; first | done | (with_reducible rfl))
  case hza2 => (intro w hSw; go_simp; first | done | (with_reducible rfl))
  try simp only [Act.put, PA, PB]
  refine ordU_take2 (i := 3) (o := _) (v := ?va3) rfl (by kernel_rfl) (by kernel_rfl) (by kernel_rfl) (by decide) (fun  _ _ _ h => h) (Or.inl ⟨by kernel_rfl, ?hya3⟩) (Or.inl ⟨by kernel_rfl, ?hza3⟩) hHeld ?resta3
  case hya3 => (intro w hSw; go_simp; first | done | (with_reducible rfl))
  case hza3 => (intro w hSw; go_simp; first | done | (with_reducible rfl))
  try simp only [Act.put, PA, PB]
  refine ordU_take2 (i := 4) (o := _) (v := ?va4) rfl (by kernel_rfl) (by kernel_rfl) (by kernel_rfl) (by decide) (fun  _ _ _ h => h) (Or.inl ⟨by kernel_rfl, ?hya4⟩) (Or.inl ⟨by kernel_rfl, ?hza4⟩) hHeld ?resta4
  case hya4 => (intro w hSw; have ks0 := hSw.cell (fun h => h) s0; have ks1 := hSw.cell (fun h => h) s1; have ks2 := hSw.cell (fun h => h) s2; have ks3 := hSw.cell (fun h => h) s3; have ks4 := hSw.cell (fun h => h) s4; have ks5 := hSw.cell (fun h => h) s5; have ks6 := hSw.cell (fun h => h) s6; go_simp; first | done | (with_reducible rfl))
  case hza4 => (intro w hSw; have ks0 := hSw.cell (by omega) s0; have ks1 := hSw.cell (by omega) s1; have ks2 := hSw.cell (by omega) s2; have ks3 := hSw.cell (by omega) s3; have ks4 := hSw.cell (by omega) s4; have ks5 := hSw.cell (by omega) s5; have ks6 := hSw.cell (by omega) s6; go_simp; first | done | (with_reducible rfl))
  try simp only [Act.put, PA, PB]
  refine ordU_ready (rs := [1]) (by kernel_rfl) (by simp) (ReadyU.cons (o := _) rfl (by decide) (fun K hK => ?_) ReadyU.nil)
  go_simp
  refine (DVL.out _ (hfd.keep (hHeld.toBelow (Below.refl _ _) (fun k hk => hk.elim) (Nat.le_refl _))).isCs).mono ?_
  rintro e wa5 hput
  unfold DivQ at hput
  obtain ⟨P, g0, g1, rfl, hb3, hdv⟩ := hput
  have hvw := hHeld.size
  replace hfd := (hfd.keep (hHeld.toBelow (Below.refl _ _) (fun k hk => hk.elim) (Nat.le_refl _))).keep hb3
  go_wp2_with fail
  refine hK.out _ _ (hHeld.below hb3) (fun hNew => ?_)
  clear hb3
  clear hHeld hK K
  have hHeld := hNew
  clear hNew
  try simp only [Act.put, PA, PB]
  refine ordU_at (by kernel_rfl) ?_
  replace B0 := B0.gb hHeld (fun h => h)
  replace hHeld : GB (fun k => k = w.heap.size) V4 wa5 := hHeld.weak (fun k hk => hk.elim)
  refine wpAnyH_ready (rs := [5]) (by kernel_rfl) (by simp) (AllReadyH.cons (o := _) rfl (fun K hK => ?_) AllReadyH.nil)
  have n0 := B0.c 0 rfl
  have f0 := B0.f 0 rfl
  go_simp
  clear n0 f0
  refine hK.out _ _ (hHeld.set (.inl rfl) _) (fun hNew => ?_)
  clear hHeld hK K
  have hHeld := hNew
  clear hNew
  try simp only [Act.put, PA, PB]
  refine at_anyH (fun v => GB (fun k => k = w.heap.size) V4 v ∧ BK v (w.heap.size) [.slice (some ⟨P, 0, none⟩) 2 2] ∧ DivB wa0.heap.size P g0 g1 a0 b0 c0 d0 a1 b1 c1 d1 v ∧ FD v BV A1 ca1 l1 Q1 cq1 L) ⟨hHeld, (B0.set 0 _), (hdv.set (by omega) _), (hfd.set (by omega) _)⟩ (fun wa6 hS => ?_)
  clear hHeld B0 hdv hfd
  obtain ⟨hHeld, B0, hdv, hfd⟩ := hS
  refine wpAnyH_take (i := 6) (oi := _) (v := ?va7) rfl (by kernel_rfl) (by kernel_rfl) (by kernel_rfl) (fun _ _ _ h => h) (Or.inl ⟨by kernel_rfl, ?hya7⟩) hHeld ?resta7
  case hya7 => (intro w hSw; go_simp; first | done | (with_reducible rfl))
  try simp only [Act.put, PA, PB]
  refine wpAnyH_take (i := 7) (oi := _) (v := ?va8) rfl (by kernel_rfl) (by kernel_rfl) (by kernel_rfl) (fun _ _ _ h => h) (Or.inl ⟨by kernel_rfl, ?hya8⟩) hHeld ?resta8
  case hya8 => (intro w hSw; go_simp; first | done | (with_reducible rfl))
  try simp only [Act.put, PA, PB]
  refine wpAnyH_done (by kernel_rfl) ?_ _
  refine NoPanic.normal ?_
  skip
  have hbb2 := hHeld.toBelow hbb (fun k hk => by omega) (by omega)
  have r0 := B0.c 0 rfl
  clear s0 s1 s2 s3 s4 s5 s6
  go_wp2_with fail
  exact bodyPost_ret (v := .tuple #[.agg #[.slice (some ⟨P, 0, none⟩) 2 2], .slice Q1 n1 cq1, .int .i64 0]) (by simp [results, Try.results44, go_sem, r0]) rfl ⟨P, g0, g1, A1, ca1, Q1, cq1, l1, n1, rfl, hbb2, HN1.out, hfd.mono (by omega), hdv.mono (by omega)⟩
/-- The desk of a state. -/
structure Vl (D : List CkD) (L : List Qr) (A : Option Addr) (m : Nat) (Q : Option Addr) (n : Nat) (l : List CkR) (w : World) : Prop where
  cs : IsCs w A l
  m : m = l.length
  d : l.map Ak.dat = D
  q : IsQs w Q L
  n : n = L.length
theorem Vl.keep {D : List CkD} {L : List Qr} {A : Option Addr} {m : Nat} {Q : Option Addr} {n : Nat} {l : List CkR} {w v : World} (h : Vl D L A m Q n l w) (hb : Below w.heap.size w v) : Vl D L A m Q n l v := ⟨h.cs.keep hb, h.m, h.d, h.q.keep hb, h.n⟩
section
variable {D : List CkD} {k j : Nat} {h1 h2 g1 g2 x y v1 v2 z : Int}
theorem Ch.Rn.check0 (R : Ch.Rn D k j h1 h2 g1 g2 x y v1 v2 z) (hc : Ak.chkS D 0 = 0) (hl : D.length = 2) (A : Option Addr) (m ca : Nat) (Q : Option Addr) (n cq : Nat) (l : List CkR) (w : World) (V : Vl D [] A m Q n l w) :
    Calls Try.prog 45 #[.agg #[.slice A m ca, .slice Q n cq, .int .i64 k, .int .i64 0, .int .i64 0, .int .i64 1, .bool false]] w fun e w' => e = .returned (.int .i64 0) ∧ Below w.heap.size w w' :=
  check_ok A m ca Q n cq k 0 0 1 false D [] l w V.cs V.m V.d V.q V.n (by simp) (Ch.chkS_up hc (by have := V.n; simp at this; omega)) (fun v hv => by
    have := R.reach hc hl 0 (by omega) A ca l v (V.cs.keep hv) V.d
    rw [← V.m] at this
    exact this)
theorem Ch.Rn.check1 (R : Ch.Rn D k j h1 h2 g1 g2 x y v1 v2 z) (hc : Ak.chkS D 0 = 0) (hl : D.length = 2) (A : Option Addr) (m ca : Nat) (Q : Option Addr) (n cq : Nat) (l : List CkR) (w : World) (V : Vl D [⟨k, 2, 0, 1, h1, h2, x, y⟩] A m Q n l w) :
    Calls Try.prog 45 #[.agg #[.slice A m ca, .slice Q n cq, .int .i64 k, .int .i64 1, .int .i64 x, .int .i64 y, .bool false]] w fun e w' => e = .returned (.int .i64 0) ∧ Below w.heap.size w w' :=
  check_ok A m ca Q n cq k 1 x y false D [⟨k, 2, 0, 1, h1, h2, x, y⟩] l w V.cs V.m V.d V.q V.n (by simp) (Ch.chkS_up hc (by have := V.n; simp at this; omega)) (fun v hv => by
    have := R.reach hc hl 1 (by omega) A ca l v (V.cs.keep hv) V.d
    rw [← V.m] at this
    exact this)
theorem Ch.Rn.check2 (R : Ch.Rn D k j h1 h2 g1 g2 x y v1 v2 z) (hc : Ak.chkS D 0 = 0) (hl : D.length = 2) (A : Option Addr) (m ca : Nat) (Q : Option Addr) (n cq : Nat) (l : List CkR) (w : World) (V : Vl D [⟨k, 2, 0, 1, h1, h2, x, y⟩, ⟨j, 1, 0, 1, x, y, v1, v2⟩] A m Q n l w) :
    Calls Try.prog 45 #[.agg #[.slice A m ca, .slice Q n cq, .int .i64 k, .int .i64 2, .int .i64 x, .int .i64 y, .bool (decide (0 ≤ z))]] w fun e w' => e = .returned (.int .i64 0) ∧ Below w.heap.size w w' :=
  check_ok A m ca Q n cq k 2 x y (decide (0 ≤ z)) D [⟨k, 2, 0, 1, h1, h2, x, y⟩, ⟨j, 1, 0, 1, x, y, v1, v2⟩] l w V.cs V.m V.d V.q V.n (by simp) (Ch.chkS_up hc (by have := V.n; simp at this; omega)) (fun v hv => by
    have := R.reach hc hl 2 (by omega) A ca l v (V.cs.keep hv) V.d
    rw [← V.m] at this
    exact this)
theorem Ch.Rn.next0 (R : Ch.Rn D k j h1 h2 g1 g2 x y v1 v2 z) (hc : Ak.chkS D 0 = 0) (hl : D.length = 2) (A : Option Addr) (m ca : Nat) (Q : Option Addr) (n cq : Nat) (l : List CkR) (w : World) (V : Vl D [] A m Q n l w) :
    Calls Try.prog 43 #[.agg #[.slice A m ca, .slice Q n cq, .int .i64 k, .int .i64 0, .int .i64 0, .int .i64 1, .bool false]] w (StR D [⟨k, 2, 0, 1, h1, h2, x, y⟩] k 1 x y false w) := by
  refine next_ok A m ca Q n cq k 0 0 1 false w D [⟨k, 2, 0, 1, h1, h2, x, y⟩] 1 x y false rfl (fun v hv => R.check0 hc hl A m ca Q n cq l v (V.keep hv)) (fun v hv => ?_)
  have := R.step0 hc hl A ca l Q cq v (V.cs.keep hv) V.d (V.q.keep hv)
  rw [← V.m, ← V.n] at this
  exact this
theorem Ch.Rn.next1 (R : Ch.Rn D k j h1 h2 g1 g2 x y v1 v2 z) (hc : Ak.chkS D 0 = 0) (hl : D.length = 2) (A : Option Addr) (m ca : Nat) (Q : Option Addr) (n cq : Nat) (l : List CkR) (w : World) (V : Vl D [⟨k, 2, 0, 1, h1, h2, x, y⟩] A m Q n l w) :
    Calls Try.prog 43 #[.agg #[.slice A m ca, .slice Q n cq, .int .i64 k, .int .i64 1, .int .i64 x, .int .i64 y, .bool false]] w (StR D [⟨k, 2, 0, 1, h1, h2, x, y⟩, ⟨j, 1, 0, 1, x, y, v1, v2⟩] k 2 x y (decide (0 ≤ z)) w) := by
  refine next_ok A m ca Q n cq k 1 x y false w D [⟨k, 2, 0, 1, h1, h2, x, y⟩, ⟨j, 1, 0, 1, x, y, v1, v2⟩] 2 x y (decide (0 ≤ z)) rfl (fun v hv => R.check1 hc hl A m ca Q n cq l v (V.keep hv)) (fun v hv => ?_)
  have := R.step1 hc hl _ A ca l Q cq v (V.cs.keep hv) V.d (V.q.keep hv)
  rw [← V.m, ← V.n] at this
  exact this
theorem Ch.Rn.next2 (R : Ch.Rn D k j h1 h2 g1 g2 x y v1 v2 z) (hc : Ak.chkS D 0 = 0) (hl : D.length = 2) (A : Option Addr) (m ca : Nat) (Q : Option Addr) (n cq : Nat) (l : List CkR) (w : World) (V : Vl D [⟨k, 2, 0, 1, h1, h2, x, y⟩, ⟨j, 1, 0, 1, x, y, v1, v2⟩] A m Q n l w) :
    Calls Try.prog 43 #[.agg #[.slice A m ca, .slice Q n cq, .int .i64 k, .int .i64 2, .int .i64 x, .int .i64 y, .bool (decide (0 ≤ z))]] w fun e w' => e = .returned (.tuple #[.agg #[.slice none 0 0, .slice none 0 0, .int .i64 0, .int .i64 0, .int .i64 0, .int .i64 0, .bool false], .int .i64 36]) ∧ Below w.heap.size w w' :=
  next_end A m ca Q n cq k x y (decide (0 ≤ z)) w (fun v hv => R.check2 hc hl A m ca Q n cq l v (V.keep hv))
theorem Ch.Rn.start (R : Ch.Rn D k j h1 h2 g1 g2 x y v1 v2 z) (hc : Ak.chkS D 0 = 0) (hl : D.length = 2) (A : Option Addr) (ca : Nat) (cs : List CkR) (w : World) (h : IsCs w A cs) (hD : cs.map Ak.dat = D) :
    Calls Try.prog 40 #[.slice A cs.length ca, .int .i64 k] w (StR D [] k 0 0 1 false w) :=
  start_ok A cs.length ca k 0 1 false D [] w (fun v hv => R.reach hc hl 0 (by omega) A ca cs v (h.keep hv) hD)
theorem Ch.Rn.divs (R : Ch.Rn D k j h1 h2 g1 g2 x y v1 v2 z) (hl : D.length = 2) : ∃ a0 b0 c0 d0 a1 b1 c1 d1 : Int, ∀ (A : Option Addr) (ca : Nat) (l : List CkR) (Q : Option Addr) (n cq : Nat) (v : World), IsCs v A l → l.map Ak.dat = D →
    Calls Try.prog 86 #[.agg #[.slice A l.length ca, .slice Q n cq, .int .i64 k, .int .i64 2, .int .i64 x, .int .i64 y, .bool (decide (0 ≤ z))]] v (DivQ a0 b0 c0 d0 a1 b1 c1 d1 v) := by
  have l2 : ∀ l : List CkR, l.map Ak.dat = D → l.length = 2 := fun l hd => by rw [← List.length_map (f := Ak.dat), hd]; exact hl
  rcases R.kj with ⟨rfl, rfl⟩ | ⟨rfl, rfl⟩ <;> by_cases hz : 0 ≤ z
  · rw [decide_eq_true hz]
    exact ⟨_, _, _, _, _, _, _, _, fun A ca l Q n cq v hi hd => divided0t A ca l Q n cq 2 x y (Ak.dAt D 0).1 v hi (l2 l hd) (cat0_len hd hl rfl)⟩
  · rw [decide_eq_false hz]
    exact ⟨_, _, _, _, _, _, _, _, fun A ca l Q n cq v hi hd => divided0f A ca l Q n cq 2 x y (Ak.dAt D 0).1 v hi (l2 l hd) (cat0_len hd hl rfl)⟩
  · rw [decide_eq_true hz]
    exact ⟨_, _, _, _, _, _, _, _, fun A ca l Q n cq v hi hd => divided1t A ca l Q n cq 2 x y (Ak.dAt D 0).1 v hi (l2 l hd) (cat0_len hd hl rfl)⟩
  · rw [decide_eq_false hz]
    exact ⟨_, _, _, _, _, _, _, _, fun A ca l Q n cq v hi hd => divided1f A ca l Q n cq 2 x y (Ak.dAt D 0).1 v hi (l2 l hd) (cat0_len hd hl rfl)⟩
end
end Go.Proofs.Ytaaamcleilpnhaa
namespace Go.Proofs.Ytaaamcleilpnhaa
open Go.RowKit
set_option linter.unusedSimpArgs false in
set_option maxHeartbeats 8000000 in
set_option maxRecDepth 100000 in
theorem line_fit (A : Option Addr) (ca : Nat) (cs : List CkR) (D : List CkD) (k j : Nat) (h1 h2 g1 g2 x y v1 v2 z : Int) (w : World) (h : IsCs w A cs) (hD : cs.map Ak.dat = D) (R : Ch.Rn D k j h1 h2 g1 g2 x y v1 v2 z) (hc : Ak.chkS D 0 = 0) (hl : D.length = 2) (hf : Ch.fitP D k = true) :
    Calls Try.prog 7 #[.slice A cs.length ca, .int .i64 k] w fun e w' => e = .returned (.bool true) ∧ Below w.heap.size w w' := by
  obtain ⟨a0, b0, c0, d0, a1, b1, c1, d1, hdi⟩ := R.divs hl
  have ft := fit_any A ca cs k w h
  rw [hD, hf] at ft
  have st := fun v (hv : Below w.heap.size w v) => R.start hc hl A ca cs v (h.keep hv) hD
  have rf := fun v (hv : Below w.heap.size w v) => run_of2 A ca cs.length k x y (decide (0 ≤ z)) D [⟨k, 2, 0, 1, h1, h2, x, y⟩, ⟨j, 1, 0, 1, x, y, v1, v2⟩] a0 b0 c0 d0 a1 b1 c1 d1 v (fun u hu => R.reach hc hl 2 (by omega) A ca cs u ((h.keep hv).keep hu) hD) hdi
  have k0 := R.check0 hc hl
  have k1 := R.check1 hc hl
  have k2 := R.check2 hc hl
  have n0 := R.next0 hc hl
  have n1 := R.next1 hc hl
  have n2 := R.next2 hc hl
  have dn := fun A m ca Q n cq l v (V : Vl D [⟨k, 2, 0, 1, h1, h2, x, y⟩, ⟨j, 1, 0, 1, x, y, v1, v2⟩] A m Q n l v) => division_ok A m ca Q n cq k x y (decide (0 ≤ z)) v a0 b0 c0 d0 a1 b1 c1 d1 (fun u hu => k2 A m ca Q n cq l u (V.keep hu)) (fun u hu => by
    have := hdi A ca l Q n cq u (V.cs.keep hu) V.d
    rw [← V.m] at this
    exact this)
  generalize (⟨k, 2, 0, 1, h1, h2, x, y⟩ : Qr) = q1 at *
  generalize (⟨j, 1, 0, 1, x, y, v1, v2⟩ : Qr) = q2 at *
  generalize decide (0 ≤ z) = b at *
  unfold StR at st
  unfold RunF at rf
  have FT := Lib.hid ft
  have ST := Lib.hid st
  have RF := Lib.hid rf
  have C0 := Lib.hid k0
  have C1 := Lib.hid k1
  have C2 := Lib.hid k2
  have N0 := Lib.hid n0
  have N1 := Lib.hid n1
  have N2 := Lib.hid n2
  have DN := Lib.hid dn
  have HH := Lib.hid h
  have HD := Lib.hid hD
  clear ft st rf k0 k1 k2 n0 n1 n2 dn h hD hdi R hc hl hf
  go_enter Try.func7, Try.ntmps7
  go_wp2_with fail
  refine FT.out.mono ?_
  rintro e w1 ⟨rfl, hbb⟩
  go_wp2_with fail
  refine (ST.out _ hbb).mono ?_
  rintro e w2 ⟨A1, m1, ca1, Q1, n1, cq1, l1, rfl, hb, hm1, hn1, hd1, hfd⟩
  have hn0 : n1 = 0 := hn1
  clear hn1
  subst hn0
  have V1 : Vl D [] A1 m1 Q1 0 l1 w2 := ⟨hfd.isCs, hm1, hd1, hfd.isQs, rfl⟩
  clear hm1 hd1 hfd
  replace hbb := keepB hbb hb
  clear hb
  have hw2 := hbb.size
  go_upto_region 4 with fail
  refine at_worldQ (fun v => Below w.heap.size w v ∧ w.heap.size ≤ v.heap.size ∧ Vl D [] A1 m1 Q1 0 l1 v ∧ BK v w2.heap.size [.slice A1 m1 ca1, .slice Q1 0 cq1, .int .i64 k, .int .i64 0, .int .i64 0, .int .i64 1, .bool false]) ⟨(below_al hbb _), Below.size (B := w.heap.size) (w := w) (below_al hbb _), V1.keep (below_al (Below.refl _ _) _), BK.new _ _ _⟩ (fun V4 hS => ?_)
  clear hbb V1 
  obtain ⟨hbb, hBV, V1, BS⟩ := hS
  generalize w2.heap.size = ps at *
  have hps := BS.lt
  go_wp2_with fail
  refine (RF.out _ hbb).mono ?_
  rintro e w3 ⟨Pd, gd, kd, Ar, car, Qr, cqr, lr, nr, rfl, hb, hnr, hfr, hdv⟩
  have hnr2 : nr = 2 := hnr
  clear hnr
  subst hnr2
  have hp3 := hb.size
  replace V1 := V1.keep hb
  replace BS := BS.keep hb
  replace hbb := keepB hbb hb
  clear hb
  go_upto_region 5 with fail
  refine at_worldQ (fun v => Below w.heap.size w v ∧ w.heap.size ≤ v.heap.size ∧ Vl D [] A1 m1 Q1 0 l1 v ∧ BK v ps [.slice A1 m1 ca1, .slice Q1 0 cq1, .int .i64 k, .int .i64 0, .int .i64 0, .int .i64 1, .bool false] ∧ FD v V4.heap.size Ar car lr Qr cqr [q1, q2] ∧ DivB V4.heap.size Pd gd kd a0 b0 c0 d0 a1 b1 c1 d1 v ∧ BK v w3.heap.size [.slice (some ⟨Pd, 0, none⟩) 2 2]) ⟨(below_al hbb _), Below.size (B := w.heap.size) (w := w) (below_al hbb _), V1.keep (below_al (Below.refl _ _) _), BS.keep (below_al (Below.refl _ _) _), hfr.keep (below_al (Below.refl _ _) _), hdv.call (below_al (Below.refl _ _) _), BK.new _ _ _⟩ (fun V5 hS => ?_)
  clear hbb V1 BS hfr hdv hBV
  obtain ⟨hbb, hBV, V1, BS, hfr, hdv, BD⟩ := hS
  generalize w3.heap.size = pd at *
  generalize V4.heap.size = B4 at *
  have sc := fun v (hv : Below V5.heap.size V5 v) => rSameCakes_any A1 A ca1 ca l1 cs v (V1.cs.keep hv) (HH.out.keep (keepB hbb hv))
  rw [← V1.m, V1.d, HD.out, decide_eq_true rfl] at sc
  have SC := Lib.hid sc
  clear sc
  have s0 := BS.c 0 rfl
  have s1 := BS.c 1 rfl
  have s2 := BS.c 2 rfl
  have s3 := BS.c 3 rfl
  have s4 := BS.c 4 rfl
  have s5 := BS.c 5 rfl
  have s6 := BS.c 6 rfl
  have e0 : ((0 : Int) != 0) = false := rfl
  go_wp2_with fail
  refine (SC.out _ (Below.refl _ _)).mono ?_
  rintro e w5 ⟨rfl, hb⟩
  clear SC s0 s1 s2 s3 s4 s5 s6 e0
  replace V1 := V1.keep hb
  replace BS := BS.keep hb
  replace hfr := hfr.keep hb
  replace hdv := hdv.call hb
  replace BD := BD.keep hb
  replace hbb := keepB hbb hb
  clear hb
  go_wp2_with fail
  go_loopw [10] (fun i W => ∃ (t : Nat) (A1 : Option Addr) (m1 ca1 : Nat) (Q1 : Option Addr) (n1 cq1 : Nat) (l1 : List CkR), t ≤ 2 ∧ i = .int .i64 t ∧ BK W ps [.slice A1 m1 ca1, .slice Q1 n1 cq1, .int .i64 k, .int .i64 (t : Nat), .int .i64 (Ch.pick 0 x x t), .int .i64 (Ch.pick 1 y y t), .bool (Ch.pick false false b t)] ∧ Vl D (Ch.pick [] [q1] [q1, q2] t) A1 m1 Q1 n1 l1 W ∧ BK W pd [.slice (some ⟨Pd, 0, none⟩) 2 2] ∧ FD W B4 Ar car lr Qr cqr [q1, q2] ∧ DivB B4 Pd gd kd a0 b0 c0 d0 a1 b1 c1 d1 W ∧ Below w.heap.size w W) (fun i _ => 2 - (intOf i).toNat)
  case atStart => exact ⟨0, A1, m1, ca1, Q1, 0, cq1, l1, by omega, rfl, BS, V1, BD, hfr, hdv, hbb⟩
  case round =>
    clear V1 BS hfr hdv BD hbb hBV
    obtain ⟨t, A1, m1, ca1, Q1, n1, cq1, l1, ht, rfl, BS, V1, BD, hfr, hdv, hbb⟩ := hrel
    rcases (show t = 0 ∨ t = 1 ∨ t = 2 by omega) with rfl | rfl | rfl
    ·
      have hn0 : n1 = 0 := V1.n
      subst hn0
      replace V1 : Vl D [] A1 m1 Q1 0 l1 _ := V1
      replace BS : BK _ ps [.slice A1 m1 ca1, .slice Q1 0 cq1, .int .i64 k, .int .i64 0, .int .i64 0, .int .i64 1, .bool false] := BS
      have s0 := BS.c 0 rfl
      have s1 := BS.c 1 rfl
      have s2 := BS.c 2 rfl
      have s3 := BS.c 3 rfl
      have s4 := BS.c 4 rfl
      have s5 := BS.c 5 rfl
      have s6 := BS.c 6 rfl
      go_wp2_with fail
      refine (C0.out A1 m1 ca1 Q1 0 cq1 l1 _ V1).mono ?_
      rintro e wa ⟨rfl, hb⟩
      clear s0 s1 s2 s3 s4 s5 s6
      replace V1 := V1.keep hb
      replace BS := BS.keep hb
      replace BD := BD.keep hb
      replace hfr := hfr.keep hb
      replace hdv := hdv.call hb
      replace hbb := keepB hbb hb
      clear hb
      have s0 := BS.c 0 rfl
      have s1 := BS.c 1 rfl
      have s2 := BS.c 2 rfl
      have s3 := BS.c 3 rfl
      have s4 := BS.c 4 rfl
      have s5 := BS.c 5 rfl
      have s6 := BS.c 6 rfl
      go_wp2_with fail
      refine (N0.out A1 m1 ca1 Q1 0 cq1 l1 _ V1).mono ?_
      unfold StR
      rintro e wb ⟨A2, m2, ca2, Q2, n2, cq2, l2, rfl, hb, hm2, hn2, hd2, hfd⟩
      clear s0 s1 s2 s3 s4 s5 s6
      have hpB : ps < wa.heap.size := BS.lt
      have hn3 : n2 = 1 := hn2
      clear hn2
      subst hn3
      obtain ⟨g, cap', hv, _, hglt⟩ := World.ownsRow.form hfd.log (by simp)
      simp only [Value.slice.injEq] at hv
      obtain ⟨rfl, _, rfl⟩ := hv
      have hcap : 1 ≤ cq2 := row_le hfd.log
      have HM2 := Lib.hid hm2
      have HD2 := Lib.hid hd2
      clear hm2 hd2
      replace V1 := V1.keep hb
      replace BS := BS.keep hb
      replace BD := BD.keep hb
      replace hfr := hfr.keep hb
      replace hdv := hdv.call hb
      replace hbb := keepB hbb hb
      clear hb
      go_upto_region 13 with fail
      refine at_worldQ (fun v => Below w.heap.size w v ∧ w.heap.size ≤ v.heap.size ∧ Vl D [] A1 m1 Q1 0 l1 v ∧ BK v ps [.slice A1 m1 ca1, .slice Q1 0 cq1, .int .i64 k, .int .i64 0, .int .i64 0, .int .i64 1, .bool false] ∧ BK v pd [.slice (some ⟨Pd, 0, none⟩) 2 2] ∧ FD v B4 Ar car lr Qr cqr [q1, q2] ∧ DivB B4 Pd gd kd a0 b0 c0 d0 a1 b1 c1 d1 v ∧ FD v wa.heap.size A2 ca2 l2 (some ⟨g, 0, none⟩) cq2 [q1] ∧ BK v wb.heap.size [.slice A2 m2 ca2, .slice (some ⟨g, 0, none⟩) 1 cq2, .int .i64 k, .int .i64 1, .int .i64 x, .int .i64 y, .bool false]) ⟨(below_al hbb _), Below.size (B := w.heap.size) (w := w) (below_al hbb _), V1.keep (below_al (Below.refl _ _) _), BS.keep (below_al (Below.refl _ _) _), BD.keep (below_al (Below.refl _ _) _), hfr.keep (below_al (Below.refl _ _) _), hdv.call (below_al (Below.refl _ _) _), hfd.keep (below_al (Below.refl _ _) _), BK.new _ _ _⟩ (fun V13 hS => ?_)
      clear hbb V1 BS BD hfr hdv hfd 
      obtain ⟨hbb, hBV, V1, BS, BD, hfr, hdv, hfd, BN⟩ := hS
      generalize wb.heap.size = pn at *
      generalize wa.heap.size = B9 at *
      have sl := fun v (hv : Below V13.heap.size V13 v) => rSameLogs_any (some ⟨g, 0, none⟩) Q1 cq2 cq1 [] [] v (IsQs.pre (qs := []) (q := q1) (hfd.isQs.keep hv)) (V1.q.keep hv)
      rw [decide_eq_true rfl] at sl
      have SL := Lib.hid sl
      clear sl
      have hc1 : (0 : Int) ≤ (cq2 : Int) := by omega
      have hc2 : 0 ≤ cq2 := by omega
      have s0 := BS.c 0 rfl
      have s1 := BS.c 1 rfl
      have s2 := BS.c 2 rfl
      have s3 := BS.c 3 rfl
      have s4 := BS.c 4 rfl
      have s5 := BS.c 5 rfl
      have s6 := BS.c 6 rfl
      have n0 := BN.c 0 rfl
      have n1 := BN.c 1 rfl
      have n2 := BN.c 2 rfl
      have n3 := BN.c 3 rfl
      have n4 := BN.c 4 rfl
      have n5 := BN.c 5 rfl
      have n6 := BN.c 6 rfl
      refine wp_region_noPanic ?_
      refine wp_region_held_drew (S := (GB (fun _ => False) V13)) (by kernel_rfl) ((GB.refl _ _).drew) (fun hHeld => ?_)
      refine at_anyH (fun v => GB (fun _ => False) V13 v) hHeld (fun wl00 hNew => ?_)
      clear hHeld
      have hHeld := hNew
      clear hNew
      refine wpAnyH_take (i := 0) (oi := _) (v := ?vl01) rfl (by kernel_rfl) (by kernel_rfl) (by kernel_rfl) (fun _ _ _ h => h) (Or.inl ⟨by kernel_rfl, ?hyl01⟩) hHeld ?restl01
      case hyl01 => (intro w hSw; go_simp; first | done | (with_reducible rfl))
      try simp only [Act.put, List.append, PA, set16]
      try simp only [PB]
      refine wpAnyH_take (i := 1) (oi := _) (v := ?vl02) rfl (by kernel_rfl) (by kernel_rfl) (by kernel_rfl) (fun _ _ _ h => h) (Or.inl ⟨by kernel_rfl, ?hyl02⟩) hHeld ?restl02
      case hyl02 => (intro w hSw; go_simp; first | done | (with_reducible rfl))
      try simp only [Act.put, List.append, PA, set16]
      try simp only [PB]
      refine wpAnyH_take (i := 2) (oi := _) (v := ?vl03) rfl (by kernel_rfl) (by kernel_rfl) (by kernel_rfl) (fun _ _ _ h => h) (Or.inl ⟨by kernel_rfl, ?hyl03⟩) hHeld ?restl03
      case hyl03 => (intro w hSw; go_simp; first | done | (with_reducible rfl))
      try simp only [Act.put, List.append, PA, set16]
      try simp only [PB]
      refine wpAnyH_take (i := 3) (oi := _) (v := ?vl04) rfl (by kernel_rfl) (by kernel_rfl) (by kernel_rfl) (fun _ _ _ h => h) (Or.inl ⟨by kernel_rfl, ?hyl04⟩) hHeld ?restl04
      case hyl04 => (intro w hSw; go_simp; first | done | (with_reducible rfl))
      try simp only [Act.put, List.append, PA, set16]
      try simp only [PB]
      refine wpAnyH_take (i := 4) (oi := _) (v := ?vl05) rfl (by kernel_rfl) (by kernel_rfl) (by kernel_rfl) (fun _ _ _ h => h) (Or.inl ⟨by kernel_rfl, ?hyl05⟩) hHeld ?restl05
      case hyl05 => (intro w hSw; go_simp; first | done | (with_reducible rfl))
      try simp only [Act.put, List.append, PA, set16]
      try simp only [PB]
      refine wpAnyH_take (i := 5) (oi := _) (v := ?vl06) rfl (by kernel_rfl) (by kernel_rfl) (by kernel_rfl) (fun _ _ _ h => h) (Or.inl ⟨by kernel_rfl, ?hyl06⟩) hHeld ?restl06
      case hyl06 => (intro w hSw; have ks0 := hSw.cell (fun h => h) s0; have ks1 := hSw.cell (fun h => h) s1; have ks2 := hSw.cell (fun h => h) s2; have ks3 := hSw.cell (fun h => h) s3; have ks4 := hSw.cell (fun h => h) s4; have ks5 := hSw.cell (fun h => h) s5; have ks6 := hSw.cell (fun h => h) s6; have kn0 := hSw.cell (fun h => h) n0; have kn1 := hSw.cell (fun h => h) n1; have kn2 := hSw.cell (fun h => h) n2; have kn3 := hSw.cell (fun h => h) n3; have kn4 := hSw.cell (fun h => h) n4; have kn5 := hSw.cell (fun h => h) n5; have kn6 := hSw.cell (fun h => h) n6; go_simp; first | done | (with_reducible rfl))
      try simp only [Act.put, List.append, PA, set16]
      try simp only [PB]
      refine wpAnyH_take (i := 6) (oi := _) (v := ?vl07) rfl (by kernel_rfl) (by kernel_rfl) (by kernel_rfl) (fun _ _ _ h => h) (Or.inl ⟨by kernel_rfl, ?hyl07⟩) hHeld ?restl07
      case hyl07 => (intro w hSw; go_simp; first | done | (with_reducible rfl))
      try simp only [Act.put, List.append, PA, set16]
      try simp only [PB]
      refine wpAnyH_take (i := 7) (oi := _) (v := ?vl08) rfl (by kernel_rfl) (by kernel_rfl) (by kernel_rfl) (fun _ _ _ h => h) (Or.inl ⟨by kernel_rfl, ?hyl08⟩) hHeld ?restl08
      case hyl08 => (intro w hSw; go_simp; first | done | (with_reducible rfl))
      try simp only [Act.put, List.append, PA, set16]
      try simp only [PB]
      refine wpAnyH_take (i := 8) (oi := _) (v := ?vl09) rfl (by kernel_rfl) (by kernel_rfl) (by kernel_rfl) (fun _ _ _ h => h) (Or.inl ⟨by kernel_rfl, ?hyl09⟩) hHeld ?restl09
      case hyl09 => (intro w hSw; go_simp; first | done | (with_reducible rfl))
      try simp only [Act.put, List.append, PA, set16]
      try simp only [PB]
      refine wpAnyH_take (i := 9) (oi := _) (v := ?vl010) rfl (by kernel_rfl) (by kernel_rfl) (by kernel_rfl) (fun _ _ _ h => h) (Or.inl ⟨by kernel_rfl, ?hyl010⟩) hHeld ?restl010
      case hyl010 => (intro w hSw; go_simp; first | done | (with_reducible rfl))
      try simp only [Act.put, List.append, PA, set16]
      try simp only [PB]
      refine wpAnyH_take (i := 10) (oi := _) (v := ?vl011) rfl (by kernel_rfl) (by kernel_rfl) (by kernel_rfl) (fun _ _ _ h => h) (Or.inl ⟨by kernel_rfl, ?hyl011⟩) hHeld ?restl011
      case hyl011 => (intro w hSw; go_simp; first | done | (with_reducible rfl))
      try simp only [Act.put, List.append, PA, set16]
      try simp only [PB]
      refine wpAnyH_take (i := 11) (oi := _) (v := ?vl012) rfl (by kernel_rfl) (by kernel_rfl) (by kernel_rfl) (fun _ _ _ h => h) (Or.inl ⟨by kernel_rfl, ?hyl012⟩) hHeld ?restl012
      case hyl012 => (intro w hSw; go_simp; first | done | (with_reducible rfl))
      try simp only [Act.put, List.append, PA, set16]
      try simp only [PB]
      refine wpAnyH_take (i := 12) (oi := _) (v := ?vl013) rfl (by kernel_rfl) (by kernel_rfl) (by kernel_rfl) (fun _ _ _ h => h) (Or.inl ⟨by kernel_rfl, ?hyl013⟩) hHeld ?restl013
      case hyl013 => (intro w hSw; go_simp; first | done | (with_reducible rfl))
      try simp only [Act.put, List.append, PA, set16]
      try simp only [PB]
      refine wpAnyH_take (i := 13) (oi := _) (v := ?vl014) rfl (by kernel_rfl) (by kernel_rfl) (by kernel_rfl) (fun _ _ _ h => h) (Or.inl ⟨by kernel_rfl, ?hyl014⟩) hHeld ?restl014
      case hyl014 => (intro w hSw; go_simp; first | done | (with_reducible rfl))
      try simp only [Act.put, List.append, PA, set16]
      try simp only [PB]
      refine wpAnyH_take (i := 14) (oi := _) (v := ?vl015) rfl (by kernel_rfl) (by kernel_rfl) (by kernel_rfl) (fun _ _ _ h => h) (Or.inl ⟨by kernel_rfl, ?hyl015⟩) hHeld ?restl015
      case hyl015 => (intro w hSw; have ks0 := hSw.cell (fun h => h) s0; have ks1 := hSw.cell (fun h => h) s1; have ks2 := hSw.cell (fun h => h) s2; have ks3 := hSw.cell (fun h => h) s3; have ks4 := hSw.cell (fun h => h) s4; have ks5 := hSw.cell (fun h => h) s5; have ks6 := hSw.cell (fun h => h) s6; have kn0 := hSw.cell (fun h => h) n0; have kn1 := hSw.cell (fun h => h) n1; have kn2 := hSw.cell (fun h => h) n2; have kn3 := hSw.cell (fun h => h) n3; have kn4 := hSw.cell (fun h => h) n4; have kn5 := hSw.cell (fun h => h) n5; have kn6 := hSw.cell (fun h => h) n6; go_simp; first | done | (with_reducible rfl))
      try simp only [Act.put, List.append, PA, set16]
      try simp only [PB]
      refine wpAnyH_take (i := 15) (oi := _) (v := ?vl016) rfl (by kernel_rfl) (by kernel_rfl) (by kernel_rfl) (fun _ _ _ h => h) (Or.inl ⟨by kernel_rfl, ?hyl016⟩) hHeld ?restl016
      case hyl016 => (intro w hSw; go_simp; first | done | (with_reducible rfl))
      try simp only [Act.put, List.append, PA, set16]
      try simp only [PB]
      refine wpAnyH_take (i := 16) (oi := _) (v := ?vl017) rfl (by kernel_rfl) (by kernel_rfl) (by kernel_rfl) (fun _ _ _ h => h) (Or.inl ⟨by kernel_rfl, ?hyl017⟩) hHeld ?restl017
      case hyl017 => (intro w hSw; go_simp; first | done | (with_reducible rfl))
      try simp only [Act.put, List.append, PA, set16]
      try simp only [PB]
      refine wpAnyH_take (i := 17) (oi := _) (v := ?vl018) rfl (by kernel_rfl) (by kernel_rfl) (by kernel_rfl) (fun _ _ _ h => h) (Or.inl ⟨by kernel_rfl, ?hyl018⟩) hHeld ?restl018
      case hyl018 => (intro w hSw; go_simp; first | done | (with_reducible rfl))
      try simp only [Act.put, List.append, PA, set16]
      try simp only [PB]
      refine wpAnyH_take (i := 18) (oi := _) (v := ?vl019) rfl (by kernel_rfl) (by kernel_rfl) (by kernel_rfl) (fun _ _ _ h => h) (Or.inl ⟨by kernel_rfl, ?hyl019⟩) hHeld ?restl019
      case hyl019 => (intro w hSw; go_simp; first | done | (with_reducible rfl))
      try simp only [Act.put, List.append, PA, set16]
      try simp only [PB]
      refine wpAnyH_take (i := 19) (oi := _) (v := ?vl020) rfl (by kernel_rfl) (by kernel_rfl) (by kernel_rfl) (fun _ _ _ h => h) (Or.inl ⟨by kernel_rfl, ?hyl020⟩) hHeld ?restl020
      case hyl020 => (intro w hSw; have ks0 := hSw.cell (fun h => h) s0; have ks1 := hSw.cell (fun h => h) s1; have ks2 := hSw.cell (fun h => h) s2; have ks3 := hSw.cell (fun h => h) s3; have ks4 := hSw.cell (fun h => h) s4; have ks5 := hSw.cell (fun h => h) s5; have ks6 := hSw.cell (fun h => h) s6; have kn0 := hSw.cell (fun h => h) n0; have kn1 := hSw.cell (fun h => h) n1; have kn2 := hSw.cell (fun h => h) n2; have kn3 := hSw.cell (fun h => h) n3; have kn4 := hSw.cell (fun h => h) n4; have kn5 := hSw.cell (fun h => h) n5; have kn6 := hSw.cell (fun h => h) n6; go_simp; first | done | (with_reducible rfl))
      try simp only [Act.put, List.append, PA, set16]
      try simp only [PB]
      refine wpAnyH_ready (rs := [20]) (by kernel_rfl) (by simp) (AllReadyH.cons (o := _) rfl (fun K hK => ?_) AllReadyH.nil)
      go_simp
      refine (SL.out _ (hHeld.toBelow (Below.refl _ _) (fun k hk => hk.elim) (Nat.le_refl _))).mono ?_
      rintro e wl021 ⟨rfl, hb3⟩
      go_wp2_with fail
      refine hK.out _ _ (hHeld.below hb3) (fun hNew => ?_)
      clear hb3
      clear hHeld hK K
      have hHeld := hNew
      clear hNew
      try simp only [Act.put, List.append, PA, set16]
      try simp only [PB]
      refine wpAnyH_take (i := 21) (oi := _) (v := ?vl022) rfl (by kernel_rfl) (by kernel_rfl) (by kernel_rfl) (fun _ _ _ h => h) (Or.inl ⟨by kernel_rfl, ?hyl022⟩) hHeld ?restl022
      case hyl022 => (intro w hSw; go_simp; first | done | (with_reducible rfl))
      try simp only [Act.put, List.append, PA, set16]
      try simp only [PB]
      refine wpAnyH_take (i := 22) (oi := _) (v := ?vl023) rfl (by kernel_rfl) (by kernel_rfl) (by kernel_rfl) (fun _ _ _ h => h) (Or.inl ⟨by kernel_rfl, ?hyl023⟩) hHeld ?restl023
      case hyl023 => (intro w hSw; go_simp; first | done | (with_reducible rfl))
      try simp only [Act.put, List.append, PA, set16]
      try simp only [PB]
      refine wpAnyH_take (i := 23) (oi := _) (v := ?vl024) rfl (by kernel_rfl) (by kernel_rfl) (by kernel_rfl) (fun _ _ _ h => h) (Or.inl ⟨by kernel_rfl, ?hyl024⟩) hHeld ?restl024
      case hyl024 => (intro w hSw; go_simp; first | done | (with_reducible rfl))
      try simp only [Act.put, List.append, PA, set16]
      try simp only [PB]
      refine wpAnyH_take (i := 24) (oi := _) (v := ?vl025) rfl (by kernel_rfl) (by kernel_rfl) (by kernel_rfl) (fun _ _ _ h => h) (Or.inl ⟨by kernel_rfl, ?hyl025⟩) hHeld ?restl025
      case hyl025 => (intro w hSw; go_simp; first | done | (with_reducible rfl))
      try simp only [Act.put, List.append, PA, set16]
      try simp only [PB]
      refine wpAnyH_take (i := 25) (oi := _) (v := ?vl026) rfl (by kernel_rfl) (by kernel_rfl) (by kernel_rfl) (fun _ _ _ h => h) (Or.inl ⟨by kernel_rfl, ?hyl026⟩) hHeld ?restl026
      case hyl026 => (intro w hSw; have ks0 := hSw.cell (fun h => h) s0; have ks1 := hSw.cell (fun h => h) s1; have ks2 := hSw.cell (fun h => h) s2; have ks3 := hSw.cell (fun h => h) s3; have ks4 := hSw.cell (fun h => h) s4; have ks5 := hSw.cell (fun h => h) s5; have ks6 := hSw.cell (fun h => h) s6; have kn0 := hSw.cell (fun h => h) n0; have kn1 := hSw.cell (fun h => h) n1; have kn2 := hSw.cell (fun h => h) n2; have kn3 := hSw.cell (fun h => h) n3; have kn4 := hSw.cell (fun h => h) n4; have kn5 := hSw.cell (fun h => h) n5; have kn6 := hSw.cell (fun h => h) n6; go_simp; first | done | (with_reducible rfl))
      try simp only [Act.put, List.append, PA, set16]
      try simp only [PB]
      refine wpAnyH_take (i := 26) (oi := _) (v := ?vl027) rfl (by kernel_rfl) (by kernel_rfl) (by kernel_rfl) (fun _ _ _ h => h) (Or.inl ⟨by kernel_rfl, ?hyl027⟩) hHeld ?restl027
      case hyl027 => (intro w hSw; go_simp; first | done | (with_reducible rfl))
      try simp only [Act.put, List.append, PA, set16]
      try simp only [PB]
      refine wpAnyH_take (i := 27) (oi := _) (v := ?vl028) rfl (by kernel_rfl) (by kernel_rfl) (by kernel_rfl) (fun _ _ _ h => h) (Or.inl ⟨by kernel_rfl, ?hyl028⟩) hHeld ?restl028
      case hyl028 => (intro w hSw; go_simp; first | done | (with_reducible rfl))
      try simp only [Act.put, List.append, PA, set16]
      try simp only [PB]
      refine wpAnyH_take (i := 28) (oi := _) (v := ?vl029) rfl (by kernel_rfl) (by kernel_rfl) (by kernel_rfl) (fun _ _ _ h => h) (Or.inl ⟨by kernel_rfl, ?hyl029⟩) hHeld ?restl029
      case hyl029 => (intro w hSw; go_simp; first | done | (with_reducible rfl))
      try simp only [Act.put, List.append, PA, set16]
      try simp only [PB]
      refine wpAnyH_done (by kernel_rfl) ?_ _
      refine NoPanic.normal ?_
      skip
      have hb := (hHeld.toBelow (Below.refl _ _) (fun k hk => hk.elim) (Nat.le_refl _))
      clear hHeld s0 s1 s2 s3 s4 s5 s6 n0 n1 n2 n3 n4 n5 n6 SL hc1 hc2 hcap
      replace V1 := V1.keep hb
      replace BS := BS.keep hb
      replace BD := BD.keep hb
      replace hfr := hfr.keep hb
      replace hdv := hdv.call hb
      replace hfd := hfd.keep hb
      replace BN := BN.keep hb
      replace hbb := keepB hbb hb
      clear hb
      have hlt := BS.lt
      have hlt2 := BD.lt
      have s0 := BS.c 0 rfl
      have s1 := BS.c 1 rfl
      have s2 := BS.c 2 rfl
      have s3 := BS.c 3 rfl
      have s4 := BS.c 4 rfl
      have s5 := BS.c 5 rfl
      have s6 := BS.c 6 rfl
      have f0 := BS.f 0 rfl
      have f1 := BS.f 1 rfl
      have f2 := BS.f 2 rfl
      have f3 := BS.f 3 rfl
      have f4 := BS.f 4 rfl
      have f5 := BS.f 5 rfl
      have f6 := BS.f 6 rfl
      have n0 := BN.c 0 rfl
      have n1 := BN.c 1 rfl
      have n2 := BN.c 2 rfl
      have n3 := BN.c 3 rfl
      have n4 := BN.c 4 rfl
      have n5 := BN.c 5 rfl
      have n6 := BN.c 6 rfl
      go_wp2_with fail
      go_roundw
      case rel => exact ⟨1, A2, m2, ca2, some ⟨g, 0, none⟩, 1, cq2, l2, by omega, by go_num, ((((((BS.set 0 _).set 1 _).set 2 _).set 3 _).set 4 _).set 5 _).set 6 _, ⟨((((((((hfd.set (by omega) _).set (by omega) _).set (by omega) _).set (by omega) _).set (by omega) _).set (by omega) _).set (by omega) _)).isCs, HM2.out, HD2.out, ((((((((hfd.set (by omega) _).set (by omega) _).set (by omega) _).set (by omega) _).set (by omega) _).set (by omega) _).set (by omega) _)).isQs, rfl⟩, (((((((BD.far (by omega) _ _).far (by omega) _ _).far (by omega) _ _).far (by omega) _ _).far (by omega) _ _).far (by omega) _ _).far (by omega) _ _), (((((((hfr.set (by omega) _).set (by omega) _).set (by omega) _).set (by omega) _).set (by omega) _).set (by omega) _).set (by omega) _), (((((((hdv.set (by omega) _).set (by omega) _).set (by omega) _).set (by omega) _).set (by omega) _).set (by omega) _).set (by omega) _), (below_set (below_set (below_set (below_set (below_set (below_set (below_set hbb (by omega) _) (by omega) _) (by omega) _) (by omega) _) (by omega) _) (by omega) _) (by omega) _)⟩
      case measure => simp [intOf]
    ·
      have hn0 : n1 = 1 := V1.n
      subst hn0
      replace V1 : Vl D [q1] A1 m1 Q1 1 l1 _ := V1
      replace BS : BK _ ps [.slice A1 m1 ca1, .slice Q1 1 cq1, .int .i64 k, .int .i64 1, .int .i64 x, .int .i64 y, .bool false] := BS
      have s0 := BS.c 0 rfl
      have s1 := BS.c 1 rfl
      have s2 := BS.c 2 rfl
      have s3 := BS.c 3 rfl
      have s4 := BS.c 4 rfl
      have s5 := BS.c 5 rfl
      have s6 := BS.c 6 rfl
      go_wp2_with fail
      refine (C1.out A1 m1 ca1 Q1 1 cq1 l1 _ V1).mono ?_
      rintro e wa ⟨rfl, hb⟩
      clear s0 s1 s2 s3 s4 s5 s6
      replace V1 := V1.keep hb
      replace BS := BS.keep hb
      replace BD := BD.keep hb
      replace hfr := hfr.keep hb
      replace hdv := hdv.call hb
      replace hbb := keepB hbb hb
      clear hb
      have s0 := BS.c 0 rfl
      have s1 := BS.c 1 rfl
      have s2 := BS.c 2 rfl
      have s3 := BS.c 3 rfl
      have s4 := BS.c 4 rfl
      have s5 := BS.c 5 rfl
      have s6 := BS.c 6 rfl
      go_wp2_with fail
      refine (N1.out A1 m1 ca1 Q1 1 cq1 l1 _ V1).mono ?_
      unfold StR
      rintro e wb ⟨A2, m2, ca2, Q2, n2, cq2, l2, rfl, hb, hm2, hn2, hd2, hfd⟩
      clear s0 s1 s2 s3 s4 s5 s6
      have hpB : ps < wa.heap.size := BS.lt
      have hn3 : n2 = 2 := hn2
      clear hn2
      subst hn3
      obtain ⟨g, cap', hv, _, hglt⟩ := World.ownsRow.form hfd.log (by simp)
      simp only [Value.slice.injEq] at hv
      obtain ⟨rfl, _, rfl⟩ := hv
      have hcap : 2 ≤ cq2 := row_le hfd.log
      have HM2 := Lib.hid hm2
      have HD2 := Lib.hid hd2
      clear hm2 hd2
      replace V1 := V1.keep hb
      replace BS := BS.keep hb
      replace BD := BD.keep hb
      replace hfr := hfr.keep hb
      replace hdv := hdv.call hb
      replace hbb := keepB hbb hb
      clear hb
      go_upto_region 13 with fail
      refine at_worldQ (fun v => Below w.heap.size w v ∧ w.heap.size ≤ v.heap.size ∧ Vl D [q1] A1 m1 Q1 1 l1 v ∧ BK v ps [.slice A1 m1 ca1, .slice Q1 1 cq1, .int .i64 k, .int .i64 1, .int .i64 x, .int .i64 y, .bool false] ∧ BK v pd [.slice (some ⟨Pd, 0, none⟩) 2 2] ∧ FD v B4 Ar car lr Qr cqr [q1, q2] ∧ DivB B4 Pd gd kd a0 b0 c0 d0 a1 b1 c1 d1 v ∧ FD v wa.heap.size A2 ca2 l2 (some ⟨g, 0, none⟩) cq2 [q1, q2] ∧ BK v wb.heap.size [.slice A2 m2 ca2, .slice (some ⟨g, 0, none⟩) 2 cq2, .int .i64 k, .int .i64 2, .int .i64 x, .int .i64 y, .bool b]) ⟨(below_al hbb _), Below.size (B := w.heap.size) (w := w) (below_al hbb _), V1.keep (below_al (Below.refl _ _) _), BS.keep (below_al (Below.refl _ _) _), BD.keep (below_al (Below.refl _ _) _), hfr.keep (below_al (Below.refl _ _) _), hdv.call (below_al (Below.refl _ _) _), hfd.keep (below_al (Below.refl _ _) _), BK.new _ _ _⟩ (fun V13 hS => ?_)
      clear hbb V1 BS BD hfr hdv hfd 
      obtain ⟨hbb, hBV, V1, BS, BD, hfr, hdv, hfd, BN⟩ := hS
      generalize wb.heap.size = pn at *
      generalize wa.heap.size = B9 at *
      have sl := fun v (hv : Below V13.heap.size V13 v) => rSameLogs_any (some ⟨g, 0, none⟩) Q1 cq2 cq1 [q1] [q1] v (IsQs.pre (qs := [q1]) (q := q2) (hfd.isQs.keep hv)) (V1.q.keep hv)
      rw [decide_eq_true rfl] at sl
      have SL := Lib.hid sl
      clear sl
      have hc1 : (1 : Int) ≤ (cq2 : Int) := by omega
      have hc2 : 1 ≤ cq2 := by omega
      have s0 := BS.c 0 rfl
      have s1 := BS.c 1 rfl
      have s2 := BS.c 2 rfl
      have s3 := BS.c 3 rfl
      have s4 := BS.c 4 rfl
      have s5 := BS.c 5 rfl
      have s6 := BS.c 6 rfl
      have n0 := BN.c 0 rfl
      have n1 := BN.c 1 rfl
      have n2 := BN.c 2 rfl
      have n3 := BN.c 3 rfl
      have n4 := BN.c 4 rfl
      have n5 := BN.c 5 rfl
      have n6 := BN.c 6 rfl
      refine wp_region_noPanic ?_
      refine wp_region_held_drew (S := (GB (fun _ => False) V13)) (by kernel_rfl) ((GB.refl _ _).drew) (fun hHeld => ?_)
      refine at_anyH (fun v => GB (fun _ => False) V13 v) hHeld (fun wl10 hNew => ?_)
      clear hHeld
      have hHeld := hNew
      clear hNew
      refine wpAnyH_take (i := 0) (oi := _) (v := ?vl11) rfl (by kernel_rfl) (by kernel_rfl) (by kernel_rfl) (fun _ _ _ h => h) (Or.inl ⟨by kernel_rfl, ?hyl11⟩) hHeld ?restl11
      case hyl11 => (intro w hSw; go_simp; first | done | (with_reducible rfl))
      try simp only [Act.put, List.append, PA, set16]
      try simp only [PB]
      refine wpAnyH_take (i := 1) (oi := _) (v := ?vl12) rfl (by kernel_rfl) (by kernel_rfl) (by kernel_rfl) (fun _ _ _ h => h) (Or.inl ⟨by kernel_rfl, ?hyl12⟩) hHeld ?restl12
      case hyl12 => (intro w hSw; go_simp; first | done | (with_reducible rfl))
      try simp only [Act.put, List.append, PA, set16]
      try simp only [PB]
      refine wpAnyH_take (i := 2) (oi := _) (v := ?vl13) rfl (by kernel_rfl) (by kernel_rfl) (by kernel_rfl) (fun _ _ _ h => h) (Or.inl ⟨by kernel_rfl, ?hyl13⟩) hHeld ?restl13
      case hyl13 => (intro w hSw; go_simp; first | done | (with_reducible rfl))
      try simp only [Act.put, List.append, PA, set16]
      try simp only [PB]
      refine wpAnyH_take (i := 3) (oi := _) (v := ?vl14) rfl (by kernel_rfl) (by kernel_rfl) (by kernel_rfl) (fun _ _ _ h => h) (Or.inl ⟨by kernel_rfl, ?hyl14⟩) hHeld ?restl14
      case hyl14 => (intro w hSw; go_simp; first | done | (with_reducible rfl))
      try simp only [Act.put, List.append, PA, set16]
      try simp only [PB]
      refine wpAnyH_take (i := 4) (oi := _) (v := ?vl15) rfl (by kernel_rfl) (by kernel_rfl) (by kernel_rfl) (fun _ _ _ h => h) (Or.inl ⟨by kernel_rfl, ?hyl15⟩) hHeld ?restl15
      case hyl15 => (intro w hSw; go_simp; first | done | (with_reducible rfl))
      try simp only [Act.put, List.append, PA, set16]
      try simp only [PB]
      refine wpAnyH_take (i := 5) (oi := _) (v := ?vl16) rfl (by kernel_rfl) (by kernel_rfl) (by kernel_rfl) (fun _ _ _ h => h) (Or.inl ⟨by kernel_rfl, ?hyl16⟩) hHeld ?restl16
      case hyl16 => (intro w hSw; have ks0 := hSw.cell (fun h => h) s0; have ks1 := hSw.cell (fun h => h) s1; have ks2 := hSw.cell (fun h => h) s2; have ks3 := hSw.cell (fun h => h) s3; have ks4 := hSw.cell (fun h => h) s4; have ks5 := hSw.cell (fun h => h) s5; have ks6 := hSw.cell (fun h => h) s6; have kn0 := hSw.cell (fun h => h) n0; have kn1 := hSw.cell (fun h => h) n1; have kn2 := hSw.cell (fun h => h) n2; have kn3 := hSw.cell (fun h => h) n3; have kn4 := hSw.cell (fun h => h) n4; have kn5 := hSw.cell (fun h => h) n5; have kn6 := hSw.cell (fun h => h) n6; go_simp; first | done | (with_reducible rfl))
      try simp only [Act.put, List.append, PA, set16]
      try simp only [PB]
      refine wpAnyH_take (i := 6) (oi := _) (v := ?vl17) rfl (by kernel_rfl) (by kernel_rfl) (by kernel_rfl) (fun _ _ _ h => h) (Or.inl ⟨by kernel_rfl, ?hyl17⟩) hHeld ?restl17
      case hyl17 => (intro w hSw; go_simp; first | done | (with_reducible rfl))
      try simp only [Act.put, List.append, PA, set16]
      try simp only [PB]
      refine wpAnyH_take (i := 7) (oi := _) (v := ?vl18) rfl (by kernel_rfl) (by kernel_rfl) (by kernel_rfl) (fun _ _ _ h => h) (Or.inl ⟨by kernel_rfl, ?hyl18⟩) hHeld ?restl18
      case hyl18 => (intro w hSw; go_simp; first | done | (with_reducible rfl))
      try simp only [Act.put, List.append, PA, set16]
      try simp only [PB]
      refine wpAnyH_take (i := 8) (oi := _) (v := ?vl19) rfl (by kernel_rfl) (by kernel_rfl) (by kernel_rfl) (fun _ _ _ h => h) (Or.inl ⟨by kernel_rfl, ?hyl19⟩) hHeld ?restl19
      case hyl19 => (intro w hSw; go_simp; first | done | (with_reducible rfl))
      try simp only [Act.put, List.append, PA, set16]
      try simp only [PB]
      refine wpAnyH_take (i := 9) (oi := _) (v := ?vl110) rfl (by kernel_rfl) (by kernel_rfl) (by kernel_rfl) (fun _ _ _ h => h) (Or.inl ⟨by kernel_rfl, ?hyl110⟩) hHeld ?restl110
      case hyl110 => (intro w hSw; go_simp; first | done | (with_reducible rfl))
      try simp only [Act.put, List.append, PA, set16]
      try simp only [PB]
      refine wpAnyH_take (i := 10) (oi := _) (v := ?vl111) rfl (by kernel_rfl) (by kernel_rfl) (by kernel_rfl) (fun _ _ _ h => h) (Or.inl ⟨by kernel_rfl, ?hyl111⟩) hHeld ?restl111
      case hyl111 => (intro w hSw; go_simp; first | done | (with_reducible rfl))
      try simp only [Act.put, List.append, PA, set16]
      try simp only [PB]
      refine wpAnyH_take (i := 11) (oi := _) (v := ?vl112) rfl (by kernel_rfl) (by kernel_rfl) (by kernel_rfl) (fun _ _ _ h => h) (Or.inl ⟨by kernel_rfl, ?hyl112⟩) hHeld ?restl112
      case hyl112 => (intro w hSw; go_simp; first | done | (with_reducible rfl))
      try simp only [Act.put, List.append, PA, set16]
      try simp only [PB]
      refine wpAnyH_take (i := 12) (oi := _) (v := ?vl113) rfl (by kernel_rfl) (by kernel_rfl) (by kernel_rfl) (fun _ _ _ h => h) (Or.inl ⟨by kernel_rfl, ?hyl113⟩) hHeld ?restl113
      case hyl113 => (intro w hSw; go_simp; first | done | (with_reducible rfl))
      try simp only [Act.put, List.append, PA, set16]
      try simp only [PB]
      refine wpAnyH_take (i := 13) (oi := _) (v := ?vl114) rfl (by kernel_rfl) (by kernel_rfl) (by kernel_rfl) (fun _ _ _ h => h) (Or.inl ⟨by kernel_rfl, ?hyl114⟩) hHeld ?restl114
      case hyl114 => (intro w hSw; go_simp; first | done | (with_reducible rfl))
      try simp only [Act.put, List.append, PA, set16]
      try simp only [PB]
      refine wpAnyH_take (i := 14) (oi := _) (v := ?vl115) rfl (by kernel_rfl) (by kernel_rfl) (by kernel_rfl) (fun _ _ _ h => h) (Or.inl ⟨by kernel_rfl, ?hyl115⟩) hHeld ?restl115
      case hyl115 => (intro w hSw; have ks0 := hSw.cell (fun h => h) s0; have ks1 := hSw.cell (fun h => h) s1; have ks2 := hSw.cell (fun h => h) s2; have ks3 := hSw.cell (fun h => h) s3; have ks4 := hSw.cell (fun h => h) s4; have ks5 := hSw.cell (fun h => h) s5; have ks6 := hSw.cell (fun h => h) s6; have kn0 := hSw.cell (fun h => h) n0; have kn1 := hSw.cell (fun h => h) n1; have kn2 := hSw.cell (fun h => h) n2; have kn3 := hSw.cell (fun h => h) n3; have kn4 := hSw.cell (fun h => h) n4; have kn5 := hSw.cell (fun h => h) n5; have kn6 := hSw.cell (fun h => h) n6; go_simp; first | done | (with_reducible rfl))
      try simp only [Act.put, List.append, PA, set16]
      try simp only [PB]
      refine wpAnyH_take (i := 15) (oi := _) (v := ?vl116) rfl (by kernel_rfl) (by kernel_rfl) (by kernel_rfl) (fun _ _ _ h => h) (Or.inl ⟨by kernel_rfl, ?hyl116⟩) hHeld ?restl116
      case hyl116 => (intro w hSw; go_simp; first | done | (with_reducible rfl))
      try simp only [Act.put, List.append, PA, set16]
      try simp only [PB]
      refine wpAnyH_take (i := 16) (oi := _) (v := ?vl117) rfl (by kernel_rfl) (by kernel_rfl) (by kernel_rfl) (fun _ _ _ h => h) (Or.inl ⟨by kernel_rfl, ?hyl117⟩) hHeld ?restl117
      case hyl117 => (intro w hSw; go_simp; first | done | (with_reducible rfl))
      try simp only [Act.put, List.append, PA, set16]
      try simp only [PB]
      refine wpAnyH_take (i := 17) (oi := _) (v := ?vl118) rfl (by kernel_rfl) (by kernel_rfl) (by kernel_rfl) (fun _ _ _ h => h) (Or.inl ⟨by kernel_rfl, ?hyl118⟩) hHeld ?restl118
      case hyl118 => (intro w hSw; go_simp; first | done | (with_reducible rfl))
      try simp only [Act.put, List.append, PA, set16]
      try simp only [PB]
      refine wpAnyH_take (i := 18) (oi := _) (v := ?vl119) rfl (by kernel_rfl) (by kernel_rfl) (by kernel_rfl) (fun _ _ _ h => h) (Or.inl ⟨by kernel_rfl, ?hyl119⟩) hHeld ?restl119
      case hyl119 => (intro w hSw; go_simp; first | done | (with_reducible rfl))
      try simp only [Act.put, List.append, PA, set16]
      try simp only [PB]
      refine wpAnyH_take (i := 19) (oi := _) (v := ?vl120) rfl (by kernel_rfl) (by kernel_rfl) (by kernel_rfl) (fun _ _ _ h => h) (Or.inl ⟨by kernel_rfl, ?hyl120⟩) hHeld ?restl120
      case hyl120 => (intro w hSw; have ks0 := hSw.cell (fun h => h) s0; have ks1 := hSw.cell (fun h => h) s1; have ks2 := hSw.cell (fun h => h) s2; have ks3 := hSw.cell (fun h => h) s3; have ks4 := hSw.cell (fun h => h) s4; have ks5 := hSw.cell (fun h => h) s5; have ks6 := hSw.cell (fun h => h) s6; have kn0 := hSw.cell (fun h => h) n0; have kn1 := hSw.cell (fun h => h) n1; have kn2 := hSw.cell (fun h => h) n2; have kn3 := hSw.cell (fun h => h) n3; have kn4 := hSw.cell (fun h => h) n4; have kn5 := hSw.cell (fun h => h) n5; have kn6 := hSw.cell (fun h => h) n6; go_simp; first | done | (with_reducible rfl))
      try simp only [Act.put, List.append, PA, set16]
      try simp only [PB]
      refine wpAnyH_ready (rs := [20]) (by kernel_rfl) (by simp) (AllReadyH.cons (o := _) rfl (fun K hK => ?_) AllReadyH.nil)
      go_simp
      refine (SL.out _ (hHeld.toBelow (Below.refl _ _) (fun k hk => hk.elim) (Nat.le_refl _))).mono ?_
      rintro e wl121 ⟨rfl, hb3⟩
      go_wp2_with fail
      refine hK.out _ _ (hHeld.below hb3) (fun hNew => ?_)
      clear hb3
      clear hHeld hK K
      have hHeld := hNew
      clear hNew
      try simp only [Act.put, List.append, PA, set16]
      try simp only [PB]
      refine wpAnyH_take (i := 21) (oi := _) (v := ?vl122) rfl (by kernel_rfl) (by kernel_rfl) (by kernel_rfl) (fun _ _ _ h => h) (Or.inl ⟨by kernel_rfl, ?hyl122⟩) hHeld ?restl122
      case hyl122 => (intro w hSw; go_simp; first | done | (with_reducible rfl))
      try simp only [Act.put, List.append, PA, set16]
      try simp only [PB]
      refine wpAnyH_take (i := 22) (oi := _) (v := ?vl123) rfl (by kernel_rfl) (by kernel_rfl) (by kernel_rfl) (fun _ _ _ h => h) (Or.inl ⟨by kernel_rfl, ?hyl123⟩) hHeld ?restl123
      case hyl123 => (intro w hSw; go_simp; first | done | (with_reducible rfl))
      try simp only [Act.put, List.append, PA, set16]
      try simp only [PB]
      refine wpAnyH_take (i := 23) (oi := _) (v := ?vl124) rfl (by kernel_rfl) (by kernel_rfl) (by kernel_rfl) (fun _ _ _ h => h) (Or.inl ⟨by kernel_rfl, ?hyl124⟩) hHeld ?restl124
      case hyl124 => (intro w hSw; go_simp; first | done | (with_reducible rfl))
      try simp only [Act.put, List.append, PA, set16]
      try simp only [PB]
      refine wpAnyH_take (i := 24) (oi := _) (v := ?vl125) rfl (by kernel_rfl) (by kernel_rfl) (by kernel_rfl) (fun _ _ _ h => h) (Or.inl ⟨by kernel_rfl, ?hyl125⟩) hHeld ?restl125
      case hyl125 => (intro w hSw; go_simp; first | done | (with_reducible rfl))
      try simp only [Act.put, List.append, PA, set16]
      try simp only [PB]
      refine wpAnyH_take (i := 25) (oi := _) (v := ?vl126) rfl (by kernel_rfl) (by kernel_rfl) (by kernel_rfl) (fun _ _ _ h => h) (Or.inl ⟨by kernel_rfl, ?hyl126⟩) hHeld ?restl126
      case hyl126 => (intro w hSw; have ks0 := hSw.cell (fun h => h) s0; have ks1 := hSw.cell (fun h => h) s1; have ks2 := hSw.cell (fun h => h) s2; have ks3 := hSw.cell (fun h => h) s3; have ks4 := hSw.cell (fun h => h) s4; have ks5 := hSw.cell (fun h => h) s5; have ks6 := hSw.cell (fun h => h) s6; have kn0 := hSw.cell (fun h => h) n0; have kn1 := hSw.cell (fun h => h) n1; have kn2 := hSw.cell (fun h => h) n2; have kn3 := hSw.cell (fun h => h) n3; have kn4 := hSw.cell (fun h => h) n4; have kn5 := hSw.cell (fun h => h) n5; have kn6 := hSw.cell (fun h => h) n6; go_simp; first | done | (with_reducible rfl))
      try simp only [Act.put, List.append, PA, set16]
      try simp only [PB]
      refine wpAnyH_take (i := 26) (oi := _) (v := ?vl127) rfl (by kernel_rfl) (by kernel_rfl) (by kernel_rfl) (fun _ _ _ h => h) (Or.inl ⟨by kernel_rfl, ?hyl127⟩) hHeld ?restl127
      case hyl127 => (intro w hSw; go_simp; first | done | (with_reducible rfl))
      try simp only [Act.put, List.append, PA, set16]
      try simp only [PB]
      refine wpAnyH_take (i := 27) (oi := _) (v := ?vl128) rfl (by kernel_rfl) (by kernel_rfl) (by kernel_rfl) (fun _ _ _ h => h) (Or.inl ⟨by kernel_rfl, ?hyl128⟩) hHeld ?restl128
      case hyl128 => (intro w hSw; go_simp; first | done | (with_reducible rfl))
      try simp only [Act.put, List.append, PA, set16]
      try simp only [PB]
      refine wpAnyH_take (i := 28) (oi := _) (v := ?vl129) rfl (by kernel_rfl) (by kernel_rfl) (by kernel_rfl) (fun _ _ _ h => h) (Or.inl ⟨by kernel_rfl, ?hyl129⟩) hHeld ?restl129
      case hyl129 => (intro w hSw; go_simp; first | done | (with_reducible rfl))
      try simp only [Act.put, List.append, PA, set16]
      try simp only [PB]
      refine wpAnyH_done (by kernel_rfl) ?_ _
      refine NoPanic.normal ?_
      skip
      have hb := (hHeld.toBelow (Below.refl _ _) (fun k hk => hk.elim) (Nat.le_refl _))
      clear hHeld s0 s1 s2 s3 s4 s5 s6 n0 n1 n2 n3 n4 n5 n6 SL hc1 hc2 hcap
      replace V1 := V1.keep hb
      replace BS := BS.keep hb
      replace BD := BD.keep hb
      replace hfr := hfr.keep hb
      replace hdv := hdv.call hb
      replace hfd := hfd.keep hb
      replace BN := BN.keep hb
      replace hbb := keepB hbb hb
      clear hb
      have hlt := BS.lt
      have hlt2 := BD.lt
      have s0 := BS.c 0 rfl
      have s1 := BS.c 1 rfl
      have s2 := BS.c 2 rfl
      have s3 := BS.c 3 rfl
      have s4 := BS.c 4 rfl
      have s5 := BS.c 5 rfl
      have s6 := BS.c 6 rfl
      have f0 := BS.f 0 rfl
      have f1 := BS.f 1 rfl
      have f2 := BS.f 2 rfl
      have f3 := BS.f 3 rfl
      have f4 := BS.f 4 rfl
      have f5 := BS.f 5 rfl
      have f6 := BS.f 6 rfl
      have n0 := BN.c 0 rfl
      have n1 := BN.c 1 rfl
      have n2 := BN.c 2 rfl
      have n3 := BN.c 3 rfl
      have n4 := BN.c 4 rfl
      have n5 := BN.c 5 rfl
      have n6 := BN.c 6 rfl
      go_wp2_with fail
      go_roundw
      case rel => exact ⟨2, A2, m2, ca2, some ⟨g, 0, none⟩, 2, cq2, l2, by omega, by go_num, ((((((BS.set 0 _).set 1 _).set 2 _).set 3 _).set 4 _).set 5 _).set 6 _, ⟨((((((((hfd.set (by omega) _).set (by omega) _).set (by omega) _).set (by omega) _).set (by omega) _).set (by omega) _).set (by omega) _)).isCs, HM2.out, HD2.out, ((((((((hfd.set (by omega) _).set (by omega) _).set (by omega) _).set (by omega) _).set (by omega) _).set (by omega) _).set (by omega) _)).isQs, rfl⟩, (((((((BD.far (by omega) _ _).far (by omega) _ _).far (by omega) _ _).far (by omega) _ _).far (by omega) _ _).far (by omega) _ _).far (by omega) _ _), (((((((hfr.set (by omega) _).set (by omega) _).set (by omega) _).set (by omega) _).set (by omega) _).set (by omega) _).set (by omega) _), (((((((hdv.set (by omega) _).set (by omega) _).set (by omega) _).set (by omega) _).set (by omega) _).set (by omega) _).set (by omega) _), (below_set (below_set (below_set (below_set (below_set (below_set (below_set hbb (by omega) _) (by omega) _) (by omega) _) (by omega) _) (by omega) _) (by omega) _) (by omega) _)⟩
      case measure => simp [intOf]
    ·
      have hn0 : n1 = 2 := V1.n
      subst hn0
      replace V1 : Vl D [q1, q2] A1 m1 Q1 2 l1 _ := V1
      replace BS : BK _ ps [.slice A1 m1 ca1, .slice Q1 2 cq1, .int .i64 k, .int .i64 2, .int .i64 x, .int .i64 y, .bool b] := BS
      have s0 := BS.c 0 rfl
      have s1 := BS.c 1 rfl
      have s2 := BS.c 2 rfl
      have s3 := BS.c 3 rfl
      have s4 := BS.c 4 rfl
      have s5 := BS.c 5 rfl
      have s6 := BS.c 6 rfl
      go_wp2_with fail
      refine (DN.out A1 m1 ca1 Q1 2 cq1 l1 _ V1).mono ?_
      rintro e wa ⟨Pe, ge, ke, rfl, hb, hde⟩
      clear s0 s1 s2 s3 s4 s5 s6
      replace V1 := V1.keep hb
      replace BS := BS.keep hb
      replace BD := BD.keep hb
      replace hfr := hfr.keep hb
      replace hdv := hdv.call hb
      replace hbb := keepB hbb hb
      clear hb
      go_upto_region 17 with fail
      refine at_worldQ (fun v => Below w.heap.size w v ∧ w.heap.size ≤ v.heap.size ∧ Vl D [q1, q2] A1 m1 Q1 2 l1 v ∧ BK v ps [.slice A1 m1 ca1, .slice Q1 2 cq1, .int .i64 k, .int .i64 2, .int .i64 x, .int .i64 y, .bool b] ∧ BK v pd [.slice (some ⟨Pd, 0, none⟩) 2 2] ∧ FD v B4 Ar car lr Qr cqr [q1, q2] ∧ DivB B4 Pd gd kd a0 b0 c0 d0 a1 b1 c1 d1 v ∧ DivB 0 Pe ge ke a0 b0 c0 d0 a1 b1 c1 d1 v ∧ BK v wa.heap.size [.slice (some ⟨Pe, 0, none⟩) 2 2]) ⟨(below_al hbb _), Below.size (B := w.heap.size) (w := w) (below_al hbb _), V1.keep (below_al (Below.refl _ _) _), BS.keep (below_al (Below.refl _ _) _), BD.keep (below_al (Below.refl _ _) _), hfr.keep (below_al (Below.refl _ _) _), hdv.call (below_al (Below.refl _ _) _), hde.call (below_al (Below.refl _ _) _), BK.new _ _ _⟩ (fun V17 hS => ?_)
      clear hbb V1 BS BD hfr hdv hde 
      obtain ⟨hbb, hBV, V1, BS, BD, hfr, hdv, hde, BE⟩ := hS
      generalize wa.heap.size = pe at *
      have s0 := BS.c 0 rfl
      have s1 := BS.c 1 rfl
      have s2 := BS.c 2 rfl
      have s3 := BS.c 3 rfl
      have s4 := BS.c 4 rfl
      have s5 := BS.c 5 rfl
      have s6 := BS.c 6 rfl
      go_wp2_with fail
      refine (N2.out A1 m1 ca1 Q1 2 cq1 l1 _ V1).mono ?_
      rintro e wb ⟨rfl, hb⟩
      clear s0 s1 s2 s3 s4 s5 s6
      replace V1 := V1.keep hb
      replace BS := BS.keep hb
      replace BD := BD.keep hb
      replace hfr := hfr.keep hb
      replace hdv := hdv.call hb
      replace hde := hde.call hb
      replace BE := BE.keep hb
      replace hbb := keepB hbb hb
      clear hb
      go_upto_region 18 with fail
      refine at_worldQ (fun v => Below w.heap.size w v ∧ w.heap.size ≤ v.heap.size ∧ Vl D [q1, q2] A1 m1 Q1 2 l1 v ∧ BK v ps [.slice A1 m1 ca1, .slice Q1 2 cq1, .int .i64 k, .int .i64 2, .int .i64 x, .int .i64 y, .bool b] ∧ BK v pd [.slice (some ⟨Pd, 0, none⟩) 2 2] ∧ FD v B4 Ar car lr Qr cqr [q1, q2] ∧ DivB B4 Pd gd kd a0 b0 c0 d0 a1 b1 c1 d1 v ∧ DivB 0 Pe ge ke a0 b0 c0 d0 a1 b1 c1 d1 v ∧ BK v pe [.slice (some ⟨Pe, 0, none⟩) 2 2]) ⟨(below_al hbb _), Below.size (B := w.heap.size) (w := w) (below_al hbb _), V1.keep (below_al (Below.refl _ _) _), BS.keep (below_al (Below.refl _ _) _), BD.keep (below_al (Below.refl _ _) _), hfr.keep (below_al (Below.refl _ _) _), hdv.call (below_al (Below.refl _ _) _), hde.call (below_al (Below.refl _ _) _), BE.keep (below_al (Below.refl _ _) _)⟩ (fun V18 hS => ?_)
      clear hbb V1 BS BD hfr hdv hde BE hBV
      obtain ⟨hbb, hBV, V1, BS, BD, hfr, hdv, hde, BE⟩ := hS
      have s0 := BS.c 0 rfl
      have s1 := BS.c 1 rfl
      have s2 := BS.c 2 rfl
      have s3 := BS.c 3 rfl
      have s4 := BS.c 4 rfl
      have s5 := BS.c 5 rfl
      have s6 := BS.c 6 rfl
      go_wp2_with fail
      refine (C2.out A1 m1 ca1 Q1 2 cq1 l1 _ V1).mono ?_
      rintro e wc ⟨rfl, hb⟩
      clear s0 s1 s2 s3 s4 s5 s6
      replace V1 := V1.keep hb
      replace BS := BS.keep hb
      replace BD := BD.keep hb
      replace hfr := hfr.keep hb
      replace hdv := hdv.call hb
      replace hde := hde.call hb
      replace BE := BE.keep hb
      replace hbb := keepB hbb hb
      clear hb
      have ze0 := BE.c 0 rfl
      have ze1 := BD.c 0 rfl
      have s0 := BS.c 0 rfl
      have s1 := BS.c 1 rfl
      have s2 := BS.c 2 rfl
      have s3 := BS.c 3 rfl
      have s4 := BS.c 4 rfl
      have s5 := BS.c 5 rfl
      have s6 := BS.c 6 rfl
      go_wp2_with fail
      refine (sameDiv_eq Pe Pd 0 B4 ge ke gd kd a0 b0 c0 d0 a1 b1 c1 d1 _ hde hdv).mono ?_
      rintro e wd ⟨rfl, hb⟩
      clear s0 s1 s2 s3 s4 s5 s6 ze0 ze1
      replace V1 := V1.keep hb
      replace BS := BS.keep hb
      replace BD := BD.keep hb
      replace hfr := hfr.keep hb
      replace hdv := hdv.call hb
      replace hde := hde.call hb
      replace BE := BE.keep hb
      replace hbb := keepB hbb hb
      clear hb
      have sl := rSameLogs_any Q1 Qr cq1 cqr [q1, q2] [q1, q2] _ V1.q hfr.isQs
      rw [decide_eq_true rfl] at sl
      have SL := Lib.hid sl
      clear sl
      have s0 := BS.c 0 rfl
      have s1 := BS.c 1 rfl
      have s2 := BS.c 2 rfl
      have s3 := BS.c 3 rfl
      have s4 := BS.c 4 rfl
      have s5 := BS.c 5 rfl
      have s6 := BS.c 6 rfl
      go_wp2_with fail
      refine SL.out.mono ?_
      rintro e wf ⟨rfl, hb⟩
      clear s0 s1 s2 s3 s4 s5 s6 SL
      replace V1 := V1.keep hb
      replace BS := BS.keep hb
      replace BD := BD.keep hb
      replace hfr := hfr.keep hb
      replace hdv := hdv.call hb
      replace hde := hde.call hb
      replace BE := BE.keep hb
      replace hbb := keepB hbb hb
      clear hb
      go_wp2_with fail
      refine (alive7_any _).mono ?_
      rintro e wg ⟨rfl, hb⟩
      replace hbb := keepB hbb hb
      go_wp2_with fail
      go_ret
      exact ⟨rfl, hbb⟩
set_option linter.unusedSimpArgs false in
set_option maxHeartbeats 8000000 in
set_option maxRecDepth 100000 in
theorem line_walk (A : Option Addr) (ca : Nat) (cs : List CkR) (K : Int) (w : World) (h : IsCs w A cs) (k0 : -9223372036854775808 ≤ K) (k1 : K ≤ 9223372036854775807) :
    Calls Try.prog 7 #[.slice A cs.length ca, .int .i64 K] w fun e w' => e = .returned (.bool true) ∧ Below w.heap.size w w' := by
  by_cases hf : Ch.fitP (cs.map Ak.dat) K = true
  · obtain ⟨hc, hl, hk⟩ := Ch.fit_of hf
    obtain ⟨c, d, hcd⟩ : ∃ c d, cs.map Ak.dat = [c, d] := by
      match cs.map Ak.dat, hl with
      | [a, b], _ => exact ⟨a, b, rfl⟩
    have g := Ak.chkS_good hc
    rw [hcd] at g hc hl hf
    have g0 := g.all c (by simp)
    have g1 := g.all d (by simp)
    have gl : d.1 = c.1 := g.same d (by simp)
    rcases hk with rfl | rfl
    · obtain ⟨h1, h2, g1', g2', x, y, v1, v2, z, e1, e2, e3, e4, e5, b1, b2, b3, b4, b5, b6, b7, b8⟩ := Ch.rn_of g0 g1 gl
      exact line_fit A ca cs [c, d] 0 1 h1 h2 g1' g2' x y v1 v2 z w h hcd ⟨.inl ⟨rfl, rfl⟩, e1, e2, e3, e4, e5, b1, b2, b3, b4, b5, b6, b7, b8⟩ hc hl hf
    · obtain ⟨h1, h2, g1', g2', x, y, v1, v2, z, e1, e2, e3, e4, e5, b1, b2, b3, b4, b5, b6, b7, b8⟩ := Ch.rn_of g1 g0 gl.symm
      exact line_fit A ca cs [c, d] 1 0 h1 h2 g1' g2' x y v1 v2 z w h hcd ⟨.inr ⟨rfl, rfl⟩, e1, e2, e3, e4, e5, b1, b2, b3, b4, b5, b6, b7, b8⟩ hc hl hf
  · have ft := fit_any A ca cs K w h
    rw [Bool.not_eq_true] at hf
    rw [hf] at ft
    have FT := Lib.hid ft
    clear ft hf h
    go_enter Try.func7, Try.ntmps7
    go_wp2_with fail
    refine FT.out.mono ?_
    rintro e w1 ⟨rfl, hb⟩
    go_wp2_with fail
    refine (alive7_any _).mono ?_
    rintro e w2 ⟨rfl, hb2⟩
    go_wp2_with fail
    go_ret
    exact ⟨rfl, keepB hb hb2⟩
end Go.Proofs.Ytaaamcleilpnhaa

/- The reference's Twin: a cake that is copied. -/
import Derived.Test.YtaaamcleilpnhaaIntv
import Derived.Test.YtaaamcleilpnhaaPub
import Derived.Deep.RegionLawGrows
import Derived.Deep.RegionHeld3
namespace Go.Proofs.Ytaaamcleilpnhaa
open Go.RowKit
/-- A slice of ints in a block from B on (an empty one: anywhere). -/
def IsF (w : World) (B : Nat) (A : Option Addr) (zs : List Int) : Prop :=
  (0 < zs.length → ∃ b off, A = some ⟨b, off, none⟩ ∧ B ≤ b ∧ ∀ i, i < zs.length → w.cell? ⟨b, off + i, none⟩ = some (.int .i64 (Ck.at_ zs i))) ∧ ∀ z ∈ zs, I64 z
theorem IsF.isI {w : World} {B : Nat} {A : Option Addr} {zs : List Int} (h : IsF w B A zs) : IsI w A zs :=
  ⟨fun h0 => by
    obtain ⟨b, off, e, _, hc⟩ := h.1 h0
    exact ⟨b, off, e, hc⟩, h.2⟩
theorem IsF.keep {w v : World} {B : Nat} {A : Option Addr} {zs : List Int} (h : IsF w B A zs) (hb : Below w.heap.size w v) : IsF v B A zs :=
  ⟨fun h0 => by
    obtain ⟨b, off, e, hB, hc⟩ := h.1 h0
    exact ⟨b, off, e, hB, fun i hi => keepC hb (hc i hi)⟩, h.2⟩
theorem IsF.set {w : World} {B : Nat} {A : Option Addr} {zs : List Int} (h : IsF w B A zs) {c o : Nat} (hc : c < B) (u : Value) : IsF (w.setCell ⟨c, o, none⟩ u) B A zs :=
  ⟨fun h0 => by
    obtain ⟨b, off, e, hB, hcl⟩ := h.1 h0
    exact ⟨b, off, e, hB, fun i hi => cell_far (hcl i hi) (by omega) u⟩, h.2⟩
theorem res_far2 {v : World} {p q r : Addr} {a b c x : Value} (h1 : q ≠ p) (h2 : r ≠ p) (h : (((v.setCell p a).setCell q b).setCell r c).cell? p = some x) : (((v.setCell p a).setCell q b).setCell r c).cell? p = some a := by
  rw [World.cell?_setCell_other _ _ _ _ h2] at h ⊢
  exact res_far h1 h
theorem step_twin {ops : Array Oper} {o : Oper} {a : Act} {w : World} {K : Act → World → Prop} {Q : Exit → Act → World → Prop} {E : Prop} {B : Nat}
    (hg : o.guard = none) (s x : Operand) (hop : o.op = Op.call { callee := Callee.builtin Builtin.append, args := #[s, x], argTypes := #[31, 31] })
    (A : Option Addr) (n c : Nat) (xs : List Int) (hs : ∃ h, a.eval s = .slice (some ⟨h, 0, none⟩) 0 0) (hx : a.eval x = .slice A n c) (hn : xs.length = n) (hI : IsI w A xs) (hb : n ≤ 60) (hB : B ≤ w.heap.size)
    (hK : ∀ A' c' w', IsF w' B A' xs → Below w.heap.size w w' → K (a.put o.dst (.slice A' n c')) w') :
    if Region.wanted o (yielded ops a.tmps) = true then Oper.wp Try.prog o a w K Q else E := by
  have hw : Region.wanted o (yielded ops a.tmps) = true := by simp [Region.wanted, hg]
  rw [if_pos hw]
  obtain ⟨i0, hi0, hz0, hz1, hz2⟩ := info_parts intInfo
  obtain ⟨h, hs⟩ := hs
  subst hn
  rcases Nat.eq_zero_or_pos xs.length with h0 | h0
  · have hxs : xs = [] := List.eq_nil_of_length_eq_zero h0
    subst hxs
    have hrun : (Builtin.append_ #[31, 31] o.type #[.slice (some ⟨h, 0, none⟩) 0 0, .slice A 0 c]).run Try.prog w = .ok (.slice (some ⟨h, 0, none⟩) 0 0) w := by
      cases A <;> simp [Builtin.append_, run_underlying Try.underlying31, sizeOf, typeInfo, hi0, Builtin.lenOf, Builtin.firstCells, loadCells, loadCellsFrom, storeCells]
    unfold Oper.wp
    simp only [List.length_nil] at hx hK
    simp [execOp, hop, resolve, invoke, builtin, hs, hx, hrun, Result.andThen]
    exact hK _ _ _ ⟨fun g => absurd g (by simp), by simp⟩ (Below.refl _ _)
  · obtain ⟨b, off, rfl, hc⟩ := hI.1 h0
    obtain ⟨v', w', hrun, r1, r2⟩ := run_append_arg_grows (P := Try.prog) w 31 o.type 3 i0 _ 1 8 Try.underlying31 hi0 hz0 hz1 hz2 rfl (by omega) ⟨h, 0, none⟩ 0 0 [] rfl (fun j u hj => by simp at hj) ⟨b, off, none⟩ xs.length c (xs.map (Value.int .i64)) (by simp) (fun j u hj => by
      rw [List.getElem?_map, Option.map_eq_some_iff] at hj
      obtain ⟨y, hy, rfl⟩ := hj
      obtain ⟨hj1, hj2⟩ := List.getElem?_eq_some_iff.1 hy
      rw [Addr.add_lit]
      have := hc j hj1
      rw [Ck.at_lt hj1, hj2] at this
      exact this) (by omega) (by unfold maxLen; omega) (by omega)
    rw [List.nil_append, Nat.zero_add] at r1
    obtain ⟨g, cap, rfl, hg1, hg2⟩ := World.ownsRow.form r1 h0
    unfold Oper.wp
    simp [execOp, hop, resolve, invoke, builtin, hs, hx, hrun, Result.andThen]
    refine hK _ _ _ ⟨fun _ => ⟨g, 0, rfl, by omega, ?_⟩, hI.2⟩ ⟨r2.os, r2.tape, r2.output, r2.size, fun k hk => r2.block k hk (by simp)⟩
    have hO : Own w' w.heap.size (.slice (some ⟨g, 0, none⟩) xs.length cap) xs := r1
    intro i hi
    rw [Nat.zero_add]
    exact hO.cell i hi

set_option maxHeartbeats 4000000 in
set_option maxRecDepth 100000 in
theorem twin_any (len : Int) (K : Option Addr) (cuts : List Int) (ck : Nat) (Z : Option Addr) (dens : List Int) (cz : Nat) (w : World) (h : IsCake w len K cuts Z dens) (hc : cuts.length ≤ 60) (hd : dens.length ≤ 60) :
    Calls Try.prog 39 #[.agg #[.int .i64 len, .slice K cuts.length ck, .slice Z dens.length cz]] w fun e w' => ∃ A1 p1 A2 p2, e = .returned (.agg #[.int .i64 len, .slice A1 cuts.length p1, .slice A2 dens.length p2]) ∧ IsI w' A1 cuts ∧ IsI w' A2 dens ∧ Below w.heap.size w w' := by
  have HIK := Lib.hid h.2.2.1
  have HIZ := Lib.hid h.2.2.2
  have hl := h.1
  unfold I64 at hl
  clear h
  go_enter Try.func39, Try.ntmps39
  go_upto_region 1 with fail
  refine at_worldQ (fun v => Below w.heap.size w v ∧ v.cell? ⟨w.heap.size, 0, none⟩ = some (.int .i64 len) ∧ v.cell? ⟨w.heap.size, 1, none⟩ = some (.slice K cuts.length ck) ∧ v.cell? ⟨w.heap.size, 2, none⟩ = some (.slice Z dens.length cz) ∧ v.cell? ⟨w.heap.size + 1, 0, none⟩ = some (.int .i64 0) ∧ v.cell? ⟨w.heap.size + 1, 1, none⟩ = some (.slice none 0 0) ∧ v.cell? ⟨w.heap.size + 1, 2, none⟩ = some (.slice none 0 0) ∧ v.frozen? ⟨w.heap.size + 1, 0, none⟩ = false ∧ v.frozen? ⟨w.heap.size + 1, 1, none⟩ = false ∧ v.frozen? ⟨w.heap.size + 1, 2, none⟩ = false) ⟨((Below.refl _ _).alloc (Nat.le_refl _) _).alloc (by simp) _, by go_simp, by go_simp, by go_simp, by go_simp, by go_simp, by go_simp, by go_simp, by go_simp, by go_simp⟩ (fun V hS => ?_)
  obtain ⟨hbb, y0, y1, y2, r0, r1, r2, fr0, fr1, fr2⟩ := hS
  go_region_held3 (fun v => Below w.heap.size w v ∧ v.cell? ⟨w.heap.size, 0, none⟩ = some (.int .i64 len) ∧ v.cell? ⟨w.heap.size, 1, none⟩ = some (.slice K cuts.length ck) ∧ v.cell? ⟨w.heap.size, 2, none⟩ = some (.slice Z dens.length cz) ∧ v.cell? ⟨w.heap.size + 1, 0, none⟩ = some (vat v (w.heap.size + 1) 0) ∧ v.cell? ⟨w.heap.size + 1, 1, none⟩ = some (vat v (w.heap.size + 1) 1) ∧ v.cell? ⟨w.heap.size + 1, 2, none⟩ = some (vat v (w.heap.size + 1) 2) ∧ v.frozen? ⟨w.heap.size + 1, 0, none⟩ = false ∧ v.frozen? ⟨w.heap.size + 1, 1, none⟩ = false ∧ v.frozen? ⟨w.heap.size + 1, 2, none⟩ = false)
    (first | (exact ⟨hbb.drew, y0, y1, y2, vat_of (r0), vat_of (r1), vat_of (r2), fr0, fr1, fr2⟩) | (obtain ⟨k0, ky0, ky1, ky2, kr0, kr1, kr2, kfr0, kfr1, kfr2⟩ := ‹Below w.heap.size w _ ∧ _›; exact ⟨keepB k0 hb3, keepC hb3 ky0, keepC hb3 ky1, keepC hb3 ky2, vat_of (keepC hb3 kr0), vat_of (keepC hb3 kr1), vat_of (keepC hb3 kr2), keepF hb3 kr0 kfr0, keepF hb3 kr1 kfr1, keepF hb3 kr2 kfr2⟩) | (exact ⟨j0.out.alloc j0.out.size _, cell_alloc jy0.out _, cell_alloc jy1.out _, cell_alloc jy2.out _, vat_of (cell_alloc jr0.out _), vat_of (cell_alloc jr1.out _), vat_of (cell_alloc jr2.out _), froz_alloc jr0.out jfr0.out _, froz_alloc jr1.out jfr1.out _, froz_alloc jr2.out jfr2.out _⟩) | (obtain ⟨k0, ky0, ky1, ky2, kr0, kr1, kr2, kfr0, kfr1, kfr2⟩ := ‹Below w.heap.size w _ ∧ _›; exact ⟨k0.alloc k0.size _, cell_alloc ky0 _, cell_alloc ky1 _, cell_alloc ky2 _, vat_of (cell_alloc kr0 _), vat_of (cell_alloc kr1 _), vat_of (cell_alloc kr2 _), froz_alloc kr0 kfr0 _, froz_alloc kr1 kfr1 _, froz_alloc kr2 kfr2 _⟩) | (obtain ⟨k0, ky0, ky1, ky2, kr0, kr1, kr2, kfr0, kfr1, kfr2⟩ := ‹Below w.heap.size w _ ∧ _›; exact ⟨below_set (below_set (below_set (k0) (by omega) _) (by omega) _) (by omega) _, cell_far (cell_far (cell_far (ky0) (by omega) _) (by omega) _) (by omega) _, cell_far (cell_far (cell_far (ky1) (by omega) _) (by omega) _) (by omega) _, cell_far (cell_far (cell_far (ky2) (by omega) _) (by omega) _) (by omega) _, vat_set (vat_set (vat_set (kr0) _ _) _ _) _ _, vat_set (vat_set (vat_set (kr1) _ _) _ _) _ _, vat_set (vat_set (vat_set (kr2) _ _) _ _) _ _, froz_set (froz_set (froz_set (kfr0) _ _) _ _) _ _, froz_set (froz_set (froz_set (kfr1) _ _) _ _) _ _, froz_set (froz_set (froz_set (kfr2) _ _) _ _) _ _⟩))
    (first
      | (obtain ⟨k0, ky0, ky1, ky2, kr0, kr1, kr2, kfr0, kfr1, kfr2⟩ := ‹Below w.heap.size w _ ∧ _›; refine step_twin (B := w.heap.size + 2) rfl (.tmp 5) (.tmp 7) rfl K cuts.length ck cuts ⟨_, by rfl⟩ (by rfl) rfl (HIK.out.keep k0) (by omega) (by have := lt_of_cell kr0; omega) ?_; intro A1 p1 u1 hI1 hb3; (first | (replace hI2 := hI2.keep hb3) | (replace hI2 := (hI2.keep ((Below.refl _ _).alloc (Nat.le_refl _) _)).keep hb3) | skip))
      | (obtain ⟨k0, ky0, ky1, ky2, kr0, kr1, kr2, kfr0, kfr1, kfr2⟩ := ‹Below w.heap.size w _ ∧ _›; refine step_twin (B := w.heap.size + 2) rfl (.tmp 9) (.tmp 11) rfl Z dens.length cz dens ⟨_, by rfl⟩ (by rfl) rfl (HIZ.out.keep k0) (by omega) (by have := lt_of_cell kr0; omega) ?_; intro A2 p2 u2 hI2 hb3; (first | (replace hI1 := hI1.keep hb3) | (replace hI1 := (hI1.keep ((Below.refl _ _).alloc (Nat.le_refl _) _)).keep hb3) | skip)))
  all_goals (rename_i hHeld; clear k0 ky0 ky1 ky2 kr0 kr1 kr2 kfr0 kfr1 kfr2; obtain ⟨k0, _, _, _, k1, k2, k3, _, _, _⟩ := hHeld)
  all_goals (have c0 := res_far2 (by simp) (by simp) k1; have c1 := res_far (by simp) k2; have c2 := res_last k3; clear k1 k2 k3)
  all_goals go_wp2
  all_goals exact bodyPost_ret (v := .agg #[.int .i64 len, .slice A1 cuts.length p1, .slice A2 dens.length p2]) (by simp [results, Try.results39, go_sem, c0, c1, c2]) rfl ⟨A1, p1, A2, p2, rfl, (((hI1.set (by omega) _).set (by omega) _).set (by omega) _).isI, (((hI2.set (by omega) _).set (by omega) _).set (by omega) _).isI, k0⟩
end Go.Proofs.Ytaaamcleilpnhaa

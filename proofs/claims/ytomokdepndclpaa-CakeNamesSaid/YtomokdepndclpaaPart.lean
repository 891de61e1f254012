/- Package cake's Part. -/
import Derived.Test.YtomokdepndclpaaIntv
import Derived.ArgAppend
import Derived.Deep.CutBlock
import Derived.Deep.DeepCutAuto
namespace Go.Proofs.Ytomokdepndclpaa
open Go.RowKit
theorem Own.stored {w : World} {B g n cap : Nat} {xs : List Int} (h : Own w B (.slice (some ⟨g, 0, none⟩) n cap) xs) (hn : n = xs.length) (j : Nat) (y : Int) : Own (w.setCell ⟨g, j, none⟩ (.int .i64 y)) B (.slice (some ⟨g, 0, none⟩) n cap) (xs.set j y) := by
  subst hn
  have := (World.ownsRow.stored h j (.int .i64 y)).1
  unfold Own
  rw [List.length_set, List.map_set]
  exact this
theorem Own.cell {w : World} {B g n cap : Nat} {xs : List Int} (h : Own w B (.slice (some ⟨g, 0, none⟩) n cap) xs) (j : Nat) (hj : j < xs.length) : w.cell? ⟨g, j, none⟩ = some (.int .i64 (Ck.at_ xs j)) := by
  have hn : n = xs.length := by
    rcases h.2 with ⟨h', _⟩ | ⟨g', cap', cur, h', _⟩
    · simp at h'
    · simp only [Value.slice.injEq] at h'
      exact h'.2.1
  subst hn
  rw [World.ownsRow.cellAt h j (by omega), List.getElem?_map, List.getElem?_eq_getElem hj, Ck.at_lt hj]
  rfl
theorem Own.frozen {w : World} {B g n cap : Nat} {xs : List Int} (h : Own w B (.slice (some ⟨g, 0, none⟩) n cap) xs) (j : Nat) : w.frozen? ⟨g, j, none⟩ = false := by
  have hn : n = xs.length := by
    rcases h.2 with ⟨h', _⟩ | ⟨g', cap', cur, h', _⟩
    · simp at h'
    · simp only [Value.slice.injEq] at h'
      exact h'.2.1
  subst hn
  exact World.ownsRow.frozenAt h j
theorem Ck.at_set {l : List Int} {j i : Nat} {y : Int} (hj : j < l.length) : Ck.at_ (l.set j y) i = if i = j then y else Ck.at_ l i := by
  unfold Ck.at_
  rw [List.getD_eq_getElem?_getD, List.getD_eq_getElem?_getD, List.getElem?_set]
  by_cases e : j = i
  · subst e
    simp [hj]
  · rw [if_neg e, if_neg (fun h => e h.symm)]

/-- The cuts of a part ahead of its move to 0. -/
def Ck.zz (c : List Int) (a b : Int) (f n j : Nat) : Int := if j = 0 then a else if j < n then Ck.at_ c (f + j) else b

set_option maxHeartbeats 4000000 in
set_option maxRecDepth 100000 in
theorem ckPart_any (len : Int) (K : Option Addr) (cuts : List Int) (ck : Nat) (Z : Option Addr) (dens : List Int) (cz : Nat) (a b : Int) (w : World) (h : IsCake w len K cuts Z dens) (hck : cuts.length ≤ ck) (hcz : dens.length ≤ cz) (ha : I64 a) (hb : I64 b) :
    Calls Try.prog 19 #[.agg #[.int .i64 len, .slice K cuts.length ck, .slice Z dens.length cz], .int .i64 a, .int .i64 b] w fun e w' => ∃ v1 v2, e = .returned (.tuple #[.agg #[.int .i64 (Ck.parS len cuts dens a b).1, v1, v2], .int .i64 (Ck.parS len cuts dens a b).2.2.2]) ∧ Own w' w.heap.size v1 (Ck.parS len cuts dens a b).2.1 ∧ Own w' w.heap.size v2 (Ck.parS len cuts dens a b).2.2.1 ∧ (∀ g, v1.ownBlock = some g → v2.ownBlock ≠ some g) ∧ Below w.heap.size w w' := by
  have cc := fun v (hb : Below w.heap.size w v) => ckCheck_any len K cuts ck Z dens cz v (h.keep hb)
  unfold I64 at ha hb
  by_cases hc : Ck.chk len cuts dens = 0
  · have hG := Ck.chk_good hc
    rw [hc] at cc
    have n1 : (((0 : Int)) != 0) = false := rfl
    have CC := Lib.hid cc
    by_cases hw : a < 0 ∨ len < b ∨ b ≤ a
    · have e : Ck.parS len cuts dens a b = (0, [], [], 2) := by unfold Ck.parS; rw [if_pos hc, if_pos hw]
      rw [e]
      have hl := h.1
      unfold I64 at hl
      clear cc hc e hG h
      by_cases w1 : a < 0
      · have d1 : decide (a < 0) = true := decide_eq_true w1
        go_enter Try.func19, Try.ntmps19
        go_wp2_with fail
        refine (CC.out _ (((Below.refl _ _).alloc (Nat.le_refl _) _).alloc (by simp) _)).mono ?_
        rintro e w1 ⟨rfl, hb1⟩
        have y0 : w1.cell? ⟨w.heap.size, 0, none⟩ = some (.int .i64 len) := keepC hb1 (by go_simp)
        have y1 : w1.cell? ⟨w.heap.size, 1, none⟩ = some (.slice K cuts.length ck) := keepC hb1 (by go_simp)
        have y2 : w1.cell? ⟨w.heap.size, 2, none⟩ = some (.slice Z dens.length cz) := keepC hb1 (by go_simp)
        have r0 : w1.cell? ⟨w.heap.size + 1, 0, none⟩ = some (.int .i64 0) := keepC hb1 (by go_simp)
        have q0 : w1.frozen? ⟨w.heap.size + 1, 0, none⟩ = false := keepF hb1 (v := .int .i64 0) (by go_simp) (by go_simp)
        have r1 : w1.cell? ⟨w.heap.size + 1, 1, none⟩ = some (.slice none 0 0) := keepC hb1 (by go_simp)
        have q1 : w1.frozen? ⟨w.heap.size + 1, 1, none⟩ = false := keepF hb1 (v := .slice none 0 0) (by go_simp) (by go_simp)
        have r2 : w1.cell? ⟨w.heap.size + 1, 2, none⟩ = some (.slice none 0 0) := keepC hb1 (by go_simp)
        have q2 : w1.frozen? ⟨w.heap.size + 1, 2, none⟩ = false := keepF hb1 (v := .slice none 0 0) (by go_simp) (by go_simp)
        have hbb : Below w.heap.size w w1 := keepB (((Below.refl _ _).alloc (Nat.le_refl _) _).alloc (by simp) _) hb1
        clear hb1
        clear CC
        go_wp2_with fail
        exact bodyPost_ret (v := .tuple #[.agg #[.int .i64 0, .slice none 0 0, .slice none 0 0], .int .i64 2]) (by simp [results, Try.results19, go_sem, r0, r1, r2]) rfl ⟨_, _, rfl, Own.nil_ _ _, Own.nil_ _ _, fun g hg => (by simp [Value.ownBlock] at hg), below_st (below_st (below_st hbb (by omega) _) (by omega) _) (by omega) _⟩
      · have d1 : decide (a < 0) = false := decide_eq_false w1
        by_cases w2 : b ≤ a
        · have d2 : decide (b ≤ a) = true := decide_eq_true w2
          go_enter Try.func19, Try.ntmps19
          go_wp2_with fail
          refine (CC.out _ (((Below.refl _ _).alloc (Nat.le_refl _) _).alloc (by simp) _)).mono ?_
          rintro e w1 ⟨rfl, hb1⟩
          have y0 : w1.cell? ⟨w.heap.size, 0, none⟩ = some (.int .i64 len) := keepC hb1 (by go_simp)
          have y1 : w1.cell? ⟨w.heap.size, 1, none⟩ = some (.slice K cuts.length ck) := keepC hb1 (by go_simp)
          have y2 : w1.cell? ⟨w.heap.size, 2, none⟩ = some (.slice Z dens.length cz) := keepC hb1 (by go_simp)
          have r0 : w1.cell? ⟨w.heap.size + 1, 0, none⟩ = some (.int .i64 0) := keepC hb1 (by go_simp)
          have q0 : w1.frozen? ⟨w.heap.size + 1, 0, none⟩ = false := keepF hb1 (v := .int .i64 0) (by go_simp) (by go_simp)
          have r1 : w1.cell? ⟨w.heap.size + 1, 1, none⟩ = some (.slice none 0 0) := keepC hb1 (by go_simp)
          have q1 : w1.frozen? ⟨w.heap.size + 1, 1, none⟩ = false := keepF hb1 (v := .slice none 0 0) (by go_simp) (by go_simp)
          have r2 : w1.cell? ⟨w.heap.size + 1, 2, none⟩ = some (.slice none 0 0) := keepC hb1 (by go_simp)
          have q2 : w1.frozen? ⟨w.heap.size + 1, 2, none⟩ = false := keepF hb1 (v := .slice none 0 0) (by go_simp) (by go_simp)
          have hbb : Below w.heap.size w w1 := keepB (((Below.refl _ _).alloc (Nat.le_refl _) _).alloc (by simp) _) hb1
          clear hb1
          clear CC
          go_wp2_with fail
          exact bodyPost_ret (v := .tuple #[.agg #[.int .i64 0, .slice none 0 0, .slice none 0 0], .int .i64 2]) (by simp [results, Try.results19, go_sem, r0, r1, r2]) rfl ⟨_, _, rfl, Own.nil_ _ _, Own.nil_ _ _, fun g hg => (by simp [Value.ownBlock] at hg), below_st (below_st (below_st hbb (by omega) _) (by omega) _) (by omega) _⟩
        · have d2 : decide (b ≤ a) = false := decide_eq_false w2
          have d3 : decide (len < b) = true := decide_eq_true (by omega)
          go_enter Try.func19, Try.ntmps19
          go_wp2_with fail
          refine (CC.out _ (((Below.refl _ _).alloc (Nat.le_refl _) _).alloc (by simp) _)).mono ?_
          rintro e w1 ⟨rfl, hb1⟩
          have y0 : w1.cell? ⟨w.heap.size, 0, none⟩ = some (.int .i64 len) := keepC hb1 (by go_simp)
          have y1 : w1.cell? ⟨w.heap.size, 1, none⟩ = some (.slice K cuts.length ck) := keepC hb1 (by go_simp)
          have y2 : w1.cell? ⟨w.heap.size, 2, none⟩ = some (.slice Z dens.length cz) := keepC hb1 (by go_simp)
          have r0 : w1.cell? ⟨w.heap.size + 1, 0, none⟩ = some (.int .i64 0) := keepC hb1 (by go_simp)
          have q0 : w1.frozen? ⟨w.heap.size + 1, 0, none⟩ = false := keepF hb1 (v := .int .i64 0) (by go_simp) (by go_simp)
          have r1 : w1.cell? ⟨w.heap.size + 1, 1, none⟩ = some (.slice none 0 0) := keepC hb1 (by go_simp)
          have q1 : w1.frozen? ⟨w.heap.size + 1, 1, none⟩ = false := keepF hb1 (v := .slice none 0 0) (by go_simp) (by go_simp)
          have r2 : w1.cell? ⟨w.heap.size + 1, 2, none⟩ = some (.slice none 0 0) := keepC hb1 (by go_simp)
          have q2 : w1.frozen? ⟨w.heap.size + 1, 2, none⟩ = false := keepF hb1 (v := .slice none 0 0) (by go_simp) (by go_simp)
          have hbb : Below w.heap.size w w1 := keepB (((Below.refl _ _).alloc (Nat.le_refl _) _).alloc (by simp) _) hb1
          clear hb1
          clear CC
          go_wp2_with fail
          exact bodyPost_ret (v := .tuple #[.agg #[.int .i64 0, .slice none 0 0, .slice none 0 0], .int .i64 2]) (by simp [results, Try.results19, go_sem, r0, r1, r2]) rfl ⟨_, _, rfl, Own.nil_ _ _, Own.nil_ _ _, fun g hg => (by simp [Value.ownBlock] at hg), below_st (below_st (below_st hbb (by omega) _) (by omega) _) (by omega) _⟩
    · have h0 : 0 ≤ a := by omega
      have h1 : a < b := by omega
      have h2 : b ≤ len := by omega
      have hI := fun v (hb : Below w.heap.size w v) => intervals_any len K cuts ck Z dens cz a b v (h.keep hb) hG h0 h1 h2
      have d1 : decide (a < 0) = false := decide_eq_false (by omega)
      have d2 : decide (b ≤ a) = false := decide_eq_false (by omega)
      have d3 : decide (len < b) = false := decide_eq_false (by omega)
      have HI := Lib.hid hI
      obtain ⟨⟨l0, l1⟩, _, iK, iZ⟩ := h
      obtain ⟨bk, ok, rfl, hk⟩ := iK.1 (by have := hG.shape; omega)
      obtain ⟨bz, oz, rfl, hz⟩ := iZ.1 (by have := hG.shape; omega)
      obtain ⟨m, hm⟩ : ∃ m, dens.length = m := ⟨_, rfl⟩
      have hsh := hG.shape
      have hn : cuts.length = m + 1 := by omega
      have hmm : m ≤ 39 := by omega
      have hl1 := hG.len1
      have QK := Lib.hid iK.bd
      have QZ := Lib.hid iZ.2
      have HG := Lib.hid hG
      have HM := Lib.hid hm
      have HC := Lib.hid hc
      have HW := Lib.hid hw
      rw [hm] at hz hcz
      rw [hn] at hk hck
      rw [hm, hn] at CC HI ⊢
      obtain ⟨⟨R1, R2, R3, R4⟩, hR⟩ : ∃ R, Ck.parS len cuts dens a b = R := ⟨_, rfl⟩
      rw [hR]
      have HR := Lib.hid hR
      clear hR
      have HK := Lib.hid hk
      have HZ := Lib.hid hz
      clear hk hz iK iZ hsh hn hI cc hG hm hc hw
      go_enter Try.func19, Try.ntmps19
      go_wp2_with fail
      refine (CC.out _ (((Below.refl _ _).alloc (Nat.le_refl _) _).alloc (by simp) _)).mono ?_
      rintro e w1 ⟨rfl, hb1⟩
      have y0 : w1.cell? ⟨w.heap.size, 0, none⟩ = some (.int .i64 len) := keepC hb1 (by go_simp)
      have y1 : w1.cell? ⟨w.heap.size, 1, none⟩ = some (.slice (some ⟨bk, ok, none⟩) (m + 1) ck) := keepC hb1 (by go_simp)
      have y2 : w1.cell? ⟨w.heap.size, 2, none⟩ = some (.slice (some ⟨bz, oz, none⟩) m cz) := keepC hb1 (by go_simp)
      have r0 : w1.cell? ⟨w.heap.size + 1, 0, none⟩ = some (.int .i64 0) := keepC hb1 (by go_simp)
      have q0 : w1.frozen? ⟨w.heap.size + 1, 0, none⟩ = false := keepF hb1 (v := .int .i64 0) (by go_simp) (by go_simp)
      have r1 : w1.cell? ⟨w.heap.size + 1, 1, none⟩ = some (.slice none 0 0) := keepC hb1 (by go_simp)
      have q1 : w1.frozen? ⟨w.heap.size + 1, 1, none⟩ = false := keepF hb1 (v := .slice none 0 0) (by go_simp) (by go_simp)
      have r2 : w1.cell? ⟨w.heap.size + 1, 2, none⟩ = some (.slice none 0 0) := keepC hb1 (by go_simp)
      have q2 : w1.frozen? ⟨w.heap.size + 1, 2, none⟩ = false := keepF hb1 (v := .slice none 0 0) (by go_simp) (by go_simp)
      have hbb : Below w.heap.size w w1 := keepB (((Below.refl _ _).alloc (Nat.le_refl _) _).alloc (by simp) _) hb1
      clear hb1
      clear CC
      go_wp2_with fail
      refine (HI.out _ hbb).mono ?_
      rintro e w2 ⟨f, g, rfl, hcut, hb2⟩
      replace q0 := keepF hb2 r0 q0
      replace q1 := keepF hb2 r1 q1
      replace q2 := keepF hb2 r2 q2
      replace y0 := keepC hb2 y0
      replace y1 := keepC hb2 y1
      replace y2 := keepC hb2 y2
      replace r0 := keepC hb2 r0
      replace r1 := keepC hb2 r1
      replace r2 := keepC hb2 r2
      replace hbb := keepB hbb hb2
      clear hb2
      clear HI
      have hfg := hcut.lt
      have hgm := hcut.le
      rw [HM.out] at hgm
      have HCut := Lib.hid hcut
      have a1 : (0 : Int) ≤ (f : Int) := by omega
      have a2 : (f : Int) ≤ (g : Int) := by omega
      have a3 : (g : Int) ≤ (cz : Int) := by omega
      have a4 : (g : Int) ≤ (ck : Int) := by omega
      have a5 : ¬ cz = f := by omega
      have a6 : ¬ g = f := by omega
      clear hcut
      go_wp2_with fail
      have hp := Ck.p_all HG.out HCut.out
      rw [HM.out] at hp
      obtain ⟨pl1, pl2, pl3, pl4⟩ := hp
      obtain ⟨D, hD⟩ : ∃ D, Ck.pD cuts dens a b m = D := ⟨_, rfl⟩
      rw [hD] at pl3 pl4
      have hDb : ∀ x ∈ D, I64 x := by
        intro x hx
        rw [← hD, ← HM.out, ← Ck.pD_is HG.out HCut.out] at hx
        exact QZ.out x (List.mem_of_mem_drop (List.mem_of_mem_take hx))
      have hcl : ∀ i, i < D.length → w2.cell? ⟨bz, oz + f + i, none⟩ = some (.int .i64 (Ck.at_ D i)) := by
        intro i hi
        rw [pl4 i (by omega), Nat.add_assoc]
        exact keepC hbb (HZ.out (f + i) (by omega))
      refine (clone_any bz (oz + f) (g - f) (cz - f) D w2 pl3 (by omega) (by omega) hcl).mono ?_
      rintro e w3 ⟨v, rfl, hown, hb3⟩
      have hond : v.ownBlock ≠ some (w.heap.size + 1) := fun e => by have := (hown.lt _ e).1; have := lt_of_cell r0; omega
      replace hown := Own.mono hown hbb.size
      replace q0 := keepF hb3 r0 q0
      replace q1 := keepF hb3 r1 q1
      replace q2 := keepF hb3 r2 q2
      replace y0 := keepC hb3 y0
      replace y1 := keepC hb3 y1
      replace y2 := keepC hb3 y2
      replace r0 := keepC hb3 r0
      replace r1 := keepC hb3 r1
      replace r2 := keepC hb3 r2
      replace hbb := keepB hbb hb3
      clear hb3
      obtain ⟨A2, p2, rfl⟩ := hown.form
      have hOnd := Lib.hid hond
      clear hond
      have hWn := fun v h => wanted_any A2 D p2 v (by unfold maxLen; omega) h
      have hchk := Ck.p_chk HG.out HCut.out h0 h1 h2
      rw [HM.out, hD] at hchk
      have hDI := hown.isI hDb
      clear hcl hDb
      rcases hwd : Ck.wanted D with _ | _
      · have e : Ck.parS len cuts dens a b = (0, [], [], 6) := by
          unfold Ck.parS
          rw [if_pos HC.out, if_neg HW.out, HM.out, hD, hchk, hwd]
          rfl
        replace e := e.symm.trans HR.out
        simp only [Prod.mk.injEq] at e
        obtain ⟨rfl, rfl, rfl, rfl⟩ := e
        clear HR
        rw [hwd] at hWn
        have HWN := Lib.hid hWn
        clear hWn hwd hchk pl1 pl2 pl3 pl4 hD
        go_wp2_with fail
        refine (HWN.out _ hDI).mono ?_
        rintro e w' ⟨rfl, rfl⟩
        clear HWN
        go_wp2_with fail
        exact bodyPost_ret (v := .tuple #[.agg #[.int .i64 0, .slice none 0 0, .slice none 0 0], .int .i64 6]) (by simp [results, Try.results19, go_sem, r0, r1, r2]) rfl ⟨_, _, rfl, Own.nil_ _ _, Own.nil_ _ _, fun g hg => (by simp [Value.ownBlock] at hg), below_st (below_st (below_st hbb (by omega) _) (by omega) _) (by omega) _⟩
      · have e : Ck.parS len cuts dens a b = (b - a, Ck.pC cuts a b m, D, 0) := by
          unfold Ck.parS
          rw [if_pos HC.out, if_neg HW.out, HM.out, hD, hchk, hwd]
          rfl
        replace e := e.symm.trans HR.out
        simp only [Prod.mk.injEq] at e
        obtain ⟨rfl, rfl, rfl, rfl⟩ := e
        clear HR
        rw [hwd] at hWn
        have HWN := Lib.hid hWn
        have HPC := Lib.hid (fun zs hl hz => (Ck.pC_is HG.out HCut.out h2 zs hl hz).trans (by rw [HM.out]))
        obtain ⟨E, hE⟩ : ∃ E, (cuts.drop f).take (g - f) = E := ⟨_, rfl⟩
        have hsh := HG.out.shape
        have hEl : E.length = g - f := by
          rw [← hE, List.length_take, List.length_drop]
          have := HM.out
          omega
        have hEa : ∀ j, j < g - f → Ck.at_ E j = Ck.at_ cuts (f + j) := by
          intro j hj
          rw [Ck.at_lt (by omega), Ck.at_lt (by have := HM.out; omega)]
          subst hE
          simp
        have hol : ∀ j u, (E.map (Value.int .i64))[j]? = some u → (w3.alloc (.cells #[.int .i64 b] 3)).cell? ((⟨bk, ok + f, none⟩ : Addr).add j) = some u := by
          intro j u hj
          rw [List.getElem?_map, Option.map_eq_some_iff] at hj
          obtain ⟨x, hx, rfl⟩ := hj
          obtain ⟨hj1, hj2⟩ := List.getElem?_eq_some_iff.1 hx
          rw [Addr.add_lit, Nat.add_assoc]
          have := cell_alloc (keepC hbb (HK.out (f + j) (by omega))) (.cells #[.int .i64 b] 3)
          rw [← hEa j (by omega), Ck.at_lt hj1, hj2] at this
          exact this
        have QR := Lib.hid (fun k (hk : k ≤ m) => HG.out.range k (by have := HM.out; omega))
        have HOL := Lib.hid hol
        have HEA := Lib.hid hEa
        obtain ⟨i0, hi0, hz0, hz1, hz2⟩ := info_parts intInfo
        have PL3 := Lib.hid pl3
        clear hWn hwd hchk pl1 pl2 pl3 pl4 hE hol hEa hD HG HCut HC HW HK HZ QK QZ n1 d1 d2 d3
        go_wp2_with fail
        refine (HWN.out _ hDI).mono ?_
        rintro e w' ⟨rfl, rfl⟩
        clear HWN hDI
        have l3 := hown.lt
        go_upto_region 11 with (at_builtin; refine wpList_append_grows _ rfl _ _ _ rfl 3 i0 _ 1 8 Try.underlying25 hi0 hz0 hz1 hz2 rfl (by omega) (some ⟨bk, ok + f, none⟩) (g - f) (g - f) (E.map (Value.int .i64)) (by rfl) (fun h => by cases h) (by simp [hEl]) (fun ad h => by (injection h with h; subst h; exact HOL.out)) ⟨w3.heap.size, 0, none⟩ 1 1 [.int .i64 b] (by rfl) (by rfl) (World.news_of_block (cs := #[.int .i64 b]) (t := 3) (fr := (0, 0)) (heap_alloc_new w3 _)) (by simp [Value.oneCell']) (by omega) (by unfold maxLen; omega) (by omega) ?_; intro v4 w4 hown4 hgrow4)
        obtain ⟨q, qc, rfl, hq1, hq2⟩ := World.ownsRow.form hown4 (by omega)
        rw [World.size_alloc] at hq1
        have hO4 : Own w4 w.heap.size (.slice (some ⟨q, 0, none⟩) (g - f + 1) qc) (E ++ [b]) := by
          have h := World.ownsRow.mono (base' := w.heap.size) hown4 (by rw [World.size_alloc]; have := hbb.size; omega)
          unfold Own
          rw [List.length_append, hEl, List.map_append]
          exact h
        have hb4 : Below w3.heap.size w3 w4 := ((Below.refl _ _).alloc (Nat.le_refl _) _).grown hgrow4 (by simp) (fun k e => by cases e)
        have l0 := lt_of_cell r0
        replace hown := hown.keepB hb4
        replace q0 := keepF hb4 r0 q0
        replace q1 := keepF hb4 r1 q1
        replace q2 := keepF hb4 r2 q2
        replace y0 := keepC hb4 y0
        replace y1 := keepC hb4 y1
        replace y2 := keepC hb4 y2
        replace r0 := keepC hb4 r0
        replace r1 := keepC hb4 r1
        replace r2 := keepC hb4 r2
        replace hbb := keepB hbb hb4
        clear hb4
        have hE0 := Lib.hid (show (E ++ [b]).length = g - f + 1 by rw [List.length_append, hEl]; rfl)
        have hEa := Lib.hid (fun j (hj : j < g - f + 1) => (show Ck.at_ (E ++ [b]) j = if j < g - f then Ck.at_ cuts (f + j) else b by
          by_cases e : j < g - f
          · rw [if_pos e, Ck.at_app (by omega), HEA.out j e]
          · rw [if_neg e, show j = E.length by omega, Ck.at_end]))
        have hap := Lib.hid (fun k (hk : (Value.slice (some ⟨q, 0, none⟩) (g - f + 1) qc).ownBlock = some k) => (show (Value.slice A2 D.length p2).ownBlock ≠ some k by
          have hk' : q = k := by simpa [Value.ownBlock] using hk
          subst hk'
          intro e
          have := (l3 _ e).2
          omega))
        clear hown4 hgrow4 hEl HOL HEA y0 y1 y2 l3
        have hnle : g - f ≤ 39 := by omega
        have hn1 : 1 ≤ g - f := by omega
        have hfn : f + (g - f) ≤ m := by omega
        clear a1 a2 a3 a4 a5 a6 hfg hgm
        generalize g - f = n at *
        have c0 := hO4.cell 0 (by rw [hE0.out]; omega)
        have f0 := hO4.frozen 0
        have HZb := Lib.hid (fun j (hj : j < n + 1) => (show 0 ≤ Ck.zz cuts a b f n j ∧ Ck.zz cuts a b f n j ≤ 1000 by
          unfold Ck.zz
          split
          · omega
          · split
            · exact QR.out (f + j) (by omega)
            · omega))
        have HO4 := Lib.hid hO4
        have HOwn := Lib.hid hown
        clear hO4 hown QR
        go_wp2_with fail
        clear c0 f0
        go_loopw [13, 65] (fun _ i v => ∃ (k : Nat) (ys : List Int), k ≤ n + 1 ∧ i = .int .i64 k ∧ Hid (ys.length = n + 1) ∧ Hid (Own v w.heap.size (.slice (some ⟨q, 0, none⟩) (n + 1) qc) ys) ∧ Hid (∀ j, j < n + 1 → Ck.at_ ys j = if j < k then Ck.zz cuts a b f n j - a else Ck.zz cuts a b f n j) ∧ Below w.heap.size w v ∧ v.cell? ⟨w.heap.size + 1, 0, none⟩ = some (.int .i64 0) ∧ v.cell? ⟨w.heap.size + 1, 1, none⟩ = some (.slice none 0 0) ∧ v.cell? ⟨w.heap.size + 1, 2, none⟩ = some (.slice none 0 0) ∧ v.frozen? ⟨w.heap.size + 1, 0, none⟩ = false ∧ v.frozen? ⟨w.heap.size + 1, 1, none⟩ = false ∧ v.frozen? ⟨w.heap.size + 1, 2, none⟩ = false ∧ Own v w.heap.size (.slice A2 D.length p2) D) (fun _ i _ => n + 1 - (intOf i).toNat)
        case atStart =>
          refine ⟨0, (E ++ [b]).set 0 a, Nat.zero_le _, rfl, (by rw [List.length_set]; exact hE0.out : ((E ++ [b]).set 0 a).length = n + 1), HO4.out.stored (by rw [hE0.out]) 0 a, ?_, below_st hbb (by omega) _, cell_far r0 (by omega) _, cell_far r1 (by omega) _, cell_far r2 (by omega) _, froz_set q0 _ _, froz_set q1 _ _, froz_set q2 _ _, HOwn.out.set (fun e => hap.out q (by simp [Value.ownBlock]) e) _⟩
          show ∀ j, j < n + 1 → _
          intro j hj
          rw [Ck.at_set (by rw [hE0.out]; omega), if_neg (by omega : ¬ j < 0)]
          unfold Ck.zz
          by_cases e : j = 0
          · rw [if_pos e, if_pos e]
          · rw [if_neg e, if_neg e]
            exact hEa.out j hj
        case round =>
          clear hbb r0 r1 r2 q0 q1 q2 HO4 HOwn hE0 hEa
          obtain ⟨k, ys, hk, rfl, HL, HO, HV, hbb, r0, r1, r2, q0, q1, q2, hown⟩ := hrel
          by_cases hlt : k < n + 1
          · have c0 := HO.out.cell k (by rw [HL.out]; exact hlt)
            have f0 := HO.out.frozen k
            have hv := HV.out k hlt
            rw [if_neg (by omega)] at hv
            have hzb := HZb.out k hlt
            rw [hv] at c0
            have HV2 := Lib.hid (fun j (hj : j < n + 1) => (show Ck.at_ (ys.set k (Ck.zz cuts a b f n k - a)) j = if j < k + 1 then Ck.zz cuts a b f n j - a else Ck.zz cuts a b f n j by
              rw [Ck.at_set (by rw [HL.out]; exact hlt)]
              by_cases e : j = k
              · rw [if_pos e, if_pos (by omega), e]
              · rw [if_neg e, HV.out j hj]
                by_cases e2 : j < k
                · rw [if_pos e2, if_pos (by omega)]
                · rw [if_neg e2, if_neg (by omega)]))
            have HOwn := Lib.hid hown
            clear hv HV HPC HZb hown
            have b1 : (0 : Int) ≤ (k : Int) := by omega
            have b2 : (k : Int) < (n : Int) + 1 := by omega
            obtain ⟨x, hx⟩ : ∃ x, Ck.zz cuts a b f n k = x := ⟨_, rfl⟩
            rw [hx] at c0 hzb HV2
            clear hx
            go_wp2_with fail
            go_roundw
            case rel =>
              exact ⟨k + 1, ys.set k (x - a), hlt, by go_num, (by rw [List.length_set]; exact HL.out : (ys.set k (x - a)).length = n + 1), HO.out.stored (by rw [HL.out]) k (x - a), HV2.out, below_st hbb (by omega) _, cell_far r0 (by omega) _, cell_far r1 (by omega) _, cell_far r2 (by omega) _, froz_set q0 _ _, froz_set q1 _ _, froz_set q2 _ _, HOwn.out.set (fun e => hap.out q (by simp [Value.ownBlock]) e) _⟩
            case measure => simp [intOf]; omega
          · obtain rfl : k = n + 1 := by omega
            have hys := HPC.out ys HL.out (fun j hj => by
              rw [HV.out j hj, if_pos hj]
              rfl)
            have hO := HO.out
            rw [hys] at hO
            have HO' := Lib.hid hO
            have HOwn := Lib.hid hown
            have b1 : (Value.slice (some ⟨q, 0, none⟩) (n + 1) qc).ownBlock ≠ some (w.heap.size + 1) := fun e => by
              have : q = w.heap.size + 1 := by simpa [Value.ownBlock] using e
              omega
            have b2 : (Value.slice A2 D.length p2).ownBlock ≠ some (w.heap.size + 1) := hOnd.out
            clear hys hO HV HL HO HPC HZb hown
            go_wp2_with fail
            exact bodyPost_ret (v := .tuple #[.agg #[.int .i64 (b - a), .slice (some ⟨q, 0, none⟩) (n + 1) qc, .slice A2 D.length p2], .int .i64 0]) (by simp [results, Try.results19, go_sem, r0, r1, r2]) rfl
              ⟨_, _, rfl, ((HO'.out.set b1 _).set b1 _).set b1 _, ((HOwn.out.set b2 _).set b2 _).set b2 _, hap.out, below_st (below_st (below_st hbb (by omega) _) (by omega) _) (by omega) _⟩
  · have e : Ck.parS len cuts dens a b = (0, [], [], Ck.chk len cuts dens) := by unfold Ck.parS; rw [if_neg hc]
    rw [e]
    generalize Ck.chk len cuts dens = c at *
    have n1 : (c != 0) = true := by rw [bne_iff_ne]; exact hc
    have CC := Lib.hid cc
    clear cc hc e h
    go_enter Try.func19, Try.ntmps19
    go_wp2_with fail
    refine (CC.out _ (((Below.refl _ _).alloc (Nat.le_refl _) _).alloc (by simp) _)).mono ?_
    rintro e w1 ⟨rfl, hb1⟩
    have r0 : w1.cell? ⟨w.heap.size + 1, 0, none⟩ = some (.int .i64 0) := keepC hb1 (by go_simp)
    have q0 : w1.frozen? ⟨w.heap.size + 1, 0, none⟩ = false := keepF hb1 (v := .int .i64 0) (by go_simp) (by go_simp)
    have r1 : w1.cell? ⟨w.heap.size + 1, 1, none⟩ = some (.slice none 0 0) := keepC hb1 (by go_simp)
    have q1 : w1.frozen? ⟨w.heap.size + 1, 1, none⟩ = false := keepF hb1 (v := .slice none 0 0) (by go_simp) (by go_simp)
    have r2 : w1.cell? ⟨w.heap.size + 1, 2, none⟩ = some (.slice none 0 0) := keepC hb1 (by go_simp)
    have q2 : w1.frozen? ⟨w.heap.size + 1, 2, none⟩ = false := keepF hb1 (v := .slice none 0 0) (by go_simp) (by go_simp)
    have hbb : Below w.heap.size w w1 := keepB (((Below.refl _ _).alloc (Nat.le_refl _) _).alloc (by simp) _) hb1
    clear hb1
    clear CC
    go_wp2_with fail
    exact bodyPost_ret (v := .tuple #[.agg #[.int .i64 0, .slice none 0 0, .slice none 0 0], .int .i64 c]) (by simp [results, Try.results19, go_sem, r0, r1, r2]) rfl ⟨_, _, rfl, Own.nil_ _ _, Own.nil_ _ _, fun g hg => (by simp [Value.ownBlock] at hg), below_st (below_st (below_st hbb (by omega) _) (by omega) _) (by omega) _⟩
end Go.Proofs.Ytomokdepndclpaa

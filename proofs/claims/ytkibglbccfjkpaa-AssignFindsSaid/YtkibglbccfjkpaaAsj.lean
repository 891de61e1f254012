/- Package assign: slices.Clone of rows, greatestWithout. -/
import Derived.Test.YtkibglbccfjkpaaAsh
import Derived.Lib.Slices
namespace Go.Proofs.Ytkibglbccfjkpaa
open Go.RowKit
theorem rowInfo : (Try.prog.info? 25).map (fun i => (i.zero, i.size, i.bytes)) = some (some (.slice none 0 0), 1, 24) := by kernel_rfl
/-- A row of the call's own, as a block. -/
theorem own_block {w : World} {B n : Nat} {e : TypeId} {v : Value} {xs : List Value} (h : w.ownsRow B e 1 v n xs) (hn : 0 < n) : ∃ g cap, v = .slice (some ⟨g, 0, none⟩) n cap ∧ B ≤ g ∧ n ≤ cap ∧ BK w g xs := by
  rcases h.2 with ⟨_, h0⟩ | ⟨g, cap, cur, hv, hb, hg, hc, _, hs, ht⟩
  · omega
  · have hlt : g < w.heap.size := (Array.getElem?_eq_some_iff.1 hg).1
    refine ⟨g, cap, hv, hb, hc, hlt, fun j x ej => ?_⟩
    rw [← ht] at ej
    have hj : cur[j]? = some x := by
      rw [List.getElem?_take] at ej
      split at ej
      · simpa using ej
      · cases ej
    constructor
    · simp [World.cell?, hg, hj]
    · simp [World.frozen?, hg]
/-- The rows of bids as values. -/
def Rvs (w : World) (V : List (List Int)) (RV : Nat → Value) : Prop := ∀ i, i < V.length → ∃ R c, RV i = .slice R (V.getD i []).length c ∧ (V.getD i []).length ≤ maxLen ∧ IsI w R (V.getD i [])
theorem rvs_of {w : World} {V : List (List Int)} {b off : Nat} (h : ∀ i, i < V.length → ∃ R c, w.cell? ⟨b, off + i, none⟩ = some (.slice R (V.getD i []).length c) ∧ (V.getD i []).length ≤ maxLen ∧ IsI w R (V.getD i [])) :
    ∃ RV : Nat → Value, (∀ i, i < V.length → w.cell? ⟨b, off + i, none⟩ = some (RV i)) ∧ Rvs w V RV := by
  have key : ∀ i, i < V.length → ∃ x : Value, w.cell? ⟨b, off + i, none⟩ = some x ∧ ∃ R c, x = .slice R (V.getD i []).length c ∧ (V.getD i []).length ≤ maxLen ∧ IsI w R (V.getD i []) := fun i hi => by
    obtain ⟨R, c, h1, h2⟩ := h i hi
    exact ⟨_, h1, R, c, rfl, h2⟩
  obtain ⟨f, hf⟩ := Go.Deep.choose_lt key
  exact ⟨f, fun i hi => (hf i hi).1, fun i hi => (hf i hi).2⟩
/-- What Clone gives. -/
def CloneQ (n : Nat) (RV : Nat → Value) (w : World) (e : Ending) (w' : World) : Prop := ∃ g c, e = .returned (.slice (some ⟨g, 0, none⟩) n c) ∧ w.heap.size ≤ g ∧ BK w' g ((List.range n).map RV) ∧ Below w.heap.size w w'
set_option linter.unusedSimpArgs false in
set_option maxHeartbeats 2000000 in
theorem cloneRows_any (b off n cap : Nat) (RV : Nat → Value) (w : World) (h0 : 0 < n) (hn : n ≤ 100) (hc : ∀ i, i < n → w.cell? ⟨b, off + i, none⟩ = some (RV i)) (h1 : ∀ i, i < n → (RV i).oneCell' = true) :
    Calls Try.prog 46 #[.slice (some ⟨b, off, none⟩) n cap] w (CloneQ n RV w) := by
  have q : ∀ (w : World) (a : Option Addr) (n c n' c' : Nat), (binOp .eql 22 (.slice a n c) (.slice none n' c')).run Try.prog w = .ok (.bool a.isNone) w := fun w a n c n' c' => Lib.run_eql_slice_nil w _ _ a n c n' c' Try.underlying22
  obtain ⟨i0, hi0, hz0, hz1, hz2⟩ := info_parts rowInfo
  have HL := Lib.hid (show ((List.range n).map RV).length = n * 1 by simp)
  have HC := Lib.hid (show ∀ (j : Nat) (u : Value), ((List.range n).map RV)[j]? = some u → w.cell? ((⟨b, off, none⟩ : Addr).add j) = some u from fun j u hj => by
    obtain ⟨hj1, hj2⟩ := List.getElem?_eq_some_iff.1 hj
    simp only [List.length_map, List.length_range] at hj1
    simp only [List.getElem_map, List.getElem_range] at hj2
    rw [Addr.add_lit, ← hj2]
    exact hc j hj1)
  have H1 := Lib.hid (show ∀ u ∈ (List.range n).map RV, u.oneCell' = true from fun u hu => by
    obtain ⟨j, hj, rfl⟩ := List.mem_map.1 hu
    exact h1 j (by simpa using hj))
  have HI := Lib.hid hi0
  have HI2 := Lib.hid hz0
  have HI3 := Lib.hid hz1
  have HI4 := Lib.hid hz2
  clear hc h1 hi0 hz0 hz1 hz2
  go_enter Try.func46, Try.ntmps46
  go_wp2_with (at_builtin; go_loud (refine wpList_append_lies _ rfl _ _ _ rfl w.heap.size 25 i0 _ 1 24 Try.underlying22 HI.out HI2.out HI3.out HI4.out rfl (by omega) (.slice (some ⟨w.heap.size, 0, none⟩) 0 0) 0 [] (by rfl) (World.ownsRow_lit w #[] 0 (Nat.le_refl _) (by decide) rfl) ⟨b, off, none⟩ n cap ((List.range n).map RV) (by rfl) HL.out (fun j u hj => (below_al (Below.refl _ _) _ : Below w.heap.size w (w.alloc _)).cell (p := (⟨b, off, none⟩ : Addr).add j) (World.block_lt_of_cell? w _ (HC.out j u hj)) |>.trans (HC.out j u hj)) H1.out h0 (by unfold maxLen; omega) (by omega) (by simp) (w.heap.size + 1) (by simp) ?_; intro g c w1 hown1 hgrow hat hlt))
  rw [Nat.zero_add, List.nil_append] at hown1
  obtain ⟨g', cap', hv, hg', _, hbk⟩ := own_block hown1 h0
  simp only [Value.slice.injEq, Option.some.injEq, Addr.mk.injEq] at hv
  obtain ⟨⟨rfl, -, -⟩, -, rfl⟩ := hv
  have hb : Below w.heap.size w w1 := ((Below.refl _ _).alloc (Nat.le_refl _) _).grown hgrow (by simp) (fun k e => by
    have : w.heap.size = k := by simpa [Value.ownBlock] using e
    omega)
  exact bodyPost_ret (v := .slice (some ⟨g, 0, none⟩) n c) (by simp [results, Try.results46, go_sem]) rfl ⟨g, c, rfl, hg', hbk, hb⟩
namespace As
/-- Bids with a list put to 0. -/
def zr (V : List (List Int)) (i : Nat) : List (List Int) := V.set i (List.replicate V.length 0)
theorem zr_len (V : List (List Int)) (i : Nat) : (zr V i).length = V.length := by simp [zr]
theorem zr_get (V : List (List Int)) {i k : Nat} (hi : i < V.length) : (zr V i).getD k [] = if k = i then List.replicate V.length 0 else V.getD k [] := by
  unfold zr
  simp only [List.getD_eq_getElem?_getD]
  by_cases e : k = i
  · subst e; rw [if_pos rfl, List.getElem?_set_self hi]; rfl
  · rw [if_neg e, List.getElem?_set_ne (by omega)]
theorem zr_vl (V : List (List Int)) {i : Nat} (hi : i < V.length) (k j : Nat) : vl (zr V i) k j = if k = i then 0 else vl V k j := by
  unfold vl
  rw [zr_get V hi]
  by_cases e : k = i
  · rw [if_pos e, if_pos e]
    unfold el
    simp only [List.getD_eq_getElem?_getD, List.getElem?_replicate]
    split <;> rfl
  · rw [if_neg e, if_neg e]
theorem zr_ok {V : List (List Int)} (h : Ok V) {i : Nat} (hi : i < V.length) : Ok (zr V i) := by
  refine ⟨by rw [zr_len]; exact h.n1, by rw [zr_len]; exact h.n6, fun k hk => ?_, fun k j => ?_⟩
  · rw [zr_len] at hk ⊢
    rw [zr_get V hi]
    split
    · simp
    · exact h.row k hk
  · rw [zr_vl V hi]
    split
    · omega
    · exact h.bd k j
/-- What all items can be worth for the others. -/
def gw (V : List (List Int)) (i : Nat) : Int := opt (zr V i) (List.range V.length)
theorem mst_all {V : List (List Int)} (n6 : V.length ≤ 6) : mst V (2 ^ V.length - 1) = opt V (List.range V.length) := by
  unfold mst
  rw [its_all V.length (by omega)]
  simp
end As
set_option maxRecDepth 100000 in
set_option maxHeartbeats 4000000 in
theorem gwo_any (A : Option Addr) (cv : Nat) (V : List (List Int)) (i : Nat) (w : World) (ok : As.Ok V) (h : IsM w A V) (hi : i < V.length) :
    Calls Try.prog 38 #[.slice A V.length cv, .int .i64 i] w fun e w' => e = .returned (.int .i64 (As.gw V i)) ∧ Below w.heap.size w w' := by
  have n1 := ok.n1
  have n6 := ok.n6
  obtain ⟨b, off, rfl, hrows⟩ := h (by omega)
  obtain ⟨RV, hRV, hR⟩ := rvs_of hrows
  have CC := Lib.hid (cloneRows_any b off V.length cv RV w (by omega) (by omega) hRV (fun k hk => by obtain ⟨R, c, e, _⟩ := hR k hk; rw [e]; rfl))
  have HR := Lib.hid hR
  have HOKV := Lib.hid ok
  have MK := ints_make V.length (by omega)
  obtain ⟨p1, p2, -⟩ := As.pow_bd V.length (by omega)
  have ha := As.mst_all (V := As.zr V i) (by rw [As.zr_len]; exact n6)
  have HG := Lib.hid (fun v B c (hM : IsM v B (As.zr V i)) => greatest_any B c (As.zr V i) v (As.zr_ok ok hi) hM)
  rw [As.zr_len] at ha
  simp only [As.zr_len] at HG
  obtain ⟨N, hN⟩ : ∃ N, 2 ^ V.length = N := ⟨_, rfl⟩
  rw [hN] at ha p1 p2 HG
  have ha' : As.mst (As.zr V i) (N - 1) = As.gw V i := ha
  have HA := Lib.hid ha'
  have i1 : (i : Int) < (V.length : Int) := by omega
  have e1 : (N : Int) - 1 = ((N - 1 : Nat) : Int) := by omega
  have i2 : ((N - 1 : Nat) : Int) < (N : Int) := by omega
  clear h hrows ok ha ha' hRV hR hN
  go_enter Try.func38, Try.ntmps38
  go_wp2_with fail
  refine CC.out.mono ?_
  rintro e w1 ⟨g, c, rfl, hg, hbk, hb1⟩
  have k0 := fun o => BK.c (hbk.al o) i (show ((List.range V.length).map RV)[i]? = some (RV i) by simp [hi])
  have k1 := fun o => BK.f (hbk.al o) i (show ((List.range V.length).map RV)[i]? = some (RV i) by simp [hi])
  have HBK := Lib.hid hbk
  have hgl := hbk.lt
  clear hbk CC
  go_wp2_with fail
  clear k0 k1 MK
  refine at_worldR (fun v => Below w.heap.size w v ∧ IsM v (some ⟨g, 0, none⟩) (As.zr V i)) ⟨below_al (hb1.setCell hg _) _, ?_⟩ (fun w2 hS => ?_)
  · have hbw : Below w.heap.size w ((w1.setCell ⟨g, i, none⟩ (.slice (some ⟨w1.heap.size, 0, none⟩) V.length V.length)).alloc (.cells (Array.replicate V.length (Value.int .i64 0)) 3)) := below_al (hb1.setCell hg _) _
    have hb2 := (HBK.out.set i (.slice (some ⟨w1.heap.size, 0, none⟩) V.length V.length)).al (.cells (Array.replicate V.length (Value.int .i64 0)) 3)
    have hz := BF.new (w1.setCell ⟨g, i, none⟩ (.slice (some ⟨w1.heap.size, 0, none⟩) V.length V.length)) V.length 3
    rw [World.size_setCell] at hz
    have hzI := hz.isI (fun k _ => ⟨by decide, by decide⟩)
    have hml : ml V.length (fun _ => (0 : Int)) = List.replicate V.length 0 := List.ext_getElem (by simp [ml]) fun k h1 h2 => by simp [ml]
    rw [hml] at hzI
    refine fun _ => ⟨g, 0, rfl, fun k hk => ?_⟩
    rw [As.zr_len] at hk
    rw [Nat.zero_add, As.zr_get V hi]
    by_cases e : k = i
    · subst e
      rw [if_pos rfl]
      refine ⟨some ⟨w1.heap.size, 0, none⟩, V.length, ?_, by rw [List.length_replicate]; unfold maxLen; omega, hzI⟩
      rw [List.length_replicate]
      exact hb2.c k (by rw [List.getElem?_set_self (by simpa using hk)])
    · rw [if_neg e]
      obtain ⟨R, c', hRk, hrl, hI⟩ := HR.out k hk
      refine ⟨R, c', ?_, hrl, hI.keep hbw⟩
      rw [← hRk]
      exact hb2.c k (by rw [List.getElem?_set_ne (by omega)]; simp [hk])
  · obtain ⟨hbb, hM⟩ := hS
    have HG1 := Lib.hid (HG.out w2 _ c hM)
    clear hM HG HBK hb1
    refine HG1.out.mono ?_
    rintro e w3 ⟨rfl, hbf, hb3⟩
    have hbb3 := keepB hbb hb3
    have x1 := hbf.c (k := N - 1) (by omega)
    rw [HA.out] at x1
    clear hbf hb3 hbb HG1
    go_wp2_with fail
    go_ret
    exact ⟨rfl, hbb3⟩
end Go.Proofs.Ytkibglbccfjkpaa

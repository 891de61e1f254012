/- Mathematics of AssignOrder: items in another order, an item for which all bid more. -/
import Derived.Test.YtkibglbccfjkpaaItw
import Derived.Test.YtkibglbccfjkpaaAsu
namespace Go.Proofs.Ytkibglbccfjkpaa.As
theorem vl_mm {m n : Nat} {F : Nat → Nat → Int} {i j : Nat} (hi : i < m) (hj : j < n) : vl (mm m n F) i j = F i j := by
  unfold vl; rw [mm_get hi, el_ml hj]
theorem vl_mm0 {m n : Nat} {F : Nat → Nat → Int} {i j : Nat} (h : ¬ (i < m ∧ j < n)) : vl (mm m n F) i j = 0 := by
  unfold vl
  by_cases hi : i < m
  · rw [mm_get hi]
    unfold el
    rw [List.getD_eq_getElem?_getD, List.getElem?_eq_none (by rw [ml_len]; omega)]; rfl
  · rw [List.getD_eq_getElem?_getD, List.getElem?_eq_none (by rw [mm_len]; omega)]; rfl
theorem ok_mm {n : Nat} {F : Nat → Nat → Int} (n1 : 1 ≤ n) (n6 : n ≤ 6) (h : ∀ i j, i < n → j < n → 0 ≤ F i j ∧ F i j ≤ 1000000) : Ok (mm n n F) := by
  refine ⟨by rw [mm_len]; exact n1, by rw [mm_len]; exact n6, fun i hi => ?_, fun i j => ?_⟩
  · rw [mm_len] at hi ⊢
    rw [mm_get hi, ml_len]
  · by_cases hij : i < n ∧ j < n
    · rw [vl_mm hij.1 hij.2]; exact h i j hij.1 hij.2
    · rw [vl_mm0 hij]; omega
theorem ok_chk {V : List (List Int)} (h : Ok V) : chk V = 0 := by
  unfold chk
  have n1 := h.n1
  have n6 := h.n6
  rw [if_neg (by omega), if_neg (by omega), if_pos]
  refine all_yes fun k hk => ?_
  rw [isL_eq, decide_eq_true (by rw [h.row k hk]), any_no fun j _ => ?_]
  · rfl
  · have := h.bd k j
    unfold vl at this
    unfold bad; rw [Bool.or_eq_false_iff, decide_eq_false_iff_not, decide_eq_false_iff_not]; omega
theorem bsv_ok {V : List (List Int)} (h : Ok V) : bsv V = wr V (bst V) := by unfold bsv; rw [if_pos (ok_chk h)]
theorem prl_ok {V : List (List Int)} (h : Ok V) : prl V = lp V (bst V) := by unfold prl; rw [if_pos (ok_chk h)]
/-- What V is with its items in another order. -/
def po (V : List (List Int)) (ord : List Nat) : List (List Int) := mm V.length V.length (fun i j => vl V i (ord.getD j 0))
theorem po_wr {V : List (List Int)} {ord a : List Nat} (ha : a.Perm (List.range V.length)) : wr (po V ord) a = wr V (a.map fun j => ord.getD j 0) := by
  obtain ⟨q1, q2⟩ := perm_lt ha
  rw [wr_eq _ _ (by unfold po; rw [mm_len, q1]), wr_eq _ _ (by rw [List.length_map, q1])]
  unfold po
  rw [mm_len]
  refine sm_congr fun i hi => ?_
  have hi' : i < V.length := by simpa using hi
  rw [vl_mm hi' (q2 i hi')]
  have e1 : (a.map (fun j => ord.getD j 0)).getD i 0 = ord.getD (a.getD i 0) 0 := by rw [getD_lt (l := a.map _) (by simp; omega), List.getElem_map, getD_lt (l := a) (by omega)]
  rw [e1]
theorem po_perm {n : Nat} {ord a : List Nat} (ho : ord.Perm (List.range n)) (ha : a.Perm (List.range n)) : (a.map fun j => ord.getD j 0).Perm (List.range n) := by
  have h1 := ha.map (fun j => ord.getD j 0)
  have hl : ord.length = n := by simpa using ho.length_eq
  have h2 : (List.range n).map (fun j => ord.getD j 0) = ord := by rw [← hl]; exact range_getD ord
  rw [h2] at h1
  exact h1.trans ho
/-- The greatest value is the same. -/
theorem po_bsv {V : List (List Int)} (ok : Ok V) {ord : List Nat} (ho : ord.Perm (List.range V.length)) (hok : Ok (po V ord)) : bsv (po V ord) = bsv V := by
  rw [bsv_ok ok, bsv_ok hok]
  have t1 := bst_top ok
  have t2 := bst_top hok
  have hl : (po V ord).length = V.length := by unfold po; rw [mm_len]
  have p2 := t2.perm
  rw [hl] at p2
  have hlo : ord.length = V.length := by simpa using ho.length_eq
  have hnd : ord.Nodup := ho.nodup_iff.2 List.nodup_range
  have le1 : wr (po V ord) (bst (po V ord)) ≤ wr V (bst V) := by
    rw [po_wr p2]; exact t1.top _ (po_perm ho p2)
  have le2 : wr V (bst V) ≤ wr (po V ord) (bst (po V ord)) := by
    have hmap : ((bst V).map (fun z => ord.idxOf z)).Perm (List.range V.length) := by
      have h1 := (t1.perm.trans ho.symm).map (fun z => ord.idxOf z)
      have h2 : ord.map (fun z => ord.idxOf z) = List.range V.length := by
        refine List.ext_getElem (by simp [hlo]) fun i h1 h2 => ?_
        rw [List.getElem_map, List.getElem_range]
        have := idxOf_getD hnd (i := i) (by simpa using h1)
        rwa [getD_lt (by simpa using h1)] at this
      rw [h2] at h1
      exact h1
    have h3 := t2.top ((bst V).map fun z => ord.idxOf z) (by rw [hl]; exact hmap)
    rw [po_wr hmap, List.map_map] at h3
    have h4 : (bst V).map ((fun j => ord.getD j 0) ∘ fun z => ord.idxOf z) = bst V := by
      conv => rhs; rw [← List.map_id (bst V)]
      refine List.map_congr_left fun z hz => ?_
      have hz' : z ∈ ord := ho.mem_iff.2 (t1.perm.mem_iff.1 hz)
      have hi := List.idxOf_lt_length_iff.2 hz'
      simp only [Function.comp, id]
      rw [getD_lt hi]; exact List.getElem_idxOf hi
    rw [h4] at h3
    exact h3
  omega
/-- V with more bid for an item by all. -/
def gro (V : List (List Int)) (it : Nat) (more : Int) : List (List Int) := mm V.length V.length (fun i j => if j = it then vl V i j + more else vl V i j)
theorem sm_single {n it : Nat} (h : it < n) (m : Int) : sm (fun z => if z = it then m else 0) (List.range n) = m := by
  obtain ⟨D, hD, hno⟩ := split_perm (ks := [it]) (by simp) List.nodup_range (b := List.range n) (by simpa using h)
  rw [← sm_perm hD]
  simp only [List.singleton_append, sm, if_true]
  rw [sm_zero fun z hz => if_neg (by simpa using hno z hz)]; omega
theorem gro_wr {V : List (List Int)} {it : Nat} (hit : it < V.length) (more : Int) {a : List Nat} (ha : a.Perm (List.range V.length)) : wr (gro V it more) a = wr V a + more := by
  obtain ⟨q1, q2⟩ := perm_lt ha
  rw [wr_eq _ _ (by unfold gro; rw [mm_len, q1]), wr_eq _ _ q1]
  have h1 : sm (fun i => if a.getD i 0 = it then more else 0) (List.range V.length) = more := by
    rw [sm_getD q1 (fun z => if z = it then more else 0), sm_perm ha, sm_single hit]
  unfold gro
  rw [mm_len]
  have h2 : sm (fun i => vl (mm V.length V.length (fun i j => if j = it then vl V i j + more else vl V i j)) i (a.getD i 0) - vl V i (a.getD i 0)) (List.range V.length) = more := by
    rw [← h1]
    refine sm_congr fun i hi => ?_
    have hi' : i < V.length := by simpa using hi
    rw [vl_mm hi' (q2 i hi')]
    split <;> omega
  rw [sm_sub] at h2
  omega
theorem gro_all {V : List (List Int)} (ok : Ok V) {it : Nat} (hit : it < V.length) {more : Int} (hm : 0 ≤ more) (hok : Ok (gro V it more)) : bsv (gro V it more) = bsv V + more ∧ el (prl (gro V it more)) it ≤ el (prl V) it + more := by
  rw [bsv_ok ok, bsv_ok hok, prl_ok ok, prl_ok hok]
  have t1 := bst_top ok
  have t2 := bst_top hok
  have hl : (gro V it more).length = V.length := by unfold gro; rw [mm_len]
  have p2 := t2.perm
  rw [hl] at p2
  have h1 := t1.top _ p2
  have h2 := t2.top (bst V) (by rw [hl]; exact t1.perm)
  rw [gro_wr hit more p2, gro_wr hit more t1.perm] at h2
  refine ⟨by rw [gro_wr hit more p2]; omega, ?_⟩
  have hc := lp_cont t1
  have hc2 : Cont (gro V it more) (bst V) (fun j => el (lp V (bst V)) j + if j = it then more else 0) := by
    intro i j hi hj
    rw [hl] at hi hj
    have hb := (perm_lt t1.perm).2 i hi
    have := hc i j hi hj
    unfold gro
    rw [vl_mm hi hj, vl_mm hi hb]
    dsimp only
    split <;> split <;> omega
  have hc3 := hc2.other (b := bst (gro V it more)) (by rw [hl]; exact t1.perm) t2.perm (by rw [gro_wr hit more p2, gro_wr hit more t1.perm]; omega)
  have := lp_least t2 hc3 (fun j _ => by have := lp_nn t1 j; split <;> omega) (y := it) (by rw [hl]; exact hit)
  simpa using this
theorem po_ok {V : List (List Int)} (ok : Ok V) (ord : List Nat) : Ok (po V ord) := ok_mm ok.n1 ok.n6 fun i _ _ _ => ok.bd i _
end Go.Proofs.Ytkibglbccfjkpaa.As

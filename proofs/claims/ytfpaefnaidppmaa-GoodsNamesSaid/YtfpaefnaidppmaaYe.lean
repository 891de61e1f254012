/- Package assign: isList, isAssignment, Check, valueOf. Package assign: isAssignment, Check, valueOf, Value. Package assign: valueOf, Value, Proves. Package assign: sets of items as numbers. Package assign: greatest. -/
import Derived.Test.YtfpaefnaidppmaaYd
import Derived.IntWalk
import Derived.Deep.QuietTactic
import Derived.BigQuiet
import Derived.BigRegion
namespace Go.Proofs.Ytfpaefnaidppmaa
open Go.RowKit
namespace As
/-- A list of n numbers from 0 to m. -/
def isL (xs : List Int) (n m : Int) : Bool := decide ((xs.length : Int) = n) && xs.all (fun x => decide (0 ≤ x) && decide (x ≤ m))
def bad (x m : Int) : Bool := decide (x < 0) || decide (m < x)
def anyBad (xs : List Int) (m : Int) : Bool := (List.range xs.length).any (fun k => bad (el xs k) m)
theorem any_yes {xs : List Int} {m : Int} {k : Nat} (h : k < xs.length) (hb : bad (el xs k) m = true) : anyBad xs m = true := by
  unfold anyBad; rw [List.any_eq_true]; exact ⟨k, by simpa using h, hb⟩
theorem any_no {xs : List Int} {m : Int} (h : ∀ k, k < xs.length → bad (el xs k) m = false) : anyBad xs m = false := by
  unfold anyBad; rw [List.any_eq_false]; intro k hk; rw [h k (by simpa using hk)]; simp
theorem isL_eq (xs : List Int) (n m : Int) : isL xs n m = (decide ((xs.length : Int) = n) && !anyBad xs m) := by
  unfold isL
  congr 1
  rw [Bool.eq_iff_iff, List.all_eq_true, Bool.not_eq_true']
  constructor
  · intro h
    refine any_no fun k hk => ?_
    have := h _ (List.getElem_mem hk)
    unfold bad
    rw [show el xs k = xs[k] by unfold el; simp [hk]]
    simp at this ⊢; omega
  · intro h x hx
    obtain ⟨k, hk, rfl⟩ := List.mem_iff_getElem.1 hx
    unfold anyBad at h
    rw [List.any_eq_false] at h
    have := h k (by simpa using hk)
    unfold bad at this
    rw [show el xs k = xs[k] by unfold el; simp [hk]] at this
    simp at this ⊢; omega
/-- Are all lists as they should be? -/
def rowsOk (V : List (List Int)) : Bool := V.all (fun r => isL r V.length 1000000)
/-- Check's answer. -/
def chk (V : List (List Int)) : Int := if 6 < V.length then 4 else if V.length = 0 then 8 else if rowsOk V then 0 else 8
end As
end Go.Proofs.Ytfpaefnaidppmaa
namespace Go.Proofs.Ytfpaefnaidppmaa
open Go.RowKit
namespace As
/-- The numbers of items as ints. -/
def al (a : List Nat) : List Int := a.map (fun j : Nat => (j : Int))
/-- Is x one of the list? -/
def has (xs : List Int) (x : Int) : Bool := decide (x ∈ xs)
/-- Is it an assignment of n agents? -/
def isA (xs : List Int) (n : Nat) : Bool := decide (xs.length = n) && (List.range n).all (fun j : Nat => has xs j)
theorem el_al (a : List Nat) (i : Nat) : el (al a) i = ((a.getD i 0 : Nat) : Int) := by
  unfold el al
  simp only [List.getD_eq_getElem?_getD, List.getElem?_map]
  cases a[i]? <;> simp
theorem isA_perm {xs : List Int} {n : Nat} (h : isA xs n = true) : ∃ a : List Nat, xs = al a ∧ a.Perm (List.range n) := by
  unfold isA at h
  simp only [Bool.and_eq_true, has, decide_eq_true_eq, List.all_eq_true, List.mem_range] at h
  obtain ⟨hl, hm⟩ := h
  have hsub : (List.range n).map (fun j : Nat => (j : Int)) ⊆ xs := by
    intro x hx
    obtain ⟨j, hj, rfl⟩ := List.mem_map.1 hx
    exact hm j (by simpa using hj)
  have hnd : ((List.range n).map (fun j : Nat => (j : Int))).Nodup := by
    refine List.Pairwise.map _ (fun a b hab e => hab ?_) (List.nodup_range (n := n))
    exact Int.ofNat.inj e
  -- each element of xs is one of them: else there would be n + 1
  have hall : ∀ x ∈ xs, ∃ j, j < n ∧ x = (j : Int) := by
    intro x hx
    by_cases hc : x ∈ (List.range n).map (fun j : Nat => (j : Int))
    · obtain ⟨j, hj, rfl⟩ := List.mem_map.1 hc
      exact ⟨j, by simpa using hj, rfl⟩
    · exfalso
      have h1 : (x :: (List.range n).map (fun j : Nat => (j : Int))).Nodup := List.nodup_cons.2 ⟨hc, hnd⟩
      have h2 := List.Nodup.length_le_of_subset h1 (l₂ := xs) fun y hy => by
        rcases List.mem_cons.1 hy with rfl | hy
        · exact hx
        · exact hsub hy
      simp at h2
      omega
  have hperm : ((List.range n).map (fun j : Nat => (j : Int))).Perm xs := by
    have hn' : ((List.range n).map (fun j : Nat => (j : Int))).length = xs.length := by simp [hl]
    -- the same length, no repetition on one side: no repetition on the other one
    have key : ∀ (l m : List Int), l.Nodup → l ⊆ m → l.length = m.length → l.Perm m := by
      intro l
      induction l with
      | nil => intro m _ _ h; rw [List.eq_nil_of_length_eq_zero h.symm]
      | cons y l ih =>
        intro m hn hs h
        have hy : y ∈ m := hs (by simp)
        have hc := List.nodup_cons.1 hn
        have := ih (m.erase y) hc.2 (fun z hz => by
          have : z ≠ y := fun e => hc.1 (e ▸ hz)
          exact (List.mem_erase_of_ne this).2 (hs (by simp [hz]))) (by rw [List.length_erase_of_mem hy]; simp at h; omega)
        exact (this.cons y).trans (List.perm_cons_erase hy).symm
    exact key _ _ hnd hsub hn'
  refine ⟨xs.map Int.toNat, ?_, ?_⟩
  · unfold al
    rw [List.map_map]
    conv => lhs; rw [← List.map_id xs]
    refine List.map_congr_left fun x hx => ?_
    obtain ⟨j, _, rfl⟩ := hall x hx
    simp
  · have := (hperm.map Int.toNat).symm
    rw [List.map_map] at this
    have e : (List.range n).map (Int.toNat ∘ fun j : Nat => (j : Int)) = List.range n := by
      conv => rhs; rw [← List.map_id (List.range n)]
      exact List.map_congr_left fun x _ => by simp
    rw [e] at this
    exact this
theorem perm_isA {a : List Nat} {n : Nat} (h : a.Perm (List.range n)) : isA (al a) n = true := by
  unfold isA al
  simp only [Bool.and_eq_true, has, decide_eq_true_eq, List.all_eq_true, List.mem_range, List.length_map]
  refine ⟨by simpa using h.length_eq, fun j hj => ?_⟩
  exact List.mem_map.2 ⟨j, h.mem_iff.2 (by simpa using hj), rfl⟩
theorem al_len (a : List Nat) : (al a).length = a.length := by simp [al]
/-- Valid bids. -/
structure Ok (V : List (List Int)) : Prop where
  n1 : 1 ≤ V.length
  n6 : V.length ≤ 6
  row : ∀ i, i < V.length → (V.getD i []).length = V.length
  bd : ∀ i j, 0 ≤ vl V i j ∧ vl V i j ≤ 1000000
theorem rowsOk_def (V : List (List Int)) : rowsOk V = V.all (fun r => isL r V.length 1000000) := rfl
theorem chk_ok {V : List (List Int)} (h : chk V = 0) : Ok V := by
  unfold chk at h
  by_cases h6 : 6 < V.length
  · rw [if_pos h6] at h; cases h
  · rw [if_neg h6] at h
    by_cases h0 : V.length = 0
    · rw [if_pos h0] at h; cases h
    · rw [if_neg h0] at h
      by_cases ha : rowsOk V = true
      · have hr : ∀ i, i < V.length → isL (V.getD i []) V.length 1000000 = true := fun i hi => by
          rw [List.getD_eq_getElem?_getD, List.getElem?_eq_getElem hi]
          exact List.all_eq_true.1 ((rowsOk_def V).symm.trans ha) _ (List.getElem_mem hi)
        refine ⟨by omega, by omega, fun i hi => ?_, fun i j => ?_⟩
        · have := hr i hi
          unfold isL at this
          simp only [Bool.and_eq_true, decide_eq_true_eq] at this
          omega
        · unfold vl
          rcases Nat.lt_or_ge i V.length with hi | hi
          · have := hr i hi
            unfold isL at this
            simp only [Bool.and_eq_true, decide_eq_true_eq, List.all_eq_true] at this
            unfold el
            rw [List.getD_eq_getElem?_getD]
            rcases Nat.lt_or_ge j (V.getD i []).length with hj | hj
            · rw [List.getElem?_eq_getElem hj]
              exact this.2 _ (List.getElem_mem hj)
            · rw [List.getElem?_eq_none hj]; simp
          · have : V.getD i [] = [] := by rw [List.getD_eq_getElem?_getD, List.getElem?_eq_none hi]; rfl
            rw [this]; simp [el]
      · rw [if_neg ha] at h; cases h
theorem Ok.nn {V : List (List Int)} (h : Ok V) : Nn V := by
  intro r hr j
  obtain ⟨i, hi, rfl⟩ := List.mem_iff_getElem.1 hr
  have := (h.bd i j).1
  unfold vl at this
  rwa [List.getD_eq_getElem?_getD, List.getElem?_eq_getElem hi] at this
theorem all_yes {V : List (List Int)} (h : ∀ k, k < V.length → isL (V.getD k []) V.length 1000000 = true) : rowsOk V = true := by
  rw [rowsOk_def, List.all_eq_true]
  intro r hr
  obtain ⟨i, hi, rfl⟩ := List.mem_iff_getElem.1 hr
  have := h i hi
  rwa [List.getD_eq_getElem?_getD, List.getElem?_eq_getElem hi] at this
theorem all_no {V : List (List Int)} {k : Nat} (hk : k < V.length) (h : isL (V.getD k []) V.length 1000000 = false) : rowsOk V = false := by
  rw [rowsOk_def, List.all_eq_false]
  refine ⟨V[k], List.getElem_mem hk, ?_⟩
  rw [List.getD_eq_getElem?_getD, List.getElem?_eq_getElem hk] at h
  simpa using h
theorem all_has {xs : List Int} {k : Nat} {x : Int} (hk : k < xs.length) (h : el xs k = x) : has xs x = true := by
  have : el xs k = xs[k] := by unfold el; simp [hk]
  unfold has; rw [decide_eq_true_eq, ← h, this]; exact List.getElem_mem hk
theorem all_hasnt {xs : List Int} {x : Int} (h : ∀ k, k < xs.length → ¬ el xs k = x) : has xs x = false := by
  unfold has
  rw [decide_eq_false_iff_not]
  intro hm
  obtain ⟨k, hk, e⟩ := List.mem_iff_getElem.1 hm
  refine h k hk ?_
  rw [← e]; unfold el; simp [hk]
theorem isA_yes {xs : List Int} {n : Nat} (hl : xs.length = n) (h : ∀ j, j < n → has xs j = true) : isA xs n = true := by
  unfold isA; rw [decide_eq_true hl, Bool.true_and, List.all_eq_true]; intro j hj; exact h j (by simpa using hj)
theorem isA_no {xs : List Int} {n j : Nat} (hj : j < n) (h : has xs j = false) : isA xs n = false := by
  unfold isA
  have : (List.range n).all (fun j : Nat => has xs j) = false := by
    rw [List.all_eq_false]; exact ⟨j, by simpa using hj, by simpa using h⟩
  rw [this, Bool.and_false]
/-- Value's answer and error. -/
def valS (V : List (List Int)) (xs : List Int) : Int × Int := if chk V = 0 then (if isA xs V.length then (wr V (xs.map Int.toNat), 0) else (0, 8)) else (0, chk V)
theorem toNat_al (a : List Nat) : (al a).map Int.toNat = a := by
  unfold al; rw [List.map_map]
  conv => rhs; rw [← List.map_id a]
  exact List.map_congr_left fun x _ => by simp
theorem wr_bd {V : List (List Int)} (h : ∀ i j, 0 ≤ vl V i j ∧ vl V i j ≤ 1000000) (a : List Nat) : ∀ i, i ≤ V.length → i ≤ a.length → 0 ≤ wr (V.take i) (a.take i) ∧ wr (V.take i) (a.take i) ≤ i * 1000000
  | 0, _, _ => by simp [wr]
  | i + 1, h1, h2 => by
    have ih := wr_bd h a i (by omega) (by omega)
    rw [wr_take V a i (by omega) (by omega)]
    have := h i (a.getD i 0)
    omega
end As
set_option linter.unusedSimpArgs false in
set_option maxHeartbeats 2000000 in
theorem asIndex_any (A : Option Addr) (cap : Nat) (xs : List Int) (x : Int) (w : World) (hl : xs.length ≤ maxLen) (h : IsI w A xs) :
    Calls Try.prog 46 #[.slice A xs.length cap, .int .i64 x] w fun e w' => ∃ z : Int, e = .returned (.int .i64 z) ∧ (As.has xs x = true → 0 ≤ z) ∧ (As.has xs x = false → z = -1) ∧ Below w.heap.size w w' := by
  unfold maxLen at hl
  have HC := Lib.hid h
  clear h
  go_enter Try.func46, Try.ntmps46
  go_wp2_with fail
  go_loop [5, 8] (fun _ i => ∃ k : Nat, k ≤ xs.length ∧ i = .int .i64 k ∧ (∀ j, j < k → ¬ As.el xs j = x)) (fun _ i => xs.length - (intOf i).toNat)
  case atStart => exact ⟨0, Nat.zero_le _, rfl, fun j hj => absurd hj (Nat.not_lt_zero _)⟩
  case round =>
    obtain ⟨k, hk, rfl, hok⟩ := hrel
    have HOK := Lib.hid hok
    clear hok
    by_cases hlt : k < xs.length
    · obtain ⟨b, off, rfl, hcs⟩ := HC.out.1 (by omega)
      have c0 := hcs k hlt
      clear hcs
      by_cases hh : As.el xs k = x
      · have EB := Lib.hid (As.all_has hlt hh)
        have e1 : (x == As.el xs k) = true := by simpa using hh.symm
        clear hh
        generalize As.el xs k = y at *
        go_wp2_with fail
        go_ret
        first
          | exact ⟨fun _ => by omega, fun h => (by rw [EB.out] at h; cases h), Below.refl _ _⟩
          | exact ⟨_, rfl, fun _ => by omega, fun h => (by rw [EB.out] at h; cases h), Below.refl _ _⟩
      · have e1 : (x == As.el xs k) = false := by simpa using fun e => hh e.symm
        have EB := Lib.hid hh
        clear hh
        generalize As.el xs k = y at e1 c0
        go_wp2_with fail
        go_round
        case rel => exact ⟨k + 1, by omega, by go_num, fun j hj => (Nat.lt_succ_iff_lt_or_eq.1 hj).elim (HOK.out j) (fun e => e ▸ EB.out)⟩
        case measure => simp [intOf]; omega
    · obtain rfl : k = xs.length := by omega
      have EB := Lib.hid (As.all_hasnt HOK.out)
      clear HC HOK
      go_wp2_with fail
      go_ret
      first
        | exact ⟨fun h => (by rw [EB.out] at h; cases h), fun _ => rfl, Below.refl _ _⟩
        | exact ⟨_, rfl, fun h => (by rw [EB.out] at h; cases h), fun _ => rfl, Below.refl _ _⟩
end Go.Proofs.Ytfpaefnaidppmaa
namespace Go.Proofs.Ytfpaefnaidppmaa
open Go.RowKit
namespace As
theorem take_all {α : Type} {l : List α} {n : Nat} (h : l.length = n) : l.take n = l := by subst h; exact List.take_length
/-- Would the agent i not rather have another item? -/
def rowB (V : List (List Int)) (a : List Nat) (p : List Int) (i : Nat) : Bool := (List.range V.length).all (fun j => !decide (vl V i (a.getD i 0) - el p (a.getD i 0) < vl V i j - el p j))
/-- Do prices prove an assignment? -/
def contB (V : List (List Int)) (a : List Nat) (p : List Int) : Bool := (List.range V.length).all (rowB V a p)
theorem rowB_yes {V : List (List Int)} {a : List Nat} {p : List Int} {i : Nat} (h : ∀ j, j < V.length → vl V i j - el p j ≤ vl V i (a.getD i 0) - el p (a.getD i 0)) : rowB V a p i = true := by
  unfold rowB; rw [List.all_eq_true]; intro j hj; have := h j (by simpa using hj); rw [Bool.not_eq_true', decide_eq_false_iff_not]; omega
theorem contB_no {V : List (List Int)} {a : List Nat} {p : List Int} {i j : Nat} (hi : i < V.length) (hj : j < V.length) (h : vl V i (a.getD i 0) - el p (a.getD i 0) < vl V i j - el p j) : contB V a p = false := by
  unfold contB; rw [List.all_eq_false]; refine ⟨i, by simpa using hi, ?_⟩
  unfold rowB; rw [Bool.not_eq_true, List.all_eq_false]; exact ⟨j, by simpa using hj, by simpa using h⟩
theorem contB_yes {V : List (List Int)} {a : List Nat} {p : List Int} (h : ∀ i, i < V.length → rowB V a p i = true) : contB V a p = true := by
  unfold contB; rw [List.all_eq_true]; intro i hi; exact h i (by simpa using hi)
/-- Proves' answer and error. -/
def prvS (V : List (List Int)) (xs ps : List Int) : Bool × Int := if chk V = 0 then (if isA xs V.length && isL ps V.length 10000000 then (contB V (xs.map Int.toNat) ps, 0) else (false, 8)) else (false, chk V)
theorem chk_cases (V : List (List Int)) : chk V = 0 ∨ (chk V != 0) = true ∧ chk V ≠ 0 := by
  by_cases h : chk V = 0
  · exact .inl h
  · exact .inr ⟨by rw [bne_iff_ne]; exact h, h⟩
theorem isL_bd {ps : List Int} {n m : Int} (hm : 0 ≤ m) (h : isL ps n m = true) : (ps.length : Int) = n ∧ ∀ j, 0 ≤ el ps j ∧ el ps j ≤ m := by
  unfold isL at h
  simp only [Bool.and_eq_true, decide_eq_true_eq, List.all_eq_true] at h
  refine ⟨h.1, fun j => ?_⟩
  unfold el
  rw [List.getD_eq_getElem?_getD]
  rcases Nat.lt_or_ge j ps.length with hj | hj
  · rw [List.getElem?_eq_getElem hj]
    exact h.2 _ (List.getElem_mem hj)
  · rw [List.getElem?_eq_none hj]; exact ⟨by simp, by simpa using hm⟩
theorem perm_lt {a : List Nat} {n : Nat} (h : a.Perm (List.range n)) : a.length = n ∧ ∀ i, i < n → a.getD i 0 < n := by
  have hl : a.length = n := by simpa using h.length_eq
  refine ⟨hl, fun i hi => ?_⟩
  have hm : a.getD i 0 ∈ a := by rw [getD_lt (by omega)]; exact List.getElem_mem (by omega)
  simpa using h.mem_iff.1 hm
end As
end Go.Proofs.Ytfpaefnaidppmaa
namespace Go.Proofs.Ytfpaefnaidppmaa
open Go.RowKit
namespace As
/-- A set without an item. -/
def wo (s j : Nat) : Nat := if s.testBit j then s - 2 ^ j else s
/-- The items of a set, of n items. -/
def its (n s : Nat) : List Nat := (List.range n).filter (fun j => s.testBit j)
end As
theorem wo_bits : ∀ s : Nat, s < 64 → ∀ j : Nat, j < 6 → bits BinOp.andNot IntKind.i64 (s : Int) (wrap64 (2 ^ j)) = (As.wo s j : Int) := by decide +kernel
end Go.Proofs.Ytfpaefnaidppmaa
namespace Go.Proofs.Ytfpaefnaidppmaa
open Go.RowKit
namespace As
theorem its_erase : ∀ s : Nat, s < 64 → ∀ n : Nat, n < 7 → ∀ j : Nat, j < n → s.testBit j = true → (its n s).erase j = its n (wo s j) := by decide +kernel
theorem its_wo_len : ∀ s : Nat, s < 64 → ∀ n : Nat, n < 7 → ∀ j : Nat, j < n → s.testBit j = true → (its n (wo s j)).length + 1 = (its n s).length := by decide +kernel
theorem its_six : ∀ n : Nat, n < 7 → ∀ s : Nat, s < 2 ^ n → (its 6 s).length = (its n s).length := by decide +kernel
theorem its_le (n s : Nat) : (its n s).length ≤ n := by have := List.length_filter_le (fun j => s.testBit j) (List.range n); simpa [its] using this
theorem wo_lt : ∀ s : Nat, s < 64 → ∀ j : Nat, j < 6 → s.testBit j = true → wo s j < s := by decide +kernel
theorem wo_ne : ∀ s : Nat, s < 64 → ∀ j : Nat, j < 6 → s.testBit j = false → wo s j = s := by decide +kernel
theorem its_all : ∀ n : Nat, n < 7 → its n (2 ^ n - 1) = List.range n := by decide +kernel
/-- What the last agents can have of a set. -/
def mst (V : List (List Int)) (s : Nat) : Int := opt (V.drop (V.length - (its V.length s).length)) (its V.length s)
/-- The greatest one of the first items' values. -/
def pm (V : List (List Int)) (s m : Nat) : Int := ((List.range m).filter (fun j => s.testBit j)).foldl (fun acc j => max acc (vl V (V.length - (its V.length s).length) j + mst V (wo s j))) 0
theorem pm_succ (V : List (List Int)) (s m : Nat) : pm V s (m + 1) = if s.testBit m = true then max (pm V s m) (vl V (V.length - (its V.length s).length) m + mst V (wo s m)) else pm V s m := by
  unfold pm
  rw [List.range_succ, List.filter_append, List.foldl_append]
  by_cases h : s.testBit m = true
  · rw [if_pos h]; simp [h]
  · rw [if_neg h]; simp [h]
theorem fold_congr {f g : Nat → Int} : ∀ {L : List Nat} {m : Int}, (∀ j ∈ L, f j = g j) → L.foldl (fun m j => max m (f j)) m = L.foldl (fun m j => max m (g j)) m
  | [], _, _ => rfl
  | x :: L, m, h => by
    simp only [List.foldl_cons]
    rw [h x (by simp)]
    exact fold_congr fun j hj => h j (by simp [hj])
theorem mem_its {n s j : Nat} : j ∈ its n s ↔ j < n ∧ s.testBit j = true := by unfold its; simp
theorem pm_end {V : List (List Int)} (n6 : V.length ≤ 6) {s : Nat} (hs : s < 64) : pm V s V.length = mst V s := by
  have hle := its_le V.length s
  by_cases h0 : (its V.length s).length = 0
  · have e : its V.length s = [] := List.eq_nil_of_length_eq_zero h0
    have e' : (List.range V.length).filter (fun j => s.testBit j) = [] := e
    unfold pm mst
    rw [e', e]
    simp [opt]
  · have hlt : V.length - (its V.length s).length < V.length := by omega
    unfold mst
    rw [List.drop_eq_getElem_cons hlt]
    simp only [opt]
    unfold pm
    refine fold_congr fun j hj => ?_
    have hj' := mem_its.1 hj
    have e1 : vl V (V.length - (its V.length s).length) j = el V[V.length - (its V.length s).length] j := by unfold vl; rw [getD_lt hlt]
    rw [e1]
    congr 1
    have e2 := its_erase s hs V.length (by omega) j hj'.1 hj'.2
    have e3 := its_wo_len s hs V.length (by omega) j hj'.1 hj'.2
    unfold mst
    have e4 : ((List.range V.length).filter (fun j => s.testBit j)).erase j = its V.length (wo s j) := e2
    rw [e2]
    congr 2
    omega
theorem opt_bd : ∀ (R : List (List Int)) (L : List Nat), (∀ r ∈ R, ∀ j, el r j ≤ 1000000) → opt R L ≤ R.length * 1000000
  | [], _, _ => by simp [opt]
  | r :: R, L, h => by
    have ih := fun j => opt_bd R (L.erase j) (fun x hx => h x (by simp [hx]))
    have e : opt (r :: R) L = L.foldl (fun m j => max m (el r j + opt R (L.erase j))) 0 := rfl
    rcases fm_at (fun j => el r j + opt R (L.erase j)) L 0 with h1 | ⟨j, hj, h1⟩
    · rw [e, h1]; omega
    · rw [e, h1]
      have := h r (by simp) j
      have := ih j
      simp only [List.length_cons]
      omega
theorem mst_bd {V : List (List Int)} (n6 : V.length ≤ 6) (h : ∀ r ∈ V, ∀ j, el r j ≤ 1000000) (s : Nat) : 0 ≤ mst V s ∧ mst V s ≤ 6000000 := by
  refine ⟨opt_nn _ _, ?_⟩
  have h1 := opt_bd (V.drop (V.length - (its V.length s).length)) (its V.length s) (fun r hr => h r (List.mem_of_mem_drop hr))
  have h2 : (V.drop (V.length - (its V.length s).length)).length ≤ 6 := by simp; omega
  unfold mst; omega
theorem pm_nn (V : List (List Int)) (s m : Nat) : 0 ≤ pm V s m := (fm_ge (fun j => vl V (V.length - (its V.length s).length) j + mst V (wo s j)) _ 0).1
theorem pm_bd {V : List (List Int)} (n6 : V.length ≤ 6) (h : ∀ r ∈ V, ∀ j, el r j ≤ 1000000) (h2 : ∀ i j, vl V i j ≤ 1000000) (s m : Nat) : pm V s m ≤ 7000000 := by
  rcases fm_at (fun j => vl V (V.length - (its V.length s).length) j + mst V (wo s j)) ((List.range m).filter (fun j => s.testBit j)) 0 with h1 | ⟨j, hj, h1⟩
  · unfold pm; omega
  · have := h2 (V.length - (its V.length s).length) j
    have := (mst_bd n6 h (wo s j)).2
    unfold pm; omega
theorem le_of_vl {V : List (List Int)} (h : ∀ i j, vl V i j ≤ 1000000) : ∀ r ∈ V, ∀ j, el r j ≤ 1000000 := by
  intro r hr j
  obtain ⟨i, hi, rfl⟩ := List.mem_iff_getElem.1 hr
  have := h i j
  unfold vl at this
  rwa [getD_lt hi] at this
/-- What the table holds while it is filled. -/
def tb (V : List (List Int)) (s m k : Nat) : Int := if k < s then mst V k else if k = s then pm V s m else 0
theorem tb_zero (V : List (List Int)) (k : Nat) : tb V 0 0 k = 0 := by unfold tb; rw [if_neg (by omega)]; split <;> simp [pm]
theorem tb_next {V : List (List Int)} (n6 : V.length ≤ 6) {s : Nat} (hs : s < 64) (k : Nat) : tb V s V.length k = tb V (s + 1) 0 k := by
  unfold tb
  by_cases h1 : k < s
  · rw [if_pos h1, if_pos (by omega)]
  · rw [if_neg h1]
    by_cases h2 : k = s
    · subst h2
      rw [if_pos rfl, if_pos (by omega), pm_end n6 hs]
    · rw [if_neg h2, if_neg (by omega)]
      split <;> simp [pm]
theorem tb_skip {V : List (List Int)} {s m : Nat} (h : s.testBit m = false) (k : Nat) : tb V s m k = tb V s (m + 1) k := by
  unfold tb; rw [pm_succ, h]; simp
theorem tb_put {V : List (List Int)} {s m : Nat} (h : s.testBit m = true) (k : Nat) : (if k = s then max (pm V s m) (vl V (V.length - (its V.length s).length) m + mst V (wo s m)) else tb V s m k) = tb V s (m + 1) k := by
  unfold tb
  rw [pm_succ, if_pos h]
  by_cases e : k = s
  · subst e; simp
  · simp only [if_neg e]
theorem tb_end {V : List (List Int)} {N k : Nat} (h : k < N) : tb V N 0 k = mst V k := by unfold tb; rw [if_pos h]
theorem pow_bd : ∀ n : Nat, n < 7 → 1 ≤ 2 ^ n ∧ 2 ^ n ≤ 64 ∧ wrap64 (2 ^ n) = ((2 ^ n : Nat) : Int) := by decide +kernel
end As
theorem imax (a b : Int) : (if a < b then b else a) = max a b := by omega
end Go.Proofs.Ytfpaefnaidppmaa

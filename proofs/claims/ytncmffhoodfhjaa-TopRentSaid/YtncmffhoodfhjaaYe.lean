/- Package assign: isList, isAssignment, Check, valueOf. Package assign: isAssignment, Check, valueOf, Value. Package assign: valueOf, Value, Proves. Package assign: sets of items as numbers. Package assign: greatest. -/
import Derived.Test.YtncmffhoodfhjaaYd
import Derived.IntWalk
import Derived.Deep.QuietTactic
import Derived.BigQuiet
import Derived.BigRegion
namespace Go.Proofs.Ytncmffhoodfhjaa
open Go.RowKit
namespace As
/-- A list of n numbers from 0 to m. -/
def isL (xs : List Int) (n m : Int) : Bool := decide ((xs.length : Int) = n) && xs.all (fun x => decide (0 ≤ x) && decide (x ≤ m))
def bad (x m : Int) : Bool := decide (x < 0) || decide (m < x)
def anyBad (xs : List Int) (m : Int) : Bool := (List.range xs.length).any (fun k => bad (el xs k) m)
theorem any_yes {xs : List Int} {m : Int} {k : Nat} (h : k < xs.length) (hb : bad (el xs k) m = true) : anyBad xs m = true := by
  unfold anyBad; rw [List.any_eq_true]; exact ⟨k, by simpa using h, hb⟩
theorem any_no {xs : List Int} {m : Int} (h : ∀ k, k < xs.length → bad (el xs k) m = false) : anyBad xs m = false := by
  unfold anyBad; rw [List.any_eq_false]; intro k hk; rw [h k (by simpa using hk)]; simp
theorem isL_eq (xs : List Int) (n m : Int) : isL xs n m = (decide ((xs.length : Int) = n) && !anyBad xs m) := by
  unfold isL
  congr 1
  rw [Bool.eq_iff_iff, List.all_eq_true, Bool.not_eq_true']
  constructor
  · intro h
    refine any_no fun k hk => ?_
    have := h _ (List.getElem_mem hk)
    unfold bad
    rw [show el xs k = xs[k] by unfold el; simp [hk]]
    simp at this ⊢; omega
  · intro h x hx
    obtain ⟨k, hk, rfl⟩ := List.mem_iff_getElem.1 hx
    unfold anyBad at h
    rw [List.any_eq_false] at h
    have := h k (by simpa using hk)
    unfold bad at this
    rw [show el xs k = xs[k] by unfold el; simp [hk]] at this
    simp at this ⊢; omega
/-- Are all lists as they should be? -/
def rowsOk (V : List (List Int)) : Bool := V.all (fun r => isL r V.length 1000000)
/-- Check's answer. -/
def chk (V : List (List Int)) : Int := if 6 < V.length then 4 else if V.length = 0 then 8 else if rowsOk V then 0 else 8
end As
set_option maxHeartbeats 1000000 in
theorem isl1_any (x m : Int) (p : Nat) (w : World) (hc : w.cell? ⟨p, 0, none⟩ = some (.int .i64 m)) :
    Calls Try.prog 89 #[.int .i64 x, .pointer (some ⟨p, 0, none⟩)] w fun e w' => e = .returned (.bool (As.bad x m)) ∧ Below w.heap.size w w' := by
  unfold As.bad
  by_cases h1 : x < 0
  · have e1 : decide (x < 0) = true := decide_eq_true h1
    rw [e1, Bool.true_or]
    go_enter Try.func89, Try.ntmps89
    go_wp2_with fail
    go_ret
    exact ⟨rfl, Below.refl _ _⟩
  · have e1 : decide (x < 0) = false := decide_eq_false h1
    rw [e1, Bool.false_or]
    generalize hz : decide (m < x) = z
    go_enter Try.func89, Try.ntmps89
    go_wp2_with fail
    go_ret
    exact ⟨by rw [← hz]; rfl, Below.refl _ _⟩
set_option linter.unusedSimpArgs false in
set_option maxHeartbeats 2000000 in
theorem asIndexF_any (A : Option Addr) (cap : Nat) (xs : List Int) (m : Int) (p : Nat) (w : World) (hl : xs.length ≤ maxLen) (h : IsI w A xs) (hc : w.cell? ⟨p, 0, none⟩ = some (.int .i64 m)) :
    Calls Try.prog 99 #[.slice A xs.length cap, .func (.func 89) #[] #[.pointer (some ⟨p, 0, none⟩)]] w fun e w' => ∃ z : Int, e = .returned (.int .i64 z) ∧ (As.anyBad xs m = true → 0 ≤ z) ∧ (As.anyBad xs m = false → z = -1) ∧ Below w.heap.size w w' := by
  unfold maxLen at hl
  have HC := Lib.hid h
  have HP := Lib.hid hc
  clear h hc
  go_enter Try.func99, Try.ntmps99
  go_wp2_with fail
  go_loopw [5, 8] (fun _ i W => ∃ k : Nat, k ≤ xs.length ∧ i = .int .i64 k ∧ (∀ j, j < k → As.bad (As.el xs j) m = false) ∧ Below w.heap.size w W) (fun _ i _ => xs.length - (intOf i).toNat)
  case atStart => exact ⟨0, Nat.zero_le _, rfl, fun j hj => absurd hj (Nat.not_lt_zero _), Below.refl _ _⟩
  case round =>
    obtain ⟨k, hk, rfl, hok, hbb⟩ := hrel
    have HOK := Lib.hid hok
    clear hok
    by_cases hlt : k < xs.length
    · obtain ⟨b, off, rfl, hcs⟩ := HC.out.1 (by omega)
      have c0 := keepC hbb (hcs k hlt)
      clear hcs
      have hv := isl1_any (As.el xs k) m p wr (keepC hbb HP.out)
      by_cases hh : As.bad (As.el xs k) m = true
      · rw [hh] at hv
        have HV := Lib.hid hv
        have EB := Lib.hid (As.any_yes hlt hh)
        clear hv hh
        generalize As.el xs k = x at *
        go_wp2_with fail
        refine HV.out.mono ?_
        rintro e w1 ⟨rfl, hb1⟩
        replace hbb := keepB hbb hb1
        clear hb1
        go_wp2_with fail
        go_ret
        first
          | exact ⟨fun _ => by omega, fun h => (by rw [EB.out] at h; cases h), hbb⟩
          | exact ⟨_, rfl, fun _ => by omega, fun h => (by rw [EB.out] at h; cases h), hbb⟩
      · have hh : As.bad (As.el xs k) m = false := by simpa using hh
        rw [hh] at hv
        have HV := Lib.hid hv
        have EB := Lib.hid hh
        clear hv hh
        generalize As.el xs k = x at HV c0
        go_wp2_with fail
        refine HV.out.mono ?_
        rintro e w1 ⟨rfl, hb1⟩
        replace hbb := keepB hbb hb1
        clear hb1 c0
        go_wp2_with fail
        go_roundw
        case rel => exact ⟨k + 1, by omega, by go_num, fun j hj => (Nat.lt_succ_iff_lt_or_eq.1 hj).elim (HOK.out j) (fun e => e ▸ EB.out), hbb⟩
        case measure => simp [intOf]; omega
    · obtain rfl : k = xs.length := by omega
      have EB := Lib.hid (As.any_no HOK.out)
      clear HC HOK
      go_wp2_with fail
      go_ret
      first
        | exact ⟨fun h => (by rw [EB.out] at h; cases h), fun _ => rfl, hbb⟩
        | exact ⟨_, rfl, fun h => (by rw [EB.out] at h; cases h), fun _ => rfl, hbb⟩
set_option maxHeartbeats 1000000 in
theorem asContainsF_any (A : Option Addr) (cap : Nat) (xs : List Int) (m : Int) (p : Nat) (w : World) (hl : xs.length ≤ maxLen) (h : IsI w A xs) (hc : w.cell? ⟨p, 0, none⟩ = some (.int .i64 m)) :
    Calls Try.prog 88 #[.slice A xs.length cap, .func (.func 89) #[] #[.pointer (some ⟨p, 0, none⟩)]] w fun e w' => e = .returned (.bool (As.anyBad xs m)) ∧ Below w.heap.size w w' := by
  have IX := Lib.hid (asIndexF_any A cap xs m p w hl h hc)
  generalize hz : As.anyBad xs m = b at *
  clear hl h hc hz
  go_enter Try.func88, Try.ntmps88
  go_wp2_with fail
  refine IX.out.mono ?_
  rintro e w1 ⟨z, rfl, h1, h2, hb1⟩
  cases b
  · obtain rfl := h2 rfl
    clear h1 h2
    go_wp2_with fail
    go_ret
    exact ⟨rfl, hb1⟩
  · have h3 := h1 rfl
    have hd : decide ((0 : Int) ≤ z) = true := decide_eq_true h3
    clear h1 h2
    go_wp2_with fail
    go_ret
    exact ⟨rfl, hb1⟩
set_option maxHeartbeats 1000000 in
theorem isList_any (A : Option Addr) (cap : Nat) (xs : List Int) (n m : Int) (w : World) (hl : xs.length ≤ maxLen) (h : IsI w A xs) :
    Calls Try.prog 75 #[.slice A xs.length cap, .int .i64 n, .int .i64 m] w fun e w' => e = .returned (.bool (As.isL xs n m)) ∧ Below w.heap.size w w' := by
  rw [As.isL_eq]
  by_cases hn : (xs.length : Int) = n
  · have HX := Lib.hid (fun v p (hv : Below w.heap.size w v) (hc : v.cell? ⟨p, 0, none⟩ = some (.int .i64 m)) => asContainsF_any A cap xs m p v hl (h.keep hv) hc)
    subst hn
    have e0 : decide ((xs.length : Int) = (xs.length : Int)) = true := by simp
    rw [e0, Bool.true_and]
    generalize As.anyBad xs m = z at *
    clear hl h e0
    go_enter Try.func75, Try.ntmps75
    go_wp2_with fail
    refine (HX.out _ _ (below_al (Below.refl _ _) _) (by go_simp)).mono ?_
    rintro e w1 ⟨rfl, hb1⟩
    have hbb := keepB (below_al (Below.refl _ _) _) hb1
    clear hb1
    go_wp2_with fail
    go_ret
    exact ⟨by cases z <;> rfl, hbb⟩
  · have e0 : ((xs.length : Int) == n) = false := by simpa using hn
    have e1 : decide ((xs.length : Int) = n) = false := by simpa using hn
    rw [e1, Bool.false_and]
    clear hl h hn e1
    go_enter Try.func75, Try.ntmps75
    go_wp2_with fail
    go_ret
    exact ⟨rfl, below_al (Below.refl _ _) _⟩
end Go.Proofs.Ytncmffhoodfhjaa
namespace Go.Proofs.Ytncmffhoodfhjaa
open Go.RowKit
namespace As
/-- The numbers of items as ints. -/
def al (a : List Nat) : List Int := a.map (fun j : Nat => (j : Int))
/-- Is x one of the list? -/
def has (xs : List Int) (x : Int) : Bool := decide (x ∈ xs)
/-- Is it an assignment of n agents? -/
def isA (xs : List Int) (n : Nat) : Bool := decide (xs.length = n) && (List.range n).all (fun j : Nat => has xs j)
theorem el_al (a : List Nat) (i : Nat) : el (al a) i = ((a.getD i 0 : Nat) : Int) := by
  unfold el al
  simp only [List.getD_eq_getElem?_getD, List.getElem?_map]
  cases a[i]? <;> simp
theorem isA_perm {xs : List Int} {n : Nat} (h : isA xs n = true) : ∃ a : List Nat, xs = al a ∧ a.Perm (List.range n) := by
  unfold isA at h
  simp only [Bool.and_eq_true, has, decide_eq_true_eq, List.all_eq_true, List.mem_range] at h
  obtain ⟨hl, hm⟩ := h
  have hsub : (List.range n).map (fun j : Nat => (j : Int)) ⊆ xs := by
    intro x hx
    obtain ⟨j, hj, rfl⟩ := List.mem_map.1 hx
    exact hm j (by simpa using hj)
  have hnd : ((List.range n).map (fun j : Nat => (j : Int))).Nodup := by
    refine List.Pairwise.map _ (fun a b hab e => hab ?_) (List.nodup_range (n := n))
    exact Int.ofNat.inj e
  -- each element of xs is one of them: else there would be n + 1
  have hall : ∀ x ∈ xs, ∃ j, j < n ∧ x = (j : Int) := by
    intro x hx
    by_cases hc : x ∈ (List.range n).map (fun j : Nat => (j : Int))
    · obtain ⟨j, hj, rfl⟩ := List.mem_map.1 hc
      exact ⟨j, by simpa using hj, rfl⟩
    · exfalso
      have h1 : (x :: (List.range n).map (fun j : Nat => (j : Int))).Nodup := List.nodup_cons.2 ⟨hc, hnd⟩
      have h2 := List.Nodup.length_le_of_subset h1 (l₂ := xs) fun y hy => by
        rcases List.mem_cons.1 hy with rfl | hy
        · exact hx
        · exact hsub hy
      simp at h2
      omega
  have hperm : ((List.range n).map (fun j : Nat => (j : Int))).Perm xs := by
    have hn' : ((List.range n).map (fun j : Nat => (j : Int))).length = xs.length := by simp [hl]
    -- the same length, no repetition on one side: no repetition on the other one
    have key : ∀ (l m : List Int), l.Nodup → l ⊆ m → l.length = m.length → l.Perm m := by
      intro l
      induction l with
      | nil => intro m _ _ h; rw [List.eq_nil_of_length_eq_zero h.symm]
      | cons y l ih =>
        intro m hn hs h
        have hy : y ∈ m := hs (by simp)
        have hc := List.nodup_cons.1 hn
        have := ih (m.erase y) hc.2 (fun z hz => by
          have : z ≠ y := fun e => hc.1 (e ▸ hz)
          exact (List.mem_erase_of_ne this).2 (hs (by simp [hz]))) (by rw [List.length_erase_of_mem hy]; simp at h; omega)
        exact (this.cons y).trans (List.perm_cons_erase hy).symm
    exact key _ _ hnd hsub hn'
  refine ⟨xs.map Int.toNat, ?_, ?_⟩
  · unfold al
    rw [List.map_map]
    conv => lhs; rw [← List.map_id xs]
    refine List.map_congr_left fun x hx => ?_
    obtain ⟨j, _, rfl⟩ := hall x hx
    simp
  · have := (hperm.map Int.toNat).symm
    rw [List.map_map] at this
    have e : (List.range n).map (Int.toNat ∘ fun j : Nat => (j : Int)) = List.range n := by
      conv => rhs; rw [← List.map_id (List.range n)]
      exact List.map_congr_left fun x _ => by simp
    rw [e] at this
    exact this
theorem perm_isA {a : List Nat} {n : Nat} (h : a.Perm (List.range n)) : isA (al a) n = true := by
  unfold isA al
  simp only [Bool.and_eq_true, has, decide_eq_true_eq, List.all_eq_true, List.mem_range, List.length_map]
  refine ⟨by simpa using h.length_eq, fun j hj => ?_⟩
  exact List.mem_map.2 ⟨j, h.mem_iff.2 (by simpa using hj), rfl⟩
theorem al_len (a : List Nat) : (al a).length = a.length := by simp [al]
/-- Valid bids. -/
structure Ok (V : List (List Int)) : Prop where
  n1 : 1 ≤ V.length
  n6 : V.length ≤ 6
  row : ∀ i, i < V.length → (V.getD i []).length = V.length
  bd : ∀ i j, 0 ≤ vl V i j ∧ vl V i j ≤ 1000000
theorem rowsOk_def (V : List (List Int)) : rowsOk V = V.all (fun r => isL r V.length 1000000) := rfl
theorem chk_ok {V : List (List Int)} (h : chk V = 0) : Ok V := by
  unfold chk at h
  by_cases h6 : 6 < V.length
  · rw [if_pos h6] at h; cases h
  · rw [if_neg h6] at h
    by_cases h0 : V.length = 0
    · rw [if_pos h0] at h; cases h
    · rw [if_neg h0] at h
      by_cases ha : rowsOk V = true
      · have hr : ∀ i, i < V.length → isL (V.getD i []) V.length 1000000 = true := fun i hi => by
          rw [List.getD_eq_getElem?_getD, List.getElem?_eq_getElem hi]
          exact List.all_eq_true.1 ((rowsOk_def V).symm.trans ha) _ (List.getElem_mem hi)
        refine ⟨by omega, by omega, fun i hi => ?_, fun i j => ?_⟩
        · have := hr i hi
          unfold isL at this
          simp only [Bool.and_eq_true, decide_eq_true_eq] at this
          omega
        · unfold vl
          rcases Nat.lt_or_ge i V.length with hi | hi
          · have := hr i hi
            unfold isL at this
            simp only [Bool.and_eq_true, decide_eq_true_eq, List.all_eq_true] at this
            unfold el
            rw [List.getD_eq_getElem?_getD]
            rcases Nat.lt_or_ge j (V.getD i []).length with hj | hj
            · rw [List.getElem?_eq_getElem hj]
              exact this.2 _ (List.getElem_mem hj)
            · rw [List.getElem?_eq_none hj]; simp
          · have : V.getD i [] = [] := by rw [List.getD_eq_getElem?_getD, List.getElem?_eq_none hi]; rfl
            rw [this]; simp [el]
      · rw [if_neg ha] at h; cases h
theorem Ok.nn {V : List (List Int)} (h : Ok V) : Nn V := by
  intro r hr j
  obtain ⟨i, hi, rfl⟩ := List.mem_iff_getElem.1 hr
  have := (h.bd i j).1
  unfold vl at this
  rwa [List.getD_eq_getElem?_getD, List.getElem?_eq_getElem hi] at this
theorem all_yes {V : List (List Int)} (h : ∀ k, k < V.length → isL (V.getD k []) V.length 1000000 = true) : rowsOk V = true := by
  rw [rowsOk_def, List.all_eq_true]
  intro r hr
  obtain ⟨i, hi, rfl⟩ := List.mem_iff_getElem.1 hr
  have := h i hi
  rwa [List.getD_eq_getElem?_getD, List.getElem?_eq_getElem hi] at this
theorem all_no {V : List (List Int)} {k : Nat} (hk : k < V.length) (h : isL (V.getD k []) V.length 1000000 = false) : rowsOk V = false := by
  rw [rowsOk_def, List.all_eq_false]
  refine ⟨V[k], List.getElem_mem hk, ?_⟩
  rw [List.getD_eq_getElem?_getD, List.getElem?_eq_getElem hk] at h
  simpa using h
theorem all_has {xs : List Int} {k : Nat} {x : Int} (hk : k < xs.length) (h : el xs k = x) : has xs x = true := by
  have : el xs k = xs[k] := by unfold el; simp [hk]
  unfold has; rw [decide_eq_true_eq, ← h, this]; exact List.getElem_mem hk
theorem all_hasnt {xs : List Int} {x : Int} (h : ∀ k, k < xs.length → ¬ el xs k = x) : has xs x = false := by
  unfold has
  rw [decide_eq_false_iff_not]
  intro hm
  obtain ⟨k, hk, e⟩ := List.mem_iff_getElem.1 hm
  refine h k hk ?_
  rw [← e]; unfold el; simp [hk]
theorem isA_yes {xs : List Int} {n : Nat} (hl : xs.length = n) (h : ∀ j, j < n → has xs j = true) : isA xs n = true := by
  unfold isA; rw [decide_eq_true hl, Bool.true_and, List.all_eq_true]; intro j hj; exact h j (by simpa using hj)
theorem isA_no {xs : List Int} {n j : Nat} (hj : j < n) (h : has xs j = false) : isA xs n = false := by
  unfold isA
  have : (List.range n).all (fun j : Nat => has xs j) = false := by
    rw [List.all_eq_false]; exact ⟨j, by simpa using hj, by simpa using h⟩
  rw [this, Bool.and_false]
/-- Value's answer and error. -/
def valS (V : List (List Int)) (xs : List Int) : Int × Int := if chk V = 0 then (if isA xs V.length then (wr V (xs.map Int.toNat), 0) else (0, 8)) else (0, chk V)
theorem toNat_al (a : List Nat) : (al a).map Int.toNat = a := by
  unfold al; rw [List.map_map]
  conv => rhs; rw [← List.map_id a]
  exact List.map_congr_left fun x _ => by simp
theorem wr_bd {V : List (List Int)} (h : ∀ i j, 0 ≤ vl V i j ∧ vl V i j ≤ 1000000) (a : List Nat) : ∀ i, i ≤ V.length → i ≤ a.length → 0 ≤ wr (V.take i) (a.take i) ∧ wr (V.take i) (a.take i) ≤ i * 1000000
  | 0, _, _ => by simp [wr]
  | i + 1, h1, h2 => by
    have ih := wr_bd h a i (by omega) (by omega)
    rw [wr_take V a i (by omega) (by omega)]
    have := h i (a.getD i 0)
    omega
end As
set_option linter.unusedSimpArgs false in
set_option maxHeartbeats 2000000 in
theorem asIndex_any (A : Option Addr) (cap : Nat) (xs : List Int) (x : Int) (w : World) (hl : xs.length ≤ maxLen) (h : IsI w A xs) :
    Calls Try.prog 102 #[.slice A xs.length cap, .int .i64 x] w fun e w' => ∃ z : Int, e = .returned (.int .i64 z) ∧ (As.has xs x = true → 0 ≤ z) ∧ (As.has xs x = false → z = -1) ∧ Below w.heap.size w w' := by
  unfold maxLen at hl
  have HC := Lib.hid h
  clear h
  go_enter Try.func102, Try.ntmps102
  go_wp2_with fail
  go_loop [5, 8] (fun _ i => ∃ k : Nat, k ≤ xs.length ∧ i = .int .i64 k ∧ (∀ j, j < k → ¬ As.el xs j = x)) (fun _ i => xs.length - (intOf i).toNat)
  case atStart => exact ⟨0, Nat.zero_le _, rfl, fun j hj => absurd hj (Nat.not_lt_zero _)⟩
  case round =>
    obtain ⟨k, hk, rfl, hok⟩ := hrel
    have HOK := Lib.hid hok
    clear hok
    by_cases hlt : k < xs.length
    · obtain ⟨b, off, rfl, hcs⟩ := HC.out.1 (by omega)
      have c0 := hcs k hlt
      clear hcs
      by_cases hh : As.el xs k = x
      · have EB := Lib.hid (As.all_has hlt hh)
        have e1 : (x == As.el xs k) = true := by simpa using hh.symm
        clear hh
        generalize As.el xs k = y at *
        go_wp2_with fail
        go_ret
        first
          | exact ⟨fun _ => by omega, fun h => (by rw [EB.out] at h; cases h), Below.refl _ _⟩
          | exact ⟨_, rfl, fun _ => by omega, fun h => (by rw [EB.out] at h; cases h), Below.refl _ _⟩
      · have e1 : (x == As.el xs k) = false := by simpa using fun e => hh e.symm
        have EB := Lib.hid hh
        clear hh
        generalize As.el xs k = y at e1 c0
        go_wp2_with fail
        go_round
        case rel => exact ⟨k + 1, by omega, by go_num, fun j hj => (Nat.lt_succ_iff_lt_or_eq.1 hj).elim (HOK.out j) (fun e => e ▸ EB.out)⟩
        case measure => simp [intOf]; omega
    · obtain rfl : k = xs.length := by omega
      have EB := Lib.hid (As.all_hasnt HOK.out)
      clear HC HOK
      go_wp2_with fail
      go_ret
      first
        | exact ⟨fun h => (by rw [EB.out] at h; cases h), fun _ => rfl, Below.refl _ _⟩
        | exact ⟨_, rfl, fun h => (by rw [EB.out] at h; cases h), fun _ => rfl, Below.refl _ _⟩
set_option maxHeartbeats 1000000 in
theorem asContains_any (A : Option Addr) (cap : Nat) (xs : List Int) (x : Int) (w : World) (hl : xs.length ≤ maxLen) (h : IsI w A xs) :
    Calls Try.prog 91 #[.slice A xs.length cap, .int .i64 x] w fun e w' => e = .returned (.bool (As.has xs x)) ∧ Below w.heap.size w w' := by
  have IX := Lib.hid (asIndex_any A cap xs x w hl h)
  generalize hz : As.has xs x = b at *
  clear hl h hz
  go_enter Try.func91, Try.ntmps91
  go_wp2_with fail
  refine IX.out.mono ?_
  rintro e w1 ⟨z, rfl, h1, h2, hb1⟩
  cases b
  · obtain rfl := h2 rfl
    clear h1 h2
    go_wp2_with fail
    go_ret
    exact ⟨rfl, hb1⟩
  · have h3 := h1 rfl
    have hd : decide ((0 : Int) ≤ z) = true := decide_eq_true h3
    clear h1 h2
    go_wp2_with fail
    go_ret
    exact ⟨rfl, hb1⟩
set_option maxHeartbeats 2000000 in
theorem isAsg_any (A : Option Addr) (cap : Nat) (xs : List Int) (n : Nat) (w : World) (hl : xs.length ≤ maxLen) (h : IsI w A xs) :
    Calls Try.prog 79 #[.slice A xs.length cap, .int .i64 n] w fun e w' => e = .returned (.bool (As.isA xs n)) ∧ Below w.heap.size w w' := by
  have HL := Lib.hid hl
  unfold maxLen at hl
  have HC := Lib.hid h
  clear h
  by_cases hn : xs.length = n
  · subst hn
    have e0 : ((xs.length : Int) != xs.length) = false := by simp
    go_enter Try.func79, Try.ntmps79
    go_wp2_with fail
    go_loopw [5, 11] (fun _ i W => ∃ k : Nat, k ≤ xs.length ∧ i = .int .i64 k ∧ (∀ j, j < k → As.has xs j = true) ∧ Below w.heap.size w W) (fun _ i _ => xs.length - (intOf i).toNat)
    case atStart => exact ⟨0, Nat.zero_le _, rfl, fun j hj => absurd hj (Nat.not_lt_zero _), Below.refl _ _⟩
    case round =>
      obtain ⟨k, hk, rfl, hok, hbb⟩ := hrel
      have HOK := Lib.hid hok
      clear hok
      by_cases hlt : k < xs.length
      · have hv := asContains_any A cap xs (k : Int) wr HL.out (HC.out.keep hbb)
        by_cases hh : As.has xs k = true
        · have EB := Lib.hid hh
          rw [hh] at hv
          have HV := Lib.hid hv
          clear hh hv
          go_wp2_with fail
          refine HV.out.mono ?_
          rintro e w1 ⟨rfl, hb1⟩
          replace hbb := keepB hbb hb1
          clear hb1
          go_wp2_with fail
          go_roundw
          case rel => exact ⟨k + 1, by omega, by go_num, fun j hj => (Nat.lt_succ_iff_lt_or_eq.1 hj).elim (HOK.out j) (fun e => e ▸ EB.out), hbb⟩
          case measure => simp [intOf]; omega
        · have hh : As.has xs k = false := by simpa using hh
          have EB := Lib.hid (As.isA_no hlt hh)
          rw [hh] at hv
          have HV := Lib.hid hv
          clear hh hv
          go_wp2_with fail
          refine HV.out.mono ?_
          rintro e w1 ⟨rfl, hb1⟩
          replace hbb := keepB hbb hb1
          clear hb1
          go_wp2_with fail
          go_ret
          exact ⟨by rw [EB.out]; rfl, hbb⟩
      · obtain rfl : k = xs.length := by omega
        have EB := Lib.hid (As.isA_yes rfl HOK.out)
        clear HC HOK
        go_wp2_with fail
        go_ret
        exact ⟨by rw [EB.out]; rfl, hbb⟩
  · have e0 : ((xs.length : Int) != n) = true := by rw [bne_iff_ne]; omega
    have e1 : As.isA xs n = false := by unfold As.isA; rw [decide_eq_false hn, Bool.false_and]
    rw [e1]
    clear hn e1
    go_enter Try.func79, Try.ntmps79
    go_wp2_with fail
    go_ret
    exact ⟨rfl, Below.refl _ _⟩
set_option maxHeartbeats 2000000 in
theorem asCheck_any (A : Option Addr) (cap : Nat) (V : List (List Int)) (w : World) (hl : V.length ≤ maxLen) (h : IsM w A V) :
    Calls Try.prog 47 #[.slice A V.length cap] w fun e w' => e = .returned (.int .i64 (As.chk V)) ∧ Below w.heap.size w w' := by
  have HC := Lib.hid h
  clear h
  unfold maxLen at hl
  unfold As.chk
  by_cases h6 : 6 < V.length
  · rw [if_pos h6]
    go_enter Try.func47, Try.ntmps47
    go_wp2_with fail
    go_ret
    exact ⟨rfl, Below.refl _ _⟩
  · rw [if_neg h6]
    by_cases h0 : V.length = 0
    · rw [if_pos h0]
      go_enter Try.func47, Try.ntmps47
      rw [h0]
      go_wp2_with fail
      go_ret
      exact ⟨rfl, Below.refl _ _⟩
    · rw [if_neg h0]
      generalize hz : (if As.rowsOk V = true then (0 : Int) else 8) = z
      have HZ := Lib.hid hz
      clear hz
      have e0 : ((V.length : Int) == 0) = false := by rw [beq_eq_false_iff_ne]; omega
      go_enter Try.func47, Try.ntmps47
      go_wp2_with fail
      obtain ⟨b, off, rfl, hrows⟩ := HC.out (by omega)
      have HR := Lib.hid hrows
      clear hrows HC
      go_loopw [5, 14] (fun _ i W => ∃ k : Nat, k ≤ V.length ∧ i = .int .i64 k ∧ (∀ j, j < k → As.isL (V.getD j []) V.length 1000000 = true) ∧ Below w.heap.size w W) (fun _ i _ => V.length - (intOf i).toNat)
      case atStart => exact ⟨0, Nat.zero_le _, rfl, fun j hj => absurd hj (Nat.not_lt_zero _), Below.refl _ _⟩
      case round =>
        obtain ⟨k, hk, rfl, hok, hbb⟩ := hrel
        have HOK := Lib.hid hok
        clear hok
        by_cases hlt : k < V.length
        · obtain ⟨R, c, hc, hrl, hI⟩ := HR.out k hlt
          replace hc := keepC hbb hc
          have hv := isList_any R c (V.getD k []) V.length 1000000 wr hrl (hI.keep hbb)
          clear hI
          by_cases hh : As.isL (V.getD k []) V.length 1000000 = true
          · have EB := Lib.hid hh
            rw [hh] at hv
            have HV := Lib.hid hv
            clear hh hv hrl
            generalize (V.getD k []).length = q at hc HV
            go_wp2_with fail
            refine HV.out.mono ?_
            rintro e w1 ⟨rfl, hb1⟩
            replace hbb := keepB hbb hb1
            clear hb1 hc
            go_wp2_with fail
            go_roundw
            case rel => exact ⟨k + 1, by omega, by go_num, fun j hj => (Nat.lt_succ_iff_lt_or_eq.1 hj).elim (HOK.out j) (fun e => e ▸ EB.out), hbb⟩
            case measure => simp [intOf]; omega
          · have hh : As.isL (V.getD k []) V.length 1000000 = false := by simpa using hh
            have EB := Lib.hid (As.all_no hlt hh)
            rw [hh] at hv
            have HV := Lib.hid hv
            clear hh hv hrl
            generalize (V.getD k []).length = q at hc HV
            go_wp2_with fail
            refine HV.out.mono ?_
            rintro e w1 ⟨rfl, hb1⟩
            replace hbb := keepB hbb hb1
            clear hb1 hc
            go_wp2_with fail
            go_ret
            exact ⟨by rw [← HZ.out, EB.out]; rfl, hbb⟩
        · obtain rfl : k = V.length := by omega
          have EB := Lib.hid (As.all_yes HOK.out)
          clear HR HOK
          go_wp2_with fail
          go_ret
          exact ⟨by rw [← HZ.out, EB.out]; rfl, hbb⟩
end Go.Proofs.Ytncmffhoodfhjaa
namespace Go.Proofs.Ytncmffhoodfhjaa
open Go.RowKit
namespace As
theorem take_all {α : Type} {l : List α} {n : Nat} (h : l.length = n) : l.take n = l := by subst h; exact List.take_length
/-- Would the agent i not rather have another item? -/
def rowB (V : List (List Int)) (a : List Nat) (p : List Int) (i : Nat) : Bool := (List.range V.length).all (fun j => !decide (vl V i (a.getD i 0) - el p (a.getD i 0) < vl V i j - el p j))
/-- Do prices prove an assignment? -/
def contB (V : List (List Int)) (a : List Nat) (p : List Int) : Bool := (List.range V.length).all (rowB V a p)
theorem rowB_yes {V : List (List Int)} {a : List Nat} {p : List Int} {i : Nat} (h : ∀ j, j < V.length → vl V i j - el p j ≤ vl V i (a.getD i 0) - el p (a.getD i 0)) : rowB V a p i = true := by
  unfold rowB; rw [List.all_eq_true]; intro j hj; have := h j (by simpa using hj); rw [Bool.not_eq_true', decide_eq_false_iff_not]; omega
theorem contB_no {V : List (List Int)} {a : List Nat} {p : List Int} {i j : Nat} (hi : i < V.length) (hj : j < V.length) (h : vl V i (a.getD i 0) - el p (a.getD i 0) < vl V i j - el p j) : contB V a p = false := by
  unfold contB; rw [List.all_eq_false]; refine ⟨i, by simpa using hi, ?_⟩
  unfold rowB; rw [Bool.not_eq_true, List.all_eq_false]; exact ⟨j, by simpa using hj, by simpa using h⟩
theorem contB_yes {V : List (List Int)} {a : List Nat} {p : List Int} (h : ∀ i, i < V.length → rowB V a p i = true) : contB V a p = true := by
  unfold contB; rw [List.all_eq_true]; intro i hi; exact h i (by simpa using hi)
/-- Proves' answer and error. -/
def prvS (V : List (List Int)) (xs ps : List Int) : Bool × Int := if chk V = 0 then (if isA xs V.length && isL ps V.length 10000000 then (contB V (xs.map Int.toNat) ps, 0) else (false, 8)) else (false, chk V)
theorem chk_cases (V : List (List Int)) : chk V = 0 ∨ (chk V != 0) = true ∧ chk V ≠ 0 := by
  by_cases h : chk V = 0
  · exact .inl h
  · exact .inr ⟨by rw [bne_iff_ne]; exact h, h⟩
theorem isL_bd {ps : List Int} {n m : Int} (hm : 0 ≤ m) (h : isL ps n m = true) : (ps.length : Int) = n ∧ ∀ j, 0 ≤ el ps j ∧ el ps j ≤ m := by
  unfold isL at h
  simp only [Bool.and_eq_true, decide_eq_true_eq, List.all_eq_true] at h
  refine ⟨h.1, fun j => ?_⟩
  unfold el
  rw [List.getD_eq_getElem?_getD]
  rcases Nat.lt_or_ge j ps.length with hj | hj
  · rw [List.getElem?_eq_getElem hj]
    exact h.2 _ (List.getElem_mem hj)
  · rw [List.getElem?_eq_none hj]; exact ⟨by simp, by simpa using hm⟩
theorem perm_lt {a : List Nat} {n : Nat} (h : a.Perm (List.range n)) : a.length = n ∧ ∀ i, i < n → a.getD i 0 < n := by
  have hl : a.length = n := by simpa using h.length_eq
  refine ⟨hl, fun i hi => ?_⟩
  have hm : a.getD i 0 ∈ a := by rw [getD_lt (by omega)]; exact List.getElem_mem (by omega)
  simpa using h.mem_iff.1 hm
end As
set_option maxHeartbeats 2000000 in
theorem asValueOf_any (A : Option Addr) (cv : Nat) (V : List (List Int)) (B : Option Addr) (ca : Nat) (a : List Nat) (w : World) (ok : As.Ok V) (h : IsM w A V) (hB : IsI w B (As.al a)) (hl : a.length = V.length) (ha : ∀ i, i < V.length → a.getD i 0 < V.length) :
    Calls Try.prog 49 #[.slice A V.length cv, .slice B V.length ca] w fun e w' => e = .returned (.int .i64 (As.wr V a)) ∧ Below w.heap.size w w' := by
  have n1 := ok.n1
  have n6 := ok.n6
  obtain ⟨b, off, rfl, hrows⟩ := h (by omega)
  obtain ⟨ab, ao, rfl, hac⟩ := hB.1 (by rw [As.al_len]; omega)
  have HR := Lib.hid hrows
  have HA := Lib.hid (show ∀ i, i < V.length → w.cell? ⟨ab, ao + i, none⟩ = some (.int .i64 ((a.getD i 0 : Nat) : Int)) from fun i hi => by
    have := hac i (by rw [As.al_len]; omega)
    rwa [As.el_al] at this)
  have HL := Lib.hid hl
  have HOKV := Lib.hid ok
  have HLT := Lib.hid ha
  clear h hB hrows hac hl ok ha
  go_enter Try.func49, Try.ntmps49
  go_wp2_with fail
  go_loop [5, 10] (fun s i => ∃ k : Nat, k ≤ V.length ∧ i = .int .i64 k ∧ s = .int .i64 (As.wr (V.take k) (a.take k))) (fun _ i => V.length - (intOf i).toNat)
  case atStart => exact ⟨0, Nat.zero_le _, rfl, by simp [As.wr]⟩
  case round =>
    obtain ⟨k, hk, rfl, rfl⟩ := hrel
    by_cases hlt : k < V.length
    · obtain ⟨R, c, hc, hrl, hI⟩ := HR.out k hlt
      rw [HOKV.out.row k hlt] at hc
      have c1 := HA.out k hlt
      have hj := HLT.out k hlt
      obtain ⟨rb, ro, rfl, hcs⟩ := hI.1 (by rw [HOKV.out.row k hlt]; omega)
      have c2 := hcs (a.getD k 0) (by rw [HOKV.out.row k hlt]; omega)
      have b1 := As.wr_bd HOKV.out.bd a k (by omega) (by rw [HL.out]; omega)
      have b2 := HOKV.out.bd k (a.getD k 0)
      have ET := Lib.hid (As.wr_take V a k (by omega) (by rw [HL.out]; omega))
      change w.cell? ⟨rb, ro + a.getD k 0, none⟩ = some (.int .i64 (As.vl V k (a.getD k 0))) at c2
      clear hcs hI hrl
      generalize a.getD k 0 = j at *
      generalize As.vl V k j = x at *
      generalize As.wr (V.take k) (a.take k) = s at *
      obtain ⟨b11, b12⟩ := b1
      obtain ⟨b21, b22⟩ := b2
      have b13 : s ≤ 6000000 := by omega
      clear b12
      go_wp2_with fail
      go_round
      case rel => exact ⟨k + 1, by omega, by go_num, by rw [ET.out]⟩
      case measure => simp [intOf]; omega
    · obtain rfl : k = V.length := by omega
      go_wp2_with fail
      go_ret
      exact ⟨by rw [As.take_all HL.out]; rfl, Below.refl _ _⟩
set_option maxHeartbeats 2000000 in
theorem asValue_any (A : Option Addr) (cv : Nat) (V : List (List Int)) (B : Option Addr) (ca : Nat) (xs : List Int) (w : World) (hl : V.length ≤ maxLen) (h : IsM w A V) (hx : xs.length ≤ maxLen) (hB : IsI w B xs) :
    Calls Try.prog 57 #[.slice A V.length cv, .slice B xs.length ca] w fun e w' => e = .returned (.tuple #[.int .i64 (As.valS V xs).1, .int .i64 (As.valS V xs).2]) ∧ Below w.heap.size w w' := by
  have CK := asCheck_any A cv V w hl h
  have CA := fun v (hv : Below w.heap.size w v) => isAsg_any B ca xs V.length v hx (hB.keep hv)
  unfold As.valS
  rcases As.chk_cases V with h0 | ⟨h1, h2⟩
  · rw [if_pos h0]
    rw [h0] at CK
    by_cases ha : As.isA xs V.length = true
    · obtain ⟨a, rfl, hp⟩ := As.isA_perm ha
      obtain ⟨p1, p2⟩ := As.perm_lt hp
      rw [if_pos ha, As.toNat_al]
      rw [ha] at CA
      rw [As.al_len, p1] at CA ⊢
      have CV := Lib.hid (fun v (hv : Below w.heap.size w v) => asValueOf_any A cv V B ca a v (As.chk_ok h0) (h.keep hv) (hB.keep hv) p1 p2)
      have CK' := Lib.hid CK
      have CA' := Lib.hid CA
      generalize As.wr V a = z at *
      clear CK CA h0 ha hp p1 p2 hB h hl hx
      go_enter Try.func57, Try.ntmps57
      go_wp2_with fail
      refine CK'.out.mono ?_
      rintro e w1 ⟨rfl, hb1⟩
      go_wp2_with fail
      refine (CA'.out _ hb1).mono ?_
      rintro e w2 ⟨rfl, hb2⟩
      have hbb := keepB hb1 hb2
      clear hb1 hb2
      go_wp2_with fail
      refine (CV.out _ hbb).mono ?_
      rintro e w3 ⟨rfl, hb3⟩
      replace hbb := keepB hbb hb3
      clear hb3
      go_wp2_with fail
      go_ret2
      exact ⟨rfl, hbb⟩
    · have ha : As.isA xs V.length = false := by simpa using ha
      rw [ha] at CA ⊢
      have CK' := Lib.hid CK
      have CA' := Lib.hid CA
      clear CK CA h0 ha hB h hl hx
      go_enter Try.func57, Try.ntmps57
      go_wp2_with fail
      refine CK'.out.mono ?_
      rintro e w1 ⟨rfl, hb1⟩
      go_wp2_with fail
      refine (CA'.out _ hb1).mono ?_
      rintro e w2 ⟨rfl, hb2⟩
      have hbb := keepB hb1 hb2
      clear hb1 hb2
      go_wp2_with fail
      go_ret2
      exact ⟨rfl, hbb⟩
  · rw [if_neg h2]
    generalize As.chk V = c at *
    have CK' := Lib.hid CK
    clear CK CA h2 hB h hl hx
    go_enter Try.func57, Try.ntmps57
    go_wp2_with fail
    refine CK'.out.mono ?_
    rintro e w1 ⟨rfl, hb1⟩
    go_wp2_with fail
    go_ret2
    exact ⟨rfl, hb1⟩
end Go.Proofs.Ytncmffhoodfhjaa
namespace Go.Proofs.Ytncmffhoodfhjaa
open Go.RowKit
namespace As
/-- A set without an item. -/
def wo (s j : Nat) : Nat := if s.testBit j then s - 2 ^ j else s
/-- The items of a set, of n items. -/
def its (n s : Nat) : List Nat := (List.range n).filter (fun j => s.testBit j)
end As
theorem wo_bits : ∀ s : Nat, s < 64 → ∀ j : Nat, j < 6 → bits BinOp.andNot IntKind.i64 (s : Int) (wrap64 (2 ^ j)) = (As.wo s j : Int) := by decide +kernel
set_option maxHeartbeats 2000000 in
theorem without_any (s j : Nat) (w : World) (hs : s < 64) (hj : j < 6) :
    Calls Try.prog 77 #[.int .i64 s, .int .i64 j] w fun e w' => e = .returned (.int .i64 (As.wo s j : Int)) ∧ Below w.heap.size w w' := by
  rw [← wo_bits s hs j hj]
  go_enter Try.func77, Try.ntmps77
  go_wp2_with fail
  go_ret
  exact ⟨rfl, Below.refl _ _⟩
set_option maxHeartbeats 2000000 in
theorem ones64_any (s : Nat) (w : World) (hs : s < 64) :
    Calls Try.prog 101 #[.int .u64 s] w fun e w' => e = .returned (.int .i64 ((As.its 6 s).length : Int)) ∧ Below w.heap.size w w' := by
  go_enter Try.func101, Try.ntmps101
  go_wp2_with fail
  go_ret
  refine ⟨congrArg (fun z => Ending.returned (.int .i64 z)) ?_, Below.refl _ _⟩
  revert s
  decide +kernel
set_option maxHeartbeats 2000000 in
theorem ones_any (s : Nat) (w : World) (hs : s < 64) :
    Calls Try.prog 90 #[.int .u64 s] w fun e w' => e = .returned (.int .i64 ((As.its 6 s).length : Int)) ∧ Below w.heap.size w w' := by
  have C := Lib.hid (fun v => ones64_any s v hs)
  generalize ((As.its 6 s).length : Int) = z at *
  go_enter Try.func90, Try.ntmps90
  go_wp2_with fail
  refine (C.out _).mono ?_
  rintro e w1 ⟨rfl, hb1⟩
  go_wp2_with fail
  go_ret
  exact ⟨rfl, hb1⟩
end Go.Proofs.Ytncmffhoodfhjaa
namespace Go.Proofs.Ytncmffhoodfhjaa
open Go.RowKit
namespace As
theorem its_erase : ∀ s : Nat, s < 64 → ∀ n : Nat, n < 7 → ∀ j : Nat, j < n → s.testBit j = true → (its n s).erase j = its n (wo s j) := by decide +kernel
theorem its_wo_len : ∀ s : Nat, s < 64 → ∀ n : Nat, n < 7 → ∀ j : Nat, j < n → s.testBit j = true → (its n (wo s j)).length + 1 = (its n s).length := by decide +kernel
theorem its_six : ∀ n : Nat, n < 7 → ∀ s : Nat, s < 2 ^ n → (its 6 s).length = (its n s).length := by decide +kernel
theorem its_le (n s : Nat) : (its n s).length ≤ n := by have := List.length_filter_le (fun j => s.testBit j) (List.range n); simpa [its] using this
theorem wo_lt : ∀ s : Nat, s < 64 → ∀ j : Nat, j < 6 → s.testBit j = true → wo s j < s := by decide +kernel
theorem wo_ne : ∀ s : Nat, s < 64 → ∀ j : Nat, j < 6 → s.testBit j = false → wo s j = s := by decide +kernel
theorem its_all : ∀ n : Nat, n < 7 → its n (2 ^ n - 1) = List.range n := by decide +kernel
/-- What the last agents can have of a set. -/
def mst (V : List (List Int)) (s : Nat) : Int := opt (V.drop (V.length - (its V.length s).length)) (its V.length s)
/-- The greatest one of the first items' values. -/
def pm (V : List (List Int)) (s m : Nat) : Int := ((List.range m).filter (fun j => s.testBit j)).foldl (fun acc j => max acc (vl V (V.length - (its V.length s).length) j + mst V (wo s j))) 0
theorem pm_succ (V : List (List Int)) (s m : Nat) : pm V s (m + 1) = if s.testBit m = true then max (pm V s m) (vl V (V.length - (its V.length s).length) m + mst V (wo s m)) else pm V s m := by
  unfold pm
  rw [List.range_succ, List.filter_append, List.foldl_append]
  by_cases h : s.testBit m = true
  · rw [if_pos h]; simp [h]
  · rw [if_neg h]; simp [h]
theorem fold_congr {f g : Nat → Int} : ∀ {L : List Nat} {m : Int}, (∀ j ∈ L, f j = g j) → L.foldl (fun m j => max m (f j)) m = L.foldl (fun m j => max m (g j)) m
  | [], _, _ => rfl
  | x :: L, m, h => by
    simp only [List.foldl_cons]
    rw [h x (by simp)]
    exact fold_congr fun j hj => h j (by simp [hj])
theorem mem_its {n s j : Nat} : j ∈ its n s ↔ j < n ∧ s.testBit j = true := by unfold its; simp
theorem pm_end {V : List (List Int)} (n6 : V.length ≤ 6) {s : Nat} (hs : s < 64) : pm V s V.length = mst V s := by
  have hle := its_le V.length s
  by_cases h0 : (its V.length s).length = 0
  · have e : its V.length s = [] := List.eq_nil_of_length_eq_zero h0
    have e' : (List.range V.length).filter (fun j => s.testBit j) = [] := e
    unfold pm mst
    rw [e', e]
    simp [opt]
  · have hlt : V.length - (its V.length s).length < V.length := by omega
    unfold mst
    rw [List.drop_eq_getElem_cons hlt]
    simp only [opt]
    unfold pm
    refine fold_congr fun j hj => ?_
    have hj' := mem_its.1 hj
    have e1 : vl V (V.length - (its V.length s).length) j = el V[V.length - (its V.length s).length] j := by unfold vl; rw [getD_lt hlt]
    rw [e1]
    congr 1
    have e2 := its_erase s hs V.length (by omega) j hj'.1 hj'.2
    have e3 := its_wo_len s hs V.length (by omega) j hj'.1 hj'.2
    unfold mst
    have e4 : ((List.range V.length).filter (fun j => s.testBit j)).erase j = its V.length (wo s j) := e2
    rw [e2]
    congr 2
    omega
theorem opt_bd : ∀ (R : List (List Int)) (L : List Nat), (∀ r ∈ R, ∀ j, el r j ≤ 1000000) → opt R L ≤ R.length * 1000000
  | [], _, _ => by simp [opt]
  | r :: R, L, h => by
    have ih := fun j => opt_bd R (L.erase j) (fun x hx => h x (by simp [hx]))
    have e : opt (r :: R) L = L.foldl (fun m j => max m (el r j + opt R (L.erase j))) 0 := rfl
    rcases fm_at (fun j => el r j + opt R (L.erase j)) L 0 with h1 | ⟨j, hj, h1⟩
    · rw [e, h1]; omega
    · rw [e, h1]
      have := h r (by simp) j
      have := ih j
      simp only [List.length_cons]
      omega
theorem mst_bd {V : List (List Int)} (n6 : V.length ≤ 6) (h : ∀ r ∈ V, ∀ j, el r j ≤ 1000000) (s : Nat) : 0 ≤ mst V s ∧ mst V s ≤ 6000000 := by
  refine ⟨opt_nn _ _, ?_⟩
  have h1 := opt_bd (V.drop (V.length - (its V.length s).length)) (its V.length s) (fun r hr => h r (List.mem_of_mem_drop hr))
  have h2 : (V.drop (V.length - (its V.length s).length)).length ≤ 6 := by simp; omega
  unfold mst; omega
theorem pm_nn (V : List (List Int)) (s m : Nat) : 0 ≤ pm V s m := (fm_ge (fun j => vl V (V.length - (its V.length s).length) j + mst V (wo s j)) _ 0).1
theorem pm_bd {V : List (List Int)} (n6 : V.length ≤ 6) (h : ∀ r ∈ V, ∀ j, el r j ≤ 1000000) (h2 : ∀ i j, vl V i j ≤ 1000000) (s m : Nat) : pm V s m ≤ 7000000 := by
  rcases fm_at (fun j => vl V (V.length - (its V.length s).length) j + mst V (wo s j)) ((List.range m).filter (fun j => s.testBit j)) 0 with h1 | ⟨j, hj, h1⟩
  · unfold pm; omega
  · have := h2 (V.length - (its V.length s).length) j
    have := (mst_bd n6 h (wo s j)).2
    unfold pm; omega
theorem le_of_vl {V : List (List Int)} (h : ∀ i j, vl V i j ≤ 1000000) : ∀ r ∈ V, ∀ j, el r j ≤ 1000000 := by
  intro r hr j
  obtain ⟨i, hi, rfl⟩ := List.mem_iff_getElem.1 hr
  have := h i j
  unfold vl at this
  rwa [getD_lt hi] at this
/-- What the table holds while it is filled. -/
def tb (V : List (List Int)) (s m k : Nat) : Int := if k < s then mst V k else if k = s then pm V s m else 0
theorem tb_zero (V : List (List Int)) (k : Nat) : tb V 0 0 k = 0 := by unfold tb; rw [if_neg (by omega)]; split <;> simp [pm]
theorem tb_next {V : List (List Int)} (n6 : V.length ≤ 6) {s : Nat} (hs : s < 64) (k : Nat) : tb V s V.length k = tb V (s + 1) 0 k := by
  unfold tb
  by_cases h1 : k < s
  · rw [if_pos h1, if_pos (by omega)]
  · rw [if_neg h1]
    by_cases h2 : k = s
    · subst h2
      rw [if_pos rfl, if_pos (by omega), pm_end n6 hs]
    · rw [if_neg h2, if_neg (by omega)]
      split <;> simp [pm]
theorem tb_skip {V : List (List Int)} {s m : Nat} (h : s.testBit m = false) (k : Nat) : tb V s m k = tb V s (m + 1) k := by
  unfold tb; rw [pm_succ, h]; simp
theorem tb_put {V : List (List Int)} {s m : Nat} (h : s.testBit m = true) (k : Nat) : (if k = s then max (pm V s m) (vl V (V.length - (its V.length s).length) m + mst V (wo s m)) else tb V s m k) = tb V s (m + 1) k := by
  unfold tb
  rw [pm_succ, if_pos h]
  by_cases e : k = s
  · subst e; simp
  · simp only [if_neg e]
theorem tb_end {V : List (List Int)} {N k : Nat} (h : k < N) : tb V N 0 k = mst V k := by unfold tb; rw [if_pos h]
theorem pow_bd : ∀ n : Nat, n < 7 → 1 ≤ 2 ^ n ∧ 2 ^ n ≤ 64 ∧ wrap64 (2 ^ n) = ((2 ^ n : Nat) : Int) := by decide +kernel
end As
theorem imax (a b : Int) : (if a < b then b else a) = max a b := by omega
set_option maxRecDepth 100000 in
set_option maxHeartbeats 4000000 in
theorem greatest_any (A : Option Addr) (cv : Nat) (V : List (List Int)) (w : World) (ok : As.Ok V) (h : IsM w A V) :
    Calls Try.prog 76 #[.slice A V.length cv] w fun e w' => e = .returned (.slice (some ⟨w.heap.size, 0, none⟩) (2 ^ V.length) (2 ^ V.length)) ∧ BF w' w.heap.size (2 ^ V.length) (As.mst V) ∧ Below w.heap.size w w' := by
  have n1 := ok.n1
  have n6 := ok.n6
  have hp := As.pow_bd V.length (by omega)
  obtain ⟨b, off, rfl, hrows⟩ := h (by omega)
  have HR := Lib.hid hrows
  have HOKV := Lib.hid ok
  clear h hrows ok
  obtain ⟨N, hN⟩ : ∃ N, 2 ^ V.length = N := ⟨_, rfl⟩
  obtain ⟨p1, p2, e2⟩ := hp
  rw [hN] at p1 p2 e2 ⊢
  have HN := Lib.hid hN
  clear hN
  have MK := ints_make N (by omega)
  go_enter Try.func76, Try.ntmps76
  go_wp2_with fail
  clear MK e2
  go_loopw [14] (fun i W => ∃ s : Nat, s ≤ N ∧ i = .int .i64 s ∧ BF W w.heap.size N (As.tb V s 0) ∧ Below w.heap.size w W) (fun i _ => N - (intOf i).toNat)
  case atStart => exact ⟨0, Nat.zero_le _, rfl, (BF.new _ _ _).cong (fun k _ => (As.tb_zero V k).symm), below_al (Below.refl _ _) _⟩
  case round =>
    obtain ⟨s, hs, rfl, hbf, hbb⟩ := hrel
    by_cases hlt : s < N
    · have hC := ones_any s
      have hs64 : s < 64 := by omega
      have HLE := Lib.hid (show (As.its V.length s).length ≤ V.length from As.its_le _ _)
      have h6 := As.its_six V.length (by omega) s (by rw [HN.out]; exact hlt)
      rw [h6] at hC
      generalize hc : (As.its V.length s).length = c at *
      have HCE := Lib.hid hc
      have HC1 := Lib.hid hC
      have hle := HLE.out
      obtain ⟨ag, hag⟩ : ∃ ag, V.length - c = ag := ⟨_, rfl⟩
      have e5 : (V.length : Int) - (c : Int) = (ag : Int) := by omega
      have e3 : IntKind.u64.wrap (s : Int) = (s : Int) := by rw [IntKind.wrap_u64]; omega
      have HAG := Lib.hid hag
      clear hc hC h6 hag HLE
      go_wp2_with fail
      refine (HC1.out _ hs64).mono ?_
      rintro e w1 ⟨rfl, hb1⟩
      replace hbf := hbf.keep hb1
      replace hbb := keepB hbb hb1
      clear hb1
      go_wp2_with fail
      clear e5 e3
      go_loopw [25] (fun i W => ∃ m : Nat, m ≤ V.length ∧ i = .int .i64 m ∧ BF W w.heap.size N (As.tb V s m) ∧ Below w.heap.size w W) (fun i _ => V.length - (intOf i).toNat)
      case atStart => exact ⟨0, Nat.zero_le _, rfl, hbf, hbb⟩
      case round =>
        clear hbf hbb
        obtain ⟨m, hm, rfl, hbf, hbb⟩ := hrel
        by_cases hltm : m < V.length
        · have hW := without_any s m wr hs64 (by omega)
          cases htb : s.testBit m
          · rw [As.wo_ne s hs64 m (by omega) htb] at hW
            have HW := Lib.hid hW
            have HT := Lib.hid htb
            have e1 : ((s : Int) != s) = false := by simp
            clear hW htb
            go_wp2_with fail
            refine HW.out.mono ?_
            rintro e w1 ⟨rfl, hb1⟩
            replace hbf := hbf.keep hb1
            replace hbb := keepB hbb hb1
            clear hb1
            go_wp2_with fail
            go_roundw
            case rel => exact ⟨m + 1, by omega, by go_num, hbf.cong (fun k _ => As.tb_skip HT.out k), hbb⟩
            case measure => simp [intOf]; omega
          · have hwl := As.wo_lt s hs64 m (by omega) htb
            have hc1 : 1 ≤ c := by
              have := HCE.out
              have hmem : m ∈ As.its V.length s := As.mem_its.2 ⟨hltm, htb⟩
              have := List.length_pos_of_mem hmem
              omega
            have hagn : ag < V.length := by have := HAG.out; omega
            have HT := Lib.hid htb
            have HPUT := Lib.hid (fun k => As.tb_put (V := V) htb k)
            rw [HCE.out, HAG.out] at HPUT
            obtain ⟨r, hr⟩ : ∃ r, As.wo s m = r := ⟨_, rfl⟩
            rw [hr] at hW hwl HPUT
            have HW := Lib.hid hW
            have e1 : ((r : Int) != s) = true := by rw [bne_iff_ne]; omega
            clear hW htb
            obtain ⟨R, cc, hcr, hrl, hI⟩ := HR.out ag hagn
            rw [HOKV.out.row ag hagn] at hcr
            obtain ⟨rb, ro, rfl, hcs⟩ := hI.1 (by rw [HOKV.out.row ag hagn]; omega)
            have c1 : w.cell? ⟨rb, ro + m, none⟩ = some (.int .i64 (As.vl V ag m)) := hcs m (by rw [HOKV.out.row ag hagn]; omega)
            have HC1 := Lib.hid c1
            have HC2 := Lib.hid hcr
            have b1 := HOKV.out.bd ag m
            have b2 := As.mst_bd n6 (As.le_of_vl fun i j => (HOKV.out.bd i j).2) r
            have b3 := As.pm_nn V s m
            have b4 := As.pm_bd n6 (As.le_of_vl fun i j => (HOKV.out.bd i j).2) (fun i j => (HOKV.out.bd i j).2) s m
            clear hcs hI hrl c1 hcr
            go_wp2_with fail
            refine HW.out.mono ?_
            rintro e w1 ⟨rfl, hb1⟩
            replace hbf := hbf.keep hb1
            replace hbb := keepB hbb hb1
            clear hb1
            have x1 := hbf.c (k := s) hlt
            have x2 := hbf.c (k := r) (by omega)
            have x3 := hbf.f (k := s) hlt
            have x4 := keepC hbb HC1.out
            have x5 := keepC hbb HC2.out
            rw [show As.tb V s m s = As.pm V s m by unfold As.tb; simp] at x1
            rw [show As.tb V s m r = As.mst V r by unfold As.tb; simp [hwl]] at x2
            obtain ⟨b11, b12⟩ := b1
            obtain ⟨b21, b22⟩ := b2
            generalize As.vl V ag m = x at *
            generalize As.mst V r = M at *
            generalize As.pm V s m = P at *
            have a1 : IntKind.i64.wrap (x + M) = x + M := IntWalk.i64_in _ (by omega)
            have i1 : (s : Int) < (N : Int) := by omega
            have i2 : (r : Int) < (N : Int) := by omega
            have i3 : (m : Int) < (V.length : Int) := by omega
            have i4 : (ag : Int) < (V.length : Int) := by omega
            go_wp2_with fail
            go_big_region
            clear a1 x1 x2 x3 x4 x5
            go_wp2_with fail
            go_roundw
            case rel => exact ⟨m + 1, by omega, by go_num, ((hbf.set s _).drew).cong (fun k _ => by rw [imax]; exact HPUT.out k), (hbb.setCell (Nat.le_refl _) _).drew⟩
            case measure => simp [intOf]; omega
        · obtain rfl : m = V.length := by omega
          go_wp2_with fail
          go_roundw
          case rel => exact ⟨s + 1, by omega, by go_num, hbf.cong (fun k _ => As.tb_next n6 hs64 k), hbb⟩
          case measure => simp [intOf]; omega
    · obtain rfl : s = N := by omega
      go_wp2_with fail
      go_ret
      exact ⟨rfl, hbf.cong (fun k hk => As.tb_end hk), hbb⟩
end Go.Proofs.Ytncmffhoodfhjaa

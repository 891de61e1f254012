/- Package assign: isAssignment, Check, valueOf, Value. -/
import Derived.Test.YtpiolhjiflohgaaAsa
import Derived.IntWalk
namespace Go.Proofs.Ytpiolhjiflohgaa
open Go.RowKit
namespace As
/-- The numbers of items as ints. -/
def al (a : List Nat) : List Int := a.map (fun j : Nat => (j : Int))
/-- Is x one of the list? -/
def has (xs : List Int) (x : Int) : Bool := decide (x ∈ xs)
/-- Is it an assignment of n agents? -/
def isA (xs : List Int) (n : Nat) : Bool := decide (xs.length = n) && (List.range n).all (fun j : Nat => has xs j)
theorem el_al (a : List Nat) (i : Nat) : el (al a) i = ((a.getD i 0 : Nat) : Int) := by
  unfold el al
  simp only [List.getD_eq_getElem?_getD, List.getElem?_map]
  cases a[i]? <;> simp
theorem isA_perm {xs : List Int} {n : Nat} (h : isA xs n = true) : ∃ a : List Nat, xs = al a ∧ a.Perm (List.range n) := by
  unfold isA at h
  simp only [Bool.and_eq_true, has, decide_eq_true_eq, List.all_eq_true, List.mem_range] at h
  obtain ⟨hl, hm⟩ := h
  have hsub : (List.range n).map (fun j : Nat => (j : Int)) ⊆ xs := by
    intro x hx
    obtain ⟨j, hj, rfl⟩ := List.mem_map.1 hx
    exact hm j (by simpa using hj)
  have hnd : ((List.range n).map (fun j : Nat => (j : Int))).Nodup := by
    refine List.Pairwise.map _ (fun a b hab e => hab ?_) (List.nodup_range (n := n))
    exact Int.ofNat.inj e
  -- each element of xs is one of them: else there would be n + 1
  have hall : ∀ x ∈ xs, ∃ j, j < n ∧ x = (j : Int) := by
    intro x hx
    by_cases hc : x ∈ (List.range n).map (fun j : Nat => (j : Int))
    · obtain ⟨j, hj, rfl⟩ := List.mem_map.1 hc
      exact ⟨j, by simpa using hj, rfl⟩
    · exfalso
      have h1 : (x :: (List.range n).map (fun j : Nat => (j : Int))).Nodup := List.nodup_cons.2 ⟨hc, hnd⟩
      have h2 := List.Nodup.length_le_of_subset h1 (l₂ := xs) fun y hy => by
        rcases List.mem_cons.1 hy with rfl | hy
        · exact hx
        · exact hsub hy
      simp at h2
      omega
  have hperm : ((List.range n).map (fun j : Nat => (j : Int))).Perm xs := by
    have hn' : ((List.range n).map (fun j : Nat => (j : Int))).length = xs.length := by simp [hl]
    -- the same length, no repetition on one side: no repetition on the other one
    have key : ∀ (l m : List Int), l.Nodup → l ⊆ m → l.length = m.length → l.Perm m := by
      intro l
      induction l with
      | nil => intro m _ _ h; rw [List.eq_nil_of_length_eq_zero h.symm]
      | cons y l ih =>
        intro m hn hs h
        have hy : y ∈ m := hs (by simp)
        have hc := List.nodup_cons.1 hn
        have := ih (m.erase y) hc.2 (fun z hz => by
          have : z ≠ y := fun e => hc.1 (e ▸ hz)
          exact (List.mem_erase_of_ne this).2 (hs (by simp [hz]))) (by rw [List.length_erase_of_mem hy]; simp at h; omega)
        exact (this.cons y).trans (List.perm_cons_erase hy).symm
    exact key _ _ hnd hsub hn'
  refine ⟨xs.map Int.toNat, ?_, ?_⟩
  · unfold al
    rw [List.map_map]
    conv => lhs; rw [← List.map_id xs]
    refine List.map_congr_left fun x hx => ?_
    obtain ⟨j, _, rfl⟩ := hall x hx
    simp
  · have := (hperm.map Int.toNat).symm
    rw [List.map_map] at this
    have e : (List.range n).map (Int.toNat ∘ fun j : Nat => (j : Int)) = List.range n := by
      conv => rhs; rw [← List.map_id (List.range n)]
      exact List.map_congr_left fun x _ => by simp
    rw [e] at this
    exact this
theorem perm_isA {a : List Nat} {n : Nat} (h : a.Perm (List.range n)) : isA (al a) n = true := by
  unfold isA al
  simp only [Bool.and_eq_true, has, decide_eq_true_eq, List.all_eq_true, List.mem_range, List.length_map]
  refine ⟨by simpa using h.length_eq, fun j hj => ?_⟩
  exact List.mem_map.2 ⟨j, h.mem_iff.2 (by simpa using hj), rfl⟩
theorem al_len (a : List Nat) : (al a).length = a.length := by simp [al]
/-- Valid bids. -/
structure Ok (V : List (List Int)) : Prop where
  n1 : 1 ≤ V.length
  n6 : V.length ≤ 6
  row : ∀ i, i < V.length → (V.getD i []).length = V.length
  bd : ∀ i j, 0 ≤ vl V i j ∧ vl V i j ≤ 1000000
theorem rowsOk_def (V : List (List Int)) : rowsOk V = V.all (fun r => isL r V.length 1000000) := rfl
theorem chk_ok {V : List (List Int)} (h : chk V = 0) : Ok V := by
  unfold chk at h
  by_cases h6 : 6 < V.length
  · rw [if_pos h6] at h; cases h
  · rw [if_neg h6] at h
    by_cases h0 : V.length = 0
    · rw [if_pos h0] at h; cases h
    · rw [if_neg h0] at h
      by_cases ha : rowsOk V = true
      · have hr : ∀ i, i < V.length → isL (V.getD i []) V.length 1000000 = true := fun i hi => by
          rw [List.getD_eq_getElem?_getD, List.getElem?_eq_getElem hi]
          exact List.all_eq_true.1 ((rowsOk_def V).symm.trans ha) _ (List.getElem_mem hi)
        refine ⟨by omega, by omega, fun i hi => ?_, fun i j => ?_⟩
        · have := hr i hi
          unfold isL at this
          simp only [Bool.and_eq_true, decide_eq_true_eq] at this
          omega
        · unfold vl
          rcases Nat.lt_or_ge i V.length with hi | hi
          · have := hr i hi
            unfold isL at this
            simp only [Bool.and_eq_true, decide_eq_true_eq, List.all_eq_true] at this
            unfold el
            rw [List.getD_eq_getElem?_getD]
            rcases Nat.lt_or_ge j (V.getD i []).length with hj | hj
            · rw [List.getElem?_eq_getElem hj]
              exact this.2 _ (List.getElem_mem hj)
            · rw [List.getElem?_eq_none hj]; simp
          · have : V.getD i [] = [] := by rw [List.getD_eq_getElem?_getD, List.getElem?_eq_none hi]; rfl
            rw [this]; simp [el]
      · rw [if_neg ha] at h; cases h
theorem Ok.nn {V : List (List Int)} (h : Ok V) : Nn V := by
  intro r hr j
  obtain ⟨i, hi, rfl⟩ := List.mem_iff_getElem.1 hr
  have := (h.bd i j).1
  unfold vl at this
  rwa [List.getD_eq_getElem?_getD, List.getElem?_eq_getElem hi] at this
theorem all_yes {V : List (List Int)} (h : ∀ k, k < V.length → isL (V.getD k []) V.length 1000000 = true) : rowsOk V = true := by
  rw [rowsOk_def, List.all_eq_true]
  intro r hr
  obtain ⟨i, hi, rfl⟩ := List.mem_iff_getElem.1 hr
  have := h i hi
  rwa [List.getD_eq_getElem?_getD, List.getElem?_eq_getElem hi] at this
theorem all_no {V : List (List Int)} {k : Nat} (hk : k < V.length) (h : isL (V.getD k []) V.length 1000000 = false) : rowsOk V = false := by
  rw [rowsOk_def, List.all_eq_false]
  refine ⟨V[k], List.getElem_mem hk, ?_⟩
  rw [List.getD_eq_getElem?_getD, List.getElem?_eq_getElem hk] at h
  simpa using h
theorem all_has {xs : List Int} {k : Nat} {x : Int} (hk : k < xs.length) (h : el xs k = x) : has xs x = true := by
  have : el xs k = xs[k] := by unfold el; simp [hk]
  unfold has; rw [decide_eq_true_eq, ← h, this]; exact List.getElem_mem hk
theorem all_hasnt {xs : List Int} {x : Int} (h : ∀ k, k < xs.length → ¬ el xs k = x) : has xs x = false := by
  unfold has
  rw [decide_eq_false_iff_not]
  intro hm
  obtain ⟨k, hk, e⟩ := List.mem_iff_getElem.1 hm
  refine h k hk ?_
  rw [← e]; unfold el; simp [hk]
theorem isA_yes {xs : List Int} {n : Nat} (hl : xs.length = n) (h : ∀ j, j < n → has xs j = true) : isA xs n = true := by
  unfold isA; rw [decide_eq_true hl, Bool.true_and, List.all_eq_true]; intro j hj; exact h j (by simpa using hj)
theorem isA_no {xs : List Int} {n j : Nat} (hj : j < n) (h : has xs j = false) : isA xs n = false := by
  unfold isA
  have : (List.range n).all (fun j : Nat => has xs j) = false := by
    rw [List.all_eq_false]; exact ⟨j, by simpa using hj, by simpa using h⟩
  rw [this, Bool.and_false]
/-- Value's answer and error. -/
def valS (V : List (List Int)) (xs : List Int) : Int × Int := if chk V = 0 then (if isA xs V.length then (wr V (xs.map Int.toNat), 0) else (0, 8)) else (0, chk V)
theorem toNat_al (a : List Nat) : (al a).map Int.toNat = a := by
  unfold al; rw [List.map_map]
  conv => rhs; rw [← List.map_id a]
  exact List.map_congr_left fun x _ => by simp
theorem wr_bd {V : List (List Int)} (h : ∀ i j, 0 ≤ vl V i j ∧ vl V i j ≤ 1000000) (a : List Nat) : ∀ i, i ≤ V.length → i ≤ a.length → 0 ≤ wr (V.take i) (a.take i) ∧ wr (V.take i) (a.take i) ≤ i * 1000000
  | 0, _, _ => by simp [wr]
  | i + 1, h1, h2 => by
    have ih := wr_bd h a i (by omega) (by omega)
    rw [wr_take V a i (by omega) (by omega)]
    have := h i (a.getD i 0)
    omega
end As
set_option linter.unusedSimpArgs false in
set_option maxHeartbeats 2000000 in
theorem asIndex_any (A : Option Addr) (cap : Nat) (xs : List Int) (x : Int) (w : World) (hl : xs.length ≤ maxLen) (h : IsI w A xs) :
    Calls Try.prog 88 #[.slice A xs.length cap, .int .i64 x] w fun e w' => ∃ z : Int, e = .returned (.int .i64 z) ∧ (As.has xs x = true → 0 ≤ z) ∧ (As.has xs x = false → z = -1) ∧ Below w.heap.size w w' := by
  unfold maxLen at hl
  have HC := Lib.hid h
  clear h
  go_enter Try.func88, Try.ntmps88
  go_wp2_with fail
  go_loop [5, 8] (fun _ i => ∃ k : Nat, k ≤ xs.length ∧ i = .int .i64 k ∧ (∀ j, j < k → ¬ As.el xs j = x)) (fun _ i => xs.length - (intOf i).toNat)
  case atStart => exact ⟨0, Nat.zero_le _, rfl, fun j hj => absurd hj (Nat.not_lt_zero _)⟩
  case round =>
    obtain ⟨k, hk, rfl, hok⟩ := hrel
    have HOK := Lib.hid hok
    clear hok
    by_cases hlt : k < xs.length
    · obtain ⟨b, off, rfl, hcs⟩ := HC.out.1 (by omega)
      have c0 := hcs k hlt
      clear hcs
      by_cases hh : As.el xs k = x
      · have EB := Lib.hid (As.all_has hlt hh)
        have e1 : (x == As.el xs k) = true := by simpa using hh.symm
        clear hh
        generalize As.el xs k = y at *
        go_wp2_with fail
        go_ret
        first
          | exact ⟨fun _ => by omega, fun h => (by rw [EB.out] at h; cases h), Below.refl _ _⟩
          | exact ⟨_, rfl, fun _ => by omega, fun h => (by rw [EB.out] at h; cases h), Below.refl _ _⟩
      · have e1 : (x == As.el xs k) = false := by simpa using fun e => hh e.symm
        have EB := Lib.hid hh
        clear hh
        generalize As.el xs k = y at e1 c0
        go_wp2_with fail
        go_round
        case rel => exact ⟨k + 1, by omega, by go_num, fun j hj => (Nat.lt_succ_iff_lt_or_eq.1 hj).elim (HOK.out j) (fun e => e ▸ EB.out)⟩
        case measure => simp [intOf]; omega
    · obtain rfl : k = xs.length := by omega
      have EB := Lib.hid (As.all_hasnt HOK.out)
      clear HC HOK
      go_wp2_with fail
      go_ret
      first
        | exact ⟨fun h => (by rw [EB.out] at h; cases h), fun _ => rfl, Below.refl _ _⟩
        | exact ⟨_, rfl, fun h => (by rw [EB.out] at h; cases h), fun _ => rfl, Below.refl _ _⟩
set_option maxHeartbeats 1000000 in
theorem asContains_any (A : Option Addr) (cap : Nat) (xs : List Int) (x : Int) (w : World) (hl : xs.length ≤ maxLen) (h : IsI w A xs) :
    Calls Try.prog 83 #[.slice A xs.length cap, .int .i64 x] w fun e w' => e = .returned (.bool (As.has xs x)) ∧ Below w.heap.size w w' := by
  have IX := Lib.hid (asIndex_any A cap xs x w hl h)
  generalize hz : As.has xs x = b at *
  clear hl h hz
  go_enter Try.func83, Try.ntmps83
  go_wp2_with fail
  refine IX.out.mono ?_
  rintro e w1 ⟨z, rfl, h1, h2, hb1⟩
  cases b
  · obtain rfl := h2 rfl
    clear h1 h2
    go_wp2_with fail
    go_ret
    exact ⟨rfl, hb1⟩
  · have h3 := h1 rfl
    have hd : decide ((0 : Int) ≤ z) = true := decide_eq_true h3
    clear h1 h2
    go_wp2_with fail
    go_ret
    exact ⟨rfl, hb1⟩
set_option maxHeartbeats 2000000 in
theorem isAsg_any (A : Option Addr) (cap : Nat) (xs : List Int) (n : Nat) (w : World) (hl : xs.length ≤ maxLen) (h : IsI w A xs) :
    Calls Try.prog 73 #[.slice A xs.length cap, .int .i64 n] w fun e w' => e = .returned (.bool (As.isA xs n)) ∧ Below w.heap.size w w' := by
  have HL := Lib.hid hl
  unfold maxLen at hl
  have HC := Lib.hid h
  clear h
  by_cases hn : xs.length = n
  · subst hn
    have e0 : ((xs.length : Int) != xs.length) = false := by simp
    go_enter Try.func73, Try.ntmps73
    go_wp2_with fail
    go_loopw [5, 11] (fun _ i W => ∃ k : Nat, k ≤ xs.length ∧ i = .int .i64 k ∧ (∀ j, j < k → As.has xs j = true) ∧ Below w.heap.size w W) (fun _ i _ => xs.length - (intOf i).toNat)
    case atStart => exact ⟨0, Nat.zero_le _, rfl, fun j hj => absurd hj (Nat.not_lt_zero _), Below.refl _ _⟩
    case round =>
      obtain ⟨k, hk, rfl, hok, hbb⟩ := hrel
      have HOK := Lib.hid hok
      clear hok
      by_cases hlt : k < xs.length
      · have hv := asContains_any A cap xs (k : Int) wr HL.out (HC.out.keep hbb)
        by_cases hh : As.has xs k = true
        · have EB := Lib.hid hh
          rw [hh] at hv
          have HV := Lib.hid hv
          clear hh hv
          go_wp2_with fail
          refine HV.out.mono ?_
          rintro e w1 ⟨rfl, hb1⟩
          replace hbb := keepB hbb hb1
          clear hb1
          go_wp2_with fail
          go_roundw
          case rel => exact ⟨k + 1, by omega, by go_num, fun j hj => (Nat.lt_succ_iff_lt_or_eq.1 hj).elim (HOK.out j) (fun e => e ▸ EB.out), hbb⟩
          case measure => simp [intOf]; omega
        · have hh : As.has xs k = false := by simpa using hh
          have EB := Lib.hid (As.isA_no hlt hh)
          rw [hh] at hv
          have HV := Lib.hid hv
          clear hh hv
          go_wp2_with fail
          refine HV.out.mono ?_
          rintro e w1 ⟨rfl, hb1⟩
          replace hbb := keepB hbb hb1
          clear hb1
          go_wp2_with fail
          go_ret
          exact ⟨by rw [EB.out]; rfl, hbb⟩
      · obtain rfl : k = xs.length := by omega
        have EB := Lib.hid (As.isA_yes rfl HOK.out)
        clear HC HOK
        go_wp2_with fail
        go_ret
        exact ⟨by rw [EB.out]; rfl, hbb⟩
  · have e0 : ((xs.length : Int) != n) = true := by rw [bne_iff_ne]; omega
    have e1 : As.isA xs n = false := by unfold As.isA; rw [decide_eq_false hn, Bool.false_and]
    rw [e1]
    clear hn e1
    go_enter Try.func73, Try.ntmps73
    go_wp2_with fail
    go_ret
    exact ⟨rfl, Below.refl _ _⟩
set_option maxHeartbeats 2000000 in
theorem asCheck_any (A : Option Addr) (cap : Nat) (V : List (List Int)) (w : World) (hl : V.length ≤ maxLen) (h : IsM w A V) :
    Calls Try.prog 49 #[.slice A V.length cap] w fun e w' => e = .returned (.int .i64 (As.chk V)) ∧ Below w.heap.size w w' := by
  have HC := Lib.hid h
  clear h
  unfold maxLen at hl
  unfold As.chk
  by_cases h6 : 6 < V.length
  · rw [if_pos h6]
    go_enter Try.func49, Try.ntmps49
    go_wp2_with fail
    go_ret
    exact ⟨rfl, Below.refl _ _⟩
  · rw [if_neg h6]
    by_cases h0 : V.length = 0
    · rw [if_pos h0]
      go_enter Try.func49, Try.ntmps49
      rw [h0]
      go_wp2_with fail
      go_ret
      exact ⟨rfl, Below.refl _ _⟩
    · rw [if_neg h0]
      generalize hz : (if As.rowsOk V = true then (0 : Int) else 8) = z
      have HZ := Lib.hid hz
      clear hz
      have e0 : ((V.length : Int) == 0) = false := by rw [beq_eq_false_iff_ne]; omega
      go_enter Try.func49, Try.ntmps49
      go_wp2_with fail
      obtain ⟨b, off, rfl, hrows⟩ := HC.out (by omega)
      have HR := Lib.hid hrows
      clear hrows HC
      go_loopw [5, 14] (fun _ i W => ∃ k : Nat, k ≤ V.length ∧ i = .int .i64 k ∧ (∀ j, j < k → As.isL (V.getD j []) V.length 1000000 = true) ∧ Below w.heap.size w W) (fun _ i _ => V.length - (intOf i).toNat)
      case atStart => exact ⟨0, Nat.zero_le _, rfl, fun j hj => absurd hj (Nat.not_lt_zero _), Below.refl _ _⟩
      case round =>
        obtain ⟨k, hk, rfl, hok, hbb⟩ := hrel
        have HOK := Lib.hid hok
        clear hok
        by_cases hlt : k < V.length
        · obtain ⟨R, c, hc, hrl, hI⟩ := HR.out k hlt
          replace hc := keepC hbb hc
          have hv := isList_any R c (V.getD k []) V.length 1000000 wr hrl (hI.keep hbb)
          clear hI
          by_cases hh : As.isL (V.getD k []) V.length 1000000 = true
          · have EB := Lib.hid hh
            rw [hh] at hv
            have HV := Lib.hid hv
            clear hh hv hrl
            generalize (V.getD k []).length = q at hc HV
            go_wp2_with fail
            refine HV.out.mono ?_
            rintro e w1 ⟨rfl, hb1⟩
            replace hbb := keepB hbb hb1
            clear hb1 hc
            go_wp2_with fail
            go_roundw
            case rel => exact ⟨k + 1, by omega, by go_num, fun j hj => (Nat.lt_succ_iff_lt_or_eq.1 hj).elim (HOK.out j) (fun e => e ▸ EB.out), hbb⟩
            case measure => simp [intOf]; omega
          · have hh : As.isL (V.getD k []) V.length 1000000 = false := by simpa using hh
            have EB := Lib.hid (As.all_no hlt hh)
            rw [hh] at hv
            have HV := Lib.hid hv
            clear hh hv hrl
            generalize (V.getD k []).length = q at hc HV
            go_wp2_with fail
            refine HV.out.mono ?_
            rintro e w1 ⟨rfl, hb1⟩
            replace hbb := keepB hbb hb1
            clear hb1 hc
            go_wp2_with fail
            go_ret
            exact ⟨by rw [← HZ.out, EB.out]; rfl, hbb⟩
        · obtain rfl : k = V.length := by omega
          have EB := Lib.hid (As.all_yes HOK.out)
          clear HR HOK
          go_wp2_with fail
          go_ret
          exact ⟨by rw [← HZ.out, EB.out]; rfl, hbb⟩
end Go.Proofs.Ytpiolhjiflohgaa

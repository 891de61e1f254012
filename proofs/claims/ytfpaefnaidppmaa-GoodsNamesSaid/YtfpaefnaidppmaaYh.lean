/- Package assign: Harm. Package assign: Proves. Package assign: Proves, all ways. Layer 13's law: the examples. AssignBest's walk. Mathematics of AssignFinds: lists in their order, the first best one. The reference of layer 13: Next. The reference of layer 13: Most. -/
import Derived.Test.YtfpaefnaidppmaaYf
import Derived.Deep.RegionHeld3
import Derived.Test.YtfpaefnaidppmaaYe
import Derived.Test.YtfpaefnaidppmaaYg
import Derived.Deep.LoopGhost
namespace Go.Proofs.Ytfpaefnaidppmaa
open Go.RowKit
namespace As
/-- The harm of an agent: the least price of its item. -/
def hmF (V : List (List Int)) (i : Nat) : Int := el (lp V (bst V)) ((bst V).getD i 0)
def hml (V : List (List Int)) : List Int := if chk V = 0 then ml V.length (hmF V) else []
theorem hm_eq {V : List (List Int)} (ok : Ok V) {i : Nat} (hi : i < V.length) : gw V i - (wr V (bst V) - vl V i ((bst V).getD i 0)) = hmF V i := by
  have ok' := zr_ok ok hi
  refine harm (bst_top ok) hi (V' := zr V i) (zr_len V i) (fun j => by rw [zr_vl V hi, if_pos rfl]) (fun k j hk => by rw [zr_vl V hi, if_neg hk]) (fun a ha => ?_) ?_
  · exact opt_ge _ _ a ha
  · have := fb_spec (zr V i) (List.range V.length) ok'.nn (by rw [zr_len]; simp)
    exact ⟨_, this.1, this.2⟩
theorem gw_bd {V : List (List Int)} (ok : Ok V) {i : Nat} (hi : i < V.length) : 0 ≤ gw V i ∧ gw V i ≤ 6000000 := by
  have ok' := zr_ok ok hi
  have h := mst_bd (V := zr V i) ok'.n6 (le_of_vl fun k j => (ok'.bd k j).2) (2 ^ (zr V i).length - 1)
  rw [mst_all ok'.n6, zr_len] at h
  exact h
theorem wr_top {V : List (List Int)} (ok : Ok V) : 0 ≤ wr V (bst V) ∧ wr V (bst V) ≤ 6000000 := by
  have h := mst_bd (V := V) ok.n6 (le_of_vl fun k j => (ok.bd k j).2) (2 ^ V.length - 1)
  rw [mst_all ok.n6, ← bst_wr ok] at h
  exact h
theorem hmF_bd {V : List (List Int)} (ok : Ok V) (i : Nat) (hi : i < V.length) : 0 ≤ hmF V i ∧ hmF V i ≤ 1000000 := by
  have ht := bst_top ok
  exact ⟨lp_nn ht _, lp_bound ht (by omega) ok.bd (own_lt ht hi)⟩
end As
/-- What Harm gives. -/
def HarmQ (V : List (List Int)) (w : World) (e : Ending) (w' : World) : Prop := ∃ A c, e = .returned (.tuple #[.slice A (As.hml V).length c, .int .i64 (As.chk V)]) ∧ IsI w' A (As.hml V) ∧ Below w.heap.size w w'
theorem cell_lt {w : World} {b o : Nat} {x : Value} (h : w.cell? ⟨b, o, none⟩ = some x) : b < w.heap.size := World.block_lt_of_cell? w _ h
/-- What holds in a round's region, whatever is stored at its own place. -/
structure HmS (w : World) (g n k ab ao : Nat) (F : Nat → Int) (a : List Nat) (v : World) : Prop where
  bb : Below w.heap.size w v
  lt : g < v.heap.size
  oth : ∀ j, j < n → j ≠ k → v.cell? ⟨g, j, none⟩ = some (.int .i64 (F j)) ∧ v.frozen? ⟨g, j, none⟩ = false
  ac : ∀ i, i < n → v.cell? ⟨ab, ao + i, none⟩ = some (.int .i64 ((a.getD i 0 : Nat) : Int))
theorem HmS.keep {w : World} {g n k ab ao : Nat} {F : Nat → Int} {a : List Nat} {v v' : World} (h : HmS w g n k ab ao F a v) (hb : Below v.heap.size v v') : HmS w g n k ab ao F a v' :=
  ⟨keepB h.bb hb, Nat.lt_of_lt_of_le h.lt hb.size, fun j hj hk => ⟨keepC hb (h.oth j hj hk).1, keepF hb (h.oth j hj hk).1 (h.oth j hj hk).2⟩, fun i hi => keepC hb (h.ac i hi)⟩
theorem HmS.set {w : World} {g n k ab ao : Nat} {F : Nat → Int} {a : List Nat} {v : World} (h : HmS w g n k ab ao F a v) (hw : w.heap.size ≤ g) (hab : ab < g) (x : Value) : HmS w g n k ab ao F a (v.setCell ⟨g, k, none⟩ x) :=
  ⟨h.bb.setCell hw _, by rw [World.size_setCell]; exact h.lt, fun j hj hk => ⟨by
    rw [World.cell?_setCell_other _ _ _ _ (by intro e; injection e with _ e; exact hk e.symm)]
    exact (h.oth j hj hk).1, froz_set (h.oth j hj hk).2 _ _⟩, fun i hi => cell_far (h.ac i hi) (by omega) _⟩
theorem HmS.bf {w : World} {g n k ab ao : Nat} {F G : Nat → Int} {a : List Nat} {v : World} (h : HmS w g n k ab ao F a v) (hc : v.cell? ⟨g, k, none⟩ = some (.int .i64 (G k))) (hf : v.frozen? ⟨g, k, none⟩ = false) (hG : ∀ j, j < n → j ≠ k → F j = G j) : BF v g n G := by
  refine ⟨h.lt, fun j x e => ?_⟩
  obtain ⟨hj, e2⟩ := List.getElem?_eq_some_iff.1 e
  simp only [List.length_map, List.length_range] at hj
  simp only [List.getElem_map, List.getElem_range] at e2
  subst e2
  by_cases e3 : j = k
  · subst e3; exact ⟨hc, hf⟩
  · rw [← hG j hj e3]; exact h.oth j hj e3
end Go.Proofs.Ytfpaefnaidppmaa
namespace Go.Proofs.Ytfpaefnaidppmaa
open Go.RowKit
end Go.Proofs.Ytfpaefnaidppmaa
namespace Go.Proofs.Ytfpaefnaidppmaa
open Go.RowKit
end Go.Proofs.Ytfpaefnaidppmaa
namespace Go.Proofs.Ytfpaefnaidppmaa
open Go.RowKit
theorem two_le : (2 : Nat) ≤ maxLen := by unfold maxLen; simp
theorem asx_g : As.bsl [[5, 3], [4, 1]] = [1, 0] ∧ As.bsv [[5, 3], [4, 1]] = 7 ∧ As.chk [[5, 3], [4, 1]] = 0 := by decide +kernel
theorem asx_e : As.bsl [[1, 1], [1, 1]] = [0, 1] ∧ As.bsv [[1, 1], [1, 1]] = 2 ∧ As.chk [[1, 1], [1, 1]] = 0 := by decide +kernel
theorem asx_pg : As.prl [[5, 3], [4, 1]] = [2, 0] ∧ As.chk [[5, 3], [4, 1]] = 0 := by decide +kernel
theorem asx_pe : As.prl [[1, 1], [1, 1]] = [0, 0] ∧ As.chk [[1, 1], [1, 1]] = 0 := by decide +kernel
theorem asx_hg : As.hml [[5, 3], [4, 1]] = [0, 2] ∧ As.chk [[5, 3], [4, 1]] = 0 := by decide +kernel
theorem asx_yes : As.prvS [[5, 3], [4, 1]] [1, 0] [3, 0] = (true, 0) := by decide +kernel
theorem asx_no : As.prvS [[5, 3], [4, 1]] [1, 0] [4, 0] = (false, 0) := by decide +kernel
theorem same2 (A : Option Addr) (ca : Nat) (B : Option Addr) (cb : Nat) (x y : Int) (w : World) (hA : IsI w A [x, y]) (hB : IsI w B [x, y]) : Calls Try.prog 23 #[.slice A 2 ca, .slice B 2 cb] w fun e w' => e = .returned (.bool true) ∧ Below w.heap.size w w' := same_eq A ca B cb [x, y] w two_le hA hB
end Go.Proofs.Ytfpaefnaidppmaa
namespace Go.Proofs.Ytfpaefnaidppmaa
open Go.RowKit
namespace As
theorem contB_iff {V : List (List Int)} {a : List Nat} {ps : List Int} : contB V a ps = true ↔ Cont V a (el ps) := by
  unfold contB rowB Cont
  rw [List.all_eq_true]
  constructor
  · intro h i j hi hj
    have h1 := List.all_eq_true.1 (h i (by simpa using hi)) j (by simpa using hj)
    rw [Bool.not_eq_true', decide_eq_false_iff_not] at h1
    omega
  · intro h i hi
    rw [List.all_eq_true]
    intro j hj
    have := h i j (by simpa using hi) (by simpa using hj)
    rw [Bool.not_eq_true', decide_eq_false_iff_not]
    omega
/-- What proves an assignment: it is as good as the best one, which is proved, too. -/
theorem cont_yes {V : List (List Int)} (ok : Ok V) {a : List Nat} {ps : List Int} (ha : a.Perm (List.range V.length)) (h : contB V a ps = true) : wr V a = wr V (bst V) ∧ contB V (bst V) ps = true := by
  have hc := contB_iff.1 h
  have ht := bst_top ok
  have h1 := (hc.top ha).top (bst V) ht.perm
  have h2 := ht.top a ha
  exact ⟨by omega, contB_iff.2 (hc.other ha ht.perm (by omega))⟩
/-- The best assignment is the first one. -/
theorem bst_first {V : List (List Int)} (ok : Ok V) {a : List Nat} (ha : a.Perm (List.range V.length)) (h : wr V a = wr V (bst V)) {i : Nat} (hi : i < V.length) (hk : ∀ k, k < i → a.getD k 0 = (bst V).getD k 0) : (bst V).getD i 0 ≤ a.getD i 0 :=
  fb_first V (List.range V.length) a ok.nn (by simp) List.pairwise_lt_range ha (by rw [h, bst_wr ok]) i hi hk
end As
end Go.Proofs.Ytfpaefnaidppmaa
namespace Go.Proofs.Ytfpaefnaidppmaa.As
/-- The number of a list in the order of lists. -/
def enc (n : Nat) : List Nat → Nat
  | [] => 0
  | x :: l => x * n ^ l.length + enc n l
theorem enc_lt {n : Nat} : ∀ {l : List Nat}, (∀ x ∈ l, x < n) → enc n l < n ^ l.length
  | [], _ => by simp [enc]
  | x :: l, h => by
    have ih := enc_lt (n := n) (l := l) fun y hy => h y (by simp [hy])
    have hx := h x (by simp)
    have h1 : (x + 1) * n ^ l.length ≤ n * n ^ l.length := Nat.mul_le_mul_right _ hx
    rw [Nat.succ_mul] at h1
    simp only [enc, List.length_cons, Nat.pow_succ]
    rw [Nat.mul_comm (n ^ l.length) n]
    omega
theorem enc_lex {n : Nat} : ∀ {l m : List Nat}, l.length = m.length → (∀ x ∈ l, x < n) → (∀ x ∈ m, x < n) → enc n l < enc n m → ∃ i, i < l.length ∧ (∀ k, k < i → l.getD k 0 = m.getD k 0) ∧ l.getD i 0 < m.getD i 0
  | [], [], _, _, _, h => by simp [enc] at h
  | [], _ :: _, hl, _, _, _ => by simp at hl
  | _ :: _, [], hl, _, _, _ => by simp at hl
  | x :: l, y :: m, hl, h1, h2, h => by
    have hl' : l.length = m.length := by simpa using hl
    have e1 := enc_lt (n := n) (l := l) fun z hz => h1 z (by simp [hz])
    have e2 := enc_lt (n := n) (l := m) fun z hz => h2 z (by simp [hz])
    simp only [enc] at h
    rw [hl'] at h e1
    rcases Nat.lt_trichotomy x y with hxy | hxy | hxy
    · exact ⟨0, by simp, fun k hk => absurd hk (by omega), by simpa [List.getD] using hxy⟩
    · subst hxy
      obtain ⟨i, hi, hk, hlt⟩ := enc_lex (l := l) (m := m) hl' (fun z hz => h1 z (by simp [hz])) (fun z hz => h2 z (by simp [hz])) (by omega)
      refine ⟨i + 1, by simpa using hi, fun k hk' => ?_, by rw [getD_cons_succ, getD_cons_succ]; exact hlt⟩
      cases k with
      | zero => simp [List.getD]
      | succ k => rw [getD_cons_succ, getD_cons_succ]; exact hk k (by omega)
    · exfalso
      have h3 : (y + 1) * n ^ m.length ≤ x * n ^ m.length := Nat.mul_le_mul_right _ hxy
      rw [Nat.succ_mul] at h3
      omega
theorem enc_inj {n : Nat} : ∀ {l m : List Nat}, l.length = m.length → (∀ x ∈ l, x < n) → (∀ x ∈ m, x < n) → enc n l = enc n m → l = m
  | [], [], _, _, _, _ => rfl
  | [], _ :: _, hl, _, _, _ => by simp at hl
  | _ :: _, [], hl, _, _, _ => by simp at hl
  | x :: l, y :: m, hl, h1, h2, h => by
    have hl' : l.length = m.length := by simpa using hl
    have e1 := enc_lt (n := n) (l := l) fun z hz => h1 z (by simp [hz])
    have e2 := enc_lt (n := n) (l := m) fun z hz => h2 z (by simp [hz])
    simp only [enc] at h
    rw [hl'] at h e1
    rcases Nat.lt_trichotomy x y with hxy | hxy | hxy
    · have h3 : (x + 1) * n ^ m.length ≤ y * n ^ m.length := Nat.mul_le_mul_right _ hxy
      rw [Nat.succ_mul] at h3
      omega
    · subst hxy
      rw [enc_inj hl' (fun z hz => h1 z (by simp [hz])) (fun z hz => h2 z (by simp [hz])) (by omega)]
    · have h3 : (y + 1) * n ^ m.length ≤ x * n ^ m.length := Nat.mul_le_mul_right _ hxy
      rw [Nat.succ_mul] at h3
      omega
theorem enc_app (n : Nat) : ∀ (p q : List Nat), enc n (p ++ q) = enc n p * n ^ q.length + enc n q
  | [], q => by simp [enc]
  | x :: p, q => by
    simp only [List.cons_append, enc, enc_app n p q, List.length_append, Nat.pow_add]
    rw [Nat.add_mul, Nat.mul_assoc]; omega
theorem enc_top {n : Nat} (hn : 1 ≤ n) : ∀ m, enc n (List.replicate m (n - 1)) + 1 = n ^ m
  | 0 => by simp [enc]
  | m + 1 => by
    have ih := enc_top hn m
    simp only [List.replicate_succ, enc, List.length_replicate]
    rw [Nat.pow_succ, Nat.sub_mul, Nat.one_mul, Nat.mul_comm (n ^ m) n]
    have : n ^ m ≤ n * n ^ m := Nat.le_mul_of_pos_left _ hn
    omega
theorem enc_zero (n : Nat) : ∀ m, enc n (List.replicate m 0) = 0
  | 0 => rfl
  | m + 1 => by simp [List.replicate_succ, enc, enc_zero n m]
theorem enc_step {n : Nat} (hn : 1 ≤ n) (p : List Nat) (x m : Nat) : enc n (p ++ (x + 1) :: List.replicate m 0) = enc n (p ++ x :: List.replicate m (n - 1)) + 1 := by
  have h := enc_top hn m
  simp only [enc_app, enc, List.length_cons, List.length_replicate, enc_zero, Nat.succ_mul]
  omega
/-- The best one of the lists before a number. -/
def BsI (V : List (List Int)) (t : Nat) (T : List Nat) : Prop :=
  (T = [] ∧ ∀ a : List Nat, a.Perm (List.range V.length) → enc V.length a < t → False) ∨
  (T.Perm (List.range V.length) ∧ enc V.length T < t ∧ ∀ a : List Nat, a.Perm (List.range V.length) → enc V.length a < t → wr V a ≤ wr V T ∧ (enc V.length a < enc V.length T → wr V a < wr V T))
theorem perm_dig {n : Nat} {a : List Nat} (h : a.Perm (List.range n)) : a.length = n ∧ ∀ x ∈ a, x < n := ⟨by simpa using h.length_eq, fun x hx => by simpa using h.mem_iff.1 hx⟩
theorem BsI.skip {V : List (List Int)} {t : Nat} {T L : List Nat} (h : BsI V t T) (hL : L.length = V.length) (hd : ∀ x ∈ L, x < V.length) (ht : enc V.length L = t) (hp : ¬ L.Perm (List.range V.length)) : BsI V (t + 1) T := by
  have key : ∀ a : List Nat, a.Perm (List.range V.length) → enc V.length a < t + 1 → enc V.length a < t := fun a ha hlt => by
    obtain ⟨q1, q2⟩ := perm_dig ha
    rcases Nat.lt_or_ge (enc V.length a) t with h1 | h1
    · exact h1
    · have : a = L := enc_inj (by omega) q2 hd (by omega)
      exact absurd (this ▸ ha) hp
  rcases h with ⟨h1, h2⟩ | ⟨h1, h2, h3⟩
  · exact .inl ⟨h1, fun a ha hlt => h2 a ha (key a ha hlt)⟩
  · exact .inr ⟨h1, by omega, fun a ha hlt => h3 a ha (key a ha hlt)⟩
theorem BsI.take {V : List (List Int)} {t : Nat} {T L : List Nat} (h : BsI V t T) (ht : enc V.length L = t) (hp : L.Perm (List.range V.length)) (hb : T = [] ∨ wr V T < wr V L) : BsI V (t + 1) L := by
  obtain ⟨p1, p2⟩ := perm_dig hp
  refine .inr ⟨hp, by omega, fun a ha hlt => ?_⟩
  obtain ⟨q1, q2⟩ := perm_dig ha
  rcases Nat.lt_or_ge (enc V.length a) t with h1 | h1
  · have hw : wr V a < wr V L := by
      rcases h with ⟨h2, h3⟩ | ⟨h2, h3, h4⟩
      · exact (h3 a ha h1).elim
      · have := (h4 a ha h1).1
        rcases hb with hb | hb
        · subst hb
          have := h2.length_eq
          simp at this
          have h5 := ha.length_eq
          simp at h5
          have : a = [] := List.eq_nil_of_length_eq_zero (by omega)
          subst this
          exact absurd (enc_inj (n := V.length) (l := []) (m := []) rfl (by simp) (by simp) rfl) (fun _ => by
            have hL : L = [] := List.eq_nil_of_length_eq_zero (by omega)
            subst hL
            omega)
        · omega
    exact ⟨by omega, fun _ => hw⟩
  · have : a = L := enc_inj (by omega) q2 p2 (by omega)
    subst this
    exact ⟨Int.le_refl _, fun h => absurd h (by omega)⟩
theorem BsI.stay {V : List (List Int)} {t : Nat} {T L : List Nat} (h : BsI V t T) (hT : T ≠ []) (ht : enc V.length L = t) (hp : L.Perm (List.range V.length)) (hb : wr V L ≤ wr V T) : BsI V (t + 1) T := by
  obtain ⟨p1, p2⟩ := perm_dig hp
  rcases h with ⟨h1, _⟩ | ⟨h1, h2, h3⟩
  · exact absurd h1 hT
  · refine .inr ⟨h1, by omega, fun a ha hlt => ?_⟩
    obtain ⟨q1, q2⟩ := perm_dig ha
    rcases Nat.lt_or_ge (enc V.length a) t with h4 | h4
    · exact h3 a ha h4
    · have : a = L := enc_inj (by omega) q2 p2 (by omega)
      subst this
      exact ⟨hb, fun h => absurd h (by omega)⟩
/-- At the end it is the best assignment. -/
theorem BsI.end_ {V : List (List Int)} (ok : Ok V) {T : List Nat} (h : BsI V (V.length ^ V.length) T) : T = bst V := by
  have ht := bst_top ok
  obtain ⟨p1, p2⟩ := perm_dig ht.perm
  have hlt : enc V.length (bst V) < V.length ^ V.length := by have := enc_lt p2; rwa [p1] at this
  rcases h with ⟨_, h2⟩ | ⟨h1, h2, h3⟩
  · exact (h2 _ ht.perm hlt).elim
  · obtain ⟨q1, q2⟩ := perm_dig h1
    have h4 := h3 _ ht.perm hlt
    have h5 := ht.top T h1
    rcases Nat.lt_trichotomy (enc V.length T) (enc V.length (bst V)) with h6 | h6 | h6
    · obtain ⟨i, hi, hk, hd⟩ := enc_lex (by omega) q2 p2 h6
      have := bst_first ok h1 (by omega) (i := i) (by omega) hk
      omega
    · exact enc_inj (by omega) q2 p2 h6
    · have := h4.2 h6
      omega
theorem BsI.zero (V : List (List Int)) : BsI V 0 [] := .inl ⟨rfl, fun _ _ h => absurd h (by omega)⟩
end Go.Proofs.Ytfpaefnaidppmaa.As
namespace Go.Proofs.Ytfpaefnaidppmaa
open Go.RowKit
theorem gby_set {w W : World} {g o : Nat} (h : w.grownBy W (some g)) (x : Value) : w.grownBy (W.setCell ⟨g, o, none⟩ x) (some g) :=
  ⟨h.os, h.tape, h.output, by rw [World.size_setCell]; exact h.size, fun b hb hne => (Below.heap_setCell W ⟨g, o, none⟩ x b (fun e => hne (by rw [e]))).trans (h.block b hb hne)⟩
theorem gby_refl (w : World) (r : Option Nat) : w.grownBy w r := ⟨rfl, rfl, rfl, Nat.le_refl _, fun _ _ _ => rfl⟩
namespace As
theorem list_split {n m idx : Nat} {L : List Nat} (hl : L.length = n) (hm : idx + 1 + m = n) (h : ∀ i, idx < i → i < n → L.getD i 0 = n - 1) : L = L.take idx ++ L.getD idx 0 :: List.replicate m (n - 1) := by
  refine List.ext_getElem (by simp; omega) fun i h1 h2 => ?_
  rcases Nat.lt_trichotomy i idx with hi | hi | hi
  · rw [List.getElem_append_left (by simp; omega)]; simp
  · subst hi
    rw [List.getElem_append_right (by simp; omega)]
    simp [List.getD, h1, Nat.min_eq_left (Nat.le_of_lt h1)]
  · rw [List.getElem_append_right (by simp; omega)]
    have hmin : min idx L.length = idx := by omega
    have := h i hi (by omega)
    rw [getD_lt h1] at this
    rw [this]
    have e : i - (L.take idx).length = (i - idx - 1) + 1 := by rw [List.length_take, hmin]; omega
    simp only [e, List.getElem_cons_succ, List.getElem_replicate]
theorem getD_next {n m idx : Nat} {L : List Nat} (hl : L.length = n) (hm : idx + 1 + m = n) (y i : Nat) (hi : i < n) : (L.take idx ++ y :: List.replicate m 0).getD i 0 = if i = idx then y else if i < idx then L.getD i 0 else 0 := by
  have hmin : min idx L.length = idx := by omega
  rw [getD_lt (by simp; omega)]
  rcases Nat.lt_trichotomy i idx with h | h | h
  · rw [List.getElem_append_left (by simp; omega), if_neg (by omega), if_pos h]
    rw [getD_lt (by omega)]; simp
  · subst h
    rw [List.getElem_append_right (by simp; omega), if_pos rfl]
    simp [hmin]
  · rw [List.getElem_append_right (by simp; omega), if_neg (by omega), if_neg (by omega)]
    have e : i - (L.take idx).length = (i - idx - 1) + 1 := by rw [List.length_take, hmin]; omega
    simp only [e, List.getElem_cons_succ, List.getElem_replicate]
end As
/-- What Next gives. -/
def NextQ (g n : Nat) (L : List Nat) (w : World) (e : Ending) (w' : World) : Prop :=
  ∃ z L', e = .returned (.bool z) ∧ L'.length = n ∧ (∀ x ∈ L', x < n) ∧ BF w' g n (fun i => ((L'.getD i 0 : Nat) : Int)) ∧ w.grownBy w' (some g) ∧ (z = true → As.enc n L' = As.enc n L + 1) ∧ (z = false → As.enc n L + 1 = n ^ n)
theorem NextQ.yes {g n m idx : Nat} {L : List Nat} {w w' : World} (hl : L.length = n) (hd : ∀ x ∈ L, x < n) (hm : idx + 1 + m = n) (h : ∀ i, idx < i → i < n → L.getD i 0 = n - 1) (hlt : L.getD idx 0 + 1 < n) (hb : BF w' g n (fun i => if i = idx then ((L.getD idx 0 : Nat) : Int) + 1 else if i < idx then ((L.getD i 0 : Nat) : Int) else 0)) (hg : w.grownBy w' (some g)) : NextQ g n L w (.returned (.bool true)) w' := by
  refine ⟨true, L.take idx ++ (L.getD idx 0 + 1) :: List.replicate m 0, rfl, by simp; omega, fun x hx => ?_, hb.cong fun i hi => ?_, hg, fun _ => ?_, fun h => by cases h⟩
  · rcases List.mem_append.1 hx with hx | hx
    · exact hd x (List.mem_of_mem_take hx)
    · rcases List.mem_cons.1 hx with rfl | hx
      · exact hlt
      · rw [(List.mem_replicate.1 hx).2]; omega
  · rw [As.getD_next hl hm _ i hi]
    split
    · simp
    · split <;> simp
  · rw [As.enc_step (by omega)]
    conv => rhs; rw [As.list_split hl hm h]
theorem NextQ.no {g n : Nat} {L : List Nat} {w w' : World} (hl : L.length = n) (hn : 1 ≤ n) (h : ∀ i, i < n → L.getD i 0 = n - 1) (hb : BF w' g n (fun _ => 0)) (hg : w.grownBy w' (some g)) : NextQ g n L w (.returned (.bool false)) w' := by
  refine ⟨false, List.replicate n 0, rfl, by simp, fun x hx => ?_, hb.cong fun i hi => by simp [List.getD, hi], hg, fun h => (by cases h), fun _ => ?_⟩
  · rw [(List.mem_replicate.1 hx).2]; omega
  · have e : L = List.replicate n (n - 1) := List.ext_getElem (by simp [hl]) fun i h1 h2 => by
      have := h i (by omega)
      rw [As.getD_lt h1] at this
      simp [this]
    rw [e]; exact As.enc_top hn n
end Go.Proofs.Ytfpaefnaidppmaa
namespace Go.Proofs.Ytfpaefnaidppmaa
open Go.RowKit
namespace As
theorem isA_al {L : List Nat} {n : Nat} : isA (al L) n = true ↔ L.Perm (List.range n) := by
  constructor
  · intro h
    obtain ⟨a, e, hp⟩ := isA_perm h
    have := congrArg (List.map Int.toNat) e
    rw [toNat_al, toNat_al] at this
    rw [this]; exact hp
  · exact perm_isA
theorem ml_al {n : Nat} {L : List Nat} (h : L.length = n) : ml n (fun i => ((L.getD i 0 : Nat) : Int)) = al L := by
  subst h
  unfold ml al
  refine List.ext_getElem (by simp) fun i h1 h2 => ?_
  have : i < L.length := by simpa using h1
  simp [List.getD, this]
end As
theorem BF.isL {W : World} {g n : Nat} {L : List Nat} (h : BF W g n (fun i => ((L.getD i 0 : Nat) : Int))) (hl : L.length = n) (hd : ∀ x ∈ L, x < n) (n6 : n ≤ 6) : IsI W (some ⟨g, 0, none⟩) (As.al L) := by
  have := h.isI (fun k hk => by
    have := hd _ (As.getD_mem (a := L) (i := k) (by omega))
    unfold I64; omega)
  rwa [As.ml_al hl] at this
/-- The best one so far, in memory. -/
structure MoS (w W : World) (g B : Nat) (T : List Nat) (v : Value) : Prop where
  ow : Own W B v (As.al T)
  bb : Below w.heap.size w W
  wg : w.heap.size ≤ g
  gB : g < B
  hB : B ≤ W.heap.size
theorem MoS.keep {w W W' : World} {g B : Nat} {T : List Nat} {v : Value} (h : MoS w W g B T v) (hb : Below W.heap.size W W') : MoS w W' g B T v :=
  ⟨h.ow.keepB hb, keepB h.bb hb, h.wg, h.gB, Nat.le_trans h.hB hb.size⟩
theorem MoS.gby {w W W' : World} {g B : Nat} {T : List Nat} {v : Value} (h : MoS w W g B T v) (hg : W.grownBy W' (some g)) : MoS w W' g B T v :=
  ⟨own_grown h.ow hg (fun b hb e => by have := (h.ow.lt b hb).1; have := h.gB; injection e with e; omega), h.bb.grown hg h.bb.size (fun j e => by have := h.wg; injection e with e; omega), h.wg, h.gB, Nat.le_trans h.hB hg.size⟩
/-- The loop's relation. -/
def MoR (V : List (List Int)) (w : World) (g B k : Nat) (v b : Value) (W : World) : Prop :=
  (∃ L T, b = .bool true ∧ L.length = V.length ∧ (∀ x ∈ L, x < V.length) ∧ BF W g V.length (fun i => ((L.getD i 0 : Nat) : Int)) ∧ As.BsI V (As.enc V.length L) T ∧ MoS w W g B T v ∧ k = V.length ^ V.length - As.enc V.length L) ∨
  (∃ T, b = .bool false ∧ As.BsI V (V.length ^ V.length) T ∧ MoS w W g B T v ∧ k = 0)
theorem MoR.next {V : List (List Int)} {w W W' : World} {g B k : Nat} {v : Value} {L L' T : List Nat} {z : Bool} (hL : L.length = V.length) (hd : ∀ x ∈ L, x < V.length) (hk : k = V.length ^ V.length - As.enc V.length L) (hT : As.BsI V (As.enc V.length L + 1) T) (hS : MoS w W g B T v)
    (hl' : L'.length = V.length) (hd' : ∀ x ∈ L', x < V.length) (hbf : BF W' g V.length (fun i => ((L'.getD i 0 : Nat) : Int))) (hg : W.grownBy W' (some g)) (hy : z = true → As.enc V.length L' = As.enc V.length L + 1) (hn : z = false → As.enc V.length L + 1 = V.length ^ V.length) : ∃ k', k' < k ∧ MoR V w g B k' v (.bool z) W' := by
  have h1 := As.enc_lt hd
  rw [hL] at h1
  cases z
  · exact ⟨0, by omega, .inr ⟨T, rfl, by rw [← hn rfl]; exact hT, hS.gby hg, rfl⟩⟩
  · have e := hy rfl
    exact ⟨V.length ^ V.length - As.enc V.length L', by omega, .inl ⟨L', T, rfl, hl', hd', hbf, by rw [e]; exact hT, hS.gby hg, rfl⟩⟩
end Go.Proofs.Ytfpaefnaidppmaa

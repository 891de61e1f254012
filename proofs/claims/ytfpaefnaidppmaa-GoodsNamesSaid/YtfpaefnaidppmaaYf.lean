/- Package assign: firstBest. Package assign: leastPrices. Package assign: Best, Prices. Package assign: slices.Clone of rows, greatestWithout. Mathematics of layer 14: which leases are valid, gains, envies, the even lease. The reference of layer 13: Twin of any lists. Slices of slices of ints of the call's own; the reference's Twin of layer 13. The reference of layer 13: Twin of any lists: where the result lies. Tables of ints that are made row by row, and filled. -/
import Derived.Test.YtfpaefnaidppmaaYe
import Derived.Test.YtfpaefnaidppmaaYd
import Derived.Test.YtfpaefnaidppmaaYb
import Derived.Lib.Slices
namespace Go.Proofs.Ytfpaefnaidppmaa
open Go.RowKit
namespace As
/-- The best assignment. -/
def bst (V : List (List Int)) : List Nat := fb V (List.range V.length)
/-- Does an item leave the greatest value possible? -/
def hit (V : List (List Int)) (i s m : Nat) : Prop := s.testBit m = true ∧ vl V i m + mst V (wo s m) = mst V s
theorem mst_at {V : List (List Int)} {s i : Nat} (h : (its V.length s).length + i = V.length) : mst V s = opt (V.drop i) (its V.length s) := by
  unfold mst; rw [show V.length - (its V.length s).length = i by omega]
theorem its_sorted (n s : Nat) : (its n s).Pairwise (· < ·) := List.Pairwise.filter _ List.pairwise_lt_range
theorem fb_step {V : List (List Int)} (n6 : V.length ≤ 6) {i s m : Nat} (hs : s < 64) (hi : i < V.length) (hl : (its V.length s).length + i = V.length) (hm : m < V.length) (h : hit V i s m) (hno : ∀ j, j < m → ¬ hit V i s j) :
    fb (V.drop i) (its V.length s) = m :: fb (V.drop (i + 1)) (its V.length (wo s m)) ∧ (its V.length (wo s m)).length + (i + 1) = V.length := by
  have e2 := fun j hj hb => its_erase s hs V.length (by omega) j hj hb
  have e3 := fun j hj hb => its_wo_len s hs V.length (by omega) j hj hb
  have key : ∀ j, j ∈ its V.length s → (el V[i] j + opt (V.drop (i + 1)) ((its V.length s).erase j) = opt (V[i] :: V.drop (i + 1)) (its V.length s) ↔ hit V i s j) := by
    intro j hj
    have hj' := mem_its.1 hj
    unfold hit
    rw [mst_at hl, mst_at (i := i + 1) (by have := e3 j hj'.1 hj'.2; omega), e2 j hj'.1 hj'.2, List.drop_eq_getElem_cons hi]
    have e1 : vl V i j = el V[i] j := by unfold vl; rw [getD_lt hi]
    rw [e1]
    exact ⟨fun h => ⟨hj'.2, h⟩, fun h => h.2⟩
  have hmem : m ∈ its V.length s := mem_its.2 ⟨hm, h.1⟩
  have hfind : (its V.length s).find? (fun j => decide (el V[i] j + opt (V.drop (i + 1)) ((its V.length s).erase j) = opt (V[i] :: V.drop (i + 1)) (its V.length s))) = some m := by
    obtain ⟨L1, L2, hsp, hna⟩ := List.eq_append_cons_of_mem hmem
    rw [List.find?_eq_some_iff_append]
    refine ⟨by simpa using (key m hmem).2 h, L1, L2, hsp, fun a ha => ?_⟩
    have hsr := its_sorted V.length s
    have hain : a ∈ its V.length s := by rw [hsp]; simp [ha]
    rw [hsp] at hsr
    have := (List.pairwise_append.1 hsr).2.2 a ha m (by simp)
    have hn := hno a this
    have := mt (key a hain).1 hn
    simpa using this
  refine ⟨?_, by have := e3 m hm h.1; omega⟩
  rw [List.drop_eq_getElem_cons hi]
  simp only [fb]
  rw [hfind]
  simp only
  rw [e2 m hm h.1]
theorem fb_hit {V : List (List Int)} (n6 : V.length ≤ 6) (hn : Nn V) {i s : Nat} (hs : s < 64) (hi : i < V.length) (hl : (its V.length s).length + i = V.length) : ∃ m, m < V.length ∧ hit V i s m := by
  have hL : its V.length s ≠ [] := by intro e; rw [e] at hl; simp at hl; omega
  obtain ⟨j, hj, he⟩ := opt_at (r := V[i]) (R := V.drop (i + 1)) (hn _ (List.getElem_mem hi)) hL
  have hj' := mem_its.1 hj
  refine ⟨j, hj'.1, hj'.2, ?_⟩
  have e3 := its_wo_len s hs V.length (by omega) j hj'.1 hj'.2
  rw [mst_at hl, mst_at (i := i + 1) (by omega), ← its_erase s hs V.length (by omega) j hj'.1 hj'.2, List.drop_eq_getElem_cons hi]
  have e1 : vl V i j = el V[i] j := by unfold vl; rw [getD_lt hi]
  rw [e1]
  exact he
theorem al_snoc (T : List Nat) (m : Nat) : al (T ++ [m]) = al T ++ [(m : Int)] := by unfold al; rw [List.map_append]; rfl
end As
/-- firstBest between two rows. -/
structure FbI (V : List (List Int)) (w W : World) (B N i s : Nat) (v : Value) : Prop where
  lt : s < N
  len : (As.its V.length s).length + i = V.length
  T : ∃ T : List Nat, T.length = i ∧ T ++ As.fb (V.drop i) (As.its V.length s) = As.bst V ∧ Own W B v (As.al T)
  bf : BF W w.heap.size N (As.mst V)
  bb : Below w.heap.size w W
  hB : B ≤ W.heap.size
  gB : w.heap.size < B
theorem FbI.keep {V : List (List Int)} {w W W' : World} {B N i s : Nat} {v : Value} (h : FbI V w W B N i s v) (hb : Below W.heap.size W W') : FbI V w W' B N i s v := by
  obtain ⟨T, h1, h2, h3⟩ := h.T
  exact ⟨h.lt, h.len, ⟨T, h1, h2, h3.keepB hb⟩, h.bf.keep hb, keepB h.bb hb, Nat.le_trans h.hB hb.size, h.gB⟩
/-- What firstBest gives. -/
def FbQ (V : List (List Int)) (w : World) (e : Ending) (w' : World) : Prop := ∃ A c, e = .returned (.slice A V.length c) ∧ IsI w' A (As.al (As.bst V)) ∧ Below w.heap.size w w'
end Go.Proofs.Ytfpaefnaidppmaa
namespace Go.Proofs.Ytfpaefnaidppmaa
open Go.RowKit
namespace As
theorem el_rx {V : List (List Int)} {b : List Nat} {p : List Int} {i j : Nat} (h : j < p.length) (k : Nat) : el (rx V b i p j) k = if k = j then max (el p j) (el p (b.getD i 0) + vl V i j - vl V i (b.getD i 0)) else el p k := by
  unfold rx; exact el_set h
/-- A state of the prices. -/
structure St (V : List (List Int)) (b : List Nat) (P : List Int) : Prop where
  pr : Pr V b P
  nn : ∀ y, 0 ≤ el P y
theorem St.le {V : List (List Int)} {b : List Nat} {P Q : List Int} (h : St V b P) (hq : Pr V b Q) (hl : Le P Q) : St V b Q := ⟨hq, fun y => Int.le_trans (h.nn y) (hl y)⟩
theorem st_rnds {V : List (List Int)} {b : List Nat} (hb : Top V b) (k : Nat) : St V b (rnds V b k) := ⟨rnds_pr hb k, rnds_nn hb k⟩
theorem st_rnd {V : List (List Int)} {b : List Nat} (hb : Top V b) {P : List Int} (h : St V b P) {k : Nat} (hk : k ≤ V.length) : St V b (rnd V b P k) := h.le (rnd_pr hb h.pr k hk) (rnd_le hb h.pr k hk)
theorem st_row {V : List (List Int)} {b : List Nat} (hb : Top V b) {P : List Int} (h : St V b P) {i k : Nat} (hi : i < V.length) (hk : k ≤ V.length) : St V b (row V b P i k) := h.le (row_pr hb h.pr hi k hk) (row_le hb h.pr hi k hk)
theorem st_bd {V : List (List Int)} {b : List Nat} (hb : Top V b) {P : List Int} (h : St V b P) (h0 : 0 < V.length) (hV : ∀ i j, 0 ≤ vl V i j ∧ vl V i j ≤ 1000000) {y : Nat} (hy : y < V.length) : 0 ≤ el P y ∧ el P y ≤ 1000000 :=
  ⟨h.nn y, Int.le_trans (pr_le hb h.pr hy) (lp_bound hb h0 hV hy)⟩
end As
end Go.Proofs.Ytfpaefnaidppmaa
namespace Go.Proofs.Ytfpaefnaidppmaa
open Go.RowKit
namespace As
theorem bst_top {V : List (List Int)} (ok : Ok V) : Top V (bst V) := by
  have h := fb_spec V (List.range V.length) ok.nn (by simp)
  exact ⟨h.1, fun a ha => by rw [show wr V (bst V) = opt V (List.range V.length) from h.2]; exact opt_ge V _ a ha⟩
theorem bst_wr {V : List (List Int)} (ok : Ok V) : wr V (bst V) = opt V (List.range V.length) := (fb_spec V (List.range V.length) ok.nn (by simp)).2
/-- Best's list and value, and Prices' list. -/
def bsl (V : List (List Int)) : List Nat := if chk V = 0 then bst V else []
def bsv (V : List (List Int)) : Int := if chk V = 0 then wr V (bst V) else 0
def prl (V : List (List Int)) : List Int := if chk V = 0 then lp V (bst V) else []
theorem ml_el {zs : List Int} {n : Nat} (h : zs.length = n) : (List.range n).map (el zs) = zs := by
  subst h
  refine List.ext_getElem (by simp) fun i h1 h2 => ?_
  simp only [List.getElem_map, List.getElem_range]
  unfold el; simp [h2]
end As
/-- What Best gives. -/
def BestQ (V : List (List Int)) (w : World) (e : Ending) (w' : World) : Prop := ∃ A c, e = .returned (.tuple #[.slice A (As.bsl V).length c, .int .i64 (As.bsv V), .int .i64 (As.chk V)]) ∧ IsI w' A (As.al (As.bsl V)) ∧ Below w.heap.size w w'
/-- What Prices gives. -/
def PricesQ (V : List (List Int)) (w : World) (e : Ending) (w' : World) : Prop := ∃ A c, e = .returned (.tuple #[.slice A (As.prl V).length c, .int .i64 (As.chk V)]) ∧ IsI w' A (As.prl V) ∧ Below w.heap.size w w'
theorem isI_nil (w : World) (A : Option Addr) : IsI w A [] := ⟨fun h => absurd h (by simp), by simp⟩
end Go.Proofs.Ytfpaefnaidppmaa
namespace Go.Proofs.Ytfpaefnaidppmaa
open Go.RowKit
theorem rowInfo : (Try.prog.info? 25).map (fun i => (i.zero, i.size, i.bytes)) = some (some (.slice none 0 0), 1, 24) := by kernel_rfl
/-- A row of the call's own, as a block. -/
theorem own_block {w : World} {B n : Nat} {e : TypeId} {v : Value} {xs : List Value} (h : w.ownsRow B e 1 v n xs) (hn : 0 < n) : ∃ g cap, v = .slice (some ⟨g, 0, none⟩) n cap ∧ B ≤ g ∧ n ≤ cap ∧ BK w g xs := by
  rcases h.2 with ⟨_, h0⟩ | ⟨g, cap, cur, hv, hb, hg, hc, _, hs, ht⟩
  · omega
  · have hlt : g < w.heap.size := (Array.getElem?_eq_some_iff.1 hg).1
    refine ⟨g, cap, hv, hb, hc, hlt, fun j x ej => ?_⟩
    rw [← ht] at ej
    have hj : cur[j]? = some x := by
      rw [List.getElem?_take] at ej
      split at ej
      · simpa using ej
      · cases ej
    constructor
    · simp [World.cell?, hg, hj]
    · simp [World.frozen?, hg]
/-- The rows of bids as values. -/
def Rvs (w : World) (V : List (List Int)) (RV : Nat → Value) : Prop := ∀ i, i < V.length → ∃ R c, RV i = .slice R (V.getD i []).length c ∧ (V.getD i []).length ≤ maxLen ∧ IsI w R (V.getD i [])
theorem rvs_of {w : World} {V : List (List Int)} {b off : Nat} (h : ∀ i, i < V.length → ∃ R c, w.cell? ⟨b, off + i, none⟩ = some (.slice R (V.getD i []).length c) ∧ (V.getD i []).length ≤ maxLen ∧ IsI w R (V.getD i [])) :
    ∃ RV : Nat → Value, (∀ i, i < V.length → w.cell? ⟨b, off + i, none⟩ = some (RV i)) ∧ Rvs w V RV := by
  have key : ∀ i, i < V.length → ∃ x : Value, w.cell? ⟨b, off + i, none⟩ = some x ∧ ∃ R c, x = .slice R (V.getD i []).length c ∧ (V.getD i []).length ≤ maxLen ∧ IsI w R (V.getD i []) := fun i hi => by
    obtain ⟨R, c, h1, h2⟩ := h i hi
    exact ⟨_, h1, R, c, rfl, h2⟩
  obtain ⟨f, hf⟩ := Go.Deep.choose_lt key
  exact ⟨f, fun i hi => (hf i hi).1, fun i hi => (hf i hi).2⟩
/-- What Clone gives. -/
def CloneQ (n : Nat) (RV : Nat → Value) (w : World) (e : Ending) (w' : World) : Prop := ∃ g c, e = .returned (.slice (some ⟨g, 0, none⟩) n c) ∧ w.heap.size ≤ g ∧ BK w' g ((List.range n).map RV) ∧ Below w.heap.size w w'
namespace As
/-- Bids with a list put to 0. -/
def zr (V : List (List Int)) (i : Nat) : List (List Int) := V.set i (List.replicate V.length 0)
theorem zr_len (V : List (List Int)) (i : Nat) : (zr V i).length = V.length := by simp [zr]
theorem zr_get (V : List (List Int)) {i k : Nat} (hi : i < V.length) : (zr V i).getD k [] = if k = i then List.replicate V.length 0 else V.getD k [] := by
  unfold zr
  simp only [List.getD_eq_getElem?_getD]
  by_cases e : k = i
  · subst e; rw [if_pos rfl, List.getElem?_set_self hi]; rfl
  · rw [if_neg e, List.getElem?_set_ne (by omega)]
theorem zr_vl (V : List (List Int)) {i : Nat} (hi : i < V.length) (k j : Nat) : vl (zr V i) k j = if k = i then 0 else vl V k j := by
  unfold vl
  rw [zr_get V hi]
  by_cases e : k = i
  · rw [if_pos e, if_pos e]
    unfold el
    simp only [List.getD_eq_getElem?_getD, List.getElem?_replicate]
    split <;> rfl
  · rw [if_neg e, if_neg e]
theorem zr_ok {V : List (List Int)} (h : Ok V) {i : Nat} (hi : i < V.length) : Ok (zr V i) := by
  refine ⟨by rw [zr_len]; exact h.n1, by rw [zr_len]; exact h.n6, fun k hk => ?_, fun k j => ?_⟩
  · rw [zr_len] at hk ⊢
    rw [zr_get V hi]
    split
    · simp
    · exact h.row k hk
  · rw [zr_vl V hi]
    split
    · omega
    · exact h.bd k j
/-- What all items can be worth for the others. -/
def gw (V : List (List Int)) (i : Nat) : Int := opt (zr V i) (List.range V.length)
theorem mst_all {V : List (List Int)} (n6 : V.length ≤ 6) : mst V (2 ^ V.length - 1) = opt V (List.range V.length) := by
  unfold mst
  rw [its_all V.length (by omega)]
  simp
end As
end Go.Proofs.Ytfpaefnaidppmaa
namespace Go.Proofs.Ytfpaefnaidppmaa.As
/-- What Check of a flat returns. -/
def rchk (V : List (List Int)) (R : Int) : Int := if chk V = 0 then if 0 ≤ R ∧ R ≤ 10000000 then 0 else 8 else chk V
theorem rchk_cases (V : List (List Int)) (R : Int) : (rchk V R = 0 ∧ chk V = 0 ∧ 0 ≤ R ∧ R ≤ 10000000) ∨ (rchk V R = 8 ∧ chk V = 0 ∧ ¬ (0 ≤ R ∧ R ≤ 10000000)) ∨ (rchk V R = chk V ∧ (chk V != 0) = true ∧ chk V ≠ 0) := by
  unfold rchk
  rcases chk_cases V with h | ⟨h1, h2⟩
  · by_cases hR : 0 ≤ R ∧ R ≤ 10000000
    · exact .inl ⟨by rw [if_pos h, if_pos hR], h, hR⟩
    · exact .inr (.inl ⟨by rw [if_pos h, if_neg hR], h, hR⟩)
  · exact .inr (.inr ⟨by rw [if_neg h2], h1, h2⟩)
/-- A price in bounds. -/
def prB (D x : Int) : Bool := decide (-10000000 * D ≤ x) && decide (x ≤ 10000000 * D)
/-- A lease of n rooms for a rent. -/
def leB (n : Nat) (R : Int) (xs ps : List Int) (D : Int) : Bool := isA xs n && decide (ps.length = n) && decide (1 ≤ D) && decide (D ≤ 60) && (List.range n).all (fun j => prB D (el ps j)) && decide (sm (el ps) (List.range n) = D * R)
structure Le14 (n : Nat) (R : Int) (a : List Nat) (ps : List Int) (D : Int) : Prop where
  perm : a.Perm (List.range n)
  len : ps.length = n
  d1 : 1 ≤ D
  d60 : D ≤ 60
  pb : ∀ j, j < n → -10000000 * D ≤ el ps j ∧ el ps j ≤ 10000000 * D
  sum : sm (el ps) (List.range n) = D * R
theorem leB_iff {n : Nat} {R : Int} {xs ps : List Int} {D : Int} : leB n R xs ps D = true ↔ ∃ a, xs = al a ∧ Le14 n R a ps D := by
  unfold leB prB
  simp only [Bool.and_eq_true, decide_eq_true_eq, List.all_eq_true, List.mem_range]
  constructor
  · rintro ⟨⟨⟨⟨⟨h1, h2⟩, h3⟩, h4⟩, h5⟩, h6⟩
    obtain ⟨a, ha, hp⟩ := isA_perm h1
    exact ⟨a, ha, hp, h2, h3, h4, h5, h6⟩
  · rintro ⟨a, rfl, h⟩
    exact ⟨⟨⟨⟨⟨perm_isA h.perm, h.len⟩, h.d1⟩, h.d60⟩, h.pb⟩, h.sum⟩
/-- What Valid returns. -/
def vld (V : List (List Int)) (R : Int) (xs ps : List Int) (D : Int) : Int := if rchk V R = 0 then if leB V.length R xs ps D = true then 0 else 8 else rchk V R
theorem vld_zero {V : List (List Int)} {R : Int} {xs ps : List Int} {D : Int} (h : vld V R xs ps D = 0) : Ok V ∧ 0 ≤ R ∧ R ≤ 10000000 ∧ ∃ a, xs = al a ∧ Le14 V.length R a ps D := by
  unfold vld at h
  rcases rchk_cases V R with ⟨h1, h2, h3⟩ | ⟨h1, _⟩ | ⟨h1, _, h3⟩
  · rw [if_pos h1] at h
    by_cases hl : leB V.length R xs ps D = true
    · exact ⟨chk_ok h2, h3.1, h3.2, leB_iff.1 hl⟩
    · rw [if_neg hl] at h; omega
  · rw [if_neg (by omega), h1] at h; omega
  · rw [if_neg (by omega), h1] at h; omega
/-- What an agent would gain with a room, times the denominator. -/
def gnF (V : List (List Int)) (ps : List Int) (D : Int) (i j : Nat) : Int := vl V i j * D - el ps j
theorem gnF_bd {V : List (List Int)} (ok : Ok V) {R : Int} {a : List Nat} {ps : List Int} {D : Int} (h : Le14 V.length R a ps D) (i : Nat) {j : Nat} (hj : j < V.length) : -600000000 ≤ gnF V ps D i j ∧ gnF V ps D i j ≤ 660000000 := by
  have h1 := h.pb j hj
  have h2 := ok.bd i j
  have h3 := h.d1
  have h4 := h.d60
  have h5 : 0 * D ≤ vl V i j * D := Int.mul_le_mul_of_nonneg_right h2.1 (by omega)
  have h6 : vl V i j * D ≤ 1000000 * D := Int.mul_le_mul_of_nonneg_right h2.2 (by omega)
  unfold gnF; omega
/-- The gains. -/
def gnl (V : List (List Int)) (a : List Nat) (ps : List Int) (D : Int) (k : Nat) : List Int := (List.range k).map fun i => gnF V ps D i (a.getD i 0)
theorem gnl_succ (V : List (List Int)) (a : List Nat) (ps : List Int) (D : Int) (k : Nat) : gnl V a ps D (k + 1) = gnl V a ps D k ++ [gnF V ps D k (a.getD k 0)] := by simp [gnl, List.range_succ]
/-- Does i envy k? -/
def env (V : List (List Int)) (a : List Nat) (ps : List Int) (D : Int) (i k : Nat) : Bool := decide (gnF V ps D i (a.getD i 0) < gnF V ps D i (a.getD k 0))
/-- Whom i envies among the first m. -/
def env1 (V : List (List Int)) (a : List Nat) (ps : List Int) (D : Int) (i m : Nat) : List (Nat × Nat) := ((List.range m).filter (env V a ps D i)).map fun k => (i, k)
def envl (V : List (List Int)) (a : List Nat) (ps : List Int) (D : Int) (k : Nat) : List (Nat × Nat) := (List.range k).flatMap fun i => env1 V a ps D i V.length
theorem env1_succ (V : List (List Int)) (a : List Nat) (ps : List Int) (D : Int) (i m : Nat) : env1 V a ps D i (m + 1) = env1 V a ps D i m ++ if env V a ps D i m = true then [(i, m)] else [] := by
  unfold env1
  rw [List.range_succ, List.filter_append, List.map_append]
  congr 1
  by_cases h : env V a ps D i m = true
  · simp [h]
  · simp [h]
theorem envl_succ (V : List (List Int)) (a : List Nat) (ps : List Int) (D : Int) (k : Nat) : envl V a ps D (k + 1) = envl V a ps D k ++ env1 V a ps D k V.length := by simp [envl, List.range_succ]
theorem envl_nil {V : List (List Int)} {a : List Nat} {ps : List Int} {D : Int} (ha : a.Perm (List.range V.length)) : envl V a ps D V.length = [] ↔ Cont (sc D V) a (el ps) := by
  have la : a.length = V.length := by simpa using ha.length_eq
  unfold envl
  rw [List.flatMap_eq_nil_iff]
  have hi1 : ∀ i, env1 V a ps D i V.length = [] ↔ ∀ k, k < V.length → gnF V ps D i (a.getD k 0) ≤ gnF V ps D i (a.getD i 0) := fun i => by
    unfold env1 env
    rw [List.map_eq_nil_iff, List.filter_eq_nil_iff]
    simp only [List.mem_range, decide_eq_true_eq, Int.not_lt]
  have hg : ∀ i j, D * vl V i j - el ps j = gnF V ps D i j := fun i j => by unfold gnF; rw [Int.mul_comm]
  constructor
  · intro h i j hi hj
    rw [sc_len] at hi hj
    have hja : j ∈ a := ha.mem_iff.2 (List.mem_range.2 hj)
    have hk := List.idxOf_lt_length_iff.2 hja
    have e : a.getD (a.idxOf j) 0 = j := by rw [getD_lt hk]; exact List.getElem_idxOf hk
    have := (hi1 i).1 (h i (List.mem_range.2 hi)) (a.idxOf j) (by omega)
    rw [e] at this
    rw [sc_vl, sc_vl, hg, hg]
    exact this
  · intro h i hi
    refine (hi1 i).2 fun k hk => ?_
    have hka := List.mem_range.1 (ha.mem_iff.1 (getD_mem (a := a) (i := k) (by omega)))
    have := h i (a.getD k 0) (by rw [sc_len]; exact List.mem_range.1 hi) (by rw [sc_len]; exact hka)
    rw [sc_vl, sc_vl, hg, hg] at this
    exact this
/-- Prices with the least denominator. -/
def rdp (n : Nat) (p : Nat → Int) : List Int := (List.range n).map fun j => p j / (gcl n ((List.range n).map p) : Nat)
def rdd (n : Nat) (p : Nat → Int) : Int := ((n / gcl n ((List.range n).map p) : Nat) : Int)
/-- Reduced prices without envy are a lease without envy. -/
theorem rd_ok {V : List (List Int)} {b : List Nat} {R : Int} {p : Nat → Int} (n1 : 1 ≤ V.length) (n6 : V.length ≤ 6) (hb : b.Perm (List.range V.length)) (hc : Cont (sc V.length V) b p) (hs : sm p (List.range V.length) = V.length * R)
    (hbd : ∀ j, j < V.length → -10000000 * (V.length : Int) ≤ p j ∧ p j ≤ 10000000 * (V.length : Int)) : Le14 V.length R b (rdp V.length p) (rdd V.length p) ∧ Cont (sc (rdd V.length p) V) b (el (rdp V.length p)) ∧
      ∃ g : Nat, 1 ≤ g ∧ (g : Int) * rdd V.length p = V.length ∧ ∀ j, j < V.length → (g : Int) * el (rdp V.length p) j = p j := by
  obtain ⟨k1, k2⟩ := (gcl_dvs ((List.range V.length).map p) V.length _).1 (Nat.dvd_refl _)
  have g1 := gcl_pos (den := V.length) (by omega) ((List.range V.length).map p)
  unfold rdp rdd
  generalize gcl V.length ((List.range V.length).map p) = g at *
  have e1 : ((g : Nat) : Int) * ((V.length / g : Nat) : Int) = V.length := by
    rw [← Int.natCast_mul, Nat.mul_div_cancel' k1]
  have e2 : ∀ j, j < V.length → (g : Int) * el ((List.range V.length).map fun j => p j / (g : Int)) j = p j := fun j hj => by
    have : el ((List.range V.length).map fun j => p j / (g : Int)) j = p j / (g : Int) := by unfold el; simp [hj]
    rw [this]
    exact Int.mul_ediv_cancel' (k2 (p j) (List.mem_map.2 ⟨j, List.mem_range.2 hj, rfl⟩))
  have hd1 : 1 ≤ ((V.length / g : Nat) : Int) := by
    have := Nat.div_pos (Nat.le_of_dvd (by omega) k1) g1
    omega
  have hd6 : ((V.length / g : Nat) : Int) ≤ V.length := by
    have := Nat.div_le_self V.length g
    omega
  have hlen : ((List.range V.length).map fun j => p j / (g : Int)).length = V.length := by simp
  generalize ((List.range V.length).map fun j => p j / (g : Int)) = ps at *
  generalize ((V.length / g : Nat) : Int) = D at *
  have hgp : (0 : Int) < g := by omega
  refine ⟨⟨hb, hlen, hd1, by omega, fun j hj => ?_, ?_⟩, fun i j hi hj => ?_, g, by omega, e1, e2⟩
  · have h1 := hbd j hj
    have h2 := e2 j hj
    have e3 : 10000000 * (V.length : Int) = (g : Int) * (10000000 * D) := by rw [← e1]; rw [← Int.mul_assoc, ← Int.mul_assoc, Int.mul_comm (g : Int) 10000000]
    have e4 : (g : Int) * (-(10000000 * D)) = -((g : Int) * (10000000 * D)) := Int.mul_neg _ _
    constructor
    · have h3 : (g : Int) * (-(10000000 * D)) ≤ (g : Int) * el ps j := by rw [h2, e4]; omega
      have := Int.le_of_mul_le_mul_left h3 hgp
      omega
    · have h3 : (g : Int) * el ps j ≤ (g : Int) * (10000000 * D) := by rw [h2]; omega
      exact Int.le_of_mul_le_mul_left h3 hgp
  · have h1 : (g : Int) * sm (el ps) (List.range V.length) = (g : Int) * (D * R) := by
      rw [← sm_mul, ← Int.mul_assoc, e1, ← hs]
      exact sm_congr fun j hj => e2 j (List.mem_range.1 hj)
    exact Int.eq_of_mul_eq_mul_left (by omega) h1
  · rw [sc_len] at hi hj
    have lb : b.length = V.length := by simpa using hb.length_eq
    have hbi := List.mem_range.1 (hb.mem_iff.1 (getD_mem (a := b) (i := i) (by omega)))
    have h1 := hc i j (by rw [sc_len]; exact hi) (by rw [sc_len]; exact hj)
    rw [sc_vl, sc_vl, ← e1, ← e2 j hj, ← e2 _ hbi, Int.mul_assoc, Int.mul_assoc, ← Int.mul_sub, ← Int.mul_sub] at h1
    have := Int.le_of_mul_le_mul_left h1 hgp
    rw [sc_vl, sc_vl]
    exact this
/-- The even lease is a lease without envy. -/
theorem even_ok {V : List (List Int)} {b : List Nat} {R : Int} (ok : Ok V) (hb : Top V b) (r0 : 0 ≤ R) (r1 : R ≤ 10000000) : Le14 V.length R b (rdp V.length (evp V b R)) (rdd V.length (evp V b R)) ∧ Cont (sc (rdd V.length (evp V b R)) V) b (el (rdp V.length (evp V b R))) := by
  have n1 := ok.n1
  have h := rd_ok n1 ok.n6 hb.perm (evp_cont hb R) (evp_sum V b R) (fun j hj => by
    have := evp_bd hb (by omega) ok.bd r0 r1 hj
    omega)
  exact ⟨h.1, h.2.1⟩
end Go.Proofs.Ytfpaefnaidppmaa.As
namespace Go.Proofs.Ytfpaefnaidppmaa
open Go.RowKit
theorem ownG_keepB {W W' : World} {B : Nat} {e : TypeId} {sz n : Nat} {v : Value} {cs : List Value} (h : W.ownsRow B e sz v n cs) (hb : Below W.heap.size W W') : W'.ownsRow B e sz v n cs :=
  World.ownsRow.kept (row := none) h ⟨hb.os, hb.tape, hb.output, hb.size, fun k hk _ => hb.block k hk⟩ (by
    rcases v.ownBlock with _ | g
    · exact .inl rfl
    · exact .inr (by simp))
theorem ownG_grown {W W' : World} {B : Nat} {e : TypeId} {sz n : Nat} {v : Value} {cs : List Value} {row : Option Nat} (h : W.ownsRow B e sz v n cs) (hg : W.grownBy W' row) (hne : ∀ b, v.ownBlock = some b → row ≠ some b) : W'.ownsRow B e sz v n cs :=
  World.ownsRow.kept (row := row) h hg (by
    cases hv : v.ownBlock with
    | none => exact .inl rfl
    | some b => exact .inr (fun e => hne b hv e.symm))
/-- A slice of rows that is being made. -/
structure TwG (w W : World) (V : List (List Int)) (k : Nat) (v : Value) (cs : List Value) : Prop where
  bb : Below w.heap.size w W
  own : W.ownsRow w.heap.size 25 1 v k cs
  len : cs.length = k
  rows : ∀ i, i < k → ∃ h c, cs[i]? = some (.slice (some ⟨h, 0, none⟩) (V.getD i []).length c) ∧ v.ownBlock ≠ some h ∧ BF W h (V.getD i []).length (As.el (V.getD i []))
theorem TwG.keep {w W W' : World} {V : List (List Int)} {k : Nat} {v : Value} {cs : List Value} (t : TwG w W V k v cs) (hb : Below W.heap.size W W') : TwG w W' V k v cs :=
  ⟨keepB t.bb hb, ownG_keepB t.own hb, t.len, fun i hi => by
    obtain ⟨h, c, h1, h2, h3⟩ := t.rows i hi
    exact ⟨h, c, h1, h2, h3.keep hb⟩⟩
/-- Behind an append to a literal that was made at the end. -/
theorem TwG.lit {w W W' : World} {V : List (List Int)} {k : Nat} {v : Value} {cs : List Value} (t : TwG w W V k v cs) (o : Obj) (hg : (W.alloc o).grownBy W' (some W.heap.size)) : TwG w W' V k v cs := by
  have t1 := t.keep (below_al (Below.refl _ _) o)
  refine ⟨t1.bb.grown hg t1.bb.size (fun b e => by have := t.bb.size; injection e with e; omega), ownG_grown t1.own hg (fun b e e2 => by
    have := (World.ownsRow.lt t.own b e).2
    injection e2 with e2; omega), t.len, fun i hi => ?_⟩
  obtain ⟨h, c, h1, h2, h3⟩ := t.rows i hi
  exact ⟨h, c, h1, h2, (h3.al o).grown hg (fun e2 => by have := h3.lt; injection e2 with e2; omega)⟩
/-- A row more. -/
theorem TwG.row {w W w1 w4 : World} {V : List (List Int)} {k h c g cap : Nat} {v : Value} {cs : List Value} {o : Obj} (t : TwG w W V k v cs) (t1 : TwG w w1 V k v cs) (hbf : BF w1 h (V.getD k []).length (As.el (V.getD k []))) (hh : W.heap.size ≤ h)
    (hg : (w1.alloc o).grownBy w4 v.ownBlock) (hown : w4.ownsRow w.heap.size 25 1 (.slice (some ⟨g, 0, none⟩) (k + 1) cap) (k + 1) (cs ++ [.slice (some ⟨h, 0, none⟩) (V.getD k []).length c])) (hat : v.ownBlock = some g ∨ g = w1.heap.size + 1) :
    TwG w w4 V (k + 1) (.slice (some ⟨g, 0, none⟩) (k + 1) cap) (cs ++ [.slice (some ⟨h, 0, none⟩) (V.getD k []).length c]) := by
  have t2 := t1.keep (below_al (Below.refl _ _) o)
  have hv : ∀ b, v.ownBlock = some b → b < W.heap.size := fun b hb => (World.ownsRow.lt t.own b hb).2
  have hvh : v.ownBlock ≠ some h := fun e => by have := hv h e; omega
  refine ⟨t2.bb.grown hg t2.bb.size (fun b e => (World.ownsRow.lt t.own b e).1), hown, by rw [List.length_append, t.len]; rfl, fun i hi => ?_⟩
  by_cases e : i = k
  · subst e
    refine ⟨h, c, by rw [List.getElem?_append_right (by rw [t.len]; exact Nat.le_refl _), t.len]; simp, fun e2 => ?_, (hbf.al o).grown hg hvh⟩
    have hgh : g = h := by simpa [Value.ownBlock] using e2
    rcases hat with e3 | e3
    · have := hv g e3; omega
    · have := hbf.lt; omega
  · obtain ⟨h', c', x1, x2, x3⟩ := t.rows i (by omega)
    obtain ⟨h'', c'', y1, y2, y3⟩ := t1.rows i (by omega)
    have hhe : h'' = h' ∧ c'' = c' := by
      rw [x1] at y1
      simp only [Option.some.injEq, Value.slice.injEq, Addr.mk.injEq] at y1
      exact ⟨y1.1.1.symm, y1.2.2.symm⟩
    obtain ⟨rfl, rfl⟩ := hhe
    refine ⟨h'', c'', by rw [List.getElem?_append_left (by rw [t.len]; omega)]; exact x1, fun e2 => ?_, (y3.al o).grown hg x2⟩
    have hgh : g = h'' := by simpa [Value.ownBlock] using e2
    rcases hat with e3 | e3
    · exact x2 (by rw [e3, hgh])
    · have := y3.lt; omega
/-- What Twin gives. -/
def TwGQ (V : List (List Int)) (w : World) (e : Ending) (w' : World) : Prop := ∃ A c, e = .returned (.slice A V.length c) ∧ IsM w' A V ∧ Below w.heap.size w w'
theorem TwG.isM {w W : World} {V : List (List Int)} {A : Option Addr} {c : Nat} {cs : List Value} (t : TwG w W V V.length (.slice A V.length c) cs) (hr : ∀ i, i < V.length → (V.getD i []).length ≤ maxLen) (hb : ∀ i j, I64 (As.el (V.getD i []) j)) : IsM W A V := by
  intro h0
  obtain ⟨g, cap, hv, _, _, hbk⟩ := own_block t.own h0
  simp only [Value.slice.injEq] at hv
  obtain ⟨rfl, -, -⟩ := hv
  refine ⟨g, 0, rfl, fun i hi => ?_⟩
  obtain ⟨h, c', h1, h2, h3⟩ := t.rows i hi
  have hI := h3.isI (fun j _ => hb i j)
  have e : ml (V.getD i []).length (As.el (V.getD i [])) = V.getD i [] := by
    unfold ml
    refine List.ext_getElem (by simp) fun j q1 q2 => ?_
    simp only [List.getElem_map, List.getElem_range]
    exact el_lt q2
  rw [e] at hI
  rw [Nat.zero_add]
  exact ⟨_, _, hbk.c i h1, hr i hi, hI⟩
theorem bfOf {w : World} {B n h c : Nat} {F : Nat → Int} (ho : w.ownsRow B 3 1 (.slice (some ⟨h, 0, none⟩) n c) n ((List.range n).map fun j => Value.int .i64 (F j))) (hn : n ≠ 0) : BF w h n F := by
  obtain ⟨g, cap, hv, _, _, hbk⟩ := own_block ho (by omega)
  simp only [Value.slice.injEq, Option.some.injEq, Addr.mk.injEq] at hv
  obtain ⟨⟨rfl, -, -⟩, -, -⟩ := hv
  exact hbk
theorem append_none (A : Option Addr) (h c : Nat) (v : World) : (Builtin.append_ #[25, 25] 25 #[.slice (some ⟨h, 0, none⟩) 0 0, .slice A 0 c]).run Try.prog v = .ok (.slice (some ⟨h, 0, none⟩) 0 0) v := by
  obtain ⟨i0, hi0, hz0, hz1, hz2⟩ := info_parts intInfo
  cases A <;> simp [Builtin.append_, run_underlying Try.underlying25, sizeOf, typeInfo, hi0, Builtin.lenOf, Builtin.firstCells, loadCells, loadCellsFrom, storeCells]
set_option linter.unusedSimpArgs false in
set_option maxRecDepth 100000 in
set_option maxHeartbeats 4000000 in
theorem rTwinG_any (A : Option Addr) (cv : Nat) (V : List (List Int)) (w : World) (n20 : V.length ≤ 20) (hrw : ∀ i, i < V.length → (V.getD i []).length ≤ 50) (h : IsM w A V) :
    Calls Try.prog 10 #[.slice A V.length cv] w (TwGQ V w) := by
  have HMM := Lib.hid h
  have HRW := Lib.hid hrw
  have HBD := Lib.hid (show ∀ i j, I64 (As.el (V.getD i []) j) from fun i j => by
    rcases Nat.lt_or_ge i V.length with hi | hi
    · obtain ⟨b, off, _, hr⟩ := h (by omega)
      obtain ⟨R, c, _, _, hI⟩ := hr i hi
      exact hI.bd j
    · have : V.getD i [] = [] := by rw [List.getD_eq_getElem?_getD, List.getElem?_eq_none hi]; rfl
      rw [this]; have e : As.el [] j = 0 := rfl; rw [e]; exact ⟨by decide, by decide⟩)
  obtain ⟨i0, hi0, hz0, hz1, hz2⟩ := info_parts intInfo
  have HI := Lib.hid hi0
  have HI2 := Lib.hid hz0
  have HI3 := Lib.hid hz1
  have HI4 := Lib.hid hz2
  obtain ⟨j0, kj0, kz0, kz1, kz2⟩ := info_parts rowInfo
  have HJ := Lib.hid kj0
  have HJ2 := Lib.hid kz0
  have HJ3 := Lib.hid kz1
  have HJ4 := Lib.hid kz2
  clear h hrw hi0 hz0 hz1 hz2 kj0 kz0 kz1 kz2
  go_enter Try.func10, Try.ntmps10
  go_wp2_with fail
  go_loopw [3, 4] (fun v i W => ∃ k : Nat, k ≤ V.length ∧ i = .int .i64 k ∧ ∃ cs, Hid (TwG w W V k v cs)) (fun _ i _ => V.length - (intOf i).toNat)
  case atStart => exact ⟨0, Nat.zero_le _, rfl, [], Lib.hid ⟨Below.refl _ _, World.ownsRow_nil _ _ _ _, rfl, fun i h => absurd h (by omega)⟩⟩
  case round =>
    obtain ⟨k, hk, rfl, cs, HT⟩ := hrel
    by_cases hlt : k < V.length
    · obtain ⟨b, off, rfl, hrows⟩ := HMM.out (by omega)
      obtain ⟨R, c, hc, hrl, hI⟩ := hrows k hlt
      have hq := HRW.out k hlt
      have c1 := keepC HT.out.bb hc
      have l1 := lt_of_cell c1
      have hBW := HT.out.bb.size
      have hIK1 : ∀ _ : 0 < (V.getD k []).length, ∃ b o, R = some ⟨b, o, none⟩ ∧ ∀ j, j < (V.getD k []).length → wr.cell? ⟨b, o + j, none⟩ = some (.int .i64 (As.el (V.getD k []) j)) := (hI.keep HT.out.bb).1
      have HROW := Lib.hid (fun (w1 w4 : World) (h c g cap : Nat) (o : Obj) t1 hbf hh hg hown hat => @TwG.row w wr w1 w4 V k h c g cap u3 cs o HT.out t1 hbf hh hg hown hat)
      obtain ⟨n, hn⟩ : ∃ n, (V.getD k []).length = n := ⟨_, rfl⟩
      rw [hn] at c1 hq
      simp only [hn] at HROW hIK1
      have HNL := Lib.hid hn
      clear hrows hc hrl hI hn
      by_cases hn0 : n = 0
      · subst hn0
        have hrun := append_none R
        go_wp2_with (at_builtin; first
          | (refine wpList_plain rfl fun K hK => ?_; unfold Oper.wp; simp [execOp, resolve, invoke, builtin, hrun, Result.andThen, Act.eval, Act.put]; refine hK _ _ ?_)
          | (go_loud (refine wpList_append_lies _ rfl _ _ _ rfl w.heap.size 25 j0 _ 1 24 Try.underlying22 HJ.out HJ2.out HJ3.out HJ4.out rfl (by omega) _ k cs (by rfl) ((HT.out.keep (below_al (Below.refl _ _) _)).keep (below_al (Below.refl _ _) _)).own ⟨wr.heap.size + 1, 0, none⟩ 1 1 [.slice (some ⟨wr.heap.size, 0, none⟩) 0 0] (by rfl) (by rfl) (fun j u hj => by
              cases j with
              | zero => simp at hj; subst hj; go_simp
              | succ j => simp at hj) (by simp [Value.oneCell']) (by omega) (by unfold maxLen; omega) (by omega) (by simp; omega) (wr.heap.size + 1 + 1) (by simp) ?_; intro g cap w4 hown2 hgrow2 hat2 hlt2)))
        have hbf : BF (wr.alloc (Obj.cells #[] 3)) wr.heap.size 0 (As.el (V.getD k [])) := BF.cong (BF.new wr 0 3) (fun j hj => absurd hj (by omega))
        exact ⟨⟨k + 1, by omega, by go_num, _, Lib.hid (HROW.out _ _ _ 0 _ _ _ (HT.out.keep (below_al (Below.refl _ _) _)) hbf (Nat.le_refl _) hgrow2 hown2 (by simpa using hat2))⟩, by simp [intOf]; omega⟩
      · obtain ⟨rb, ro, rfl, hcs⟩ := hIK1 (by omega)
        have HCS := Lib.hid (show ∀ j u, ((List.range n).map fun j => Value.int .i64 (As.el (V.getD k []) j))[j]? = some u → wr.cell? ((⟨rb, ro, none⟩ : Addr).add j) = some u from fun j u hj => by
          obtain ⟨hj1, hj2⟩ := List.getElem?_eq_some_iff.1 hj
          simp only [List.length_map, List.length_range] at hj1
          simp only [List.getElem_map, List.getElem_range] at hj2
          rw [Addr.add_lit, ← hj2]
          exact hcs j (by omega))
        clear hcs
        go_wp2_with (at_builtin; first
          | (refine wpList_append_lies _ rfl _ _ _ rfl w.heap.size 3 i0 _ 1 8 Try.underlying25 HI.out HI2.out HI3.out HI4.out rfl (by omega) (.slice (some ⟨wr.heap.size, 0, none⟩) 0 0) 0 [] (by rfl) (World.ownsRow_lit wr #[] 0 hBW (by decide) rfl) ⟨rb, ro, none⟩ n c ((List.range n).map fun j => Value.int .i64 (As.el (V.getD k []) j)) (by rfl) (by simp) (fun j u hj => (below_al (Below.refl _ _) _ : Below wr.heap.size wr (wr.alloc _)).cell (p := (⟨rb, ro, none⟩ : Addr).add j) (World.block_lt_of_cell? wr _ (HCS.out j u hj)) |>.trans (HCS.out j u hj)) (by intro u hu; obtain ⟨j, _, rfl⟩ := List.mem_map.1 hu; rfl) (by omega) (by unfold maxLen; omega) (by omega) (by simp; omega) (wr.heap.size + 1) (by simp) ?_; intro h c2 w1 hown1 hgrow1 hat1 hlt1; have HT1 := Lib.hid (HT.out.lit _ hgrow1); have hB1 := HT1.out.bb.size; rw [Nat.zero_add, List.nil_append] at hown1; have HO1 := Lib.hid (bfOf hown1 hn0); have HH := Lib.hid (show wr.heap.size ≤ h from by rcases hat1 with e | e; (have : wr.heap.size = h := by simpa [Value.ownBlock] using e); omega; omega); clear hown1 hgrow1 hat1 hlt1)
          | (go_loud (refine wpList_append_lies _ rfl _ _ _ rfl w.heap.size 25 j0 _ 1 24 Try.underlying22 HJ.out HJ2.out HJ3.out HJ4.out rfl (by omega) _ k cs (by rfl) (HT1.out.keep (below_al (Below.refl _ _) _)).own ⟨w1.heap.size, 0, none⟩ 1 1 [.slice (some ⟨h, 0, none⟩) n c2] (by rfl) (by rfl) (World.news_of_block (cs := #[.slice (some ⟨h, 0, none⟩) n c2]) (t := 25) (fr := (0, 0)) (heap_alloc_new w1 _)) (by simp [Value.oneCell']) (by omega) (by unfold maxLen; omega) (by omega) (by simp; omega) (w1.heap.size + 1) (by simp) ?_; intro g cap w4 hown2 hgrow2 hat2 hlt2)))
        all_goals exact ⟨⟨k + 1, by omega, by go_num, _, Lib.hid (HROW.out _ _ _ _ _ _ _ HT1.out HO1.out HH.out hgrow2 hown2 hat2)⟩, by simp [intOf]; omega⟩
    · obtain rfl : k = V.length := by omega
      obtain ⟨A3, c3, rfl⟩ : ∃ A cap, u3 = .slice A V.length cap := by
        rcases HT.out.own.2 with ⟨h1, h2⟩ | ⟨g, cap, cur, h1, _⟩
        · exact ⟨none, 0, by rw [h1, h2]⟩
        · exact ⟨_, _, h1⟩
      have HFIN := Lib.hid (show IsM wr A3 V from HT.out.isM (fun i hi => by have := HRW.out i hi; unfold maxLen; omega) HBD.out)
      have hbb := HT.out.bb
      clear HT
      go_wp2_with fail
      exact bodyPost_ret (v := .slice A3 V.length c3) (by simp [results, Try.results10, go_sem]) rfl ⟨_, _, rfl, HFIN.out, hbb⟩
end Go.Proofs.Ytfpaefnaidppmaa
namespace Go.Proofs.Ytfpaefnaidppmaa
open Go.RowKit
/-- The rows' values. -/
def rvs (n : Nat) (H C : Nat → Nat) (m : Nat) : List Value := (List.range m).map fun i => Value.slice (some ⟨H i, 0, none⟩) n (C i)
theorem rvs_snoc (n : Nat) (H C : Nat → Nat) (m h c : Nat) : rvs n H C m ++ [.slice (some ⟨h, 0, none⟩) n c] = rvs n (fun i => if i = m then h else H i) (fun i => if i = m then c else C i) (m + 1) := by
  unfold rvs
  rw [List.range_succ, List.map_append]
  congr 1
  · refine List.map_congr_left fun i hi => ?_
    have : i ≠ m := by have := List.mem_range.1 hi; omega
    simp [this]
  · simp
/-- A slice of m rows of n ints each, all of the call's own, blocks from B on. -/
structure Tw (w W : World) (B n m : Nat) (F : Nat → Nat → Int) (v : Value) (H C : Nat → Nat) : Prop where
  bb : Below w.heap.size w W
  hB : w.heap.size ≤ B ∧ B ≤ W.heap.size
  own : W.ownsRow B 25 1 v m (rvs n H C m)
  rows : ∀ i, i < m → B ≤ H i ∧ BF W (H i) n (F i)
  ds : ∀ i j, i < m → j < m → i ≠ j → H i ≠ H j
  top : ∀ i, i < m → v.ownBlock ≠ some (H i)
theorem Tw.nil (w W : World) (B n : Nat) (F : Nat → Nat → Int) (H C : Nat → Nat) (hb : Below w.heap.size w W) (hB : w.heap.size ≤ B ∧ B ≤ W.heap.size) : Tw w W B n 0 F (.slice none 0 0) H C :=
  ⟨hb, hB, World.ownsRow_nil _ _ _ _, fun i h => absurd h (by omega), fun i j h => absurd h (by omega), fun i h => absurd h (by omega)⟩
theorem own_keepB {W W' : World} {B : Nat} {e : TypeId} {sz n : Nat} {v : Value} {cs : List Value} (h : W.ownsRow B e sz v n cs) (hb : Below W.heap.size W W') : W'.ownsRow B e sz v n cs :=
  World.ownsRow.kept (row := none) h ⟨hb.os, hb.tape, hb.output, hb.size, fun k hk _ => hb.block k hk⟩ (by
    rcases v.ownBlock with _ | g
    · exact .inl rfl
    · exact .inr (by simp))
theorem own_grown {W W' : World} {B : Nat} {e : TypeId} {sz n : Nat} {v : Value} {cs : List Value} {row : Option Nat} (h : W.ownsRow B e sz v n cs) (hg : W.grownBy W' row) (hne : ∀ b, v.ownBlock = some b → row ≠ some b) : W'.ownsRow B e sz v n cs :=
  World.ownsRow.kept (row := row) h hg (by
    cases hv : v.ownBlock with
    | none => exact .inl rfl
    | some b => exact .inr (fun e => hne b hv e.symm))
theorem Tw.keep {w W W' : World} {B n m : Nat} {F : Nat → Nat → Int} {v : Value} {H C : Nat → Nat} (h : Tw w W B n m F v H C) (hb : Below W.heap.size W W') : Tw w W' B n m F v H C :=
  ⟨keepB h.bb hb, ⟨h.hB.1, Nat.le_trans h.hB.2 hb.size⟩, own_keepB h.own hb, fun i hi => ⟨(h.rows i hi).1, (h.rows i hi).2.keep hb⟩, h.ds, h.top⟩
/-- Something that lies beside the rows has grown. -/
theorem Tw.grown {w W W' : World} {B n m : Nat} {F : Nat → Nat → Int} {v : Value} {H C : Nat → Nat} {row : Option Nat} (h : Tw w W B n m F v H C) (hg : W.grownBy W' row) (hrow : ∀ b, row = some b → B ≤ b) (h1 : ∀ b, v.ownBlock = some b → row ≠ some b) (h2 : ∀ i, i < m → row ≠ some (H i)) : Tw w W' B n m F v H C :=
  ⟨h.bb.grown hg (Nat.le_trans h.hB.1 h.hB.2) (fun j e => Nat.le_trans h.hB.1 (hrow j e)), ⟨h.hB.1, Nat.le_trans h.hB.2 hg.size⟩, own_grown h.own hg h1, fun i hi => ⟨(h.rows i hi).1, (h.rows i hi).2.grown hg (h2 i hi)⟩, h.ds, h.top⟩
/-- A row more: its block h is behind all, and the slice's own block has grown. -/
theorem Tw.app {w W W' : World} {B n m h c g cap : Nat} {F : Nat → Nat → Int} {v : Value} {H C : Nat → Nat} (t : Tw w W B n m F v H C) (hh : B ≤ h) (hbf : BF W h n (F m)) (hne : ∀ i, i < m → H i ≠ h) (hv : v.ownBlock ≠ some h)
    (hg : W.grownBy W' v.ownBlock) (hown : W'.ownsRow B 25 1 (.slice (some ⟨g, 0, none⟩) (m + 1) cap) (m + 1) (rvs n H C m ++ [.slice (some ⟨h, 0, none⟩) n c])) (hat : v.ownBlock = some g ∨ g = W.heap.size) :
    Tw w W' B n (m + 1) F (.slice (some ⟨g, 0, none⟩) (m + 1) cap) (fun i => if i = m then h else H i) (fun i => if i = m then c else C i) := by
  have hvB := World.ownsRow.lt t.own
  refine ⟨t.bb.grown hg (Nat.le_trans t.hB.1 t.hB.2) (fun j e => Nat.le_trans t.hB.1 (hvB j e).1), ⟨t.hB.1, Nat.le_trans t.hB.2 hg.size⟩, ?_, fun i hi => ?_, fun i j hi hj hij => ?_, fun i hi => ?_⟩
  · rw [← rvs_snoc]; exact hown
  · by_cases e : i = m
    · subst e
      simp only [if_true]
      exact ⟨hh, hbf.grown hg hv⟩
    · simp only [if_neg e]
      have := t.rows i (by omega)
      exact ⟨this.1, this.2.grown hg (t.top i (by omega))⟩
  · by_cases e1 : i = m
    · subst e1
      simp only [if_true, if_neg (fun x => hij x.symm : ¬ j = i)]
      exact fun e => hne j (by omega) e.symm
    · by_cases e2 : j = m
      · subst e2
        simp only [if_true, if_neg e1]
        exact hne i (by omega)
      · simp only [if_neg e1, if_neg e2]
        exact t.ds i j (by omega) (by omega) hij
  · by_cases e : i = m
    · subst e
      simp only [if_true]
      intro e2
      have hgh : g = h := by simpa [Value.ownBlock] using e2
      subst hgh
      rcases hat with e3 | e3
      · exact hv e3
      · have := hbf.lt; omega
    · simp only [if_neg e]
      intro e2
      have hgh : g = H i := by simpa [Value.ownBlock] using e2
      rcases hat with e3 | e3
      · exact t.top i (by omega) (by rw [e3, hgh])
      · have := (t.rows i (by omega)).2.lt; omega
/-- A row is written to. -/
theorem Tw.set {w W : World} {B n m i k : Nat} {F : Nat → Nat → Int} {v : Value} {H C : Nat → Nat} (t : Tw w W B n m F v H C) (hi : i < m) (x : Int) : Tw w (W.setCell ⟨H i, k, none⟩ (.int .i64 x)) B n m (fun r j => if r = i ∧ j = k then x else F r j) v H C := by
  have hr := t.rows i hi
  have hg : W.grownBy (W.setCell ⟨H i, k, none⟩ (.int .i64 x)) (some (H i)) := ⟨rfl, rfl, rfl, by simp [World.setCell], fun b _ hb => Below.heap_setCell W ⟨H i, k, none⟩ _ b (fun e => hb (by rw [e]))⟩
  refine ⟨t.bb.setCell (Nat.le_trans t.hB.1 hr.1) _, ⟨t.hB.1, by rw [World.size_setCell]; exact t.hB.2⟩, own_grown t.own hg (fun b hb e => t.top i hi (by rw [hb]; exact e.symm)), fun r hrm => ⟨(t.rows r hrm).1, ?_⟩, t.ds, t.top⟩
  by_cases e : r = i
  · subst e
    exact (hr.2.set k x).cong fun j _ => by simp
  · refine ((t.rows r hrm).2.far (t.ds i r hi hrm (fun x => e x.symm)) k _).cong fun j _ => ?_
    rw [if_neg (fun h => e h.1)]
theorem Tw.cong {w W : World} {B n m : Nat} {F G : Nat → Nat → Int} {v : Value} {H C : Nat → Nat} (t : Tw w W B n m F v H C) (h : ∀ i j, i < m → j < n → F i j = G i j) : Tw w W B n m G v H C :=
  ⟨t.bb, t.hB, t.own, fun i hi => ⟨(t.rows i hi).1, (t.rows i hi).2.cong fun j hj => h i j hi hj⟩, t.ds, t.top⟩
/-- The lists that it holds. -/
def mm (m n : Nat) (F : Nat → Nat → Int) : List (List Int) := (List.range m).map fun i => ml n (F i)
theorem mm_len (m n : Nat) (F : Nat → Nat → Int) : (mm m n F).length = m := by simp [mm]
theorem mm_get {m n : Nat} {F : Nat → Nat → Int} {i : Nat} (h : i < m) : (mm m n F).getD i [] = ml n (F i) := by unfold mm; simp [List.getD, h]
theorem Tw.form {w W : World} {B n m : Nat} {F : Nat → Nat → Int} {v : Value} {H C : Nat → Nat} (t : Tw w W B n m F v H C) (h0 : 0 < m) : ∃ g cap, v = .slice (some ⟨g, 0, none⟩) m cap ∧ B ≤ g ∧ g < W.heap.size ∧ (∀ i, i < m → g ≠ H i) ∧ ∀ i, i < m → W.cell? ⟨g, i, none⟩ = some (.slice (some ⟨H i, 0, none⟩) n (C i)) := by
  obtain ⟨g, cap, hv, hg, _, hbk⟩ := own_block t.own h0
  refine ⟨g, cap, hv, hg, hbk.lt, fun i hi e => t.top i hi (by rw [hv, e]; rfl), fun i hi => ?_⟩
  exact hbk.c i (by unfold rvs; simp [hi])
theorem Tw.isM {w W : World} {B n m g cap : Nat} {F : Nat → Nat → Int} {H C : Nat → Nat} (t : Tw w W B n m F (.slice (some ⟨g, 0, none⟩) m cap) H C) (hn : n ≤ maxLen) (hb : ∀ i j, i < m → j < n → I64 (F i j)) : IsM W (some ⟨g, 0, none⟩) (mm m n F) := by
  intro h0
  rw [mm_len] at h0
  obtain ⟨g', cap', hv, _, _, _, hc⟩ := t.form h0
  simp only [Value.slice.injEq, Option.some.injEq, Addr.mk.injEq] at hv
  obtain ⟨⟨rfl, -, -⟩, -, rfl⟩ := hv
  refine ⟨g, 0, rfl, fun i hi => ?_⟩
  rw [mm_len] at hi
  rw [mm_get hi, Nat.zero_add, ml_len]
  exact ⟨_, _, hc i hi, hn, (t.rows i hi).2.isI fun j hj => hb i j hi hj⟩
/-- Behind an append to a literal that was made at the end. -/
theorem Tw.lit {w W W' : World} {B n m : Nat} {F : Nat → Nat → Int} {v : Value} {H C : Nat → Nat} (t : Tw w W B n m F v H C) (o : Obj) (hg : (W.alloc o).grownBy W' (some W.heap.size)) : Tw w W' B n m F v H C :=
  (t.keep (below_al (Below.refl _ _) o)).grown hg (fun b e => by have := t.hB.2; injection e with e; omega) (fun b e e2 => by
    have := (World.ownsRow.lt t.own b e).2
    injection e2 with e2; omega) (fun i hi e2 => by
    have := (t.rows i hi).2.lt
    injection e2 with e2; omega)
theorem Tw.row {w W w1 w4 : World} {B B' n k h c g cap : Nat} {F : Nat → Nat → Int} {v : Value} {H C : Nat → Nat} {o : Obj} (t : Tw w W B n k F v H C) (t1 : Tw w w1 B n k F v H C) (hn : 0 < n)
    (ho : w1.ownsRow B' 3 1 (.slice (some ⟨h, 0, none⟩) n c) n ((List.range n).map fun j => Value.int .i64 (F k j))) (hh : W.heap.size ≤ h)
    (hg : (w1.alloc o).grownBy w4 v.ownBlock) (hown : w4.ownsRow B 25 1 (.slice (some ⟨g, 0, none⟩) (k + 1) cap) (k + 1) (rvs n H C k ++ [.slice (some ⟨h, 0, none⟩) n c])) (hat : v.ownBlock = some g ∨ g = w1.heap.size + 1) :
    Tw w w4 B n (k + 1) F (.slice (some ⟨g, 0, none⟩) (k + 1) cap) (fun i => if i = k then h else H i) (fun i => if i = k then c else C i) := by
  obtain ⟨g', cap', hv, _, _, hbk⟩ := own_block ho hn
  simp only [Value.slice.injEq, Option.some.injEq, Addr.mk.injEq] at hv
  obtain ⟨⟨rfl, -, -⟩, -, rfl⟩ := hv
  have hbf : BF w1 h n (F k) := hbk
  refine (t1.keep (below_al (Below.refl _ _) o)).app (Nat.le_trans t.hB.2 hh) (hbf.al o) (fun i hi => ?_) (fun e => ?_) hg hown (by simpa using hat)
  · have := (t.rows i hi).2.lt
    omega
  · have := (World.ownsRow.lt t.own h e).2
    omega
/-- What Twin gives. -/
def TwinQ (n : Nat) (F : Nat → Nat → Int) (w : World) (e : Ending) (w' : World) : Prop := ∃ v H C, e = .returned v ∧ Tw w w' w.heap.size n n F v H C
set_option linter.unusedSimpArgs false in
set_option maxRecDepth 100000 in
set_option maxHeartbeats 4000000 in
theorem rTwin_any (A : Option Addr) (cv : Nat) (V : List (List Int)) (w : World) (n1 : 1 ≤ V.length) (n6 : V.length ≤ 20) (hrw : ∀ i, i < V.length → (V.getD i []).length = V.length) (h : IsM w A V) :
    Calls Try.prog 10 #[.slice A V.length cv] w (TwinQ V.length (As.vl V) w) := by
  obtain ⟨b, off, rfl, hrows⟩ := h (by omega)
  have HR := Lib.hid hrows
  have HRW := Lib.hid hrw
  obtain ⟨i0, hi0, hz0, hz1, hz2⟩ := info_parts intInfo
  have HI := Lib.hid hi0
  have HI2 := Lib.hid hz0
  have HI3 := Lib.hid hz1
  have HI4 := Lib.hid hz2
  obtain ⟨j0, kj0, kz0, kz1, kz2⟩ := info_parts rowInfo
  have HJ := Lib.hid kj0
  have HJ2 := Lib.hid kz0
  have HJ3 := Lib.hid kz1
  have HJ4 := Lib.hid kz2
  clear h hrows hrw hi0 hz0 hz1 hz2 kj0 kz0 kz1 kz2
  go_enter Try.func10, Try.ntmps10
  go_wp2_with fail
  go_loopw [3, 4] (fun v i W => ∃ k : Nat, k ≤ V.length ∧ i = .int .i64 k ∧ ∃ H C, Hid (Tw w W w.heap.size V.length k (As.vl V) v H C)) (fun _ i _ => V.length - (intOf i).toNat)
  case atStart => exact ⟨0, Nat.zero_le _, rfl, (fun _ => 0), (fun _ => 0), Lib.hid (Tw.nil _ _ _ _ _ _ _ (Below.refl _ _) ⟨Nat.le_refl _, Nat.le_refl _⟩)⟩
  case round =>
    obtain ⟨k, hk, rfl, H, C, HT⟩ := hrel
    by_cases hlt : k < V.length
    · obtain ⟨R, c, hc, hrl, hI⟩ := HR.out k hlt
      have hq := HRW.out k hlt
      rw [hq] at hc
      obtain ⟨rb, ro, rfl, hcs⟩ := hI.1 (by omega)
      have c1 := keepC HT.out.bb hc
      have l1 := lt_of_cell c1
      have HCS := Lib.hid (show ∀ j u, ((List.range V.length).map fun j => Value.int .i64 (As.vl V k j))[j]? = some u → wr.cell? ((⟨rb, ro, none⟩ : Addr).add j) = some u from fun j u hj => by
        obtain ⟨hj1, hj2⟩ := List.getElem?_eq_some_iff.1 hj
        simp only [List.length_map, List.length_range] at hj1
        simp only [List.getElem_map, List.getElem_range] at hj2
        rw [Addr.add_lit, ← hj2]
        exact keepC HT.out.bb (hcs j (by omega)))
      have hBW := HT.out.hB.2
      have HO := HT.out.own
      clear hI hrl hq hc hcs
      go_wp2_with (at_builtin; first
        | (refine wpList_append_lies _ rfl _ _ _ rfl w.heap.size 3 i0 _ 1 8 Try.underlying25 HI.out HI2.out HI3.out HI4.out rfl (by omega) (.slice (some ⟨wr.heap.size, 0, none⟩) 0 0) 0 [] (by rfl) (World.ownsRow_lit wr #[] 0 hBW (by decide) rfl) ⟨rb, ro, none⟩ V.length c ((List.range V.length).map fun j => Value.int .i64 (As.vl V k j)) (by rfl) (by simp) (fun j u hj => (below_al (Below.refl _ _) _ : Below wr.heap.size wr (wr.alloc _)).cell (p := (⟨rb, ro, none⟩ : Addr).add j) (World.block_lt_of_cell? wr _ (HCS.out j u hj)) |>.trans (HCS.out j u hj)) (by intro u hu; obtain ⟨j, _, rfl⟩ := List.mem_map.1 hu; rfl) (by omega) (by unfold maxLen; omega) (by omega) (by simp; omega) (wr.heap.size + 1) (by simp) ?_; intro h c2 w1 hown1 hgrow1 hat1 hlt1; have HT1 := Lib.hid (HT.out.lit _ hgrow1); have hB1 := HT1.out.hB.2; rw [Nat.zero_add, List.nil_append] at hown1; have HO1 := Lib.hid hown1; have HH := Lib.hid (show wr.heap.size ≤ h from by rcases hat1 with e | e; (have : wr.heap.size = h := by simpa [Value.ownBlock] using e); omega; omega); clear hown1 hgrow1 hat1 hlt1)
        | (go_loud (refine wpList_append_lies _ rfl _ _ _ rfl w.heap.size 25 j0 _ 1 24 Try.underlying22 HJ.out HJ2.out HJ3.out HJ4.out rfl (by omega) _ k (rvs V.length H C k) (by rfl) (HT1.out.keep (below_al (Below.refl _ _) _)).own ⟨w1.heap.size, 0, none⟩ 1 1 [.slice (some ⟨h, 0, none⟩) V.length c2] (by rfl) (by rfl) (World.news_of_block (cs := #[.slice (some ⟨h, 0, none⟩) V.length c2]) (t := 25) (fr := (0, 0)) (heap_alloc_new w1 _)) (by simp [Value.oneCell']) (by omega) (by unfold maxLen; omega) (by omega) (by simp; omega) (w1.heap.size + 1) (by simp) ?_; intro g cap w4 hown2 hgrow2 hat2 hlt2)))
      all_goals exact ⟨⟨k + 1, by omega, by go_num, _, _, Lib.hid (HT.out.row HT1.out (by omega) HO1.out HH.out hgrow2 hown2 hat2)⟩, by simp [intOf]; omega⟩
    · obtain rfl : k = V.length := by omega
      obtain ⟨g, cap, rfl, -⟩ := HT.out.form (by omega)
      go_wp2_with fail
      exact bodyPost_ret (v := .slice (some ⟨g, 0, none⟩) V.length cap) (by simp [results, Try.results10, go_sem]) rfl ⟨_, H, C, rfl, HT.out⟩
end Go.Proofs.Ytfpaefnaidppmaa
namespace Go.Proofs.Ytfpaefnaidppmaa
open Go.RowKit
/-- A slice of rows that is being made. -/
structure TwF (w W : World) (V : List (List Int)) (k : Nat) (v : Value) (cs : List Value) : Prop where
  bb : Below w.heap.size w W
  own : W.ownsRow w.heap.size 25 1 v k cs
  len : cs.length = k
  rows : ∀ i, i < k → ∃ h c, cs[i]? = some (.slice (some ⟨h, 0, none⟩) (V.getD i []).length c) ∧ (v.ownBlock ≠ some h ∧ w.heap.size ≤ h) ∧ BF W h (V.getD i []).length (As.el (V.getD i []))
theorem TwF.keep {w W W' : World} {V : List (List Int)} {k : Nat} {v : Value} {cs : List Value} (t : TwF w W V k v cs) (hb : Below W.heap.size W W') : TwF w W' V k v cs :=
  ⟨keepB t.bb hb, ownG_keepB t.own hb, t.len, fun i hi => by
    obtain ⟨h, c, h1, h2, h3⟩ := t.rows i hi
    exact ⟨h, c, h1, h2, h3.keep hb⟩⟩
/-- Behind an append to a literal that was made at the end. -/
theorem TwF.lit {w W W' : World} {V : List (List Int)} {k : Nat} {v : Value} {cs : List Value} (t : TwF w W V k v cs) (o : Obj) (hg : (W.alloc o).grownBy W' (some W.heap.size)) : TwF w W' V k v cs := by
  have t1 := t.keep (below_al (Below.refl _ _) o)
  refine ⟨t1.bb.grown hg t1.bb.size (fun b e => by have := t.bb.size; injection e with e; omega), ownG_grown t1.own hg (fun b e e2 => by
    have := (World.ownsRow.lt t.own b e).2
    injection e2 with e2; omega), t.len, fun i hi => ?_⟩
  obtain ⟨h, c, h1, h2, h3⟩ := t.rows i hi
  exact ⟨h, c, h1, h2, (h3.al o).grown hg (fun e2 => by have := h3.lt; injection e2 with e2; omega)⟩
/-- A row more. -/
theorem TwF.row {w W w1 w4 : World} {V : List (List Int)} {k h c g cap : Nat} {v : Value} {cs : List Value} {o : Obj} (t : TwF w W V k v cs) (t1 : TwF w w1 V k v cs) (hbf : BF w1 h (V.getD k []).length (As.el (V.getD k []))) (hh : W.heap.size ≤ h)
    (hg : (w1.alloc o).grownBy w4 v.ownBlock) (hown : w4.ownsRow w.heap.size 25 1 (.slice (some ⟨g, 0, none⟩) (k + 1) cap) (k + 1) (cs ++ [.slice (some ⟨h, 0, none⟩) (V.getD k []).length c])) (hat : v.ownBlock = some g ∨ g = w1.heap.size + 1) :
    TwF w w4 V (k + 1) (.slice (some ⟨g, 0, none⟩) (k + 1) cap) (cs ++ [.slice (some ⟨h, 0, none⟩) (V.getD k []).length c]) := by
  have t2 := t1.keep (below_al (Below.refl _ _) o)
  have hv : ∀ b, v.ownBlock = some b → b < W.heap.size := fun b hb => (World.ownsRow.lt t.own b hb).2
  have hvh : v.ownBlock ≠ some h := fun e => by have := hv h e; omega
  refine ⟨t2.bb.grown hg t2.bb.size (fun b e => (World.ownsRow.lt t.own b e).1), hown, by rw [List.length_append, t.len]; rfl, fun i hi => ?_⟩
  by_cases e : i = k
  · subst e
    refine ⟨h, c, by rw [List.getElem?_append_right (by rw [t.len]; exact Nat.le_refl _), t.len]; simp, ⟨fun e2 => ?_, Nat.le_trans t.bb.size hh⟩, (hbf.al o).grown hg hvh⟩
    have hgh : g = h := by simpa [Value.ownBlock] using e2
    rcases hat with e3 | e3
    · have := hv g e3; omega
    · have := hbf.lt; omega
  · obtain ⟨h', c', x1, x2, x3⟩ := t.rows i (by omega)
    obtain ⟨h'', c'', y1, y2, y3⟩ := t1.rows i (by omega)
    have hhe : h'' = h' ∧ c'' = c' := by
      rw [x1] at y1
      simp only [Option.some.injEq, Value.slice.injEq, Addr.mk.injEq] at y1
      exact ⟨y1.1.1.symm, y1.2.2.symm⟩
    obtain ⟨rfl, rfl⟩ := hhe
    refine ⟨h'', c'', by rw [List.getElem?_append_left (by rw [t.len]; omega)]; exact x1, ⟨fun e2 => ?_, x2.2⟩, (y3.al o).grown hg x2.1⟩
    have hgh : g = h'' := by simpa [Value.ownBlock] using e2
    rcases hat with e3 | e3
    · exact x2.1 (by rw [e3, hgh])
    · have := y3.lt; omega
/-- What Twin gives. -/
def TwFQ (V : List (List Int)) (w : World) (e : Ending) (w' : World) : Prop := ∃ A c, e = .returned (.slice A V.length c) ∧ IsM w' A V ∧ (∀ W' g, g < w.heap.size → w'.grownBy W' (some g) → IsM W' A V) ∧ Below w.heap.size w w'
theorem TwF.isM {w W : World} {V : List (List Int)} {A : Option Addr} {c : Nat} {cs : List Value} (t : TwF w W V V.length (.slice A V.length c) cs) (hr : ∀ i, i < V.length → (V.getD i []).length ≤ maxLen) (hb : ∀ i j, I64 (As.el (V.getD i []) j)) : IsM W A V := by
  intro h0
  obtain ⟨g, cap, hv, _, _, hbk⟩ := own_block t.own h0
  simp only [Value.slice.injEq] at hv
  obtain ⟨rfl, -, -⟩ := hv
  refine ⟨g, 0, rfl, fun i hi => ?_⟩
  obtain ⟨h, c', h1, h2, h3⟩ := t.rows i hi
  have hI := h3.isI (fun j _ => hb i j)
  have e : ml (V.getD i []).length (As.el (V.getD i [])) = V.getD i [] := by
    unfold ml
    refine List.ext_getElem (by simp) fun j q1 q2 => ?_
    simp only [List.getElem_map, List.getElem_range]
    exact el_lt q2
  rw [e] at hI
  rw [Nat.zero_add]
  exact ⟨_, _, hbk.c i h1, hr i hi, hI⟩
theorem TwF.far {w W W' : World} {V : List (List Int)} {k g : Nat} {v : Value} {cs : List Value} (t : TwF w W V k v cs) (hlt : g < w.heap.size) (hg : W.grownBy W' (some g)) : ∃ cs', W'.ownsRow w.heap.size 25 1 v k cs' ∧ cs'.length = k ∧ ∀ i, i < k → ∃ h c, cs'[i]? = some (.slice (some ⟨h, 0, none⟩) (V.getD i []).length c) ∧ BF W' h (V.getD i []).length (As.el (V.getD i [])) := by
  refine ⟨cs, ownG_grown t.own hg (fun b hb e => by have := (World.ownsRow.lt t.own b hb).1; injection e with e; omega), t.len, fun i hi => ?_⟩
  obtain ⟨h, c, h1, h2, h3⟩ := t.rows i hi
  exact ⟨h, c, h1, h3.grown hg (fun e => by have := h2.2; injection e with e; omega)⟩
theorem isM_far {W : World} {B : Nat} {V : List (List Int)} {A : Option Addr} {c : Nat} {cs : List Value} (ho : W.ownsRow B 25 1 (.slice A V.length c) V.length cs) (hrows : ∀ i, i < V.length → ∃ h c, cs[i]? = some (.slice (some ⟨h, 0, none⟩) (V.getD i []).length c) ∧ BF W h (V.getD i []).length (As.el (V.getD i []))) (hr : ∀ i, i < V.length → (V.getD i []).length ≤ maxLen) (hb : ∀ i j, I64 (As.el (V.getD i []) j)) : IsM W A V := by
  intro h0
  obtain ⟨g, cap, hv, _, _, hbk⟩ := own_block ho h0
  simp only [Value.slice.injEq] at hv
  obtain ⟨rfl, -, -⟩ := hv
  refine ⟨g, 0, rfl, fun i hi => ?_⟩
  obtain ⟨h, c', h1, h3⟩ := hrows i hi
  have hI := h3.isI (fun j _ => hb i j)
  have e : ml (V.getD i []).length (As.el (V.getD i [])) = V.getD i [] := by
    unfold ml
    refine List.ext_getElem (by simp) fun j q1 q2 => ?_
    simp only [List.getElem_map, List.getElem_range]
    exact el_lt q2
  rw [e] at hI
  rw [Nat.zero_add]
  exact ⟨_, _, hbk.c i h1, hr i hi, hI⟩
set_option linter.unusedSimpArgs false in
set_option maxRecDepth 100000 in
set_option maxHeartbeats 4000000 in
theorem rTwinF_any (A : Option Addr) (cv : Nat) (V : List (List Int)) (w : World) (n20 : V.length ≤ 20) (hrw : ∀ i, i < V.length → (V.getD i []).length ≤ 50) (h : IsM w A V) :
    Calls Try.prog 10 #[.slice A V.length cv] w (TwFQ V w) := by
  have HMM := Lib.hid h
  have HRW := Lib.hid hrw
  have HBD := Lib.hid (show ∀ i j, I64 (As.el (V.getD i []) j) from fun i j => by
    rcases Nat.lt_or_ge i V.length with hi | hi
    · obtain ⟨b, off, _, hr⟩ := h (by omega)
      obtain ⟨R, c, _, _, hI⟩ := hr i hi
      exact hI.bd j
    · have : V.getD i [] = [] := by rw [List.getD_eq_getElem?_getD, List.getElem?_eq_none hi]; rfl
      rw [this]; have e : As.el [] j = 0 := rfl; rw [e]; exact ⟨by decide, by decide⟩)
  obtain ⟨i0, hi0, hz0, hz1, hz2⟩ := info_parts intInfo
  have HI := Lib.hid hi0
  have HI2 := Lib.hid hz0
  have HI3 := Lib.hid hz1
  have HI4 := Lib.hid hz2
  obtain ⟨j0, kj0, kz0, kz1, kz2⟩ := info_parts rowInfo
  have HJ := Lib.hid kj0
  have HJ2 := Lib.hid kz0
  have HJ3 := Lib.hid kz1
  have HJ4 := Lib.hid kz2
  clear h hrw hi0 hz0 hz1 hz2 kj0 kz0 kz1 kz2
  go_enter Try.func10, Try.ntmps10
  go_wp2_with fail
  go_loopw [3, 4] (fun v i W => ∃ k : Nat, k ≤ V.length ∧ i = .int .i64 k ∧ ∃ cs, Hid (TwF w W V k v cs)) (fun _ i _ => V.length - (intOf i).toNat)
  case atStart => exact ⟨0, Nat.zero_le _, rfl, [], Lib.hid ⟨Below.refl _ _, World.ownsRow_nil _ _ _ _, rfl, fun i h => absurd h (by omega)⟩⟩
  case round =>
    obtain ⟨k, hk, rfl, cs, HT⟩ := hrel
    by_cases hlt : k < V.length
    · obtain ⟨b, off, rfl, hrows⟩ := HMM.out (by omega)
      obtain ⟨R, c, hc, hrl, hI⟩ := hrows k hlt
      have hq := HRW.out k hlt
      have c1 := keepC HT.out.bb hc
      have l1 := lt_of_cell c1
      have hBW := HT.out.bb.size
      have hIK1 : ∀ _ : 0 < (V.getD k []).length, ∃ b o, R = some ⟨b, o, none⟩ ∧ ∀ j, j < (V.getD k []).length → wr.cell? ⟨b, o + j, none⟩ = some (.int .i64 (As.el (V.getD k []) j)) := (hI.keep HT.out.bb).1
      have HROW := Lib.hid (fun (w1 w4 : World) (h c g cap : Nat) (o : Obj) t1 hbf hh hg hown hat => @TwF.row w wr w1 w4 V k h c g cap u3 cs o HT.out t1 hbf hh hg hown hat)
      obtain ⟨n, hn⟩ : ∃ n, (V.getD k []).length = n := ⟨_, rfl⟩
      rw [hn] at c1 hq
      simp only [hn] at HROW hIK1
      have HNL := Lib.hid hn
      clear hrows hc hrl hI hn
      by_cases hn0 : n = 0
      · subst hn0
        have hrun := append_none R
        go_wp2_with (at_builtin; first
          | (refine wpList_plain rfl fun K hK => ?_; unfold Oper.wp; simp [execOp, resolve, invoke, builtin, hrun, Result.andThen, Act.eval, Act.put]; refine hK _ _ ?_)
          | (go_loud (refine wpList_append_lies _ rfl _ _ _ rfl w.heap.size 25 j0 _ 1 24 Try.underlying22 HJ.out HJ2.out HJ3.out HJ4.out rfl (by omega) _ k cs (by rfl) ((HT.out.keep (below_al (Below.refl _ _) _)).keep (below_al (Below.refl _ _) _)).own ⟨wr.heap.size + 1, 0, none⟩ 1 1 [.slice (some ⟨wr.heap.size, 0, none⟩) 0 0] (by rfl) (by rfl) (fun j u hj => by
              cases j with
              | zero => simp at hj; subst hj; go_simp
              | succ j => simp at hj) (by simp [Value.oneCell']) (by omega) (by unfold maxLen; omega) (by omega) (by simp; omega) (wr.heap.size + 1 + 1) (by simp) ?_; intro g cap w4 hown2 hgrow2 hat2 hlt2)))
        have hbf : BF (wr.alloc (Obj.cells #[] 3)) wr.heap.size 0 (As.el (V.getD k [])) := BF.cong (BF.new wr 0 3) (fun j hj => absurd hj (by omega))
        exact ⟨⟨k + 1, by omega, by go_num, _, Lib.hid (HROW.out _ _ _ 0 _ _ _ (HT.out.keep (below_al (Below.refl _ _) _)) hbf (Nat.le_refl _) hgrow2 hown2 (by simpa using hat2))⟩, by simp [intOf]; omega⟩
      · obtain ⟨rb, ro, rfl, hcs⟩ := hIK1 (by omega)
        have HCS := Lib.hid (show ∀ j u, ((List.range n).map fun j => Value.int .i64 (As.el (V.getD k []) j))[j]? = some u → wr.cell? ((⟨rb, ro, none⟩ : Addr).add j) = some u from fun j u hj => by
          obtain ⟨hj1, hj2⟩ := List.getElem?_eq_some_iff.1 hj
          simp only [List.length_map, List.length_range] at hj1
          simp only [List.getElem_map, List.getElem_range] at hj2
          rw [Addr.add_lit, ← hj2]
          exact hcs j (by omega))
        clear hcs
        go_wp2_with (at_builtin; first
          | (refine wpList_append_lies _ rfl _ _ _ rfl w.heap.size 3 i0 _ 1 8 Try.underlying25 HI.out HI2.out HI3.out HI4.out rfl (by omega) (.slice (some ⟨wr.heap.size, 0, none⟩) 0 0) 0 [] (by rfl) (World.ownsRow_lit wr #[] 0 hBW (by decide) rfl) ⟨rb, ro, none⟩ n c ((List.range n).map fun j => Value.int .i64 (As.el (V.getD k []) j)) (by rfl) (by simp) (fun j u hj => (below_al (Below.refl _ _) _ : Below wr.heap.size wr (wr.alloc _)).cell (p := (⟨rb, ro, none⟩ : Addr).add j) (World.block_lt_of_cell? wr _ (HCS.out j u hj)) |>.trans (HCS.out j u hj)) (by intro u hu; obtain ⟨j, _, rfl⟩ := List.mem_map.1 hu; rfl) (by omega) (by unfold maxLen; omega) (by omega) (by simp; omega) (wr.heap.size + 1) (by simp) ?_; intro h c2 w1 hown1 hgrow1 hat1 hlt1; have HT1 := Lib.hid (HT.out.lit _ hgrow1); have hB1 := HT1.out.bb.size; rw [Nat.zero_add, List.nil_append] at hown1; have HO1 := Lib.hid (bfOf hown1 hn0); have HH := Lib.hid (show wr.heap.size ≤ h from by rcases hat1 with e | e; (have : wr.heap.size = h := by simpa [Value.ownBlock] using e); omega; omega); clear hown1 hgrow1 hat1 hlt1)
          | (go_loud (refine wpList_append_lies _ rfl _ _ _ rfl w.heap.size 25 j0 _ 1 24 Try.underlying22 HJ.out HJ2.out HJ3.out HJ4.out rfl (by omega) _ k cs (by rfl) (HT1.out.keep (below_al (Below.refl _ _) _)).own ⟨w1.heap.size, 0, none⟩ 1 1 [.slice (some ⟨h, 0, none⟩) n c2] (by rfl) (by rfl) (World.news_of_block (cs := #[.slice (some ⟨h, 0, none⟩) n c2]) (t := 25) (fr := (0, 0)) (heap_alloc_new w1 _)) (by simp [Value.oneCell']) (by omega) (by unfold maxLen; omega) (by omega) (by simp; omega) (w1.heap.size + 1) (by simp) ?_; intro g cap w4 hown2 hgrow2 hat2 hlt2)))
        all_goals exact ⟨⟨k + 1, by omega, by go_num, _, Lib.hid (HROW.out _ _ _ _ _ _ _ HT1.out HO1.out HH.out hgrow2 hown2 hat2)⟩, by simp [intOf]; omega⟩
    · obtain rfl : k = V.length := by omega
      obtain ⟨A3, c3, rfl⟩ : ∃ A cap, u3 = .slice A V.length cap := by
        rcases HT.out.own.2 with ⟨h1, h2⟩ | ⟨g, cap, cur, h1, _⟩
        · exact ⟨none, 0, by rw [h1, h2]⟩
        · exact ⟨_, _, h1⟩
      have HFAR := Lib.hid (show ∀ W' g, g < w.heap.size → wr.grownBy W' (some g) → IsM W' A3 V from fun W' g hg1 hg2 => by
        obtain ⟨cs', k1, -, k3⟩ := HT.out.far hg1 hg2
        exact isM_far k1 k3 (fun i hi => by have := HRW.out i hi; unfold maxLen; omega) HBD.out)
      have HFIN := Lib.hid (show IsM wr A3 V from HT.out.isM (fun i hi => by have := HRW.out i hi; unfold maxLen; omega) HBD.out)
      have hbb := HT.out.bb
      clear HT
      go_wp2_with fail
      exact bodyPost_ret (v := .slice A3 V.length c3) (by simp [results, Try.results10, go_sem]) rfl ⟨_, _, rfl, HFIN.out, HFAR.out, hbb⟩
end Go.Proofs.Ytfpaefnaidppmaa
namespace Go.Proofs.Ytfpaefnaidppmaa
open Go.RowKit
theorem rows_make (n : Nat) (hn : n ≤ 1000) (v : World) : Sem.run Try.prog (Instr.makeSlice 22 (.int .i64 (n : Int)) (.int .i64 (n : Int))) v = .ok (.slice (some ⟨v.heap.size, 0, none⟩) n n) (v.alloc (.cells (Array.replicate n (Value.slice none 0 0)) 25)) := by
  have h := run_make_row' (P := Try.prog) 22 25 (.slice none 0 0) 24 (by kernel_rfl) (by kernel_rfl) rfl .i64 .i64 n (by omega) (by omega) v
  have e : madeCells #[Value.slice none 0 0] n = Array.replicate n (Value.slice none 0 0) := by
    apply Array.ext
    · simp [madeCells]
    · intro i h1 h2
      simp [madeCells, Nat.mod_one]
  rw [e] at h
  exact h
theorem BK.nils (v : World) (n : Nat) (t : TypeId) : BK (v.alloc (.cells (Array.replicate n (Value.slice none 0 0)) t)) v.heap.size ((List.range n).map fun _ => Value.slice none 0 0) := by
  have e : (List.range n).map (fun _ => Value.slice none 0 0) = List.replicate n (.slice none 0 0) := List.ext_getElem (by simp) fun k h1 h2 => by simp
  rw [e, ← List.toArray_replicate]
  exact BK.new _ _ _
theorem BK.grownT {W W' : World} {g : Nat} {l : List Value} {row : Option Nat} (h : BK W g l) (hg : W.grownBy W' row) (hne : row ≠ some g) : BK W' g l := by
  have hlt := h.lt
  have hb := hg.block g hlt hne.symm
  refine ⟨Nat.lt_of_lt_of_le hlt hg.size, fun j x e => ?_⟩
  have := BK.c h j e
  have h2 := BK.f h j e
  unfold World.cell? at this ⊢
  unfold World.frozen? at h2 ⊢
  dsimp only at this h2 ⊢
  rw [hb]
  exact ⟨this, h2⟩
theorem gby_setL (W : World) (g k : Nat) (x : Value) : W.grownBy (W.setCell ⟨g, k, none⟩ x) (some g) := ⟨rfl, rfl, rfl, by simp [World.setCell], fun b _ hb => Below.heap_setCell W ⟨g, k, none⟩ _ b (fun e => hb (by rw [e]))⟩
/-- A table in the making: block B holds its rows, each of the call's own. -/
structure Tg (B : Nat) (W : World) (n : Nat) (F : Nat → Nat → Int) (RV : Nat → Value) (L : Nat → Nat) : Prop where
  top : BK W B ((List.range n).map RV)
  own : ∀ r, r < n → W.ownsRow (B + 1) 3 1 (RV r) (L r) ((List.range (L r)).map fun j => Value.int .i64 (F r j))
  ds : ∀ r s b, r < n → s < n → r ≠ s → (RV r).ownBlock = some b → (RV s).ownBlock ≠ some b
theorem Tg.cong {B : Nat} {W : World} {n : Nat} {F : Nat → Nat → Int} {RV : Nat → Value} {L M : Nat → Nat} (t : Tg B W n F RV L) (h : ∀ r, r < n → L r = M r) : Tg B W n F RV M :=
  ⟨t.top, fun r hr => by rw [← h r hr]; exact t.own r hr, t.ds⟩
theorem Tg.start (v : World) (n : Nat) (F : Nat → Nat → Int) (t : TypeId) : Tg v.heap.size (v.alloc (.cells (Array.replicate n (Value.slice none 0 0)) t)) n F (fun _ => .slice none 0 0) (fun _ => 0) :=
  ⟨BK.nils v n t, fun r _ => World.ownsRow_nil _ _ _ 1, fun r s b _ _ _ e => by cases e⟩
theorem Tg.app {B : Nat} {W w1 w6 : World} {n i g cap : Nat} {F : Nat → Nat → Int} {RV : Nat → Value} {L : Nat → Nat} {o : Obj} (t : Tg B W n F RV L) (hb : Below W.heap.size W w1) (hi : i < n)
    (hg : (w1.alloc o).grownBy w6 (RV i).ownBlock) (hown : w6.ownsRow (B + 1) 3 1 (.slice (some ⟨g, 0, none⟩) (L i + 1) cap) (L i + 1) (((List.range (L i)).map fun j => Value.int .i64 (F i j)) ++ [.int .i64 (F i (L i))])) (hat : (RV i).ownBlock = some g ∨ g = w1.heap.size + 1) :
    Tg B (w6.setCell ⟨B, i, none⟩ (.slice (some ⟨g, 0, none⟩) (L i + 1) cap)) n F (fun r => if r = i then .slice (some ⟨g, 0, none⟩) (L i + 1) cap else RV r) (fun r => if r = i then L i + 1 else L r) := by
  have hlt : ∀ r b, r < n → (RV r).ownBlock = some b → B + 1 ≤ b ∧ b < W.heap.size := fun r b hr e => World.ownsRow.lt (t.own r hr) b e
  have hgB : B + 1 ≤ g := (World.ownsRow.lt hown g rfl).1
  have htop := (t.top.keep hb).al o
  refine ⟨?_, fun r hr => ?_, fun r s b hr hs hrs e => ?_⟩
  · have h1 := (htop.grownT hg (fun e => by have := (hlt i B hi e).1; omega)).set i (.slice (some ⟨g, 0, none⟩) (L i + 1) cap)
    have e : ((List.range n).map RV).set i (.slice (some ⟨g, 0, none⟩) (L i + 1) cap) = (List.range n).map (fun r => if r = i then .slice (some ⟨g, 0, none⟩) (L i + 1) cap else RV r) := List.ext_getElem (by simp) fun j h1 h2 => by
      simp only [List.getElem_set, List.getElem_map, List.getElem_range]
      by_cases e : i = j
      · rw [if_pos e, if_pos e.symm]
      · rw [if_neg e, if_neg (fun x => e x.symm)]
    rw [e] at h1
    exact h1
  · have hset := gby_setL w6 B i (.slice (some ⟨g, 0, none⟩) (L i + 1) cap)
    by_cases e : r = i
    · subst e
      simp only [if_true]
      have h2 := ownG_grown hown hset (fun b hb2 => by
        have : g = b := by simpa [Value.ownBlock] using hb2
        intro e3; injection e3 with e3; omega)
      rw [List.range_succ, List.map_append]
      exact h2
    · simp only [if_neg e]
      have h1 := ownG_keepB (ownG_keepB (t.own r hr) hb) (below_al (Below.refl _ _) o)
      have h2 := ownG_grown h1 hg (fun b hb2 => fun e2 => t.ds i r b hi hr (fun x => e x.symm) e2 hb2)
      exact ownG_grown h2 hset (fun b hb2 => by
        have := (hlt r b hr hb2).1
        intro e3; injection e3 with e3; omega)
  · have hnew : ∀ x, x < n → x ≠ i → (RV x).ownBlock ≠ some g := fun x hx hxi e2 => by
      rcases hat with h1 | h1
      · exact t.ds i x g hi hx (fun y => hxi y.symm) h1 e2
      · have h3 := (hlt x g hx e2).2
        have h4 := hb.size
        omega
    by_cases e1 : r = i
    · subst e1
      simp only [if_true] at e
      have hgb : g = b := by simpa [Value.ownBlock] using e
      subst hgb
      simp only [if_neg (fun x => hrs x.symm : ¬ s = r)]
      exact hnew s hs (fun x => hrs x.symm)
    · simp only [if_neg e1] at e
      by_cases e2 : s = i
      · subst e2
        simp only [if_true]
        intro e3
        have hgb : g = b := by simpa [Value.ownBlock] using e3
        subst hgb
        exact hnew r hr e1 e
      · simp only [if_neg e2]
        exact t.ds r s b hr hs hrs e
/-- A table of rows of n ints each. -/
structure Tb (B : Nat) (W : World) (n : Nat) (F : Nat → Nat → Int) (H C : Nat → Nat) : Prop where
  top : BK W B ((List.range n).map fun r => Value.slice (some ⟨H r, 0, none⟩) n (C r))
  rows : ∀ r, r < n → B < H r ∧ BF W (H r) n (F r)
  ds : ∀ r s, r < n → s < n → r ≠ s → H r ≠ H s
theorem Tg.tb {B : Nat} {W : World} {n : Nat} {F : Nat → Nat → Int} {RV : Nat → Value} {L : Nat → Nat} (t : Tg B W n F RV L) (hL : ∀ r, r < n → L r = n) : ∃ H C, Tb B W n F H C := by
  by_cases h0 : n = 0
  · subst h0
    exact ⟨fun _ => 0, fun _ => 0, t.top, fun r hr => absurd hr (by omega), fun r s hr => absurd hr (by omega)⟩
  have key : ∀ r, r < n → ∃ x : Nat × Nat, RV r = .slice (some ⟨x.1, 0, none⟩) n x.2 ∧ B < x.1 ∧ BF W x.1 n (F r) := fun r hr => by
    have ho := t.own r hr
    rw [hL r hr] at ho
    obtain ⟨g, cap, hv, hg, _, hbk⟩ := own_block ho (by omega)
    exact ⟨(g, cap), hv, hg, hbk⟩
  obtain ⟨f, hf⟩ := Go.Deep.choose_lt key
  refine ⟨fun r => (f r).1, fun r => (f r).2, ?_, fun r hr => (hf r hr).2, fun r s hr hs hrs e => ?_⟩
  · have e : (List.range n).map RV = (List.range n).map fun r => Value.slice (some ⟨(f r).1, 0, none⟩) n (f r).2 := List.map_congr_left fun r hr => (hf r (by simpa using hr)).1
    rw [← e]
    exact t.top
  · have h1 := (hf r hr).1
    have h2 := (hf s hs).1
    exact t.ds r s (f r).1 hr hs hrs (by rw [h1]; rfl) (by rw [h2, ← e]; rfl)
theorem Tb.c {B : Nat} {W : World} {n : Nat} {F : Nat → Nat → Int} {H C : Nat → Nat} (t : Tb B W n F H C) {r : Nat} (hr : r < n) : W.cell? ⟨B, r, none⟩ = some (.slice (some ⟨H r, 0, none⟩) n (C r)) := t.top.c r (by simp [hr])
theorem Tb.keep {B : Nat} {W W' : World} {n : Nat} {F : Nat → Nat → Int} {H C : Nat → Nat} (t : Tb B W n F H C) (hb : Below W.heap.size W W') : Tb B W' n F H C :=
  ⟨t.top.keep hb, fun r hr => ⟨(t.rows r hr).1, (t.rows r hr).2.keep hb⟩, t.ds⟩
theorem Tb.set {B : Nat} {W : World} {n i k : Nat} {F : Nat → Nat → Int} {H C : Nat → Nat} (t : Tb B W n F H C) (hi : i < n) (x : Int) : Tb B (W.setCell ⟨H i, k, none⟩ (.int .i64 x)) n (fun r j => if r = i ∧ j = k then x else F r j) H C := by
  refine ⟨t.top.far (fun e => by have := (t.rows i hi).1; omega) _ _, fun r hr => ⟨(t.rows r hr).1, ?_⟩, t.ds⟩
  by_cases e : r = i
  · subst e
    exact ((t.rows r hr).2.set k x).cong fun j _ => by simp
  · refine ((t.rows r hr).2.far (t.ds i r hi hr (fun x => e x.symm)) k _).cong fun j _ => ?_
    rw [if_neg (fun h => e h.1)]
theorem Tb.cong {B : Nat} {W : World} {n : Nat} {F G : Nat → Nat → Int} {H C : Nat → Nat} (t : Tb B W n F H C) (h : ∀ i j, i < n → j < n → F i j = G i j) : Tb B W n G H C :=
  ⟨t.top, fun r hr => ⟨(t.rows r hr).1, (t.rows r hr).2.cong fun j hj => h r j hr hj⟩, t.ds⟩
theorem Tb.isM {B : Nat} {W : World} {n : Nat} {F : Nat → Nat → Int} {H C : Nat → Nat} (t : Tb B W n F H C) (hn : n ≤ maxLen) (hb : ∀ i j, i < n → j < n → I64 (F i j)) : IsM W (some ⟨B, 0, none⟩) (mm n n F) := by
  intro h0
  refine ⟨B, 0, rfl, fun i hi => ?_⟩
  rw [mm_len] at hi
  rw [mm_get hi, Nat.zero_add, ml_len]
  exact ⟨_, _, t.c hi, hn, (t.rows i hi).2.isI fun j hj => hb i j hi hj⟩
end Go.Proofs.Ytfpaefnaidppmaa

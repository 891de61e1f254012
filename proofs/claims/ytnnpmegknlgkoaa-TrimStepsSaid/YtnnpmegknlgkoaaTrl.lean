import Derived.Test.YtnnpmegknlgkoaaTrh
import Derived.Test.YtnnpmegknlgkoaaTrj
import Derived.Test.YtnnpmegknlgkoaaGr
import Derived.Test.YtnnpmegknlgkoaaGl
import Derived.Test.YtnnpmegknlgkoaaTrf
/- Package trim: all states of a run of valid cakes have their round. Plain mathematics. -/
namespace Go.Proofs.Ytnnpmegknlgkoaa
open Go.RowKit
namespace Ch
open Ck
section
variable {D : List CkD} {n len : Int}
theorem ck_at (hc : Ak.chkS D 0 = 0) {j : Nat} (h : j < D.length) : Ak.ckD (Ak.dAt D j) = 0 ∧ (Ak.dAt D j).1 = (Ak.dAt D 0).1 := by
  have g := Ak.chkS_good hc
  have hm : Ak.dAt D j ∈ D := by
    unfold Ak.dAt
    simp [h]
  exact ⟨g.all _ hm, g.same _ hm⟩
/-- What holds of the state ahead of a round. -/
structure Inv (D : List CkD) (n len : Int) (i : Nat) (s : St) : Prop where
  so : s.l.Pairwise (· < ·)
  ag : ∀ j ∈ s.l, j < D.length
  ln : s.l.length + i = D.length
  pt : Ck.pt len s.a s.b = true
  dd : ∃ E : Int, 1 ≤ E ∧ E ≤ 6 * 12 ^ i ∧ (∃ k : Int, E = n * k) ∧ Dd E (Rp.q s.a s.b)
  en : ∀ j ∈ s.l, (((s.l.length : Nat) : Int) : Rat) * shq n (Ak.dAt D j) ≤ cu (Ak.dAt D j) (len : Rat) - cu (Ak.dAt D j) (Rp.q s.a s.b)
  lg : s.L.length ≤ 12 * i
theorem mark_at (hc : Ak.chkS D 0 = 0) (hn : n = (D.length : Nat)) (hlen : (Ak.dAt D 0).1 = len) {a b E : Int} (E1 : 1 ≤ E) (E2 : E ≤ 8000000) (hk : ∃ k : Int, E = n * k) (hd : Dd E (Rp.q a b)) (hp : Ck.pt len a b = true) {j : Nat} (hj : j < D.length)
    (he : shq n (Ak.dAt D j) ≤ cu (Ak.dAt D j) (len : Rat) - cu (Ak.dAt D j) (Rp.q a b)) :
    ∃ x y g, mkQ D n a b j = (x, y, 0) ∧ Ck.pt len x y = true ∧ Rp.q a b ≤ Rp.q x y ∧ cu (Ak.dAt D j) (Rp.q x y) - cu (Ak.dAt D j) (Rp.q a b) = shq n (Ak.dAt D j) ∧ 1 ≤ g ∧ g ≤ 12 ∧ Dd (E * g) (Rp.q x y) := by
  obtain ⟨hck, hl1⟩ := ck_at hc hj
  rw [hlen] at hl1
  have g := Ak.chkS_good hc
  have g0 := g.l0
  have g1 := g.l1
  have hsh := sh_ok (n := n) hck (by omega) (by omega)
  obtain ⟨k, rfl⟩ := hk
  obtain ⟨x, y, e1, e2, e3, e4, g, e5, e6, e7⟩ := mark_share (n := n) hck (by omega) (by omega) (by rw [hl1]; exact hp) E1 E2 hd (hsh.2.2.2.1.up k) (by rw [hl1]; exact he)
  rw [hl1] at e2
  exact ⟨x, y, g, e1, e2, e3, e4, e5, e6, e7⟩
theorem val_at (hc : Ak.chkS D 0 = 0) (hlen : (Ak.dAt D 0).1 = len) {a b x y E : Int} (E1 : 1 ≤ E) (E2 : E ≤ 100000000) (hd : Dd E (Rp.q a b)) (hd2 : Dd E (Rp.q x y)) (hp : Ck.pt len a b = true) (hq : Ck.pt len x y = true) (hle : Rp.q a b ≤ Rp.q x y) {j : Nat} (hj : j < D.length) :
    (Ak.vS (Ak.dAt D j) a b x y).2.2 = 0 ∧ Rp.Ok (Ak.vS (Ak.dAt D j) a b x y).1 (Ak.vS (Ak.dAt D j) a b x y).2.1 ∧ Rp.q (Ak.vS (Ak.dAt D j) a b x y).1 (Ak.vS (Ak.dAt D j) a b x y).2.1 = cu (Ak.dAt D j) (Rp.q x y) - cu (Ak.dAt D j) (Rp.q a b) := by
  obtain ⟨hck, hl1⟩ := ck_at hc hj
  rw [hlen] at hl1
  obtain ⟨v1, v2, e1, e2, e3⟩ := value_db hck (by rw [hl1]; exact hp) (by rw [hl1]; exact hq) hle E1 E2 hd hd2
  rw [e1]
  exact ⟨rfl, e2, e3⟩
/-- What is known of the marks and values of a round. -/
structure Rnd (D : List CkD) (n len a b : Int) (l : List Nat) (E : Int) : Prop where
  ck : ∀ j ∈ l, Ak.ckD (Ak.dAt D j) = 0
  mq : ∀ j ∈ l, (mkQ D n a b j).2.2 = 0 ∧ Ck.pt len (mkQ D n a b j).1 (mkQ D n a b j).2.1 = true ∧ Rp.q a b ≤ Rp.q (mkQ D n a b j).1 (mkQ D n a b j).2.1 ∧ cu (Ak.dAt D j) (Rp.q (mkQ D n a b j).1 (mkQ D n a b j).2.1) - cu (Ak.dAt D j) (Rp.q a b) = shq n (Ak.dAt D j) ∧ ∃ g, 1 ≤ g ∧ g ≤ 12 ∧ Dd (E * g) (Rp.q (mkQ D n a b j).1 (mkQ D n a b j).2.1)
  vl : ∀ i ∈ l, ∀ j ∈ l, (vlQ D n a b i j).2.2 = 0 ∧ Rp.Ok (vlQ D n a b i j).1 (vlQ D n a b i j).2.1 ∧ Rp.q (vlQ D n a b i j).1 (vlQ D n a b i j).2.1 = cu (Ak.dAt D j) (Rp.q (mkQ D n a b i).1 (mkQ D n a b i).2.1) - cu (Ak.dAt D j) (Rp.q a b)
theorem Inv.rnd (hc : Ak.chkS D 0 = 0) (hn : n = (D.length : Nat)) (hlen : (Ak.dAt D 0).1 = len) {i : Nat} {s : St} (h : Inv D n len i s) (hi : i ≤ 5) : ∃ E : Int, 1 ≤ E ∧ E ≤ 6 * 12 ^ i ∧ (∃ k : Int, E = n * k) ∧ Rnd D n len s.a s.b s.l E := by
  obtain ⟨E, E1, E2, hk, hd⟩ := h.dd
  have hE : E ≤ 1492992 := by
    have : i = 0 ∨ i = 1 ∨ i = 2 ∨ i = 3 ∨ i = 4 ∨ i = 5 := by omega
    rcases this with rfl | rfl | rfl | rfl | rfl | rfl <;> omega
  have g := Ak.chkS_good hc
  have g0 := g.l0
  have g1 := g.l1
  have hm : ∀ j ∈ s.l, ∃ x y g, mkQ D n s.a s.b j = (x, y, 0) ∧ Ck.pt len x y = true ∧ Rp.q s.a s.b ≤ Rp.q x y ∧ cu (Ak.dAt D j) (Rp.q x y) - cu (Ak.dAt D j) (Rp.q s.a s.b) = shq n (Ak.dAt D j) ∧ 1 ≤ g ∧ g ≤ 12 ∧ Dd (E * g) (Rp.q x y) := fun j hj => by
    refine mark_at hc hn hlen E1 (by omega) hk hd h.pt (h.ag j hj) ?_
    have he := h.en j hj
    have hsh := sh_ok (n := n) (ck_at hc (h.ag j hj)).1 (by omega) (by omega)
    have hl : 1 ≤ s.l.length := List.length_pos_of_mem hj
    have hl2 := cast_le (show (1 : Int) ≤ ((s.l.length : Nat) : Int) by omega)
    have e1 : ((1 : Int) : Rat) = 1 := rfl
    rw [e1] at hl2
    have := Rat.mul_le_mul_of_nonneg_right hl2 (Rat.le_of_lt hsh.2.2.2.2.1)
    rw [Rat.one_mul] at this
    exact Rat.le_trans this he
  refine ⟨E, E1, E2, hk, fun j hj => (ck_at hc (h.ag j hj)).1, fun j hj => ?_, fun i' hi' j hj => ?_⟩
  · obtain ⟨x, y, g, e1, e2, e3, e4, e5, e6, e7⟩ := hm j hj
    rw [e1]
    exact ⟨rfl, e2, e3, e4, g, e5, e6, e7⟩
  · obtain ⟨x, y, g, e1, e2, e3, e4, e5, e6, e7⟩ := hm i' hi'
    unfold vlQ
    rw [e1]
    have d0 := Int.mul_le_mul_of_nonneg_left e6 (show 0 ≤ E by omega)
    have d1 := Int.mul_le_mul_of_nonneg_left e5 (show 0 ≤ E by omega)
    exact val_at hc hlen (E := E * g) (by omega) (by omega) (hd.up g) e7 h.pt e2 e3 (h.ag j hj)
theorem Rnd.fit {a b E : Int} {l : List Nat} (h : Rnd D n len a b l E) (ha : ∀ j ∈ l, j < D.length) : RFit D n a b l :=
  ⟨ha, fun j hj => ⟨(h.mq j hj).1, (pt_spec (h.mq j hj).2.1).1⟩, fun i hi j hj => ⟨(h.vl i hi j hj).1, (h.vl i hi j hj).2.1⟩⟩
/-- Whoever holds the piece at last: it is worth no more than a share for anyone. -/
theorem Rnd.scan_le {a b E : Int} {l : List Nat} (h : Rnd D n len a b l E) : ∀ (r : List Nat) (i t : Nat) (L : List Qr) (P : Nat → Prop), i ∈ l → (∀ j ∈ r, j ∈ l) →
    (∀ j, P j → j ∈ l ∧ cu (Ak.dAt D j) (Rp.q (mkQ D n a b i).1 (mkQ D n a b i).2.1) - cu (Ak.dAt D j) (Rp.q a b) ≤ shq n (Ak.dAt D j)) →
    ∀ j, (P j ∨ j ∈ r) → cu (Ak.dAt D j) (Rp.q (mkQ D n a b (scan D n a b r i t L).1).1 (mkQ D n a b (scan D n a b r i t L).1).2.1) - cu (Ak.dAt D j) (Rp.q a b) ≤ shq n (Ak.dAt D j)
  | [], i, t, L, P, hi, hr, hP, j, hj => by
    rcases hj with hj | hj
    · exact (hP j hj).2
    · cases hj
  | k :: r, i, t, L, P, hi, hr, hP, j, hj => by
    have hk : k ∈ l := hr k (List.mem_cons_self ..)
    have hv := (h.vl i hi k hk).2.2
    have hmk := (h.mq k hk).2.2.2.1
    unfold scan
    by_cases hm : mre D n a b i k = true
    · rw [if_pos hm]
      unfold mre at hm
      have hm := of_decide_eq_true hm
      rw [hv] at hm
      have hx : Rp.q (mkQ D n a b k).1 (mkQ D n a b k).2.1 ≤ Rp.q (mkQ D n a b i).1 (mkQ D n a b i).2.1 := by
        rcases Ck.lt_or (Rp.q (mkQ D n a b i).1 (mkQ D n a b i).2.1) (Rp.q (mkQ D n a b k).1 (mkQ D n a b k).2.1) with g | g
        · have := cu_mono (h.ck k hk) (Rat.le_of_lt g)
          grind
        · exact g
      refine h.scan_le r k (t + 1) _ (fun j => P j ∨ j = k) hk (fun j hj => hr j (List.mem_cons_of_mem _ hj)) (fun j hj => ?_) j ?_
      · rcases hj with hj | rfl
        · have hp := hP j hj
          have := cu_mono (h.ck j hp.1) hx
          exact ⟨hp.1, by grind⟩
        · exact ⟨hk, by grind⟩
      · rcases hj with hj | hj
        · exact .inl (.inl hj)
        · rcases List.mem_cons.1 hj with rfl | hj
          · exact .inl (.inr rfl)
          · exact .inr hj
    · rw [if_neg hm]
      unfold mre at hm
      have hm : ¬ (shq n (Ak.dAt D k) < Rp.q (vlQ D n a b i k).1 (vlQ D n a b i k).2.1) := fun g => hm (decide_eq_true g)
      rw [hv] at hm
      refine h.scan_le r i t _ (fun j => P j ∨ j = k) hi (fun j hj => hr j (List.mem_cons_of_mem _ hj)) (fun j hj => ?_) j ?_
      · rcases hj with hj | rfl
        · exact hP j hj
        · exact ⟨hk, Rat.not_lt.1 hm⟩
      · rcases hj with hj | hj
        · exact .inl (.inl hj)
        · rcases List.mem_cons.1 hj with rfl | hj
          · exact .inl (.inr rfl)
          · exact .inr hj
theorem scan_len (a b : Int) : ∀ (r : List Nat) (i t : Nat) (L : List Qr), L.length ≤ (scan D n a b r i t L).2.2.length ∧ (scan D n a b r i t L).2.2.length ≤ L.length + 2 * r.length ∧ (scan D n a b r i t L).2.1 ≤ t + r.length
  | [], i, t, L => by simp [scan]
  | k :: r, i, t, L => by
    unfold scan
    split
    · have := scan_len a b r k (t + 1) (L ++ [qV D n a b i k] ++ [qM D n a b k])
      simp only [List.length_append, List.length_cons, List.length_nil] at this ⊢
      omega
    · have := scan_len a b r i t (L ++ [qV D n a b i k])
      simp only [List.length_append, List.length_cons, List.length_nil] at this ⊢
      omega
theorem rout_len {s : St} (h : 1 ≤ s.l.length) : s.L.length ≤ (rout D n s).2.2.length ∧ (rout D n s).2.2.length + 1 ≤ s.L.length + 2 * s.l.length ∧ (rout D n s).2.1 + 1 ≤ s.l.length := by
  unfold rout
  split
  · simp only
    omega
  · have := scan_len (D := D) (n := n) s.a s.b (s.l.drop 1) (s.l.getD 0 0) 0 (s.L ++ [qM D n s.a s.b (s.l.getD 0 0)])
    simp only [List.length_append, List.length_cons, List.length_nil, List.length_drop] at this
    omega
/-- What the piece of a round is worth, for all that take part. -/
theorem Rnd.rout_le {s : St} {E : Int} (h : Rnd D n len s.a s.b s.l E) (h2 : 2 ≤ s.l.length) : ∀ j ∈ s.l, cu (Ak.dAt D j) (Rp.q (mkQ D n s.a s.b (rout D n s).1).1 (mkQ D n s.a s.b (rout D n s).1).2.1) - cu (Ak.dAt D j) (Rp.q s.a s.b) ≤ shq n (Ak.dAt D j) := fun j hj => by
  have h0 := getD_mem (l := s.l) (k := 0) (by omega)
  unfold rout
  rw [if_neg (by omega)]
  refine h.scan_le (s.l.drop 1) (s.l.getD 0 0) 0 _ (fun j => j = s.l.getD 0 0) h0 (fun j hj => List.mem_of_mem_drop hj) (fun j hj => ?_) j ?_
  · subst hj
    have := (h.mq _ h0).2.2.2.1
    exact ⟨h0, by grind⟩
  · have e := drop_at (l := s.l) (k := 0) (by omega)
    rw [List.drop_zero] at e
    rw [e] at hj
    rcases List.mem_cons.1 hj with hj | hj
    · exact .inl hj
    · exact .inr hj
theorem Inv.next (hc : Ak.chkS D 0 = 0) (hn : n = (D.length : Nat)) (hlen : (Ak.dAt D 0).1 = len) {i : Nat} {s : St} (h : Inv D n len i s) (h2 : 2 ≤ s.l.length) : Inv D n len (i + 1) (rnx D n len s) := by
  have g := Ak.chkS_good hc
  have g1 := g.l1
  have hln := h.ln
  obtain ⟨E, E1, E2, hk, hr⟩ := h.rnd hc hn hlen (by omega)
  have hmem := rout_mem (D := D) (n := n) (s := s) (by omega)
  have hle := hr.rout_le h2
  have hrl := rout_len (D := D) (n := n) (s := s) (by omega)
  obtain ⟨m1, m2, m3, m4, g, m5, m6, m7⟩ := hr.mq _ hmem
  have hto : rto D n len s = ((mkQ D n s.a s.b (rout D n s).1).1, (mkQ D n s.a s.b (rout D n s).1).2.1) := by
    unfold rto
    rw [if_neg (by omega)]
  have hix : s.l.idxOf (rout D n s).1 < s.l.length := List.idxOf_lt_length_iff.2 hmem
  have hel : (s.l.eraseIdx (s.l.idxOf (rout D n s).1)).length + 1 = s.l.length := by
    rw [List.length_eraseIdx]
    simp only [hix, if_true]
    omega
  have hsub := List.eraseIdx_sublist s.l (s.l.idxOf (rout D n s).1)
  refine ⟨h.so.sublist hsub, fun j hj => h.ag j (hsub.subset hj), ?_, ?_, ?_, fun j hj => ?_, ?_⟩
  · show (s.l.eraseIdx (s.l.idxOf (rout D n s).1)).length + (i + 1) = D.length
    omega
  · show Ck.pt len (rto D n len s).1 (rto D n len s).2 = true
    rw [hto]
    exact m2
  · refine ⟨E * g, ?_, ?_, ?_, ?_⟩
    · have d1 := Int.mul_le_mul_of_nonneg_left m5 (show 0 ≤ E by omega)
      omega
    · have d0 := Int.mul_le_mul_of_nonneg_left m6 (show 0 ≤ E by omega)
      rw [Int.pow_succ]
      omega
    · obtain ⟨k, rfl⟩ := hk
      exact ⟨k * g, Int.mul_assoc ..⟩
    · show Dd (E * g) (Rp.q (rto D n len s).1 (rto D n len s).2)
      rw [hto]
      exact m7
  · show (((s.l.eraseIdx (s.l.idxOf (rout D n s).1)).length : Int) : Rat) * shq n (Ak.dAt D j) ≤ cu (Ak.dAt D j) (len : Rat) - cu (Ak.dAt D j) (Rp.q (rto D n len s).1 (rto D n len s).2)
    rw [hto]
    have hj' := hsub.subset hj
    have he := h.en j hj'
    have hl := hle j hj'
    have e : (((s.l.length : Nat) : Int) : Rat) = (((s.l.eraseIdx (s.l.idxOf (rout D n s).1)).length : Int) : Rat) + 1 := by
      rw [← hel, Int.natCast_add, Rat.intCast_add]
      rfl
    rw [e, Rat.add_mul, Rat.one_mul] at he
    dsimp only
    grind
  · show (rout D n s).2.2.length ≤ 12 * (i + 1)
    have := h.lg
    omega
theorem Inv.good (hc : Ak.chkS D 0 = 0) (hn : n = (D.length : Nat)) (hlen : (Ak.dAt D 0).1 = len) {i : Nat} {s : St} (h : Inv D n len i s) (h1 : 1 ≤ s.l.length) : SGood D n s := by
  have g := Ak.chkS_good hc
  have g1 := g.l1
  have hln := h.ln
  obtain ⟨E, E1, E2, hk, hr⟩ := h.rnd hc hn hlen (by omega)
  have hok := (pt_spec h.pt).1
  have hlg := h.lg
  refine ⟨h.so.imp (fun h => Nat.ne_of_lt h), h.ag, fun _ => hr.fit h.ag, ?_, ?_, by omega⟩
  · have := hok.2.2
    exact ⟨by omega, by omega⟩
  · have := hok.1
    have := hok.2.1
    exact ⟨by omega, by omega⟩
theorem ok_len (hc : Ak.chkS D 0 = 0) (hlen : (Ak.dAt D 0).1 = len) : Rp.Ok len 1 := by
  have g := Ak.chkS_good hc
  have hG := Ck.chk_good (show Ck.chk (Ak.dAt D 0).1 (Ak.dAt D 0).2.1 (Ak.dAt D 0).2.2 = 0 from (ck_at hc g.l0).1)
  have l0 := hG.len0
  have l1 := hG.len1
  rw [hlen] at l0 l1
  exact Rp.Ok_one (by omega) (by omega)
/-- There is something left for each that has nothing yet. -/
theorem Inv.lt_end (hc : Ak.chkS D 0 = 0) (hn : n = (D.length : Nat)) {i : Nat} {s : St} (h : Inv D n len i s) (h1 : 1 ≤ s.l.length) : Rp.q s.a s.b < Rp.q len 1 := by
  have g := Ak.chkS_good hc
  have g0 := g.l0
  have g1 := g.l1
  rw [Rp.q_one]
  have h0 := getD_mem (l := s.l) (k := 0) (by omega)
  obtain ⟨hck, hl1⟩ := ck_at hc (h.ag _ h0)
  have he := h.en _ h0
  have hsh := sh_ok (n := n) hck (by omega) (by omega)
  have hl2 := cast_le (show (1 : Int) ≤ ((s.l.length : Nat) : Int) by omega)
  have e1 : ((1 : Int) : Rat) = 1 := rfl
  rw [e1] at hl2
  have := Rat.mul_le_mul_of_nonneg_right hl2 (Rat.le_of_lt hsh.2.2.2.2.1)
  rw [Rat.one_mul] at this
  rcases lt_or (Rp.q s.a s.b) (len : Rat) with g | g
  · exact g
  · have := cu_mono hck g
    grind
theorem inv0 (hc : Ak.chkS D 0 = 0) (hn : n = (D.length : Nat)) (hlen : (Ak.dAt D 0).1 = len) : Inv D n len 0 ⟨0, 1, List.range D.length, []⟩ := by
  have g := Ak.chkS_good hc
  have g0 := g.l0
  have g1 := g.l1
  have hq : Rp.q 0 1 = 0 := Rp.q_one 0
  have hG := Ck.chk_good (show Ck.chk (Ak.dAt D 0).1 (Ak.dAt D 0).2.1 (Ak.dAt D 0).2.2 = 0 from (ck_at hc g0).1)
  have l0 := hG.len0
  rw [hlen] at l0
  refine ⟨List.pairwise_lt_range, fun j hj => List.mem_range.1 hj, by simp, ?_, ⟨n, by omega, by simp only [Int.pow_zero]; omega, ⟨1, by omega⟩, ?_⟩, fun j hj => ?_, by simp⟩
  · refine pt_mk (show Rp.Ok 0 1 by decide) (by rw [hq]; exact Rat.le_refl) ?_
    rw [hq]
    have := Ck.cast_le (show (0 : Int) ≤ len by omega)
    exact this
  · rw [hq]
    exact Dd.int n 0
  · have hj := List.mem_range.1 hj
    obtain ⟨hck, hl1⟩ := ck_at hc hj
    rw [hlen] at hl1
    have hsh := sh_ok (n := n) hck (by omega) (by omega)
    have hcl := cu_len hck
    rw [hl1] at hcl
    rw [hq, cu_zero hck, hcl, ← hsh.2.2.1]
    show (((List.range D.length).length : Int) : Rat) * _ ≤ _
    rw [List.length_range, ← hn, Rat.mul_comm]
    grind
/-- All states that a run passes have their round. -/
theorem inv_sts (hc : Ak.chkS D 0 = 0) (hn : n = (D.length : Nat)) (hlen : (Ak.dAt D 0).1 = len) : ∀ i, i < D.length → Inv D n len i (sts D n len ⟨0, 1, List.range D.length, []⟩ i)
  | 0, _ => inv0 hc hn hlen
  | i + 1, h => by
    have hi := inv_sts hc hn hlen i (by omega)
    have := hi.ln
    exact hi.next hc hn hlen (by omega)
theorem sgood_sts (hc : Ak.chkS D 0 = 0) (hn : n = (D.length : Nat)) (hlen : (Ak.dAt D 0).1 = len) (i : Nat) (h : i < D.length) : SGood D n (sts D n len ⟨0, 1, List.range D.length, []⟩ i) ∧ (sts D n len ⟨0, 1, List.range D.length, []⟩ i).l.length = D.length - i := by
  have hi := inv_sts hc hn hlen i h
  have := hi.ln
  exact ⟨hi.good hc hn hlen (by omega), by omega⟩
end
end Ch
end Go.Proofs.Ytnnpmegknlgkoaa

/- What the law of package trim asks: three, fit, SameTurns, alive. -/
namespace Go.Proofs.Ytnnpmegknlgkoaa
open Go.RowKit
theorem three_lay (w : World) : CRow w w.heap.size 33 (.slice (some ⟨w.heap.size + 6, 0, none⟩) 3 3) [⟨6, some ⟨w.heap.size, 0, none⟩, [0, 6], 2, some ⟨w.heap.size + 1, 0, none⟩, [1], 1⟩, ⟨6, some ⟨w.heap.size + 2, 0, none⟩, [0, 4, 6], 3, some ⟨w.heap.size + 3, 0, none⟩, [1, 4], 2⟩, ⟨6, some ⟨w.heap.size + 4, 0, none⟩, [0, 2, 6], 3, some ⟨w.heap.size + 5, 0, none⟩, [2, 0], 2⟩] (((((((w.alloc (.cells #[.int .i64 0, .int .i64 6] 3)).alloc (.cells #[.int .i64 1] 3)).alloc (.cells #[.int .i64 0, .int .i64 4, .int .i64 6] 3)).alloc (.cells #[.int .i64 1, .int .i64 4] 3)).alloc (.cells #[.int .i64 0, .int .i64 2, .int .i64 6] 3)).alloc (.cells #[.int .i64 2, .int .i64 0] 3)).alloc (.cells #[.int .i64 6, .slice (some ⟨w.heap.size, 0, none⟩) 2 2, .slice (some ⟨w.heap.size + 1, 0, none⟩) 1 1, .int .i64 6, .slice (some ⟨w.heap.size + 2, 0, none⟩) 3 3, .slice (some ⟨w.heap.size + 3, 0, none⟩) 2 2, .int .i64 6, .slice (some ⟨w.heap.size + 4, 0, none⟩) 3 3, .slice (some ⟨w.heap.size + 5, 0, none⟩) 2 2] 33)) := by
  have b0 : BK (((((((w.alloc (.cells #[.int .i64 0, .int .i64 6] 3)).alloc (.cells #[.int .i64 1] 3)).alloc (.cells #[.int .i64 0, .int .i64 4, .int .i64 6] 3)).alloc (.cells #[.int .i64 1, .int .i64 4] 3)).alloc (.cells #[.int .i64 0, .int .i64 2, .int .i64 6] 3)).alloc (.cells #[.int .i64 2, .int .i64 0] 3)).alloc (.cells #[.int .i64 6, .slice (some ⟨w.heap.size, 0, none⟩) 2 2, .slice (some ⟨w.heap.size + 1, 0, none⟩) 1 1, .int .i64 6, .slice (some ⟨w.heap.size + 2, 0, none⟩) 3 3, .slice (some ⟨w.heap.size + 3, 0, none⟩) 2 2, .int .i64 6, .slice (some ⟨w.heap.size + 4, 0, none⟩) 3 3, .slice (some ⟨w.heap.size + 5, 0, none⟩) 2 2] 33)) (w.heap.size) [.int .i64 0, .int .i64 6] := by have b := (((((((BK.new w [.int .i64 0, .int .i64 6] 3).al (.cells #[.int .i64 1] 3)).al (.cells #[.int .i64 0, .int .i64 4, .int .i64 6] 3)).al (.cells #[.int .i64 1, .int .i64 4] 3)).al (.cells #[.int .i64 0, .int .i64 2, .int .i64 6] 3)).al (.cells #[.int .i64 2, .int .i64 0] 3)).al (.cells #[.int .i64 6, .slice (some ⟨w.heap.size, 0, none⟩) 2 2, .slice (some ⟨w.heap.size + 1, 0, none⟩) 1 1, .int .i64 6, .slice (some ⟨w.heap.size + 2, 0, none⟩) 3 3, .slice (some ⟨w.heap.size + 3, 0, none⟩) 2 2, .int .i64 6, .slice (some ⟨w.heap.size + 4, 0, none⟩) 3 3, .slice (some ⟨w.heap.size + 5, 0, none⟩) 2 2] 33)); simpa only [World.size_alloc] using b
  have b1 : BK (((((((w.alloc (.cells #[.int .i64 0, .int .i64 6] 3)).alloc (.cells #[.int .i64 1] 3)).alloc (.cells #[.int .i64 0, .int .i64 4, .int .i64 6] 3)).alloc (.cells #[.int .i64 1, .int .i64 4] 3)).alloc (.cells #[.int .i64 0, .int .i64 2, .int .i64 6] 3)).alloc (.cells #[.int .i64 2, .int .i64 0] 3)).alloc (.cells #[.int .i64 6, .slice (some ⟨w.heap.size, 0, none⟩) 2 2, .slice (some ⟨w.heap.size + 1, 0, none⟩) 1 1, .int .i64 6, .slice (some ⟨w.heap.size + 2, 0, none⟩) 3 3, .slice (some ⟨w.heap.size + 3, 0, none⟩) 2 2, .int .i64 6, .slice (some ⟨w.heap.size + 4, 0, none⟩) 3 3, .slice (some ⟨w.heap.size + 5, 0, none⟩) 2 2] 33)) (w.heap.size + 1) [.int .i64 1] := by have b := ((((((BK.new (w.alloc (.cells #[.int .i64 0, .int .i64 6] 3)) [.int .i64 1] 3).al (.cells #[.int .i64 0, .int .i64 4, .int .i64 6] 3)).al (.cells #[.int .i64 1, .int .i64 4] 3)).al (.cells #[.int .i64 0, .int .i64 2, .int .i64 6] 3)).al (.cells #[.int .i64 2, .int .i64 0] 3)).al (.cells #[.int .i64 6, .slice (some ⟨w.heap.size, 0, none⟩) 2 2, .slice (some ⟨w.heap.size + 1, 0, none⟩) 1 1, .int .i64 6, .slice (some ⟨w.heap.size + 2, 0, none⟩) 3 3, .slice (some ⟨w.heap.size + 3, 0, none⟩) 2 2, .int .i64 6, .slice (some ⟨w.heap.size + 4, 0, none⟩) 3 3, .slice (some ⟨w.heap.size + 5, 0, none⟩) 2 2] 33)); simpa only [World.size_alloc] using b
  have b2 : BK (((((((w.alloc (.cells #[.int .i64 0, .int .i64 6] 3)).alloc (.cells #[.int .i64 1] 3)).alloc (.cells #[.int .i64 0, .int .i64 4, .int .i64 6] 3)).alloc (.cells #[.int .i64 1, .int .i64 4] 3)).alloc (.cells #[.int .i64 0, .int .i64 2, .int .i64 6] 3)).alloc (.cells #[.int .i64 2, .int .i64 0] 3)).alloc (.cells #[.int .i64 6, .slice (some ⟨w.heap.size, 0, none⟩) 2 2, .slice (some ⟨w.heap.size + 1, 0, none⟩) 1 1, .int .i64 6, .slice (some ⟨w.heap.size + 2, 0, none⟩) 3 3, .slice (some ⟨w.heap.size + 3, 0, none⟩) 2 2, .int .i64 6, .slice (some ⟨w.heap.size + 4, 0, none⟩) 3 3, .slice (some ⟨w.heap.size + 5, 0, none⟩) 2 2] 33)) (w.heap.size + 2) [.int .i64 0, .int .i64 4, .int .i64 6] := by have b := (((((BK.new ((w.alloc (.cells #[.int .i64 0, .int .i64 6] 3)).alloc (.cells #[.int .i64 1] 3)) [.int .i64 0, .int .i64 4, .int .i64 6] 3).al (.cells #[.int .i64 1, .int .i64 4] 3)).al (.cells #[.int .i64 0, .int .i64 2, .int .i64 6] 3)).al (.cells #[.int .i64 2, .int .i64 0] 3)).al (.cells #[.int .i64 6, .slice (some ⟨w.heap.size, 0, none⟩) 2 2, .slice (some ⟨w.heap.size + 1, 0, none⟩) 1 1, .int .i64 6, .slice (some ⟨w.heap.size + 2, 0, none⟩) 3 3, .slice (some ⟨w.heap.size + 3, 0, none⟩) 2 2, .int .i64 6, .slice (some ⟨w.heap.size + 4, 0, none⟩) 3 3, .slice (some ⟨w.heap.size + 5, 0, none⟩) 2 2] 33)); simpa only [World.size_alloc] using b
  have b3 : BK (((((((w.alloc (.cells #[.int .i64 0, .int .i64 6] 3)).alloc (.cells #[.int .i64 1] 3)).alloc (.cells #[.int .i64 0, .int .i64 4, .int .i64 6] 3)).alloc (.cells #[.int .i64 1, .int .i64 4] 3)).alloc (.cells #[.int .i64 0, .int .i64 2, .int .i64 6] 3)).alloc (.cells #[.int .i64 2, .int .i64 0] 3)).alloc (.cells #[.int .i64 6, .slice (some ⟨w.heap.size, 0, none⟩) 2 2, .slice (some ⟨w.heap.size + 1, 0, none⟩) 1 1, .int .i64 6, .slice (some ⟨w.heap.size + 2, 0, none⟩) 3 3, .slice (some ⟨w.heap.size + 3, 0, none⟩) 2 2, .int .i64 6, .slice (some ⟨w.heap.size + 4, 0, none⟩) 3 3, .slice (some ⟨w.heap.size + 5, 0, none⟩) 2 2] 33)) (w.heap.size + 3) [.int .i64 1, .int .i64 4] := by have b := ((((BK.new (((w.alloc (.cells #[.int .i64 0, .int .i64 6] 3)).alloc (.cells #[.int .i64 1] 3)).alloc (.cells #[.int .i64 0, .int .i64 4, .int .i64 6] 3)) [.int .i64 1, .int .i64 4] 3).al (.cells #[.int .i64 0, .int .i64 2, .int .i64 6] 3)).al (.cells #[.int .i64 2, .int .i64 0] 3)).al (.cells #[.int .i64 6, .slice (some ⟨w.heap.size, 0, none⟩) 2 2, .slice (some ⟨w.heap.size + 1, 0, none⟩) 1 1, .int .i64 6, .slice (some ⟨w.heap.size + 2, 0, none⟩) 3 3, .slice (some ⟨w.heap.size + 3, 0, none⟩) 2 2, .int .i64 6, .slice (some ⟨w.heap.size + 4, 0, none⟩) 3 3, .slice (some ⟨w.heap.size + 5, 0, none⟩) 2 2] 33)); simpa only [World.size_alloc] using b
  have b4 : BK (((((((w.alloc (.cells #[.int .i64 0, .int .i64 6] 3)).alloc (.cells #[.int .i64 1] 3)).alloc (.cells #[.int .i64 0, .int .i64 4, .int .i64 6] 3)).alloc (.cells #[.int .i64 1, .int .i64 4] 3)).alloc (.cells #[.int .i64 0, .int .i64 2, .int .i64 6] 3)).alloc (.cells #[.int .i64 2, .int .i64 0] 3)).alloc (.cells #[.int .i64 6, .slice (some ⟨w.heap.size, 0, none⟩) 2 2, .slice (some ⟨w.heap.size + 1, 0, none⟩) 1 1, .int .i64 6, .slice (some ⟨w.heap.size + 2, 0, none⟩) 3 3, .slice (some ⟨w.heap.size + 3, 0, none⟩) 2 2, .int .i64 6, .slice (some ⟨w.heap.size + 4, 0, none⟩) 3 3, .slice (some ⟨w.heap.size + 5, 0, none⟩) 2 2] 33)) (w.heap.size + 4) [.int .i64 0, .int .i64 2, .int .i64 6] := by have b := (((BK.new ((((w.alloc (.cells #[.int .i64 0, .int .i64 6] 3)).alloc (.cells #[.int .i64 1] 3)).alloc (.cells #[.int .i64 0, .int .i64 4, .int .i64 6] 3)).alloc (.cells #[.int .i64 1, .int .i64 4] 3)) [.int .i64 0, .int .i64 2, .int .i64 6] 3).al (.cells #[.int .i64 2, .int .i64 0] 3)).al (.cells #[.int .i64 6, .slice (some ⟨w.heap.size, 0, none⟩) 2 2, .slice (some ⟨w.heap.size + 1, 0, none⟩) 1 1, .int .i64 6, .slice (some ⟨w.heap.size + 2, 0, none⟩) 3 3, .slice (some ⟨w.heap.size + 3, 0, none⟩) 2 2, .int .i64 6, .slice (some ⟨w.heap.size + 4, 0, none⟩) 3 3, .slice (some ⟨w.heap.size + 5, 0, none⟩) 2 2] 33)); simpa only [World.size_alloc] using b
  have b5 : BK (((((((w.alloc (.cells #[.int .i64 0, .int .i64 6] 3)).alloc (.cells #[.int .i64 1] 3)).alloc (.cells #[.int .i64 0, .int .i64 4, .int .i64 6] 3)).alloc (.cells #[.int .i64 1, .int .i64 4] 3)).alloc (.cells #[.int .i64 0, .int .i64 2, .int .i64 6] 3)).alloc (.cells #[.int .i64 2, .int .i64 0] 3)).alloc (.cells #[.int .i64 6, .slice (some ⟨w.heap.size, 0, none⟩) 2 2, .slice (some ⟨w.heap.size + 1, 0, none⟩) 1 1, .int .i64 6, .slice (some ⟨w.heap.size + 2, 0, none⟩) 3 3, .slice (some ⟨w.heap.size + 3, 0, none⟩) 2 2, .int .i64 6, .slice (some ⟨w.heap.size + 4, 0, none⟩) 3 3, .slice (some ⟨w.heap.size + 5, 0, none⟩) 2 2] 33)) (w.heap.size + 5) [.int .i64 2, .int .i64 0] := by have b := ((BK.new (((((w.alloc (.cells #[.int .i64 0, .int .i64 6] 3)).alloc (.cells #[.int .i64 1] 3)).alloc (.cells #[.int .i64 0, .int .i64 4, .int .i64 6] 3)).alloc (.cells #[.int .i64 1, .int .i64 4] 3)).alloc (.cells #[.int .i64 0, .int .i64 2, .int .i64 6] 3)) [.int .i64 2, .int .i64 0] 3).al (.cells #[.int .i64 6, .slice (some ⟨w.heap.size, 0, none⟩) 2 2, .slice (some ⟨w.heap.size + 1, 0, none⟩) 1 1, .int .i64 6, .slice (some ⟨w.heap.size + 2, 0, none⟩) 3 3, .slice (some ⟨w.heap.size + 3, 0, none⟩) 2 2, .int .i64 6, .slice (some ⟨w.heap.size + 4, 0, none⟩) 3 3, .slice (some ⟨w.heap.size + 5, 0, none⟩) 2 2] 33)); simpa only [World.size_alloc] using b
  refine ⟨below_al (below_al (below_al (below_al (below_al (below_al (below_al ((Below.refl _ _)) _) _) _) _) _) _) _, Nat.le_refl _, by simp only [World.size_alloc]; omega, ?_, ?_⟩
  · have h := World.ownsRow_lit (base := w.heap.size) (e := 33) (size := 3) ((((((w.alloc (.cells #[.int .i64 0, .int .i64 6] 3)).alloc (.cells #[.int .i64 1] 3)).alloc (.cells #[.int .i64 0, .int .i64 4, .int .i64 6] 3)).alloc (.cells #[.int .i64 1, .int .i64 4] 3)).alloc (.cells #[.int .i64 0, .int .i64 2, .int .i64 6] 3)).alloc (.cells #[.int .i64 2, .int .i64 0] 3)) #[.int .i64 6, .slice (some ⟨w.heap.size, 0, none⟩) 2 2, .slice (some ⟨w.heap.size + 1, 0, none⟩) 1 1, .int .i64 6, .slice (some ⟨w.heap.size + 2, 0, none⟩) 3 3, .slice (some ⟨w.heap.size + 3, 0, none⟩) 2 2, .int .i64 6, .slice (some ⟨w.heap.size + 4, 0, none⟩) 3 3, .slice (some ⟨w.heap.size + 5, 0, none⟩) 2 2] 3 (by simp only [World.size_alloc]; omega) (by decide) rfl
    simp only [World.size_alloc] at h
    exact h
  · intro c hc
    simp only [List.mem_cons, List.not_mem_nil, or_false] at hc
    rcases hc with rfl | rfl | rfl
    · exact ⟨(show I64 6 from ⟨by decide, by decide⟩), ⟨by simp [maxLen], by simp [maxLen]⟩, isG_bk (zs := [0, 6]) b0 (by intro z hz; simp at hz; rcases hz with rfl | rfl <;> exact ⟨by decide, by decide⟩) (by omega) (by simp [Value.ownBlock]), isG_bk (zs := [1]) b1 (by intro z hz; simp at hz; subst hz; exact ⟨by decide, by decide⟩) (by omega) (by simp [Value.ownBlock])⟩
    · exact ⟨(show I64 6 from ⟨by decide, by decide⟩), ⟨by simp [maxLen], by simp [maxLen]⟩, isG_bk (zs := [0, 4, 6]) b2 (by intro z hz; simp at hz; rcases hz with rfl | rfl | rfl <;> exact ⟨by decide, by decide⟩) (by omega) (by simp [Value.ownBlock]), isG_bk (zs := [1, 4]) b3 (by intro z hz; simp at hz; rcases hz with rfl | rfl <;> exact ⟨by decide, by decide⟩) (by omega) (by simp [Value.ownBlock])⟩
    · exact ⟨(show I64 6 from ⟨by decide, by decide⟩), ⟨by simp [maxLen], by simp [maxLen]⟩, isG_bk (zs := [0, 2, 6]) b4 (by intro z hz; simp at hz; rcases hz with rfl | rfl | rfl <;> exact ⟨by decide, by decide⟩) (by omega) (by simp [Value.ownBlock]), isG_bk (zs := [2, 0]) b5 (by intro z hz; simp at hz; rcases hz with rfl | rfl <;> exact ⟨by decide, by decide⟩) (by omega) (by simp [Value.ownBlock])⟩
/-- What three gives. -/
def ThreeQ (w : World) (e : Ending) (w' : World) : Prop := ∃ (P : Nat) (l : List CkR), e = .returned (.slice (some ⟨P, 0, none⟩) 3 3) ∧ l.length = 3 ∧ l.map Ak.dat = [(6, [0, 6], [1]), (6, [0, 4, 6], [1, 4]), (6, [0, 2, 6], [2, 0])] ∧ CRow w w.heap.size 33 (.slice (some ⟨P, 0, none⟩) 3 3) l w'
set_option linter.unusedSimpArgs false in
set_option maxHeartbeats 8000000 in
set_option maxRecDepth 100000 in
theorem three8_any (w : World) : Calls Try.prog 37 #[] w (ThreeQ w) := by
  unfold ThreeQ
  go_enter Try.func37, Try.ntmps37
  go_wp2_with fail
  go_ret
  first
    | exact ⟨_, _, rfl, rfl, rfl, three_lay w⟩
    | exact ⟨_, rfl, _, rfl, rfl, three_lay w⟩
namespace Ch
def fitP8 (D : List CkD) : Bool := !Ak.greatCs D && decide (Ak.chkS D 0 = 0)
theorem fit8_of {D : List CkD} (h : fitP8 D = true) : Ak.chkS D 0 = 0 := by
  unfold fitP8 at h
  rw [Bool.and_eq_true] at h
  exact of_decide_eq_true h.2
def tnz : Tn := ⟨0, 0, 0, 0, 0, 0⟩
/-- A turn in memory. -/
def T6 (f : Nat → Option Value) (t : Tn) : Prop := f 0 = some (.int .i64 (t.ag : Nat)) ∧ f 1 = some (.int .i64 t.a) ∧ f 2 = some (.int .i64 t.b) ∧ f 3 = some (.int .i64 t.x) ∧ f 4 = some (.int .i64 t.y) ∧ f 5 = some (.int .i64 (t.t : Nat))
theorem tcells_at : ∀ {T : List Tn} {i : Nat}, i < T.length → T6 (fun j => (tcells T)[i * 6 + j]?) (T.getD i tnz)
  | x :: T, 0, _ => ⟨rfl, rfl, rfl, rfl, rfl, rfl⟩
  | x :: T, i + 1, h => by
    have ih := tcells_at (T := T) (i := i) (by simpa using h)
    have e : ∀ j, (tcells (x :: T))[(i + 1) * 6 + j]? = (tcells T)[i * 6 + j]? := fun j => by
      rw [show (i + 1) * 6 + j = i * 6 + j + 6 by omega]
      rfl
    unfold T6 at ih ⊢
    simp only [e]
    exact ih
theorem tcells_len (T : List Tn) : (tcells T).length = T.length * 6 := by
  induction T with
  | nil => rfl
  | cons x T ih =>
    have : tcells (x :: T) = [.int .i64 (x.ag : Nat), .int .i64 x.a, .int .i64 x.b, .int .i64 x.x, .int .i64 x.y, .int .i64 (x.t : Nat)] ++ tcells T := rfl
    rw [this, List.length_append, ih]
    simp
    omega
end Ch
/-- A slice of turns. -/
def IsTs (w : World) (A : Option Addr) (T : List Ch.Tn) : Prop := ∃ b o, (0 < T.length → A = some ⟨b, o, none⟩) ∧ ∀ k, k < T.length → Ch.T6 (fun j => w.cell? ⟨b, o + k * 6 + j, none⟩) (T.getD k Ch.tnz)
theorem IsTs.keep {w v : World} {A : Option Addr} {T : List Ch.Tn} (h : IsTs w A T) (hb : Below w.heap.size w v) : IsTs v A T := by
  obtain ⟨b, o, h1, h2⟩ := h
  refine ⟨b, o, h1, fun k hk => ?_⟩
  obtain ⟨a0, a1, a2, a3, a4, a5⟩ := h2 k hk
  exact ⟨keepC hb a0, keepC hb a1, keepC hb a2, keepC hb a3, keepC hb a4, keepC hb a5⟩
theorem isTs_bk {w : World} {p : Nat} {T : List Ch.Tn} (h : BK w p (Ch.tcells T)) : IsTs w (some ⟨p, 0, none⟩) T :=
  ⟨p, 0, fun _ => rfl, fun k hk => by
    obtain ⟨a0, a1, a2, a3, a4, a5⟩ := Ch.tcells_at hk
    simp only [Nat.zero_add]
    exact ⟨h.c _ a0, h.c _ a1, h.c _ a2, h.c _ a3, h.c _ a4, h.c _ a5⟩⟩
theorem isTs_row {w : World} {B : Nat} {e : TypeId} {A : Option Addr} {n cap : Nat} {T : List Ch.Tn} (h : w.ownsRow B e 6 (.slice A n cap) n (Ch.tcells T)) (hn : n = T.length) : IsTs w A T := by
  by_cases h0 : 0 < T.length
  · obtain ⟨g, cap', hv, _, hlt⟩ := World.ownsRow.form h (by omega)
    simp only [Value.slice.injEq] at hv
    obtain ⟨rfl, _, rfl⟩ := hv
    refine ⟨g, 0, fun _ => rfl, fun i hi => ?_⟩
    have := Ch.tcells_at hi
    unfold Ch.T6 at this ⊢
    simp only [Nat.zero_add]
    rw [World.ownsRow.cellAt h (i * 6 + 0) (by omega), World.ownsRow.cellAt h (i * 6 + 1) (by omega), World.ownsRow.cellAt h (i * 6 + 2) (by omega), World.ownsRow.cellAt h (i * 6 + 3) (by omega), World.ownsRow.cellAt h (i * 6 + 4) (by omega), World.ownsRow.cellAt h (i * 6 + 5) (by omega)]
    exact this
  · exact ⟨0, 0, fun k => absurd k h0, fun k hk => absurd hk (by omega)⟩
set_option linter.unusedSimpArgs false in
set_option maxHeartbeats 8000000 in
set_option maxRecDepth 100000 in
theorem fit8_any (A : Option Addr) (ca : Nat) (cs : List CkR) (w : World) (h : IsCs w A cs) :
    Calls Try.prog 42 #[.slice A cs.length ca] w fun e w' => e = .returned (.bool (Ch.fitP8 (cs.map Ak.dat))) ∧ Below w.heap.size w w' := by
  have gr := rGreatCakes_any A ca cs w h
  have ck := fun v (hv : Below w.heap.size w v) => rAskCheck_any A ca cs none 0 0 v (by simp) (h.keep hv)
  unfold Ch.fitP8
  clear h
  cases hg : Ak.greatCs (cs.map Ak.dat)
  case true =>
    rw [hg] at gr
    have GR := Lib.hid gr
    clear gr ck hg
    go_enter Try.func42, Try.ntmps42
    go_wp2_with fail
    refine GR.out.mono ?_
    rintro e w1 ⟨rfl, hb⟩
    go_wp2_with fail
    go_ret
    exact ⟨rfl, hb⟩
  rw [hg] at gr
  generalize Ak.chkS (cs.map Ak.dat) 0 = E at *
  have GR := Lib.hid gr
  have CK := Lib.hid ck
  clear gr ck hg
  go_enter Try.func42, Try.ntmps42
  go_wp2_with fail
  refine GR.out.mono ?_
  rintro e w1 ⟨rfl, hb⟩
  go_wp2_with fail
  refine (CK.out _ hb).mono ?_
  rintro e w2 ⟨rfl, hb2⟩
  go_wp2_with fail
  go_ret
  exact ⟨by first | rfl | simp, keepB hb hb2⟩
set_option linter.unusedSimpArgs false in
set_option maxHeartbeats 8000000 in
set_option maxRecDepth 100000 in
theorem rSameTurns_eq (A B : Option Addr) (ca cb : Nat) (T : List Ch.Tn) (w : World) (ha : IsTs w A T) (hb : IsTs w B T) (hl : T.length ≤ 6) :
    Calls Try.prog 82 #[.slice A T.length ca, .slice B T.length cb] w fun e w' => e = .returned (.bool true) ∧ Below w.heap.size w w' := by
  obtain ⟨b1, o1, hA, hc⟩ := ha
  obtain ⟨b2, o2, hB, hd⟩ := hb
  obtain ⟨nt, hnt⟩ : ∃ z, T.length = z := ⟨_, rfl⟩
  rw [hnt] at hA hB hc hd hl ⊢
  have HC := Lib.hid hc
  have HD := Lib.hid hd
  have HA := Lib.hid hA
  have HB := Lib.hid hB
  clear hc hd hA hB hnt
  go_enter Try.func82, Try.ntmps82
  go_wp2_with fail
  go_loopw [5] (fun i W => ∃ k : Nat, k ≤ nt ∧ i = .int .i64 k ∧ Below w.heap.size w W) (fun i _ => nt - (intOf i).toNat)
  case atStart => exact ⟨0, Nat.zero_le _, rfl, Below.refl _ _⟩
  case round =>
    obtain ⟨k, hk, rfl, hbb⟩ := hrel
    by_cases hlt : k < nt
    · have hA' := HA.out (by omega)
      subst hA'
      have hB' := HB.out (by omega)
      subst hB'
      obtain ⟨c0, c1, c2, c3, c4, c5⟩ := HC.out k hlt
      obtain ⟨d0, d1, d2, d3, d4, d5⟩ := HD.out k hlt
      generalize T.getD k Ch.tnz = s at *
      dsimp only at c0 c1 c2 c3 c4 c5 d0 d1 d2 d3 d4 d5
      rw [Nat.add_zero] at c0 d0
      replace c0 := keepC hbb c0
      replace c1 := keepC hbb c1
      replace c2 := keepC hbb c2
      replace c3 := keepC hbb c3
      replace c4 := keepC hbb c4
      replace c5 := keepC hbb c5
      replace d0 := keepC hbb d0
      replace d1 := keepC hbb d1
      replace d2 := keepC hbb d2
      replace d3 := keepC hbb d3
      replace d4 := keepC hbb d4
      replace d5 := keepC hbb d5
      have i1 : (0 : Int) ≤ (k : Int) := by omega
      have i2 : (k : Int) < (nt : Int) := by omega
      go_upto_region 6 with fail
      refine at_worldQ (fun v => Below w.heap.size w v ∧ v.cell? ⟨b1, o1 + k * 6, none⟩ = some (.int .i64 (s.ag : Nat)) ∧ v.cell? ⟨b1, o1 + k * 6 + 1, none⟩ = some (.int .i64 s.a) ∧ v.cell? ⟨b1, o1 + k * 6 + 2, none⟩ = some (.int .i64 s.b) ∧ v.cell? ⟨b1, o1 + k * 6 + 3, none⟩ = some (.int .i64 s.x) ∧ v.cell? ⟨b1, o1 + k * 6 + 4, none⟩ = some (.int .i64 s.y) ∧ v.cell? ⟨b1, o1 + k * 6 + 5, none⟩ = some (.int .i64 (s.t : Nat)) ∧ v.cell? ⟨b2, o2 + k * 6, none⟩ = some (.int .i64 (s.ag : Nat)) ∧ v.cell? ⟨b2, o2 + k * 6 + 1, none⟩ = some (.int .i64 s.a) ∧ v.cell? ⟨b2, o2 + k * 6 + 2, none⟩ = some (.int .i64 s.b) ∧ v.cell? ⟨b2, o2 + k * 6 + 3, none⟩ = some (.int .i64 s.x) ∧ v.cell? ⟨b2, o2 + k * 6 + 4, none⟩ = some (.int .i64 s.y) ∧ v.cell? ⟨b2, o2 + k * 6 + 5, none⟩ = some (.int .i64 (s.t : Nat))) ⟨hbb, c0, c1, c2, c3, c4, c5, d0, d1, d2, d3, d4, d5⟩ (fun V hS => ?_)
      clear hbb c0 c1 c2 c3 c4 c5 d0 d1 d2 d3 d4 d5
      obtain ⟨hbb, c0, c1, c2, c3, c4, c5, d0, d1, d2, d3, d4, d5⟩ := hS
      refine wp_region_noPanic ?_
      refine wp_region_held_drew (S := (Below V.heap.size V)) (by kernel_rfl) ((Below.refl _ _).drew) (fun hHeld => ?_)
      refine at_anyH (Below V.heap.size V) hHeld (fun ws0 hNew => ?_)
      clear hHeld
      have hHeld := hNew
      clear hNew
      refine wpAnyH_take (i := 0) (oi := _) (v := ?vs1) rfl (by kernel_rfl) (by kernel_rfl) (by kernel_rfl) (fun _ _ _ h => h) (Or.inl ⟨by kernel_rfl, ?hys1⟩) hHeld ?rests1
      case hys1 => (intro w hSw; go_simp; first | done | (with_reducible rfl))
      try simp only [Act.put, PA, PB]
      refine wpAnyH_take (i := 1) (oi := _) (v := ?vs2) rfl (by kernel_rfl) (by kernel_rfl) (by kernel_rfl) (fun _ _ _ h => h) (Or.inl ⟨by kernel_rfl, ?hys2⟩) hHeld ?rests2
      case hys2 => (intro w hSw; go_simp; first | done | (with_reducible rfl))
      try simp only [Act.put, PA, PB]
      refine wpAnyH_take (i := 2) (oi := _) (v := ?vs3) rfl (by kernel_rfl) (by kernel_rfl) (by kernel_rfl) (fun _ _ _ h => h) (Or.inl ⟨by kernel_rfl, ?hys3⟩) hHeld ?rests3
      case hys3 => (intro w hSw; go_simp; first | done | (with_reducible rfl))
      try simp only [Act.put, PA, PB]
      refine wpAnyH_take (i := 3) (oi := _) (v := ?vs4) rfl (by kernel_rfl) (by kernel_rfl) (by kernel_rfl) (fun _ _ _ h => h) (Or.inl ⟨by kernel_rfl, ?hys4⟩) hHeld ?rests4
      case hys4 => (intro w hSw; have kc0 := keepC hSw c0; have kc1 := keepC hSw c1; have kc2 := keepC hSw c2; have kc3 := keepC hSw c3; have kc4 := keepC hSw c4; have kc5 := keepC hSw c5; have kd0 := keepC hSw d0; have kd1 := keepC hSw d1; have kd2 := keepC hSw d2; have kd3 := keepC hSw d3; have kd4 := keepC hSw d4; have kd5 := keepC hSw d5; go_simp; first | done | (with_reducible rfl))
      try simp only [Act.put, PA, PB]
      refine wpAnyH_take (i := 4) (oi := _) (v := ?vs5) rfl (by kernel_rfl) (by kernel_rfl) (by kernel_rfl) (fun _ _ _ h => h) (Or.inl ⟨by kernel_rfl, ?hys5⟩) hHeld ?rests5
      case hys5 => (intro w hSw; go_simp; first | done | (with_reducible rfl))
      try simp only [Act.put, PA, PB]
      refine wpAnyH_take (i := 5) (oi := _) (v := ?vs6) rfl (by kernel_rfl) (by kernel_rfl) (by kernel_rfl) (fun _ _ _ h => h) (Or.inl ⟨by kernel_rfl, ?hys6⟩) hHeld ?rests6
      case hys6 => (intro w hSw; go_simp; first | done | (with_reducible rfl))
      try simp only [Act.put, PA, PB]
      refine wpAnyH_take (i := 6) (oi := _) (v := ?vs7) rfl (by kernel_rfl) (by kernel_rfl) (by kernel_rfl) (fun _ _ _ h => h) (Or.inl ⟨by kernel_rfl, ?hys7⟩) hHeld ?rests7
      case hys7 => (intro w hSw; go_simp; first | done | (with_reducible rfl))
      try simp only [Act.put, PA, PB]
      refine wpAnyH_take (i := 7) (oi := _) (v := ?vs8) rfl (by kernel_rfl) (by kernel_rfl) (by kernel_rfl) (fun _ _ _ h => h) (Or.inl ⟨by kernel_rfl, ?hys8⟩) hHeld ?rests8
      case hys8 => (intro w hSw; have kc0 := keepC hSw c0; have kc1 := keepC hSw c1; have kc2 := keepC hSw c2; have kc3 := keepC hSw c3; have kc4 := keepC hSw c4; have kc5 := keepC hSw c5; have kd0 := keepC hSw d0; have kd1 := keepC hSw d1; have kd2 := keepC hSw d2; have kd3 := keepC hSw d3; have kd4 := keepC hSw d4; have kd5 := keepC hSw d5; go_simp; first | done | (with_reducible rfl))
      try simp only [Act.put, PA, PB]
      refine wpAnyH_take (i := 8) (oi := _) (v := ?vs9) rfl (by kernel_rfl) (by kernel_rfl) (by kernel_rfl) (fun _ _ _ h => h) (Or.inl ⟨by kernel_rfl, ?hys9⟩) hHeld ?rests9
      case hys9 => (intro w hSw; go_simp; first | done | (with_reducible rfl))
      try simp only [Act.put, PA, PB]
      refine wpAnyH_done (by kernel_rfl) ?_ _
      refine NoPanic.normal ?_
      replace hbb := keepB hbb hHeld
      go_wp2_with fail
      go_roundw
      case rel => exact ⟨k + 1, by omega, by go_num, hbb⟩
      case measure => simp [intOf]; omega
    · obtain rfl : k = nt := by omega
      have i1 : ¬ (k : Int) < (k : Int) := by omega
      clear HA HB HC HD
      go_wp2_with fail
      go_ret
      exact ⟨rfl, hbb⟩
deriving instance DecidableEq for Ch.Tn
theorem al8_chk : Ak.chkS [(6, [0, 6], [1]), (6, [0, 4, 6], [1, 4]), (6, [0, 2, 6], [2, 0])] 0 = 0 := by decide +kernel
theorem al8_T : ((List.range 3).map fun k => Ch.rtn [(6, [0, 6], [1]), (6, [0, 4, 6], [1, 4]), (6, [0, 2, 6], [2, 0])] 3 6 (Ch.sts [(6, [0, 6], [1]), (6, [0, 4, 6], [1, 4]), (6, [0, 2, 6], [2, 0])] 3 6 ⟨0, 1, List.range 3, []⟩ k)) = [⟨2, 0, 1, 2, 3, 1⟩, ⟨0, 2, 3, 8, 3, 0⟩, ⟨1, 8, 3, 6, 1, 0⟩] := by decide +kernel
theorem al8_L : (Ch.sts [(6, [0, 6], [1]), (6, [0, 4, 6], [1, 4]), (6, [0, 2, 6], [2, 0])] 3 6 ⟨0, 1, List.range 3, []⟩ 3).L.length = 6 := by decide +kernel
theorem al8_run (P : Nat) (l : List CkR) (w : World) (hl : l.length = 3) (hd : l.map Ak.dat = [(6, [0, 6], [1]), (6, [0, 4, 6], [1, 4]), (6, [0, 2, 6], [2, 0])]) (h : IsCs w (some ⟨P, 0, none⟩) l) : Calls Try.prog 39 #[.slice (some ⟨P, 0, none⟩) 3 3] w (RunR 3 [⟨2, 0, 1, 2, 3, 1⟩, ⟨0, 2, 3, 8, 3, 0⟩, ⟨1, 8, 3, 6, 1, 0⟩] (Ch.sts [(6, [0, 6], [1]), (6, [0, 4, 6], [1, 4]), (6, [0, 2, 6], [2, 0])] 3 6 ⟨0, 1, List.range 3, []⟩ 3).L w) := by
  have := tmrun_any [(6, [0, 6], [1]), (6, [0, 4, 6], [1, 4]), (6, [0, 2, 6], [2, 0])] 3 6 3 (some ⟨P, 0, none⟩) 3 l ⟨0, 1, List.range 3, []⟩ rfl w h hd al8_chk rfl rfl rfl (fun i hi => Ch.sgood_sts (n := 3) (len := 6) al8_chk rfl rfl i hi)
  rw [al8_T, hl] at this
  exact this
theorem al8_same (A B : Option Addr) (ca cb : Nat) (w : World) (ha : IsTs w A [⟨2, 0, 1, 2, 3, 1⟩, ⟨0, 2, 3, 8, 3, 0⟩, ⟨1, 8, 3, 6, 1, 0⟩]) (hb : IsTs w B [⟨2, 0, 1, 2, 3, 1⟩, ⟨0, 2, 3, 8, 3, 0⟩, ⟨1, 8, 3, 6, 1, 0⟩]) : Calls Try.prog 82 #[.slice A 3 ca, .slice B 3 cb] w fun e w' => e = .returned (.bool true) ∧ Below w.heap.size w w' := rSameTurns_eq A B ca cb [⟨2, 0, 1, 2, 3, 1⟩, ⟨0, 2, 3, 8, 3, 0⟩, ⟨1, 8, 3, 6, 1, 0⟩] w ha hb (by decide)
set_option linter.unusedSimpArgs false in
set_option maxHeartbeats 8000000 in
set_option maxRecDepth 100000 in
theorem alive8_any (w : World) : Calls Try.prog 41 #[] w fun e w' => e = .returned (.bool true) ∧ Below w.heap.size w w' := by
  go_enter Try.func41, Try.ntmps41
  go_wp2_with fail
  refine (three8_any _).mono ?_
  rintro e w1 ⟨P, l, rfl, hl, hd, hcr⟩
  have RN := Lib.hid (al8_run P l w1 hl hd (hcr.isCs hl.symm (by unfold maxLen; omega)))
  have hbb := hcr.bb
  clear hcr hd hl
  go_wp2_with fail
  refine RN.out.mono ?_
  rintro e w2 ⟨Pp, tv, Q, nq, cq, G, rfl, hb, hrow, -, -, -, hnq⟩
  obtain ⟨g, cap, rfl, -, -⟩ := World.ownsRow.form hrow (by omega)
  have hts := isTs_row hrow rfl
  have hn6 : nq = 6 := hnq.trans al8_L
  subst hn6
  clear hnq hrow RN
  replace hbb := keepB hbb hb
  clear hb
  go_upto_region 2 with fail
  refine at_worldQ (fun v => Below w.heap.size w v ∧ IsTs v (some ⟨g, 0, none⟩) [⟨2, 0, 1, 2, 3, 1⟩, ⟨0, 2, 3, 8, 3, 0⟩, ⟨1, 8, 3, 6, 1, 0⟩]) ⟨below_al hbb _, hts.keep (below_al (Below.refl _ _) _)⟩ (fun V hS => ?_)
  clear hbb hts
  obtain ⟨hbb, hts⟩ := hS
  go_wp2_with fail
  refine (tmbound_any 3 (by decide) (by decide) _).mono ?_
  rintro e w3 ⟨rfl, hb⟩
  replace hbb := keepB hbb hb
  replace hts := hts.keep hb
  clear hb
  go_wp2_with fail
  refine (rOf_any _ _).mono ?_
  rintro e w4 ⟨rfl, hb⟩
  replace hbb := keepB hbb hb
  replace hts := hts.keep hb
  clear hb
  go_wp2_with fail
  refine (rOf_any _ _).mono ?_
  rintro e w5 ⟨rfl, hb⟩
  replace hbb := keepB hbb hb
  replace hts := hts.keep hb
  clear hb
  go_upto_region 4 with fail
  refine at_worldQ (fun v => Below w.heap.size w v ∧ IsTs v (some ⟨g, 0, none⟩) [⟨2, 0, 1, 2, 3, 1⟩, ⟨0, 2, 3, 8, 3, 0⟩, ⟨1, 8, 3, 6, 1, 0⟩] ∧ BK v (w5.heap.size) [.int .i64 0, .int .i64 1] ∧ BK v (w5.heap.size + 1) [.int .i64 2, .int .i64 3] ∧ BK v (w5.heap.size + 1 + 1) [.int .i64 8, .int .i64 3] ∧ BK v (w5.heap.size + 1 + 1 + 1) [.int .i64 6, .int .i64 1]) ⟨(below_al (below_al (below_al (below_al hbb _) _) _) _), hts.keep ((below_al (below_al (below_al (below_al (Below.refl _ _) _) _) _) _)), (by have b := ((((BK.new w5 [.int .i64 0, .int .i64 1] 23).al (.cells #[.int .i64 2, .int .i64 3] 23)).al (.cells #[.int .i64 8, .int .i64 3] 23)).al (.cells #[.int .i64 6, .int .i64 1] 23)); simpa only [World.size_alloc] using b), (by have b := (((BK.new (w5.alloc (.cells #[.int .i64 0, .int .i64 1] 23)) [.int .i64 2, .int .i64 3] 23).al (.cells #[.int .i64 8, .int .i64 3] 23)).al (.cells #[.int .i64 6, .int .i64 1] 23)); simpa only [World.size_alloc] using b), (by have b := ((BK.new ((w5.alloc (.cells #[.int .i64 0, .int .i64 1] 23)).alloc (.cells #[.int .i64 2, .int .i64 3] 23)) [.int .i64 8, .int .i64 3] 23).al (.cells #[.int .i64 6, .int .i64 1] 23)); simpa only [World.size_alloc] using b), (by have b := (BK.new (((w5.alloc (.cells #[.int .i64 0, .int .i64 1] 23)).alloc (.cells #[.int .i64 2, .int .i64 3] 23)).alloc (.cells #[.int .i64 8, .int .i64 3] 23)) [.int .i64 6, .int .i64 1] 23); simpa only [World.size_alloc] using b)⟩ (fun V2 hS => ?_)
  clear hbb hts
  obtain ⟨hbb, hts, BZ, BA, BB, BO⟩ := hS
  generalize w5.heap.size + 1 + 1 + 1 = p3 at *
  generalize w5.heap.size + 1 + 1 = p2 at *
  generalize w5.heap.size + 1 = p1 at *
  generalize w5.heap.size = p0 at *
  have z0 := BZ.c 0 rfl
  have z1 := BZ.c 1 rfl
  have a0 := BA.c 0 rfl
  have a1 := BA.c 1 rfl
  have b0 := BB.c 0 rfl
  have b1 := BB.c 1 rfl
  have o0 := BO.c 0 rfl
  have o1 := BO.c 1 rfl
  go_wp2_with fail
  refine (al8_same _ _ _ _ _ (hts.keep (below_al (Below.refl _ _) _)) (isTs_bk (BK.new _ (Ch.tcells [⟨2, 0, 1, 2, 3, 1⟩, ⟨0, 2, 3, 8, 3, 0⟩, ⟨1, 8, 3, 6, 1, 0⟩]) _))).mono ?_
  rintro e w7 ⟨rfl, hb⟩
  replace hbb := keepB (below_al hbb _) hb
  clear hb z0 z1 a0 a1 b0 b1 o0 o1 BZ BA BB BO hts
  go_wp2_with fail
  go_ret
  exact ⟨rfl, hbb⟩
end Go.Proofs.Ytnnpmegknlgkoaa

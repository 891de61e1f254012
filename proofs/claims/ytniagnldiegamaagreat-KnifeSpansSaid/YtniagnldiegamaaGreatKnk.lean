/- Package knife: what holds at each stop of the knife. Plain mathematics. -/
import Derived.Test.YtniagnldiegamaaGreatKnl
namespace Go.Proofs.YtniagnldiegamaaGreat
open Go.RowKit
namespace Kn
open Ck Ch
theorem mem_getD {l : List Nat} {k : Nat} (hk : k < l.length) : l.getD k 0 ∈ l := by simp [hk]
section
variable {D : List CkD} {n len a b : Int}
theorem bst_spec : ∀ (r : List Nat) (s : Nat × Int × Int), (bst D n a b r s = s ∨ ∃ j ∈ r, bst D n a b r s = (j, (mkQ D n a b j).1, (mkQ D n a b j).2.1)) ∧ Rp.q (bst D n a b r s).2.1 (bst D n a b r s).2.2 ≤ Rp.q s.2.1 s.2.2 ∧ ∀ j ∈ r, Rp.q (bst D n a b r s).2.1 (bst D n a b r s).2.2 ≤ Rp.q (mkQ D n a b j).1 (mkQ D n a b j).2.1
  | [], s => ⟨.inl rfl, Rat.le_refl, fun j hj => by cases hj⟩
  | k :: r, s => by
    obtain ⟨s', hs'⟩ : ∃ z, (if Rp.q (mkQ D n a b k).1 (mkQ D n a b k).2.1 < Rp.q s.2.1 s.2.2 then (k, (mkQ D n a b k).1, (mkQ D n a b k).2.1) else s) = z := ⟨_, rfl⟩
    have e : bst D n a b (k :: r) s = bst D n a b r s' := by rw [← hs']; rfl
    obtain ⟨h1, h2, h3⟩ := bst_spec r s'; rw [e]
    by_cases h : Rp.q (mkQ D n a b k).1 (mkQ D n a b k).2.1 < Rp.q s.2.1 s.2.2
    · rw [if_pos h] at hs'
      subst hs'; dsimp only at h2; refine ⟨.inr ?_, Rat.le_trans h2 (Rat.le_of_lt h), fun j hj => ?_⟩
      · rcases h1 with h1 | ⟨j, hj, h1⟩
        · exact ⟨k, List.mem_cons_self .., h1⟩
        · exact ⟨j, List.mem_cons_of_mem _ hj, h1⟩
      · rcases List.mem_cons.1 hj with rfl | hj
        · exact h2
        · exact h3 j hj
    · rw [if_neg h] at hs'
      subst hs'; refine ⟨?_, h2, fun j hj => ?_⟩
      · rcases h1 with h1 | ⟨j, hj, h1⟩
        · exact .inl h1
        · exact .inr ⟨j, List.mem_cons_of_mem _ hj, h1⟩
      · rcases List.mem_cons.1 hj with rfl | hj
        · exact Rat.le_trans h2 (Rat.not_lt.1 h)
        · exact h3 j hj
/-- What holds of the state ahead of a stop. -/
structure Inv (D : List CkD) (n len : Int) (i : Nat) (s : St) : Prop where
  so : s.l.Pairwise (· < ·)
  ag : ∀ j ∈ s.l, j < D.length
  ln : s.l.length + i = D.length
  pt : Ck.pt len s.a s.b = true
  dd : ∃ E : Int, 1 ≤ E ∧ E ≤ 6 * 12 ^ i ∧ (∃ k : Int, E = n * k) ∧ Dd E (Rp.q s.a s.b)
  en : ∀ j ∈ s.l, (((s.l.length : Nat) : Int) : Rat) * shq n (Ak.dAt D j) ≤ cu (Ak.dAt D j) (len : Rat) - cu (Ak.dAt D j) (Rp.q s.a s.b)
  lg : 2 * s.L.length + s.l.length * (s.l.length + 1) = D.length * (D.length + 1)
theorem mark_at (hc : Ak.chkS D 0 = 0) (hn : n = (D.length : Nat)) (hlen : (Ak.dAt D 0).1 = len) {a b E : Int} (E1 : 1 ≤ E) (E2 : E ≤ 8000000) (hk : ∃ k : Int, E = n * k) (hd : Dd E (Rp.q a b)) (hp : Ck.pt len a b = true) {j : Nat} (hj : j < D.length)
    (he : shq n (Ak.dAt D j) ≤ cu (Ak.dAt D j) (len : Rat) - cu (Ak.dAt D j) (Rp.q a b)) :
    ∃ x y g, mkQ D n a b j = (x, y, 0) ∧ Ck.pt len x y = true ∧ Rp.q a b ≤ Rp.q x y ∧ cu (Ak.dAt D j) (Rp.q x y) - cu (Ak.dAt D j) (Rp.q a b) = shq n (Ak.dAt D j) ∧ 1 ≤ g ∧ g ≤ 12 ∧ Dd (E * g) (Rp.q x y) := by
  obtain ⟨hck, hl1⟩ := ck_at hc hj; rw [hlen] at hl1; have g := Ak.chkS_good hc; have g0 := g.l0; have g1 := g.l1; have hsh := sh_ok (n := n) hck (by omega) (by omega); obtain ⟨k, rfl⟩ := hk; obtain ⟨x, y, e1, e2, e3, e4, g, e5, e6, e7⟩ := mark_val (s1 := (sh n (Ak.dAt D j)).1) (s2 := (sh n (Ak.dAt D j)).2.1) hck (by rw [hl1]; exact hp) E1 E2 hd hsh.2.1 (hsh.2.2.2.1.up k) hsh.2.2.2.2.1 hsh.2.2.2.2.2 (by rw [hl1]; exact he); rw [hl1] at e2; exact ⟨x, y, g, e1, e2, e3, e4, e5, e6, e7⟩
/-- What is known of the marks of a stop. -/
structure Rnd (D : List CkD) (n len a b : Int) (l : List Nat) (E : Int) : Prop where
  ck : ∀ j ∈ l, Ak.ckD (Ak.dAt D j) = 0
  mq : ∀ j ∈ l, (mkQ D n a b j).2.2 = 0 ∧ Ck.pt len (mkQ D n a b j).1 (mkQ D n a b j).2.1 = true ∧ Rp.q a b ≤ Rp.q (mkQ D n a b j).1 (mkQ D n a b j).2.1 ∧ cu (Ak.dAt D j) (Rp.q (mkQ D n a b j).1 (mkQ D n a b j).2.1) - cu (Ak.dAt D j) (Rp.q a b) = shq n (Ak.dAt D j) ∧ ∃ g, 1 ≤ g ∧ g ≤ 12 ∧ Dd (E * g) (Rp.q (mkQ D n a b j).1 (mkQ D n a b j).2.1)
theorem Inv.en1 (hc : Ak.chkS D 0 = 0) (hn : n = (D.length : Nat)) {i : Nat} {s : St} (h : Inv D n len i s) {j : Nat} (hj : j ∈ s.l) : shq n (Ak.dAt D j) ≤ cu (Ak.dAt D j) (len : Rat) - cu (Ak.dAt D j) (Rp.q s.a s.b) := by
  have g := Ak.chkS_good hc; have g0 := g.l0; have g1 := g.l1; have he := h.en j hj; have hsh := sh_ok (n := n) (ck_at hc (h.ag j hj)).1 (by omega) (by omega); have hl : 1 ≤ s.l.length := List.length_pos_of_mem hj; have hl2 := cast_le (show (1 : Int) ≤ ((s.l.length : Nat) : Int) by omega); have e1 : ((1 : Int) : Rat) = 1 := rfl; rw [e1] at hl2; have := Rat.mul_le_mul_of_nonneg_right hl2 (Rat.le_of_lt hsh.2.2.2.2.1); rw [Rat.one_mul] at this; exact Rat.le_trans this he
theorem Inv.eb {i : Nat} {s : St} (h : Inv D n len i s) (hi : i ≤ 5) : ∃ E : Int, 1 ≤ E ∧ E ≤ 1492992 ∧ E ≤ 6 * 12 ^ i ∧ (∃ k : Int, E = n * k) ∧ Dd E (Rp.q s.a s.b) := by
  obtain ⟨E, E1, E2, hk, hd⟩ := h.dd; refine ⟨E, E1, ?_, E2, hk, hd⟩
  have : i = 0 ∨ i = 1 ∨ i = 2 ∨ i = 3 ∨ i = 4 ∨ i = 5 := by omega
  rcases this with rfl | rfl | rfl | rfl | rfl | rfl <;> omega
theorem Inv.rnd (hc : Ak.chkS D 0 = 0) (hn : n = (D.length : Nat)) (hlen : (Ak.dAt D 0).1 = len) {i : Nat} {s : St} (h : Inv D n len i s) (hi : i ≤ 5) : ∃ E : Int, 1 ≤ E ∧ E ≤ 1492992 ∧ E ≤ 6 * 12 ^ i ∧ (∃ k : Int, E = n * k) ∧ Dd E (Rp.q s.a s.b) ∧ Rnd D n len s.a s.b s.l E := by
  obtain ⟨E, E1, E0, E2, hk, hd⟩ := h.eb hi; refine ⟨E, E1, E0, E2, hk, hd, fun j hj => (ck_at hc (h.ag j hj)).1, fun j hj => ?_⟩; obtain ⟨x, y, g, e1, e2, e3, e4, e5, e6, e7⟩ := mark_at hc hn hlen E1 (by omega) hk hd h.pt (h.ag j hj) (h.en1 hc hn hj); rw [e1]; exact ⟨rfl, e2, e3, e4, g, e5, e6, e7⟩
theorem Rnd.fit {a b E : Int} {l : List Nat} (h : Rnd D n len a b l E) (ha : ∀ j ∈ l, j < D.length) : KFit D n a b l :=
  ⟨ha, fun j hj => ⟨(h.mq j hj).1, (pt_spec (h.mq j hj).2.1).1⟩⟩
/-- Who stops the knife: one of those who are left, at its mark, ahead of all others. -/
theorem Inv.stp (hc : Ak.chkS D 0 = 0) (hn : n = (D.length : Nat)) (hlen : (Ak.dAt D 0).1 = len) {i : Nat} {s : St} (h : Inv D n len i s) (h2 : 2 ≤ s.l.length) : (stp D n len s).1 ∈ s.l ∧ (stp D n len s).2.1 = (mkQ D n s.a s.b (stp D n len s).1).1 ∧ (stp D n len s).2.2 = (mkQ D n s.a s.b (stp D n len s).1).2.1 ∧ ∀ j ∈ s.l, Rp.q (stp D n len s).2.1 (stp D n len s).2.2 ≤ Rp.q (mkQ D n s.a s.b j).1 (mkQ D n s.a s.b j).2.1 := by
  have g := Ak.chkS_good hc; have g0 := g.l0; have g1 := g.l1; have hln := h.ln; obtain ⟨E, E1, E0, E2, hk, hd, hr⟩ := h.rnd hc hn hlen (by omega)
  have e : Kn.stp D n len s = bst D n s.a s.b s.l (s.l.getD 0 0, len, 1) := by unfold Kn.stp; rw [if_neg (by omega)]
  obtain ⟨h1, h3, h4⟩ := bst_spec (D := D) (n := n) (a := s.a) (b := s.b) s.l (s.l.getD 0 0, len, 1); rw [e]; have hm := mem_getD (l := s.l) (k := 0) (by omega)
  have hlt : Rp.q (mkQ D n s.a s.b (s.l.getD 0 0)).1 (mkQ D n s.a s.b (s.l.getD 0 0)).2.1 < (len : Rat) := by
    have hq := (hr.mq _ hm).2.2.2.1; have he := h.en _ hm; have hsh := sh_ok (n := n) (ck_at hc (h.ag _ hm)).1 (by omega) (by omega); have hl2 := cast_le (show (2 : Int) ≤ ((s.l.length : Nat) : Int) by omega); have e1 : ((2 : Int) : Rat) = 2 := rfl; rw [e1] at hl2; have hle := Rat.mul_le_mul_of_nonneg_right hl2 (Rat.le_of_lt hsh.2.2.2.2.1); have hp := hsh.2.2.2.2.1
    rcases lt_or (Rp.q (mkQ D n s.a s.b (s.l.getD 0 0)).1 (mkQ D n s.a s.b (s.l.getD 0 0)).2.1) (len : Rat) with q | q
    · exact q
    · have := cu_mono (ck_at hc (h.ag _ hm)).1 q
      grind
  rcases h1 with h1 | ⟨j, hj, h1⟩
  · exfalso
    have h5 := h4 _ hm; rw [h1] at h5; dsimp only at h5; rw [Rp.q_one] at h5; exact absurd hlt (Rat.not_lt.2 h5)
  · refine ⟨?_, ?_, ?_, h4⟩
    · rw [h1]; exact hj
    · rw [h1]
    · rw [h1]
theorem stp_mem (hc : Ak.chkS D 0 = 0) (hn : n = (D.length : Nat)) (hlen : (Ak.dAt D 0).1 = len) {i : Nat} {s : St} (h : Inv D n len i s) (h1 : 1 ≤ s.l.length) : (stp D n len s).1 ∈ s.l := by
  by_cases e : s.l.length = 1
  · unfold stp
    rw [if_pos e]; exact mem_getD (by omega)
  · exact (h.stp hc hn hlen (by omega)).1
theorem Inv.next (hc : Ak.chkS D 0 = 0) (hn : n = (D.length : Nat)) (hlen : (Ak.dAt D 0).1 = len) {i : Nat} {s : St} (h : Inv D n len i s) (h2 : 2 ≤ s.l.length) : Inv D n len (i + 1) (nxt D n len s) := by
  have g := Ak.chkS_good hc; have g1 := g.l1; have hln := h.ln; obtain ⟨E, E1, E0, E2, hk, hd, hr⟩ := h.rnd hc hn hlen (by omega); obtain ⟨hmem, z1, z2, hmin⟩ := h.stp hc hn hlen h2; obtain ⟨m1, m2, m3, m4, g, m5, m6, m7⟩ := hr.mq _ hmem; rw [← z1, ← z2] at m2 m3 m4 m7; have hix : s.l.idxOf (Kn.stp D n len s).1 < s.l.length := List.idxOf_lt_length_iff.2 hmem
  have hel : (s.l.eraseIdx (s.l.idxOf (Kn.stp D n len s).1)).length + 1 = s.l.length := by
    rw [List.length_eraseIdx]
    simp only [hix, if_true]
    omega
  have hsub := List.eraseIdx_sublist s.l (s.l.idxOf (Kn.stp D n len s).1); refine ⟨h.so.sublist hsub, fun j hj => h.ag j (hsub.subset hj), ?_, m2, ?_, fun j hj => ?_, ?_⟩
  · show (s.l.eraseIdx (s.l.idxOf (Kn.stp D n len s).1)).length + (i + 1) = D.length
    omega
  · refine ⟨E * g, ?_, ?_, ?_, m7⟩
    · have d1 := Int.mul_le_mul_of_nonneg_left m5 (show 0 ≤ E by omega)
      omega
    · have d0 := Int.mul_le_mul_of_nonneg_left m6 (show 0 ≤ E by omega)
      rw [Int.pow_succ]
      omega
    · obtain ⟨k, rfl⟩ := hk
      exact ⟨k * g, Int.mul_assoc ..⟩
  · show (((s.l.eraseIdx (s.l.idxOf (Kn.stp D n len s).1)).length : Int) : Rat) * shq n (Ak.dAt D j) ≤ cu (Ak.dAt D j) (len : Rat) - cu (Ak.dAt D j) (Rp.q (Kn.stp D n len s).2.1 (Kn.stp D n len s).2.2)
    have hj' := hsub.subset hj; have he := h.en j hj'; have hl := cu_mono (hr.ck j hj') (hmin j hj'); have hq := (hr.mq j hj').2.2.2.1
    have e : (((s.l.length : Nat) : Int) : Rat) = (((s.l.eraseIdx (s.l.idxOf (Kn.stp D n len s).1)).length : Int) : Rat) + 1 := by
      rw [← hel, Int.natCast_add, Rat.intCast_add]
      rfl
    rw [e, Rat.add_mul, Rat.one_mul] at he
    grind
  · show 2 * (slg D n s).length + (s.l.eraseIdx (s.l.idxOf (Kn.stp D n len s).1)).length * ((s.l.eraseIdx (s.l.idxOf (Kn.stp D n len s).1)).length + 1) = D.length * (D.length + 1)
    have hlg := h.lg
    unfold slg
    rw [if_neg (by omega), List.length_append, List.length_map]; rw [← hlg]
    generalize (s.l.eraseIdx (s.l.idxOf (Kn.stp D n len s).1)).length = z at *
    rw [← hel]
    have e1 : (z + 1) * (z + 1 + 1) = z * (z + 1) + 2 * (z + 1) := by rw [Nat.mul_comm, ← Nat.add_mul, Nat.mul_comm]
    omega
theorem Inv.lt_end (hc : Ak.chkS D 0 = 0) (hn : n = (D.length : Nat)) {i : Nat} {s : St} (h : Inv D n len i s) (h1 : 1 ≤ s.l.length) : Rp.q s.a s.b < (len : Rat) := by
  have g := Ak.chkS_good hc; have g0 := g.l0; have g1 := g.l1; have h0 := mem_getD (l := s.l) (k := 0) (by omega); obtain ⟨hck, hl1⟩ := ck_at hc (h.ag _ h0); have he := h.en1 hc hn h0; have hsh := sh_ok (n := n) hck (by omega) (by omega); have hp := hsh.2.2.2.2.1
  rcases lt_or (Rp.q s.a s.b) (len : Rat) with g | g
  · exact g
  · have := cu_mono hck g
    grind
theorem inv0 (hc : Ak.chkS D 0 = 0) (hn : n = (D.length : Nat)) (hlen : (Ak.dAt D 0).1 = len) : Inv D n len 0 ⟨0, 1, List.range D.length, [], []⟩ := by
  have g := Ak.chkS_good hc; have g0 := g.l0; have g1 := g.l1; have hq : Rp.q 0 1 = 0 := Rp.q_one 0; have hG := Ck.chk_good (show Ck.chk (Ak.dAt D 0).1 (Ak.dAt D 0).2.1 (Ak.dAt D 0).2.2 = 0 from (ck_at hc g0).1); have l0 := hG.len0; rw [hlen] at l0; refine ⟨List.pairwise_lt_range, fun j hj => List.mem_range.1 hj, by simp, ?_, ⟨n, by omega, by simp only [Int.pow_zero]; omega, ⟨1, by omega⟩, ?_⟩, fun j hj => ?_, by simp⟩
  · refine pt_mk (show Rp.Ok 0 1 by decide) (by rw [hq]; exact Rat.le_refl) ?_
    rw [hq]; have := Ck.cast_le (show (0 : Int) ≤ len by omega); exact this
  · rw [hq]
    exact Dd.int n 0
  · have hj := List.mem_range.1 hj
    obtain ⟨hck, hl1⟩ := ck_at hc hj; rw [hlen] at hl1; have hsh := sh_ok (n := n) hck (by omega) (by omega); have hcl := cu_len hck; rw [hl1] at hcl; rw [hq, cu_zero hck, hcl, ← hsh.2.2.1]
    show (((List.range D.length).length : Int) : Rat) * _ ≤ _
    rw [List.length_range, ← hn, Rat.mul_comm]
    grind
theorem inv_sts (hc : Ak.chkS D 0 = 0) (hn : n = (D.length : Nat)) (hlen : (Ak.dAt D 0).1 = len) : ∀ i, i < D.length → Inv D n len i (sts D n len i)
  | 0, _ => inv0 hc hn hlen
  | i + 1, h => by
    have hi := inv_sts hc hn hlen i (by omega); have := hi.ln; exact hi.next hc hn hlen (by omega)
/-- What a stop needs of its state. -/
structure SGood (D : List CkD) (n : Int) (s : St) : Prop where
  nd : s.l.Pairwise (· < ·)
  lt : ∀ j ∈ s.l, j < D.length
  fit : KFit D n s.a s.b s.l
  ia : I64 s.a
  ib : I64 s.b
  lg : s.L.length + s.l.length ≤ 2000
  sh : ∀ j ∈ s.l, I64 (Ch.sh n (Ak.dAt D j)).1 ∧ I64 (Ch.sh n (Ak.dAt D j)).2.1
theorem sgood_sts (hc : Ak.chkS D 0 = 0) (hn : n = (D.length : Nat)) (hlen : (Ak.dAt D 0).1 = len) (i : Nat) (h : i < D.length) : SGood D n (sts D n len i) ∧ (sts D n len i).l.length + i = D.length ∧ (stp D n len (sts D n len i)).1 ∈ (sts D n len i).l := by
  have hi := inv_sts hc hn hlen i h; have g := Ak.chkS_good hc; have g0 := g.l0; have g1 := g.l1; have hln := hi.ln; obtain ⟨E, E1, E0, E2, hk, hd, hr⟩ := hi.rnd hc hn hlen (by omega); have hok := (pt_spec hi.pt).1; have hlg := hi.lg; have hb : D.length * (D.length + 1) ≤ 6 * 7 := Nat.mul_le_mul g1 (by omega); refine ⟨⟨hi.so, hi.ag, hr.fit hi.ag, ?_, ?_, by omega, fun j hj => ?_⟩, hln, stp_mem hc hn hlen hi (by omega)⟩
  · have := hok.2.2
    exact ⟨by omega, by omega⟩
  · have := hok.1
    have := hok.2.1; exact ⟨by omega, by omega⟩
  · obtain ⟨a1, a2, a3, a4, _⟩ := (sh_ok (n := n) (ck_at hc (hi.ag j hj)).1 (by omega) (by omega)).2.1
    unfold I64
    omega
end
end Kn
end Go.Proofs.YtniagnldiegamaaGreat


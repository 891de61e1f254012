/- Package knife: the spans of a run lie side by side, each agent has one; the log is right and as long as it should be. Plain mathematics. The reference's Spans: what its inner loop finds. Plain mathematics. The reference's Spans: what the boxes hold ahead of a stop. -/
import Derived.Test.YtniagnldiegamaaGreatKnq
import Derived.Test.YtniagnldiegamaaGreatKnp
namespace Go.Proofs.YtniagnldiegamaaGreat
open Go.RowKit
namespace Kn
open Ck Ch
section
variable {D : List CkD} {n len : Int}
theorem prm_k (hc : Ak.chkS D 0 = 0) (hn : n = (D.length : Nat)) (hlen : (Ak.dAt D 0).1 = len) : ∀ k, k ≤ D.length → (((List.range k).map (agk D n len)) ++ (sts D n len k).l).Perm (List.range D.length)
  | 0, _ => List.Perm.refl _
  | k + 1, hk => by
    have ih := prm_k hc hn hlen k (by omega); have hmem := (sgood_sts hc hn hlen k (by omega)).2.2
    have e : (sts D n len (k + 1)).l = (sts D n len k).l.erase (agk D n len k) := by
      show (sts D n len k).l.eraseIdx ((sts D n len k).l.idxOf (stp D n len (sts D n len k)).1) = _
      rw [List.erase_eq_eraseIdx_of_idxOf]
      rfl
    rw [e, List.range_succ, List.map_append, List.append_assoc]; refine List.Perm.trans ?_ ih; exact (List.perm_cons_erase (show agk D n len k ∈ (sts D n len k).l from hmem)).symm.append_left _
theorem Tk_ag (k : Nat) : (Tk D n len k).map (fun t => t.1) = (List.range k).map (agk D n len) := by
  unfold Tk
  rw [List.map_map]
  rfl
theorem tk_perm (hc : Ak.chkS D 0 = 0) (hn : n = (D.length : Nat)) (hlen : (Ak.dAt D 0).1 = len) : ((Tk D n len D.length).map (fun t => t.1)).Perm (List.range D.length) := by
  have h := prm_k hc hn hlen D.length (Nat.le_refl _); have hl := h.length_eq
  simp only [List.length_append, List.length_map, List.length_range] at hl
  have e : (sts D n len D.length).l = [] := List.eq_nil_of_length_eq_zero (by omega); rw [e, List.append_nil] at h; rw [Tk_ag]; exact h
theorem tk_new (hc : Ak.chkS D 0 = 0) (hn : n = (D.length : Nat)) (hlen : (Ak.dAt D 0).1 = len) {k : Nat} (hk : k < D.length) : ∀ t ∈ Tk D n len k, t.1 ≠ agk D n len k := fun t ht e => by
  have h := prm_k hc hn hlen k (by omega); have hmem := (sgood_sts hc hn hlen k hk).2.2; have hnd := h.nodup_iff.2 List.nodup_range; rw [List.nodup_append] at hnd
  have h1 : t.1 ∈ (List.range k).map (agk D n len) := by
    rw [← Tk_ag]; exact List.mem_map.2 ⟨t, ht, rfl⟩
  exact hnd.2.2 _ h1 _ hmem e
theorem tk_chn : ∀ k, Chn (0, 1) (Tk D n len k) ((sts D n len k).a, (sts D n len k).b)
  | 0 => rfl
  | k + 1 => by
    rw [Tk_succ]; exact chn_app (tk_chn k) ⟨rfl, rfl⟩
theorem sts_end (hc : Ak.chkS D 0 = 0) (hn : n = (D.length : Nat)) (hlen : (Ak.dAt D 0).1 = len) : (sts D n len D.length).a = len ∧ (sts D n len D.length).b = 1 := by
  have g0 := (Ak.chkS_good hc).l0; obtain ⟨m, hm⟩ : ∃ m, D.length = m + 1 := ⟨D.length - 1, by omega⟩; have hl := (sgood_sts hc hn hlen m (by omega)).2.1; rw [hm]
  show (stp D n len (sts D n len m)).2.1 = len ∧ (stp D n len (sts D n len m)).2.2 = 1
  unfold stp
  rw [if_pos (by omega)]; exact ⟨rfl, rfl⟩
/-- What is known of the span of the stop k. -/
theorem spk_pcp (hc : Ak.chkS D 0 = 0) (hn : n = (D.length : Nat)) (hlen : (Ak.dAt D 0).1 = len) {k : Nat} (hk : k < D.length) : PcP D n len (spk D n len k) ∧ (k + 1 < D.length → cu (Ak.dAt D (agk D n len k)) (Rp.q (stp D n len (sts D n len k)).2.1 (stp D n len (sts D n len k)).2.2) - cu (Ak.dAt D (agk D n len k)) (Rp.q (sts D n len k).a (sts D n len k).b) = shq n (Ak.dAt D (agk D n len k))) := by
  have g := Ak.chkS_good hc; have g0 := g.l0; have g1 := g.l1; have hv := inv_sts hc hn hlen k hk; have hln := hv.ln; obtain ⟨-, -, hmem⟩ := sgood_sts hc hn hlen k hk; obtain ⟨E, E1, E0, E2, hkk, hd, hr⟩ := hv.rnd hc hn hlen (by omega); have hag := hv.ag _ hmem; obtain ⟨hck, hl1⟩ := ck_at hc hag
  by_cases e1 : (sts D n len k).l.length = 1
  · have es : stp D n len (sts D n len k) = ((sts D n len k).l.getD 0 0, len, 1) := by unfold stp; rw [if_pos e1]
    have hlt := hv.lt_end hc hn (by omega); have he := hv.en1 hc hn hmem; have hG := Ck.chk_good (show Ck.chk (Ak.dAt D 0).1 (Ak.dAt D 0).2.1 (Ak.dAt D 0).2.2 = 0 from (ck_at hc g0).1); have l0 := hG.len0; rw [hlen] at l0; have hpl : Ck.pt len len 1 = true := pt_mk (ok_len hc hlen) (by rw [Rp.q_one]; exact cast_le (show (0 : Int) ≤ len by omega)) (by rw [Rp.q_one]; exact Rat.le_refl); refine ⟨⟨hv.pt, ?_, ?_, ⟨E, E1, by omega, hd, ?_⟩, ?_⟩, fun h => by omega⟩
    · show Ck.pt len (stp D n len (sts D n len k)).2.1 (stp D n len (sts D n len k)).2.2 = true
      rw [es]; exact hpl
    · show Rp.q (sts D n len k).a (sts D n len k).b < Rp.q (stp D n len (sts D n len k)).2.1 (stp D n len (sts D n len k)).2.2
      rw [es]
      dsimp only
      rw [Rp.q_one]; exact hlt
    · show Dd E (Rp.q (stp D n len (sts D n len k)).2.1 (stp D n len (sts D n len k)).2.2)
      rw [es]
      dsimp only
      rw [Rp.q_one]; exact Dd.int _ _
    · show shq n (Ak.dAt D (stp D n len (sts D n len k)).1) ≤ cu (Ak.dAt D (stp D n len (sts D n len k)).1) (Rp.q (stp D n len (sts D n len k)).2.1 (stp D n len (sts D n len k)).2.2) - cu (Ak.dAt D (stp D n len (sts D n len k)).1) (Rp.q (sts D n len k).a (sts D n len k).b)
      rw [es] at he ⊢; dsimp only at he ⊢; rw [Rp.q_one]; exact he
  · obtain ⟨-, z1, z2, hmin⟩ := hv.stp hc hn hlen (by omega)
    obtain ⟨m1, m2, m3, m4, g, m5, m6, m7⟩ := hr.mq _ hmem; rw [← z1, ← z2] at m2 m3 m4 m7; have hsh := sh_ok (n := n) hck (by omega) (by omega); have hpos := hsh.2.2.2.2.1; have d0 := Int.mul_le_mul_of_nonneg_left m6 (show 0 ≤ E by omega); have d1 := Int.mul_le_mul_of_nonneg_left m5 (show 0 ≤ E by omega); refine ⟨⟨hv.pt, m2, ?_, ⟨E * g, by omega, by omega, hd.up g, m7⟩, ?_⟩, fun _ => m4⟩
    · rcases lt_or (Rp.q (sts D n len k).a (sts D n len k).b) (Rp.q (stp D n len (sts D n len k)).2.1 (stp D n len (sts D n len k)).2.2) with q | q
      · exact q
      · have := cu_mono hck q
        grind
    · show shq n (Ak.dAt D (stp D n len (sts D n len k)).1) ≤ cu (Ak.dAt D (stp D n len (sts D n len k)).1) (Rp.q (stp D n len (sts D n len k)).2.1 (stp D n len (sts D n len k)).2.2) - cu (Ak.dAt D (stp D n len (sts D n len k)).1) (Rp.q (sts D n len k).a (sts D n len k).b)
      rw [m4]; exact Rat.le_refl
theorem right_M {a b : Int} {j : Nat} (hj : j < D.length) (h : (mkQ D n a b j).2.2 = 0) : rightQ D (qM D n a b j) := right_of (by
  have e : Ak.ansS D (qM D n a b j) = mkQ D n a b j := ans_M hj _ _; rw [e]
  show _ = ((mkQ D n a b j).1, (mkQ D n a b j).2.1, 0)
  rw [← h])
theorem log_right (hc : Ak.chkS D 0 = 0) (hn : n = (D.length : Nat)) (hlen : (Ak.dAt D 0).1 = len) : ∀ k, k ≤ D.length → ∀ q ∈ (sts D n len k).L, rightQ D q
  | 0, _ => fun q hq => by cases hq
  | k + 1, hk => fun q hq => by
    have ih := log_right hc hn hlen k (by omega); obtain ⟨hg, -, -⟩ := sgood_sts hc hn hlen k (by omega); have hq : q ∈ slg D n (sts D n len k) := hq
    unfold slg at hq
    split at hq
    · exact ih q hq
    · rcases List.mem_append.1 hq with hq | hq
      · exact ih q hq
      · obtain ⟨j, hj, rfl⟩ := List.mem_map.1 hq
        exact right_M (hg.lt j hj) (hg.fit.mark j hj).1
theorem log_len (hc : Ak.chkS D 0 = 0) (hn : n = (D.length : Nat)) (hlen : (Ak.dAt D 0).1 = len) : 2 * ((sts D n len D.length).L.length + 1) = D.length * (D.length + 1) := by
  have g0 := (Ak.chkS_good hc).l0; obtain ⟨m, hm⟩ : ∃ m, D.length = m + 1 := ⟨D.length - 1, by omega⟩; have hl := (sgood_sts hc hn hlen m (by omega)).2.1; have hlg := (inv_sts hc hn hlen m (by omega)).lg
  have e : (sts D n len D.length).L = (sts D n len m).L := by
    rw [hm]
    show slg D n (sts D n len m) = _
    unfold slg
    rw [if_pos (by omega)]
  rw [e]
  have e1 : (sts D n len m).l.length = 1 := by omega
  rw [e1] at hlg
  omega
end
end Kn
end Go.Proofs.YtniagnldiegamaaGreat

namespace Go.Proofs.YtniagnldiegamaaGreat
open Go.RowKit
namespace Kn
open Ck Ch
/-- Who has had a piece. -/
def hadl (l : List Nat) (nn : Nat) : List Value := (List.range nn).map fun i => Value.bool (decide (i ∉ l))
theorem hadl_at {l : List Nat} {nn i : Nat} (h : i < nn) : (hadl l nn)[i]? = some (Value.bool (decide (i ∉ l))) := by
  unfold hadl
  rw [List.getElem?_map, List.getElem?_range h]
  rfl
theorem hadl_nil (nn : Nat) : List.replicate nn (Value.bool false) = hadl (List.range nn) nn := by
  unfold hadl
  refine List.ext_getElem (by simp) fun k h1 h2 => ?_
  have hk : k < nn := by simpa using h1
  simp [hk]
theorem hadl_set {l : List Nat} {nn x : Nat} (hl : l.Nodup) : (hadl l nn).set x (.bool true) = hadl (l.erase x) nn := by
  unfold hadl
  refine List.ext_getElem (by simp) fun k h1 h2 => ?_
  simp only [List.getElem_set, List.getElem_map, List.getElem_range]
  by_cases e : x = k
  · subst e
    rw [if_pos rfl]
    congr 1
    exact (decide_eq_true (show ¬ x ∈ l.erase x from fun h => List.Nodup.not_mem_erase hl h)).symm
  · rw [if_neg e]
    congr 2
    rw [List.mem_erase_of_ne (fun h => e h.symm)]
theorem filt_succ : ∀ {l : List Nat}, l.Pairwise (· < ·) → ∀ i, l.filter (fun j => decide (j < i + 1)) = l.filter (fun j => decide (j < i)) ++ (if i ∈ l then [i] else [])
  | [], _, _ => rfl
  | a :: l, h, i => by
    have h2 := List.pairwise_cons.1 h; have ih := filt_succ h2.2 i
    rcases Nat.lt_trichotomy a i with g | g | g
    · rw [List.filter_cons_of_pos (by simp; omega), List.filter_cons_of_pos (by simp; omega), ih, List.cons_append]
      have e : (i ∈ a :: l) ↔ i ∈ l := by rw [List.mem_cons]; exact ⟨fun h => h.elim (fun e => by omega) id, .inr⟩
      by_cases hi : i ∈ l
      · rw [if_pos hi, if_pos (e.2 hi)]
      · rw [if_neg hi, if_neg (fun h => hi (e.1 h))]
    · subst g
      rw [List.filter_cons_of_pos (by simp), List.filter_cons_of_neg (by simp), ih, if_pos (List.mem_cons_self ..)]
      have e1 : l.filter (fun j => decide (j < a)) = [] := List.filter_eq_nil_iff.2 fun j hj => by have := h2.1 j hj; simp; omega
      have e2 : a ∉ l := fun hm => by have := h2.1 a hm; omega
      rw [e1, if_neg e2]
      rfl
    · have hgt : ∀ j ∈ l, i < j := fun j hj => by have := h2.1 j hj; omega
      have e1 : l.filter (fun j => decide (j < i)) = [] := List.filter_eq_nil_iff.2 fun j hj => by have := hgt j hj; simp; omega
      have e2 : i ∉ a :: l := fun hm => by
        rcases List.mem_cons.1 hm with e | e
        · omega
        · have := hgt i e; omega
      rw [List.filter_cons_of_neg (by simp; omega), List.filter_cons_of_neg (by simp; omega), if_neg e2, List.append_nil, ih, if_neg (fun h => e2 (List.mem_cons_of_mem _ h)), List.append_nil]
theorem filt_all {l : List Nat} {nn : Nat} (h : ∀ j ∈ l, j < nn) : l.filter (fun j => decide (j < nn)) = l := List.filter_eq_self.2 fun j hj => by simp [h j hj]
theorem filt_zero (l : List Nat) : l.filter (fun j => decide (j < 0)) = [] := List.filter_eq_nil_iff.2 fun j _ => by simp
section
variable (D : List CkD) (n len : Int) (s : St)
/-- Where the knife would stop for an agent. -/
def rmk (j : Nat) : Int × Int := if s.l.length = 1 then (len, 1) else ((mkQ D n s.a s.b j).1, (mkQ D n s.a s.b j).2.1)
/-- One agent more. -/
def rs1 (z : Int × Int × Int) (j : Nat) : Int × Int × Int := if z.1 < 0 ∨ Rp.q (rmk D n len s j).1 (rmk D n len s j).2 < Rp.q z.2.1 z.2.2 then ((j : Int), rmk D n len s j) else z
def rst (r : List Nat) : Int × Int × Int := r.foldl (rs1 D n len s) (-1, len, 1)
theorem rst_snoc (r : List Nat) (j : Nat) : rst D n len s (r ++ [j]) = rs1 D n len s (rst D n len s r) j := by
  unfold rst
  rw [List.foldl_append]
  rfl
def rlg (r : List Nat) : List Qr := if s.l.length = 1 then s.L else s.L ++ r.map (qM D n s.a s.b)
theorem rlg_snoc (r : List Nat) (j : Nat) (h : s.l.length ≠ 1) : rlg D n s (r ++ [j]) = rlg D n s r ++ [qM D n s.a s.b j] := by
  unfold rlg
  rw [if_neg h, if_neg h, List.map_append, List.append_assoc]
  rfl
theorem rlg_all : rlg D n s s.l = slg D n s := rfl
end
section
variable {D : List CkD} {n len : Int}
theorem fold_bst {s : St} (h : s.l.length ≠ 1) : ∀ (r : List Nat) (z : Nat × Int × Int), r.foldl (rs1 D n len s) ((z.1 : Int), z.2) = (((bst D n s.a s.b r z).1 : Int), (bst D n s.a s.b r z).2)
  | [], _ => rfl
  | j :: r, z => by
    have e : rs1 D n len s ((z.1 : Int), z.2) j = ((((if Rp.q (mkQ D n s.a s.b j).1 (mkQ D n s.a s.b j).2.1 < Rp.q z.2.1 z.2.2 then (j, (mkQ D n s.a s.b j).1, (mkQ D n s.a s.b j).2.1) else z).1 : Nat) : Int), (if Rp.q (mkQ D n s.a s.b j).1 (mkQ D n s.a s.b j).2.1 < Rp.q z.2.1 z.2.2 then (j, (mkQ D n s.a s.b j).1, (mkQ D n s.a s.b j).2.1) else z).2) := by
      unfold rs1 rmk
      rw [if_neg h]
      dsimp only
      by_cases g : Rp.q (mkQ D n s.a s.b j).1 (mkQ D n s.a s.b j).2.1 < Rp.q z.2.1 z.2.2
      · rw [if_pos (.inr g), if_pos g]
      · rw [if_neg (fun e => e.elim (fun e => by omega) g), if_neg g]
    rw [List.foldl_cons, e]; exact fold_bst h r _
/-- The marks of a stop are points. -/
theorem mk_pt (hc : Ak.chkS D 0 = 0) (hn : n = (D.length : Nat)) (hlen : (Ak.dAt D 0).1 = len) {k : Nat} (hk : k < D.length) {j : Nat} (hj : j ∈ (sts D n len k).l) : (mkQ D n (sts D n len k).a (sts D n len k).b j).2.2 = 0 ∧ Ck.pt len (mkQ D n (sts D n len k).a (sts D n len k).b j).1 (mkQ D n (sts D n len k).a (sts D n len k).b j).2.1 = true := by
  have hv := inv_sts hc hn hlen k hk; have hln := hv.ln; have g1 := (Ak.chkS_good hc).l1; have hpos : 0 < (sts D n len k).l.length := List.length_pos_of_mem hj; obtain ⟨E, E1, E0, E2, hkk, hd, hr⟩ := hv.rnd hc hn hlen (by omega); obtain ⟨m1, m2, _⟩ := hr.mq _ hj; exact ⟨m1, m2⟩
/-- The inner loop finds who stops, and where. -/
theorem rst_all (hc : Ak.chkS D 0 = 0) (hn : n = (D.length : Nat)) (hlen : (Ak.dAt D 0).1 = len) {k : Nat} (hk : k < D.length) : rst D n len (sts D n len k) (sts D n len k).l = (((agk D n len k : Nat) : Int), (stp D n len (sts D n len k)).2) := by
  have hv := inv_sts hc hn hlen k hk; have hln := hv.ln
  have hm := fun j hj => mk_pt hc hn hlen hk (j := j) hj
  have hst := hv.stp hc hn hlen
  unfold agk
  generalize sts D n len k = s at *
  obtain ⟨j0, r, hl⟩ : ∃ j0 r, s.l = j0 :: r := by
    cases h : s.l with
    | nil => rw [h] at hln; simp at hln; omega
    | cons j r => exact ⟨j, r, rfl⟩
  by_cases h1 : s.l.length = 1
  · have hr : r = [] := by rw [hl] at h1; simpa using h1
    subst hr
    unfold rst stp
    rw [if_pos h1, hl]
    unfold List.foldl List.foldl rs1 rmk
    rw [if_pos (.inl (show (-1 : Int) < 0 by decide)), if_pos h1]
    rfl
  · have hs : stp D n len s = bst D n s.a s.b s.l (s.l.getD 0 0, len, 1) := by unfold stp; rw [if_neg h1]
    have h0 := hm j0 (by rw [hl]; exact List.mem_cons_self ..); have hp := pt_spec h0.2; have hok := hp.1
    have e1 : rs1 D n len s (-1, len, 1) j0 = ((j0 : Int), (mkQ D n s.a s.b j0).1, (mkQ D n s.a s.b j0).2.1) := by
      unfold rs1 rmk
      rw [if_pos (.inl (show (-1 : Int) < 0 by decide)), if_neg h1]
    have e2 : (if Rp.q (mkQ D n s.a s.b j0).1 (mkQ D n s.a s.b j0).2.1 < Rp.q len 1 then (j0, (mkQ D n s.a s.b j0).1, (mkQ D n s.a s.b j0).2.1) else (j0, len, 1)) = (j0, (mkQ D n s.a s.b j0).1, (mkQ D n s.a s.b j0).2.1) := by
      by_cases g : Rp.q (mkQ D n s.a s.b j0).1 (mkQ D n s.a s.b j0).2.1 < Rp.q len 1
      · rw [if_pos g]
      · rw [if_neg g]
        have hlo := ok_len hc hlen
        have hle : Rp.q (mkQ D n s.a s.b j0).1 (mkQ D n s.a s.b j0).2.1 ≤ Rp.q len 1 := by
          rcases lt_or (Rp.q len 1) (Rp.q (mkQ D n s.a s.b j0).1 (mkQ D n s.a s.b j0).2.1) with q | q
          · have := (Rp.q_lt hlo hok).1 q
            have := hp.2.2
            omega
          · exact q
        have he := Rat.le_antisymm hle (Rat.not_lt.1 g); have a1 := Rp.ofQ_q hok; have a2 := Rp.ofQ_q hlo; rw [he] at a1; have a3 := a1.symm.trans a2; rw [Prod.mk.injEq, Prod.mk.injEq] at a3; rw [a3.1, a3.2.1]
    rw [hs, hl]
    unfold rst
    rw [List.foldl_cons, e1, show ((j0 : Int), (mkQ D n s.a s.b j0).1, (mkQ D n s.a s.b j0).2.1) = ((((j0, (mkQ D n s.a s.b j0).1, (mkQ D n s.a s.b j0).2.1) : Nat × Int × Int).1 : Int), ((j0, (mkQ D n s.a s.b j0).1, (mkQ D n s.a s.b j0).2.1) : Nat × Int × Int).2) from rfl, fold_bst h1]
    have e3 : bst D n s.a s.b (j0 :: r) ((j0 :: r).getD 0 0, len, 1) = bst D n s.a s.b r (j0, (mkQ D n s.a s.b j0).1, (mkQ D n s.a s.b j0).2.1) := by
      show bst D n s.a s.b r (if Rp.q (mkQ D n s.a s.b j0).1 (mkQ D n s.a s.b j0).2.1 < Rp.q len 1 then (j0, (mkQ D n s.a s.b j0).1, (mkQ D n s.a s.b j0).2.1) else (j0, len, 1)) = _
      rw [e2]
    rw [e3]
end
end Kn
end Go.Proofs.YtniagnldiegamaaGreat
namespace Go.Proofs.YtniagnldiegamaaGreat
open Go.RowKit
namespace Kn
open Ck Ch
/-- The places of the boxes. -/
structure Pl where
  bx : Nat
  Pp : Nat
  bo : Nat
  ge : Nat
  ba : Nat
  be : Nat
  no : Nat
structure PlOk (P : Pl) (b2 : Nat) : Prop where
  p1 : b2 < P.bx
  p2 : P.bx < P.Pp
  p3 : P.Pp < P.bo
  p4 : P.bo < P.ge
  p5 : P.ge < P.ba
  p6 : P.ge < P.be
  p7 : P.ba ≠ P.be
  p8 : P.ba < P.no
  p9 : P.be < P.no
/-- The blocks that are written into. -/
def RF (P : Pl) (b2 : Nat) (s : Value) : Nat → Prop := fun j => (j = b2 ∨ j = P.bx ∨ j = P.Pp ∨ j = P.bo ∨ j = P.ge ∨ j = P.ba ∨ j = P.be) ∨ s.ownBlock = some j
structure RI (D : List CkD) (n len : Int) (w : World) (nn : Nat) (P : Pl) (k : Nat) (s : Value) (A : Option Addr) (ca : Nat) (cs : List CkR) (Q : Option Addr) (q cq : Nat) (G : Nat → Nat) (W : World) : Prop where
  bb : Below w.heap.size w W
  b2 : BK W w.heap.size [.slice none 0 0]
  bd : BK W P.bx [.slice A nn ca, .slice Q q cq]
  bo : BK W P.bo [.slice (some ⟨P.Pp, 0, none⟩) nn nn]
  bh : BK W P.ge (hadl (sts D n len k).l nn)
  ba : BK W P.ba [.int .i64 (sts D n len k).a, .int .i64 (sts D n len k).b]
  be : BK W P.be [.int .i64 len, .int .i64 1]
  bp : BK W P.Pp (pvs nn (Tk D n len k) G (fun _ => Value.slice none 0 0))
  sp : ∀ t ∈ Tk D n len k, ¬ RF P w.heap.size s (G t.1) ∧ BK W (G t.1) (spc t)
  or : Own W P.no s (ors D n len k)
  dk : DkP (RF P w.heap.size s) W A cs Q (sts D n len k).L
  cl : cs.length = nn
  ql : (sts D n len k).L.length = q
  cd : cs.map Ak.dat = D
  nw : P.no ≤ W.heap.size
theorem RI.fl {D : List CkD} {n len : Int} {w : World} {nn : Nat} {P : Pl} {k : Nat} {s : Value} {A : Option Addr} {ca : Nat} {cs : List CkR} {Q : Option Addr} {q cq : Nat} {G : Nat → Nat} {W : World} (h : RI D n len w nn P k s A ca cs Q q cq G W) : ∀ j, RF P w.heap.size s j → j < W.heap.size := fun j hj => by
  rcases hj with (rfl | rfl | rfl | rfl | rfl | rfl | rfl) | hj
  · exact h.b2.lt
  · exact h.bd.lt
  · exact h.bp.lt
  · exact h.bo.lt
  · exact h.bh.lt
  · exact h.ba.lt
  · exact h.be.lt
  · exact (h.or.lt j hj).2
theorem RI.fg {D : List CkD} {n len : Int} {w : World} {nn : Nat} {P : Pl} {k : Nat} {s : Value} {A : Option Addr} {ca : Nat} {cs : List CkR} {Q : Option Addr} {q cq : Nat} {G : Nat → Nat} {W : World} (h : RI D n len w nn P k s A ca cs Q q cq G W) (hp : PlOk P w.heap.size) : ∀ j, RF P w.heap.size s j → w.heap.size ≤ j := fun j hj => by
  obtain ⟨p1, p2, p3, p4, p5, p6, p7, p8, p9⟩ := hp
  rcases hj with (rfl | rfl | rfl | rfl | rfl | rfl | rfl) | hj
  · omega
  · omega
  · omega
  · omega
  · omega
  · omega
  · omega
  · have := (h.or.lt j hj).1
    omega
theorem RI.step {D : List CkD} {n len : Int} {w : World} {nn : Nat} {P : Pl} {k : Nat} {s : Value} {A : Option Addr} {ca : Nat} {cs : List CkR} {Q : Option Addr} {q cq : Nat} {G : Nat → Nat} {W : World} (h : RI D n len w nn P k s A ca cs Q q cq G W) (hp : PlOk P w.heap.size)
    {W6 : World} {A2 : Option Addr} {ca2 : Nat} {cs2 : List CkR} {Q2 : Option Addr} {q2 cq2 gz : Nat} {t3 : Value} (hg : GB (RF P w.heap.size s) W W6) (hz : W.heap.size ≤ gz) (ht3 : ∀ j, t3.ownBlock = some j → s.ownBlock = some j ∨ gz < j)
    (h2 : BK W6 w.heap.size [.slice none 0 0]) (hd : BK W6 P.bx [.slice A2 nn ca2, .slice Q2 q2 cq2]) (hbo : BK W6 P.bo [.slice (some ⟨P.Pp, 0, none⟩) nn nn]) (hh : BK W6 P.ge (hadl (sts D n len (k + 1)).l nn)) (hba : BK W6 P.ba [.int .i64 (sts D n len (k + 1)).a, .int .i64 (sts D n len (k + 1)).b]) (hbe : BK W6 P.be [.int .i64 len, .int .i64 1])
    (hP : BK W6 P.Pp ((pvs nn (Tk D n len k) G (fun _ => Value.slice none 0 0)).set (agk D n len k) (.slice (some ⟨gz, 0, none⟩) 1 1))) (hZ : BK W6 gz (spc (spk D n len k)))
    (ho : Own W6 P.no t3 (ors D n len k ++ [((agk D n len k : Nat) : Int)])) (hnw : ∀ t ∈ Tk D n len k, t.1 ≠ agk D n len k) (hdk : DkP (RF P w.heap.size t3) W6 A2 cs2 Q2 (sts D n len (k + 1)).L) (hcl : cs2.length = nn) (hql : (sts D n len (k + 1)).L.length = q2) (hcd : cs2.map Ak.dat = D) :
    RI D n len w nn P (k + 1) t3 A2 ca2 cs2 Q2 q2 cq2 (fun j => if j = agk D n len k then gz else G j) W6 := by
  have hfl := h.fl; have hfg := h.fg hp
  have hF' : ∀ j, RF P w.heap.size t3 j → RF P w.heap.size s j ∨ gz < j := fun j hj => by
    rcases hj with hj | hj
    · exact .inl (.inl hj)
    · exact (ht3 j hj).imp .inr id
  have hbw := h.bb.size; refine ⟨hg.toBelow h.bb (fun j hj => hfg j hj) hbw, h2, hd, hbo, hh, hba, hbe, ?_, ?_, ?_, hdk, hcl, hql, hcd, by have := h.nw; have := hg.size; omega⟩
  · rw [Tk_succ]
    have e := pvs_one nn (agk D n len k) gz (spk D n len k).2.1 (spk D n len k).2.2.1 (spk D n len k).2.2.2.1 (spk D n len k).2.2.2.2 (pv (Tk D n len k) G (fun _ => Value.slice none 0 0)); have e2 := pvs_app nn (Tk D n len k) [spk D n len k] G (fun _ => gz) (fun _ => Value.slice none 0 0)
    have e3 : (fun j => if j ∈ [spk D n len k].map (fun t => t.1) then gz else G j) = (fun j => if j = agk D n len k then gz else G j) := by
      funext j
      have : (j ∈ [spk D n len k].map (fun t => t.1)) ↔ j = agk D n len k := by simp [spk]
      by_cases hj : j = agk D n len k
      · rw [if_pos (this.2 hj), if_pos hj]
      · rw [if_neg (fun e => hj (this.1 e)), if_neg hj]
    rw [e3] at e2; rw [← e2]; rw [show (pvs nn (Tk D n len k) G (fun _ => Value.slice none 0 0)).set (agk D n len k) (.slice (some ⟨gz, 0, none⟩) 1 1) = pvs nn [spk D n len k] (fun _ => gz) (pv (Tk D n len k) G (fun _ => Value.slice none 0 0)) from e] at hP; exact hP
  · intro t ht
    rw [Tk_succ] at ht
    have hnz : ¬ RF P w.heap.size t3 gz := fun e => by
      rcases hF' _ e with e | e
      · have := hfl _ e
        omega
      · omega
    by_cases e : t.1 = agk D n len k
    · rw [if_pos e]
      rcases List.mem_append.1 ht with ht | ht
      · exact absurd e (hnw t ht)
      · rw [List.mem_singleton.1 ht]
        exact ⟨hnz, hZ⟩
    · rw [if_neg e]
      rcases List.mem_append.1 ht with ht | ht
      · obtain ⟨g1, g2⟩ := h.sp t ht
        have hlt := g2.lt; refine ⟨fun e => ?_, g2.gb hg g1⟩
        rcases hF' _ e with e | e
        · exact g1 e
        · omega
      · exact absurd (by rw [List.mem_singleton.1 ht]; rfl) e
  · rw [ors_succ]
    exact ho
theorem st_l (k : Nat) (D : List CkD) (n len : Int) : (sts D n len (k + 1)).l = (sts D n len k).l.erase (agk D n len k) := by
  show (sts D n len k).l.eraseIdx ((sts D n len k).l.idxOf (stp D n len (sts D n len k)).1) = _
  rw [List.erase_eq_eraseIdx_of_idxOf]
  rfl
end Kn
/-- The new order of slices of booleans. -/
theorem rbool_make (n : Nat) (hn : n ≤ 1000) (v : World) : Sem.run Tryz.prog (Instr.makeSlice 105 (.int .i64 (n : Int)) (.int .i64 (n : Int))) v = .ok (.slice (some ⟨v.heap.size, 0, none⟩) n n) (v.alloc (.cells (Array.replicate n (Value.bool false)) 4)) := by
  have h := run_make_row' (P := Tryz.prog) 105 4 (.bool false) 1 (by kernel_rfl) (by kernel_rfl) rfl .i64 .i64 n (by omega) (by omega) v
  have e : madeCells #[Value.bool false] n = Array.replicate n (Value.bool false) := by
    apply Array.ext
    · simp [madeCells]
    · intro i h1 h2
      simp [madeCells, Nat.mod_one]
  rw [e] at h; exact h
theorem rbk_had (w : World) (nn : Nat) : BK (w.alloc (.cells (Array.replicate nn (Value.bool false)) 4)) w.heap.size (Kn.hadl (List.range nn) nn) := by
  rw [← Kn.hadl_nil, ← List.toArray_replicate]; exact BK.new _ _ _
end Go.Proofs.YtniagnldiegamaaGreat

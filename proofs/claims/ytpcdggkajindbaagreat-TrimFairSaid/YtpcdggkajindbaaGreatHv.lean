/- Sets of points: what the sweep's piece has, when two pieces are the same, and that the sweep's piece is a piece. Divisions into one span for each agent, side by side: which claims hold. Plain mathematics. Package trim: a run is a division side by side, its log is right and short. Plain mathematics. The law TrimFair. -/
import Derived.Test.YtpcdggkajindbaaGreatPsweep
import Derived.Test.YtpcdggkajindbaaGreatHq
import Derived.Test.YtpcdggkajindbaaGreatGw
import Derived.Test.YtpcdggkajindbaaGreatTrh
import Derived.Test.YtpcdggkajindbaaGreatTrl
namespace Go.Proofs.YtpcdggkajindbaaGreat
namespace Pc
theorem chg_mem {t : Rat → Bool} : ∀ {l : List Rat} {k : Bool} {r : Rat}, r ∈ chg t l k → r ∈ l
  | [], _, _, h => by simp [chg] at h
  | p :: l, k, r, h => by
    unfold chg at h
    split at h
    · exact List.mem_cons_of_mem _ (chg_mem h)
    · rcases List.mem_cons.1 h with rfl | h
      · simp
      · exact List.mem_cons_of_mem _ (chg_mem h)
theorem inc_chg {t : Rat → Bool} : ∀ {l : List Rat} {k : Bool}, Inc l → Inc (chg t l k)
  | [], _, _ => trivial
  | p :: l, k, h => by
    unfold chg
    split
    · exact inc_chg h.2
    · exact ⟨fun q hq => h.1 q (chg_mem hq), inc_chg h.2⟩
theorem par_swp (f : Bool → Bool → Bool) : ∀ (n : Nat) (a b : List Rat), a.length + b.length ≤ n → Inc a → Inc b → ∀ x y p, par (swp f a b x y (f x y)) (f x y) p = f (par a x p) (par b y p) := by
  intro n
  induction n with
  | zero => intro a b h _ _ x y p; have ha : a = [] := List.eq_nil_of_length_eq_zero (by omega); have hb : b = [] := List.eq_nil_of_length_eq_zero (by omega); subst ha hb; unfold swp; simp [par]
  | succ n ih =>
    intro a b h ha hb x y p
    by_cases kk : a = [] ∧ b = []
    · obtain ⟨rfl, rfl⟩ := kk; unfold swp; simp [par]
    · have hh := near_hit a b kk
      have h1 := off_len (near a b) a; have h2 := off_len (near a b) b
      have hl : (off (near a b) a).length + (off (near a b) b).length ≤ n := by
        rcases hh with k | k
        · have := off_lt _ _ k; omega
        · have := off_lt _ _ k; omega
      have hn := near_le ha hb; have IH := ih _ _ hl (inc_off ha) (inc_off hb) (xor x (hit (near a b) a)) (xor y (hit (near a b) b)) p
      by_cases hp : near a b ≤ p
      · have ea : par a x p = par (off (near a b) a) (xor x (hit (near a b) a)) p := by
          rcases Rat.le_iff_lt_or_eq.1 hp with hlt | heq
          · exact (par_off hlt x).symm
          · rw [← heq, par_hit ha hn.1, par_far _ _ _ hn.1]
        have eb : par b y p = par (off (near a b) b) (xor y (hit (near a b) b)) p := by
          rcases Rat.le_iff_lt_or_eq.1 hp with hlt | heq
          · exact (par_off hlt y).symm
          · rw [← heq, par_hit hb hn.2, par_far _ _ _ hn.2]
        rw [ea, eb, ← IH]
        by_cases hk : f (xor x (hit (near a b) a)) (xor y (hit (near a b) b)) = f x y
        · rw [swp_same kk hk, hk]
        · have e : f (xor x (hit (near a b) a)) (xor y (hit (near a b) b)) = !(f x y) := by
            revert hk
            generalize f _ _ = z
            generalize f x y = v
            cases z <;> cases v <;> simp
          rw [swp_turn kk hk, par, if_pos hp, e]
      · have hfa : par a x p = x := by
          refine par_far a x p fun r hr => ?_
          cases a with
          | nil => simp at hr
          | cons q a =>
            have hq : near (q :: a) b ≤ q := by
              cases b with
              | nil => simp [near]
              | cons s b => simp only [near]; split <;> grind
            rcases List.mem_cons.1 hr with rfl | hr
            · grind
            · have := ha.1 r hr; grind
        have hfb : par b y p = y := by
          refine par_far b y p fun r hr => ?_
          cases b with
          | nil => simp at hr
          | cons q b =>
            have hq : near a (q :: b) ≤ q := by
              cases a with
              | nil => simp [near]
              | cons s a => simp only [near]; split <;> grind
            rcases List.mem_cons.1 hr with rfl | hr
            · grind
            · have := hb.1 r hr; grind
        rw [hfa, hfb]
        refine par_far _ _ _ fun r hr => ?_
        rw [swp_chg f _ _ _ (Nat.le_refl _) ha hb] at hr; have hm := chg_mem hr
        have : near a b ≤ r := by
          unfold mrg at hm
          rw [dif_neg kk] at hm
          rcases List.mem_cons.1 hm with rfl | hm
          · grind
          · rw [mem_mrg _ _ _ hl] at hm
            rcases hm with hm | hm
            · have := hn.1 r hm; grind
            · have := hn.2 r hm; grind
        grind
theorem inc_swp (f : Bool → Bool → Bool) {a b : List Rat} (ha : Inc a) (hb : Inc b) (x y k : Bool) : Inc (swp f a b x y k) := by
  rw [swp_chg f _ _ _ (Nat.le_refl _) ha hb]; exact inc_chg (inc_mrg _ _ _ (Nat.le_refl _) ha hb)
/-- Two pieces with the same points are the same. -/
theorem par_ext : ∀ {l m : List Rat} {x : Bool}, Inc l → Inc m → (∀ p, par l x p = par m x p) → l = m
  | [], [], _, _, _, _ => rfl
  | [], q :: m, x, _, hm, h => by
    have := h q; rw [par, par, if_pos (by grind), par_far m _ q hm.1] at this
    cases x <;> simp at this
  | q :: l, [], x, hl, _, h => by
    have := h q; rw [par, par, if_pos (by grind), par_far l _ q hl.1] at this
    cases x <;> simp at this
  | p :: l, q :: m, x, hl, hm, h => by
    have e : p = q := by
      have h1 := h p; have h2 := h q; rw [par, if_pos (by grind), par_far l _ p hl.1] at h1
      have e2 : par (q :: m) x q = !x := by rw [par, if_pos (by grind), par_far m _ q hm.1]
      rw [e2] at h2
      by_cases a : q ≤ p
      · by_cases b : p ≤ q
        · grind
        · rw [par, if_neg b] at h2
          cases x <;> simp at h2
      · rw [par, if_neg a] at h1
        cases x <;> simp at h1
    subst e
    have : l = m := par_ext (x := !x) hl.2 hm.2 fun r => by
      by_cases hr : p ≤ r
      · have := h r
        rw [par, par, if_pos hr, if_pos hr] at this; exact this
      · rw [par_far l _ r (fun s hs => by have := hl.1 s hs; grind), par_far m _ r (fun s hs => by have := hm.1 s hs; grind)]
    rw [this]
end Pc
end Go.Proofs.YtpcdggkajindbaaGreat
namespace Go.Proofs.YtpcdggkajindbaaGreat
open Go.RowKit
namespace Pf
open Ck Ch
/-- A part of a whole, with a denominator that is known. -/
theorem ofQ_part {D : Int} {x : Rat} (h : Dd D x) (d1 : 1 ≤ D) (d2 : D ≤ 1000000000000000000) (x0 : 0 ≤ x) (x1 : x ≤ 1) : (Rp.ofQ x).2.2 = 0 := by
  have key : x.num.natAbs ≤ 1000000000000000000 ∧ ((x.den : Nat) : Int).natAbs ≤ 1000000000000000000 := by
    obtain ⟨M, hM⟩ := h
    have h2 : ((x.den : Int) : Rat) ≠ 0 := by
      have h0 := Rat.intCast_lt_intCast.2 (show (0 : Int) < (x.den : Int) from Int.natCast_pos.2 x.den_pos); intro h; rw [h] at h0; exact absurd h0 (by decide)
    have e : x * ((x.den : Int) : Rat) = (x.num : Rat) := by
      have h1 := Rat.num_divInt_den x; rw [Rat.divInt_eq_div] at h1; have h3 := Rat.div_mul_cancel (a := (x.num : Rat)) h2; rw [h1] at h3; exact h3
    have hi : x.num * D = M * (x.den : Int) := by
      rw [← Rat.intCast_inj, Rat.intCast_mul, Rat.intCast_mul, ← hM, ← e]
      grind
    have hd : x.den ∣ D.natAbs := by
      refine Nat.Coprime.dvd_of_dvd_mul_left (Nat.Coprime.symm x.reduced) ?_; rw [← Int.natAbs_mul, hi, Int.natAbs_mul]; exact Nat.dvd_mul_left _ _
    have hle := Nat.le_of_dvd (by omega) hd; have hp : ((0 : Int) : Rat) ≤ ((x.den : Int) : Rat) := Rat.intCast_le_intCast.2 (Int.natCast_nonneg _); have g1 := Rat.mul_le_mul_of_nonneg_right x1 hp; have g0 := Rat.mul_le_mul_of_nonneg_right x0 hp; rw [e, Rat.one_mul, Rat.intCast_le_intCast] at g1; rw [e, Rat.zero_mul, show (0 : Rat) = ((0 : Int) : Rat) from rfl, Rat.intCast_le_intCast] at g0
    omega
  unfold Rp.ofQ Rp.low
  rw [if_pos key]
/-- Spans side by side have nothing in common. -/
theorem comB_side {s t : Rat × Rat} (hs : Pc.Good [s]) (ht : Pc.Good [t]) (h : s.2 ≤ t.1 ∨ t.2 ≤ s.1) : comB [s] [t] = false := by
  have e : Pc.swp (fun x y => x && y) (Pc.ends [s]) (Pc.ends [t]) false false false = [] := by
    refine Pc.par_ext (x := false) (Pc.inc_swp _ hs.inc ht.inc _ _ _) trivial (fun p => ?_); have hp := Pc.par_swp (fun x y => x && y) _ (Pc.ends [s]) (Pc.ends [t]) (Nat.le_refl _) hs.inc ht.inc false false p; have h1 := Pc.inn_par [s] hs.inc p; have h2 := Pc.inn_par [t] ht.inc p; rw [show (false && false) = false from rfl] at hp; rw [hp, ← h1, ← h2]
    show ((Pc.inn [s] p) && (Pc.inn [t] p)) = false
    have q1 : Pc.inn [s] p = (!decide (p < s.1) && decide (p < s.2)) := by simp [Pc.inn]
    have q2 : Pc.inn [t] p = (!decide (p < t.1) && decide (p < t.2)) := by simp [Pc.inn]
    rw [q1, q2]
    rcases h with h | h
    · by_cases g : p < s.2
      · have : p < t.1 := by grind
        simp [this]
      · simp [g]
    · by_cases g : p < t.2
      · have : p < s.1 := by grind
        simp [this]
      · simp [g]
  unfold comB Pc.setS
  rw [Pc.chk_of_good hs, Pc.chk_of_good ht, Pc.map_toQ_raw, Pc.map_toQ_raw, e]
  rfl
/-- One span for each agent, side by side from 0 to the end, each of them worth a share for whoever has it. -/
structure LnF (D : List CkD) (ps : List PcR) (nn : Nat) (len : Int) (ag : Nat → Nat) (P : Nat → Rat) : Prop where
  ck : Ak.chkS D 0 = 0
  dl : D.length = nn
  ln : (Ak.dAt D 0).1 = len
  pl : ps.length = nn
  prm : ((List.range nn).map ag).Perm (List.range nn)
  L : ∀ k, k < nn → (pat ps (ag k)).L = [(P k, P (k + 1))]
  p0 : P 0 = 0
  pn : P nn = (len : Rat)
  inc : ∀ k, k < nn → P k < P (k + 1)
  fit : ∀ k, k ≤ nn → Pc.Fit (P k)
  dd : ∀ k, k < nn → ∃ E : Int, 1 ≤ E ∧ E ≤ 18000000 ∧ Dd E (P k) ∧ Dd E (P (k + 1))
  own : ∀ k, k < nn → shq (nn : Int) (Ak.dAt D (ag k)) ≤ cu (Ak.dAt D (ag k)) (P (k + 1)) - cu (Ak.dAt D (ag k)) (P k)
section
variable {D : List CkD} {ps : List PcR} {nn : Nat} {len : Int} {ag : Nat → Nat} {P : Nat → Rat}
theorem LnF.lt (h : LnF D ps nn len ag P) {k : Nat} (hk : k < nn) : ag k < nn :=
  List.mem_range.1 (h.prm.mem_iff.1 (List.mem_map.2 ⟨k, List.mem_range.2 hk, rfl⟩))
theorem LnF.surj (h : LnF D ps nn len ag P) {j : Nat} (hj : j < nn) : ∃ k, k < nn ∧ ag k = j := by
  obtain ⟨k, hk, e⟩ := List.mem_map.1 (h.prm.mem_iff.2 (List.mem_range.2 hj)); exact ⟨k, List.mem_range.1 hk, e⟩
theorem LnF.mono (h : LnF D ps nn len ag P) {i : Nat} : ∀ {k : Nat}, i ≤ k → k ≤ nn → P i ≤ P k
  | 0, hi, _ => by obtain rfl : i = 0 := by omega
                   exact Rat.le_refl
  | k + 1, hi, hk => by
    by_cases e : i = k + 1
    · rw [e]; exact Rat.le_refl
    · exact Rat.le_trans (h.mono (k := k) (by omega) (by omega)) (Rat.le_of_lt (h.inc k (by omega)))
theorem LnF.pt (h : LnF D ps nn len ag P) {k : Nat} (hk : k ≤ nn) : Ck.pt len (P k).num ((P k).den : Int) = true := by
  have m0 := h.mono (i := 0) (Nat.zero_le _) hk; have m1 := h.mono hk (Nat.le_refl _); rw [h.p0] at m0; rw [h.pn] at m1; exact pt_mk (h.fit k hk) (by rw [Rp.q_self]; exact m0) (by rw [Rp.q_self]; exact m1)
theorem LnF.good (h : LnF D ps nn len ag P) {k : Nat} (hk : k < nn) : Pc.Good [(P k, P (k + 1))] := by
  refine ⟨?_, fun r hr => ?_, by simp⟩
  · show Pc.Inc [P k, P (k + 1)]
    exact ⟨fun r hr => (by rw [List.mem_singleton.1 hr]; exact h.inc k hk), fun r hr => (by cases hr), trivial⟩
  · have hr : r ∈ [P k, P (k + 1)] := hr
    rcases List.mem_cons.1 hr with rfl | hr
    · exact h.fit k (by omega)
    · rw [List.mem_singleton.1 hr]; exact h.fit (k + 1) (by omega)
theorem LnF.dv (h : LnF D ps nn len ag P) : DvG D ps := by
  refine ⟨h.ck, by rw [h.pl, h.dl], fun k hk => ?_, fun k hk r hr => ?_⟩
  · obtain ⟨i, hi, rfl⟩ := h.surj (j := k) (by rw [← h.pl]; exact hk)
    rw [h.L i hi]; exact h.good hi
  · obtain ⟨i, hi, rfl⟩ := h.surj (j := k) (by rw [← h.pl]; exact hk)
    rw [h.L i hi] at hr; rw [h.ln]; have hr : r ∈ [P i, P (i + 1)] := hr
    rcases List.mem_cons.1 hr with rfl | hr
    · exact h.pt (by omega)
    · rw [List.mem_singleton.1 hr]; exact h.pt (by omega)
/-- What the pieces are worth. -/
theorem LnF.val (h : LnF D ps nn len ag P) {i k : Nat} (hi : i < nn) (hk : k < nn) :
    (wv D ps i (ag k)).2.2 = 0 ∧ Rp.Ok (wv D ps i (ag k)).1 (wv D ps i (ag k)).2.1 ∧ Rp.q (wv D ps i (ag k)).1 (wv D ps i (ag k)).2.1 = cu (Ak.dAt D i) (P (k + 1)) - cu (Ak.dAt D i) (P k) := by
  obtain ⟨E, E1, E2, d1, d2⟩ := h.dd k hk; obtain ⟨hck, hl1⟩ := Ch.ck_at h.ck (j := i) (by rw [h.dl]; exact hi); rw [h.ln] at hl1; obtain ⟨v1, v2, e1, e2, e3⟩ := value_db hck (a := (P k).num) (b := ((P k).den : Int)) (x := (P (k + 1)).num) (y := ((P (k + 1)).den : Int)) (by rw [hl1]; exact h.pt (by omega)) (by rw [hl1]; exact h.pt (by omega)) (by rw [Rp.q_self, Rp.q_self]; exact Rat.le_of_lt (h.inc k hk)) E1 (show E ≤ 100000000 by omega) (by rw [Rp.q_self]; exact d1) (by rw [Rp.q_self]; exact d2); rw [Rp.q_self, Rp.q_self] at e3
  have hw : Pc.wM (Ak.dAt D i).2.1 (Ak.dAt D i).2.2 (P k, P (k + 1)) = (v1, v2, 0) := by
    rw [← e1]
    unfold Ak.vS Pc.wM
    rw [if_pos ⟨by rw [hl1]; exact h.pt (by omega), by rw [hl1]; exact h.pt (by omega), by rw [Rp.q_self, Rp.q_self]; exact Rat.not_lt.2 (Rat.le_of_lt (h.inc k hk))⟩]
  have ha : Rp.addS 0 1 v1 v2 = (v1, v2, 0) := by
    rw [Rp.addS_ok (by decide) e2, show Rp.q 0 1 = 0 from by decide +kernel, Rat.zero_add]; exact Rp.ofQ_q e2
  have e : wv D ps i (ag k) = (v1, v2, 0) := by
    unfold wv
    rw [h.L k hk]
    unfold Pc.sumF
    rw [hw]
    simp only [ha]
    rfl
  rw [e]; exact ⟨rfl, e2, e3⟩
theorem LnF.hz (h : LnF D ps nn len ag P) : ∀ a b, a < nn → b < nn → (wv D ps a b).2.2 = 0 := fun a b ha hb => by
  obtain ⟨k, hk, rfl⟩ := h.surj hb; exact (h.val ha hk).1
theorem LnF.hd (h : LnF D ps nn len ag P) {ws : List RwR} (hw : ws.map RwR.l = (List.range nn).map fun k => (List.range nn).map (wp D ps k)) {a : Nat} (ha : a < nn) : (Pf.dv D ws a).2.2 = 0 := by
  obtain ⟨k, hk, rfl⟩ := h.surj ha; obtain ⟨v0, v1, v2⟩ := h.val ha hk
  have hwl : ws.length = nn := by have := congrArg List.length hw; simpa using this
  have e : iat (rat ws (ag k)).l (ag k) = wp D ps (ag k) (ag k) := by
    have e1 : (rat ws (ag k)).l = (ws.map RwR.l)[ag k]'(by simp; omega) := by unfold rat; simp [hwl, ha]
    rw [e1]
    simp only [hw]
    unfold iat
    simp [ha]
  obtain ⟨hck, hl1⟩ := Ch.ck_at h.ck (j := ag k) (by rw [h.dl]; exact ha); have hG := Ck.chk_good (show Ck.chk (Ak.dAt D (ag k)).1 (Ak.dAt D (ag k)).2.1 (Ak.dAt D (ag k)).2.2 = 0 from hck); have l0 := hG.len0; have l1 := hG.len1; have la := hG.last; have t0 := (Ck.tot_bd hG _ (Nat.le_refl _)).1; have t1 := (Ck.tot_bd hG _ (Nat.le_refl _)).2; have gg := Ak.chkS_good h.ck; have g0 := gg.l0; have g1 := gg.l1; have hsh := sh_ok (n := (nn : Int)) hck (by rw [← h.dl]; omega) (by rw [← h.dl]; omega)
  have hT : tt (Ak.dAt D (ag k)) ≤ 12000 := by unfold tt; omega
  have hT0 : 0 < tt (Ak.dAt D (ag k)) := by
    have h1 := hsh.2.2.1; have h2 := hsh.2.2.2.2.1
    have h3 : (0 : Rat) < ((nn : Int) : Rat) := by
      have := Rat.intCast_lt_intCast.2 (show (0 : Int) < (nn : Int) by rw [← h.dl]; omega); exact this
    have h4 := Rat.mul_pos h2 h3; rw [h1] at h4; exact Rat.intCast_lt_intCast.1 h4
  obtain ⟨E, E1, E2, d1, d2⟩ := h.dd k hk; have okT : Rp.Ok (tt (Ak.dAt D (ag k))) 1 := Rp.Ok_one (by omega) (by omega)
  unfold Pf.dv
  rw [e]
  unfold wp
  rw [Rp.divS_ok v1 okT (by omega), v2]; have hq : Rp.q (tt (Ak.dAt D (ag k))) 1 = ((tt (Ak.dAt D (ag k)) : Int) : Rat) := Rp.q_one _; rw [hq]; have hTr : (0 : Rat) < ((tt (Ak.dAt D (ag k)) : Int) : Rat) := Rat.intCast_lt_intCast.2 hT0
  have hne : ((tt (Ak.dAt D (ag k)) : Int) : Rat) ≠ 0 := by grind
  have hp0 : (0 : Rat) ≤ P k := by have := h.mono (i := 0) (Nat.zero_le k) (by omega); rwa [h.p0] at this
  have hpn : P (k + 1) ≤ (len : Rat) := by have := h.mono (i := k + 1) (k := nn) (by omega) (Nat.le_refl _); rwa [h.pn] at this
  have hln : ((Ak.dAt D (ag k)).1 : Rat) = (len : Rat) := by rw [hl1, h.ln]
  have c0 := cu_mono hck hp0; have c1 := cu_mono hck hpn; have c2 := cu_mono hck (Rat.le_of_lt (h.inc k hk)); rw [cu_zero hck] at c0; rw [← hln, cu_len hck] at c1; have hD2 := Int.mul_le_mul E2 hT (by omega) (by omega); have hD1 := Int.mul_le_mul_of_nonneg_left (show (1 : Int) ≤ tt (Ak.dAt D (ag k)) by omega) (show (0 : Int) ≤ E by omega); have hdv := Rat.div_mul_cancel (a := cu (Ak.dAt D (ag k)) (P (k + 1)) - cu (Ak.dAt D (ag k)) (P k)) hne; refine ofQ_part (D := E * tt (Ak.dAt D (ag k))) (Dd.divi hne (Dd.sub (cum_dd d2 _) (cum_dd d1 _))) (by omega) (by omega) ?_ ?_
  · refine Rat.not_lt.1 (fun hlt => ?_)
    have := Rat.mul_lt_mul_of_pos_right hlt hTr; rw [hdv] at this
    grind
  · refine Rat.not_lt.1 (fun hlt => ?_)
    have := Rat.mul_lt_mul_of_pos_right hlt hTr; rw [hdv] at this
    grind
theorem flat_one {α : Type} (f : Nat → List α) (g : Nat → α) : ∀ n, (∀ k, k < n → f k = [g k]) → (List.range n).flatMap f = (List.range n).map g
  | 0, _ => rfl
  | n + 1, h => by
    rw [List.range_succ, List.flatMap_append, List.map_append, flat_one f g n (fun k hk => h k (by omega))]
    simp [h n (by omega)]
theorem LnF.cat (h : LnF D ps nn len ag P) : ((List.range nn).map fun k => (P k, P (k + 1))).Perm (cat4 ps) := by
  have e1 : ps = (List.range nn).map (pat ps) := List.ext_getElem (by simp [h.pl]) (fun k h1 h2 => by unfold pat; simp [h1])
  have e2 : cat4 ps = (List.range nn).flatMap (fun j => (pat ps j).L) := by
    have : cat4 ps = ((List.range nn).map (pat ps)).flatMap PcR.L := by rw [← e1]; rfl
    rw [this, List.flatMap_map]
  rw [e2]; refine List.Perm.trans ?_ (h.prm.flatMap_right (fun j => (pat ps j).L)); rw [List.flatMap_map, flat_one _ (fun k => (P k, P (k + 1))) nn (fun k hk => h.L k hk)]
theorem LnF.cat_len (h : LnF D ps nn len ag P) : (cat4 ps).length = nn := by rw [← h.cat.length_eq]; simp
theorem srt_eq : ∀ (T M : List (Rat × Rat)), (T.Pairwise fun a b => a.1 < b.1) → Srt M → M.Perm T → M = T
  | [], M, _, _, hp => hp.eq_nil
  | t :: T, M, hT, hM, hp => by
    cases M with
    | nil => exact absurd hp.symm.eq_nil (by simp)
    | cons m M =>
      unfold Srt at hM
      have hm : m = t := by
        rcases List.mem_cons.1 (hp.mem_iff.1 (List.mem_cons_self ..)) with e | e
        · exact e
        · have h1 := (List.pairwise_cons.1 hT).1 m e
          rcases List.mem_cons.1 (hp.mem_iff.2 (List.mem_cons_self ..)) with e2 | e2
          · exact e2.symm
          · have := (List.pairwise_cons.1 hM).1 t e2
            grind
      subst hm; rw [srt_eq T M (List.pairwise_cons.1 hT).2 (List.pairwise_cons.1 hM).2 ((List.perm_cons _).1 hp)]
theorem LnF.ls (h : LnF D ps nn len ag P) : ∀ m k, k + m = nn → lsB (len : Rat) ((List.range' k m).map fun i => (P i, P (i + 1))) (P k) = false
  | 0, k, hk => by
    obtain rfl : k = nn := by omega
    show (!decide (P k = (len : Rat))) = false
    rw [decide_eq_true h.pn]
    rfl
  | m + 1, k, hk => by
    rw [List.range'_succ, List.map_cons]
    show (if P k = P k then lsB (len : Rat) _ (P (k + 1)) else true) = false
    rw [if_pos rfl]; exact h.ls m (k + 1) (by omega)
theorem LnF.lv (h : LnF D ps nn len ag P) {M : List (Rat × Rat)} (hp : M.Perm (cat4 ps)) (hs : Srt M) : lsB (len : Rat) M 0 = false := by
  have hT : ((List.range nn).map fun k => (P k, P (k + 1))).Pairwise (fun a b => a.1 < b.1) := by
    rw [List.pairwise_map, List.pairwise_iff_getElem]; intro i j hi hj hij
    simp only [List.length_range] at hi hj
    simp only [List.getElem_range]
    have h1 := h.inc i hi; have h2 := h.mono (i := i + 1) (k := j) (by omega) (by omega)
    grind
  rw [srt_eq _ M hT hs (hp.trans h.cat.symm), ← h.p0, List.range_eq_range']; exact h.ls nn 0 (by omega)
theorem LnF.cx1 (h : LnF D ps nn len ag P) {W : List (List (Int × Int))} {R : List (Int × Int)} {a b : Nat} (ha : a < nn) (hb : b < nn) : cx D (ps.map PcR.L) W R 1 a b = false := by
  unfold cx
  rw [if_pos rfl, psd_at (by rw [h.pl]; exact ha), psd_at (by rw [h.pl]; exact hb)]
  by_cases hab : a < b
  · obtain ⟨i, hi, rfl⟩ := h.surj ha
    obtain ⟨k, hk, rfl⟩ := h.surj hb; rw [h.L i hi, h.L k hk, comB_side (h.good hi) (h.good hk) ?_]
    · simp
    · rcases Nat.lt_trichotomy i k with e | e | e
      · exact .inl (h.mono (by omega) (by omega))
      · subst e; omega
      · exact .inr (h.mono (by omega) (by omega))
  · simp [hab]
theorem LnF.cx2 (h : LnF D ps nn len ag P) {ws : List RwR} (hw : ws.map RwR.l = (List.range nn).map fun k => (List.range nn).map (wp D ps k)) {R : List (Int × Int)} {a b : Nat} (ha : a < nn) : cx D (ps.map PcR.L) (ws.map RwR.l) R 2 a b = false := by
  unfold cx
  rw [if_neg (by decide), if_pos rfl]; obtain ⟨k, hk, rfl⟩ := h.surj ha; obtain ⟨v0, v1, v2⟩ := h.val ha hk
  have e : wat (ws.map RwR.l) (ag k) (ag k) = wp D ps (ag k) (ag k) := by
    rw [hw]
    unfold wat iat
    simp [ha]
  rw [e]
  unfold wp
  rw [v2, h.dl, decide_eq_false (Rat.not_lt.2 (h.own k hk))]
  simp
theorem LnF.cx16 (h : LnF D ps nn len ag P) {W : List (List (Int × Int))} {R : List (Int × Int)} {a b : Nat} (ha : a < nn) : cx D (ps.map PcR.L) W R 16 a b = false := by
  unfold cx
  rw [if_neg (by decide), if_neg (by decide), if_neg (by decide), if_neg (by decide), psd_at (by rw [h.pl]; exact ha)]; obtain ⟨k, hk, rfl⟩ := h.surj ha; rw [h.L k hk]
  simp
theorem ceB_no {n : Nat} {f : Nat → Nat → Bool} (h : ∀ a b, a < n → b < n → f a b = false) : ceB n f false = false := by
  unfold ceB
  rw [Bool.or_false, List.any_eq_false]; intro a ha; rw [Bool.not_eq_true, List.any_eq_false]; intro b hb; rw [h a b (List.mem_range.1 ha) (List.mem_range.1 hb)]
  simp
end
/-- The claims of a division that is whole, proportional, of one span each. -/
def bt19 (j : Nat) : Bool := decide (j = 0 ∨ j = 1 ∨ j = 4)
theorem LnF.claims {cs : List CkR} {ps : List PcR} {nn : Nat} {len : Int} {ag : Nat → Nat} {P : Nat → Rat} (h : LnF (cs.map Ak.dat) ps nn len ag P) (hn : cs.length = nn) {ws : List RwR} (hw : ws.map RwR.l = (List.range cs.length).map fun k => (List.range cs.length).map (wp (cs.map Ak.dat) ps k)) {F : Nat → Bool} {R : List (Int × Int)}
    (hF : ∀ j, j < 5 → bt19 j = true → CeP cs ps ws R (LvP cs ps) j (F j)) : (hs bt19 F 5 == 19) = true := by
  have gg := Ak.chkS_good h.ck; have g0 := gg.l0; rw [List.length_map] at g0
  have hlen : (Ak.cat cs 0).len = len := by
    have := h.ln; rw [Ak.dAt_map cs (by omega)] at this; exact this
  rw [hn] at hw
  have f0 : F 0 = false := by
    obtain ⟨x, y, hc⟩ := hF 0 (by decide) (by decide); rw [if_pos rfl] at hc
    rw [hc.eq (lv := false) (fun b hb _ => by
      obtain ⟨M, hM1, hM2, rfl⟩ := hb; rw [hlen]
      exact h.lv hM1 hM2)]
    exact ceB_no (fun a b ha hb => h.cx1 (by omega) (by omega))
  have f1 : F 1 = false := by
    obtain ⟨x, y, hc⟩ := hF 1 (by decide) (by decide); rw [if_neg (by decide)] at hc; rw [hc.eq (lv := false) (fun b hb _ => hb)]; exact ceB_no (fun a b ha hb => h.cx2 hw (by omega))
  have f4 : F 4 = false := by
    obtain ⟨x, y, hc⟩ := hF 4 (by decide) (by decide); rw [if_neg (by decide)] at hc; rw [hc.eq (lv := false) (fun b hb _ => hb)]; exact ceB_no (fun a b ha hb => h.cx16 (by omega))
  have e : hs bt19 F 5 = 19 := by
    simp only [hs, f0, f1, f4, show bt19 2 = false from rfl, show bt19 3 = false from rfl, Bool.false_and]
    decide
  rw [e]
  rfl
end Pf
end Go.Proofs.YtpcdggkajindbaaGreat
namespace Go.Proofs.YtpcdggkajindbaaGreat
open Go.RowKit
namespace Ch
open Ck
/-- Who has the turn k, and where it begins. -/
def agk (D : List CkD) (n len : Int) (s0 : St) (k : Nat) : Nat := (rtn D n len (sts D n len s0 k)).ag
def Pk (D : List CkD) (n len : Int) (s0 : St) (k : Nat) : Rat := Rp.q (sts D n len s0 k).a (sts D n len s0 k).b
/-- The piece of an agent, in memory. -/
def pcR (T : List Tn) (G : Nat → Nat) (j : Nat) : Pf.PcR := match lastOf T j with
  | some t => ⟨some ⟨G j, 0, none⟩, 1, [(Rp.q t.a t.b, Rp.q t.x t.y)]⟩
  | none => ⟨none, 0, []⟩
section
variable {D : List CkD} {n len : Int} {s0 : St}
theorem prm_k (hc : Ak.chkS D 0 = 0) (hn : n = (D.length : Nat)) (hlen : (Ak.dAt D 0).1 = len) (hs0 : s0 = ⟨0, 1, List.range D.length, []⟩) : ∀ k, k ≤ D.length → (((List.range k).map (agk D n len s0)) ++ (sts D n len s0 k).l).Perm (List.range D.length)
  | 0, _ => by subst hs0; exact List.Perm.refl _
  | k + 1, hk => by
    have ih := prm_k hc hn hlen hs0 k (by omega); have hv := inv_sts hc hn hlen k (by omega); rw [← hs0] at hv; have hln := hv.ln; have hmem := rout_mem (D := D) (n := n) (s := sts D n len s0 k) (by omega)
    have e : (sts D n len s0 (k + 1)).l = (sts D n len s0 k).l.erase (agk D n len s0 k) := by
      show (sts D n len s0 k).l.eraseIdx ((sts D n len s0 k).l.idxOf (rout D n (sts D n len s0 k)).1) = _
      rw [List.erase_eq_eraseIdx_of_idxOf]
      rfl
    rw [e, List.range_succ, List.map_append, List.append_assoc]; refine List.Perm.trans ?_ ih; exact (List.perm_cons_erase (show agk D n len s0 k ∈ (sts D n len s0 k).l from hmem)).symm.append_left _
theorem prm_all (hc : Ak.chkS D 0 = 0) (hn : n = (D.length : Nat)) (hlen : (Ak.dAt D 0).1 = len) (hs0 : s0 = ⟨0, 1, List.range D.length, []⟩) : ((List.range D.length).map (agk D n len s0)).Perm (List.range D.length) := by
  have h := prm_k hc hn hlen hs0 D.length (Nat.le_refl _); have hl := h.length_eq
  simp only [List.length_append, List.length_map, List.length_range] at hl
  have : (sts D n len s0 D.length).l = [] := List.eq_nil_of_length_eq_zero (by omega)
  rwa [this, List.append_nil] at h
theorem Pk_last (hc : Ak.chkS D 0 = 0) (hn : n = (D.length : Nat)) (hlen : (Ak.dAt D 0).1 = len) (hs0 : s0 = ⟨0, 1, List.range D.length, []⟩) : Pk D n len s0 D.length = (len : Rat) := by
  obtain ⟨e1, e2⟩ := last_end hc hn hlen s0 hs0
  unfold Pk
  rw [e1, e2]; exact Rp.q_one _
/-- What a round does to the line. -/
theorem line_k (hc : Ak.chkS D 0 = 0) (hn : n = (D.length : Nat)) (hlen : (Ak.dAt D 0).1 = len) (hs0 : s0 = ⟨0, 1, List.range D.length, []⟩) {k : Nat} (hk : k < D.length) :
    Pk D n len s0 k < Pk D n len s0 (k + 1) ∧ (∃ E : Int, 1 ≤ E ∧ E ≤ 18000000 ∧ Dd E (Pk D n len s0 k) ∧ Dd E (Pk D n len s0 (k + 1))) ∧
      shq n (Ak.dAt D (agk D n len s0 k)) ≤ cu (Ak.dAt D (agk D n len s0 k)) (Pk D n len s0 (k + 1)) - cu (Ak.dAt D (agk D n len s0 k)) (Pk D n len s0 k) := by
  have g := Ak.chkS_good hc; have g0 := g.l0; have g1 := g.l1; have hv := inv_sts hc hn hlen k hk; rw [← hs0] at hv; have hln := hv.ln; have hmem := rout_mem (D := D) (n := n) (s := sts D n len s0 k) (by omega); have hag := hv.ag _ hmem; obtain ⟨hck, hl1⟩ := ck_at hc hag; obtain ⟨E, E1, E2, hkk, hd⟩ := hv.dd
  have hE : E ≤ 1492992 := by
    have : k = 0 ∨ k = 1 ∨ k = 2 ∨ k = 3 ∨ k = 4 ∨ k = 5 := by omega
    rcases this with rfl | rfl | rfl | rfl | rfl | rfl <;> omega
  have hsh := sh_ok (n := n) hck (by omega) (by omega); have he := hv.en _ hmem
  have he1 : shq n (Ak.dAt D (rout D n (sts D n len s0 k)).1) ≤ cu (Ak.dAt D (rout D n (sts D n len s0 k)).1) (len : Rat) - cu (Ak.dAt D (rout D n (sts D n len s0 k)).1) (Rp.q (sts D n len s0 k).a (sts D n len s0 k).b) := by
    have hl2 := cast_le (show (1 : Int) ≤ (((sts D n len s0 k).l.length : Nat) : Int) by omega); have e1 : ((1 : Int) : Rat) = 1 := rfl; rw [e1] at hl2; have := Rat.mul_le_mul_of_nonneg_right hl2 (Rat.le_of_lt hsh.2.2.2.2.1); rw [Rat.one_mul] at this; exact Rat.le_trans this he
  have hto : Pk D n len s0 (k + 1) = Rp.q (rto D n len (sts D n len s0 k)).1 (rto D n len (sts D n len s0 k)).2 := rfl
  by_cases e1 : (sts D n len s0 k).l.length = 1
  · have h2 : Pk D n len s0 (k + 1) = (len : Rat) := by
      rw [hto]
      unfold rto
      rw [if_pos e1]; exact Rp.q_one _
    rw [h2]; have hlt := hv.lt_end hc hn (by omega); rw [Rp.q_one] at hlt; exact ⟨hlt, ⟨E, E1, by omega, hd, Dd.int _ _⟩, he1⟩
  · obtain ⟨x, y, g, m1, m2, m3, m4, m5, m6, m7⟩ := mark_at hc hn hlen E1 (show E ≤ 8000000 by omega) hkk hd hv.pt hag he1
    have h2 : Pk D n len s0 (k + 1) = Rp.q x y := by
      rw [hto]
      unfold rto
      rw [if_neg e1, m1]
    rw [h2]; have d0 := Int.mul_le_mul_of_nonneg_left m6 (show 0 ≤ E by omega); have d1 := Int.mul_le_mul_of_nonneg_left m5 (show 0 ≤ E by omega); have hpos := hsh.2.2.2.2.1; refine ⟨?_, ⟨E * g, by omega, by omega, hd.up g, m7⟩, ?_⟩
    · rcases lt_or (Rp.q (sts D n len s0 k).a (sts D n len s0 k).b) (Rp.q x y) with q | q
      · exact q
      · have := cu_mono hck q
        grind
    · show _ ≤ cu (Ak.dAt D (rout D n (sts D n len s0 k)).1) (Rp.q x y) - cu (Ak.dAt D (rout D n (sts D n len s0 k)).1) (Rp.q (sts D n len s0 k).a (sts D n len s0 k).b)
      rw [m4]; exact Rat.le_refl
theorem fit_k (hc : Ak.chkS D 0 = 0) (hn : n = (D.length : Nat)) (hlen : (Ak.dAt D 0).1 = len) (hs0 : s0 = ⟨0, 1, List.range D.length, []⟩) {k : Nat} (hk : k ≤ D.length) : Rp.Ok (sts D n len s0 k).a (sts D n len s0 k).b := by
  by_cases e : k = D.length
  · obtain ⟨e1, e2⟩ := last_end hc hn hlen s0 hs0
    rw [e, e1, e2]; exact ok_len hc hlen
  · have hv := inv_sts hc hn hlen k (by omega)
    rw [← hs0] at hv; exact (pt_spec hv.pt).1
theorem run_lnF (hc : Ak.chkS D 0 = 0) (hn : n = (D.length : Nat)) (hlen : (Ak.dAt D 0).1 = len) (hs0 : s0 = ⟨0, 1, List.range D.length, []⟩) (G : Nat → Nat) :
    Pf.LnF D ((List.range D.length).map (pcR ((List.range D.length).map fun k => rtn D n len (sts D n len s0 k)) G)) D.length len (agk D n len s0) (Pk D n len s0) := by
  have hp := prm_all hc hn hlen hs0; refine ⟨hc, rfl, hlen, by simp, hp, fun k hk => ?_, ?_, Pk_last hc hn hlen hs0, fun k hk => (line_k hc hn hlen hs0 hk).1, fun k hk => ?_, fun k hk => (line_k hc hn hlen hs0 hk).2.1, fun k hk => ?_⟩
  · have hlt : agk D n len s0 k < D.length := List.mem_range.1 (hp.mem_iff.1 (List.mem_map.2 ⟨k, List.mem_range.2 hk, rfl⟩))
    have e : Pf.pat ((List.range D.length).map (pcR ((List.range D.length).map fun k => rtn D n len (sts D n len s0 k)) G)) (agk D n len s0 k) = pcR ((List.range D.length).map fun k => rtn D n len (sts D n len s0 k)) G (agk D n len s0 k) := by
      unfold Pf.pat
      simp [hlt]
    have hl : lastOf ((List.range D.length).map fun k => rtn D n len (sts D n len s0 k)) (agk D n len s0 k) = some (rtn D n len (sts D n len s0 k)) := last_of hc hn hlen s0 hs0 hk; rw [e]
    unfold pcR
    rw [hl]
    rfl
  · subst hs0
    exact Rp.q_one 0
  · have := fit_k hc hn hlen hs0 hk
    unfold Pc.Fit Pk
    rw [Rp.q_num this, Rp.q_denI this]; exact this
  · rw [← hn]
    exact (line_k hc hn hlen hs0 hk).2.2
/-- A query that is right. -/
def rightQ (D : List CkD) (q : Qr) : Prop := Ak.wrongS D q = false
theorem right_M {a b : Int} {j : Nat} (hj : j < D.length) (h : (mkQ D n a b j).2.2 = 0) : rightQ D (qM D n a b j) := by
  unfold rightQ Ak.wrongS
  have e : Ak.ansS D (qM D n a b j) = mkQ D n a b j := ans_M hj _ _; rw [e, decide_eq_true]
  · rfl
  · show _ = ((mkQ D n a b j).1, (mkQ D n a b j).2.1, 0)
    rw [← h]
theorem right_V {a b : Int} {i j : Nat} (hj : j < D.length) (h : (vlQ D n a b i j).2.2 = 0) : rightQ D (qV D n a b i j) := by
  unfold rightQ Ak.wrongS
  have e : Ak.ansS D (qV D n a b i j) = vlQ D n a b i j := ans_V hj _ _; rw [e, decide_eq_true]
  · rfl
  · show _ = ((vlQ D n a b i j).1, (vlQ D n a b i j).2.1, 0)
    rw [← h]
theorem scan_right {a b : Int} {l : List Nat} (f : RFit D n a b l) : ∀ (r : List Nat) (i t : Nat) (L : List Qr), i ∈ l → (∀ j ∈ r, j ∈ l) → (∀ q ∈ L, rightQ D q) → ∀ q ∈ (scan D n a b r i t L).2.2, rightQ D q
  | [], _, _, _, _, _, hL => hL
  | j :: r, i, t, L, hi, hr, hL => by
    have hj := hr j (List.mem_cons_self ..)
    have hrr : ∀ k ∈ r, k ∈ l := fun k hk => hr k (List.mem_cons_of_mem _ hk)
    have hV := right_V (n := n) (f.lt j hj) (f.val i hi j hj).1; have hM := right_M (n := n) (f.lt j hj) (f.mark j hj).1
    unfold scan
    split
    · refine scan_right f r j (t + 1) _ hj hrr (fun q hq => ?_)
      rcases List.mem_append.1 hq with hq | hq
      · rcases List.mem_append.1 hq with hq | hq
        · exact hL q hq
        · rw [List.mem_singleton.1 hq]; exact hV
      · rw [List.mem_singleton.1 hq]; exact hM
    · refine scan_right f r i t _ hi hrr (fun q hq => ?_)
      rcases List.mem_append.1 hq with hq | hq
      · exact hL q hq
      · rw [List.mem_singleton.1 hq]; exact hV
theorem log_right (hc : Ak.chkS D 0 = 0) (hn : n = (D.length : Nat)) (hlen : (Ak.dAt D 0).1 = len) (hs0 : s0 = ⟨0, 1, List.range D.length, []⟩) : ∀ k, k ≤ D.length → (∀ q ∈ (sts D n len s0 k).L, rightQ D q) ∧ (k + 1 ≤ D.length → (sts D n len s0 k).L.length + k * k ≤ 2 * D.length * k)
  | 0, _ => by subst hs0; exact ⟨fun q hq => (by cases hq), fun _ => by simp [sts]⟩
  | k + 1, hk => by
    obtain ⟨ih, il⟩ := log_right hc hn hlen hs0 k (by omega); have hv := inv_sts hc hn hlen k (by omega); have hg := sgood_sts hc hn hlen k (by omega); rw [← hs0] at hv hg; have hln := hv.ln; have hrl := rout_len (D := D) (n := n) (s := sts D n len s0 k) (by omega); refine ⟨?_, fun h2 => ?_⟩
    · show ∀ q ∈ (rout D n (sts D n len s0 k)).2.2, rightQ D q
      unfold rout
      split
      · exact ih
      · have h0 := getD_mem (l := (sts D n len s0 k).l) (k := 0) (by omega)
        have f := hg.1.fit (by omega); refine scan_right f _ _ _ _ h0 (fun j hj => List.mem_of_mem_drop hj) (fun q hq => ?_)
        rcases List.mem_append.1 hq with hq | hq
        · exact ih q hq
        · rw [List.mem_singleton.1 hq]
          exact right_M (f.lt _ h0) (f.mark _ h0).1
    · have il := il (by omega)
      show (rout D n (sts D n len s0 k)).2.2.length + (k + 1) * (k + 1) ≤ 2 * D.length * (k + 1)
      have e1 : (k + 1) * (k + 1) = k * k + 2 * k + 1 := by rw [Nat.add_mul, Nat.mul_add]; omega
      have e2 : 2 * D.length * (k + 1) = 2 * D.length * k + 2 * D.length := Nat.mul_succ _ _; rw [e1, e2]
      omega
theorem log_len (hc : Ak.chkS D 0 = 0) (hn : n = (D.length : Nat)) (hlen : (Ak.dAt D 0).1 = len) (hs0 : s0 = ⟨0, 1, List.range D.length, []⟩) : (sts D n len s0 D.length).L.length + 1 ≤ D.length * D.length := by
  have g := Ak.chkS_good hc; have g0 := g.l0; obtain ⟨m, hm⟩ : ∃ m, D.length = m + 1 := ⟨D.length - 1, by omega⟩; have il := (log_right hc hn hlen hs0 m (by omega)).2 (by omega); have hv := inv_sts hc hn hlen m (by omega); rw [← hs0] at hv; have hln := hv.ln
  have e : (sts D n len s0 D.length).L = (sts D n len s0 m).L := by
    rw [hm]
    show (rout D n (sts D n len s0 m)).2.2 = _
    unfold rout
    rw [if_pos (by omega)]
  rw [e, hm]; rw [hm] at il
  have e1 : (m + 1) * (m + 1) = m * m + 2 * m + 1 := by rw [Nat.add_mul, Nat.mul_add]; omega
  have e2 : 2 * (m + 1) * m = 2 * (m * m) + 2 * m := by rw [Nat.mul_add, Nat.add_mul, Nat.mul_assoc] <;> omega
  rw [e1]; rw [e2] at il
  omega
theorem firstW_all : ∀ (L : List Qr), (∀ q ∈ L, rightQ D q) → Ak.firstW D L = L.length
  | [], _ => rfl
  | q :: L, h => by
    show (if Ak.wrongS D q then 0 else Ak.firstW D L + 1) = L.length + 1
    rw [show Ak.wrongS D q = false from h q (List.mem_cons_self ..), firstW_all L (fun x hx => h x (List.mem_cons_of_mem _ hx))]
    simp
theorem rep_all (hc : Ak.chkS D 0 = 0) {L : List Qr} (h : ∀ q ∈ L, rightQ D q) (hl : L.length ≤ 2000) : Ak.repS D L = ((L.length : Int), 0) := by
  unfold Ak.repS
  rw [if_neg (by rw [chk_up hc hl]; simp), firstW_all L h]
end
/-- The pieces of a run, as proof takes them. -/
theorem pcs_isPs {w : World} {Pp nn : Nat} {T : List Tn} {G : Nat → Nat} (hB : BK w Pp (pcs nn T G)) (hl : ∀ j, j < nn → ∃ x, lastOf T j = some x) (hok : ∀ j x, j < nn → lastOf T j = some x → Rp.Ok x.a x.b ∧ Rp.Ok x.x x.y)
    (hG : ∀ j x, lastOf T j = some x → BK w (G j) [.int .i64 x.a, .int .i64 x.b, .int .i64 x.x, .int .i64 x.y]) : IsPs w (some ⟨Pp, 0, none⟩) ((List.range nn).map (pcR T G)) := by
  have hpa : ∀ k, k < nn → Pf.pat ((List.range nn).map (pcR T G)) k = pcR T G k := fun k hk => by
    unfold Pf.pat
    simp [hk]
  refine ⟨⟨Pp, 0, fun _ => rfl, fun k hk => ?_⟩, fun k hk => ?_⟩
  · have hk : k < nn := by simpa using hk
    obtain ⟨x, hx⟩ := hl k hk; rw [hpa k hk]
    unfold pcR
    rw [hx, Nat.zero_add]; refine hB.c k ?_
    unfold pcs pcv
    simp [hk, hx]
  · have hk : k < nn := by simpa using hk
    obtain ⟨x, hx⟩ := hl k hk; obtain ⟨o1, o2⟩ := hok k x hk hx; have hb := hG k x hx; rw [hpa k hk]
    unfold pcR
    rw [hx]
    show IsS w (some ⟨G k, 0, none⟩) [Pc.raw (Rp.q x.a x.b, Rp.q x.x x.y)]
    have er : Pc.raw (Rp.q x.a x.b, Rp.q x.x x.y) = ⟨x.a, x.b, x.x, x.y⟩ := by
      unfold Pc.raw
      rw [Rp.q_num o1, Rp.q_denI o1, Rp.q_num o2, Rp.q_denI o2]
    rw [er]; refine ⟨fun _ => ⟨G k, 0, rfl, fun i hi => ?_⟩, fun z hz => ?_, by simp [maxLen]⟩
    · obtain rfl : i = 0 := by simpa using hi
      exact ⟨hb.c 0 rfl, hb.c 1 rfl, hb.c 2 rfl, hb.c 3 rfl⟩
    · rw [List.mem_singleton.1 hz]
      obtain ⟨a1, a2, a3, a4, _⟩ := o1; obtain ⟨b1, b2, b3, b4, _⟩ := o2
      unfold Pc.Raw64 I64
      dsimp only
      omega
end Ch
end Go.Proofs.YtpcdggkajindbaaGreat
namespace Go.Proofs.YtpcdggkajindbaaGreat
open Go.RowKit
theorem bits19 : ∀ k, k < 5 → (bits BinOp.and IntKind.u8 19 (Pf.pw k) == 0) = !Pf.bt19 k := fun k hk => by
  have : k = 0 ∨ k = 1 ∨ k = 2 ∨ k = 3 ∨ k = 4 := by omega
  rcases this with rfl | rfl | rfl | rfl | rfl <;> decide
set_option linter.unusedSimpArgs false in
set_option maxHeartbeats 8000000 in
set_option maxRecDepth 100000 in
theorem fair_walk (A : Option Addr) (ca : Nat) (cs : List CkR) (w : World) (h : IsCs w A cs) :
    Calls Tryz.prog 4 #[.slice A cs.length ca] w fun e w' => e = .returned (.bool true) ∧ Below w.heap.size w w' := by
  have ft := fit8_any A ca cs w h
  cases hft : Ch.fitP8 (cs.map Ak.dat)
  case false =>
    rw [hft] at ft; have FT := Lib.hid ft; clear ft hft h
    go_enter Tryz.func4, Tryz.ntmps4
    (go_wp2_with fail); refine FT.out.mono ?_; rintro e w1 ⟨rfl, hb⟩; (go_wp2_with fail); refine (alive8_any _).mono ?_; rintro e w2 ⟨rfl, hb2⟩; (go_wp2_with fail)
    go_ret
    exact ⟨rfl, keepB hb hb2⟩
  rw [hft] at ft; have hc := Ch.fit8_of hft; obtain ⟨D, hD⟩ : ∃ z, cs.map Ak.dat = z := ⟨_, rfl⟩; rw [hD] at hc; have hgd := Ak.chkS_good hc; have hn6 := hgd.l1; have hn1 := hgd.l0; obtain ⟨nn, hnn⟩ : ∃ z, cs.length = z := ⟨_, rfl⟩
  have hDl : D.length = nn := by rw [← hD, List.length_map, hnn]
  obtain ⟨n, hn⟩ : ∃ z : Int, z = (D.length : Nat) := ⟨_, rfl⟩; obtain ⟨len, hlen⟩ : ∃ z, (Ak.dAt D 0).1 = z := ⟨_, rfl⟩; obtain ⟨s0, hs0⟩ : ∃ z : Ch.St, z = ⟨0, 1, List.range nn, []⟩ := ⟨_, rfl⟩
  have hs0' : s0 = ⟨0, 1, List.range D.length, []⟩ := by rw [hDl]; exact hs0
  have gds := fun i (hi : i < nn) => Ch.sgood_sts hc hn hlen i (by omega)
  rw [← hs0'] at gds; rw [hDl] at gds
  have run := fun v (hv : Below w.heap.size w v) => tmrun_any D n len nn A ca cs s0 hs0 v (h.keep hv) hD hc hn hDl.symm hlen gds
  have lnf := fun G => Ch.run_lnF hc hn hlen hs0' G
  have lgr := (Ch.log_right hc hn hlen hs0' D.length (Nat.le_refl _)).1; have lgl := Ch.log_len hc hn hlen hs0'
  have lst := fun i (hi : i < D.length) => Ch.last_of hc hn hlen s0 hs0' hi
  have prm := Ch.prm_all hc hn hlen hs0'
  have fk := fun k (hk : k ≤ D.length) => Ch.fit_k hc hn hlen hs0' hk
  rw [hDl] at lnf lgr lgl lst prm fk; obtain ⟨L, hL⟩ : ∃ z, (Ch.sts D n len s0 nn).L = z := ⟨_, rfl⟩; obtain ⟨T, hT⟩ : ∃ z, ((List.range nn).map fun k => Ch.rtn D n len (Ch.sts D n len s0 k)) = z := ⟨_, rfl⟩; have hsq : nn * nn ≤ 36 := Nat.mul_le_mul (show nn ≤ 6 by omega) (show nn ≤ 6 by omega); rw [hL] at run lgr lgl
  have hlo : ∀ j, j < nn → ∃ x, Ch.lastOf T j = some x ∧ Rp.Ok x.a x.b ∧ Rp.Ok x.x x.y := fun j hj => by
    obtain ⟨k, hk, e⟩ := List.mem_map.1 (prm.mem_iff.2 (List.mem_range.2 hj)); have hk := List.mem_range.1 hk; have := lst k hk; rw [hT] at this; subst e; exact ⟨_, this, fk k (by omega), fk (k + 1) (by omega)⟩
  rw [hT] at run lnf; have rep := Ch.rep_all hc lgr (by omega); subst hD
  have ips := fun (v : World) (Pp : Nat) (G : Nat → Nat) (hB : BK v Pp (Ch.pcs nn T G)) (hG : ∀ j x, Ch.lastOf T j = some x → BK v (G j) [.int .i64 x.a, .int .i64 x.b, .int .i64 x.x, .int .i64 x.y]) => Ch.pcs_isPs hB (fun j hj => (hlo j hj).imp fun _ h => h.1) (fun j x hj hx => (by
    obtain ⟨y, hy, ho⟩ := hlo j hj; rw [hx] at hy
    cases hy
    exact ho)) hG
  have rpl := fun v (hv : Below w.heap.size w v) Q cq (hq : IsQs v Q L) => askReplay_any A ca cs Q cq L v (h.keep hv) hq
  rw [rep] at rpl
  have bnd := fun v => tmbound_any (nn : Int) (by omega) (by omega) v
  have mk := fun (G : Nat → Nat) (Pp cp : Nat) v (hv : Below w.heap.size w v) (hp : IsPs v (some ⟨Pp, 0, none⟩) ((List.range nn).map (Ch.pcR T G))) =>
    pfmake_any A (some ⟨Pp, 0, none⟩) ca cp cs ((List.range nn).map (Ch.pcR T G)) v (h.keep hv) hp (lnf G).dv (by rw [(lnf G).cat_len]; omega) (by rw [(lnf G).cat_len]; omega) (by rw [hnn]; exact (lnf G).hz) (fun ws hw a ha => (lnf G).hd (by rw [hnn] at hw; exact hw) (by omega))
  have ac := fun (G : Nat → Nat) (Pp cp : Nat) (g cv : Nat) (vs : List Pf.RwR) v (hv : Below w.heap.size w v) (hp : IsPs v (some ⟨Pp, 0, none⟩) ((List.range nn).map (Ch.pcR T G))) (hvs : IsWs v (some ⟨g, 0, none⟩) vs) (hvl : vs.map Pf.RwR.l = ((List.range cs.length).map fun k => (List.range cs.length).map (Pf.wp (cs.map Ak.dat) ((List.range nn).map (Ch.pcR T G)) k))) =>
    (pfaccept_any 19 Pf.bt19 bits19 (by decide) (by decide) A (some ⟨Pp, 0, none⟩) (some ⟨g, 0, none⟩) ca cp cv cs ((List.range nn).map (Ch.pcR T G)) vs v (h.keep hv) hp hvs hvl (lnf G).dv (by rw [(lnf G).cat_len]; omega) (by rw [(lnf G).cat_len]; omega) (by rw [hnn]; exact (lnf G).hz)).mono (R' := fun e w' => e = .returned (.tuple #[.bool true, .int .i64 0]) ∧ Below v.heap.size v w') (by
      rintro e w' ⟨hb, F, ws, rfl, hrw, hF⟩; refine ⟨?_, hb⟩
      rw [(lnf G).claims hnn hrw hF])
  simp only [List.length_map, List.length_range] at mk ac
  rw [hnn] at ft run rpl mk ac ⊢
  have hml : ¬ (L.length : Int) > (nn : Int) * (nn : Int) - 1 := by
    have e : ((nn * nn : Nat) : Int) = (nn : Int) * (nn : Int) := Int.natCast_mul nn nn
    omega
  have hml2 : ¬ (nn : Int) * (nn : Int) - 1 < (L.length : Int) := hml; obtain ⟨m, hm⟩ : ∃ z, L.length = z := ⟨_, rfl⟩; obtain ⟨bd, hbd⟩ : ∃ z, (nn : Int) * (nn : Int) - 1 = z := ⟨_, rfl⟩; rw [hbd] at bnd hml hml2; rw [hm] at rpl hml hml2
  have hmm : ((m : Int) != (m : Int)) = false := by simp
  have FT := Lib.hid ft; have RUN := Lib.hid run; have IPS := Lib.hid ips; have RPL := Lib.hid rpl; have BND := Lib.hid bnd; have MK := Lib.hid mk; have AC := Lib.hid ac; have HM := Lib.hid hm; have HNN := Lib.hid hnn; have H := Lib.hid h; clear ft run ips rpl bnd mk ac hm h hbd rep hlo hT hL lnf lgr lgl lst prm fk gds hs0 hs0' hn hlen hgd hc hft hsq hn6 hn1 hDl hnn
  go_enter Tryz.func4, Tryz.ntmps4
  (go_wp2_with fail); refine FT.out.mono ?_; rintro e w1 ⟨rfl, hb⟩; have hbb := hb; clear hb FT; (go_wp2_with fail); refine (RUN.out _ hbb).mono ?_; rintro e w2 ⟨Pp, tv, Q, nq, cq, G, rfl, hb, -, hpp, hpg, hq, hnq⟩; rw [HM.out] at hnq; subst hnq; have hps := IPS.out _ Pp G hpp hpg; replace hbb := keepB hbb hb; clear hb hpp hpg RUN IPS
  go_upto_region 4 with fail
  refine at_worldQ (fun v => Below w.heap.size w v ∧ BK v w2.heap.size [.slice (some ⟨Pp, 0, none⟩) nn nn] ∧ IsQs v Q L ∧ IsPs v (some ⟨Pp, 0, none⟩) ((List.range nn).map (Ch.pcR T G))) ⟨below_al hbb _, BK.new _ _ _, hq.keep (below_al (Below.refl _ _) _), hps.keep (below_al (Below.refl _ _) _)⟩ (fun V4 hS => ?_); clear hbb hq hps; obtain ⟨hbb, B3, hq, hps⟩ := hS; obtain ⟨p3, hp3⟩ : ∃ z, w2.heap.size = z := ⟨_, rfl⟩; rw [hp3] at B3 ⊢; clear hp3; have HQ := Lib.hid hq; have HPS := Lib.hid hps; clear hq hps; (go_wp2_with fail); refine (BND.out _).mono ?_; rintro e w5 ⟨rfl, hb5⟩; (go_wp2_with fail); refine (RPL.out _ (keepB hbb hb5) Q cq (HQ.out.keep hb5)).mono ?_; rintro e w6 ⟨rfl, hb6⟩; have hb7 := keepB hb5 hb6; replace hbb := keepB hbb hb7; replace B3 := B3.keep hb7; have HPS2 := Lib.hid (HPS.out.keep hb7); clear hb5 hb6 hb7 HPS HQ BND RPL; have d0 := B3.c 0 rfl; (go_wp2_with fail); refine (MK.out G Pp nn _ hbb HPS2.out).mono ?_; rintro e w7 ⟨hb, F, g, ws, rs, rfl, hws, hrw, -⟩; obtain ⟨c, hcc⟩ : ∃ z, Pf.hs (fun _ => true) F 5 = z := ⟨_, rfl⟩; rw [hcc]; rw [HNN.out] at hrw; have HRW := Lib.hid hrw
  have hwl : ws.length = nn := by have := congrArg List.length hrw; simpa using this
  replace hbb := keepB hbb hb; replace B3 := B3.keep hb; have HPS := Lib.hid (HPS2.out.keep hb); have HWS := Lib.hid hws.isWs; clear hb d0 HPS2 hws hrw hcc MK
  go_upto_region 7 with fail
  refine at_worldQ (fun v => Below w.heap.size w v ∧ BK v p3 [.slice (some ⟨Pp, 0, none⟩) nn nn] ∧ BK v w7.heap.size [.int .u8 c, .slice (some ⟨g, 0, none⟩) nn nn] ∧ IsWs v (some ⟨g, 0, none⟩) ws ∧ IsPs v (some ⟨Pp, 0, none⟩) ((List.range nn).map (Ch.pcR T G))) ⟨below_al hbb _, B3.al _, BK.new _ _ _, HWS.out.keep (below_al (Below.refl _ _) _), HPS.out.keep (below_al (Below.refl _ _) _)⟩ (fun V7 hS => ?_); clear hbb B3 HWS HPS; obtain ⟨hbb, B3, B11, hws, hps⟩ := hS; obtain ⟨p11, hp11⟩ : ∃ z, w7.heap.size = z := ⟨_, rfl⟩; rw [hp11] at B11 ⊢; clear hp11; have d0 := B3.c 0 rfl; have c1 := B11.c 1 rfl; have ac := AC.out G Pp nn g nn ws V7 hbb hps hws HRW.out; rw [hwl] at ac; have AC2 := Lib.hid ac; clear ac AC hws hps hwl HRW; (go_wp2_with fail); refine AC2.out.mono ?_; rintro e w8 ⟨rfl, hb8⟩; replace hbb := keepB hbb hb8; clear hb8 AC2 d0 c1 B3 B11; (go_wp2_with fail); refine (alive8_any _).mono ?_; rintro e w9 ⟨rfl, hb9⟩; (go_wp2_with fail)
  go_ret
  exact ⟨rfl, keepB hbb hb9⟩
end Go.Proofs.YtpcdggkajindbaaGreat


/- The reference's Parse as a function on lists of bytes is that of package ratio: plain mathematics. -/
import Derived.Test.YtbcnngjcggddbaaDoorInv
namespace Go.Proofs.YtbcnngjcggddbaaDoor
namespace Rp
theorem len_le (k : Nat) : ∀ u, u < 10 ^ (k + 1) → (Lib.decDigits u).length ≤ k + 1 := by
  induction k with
  | zero =>
    intro u h
    rw [Lib.decDigits_one (by omega)]
    simp
  | succ k ih =>
    intro u h
    rw [Lib.decDigits]
    split
    · simp
    · rw [List.length_append, List.length_singleton]
      have := ih (u / 10) (by rw [Nat.pow_succ] at h; omega)
      omega
theorem first_ne (u : Nat) (h : 0 < u) : ∃ c r, Lib.decDigits u = c :: r ∧ c.toNat ≠ 48 := by
  induction u using Nat.strongRecOn with
  | _ u ih =>
    rw [Lib.decDigits]
    split
    · rename_i h1
      exact ⟨_, [], rfl, by rw [ofNat_digit u h1]; omega⟩
    · obtain ⟨c, r, e, hc⟩ := ih (u / 10) (by omega) (by omega)
      rw [e]
      exact ⟨c, _, rfl, hc⟩
theorem dgo_dec (u : Nat) (h : u ≤ 1000000000000000000) : ∀ r, dgo 0 (Lib.decDigits u ++ r) = dgo u r := by
  induction u using Nat.strongRecOn with
  | _ u ih =>
    intro r
    rw [Lib.decDigits]
    split
    · rename_i h1
      have e := ofNat_digit u h1
      simp only [List.cons_append, List.nil_append, dgo]
      rw [e, if_neg (by omega)]
      congr 1; omega
    · rename_i h1
      rw [List.append_assoc, ih (u / 10) (by omega) (by omega)]
      have e := ofNat_digit (u % 10) (by omega)
      simp only [List.cons_append, List.nil_append, dgo]
      rw [e, if_neg (by omega)]
      congr 1; omega
theorem digS_dec (u : Nat) (h : u ≤ 1000000000000000000) : digS (Lib.decDigits u) = (u, true) := by
  have hl := len_le 18 u (by omega)
  have hne := dec_ne u
  unfold digS
  rw [if_neg]
  · have := dgo_dec u h []
    rw [List.append_nil] at this
    rw [this]
    simp only [dgo, Prod.mk.injEq, decide_eq_true_eq]
    exact ⟨trivial, h⟩
  · rintro (g | g | ⟨g1, g2⟩)
    · exact hne (List.eq_nil_of_length_eq_zero g)
    · omega
    · rcases Nat.eq_zero_or_pos u with rfl | hu
      · rw [Lib.decDigits_one (by omega)] at g1
        simp at g1
      · obtain ⟨c, r, e, hc⟩ := first_ne u hu
        rw [e] at g2
        simp only [List.getElem?_cons_zero, Option.some.injEq] at g2
        rw [g2] at hc
        exact hc (by decide)
theorem dgo_back : ∀ (r : List UInt8) (p : List UInt8) (acc v : Nat), 0 < acc → Lib.decDigits acc = p → dgo acc r = (v, true) → Lib.decDigits v = p ++ r ∧ v ≤ 1000000000000000000
  | [], p, acc, v, _, hp, h => by
    simp only [dgo, Prod.mk.injEq, decide_eq_true_eq] at h
    obtain ⟨rfl, h⟩ := h
    rw [hp, List.append_nil]
    exact ⟨rfl, h⟩
  | c :: r, p, acc, v, h0, hp, h => by
    simp only [dgo] at h
    by_cases hb : c.toNat < 48 ∨ 57 < c.toNat ∨ 100000000000000000 < acc
    · rw [if_pos hb] at h
      simp at h
    · rw [if_neg hb] at h
      have e : Lib.decDigits (10 * acc + (c.toNat - 48)) = p ++ [c] := by
        rw [Lib.decDigits, dif_neg (by omega), show (10 * acc + (c.toNat - 48)) / 10 = acc by omega, hp, show (10 * acc + (c.toNat - 48)) % 10 = c.toNat - 48 by omega]
        congr 2
        apply UInt8.toNat_inj.1
        rw [ofNat_digit _ (by omega)]
        omega
      have := dgo_back r (p ++ [c]) _ v (by omega) e h
      rw [List.append_assoc] at this
      exact this
theorem digS_back (a : List UInt8) (v : Nat) (h : digS a = (v, true)) : a = Lib.decDigits v ∧ v ≤ 1000000000000000000 := by
  unfold digS at h
  split at h
  · simp at h
  · rename_i hn
    rcases a with _ | ⟨c, r⟩
    · exact absurd (Or.inl rfl) hn
    · simp only [dgo] at h
      by_cases hb : c.toNat < 48 ∨ 57 < c.toNat ∨ 100000000000000000 < 0
      · rw [if_pos hb] at h
        simp at h
      · rw [if_neg hb] at h
        have e : Lib.decDigits (10 * 0 + (c.toNat - 48)) = [c] := by
          rw [Lib.decDigits_one (by omega)]
          congr 1
          apply UInt8.toNat_inj.1
          rw [ofNat_digit _ (by omega)]
          omega
        by_cases h0 : c.toNat = 48
        · have hr : r = [] := by
            rcases r with _ | ⟨d, r⟩
            · rfl
            · refine absurd (Or.inr (Or.inr ⟨by simp, ?_⟩)) hn
              simp only [List.getElem?_cons_zero, Option.some.injEq]
              exact UInt8.toNat_inj.1 h0
          subst hr
          simp only [dgo, Prod.mk.injEq, decide_eq_true_eq] at h
          obtain ⟨rfl, h⟩ := h
          exact ⟨e.symm, h⟩
        · have := dgo_back r [c] _ v (by omega) e h
          exact ⟨this.1.symm, this.2⟩

/-- The reference's Parse behind the sign: what is ahead of the first '/' and what follows it ('none': there is none). -/
def numOf (m : List UInt8) : List UInt8 := m.takeWhile (· != 47)
def restOf (m : List UInt8) : List UInt8 := m.dropWhile (· != 47)
def denOf (m : List UInt8) : Nat × Bool := match restOf m with
  | [] => (1, true)
  | _ :: b => ((digS b).1, (digS b).2 && decide (1 < (digS b).1))
def negS (l : List UInt8) : Bool := l.head? == some 45
def bodyS (l : List UInt8) : List UInt8 := if negS l then l.tail else l
def signed (f : Bool) (u : Nat) : Int := if f then -(u : Int) else u
def failS (l : List UInt8) : Bool := !(digS (numOf (bodyS l))).2 || !(denOf (bodyS l)).2 || (negS l && (digS (numOf (bodyS l))).1 == 0)
def rParseS (l : List UInt8) : Int × Int × Int :=
  if failS l then (0, 0, 12)
  else if Ok (signed (negS l) (digS (numOf (bodyS l))).1) (denOf (bodyS l)).1 then (signed (negS l) (digS (numOf (bodyS l))).1, (denOf (bodyS l)).1, 0) else (0, 0, 12)

theorem take_all (a b : List UInt8) (h : ∀ c ∈ a, c ≠ 47) : (a ++ 47 :: b).takeWhile (· != 47) = a ∧ (a ++ 47 :: b).dropWhile (· != 47) = 47 :: b := by
  induction a with
  | nil => simp
  | cons c a ih =>
    have hc : (c != 47) = true := by rw [bne_iff_ne]; exact h c (by simp)
    have := ih (fun x hx => h x (by simp [hx]))
    rw [List.cons_append, List.takeWhile_cons, List.dropWhile_cons, if_pos hc, if_pos hc, this.1, this.2]
    exact ⟨rfl, rfl⟩
theorem take_none (a : List UInt8) (h : ∀ c ∈ a, c ≠ 47) : a.takeWhile (· != 47) = a ∧ a.dropWhile (· != 47) = [] := by
  induction a with
  | nil => simp
  | cons c a ih =>
    have hc : (c != 47) = true := by rw [bne_iff_ne]; exact h c (by simp)
    have := ih (fun x hx => h x (by simp [hx]))
    rw [List.takeWhile_cons, List.dropWhile_cons, if_pos hc, if_pos hc, this.1, this.2]
    exact ⟨rfl, rfl⟩
theorem dec_noslash (u : Nat) : ∀ c ∈ Lib.decDigits u, c ≠ 47 := fun c hc e => by
  have := dec_digits u c hc
  rw [e] at this
  exact absurd this.1 (by decide)
theorem dec_nosign (u : Nat) (s : List UInt8) : ((Lib.decDigits u ++ s).head? == some 45) = false := by
  rcases hd : Lib.decDigits u with _ | ⟨c, r⟩
  · exact absurd hd (dec_ne _)
  · have hc := dec_digits u c (by rw [hd]; simp)
    rw [List.cons_append, List.head?_cons, beq_eq_false_iff_ne]
    intro e
    obtain rfl : c = 45 := by simpa using e
    exact absurd hc.1 (by decide)
/-- What the denominator's part of a text says. -/
def tail_ (d : Int) : List UInt8 := if d = 1 then [] else 47 :: Lib.itoa d
theorem parts (u : Nat) (d : Int) (h : 1 ≤ d) (h' : d ≤ 1000000000000000000) : numOf (Lib.decDigits u ++ tail_ d) = Lib.decDigits u ∧ denOf (Lib.decDigits u ++ tail_ d) = (d.toNat, true) := by
  unfold numOf denOf restOf tail_
  by_cases hd : d = 1
  · rw [if_pos hd, List.append_nil]
    have := take_none _ (dec_noslash u)
    rw [this.1, this.2, hd]
    exact ⟨rfl, rfl⟩
  · rw [if_neg hd]
    have := take_all (Lib.decDigits u) (Lib.itoa d) (dec_noslash u)
    rw [this.1, this.2]
    refine ⟨rfl, ?_⟩
    have e : Lib.itoa d = Lib.decDigits d.toNat := by unfold Lib.itoa; rw [if_neg (by omega)]
    show ((digS (Lib.itoa d)).1, (digS (Lib.itoa d)).2 && decide (1 < (digS (Lib.itoa d)).1)) = _
    rw [e, digS_dec _ (by omega)]
    simp only [Bool.true_and, Prod.mk.injEq, decide_eq_true_eq, true_and]
    omega
theorem signs (n : Int) (s : List UInt8) : negS (Lib.itoa n ++ s) = decide (n < 0) ∧ bodyS (Lib.itoa n ++ s) = Lib.decDigits n.natAbs ++ s := by
  unfold Lib.itoa
  by_cases hn : n < 0
  · rw [if_pos hn, decide_eq_true hn]
    have e : negS (45 :: Lib.decDigits n.natAbs ++ s) = true := rfl
    unfold bodyS
    rw [e]
    exact ⟨rfl, rfl⟩
  · rw [if_neg hn, decide_eq_false hn]
    have e : negS (Lib.decDigits n.toNat ++ s) = false := dec_nosign _ _
    unfold bodyS
    rw [e]
    refine ⟨rfl, ?_⟩
    rw [if_neg (by simp), show n.toNat = n.natAbs by omega]
theorem rParse_txt {n d : Int} (h : Ok n d) : rParseS (txt n d) = (n, d, 0) := by
  have h' := h
  obtain ⟨h1, h2, h3, h4, _⟩ := h'
  have ht : txt n d = Lib.itoa n ++ tail_ d := rfl
  have hs := signs n (tail_ d)
  have hp := parts n.natAbs d h1 h2
  have hd := digS_dec n.natAbs (by omega)
  have hf : failS (txt n d) = false := by
    unfold failS
    rw [ht, hs.1, hs.2, hp.1, hp.2, hd]
    by_cases hn : n < 0
    · rw [decide_eq_true hn]
      have : n.natAbs ≠ 0 := by omega
      simp [this]
    · rw [decide_eq_false hn]
      simp
  unfold rParseS
  rw [hf, ht, hs.1, hs.2, hp.1, hp.2, hd]
  have e1 : signed (decide (n < 0)) n.natAbs = n := by
    unfold signed
    by_cases hn : n < 0
    · rw [if_pos (by simpa using hn)]; omega
    · rw [if_neg (by simpa using hn)]; omega
  have e2 : ((d.toNat : Nat) : Int) = d := by omega
  dsimp only
  rw [e1, e2]
  rw [if_neg (by simp), if_pos h]
theorem rest_join (m : List UInt8) : numOf m ++ restOf m = m := List.takeWhile_append_dropWhile
theorem rest_head (m : List UInt8) : ∀ c b, restOf m = c :: b → c = 47 := by
  induction m with
  | nil => intro c b h; cases h
  | cons x m ih =>
    intro c b h
    unfold restOf at h ih
    by_cases hx : (x != 47) = true
    · rw [List.dropWhile_cons, if_pos hx] at h
      exact ih c b h
    · rw [List.dropWhile_cons, if_neg hx] at h
      have : x = 47 := by simpa using hx
      injection h with h1 h2
      rw [← h1, this]
theorem den_back (m : List UInt8) (d : Nat) (h : denOf m = (d, true)) : restOf m = tail_ d ∧ 1 ≤ d := by
  unfold denOf at h
  rcases hr : restOf m with _ | ⟨c, b⟩
  · rw [hr] at h
    simp only [Prod.mk.injEq] at h
    rw [← h.1]
    exact ⟨rfl, by omega⟩
  · have hc := rest_head m c b hr
    rw [hr] at h
    simp only [Prod.mk.injEq, Bool.and_eq_true, decide_eq_true_eq] at h
    obtain ⟨h1, h2, h3⟩ := h
    have := digS_back b (digS b).1 (by rw [← h2])
    unfold tail_
    rw [if_neg (by omega), hc]
    have e : Lib.itoa (d : Int) = Lib.decDigits d := by unfold Lib.itoa; rw [if_neg (by omega)]; simp
    rw [e, ← h1, ← this.1]
    exact ⟨rfl, by omega⟩
theorem body_join (l : List UInt8) : l = (if negS l then [45] else []) ++ bodyS l := by
  unfold bodyS
  rcases hn : negS l with _ | _
  · simp
  · rcases l with _ | ⟨c, r⟩
    · cases hn
    · have : c = 45 := by simpa [negS] using hn
      rw [this]
      simp
theorem rParse_back (l : List UInt8) (n d : Int) (h : rParseS l = (n, d, 0)) : Ok n d ∧ txt n d = l := by
  unfold rParseS at h
  split at h
  · simp at h
  · rename_i hf
    split at h
    · rename_i ho
      simp only [Prod.mk.injEq] at h
      obtain ⟨h1, h2, _⟩ := h
      rw [h1, h2] at ho
      refine ⟨ho, ?_⟩
      unfold failS at hf
      simp only [Bool.not_eq_true, Bool.or_eq_false_iff, Bool.not_eq_false'] at hf
      obtain ⟨⟨f1, f2⟩, f3⟩ := hf
      have a := digS_back _ (digS (numOf (bodyS l))).1 (by rw [← f1])
      have b := den_back _ (denOf (bodyS l)).1 (by rw [← f2])
      have hj := rest_join (bodyS l)
      have hb := body_join l
      rw [← hj, b.1, h2] at hb
      have ht : txt n d = Lib.itoa n ++ tail_ d := rfl
      rw [ht]
      conv => rhs; rw [hb]
      rw [← List.append_assoc]
      congr 1
      rw [a.1]
      unfold signed at h1
      unfold Lib.itoa
      rcases hn : negS l with _ | _
      · rw [hn] at h1
        simp only [Bool.false_eq_true, if_false] at h1 ⊢
        rw [if_neg (by omega), ← h1]
        simp
      · rw [hn] at h1 f3
        simp only [if_true] at h1 ⊢
        have : (digS (numOf (bodyS l))).1 ≠ 0 := by
          intro e
          rw [e] at f3
          simp at f3
        rw [if_pos (by omega), ← h1]
        simp
    · simp at h
/-- The same, out of the sign and what stands behind it. -/
def fromS (f : Bool) (m : List UInt8) : Int × Int × Int :=
  if !(digS (numOf m)).2 || !(denOf m).2 || (f && (digS (numOf m)).1 == 0) then (0, 0, 12)
  else if Ok (signed f (digS (numOf m)).1) (denOf m).1 then (signed f (digS (numOf m)).1, (denOf m).1, 0) else (0, 0, 12)
theorem rParseS_from (l : List UInt8) : rParseS l = fromS (negS l) (bodyS l) := rfl
theorem sel_err {f B I : Bool} {N : Nat} {D R1 R2 R3 : Int} (h : (if !B || !I || (f && N == 0) then (0, 0, 12) else if Ok (signed f N) D then (signed f N, D, 0) else (0, 0, 12)) = (R1, R2, R3)) (hb : (!B || !I || (f && N == 0)) = true) :
    0 = R1 ∧ 0 = R2 ∧ 12 = R3 := by
  rw [if_pos hb] at h
  simpa only [Prod.mk.injEq] using h
theorem sel_ok {f B I : Bool} {N : Nat} {D n R1 R2 R3 : Int} (h : (if !B || !I || (f && N == 0) then (0, 0, 12) else if Ok (signed f N) D then (signed f N, D, 0) else (0, 0, 12)) = (R1, R2, R3)) (hb : (!B || !I || (f && N == 0)) = false) (hn : signed f N = n)
    (ok : Ok n D) : n = R1 ∧ D = R2 ∧ 0 = R3 := by
  rw [if_neg (by rw [hb]; simp), hn, if_pos ok] at h
  simpa only [Prod.mk.injEq] using h
theorem sel_bad {f B I : Bool} {N : Nat} {D n R1 R2 R3 : Int} (h : (if !B || !I || (f && N == 0) then (0, 0, 12) else if Ok (signed f N) D then (signed f N, D, 0) else (0, 0, 12)) = (R1, R2, R3)) (hb : (!B || !I || (f && N == 0)) = false) (hn : signed f N = n)
    (ok : ¬ Ok n D) : 0 = R1 ∧ 0 = R2 ∧ 12 = R3 := by
  rw [if_neg (by rw [hb]; simp), hn, if_neg ok] at h
  simpa only [Prod.mk.injEq] using h
theorem num_len (m : List UInt8) : (numOf m).length ≤ m.length := by
  have := congrArg List.length (rest_join m)
  rw [List.length_append] at this
  omega
theorem num_all : ∀ (m : List UInt8), ∀ x ∈ numOf m, (x != 47) = true
  | [], x, hx => by cases hx
  | c :: m, x, hx => by
    unfold numOf at hx
    rw [List.takeWhile_cons] at hx
    split at hx
    · rename_i h
      rcases List.mem_cons.1 hx with rfl | hx
      · exact h
      · exact num_all m x hx
    · cases hx
theorem num_at (m : List UInt8) (k : Nat) (h : k < (numOf m).length) (h' : k < m.length) : m[k].toNat ≠ 47 := by
  have hm : ∀ x ∈ numOf m, (x != 47) = true := num_all m
  have e : m[k] = (numOf m)[k] := by
    have := List.getElem_append_left (as := numOf m) (bs := restOf m) h (h' := by rw [rest_join]; exact h')
    rw [← this]
    congr 1
    exact (rest_join m).symm
  have := hm (numOf m)[k] (List.getElem_mem h)
  rw [e]
  intro g
  rw [bne_iff_ne] at this
  exact this (UInt8.toNat_inj.1 g)
theorem rest_at (m : List UInt8) (c : UInt8) (b : List UInt8) (h : restOf m = c :: b) : ∃ h' : (numOf m).length < m.length, m[(numOf m).length] = 47 := by
  have hj := rest_join m
  have hc := rest_head m c b h
  rw [h, hc] at hj
  have hl : (numOf m).length < m.length := by
    have := congrArg List.length hj
    rw [List.length_append, List.length_cons] at this
    omega
  refine ⟨hl, ?_⟩
  have : m[(numOf m).length]? = some 47 := by
    have g : (numOf m ++ 47 :: b)[(numOf m).length]? = some 47 := by
      rw [List.getElem?_append_right (Nat.le_refl _)]
      simp
    rw [hj] at g
    exact g
  rw [List.getElem?_eq_getElem hl] at this
  exact Option.some.inj this
theorem num_take (m : List UInt8) : m.take (numOf m).length = numOf m := by
  have g : (numOf m ++ restOf m).take (numOf m).length = numOf m := by simp
  rw [rest_join] at g
  exact g
theorem rest_drop (m : List UInt8) : m.drop (numOf m).length = restOf m := by
  have g : (numOf m ++ restOf m).drop (numOf m).length = restOf m := by simp
  rw [rest_join] at g
  exact g
theorem digS_le (a : List UInt8) (v : Nat) (h : digS a = (v, true)) : v ≤ 1000000000000000000 := (digS_back a v h).2
theorem rParseS_eq (l : List UInt8) : rParseS l = parseS l := by
  by_cases h : ∃ n d, Ok n d ∧ txt n d = l
  · obtain ⟨n, d, h1, rfl⟩ := h
    rw [rParse_txt h1, parse_txt h1]
  · have a : parseS l = (0, 0, 12) := by
      unfold parseS
      split
      · rename_i n d _ _
        rw [if_neg (fun g => h ⟨n, d, g⟩)]
      · rfl
    rw [a]
    rcases hr : rParseS l with ⟨n, d, e⟩
    by_cases h0 : e = 0
    · rw [h0] at hr
      exact absurd ⟨n, d, rParse_back l n d hr⟩ h
    · unfold rParseS at hr
      split at hr
      · exact hr.symm
      · split at hr
        · simp only [Prod.mk.injEq] at hr
          exact absurd hr.2.2.symm h0
        · exact hr.symm
end Rp
end Go.Proofs.YtbcnngjcggddbaaDoor

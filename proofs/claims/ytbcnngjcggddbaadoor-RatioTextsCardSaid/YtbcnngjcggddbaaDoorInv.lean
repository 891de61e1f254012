/- Parse is the inverse of Text: plain mathematics on lists of bytes. -/
import Derived.Test.YtbcnngjcggddbaaDoorLaws
namespace Go.Proofs.YtbcnngjcggddbaaDoor
namespace Rp
theorem index_slash (b : List UInt8) : ∀ a : List UInt8, (∀ c ∈ a, c ≠ 47) → Lib.index (a ++ 47 :: b) [47] = a.length
  | [], _ => by unfold Lib.index; simp
  | c :: a, h => by
    have hc := h c (by simp)
    have ih := index_slash b a (fun x hx => h x (by simp [hx]))
    show Lib.index (c :: (a ++ 47 :: b)) [47] = _
    unfold Lib.index
    rw [ih, if_neg (by simp [List.isPrefixOf, Ne.symm hc]), if_neg (by simp)]
    simp
theorem index_none : ∀ a : List UInt8, (∀ c ∈ a, c ≠ 47) → Lib.index a [47] = -1
  | [], _ => by unfold Lib.index; simp
  | c :: a, h => by
    have hc := h c (by simp)
    have ih := index_none a (fun x hx => h x (by simp [hx]))
    unfold Lib.index
    rw [ih, if_neg (by simp [List.isPrefixOf, Ne.symm hc])]
    simp
theorem cut_slash (a b : List UInt8) (h : ∀ c ∈ a, c ≠ 47) : Lib.cut (a ++ 47 :: b) [47] = (a, b, true) := by
  unfold Lib.cut
  rw [index_slash b a h, if_pos (by omega)]
  simp
theorem cut_none (a : List UInt8) (h : ∀ c ∈ a, c ≠ 47) : Lib.cut a [47] = (a, [], false) := by
  unfold Lib.cut
  rw [index_none a h, if_neg (by decide)]

theorem ofNat_digit (u : Nat) (h : u < 10) : (UInt8.ofNat (48 + u)).toNat = 48 + u := by
  rw [UInt8.toNat_ofNat']; omega
theorem dec_digits (u : Nat) : ∀ c ∈ Lib.decDigits u, 48 ≤ c.toNat ∧ c.toNat ≤ 57 := by
  induction u using Nat.strongRecOn with
  | _ u ih =>
    intro c hc
    rw [Lib.decDigits] at hc
    split at hc
    · rename_i h
      simp only [List.mem_singleton] at hc
      subst hc
      rw [ofNat_digit u h]; omega
    · rename_i h
      rw [List.mem_append] at hc
      rcases hc with hc | hc
      · exact ih (u / 10) (by omega) c hc
      · simp only [List.mem_singleton] at hc
        subst hc
        rw [ofNat_digit (u % 10) (by omega)]; omega
theorem dec_ne (u : Nat) : Lib.decDigits u ≠ [] := by
  rw [Lib.decDigits]
  split <;> simp
theorem itoa_noslash (n : Int) : ∀ c ∈ Lib.itoa n, c ≠ 47 := by
  intro c hc
  unfold Lib.itoa at hc
  have key : ∀ u, c ∈ Lib.decDigits u → c ≠ 47 := fun u h e => by
    have := dec_digits u c h
    rw [e] at this
    exact absurd this.1 (by decide)
  split at hc
  · rcases List.mem_cons.1 hc with rfl | hc
    · decide
    · exact key _ hc
  · exact key _ hc

theorem parseUintM_append (M : Nat) (r : List UInt8) : ∀ (l : List UInt8) (acc a : Nat), Lib.parseUintM M acc l = .ok a → Lib.parseUintM M acc (l ++ r) = Lib.parseUintM M a r
  | [], acc, a, h => by
    simp only [Lib.parseUintM, Lib.NumEnd.ok.injEq] at h
    subst h
    rfl
  | c :: l, acc, a, h => by
    simp only [List.cons_append, Lib.parseUintM] at h ⊢
    split at h
    · rename_i h1
      rw [if_pos h1]
      split at h
      · cases h
      · rename_i h2
        rw [if_neg h2]
        split at h
        · cases h
        · rename_i h3
          rw [if_neg h3]
          exact parseUintM_append M r l _ _ h
    · cases h
theorem parse_dec (u : Nat) (h : u ≤ 1000000000000000000) : Lib.parseUintM 18446744073709551615 0 (Lib.decDigits u) = .ok u := by
  induction u using Nat.strongRecOn with
  | _ u ih =>
    rw [Lib.decDigits]
    split
    · rename_i h1
      have e := ofNat_digit u h1
      simp only [Lib.parseUintM]
      rw [e, if_pos (by omega), if_neg (by omega), if_neg (by omega)]
      congr 1; omega
    · rename_i h1
      rw [parseUintM_append _ _ _ _ _ (ih (u / 10) (by omega) (by omega))]
      have e := ofNat_digit (u % 10) (by omega)
      simp only [Lib.parseUintM]
      rw [e, if_pos (by omega), if_neg (by omega), if_neg (by omega)]
      congr 1; omega
theorem parseB_dec (u : Nat) (h : u ≤ 1000000000000000000) : Lib.parseUintB 64 (Lib.decDigits u) = .ok u := by
  unfold Lib.parseUintB
  rw [if_neg (dec_ne u)]
  exact parse_dec u h
theorem parse_itoa (n : Int) (h0 : -1000000000000000000 ≤ n) (h1 : n ≤ 1000000000000000000) : okOf (Lib.parseIntB 64 (Lib.itoa n)) = some n := by
  unfold Lib.itoa
  by_cases hn : n < 0
  · rw [if_pos hn, Lib.parseIntB_minus, parseB_dec _ (by omega)]
    show okOf (if _ then _ else _) = _
    rw [if_neg (by omega)]
    show some (-(n.natAbs : Int)) = some n
    congr 1; omega
  · rw [if_neg hn]
    rcases hd : Lib.decDigits n.toNat with _ | ⟨c, r⟩
    · exact absurd hd (dec_ne _)
    · have hc := dec_digits n.toNat c (by rw [hd]; simp)
      rw [Lib.parseIntB_plain 64 c r (by omega) (by omega), ← hd, parseB_dec _ (by omega)]
      show okOf (if _ then _ else _) = _
      rw [if_neg (by omega)]
      show some ((n.toNat : Nat) : Int) = some n
      congr 1; omega
/-- Parse of Text is the ratio. -/
theorem parse_txt {n d : Int} (h : Ok n d) : parseS (txt n d) = (n, d, 0) := by
  have h' := h
  obtain ⟨h1, h2, h3, h4, _⟩ := h'
  have ht : topOf (txt n d) = Lib.itoa n ∧ okOf (Lib.parseIntB 64 (botOf (txt n d))) = some d := by
    unfold topOf botOf txt
    by_cases hd : d = 1
    · rw [if_pos hd, List.append_nil, cut_none _ (itoa_noslash n)]
      refine ⟨rfl, ?_⟩
      rw [if_neg (by simp), hd]
      decide +kernel
    · rw [if_neg hd, cut_slash _ _ (itoa_noslash n)]
      refine ⟨rfl, ?_⟩
      rw [if_pos rfl]
      exact parse_itoa d (by omega) (by omega)
  unfold parseS
  rw [ht.1, ht.2, parse_itoa n h3 h4]
  exact if_pos ⟨h, rfl⟩
end Rp
end Go.Proofs.YtbcnngjcggddbaaDoor

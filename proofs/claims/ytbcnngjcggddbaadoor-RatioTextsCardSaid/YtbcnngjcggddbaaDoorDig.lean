/- Contract of the reference's digits. -/
import Derived.Test.YtbcnngjcggddbaaDoorDec
import Derived.Laws.Strings
namespace Go.Proofs.YtbcnngjcggddbaaDoor
open Go.RowKit
theorem ba_get (l : List UInt8) (k : Nat) (_ : k < l.length) (h' : k < (⟨l.toArray⟩ : ByteArray).size) : (⟨l.toArray⟩ : ByteArray)[k]'h' = l[k] := rfl

theorem decide_congr (a b : Nat) : decide ((a : Int) ≤ (b : Int)) = decide (a ≤ b) := by
  rw [decide_eq_decide]
  omega
theorem ret_pair {x : Int} {a b : Bool} (h : a = b) : Ending.returned (.tuple #[.int .i64 x, .bool a]) = .returned (.tuple #[.int .i64 x, .bool b]) := by rw [h]

set_option maxHeartbeats 4000000 in
set_option maxRecDepth 100000 in
theorem digits_loop (l : List UInt8) (w : World) (h0 : l.length ≠ 0) (h1 : l.length ≤ 19) (h2 : l.length ≤ 1 ∨ ∃ c : UInt8, l[0]? = some c ∧ c.toNat ≠ 48) (N : Nat) (B : Bool) (hr : Rp.dgo 0 l = (N, B)) :
    Calls Tryd.prog 16 #[.string ⟨l.toArray⟩] w fun e w' => e = .returned (.tuple #[.int .i64 N, .bool B]) ∧ w' = w := by
  have HR := Lib.hid hr
  have g1 : ((l.length : Int) == 0) = false := by rw [beq_eq_false_iff_ne]; omega
  have g2 : decide (19 < (l.length : Int)) = false := decide_eq_false (by omega)
  have hsz : (⟨l.toArray⟩ : ByteArray).size = l.length := rfl
  clear hr
  go_enter Tryd.func16, Tryd.ntmps16
  by_cases hl : l.length ≤ 1
  · have g3 : decide (1 < (l.length : Int)) = false := decide_eq_false (by omega)
    go_wp2_with fail
    go_loopw [4, 5] (fun x y v => ∃ (k acc : Nat), k ≤ l.length ∧ x = .int .i64 acc ∧ y = .int .i64 k ∧ acc ≤ 1000000000000000009 ∧ Hid (Rp.dgo acc (l.drop k) = (N, B)) ∧ v = w) (fun _ y _ => l.length - (intOf y).toNat)
    case atStart => exact ⟨0, 0, Nat.zero_le _, rfl, rfl, by omega, HR, rfl⟩
    case round =>
      obtain ⟨k, acc, hk, rfl, rfl, hacc, HS, rfl⟩ := hrel
      by_cases hlt : k < l.length
      · have hs := HS.out
        rw [List.drop_eq_getElem_cons hlt] at hs
        simp only [Rp.dgo] at hs
        have hg : ∀ h' : k < (⟨l.toArray⟩ : ByteArray).size, (⟨l.toArray⟩ : ByteArray)[k]'h' = l[k] := fun h' => ba_get l k hlt h'
        by_cases hbad : l[k].toNat < 48 ∨ 57 < l[k].toNat ∨ 100000000000000000 < acc
        · rw [if_pos hbad] at hs
          simp only [Prod.mk.injEq] at hs
          obtain ⟨rfl, rfl⟩ := hs
          clear HS HR
          by_cases a1 : l[k].toNat < 48
          · have b1 : decide ((l[k].toNat : Int) < 48) = true := decide_eq_true (by omega)
            go_wp2_with fail
            go_ret2
            exact ⟨rfl, rfl⟩
          · have b1 : decide ((l[k].toNat : Int) < 48) = false := decide_eq_false (by omega)
            by_cases a2 : 57 < l[k].toNat
            · have b2 : decide (57 < (l[k].toNat : Int)) = true := decide_eq_true (by omega)
              go_wp2_with fail
              go_ret2
              exact ⟨rfl, rfl⟩
            · have b2 : decide (57 < (l[k].toNat : Int)) = false := decide_eq_false (by omega)
              have b3 : decide (100000000000000000 < (acc : Int)) = true := decide_eq_true (by omega)
              go_wp2_with fail
              go_ret2
              exact ⟨rfl, rfl⟩
        · rw [if_neg hbad] at hs
          have HS2 := Lib.hid hs
          have b1 : decide ((l[k].toNat : Int) < 48) = false := decide_eq_false (by omega)
          have b2 : decide (57 < (l[k].toNat : Int)) = false := decide_eq_false (by omega)
          have b3 : decide (100000000000000000 < (acc : Int)) = false := decide_eq_false (by omega)
          have c1 : (48 : Int) ≤ (l[k].toNat : Int) := by omega
          have c2 : (l[k].toNat : Int) ≤ 57 := by omega
          clear hs HS HR
          go_wp2_with fail
          refine ⟨⟨k + 1, 10 * acc + (l[k].toNat - 48), hlt, ?_, by go_num, by omega, HS2, trivial⟩, ?_⟩
          · have e : ((10 * acc + (l[k].toNat - 48) : Nat) : Int) = 10 * (acc : Int) + ((l[k].toNat : Int) - 48) := by omega
            rw [e]
            try rfl
          · simp only [intOf]
            omega
      · obtain rfl : k = l.length := by omega
        have hs := HS.out
        rw [List.drop_length] at hs
        simp only [Rp.dgo, Prod.mk.injEq] at hs
        obtain ⟨rfl, rfl⟩ := hs
        clear HS HR
        go_wp2_with fail
        go_ret2
        exact ⟨ret_pair (decide_congr acc 1000000000000000000), rfl⟩
  · obtain ⟨c0, hc0, hne⟩ : ∃ c : UInt8, l[0]? = some c ∧ c.toNat ≠ 48 := h2.resolve_left hl
    have g3 : decide (1 < (l.length : Int)) = true := decide_eq_true (by omega)
    have hl0 : 0 < l.length := by omega
    have hc1 : l[0] = c0 := (List.getElem?_eq_some_iff.1 hc0).2
    have g4 : ((((⟨l.toArray⟩ : ByteArray)[0]'(by rw [hsz]; exact hl0)).toNat : Int) == 48) = false := by
      rw [ba_get l 0 hl0, hc1, beq_eq_false_iff_ne]
      omega
    clear hc1 hc0 h2
    go_wp2_with fail
    go_loopw [4, 5] (fun x y v => ∃ (k acc : Nat), k ≤ l.length ∧ x = .int .i64 acc ∧ y = .int .i64 k ∧ acc ≤ 1000000000000000009 ∧ Hid (Rp.dgo acc (l.drop k) = (N, B)) ∧ v = w) (fun _ y _ => l.length - (intOf y).toNat)
    case atStart => exact ⟨0, 0, Nat.zero_le _, rfl, rfl, by omega, HR, rfl⟩
    case round =>
      obtain ⟨k, acc, hk, rfl, rfl, hacc, HS, rfl⟩ := hrel
      by_cases hlt : k < l.length
      · have hs := HS.out
        rw [List.drop_eq_getElem_cons hlt] at hs
        simp only [Rp.dgo] at hs
        have hg : ∀ h' : k < (⟨l.toArray⟩ : ByteArray).size, (⟨l.toArray⟩ : ByteArray)[k]'h' = l[k] := fun h' => ba_get l k hlt h'
        by_cases hbad : l[k].toNat < 48 ∨ 57 < l[k].toNat ∨ 100000000000000000 < acc
        · rw [if_pos hbad] at hs
          simp only [Prod.mk.injEq] at hs
          obtain ⟨rfl, rfl⟩ := hs
          clear HS HR
          by_cases a1 : l[k].toNat < 48
          · have b1 : decide ((l[k].toNat : Int) < 48) = true := decide_eq_true (by omega)
            go_wp2_with fail
            go_ret2
            exact ⟨rfl, rfl⟩
          · have b1 : decide ((l[k].toNat : Int) < 48) = false := decide_eq_false (by omega)
            by_cases a2 : 57 < l[k].toNat
            · have b2 : decide (57 < (l[k].toNat : Int)) = true := decide_eq_true (by omega)
              go_wp2_with fail
              go_ret2
              exact ⟨rfl, rfl⟩
            · have b2 : decide (57 < (l[k].toNat : Int)) = false := decide_eq_false (by omega)
              have b3 : decide (100000000000000000 < (acc : Int)) = true := decide_eq_true (by omega)
              go_wp2_with fail
              go_ret2
              exact ⟨rfl, rfl⟩
        · rw [if_neg hbad] at hs
          have HS2 := Lib.hid hs
          have b1 : decide ((l[k].toNat : Int) < 48) = false := decide_eq_false (by omega)
          have b2 : decide (57 < (l[k].toNat : Int)) = false := decide_eq_false (by omega)
          have b3 : decide (100000000000000000 < (acc : Int)) = false := decide_eq_false (by omega)
          have c1 : (48 : Int) ≤ (l[k].toNat : Int) := by omega
          have c2 : (l[k].toNat : Int) ≤ 57 := by omega
          clear hs HS HR
          go_wp2_with fail
          refine ⟨⟨k + 1, 10 * acc + (l[k].toNat - 48), hlt, ?_, by go_num, by omega, HS2, trivial⟩, ?_⟩
          · have e : ((10 * acc + (l[k].toNat - 48) : Nat) : Int) = 10 * (acc : Int) + ((l[k].toNat : Int) - 48) := by omega
            rw [e]
            try rfl
          · simp only [intOf]
            omega
      · obtain rfl : k = l.length := by omega
        have hs := HS.out
        rw [List.drop_length] at hs
        simp only [Rp.dgo, Prod.mk.injEq] at hs
        obtain ⟨rfl, rfl⟩ := hs
        clear HS HR
        go_wp2_with fail
        go_ret2
        exact ⟨ret_pair (decide_congr acc 1000000000000000000), rfl⟩

set_option maxHeartbeats 1000000 in
set_option maxRecDepth 100000 in
theorem digits_none (l : List UInt8) (w : World) (hs : l.length < 4294967296) (h : l.length = 0 ∨ 19 < l.length ∨ (1 < l.length ∧ l[0]? = some 48)) :
    Calls Tryd.prog 16 #[.string ⟨l.toArray⟩] w fun e w' => e = .returned (.tuple #[.int .i64 0, .bool false]) ∧ w' = w := by
  have hsz : (⟨l.toArray⟩ : ByteArray).size = l.length := rfl
  by_cases h0 : l.length = 0
  · have g1 : ((l.length : Int) == 0) = true := by rw [beq_iff_eq]; omega
    clear h
    go_enter Tryd.func16, Tryd.ntmps16
    go_wp2_with fail
    go_ret2
    exact ⟨rfl, rfl⟩
  · have g1 : ((l.length : Int) == 0) = false := by rw [beq_eq_false_iff_ne]; omega
    by_cases h1 : 19 < l.length
    · have g2 : decide (19 < (l.length : Int)) = true := decide_eq_true (by omega)
      clear h
      go_enter Tryd.func16, Tryd.ntmps16
      go_wp2_with fail
      go_ret2
      exact ⟨rfl, rfl⟩
    · have g2 : decide (19 < (l.length : Int)) = false := decide_eq_false (by omega)
      obtain ⟨h2, h3⟩ : 1 < l.length ∧ l[0]? = some 48 := by
        rcases h with h | h | h
        · exact absurd h h0
        · exact absurd h h1
        · exact h
      have g3 : decide (1 < (l.length : Int)) = true := decide_eq_true (by omega)
      have hl0 : 0 < l.length := by omega
      have hc1 : l[0] = 48 := (List.getElem?_eq_some_iff.1 h3).2
      have g4 : ((((⟨l.toArray⟩ : ByteArray)[0]'(by rw [hsz]; exact hl0)).toNat : Int) == 48) = true := by
        rw [ba_get l 0 hl0, hc1]
        rfl
      clear hc1 h3 h
      go_enter Tryd.func16, Tryd.ntmps16
      go_wp2_with fail
      go_ret2
      exact ⟨rfl, rfl⟩

theorem digits_any (l : List UInt8) (w : World) (hs : l.length < 4294967296) :
    Calls Tryd.prog 16 #[.string ⟨l.toArray⟩] w fun e w' => e = .returned (.tuple #[.int .i64 (Rp.digS l).1, .bool (Rp.digS l).2]) ∧ w' = w := by
  by_cases h : l.length = 0 ∨ 19 < l.length ∨ (1 < l.length ∧ l[0]? = some 48)
  · have e : Rp.digS l = (0, false) := by unfold Rp.digS; rw [if_pos h]
    rw [e]
    exact digits_none l w hs h
  · have e : Rp.digS l = Rp.dgo 0 l := by unfold Rp.digS; rw [if_neg h]
    rw [e]
    refine digits_loop l w (fun g => h (Or.inl g)) (by have : ¬ 19 < l.length := fun g => h (Or.inr (Or.inl g)); omega) ?_ _ _ rfl
    by_cases h1 : l.length ≤ 1
    · exact Or.inl h1
    · right
      have hl0 : 0 < l.length := by omega
      refine ⟨l[0], List.getElem?_eq_getElem hl0, fun g => h (Or.inr (Or.inr ⟨by omega, ?_⟩))⟩
      rw [List.getElem?_eq_getElem hl0]
      congr 1
      exact UInt8.toNat_inj.1 g
end Go.Proofs.YtbcnngjcggddbaaDoor

/- Contract of math/bits.Len64: the number of bits of x, for all x. -/
import Derived.Test.YtncmffhoodfhjaaProg
import Derived.Lib.Strings
import Derived.Lib.Slices
import Derived.Lib.Small
import Derived.Lib.Walk
import Derived.Lib.BitFns
namespace Go.Proofs.Ytncmffhoodfhjaa

theorem bitLenAux_spec : ∀ f x : Nat, x < 2 ^ f → x < 2 ^ Lib.bitLenAux f x ∧ (x ≠ 0 → 2 ^ (Lib.bitLenAux f x - 1) ≤ x ∧ 1 ≤ Lib.bitLenAux f x)
  | 0, x, h => by
    simp at h
    subst h
    simp [Lib.bitLenAux]
  | f + 1, x, h => by
    unfold Lib.bitLenAux
    by_cases h0 : x = 0
    · subst h0; simp
    · rw [if_neg h0]
      have ih := bitLenAux_spec f (x / 2) (by rw [Nat.pow_succ] at h; omega)
      refine ⟨?_, fun _ => ⟨?_, by omega⟩⟩
      · rw [Nat.add_comm, Nat.pow_succ]; omega
      · by_cases h1 : x / 2 = 0
        · rw [h1]
          have : Lib.bitLenAux f 0 = 0 := by cases f <;> simp [Lib.bitLenAux]
          rw [this]; simp; omega
        · obtain ⟨ih1, ih2⟩ := ih.2 h1
          obtain ⟨k, hk⟩ : ∃ k, Lib.bitLenAux f (x / 2) = k + 1 := ⟨Lib.bitLenAux f (x / 2) - 1, by omega⟩
          rw [hk] at ih1 ⊢
          simp only [Nat.add_sub_cancel] at ih1
          rw [show 1 + (k + 1) - 1 = k + 1 by omega, Nat.pow_succ]
          omega

theorem bitLen_spec (x : Nat) (h : x < 18446744073709551616) (h0 : x ≠ 0) : x < 2 ^ Lib.bitLen x ∧ 2 ^ (Lib.bitLen x - 1) ≤ x ∧ 1 ≤ Lib.bitLen x ∧ Lib.bitLen x ≤ 64 := by
  obtain ⟨a, b⟩ := bitLenAux_spec 64 x h
  obtain ⟨c, d⟩ := b h0
  exact ⟨a, c, d, Lib.bitLen_le x 64 (by omega) h⟩

/-- The number of bits of x, out of that of x / 2^k. -/
theorem len_of {x z : Int} (k : Nat) (h0 : 0 ≤ x) (h1 : x < 18446744073709551616) (hz : z.toNat = x.toNat / 2 ^ k) (hk : 2 ^ k ≤ x.toNat) (hz0 : 0 ≤ z) (hz1 : z ≤ 255) : Lib.len8 z + k = (Lib.bitLen x.toNat : Int) ∧ 0 ≤ Lib.len8 z ∧ Lib.len8 z ≤ 8 := by
  have a := Lib.bitLen_shift k x.toNat hk (by omega)
  have b := Lib.len8_of z hz0 hz1
  have c := Lib.bitLen_le8' z hz0 hz1
  rw [← hz] at a
  omega

set_option maxHeartbeats 4000000 in
set_option maxRecDepth 100000 in
theorem len64_any (x : Int) (h0 : 0 ≤ x) (h1 : x < 18446744073709551616) (w : World) :
    Calls Try.prog 110 #[.int .u64 x] w fun e w' => e = .returned (.int .i64 (Lib.bitLen x.toNat)) ∧ w = w' := by
  go_enter Try.func110, Try.ntmps110
  go_wp2
  all_goals (go_ret; refine ⟨congrArg Ending.returned (congrArg (Value.int IntKind.i64) ?_), rfl⟩)
  all_goals first
    | (have e : x % 256 = x := by omega
       have b := Lib.len8_of (x % 256) (by omega) (by omega)
       have c := Lib.bitLen_le8' (x % 256) (by omega) (by omega)
       rw [e] at b c ⊢
       omega)
    | (have a := len_of (x := x) (z := x / 256 % 256) 8 h0 h1 (by simp; omega) (by simp; omega) (by omega) (by omega); omega)
    | (have a := len_of (x := x) (z := x / 65536 % 256) 16 h0 h1 (by simp; omega) (by simp; omega) (by omega) (by omega); omega)
    | (have a := len_of (x := x) (z := x / 65536 / 256 % 256) 24 h0 h1 (by simp; omega) (by simp; omega) (by omega) (by omega); omega)
    | (have a := len_of (x := x) (z := x / 4294967296 % 256) 32 h0 h1 (by simp; omega) (by simp; omega) (by omega) (by omega); omega)
    | (have a := len_of (x := x) (z := x / 4294967296 / 256 % 256) 40 h0 h1 (by simp; omega) (by simp; omega) (by omega) (by omega); omega)
    | (have a := len_of (x := x) (z := x / 4294967296 / 65536 % 256) 48 h0 h1 (by simp; omega) (by simp; omega) (by omega) (by omega); omega)
    | (have a := len_of (x := x) (z := x / 4294967296 / 65536 / 256 % 256) 56 h0 h1 (by simp; omega) (by simp; omega) (by omega) (by omega); omega)

end Go.Proofs.Ytncmffhoodfhjaa

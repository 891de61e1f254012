/- Contracts of the reference's times, Neg and made. -/
import Derived.Test.YtomokdepndclpaaRef
namespace Go.Proofs.Ytomokdepndclpaa
open Go.RowKit

theorem times_arith (A1 A0 B1 B0 : Int) (a1 : 0 ≤ A1) (a1' : A1 ≤ 4294967295) (a0 : 0 ≤ A0) (a0' : A0 ≤ 4294967295) (b1 : 0 ≤ B1) (b1' : B1 ≤ 4294967295) (b0 : 0 ≤ B0) (b0' : B0 ≤ 4294967295) :
    (A1 * 4294967296 + A0) * (B1 * 4294967296 + B0) / 18446744073709551616 = A1 * B1 + A1 * B0 / 4294967296 + (A1 * B0 % 4294967296 + A0 * B1 + A0 * B0 / 4294967296) / 4294967296 ∧
    (A1 * 4294967296 + A0) * (B1 * 4294967296 + B0) % 18446744073709551616 = (A1 * B0 % 4294967296 + A0 * B1 + A0 * B0 / 4294967296) % 4294967296 * 4294967296 + A0 * B0 % 4294967296 ∧
    A1 * B1 + A1 * B0 / 4294967296 + (A1 * B0 % 4294967296 + A0 * B1 + A0 * B0 / 4294967296) / 4294967296 < 18446744073709551616 := by
  have p1 := prod_bound A1 B1 a1 a1' b1 b1'
  have p2 := prod_bound A1 B0 a1 a1' b0 b0'
  have p3 := prod_bound A0 B1 a0 a0' b1 b1'
  have p4 := prod_bound A0 B0 a0 a0' b0 b0'
  rw [Go.split_mul]
  have hlt : (A1 * 4294967296 + A0) * (B1 * 4294967296 + B0) ≤ 18446744073709551615 * 18446744073709551615 := Int.mul_le_mul (by omega) (by omega) (by omega) (by omega)
  rw [Go.split_mul] at hlt
  generalize A1 * B1 = p at *
  generalize A1 * B0 = q at *
  generalize A0 * B1 = r at *
  generalize A0 * B0 = s at *
  omega

set_option maxHeartbeats 1000000 in
theorem times_any (a b : Int) (h0 : 0 ≤ a) (h1 : a < 18446744073709551616) (k0 : 0 ≤ b) (k1 : b < 18446744073709551616) (w : World) :
    Calls Try.prog 92 #[.int .u64 a, .int .u64 b] w fun e w' => e = .returned (.agg #[.int .u64 (a * b / 18446744073709551616), .int .u64 (a * b % 18446744073709551616)]) ∧ Below w.heap.size w w' := by
  have ea := and_low32 a h0 h1
  have eb := and_low32 b k0 k1
  obtain ⟨A1, hA1⟩ : ∃ A1, A1 = a / 4294967296 := ⟨_, rfl⟩
  obtain ⟨A0, hA0⟩ : ∃ A0, A0 = a % 4294967296 := ⟨_, rfl⟩
  obtain ⟨B1, hB1⟩ : ∃ B1, B1 = b / 4294967296 := ⟨_, rfl⟩
  obtain ⟨B0, hB0⟩ : ∃ B0, B0 = b % 4294967296 := ⟨_, rfl⟩
  have xa : a = A1 * 4294967296 + A0 := by omega
  have xb : b = B1 * 4294967296 + B0 := by omega
  rw [← hA0] at ea
  rw [← hB0] at eb
  have u1 : 0 ≤ A1 := by omega
  have u2 : A1 ≤ 4294967295 := by omega
  have u3 : 0 ≤ A0 := by omega
  have u4 : A0 ≤ 4294967295 := by omega
  have v1 : 0 ≤ B1 := by omega
  have v2 : B1 ≤ 4294967295 := by omega
  have v3 : 0 ≤ B0 := by omega
  have v4 : B0 ≤ 4294967295 := by omega
  obtain ⟨t1, t2, t3⟩ := times_arith A1 A0 B1 B0 u1 u2 u3 u4 v1 v2 v3 v4
  rw [← xa, ← xb] at t1 t2
  rw [t1, t2]
  have ha1 : a / 4294967296 = A1 := hA1.symm
  have hb1 : b / 4294967296 = B1 := hB1.symm
  obtain ⟨p1, p1'⟩ := prod_bound A1 B1 u1 u2 v1 v2
  obtain ⟨p2, p2'⟩ := prod_bound A1 B0 u1 u2 v3 v4
  obtain ⟨p3, p3'⟩ := prod_bound A0 B1 u3 u4 v1 v2
  obtain ⟨p4, p4'⟩ := prod_bound A0 B0 u3 u4 v3 v4
  have e2 := and_low32 (A1 * B0) p2 (by omega)
  have e4 := and_low32 (A0 * B0) p4 (by omega)
  have eo : bits .or .u64 (IntKind.u64.wrap ((A1 * B0 % 4294967296 + A0 * B1 + A0 * B0 / 4294967296) * 4294967296)) (A0 * B0 % 4294967296) = (A1 * B0 % 4294967296 + A0 * B1 + A0 * B0 / 4294967296) % 4294967296 * 4294967296 + A0 * B0 % 4294967296 := by
    have := or_add 32 ((A1 * B0 % 4294967296 + A0 * B1 + A0 * B0 / 4294967296) % 4294967296) (A0 * B0 % 4294967296) (by omega) (by omega) (by omega) (by rw [show (2 : Int) ^ 32 = 4294967296 from rfl]; omega) (by rw [show (2 : Int) ^ 32 = 4294967296 from rfl]; omega)
    rw [show (2 : Int) ^ 32 = 4294967296 from rfl] at this
    rw [← this, IntKind.wrap_u64]
    congr 1
    omega
  clear xa xb hA1 hA0 hB1 hB0 t1 t2
  go_enter Try.func92, Try.ntmps92
  go_wp2
  exact bodyPost_ret (v := .agg #[.int .u64 (A1 * B1 + A1 * B0 / 4294967296 + (A1 * B0 % 4294967296 + A0 * B1 + A0 * B0 / 4294967296) / 4294967296), .int .u64 ((A1 * B0 % 4294967296 + A0 * B1 + A0 * B0 / 4294967296) % 4294967296 * 4294967296 + A0 * B0 % 4294967296)]) (by simp [results, Try.results92, go_sem]) rfl ⟨rfl, (Below.refl _ _).alloc (Nat.le_refl _) _⟩




end Go.Proofs.Ytomokdepndclpaa

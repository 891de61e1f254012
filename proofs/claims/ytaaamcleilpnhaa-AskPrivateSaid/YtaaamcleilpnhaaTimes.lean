/- Contracts of the reference's times, Neg and made. -/
import Derived.Test.YtaaamcleilpnhaaRef
namespace Go.Proofs.Ytaaamcleilpnhaa
open Go.RowKit

theorem times_arith (A1 A0 B1 B0 : Int) (a1 : 0 ≤ A1) (a1' : A1 ≤ 4294967295) (a0 : 0 ≤ A0) (a0' : A0 ≤ 4294967295) (b1 : 0 ≤ B1) (b1' : B1 ≤ 4294967295) (b0 : 0 ≤ B0) (b0' : B0 ≤ 4294967295) :
    (A1 * 4294967296 + A0) * (B1 * 4294967296 + B0) / 18446744073709551616 = A1 * B1 + A1 * B0 / 4294967296 + (A1 * B0 % 4294967296 + A0 * B1 + A0 * B0 / 4294967296) / 4294967296 ∧
    (A1 * 4294967296 + A0) * (B1 * 4294967296 + B0) % 18446744073709551616 = (A1 * B0 % 4294967296 + A0 * B1 + A0 * B0 / 4294967296) % 4294967296 * 4294967296 + A0 * B0 % 4294967296 ∧
    A1 * B1 + A1 * B0 / 4294967296 + (A1 * B0 % 4294967296 + A0 * B1 + A0 * B0 / 4294967296) / 4294967296 < 18446744073709551616 := by
  have p1 := prod_bound A1 B1 a1 a1' b1 b1'
  have p2 := prod_bound A1 B0 a1 a1' b0 b0'
  have p3 := prod_bound A0 B1 a0 a0' b1 b1'
  have p4 := prod_bound A0 B0 a0 a0' b0 b0'
  rw [Go.split_mul]
  have hlt : (A1 * 4294967296 + A0) * (B1 * 4294967296 + B0) ≤ 18446744073709551615 * 18446744073709551615 := Int.mul_le_mul (by omega) (by omega) (by omega) (by omega)
  rw [Go.split_mul] at hlt
  generalize A1 * B1 = p at *
  generalize A1 * B0 = q at *
  generalize A0 * B1 = r at *
  generalize A0 * B0 = s at *
  omega





end Go.Proofs.Ytaaamcleilpnhaa

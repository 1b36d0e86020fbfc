/- The contracts of Mul64 and productPlus. -/
import Derived.Test.YtcaepcfgeelojaaFld1
namespace Go.Proofs.Ytcaepcfgeelojaa
open Go.RowKit Go.My Go.Lib
set_option linter.unusedVariables false

theorem w64n (n : Nat) (h : n < 18446744073709551616) : IntKind.u64.wrap (n : Int) = (n : Int) := by rw [IntKind.wrap_u64]; omega
theorem and32m (n : Nat) (h : n < 18446744073709551616) : bits .and .u64 (n : Int) 4294967295 = ((n % 4294967296 : Nat) : Int) := by
  have := u64_and_nat n 4294967295 h (by omega)
  rw [show (4294967295 : Nat) = 2 ^ 32 - 1 from rfl, Nat.and_two_pow_sub_one_eq_mod] at this
  exact this
theorem d32 (n : Nat) : (n : Int) / 4294967296 = ((n / 4294967296 : Nat) : Int) := by omega
theorem mulP (a b : Nat) (ha : a < 4294967296) (hb : b < 4294967296) : a * b ≤ 18446744065119617025 := Nat.mul_le_mul (by omega : a ≤ 4294967295) (by omega : b ≤ 4294967295)
theorem mulHi (x y : Nat) (hx : x < 18446744073709551616) (hy : y < 18446744073709551616) :
    IntKind.u64.wrap (IntKind.u64.wrap (IntKind.u64.wrap ((x : Int) / 4294967296 * ((y : Int) / 4294967296)) + IntKind.u64.wrap (IntKind.u64.wrap ((x : Int) / 4294967296 * bits .and .u64 (y : Int) 4294967295) + IntKind.u64.wrap (bits .and .u64 (x : Int) 4294967295 * bits .and .u64 (y : Int) 4294967295) / 4294967296) / 4294967296) +
      IntKind.u64.wrap (bits .and .u64 (IntKind.u64.wrap (IntKind.u64.wrap ((x : Int) / 4294967296 * bits .and .u64 (y : Int) 4294967295) + IntKind.u64.wrap (bits .and .u64 (x : Int) 4294967295 * bits .and .u64 (y : Int) 4294967295) / 4294967296)) 4294967295 + IntKind.u64.wrap (bits .and .u64 (x : Int) 4294967295 * ((y : Int) / 4294967296))) / 4294967296) = ((x * y / 18446744073709551616 : Nat) : Int) := by
  rw [and32m x hx, and32m y hy, d32 x, d32 y]
  have ex : x = x % 4294967296 + 4294967296 * (x / 4294967296) := by omega
  have ey : y = y % 4294967296 + 4294967296 * (y / 4294967296) := by omega
  have ep : x * y = (x % 4294967296 * (y % 4294967296)) + 4294967296 * (x / 4294967296 * (y % 4294967296)) + 4294967296 * (x % 4294967296 * (y / 4294967296)) + 18446744073709551616 * (x / 4294967296 * (y / 4294967296)) := by
    conv => lhs; rw [ex, ey]
    generalize x % 4294967296 = a
    generalize x / 4294967296 = b
    generalize y % 4294967296 = c
    generalize y / 4294967296 = d
    have e1 : (a + 4294967296 * b) * (c + 4294967296 * d) = a * c + a * (4294967296 * d) + (4294967296 * b * c + 4294967296 * b * (4294967296 * d)) := by rw [Nat.add_mul, Nat.mul_add, Nat.mul_add]
    have e2 : a * (4294967296 * d) = 4294967296 * (a * d) := by rw [← Nat.mul_assoc, Nat.mul_comm a, Nat.mul_assoc]
    have e3 : 4294967296 * b * c = 4294967296 * (b * c) := by rw [Nat.mul_assoc]
    have e4 : 4294967296 * b * (4294967296 * d) = 18446744073709551616 * (b * d) := by
      rw [Nat.mul_assoc, ← Nat.mul_assoc b, Nat.mul_comm b, Nat.mul_assoc, ← Nat.mul_assoc]
    rw [e1, e2, e3, e4]
    omega
  rw [ep]
  have hA := mulP (x % 4294967296) (y % 4294967296) (by omega) (by omega)
  have hB := mulP (x / 4294967296) (y % 4294967296) (by omega) (by omega)
  have hC := mulP (x % 4294967296) (y / 4294967296) (by omega) (by omega)
  have hD := mulP (x / 4294967296) (y / 4294967296) (by omega) (by omega)
  rw [← Int.natCast_mul, ← Int.natCast_mul, ← Int.natCast_mul, ← Int.natCast_mul]
  generalize x % 4294967296 * (y % 4294967296) = A at *
  generalize x / 4294967296 * (y % 4294967296) = B at *
  generalize x % 4294967296 * (y / 4294967296) = C at *
  generalize x / 4294967296 * (y / 4294967296) = D at *
  clear ex ey ep hx hy
  rw [w64n A (by omega), w64n B (by omega), w64n C (by omega), w64n D (by omega), d32 A, ← Int.natCast_add, w64n (B + A / 4294967296) (by omega), and32m _ (by omega), d32, ← Int.natCast_add, ← Int.natCast_add, w64n ((B + A / 4294967296) % 4294967296 + C) (by omega), d32]
  by_cases hbig : D + (B + A / 4294967296) / 4294967296 < 18446744073709551616
  · rw [w64n _ hbig, ← Int.natCast_add, IntKind.wrap_u64]
    omega
  · omega

theorem ppHi (P a b : Nat) (hP : P ≤ 340282366920938463426481119284349108225) (ha : a < 18446744073709551616) (hb : b < 18446744073709551616) :
    IntKind.u64.wrap (IntKind.u64.wrap (((P / 18446744073709551616 : Nat) : Int) + (((P % 18446744073709551616 + a + 0) / 18446744073709551616 : Nat) : Int)) + ((((P % 18446744073709551616 + a + 0) % 18446744073709551616 + b + 0) / 18446744073709551616 : Nat) : Int)) = (((P + a + b) / 18446744073709551616 : Nat) : Int) := by
  rw [IntKind.wrap_u64, IntKind.wrap_u64]
  omega
theorem ppLo (P a b : Nat) : ((P % 18446744073709551616 + a + 0) % 18446744073709551616 + b + 0) % 18446744073709551616 = (P + a + b) % 18446744073709551616 := by omega

end Go.Proofs.Ytcaepcfgeelojaa

/- The contracts of Mul64 and productPlus. -/
import Derived.Test.YtdhfddeghnoecaaDoorFld1
namespace Go.Proofs.YtdhfddeghnoecaaDoor
open Go.RowKit Go.My Go.Lib
set_option linter.unusedVariables false

theorem w64n (n : Nat) (h : n < 18446744073709551616) : IntKind.u64.wrap (n : Int) = (n : Int) := by rw [IntKind.wrap_u64]; omega
theorem and32m (n : Nat) (h : n < 18446744073709551616) : bits .and .u64 (n : Int) 4294967295 = ((n % 4294967296 : Nat) : Int) := by
  have := u64_and_nat n 4294967295 h (by omega)
  rw [show (4294967295 : Nat) = 2 ^ 32 - 1 from rfl, Nat.and_two_pow_sub_one_eq_mod] at this
  exact this
theorem d32 (n : Nat) : (n : Int) / 4294967296 = ((n / 4294967296 : Nat) : Int) := by omega
theorem mulP (a b : Nat) (ha : a < 4294967296) (hb : b < 4294967296) : a * b ≤ 18446744065119617025 := Nat.mul_le_mul (by omega : a ≤ 4294967295) (by omega : b ≤ 4294967295)
theorem mulHi (x y : Nat) (hx : x < 18446744073709551616) (hy : y < 18446744073709551616) :
    IntKind.u64.wrap (IntKind.u64.wrap (IntKind.u64.wrap ((x : Int) / 4294967296 * ((y : Int) / 4294967296)) + IntKind.u64.wrap (IntKind.u64.wrap ((x : Int) / 4294967296 * bits .and .u64 (y : Int) 4294967295) + IntKind.u64.wrap (bits .and .u64 (x : Int) 4294967295 * bits .and .u64 (y : Int) 4294967295) / 4294967296) / 4294967296) +
      IntKind.u64.wrap (bits .and .u64 (IntKind.u64.wrap (IntKind.u64.wrap ((x : Int) / 4294967296 * bits .and .u64 (y : Int) 4294967295) + IntKind.u64.wrap (bits .and .u64 (x : Int) 4294967295 * bits .and .u64 (y : Int) 4294967295) / 4294967296)) 4294967295 + IntKind.u64.wrap (bits .and .u64 (x : Int) 4294967295 * ((y : Int) / 4294967296))) / 4294967296) = ((x * y / 18446744073709551616 : Nat) : Int) := by
  rw [and32m x hx, and32m y hy, d32 x, d32 y]
  have ex : x = x % 4294967296 + 4294967296 * (x / 4294967296) := by omega
  have ey : y = y % 4294967296 + 4294967296 * (y / 4294967296) := by omega
  have ep : x * y = (x % 4294967296 * (y % 4294967296)) + 4294967296 * (x / 4294967296 * (y % 4294967296)) + 4294967296 * (x % 4294967296 * (y / 4294967296)) + 18446744073709551616 * (x / 4294967296 * (y / 4294967296)) := by
    conv => lhs; rw [ex, ey]
    generalize x % 4294967296 = a
    generalize x / 4294967296 = b
    generalize y % 4294967296 = c
    generalize y / 4294967296 = d
    have e1 : (a + 4294967296 * b) * (c + 4294967296 * d) = a * c + a * (4294967296 * d) + (4294967296 * b * c + 4294967296 * b * (4294967296 * d)) := by rw [Nat.add_mul, Nat.mul_add, Nat.mul_add]
    have e2 : a * (4294967296 * d) = 4294967296 * (a * d) := by rw [← Nat.mul_assoc, Nat.mul_comm a, Nat.mul_assoc]
    have e3 : 4294967296 * b * c = 4294967296 * (b * c) := by rw [Nat.mul_assoc]
    have e4 : 4294967296 * b * (4294967296 * d) = 18446744073709551616 * (b * d) := by
      rw [Nat.mul_assoc, ← Nat.mul_assoc b, Nat.mul_comm b, Nat.mul_assoc, ← Nat.mul_assoc]
    rw [e1, e2, e3, e4]
    omega
  rw [ep]
  have hA := mulP (x % 4294967296) (y % 4294967296) (by omega) (by omega)
  have hB := mulP (x / 4294967296) (y % 4294967296) (by omega) (by omega)
  have hC := mulP (x % 4294967296) (y / 4294967296) (by omega) (by omega)
  have hD := mulP (x / 4294967296) (y / 4294967296) (by omega) (by omega)
  rw [← Int.natCast_mul, ← Int.natCast_mul, ← Int.natCast_mul, ← Int.natCast_mul]
  generalize x % 4294967296 * (y % 4294967296) = A at *
  generalize x / 4294967296 * (y % 4294967296) = B at *
  generalize x % 4294967296 * (y / 4294967296) = C at *
  generalize x / 4294967296 * (y / 4294967296) = D at *
  clear ex ey ep hx hy
  rw [w64n A (by omega), w64n B (by omega), w64n C (by omega), w64n D (by omega), d32 A, ← Int.natCast_add, w64n (B + A / 4294967296) (by omega), and32m _ (by omega), d32, ← Int.natCast_add, ← Int.natCast_add, w64n ((B + A / 4294967296) % 4294967296 + C) (by omega), d32]
  by_cases hbig : D + (B + A / 4294967296) / 4294967296 < 18446744073709551616
  · rw [w64n _ hbig, ← Int.natCast_add, IntKind.wrap_u64]
    omega
  · omega

set_option maxHeartbeats 2000000 in
theorem mul64_any (x y : Nat) (w : World) (hx : x < U64) (hy : y < U64) :
    Calls Tryd.prog 96 #[.int .u64 x, .int .u64 y] w fun e w' => e = .returned (.tuple #[.int .u64 ((x * y / 18446744073709551616 : Nat) : Int), .int .u64 ((x * y % 18446744073709551616 : Nat) : Int)]) ∧ w = w' := by
  have HX := Lib.hid (And.intro hx hy)
  clear hx hy
  have x0 : (0 : Int) ≤ (x : Int) := by omega
  have y0 : (0 : Int) ≤ (y : Int) := by omega
  go_enter Tryd.func96, Tryd.ntmps96
  go_wp2
  rw [mulHi x y HX.out.1 HX.out.2, show IntKind.u64.wrap ((x : Int) * (y : Int)) = ((x * y % 18446744073709551616 : Nat) : Int) by rw [IntKind.wrap_u64, ← Int.natCast_mul]; omega]
  go_ret2
  exact ⟨rfl, rfl⟩

theorem ppHi (P a b : Nat) (hP : P ≤ 340282366920938463426481119284349108225) (ha : a < 18446744073709551616) (hb : b < 18446744073709551616) :
    IntKind.u64.wrap (IntKind.u64.wrap (((P / 18446744073709551616 : Nat) : Int) + (((P % 18446744073709551616 + a + 0) / 18446744073709551616 : Nat) : Int)) + ((((P % 18446744073709551616 + a + 0) % 18446744073709551616 + b + 0) / 18446744073709551616 : Nat) : Int)) = (((P + a + b) / 18446744073709551616 : Nat) : Int) := by
  rw [IntKind.wrap_u64, IntKind.wrap_u64]
  omega
theorem ppLo (P a b : Nat) : ((P % 18446744073709551616 + a + 0) % 18446744073709551616 + b + 0) % 18446744073709551616 = (P + a + b) % 18446744073709551616 := by omega

set_option maxHeartbeats 2000000 in
theorem pp_any (x y a b : Nat) (w : World) (hx : x < U64) (hy : y < U64) (ha : a < U64) (hb : b < U64) :
    Calls Tryd.prog 85 #[.int .u64 x, .int .u64 y, .int .u64 a, .int .u64 b] w fun e w' => e = .returned (.tuple #[.int .u64 (((x * y + a + b) / 18446744073709551616 : Nat) : Int), .int .u64 (((x * y + a + b) % 18446744073709551616 : Nat) : Int)]) ∧ w = w' := by
  have HP : Hid (x * y ≤ 340282366920938463426481119284349108225) := Nat.mul_le_mul (by unfold U64 at hx; omega : x ≤ 18446744073709551615) (by unfold U64 at hy; omega : y ≤ 18446744073709551615)
  have HX := Lib.hid (And.intro hx (And.intro hy (And.intro ha hb)))
  have h1 := fun wx => run_add (x * y % 18446744073709551616) a 0 (by omega) wx
  have h2 := fun wx => run_add ((x * y % 18446744073709551616 + a + 0) % 18446744073709551616) b 0 (by omega) wx
  have hc0 : (((0 : Nat) : Int)) = 0 := rfl
  rw [hc0] at h1 h2
  have HM := Lib.hid (mul64_any x y w hx hy)
  clear hx hy ha hb hc0
  rw [← ppHi (x * y) a b HP.out HX.out.2.2.1 HX.out.2.2.2, ← ppLo (x * y) a b]
  generalize x * y % 18446744073709551616 = L at *
  generalize x * y / 18446744073709551616 = H at *
  generalize (L + a + 0) % 18446744073709551616 = L2 at *
  generalize (L + a + 0) / 18446744073709551616 = C1 at *
  generalize (L2 + b + 0) % 18446744073709551616 = L3 at *
  generalize (L2 + b + 0) / 18446744073709551616 = C2 at *
  go_enter Tryd.func85, Tryd.ntmps85
  go_wp2_with fail
  refine HM.out.mono ?_
  rintro e w' ⟨rfl, rfl⟩
  go_wp2
  go_ret2
  exact ⟨rfl, rfl⟩

end Go.Proofs.YtdhfddeghnoecaaDoor

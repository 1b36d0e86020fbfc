/- The contracts of bit, inverse, readField, and of the field's functions of the program. -/
import Derived.Test.YtcaepcfgeelojaaFld3
import Derived.Test.YtcaepcfgeelojaaFld4
namespace Go.Proofs.Ytcaepcfgeelojaa
open Go.RowKit Go.My Go.Lib
set_option linter.unusedVariables false

theorem lw_eq (n q : Nat) (h : q < 4) : lw n q = n / 2 ^ (64 * q) % 18446744073709551616 := by
  match q with
  | 0 => simp [lw]
  | 1 => rfl
  | 2 => rfl
  | 3 => rfl
theorem bit_nat (n i : Nat) (h : i < 256) : lw n (i / 64) / 2 ^ (i % 64) % 2 = n / 2 ^ i % 2 := by
  rw [lw_eq n (i / 64) (by omega)]
  have hp : (18446744073709551616 : Nat) = 2 ^ (i % 64) * 2 ^ (64 - i % 64) := by rw [← Nat.pow_add, show i % 64 + (64 - i % 64) = 64 by omega]
  rw [hp, Nat.mod_mul_right_div_self, Nat.div_div_eq_div_mul, ← Nat.pow_add, show 64 * (i / 64) + i % 64 = i by omega]
  obtain ⟨m, hm⟩ : ∃ m, 64 - i % 64 = m + 1 := ⟨63 - i % 64, by omega⟩
  rw [hm, Nat.pow_succ, Nat.mul_comm, Nat.mod_mul_right_mod]

theorem bitE (X r : Nat) (h : X < U64) : (bits .and .u64 ((X : Int) / 2 ^ r) 1 == 1) = decide (X / 2 ^ r % 2 = 1) := by
  have e : (X : Int) / 2 ^ r = ((X / 2 ^ r : Nat) : Int) := by rw [Int.natCast_ediv, Int.natCast_pow]; rfl
  have hl : X / 2 ^ r < 18446744073709551616 := Nat.lt_of_le_of_lt (Nat.div_le_self _ _) h
  have h1 := u64_and_nat (X / 2 ^ r) 1 hl (by omega)
  rw [Nat.and_one_is_mod] at h1
  rw [e, show (1 : Int) = ((1 : Nat) : Int) from rfl, h1]
  by_cases c : X / 2 ^ r % 2 = 1
  · rw [c]; rfl
  · rw [decide_eq_false c]; exact beq_eq_false_iff_ne.2 (by omega)

def E25 : Nat := P25n - 2
theorem exp_row : #[Value.int .u64 18446744073709551595, Value.int .u64 18446744073709551615, Value.int .u64 18446744073709551615, Value.int .u64 9223372036854775807] = fldA E25 := by kernel_rfl
theorem one_row : #[Value.int .u64 1, Value.int .u64 0, Value.int .u64 0, Value.int .u64 0] = fldA 1 := by kernel_rfl
theorem sq_mod (a e p : Nat) : a ^ e % p * (a ^ e % p) % p = a ^ (2 * e) % p := by rw [← Nat.mul_mod, ← Nat.pow_add, Nat.two_mul]
theorem sm_mod (a e p : Nat) : a ^ e % p * a % p = a ^ (e + 1) % p := by rw [Nat.pow_succ, Nat.mul_mod (a ^ e) a, Nat.mul_mod (a ^ e % p) a, Nat.mod_mod]
theorem half (E m : Nat) : E / 2 ^ m = 2 * (E / 2 ^ (m + 1)) + E / 2 ^ m % 2 := by
  rw [Nat.pow_succ, ← Nat.div_div_eq_div_mul]
  omega
theorem modP_lt (x : Nat) : x % P25n < W256 := Nat.lt_of_lt_of_le (Nat.mod_lt _ (by decide)) (by decide)
theorem fsame (x y : Nat) : (fldA x).size = (fldA y).size := by rw [fldA, fldA, rwA_size, rwA_size]
theorem gr_fld {w w2 : World} {g : Nat} (h : w.grownBy w2 (some g)) (k : Nat) (hk : k < w.heap.size) (hne : k ≠ g) : w2.heap[k]? = w.heap[k]? := h.block k hk (by simpa using hne)

end Go.Proofs.Ytcaepcfgeelojaa

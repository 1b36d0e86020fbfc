/- Bits of bytes and of limbs. Nothing of the program is named. -/
import Derived.Test.YtdhfddeghnoecaaDoorMathQ
namespace Go.My
open Go.RowKit

theorem leN_get (l : List UInt8) (j : Nat) (h : j < l.length) : (l[j]).toNat = leN l / 256 ^ j % 256 := by
  induction l generalizing j with
  | nil => simp at h
  | cons b l ih =>
    have hb := b.toNat_lt
    cases j with
    | zero => simp only [List.getElem_cons_zero, leN, Nat.pow_zero, Nat.div_one]; omega
    | succ j =>
      rw [List.getElem_cons_succ, ih j (by simpa using h), leN, Nat.pow_succ, Nat.mul_comm (256 ^ j), ← Nat.div_div_eq_div_mul, show (b.toNat + 256 * leN l) / 256 = leN l by omega]
theorem p256 (j : Nat) : (256 : Nat) ^ j = 2 ^ (8 * j) := by rw [show (256 : Nat) = 2 ^ 8 from rfl, ← Nat.pow_mul]
theorem byte_bit (n A : Nat) : n / 256 ^ (A / 8) % 256 / 2 ^ (A % 8) % 2 = n / 2 ^ A % 2 := by
  have hp : (256 : Nat) = 2 ^ (A % 8) * 2 ^ (8 - A % 8) := by rw [← Nat.pow_add, show A % 8 + (8 - A % 8) = 8 by omega]
  rw [p256]
  conv => lhs; lhs; lhs; rhs; rw [hp]
  rw [Nat.mod_mul_right_div_self, Nat.div_div_eq_div_mul, ← Nat.pow_add, show 8 * (A / 8) + A % 8 = A by omega]
  obtain ⟨m, hm⟩ : ∃ m, 8 - A % 8 = m + 1 := ⟨7 - A % 8, by omega⟩
  rw [hm, Nat.pow_succ, Nat.mul_comm, Nat.mod_mul_right_mod]
theorem dig_bit (n w k b : Nat) (h : k < b) : n / 2 ^ w % 2 ^ b / 2 ^ k % 2 = n / 2 ^ (w + k) % 2 := by
  obtain ⟨c, rfl⟩ : ∃ c, b = k + (c + 1) := ⟨b - k - 1, by omega⟩
  rw [Nat.pow_add 2 k, Nat.mod_mul_right_div_self, Nat.div_div_eq_div_mul, ← Nat.pow_add, Nat.pow_succ, Nat.mul_comm, Nat.mod_mul_right_mod]
theorem dig_step (n w k : Nat) : n / 2 ^ w % 2 ^ (k + 1) = n / 2 ^ w % 2 ^ k + 2 ^ k * (n / 2 ^ (w + k) % 2) := by
  rw [Nat.mod_pow_succ, Nat.div_div_eq_div_mul, ← Nat.pow_add]
/-- The bytes of a number, by place. -/
def byF (m j : Nat) : Nat := m / 256 ^ j % 256
theorem byF_lt (m j : Nat) : byF m j < 256 := Nat.mod_lt _ (by decide)
theorem byF_at (m A B : Nat) (hm : m < 2 ^ A) (hB : B < 2) : byF (m + 2 ^ A * B) (A / 8) = byF m (A / 8) + 2 ^ (A % 8) * B ∧ byF m (A / 8) < 2 ^ (A % 8) := by
  have e : 2 ^ A = 256 ^ (A / 8) * 2 ^ (A % 8) := by rw [p256, ← Nat.pow_add, show 8 * (A / 8) + A % 8 = A by omega]
  have hl : m / 256 ^ (A / 8) < 2 ^ (A % 8) := by
    rw [e] at hm
    exact Nat.div_lt_of_lt_mul hm
  have h8 : 2 ^ (A % 8) ≤ 128 := Nat.pow_le_pow_right (by decide) (by omega : A % 8 ≤ 7)
  have hB2 : B = 0 ∨ B = 1 := by omega
  unfold byF
  rw [e, Nat.mul_assoc, Nat.add_mul_div_left _ _ (Nat.pow_pos (by decide))]
  clear e hm
  generalize m / 256 ^ (A / 8) = d at *
  generalize 2 ^ (A % 8) = c at *
  rcases hB2 with rfl | rfl
  · exact ⟨by omega, by omega⟩
  · exact ⟨by omega, by omega⟩
theorem byF_other (m A B j : Nat) (hm : m < 2 ^ A) (hB : B < 2) (hj : j ≠ A / 8) : byF (m + 2 ^ A * B) j = byF m j := by
  unfold byF
  by_cases h : j < A / 8
  · obtain ⟨c, hc⟩ : ∃ c, A = 8 * j + (8 + c) := ⟨A - 8 * j - 8, by omega⟩
    have e : 2 ^ A * B = 256 ^ j * (256 * (2 ^ c * B)) := by
      rw [hc, Nat.pow_add, Nat.pow_add, p256]
      simp only [Nat.mul_assoc]
    rw [e, Nat.add_mul_div_left _ _ (Nat.pow_pos (by decide)), Nat.add_mul_mod_self_left]
  · have h1 : m + 2 ^ A * B < 256 ^ j := by
      have : 2 ^ (A + 1) ≤ 256 ^ j := by rw [p256]; exact Nat.pow_le_pow_right (by decide) (by omega)
      rw [Nat.pow_succ] at this
      rcases (by omega : B = 0 ∨ B = 1) with rfl | rfl <;> omega
    rw [Nat.div_eq_of_lt h1, Nat.div_eq_of_lt (by omega)]
theorem mod_step (r A : Nat) : r % 2 ^ (A + 1) = r % 2 ^ A + 2 ^ A * (r / 2 ^ A % 2) := Nat.mod_pow_succ
theorem leB_byF (m : Nat) (k : Nat) : leB m k = (List.range k).map (fun j => UInt8.ofNat (byF m j)) := by
  induction k with
  | zero => rfl
  | succ k ih =>
    rw [leB_snoc, ih, List.range_succ, List.map_append]
    congr 1
    simp only [List.map_cons, List.map_nil, List.cons.injEq, and_true]
    apply UInt8.toNat_inj.1
    rw [UInt8.toNat_ofNat', UInt8.toNat_ofNat']
    unfold byF
    omega
theorem cells_byF (m : Nat) (k : Nat) : cellsOf (leB m k) = rwL .u8 k (fun j => (byF m j : Int)) := by
  rw [leB_byF]
  unfold cellsOf rwL
  rw [List.map_map]
  apply List.map_congr_left
  intro j _
  show Value.int .u8 ((UInt8.ofNat (byF m j)).toNat : Int) = _
  rw [UInt8.toNat_ofNat', Nat.mod_eq_of_lt (byF_lt m j)]

/-! ### Bits of signed words -/
theorem i64_and1 (n : Int) : bits .and .i64 n 1 = n % 2 := by
  have h1 : (BitVec.ofInt 64 1).toNat = 2 ^ 1 - 1 := by decide
  have key : (BitVec.ofInt 64 n &&& BitVec.ofInt 64 1).toNat = (n % ((2 ^ 64 : Nat) : Int)).toNat % 2 ^ 1 := by
    rw [BitVec.toNat_and, BitVec.toNat_ofInt, h1, Nat.and_two_pow_sub_one_eq_mod]
  show IntKind.i64.wrap ((BitVec.ofInt 64 n &&& BitVec.ofInt 64 1).toNat : Nat) = n % 2
  rw [key, IntKind.wrap_i64]
  omega
theorem i64_or (k x y : Nat) (hx : x < 2 ^ k) (h : x + 2 ^ k * y < 4611686018427387904) : bits .or .i64 (x : Int) ((y : Int) * 2 ^ k) = ((x + 2 ^ k * y : Nat) : Int) := by
  have e : (y : Int) * 2 ^ k = ((2 ^ k * y : Nat) : Int) := by rw [Int.natCast_mul, Int.natCast_pow, Int.mul_comm]; rfl
  have o : ∀ a : Nat, a < 4611686018427387904 → (BitVec.ofInt 64 (a : Int)).toNat = a := fun a ha => by rw [BitVec.ofInt_natCast, BitVec.toNat_ofNat]; exact Nat.mod_eq_of_lt (by omega)
  rw [e]
  show IntKind.i64.wrap ((BitVec.ofInt 64 (x : Int) ||| BitVec.ofInt 64 ((2 ^ k * y : Nat) : Int)).toNat : Int) = _
  rw [BitVec.toNat_or, o x (by omega), o _ (by omega), Nat.or_comm, nat_join k (2 ^ k * y) x (by rw [Nat.mul_mod_right]) hx, IntKind.wrap_i64]
  omega
theorem u8_or_add (k x y : Nat) (hx : x < 2 ^ k) (h : x + 2 ^ k * y < 256) : bits .or .u8 (x : Int) ((y : Int) * 2 ^ k) = ((x + 2 ^ k * y : Nat) : Int) := by
  have e : (y : Int) * 2 ^ k = ((2 ^ k * y : Nat) : Int) := by rw [Int.natCast_mul, Int.natCast_pow, Int.mul_comm]; rfl
  rw [e, u8_or_nat _ _ (by omega) (by omega), Nat.or_comm, nat_join k (2 ^ k * y) x (by rw [Nat.mul_mod_right]) hx]
  congr 1
  omega
theorem u8_and1 (x r : Nat) (h : x < 256) : bits .and .u8 ((x : Int) / 2 ^ r) 1 = ((x / 2 ^ r % 2 : Nat) : Int) := by
  have e : (x : Int) / 2 ^ r = ((x / 2 ^ r : Nat) : Int) := by rw [Int.natCast_ediv, Int.natCast_pow]; rfl
  have hl : x / 2 ^ r < 256 := Nat.lt_of_le_of_lt (Nat.div_le_self _ _) h
  have h1 := u8_and_nat (x / 2 ^ r) 1 hl (by omega)
  rw [Nat.and_one_is_mod] at h1
  rw [e]
  exact h1

end Go.My

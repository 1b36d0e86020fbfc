/- Plain facts: numbers and their bytes; exclusive or. Nothing of the program is named. -/
import Derived.Test.YtkglgficmealnaaMath1
namespace Go.My
open Go.RowKit
set_option linter.unusedVariables false

theorem foldl_num (l : List UInt8) : ∀ a : Nat, l.foldl (fun n b => n * 256 + b.toNat) a = a * 256 ^ l.length + numOf l := by
  induction l with
  | nil => intro a; simp [numOf]
  | cons b l ih =>
    intro a
    have h0 : numOf (b :: l) = (0 * 256 + b.toNat) * 256 ^ l.length + numOf l := by
      unfold numOf; rw [List.foldl_cons, ih]; rfl
    rw [List.foldl_cons, ih, h0, List.length_cons, Nat.pow_succ, Nat.add_mul, Nat.zero_mul, Nat.zero_add, Nat.mul_assoc, Nat.mul_comm 256 (256 ^ l.length)]
    omega
theorem numOf_cons (b : UInt8) (l : List UInt8) : numOf (b :: l) = b.toNat * 256 ^ l.length + numOf l := by
  have := foldl_num l (0 * 256 + b.toNat)
  unfold numOf at *
  rw [List.foldl_cons, this]
  simp

theorem beL_len (n k : Nat) : (beL n k).length = k := beT_len n k k
theorem beL_succ (n k : Nat) : beL n (k + 1) = UInt8.ofNat (n / 256 ^ k) :: beL n k := by
  unfold beL beT
  rw [List.range_succ_eq_map, List.map_cons, List.map_map]
  congr 1
  apply List.map_congr_left
  intro j hj
  have hj' := List.mem_range.1 hj
  show UInt8.ofNat (n / 256 ^ (k + 1 - 1 - (j + 1))) = UInt8.ofNat (n / 256 ^ (k - 1 - j))
  rw [show k + 1 - 1 - (j + 1) = k - 1 - j by omega]
theorem numOf_beL (n : Nat) : ∀ k, numOf (beL n k) = n % 256 ^ k := by
  intro k
  induction k with
  | zero => simp [beL, beT, numOf, Nat.mod_one]
  | succ k ih =>
    have hb : (UInt8.ofNat (n / 256 ^ k)).toNat = n / 256 ^ k % 256 := UInt8.toNat_ofNat'
    have hs : 256 ^ (k + 1) = 256 ^ k * 256 := Nat.pow_succ _ _
    rw [beL_succ, numOf_cons, beL_len, ih, hb, hs, Nat.mod_mul, Nat.add_comm, Nat.mul_comm]
theorem numOf_inj : ∀ (l m : List UInt8), l.length = m.length → numOf l = numOf m → l = m := by
  intro l
  induction l with
  | nil => intro m h _; exact (List.eq_nil_of_length_eq_zero h.symm).symm
  | cons a l ih =>
    intro m h hn
    cases m with
    | nil => simp at h
    | cons b m =>
      have hlm : l.length = m.length := by simpa using h
      rw [numOf_cons, numOf_cons, hlm] at hn
      have h1 := numOf_lt l
      have h2 := numOf_lt m
      rw [hlm] at h1
      have hp : 0 < 256 ^ m.length := Nat.pow_pos (by omega)
      have hab : a.toNat = b.toNat := by
        have e1 : (a.toNat * 256 ^ m.length + numOf l) / 256 ^ m.length = a.toNat := by rw [Nat.mul_comm, Nat.mul_add_div hp, Nat.div_eq_of_lt h1, Nat.add_zero]
        have e2 : (b.toNat * 256 ^ m.length + numOf m) / 256 ^ m.length = b.toNat := by rw [Nat.mul_comm, Nat.mul_add_div hp, Nat.div_eq_of_lt h2, Nat.add_zero]
        rw [← e1, hn, e2]
      rw [hab] at hn
      rw [UInt8.toNat_inj.1 hab, ih m hlm (by omega)]
theorem beL_numOf (l : List UInt8) : beL (numOf l) l.length = l :=
  numOf_inj _ _ (beL_len _ _) (by rw [numOf_beL, Nat.mod_eq_of_lt (numOf_lt l)])
theorem two_pow8 (k : Nat) : (2 : Nat) ^ (8 * k) = 256 ^ k := by rw [Nat.pow_mul]

theorem pow_cast (k : Nat) : ((256 ^ k : Nat) : Int) = 2 ^ (8 * k) := by
  rw [← two_pow8, Int.natCast_pow]; rfl
/-- What BytesNum gives NumBytes takes back. -/
theorem numB_numOf (s : ByteArray) (h1 : 1 ≤ s.size) (h7 : s.size ≤ 7) : str (numB (numOf s.data.toList : Int) (s.size : Int)) = s := by
  have hb := numOf_lt s.data.toList
  rw [len_data] at hb
  have hp := pow_cast s.size
  rw [numB_yes ⟨by omega, by omega, by omega, by rw [Int.toNat_natCast]; omega⟩, Int.toNat_natCast, Int.toNat_natCast]
  have := beL_numOf s.data.toList
  rw [len_data] at this
  rw [this, str_of]
/-- NumBytes gives nothing, or k bytes whose number is n. -/
theorem numB_cases (n k : Int) : numB n k = [] ∨ ((numB n k).length = k.toNat ∧ 1 ≤ k ∧ k ≤ 7 ∧ 0 ≤ n ∧ (numOf (numB n k) : Int) = n) := by
  unfold numB
  split
  · rename_i h
    obtain ⟨h1, h7, h0, hb⟩ := h
    have hp := pow_cast k.toNat
    refine .inr ⟨beL_len _ _, h1, h7, h0, ?_⟩
    rw [numOf_beL, Nat.mod_eq_of_lt (by omega)]
    omega
  · exact .inl rfl

theorem bytesLess_num : ∀ (l m : List UInt8), l.length = m.length → Op.bytesLess l m = decide (numOf l < numOf m) := by
  intro l
  induction l with
  | nil => intro m h; obtain rfl := List.eq_nil_of_length_eq_zero h.symm; rfl
  | cons a l ih =>
    intro m h
    cases m with
    | nil => simp at h
    | cons b m =>
      have hlm : l.length = m.length := by simpa using h
      have h1 := numOf_lt l
      have h2 := numOf_lt m
      rw [hlm] at h1
      rw [numOf_cons, numOf_cons, hlm]
      have hp : 0 < 256 ^ m.length := Nat.pow_pos (by omega)
      generalize 256 ^ m.length = P at *
      have hstep : Op.bytesLess (a :: l) (b :: m) = (decide (a < b) || (a == b && Op.bytesLess l m)) := rfl
      rw [hstep, ih m hlm]
      rcases Nat.lt_trichotomy a.toNat b.toNat with hab | hab | hab
      · have hm : (a.toNat + 1) * P ≤ b.toNat * P := Nat.mul_le_mul_right _ hab
        rw [Nat.add_mul, Nat.one_mul] at hm
        have h3 : a.toNat * P + numOf l < b.toNat * P + numOf m := by omega
        have h4 : a < b := UInt8.lt_iff_toNat_lt.2 hab
        rw [decide_eq_true h4, decide_eq_true h3]
        rfl
      · have h5 : a = b := UInt8.toNat_inj.1 hab
        subst h5
        have h4 : ¬ a < a := fun c => by have := UInt8.lt_iff_toNat_lt.1 c; omega
        rw [decide_eq_false h4]
        simp
      · have hm : (b.toNat + 1) * P ≤ a.toNat * P := Nat.mul_le_mul_right _ hab
        rw [Nat.add_mul, Nat.one_mul] at hm
        have h3 : ¬ a.toNat * P + numOf l < b.toNat * P + numOf m := by omega
        have h4 : ¬ a < b := fun c => by have := UInt8.lt_iff_toNat_lt.1 c; omega
        have h5 : (a == b) = false := by
          rw [beq_eq_false_iff_ne]
          intro c; subst c; omega
        rw [decide_eq_false h4, decide_eq_false h3, h5]
        rfl

theorem xor_xor (a b : UInt8) : (a ^^^ b) ^^^ b = a := by rw [UInt8.xor_assoc, UInt8.xor_self, UInt8.xor_zero]
theorem xorL_len (a b : List UInt8) (h : a.length = b.length) : (xorL a b).length = a.length := by rw [xorL_eq h, List.length_zipWith]; omega
theorem xorL_twice (a b : List UInt8) (h : a.length = b.length) : xorL (xorL a b) b = a := by
  rw [xorL_eq (by rw [xorL_len a b h]; exact h), xorL_eq h]
  apply List.ext_getElem?
  intro i
  by_cases hi : i < a.length
  · have hib : i < b.length := by omega
    simp [List.getElem?_zipWith, hi, hib, xor_xor]
  · rw [List.getElem?_eq_none (by simp; omega), List.getElem?_eq_none (by omega)]
theorem xorL_comm (a b : List UInt8) : xorL b a = xorL a b := by
  by_cases h : a.length = b.length
  · rw [xorL_eq h, xorL_eq h.symm, List.zipWith_comm_of_comm]
    intro x y; exact UInt8.xor_comm x y
  · rw [xorL_ne h, xorL_ne (fun c => h c.symm)]
theorem xorL_self (a : List UInt8) : xorL a a = List.replicate a.length 0 := by
  rw [xorL_eq rfl]
  apply List.ext_getElem?
  intro i
  by_cases hi : i < a.length
  · simp [hi]
  · rw [List.getElem?_eq_none (by simp; omega), List.getElem?_eq_none (by simp; omega)]

end Go.My

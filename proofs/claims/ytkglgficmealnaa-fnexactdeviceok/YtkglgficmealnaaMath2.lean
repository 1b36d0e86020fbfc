/- Plain facts on reading hexadecimal digits. Nothing of the program is named. -/
import Derived.Test.YtkglgficmealnaaMath1
namespace Go.My
open Go.RowKit
set_option linter.unusedVariables false

/-- What a digit is worth; nothing for another byte. -/
def hexN (n : Nat) : Option Nat := if 48 ≤ n ∧ n ≤ 57 then some (n - 48) else if 97 ≤ n ∧ n ≤ 102 then some (n - 87) else none
theorem hexN_lo {n : Nat} (h1 : 48 ≤ n) (h2 : n ≤ 57) : hexN n = some (n - 48) := if_pos ⟨h1, h2⟩
theorem hexN_hi {n : Nat} (h1 : 97 ≤ n) (h2 : n ≤ 102) : hexN n = some (n - 87) := by unfold hexN; rw [if_neg (by omega), if_pos ⟨h1, h2⟩]
theorem hexN_no {n : Nat} (h1 : ¬ (48 ≤ n ∧ n ≤ 57)) (h2 : ¬ (97 ≤ n ∧ n ≤ 102)) : hexN n = none := by unfold hexN; rw [if_neg h1, if_neg h2]
theorem hexN_lt {n v : Nat} (h : hexN n = some v) : v < 16 := by
  unfold hexN at h
  split at h
  · simp at h; omega
  · split at h
    · simp at h; omega
    · simp at h
/-- Byte q of a string as a number; 0 behind its end. -/
def byteAt (s : ByteArray) (q : Nat) : Nat := (s.data.toList.getD q 0).toNat
theorem byteAt_get (s : ByteArray) (q : Nat) (h : q < s.size) : s[q].toNat = byteAt s q := by
  unfold byteAt
  have : q < s.data.toList.length := by rw [len_data]; exact h
  rw [List.getD_eq_getElem?_getD, List.getElem?_eq_getElem this]
  rfl
def nib (s : ByteArray) (q : Nat) : Nat := (hexN (byteAt s q)).getD 0
theorem nib_lt (s : ByteArray) (q : Nat) : nib s q < 16 := by
  unfold nib
  cases h : hexN (byteAt s q) with
  | none => simp
  | some v => exact hexN_lt h
def digits (s : ByteArray) (p : Nat) : Prop := ∀ q, q < p → (hexN (byteAt s q)).isSome = true
theorem digits_succ {s : ByteArray} {p : Nat} (h : digits s p) (hp : (hexN (byteAt s p)).isSome = true) : digits s (p + 1) := fun q hq => by
  by_cases e : q = p
  · subst e; exact hp
  · exact h q (by omega)
/-- The bytes that pairs of digits give. -/
def unhexL (s : ByteArray) : List UInt8 := (List.range (s.size / 2)).map fun q => UInt8.ofNat (16 * nib s (2 * q) + nib s (2 * q + 1))
open Classical in
noncomputable def hexRes (s : ByteArray) : Value := if s.size % 2 = 0 ∧ digits s s.size then .tuple #[.string (str (unhexL s)), .bool true] else .tuple #[.string (str []), .bool false]
theorem hexRes_yes {s : ByteArray} (h : s.size % 2 = 0) (hd : digits s s.size) : hexRes s = .tuple #[.string (str (unhexL s)), .bool true] := if_pos ⟨h, hd⟩
theorem hexRes_odd {s : ByteArray} (h : ¬ s.size % 2 = 0) : hexRes s = .tuple #[.string (str []), .bool false] := if_neg (fun c => h c.1)
theorem hexRes_bad {s : ByteArray} {q : Nat} (hq : q < s.size) (h : hexN (byteAt s q) = none) : hexRes s = .tuple #[.string (str []), .bool false] := if_neg (fun c => by have := c.2 q hq; rw [h] at this; simp at this)

theorem hexRes_shape (s : ByteArray) : ∃ l b, hexRes s = .tuple #[.string (str l), .bool b] := by
  unfold hexRes
  split
  · exact ⟨_, _, rfl⟩
  · exact ⟨_, _, rfl⟩

/-! A row by a function of the place. -/
def rowF (m : Nat) (f : Nat → UInt8) : List UInt8 := (List.range m).map f
theorem rowF_len (m : Nat) (f : Nat → UInt8) : (rowF m f).length = m := by simp [rowF]
theorem rowF_get (m : Nat) (f : Nat → UInt8) (j : Nat) (hj : j < m) : (cellsOf (rowF m f))[j]? = some (.int .u8 ((f j).toNat : Int)) := by simp [cellsOf, rowF, hj]
theorem rowF_set (m : Nat) (f g : Nat → UInt8) (j : Nat) (b : UInt8) (hj : g j = b) (ho : ∀ q, q < m → q ≠ j → g q = f q) : (cellsOf (rowF m f)).set j (.int .u8 (b.toNat : Int)) = cellsOf (rowF m g) := by
  apply List.ext_getElem?
  intro q
  by_cases hq : q < m
  · rw [rowF_get m g q hq, List.getElem?_set]
    by_cases e : j = q
    · subst e
      rw [if_pos rfl, if_pos (by rw [cellsOf_length, rowF_len]; exact hq), hj]
    · rw [if_neg e, rowF_get m f q hq, ho q hq (fun c => e c.symm)]
  · rw [List.getElem?_eq_none (by rw [List.length_set, cellsOf_length, rowF_len]; omega), List.getElem?_eq_none (by rw [cellsOf_length, rowF_len]; omega)]
theorem rowF_congr {m : Nat} {f g : Nat → UInt8} (h : ∀ q, q < m → f q = g q) : rowF m f = rowF m g := List.map_congr_left (fun q hq => h q (List.mem_range.1 hq))

/-- What the program's row holds when p digits have been read. -/
def prt (s : ByteArray) (p q : Nat) : UInt8 := if 2 * q + 1 < p then UInt8.ofNat (16 * nib s (2 * q) + nib s (2 * q + 1)) else if 2 * q < p then UInt8.ofNat (nib s (2 * q)) else 0
theorem prt_start (s : ByteArray) (q : Nat) : prt s 0 q = 0 := by unfold prt; rw [if_neg (by omega), if_neg (by omega)]
theorem prt_end (s : ByteArray) (q : Nat) (hq : q < s.size / 2) : prt s s.size q = UInt8.ofNat (16 * nib s (2 * q) + nib s (2 * q + 1)) := by unfold prt; rw [if_pos (by omega)]
theorem prt_other (s : ByteArray) (p q : Nat) (h : q ≠ p / 2) : prt s (p + 1) q = prt s p q := by
  unfold prt
  by_cases h1 : 2 * q + 1 < p
  · rw [if_pos h1, if_pos (by omega)]
  · rw [if_neg h1]
    by_cases h2 : 2 * q < p
    · omega
    · rw [if_neg h2, if_neg (by omega), if_neg (by omega)]
theorem or_zero (v : Nat) (hv : v < 16) : bits .or .u8 0 (v : Int) = (v : Int) := by
  have := u8_or_nat 0 v (by omega) (by omega)
  simpa using this
theorem or_nib (a v : Nat) (ha : a < 16) (hv : v < 16) : bits .or .u8 ((a : Int) * 16 % 256) (v : Int) = ((16 * a + v : Nat) : Int) := by
  have e : (a : Int) * 16 % 256 = ((a * 16 : Nat) : Int) := by omega
  rw [e, u8_or_nat _ _ (by omega) (by omega), nat_join 4 (a * 16) v (by omega) (by omega)]
  omega
theorem prt_val (s : ByteArray) (p : Nat) : bits .or .u8 (((prt s p (p / 2)).toNat : Int) * 16 % 256) (nib s p : Int) = ((prt s (p + 1) (p / 2)).toNat : Int) := by
  have h1 := nib_lt s p
  unfold prt
  by_cases he : p % 2 = 0
  · have e : 2 * (p / 2) = p := by omega
    rw [e, if_neg (by omega), if_neg (by omega), if_neg (by omega), if_pos (by omega)]
    have := or_zero (nib s p) h1
    rw [UInt8.toNat_ofNat']
    rw [Nat.mod_eq_of_lt (by omega)]
    exact this
  · have e : 2 * (p / 2) = p - 1 := by omega
    have h2 := nib_lt s (p - 1)
    rw [e, if_neg (by omega), if_pos (by omega), if_pos (by omega), show p - 1 + 1 = p by omega]
    have := or_nib (nib s (p - 1)) (nib s p) h2 h1
    rw [UInt8.toNat_ofNat', UInt8.toNat_ofNat', Nat.mod_eq_of_lt (by omega), Nat.mod_eq_of_lt (by omega)]
    exact this

end Go.My

/- The key stream, and data under it. Nothing of the program is named. -/
import Derived.Test.YtgjnoleejbkddaaDoorGCha5
namespace Go.My
open Go.RowKit
set_option linter.unusedVariables false
def padC (k n : List UInt8) : Nat → List UInt8
  | 0 => []
  | j + 1 => padC k n j ++ cOut (textL k j n) 16
theorem padC_len (k n : List UInt8) : ∀ j, (padC k n j).length = 64 * j
  | 0 => rfl
  | j + 1 => by
    show (padC k n j ++ cOut (textL k j n) 16).length = _
    rw [List.length_append, padC_len k n j, cOut_len]
    omega
theorem padC_take (k n : List UInt8) (i : Nat) : ∀ j, i ≤ j → (padC k n j).take (64 * i) = padC k n i
  | 0, h => by
    obtain rfl : i = 0 := by omega
    rfl
  | j + 1, h => by
    by_cases c : i = j + 1
    · subst c
      exact List.take_of_length_le (by rw [padC_len]; exact Nat.le_refl _)
    · show (padC k n j ++ cOut (textL k j n) 16).take (64 * i) = _
      rw [List.take_append_of_le_length (by rw [padC_len]; omega)]
      exact padC_take k n i j (by omega)
theorem padC_block (k n : List UInt8) (i j : Nat) (h : i < j) : ((padC k n j).drop (64 * i)).take 64 = cOut (textL k i n) 16 := by
  have h1 := padC_take k n (i + 1) j h
  have e : (padC k n j).take (64 * (i + 1)) = (padC k n j).take (64 * i) ++ ((padC k n j).drop (64 * i)).take 64 := by
    rw [show 64 * (i + 1) = 64 * i + 64 by omega, List.take_add]
  rw [h1, padC_take k n i j (by omega)] at e
  exact (List.append_cancel_left (show padC k n i ++ cOut (textL k i n) 16 = _ from e)).symm
def strmL (k n d : List UInt8) : List UInt8 := List.zipWith (· ^^^ ·) d (padC k n 7)
theorem strmL_len (k n d : List UInt8) (h : d.length ≤ 448) : (strmL k n d).length = d.length := by
  unfold strmL
  rw [List.length_zipWith, padC_len]
  omega
theorem zip_cut (a b : List UInt8) (m : Nat) (h : a.length ≤ m) : List.zipWith (· ^^^ ·) a (b.take m) = List.zipWith (· ^^^ ·) a b := by
  have e := List.take_zipWith (f := fun x y : UInt8 => x ^^^ y) (l := a) (l' := b) (i := m)
  rw [List.take_of_length_le (by rw [List.length_zipWith]; omega), List.take_of_length_le h] at e
  exact e.symm
theorem strm_step (k n d : List UInt8) (i : Nat) (h : i < 7) : (strmL k n d).take (64 * (i + 1)) = (strmL k n d).take (64 * i) ++ List.zipWith (· ^^^ ·) ((d.drop (64 * i)).take 64) (cOut (textL k i n) 16) := by
  rw [show 64 * (i + 1) = 64 * i + 64 by omega, List.take_add]
  congr 1
  unfold strmL
  rw [List.drop_zipWith, List.take_zipWith, padC_block k n i 7 h]
/-- The pad of j blocks is enough for what is no longer. -/
theorem strm_pad (k n d : List UInt8) (j : Nat) (h : j ≤ 7) (hd : d.length ≤ 64 * j) : List.zipWith (· ^^^ ·) d ((padC k n j).take d.length) = strmL k n d := by
  rw [zip_cut _ _ _ (Nat.le_refl _)]
  unfold strmL
  rw [← padC_take k n j 7 h, zip_cut _ _ _ hd]
abbrev StrP (k n d : ByteArray) : Prop := k.size = 32 ∧ n.size = 12 ∧ d.size ≤ 400
def strE (k n d : ByteArray) : ByteArray := str (strmL k.data.toList n.data.toList d.data.toList)
def strV (k n d : ByteArray) : ByteArray := if StrP k n d then strE k n d else ByteArray.mk #[]
theorem ext_take (d : ByteArray) (a e : Nat) (he : e ≤ d.size) : (d.extract a e).data.toList = (d.data.toList.drop a).take (e - a) := by
  rw [ByteArray.data_extract, Array.toList_extract, List.extract_eq_take_drop]
end Go.My

/- Streams: twice is the data, of a beginning the beginning. Nothing of the program is named. -/
import Derived.Test.YtgjnoleejbkddaaDoorGChb1
namespace Go.My
open Go.RowKit
set_option linter.unusedVariables false
theorem xor2 : ∀ a b : List UInt8, a.length ≤ b.length → List.zipWith (· ^^^ ·) (List.zipWith (· ^^^ ·) a b) b = a
  | [], _, _ => by simp
  | x :: a, [], h => by simp at h
  | x :: a, y :: b, h => by
    simp only [List.zipWith_cons_cons]
    rw [xor2 a b (by simpa using h), UInt8.xor_assoc, UInt8.xor_self, UInt8.xor_zero]
theorem strE_size (k n d : ByteArray) (h : d.size ≤ 448) : (strE k n d).size = d.size := by
  unfold strE
  rw [str_size, strmL_len _ _ _ (by rw [len_data]; exact h), len_data]
theorem strV_twice (k n d : ByteArray) (h : StrP k n d) : strV k n (strE k n d) = d := by
  have hz := strE_size k n d (by have := h.2.2; omega)
  have hP : StrP k n (strE k n d) := ⟨h.1, h.2.1, by rw [hz]; exact h.2.2⟩
  unfold strV
  rw [if_pos hP]
  unfold strE strmL
  rw [str_list, xor2 _ _ (by rw [padC_len, len_data]; have := h.2.2; omega), str_of]
theorem strV_pre (k n d : ByteArray) (e : Nat) (he : e ≤ d.size) (h : StrP k n d) : strV k n (d.extract 0 e) = (strE k n d).extract 0 e := by
  have hz := strE_size k n d (by have := h.2.2; omega)
  have hP : StrP k n (d.extract 0 e) := ⟨h.1, h.2.1, by rw [ByteArray.size_extract]; have := h.2.2; omega⟩
  unfold strV
  rw [if_pos hP]
  rw [← str_of ((strE k n d).extract 0 e), ext_take _ _ _ (by rw [hz]; exact he)]
  unfold strE strmL
  rw [str_list, ext_take _ _ _ he, List.drop_zero, List.drop_zero, Nat.sub_zero, List.take_zipWith, zip_cut _ _ _ (by rw [List.length_take]; omega)]

end Go.My

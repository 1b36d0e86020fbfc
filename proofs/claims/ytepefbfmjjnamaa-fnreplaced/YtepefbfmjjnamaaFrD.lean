/- Frames taken off a text, one after another. Nothing of the program is named. -/
import Derived.Test.YtepefbfmjjnamaaFrA
namespace Go.My
open Go.RowKit
set_option linter.unusedVariables false

/-- The length that a frame's head says. -/
def frN (r : ByteArray) : Nat := numOf (r.extract 0 4).data.toList
def frOk (r : ByteArray) : Prop := 8 ≤ r.size ∧ frN r ≤ 100000 ∧ 8 + frN r ≤ r.size ∧ str (leB (crcV (r.extract 8 (8 + frN r)).data.toList) 4) = r.extract 4 8
instance (r : ByteArray) : Decidable (frOk r) := by unfold frOk; exact inferInstance
def frHd (r : ByteArray) : ByteArray := r.extract 8 (8 + frN r)
def frTl (r : ByteArray) : ByteArray := r.extract (8 + frN r) r.size
/-- The frames of a text, and what is left. -/
def takeF : Nat → ByteArray → List ByteArray × ByteArray
  | 0, r => ([], r)
  | n + 1, r => if frOk r then (frHd r :: (takeF n (frTl r)).1, (takeF n (frTl r)).2) else ([], r)
theorem takeF_no {n : Nat} {r : ByteArray} (h : ¬ frOk r) : takeF n r = ([], r) := by cases n with | zero => rfl | succ n => exact if_neg h
theorem takeF_yes {n : Nat} {r : ByteArray} (h : frOk r) : takeF (n + 1) r = (frHd r :: (takeF n (frTl r)).1, (takeF n (frTl r)).2) := if_pos h
theorem frTl_size {r : ByteArray} (h : frOk r) : (frTl r).size + (8 + frN r) = r.size := by
  unfold frTl
  rw [ByteArray.size_extract]
  have := h.2.2.1
  omega
theorem takeF_len : ∀ (n : Nat) (r : ByteArray), (takeF n r).1.length ≤ n ∧ 8 * (takeF n r).1.length ≤ r.size ∧ (takeF n r).2.size ≤ r.size
  | 0, r => by simp [takeF]
  | n + 1, r => by
    by_cases h : frOk r
    · rw [takeF_yes h]
      have := takeF_len n (frTl r)
      have h2 := frTl_size h
      simp only [List.length_cons]
      omega
    · rw [takeF_no h]; simp
/-- Behind j frames of the text: those taken, what is left of the text. -/
def FrAt (s : ByteArray) (l : List ByteArray) (r : ByteArray) (n : Nat) : Prop := r.size ≤ n ∧ l ++ (takeF n r).1 = (takeF s.size s).1 ∧ (takeF n r).2 = (takeF s.size s).2 ∧ r.size + 8 * l.length ≤ s.size ∧ r = s.extract (s.size - r.size) s.size
theorem ext_all (s : ByteArray) : s.extract 0 s.size = s := ByteArray.extract_zero_size
theorem FrAt.start (s : ByteArray) : FrAt s [] s s.size := ⟨Nat.le_refl _, rfl, rfl, by simp, by rw [Nat.sub_self, ext_all]⟩
theorem FrAt.stop {s r : ByteArray} {l : List ByteArray} {n : Nat} (h : FrAt s l r n) (hn : ¬ frOk r) : l = (takeF s.size s).1 ∧ r = (takeF s.size s).2 := by
  obtain ⟨_, h1, h2, _⟩ := h
  rw [takeF_no hn] at h1 h2
  exact ⟨by simpa using h1, h2⟩
theorem ext_tail {s r : ByteArray} {k : Nat} (h : r = s.extract (s.size - r.size) s.size) (hk : k ≤ r.size) (hr : r.size ≤ s.size) : r.extract k r.size = s.extract (s.size - (r.size - k)) s.size := by
  have h1 : r.extract k r.size = (s.extract (s.size - r.size) s.size).extract k r.size := by rw [← h]
  have h2 : min (s.size - r.size + r.size) s.size = s.size := by omega
  have h3 : s.size - r.size + k = s.size - (r.size - k) := by omega
  rw [h1, ByteArray.extract_extract, h2, h3]
theorem FrAt.next {s r : ByteArray} {l : List ByteArray} {n : Nat} (h : FrAt s l r n) (hn : frOk r) : ∃ m, n = m + 1 ∧ FrAt s (l ++ [frHd r]) (frTl r) m := by
  obtain ⟨h0, h1, h2, h3, h4⟩ := h
  have hz := frTl_size hn
  have h8 := hn.1
  obtain ⟨m, rfl⟩ : ∃ m, n = m + 1 := ⟨n - 1, by omega⟩
  rw [takeF_yes hn] at h1 h2
  have h1' : (l ++ [frHd r]) ++ (takeF m (frTl r)).1 = (takeF s.size s).1 := by rw [List.append_assoc, ← h1]; rfl
  have hl : (l ++ [frHd r]).length = l.length + 1 := by rw [List.length_append, List.length_singleton]
  refine ⟨m, rfl, by omega, h1', h2, by rw [hl]; omega, ?_⟩
  have hs : frTl r = r.extract (8 + frN r) r.size := rfl
  have h82 := hn.2.2.1
  rw [hs]
  generalize frN r = N at *
  have e : (r.extract (8 + N) r.size).size = r.size - (8 + N) := by rw [ByteArray.size_extract]; omega
  rw [e]
  exact ext_tail h4 h82 (by omega)

end Go.My

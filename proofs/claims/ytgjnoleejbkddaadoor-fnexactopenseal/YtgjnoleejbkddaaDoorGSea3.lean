/- What OpenSeal answers, as a function on strings; it undoes Seal, and Seal undoes it. -/
import Derived.Test.YtgjnoleejbkddaaDoorGSea2
import Derived.Test.YtgjnoleejbkddaaDoorGChb4
namespace Go.Proofs.YtgjnoleejbkddaaDoor
open Go.RowKit Go.My Go.Lib
set_option linter.unusedVariables false
set_option maxRecDepth 100000

abbrev OsF (k ad s : ByteArray) : Prop := 32 ≤ s.size ∧ k.size = 32 ∧ ad.size ≤ 300 ∧ s.size - 32 ≤ 400
def osH (s : ByteArray) : ByteArray := s.extract 0 (s.size - 32)
def osT (s : ByteArray) : ByteArray := s.extract (s.size - 32) s.size
def OsP (k ad s : ByteArray) : Prop := OsF k ad s ∧ tagV (skM k) ad (osH s) = osT s
instance (k ad s : ByteArray) : Decidable (OsP k ad s) := inferInstanceAs (Decidable (_ ∧ _))
def osV (k ad s : ByteArray) : ByteArray := if OsP k ad s then seC k (osH s) else ByteArray.mk #[]
def osB (k ad s : ByteArray) : Bool := decide (OsP k ad s)
theorem osV_yes {k ad s : ByteArray} (h : OsP k ad s) : osV k ad s = seC k (osH s) := if_pos h
theorem osV_no {k ad s : ByteArray} (h : ¬ OsP k ad s) : osV k ad s = ByteArray.mk #[] := if_neg h
theorem osB_yes {k ad s : ByteArray} (h : OsP k ad s) : osB k ad s = true := decide_eq_true h
theorem osB_no {k ad s : ByteArray} (h : ¬ OsP k ad s) : osB k ad s = false := decide_eq_false h
theorem osH_size (s : ByteArray) : (osH s).size = s.size - 32 := by unfold osH; rw [ByteArray.size_extract]; omega
theorem osT_size (s : ByteArray) (h : 32 ≤ s.size) : (osT s).size = 32 := by unfold osT; rw [ByteArray.size_extract]; omega
theorem osHT (s : ByteArray) : osH s ++ osT s = s := by
  unfold osH osT
  rw [ByteArray.extract_append_extract, Nat.min_eq_left (by omega), Nat.max_eq_right (by omega), ByteArray.extract_zero_size]
theorem osV_size (k ad s : ByteArray) : (osV k ad s).size ≤ 400 := by
  by_cases h : OsP k ad s
  · rw [osV_yes h, seC_size k _ (by rw [osH_size]; exact h.1.2.2.2), osH_size]
    exact h.1.2.2.2
  · rw [osV_no h]
    exact Nat.zero_le _
theorem seC_twice (k d : ByteArray) (h : d.size ≤ 400) : seC k (seC k d) = d := by
  have hs := seC_size k d h
  rw [← strV_sk k (seC k d) (by omega)]
  exact strV_twice (skC k) (skN k) d ⟨skC_size k, skN_size k, h⟩
theorem seE_size (k ad d : ByteArray) (h : d.size ≤ 400) : (seE k ad d).size = d.size + 32 := by
  unfold seE
  rw [ByteArray.size_append, seC_size k d h, tagV_size]
theorem seV_yes {k ad d : ByteArray} (h : SeP k ad d) : seV k ad d = seE k ad d := if_pos h
theorem seV_no {k ad d : ByteArray} (h : ¬ SeP k ad d) : seV k ad d = ByteArray.mk #[] := if_neg h
theorem seV_size (k ad d : ByteArray) : (seV k ad d).size ≤ 432 := by
  by_cases h : SeP k ad d
  · rw [seV_yes h, seE_size k ad d h.2.2]
    have := h.2.2
    omega
  · rw [seV_no h]
    exact Nat.zero_le _
theorem osH_seE (k ad d : ByteArray) (h : d.size ≤ 400) : osH (seE k ad d) = seC k d := by
  unfold osH
  rw [seE_size k ad d h]
  unfold seE
  exact ByteArray.extract_append_eq_left (by rw [seC_size k d h]; omega)
theorem osT_seE (k ad d : ByteArray) (h : d.size ≤ 400) : osT (seE k ad d) = tagV (skM k) ad (seC k d) := by
  unfold osT
  rw [seE_size k ad d h]
  unfold seE
  exact ByteArray.extract_append_eq_right (by rw [seC_size k d h]; omega) (by rw [seC_size k d h, tagV_size])
theorem os_se (k ad d : ByteArray) (h : SeP k ad d) : OsP k ad (seE k ad d) ∧ osV k ad (seE k ad d) = d := by
  have hs := seE_size k ad d h.2.2
  have hp : OsP k ad (seE k ad d) := by
    refine ⟨⟨by omega, h.1, h.2.1, by rw [hs]; have := h.2.2; omega⟩, ?_⟩
    rw [osH_seE k ad d h.2.2, osT_seE k ad d h.2.2]
  exact ⟨hp, by rw [osV_yes hp, osH_seE k ad d h.2.2, seC_twice k d h.2.2]⟩
theorem se_os (k ad s : ByteArray) (h : OsP k ad s) : SeP k ad (osV k ad s) ∧ seV k ad (osV k ad s) = s := by
  have hz := osH_size s
  have h4 := h.1.2.2.2
  have hs := seC_size k (osH s) (by omega)
  have hp : SeP k ad (osV k ad s) := ⟨h.1.2.1, h.1.2.2.1, osV_size k ad s⟩
  refine ⟨hp, ?_⟩
  rw [seV_yes hp, osV_yes h]
  unfold seE
  rw [seC_twice k (osH s) (by omega), h.2, osHT]

end Go.Proofs.YtgjnoleejbkddaaDoor

/- The contract of the specification's l3Full. -/
import Derived.Test.YtcaepcfgeelojaaLim1
import Derived.Test.YtcaepcfgeelojaaMathB
namespace Go.Proofs.Ytcaepcfgeelojaa
open Go.RowKit Go.My Go.Lib
set_option linter.unusedVariables false

theorem qF_bd (g : Nat → Int) (h : Low g) (i : Nat) (hi : i ≤ 10) : -20 ≤ qF g i ∧ qF g i ≤ 20 := by
  induction i with
  | zero => have := h.2 9 (by omega) (by omega); rw [show kh 9 = 16777216 from rfl] at this; unfold qF; omega
  | succ i ih =>
    have hq := ih (by omega)
    have hg : -33554532 ≤ g i ∧ g i ≤ 33554532 := by
      by_cases c : i = 0
      · subst c; exact h.1
      · have := h.2 i (by omega) (by omega); have := kh_le i; omega
    show -20 ≤ (g i + qF g i) / kw i ∧ (g i + qF g i) / kw i ≤ 20
    rcases kw_cases i with ⟨_, e, _⟩ | ⟨_, e, _⟩ <;> rw [e] <;> omega
theorem off_bd (g : Nat → Int) (h : Low g) (i : Nat) (hi : i < 10) : -33555000 ≤ offQ g i ∧ offQ g i ≤ 33555000 := by
  have hq := qF_bd g h 10 (by omega)
  unfold offQ
  by_cases c : i = 0
  · rw [if_pos c]; have := h.1; omega
  · rw [if_neg c]; have := h.2 i (by omega) hi; have := kh_le i; omega
theorem fC_bd (o : Nat → Int) (h : ∀ i, i < 10 → -33555000 ≤ o i ∧ o i ≤ 33555000) (i : Nat) (hi : i ≤ 10) : -20 ≤ fC o i ∧ fC o i ≤ 20 := by
  induction i with
  | zero => unfold fC; omega
  | succ i ih =>
    have hq := ih (by omega)
    have hg := h i (by omega)
    show -20 ≤ (o i + fC o i) / kw i ∧ (o i + fC o i) / kw i ≤ 20
    rcases kw_cases i with ⟨_, e, _⟩ | ⟨_, e, _⟩ <;> rw [e] <;> omega
/-- The row when i limbs are at their least. -/
def fS (o : Nat → Int) (i q : Nat) : Int := if q < i then fD o q else if q = i then o i + fC o i else o q
theorem fS_at (o : Nat → Int) (i : Nat) : fS o i i = o i + fC o i := by unfold fS; rw [if_neg (by omega), if_pos rfl]
theorem fS_done (o : Nat → Int) (i : Nat) : fS o (i + 1) i = fD o i := by unfold fS; rw [if_pos (by omega)]
theorem fS_high (o : Nat → Int) (i q : Nat) (h : i < q) : fS o i q = o q := by unfold fS; rw [if_neg (by omega), if_neg (by omega)]
theorem fS_keep (o : Nat → Int) (i q : Nat) (a : q ≠ i) (b : q ≠ i + 1) : fS o (i + 1) q = fS o i q := by
  unfold fS
  by_cases h : q < i
  · rw [if_pos h, if_pos (by omega)]
  · rw [if_neg h, if_neg (by omega), if_neg b, if_neg a]
theorem fS_zero (o : Nat → Int) : fS o 0 = o := by
  funext q
  unfold fS
  rw [if_neg (by omega)]
  split
  · rename_i h; subst h; show o 0 + 0 = o 0; omega
  · rfl
theorem fS_all (o : Nat → Int) : rwA .i64 10 (fS o 10) = rwA .i64 10 (fD o) := rwA_congr _ _ (fun q hq => if_pos hq)

end Go.Proofs.Ytcaepcfgeelojaa

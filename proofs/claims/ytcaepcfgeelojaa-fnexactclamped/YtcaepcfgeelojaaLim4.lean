/- The contract of the specification's l3Read. -/
import Derived.Test.YtcaepcfgeelojaaLim1
import Derived.Test.YtcaepcfgeelojaaMathB
namespace Go.Proofs.Ytcaepcfgeelojaa
open Go.RowKit Go.My Go.Lib
set_option linter.unusedVariables false

/-- The limbs when limb i has k of its bits. -/
def rdF (n i k q : Nat) : Int := if q < i then digZ n q else if q = i then ((n / 2 ^ wo i % 2 ^ k : Nat) : Int) else 0
theorem rdF_zero (n : Nat) : rdF n 0 0 = fun _ => 0 := by
  funext q
  unfold rdF
  rw [if_neg (by omega)]
  split
  · simp [Nat.mod_one]
  · rfl
theorem rdF_next (n i : Nat) : rdF n i (bwn i) = rdF n (i + 1) 0 := by
  funext q
  unfold rdF
  by_cases h : q < i
  · rw [if_pos h, if_pos (by omega)]
  · rw [if_neg h]
    by_cases h2 : q = i
    · subst h2
      rw [if_pos rfl, if_pos (by omega)]
      rfl
    · rw [if_neg h2, if_neg (by omega)]
      split
      · simp [Nat.mod_one]
      · rfl
theorem rdF_all (n : Nat) : rwA .i64 10 (rdF n 10 0) = rwA .i64 10 (digZ n) := rwA_congr _ _ (fun q hq => if_pos hq)
theorem rdF_at (n i k : Nat) : rdF n i k i = ((n / 2 ^ wo i % 2 ^ k : Nat) : Int) := by unfold rdF; rw [if_neg (by omega), if_pos rfl]
theorem rdF_set (n i k : Nat) (hi : i < 10) : (rwA .i64 10 (rdF n i k)).setIfInBounds i (.int .i64 ((n / 2 ^ wo i % 2 ^ (k + 1) : Nat) : Int)) = rwA .i64 10 (rdF n i (k + 1)) :=
  rwA_set _ _ _ _ i hi _ (rdF_at n i (k + 1)) (fun q _ hq => by
    unfold rdF
    by_cases h : q < i
    · rw [if_pos h, if_pos h]
    · rw [if_neg h, if_neg h, if_neg hq, if_neg hq])

end Go.Proofs.Ytcaepcfgeelojaa

/- Keys, counts: the small checks of both sides. -/
import Derived.Test.YtkglgficmealnaaKn0
import Derived.Test.YtkglgficmealnaaKeys
import Derived.Test.YtkglgficmealnaaSmall
namespace Go.Proofs.Ytkglgficmealnaa
open Go.RowKit Go.My Go.Lib
set_option linter.unusedVariables false

def k32 (s : ByteArray) : Bool := ((s.size : Int) == 32)
def cntB (n : Int) : Bool := decide (0 ≤ n) && decide (n ≤ 1000)
theorem isKey_b (s : ByteArray) (w : World) : Calls Try.prog 63 #[.string s] w fun e w' => e = .returned (.bool (k32 s)) ∧ w = w' := isKey_k s w _ rfl
theorem l1Key_b (s : ByteArray) (w : World) : Calls Try.prog 28 #[.string s] w fun e w' => e = .returned (.bool (k32 s)) ∧ w = w' := l1Key_k s w _ rfl
theorem noneOr_full {s : ByteArray} (h : ¬ s.size = 0) : k32 s = noneOr s := by
  unfold k32 noneOr
  by_cases c : s.size = 32
  · rw [decide_eq_true (Or.inr c)]; simp; omega
  · rw [decide_eq_false (by omega)]; simp; omega
theorem keyOrNone_b (s : ByteArray) (w : World) : Calls Try.prog 33 #[.string s] w fun e w' => e = .returned (.bool (noneOr s)) ∧ w = w' := by
  by_cases h : s.size = 0
  · obtain rfl := emptyS h
    clear h
    go_enter Try.func33, Try.ntmps33
    go_wp2
    go_ret
    exact ⟨rfl, rfl⟩
  · have he := fullS h
    have HV := Lib.hid (noneOr_full h)
    clear h
    go_enter Try.func33, Try.ntmps33
    go_wp2_with fail
    refine (isKey_b s _).mono ?_
    rintro e w' ⟨rfl, rfl⟩
    rw [HV.out]
    go_wp2
    go_ret
    exact ⟨rfl, rfl⟩
theorem l7Key_b (s : ByteArray) (w : World) : Calls Try.prog 29 #[.string s] w fun e w' => e = .returned (.bool (noneOr s)) ∧ w = w' := by
  by_cases h : s.size = 0
  · obtain rfl := emptyS h
    clear h
    go_enter Try.func29, Try.ntmps29
    go_wp2
    go_ret
    exact ⟨rfl, rfl⟩
  · have he := fullS h
    have HV := Lib.hid (noneOr_full h)
    clear h
    go_enter Try.func29, Try.ntmps29
    go_wp2_with fail
    refine (l1Key_b s _).mono ?_
    rintro e w' ⟨rfl, rfl⟩
    rw [HV.out]
    go_wp2
    go_ret
    exact ⟨rfl, rfl⟩
theorem l5N_b (n : Int) (w : World) : Calls Try.prog 30 #[.int .i64 n] w fun e w' => e = .returned (.bool (cntB n)) ∧ w = w' := by
  go_enter Try.func30, Try.ntmps30
  go_wp2_with fail
  refine (in_any n 0 1000 _).mono ?_
  rintro e w1 ⟨rfl, rfl⟩
  go_wp2
  go_ret
  exact ⟨rfl, rfl⟩
theorem countOk_b (n : Int) (w : World) : Calls Try.prog 34 #[.int .i64 n] w fun e w' => e = .returned (.bool (cntB n)) ∧ w = w' := by
  unfold cntB
  by_cases h1 : 0 ≤ n
  · by_cases h2 : n ≤ 1000
    · go_enter Try.func34, Try.ntmps34
      go_wp2
      go_ret
      exact ⟨by simp [h1, h2], rfl⟩
    · go_enter Try.func34, Try.ntmps34
      go_wp2
      go_ret
      exact ⟨by simp [h2], rfl⟩
  · have hd : decide (0 ≤ n) = false := by simpa using h1
    go_enter Try.func34, Try.ntmps34
    go_wp2
    go_ret
    exact ⟨by simp, rfl⟩

end Go.Proofs.Ytkglgficmealnaa

/- The program's checks of names, files, operations. -/
import Derived.Test.YtepefbfmjjnamaaDkO
namespace Go.Proofs.Ytepefbfmjjnamaa
open Go.RowKit Go.My Go.Lib
set_option linter.unusedVariables false

theorem name_i (s : ByteArray) (w : World) (hs : s.size ≤ 9223372036854775807) : Calls Try.prog 115 #[.string s] w fun e w' => e = .returned (.bool (nameB s)) ∧ w = w' := by
  have h2 : decide ((s.size : Int) ≤ 100) = decide (s.size ≤ 100) := decide_eq_decide.2 (by omega)
  have HN : Hid (nameB s = (decide (1 ≤ s.size) && decide (s.size ≤ 100))) := rfl
  go_enter Try.func115, Try.ntmps115
  cases c : decide (1 ≤ s.size) with
  | true =>
    have c1 : (1 : Int) ≤ (s.size : Int) := by have := of_decide_eq_true c; omega
    go_wp2
    go_ret
    exact ⟨by rw [HN.out, c, ← h2]; simp, rfl⟩
  | false =>
    have c1 : ¬ (1 : Int) ≤ (s.size : Int) := by have := of_decide_eq_false c; omega
    go_wp2
    go_ret
    exact ⟨by rw [HN.out, c]; rfl, rfl⟩
theorem name_iq (s : ByteArray) (w : World) (hs : s.size ≤ 9223372036854775807) : Calls Try.prog 115 #[.string s] w fun e w' => e = .returned (.bool (nameB s)) ∧ w' = w := (name_i s w hs).mono (fun e w' h => ⟨h.1, h.2.symm⟩)

set_option maxRecDepth 100000 in
theorem cmpB_i (a b : ByteArray) (w : World) : Calls Try.prog 125 #[.string a, .string b] w fun e w' => e = .returned (.int .i64 (cmpV a b)) ∧ w = w' := by
  have hx := run_compareString (P := Try.prog) a b w
  rw [cmpV_eq] at hx
  generalize cmpV a b = V at *
  have HX := Lib.hid hx
  clear hx
  go_enter Try.func125, Try.ntmps125
  go_wp2
  rw [run_callFunc_extern Try.func129 (by kernel_rfl) (by kernel_rfl) (by kernel_rfl) (e := Extern.BytealgCompare.compare) (by kernel_rfl), HX.out]
  simp only [Result.andThen]
  rw [Oper.upon_value]
  go_wp2
  go_ret
  exact ⟨rfl, rfl⟩
theorem cmp_i (a b : ByteArray) (w : World) : Calls Try.prog 121 #[.string a, .string b] w fun e w' => e = .returned (.int .i64 (cmpV a b)) ∧ w = w' := by
  have H := Lib.hid (cmpB_i a b)
  generalize cmpV a b = V at *
  go_enter Try.func121, Try.ntmps121
  go_wp2_with fail
  refine (H.out _).mono ?_
  rintro e w' ⟨rfl, rfl⟩
  go_wp2
  go_ret
  exact ⟨rfl, rfl⟩
/-- The closure that the search is given: the name of a file against a name. -/
theorem atc_i (f : FileT) (n : ByteArray) (w : World) : Calls Try.prog 120 #[.agg #[.string f.1, .string f.2], .string n] w fun e w' => e = .returned (.int .i64 (cmpV f.1 n)) ∧ Below w.heap.size w w' := by
  have H := Lib.hid (cmp_i f.1 n)
  have hb0 : Below w.heap.size w (w.alloc (.cells #[.string f.1, .string f.2] 88)) := (boxes1 w _ _ (Below.refl _ _)).1
  generalize cmpV f.1 n = V at *
  go_enter Try.func120, Try.ntmps120
  go_wp2_with fail
  refine (H.out _).mono ?_
  rintro e w' ⟨rfl, rfl⟩
  go_wp2
  go_ret
  exact ⟨rfl, hb0⟩

end Go.Proofs.Ytepefbfmjjnamaa

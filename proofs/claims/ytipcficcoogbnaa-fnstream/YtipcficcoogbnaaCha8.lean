/- The specification's Block. -/
import Derived.Test.YtipcficcoogbnaaCha7
import Derived.Test.YtipcficcoogbnaaKeys
namespace Go.Proofs.Ytipcficcoogbnaa
open Go.RowKit Go.My Go.Lib
set_option linter.unusedVariables false
theorem l1In_c (a lo hi : Int) (w : World) : Calls Try.prog 14 #[.int .i64 a, .int .i64 lo, .int .i64 hi] w fun e w' => e = .returned (.bool (decide (lo ≤ a) && decide (a ≤ hi))) ∧ w = w' := by
  by_cases h1 : lo ≤ a
  · have d1 := decide_eq_true h1
    go_enter Try.func14, Try.ntmps14
    go_wp2
    go_ret
    exact ⟨by first | rfl | (rw [d1]; rfl), rfl⟩
  · have d1 := decide_eq_false h1
    go_enter Try.func14, Try.ntmps14
    go_wp2
    go_ret
    exact ⟨by first | rfl | (rw [d1]; rfl), rfl⟩
set_option maxHeartbeats 2000000 in
theorem block_s (k : ByteArray) (c : Int) (n : ByteArray) (w : World) (hk : k.size ≤ 1048576) (hn : n.size ≤ 1048576) :
    Calls Try.prog 6 #[.string k, .int .i64 c, .string n] w fun e w' => e = .returned (.string (blkV k c n)) ∧ Below w.heap.size w w' := by
  have hnI : (n.size : Int) ≤ 1048576 := by omega
  have CI := Lib.hid (fun w => l1In_c c 0 4294967295 w)
  by_cases h1 : k.size = 32
  case neg =>
    have HV : Hid (blkV k c n = ByteArray.mk #[]) := if_neg (fun x => h1 x.1)
    have H1 : Hid (((k.size : Int) == 32) = false) := by show _ = _; simp; omega
    generalize blkV k c n = V at *
    clear h1 hk hn
    go_enter Try.func6, Try.ntmps6
    go_wp2_with fail
    refine (l1Key_k k _ false H1.out).mono ?_
    rintro e w' ⟨rfl, rfl⟩
    go_wp2
    go_ret
    exact ⟨by rw [HV.out]; rfl, Below.refl _ _⟩
  have H1 : Hid (((k.size : Int) == 32) = true) := by show _ = _; simp; omega
  by_cases h2 : 0 ≤ c ∧ c ≤ 4294967295
  case neg =>
    have HV : Hid (blkV k c n = ByteArray.mk #[]) := if_neg (fun x => h2 ⟨x.2.1, x.2.2.1⟩)
    have H2 : Hid ((decide (0 ≤ c) && decide (c ≤ 4294967295)) = false) := by show _ = _; simpa using h2
    generalize blkV k c n = V at *
    clear h1 h2 hk hn
    go_enter Try.func6, Try.ntmps6
    go_wp2_with fail
    refine (l1Key_k k _ true H1.out).mono ?_
    rintro e w' ⟨rfl, rfl⟩
    go_wp2_with fail
    refine (CI.out _).mono ?_
    rintro e w' ⟨rfl, rfl⟩
    rw [H2.out]
    go_wp2
    go_ret
    exact ⟨by rw [HV.out]; rfl, Below.refl _ _⟩
  have H2 : Hid ((decide (0 ≤ c) && decide (c ≤ 4294967295)) = true) := by show _ = _; simpa using h2
  by_cases h4 : n.size = 12
  case neg =>
    have HV : Hid (blkV k c n = ByteArray.mk #[]) := if_neg (fun x => h4 x.2.2.2)
    have c0 : ((n.size : Int) != 12) = true := by simp; omega
    generalize blkV k c n = V at *
    clear h1 h2 h4 hk hn
    go_enter Try.func6, Try.ntmps6
    go_wp2_with fail
    refine (l1Key_k k _ true H1.out).mono ?_
    rintro e w' ⟨rfl, rfl⟩
    go_wp2_with fail
    refine (CI.out _).mono ?_
    rintro e w' ⟨rfl, rfl⟩
    rw [H2.out]
    go_wp2
    go_ret
    exact ⟨by rw [HV.out]; rfl, Below.refl _ _⟩
  have c4 : ((n.size : Int) != 12) = false := by simp; omega
  obtain ⟨m, rfl⟩ : ∃ m : Nat, c = (m : Int) := ⟨c.toNat, by omega⟩
  have HV : Hid (blkV k m n = str (cOut (textL k.data.toList m n.data.toList) 16)) := if_pos ⟨h1, h2.1, h2.2, h4⟩
  have C := Lib.hid (fun w => l4Block_s k m n w h1 h4 (by omega))
  rw [← HV.out] at C
  generalize blkV k m n = V at *
  clear h1 h2 h4 hk hn
  go_enter Try.func6, Try.ntmps6
  go_wp2_with fail
  refine (l1Key_k k _ true H1.out).mono ?_
  rintro e w' ⟨rfl, rfl⟩
  go_wp2_with fail
  refine (CI.out _).mono ?_
  rintro e w' ⟨rfl, rfl⟩
  rw [H2.out]
  go_wp2_with fail
  refine (C.out _).mono ?_
  rintro e w1 ⟨rfl, hb1⟩
  go_wp2
  go_ret
  exact ⟨rfl, hb1⟩

end Go.Proofs.Ytipcficcoogbnaa

/- The contracts of the small pieces of SHA-256: turning a word, the program's and the specification's. -/
import Derived.Test.YtipcficcoogbnaaDoorRows
import Derived.Test.YtipcficcoogbnaaDoorMathS
import Derived.WalkKit
import Derived.ProofKit
import Derived.Lib.Hide
import Derived.Deep.QuietTactic
import Derived.BigQuiet
import Derived.WalkSpells
import Derived.WalkLawsBesides
namespace Go.Proofs.YtipcficcoogbnaaDoor
open Go.RowKit Go.My Go.Lib
set_option linter.unusedVariables false

theorem rot_spec (x : Int) (k : Nat) (w : World) (h0 : 0 ≤ x) (h1 : x ≤ 4294967295) (hr : 1 ≤ k) (hr2 : k ≤ 31) :
    Calls Tryd.prog 63 #[.int .u32 x, .int .i64 k] w fun e w' => e = .returned (.int .u32 (rot x k)) ∧ w = w' := by
  have hi1 : (1 : Int) ≤ k := by omega
  have hi2 : (k : Int) ≤ 31 := by omega
  go_enter Tryd.func63, Tryd.ntmps63
  go_wp2
  go_ret
  exact ⟨rfl, rfl⟩

theorem rot_impl (x : Int) (r k : Nat) (w : World) (h0 : 0 ≤ x) (h1 : x ≤ 4294967295) (hr : 1 ≤ k) (hr2 : k ≤ 31) (hrk : r + k = 32) :
    Calls Tryd.prog 69 #[.int .u32 x, .int .i64 (-(r : Int))] w fun e w' => e = .returned (.int .u32 (rot x k)) ∧ w = w' := by
  have hi1 : (1 : Int) ≤ k := by omega
  have hi2 : (k : Int) ≤ 31 := by omega
  have he := mask31 r k hr hr2 hrk
  go_enter Tryd.func69, Tryd.ntmps69
  go_wp2
  go_ret
  exact ⟨rfl, rfl⟩

theorem rot_impl' (x n : Int) (r k : Nat) (w : World) (h0 : 0 ≤ x) (h1 : x ≤ 4294967295) (hn : n = -(r : Int)) (hr : 1 ≤ k) (hr2 : k ≤ 31) (hrk : r + k = 32) :
    Calls Tryd.prog 69 #[.int .u32 x, .int .i64 n] w fun e w' => e = .returned (.int .u32 (rot x k)) ∧ w = w' := by
  subst hn
  exact rot_impl x r k w h0 h1 hr hr2 hrk

theorem turned_any (x : Int) (w : World) (h0 : 0 ≤ x) (h1 : x ≤ 4294967295) (i j k i' j' k' : Nat) (hi : 1 ≤ i' ∧ i' ≤ 31 ∧ i + i' = 32) (hj : 1 ≤ j' ∧ j' ≤ 31 ∧ j + j' = 32) (hk : 1 ≤ k' ∧ k' ≤ 31 ∧ k + k' = 32) :
    Calls Tryd.prog 68 #[.int .u32 x, .int .i64 i, .int .i64 j, .int .i64 k] w fun e w' => e = .returned (.int .u32 (xor32 (xor32 (rot x i') (rot x j')) (rot x k'))) ∧ w = w' := by
  have hi1 : (i : Int) ≤ 31 := by omega
  have hj1 : (j : Int) ≤ 31 := by omega
  have hk1 : (k : Int) ≤ 31 := by omega
  have HI := Lib.hid hi
  have HJ := Lib.hid hj
  have HK := Lib.hid hk
  clear hi hj hk
  go_enter Tryd.func68, Tryd.ntmps68
  go_wp2_with fail
  refine (rot_impl x i i' _ h0 h1 HI.out.1 HI.out.2.1 HI.out.2.2).mono ?_
  rintro e w' ⟨rfl, rfl⟩
  go_wp2_with fail
  refine (rot_impl x j j' _ h0 h1 HJ.out.1 HJ.out.2.1 HJ.out.2.2).mono ?_
  rintro e w' ⟨rfl, rfl⟩
  go_wp2_with fail
  refine (rot_impl x k k' _ h0 h1 HK.out.1 HK.out.2.1 HK.out.2.2).mono ?_
  rintro e w' ⟨rfl, rfl⟩
  go_wp2
  go_ret
  exact ⟨rfl, rfl⟩

end Go.Proofs.YtipcficcoogbnaaDoor

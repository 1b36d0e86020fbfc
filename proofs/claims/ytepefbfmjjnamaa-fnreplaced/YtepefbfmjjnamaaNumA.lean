/- The contract of the program's NumBytes. -/
import Derived.Test.YtepefbfmjjnamaaRows
import Derived.Test.YtepefbfmjjnamaaMath1
import Derived.Test.YtepefbfmjjnamaaSmall
import Derived.Test.YtepefbfmjjnamaaBe
import Derived.Lib.Hide
import Derived.BigQuiet
import Derived.Deep.QuietTactic
namespace Go.Proofs.Ytepefbfmjjnamaa
open Go.RowKit Go.My
set_option linter.unusedVariables false
set_option maxRecDepth 100000

set_option maxHeartbeats 400000 in
theorem num_impl (n k : Int) (w : World) (hn : (Lit.int .i64 n).wf = true) (hk : (Lit.int .i64 k).wf = true) :
    Calls Try.prog 80 #[.int .i64 n, .int .i64 k] w fun e w' => e = .returned (.string (str (numB n k))) ∧ Below w.heap.size w w' := by
  by_cases hk1 : k < 1
  · go_enter Try.func80, Try.ntmps80
    go_wp2
    go_ret
    exact ⟨by rw [numB_no (by omega)]; rfl, Below.refl _ _⟩
  by_cases hk7 : 7 < k
  · go_enter Try.func80, Try.ntmps80
    go_wp2
    go_ret
    exact ⟨by rw [numB_no (by omega)]; rfl, Below.refl _ _⟩
  by_cases hn0 : n < 0
  · go_enter Try.func80, Try.ntmps80
    go_wp2
    go_ret
    exact ⟨by rw [numB_no (by omega)]; rfl, Below.refl _ _⟩
  obtain ⟨K, rfl⟩ : ∃ K : Nat, k = K := ⟨k.toNat, by omega⟩
  obtain ⟨M, rfl⟩ : ∃ M : Nat, n = M := ⟨n.toNat, by omega⟩
  have hM : (M : Int) ≤ 9223372036854775807 := by simp [Lit.wf, IntKind.min, IntKind.max, IntKind.signed, IntKind.bits] at hn; omega
  have hu : IntKind.u64.wrap (M : Int) = (M : Int) := IntWalk.u64_in _ ⟨by omega, by omega⟩
  have hMU : M < U64 := by unfold U64; omega
  clear hn hk hM
  by_cases hb : (M : Int) < 2 ^ (8 * K)
  · have hd : ((M : Int) / 2 ^ (8 * K) != 0) = false := by rw [Int.ediv_eq_zero_of_lt (by omega) hb]; rfl
    have HB : Hid ((M : Int) < 2 ^ (8 * K)) := hb
    clear hb
    go_enter Try.func80, Try.ntmps80
    go_wp2_with fail
    refine (be_impl M K _ hMU (by omega)).mono ?_
    rintro e w1 ⟨rfl, hb1⟩
    go_wp2
    go_ret
    exact ⟨by rw [numB_yes ⟨hk1, hk7, hn0, HB.out⟩]; rfl, hb1⟩
  · have hd : ((M : Int) / 2 ^ (8 * K) != 0) = true := by
      have h2 : (1 : Int) ≤ (M : Int) / 2 ^ (8 * K) := (Int.le_ediv_iff_mul_le (Int.pow_pos (by omega))).2 (by omega)
      simp; omega
    have HB : Hid (2 ^ (8 * K) ≤ (M : Int)) := Int.not_lt.1 hb
    clear hb
    go_enter Try.func80, Try.ntmps80
    go_wp2
    go_ret
    exact ⟨by rw [numB_big (k := (K : Int)) (Int.not_lt.2 HB.out)]; rfl, Below.refl _ _⟩

end Go.Proofs.Ytepefbfmjjnamaa

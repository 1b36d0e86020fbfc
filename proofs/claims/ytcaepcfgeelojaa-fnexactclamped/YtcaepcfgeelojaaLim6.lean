/- The contract of the specification's l3Write. -/
import Derived.Test.YtcaepcfgeelojaaLim4
import Derived.Test.YtcaepcfgeelojaaLim5
namespace Go.Proofs.Ytcaepcfgeelojaa
open Go.RowKit Go.My Go.Lib
set_option linter.unusedVariables false

/-- The number that ten limbs stand for. -/
def rN (h : Nat → Int) : Nat := (VL h % 57896044618658097711785492504343953926634992332820282019728792003956564819949).toNat
theorem rN_lt (h : Nat → Int) : rN h < P25n := by unfold rN P25n; omega
theorem full_rN (h : Nat → Int) (hM : ∀ q, q < 10 → -7205759403792793600 ≤ h q ∧ h q ≤ 7205759403792793600) (i : Nat) (hi : i < 10) : fullL (crR h 20) i = digZ (rN h) i := by
  have hl := carried h hM
  have hr := q_range (crR h 20) hl
  obtain ⟨k, hk⟩ := crR_mod h 20
  refine full_dig (crR h 20) hl (rN h) ?_ i hi
  unfold rN
  rw [hk] at hr ⊢
  generalize VL h = V at *
  generalize qF (crR h 20) 10 = Q at *
  omega
theorem full_row (h : Nat → Int) (hM : ∀ q, q < 10 → -7205759403792793600 ≤ h q ∧ h q ≤ 7205759403792793600) : rwA .i64 10 (fullL (crR h 20)) = rwA .i64 10 (digZ (rN h)) := rwA_congr _ _ (fun i hi => full_rN h hM i hi)
theorem info_u8v : (Try.prog.info? 5).map (fun i => (i.zero, i.size, i.bytes)) = some (some (.int .u8 0), 1, 1) := by kernel_rfl
theorem by_set (r A : Nat) (hA : A < 256) : (rwA .u8 32 (fun j => (byF (r % 2 ^ A) j : Int))).setIfInBounds (A / 8) (.int .u8 ((byF (r % 2 ^ (A + 1)) (A / 8) : Nat) : Int)) = rwA .u8 32 (fun j => (byF (r % 2 ^ (A + 1)) j : Int)) :=
  rwA_set _ _ _ _ (A / 8) (by omega) _ rfl (fun q _ hq => by
    show ((byF (r % 2 ^ (A + 1)) q : Nat) : Int) = ((byF (r % 2 ^ A) q : Nat) : Int)
    rw [mod_step, byF_other _ _ _ _ (Nat.mod_lt _ (Nat.pow_pos (by decide))) (Nat.mod_lt _ (by decide)) hq])
theorem by_zero : (cellsOf (List.replicate 32 0)).toArray = rwA .u8 32 (fun j => (byF 0 j : Int)) := by kernel_rfl

end Go.Proofs.Ytcaepcfgeelojaa

/- The contract of the specification's l2K. -/
import Derived.Test.YtipcficcoogbnaaDoorSp1
import Derived.Deep.QuietTactic
import Derived.BigQuiet
namespace Go.Proofs.YtipcficcoogbnaaDoor
open Go.RowKit Go.My Go.Lib
set_option linter.unusedVariables false

def ksL : List UInt8 := [66, 138, 47, 152, 113, 55, 68, 145, 181, 192, 251, 207, 233, 181, 219, 165, 57, 86, 194, 91, 89, 241, 17, 241, 146, 63, 130, 164, 171, 28, 94, 213, 216, 7, 170, 152, 18, 131, 91, 1, 36, 49, 133, 190, 85, 12, 125, 195, 114, 190, 93, 116, 128, 222, 177, 254, 155, 220, 6, 167, 193, 155, 241, 116, 228, 155, 105, 193, 239, 190, 71, 134, 15, 193, 157, 198, 36, 12, 161, 204, 45, 233, 44, 111, 74, 116, 132, 170, 92, 176, 169, 220, 118, 249, 136, 218, 152, 62, 81, 82, 168, 49, 198, 109, 176, 3, 39, 200, 191, 89, 127, 199, 198, 224, 11, 243, 213, 167, 145, 71, 6, 202, 99, 81, 20, 41, 41, 103, 39, 183, 10, 133, 46, 27, 33, 56, 77, 44, 109, 252, 83, 56, 13, 19, 101, 10, 115, 84, 118, 106, 10, 187, 129, 194, 201, 46, 146, 114, 44, 133, 162, 191, 232, 161, 168, 26, 102, 75, 194, 75, 139, 112, 199, 108, 81, 163, 209, 146, 232, 25, 214, 153, 6, 36, 244, 14, 53, 133, 16, 106, 160, 112, 25, 164, 193, 22, 30, 55, 108, 8, 39, 72, 119, 76, 52, 176, 188, 181, 57, 28, 12, 179, 78, 216, 170, 74, 91, 156, 202, 79, 104, 46, 111, 243, 116, 143, 130, 238, 120, 165, 99, 111, 132, 200, 120, 20, 140, 199, 2, 8, 144, 190, 255, 250, 164, 80, 108, 235, 190, 249, 163, 247, 198, 113, 120, 242]
theorem ks_key : ∀ j : Fin 64, bits .or .u32 (bits .or .u32 (bits .or .u32 (((ksL.getD (4 * j.val) 0).toNat : Int) % 4294967296 * 16777216 % 4294967296) (((ksL.getD (4 * j.val + 1) 0).toNat : Int) % 4294967296 * 65536 % 4294967296)) (((ksL.getD (4 * j.val + 2) 0).toNat : Int) % 4294967296 * 256 % 4294967296)) (((ksL.getD (4 * j.val + 3) 0).toNat : Int) % 4294967296) = kW j.val := by decide +kernel

set_option maxHeartbeats 2000000 in
set_option maxRecDepth 100000 in
theorem l2K_spec (i : Nat) (w : World) (hi : i < 64) :
    Calls Tryd.prog 64 #[.int .i64 i] w fun e w' => e = .returned (.int .u32 (kW i)) ∧ ∃ m, w' = w.drewN m := by
  have i0 : (0 : Int) ≤ 4 * (i : Int) := by omega
  have i1 : 4 * (i : Int) < 256 := by omega
  have i2 : 4 * (i : Int) + 1 < 256 := by omega
  have i3 : 4 * (i : Int) + 2 < 256 := by omega
  have i4 : 4 * (i : Int) + 3 < 256 := by omega
  go_enter Tryd.func64, Tryd.ntmps64
  have v0 : IntKind.i64.wrap (4 * (i : Int)) = 4 * (i : Int) := IntWalk.i64_in _ (by omega)
  have v1 : IntKind.i64.wrap (4 * (i : Int) + 1) = 4 * (i : Int) + 1 := IntWalk.i64_in _ (by omega)
  have v2 : IntKind.i64.wrap (4 * (i : Int) + 2) = 4 * (i : Int) + 2 := IntWalk.i64_in _ (by omega)
  have v3 : IntKind.i64.wrap (4 * (i : Int) + 3) = 4 * (i : Int) + 3 := IntWalk.i64_in _ (by omega)
  have j1 : (0 : Int) ≤ 4 * (i : Int) + 1 := by omega
  have j2 : (0 : Int) ≤ 4 * (i : Int) + 2 := by omega
  have j3 : (0 : Int) ≤ 4 * (i : Int) + 3 := by omega
  have t0 : (4 * (i : Int)).toNat = 4 * i := by omega
  have t1 : (4 * (i : Int) + 1).toNat = 4 * i + 1 := by omega
  have t2 : (4 * (i : Int) + 2).toNat = 4 * i + 2 := by omega
  have t3 : (4 * (i : Int) + 3).toNat = 4 * i + 3 := by omega
  go_wp2_with fail
  go_quiet (fail)
  go_wp2
  go_ret
  refine ⟨congrArg (fun x => Ending.returned (Value.int .u32 x)) ?_, _, rfl⟩
  rw [← getD_at _ (4 * i), ← getD_at _ (4 * i + 1), ← getD_at _ (4 * i + 2), ← getD_at _ (4 * i + 3)]
  exact ks_key ⟨i, hi⟩

end Go.Proofs.YtipcficcoogbnaaDoor

/- Proved: for every head FnExactHeadBytes returns true: the program's HeadBytes answers as the specification's (heads of more than 2^20 bytes are passed over by the law itself). No condition. -/
import Derived.Test.YtimkcbhebkdiiaaRows
import Derived.WalkKit
import Derived.ProofKit
import Derived.OpenShut
import Derived.ShutString
import Derived.ChangeOld
import Derived.Below
import Derived.Test.YtimkcbhebkdiiaaWire2
import Derived.Test.YtimkcbhebkdiiaaStr1
namespace Go.Proofs.Ytimkcbhebkdiiaa.fnExactHeadBytes
open Go.ChangeShapes Go.WideShapes Go.ChangeAt Go.RowKit Go.My
set_option linter.unusedVariables false

theorem own : ownKnob Try.prog.godebug = none := by kernel_rfl

set_option maxHeartbeats 2000000 in
theorem walk (w : World) (p : ByteArray) (a b : Int) (hw : headW p a b) :
    Calls Try.prog 4 #[.agg (headA p a b)] w fun e w' => e = .returned (.bool true) ∧ Below w.heap.size w w' := by
  have hp : p.size ≤ 9223372036854775807 := hw.1
  have hb0 := below_box w (.cells (headA p a b) 39)
  have H1 := Lib.hid (fun w => szHead_any p a b 1048576 w (by omega) (by omega) hp)
  by_cases h : (1048576 : Int) - (p.size : Int) < 0
  · have hs : szS 1048576 p.size < 0 := by rw [szS_no h]; omega
    clear h hw
    generalize szS 1048576 p.size = L at *
    go_enter Try.func4, Try.ntmps4
    go_wp2_with fail
    refine (H1.out _).mono ?_
    rintro e w1 ⟨rfl, hb1⟩
    go_wp2
    go_ret
    exact ⟨rfl, hb0.trans (hb1.mono hb0.size)⟩
  have hs : 0 ≤ szS 1048576 p.size := by rw [szS_yes h]; omega
  have H2 := Lib.hid (fun w => toHead_any p a b w)
  have H3 := Lib.hid (fun w => headBytes_s p a b w hp)
  have H4 := Lib.hid (fun w => headBytes_i p a b w hp)
  clear h hw
  generalize szS 1048576 p.size = L at *
  generalize headV p a b = V at *
  go_enter Try.func4, Try.ntmps4
  go_wp2_with fail
  refine (H1.out _).mono ?_
  rintro e w1 ⟨rfl, hb1⟩
  have hS : HeadAt w.heap.size p a b w1 := HeadAt.below hb1 ⟨by simp, by simp [go_sem], by simp [go_sem], by simp [go_sem]⟩
  have hB : Below w.heap.size w w1 := hb0.trans (hb1.mono hb0.size)
  clear hb1 hb0
  have c0 := hS.2.1
  have c1 := hS.2.2.1
  have c2 := hS.2.2.2
  go_wp2_with fail
  refine (H2.out _).mono ?_
  rintro e w2 ⟨rfl, hb2⟩
  have hS := HeadAt.below hb2 hS
  have hB := below_next hb2 hB hB.size
  clear hb2 c0 c1 c2
  have c0 := hS.2.1
  have c1 := hS.2.2.1
  have c2 := hS.2.2.2
  go_wp2_with fail
  refine (H3.out _).mono ?_
  rintro e w3 ⟨rfl, hb2⟩
  have hS := HeadAt.below hb2 hS
  have hB := below_next hb2 hB hB.size
  clear hb2 c0 c1 c2
  have c0 := hS.2.1
  have c1 := hS.2.2.1
  have c2 := hS.2.2.2
  go_wp2_with fail
  refine (H2.out _).mono ?_
  rintro e w4 ⟨rfl, hb2⟩
  have hB := below_next hb2 hB hB.size
  clear hb2 c0 c1 c2
  go_wp2_with fail
  refine (H4.out _).mono ?_
  rintro e w5 ⟨rfl, hb2⟩
  have hB := below_next hb2 hB hB.size
  clear hb2
  go_wp2
  go_ret
  exact ⟨rfl, hB⟩

set_option maxRecDepth 100000 in
theorem lifted (os : Os) (started : os.Started) (H : Type) (enc : TypeId × Value → H) :
    ReturnsInHanded {} Try.checked os 4 .any (Rows.fnExactHeadBytesSpec.pre6 enc Try.prog Try.f4 Rows.fnExactHeadBytesRow.domain false) (Rows.fnExactHeadBytesSpec.post enc Try.prog Try.f4 false true false false) := by
  refine returnsInHanded_of_change (C := Try.checked) own started (by kernel_rfl) Try.func4
    (ChangeSpec.witness6 (enc := enc) (C := Try.checked) false ⟨#[], #[.agg #[.string ByteArray.empty, .int .i64 0, .int .i64 0]], []⟩ 8 (by kernel_rfl) (by kernel_rfl) (by kernel_rfl) (by kernel_rfl)) ?_
  intro W base args ds gs before hval0 hW hcnd _
  have hval : ∀ (j : Nat) t v, Try.f4.params[j]? = some t → args[j]? = some v → Value.okWide Try.prog W .any base t v := hval0
  have hW' := hW
  obtain ⟨p, q, hA0, hV, rfl, hfz, hnd⟩ := hW
  have hA : DataW.TrodAll enc Try.prog W 0 (fun _ => true) true Try.f4.params.toList args.toList ds p := hA0
  rw [Try.params4] at hA hval
  obtain ⟨v0, vs0, d0, ds0, p0, q0, hargs, rfl, rfl, h0, r0⟩ := trodAll_cons hA
  obtain ⟨rfl, rfl, rfl⟩ := trodAll_nil r0
  obtain rfl : args = #[v0] := by cases args; simp_all
  obtain ⟨rfl, rfl⟩ := trodVars_none hV
  obtain ⟨p0, a0, b0, rfl, rfl, rfl, w0⟩ := open_headV (hval 0 39 v0 rfl rfl) h0
  clear hA0 hval0
  refine (walk W p0 a0 b0 w0).mono fun e W' ⟨he, bel⟩ => ?_
  subst he
  simp only [List.append_nil] at hW'
  exact ⟨_, rfl, _, _, _, [], _, [], hW', trodAll_mk1 (shut_bool Try.underlying4 _), (trodAll_cons_mk (shut_headV p0 a0 b0 w0) trodAll_mk0), rfl, bel.frame _, fun h => by cases h⟩

theorem proved : Rows.FnExactHeadBytesSaid :=
  OpenClaim.holds_of_wide 4 Try.f4 rfl rfl rfl rfl rfl rfl rfl ⟨rfl, rfl, rfl, rfl, rfl⟩ rfl rfl rfl rfl rfl (by kernel_rfl) Try.func4 (by kernel_rfl)
    (of_decide_eq_true (by kernel_rfl)) (by unfold Func.isWrapper; first | (rw [if_pos (by decide +kernel)]; kernel_rfl) | (rw [if_neg (by decide +kernel)]; exact ⟨rfl, rfl⟩))
    (fun os started H enc _ => lifted os started H enc)
end Go.Proofs.Ytimkcbhebkdiiaa.fnExactHeadBytes

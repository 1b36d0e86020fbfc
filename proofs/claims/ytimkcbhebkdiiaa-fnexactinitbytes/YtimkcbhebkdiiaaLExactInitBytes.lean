/- Proved: for every argument FnExactInitBytes returns true: the program's InitBytes answers as the specification's (arguments of more than 2^20 bytes are passed over by the law itself). No condition. -/
import Derived.Test.YtimkcbhebkdiiaaRows
import Derived.WalkKit
import Derived.ProofKit
import Derived.OpenShut
import Derived.ShutString
import Derived.ChangeOld
import Derived.Below
import Derived.Test.YtimkcbhebkdiiaaWire3
import Derived.Test.YtimkcbhebkdiiaaStr1
namespace Go.Proofs.Ytimkcbhebkdiiaa.fnExactInitBytes
open Go.ChangeShapes Go.WideShapes Go.ChangeAt Go.RowKit Go.My
set_option linter.unusedVariables false

theorem own : ownKnob Try.prog.godebug = none := by kernel_rfl

set_option maxHeartbeats 2000000 in
theorem walk (w : World) (p q : ByteArray) (a : Int) (hw : initW p q a) :
    Calls Try.prog 6 #[.agg (initA p q a)] w fun e w' => e = .returned (.bool true) ∧ Below w.heap.size w w' := by
  have hp : p.size ≤ 9223372036854775807 := hw.1
  have hq : q.size ≤ 9223372036854775807 := hw.2.1
  have hb0 := below_box w (.cells (initA p q a) 48)
  have H1 := Lib.hid (fun w => szInit_any p q a 1048576 w (by omega) (by omega) hp hq)
  by_cases h : (1048576 : Int) - ((p.size + q.size : Nat) : Int) < 0
  · have hs : szS 1048576 (p.size + q.size) < 0 := by rw [szS_no h]; omega
    clear h hw
    generalize szS 1048576 (p.size + q.size) = L at *
    go_enter Try.func6, Try.ntmps6
    go_wp2_with fail
    refine (H1.out _).mono ?_
    rintro e w1 ⟨rfl, hb1⟩
    go_wp2
    go_ret
    exact ⟨rfl, hb0.trans (hb1.mono hb0.size)⟩
  have hs : 0 ≤ szS 1048576 (p.size + q.size) := by rw [szS_yes h]; omega
  have H2 := Lib.hid (fun w => toInit_any p q a w)
  have H3 := Lib.hid (fun w => initBytes_s p q a w hp hq)
  have H4 := Lib.hid (fun w => initBytes_i p q a w hp hq)
  clear h hw
  generalize szS 1048576 (p.size + q.size) = L at *
  generalize initV p q a = V at *
  go_enter Try.func6, Try.ntmps6
  go_wp2_with fail
  refine (H1.out _).mono ?_
  rintro e w1 ⟨rfl, hb1⟩
  have hS : InitAt w.heap.size p q a w1 := InitAt.below hb1 ⟨by simp, by simp [go_sem], by simp [go_sem], by simp [go_sem]⟩
  have hB : Below w.heap.size w w1 := hb0.trans (hb1.mono hb0.size)
  clear hb1 hb0
  have c0 := hS.2.1
  have c1 := hS.2.2.1
  have c2 := hS.2.2.2
  go_wp2_with fail
  refine (H2.out _).mono ?_
  rintro e w2 ⟨rfl, hb2⟩
  have hS := InitAt.below hb2 hS
  have hB := below_next hb2 hB hB.size
  clear hb2 c0 c1 c2
  have c0 := hS.2.1
  have c1 := hS.2.2.1
  have c2 := hS.2.2.2
  go_wp2_with fail
  refine (H3.out _).mono ?_
  rintro e w3 ⟨rfl, hb2⟩
  have hS := InitAt.below hb2 hS
  have hB := below_next hb2 hB hB.size
  clear hb2 c0 c1 c2
  have c0 := hS.2.1
  have c1 := hS.2.2.1
  have c2 := hS.2.2.2
  go_wp2_with fail
  refine (H2.out _).mono ?_
  rintro e w4 ⟨rfl, hb2⟩
  have hB := below_next hb2 hB hB.size
  clear hb2 c0 c1 c2
  go_wp2_with fail
  refine (H4.out _).mono ?_
  rintro e w5 ⟨rfl, hb2⟩
  have hB := below_next hb2 hB hB.size
  clear hb2
  go_wp2
  go_ret
  exact ⟨rfl, hB⟩

set_option maxRecDepth 100000 in
theorem lifted (os : Os) (started : os.Started) (H : Type) (enc : TypeId × Value → H) :
    ReturnsInHanded {} Try.checked os 6 .any (Rows.fnExactInitBytesSpec.pre6 enc Try.prog Try.f6 Rows.fnExactInitBytesRow.domain false) (Rows.fnExactInitBytesSpec.post enc Try.prog Try.f6 false true false false) := by
  refine returnsInHanded_of_change (C := Try.checked) own started (by kernel_rfl) Try.func6
    (ChangeSpec.witness6 (enc := enc) (C := Try.checked) false ⟨#[], #[.agg #[.string ByteArray.empty, .string ByteArray.empty, .int .i64 0]], []⟩ 8 (by kernel_rfl) (by kernel_rfl) (by kernel_rfl) (by kernel_rfl)) ?_
  intro W base args ds gs before hval0 hW hcnd _
  have hval : ∀ (j : Nat) t v, Try.f6.params[j]? = some t → args[j]? = some v → Value.okWide Try.prog W .any base t v := hval0
  have hW' := hW
  obtain ⟨p, q, hA0, hV, rfl, hfz, hnd⟩ := hW
  have hA : DataW.TrodAll enc Try.prog W 0 (fun _ => true) true Try.f6.params.toList args.toList ds p := hA0
  rw [Try.params6] at hA hval
  obtain ⟨v0, vs0, d0, ds0, p0, q0, hargs, rfl, rfl, h0, r0⟩ := trodAll_cons hA
  obtain ⟨rfl, rfl, rfl⟩ := trodAll_nil r0
  obtain rfl : args = #[v0] := by cases args; simp_all
  obtain ⟨rfl, rfl⟩ := trodVars_none hV
  obtain ⟨p0, q0, a0, rfl, rfl, rfl, w0⟩ := open_initV (hval 0 48 v0 rfl rfl) h0
  clear hA0 hval0
  refine (walk W p0 q0 a0 w0).mono fun e W' ⟨he, bel⟩ => ?_
  subst he
  simp only [List.append_nil] at hW'
  exact ⟨_, rfl, _, _, _, [], _, [], hW', trodAll_mk1 (shut_bool Try.underlying4 _), (trodAll_cons_mk (shut_initV p0 q0 a0 w0) trodAll_mk0), rfl, bel.frame _, fun h => by cases h⟩

theorem proved : Rows.FnExactInitBytesSaid :=
  OpenClaim.holds_of_wide 6 Try.f6 rfl rfl rfl rfl rfl rfl rfl ⟨rfl, rfl, rfl, rfl, rfl⟩ rfl rfl rfl rfl rfl (by kernel_rfl) Try.func6 (by kernel_rfl)
    (of_decide_eq_true (by kernel_rfl)) (by unfold Func.isWrapper; first | (rw [if_pos (by decide +kernel)]; kernel_rfl) | (rw [if_neg (by decide +kernel)]; exact ⟨rfl, rfl⟩))
    (fun os started H enc _ => lifted os started H enc)
end Go.Proofs.Ytimkcbhebkdiiaa.fnExactInitBytes

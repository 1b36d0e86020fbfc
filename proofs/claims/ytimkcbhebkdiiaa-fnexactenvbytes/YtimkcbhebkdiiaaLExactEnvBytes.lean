/- Proved: for every envelope FnExactEnvBytes returns true: the program's EnvBytes answers as the specification's (envelopes of more than 2^20 bytes are passed over by the law itself). No condition. -/
import Derived.Test.YtimkcbhebkdiiaaRows
import Derived.WalkKit
import Derived.ProofKit
import Derived.OpenShut
import Derived.ShutString
import Derived.ChangeOld
import Derived.Below
import Derived.Test.YtimkcbhebkdiiaaWireE
import Derived.Test.YtimkcbhebkdiiaaStr2
namespace Go.Proofs.Ytimkcbhebkdiiaa.fnExactEnvBytes
open Go.ChangeShapes Go.WideShapes Go.ChangeAt Go.RowKit Go.My
set_option linter.unusedVariables false

theorem own : ownKnob Try.prog.godebug = none := by kernel_rfl

set_option maxHeartbeats 4000000 in
theorem walk (w : World) (f t : Int) (z : Bool) (p q : ByteArray) (o : Int) (u : ByteArray) (a b : Int) (s : ByteArray) (hw : envW f t z p q o u a b s) :
    Calls Try.prog 7 #[.agg (envA f t z p q o u a b s)] w fun e w' => e = .returned (.bool true) ∧ Below w.heap.size w w' := by
  have hp : p.size ≤ 9223372036854775807 := hw.2.2.1
  have hq : q.size ≤ 9223372036854775807 := hw.2.2.2.1
  have hu : u.size ≤ 9223372036854775807 := hw.2.2.2.2.2.1
  have hs : s.size ≤ 9223372036854775807 := hw.2.2.2.2.2.2.2.2
  have hb0 := below_box w (.cells (envA f t z p q o u a b s) 53)
  have hS := BlkAt.box w (envA f t z p q o u a b s) 53
  have H1 := Lib.hid (fun w => szEnv_any f t z p q o u a b s 1048576 w (by omega) (by omega) hp hq hu hs)
  by_cases h : (1048576 : Int) - ((p.size + q.size + (u.size + s.size) : Nat) : Int) < 0
  · have hL : szS 1048576 (p.size + q.size + (u.size + s.size)) < 0 := by rw [szS_no h]; omega
    clear h hw
    generalize szS 1048576 (p.size + q.size + (u.size + s.size)) = L at *
    go_enter Try.func7, Try.ntmps7
    go_wp2_with fail
    refine (H1.out _).mono ?_
    rintro e w1 ⟨rfl, hb1⟩
    go_wp2
    go_ret
    exact ⟨rfl, hb0.trans (hb1.mono hb0.size)⟩
  have hL : 0 ≤ szS 1048576 (p.size + q.size + (u.size + s.size)) := by rw [szS_yes h]; omega
  have H2 := Lib.hid (fun w => toEnv_any f t z p q o u a b s w)
  have H3 := Lib.hid (fun w => envBytes_s f t z p q o u a b s w hp hq hu hs)
  have H4 := Lib.hid (fun w => envBytes_i f t z p q o u a b s w hp hq hu hs)
  clear h hw
  generalize szS 1048576 (p.size + q.size + (u.size + s.size)) = L at *
  generalize envV f t z p q o u a b s = VV at *
  go_enter Try.func7, Try.ntmps7
  go_wp2_with fail
  refine (H1.out _).mono ?_
  rintro e w1 ⟨rfl, hb1⟩
  have hS := BlkAt.below hb1 hS
  have hB : Below w.heap.size w w1 := hb0.trans (hb1.mono hb0.size)
  clear hb1 hb0
  have c0 := hS.cell (j := 0) rfl
  have c1 := hS.cell (j := 1) rfl
  have c2 := hS.cell (j := 2) rfl
  have c3 := hS.cell (j := 3) rfl
  have c4 := hS.cell (j := 4) rfl
  have c5 := hS.cell (j := 5) rfl
  have c6 := hS.cell (j := 6) rfl
  have c7 := hS.cell (j := 7) rfl
  have c8 := hS.cell (j := 8) rfl
  have c9 := hS.cell (j := 9) rfl
  go_wp2_with fail
  refine (H2.out _).mono ?_
  rintro e w2 ⟨rfl, hb2⟩
  have hS := BlkAt.below hb2 hS
  have hB := below_next hb2 hB hB.size
  clear hb2 c0 c1 c2 c3 c4 c5 c6 c7 c8 c9
  have c0 := hS.cell (j := 0) rfl
  have c1 := hS.cell (j := 1) rfl
  have c2 := hS.cell (j := 2) rfl
  have c3 := hS.cell (j := 3) rfl
  have c4 := hS.cell (j := 4) rfl
  have c5 := hS.cell (j := 5) rfl
  have c6 := hS.cell (j := 6) rfl
  have c7 := hS.cell (j := 7) rfl
  have c8 := hS.cell (j := 8) rfl
  have c9 := hS.cell (j := 9) rfl
  go_wp2_with fail
  refine (H3.out _).mono ?_
  rintro e w3 ⟨rfl, hb2⟩
  have hS := BlkAt.below hb2 hS
  have hB := below_next hb2 hB hB.size
  clear hb2 c0 c1 c2 c3 c4 c5 c6 c7 c8 c9
  have c0 := hS.cell (j := 0) rfl
  have c1 := hS.cell (j := 1) rfl
  have c2 := hS.cell (j := 2) rfl
  have c3 := hS.cell (j := 3) rfl
  have c4 := hS.cell (j := 4) rfl
  have c5 := hS.cell (j := 5) rfl
  have c6 := hS.cell (j := 6) rfl
  have c7 := hS.cell (j := 7) rfl
  have c8 := hS.cell (j := 8) rfl
  have c9 := hS.cell (j := 9) rfl
  go_wp2_with fail
  refine (H2.out _).mono ?_
  rintro e w4 ⟨rfl, hb2⟩
  have hB := below_next hb2 hB hB.size
  clear hb2 c0 c1 c2 c3 c4 c5 c6 c7 c8 c9
  go_wp2_with fail
  refine (H4.out _).mono ?_
  rintro e w5 ⟨rfl, hb2⟩
  have hB := below_next hb2 hB hB.size
  clear hb2
  go_wp2
  go_ret
  exact ⟨rfl, hB⟩

set_option maxRecDepth 100000 in
theorem lifted (os : Os) (started : os.Started) (H : Type) (enc : TypeId × Value → H) :
    ReturnsInHanded {} Try.checked os 7 .any (Rows.fnExactEnvBytesSpec.pre6 enc Try.prog Try.f7 Rows.fnExactEnvBytesRow.domain false) (Rows.fnExactEnvBytesSpec.post enc Try.prog Try.f7 false true false false) := by
  refine returnsInHanded_of_change (C := Try.checked) own started (by kernel_rfl) Try.func7
    (ChangeSpec.witness6 (enc := enc) (C := Try.checked) false ⟨#[], #[.agg #[.int .i64 0, .int .i64 0, .bool false, .string ByteArray.empty, .string ByteArray.empty, .int .i64 0, .string ByteArray.empty, .int .i64 0, .int .i64 0, .string ByteArray.empty]], []⟩ 8 (by kernel_rfl) (by kernel_rfl) (by kernel_rfl) (by kernel_rfl)) ?_
  intro W base args ds gs before hval0 hW hcnd _
  have hval : ∀ (j : Nat) t v, Try.f7.params[j]? = some t → args[j]? = some v → Value.okWide Try.prog W .any base t v := hval0
  have hW' := hW
  obtain ⟨p, q, hA0, hV, rfl, hfz, hnd⟩ := hW
  have hA : DataW.TrodAll enc Try.prog W 0 (fun _ => true) true Try.f7.params.toList args.toList ds p := hA0
  rw [Try.params7] at hA hval
  obtain ⟨v0, vs0, d0, ds0, p0, q0, hargs, rfl, rfl, h0, r0⟩ := trodAll_cons hA
  obtain ⟨rfl, rfl, rfl⟩ := trodAll_nil r0
  obtain rfl : args = #[v0] := by cases args; simp_all
  obtain ⟨rfl, rfl⟩ := trodVars_none hV
  obtain ⟨f0, t0, z0, p0, q0, o0, u0, a0, b0, s0, rfl, rfl, rfl, w0⟩ := open_envV (hval 0 53 v0 rfl rfl) h0
  clear hA0 hval0
  refine (walk W f0 t0 z0 p0 q0 o0 u0 a0 b0 s0 w0).mono fun e W' ⟨he, bel⟩ => ?_
  subst he
  simp only [List.append_nil] at hW'
  exact ⟨_, rfl, _, _, _, [], _, [], hW', trodAll_mk1 (shut_bool Try.underlying4 _), (trodAll_cons_mk (shut_envV f0 t0 z0 p0 q0 o0 u0 a0 b0 s0 w0) trodAll_mk0), rfl, bel.frame _, fun h => by cases h⟩

theorem proved : Rows.FnExactEnvBytesSaid :=
  OpenClaim.holds_of_wide 7 Try.f7 rfl rfl rfl rfl rfl rfl rfl ⟨rfl, rfl, rfl, rfl, rfl⟩ rfl rfl rfl rfl rfl (by kernel_rfl) Try.func7 (by kernel_rfl)
    (of_decide_eq_true (by kernel_rfl)) (by unfold Func.isWrapper; first | (rw [if_pos (by decide +kernel)]; kernel_rfl) | (rw [if_neg (by decide +kernel)]; exact ⟨rfl, rfl⟩))
    (fun os started H enc _ => lifted os started H enc)
end Go.Proofs.Ytimkcbhebkdiiaa.fnExactEnvBytes

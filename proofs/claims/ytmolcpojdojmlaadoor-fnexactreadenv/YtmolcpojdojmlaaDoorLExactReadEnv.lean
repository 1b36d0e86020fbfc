/- Proved: for every string FnExactReadEnv returns true: the program's ReadEnv answers as the specification's (strings of more than 2^20 bytes are passed over by the law itself). The package-level variable that the code reads is tied to the program's text. No further condition. -/
import Derived.Test.YtmolcpojdojmlaaDoorRows
import Derived.Test.YtmolcpojdojmlaaDoorCards
import Derived.Test.YtmolcpojdojmlaaDoorTie
import Derived.WalkKit
import Derived.ProofKit
import Derived.OpenShut
import Derived.ShutString
import Derived.ChangeOld
import Derived.ChangeVars
import Derived.OpenVars
import Derived.Below
import Derived.Deep.DeepHandedRow
import Derived.Lib.LaidTab
import Derived.Test.YtmolcpojdojmlaaDoorRdM8w
import Derived.Test.YtmolcpojdojmlaaDoorEqE
import Derived.Test.YtmolcpojdojmlaaDoorCardE
namespace Go.Proofs.YtmolcpojdojmlaaDoor.fnExactReadEnv
open Go.ChangeShapes Go.WideShapes Go.ChangeAt Go.RowKit Go.My
open Go.ChangeMaps (open_string shut_string)
set_option linter.unusedVariables false

theorem own : ownKnob Tryd.prog.godebug = none := by kernel_rfl
theorem laidOut : laidOutB Tryd.prog = true := by kernel_rfl

set_option maxHeartbeats 4000000 in
set_option maxRecDepth 100000 in
theorem walk (w : World) (hk : ∃ T v, TabE T v w) (a0 : ByteArray) (wa0 : a0.size ≤ maxLen) :
    Calls Tryd.prog 3 #[.string a0] w fun e w' => e = .returned (.bool true) ∧ Below w.heap.size w w' := by
  unfold maxLen at wa0
  obtain ⟨T, v, hE⟩ := hk
  by_cases ha0 : a0.size ≤ 1048576
  case neg =>
    have ha0' : (1048576 : Int) < (a0.size : Int) := by omega
    clear ha0
    go_enter Tryd.func3, Tryd.ntmps3
    go_wp2
    go_ret
    exact ⟨rfl, Below.refl _ _⟩
  have ha0' : (a0.size : Int) ≤ 1048576 := by omega
  have H1 := Lib.hid (fun w => readEnv_s a0 w ha0)
  have H2 := Lib.hid (fun w h => readEnv_i a0 w T v h ha0)
  obtain ⟨f, t, z, p, q, o, u, a, b, x, hx⟩ := rdEA_ten a0
  rw [hx] at H1 H2
  generalize decide (RdEP a0) = R at *
  clear hx ha0 wa0
  have H3 := Lib.hid (fun w => eqEnv_eq f t z p q o u a b x w)
  go_enter Tryd.func3, Tryd.ntmps3
  go_wp2_with fail
  refine (H1.out _).mono ?_
  rintro e w1 ⟨rfl, hb1⟩
  have hE1 := TabE.below ((hb1.mono (Nat.le_refl _))) hE
  go_wp2_with fail
  have hB := hb1.trans ((below_box w1 (.cells (envA f t z p q o u a b x) 29)).mono hb1.size)
  refine (H2.out _ (TabE.below (below_box w1 _) hE1)).mono ?_
  rintro e w2 ⟨rfl, hb2⟩
  have hB := below_next hb2 hB hB.size
  have hB := hB.trans ((below_box w2 (.cells (envA f t z p q o u a b x) 29)).mono hB.size)
  have bx := (BlkAt.below hb2 (BlkAt.box w1 (envA f t z p q o u a b x) 29))
  have by0 := bx.past (.cells (envA f t z p q o u a b x) 29)
  have c0 := by0.cell (j := 0) rfl
  have c1 := by0.cell (j := 1) rfl
  have c2 := by0.cell (j := 2) rfl
  have c3 := by0.cell (j := 3) rfl
  have c4 := by0.cell (j := 4) rfl
  have c5 := by0.cell (j := 5) rfl
  have c6 := by0.cell (j := 6) rfl
  have c7 := by0.cell (j := 7) rfl
  have c8 := by0.cell (j := 8) rfl
  have c9 := by0.cell (j := 9) rfl
  have d0 := bx.cell (j := 0) rfl
  have d1 := bx.cell (j := 1) rfl
  have d2 := bx.cell (j := 2) rfl
  have d3 := bx.cell (j := 3) rfl
  have d4 := bx.cell (j := 4) rfl
  have d5 := bx.cell (j := 5) rfl
  have d6 := bx.cell (j := 6) rfl
  have d7 := bx.cell (j := 7) rfl
  have d8 := bx.cell (j := 8) rfl
  have d9 := bx.cell (j := 9) rfl
  have hlt := bx.lt
  go_wp2_with fail
  refine (H3.out _).mono ?_
  rintro e w3 ⟨rfl, hb3⟩
  have hB := below_next hb3 hB hB.size
  go_wp2
  go_ret
  exact ⟨rfl, hB⟩

set_option maxRecDepth 100000 in
theorem lifted (os : Os) (started : os.Started) (H : Type) (enc : TypeId × Value → H) (F : Stop.Interp) :
    ReturnsInHanded {} Tryd.checked os 3 .any ((OpenSpec.ofChange Rows.fnExactReadEnvSpec).preRow enc Tryd.prog Tryd.f3 Rows.fnExactReadEnvRow.domain false Rows.fnExactReadEnvRow.laid) (((OpenSpec.ofChange Rows.fnExactReadEnvSpec).at F).post enc Tryd.prog Tryd.f3 false true false false) := by
  refine returnsInHanded_of_row (C := Tryd.checked) (s := OpenSpec.ofChange Rows.fnExactReadEnvSpec) own started (by kernel_rfl) Tryd.func3
    (witness_row_at (enc := enc) (C := Tryd.checked) false (laidWorldE os) #[.string ByteArray.empty] rfl (by kernel_rfl) (by kernel_rfl) (by kernel_rfl)
      (OpenSpec.preRow_of_B rfl 8 (by kernel_rfl) (by kernel_rfl) (laid_metE os #[.string ByteArray.empty]))) ?_
  intro W base args ds gs before hval0 hW _ _ _ hL _ _
  have hval : ∀ (j : Nat) t v, Tryd.f3.params[j]? = some t → args[j]? = some v → Value.okWide Tryd.prog W .any base t v := hval0
  have hW' := hW
  obtain ⟨p, q, hA0, hV, rfl, hfz, hnd⟩ := hW
  have hA : DataW.TrodAll enc Tryd.prog W 0 (fun _ => true) true Tryd.f3.params.toList args.toList ds p := hA0
  rw [Tryd.params3] at hA hval
  obtain ⟨v0, vs0, d0, ds0, p0, q0, hargs, rfl, rfl, h0, r0⟩ := trodAll_cons hA
  obtain ⟨rfl, rfl, rfl⟩ := trodAll_nil r0
  obtain rfl : args = #[v0] := by cases args; simp_all
  have hVV := hV
  obtain ⟨_, _, _, _, dv, _, rfl, _⟩ := trodVars_one hV
  obtain ⟨a0, rfl, rfl, rfl, w0⟩ := open_string Tryd.underlying9 (hval 0 9 v0 rfl rfl) h0
  clear hA0 hval0
  refine (walk W (tab_ofE hL) a0 w0).mono fun e W' ⟨he, bel⟩ => ?_
  subst he
  exact ⟨_, rfl, _, _, _, [], _, _, hW', trodAll_mk1 (shut_bool Tryd.underlying4 _), (trodAll_cons_mk (shut_string Tryd.underlying9 w0) trodAll_mk0), Below.trodVars laidOut bel (by kernel_rfl) hVV, bel.frame _, fun h => by cases h⟩

theorem said : Rows.FnExactReadEnvSaid :=
  OpenClaim.holds_of_cond 3 Tryd.f3 rfl rfl rfl rfl rfl rfl rfl ⟨rfl, rfl, rfl, rfl, rfl⟩ rfl rfl rfl rfl rfl (by kernel_rfl) Tryd.func3 (by kernel_rfl)
    (of_decide_eq_true (by kernel_rfl)) (by unfold Func.isWrapper; first | (rw [if_pos (by decide +kernel)]; kernel_rfl) | (rw [if_neg (by decide +kernel)]; exact ⟨rfl, rfl⟩))
    (fun os started H enc _ F => by rw [OpenClaim.pre_eq_preRow]; exact lifted os started H enc F)

theorem plain (f : FuncId) (fn : Func) (hf : Tryd.pinned.checked.prog.funcNamed "loop.example/g00702/laws.FnExactReadEnv" = some f) (hfn : Tryd.pinned.checked.prog.funcs[f]? = some fn) :
    false = Tryd.pinned.checked.prog.looks [] ∧ ∀ (j : Nat) t, fn.params[j]? = some t → Tryd.pinned.checked.prog.wantsStandIn t = false := by
  obtain rfl : f = 3 := Option.some.inj ((show Tryd.prog.funcNamed "loop.example/g00702/laws.FnExactReadEnv" = some 3 by kernel_rfl).symm.trans hf) |>.symm
  obtain rfl : fn = Tryd.f3 := (Option.some.inj (Tryd.func3.symm.trans hfn)).symm
  refine ⟨by kernel_rfl, fun j t ht => ?_⟩
  rw [Tryd.params3] at ht
  have hm : t ∈ [9] := by simpa using Array.mem_of_getElem? ht
  have hall : ([9].all fun u => !Tryd.prog.wantsStandIn u) = true := by kernel_rfl
  exact (show Tryd.prog.wantsStandIn t = false by simpa using List.all_eq_true.1 hall t hm)

theorem proved : Rows.FnExactReadEnvCardSaid :=
  Claim7.holds_tied_plain_at .later [] _ _ _ _ said (fun _ h => by cases h) (by kernel_rfl) (fun _ h => by cases h) fnExactReadEnv_row_tie rfl ⟨rfl, rfl⟩ (by kernel_rfl) rfl plain (by kernel_rfl)
end Go.Proofs.YtmolcpojdojmlaaDoor.fnExactReadEnv

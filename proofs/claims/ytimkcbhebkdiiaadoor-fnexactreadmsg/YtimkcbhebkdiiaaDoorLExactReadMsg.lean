/- Proved: for every string FnExactReadMsg returns true: the program's ReadMsg answers as the specification's (strings of more than 2^20 bytes are passed over by the law itself). The package-level variable that the code reads is tied to the program's text. No further condition. -/
import Derived.Test.YtimkcbhebkdiiaaDoorRows
import Derived.Test.YtimkcbhebkdiiaaDoorCards
import Derived.Test.YtimkcbhebkdiiaaDoorTie
import Derived.WalkKit
import Derived.ProofKit
import Derived.OpenShut
import Derived.ShutString
import Derived.ChangeOld
import Derived.ChangeVars
import Derived.OpenVars
import Derived.Below
import Derived.Deep.DeepHandedRow
import Derived.Lib.LaidTab
import Derived.Test.YtimkcbhebkdiiaaDoorRdM4
import Derived.Test.YtimkcbhebkdiiaaDoorCardE
namespace Go.Proofs.YtimkcbhebkdiiaaDoor.fnExactReadMsg
open Go.ChangeShapes Go.WideShapes Go.ChangeAt Go.RowKit Go.My
open Go.ChangeMaps (open_string shut_string)
set_option linter.unusedVariables false

theorem own : ownKnob Tryd.prog.godebug = none := by kernel_rfl
theorem laidOut : laidOutB Tryd.prog = true := by kernel_rfl

set_option maxHeartbeats 2000000 in
theorem eqHead_same (p : ByteArray) (a b : Int) (w : World) :
    Calls Tryd.prog 42 #[.agg (headA p a b), .agg (headA p a b)] w fun e w' => e = .returned (.bool true) ∧ Below w.heap.size w w' := by
  go_enter Tryd.func42, Tryd.ntmps42
  go_wp2
  go_ret
  exact ⟨rfl, (below_box w _).alloc (by simp) _⟩

set_option maxHeartbeats 2000000 in
theorem eqMsg_same (p : ByteArray) (a b : Int) (s : ByteArray) (w : World) :
    Calls Tryd.prog 21 #[.agg (msgA p a b s), .agg (msgA p a b s)] w fun e w' => e = .returned (.bool true) ∧ Below w.heap.size w w' := by
  have e1 : (w.alloc (.cells (msgA p a b s) 27)).heap.size = w.heap.size + 1 := by simp
  have x0 : BlkAt w.heap.size (msgA p a b s) 27 ((w.alloc (.cells (msgA p a b s) 27)).alloc (.cells (msgA p a b s) 27)) := (BlkAt.box _ _ _).past _
  have y0 : BlkAt (w.heap.size + 1) (msgA p a b s) 27 ((w.alloc (.cells (msgA p a b s) 27)).alloc (.cells (msgA p a b s) 27)) := by rw [← e1]; exact BlkAt.box _ _ _
  have hB : Below w.heap.size w ((w.alloc (.cells (msgA p a b s) 27)).alloc (.cells (msgA p a b s) 27)) := (below_box w _).alloc (by simp) _
  go_enter Tryd.func21, Tryd.ntmps21
  go_wp2_with fail
  refine (eqHead_same p a b _).mono ?_
  rintro e w1 ⟨rfl, hb1⟩
  have x0 := BlkAt.below hb1 x0
  have y0 := BlkAt.below hb1 y0
  have hB := below_next hb1 hB hB.size
  have c3 := x0.cell (j := 3) rfl
  have d3 := y0.cell (j := 3) rfl
  go_wp2
  go_ret
  exact ⟨rfl, hB⟩

set_option maxHeartbeats 2000000 in
theorem walk (w : World) (hk : ∃ T v, TabE T v w) (a0 : ByteArray) (wa0 : a0.size ≤ maxLen) :
    Calls Tryd.prog 5 #[.string a0] w fun e w' => e = .returned (.bool true) ∧ Below w.heap.size w w' := by
  unfold maxLen at wa0
  obtain ⟨T, v, hE⟩ := hk
  by_cases ha0 : a0.size ≤ 1048576
  case neg =>
    have ha0' : (1048576 : Int) < (a0.size : Int) := by omega
    clear ha0
    go_enter Tryd.func5, Tryd.ntmps5
    go_wp2
    go_ret
    exact ⟨rfl, Below.refl _ _⟩
  have ha0' : (a0.size : Int) ≤ 1048576 := by omega
  have H1 := Lib.hid (fun w => readMsg_s a0 w ha0)
  have H2 := Lib.hid (fun w h => readMsg_i a0 w T v h ha0)
  obtain ⟨p, a, b, x, hx⟩ := rdMA_four a0
  rw [hx] at H1 H2
  generalize decide (RdMP a0) = R at *
  clear hx ha0 wa0
  have H3 := Lib.hid (fun w => eqMsg_same p a b x w)
  go_enter Tryd.func5, Tryd.ntmps5
  go_wp2_with fail
  refine (H1.out _).mono ?_
  rintro e w1 ⟨rfl, hb1⟩
  have hE1 := TabE.below ((hb1.mono (Nat.le_refl _))) hE
  go_wp2_with fail
  have e1 := BlkAt.box w1 (msgA p a b x) 27
  have hB := hb1.trans ((below_box w1 (.cells (msgA p a b x) 27)).mono hb1.size)
  refine (H2.out _ (TabE.below (below_box w1 _) hE1)).mono ?_
  rintro e w2 ⟨rfl, hb2⟩
  have e1 := BlkAt.below hb2 e1
  have hB := below_next hb2 hB hB.size
  have e2 := BlkAt.box w2 (msgA p a b x) 27
  have e1 := e1.past (.cells (msgA p a b x) 27)
  have hB := hB.trans ((below_box w2 (.cells (msgA p a b x) 27)).mono hB.size)
  have c0 := e1.cell (j := 0) rfl
  have c1 := e1.cell (j := 1) rfl
  have c2 := e1.cell (j := 2) rfl
  have c3 := e1.cell (j := 3) rfl
  have d0 := (BlkAt.below hb2 (BlkAt.box w1 (msgA p a b x) 27)).cell (j := 0) rfl
  have d1 := (BlkAt.below hb2 (BlkAt.box w1 (msgA p a b x) 27)).cell (j := 1) rfl
  have d2 := (BlkAt.below hb2 (BlkAt.box w1 (msgA p a b x) 27)).cell (j := 2) rfl
  have d3 := (BlkAt.below hb2 (BlkAt.box w1 (msgA p a b x) 27)).cell (j := 3) rfl
  have hlt := (BlkAt.below hb2 (BlkAt.box w1 (msgA p a b x) 27)).lt
  go_wp2_with fail
  refine (H3.out _).mono ?_
  rintro e w3 ⟨rfl, hb3⟩
  have hB := below_next hb3 hB hB.size
  go_wp2
  go_ret
  exact ⟨rfl, hB⟩

set_option maxRecDepth 100000 in
theorem lifted (os : Os) (started : os.Started) (H : Type) (enc : TypeId × Value → H) (F : Stop.Interp) :
    ReturnsInHanded {} Tryd.checked os 5 .any ((OpenSpec.ofChange Rows.fnExactReadMsgSpec).preRow enc Tryd.prog Tryd.f5 Rows.fnExactReadMsgRow.domain false Rows.fnExactReadMsgRow.laid) (((OpenSpec.ofChange Rows.fnExactReadMsgSpec).at F).post enc Tryd.prog Tryd.f5 false true false false) := by
  refine returnsInHanded_of_row (C := Tryd.checked) (s := OpenSpec.ofChange Rows.fnExactReadMsgSpec) own started (by kernel_rfl) Tryd.func5
    (witness_row_at (enc := enc) (C := Tryd.checked) false (laidWorldE os) #[.string ByteArray.empty] rfl (by kernel_rfl) (by kernel_rfl) (by kernel_rfl)
      (OpenSpec.preRow_of_B rfl 8 (by kernel_rfl) (by kernel_rfl) (laid_metE os #[.string ByteArray.empty]))) ?_
  intro W base args ds gs before hval0 hW _ _ _ hL _ _
  have hval : ∀ (j : Nat) t v, Tryd.f5.params[j]? = some t → args[j]? = some v → Value.okWide Tryd.prog W .any base t v := hval0
  have hW' := hW
  obtain ⟨p, q, hA0, hV, rfl, hfz, hnd⟩ := hW
  have hA : DataW.TrodAll enc Tryd.prog W 0 (fun _ => true) true Tryd.f5.params.toList args.toList ds p := hA0
  rw [Tryd.params5] at hA hval
  obtain ⟨v0, vs0, d0, ds0, p0, q0, hargs, rfl, rfl, h0, r0⟩ := trodAll_cons hA
  obtain ⟨rfl, rfl, rfl⟩ := trodAll_nil r0
  obtain rfl : args = #[v0] := by cases args; simp_all
  have hVV := hV
  obtain ⟨_, _, _, _, dv, _, rfl, _⟩ := trodVars_one hV
  obtain ⟨a0, rfl, rfl, rfl, w0⟩ := open_string Tryd.underlying9 (hval 0 9 v0 rfl rfl) h0
  clear hA0 hval0
  refine (walk W (tab_ofE hL) a0 w0).mono fun e W' ⟨he, bel⟩ => ?_
  subst he
  exact ⟨_, rfl, _, _, _, [], _, _, hW', trodAll_mk1 (shut_bool Tryd.underlying4 _), (trodAll_cons_mk (shut_string Tryd.underlying9 w0) trodAll_mk0), Below.trodVars laidOut bel (by kernel_rfl) hVV, bel.frame _, fun h => by cases h⟩

theorem said : Rows.FnExactReadMsgSaid :=
  OpenClaim.holds_of_cond 5 Tryd.f5 rfl rfl rfl rfl rfl rfl rfl ⟨rfl, rfl, rfl, rfl, rfl⟩ rfl rfl rfl rfl rfl (by kernel_rfl) Tryd.func5 (by kernel_rfl)
    (of_decide_eq_true (by kernel_rfl)) (by unfold Func.isWrapper; first | (rw [if_pos (by decide +kernel)]; kernel_rfl) | (rw [if_neg (by decide +kernel)]; exact ⟨rfl, rfl⟩))
    (fun os started H enc _ F => by rw [OpenClaim.pre_eq_preRow]; exact lifted os started H enc F)

theorem plain (f : FuncId) (fn : Func) (hf : Tryd.pinned.checked.prog.funcNamed "loop.example/g00702/laws.FnExactReadMsg" = some f) (hfn : Tryd.pinned.checked.prog.funcs[f]? = some fn) :
    false = Tryd.pinned.checked.prog.looks [] ∧ ∀ (j : Nat) t, fn.params[j]? = some t → Tryd.pinned.checked.prog.wantsStandIn t = false := by
  obtain rfl : f = 5 := Option.some.inj ((show Tryd.prog.funcNamed "loop.example/g00702/laws.FnExactReadMsg" = some 5 by kernel_rfl).symm.trans hf) |>.symm
  obtain rfl : fn = Tryd.f5 := (Option.some.inj (Tryd.func5.symm.trans hfn)).symm
  refine ⟨by kernel_rfl, fun j t ht => ?_⟩
  rw [Tryd.params5] at ht
  have hm : t ∈ [9] := by simpa using Array.mem_of_getElem? ht
  have hall : ([9].all fun u => !Tryd.prog.wantsStandIn u) = true := by kernel_rfl
  exact (show Tryd.prog.wantsStandIn t = false by simpa using List.all_eq_true.1 hall t hm)

theorem proved : Rows.FnExactReadMsgCardSaid :=
  Claim7.holds_tied_plain_at .later [] _ _ _ _ said (fun _ h => by cases h) (by kernel_rfl) (fun _ h => by cases h) fnExactReadMsg_row_tie rfl ⟨rfl, rfl⟩ (by kernel_rfl) rfl plain (by kernel_rfl)
end Go.Proofs.YtimkcbhebkdiiaaDoor.fnExactReadMsg

/- Proved: for every envelope FnExactLetterPart returns true: the program's LetterPart answers as the specification's (envelopes of more than 2^20 bytes are passed over by the law itself). The library's tables that the code reads are tied to the program's text. No further condition. -/
import Derived.Test.YtmekpinhhmknnaaDoorRows
import Derived.Test.YtmekpinhhmknnaaDoorCards
import Derived.Test.YtmekpinhhmknnaaDoorTie
import Derived.WalkKit
import Derived.ProofKit
import Derived.OpenShut
import Derived.ShutString
import Derived.ChangeOld
import Derived.ChangeVars
import Derived.OpenVars
import Derived.Below
import Derived.Deep.DeepHandedRow
import Derived.Lib.LaidTab
import Derived.Test.YtmekpinhhmknnaaDoorCardD
import Derived.Test.YtmekpinhhmknnaaDoorPrlS
import Derived.Test.YtmekpinhhmknnaaDoorPrl2
import Derived.Test.YtmekpinhhmknnaaDoorWireE
import Derived.Test.YtmekpinhhmknnaaDoorStr2
namespace Go.Proofs.YtmekpinhhmknnaaDoor.fnExactLetterPart
open Go.ChangeShapes Go.WideShapes Go.ChangeAt Go.RowKit Go.My
set_option linter.unusedVariables false

theorem own : ownKnob Tryd.prog.godebug = none := by kernel_rfl

theorem laidOut : laidOutB Tryd.prog = true := by kernel_rfl
theorem wf_b {n : Int} (h : (Lit.int .i64 n).wf = true) : WfN n := by
  simp [Lit.wf, IntKind.min, IntKind.max, IntKind.signed, IntKind.bits] at h
  exact h

set_option maxHeartbeats 4000000 in
theorem walk (w : World) (hk : TabD w) (f t : Int) (z : Bool) (p q : ByteArray) (o : Int) (u : ByteArray) (a b : Int) (s : ByteArray) (hw : envW f t z p q o u a b s) :
    Calls Tryd.prog 4 #[.agg (envA f t z p q o u a b s)] w fun e w' => e = .returned (.bool true) ∧ Below w.heap.size w w' := by
  have hp : p.size ≤ 9223372036854775807 := hw.2.2.1
  have hq : q.size ≤ 9223372036854775807 := hw.2.2.2.1
  have hu : u.size ≤ 9223372036854775807 := hw.2.2.2.2.2.1
  have hs : s.size ≤ 9223372036854775807 := hw.2.2.2.2.2.2.2.2
  have hb : BdE f t o a b s := ⟨wf_b hw.1, wf_b hw.2.1, wf_b hw.2.2.2.2.1, wf_b hw.2.2.2.2.2.2.1, wf_b hw.2.2.2.2.2.2.2.1, by constructor <;> omega⟩
  have HK := Lib.hid hk
  clear hk
  have hb0 := below_box w (.cells (envA f t z p q o u a b s) 36)
  have hS := BlkAt.box w (envA f t z p q o u a b s) 36
  have H1 := Lib.hid (fun w => szEnv_any f t z p q o u a b s 1048576 w (by omega) (by omega) hp hq hu hs)
  by_cases h : (1048576 : Int) - ((p.size + q.size + (u.size + s.size) : Nat) : Int) < 0
  · have hL : szS 1048576 (p.size + q.size + (u.size + s.size)) < 0 := by rw [szS_no h]; omega
    clear h hw
    generalize szS 1048576 (p.size + q.size + (u.size + s.size)) = L at *
    go_enter Tryd.func4, Tryd.ntmps4
    go_wp2_with fail
    refine (H1.out _).mono ?_
    rintro e w1 ⟨rfl, hb1⟩
    go_wp2
    go_ret
    exact ⟨rfl, hb0.trans (hb1.mono hb0.size)⟩
  have hL : 0 ≤ szS 1048576 (p.size + q.size + (u.size + s.size)) := by rw [szS_yes h]; omega
  have H2 := Lib.hid (fun w => toEnv_any f t z p q o u a b s w)
  have H3 := Lib.hid (fun w => part_s f t z p q o u a b s w hb hp hq hu hs)
  have H4 := Lib.hid (fun w h => part_i f t z p q o u a b s w h hb hp hq hu hs)
  clear h hw hb
  generalize szS 1048576 (p.size + q.size + (u.size + s.size)) = L at *
  generalize partV f t z p q o u a b s = VV at *
  go_enter Tryd.func4, Tryd.ntmps4
  go_wp2_with fail
  refine (H1.out _).mono ?_
  rintro e w1 ⟨rfl, hb1⟩
  have hS := BlkAt.below hb1 hS
  have hB : Below w.heap.size w w1 := hb0.trans (hb1.mono hb0.size)
  clear hb1 hb0
  have c0 := hS.cell (j := 0) rfl
  have c1 := hS.cell (j := 1) rfl
  have c2 := hS.cell (j := 2) rfl
  have c3 := hS.cell (j := 3) rfl
  have c4 := hS.cell (j := 4) rfl
  have c5 := hS.cell (j := 5) rfl
  have c6 := hS.cell (j := 6) rfl
  have c7 := hS.cell (j := 7) rfl
  have c8 := hS.cell (j := 8) rfl
  have c9 := hS.cell (j := 9) rfl
  go_wp2_with fail
  refine (H2.out _).mono ?_
  rintro e w2 ⟨rfl, hb2⟩
  have hS := BlkAt.below hb2 hS
  have hB := below_next hb2 hB hB.size
  clear hb2 c0 c1 c2 c3 c4 c5 c6 c7 c8 c9
  have c0 := hS.cell (j := 0) rfl
  have c1 := hS.cell (j := 1) rfl
  have c2 := hS.cell (j := 2) rfl
  have c3 := hS.cell (j := 3) rfl
  have c4 := hS.cell (j := 4) rfl
  have c5 := hS.cell (j := 5) rfl
  have c6 := hS.cell (j := 6) rfl
  have c7 := hS.cell (j := 7) rfl
  have c8 := hS.cell (j := 8) rfl
  have c9 := hS.cell (j := 9) rfl
  go_wp2_with fail
  refine (H3.out _).mono ?_
  rintro e w3 ⟨rfl, hb2⟩
  have hS := BlkAt.below hb2 hS
  have hB := below_next hb2 hB hB.size
  clear hb2 c0 c1 c2 c3 c4 c5 c6 c7 c8 c9
  have c0 := hS.cell (j := 0) rfl
  have c1 := hS.cell (j := 1) rfl
  have c2 := hS.cell (j := 2) rfl
  have c3 := hS.cell (j := 3) rfl
  have c4 := hS.cell (j := 4) rfl
  have c5 := hS.cell (j := 5) rfl
  have c6 := hS.cell (j := 6) rfl
  have c7 := hS.cell (j := 7) rfl
  have c8 := hS.cell (j := 8) rfl
  have c9 := hS.cell (j := 9) rfl
  go_wp2_with fail
  refine (H2.out _).mono ?_
  rintro e w4 ⟨rfl, hb2⟩
  have hB := below_next hb2 hB hB.size
  clear hb2 c0 c1 c2 c3 c4 c5 c6 c7 c8 c9
  go_wp2_with fail
  refine (H4.out _ (HK.out.below hB)).mono ?_
  rintro e w5 ⟨rfl, hb2⟩
  have hB := below_next hb2 hB hB.size
  clear hb2
  go_wp2
  go_ret
  exact ⟨rfl, hB⟩

set_option maxRecDepth 100000 in
theorem lifted (os : Os) (started : os.Started) (H : Type) (enc : TypeId × Value → H) (F : Stop.Interp) :
    ReturnsInHanded {} Tryd.checked os 4 .any ((OpenSpec.ofChange Rows.fnExactLetterPartSpec).preRow enc Tryd.prog Tryd.f4 Rows.fnExactLetterPartRow.domain false Rows.fnExactLetterPartRow.laid) (((OpenSpec.ofChange Rows.fnExactLetterPartSpec).at F).post enc Tryd.prog Tryd.f4 false true false false) := by
  refine returnsInHanded_of_row (C := Tryd.checked) (s := OpenSpec.ofChange Rows.fnExactLetterPartSpec) own started (by kernel_rfl) Tryd.func4
    (witness_row_at (enc := enc) (C := Tryd.checked) false (laidWorldD os) #[.agg #[.int .i64 0, .int .i64 0, .bool false, .string ByteArray.empty, .string ByteArray.empty, .int .i64 0, .string ByteArray.empty, .int .i64 0, .int .i64 0, .string ByteArray.empty]] rfl (by kernel_rfl) (by kernel_rfl) (by kernel_rfl)
      (OpenSpec.preRow_of_B rfl 8 (by kernel_rfl) (by kernel_rfl) (laid_metD os #[.agg #[.int .i64 0, .int .i64 0, .bool false, .string ByteArray.empty, .string ByteArray.empty, .int .i64 0, .string ByteArray.empty, .int .i64 0, .int .i64 0, .string ByteArray.empty]]))) ?_
  intro W base args ds gs before hval0 hW _ _ _ hL _ _
  have hval : ∀ (j : Nat) t v, Tryd.f4.params[j]? = some t → args[j]? = some v → Value.okWide Tryd.prog W .any base t v := hval0
  have hW' := hW
  obtain ⟨p, q, hA0, hV, rfl, hfz, hnd⟩ := hW
  have hA : DataW.TrodAll enc Tryd.prog W 0 (fun _ => true) true Tryd.f4.params.toList args.toList ds p := hA0
  rw [Tryd.params4] at hA hval
  obtain ⟨v0, vs0, d0, ds0, p0, q0, hargs, rfl, rfl, h0, r0⟩ := trodAll_cons hA
  obtain ⟨rfl, rfl, rfl⟩ := trodAll_nil r0
  obtain rfl : args = #[v0] := by cases args; simp_all
  have hVV := hV
  obtain ⟨rfl, rfl⟩ := trodVars_none hV
  obtain ⟨f0, t0, z0, p0, q0, o0, u0, a0, b0, s0, rfl, rfl, rfl, w0⟩ := open_envV (hval 0 36 v0 rfl rfl) h0
  clear hA0 hval0
  refine (walk W (tab_ofD hL) f0 t0 z0 p0 q0 o0 u0 a0 b0 s0 w0).mono fun e W' ⟨he, bel⟩ => ?_
  subst he
  simp only [List.append_nil] at hW'
  exact ⟨_, rfl, _, _, _, [], _, [], hW', trodAll_mk1 (shut_bool Tryd.underlying4 _), (trodAll_cons_mk (shut_envV f0 t0 z0 p0 q0 o0 u0 a0 b0 s0 w0) trodAll_mk0), rfl, bel.frame _, fun h => by cases h⟩

theorem said : Rows.FnExactLetterPartSaid :=
  OpenClaim.holds_of_cond 4 Tryd.f4 rfl rfl rfl rfl rfl rfl rfl ⟨rfl, rfl, rfl, rfl, rfl⟩ rfl rfl rfl rfl rfl (by kernel_rfl) Tryd.func4 (by kernel_rfl)
    (of_decide_eq_true (by kernel_rfl)) (by unfold Func.isWrapper; first | (rw [if_pos (by decide +kernel)]; kernel_rfl) | (rw [if_neg (by decide +kernel)]; exact ⟨rfl, rfl⟩))
    (fun os started H enc _ F => by rw [OpenClaim.pre_eq_preRow]; exact lifted os started H enc F)

theorem plain (f : FuncId) (fn : Func) (hf : Tryd.pinned.checked.prog.funcNamed "loop.example/g00702/laws.FnExactLetterPart" = some f) (hfn : Tryd.pinned.checked.prog.funcs[f]? = some fn) :
    true = Tryd.pinned.checked.prog.looks [] ∧ ∀ (j : Nat) t, fn.params[j]? = some t → Tryd.pinned.checked.prog.wantsStandIn t = false := by
  obtain rfl : f = 4 := Option.some.inj ((show Tryd.prog.funcNamed "loop.example/g00702/laws.FnExactLetterPart" = some 4 by kernel_rfl).symm.trans hf) |>.symm
  obtain rfl : fn = Tryd.f4 := (Option.some.inj (Tryd.func4.symm.trans hfn)).symm
  refine ⟨by kernel_rfl, fun j t ht => ?_⟩
  rw [Tryd.params4] at ht
  have hm : t ∈ [36] := by simpa using Array.mem_of_getElem? ht
  have hall : ([36].all fun u => !Tryd.prog.wantsStandIn u) = true := by kernel_rfl
  exact (show Tryd.prog.wantsStandIn t = false by simpa using List.all_eq_true.1 hall t hm)

theorem proved : Rows.FnExactLetterPartCardSaid :=
  Claim7.holds_tied_plain_at .later [] _ _ _ _ said (fun _ h => by cases h) (by kernel_rfl) (fun _ h => by cases h) fnExactLetterPart_row_tie rfl ⟨rfl, rfl⟩ (by kernel_rfl) rfl plain (by kernel_rfl)
end Go.Proofs.YtmekpinhhmknnaaDoor.fnExactLetterPart

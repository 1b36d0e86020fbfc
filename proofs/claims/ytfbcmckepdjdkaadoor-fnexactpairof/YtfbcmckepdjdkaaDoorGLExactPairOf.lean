/- Proved: for every argument FnExactPairOf returns true: the program's PairOf answers as the specification's, in every field (strings of more than 2^20 bytes are passed over by the law itself). The package-level tables that the code reads are tied to the program's text. No further condition. -/
import Derived.Test.YtfbcmckepdjdkaaDoorRows
import Derived.Test.YtfbcmckepdjdkaaDoorCards
import Derived.Test.YtfbcmckepdjdkaaDoorTie
import Derived.WalkKit
import Derived.ProofKit
import Derived.OpenShut
import Derived.ShutString
import Derived.ChangeOld
import Derived.ChangeVars
import Derived.OpenVars
import Derived.Below
import Derived.Deep.DeepHandedRow
import Derived.Lib.LaidTab
import Derived.Test.YtfbcmckepdjdkaaDoorGM5
import Derived.Test.YtfbcmckepdjdkaaDoorGM2
namespace Go.Proofs.YtfbcmckepdjdkaaDoor.fnExactPairOf
open Go.ChangeShapes Go.WideShapes Go.ChangeAt Go.RowKit Go.My
open Go.ChangeMaps (open_string shut_string)
set_option linter.unusedVariables false

theorem own : ownKnob Tryd.prog.godebug = none := by kernel_rfl
theorem laidOut : laidOutB Tryd.prog = true := by kernel_rfl

set_option maxRecDepth 100000 in
set_option maxHeartbeats 4000000 in
theorem walk (w : World) (hk : TabP w) (a0 : ByteArray) (wa0 : a0.size ≤ maxLen) :
    Calls Tryd.prog 7 #[.string a0] w fun e w' => e = .returned (.bool true) ∧ Below w.heap.size w w' := by
  unfold maxLen at wa0
  by_cases ha0 : a0.size ≤ 1048576
  case neg =>
    have ha0' : (1048576 : Int) < (a0.size : Int) := by omega
    clear ha0
    go_enter Tryd.func7, Tryd.ntmps7
    go_wp2
    go_ret
    exact ⟨rfl, Below.refl _ _⟩
  have ha0' : (a0.size : Int) ≤ 1048576 := by omega
  have Ha0 := Lib.hid ha0
  have h0 := hk.1
  clear ha0 wa0
  have CS := Lib.hid (fun w => pairOf_s a0 w Ha0.out)
  have CI := Lib.hid (fun w h => pairOf_i a0 w Ha0.out h)
  have HA := Lib.hid (pairV_is a0)
  generalize pairV a0 = A at *
  generalize decide (a0.size = 32) = b at *
  go_enter Tryd.func7, Tryd.ntmps7
  go_wp2_with fail
  refine (CS.out _).mono ?_
  rintro e w1 ⟨rfl, hBw1⟩
  go_wp2_with (first
    | ((with_reducible refine wpList_store_row' (o := ⟨none, .store 46 _ _, _, _, _, _⟩) rfl 46 _ _ rfl w1.heap.size A rfl rfl 46 pairZ (heap_alloc_new w1 _) HA.out.sz HA.out.zs HA.out.one ?_); intro w2 hw2 hsw2 hgw2)
    | fail)
  have f5 : Blk w1.heap.size A 46 w2 := hw2
  have hBw2 : Below w.heap.size w w2 := (hBw1.alloc hBw1.size _).grown hgw2 (by simp; have := hBw1.size; omega) (by intro k hk; have := Option.some.inj hk; have := hBw1.size; omega)
  clear hw2 hsw2 hgw2 hBw1
  refine (CI.out _ (hk.below hBw2 h0)).mono ?_
  rintro e w3 ⟨rfl, hb3⟩
  have hBw3 := hBw2.trans (hb3.mono hBw2.size)
  replace f5 := f5.below hb3
  clear hb3 hBw2
  have l5 := f5.lt
  have L5 := Lib.hid l5
  clear l5
  go_wp2_with (first
    | ((with_reducible refine wpList_store_row' (o := ⟨none, .store 46 _ _, _, _, _, _⟩) rfl 46 _ _ rfl w3.heap.size A rfl rfl 46 pairZ (heap_alloc_new w3 _) HA.out.sz HA.out.zs HA.out.one ?_); intro w4 hw4 hsw4 hgw4)
    | with_reducible refine wpList_load_row (o := ⟨some 20, _, _, _, _, _⟩) rfl 46 _ rfl w3.heap.size rfl 46 A (0, 0) _ hw4 Tryd.underlying46 rfl HA.out.sz ?_
    | with_reducible refine wpList_load_row (o := ⟨some 21, _, _, _, _, _⟩) rfl 46 _ rfl w1.heap.size rfl 46 A (0, 0) _ ((hgw4.block _ (by simp; have := L5.out; omega) (by simp; have := L5.out; omega)).trans ((Below.heap_alloc _ _ _ L5.out).trans f5.h)) Tryd.underlying46 rfl HA.out.sz ?_
    | fail)
  have hBw4 : Below w.heap.size w w4 := (hBw3.alloc hBw3.size _).grown hgw4 (by simp; have := hBw3.size; omega) (by intro k hk; have := Option.some.inj hk; have := hBw3.size; omega)
  clear hw4 hsw4 hgw4 hBw3 L5 f5
  refine (HA.out.eq _).mono ?_
  rintro e w5 ⟨rfl, hbw5⟩
  have hBw5 := hBw4.trans (hbw5.mono hBw4.size)
  clear hbw5 hBw4
  cases b
  · go_wp2
    go_ret
    exact ⟨rfl, hBw5⟩
  · go_wp2
    go_ret
    exact ⟨rfl, hBw5⟩

set_option maxRecDepth 100000 in
theorem lifted (os : Os) (started : os.Started) (H : Type) (enc : TypeId × Value → H) (F : Stop.Interp) :
    ReturnsInHanded {} Tryd.checked os 7 .any ((OpenSpec.ofChange Rows.fnExactPairOfSpec).preRow enc Tryd.prog Tryd.f7 Rows.fnExactPairOfRow.domain false Rows.fnExactPairOfRow.laid) (((OpenSpec.ofChange Rows.fnExactPairOfSpec).at F).post enc Tryd.prog Tryd.f7 false true false false) := by
  refine returnsInHanded_of_row (C := Tryd.checked) (s := OpenSpec.ofChange Rows.fnExactPairOfSpec) own started (by kernel_rfl) Tryd.func7
    (witness_row_at (enc := enc) (C := Tryd.checked) false (laidWorldP os) #[.string ByteArray.empty] rfl (by kernel_rfl) (by kernel_rfl) (by kernel_rfl)
      (OpenSpec.preRow_of_B rfl 8 (by kernel_rfl) (by kernel_rfl) (laid_metP os #[.string ByteArray.empty]))) ?_
  intro W base args ds gs before hval0 hW _ _ _ hL _ _
  have hval : ∀ (j : Nat) t v, Tryd.f7.params[j]? = some t → args[j]? = some v → Value.okWide Tryd.prog W .any base t v := hval0
  have hW' := hW
  obtain ⟨p, q, hA0, hV, rfl, hfz, hnd⟩ := hW
  have hA : DataW.TrodAll enc Tryd.prog W 0 (fun _ => true) true Tryd.f7.params.toList args.toList ds p := hA0
  rw [Tryd.params7] at hA hval
  obtain ⟨v0, vs0, d0, ds0, p0, q0, hargs, rfl, rfl, h0, r0⟩ := trodAll_cons hA
  obtain ⟨rfl, rfl, rfl⟩ := trodAll_nil r0
  obtain rfl : args = #[v0] := by cases args; simp_all
  have hVV := hV
  obtain ⟨_, _, _, _, dv, _, rfl, _⟩ := trodVars_one hV
  obtain ⟨a0, rfl, rfl, rfl, w0⟩ := open_string Tryd.underlying9 (hval 0 9 v0 rfl rfl) h0
  clear hA0 hval0
  refine (walk W (tab_ofP hL) a0 w0).mono fun e W' ⟨he, bel⟩ => ?_
  subst he
  exact ⟨_, rfl, _, _, _, [], _, _, hW', trodAll_mk1 (shut_bool Tryd.underlying4 _), (trodAll_cons_mk (shut_string Tryd.underlying9 w0) trodAll_mk0), Below.trodVars laidOut bel (by kernel_rfl) hVV, bel.frame _, fun h => by cases h⟩

theorem said : Rows.FnExactPairOfSaid :=
  OpenClaim.holds_of_cond 7 Tryd.f7 rfl rfl rfl rfl rfl rfl rfl ⟨rfl, rfl, rfl, rfl, rfl⟩ rfl rfl rfl rfl rfl (by kernel_rfl) Tryd.func7 (by kernel_rfl)
    (of_decide_eq_true (by kernel_rfl)) (by unfold Func.isWrapper; first | (rw [if_pos (by decide +kernel)]; kernel_rfl) | (rw [if_neg (by decide +kernel)]; exact ⟨rfl, rfl⟩))
    (fun os started H enc _ F => by rw [OpenClaim.pre_eq_preRow]; exact lifted os started H enc F)

theorem plain (f : FuncId) (fn : Func) (hf : Tryd.pinned.checked.prog.funcNamed "loop.example/g00702/laws.FnExactPairOf" = some f) (hfn : Tryd.pinned.checked.prog.funcs[f]? = some fn) :
    false = Tryd.pinned.checked.prog.looks [] ∧ ∀ (j : Nat) t, fn.params[j]? = some t → Tryd.pinned.checked.prog.wantsStandIn t = false := by
  obtain rfl : f = 7 := Option.some.inj ((show Tryd.prog.funcNamed "loop.example/g00702/laws.FnExactPairOf" = some 7 by kernel_rfl).symm.trans hf) |>.symm
  obtain rfl : fn = Tryd.f7 := (Option.some.inj (Tryd.func7.symm.trans hfn)).symm
  refine ⟨by kernel_rfl, fun j t ht => ?_⟩
  rw [Tryd.params7] at ht
  have hm : t ∈ [9] := by simpa using Array.mem_of_getElem? ht
  have hall : ([9].all fun u => !Tryd.prog.wantsStandIn u) = true := by kernel_rfl
  exact (show Tryd.prog.wantsStandIn t = false by simpa using List.all_eq_true.1 hall t hm)

theorem proved : Rows.FnExactPairOfCardSaid :=
  Claim7.holds_tied_plain_at .later [] _ _ _ _ said (fun _ h => by cases h) (by kernel_rfl) (fun _ h => by cases h) fnExactPairOf_row_tie rfl ⟨rfl, rfl⟩ (by kernel_rfl) rfl plain (by kernel_rfl)
end Go.Proofs.YtfbcmckepdjdkaaDoor.fnExactPairOf

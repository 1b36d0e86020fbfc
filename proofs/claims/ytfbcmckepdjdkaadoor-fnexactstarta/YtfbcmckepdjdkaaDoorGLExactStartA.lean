/- Proved: for all arguments FnExactStartA returns true: the program's StartA answers as the specification's, in every field, and its answer owns its memory (strings of more than 2^20 bytes are passed over by the law itself). The package-level tables that the code reads are tied to the program's text. No further condition. -/
import Derived.Test.YtfbcmckepdjdkaaDoorRows
import Derived.Test.YtfbcmckepdjdkaaDoorCards
import Derived.Test.YtfbcmckepdjdkaaDoorTie
import Derived.WalkKit
import Derived.ProofKit
import Derived.OpenShut
import Derived.ShutString
import Derived.ChangeOld
import Derived.ChangeVars
import Derived.OpenVars
import Derived.Below
import Derived.Deep.DeepHandedRow
import Derived.Lib.LaidTab
import Derived.Test.YtfbcmckepdjdkaaDoorGStA1
import Derived.Test.YtfbcmckepdjdkaaDoorGCardPK
namespace Go.Proofs.YtfbcmckepdjdkaaDoor.fnExactStartA
open Go.ChangeShapes Go.WideShapes Go.ChangeAt Go.RowKit Go.My
open Go.ChangeMaps (open_string shut_string)
set_option linter.unusedVariables false

theorem own : ownKnob Tryd.prog.godebug = none := by kernel_rfl
theorem laidOut : laidOutB Tryd.prog = true := by kernel_rfl

set_option maxRecDepth 100000 in
set_option maxHeartbeats 4000000 in
theorem walk (w : World) (hk : TabPK w) (a0 : ByteArray) (wa0 : a0.size ≤ maxLen) (a1 : ByteArray) (wa1 : a1.size ≤ maxLen) (a2 : ByteArray) (wa2 : a2.size ≤ maxLen) :
    Calls Tryd.prog 3 #[.string a0, .string a1, .string a2] w fun e w' => e = .returned (.bool true) ∧ Below w.heap.size w w' := by
  unfold maxLen at wa0
  unfold maxLen at wa1
  unfold maxLen at wa2
  by_cases ha0 : a0.size ≤ 1048576
  case neg =>
    have ha0' : (1048576 : Int) < (a0.size : Int) := by omega
    clear ha0
    go_enter Tryd.func3, Tryd.ntmps3
    go_wp2
    go_ret
    exact ⟨rfl, Below.refl _ _⟩
  by_cases ha1 : a1.size ≤ 1048576
  case neg =>
    have ha0' : (a0.size : Int) ≤ 1048576 := by omega
    have ha1' : (1048576 : Int) < (a1.size : Int) := by omega
    clear ha0 ha1
    go_enter Tryd.func3, Tryd.ntmps3
    go_wp2
    go_ret
    exact ⟨rfl, Below.refl _ _⟩
  by_cases ha2 : a2.size ≤ 1048576
  case neg =>
    have ha0' : (a0.size : Int) ≤ 1048576 := by omega
    have ha1' : (a1.size : Int) ≤ 1048576 := by omega
    have ha2' : (1048576 : Int) < (a2.size : Int) := by omega
    clear ha0 ha1 ha2
    go_enter Tryd.func3, Tryd.ntmps3
    go_wp2
    go_ret
    exact ⟨rfl, Below.refl _ _⟩
  have ha0' : (a0.size : Int) ≤ 1048576 := by omega
  have Ha0 := Lib.hid ha0
  have ha1' : (a1.size : Int) ≤ 1048576 := by omega
  have Ha1 := Lib.hid ha1
  have ha2' : (a2.size : Int) ≤ 1048576 := by omega
  have Ha2 := Lib.hid ha2
  have HK0 := Lib.hid hk
  clear ha0 ha1 ha2 wa0 wa1 wa2
  have CS := Lib.hid (fun w => startA_s a0 a1 a2 w Ha0.out Ha1.out Ha2.out)
  have CI := Lib.hid (fun w h => startA_i a0 a1 a2 w Ha0.out Ha1.out Ha2.out h)
  have HA := Lib.hid (stA_is a0 a1 a2)
  generalize stA a0 a1 a2 = A at *
  generalize decide (a0.size = 32 ∧ a1.size = 32 ∧ a2.size = 32) = b at *
  go_enter Tryd.func3, Tryd.ntmps3
  go_wp2_with fail
  refine (CS.out _).mono ?_
  rintro e w1 ⟨rfl, hBw1⟩
  go_wp2_with (first
    | ((with_reducible refine wpList_store_row' (o := ⟨none, .store 24 _ _, _, _, _, _⟩) rfl 24 _ _ rfl w1.heap.size A rfl rfl 24 sesZ (heap_alloc_new w1 _) HA.out.sz HA.out.zs HA.out.one ?_); intro w2 hw2 hsw2 hgw2)
    | fail)
  have f5 : Blk w1.heap.size A 24 w2 := hw2
  have hBw2 : Below w.heap.size w w2 := (hBw1.alloc hBw1.size _).grown hgw2 (by simp; have := hBw1.size; omega) (by intro k hk; have := Option.some.inj hk; have := hBw1.size; omega)
  have kw2 : ∀ {g : Nat}, g < w1.heap.size → Blk g A 24 w1 → Blk g A 24 w2 := fun hg hb => (hgw2.block _ (by simp; omega) (by simp; omega)).trans ((Below.heap_alloc _ _ _ hg).trans hb)
  clear hw2 hsw2 hgw2
  clear kw2 hBw1
  refine (CI.out _ (hk.below hBw2 )).mono ?_
  rintro e w3 ⟨rfl, hb3⟩
  have hBw3 := hBw2.trans (hb3.mono hBw2.size)
  replace f5 := f5.below hb3
  clear hb3 hBw2
  have l5 := f5.lt
  have L5 := Lib.hid l5
  clear l5
  go_wp2_with (first
    | ((with_reducible refine wpList_store_row' (o := ⟨none, .store 24 _ _, _, _, _, _⟩) rfl 24 _ _ rfl w3.heap.size A rfl rfl 24 sesZ (heap_alloc_new w3 _) HA.out.sz HA.out.zs HA.out.one ?_); intro w4 hw4 hsw4 hgw4)
    | with_reducible refine wpList_load_row (o := ⟨some 38, _, _, _, _, _⟩) rfl 24 _ rfl w3.heap.size rfl 24 A (0, 0) _ hw4 Tryd.underlying24 rfl HA.out.sz ?_
    | with_reducible refine wpList_load_row (o := ⟨some 39, _, _, _, _, _⟩) rfl 24 _ rfl w1.heap.size rfl 24 A (0, 0) _ ((hgw4.block _ (by simp; have := L5.out; omega) (by simp; have := L5.out; omega)).trans ((Below.heap_alloc _ _ _ L5.out).trans f5.h)) Tryd.underlying24 rfl HA.out.sz ?_
    | fail)
  have f7 : Blk w3.heap.size A 24 w4 := hw4
  have hBw4 : Below w.heap.size w w4 := (hBw3.alloc hBw3.size _).grown hgw4 (by simp; have := hBw3.size; omega) (by intro k hk; have := Option.some.inj hk; have := hBw3.size; omega)
  have kw4 : ∀ {g : Nat}, g < w3.heap.size → Blk g A 24 w3 → Blk g A 24 w4 := fun hg hb => (hgw4.block _ (by simp; omega) (by simp; omega)).trans ((Below.heap_alloc _ _ _ hg).trans hb)
  clear hw4 hsw4 hgw4
  replace f5 := kw4 L5.out f5
  clear kw4 hBw3 L5
  refine (HA.out.eq _).mono ?_
  rintro e w5 ⟨rfl, hbw5⟩
  have hBw5 := hBw4.trans (hbw5.mono hBw4.size)
  replace f5 := f5.below hbw5
  replace f7 := f7.below hbw5
  clear hbw5 hBw4
  go_wp2_with (first
    | with_reducible refine wpList_load_row (o := ⟨some 47, _, _, _, _, _⟩) rfl 24 _ rfl w3.heap.size rfl 24 A (0, 0) _ f7.h Tryd.underlying24 rfl HA.out.sz ?_
    | fail)
  refine (HA.out.mark 1 _).mono ?_
  rintro e w6 ⟨rfl, hbw6⟩
  have hBw6 := hBw5.trans (hbw6.mono hBw5.size)
  replace f5 := f5.below hbw6
  replace f7 := f7.below hbw6
  clear hbw6 hBw5
  go_wp2_with (first
    | with_reducible refine wpList_load_row (o := ⟨some 50, _, _, _, _, _⟩) rfl 24 _ rfl w3.heap.size rfl 24 A (0, 0) _ f7.h Tryd.underlying24 rfl HA.out.sz ?_
    | fail)
  refine (HA.out.held 1 (by omega) _).mono ?_
  rintro e w7 ⟨rfl, hbw7⟩
  have hBw7 := hBw6.trans (hbw7.mono hBw6.size)
  replace f5 := f5.below hbw7
  replace f7 := f7.below hbw7
  clear hbw7 hBw6
  go_wp2_with fail
  refine (CI.out _ (hk.below hBw7 )).mono ?_
  rintro e w8 ⟨rfl, hb8⟩
  have hBw8 := hBw7.trans (hb8.mono hBw7.size)
  replace f5 := f5.below hb8
  replace f7 := f7.below hb8
  clear hb8 hBw7
  have L5 := Lib.hid f5.lt
  have L7 := Lib.hid f7.lt
  go_wp2_with (first
    | ((with_reducible refine wpList_store_row' (o := ⟨none, .store 24 _ _, _, _, _, _⟩) rfl 24 _ _ rfl w8.heap.size A rfl rfl 24 sesZ (heap_alloc_new w8 _) HA.out.sz HA.out.zs HA.out.one ?_); intro w9 hw9 hsw9 hgw9)
    | with_reducible refine wpList_load_row (o := ⟨some 65, _, _, _, _, _⟩) rfl 24 _ rfl w8.heap.size rfl 24 A (0, 0) _ hw9 Tryd.underlying24 rfl HA.out.sz ?_
    | with_reducible refine wpList_load_row (o := ⟨some 66, _, _, _, _, _⟩) rfl 24 _ rfl w1.heap.size rfl 24 A (0, 0) _ ((hgw9.block _ (by simp; have := L5.out; omega) (by simp; have := L5.out; omega)).trans ((Below.heap_alloc _ _ _ L5.out).trans f5.h)) Tryd.underlying24 rfl HA.out.sz ?_
    | fail)
  have f11 : Blk w8.heap.size A 24 w9 := hw9
  have hBw9 : Below w.heap.size w w9 := (hBw8.alloc hBw8.size _).grown hgw9 (by simp; have := hBw8.size; omega) (by intro k hk; have := Option.some.inj hk; have := hBw8.size; omega)
  have kw9 : ∀ {g : Nat}, g < w8.heap.size → Blk g A 24 w8 → Blk g A 24 w9 := fun hg hb => (hgw9.block _ (by simp; omega) (by simp; omega)).trans ((Below.heap_alloc _ _ _ hg).trans hb)
  clear hw9 hsw9 hgw9
  replace f5 := kw9 L5.out f5
  replace f7 := kw9 L7.out f7
  clear kw9 hBw8 L5 L7
  refine (HA.out.eq _).mono ?_
  rintro e w10 ⟨rfl, hbw10⟩
  have hBw10 := hBw9.trans (hbw10.mono hBw9.size)
  replace f5 := f5.below hbw10
  replace f7 := f7.below hbw10
  clear hbw10 hBw9
  go_wp2_with (first
    | with_reducible refine wpList_load_row (o := ⟨some 74, _, _, _, _, _⟩) rfl 24 _ rfl w3.heap.size rfl 24 A (0, 0) _ f7.h Tryd.underlying24 rfl HA.out.sz ?_
    | fail)
  refine (HA.out.held 1 (by omega) _).mono ?_
  rintro e w11 ⟨rfl, hbw11⟩
  have hBw11 := hBw10.trans (hbw11.mono hBw10.size)
  replace f5 := f5.below hbw11
  replace f7 := f7.below hbw11
  clear hbw11 hBw10
  go_wp2
  go_ret
  exact ⟨rfl, hBw11⟩

set_option maxRecDepth 100000 in
theorem lifted (os : Os) (started : os.Started) (H : Type) (enc : TypeId × Value → H) (F : Stop.Interp) :
    ReturnsInHanded {} Tryd.checked os 3 .any ((OpenSpec.ofChange Rows.fnExactStartASpec).preRow enc Tryd.prog Tryd.f3 Rows.fnExactStartARow.domain false Rows.fnExactStartARow.laid) (((OpenSpec.ofChange Rows.fnExactStartASpec).at F).post enc Tryd.prog Tryd.f3 false true false false) := by
  refine returnsInHanded_of_row (C := Tryd.checked) (s := OpenSpec.ofChange Rows.fnExactStartASpec) own started (by kernel_rfl) Tryd.func3
    (witness_row_at (enc := enc) (C := Tryd.checked) false (laidWorldPK os) #[.string ByteArray.empty, .string ByteArray.empty, .string ByteArray.empty] rfl (by kernel_rfl) (by kernel_rfl) (by kernel_rfl)
      (OpenSpec.preRow_of_B rfl 8 (by kernel_rfl) (by kernel_rfl) (laid_metPK os #[.string ByteArray.empty, .string ByteArray.empty, .string ByteArray.empty]))) ?_
  intro W base args ds gs before hval0 hW _ _ _ hL _ _
  have hval : ∀ (j : Nat) t v, Tryd.f3.params[j]? = some t → args[j]? = some v → Value.okWide Tryd.prog W .any base t v := hval0
  have hW' := hW
  obtain ⟨p, q, hA0, hV, rfl, hfz, hnd⟩ := hW
  have hA : DataW.TrodAll enc Tryd.prog W 0 (fun _ => true) true Tryd.f3.params.toList args.toList ds p := hA0
  rw [Tryd.params3] at hA hval
  obtain ⟨v0, vs0, d0, ds0, p0, q0, hargs, rfl, rfl, h0, r0⟩ := trodAll_cons hA
  obtain ⟨v1, vs1, d1, ds1, p1, q1, rfl, rfl, rfl, h1, r1⟩ := trodAll_cons r0
  obtain ⟨v2, vs2, d2, ds2, p2, q2, rfl, rfl, rfl, h2, r2⟩ := trodAll_cons r1
  obtain ⟨rfl, rfl, rfl⟩ := trodAll_nil r2
  obtain rfl : args = #[v0, v1, v2] := by cases args; simp_all
  have hVV := hV
  obtain ⟨_, _, _, _, dv, _, _, _, _, _, dv1, _, rfl, _⟩ := trodVars_two hV
  obtain ⟨a0, rfl, rfl, rfl, w0⟩ := open_string Tryd.underlying9 (hval 0 9 v0 rfl rfl) h0
  obtain ⟨a1, rfl, rfl, rfl, w1⟩ := open_string Tryd.underlying9 (hval 1 9 v1 rfl rfl) h1
  obtain ⟨a2, rfl, rfl, rfl, w2⟩ := open_string Tryd.underlying9 (hval 2 9 v2 rfl rfl) h2
  clear hA0 hval0
  refine (walk W (tab_ofPK hL) a0 w0 a1 w1 a2 w2).mono fun e W' ⟨he, bel⟩ => ?_
  subst he
  exact ⟨_, rfl, _, _, _, [], _, _, hW', trodAll_mk1 (shut_bool Tryd.underlying4 _), (trodAll_cons_mk (shut_string Tryd.underlying9 w0) (trodAll_cons_mk (shut_string Tryd.underlying9 w1) (trodAll_cons_mk (shut_string Tryd.underlying9 w2) trodAll_mk0))), Below.trodVars laidOut bel (by kernel_rfl) hVV, bel.frame _, fun h => by cases h⟩

theorem said : Rows.FnExactStartASaid :=
  OpenClaim.holds_of_cond 3 Tryd.f3 rfl rfl rfl rfl rfl rfl rfl ⟨rfl, rfl, rfl, rfl, rfl⟩ rfl rfl rfl rfl rfl (by kernel_rfl) Tryd.func3 (by kernel_rfl)
    (of_decide_eq_true (by kernel_rfl)) (by unfold Func.isWrapper; first | (rw [if_pos (by decide +kernel)]; kernel_rfl) | (rw [if_neg (by decide +kernel)]; exact ⟨rfl, rfl⟩))
    (fun os started H enc _ F => by rw [OpenClaim.pre_eq_preRow]; exact lifted os started H enc F)

theorem plain (f : FuncId) (fn : Func) (hf : Tryd.pinned.checked.prog.funcNamed "loop.example/g00702/laws.FnExactStartA" = some f) (hfn : Tryd.pinned.checked.prog.funcs[f]? = some fn) :
    false = Tryd.pinned.checked.prog.looks [] ∧ ∀ (j : Nat) t, fn.params[j]? = some t → Tryd.pinned.checked.prog.wantsStandIn t = false := by
  obtain rfl : f = 3 := Option.some.inj ((show Tryd.prog.funcNamed "loop.example/g00702/laws.FnExactStartA" = some 3 by kernel_rfl).symm.trans hf) |>.symm
  obtain rfl : fn = Tryd.f3 := (Option.some.inj (Tryd.func3.symm.trans hfn)).symm
  refine ⟨by kernel_rfl, fun j t ht => ?_⟩
  rw [Tryd.params3] at ht
  have hm : t ∈ [9, 9, 9] := by simpa using Array.mem_of_getElem? ht
  have hall : ([9, 9, 9].all fun u => !Tryd.prog.wantsStandIn u) = true := by kernel_rfl
  exact (show Tryd.prog.wantsStandIn t = false by simpa using List.all_eq_true.1 hall t hm)

theorem proved : Rows.FnExactStartACardSaid :=
  Claim7.holds_tied_plain_at .later [] _ _ _ _ said (fun _ h => by cases h) (by kernel_rfl) (fun _ h => by cases h) fnExactStartA_row_tie rfl ⟨rfl, rfl⟩ (by kernel_rfl) rfl plain (by kernel_rfl)
end Go.Proofs.YtfbcmckepdjdkaaDoor.fnExactStartA

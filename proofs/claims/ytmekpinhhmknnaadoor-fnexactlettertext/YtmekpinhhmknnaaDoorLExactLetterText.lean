/- Proved: for every argument FnExactLetterText returns true: the program's LetterText answers as the specification's (a letter whose data is longer than 2^20 bytes is passed over by the law itself). The library's tables that the code reads are tied to the program's text. No further condition. -/
import Derived.Test.YtmekpinhhmknnaaDoorRows
import Derived.Test.YtmekpinhhmknnaaDoorCards
import Derived.Test.YtmekpinhhmknnaaDoorTie
import Derived.WalkKit
import Derived.ProofKit
import Derived.OpenShut
import Derived.ShutString
import Derived.ChangeOld
import Derived.ChangeVars
import Derived.OpenVars
import Derived.Below
import Derived.Deep.DeepHandedRow
import Derived.Lib.LaidTab
import Derived.Test.YtmekpinhhmknnaaDoorCardD
import Derived.Test.YtmekpinhhmknnaaDoorStr4
import Derived.Test.YtmekpinhhmknnaaDoorLtr3
import Derived.Test.YtmekpinhhmknnaaDoorRegB
namespace Go.Proofs.YtmekpinhhmknnaaDoor.fnExactLetterText
open Go.ChangeShapes Go.WideShapes Go.ChangeAt Go.RowKit Go.My
set_option linter.unusedVariables false

theorem own : ownKnob Tryd.prog.godebug = none := by kernel_rfl
theorem laidOut : laidOutB Tryd.prog = true := by kernel_rfl
theorem toLetter_any (a b : Int) (s : ByteArray) (w : World) :
    Calls Tryd.prog 10 #[.agg (letterA a b s)] w fun e w' => e = .returned (.agg (letterA a b s)) ∧ Below w.heap.size w w' := by
  go_enter Tryd.func10, Tryd.ntmps10
  go_wp2
  refine bodyPost_ret (v := .agg (letterA a b s)) (by simp [results, Tryd.results10, go_sem]) rfl ⟨rfl, ?_⟩
  repeat (refine Below.setCell ?_ (p := ⟨_, _, none⟩) (by first | (simp; done) | (simp; omega)) _)
  repeat (refine Below.alloc ?_ (by first | (simp; done) | (simp; omega)) _)
  exact Below.refl _ _
theorem szLetter_any (a b : Int) (s : ByteArray) (w : World) (hs : s.size ≤ 9223372036854775807) :
    Calls Tryd.prog 8 #[.agg (letterA a b s), .int .i64 1048576] w fun e w' => ((s.size ≤ 1048576 ∧ ∃ r : Int, 0 ≤ r ∧ e = .returned (.int .i64 r)) ∨ e = .returned (.int .i64 (-1))) ∧ Below w.heap.size w w' := by
  have hb := (Below.refl w.heap.size w).alloc (Nat.le_refl _) (.cells (letterA a b s) 23)
  have p0 : (s.size : Int) ≤ 9223372036854775807 := by omega
  by_cases h1 : (1048576 : Int) - (s.size : Int) < 0
  · clear hs
    go_enter Tryd.func8, Tryd.ntmps8
    go_wp2
    go_ret
    exact ⟨.inr rfl, hb⟩
  · have HS : Hid (s.size ≤ 1048576) := by show _ ≤ _; omega
    have HR : Hid (0 ≤ (1048576 : Int) - (s.size : Int)) := by show _ ≤ _; omega
    clear hs
    go_enter Tryd.func8, Tryd.ntmps8
    go_wp2
    go_ret
    exact ⟨.inl ⟨HS.out, _, HR.out, rfl⟩, hb⟩

set_option maxRecDepth 20000 in
set_option maxHeartbeats 2000000 in
theorem walk (w : World) (hk : TabD w) (a b : Int) (s : ByteArray) (hw : letterW a b s) :
    Calls Tryd.prog 3 #[.agg (letterA a b s)] w fun e w' => e = .returned (.bool true) ∧ Below w.heap.size w w' := by
  have hs : s.size ≤ 9223372036854775807 := hw.2.2
  have H1 := Lib.hid (fun w => szLetter_any a b s w hs)
  have H2 := Lib.hid (fun w => toLetter_any a b s w)
  have HK := Lib.hid hk
  have f0 : Blk w.heap.size (letterA a b s) 23 (w.alloc (.cells (letterA a b s) 23)) := heap_alloc_new w _
  have hB : Below w.heap.size w (w.alloc (.cells (letterA a b s) 23)) := (Below.refl _ _).alloc (Nat.le_refl _) _
  clear hw hs hk
  go_enter Tryd.func3, Tryd.ntmps3
  go_wp2_with fail
  refine (H1.out _).mono ?_
  rintro e w1 ⟨hres, hb1⟩
  replace f0 := f0.below hb1
  replace hB := hB.trans (hb1.mono hB.size)
  clear hb1
  rcases hres with ⟨hs, r, hr, rfl⟩ | rfl
  case inr =>
    go_wp2
    go_ret
    exact ⟨rfl, hB⟩
  have hr' : ¬ r < 0 := by omega
  have H3 := Lib.hid (fun w => letter_s a b s w hs)
  have H4 := Lib.hid (fun w h => letter_i a b s w h hs)
  obtain ⟨V, hV⟩ : ∃ V, letV a b s = V := ⟨_, rfl⟩
  rw [hV] at H3 H4
  clear hV hs
  have c0 := f0.cell (j := 0) (v := .int .i64 a) rfl
  have c1 := f0.cell (j := 1) (v := .int .i64 b) rfl
  have c2 := f0.cell (j := 2) (v := .string s) rfl
  go_wp2_with fail
  refine (H2.out _).mono ?_
  rintro e w2 ⟨rfl, hb2⟩
  replace f0 := f0.below hb2
  replace hB := hB.trans (hb2.mono hB.size)
  clear hb2 c0 c1 c2
  go_wp2_with fail
  refine (H3.out _).mono ?_
  rintro e w3 ⟨rfl, hb3⟩
  replace f0 := f0.below hb3
  replace hB := hB.trans (hb3.mono hB.size)
  clear hb3
  have c0 := f0.cell (j := 0) (v := .int .i64 a) rfl
  have c1 := f0.cell (j := 1) (v := .int .i64 b) rfl
  have c2 := f0.cell (j := 2) (v := .string s) rfl
  go_wp2_with fail
  refine (H2.out _).mono ?_
  rintro e w4 ⟨rfl, hb4⟩
  replace hB := hB.trans (hb4.mono hB.size)
  clear hb4 c0 c1 c2
  go_wp2_with fail
  refine (H4.out _ (HK.out.below hB)).mono ?_
  rintro e w5 ⟨rfl, hb5⟩
  replace hB := hB.trans (hb5.mono hB.size)
  clear hb5
  go_wp2
  go_ret
  exact ⟨rfl, hB⟩

set_option maxRecDepth 100000 in
theorem lifted (os : Os) (started : os.Started) (H : Type) (enc : TypeId × Value → H) (F : Stop.Interp) :
    ReturnsInHanded {} Tryd.checked os 3 .any ((OpenSpec.ofChange Rows.fnExactLetterTextSpec).preRow enc Tryd.prog Tryd.f3 Rows.fnExactLetterTextRow.domain false Rows.fnExactLetterTextRow.laid) (((OpenSpec.ofChange Rows.fnExactLetterTextSpec).at F).post enc Tryd.prog Tryd.f3 false true false false) := by
  refine returnsInHanded_of_row (C := Tryd.checked) (s := OpenSpec.ofChange Rows.fnExactLetterTextSpec) own started (by kernel_rfl) Tryd.func3
    (witness_row_at (enc := enc) (C := Tryd.checked) false (laidWorldD os) #[.agg #[.int .i64 0, .int .i64 0, .string ByteArray.empty]] rfl (by kernel_rfl) (by kernel_rfl) (by kernel_rfl)
      (OpenSpec.preRow_of_B rfl 8 (by kernel_rfl) (by kernel_rfl) (laid_metD os #[.agg #[.int .i64 0, .int .i64 0, .string ByteArray.empty]]))) ?_
  intro W base args ds gs before hval0 hW _ _ _ hL _ _
  have hval : ∀ (j : Nat) t v, Tryd.f3.params[j]? = some t → args[j]? = some v → Value.okWide Tryd.prog W .any base t v := hval0
  have hW' := hW
  obtain ⟨p, q, hA0, hV, rfl, hfz, hnd⟩ := hW
  have hA : DataW.TrodAll enc Tryd.prog W 0 (fun _ => true) true Tryd.f3.params.toList args.toList ds p := hA0
  rw [Tryd.params3] at hA hval
  obtain ⟨v0, vs0, d0, ds0, p0, q0, hargs, rfl, rfl, h0, r0⟩ := trodAll_cons hA
  obtain ⟨rfl, rfl, rfl⟩ := trodAll_nil r0
  obtain rfl : args = #[v0] := by cases args; simp_all
  have hVV := hV
  obtain ⟨rfl, rfl⟩ := trodVars_none hV
  obtain ⟨a0, b0, s0, rfl, rfl, rfl, w0⟩ := open_letterV (hval 0 23 v0 rfl rfl) h0
  clear hA0 hval0
  refine (walk W (tab_ofD hL) a0 b0 s0 w0).mono fun e W' ⟨he, bel⟩ => ?_
  subst he
  simp only [List.append_nil] at hW'
  exact ⟨_, rfl, _, _, _, [], _, [], hW', trodAll_mk1 (shut_bool Tryd.underlying4 _), (trodAll_cons_mk (shut_letterV a0 b0 s0 w0) trodAll_mk0), rfl, bel.frame _, fun h => by cases h⟩

theorem said : Rows.FnExactLetterTextSaid :=
  OpenClaim.holds_of_cond 3 Tryd.f3 rfl rfl rfl rfl rfl rfl rfl ⟨rfl, rfl, rfl, rfl, rfl⟩ rfl rfl rfl rfl rfl (by kernel_rfl) Tryd.func3 (by kernel_rfl)
    (of_decide_eq_true (by kernel_rfl)) (by unfold Func.isWrapper; first | (rw [if_pos (by decide +kernel)]; kernel_rfl) | (rw [if_neg (by decide +kernel)]; exact ⟨rfl, rfl⟩))
    (fun os started H enc _ F => by rw [OpenClaim.pre_eq_preRow]; exact lifted os started H enc F)

theorem plain (f : FuncId) (fn : Func) (hf : Tryd.pinned.checked.prog.funcNamed "loop.example/g00702/laws.FnExactLetterText" = some f) (hfn : Tryd.pinned.checked.prog.funcs[f]? = some fn) :
    true = Tryd.pinned.checked.prog.looks [] ∧ ∀ (j : Nat) t, fn.params[j]? = some t → Tryd.pinned.checked.prog.wantsStandIn t = false := by
  obtain rfl : f = 3 := Option.some.inj ((show Tryd.prog.funcNamed "loop.example/g00702/laws.FnExactLetterText" = some 3 by kernel_rfl).symm.trans hf) |>.symm
  obtain rfl : fn = Tryd.f3 := (Option.some.inj (Tryd.func3.symm.trans hfn)).symm
  refine ⟨by kernel_rfl, fun j t ht => ?_⟩
  rw [Tryd.params3] at ht
  have hm : t ∈ [23] := by simpa using Array.mem_of_getElem? ht
  have hall : ([23].all fun u => !Tryd.prog.wantsStandIn u) = true := by kernel_rfl
  exact (show Tryd.prog.wantsStandIn t = false by simpa using List.all_eq_true.1 hall t hm)

theorem proved : Rows.FnExactLetterTextCardSaid :=
  Claim7.holds_tied_plain_at .later [] _ _ _ _ said (fun _ h => by cases h) (by kernel_rfl) (fun _ h => by cases h) fnExactLetterText_row_tie rfl ⟨rfl, rfl⟩ (by kernel_rfl) rfl plain (by kernel_rfl)
end Go.Proofs.YtmekpinhhmknnaaDoor.fnExactLetterText

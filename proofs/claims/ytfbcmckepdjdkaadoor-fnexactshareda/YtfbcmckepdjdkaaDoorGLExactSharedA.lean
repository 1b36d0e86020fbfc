/- Proved: for all arguments FnExactSharedA returns true: the program's SharedA answers as the specification's (arguments of more than 2^20 bytes are passed over by the law itself). The package-level tables that the code reads are tied to the program's text. No further condition. -/
import Derived.Test.YtfbcmckepdjdkaaDoorRows
import Derived.Test.YtfbcmckepdjdkaaDoorCards
import Derived.Test.YtfbcmckepdjdkaaDoorTie
import Derived.WalkKit
import Derived.ProofKit
import Derived.OpenShut
import Derived.ShutString
import Derived.ChangeOld
import Derived.ChangeVars
import Derived.OpenVars
import Derived.Below
import Derived.Deep.DeepHandedRow
import Derived.Lib.LaidTab
import Derived.Test.YtfbcmckepdjdkaaDoorGShr3
import Derived.Test.YtfbcmckepdjdkaaDoorGStr3
import Derived.Test.YtfbcmckepdjdkaaDoorGCardPK
namespace Go.Proofs.YtfbcmckepdjdkaaDoor.fnExactSharedA
open Go.ChangeShapes Go.WideShapes Go.ChangeAt Go.RowKit Go.My
open Go.ChangeMaps (open_string shut_string)
set_option linter.unusedVariables false

theorem own : ownKnob Tryd.prog.godebug = none := by kernel_rfl
theorem laidOut : laidOutB Tryd.prog = true := by kernel_rfl
theorem toBundle_any (p q s : ByteArray) (a : Int) (w : World) :
    Calls Tryd.prog 21 #[.agg (bundleA p q s a)] w fun e w' => e = .returned (.agg (bundleA p q s a)) ∧ Below w.heap.size w w' := by
  go_enter Tryd.func21, Tryd.ntmps21
  go_wp2
  refine bodyPost_ret (v := .agg (bundleA p q s a)) (by simp [results, Tryd.results21, go_sem]) rfl ⟨rfl, ?_⟩
  repeat (refine Below.setCell ?_ (p := ⟨_, _, none⟩) (by first | (simp; done) | (simp; omega)) _)
  repeat (refine Below.alloc ?_ (by first | (simp; done) | (simp; omega)) _)
  exact Below.refl _ _
/-- If anything is left, the strings are short. -/
def SzPost (p q s : ByteArray) (w : World) (e : Ending) (w' : World) : Prop := ∃ l : Int, e = .returned (.int .i64 l) ∧ (0 ≤ l → p.size ≤ 1048576 ∧ q.size ≤ 1048576 ∧ s.size ≤ 1048576) ∧ Below w.heap.size w w'
theorem szBundle_any (p q s : ByteArray) (a : Int) (w : World) (hp : p.size ≤ 9223372036854775807) (hq : q.size ≤ 9223372036854775807) (hs : s.size ≤ 9223372036854775807) :
    Calls Tryd.prog 19 #[.agg (bundleA p q s a), .int .i64 1048576] w (SzPost p q s w) := by
  have hb := (Below.refl w.heap.size w).alloc (Nat.le_refl _) (.cells (bundleA p q s a) 31)
  have p0 : (p.size : Int) ≤ 9223372036854775807 := by omega
  have q0 : (q.size : Int) ≤ 9223372036854775807 := by omega
  have s0 : (s.size : Int) ≤ 9223372036854775807 := by omega
  by_cases h1 : (1048576 : Int) - (p.size : Int) < 0
  · clear hp hq hs
    go_enter Tryd.func19, Tryd.ntmps19
    go_wp2
    go_ret
    exact ⟨_, rfl, by omega, hb⟩
  have h1' : 0 ≤ (1048576 : Int) - (p.size : Int) := by omega
  by_cases h2 : (1048576 : Int) - (p.size : Int) - (q.size : Int) < 0
  · clear hp hq hs
    go_enter Tryd.func19, Tryd.ntmps19
    go_wp2
    go_ret
    exact ⟨_, rfl, by omega, hb⟩
  have h2' : 0 ≤ (1048576 : Int) - (p.size : Int) - (q.size : Int) := by omega
  by_cases h3 : (1048576 : Int) - (p.size : Int) - (q.size : Int) - (s.size : Int) < 0
  · clear hp hq hs
    go_enter Tryd.func19, Tryd.ntmps19
    go_wp2
    go_ret
    exact ⟨_, rfl, by omega, hb⟩
  have h3' : 0 ≤ (1048576 : Int) - (p.size : Int) - (q.size : Int) - (s.size : Int) := by omega
  have HF : Hid (p.size ≤ 1048576 ∧ q.size ≤ 1048576 ∧ s.size ≤ 1048576) := by show _ ∧ _; omega
  clear hp hq hs
  go_enter Tryd.func19, Tryd.ntmps19
  go_wp2
  go_ret
  exact ⟨_, rfl, fun _ => HF.out, hb⟩

set_option maxHeartbeats 4000000 in
theorem walk (w : World) (hk : TabPK w) (a0 : ByteArray) (wa0 : a0.size ≤ maxLen) (a1 : ByteArray) (wa1 : a1.size ≤ maxLen) (p q s : ByteArray) (a : Int) (hw : bundleW p q s a) :
    Calls Tryd.prog 4 #[.string a0, .string a1, .agg (bundleA p q s a)] w fun e w' => e = .returned (.bool true) ∧ Below w.heap.size w w' := by
  have hp : p.size ≤ 9223372036854775807 := hw.1
  have hq : q.size ≤ 9223372036854775807 := hw.2.1
  have hs : s.size ≤ 9223372036854775807 := hw.2.2.1
  have H1 := Lib.hid (fun w => szBundle_any p q s a w hp hq hs)
  have H2 := Lib.hid (fun w => toBundle_any p q s a w)
  have f0 : Blk w.heap.size (bundleA p q s a) 31 (w.alloc (.cells (bundleA p q s a) 31)) := heap_alloc_new w _
  have hB : Below w.heap.size w (w.alloc (.cells (bundleA p q s a) 31)) := (Below.refl _ _).alloc (Nat.le_refl _) _
  unfold maxLen at wa0 wa1
  clear hw hp hq hs
  by_cases ha0 : a0.size ≤ 1048576
  case neg =>
    have ha0' : (1048576 : Int) < (a0.size : Int) := by omega
    clear ha0
    go_enter Tryd.func4, Tryd.ntmps4
    go_wp2
    go_ret
    exact ⟨rfl, hB⟩
  by_cases ha1 : a1.size ≤ 1048576
  case neg =>
    have ha0' : (a0.size : Int) ≤ 1048576 := by omega
    have ha1' : (1048576 : Int) < (a1.size : Int) := by omega
    clear ha0 ha1
    go_enter Tryd.func4, Tryd.ntmps4
    go_wp2
    go_ret
    exact ⟨rfl, hB⟩
  have ha0' : (a0.size : Int) ≤ 1048576 := by omega
  have Ha0 := Lib.hid ha0
  have ha1' : (a1.size : Int) ≤ 1048576 := by omega
  have Ha1 := Lib.hid ha1
  clear ha0 ha1 wa0 wa1
  go_enter Tryd.func4, Tryd.ntmps4
  go_wp2_with fail
  refine (H1.out _).mono ?_
  rintro e w1 ⟨l, rfl, hsz, hb1⟩
  replace f0 := f0.below hb1
  replace hB := hB.trans (hb1.mono hB.size)
  clear hb1
  by_cases hl : l < 0
  · clear hsz
    go_wp2
    go_ret
    exact ⟨rfl, hB⟩
  have hl' : 0 ≤ l := by omega
  obtain ⟨hp, hq, hs⟩ := hsz hl'
  have CS := Lib.hid (fun w => sharedA_s a0 a1 p q s a w Ha0.out Ha1.out hp hq hs)
  have CI := Lib.hid (fun w h => sharedA_i a0 a1 p q s a w h Ha0.out Ha1.out hp hq hs)
  generalize shA a0 a1 p q s a = V at *
  clear hp hq hs hl
  have c0 := f0.cell (j := 0) (v := .string p) rfl
  have c1 := f0.cell (j := 1) (v := .string q) rfl
  have c2 := f0.cell (j := 2) (v := .string s) rfl
  have c3 := f0.cell (j := 3) (v := .int .i64 a) rfl
  go_wp2_with fail
  refine (H2.out _).mono ?_
  rintro e w2 ⟨rfl, hb2⟩
  replace f0 := f0.below hb2
  replace hB := hB.trans (hb2.mono hB.size)
  clear hb2 c0 c1 c2 c3
  go_wp2_with fail
  refine (CS.out _).mono ?_
  rintro e w3 ⟨rfl, hb3⟩
  replace f0 := f0.below hb3
  replace hB := hB.trans (hb3.mono hB.size)
  clear hb3
  have c0 := f0.cell (j := 0) (v := .string p) rfl
  have c1 := f0.cell (j := 1) (v := .string q) rfl
  have c2 := f0.cell (j := 2) (v := .string s) rfl
  have c3 := f0.cell (j := 3) (v := .int .i64 a) rfl
  go_wp2_with fail
  refine (H2.out _).mono ?_
  rintro e w4 ⟨rfl, hb4⟩
  replace f0 := f0.below hb4
  replace hB := hB.trans (hb4.mono hB.size)
  clear hb4 c0 c1 c2 c3
  go_wp2_with fail
  refine (CI.out _ (hk.below hB)).mono ?_
  rintro e w5 ⟨rfl, hb5⟩
  replace hB := hB.trans (hb5.mono hB.size)
  clear hb5
  go_wp2
  go_ret
  exact ⟨rfl, hB⟩

set_option maxRecDepth 100000 in
theorem lifted (os : Os) (started : os.Started) (H : Type) (enc : TypeId × Value → H) (F : Stop.Interp) :
    ReturnsInHanded {} Tryd.checked os 4 .any ((OpenSpec.ofChange Rows.fnExactSharedASpec).preRow enc Tryd.prog Tryd.f4 Rows.fnExactSharedARow.domain false Rows.fnExactSharedARow.laid) (((OpenSpec.ofChange Rows.fnExactSharedASpec).at F).post enc Tryd.prog Tryd.f4 false true false false) := by
  refine returnsInHanded_of_row (C := Tryd.checked) (s := OpenSpec.ofChange Rows.fnExactSharedASpec) own started (by kernel_rfl) Tryd.func4
    (witness_row_at (enc := enc) (C := Tryd.checked) false (laidWorldPK os) #[.string ByteArray.empty, .string ByteArray.empty, .agg #[.string ByteArray.empty, .string ByteArray.empty, .string ByteArray.empty, .int .i64 0]] rfl (by kernel_rfl) (by kernel_rfl) (by kernel_rfl)
      (OpenSpec.preRow_of_B rfl 8 (by kernel_rfl) (by kernel_rfl) (laid_metPK os #[.string ByteArray.empty, .string ByteArray.empty, .agg #[.string ByteArray.empty, .string ByteArray.empty, .string ByteArray.empty, .int .i64 0]]))) ?_
  intro W base args ds gs before hval0 hW _ _ _ hL _ _
  have hval : ∀ (j : Nat) t v, Tryd.f4.params[j]? = some t → args[j]? = some v → Value.okWide Tryd.prog W .any base t v := hval0
  have hW' := hW
  obtain ⟨p, q, hA0, hV, rfl, hfz, hnd⟩ := hW
  have hA : DataW.TrodAll enc Tryd.prog W 0 (fun _ => true) true Tryd.f4.params.toList args.toList ds p := hA0
  rw [Tryd.params4] at hA hval
  obtain ⟨v0, vs0, d0, ds0, p0, q0, hargs, rfl, rfl, h0, r0⟩ := trodAll_cons hA
  obtain ⟨v1, vs1, d1, ds1, p1, q1, rfl, rfl, rfl, h1, r1⟩ := trodAll_cons r0
  obtain ⟨v2, vs2, d2, ds2, p2, q2, rfl, rfl, rfl, h2, r2⟩ := trodAll_cons r1
  obtain ⟨rfl, rfl, rfl⟩ := trodAll_nil r2
  obtain rfl : args = #[v0, v1, v2] := by cases args; simp_all
  have hVV := hV
  obtain ⟨_, _, _, _, dv, _, _, _, _, _, dv1, _, rfl, _⟩ := trodVars_two hV
  obtain ⟨a0, rfl, rfl, rfl, w0⟩ := open_string Tryd.underlying9 (hval 0 9 v0 rfl rfl) h0
  obtain ⟨a1, rfl, rfl, rfl, w1⟩ := open_string Tryd.underlying9 (hval 1 9 v1 rfl rfl) h1
  obtain ⟨p2, q2, s2, a2, rfl, rfl, rfl, w2⟩ := open_bundleV (hval 2 31 v2 rfl rfl) h2
  clear hA0 hval0
  refine (walk W (tab_ofPK hL) a0 w0 a1 w1 p2 q2 s2 a2 w2).mono fun e W' ⟨he, bel⟩ => ?_
  subst he
  exact ⟨_, rfl, _, _, _, [], _, _, hW', trodAll_mk1 (shut_bool Tryd.underlying4 _), (trodAll_cons_mk (shut_string Tryd.underlying9 w0) (trodAll_cons_mk (shut_string Tryd.underlying9 w1) (trodAll_cons_mk (shut_bundleV p2 q2 s2 a2 w2) trodAll_mk0))), Below.trodVars laidOut bel (by kernel_rfl) hVV, bel.frame _, fun h => by cases h⟩

theorem said : Rows.FnExactSharedASaid :=
  OpenClaim.holds_of_cond 4 Tryd.f4 rfl rfl rfl rfl rfl rfl rfl ⟨rfl, rfl, rfl, rfl, rfl⟩ rfl rfl rfl rfl rfl (by kernel_rfl) Tryd.func4 (by kernel_rfl)
    (of_decide_eq_true (by kernel_rfl)) (by unfold Func.isWrapper; first | (rw [if_pos (by decide +kernel)]; kernel_rfl) | (rw [if_neg (by decide +kernel)]; exact ⟨rfl, rfl⟩))
    (fun os started H enc _ F => by rw [OpenClaim.pre_eq_preRow]; exact lifted os started H enc F)

theorem plain (f : FuncId) (fn : Func) (hf : Tryd.pinned.checked.prog.funcNamed "loop.example/g00702/laws.FnExactSharedA" = some f) (hfn : Tryd.pinned.checked.prog.funcs[f]? = some fn) :
    false = Tryd.pinned.checked.prog.looks [] ∧ ∀ (j : Nat) t, fn.params[j]? = some t → Tryd.pinned.checked.prog.wantsStandIn t = false := by
  obtain rfl : f = 4 := Option.some.inj ((show Tryd.prog.funcNamed "loop.example/g00702/laws.FnExactSharedA" = some 4 by kernel_rfl).symm.trans hf) |>.symm
  obtain rfl : fn = Tryd.f4 := (Option.some.inj (Tryd.func4.symm.trans hfn)).symm
  refine ⟨by kernel_rfl, fun j t ht => ?_⟩
  rw [Tryd.params4] at ht
  have hm : t ∈ [9, 9, 31] := by simpa using Array.mem_of_getElem? ht
  have hall : ([9, 9, 31].all fun u => !Tryd.prog.wantsStandIn u) = true := by kernel_rfl
  exact (show Tryd.prog.wantsStandIn t = false by simpa using List.all_eq_true.1 hall t hm)

theorem proved : Rows.FnExactSharedACardSaid :=
  Claim7.holds_tied_plain_at .later [] _ _ _ _ said (fun _ h => by cases h) (by kernel_rfl) (fun _ h => by cases h) fnExactSharedA_row_tie rfl ⟨rfl, rfl⟩ (by kernel_rfl) rfl plain (by kernel_rfl)
end Go.Proofs.YtfbcmckepdjdkaaDoor.fnExactSharedA

/- Proved: for every argument FnExactBundleOk returns true: the program's BundleOk answers as the specification's (arguments of more than 2^20 bytes are passed over by the law itself). No condition. -/
import Derived.Test.YtdhfddeghnoecaaRows
import Derived.WalkKit
import Derived.ProofKit
import Derived.OpenShut
import Derived.ShutString
import Derived.ChangeOld
import Derived.Below
import Derived.Test.YtdhfddeghnoecaaStr3
namespace Go.Proofs.Ytdhfddeghnoecaa.fnExactBundleOk
open Go.ChangeShapes Go.WideShapes Go.ChangeAt Go.RowKit Go.My
set_option linter.unusedVariables false

theorem own : ownKnob Try.prog.godebug = none := by kernel_rfl
theorem toBundle_any (p q s : ByteArray) (a : Int) (w : World) :
    Calls Try.prog 12 #[.agg (bundleA p q s a)] w fun e w' => e = .returned (.agg (bundleA p q s a)) ∧ Below w.heap.size w w' := by
  go_enter Try.func12, Try.ntmps12
  go_wp2
  refine bodyPost_ret (v := .agg (bundleA p q s a)) (by simp [results, Try.results12, go_sem]) rfl ⟨rfl, ?_⟩
  repeat (refine Below.setCell ?_ (p := ⟨_, _, none⟩) (by first | (simp; done) | (simp; omega)) _)
  repeat (refine Below.alloc ?_ (by first | (simp; done) | (simp; omega)) _)
  exact Below.refl _ _
/-- Whether the strings are short is all that counts. -/
def SzPost (w : World) (e : Ending) (w' : World) : Prop := ∃ l : Int, e = .returned (.int .i64 l) ∧ Below w.heap.size w w'
theorem szBundle_any (p q s : ByteArray) (a : Int) (w : World) (hp : p.size ≤ 9223372036854775807) (hq : q.size ≤ 9223372036854775807) (hs : s.size ≤ 9223372036854775807) :
    Calls Try.prog 10 #[.agg (bundleA p q s a), .int .i64 1048576] w (SzPost w) := by
  have hb := (Below.refl w.heap.size w).alloc (Nat.le_refl _) (.cells (bundleA p q s a) 25)
  have p0 : (p.size : Int) ≤ 9223372036854775807 := by omega
  have q0 : (q.size : Int) ≤ 9223372036854775807 := by omega
  have s0 : (s.size : Int) ≤ 9223372036854775807 := by omega
  by_cases h1 : (1048576 : Int) - (p.size : Int) < 0
  · clear hp hq hs
    go_enter Try.func10, Try.ntmps10
    go_wp2
    go_ret
    exact ⟨_, rfl, hb⟩
  have h1' : 0 ≤ (1048576 : Int) - (p.size : Int) := by omega
  by_cases h2 : (1048576 : Int) - (p.size : Int) - (q.size : Int) < 0
  · clear hp hq hs
    go_enter Try.func10, Try.ntmps10
    go_wp2
    go_ret
    exact ⟨_, rfl, hb⟩
  have h2' : 0 ≤ (1048576 : Int) - (p.size : Int) - (q.size : Int) := by omega
  by_cases h3 : (1048576 : Int) - (p.size : Int) - (q.size : Int) - (s.size : Int) < 0
  · clear hp hq hs
    go_enter Try.func10, Try.ntmps10
    go_wp2
    go_ret
    exact ⟨_, rfl, hb⟩
  have h3' : 0 ≤ (1048576 : Int) - (p.size : Int) - (q.size : Int) - (s.size : Int) := by omega
  clear hp hq hs
  go_enter Try.func10, Try.ntmps10
  go_wp2
  go_ret
  exact ⟨_, rfl, hb⟩

set_option maxHeartbeats 2000000 in
theorem walk (w : World) (p q s : ByteArray) (a : Int) (hw : bundleW p q s a) :
    Calls Try.prog 4 #[.agg (bundleA p q s a)] w fun e w' => e = .returned (.bool true) ∧ Below w.heap.size w w' := by
  have hp : p.size ≤ 9223372036854775807 := hw.1
  have hq : q.size ≤ 9223372036854775807 := hw.2.1
  have hs : s.size ≤ 9223372036854775807 := hw.2.2.1
  have H1 := Lib.hid (fun w => szBundle_any p q s a w hp hq hs)
  have H2 := Lib.hid (fun w => toBundle_any p q s a w)
  have H3 := Lib.hid (fun w => bundleOk_s p q s a w)
  have H4 := Lib.hid (fun w => bundleOk_i p q s a w)
  have f0 : Blk w.heap.size (bundleA p q s a) 25 (w.alloc (.cells (bundleA p q s a) 25)) := heap_alloc_new w _
  have hB : Below w.heap.size w (w.alloc (.cells (bundleA p q s a) 25)) := (Below.refl _ _).alloc (Nat.le_refl _) _
  clear hw hp hq hs
  generalize bndB p q s a = V at *
  go_enter Try.func4, Try.ntmps4
  go_wp2_with fail
  refine (H1.out _).mono ?_
  rintro e w1 ⟨l, rfl, hb1⟩
  replace f0 := f0.below hb1
  replace hB := hB.trans (hb1.mono hB.size)
  clear hb1
  by_cases hl : l < 0
  · go_wp2
    go_ret
    exact ⟨rfl, hB⟩
  have hl' : 0 ≤ l := by omega
  have c0 := f0.cell (j := 0) (v := .string p) rfl
  have c1 := f0.cell (j := 1) (v := .string q) rfl
  have c2 := f0.cell (j := 2) (v := .string s) rfl
  have c3 := f0.cell (j := 3) (v := .int .i64 a) rfl
  go_wp2_with fail
  refine (H2.out _).mono ?_
  rintro e w2 ⟨rfl, hb2⟩
  replace f0 := f0.below hb2
  replace hB := hB.trans (hb2.mono hB.size)
  clear hb2 c0 c1 c2 c3
  go_wp2_with fail
  refine (H3.out _).mono ?_
  rintro e w3 ⟨rfl, hb3⟩
  replace f0 := f0.below hb3
  replace hB := hB.trans (hb3.mono hB.size)
  clear hb3
  have c0 := f0.cell (j := 0) (v := .string p) rfl
  have c1 := f0.cell (j := 1) (v := .string q) rfl
  have c2 := f0.cell (j := 2) (v := .string s) rfl
  have c3 := f0.cell (j := 3) (v := .int .i64 a) rfl
  go_wp2_with fail
  refine (H2.out _).mono ?_
  rintro e w4 ⟨rfl, hb4⟩
  replace f0 := f0.below hb4
  replace hB := hB.trans (hb4.mono hB.size)
  clear hb4 c0 c1 c2 c3
  go_wp2_with fail
  refine (H4.out _).mono ?_
  rintro e w5 ⟨rfl, hb5⟩
  replace hB := hB.trans (hb5.mono hB.size)
  clear hb5
  go_wp2
  go_ret
  exact ⟨rfl, hB⟩

set_option maxRecDepth 100000 in
theorem lifted (os : Os) (started : os.Started) (H : Type) (enc : TypeId × Value → H) :
    ReturnsInHanded {} Try.checked os 4 .any (Rows.fnExactBundleOkSpec.pre6 enc Try.prog Try.f4 Rows.fnExactBundleOkRow.domain false) (Rows.fnExactBundleOkSpec.post enc Try.prog Try.f4 false true false false) := by
  refine returnsInHanded_of_change (C := Try.checked) own started (by kernel_rfl) Try.func4
    (ChangeSpec.witness6 (enc := enc) (C := Try.checked) false ⟨#[], #[.agg #[.string ByteArray.empty, .string ByteArray.empty, .string ByteArray.empty, .int .i64 0]], []⟩ 8 (by kernel_rfl) (by kernel_rfl) (by kernel_rfl) (by kernel_rfl)) ?_
  intro W base args ds gs before hval0 hW hcnd _
  have hval : ∀ (j : Nat) t v, Try.f4.params[j]? = some t → args[j]? = some v → Value.okWide Try.prog W .any base t v := hval0
  have hW' := hW
  obtain ⟨p, q, hA0, hV, rfl, hfz, hnd⟩ := hW
  have hA : DataW.TrodAll enc Try.prog W 0 (fun _ => true) true Try.f4.params.toList args.toList ds p := hA0
  rw [Try.params4] at hA hval
  obtain ⟨v0, vs0, d0, ds0, p0, q0, hargs, rfl, rfl, h0, r0⟩ := trodAll_cons hA
  obtain ⟨rfl, rfl, rfl⟩ := trodAll_nil r0
  obtain rfl : args = #[v0] := by cases args; simp_all
  obtain ⟨rfl, rfl⟩ := trodVars_none hV
  obtain ⟨p0, q0, s0, a0, rfl, rfl, rfl, w0⟩ := open_bundleV (hval 0 25 v0 rfl rfl) h0
  clear hA0 hval0
  refine (walk W p0 q0 s0 a0 w0).mono fun e W' ⟨he, bel⟩ => ?_
  subst he
  simp only [List.append_nil] at hW'
  exact ⟨_, rfl, _, _, _, [], _, [], hW', trodAll_mk1 (shut_bool Try.underlying4 _), (trodAll_cons_mk (shut_bundleV p0 q0 s0 a0 w0) trodAll_mk0), rfl, bel.frame _, fun h => by cases h⟩

theorem proved : Rows.FnExactBundleOkSaid :=
  OpenClaim.holds_of_wide 4 Try.f4 rfl rfl rfl rfl rfl rfl rfl ⟨rfl, rfl, rfl, rfl, rfl⟩ rfl rfl rfl rfl rfl (by kernel_rfl) Try.func4 (by kernel_rfl)
    (of_decide_eq_true (by kernel_rfl)) (by unfold Func.isWrapper; first | (rw [if_pos (by decide +kernel)]; kernel_rfl) | (rw [if_neg (by decide +kernel)]; exact ⟨rfl, rfl⟩))
    (fun os started H enc _ => lifted os started H enc)
end Go.Proofs.Ytdhfddeghnoecaa.fnExactBundleOk

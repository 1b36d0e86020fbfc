/- Proved: for every string FnExactTakeFrames returns true: the program's TakeFrames answers as the specification's, and its list shares no memory with that of another call (strings of more than 2^20 bytes are passed over by the law itself). No further condition. -/
import Derived.Test.YtnbglkjlohmpbaaRows
import Derived.WalkKit
import Derived.ProofKit
import Derived.OpenShut
import Derived.ShutString
import Derived.ChangeOld
import Derived.Below
import Derived.Test.YtnbglkjlohmpbaaFrF
namespace Go.Proofs.Ytnbglkjlohmpbaa.fnExactTakeFrames
open Go.ChangeShapes Go.WideShapes Go.ChangeAt Go.RowKit Go.My
open Go.ChangeMaps (open_string shut_string)
set_option linter.unusedVariables false

theorem own : ownKnob Try.prog.godebug = none := by kernel_rfl
theorem laidOut : laidOutB Try.prog = true := by kernel_rfl

set_option maxHeartbeats 800000 in
theorem walk (w : World) (a0 : ByteArray) (wa0 : a0.size ≤ maxLen) :
    Calls Try.prog 14 #[.string a0] w fun e w' => e = .returned (.bool true) ∧ Below w.heap.size w w' := by
  unfold maxLen at wa0
  by_cases ha0 : a0.size ≤ 1048576
  case neg =>
    have ha0' : (1048576 : Int) < (a0.size : Int) := by omega
    clear ha0
    go_enter Try.func14, Try.ntmps14
    go_wp2
    go_ret
    exact ⟨rfl, Below.refl _ _⟩
  have ha0' : (a0.size : Int) ≤ 1048576 := by omega
  have H := Lib.hid ha0
  have HL : Hid ((takeR a0).length ≤ 1048576) := by
    have := takeF_len a0.size a0
    show (takeF a0.size a0).1.length ≤ _
    omega
  clear ha0 wa0
  have S := Lib.hid (fun w => take_s a0 w H.out)
  have I := Lib.hid (fun w => take_i a0 w H.out)
  generalize takeR a0 = L at *
  generalize takeN a0 = N at *
  go_enter Try.func14, Try.ntmps14
  go_wp2_with fail
  refine (S.out _).mono ?_
  rintro e w1 ⟨v0, rfl, hr0, hb1⟩
  go_wp2_with fail
  refine (I.out _).mono ?_
  rintro e w2 ⟨v1, rfl, hr1, hb2⟩
  have hq0 := hr0.below hb2
  go_wp2_with fail
  refine (eqStringS_same v1 v0 L _ (hr1.mono (Nat.zero_le _)) (hq0.mono (Nat.zero_le _)) (by have := HL.out; omega)).mono ?_
  rintro e w3 ⟨rfl, hb3⟩
  have hp1 := hr1.below hb3
  have hp0 := hq0.below hb3
  go_wp2_with fail
  refine (markStringS_any v1 L 1 _ (hp1.mono (Nat.zero_le _)) (by have := HL.out; omega)).mono ?_
  rintro e w4 ⟨rfl, hm1, hg4⟩
  have hm0 := hp0.kept hg4 (row_apart hr0 hp1 (Nat.le_refl _))
  have hB4 : Below w.heap.size w w4 := by
    have hB3 := (hb1.trans (hb2.mono hb1.size)).trans (hb3.mono (Nat.le_trans hb1.size hb2.size))
    exact hB3.grown hg4 hB3.size (fun k hk => Nat.le_trans hb1.size (World.ownsRow.lt hr1 k hk).1)
  clear hq0 hp0 hp1 hr0 hr1 hb1 hb2 hb3 hg4
  go_wp2_with fail
  refine (heldStringS_any v1 L.length 1 _ hm1 (by have := HL.out; omega)).mono ?_
  rintro e w5 ⟨rfl, hb5⟩
  have hM1 := hm1.below hb5
  have hM0 := hm0.below hb5
  have hB5 := hB4.trans (hb5.mono hB4.size)
  clear hm1 hm0 hB4 hb5
  go_wp2_with fail
  refine (I.out _).mono ?_
  rintro e w6 ⟨v2, rfl, hr2, hb6⟩
  have hq1 := hM1.below hb6
  have hq0 := hM0.below hb6
  have hB6 := hB5.trans (hb6.mono hB5.size)
  clear hM1 hM0 hB5 hb6
  go_wp2_with fail
  refine (eqStringS_same v2 v0 L _ (hr2.mono (Nat.zero_le _)) (hq0.mono (Nat.zero_le _)) (by have := HL.out; omega)).mono ?_
  rintro e w7 ⟨rfl, hb7⟩
  have hs1 := hq1.below hb7
  have hB7 := hB6.trans (hb7.mono hB6.size)
  clear hq1 hq0 hB6 hb7 hr2
  go_wp2_with fail
  refine (heldStringS_any v1 L.length 1 _ hs1 (by have := HL.out; omega)).mono ?_
  rintro e w8 ⟨rfl, hb8⟩
  have hB8 := hB7.trans (hb8.mono hB7.size)
  clear hs1 hB7 hb8
  go_wp2
  go_ret
  exact ⟨rfl, hB8⟩

set_option maxRecDepth 100000 in
theorem lifted (os : Os) (started : os.Started) (H : Type) (enc : TypeId × Value → H) :
    ReturnsInHanded {} Try.checked os 14 .any (Rows.fnExactTakeFramesSpec.pre6 enc Try.prog Try.f14 Rows.fnExactTakeFramesRow.domain false) (Rows.fnExactTakeFramesSpec.post enc Try.prog Try.f14 false true false false) := by
  refine returnsInHanded_of_change (C := Try.checked) own started (by kernel_rfl) Try.func14
    (ChangeSpec.witness6 (enc := enc) (C := Try.checked) false ⟨#[], #[.string ByteArray.empty], []⟩ 8 (by kernel_rfl) (by kernel_rfl) (by kernel_rfl) (by kernel_rfl)) ?_
  intro W base args ds gs before hval0 hW hcnd _
  have hval : ∀ (j : Nat) t v, Try.f14.params[j]? = some t → args[j]? = some v → Value.okWide Try.prog W .any base t v := hval0
  have hW' := hW
  obtain ⟨p, q, hA0, hV, rfl, hfz, hnd⟩ := hW
  have hA : DataW.TrodAll enc Try.prog W 0 (fun _ => true) true Try.f14.params.toList args.toList ds p := hA0
  rw [Try.params14] at hA hval
  obtain ⟨v0, vs0, d0, ds0, p0, q0, hargs, rfl, rfl, h0, r0⟩ := trodAll_cons hA
  obtain ⟨rfl, rfl, rfl⟩ := trodAll_nil r0
  obtain rfl : args = #[v0] := by cases args; simp_all
  obtain ⟨rfl, rfl⟩ := trodVars_none hV
  obtain ⟨a0, rfl, rfl, rfl, w0⟩ := open_string Try.underlying9 (hval 0 9 v0 rfl rfl) h0
  clear hA0 hval0
  refine (walk W a0 w0).mono fun e W' ⟨he, bel⟩ => ?_
  subst he
  simp only [List.append_nil] at hW'
  exact ⟨_, rfl, _, _, _, [], _, [], hW', trodAll_mk1 (shut_bool Try.underlying4 _), (trodAll_cons_mk (shut_string Try.underlying9 w0) trodAll_mk0), rfl, bel.frame _, fun h => by cases h⟩

theorem proved : Rows.FnExactTakeFramesSaid :=
  OpenClaim.holds_of_wide 14 Try.f14 rfl rfl rfl rfl rfl rfl rfl ⟨rfl, rfl, rfl, rfl, rfl⟩ rfl rfl rfl rfl rfl (by kernel_rfl) Try.func14 (by kernel_rfl)
    (of_decide_eq_true (by kernel_rfl)) (by unfold Func.isWrapper; first | (rw [if_pos (by decide +kernel)]; kernel_rfl) | (rw [if_neg (by decide +kernel)]; exact ⟨rfl, rfl⟩))
    (fun os started H enc _ => lifted os started H enc)
end Go.Proofs.Ytnbglkjlohmpbaa.fnExactTakeFrames

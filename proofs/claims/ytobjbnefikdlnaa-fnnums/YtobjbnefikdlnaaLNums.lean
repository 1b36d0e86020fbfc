/- Proved: for every code FnNums returns true: of whatever integers and bytes are drawn from it, an integer comes back from its bytes, and bytes from their integer (codes of more than 2^20 bytes are passed over by the law itself). No condition. -/
import Derived.Test.YtobjbnefikdlnaaRows
import Derived.WalkKit
import Derived.ProofKit
import Derived.OpenShut
import Derived.ShutString
import Derived.ChangeOld
import Derived.Below
import Derived.Test.YtobjbnefikdlnaaDraw1b
import Derived.Test.YtobjbnefikdlnaaMath4
import Derived.Test.YtobjbnefikdlnaaNum
namespace Go.Proofs.Ytobjbnefikdlnaa.fnNums
open Go.ChangeShapes Go.WideShapes Go.ChangeAt Go.RowKit Go.My
open Go.ChangeMaps (open_string shut_string)
set_option linter.unusedVariables false

theorem own : ownKnob Try.prog.godebug = none := by kernel_rfl
theorem laidOut : laidOutB Try.prog = true := by kernel_rfl

set_option maxHeartbeats 2000000 in
theorem walk (w : World) (a0 : Option Addr) (len0 cap0 : Nat) (z0 : List Int) (w0 : IsRow .u8 w a0 len0 cap0 z0) :
    Calls Try.prog 5 #[.slice a0 len0 cap0] w fun e w' => e = .returned (.bool true) ∧ Below w.heap.size w w' := by
  have hmax : len0 ≤ 9223372036854775807 := by
    rcases w0 with ⟨_, rfl, _⟩ | ⟨x, _, h1, h2, _⟩
    · omega
    · unfold maxLen at h2; omega
  by_cases hl : len0 ≤ 1048576
  case neg =>
    have hd : decide (1048576 < (len0 : Int)) = true := by simp; omega
    go_enter Try.func5, Try.ntmps5
    go_wp2_with fail
    refine (big_any _ _ _ _ hmax).mono ?_
    rintro e w' ⟨rfl, rfl⟩
    rw [hd]
    go_wp2
    go_ret
    exact ⟨rfl, Below.refl _ _⟩
  have hd : decide (1048576 < (len0 : Int)) = false := by simp; omega
  have hc := code_of_row w0 hl
  go_enter Try.func5, Try.ntmps5
  go_wp2_with fail
  refine (big_any _ _ _ _ hmax).mono ?_
  rintro e w' ⟨rfl, rfl⟩
  rw [hd]
  go_wp2_with fail
  refine (draw_numBytes w.heap.size a0 len0 cap0 _ (Nat.le_refl _) hc).mono ?_
  rintro e w1 ⟨n, k, rfl, hn, hk, hb1'⟩
  have hb1 := hb1'
  clear hb1'
  have HN := Lib.hid hn
  have HK := Lib.hid hk
  clear hn hk
  go_wp2_with fail
  refine (num_impl n k _ HN.out HK.out).mono ?_
  rintro e w2 ⟨rfl, hb2'⟩
  have hb2 := hb1.trans (hb2'.mono hb1.size)
  clear hb2' hb1
  go_wp2_with fail
  refine (draw_bytesNum w.heap.size a0 len0 cap0 _ hb2.size (hc.below hb2)).mono ?_
  rintro e w3 ⟨t, rfl, ht, hb3'⟩
  have hb3 := hb2.trans hb3'
  clear hb3' hb2
  have cN := Lib.hid (fun w => num_spec n k w HN.out HK.out)
  by_cases htt : 1 ≤ t.size ∧ t.size ≤ 7
  · have e1 := numB_numOf t htt.1 htt.2
    have hwx : (Lit.int .i64 (numOf t.data.toList : Int)).wf = true := by
      have hb := numOf_lt t.data.toList
      rw [len_data] at hb
      have := pow7 t.size htt.2
      simp [Lit.wf, IntKind.min, IntKind.max, IntKind.signed, IntKind.bits]; omega
    have hwl : (Lit.int .i64 (t.size : Int)).wf = true := by simp [Lit.wf, IntKind.min, IntKind.max, IntKind.signed, IntKind.bits]; omega
    have cB := Lib.hid (fun w => num_impl (numOf t.data.toList : Int) (t.size : Int) w hwx hwl)
    rw [e1] at cB
    have h1 := htt.1
    have h7 := htt.2
    clear e1 hwx hwl htt
    go_wp2_with fail
    refine (bnum_impl t _ h1 h7).mono ?_
    rintro e w' ⟨rfl, rfl⟩
    go_wp2_with fail
    refine (bnum_spec t _ h1 h7).mono ?_
    rintro e w' ⟨rfl, rfl⟩
    go_wp2_with fail
    refine (cN.out _).mono ?_
    rintro e w4 ⟨rfl, hb4'⟩
    have hb4 := hb3.trans (hb4'.mono hb3.size)
    clear hb4' hb3
    go_wp2_with fail
    refine (cB.out _).mono ?_
    rintro e w5 ⟨rfl, hb5'⟩
    have hb5 := hb4.trans (hb5'.mono hb4.size)
    clear hb5' hb4
    rcases numB_cases n k with h0 | ⟨hl, hk1, hk7, hn0, hnum⟩
    · rw [h0]
      go_wp2_with fail
      refine (bnum_impl_no (str []) _ (by rw [str_size]; exact Nat.zero_le _) (.inl (by rw [str_size]; exact Nat.zero_lt_one))).mono ?_
      rintro e w' ⟨rfl, rfl⟩
      have hem : (str []).toList.isEmpty = true := by rw [ByteArray.toList_eq, str_list]; rfl
      go_wp2
      go_ret
      exact ⟨rfl, hb5⟩
    · have hs : (str (numB n k)).size = k.toNat := by rw [str_size, hl]
      go_wp2_with fail
      refine (bnum_impl (str (numB n k)) _ (by omega) (by omega)).mono ?_
      rintro e w' ⟨rfl, rfl⟩
      rw [str_list]
      have hem : (str (numB n k)).toList.isEmpty = false := by
        rw [ByteArray.toList_eq, str_list]
        cases hq : numB n k with
        | nil => rw [hq] at hl; simp at hl; omega
        | cons a l => rfl
      go_wp2
      go_ret
      exact ⟨rfl, hb5⟩
  · have hno : t.size < 1 ∨ 7 < t.size := by omega
    clear htt
    go_wp2_with fail
    refine (bnum_impl_no t _ (by omega) hno).mono ?_
    rintro e w' ⟨rfl, rfl⟩
    go_wp2_with fail
    refine (bnum_spec_no t _ (by omega) hno).mono ?_
    rintro e w' ⟨rfl, rfl⟩
    go_wp2_with fail
    refine (cN.out _).mono ?_
    rintro e w4 ⟨rfl, hb4'⟩
    have hb4 := hb3.trans (hb4'.mono hb3.size)
    clear hb4' hb3
    rcases numB_cases n k with h0 | ⟨hl, hk1, hk7, hn0, hnum⟩
    · rw [h0]
      go_wp2_with fail
      refine (bnum_impl_no (str []) _ (by rw [str_size]; exact Nat.zero_le _) (.inl (by rw [str_size]; exact Nat.zero_lt_one))).mono ?_
      rintro e w' ⟨rfl, rfl⟩
      have hem : (str []).toList.isEmpty = true := by rw [ByteArray.toList_eq, str_list]; rfl
      go_wp2
      go_ret
      exact ⟨rfl, hb4⟩
    · have hs : (str (numB n k)).size = k.toNat := by rw [str_size, hl]
      go_wp2_with fail
      refine (bnum_impl (str (numB n k)) _ (by omega) (by omega)).mono ?_
      rintro e w' ⟨rfl, rfl⟩
      rw [str_list]
      have hem : (str (numB n k)).toList.isEmpty = false := by
        rw [ByteArray.toList_eq, str_list]
        cases hq : numB n k with
        | nil => rw [hq] at hl; simp at hl; omega
        | cons a l => rfl
      go_wp2
      go_ret
      exact ⟨rfl, hb4⟩

set_option maxRecDepth 100000 in
theorem lifted (os : Os) (started : os.Started) (H : Type) (enc : TypeId × Value → H) :
    ReturnsInHanded {} Try.checked os 5 .any (Rows.fnNumsSpec.pre6 enc Try.prog Try.f5 Rows.fnNumsRow.domain false) (Rows.fnNumsSpec.post enc Try.prog Try.f5 false true false false) := by
  refine returnsInHanded_of_change (C := Try.checked) own started (by kernel_rfl) Try.func5
    (ChangeSpec.witness6 (enc := enc) (C := Try.checked) false ⟨#[], #[.slice none 0 0], []⟩ 8 (by kernel_rfl) (by kernel_rfl) (by kernel_rfl) (by kernel_rfl)) ?_
  intro W base args ds gs before hval0 hW hcnd _
  have hval : ∀ (j : Nat) t v, Try.f5.params[j]? = some t → args[j]? = some v → Value.okWide Try.prog W .any base t v := hval0
  have hW' := hW
  obtain ⟨p, q, hA0, hV, rfl, hfz, hnd⟩ := hW
  have hA : DataW.TrodAll enc Try.prog W 0 (fun _ => true) true Try.f5.params.toList args.toList ds p := hA0
  rw [Try.params5] at hA hval
  obtain ⟨v0, vs0, d0, ds0, p0, q0, hargs, rfl, rfl, h0, r0⟩ := trodAll_cons hA
  obtain ⟨rfl, rfl, rfl⟩ := trodAll_nil r0
  obtain rfl : args = #[v0] := by cases args; simp_all
  obtain ⟨rfl, rfl⟩ := trodVars_none hV
  obtain ⟨a0, len0, cap0, rfl⟩ := okWide_slice Try.underlying22 (hval 0 22 v0 rfl rfl)
  have k0 := h0
  have lt0 : ∀ x ∈ p0, x.block < W.heap.size := by obtain ⟨m, hm⟩ := k0; exact DataW.trod_lt m _ _ _ hm
  obtain ⟨z0, w0⟩ : ∃ zs, My.IsRow .u8 W a0 len0 cap0 zs := by
    obtain ⟨fuel, hf⟩ := h0
    rcases open_ints Try.underlying22 Try.underlying5 (by kernel_rfl) hf with ⟨hcs, _⟩ | ⟨x, l, c, zs, hcs, _, hl, hm, hz, _, hcell, hwz⟩
    · simp [Value.cells] at hcs
      obtain ⟨rfl, rfl, rfl⟩ := hcs
      exact ⟨[], .inl ⟨rfl, rfl, rfl, rfl⟩⟩
    · simp [Value.cells] at hcs
      obtain ⟨rfl, rfl, rfl⟩ := hcs
      exact ⟨zs, .inr ⟨_, rfl, hl, hm, by simpa using hz, hcell, hwz⟩⟩
  clear hA0 hval0
  refine (walk W a0 len0 cap0 z0 w0).mono fun e W' ⟨he, bel⟩ => ?_
  subst he
  exact ⟨_, rfl, _, _, _, [], _, [], hW', trodAll_mk1 (shut_bool Try.underlying4 _), (trodAll_cons_mk (Below.trod laidOut (by kernel_rfl) (of_decide_eq_true (by kernel_rfl)) k0 bel lt0) trodAll_mk0), rfl, bel.frame _, fun h => by cases h⟩

theorem proved : Rows.FnNumsSaid :=
  OpenClaim.holds_of_wide 5 Try.f5 rfl rfl rfl rfl rfl rfl rfl ⟨rfl, rfl, rfl, rfl, rfl⟩ rfl rfl rfl rfl rfl (by kernel_rfl) Try.func5 (by kernel_rfl)
    (of_decide_eq_true (by kernel_rfl)) (by unfold Func.isWrapper; first | (rw [if_pos (by decide +kernel)]; kernel_rfl) | (rw [if_neg (by decide +kernel)]; exact ⟨rfl, rfl⟩))
    (fun os started H enc _ => lifted os started H enc)
end Go.Proofs.Ytobjbnefikdlnaa.fnNums

/- Proved: for every code FnStream returns true: of whatever key, nonce and data are drawn from it, the program's Stream is the specification's, undoes itself, and of a beginning it is the beginning (codes of more than 2^20 bytes are passed over by the law itself). No further condition. -/
import Derived.Test.YtipcficcoogbnaaRows
import Derived.WalkKit
import Derived.ProofKit
import Derived.OpenShut
import Derived.ShutString
import Derived.ChangeOld
import Derived.Below
import Derived.Test.YtipcficcoogbnaaDrawS
import Derived.Test.YtipcficcoogbnaaPlc
import Derived.Test.YtipcficcoogbnaaChb3
import Derived.Test.YtipcficcoogbnaaChb4
namespace Go.Proofs.Ytipcficcoogbnaa.fnStream
open Go.ChangeShapes Go.WideShapes Go.ChangeAt Go.RowKit Go.My
open Go.ChangeMaps (open_string shut_string)
set_option linter.unusedVariables false

theorem own : ownKnob Try.prog.godebug = none := by kernel_rfl
theorem laidOut : laidOutB Try.prog = true := by kernel_rfl
set_option maxHeartbeats 2000000 in
theorem walk (w : World) (a0 : Option Addr) (len0 cap0 : Nat) (z0 : List Int) (w0 : IsRow .u8 w a0 len0 cap0 z0) :
    Calls Try.prog 5 #[.slice a0 len0 cap0] w fun e w' => e = .returned (.bool true) ∧ Below w.heap.size w w' := by
  have hmax : len0 ≤ 9223372036854775807 := by
    rcases w0 with ⟨_, rfl, _⟩ | ⟨x, _, h1, h2, _⟩
    · omega
    · unfold maxLen at h2; omega
  by_cases hl : len0 ≤ 1048576
  case neg =>
    have hd : decide (1048576 < (len0 : Int)) = true := by simp; omega
    go_enter Try.func5, Try.ntmps5
    go_wp2_with fail
    refine (big_any _ _ _ _ hmax).mono ?_
    rintro e w' ⟨rfl, rfl⟩
    rw [hd]
    go_wp2
    go_ret
    exact ⟨rfl, Below.refl _ _⟩
  have hd : decide (1048576 < (len0 : Int)) = false := by simp; omega
  have hc := code_of_row w0 hl
  clear w0 hl
  go_enter Try.func5, Try.ntmps5
  go_wp2_with fail
  refine (big_any _ _ _ _ hmax).mono ?_
  rintro e w' ⟨rfl, rfl⟩
  rw [hd]
  clear hd hmax
  go_wp2_with fail
  refine (draw_stream w.heap.size a0 len0 cap0 _ (Nat.le_refl _) hc).mono ?_
  rintro e w1 ⟨k, n, d, rfl, ⟨hks, hns, hds⟩, hb1'⟩
  have hb1 := hb1'
  clear hb1'
  have HC := Lib.hid (fun w1 (h : Below w.heap.size w w1) => hc.below h)
  clear hc
  have hkI : (k.size : Int) ≤ 40 := by omega
  have hnI : (n.size : Int) ≤ 14 := by omega
  have hdI : (d.size : Int) ≤ 401 := by omega
  have I := Lib.hid (fun w => stream_i k n d w (by omega) (by omega) (by omega))
  have S := Lib.hid (fun w => stream_s k n d w (by omega) (by omega) (by omega))
  have HV := Lib.hid (show (d.size ≤ 401 → (strV k n d).size = d.size → k.size = 32 → n.size = 12 → StrP k n d ∧ strV k n d = strE k n d) from fun h0 h1 h2 h3 => by
    by_cases c : d.size ≤ 400
    · exact ⟨⟨h2, h3, c⟩, if_pos ⟨h2, h3, c⟩⟩
    · rw [show strV k n d = ByteArray.mk #[] from if_neg (fun q => c q.2.2)] at h1
      have : (ByteArray.mk #[]).size = 0 := rfl
      omega)
  generalize strV k n d = V at *
  go_wp2_with fail
  refine (I.out _).mono ?_
  rintro e w2 ⟨rfl, hb2'⟩
  have hb2 := hb1.trans (hb2'.mono hb1.size)
  clear hb2' hb1
  go_wp2_with fail
  refine (S.out _).mono ?_
  rintro e w3 ⟨rfl, hb3'⟩
  have hb3 := hb2.trans (hb3'.mono hb2.size)
  clear hb3' hb2
  by_cases h1 : V.size = d.size
  case neg =>
    have e1 : ((V.size : Int) != (d.size : Int)) = true := by simp; omega
    go_wp2_with fail
    refine (S.out _).mono ?_
    rintro e w4 ⟨rfl, hb4'⟩
    have hb4 := hb3.trans (hb4'.mono hb3.size)
    clear hb4' hb3
    go_wp2
    go_ret
    exact ⟨rfl, hb4⟩
  have e1 : ((V.size : Int) != (d.size : Int)) = false := by simp; omega
  by_cases h2 : k.size = 32
  case neg =>
    have e2 : ((k.size : Int) != 32) = true := by simp; omega
    go_wp2_with fail
    refine (S.out _).mono ?_
    rintro e w4 ⟨rfl, hb4'⟩
    have hb4 := hb3.trans (hb4'.mono hb3.size)
    clear hb4' hb3
    go_wp2
    go_ret
    exact ⟨rfl, hb4⟩
  have e2 : ((k.size : Int) != 32) = false := by simp; omega
  by_cases h3 : n.size = 12
  case neg =>
    have e3 : ((n.size : Int) != 12) = true := by simp; omega
    go_wp2_with fail
    refine (S.out _).mono ?_
    rintro e w4 ⟨rfl, hb4'⟩
    have hb4 := hb3.trans (hb4'.mono hb3.size)
    clear hb4' hb3
    go_wp2
    go_ret
    exact ⟨rfl, hb4⟩
  have e3 : ((n.size : Int) != 12) = false := by simp; omega
  obtain ⟨hP, hV⟩ := HV.out hds h1 h2 h3
  have hw1 : IntKind.i64.wrap ((d.size : Int) + 1) = ((d.size + 1 : Nat) : Int) := by rw [IntWalk.i64_in _ (by omega)]; omega
  have P := Lib.hid (fun w1 (hb : Below w.heap.size w w1) => place_any w.heap.size (d.size + 1) a0 len0 cap0 w1 hb.size (HC.out w1 hb) (by omega) (by omega))
  rw [show ((d.size + 1 : Nat) : Int) = (d.size : Int) + 1 by omega] at P
  have c1 := Lib.hid (fun w => stream_i k n V w (by omega) (by omega) (by omega))
  have T := strV_twice k n d hP
  rw [← hV] at T
  rw [T] at c1
  have Q := Lib.hid (fun e he => strV_pre k n d e he hP)
  rw [← hV] at Q
  have c2 := Lib.hid (fun (e : Nat) (he : e ≤ d.size) w => stream_i k n (d.extract 0 e) w (by omega) (by omega) (by rw [ByteArray.size_extract]; omega))
  have h1I : (V.size : Int) = (d.size : Int) := by omega
  clear T hV hP HV I S hw1
  go_wp2_with fail
  refine (P.out _ hb3).mono ?_
  rintro e w4 ⟨⟨at0, rfl, hat⟩, hb4'⟩
  have hb4 := hb3.trans (hb4'.mono hb3.size)
  clear hb4' hb3
  have hatd : at0 ≤ d.size := by omega
  have c2' := Lib.hid (c2.out at0 hatd)
  rw [Q.out at0 hatd] at c2'
  have a1 : (at0 : Int) ≤ (d.size : Int) := by omega
  have a2 : (at0 : Int) ≤ (V.size : Int) := by omega
  have a3 : (0 : Int) ≤ (at0 : Int) := by omega
  clear c2 Q P HC hat h1 h2 h3
  go_wp2_with fail
  go_region_held3 (fun w' => True) (trivial) (first
    | (go_at_call 9; (with_reducible refine (c1.out _).mono ?_); rintro e w5 ⟨rfl, hb5'⟩; have hb5 := hb4.drew.trans (hb5'.mono hb4.drew.size); clear hb5')
    | (go_at_call 9; (with_reducible refine (c2'.out _).mono ?_); rintro e w6 ⟨rfl, hb6'⟩; have hb6 := hb5.trans (hb6'.mono hb5.size); clear hb6'))
  all_goals (try go_wp2)
  all_goals
    go_ret
    exact ⟨rfl, hb6⟩

set_option maxRecDepth 100000 in
theorem lifted (os : Os) (started : os.Started) (H : Type) (enc : TypeId × Value → H) :
    ReturnsInHanded {} Try.checked os 5 .any (Rows.fnStreamSpec.pre6 enc Try.prog Try.f5 Rows.fnStreamRow.domain false) (Rows.fnStreamSpec.post enc Try.prog Try.f5 false true false false) := by
  refine returnsInHanded_of_change (C := Try.checked) own started (by kernel_rfl) Try.func5
    (ChangeSpec.witness6 (enc := enc) (C := Try.checked) false ⟨#[], #[.slice none 0 0], []⟩ 8 (by kernel_rfl) (by kernel_rfl) (by kernel_rfl) (by kernel_rfl)) ?_
  intro W base args ds gs before hval0 hW hcnd _
  have hval : ∀ (j : Nat) t v, Try.f5.params[j]? = some t → args[j]? = some v → Value.okWide Try.prog W .any base t v := hval0
  have hW' := hW
  obtain ⟨p, q, hA0, hV, rfl, hfz, hnd⟩ := hW
  have hA : DataW.TrodAll enc Try.prog W 0 (fun _ => true) true Try.f5.params.toList args.toList ds p := hA0
  rw [Try.params5] at hA hval
  obtain ⟨v0, vs0, d0, ds0, p0, q0, hargs, rfl, rfl, h0, r0⟩ := trodAll_cons hA
  obtain ⟨rfl, rfl, rfl⟩ := trodAll_nil r0
  obtain rfl : args = #[v0] := by cases args; simp_all
  obtain ⟨rfl, rfl⟩ := trodVars_none hV
  obtain ⟨a0, len0, cap0, rfl⟩ := okWide_slice Try.underlying26 (hval 0 26 v0 rfl rfl)
  have k0 := h0
  have lt0 : ∀ x ∈ p0, x.block < W.heap.size := by obtain ⟨m, hm⟩ := k0; exact DataW.trod_lt m _ _ _ hm
  obtain ⟨z0, w0⟩ : ∃ zs, My.IsRow .u8 W a0 len0 cap0 zs := by
    obtain ⟨fuel, hf⟩ := h0
    rcases open_ints Try.underlying26 Try.underlying5 (by kernel_rfl) hf with ⟨hcs, _⟩ | ⟨x, l, c, zs, hcs, _, hl, hm, hz, _, hcell, hwz⟩
    · simp [Value.cells] at hcs
      obtain ⟨rfl, rfl, rfl⟩ := hcs
      exact ⟨[], .inl ⟨rfl, rfl, rfl, rfl⟩⟩
    · simp [Value.cells] at hcs
      obtain ⟨rfl, rfl, rfl⟩ := hcs
      exact ⟨zs, .inr ⟨_, rfl, hl, hm, by simpa using hz, hcell, hwz⟩⟩
  clear hA0 hval0
  refine (walk W a0 len0 cap0 z0 w0).mono fun e W' ⟨he, bel⟩ => ?_
  subst he
  exact ⟨_, rfl, _, _, _, [], _, [], hW', trodAll_mk1 (shut_bool Try.underlying4 _), (trodAll_cons_mk (Below.trod laidOut (by kernel_rfl) (of_decide_eq_true (by kernel_rfl)) k0 bel lt0) trodAll_mk0), rfl, bel.frame _, fun h => by cases h⟩

theorem proved : Rows.FnStreamSaid :=
  OpenClaim.holds_of_wide 5 Try.f5 rfl rfl rfl rfl rfl rfl rfl ⟨rfl, rfl, rfl, rfl, rfl⟩ rfl rfl rfl rfl rfl (by kernel_rfl) Try.func5 (by kernel_rfl)
    (of_decide_eq_true (by kernel_rfl)) (by unfold Func.isWrapper; first | (rw [if_pos (by decide +kernel)]; kernel_rfl) | (rw [if_neg (by decide +kernel)]; exact ⟨rfl, rfl⟩))
    (fun os started H enc _ => lifted os started H enc)
end Go.Proofs.Ytipcficcoogbnaa.fnStream

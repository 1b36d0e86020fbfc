/- Proved: for every code FnXor returns true: of whatever two strings are drawn from it, exclusive or with one string twice restores the other, and with itself it is zero (codes of more than 2^20 bytes are passed over by the law itself). No condition. -/
import Derived.Test.YtobjbnefikdlnaaRows
import Derived.WalkKit
import Derived.ProofKit
import Derived.OpenShut
import Derived.ShutString
import Derived.ChangeOld
import Derived.Below
import Derived.Deep.OwnRows
import Derived.Test.YtobjbnefikdlnaaDraw1b
import Derived.Test.YtobjbnefikdlnaaMath4
import Derived.Test.YtobjbnefikdlnaaXor
namespace Go.Proofs.Ytobjbnefikdlnaa.fnXor
open Go.ChangeShapes Go.WideShapes Go.ChangeAt Go.RowKit Go.My
open Go.ChangeMaps (open_string shut_string)
set_option linter.unusedVariables false

theorem own : ownKnob Try.prog.godebug = none := by kernel_rfl
theorem laidOut : laidOutB Try.prog = true := by kernel_rfl

theorem info_u8z : (Try.prog.info? 5).map (fun i => (i.zero, i.size, i.bytes)) = some (some (.int .u8 0), 1, 1) := by kernel_rfl
/-- 'string(make([]byte, n))', the two apart: the row that was made reads as noughts in every world that keeps its block. -/
theorem conv_made (W w' : World) (n : Nat) (hn : n ≤ 1048576) (h : w'.heap[W.heap.size]? = some (.cells (madeCells #[.int .u8 0] n) 5 (0, 0))) :
    (convert 22 9 (.slice (some ⟨W.heap.size, 0, none⟩) n n)).run Try.prog w' = .ok (.string (str (List.replicate n 0))) w' := by
  refine run_convert_own (P := Try.prog) w' 22 9 5 W.heap.size n _ _ Try.underlying22 Try.underlying5 Try.underlying9 ?_
  have hs : (madeCells #[Value.int .u8 0] n).size = n := by rw [← Array.length_toList, toList_madeCells_one, List.length_replicate]
  refine ⟨by rw [cellsOf_length, List.length_replicate]; omega, .inr ⟨W.heap.size, n, _, rfl, Nat.le_refl _, h, Nat.le_refl _, by unfold maxLen; omega, by rw [hs]; omega, ?_⟩⟩
  rw [toList_madeCells_one, ← fill_start]
  exact List.take_of_length_le (by rw [List.length_replicate]; omega)

set_option maxHeartbeats 2000000 in
theorem walk (w : World) (a0 : Option Addr) (len0 cap0 : Nat) (z0 : List Int) (w0 : IsRow .u8 w a0 len0 cap0 z0) :
    Calls Try.prog 4 #[.slice a0 len0 cap0] w fun e w' => e = .returned (.bool true) ∧ Below w.heap.size w w' := by
  have hmax : len0 ≤ 9223372036854775807 := by
    rcases w0 with ⟨_, rfl, _⟩ | ⟨x, _, h1, h2, _⟩
    · omega
    · unfold maxLen at h2; omega
  by_cases hl : len0 ≤ 1048576
  case neg =>
    have hd : decide (1048576 < (len0 : Int)) = true := by simp; omega
    go_enter Try.func4, Try.ntmps4
    go_wp2_with fail
    refine (big_any _ _ _ _ hmax).mono ?_
    rintro e w' ⟨rfl, rfl⟩
    rw [hd]
    go_wp2
    go_ret
    exact ⟨rfl, Below.refl _ _⟩
  have hd : decide (1048576 < (len0 : Int)) = false := by simp; omega
  have hc := code_of_row w0 hl
  go_enter Try.func4, Try.ntmps4
  go_wp2_with fail
  refine (big_any _ _ _ _ hmax).mono ?_
  rintro e w' ⟨rfl, rfl⟩
  rw [hd]
  go_wp2_with fail
  refine (draw_xorOf w.heap.size a0 len0 cap0 _ (Nat.le_refl _) hc).mono ?_
  rintro e w1 ⟨a, b, rfl, ha, hb, hb1'⟩
  have hb1 := hb1'
  clear hb1'
  clear hc w0
  go_wp2_with fail
  refine (xorOf_impl a b _ (by omega) (by omega)).mono ?_
  rintro e w2 ⟨rfl, hb2'⟩
  have hb2 := hb1.trans (hb2'.mono hb1.size)
  clear hb2' hb1
  go_wp2_with fail
  refine (xorOf_spec a b _ (by omega) (by omega)).mono ?_
  rintro e w3 ⟨rfl, hb3'⟩
  have hb3 := hb2.trans (hb3'.mono hb2.size)
  clear hb3' hb2
  by_cases hab : a.size = b.size
  case neg =>
    have hne : ((a.size : Int) != (b.size : Int)) = true := by simp; omega
    go_wp2_with fail
    refine (xorOf_spec a b _ (by omega) (by omega)).mono ?_
    rintro e w4 ⟨rfl, hb4'⟩
    have hb4 := hb3.trans (hb4'.mono hb3.size)
    clear hb4' hb3
    go_wp2
    go_ret
    exact ⟨rfl, hb4⟩
  have hne : ((a.size : Int) != (b.size : Int)) = false := by simp; omega
  have hll : a.data.toList.length = b.data.toList.length := by rw [len_data, len_data]; exact hab
  have hxs : (str (xorL a.data.toList b.data.toList)).size = a.size := by rw [str_size, xorL_len _ _ hll, len_data]
  have c1 := Lib.hid (fun w => xorOf_impl (str (xorL a.data.toList b.data.toList)) b w (by omega) (by omega))
  have c2 := Lib.hid (fun w => xorOf_impl b a w (by omega) (by omega))
  have c3 := Lib.hid (fun w => xorOf_impl a a w (by omega) (by omega))
  rw [str_list, xorL_twice _ _ hll, str_of] at c1
  rw [xorL_comm] at c2
  rw [xorL_self, len_data] at c3
  clear hll hxs hab
  have hmk := fun W => Go.run_make_row' (P := Try.prog) 22 5 (.int .u8 0) 1 Try.underlying22 info_u8z rfl .i64 .i64 a.size (by omega) (by omega) W
  have hcv0 := fun W => conv_made W (W.alloc (.cells (madeCells #[.int .u8 0] a.size) 5)) a.size (by omega) (heap_alloc_new W _)
  go_wp2_with fail
  go_region_with (first
    | (go_at_call 20; (with_reducible refine (c1.out _).mono ?_); rintro e w4 ⟨rfl, hb4'⟩; have hb4 := hb3.drew.trans (hb4'.mono hb3.drew.size); clear hb4')
    | (go_at_call 20; (with_reducible refine (c2.out _).mono ?_); rintro e w5 ⟨rfl, hb5'⟩; have hb5 := hb4.trans (hb5'.mono hb4.size); clear hb5')
    | (go_at_call 20; (with_reducible refine (c3.out w5).mono ?_); rintro e w6 ⟨rfl, hb6'⟩; have hb6 := hb5.trans (hb6'.mono hb5.size); clear hb6')
    | (go_at_call 20; (with_reducible refine (c3.out (w5.alloc _)).mono ?_); rintro e w6 ⟨rfl, hb6'⟩; have hcv1 := conv_made w5 w6 a.size (by omega) ((hb6'.block w5.heap.size (by simp)).trans (heap_alloc_new w5 _)); have hb6 := (hb5.alloc hb5.size _).trans (hb6'.mono (by have := hb5.size; simp; omega)); clear hb6'))
  all_goals (try go_wp2)
  all_goals
    go_ret
    first
      | exact ⟨rfl, hb6⟩
      | exact ⟨rfl, hb6.alloc hb6.size _⟩

set_option maxRecDepth 100000 in
theorem lifted (os : Os) (started : os.Started) (H : Type) (enc : TypeId × Value → H) :
    ReturnsInHanded {} Try.checked os 4 .any (Rows.fnXorSpec.pre6 enc Try.prog Try.f4 Rows.fnXorRow.domain false) (Rows.fnXorSpec.post enc Try.prog Try.f4 false true false false) := by
  refine returnsInHanded_of_change (C := Try.checked) own started (by kernel_rfl) Try.func4
    (ChangeSpec.witness6 (enc := enc) (C := Try.checked) false ⟨#[], #[.slice none 0 0], []⟩ 8 (by kernel_rfl) (by kernel_rfl) (by kernel_rfl) (by kernel_rfl)) ?_
  intro W base args ds gs before hval0 hW hcnd _
  have hval : ∀ (j : Nat) t v, Try.f4.params[j]? = some t → args[j]? = some v → Value.okWide Try.prog W .any base t v := hval0
  have hW' := hW
  obtain ⟨p, q, hA0, hV, rfl, hfz, hnd⟩ := hW
  have hA : DataW.TrodAll enc Try.prog W 0 (fun _ => true) true Try.f4.params.toList args.toList ds p := hA0
  rw [Try.params4] at hA hval
  obtain ⟨v0, vs0, d0, ds0, p0, q0, hargs, rfl, rfl, h0, r0⟩ := trodAll_cons hA
  obtain ⟨rfl, rfl, rfl⟩ := trodAll_nil r0
  obtain rfl : args = #[v0] := by cases args; simp_all
  obtain ⟨rfl, rfl⟩ := trodVars_none hV
  obtain ⟨a0, len0, cap0, rfl⟩ := okWide_slice Try.underlying22 (hval 0 22 v0 rfl rfl)
  have k0 := h0
  have lt0 : ∀ x ∈ p0, x.block < W.heap.size := by obtain ⟨m, hm⟩ := k0; exact DataW.trod_lt m _ _ _ hm
  obtain ⟨z0, w0⟩ : ∃ zs, My.IsRow .u8 W a0 len0 cap0 zs := by
    obtain ⟨fuel, hf⟩ := h0
    rcases open_ints Try.underlying22 Try.underlying5 (by kernel_rfl) hf with ⟨hcs, _⟩ | ⟨x, l, c, zs, hcs, _, hl, hm, hz, _, hcell, hwz⟩
    · simp [Value.cells] at hcs
      obtain ⟨rfl, rfl, rfl⟩ := hcs
      exact ⟨[], .inl ⟨rfl, rfl, rfl, rfl⟩⟩
    · simp [Value.cells] at hcs
      obtain ⟨rfl, rfl, rfl⟩ := hcs
      exact ⟨zs, .inr ⟨_, rfl, hl, hm, by simpa using hz, hcell, hwz⟩⟩
  clear hA0 hval0
  refine (walk W a0 len0 cap0 z0 w0).mono fun e W' ⟨he, bel⟩ => ?_
  subst he
  exact ⟨_, rfl, _, _, _, [], _, [], hW', trodAll_mk1 (shut_bool Try.underlying4 _), (trodAll_cons_mk (Below.trod laidOut (by kernel_rfl) (of_decide_eq_true (by kernel_rfl)) k0 bel lt0) trodAll_mk0), rfl, bel.frame _, fun h => by cases h⟩

theorem proved : Rows.FnXorSaid :=
  OpenClaim.holds_of_wide 4 Try.f4 rfl rfl rfl rfl rfl rfl rfl ⟨rfl, rfl, rfl, rfl, rfl⟩ rfl rfl rfl rfl rfl (by kernel_rfl) Try.func4 (by kernel_rfl)
    (of_decide_eq_true (by kernel_rfl)) (by unfold Func.isWrapper; first | (rw [if_pos (by decide +kernel)]; kernel_rfl) | (rw [if_neg (by decide +kernel)]; exact ⟨rfl, rfl⟩))
    (fun os started H enc _ => lifted os started H enc)
end Go.Proofs.Ytobjbnefikdlnaa.fnXor

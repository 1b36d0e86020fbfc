/- FrameOf, of the program and of the specification. -/
import Derived.Test.YtepefbfmjjnamaaFrB
import Derived.Test.YtepefbfmjjnamaaNum
namespace Go.Proofs.Ytepefbfmjjnamaa
open Go.RowKit Go.My Go.Lib
set_option linter.unusedVariables false

theorem beL4 (n : Nat) : beL n 4 = [UInt8.ofNat (n / 16777216), UInt8.ofNat (n / 65536), UInt8.ofNat (n / 256), UInt8.ofNat n] := by
  have e : ∀ j, beAt n 4 j = UInt8.ofNat (n / 256 ^ (4 - 1 - j)) := fun _ => rfl
  unfold beL
  rw [beT_snoc, beT_snoc, beT_snoc, beT_snoc, e, e, e, e]
  rw [show n / 256 ^ (4 - 1 - 3) = n by simp]
  rfl
theorem be4_bytes (n : Nat) : cellsOf (beL n 4) = [.int .u8 (IntKind.u8.wrap ((n : Int) / 16777216)), .int .u8 (IntKind.u8.wrap ((n : Int) / 65536)), .int .u8 (IntKind.u8.wrap ((n : Int) / 256)), .int .u8 (IntKind.u8.wrap (n : Int))] := by
  have e : ∀ m : Nat, ((UInt8.ofNat m).toNat : Int) = IntKind.u8.wrap (m : Int) := fun m => by rw [IntKind.wrap_u8, UInt8.toNat_ofNat']; omega
  rw [beL4]
  simp only [cellsOf, List.map_cons, List.map_nil, e, Int.natCast_ediv]
  rfl
/-- The four bytes as a literal slice lays them. -/
abbrev beC (n : Nat) : Array Value := #[.int .u8 (IntKind.u8.wrap ((n : Int) / 16777216)), .int .u8 (IntKind.u8.wrap ((n : Int) / 65536)), .int .u8 (IntKind.u8.wrap ((n : Int) / 256)), .int .u8 (IntKind.u8.wrap (n : Int))]
theorem conv_be (W w' : World) (n : Nat) (h : w'.heap[W.heap.size]? = some (.cells (beC n) 5 (0, 0))) : (convert 22 9 (.slice (some ⟨W.heap.size, 0, none⟩) 4 4)).run Try.prog w' = .ok (.string (str (beL n 4))) w' := by
  refine run_convert_own (P := Try.prog) _ 22 9 5 W.heap.size 4 _ _ Try.underlying22 Try.underlying5 Try.underlying9 ?_
  rw [be4_bytes n]
  exact ⟨rfl, .inr ⟨W.heap.size, 4, _, rfl, Nat.le_refl _, h, Nat.le_refl _, by unfold maxLen; omega, by simp [beC], rfl⟩⟩

set_option maxHeartbeats 1000000 in
theorem frame_i (s : ByteArray) (w : World) (hs : s.size ≤ 1048576) :
    Calls Try.prog 33 #[.string s] w fun e w' => e = .returned (.string (frmB s)) ∧ Below w.heap.size w w' := by
  have hs1 : (s.size : Int) ≤ 1048576 := by omega
  by_cases h : s.size ≤ 100000
  case neg =>
    have hd : decide (100000 < (s.size : Int)) = true := by simp; omega
    go_enter Try.func33, Try.ntmps33
    go_wp2
    go_ret
    exact ⟨by rw [show frmB s = ByteArray.mk #[] from if_neg h]; rfl, Below.refl _ _⟩
  have hd : decide (100000 < (s.size : Int)) = false := by simp; omega
  have HV := Lib.hid (show frmB s = str (numB s.size 4) ++ str (leB (crcV s.data.toList) 4) ++ s from by
    rw [show frmB s = str (frmL s.data.toList) from if_pos h, show numB (s.size : Int) 4 = beL s.size 4 from by rw [numB_yes ⟨by decide, by decide, by omega, by simp; omega⟩]; rfl]
    unfold frmL
    rw [len_data]
    rw [str_app, ← str_app, str_of])
  have N := Lib.hid (fun w => num_impl (s.size : Int) 4 w)
  have C := Lib.hid (fun w => sum_i s w hs)
  have z1 : (str (numB (s.size : Int) 4)).size = 4 := by rw [numB_yes ⟨by decide, by decide, by omega, by simp; omega⟩, str_size]; exact beL_len _ _
  have z2 : (str (leB (crcV s.data.toList) 4)).size = 4 := by rw [str_size, leB_len]
  generalize str (numB (s.size : Int) 4) = A at *
  generalize str (leB (crcV s.data.toList) 4) = B at *
  have c1 : ¬ 9223372036854775807 < A.size + B.size := by omega
  have c2 : ¬ 9223372036854775807 < (A ++ B).size + s.size := by rw [ByteArray.size_append]; omega
  go_enter Try.func33, Try.ntmps33
  go_wp2_with fail
  refine (N.out _ (by simp [Lit.wf, IntKind.min, IntKind.max, IntKind.signed, IntKind.bits]; omega) (by decide)).mono ?_
  rintro e w1 ⟨rfl, hb1'⟩
  have hb1 := hb1'
  clear hb1'
  go_wp2_with fail
  refine (C.out _).mono ?_
  rintro e w2 ⟨rfl, hb2'⟩
  have hb2 := hb1.trans (hb2'.mono hb1.size)
  clear hb2' hb1
  go_wp2
  go_ret
  exact ⟨by rw [HV.out]; rfl, hb2⟩

set_option maxRecDepth 100000 in
set_option maxHeartbeats 4000000 in
theorem frame_s (s : ByteArray) (w : World) (hs : s.size ≤ 1048576) :
    Calls Try.prog 48 #[.string s] w fun e w' => e = .returned (.string (frmB s)) ∧ Below w.heap.size w w' := by
  have hs1 : (s.size : Int) ≤ 1048576 := by omega
  by_cases h : s.size ≤ 100000
  case neg =>
    have hd : decide (100000 < (s.size : Int)) = true := by simp; omega
    go_enter Try.func48, Try.ntmps48
    go_wp2
    go_ret
    exact ⟨by rw [show frmB s = ByteArray.mk #[] from if_neg h]; rfl, Below.refl _ _⟩
  have hd : decide (100000 < (s.size : Int)) = false := by simp; omega
  have HV := Lib.hid (show frmB s = str (beL s.size 4) ++ str (leB (crcV s.data.toList) 4) ++ s from by
    rw [show frmB s = str (frmL s.data.toList) from if_pos h]
    unfold frmL
    rw [len_data]
    rw [str_app, ← str_app, str_of])
  have C := Lib.hid (fun w => sum_s s w hs)
  have HC := Lib.hid (fun W w' => conv_be W w' s.size)
  obtain ⟨A0, hA0⟩ : ∃ A0, str (beL s.size 4) = A0 := ⟨_, rfl⟩
  have HA := Lib.hid hA0
  rw [hA0] at HV HC
  have z1 : A0.size = 4 := by rw [← hA0, str_size]; exact beL_len _ _
  clear hA0
  have z2 : (str (leB (crcV s.data.toList) 4)).size = 4 := by rw [str_size, leB_len]
  generalize str (leB (crcV s.data.toList) 4) = B at *
  have c1 : ¬ 9223372036854775807 < A0.size + B.size := by omega
  have c2 : ¬ 9223372036854775807 < (A0 ++ B).size + s.size := by rw [ByteArray.size_append]; omega
  have hs0 : (0 : Int) ≤ (s.size : Int) := by omega
  have C1 := Lib.hid (fun o => C.out (w.alloc o).drew)
  have C2 := Lib.hid (C.out w.drew)
  have hca := conv_be w (w.alloc (.cells (beC s.size) 5)).drew s.size (heap_alloc_new w _)
  rw [HA.out] at hca
  go_enter Try.func48, Try.ntmps48
  go_wp2_with fail
  go_region_with (first
      | (go_at_call 79; (refine (C1.out _).mono ?_; rintro e w3 ⟨rfl, hb3⟩; have hcv := HC.out w w3 ((hb3.block w.heap.size (by simp)).trans (heap_alloc_new w _)); have R := (((Below.refl w.heap.size w).alloc (Nat.le_refl _) _).drew).trans (hb3.mono (by simp)); clear hb3))
      | (go_at_call 79; (refine C2.out.mono ?_; rintro e w3 ⟨rfl, hb3⟩; have hcv := HC.out w3 (w3.alloc (.cells (beC s.size) 5)) (heap_alloc_new w3 _); have R := ((Below.refl w.heap.size w).drew).trans (hb3.mono (by simp)); clear hb3)))
  all_goals (try go_wp2)
  all_goals
    go_ret
    first
      | exact ⟨by rw [HV.out]; rfl, R⟩
      | exact ⟨by rw [HV.out]; rfl, R.alloc R.size _⟩

end Go.Proofs.Ytepefbfmjjnamaa

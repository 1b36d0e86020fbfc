/- The specification's Stream. -/
import Derived.Test.YtipcficcoogbnaaChb2
namespace Go.Proofs.Ytipcficcoogbnaa
open Go.RowKit Go.My Go.Lib
set_option linter.unusedVariables false
set_option maxRecDepth 100000 in
set_option maxHeartbeats 1000000 in
theorem l4Stream_s (k n d : ByteArray) (w : World) (hk : k.size = 32) (hn : n.size = 12) (hd : d.size ≤ 400) :
    Calls Try.prog 20 #[.string k, .string n, .string d] w fun e w' => e = .returned (.string (strE k n d)) ∧ Below w.heap.size w w' := by
  have CB := Lib.hid (fun (i : Nat) (h : i < 1000) w => l4Block_s k i n w hk hn (by omega))
  have HDS := Lib.hid hd
  have hdI : (d.size : Int) ≤ 400 := by omega
  have HPL := Lib.hid (padL_len k.data.toList n.data.toList)
  have HSP := Lib.hid (fun j hj h => strm_pad k.data.toList n.data.toList d.data.toList j hj h)
  have HV : Hid (strE k n d = str (strmL k.data.toList n.data.toList d.data.toList)) := rfl
  have HCL : Hid (∀ i : Nat, (str (cOut (textL k.data.toList i n.data.toList) 16)).size = 64) := fun i => by rw [str_size, cOut_len]
  have HPS : Hid (∀ j, str (padL k.data.toList n.data.toList j) ++ str (cOut (textL k.data.toList j n.data.toList) 16) = str (padL k.data.toList n.data.toList (j + 1))) := fun j => str_app _ _
  generalize strE k n d = V at *
  generalize strmL k.data.toList n.data.toList d.data.toList = Z at *
  clear hk hn hd
  go_enter Try.func20, Try.ntmps20
  go_wp2
  go_loopw [7, 8] (fun s i wr => ∃ j : Nat, j ≤ 7 ∧ i = .int .i64 j ∧ s = .string (str (padL k.data.toList n.data.toList j)) ∧ (j = 0 ∨ 64 * (j - 1) < d.size) ∧ Below w.heap.size w wr) (fun s _ _ => match s with | .string t => 1000 - t.size | _ => 0)
  case atStart => exact ⟨0, by omega, rfl, rfl, .inl rfl, Below.refl _ _⟩
  case round =>
    obtain ⟨j, hj, rfl, rfl, hjd, hB⟩ := hrel
    have hsz : (str (padL k.data.toList n.data.toList j)).size = 64 * j := by rw [str_size, HPL.out]
    by_cases hlt : 64 * j < d.size
    · have hj7 : j < 7 := by have := HDS.out; omega
      have hszI : ((str (padL k.data.toList n.data.toList j)).size : Int) < (d.size : Int) := by omega
      have C1 := Lib.hid (CB.out j (by omega))
      have hcs := HCL.out j
      have HE := Lib.hid (HPS.out j)
      have hcat : ¬ 9223372036854775807 < (str (padL k.data.toList n.data.toList j)).size + (str (cOut (textL k.data.toList j n.data.toList) 16)).size := by omega
      have HS2 : Hid ((str (padL k.data.toList n.data.toList (j + 1))).size = 64 * (j + 1)) := by show _ = _; rw [str_size, HPL.out]
      have HNUM := Lib.hid (And.intro hlt (And.intro hj7 hsz))
      have e1 : IntKind.i64.wrap ((j : Int) + 1) = ((j + 1 : Nat) : Int) := by rw [IntKind.wrap_i64]; omega
      generalize str (cOut (textL k.data.toList j n.data.toList) 16) = X at *
      generalize str (padL k.data.toList n.data.toList j) = B at *
      clear hsz hlt hj7 hcs
      go_wp2_with fail
      refine (C1.out _).mono ?_
      rintro e w4 ⟨rfl, hb4⟩
      have hB4 := hB.trans (hb4.mono hB.size)
      clear hb4 hB
      go_wp2
      go_roundw
      case rel => exact ⟨j + 1, by have := HNUM.out; omega, by first | rfl | (have := HNUM.out; go_num), by rw [HE.out], .inr (by have := HNUM.out.1; simpa using this), hB4⟩
      case measure =>
        rw [HE.out]
        show 1000 - (str (padL k.data.toList n.data.toList (j + 1))).size < 1000 - B.size
        have := HS2.out; have := HNUM.out
        omega
    · have hszI : (d.size : Int) ≤ ((str (padL k.data.toList n.data.toList j)).size : Int) := by omega
      have CX := Lib.hid (fun w => (show Calls Try.prog 32 #[.string d, .string ((str (padL k.data.toList n.data.toList j)).extract 0 d.size)] w fun e w' => e = .returned (.string (str Z)) ∧ Below w.heap.size w w' by
        have h := xorOf_spec d ((str (padL k.data.toList n.data.toList j)).extract 0 d.size) w (by have := HDS.out; omega) (by rw [ByteArray.size_extract]; have := HDS.out; omega)
        rw [str_ext, str_list, xorL_eq (by rw [List.length_take, len_data, HPL.out]; omega), ← len_data d, HSP.out j hj (by rw [len_data]; omega)] at h
        rw [str_ext, ← len_data d]
        exact h))
      generalize str (padL k.data.toList n.data.toList j) = B at *
      clear hsz hlt
      go_wp2_with fail
      refine (CX.out _).mono ?_
      rintro e w4 ⟨rfl, hb4⟩
      have hB4 := hB.trans (hb4.mono hB.size)
      clear hb4 hB
      go_wp2
      go_ret
      exact ⟨by rw [HV.out]; rfl, hB4⟩

set_option maxHeartbeats 1000000 in
theorem stream_s (k n d : ByteArray) (w : World) (hk : k.size ≤ 1048576) (hn : n.size ≤ 1048576) (hd : d.size ≤ 1048576) :
    Calls Try.prog 8 #[.string k, .string n, .string d] w fun e w' => e = .returned (.string (strV k n d)) ∧ Below w.heap.size w w' := by
  have hnI : (n.size : Int) ≤ 1048576 := by omega
  have hdI : (d.size : Int) ≤ 1048576 := by omega
  by_cases h1 : k.size = 32
  case neg =>
    have HV : Hid (strV k n d = ByteArray.mk #[]) := if_neg (fun x => h1 x.1)
    have H1 : Hid (((k.size : Int) == 32) = false) := by show _ = _; simp; omega
    generalize strV k n d = V at *
    clear h1 hk hn hd
    go_enter Try.func8, Try.ntmps8
    go_wp2_with fail
    refine (l1Key_k k _ false H1.out).mono ?_
    rintro e w' ⟨rfl, rfl⟩
    go_wp2
    go_ret
    exact ⟨by rw [HV.out]; rfl, Below.refl _ _⟩
  have H1 : Hid (((k.size : Int) == 32) = true) := by show _ = _; simp; omega
  by_cases h2 : n.size = 12
  case neg =>
    have HV : Hid (strV k n d = ByteArray.mk #[]) := if_neg (fun x => h2 x.2.1)
    have c0 : ((n.size : Int) != 12) = true := by simp; omega
    generalize strV k n d = V at *
    clear h1 h2 hk hn hd
    go_enter Try.func8, Try.ntmps8
    go_wp2_with fail
    refine (l1Key_k k _ true H1.out).mono ?_
    rintro e w' ⟨rfl, rfl⟩
    go_wp2
    go_ret
    exact ⟨by rw [HV.out]; rfl, Below.refl _ _⟩
  have c0 : ((n.size : Int) != 12) = false := by simp; omega
  by_cases h3 : d.size ≤ 400
  case neg =>
    have HV : Hid (strV k n d = ByteArray.mk #[]) := if_neg (fun x => h3 x.2.2)
    have c1 : (400 : Int) < (d.size : Int) := by omega
    generalize strV k n d = V at *
    clear h1 h2 h3 hk hn hd
    go_enter Try.func8, Try.ntmps8
    go_wp2_with fail
    refine (l1Key_k k _ true H1.out).mono ?_
    rintro e w' ⟨rfl, rfl⟩
    go_wp2
    go_ret
    exact ⟨by rw [HV.out]; rfl, Below.refl _ _⟩
  have c1 : (d.size : Int) ≤ 400 := by omega
  have HV : strV k n d = strE k n d := if_pos ⟨h1, h2, h3⟩
  have C := Lib.hid (fun w => l4Stream_s k n d w h1 h2 h3)
  rw [← HV] at C
  generalize strV k n d = V at *
  clear h1 h2 h3 hk hn hd HV
  go_enter Try.func8, Try.ntmps8
  go_wp2_with fail
  refine (l1Key_k k _ true H1.out).mono ?_
  rintro e w' ⟨rfl, rfl⟩
  go_wp2_with fail
  refine (C.out _).mono ?_
  rintro e w1 ⟨rfl, hb1⟩
  go_wp2
  go_ret
  exact ⟨rfl, hb1⟩

end Go.Proofs.Ytipcficcoogbnaa

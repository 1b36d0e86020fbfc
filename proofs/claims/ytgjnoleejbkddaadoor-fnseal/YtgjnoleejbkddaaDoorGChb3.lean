/- The specification's Stream. -/
import Derived.Test.YtgjnoleejbkddaaDoorGChb2
namespace Go.Proofs.YtgjnoleejbkddaaDoor
open Go.RowKit Go.My Go.Lib
set_option linter.unusedVariables false
set_option maxRecDepth 100000 in
set_option maxHeartbeats 1000000 in
theorem l4Stream_s (k n d : ByteArray) (w : World) (hk : k.size = 32) (hn : n.size = 12) (hd : d.size ≤ 400) :
    Calls Tryd.prog 16 #[.string k, .string n, .string d] w fun e w' => e = .returned (.string (strE k n d)) ∧ Below w.heap.size w w' := by
  have CB := Lib.hid (fun (i : Nat) (h : i < 1000) w => l4Block_s k i n w hk hn (by omega))
  have HDS := Lib.hid hd
  have hdI : (d.size : Int) ≤ 400 := by omega
  have HPL := Lib.hid (padC_len k.data.toList n.data.toList)
  have HSP := Lib.hid (fun j hj h => strm_pad k.data.toList n.data.toList d.data.toList j hj h)
  have HV : Hid (strE k n d = str (strmL k.data.toList n.data.toList d.data.toList)) := rfl
  have HCL : Hid (∀ i : Nat, (str (cOut (textL k.data.toList i n.data.toList) 16)).size = 64) := fun i => by rw [str_size, cOut_len]
  have HPS : Hid (∀ j, str (padC k.data.toList n.data.toList j) ++ str (cOut (textL k.data.toList j n.data.toList) 16) = str (padC k.data.toList n.data.toList (j + 1))) := fun j => str_app _ _
  generalize strE k n d = V at *
  generalize strmL k.data.toList n.data.toList d.data.toList = Z at *
  clear hk hn hd
  go_enter Tryd.func16, Tryd.ntmps16
  go_wp2
  go_loopw [7, 8] (fun s i wr => ∃ j : Nat, j ≤ 7 ∧ i = .int .i64 j ∧ s = .string (str (padC k.data.toList n.data.toList j)) ∧ (j = 0 ∨ 64 * (j - 1) < d.size) ∧ Below w.heap.size w wr) (fun s _ _ => match s with | .string t => 1000 - t.size | _ => 0)
  case atStart => exact ⟨0, by omega, rfl, rfl, .inl rfl, Below.refl _ _⟩
  case round =>
    obtain ⟨j, hj, rfl, rfl, hjd, hB⟩ := hrel
    have hsz : (str (padC k.data.toList n.data.toList j)).size = 64 * j := by rw [str_size, HPL.out]
    by_cases hlt : 64 * j < d.size
    · have hj7 : j < 7 := by have := HDS.out; omega
      have hszI : ((str (padC k.data.toList n.data.toList j)).size : Int) < (d.size : Int) := by omega
      have C1 := Lib.hid (CB.out j (by omega))
      have hcs := HCL.out j
      have HE := Lib.hid (HPS.out j)
      have hcat : ¬ 9223372036854775807 < (str (padC k.data.toList n.data.toList j)).size + (str (cOut (textL k.data.toList j n.data.toList) 16)).size := by omega
      have HS2 : Hid ((str (padC k.data.toList n.data.toList (j + 1))).size = 64 * (j + 1)) := by show _ = _; rw [str_size, HPL.out]
      have HNUM := Lib.hid (And.intro hlt (And.intro hj7 hsz))
      have e1 : IntKind.i64.wrap ((j : Int) + 1) = ((j + 1 : Nat) : Int) := by rw [IntKind.wrap_i64]; omega
      generalize str (cOut (textL k.data.toList j n.data.toList) 16) = X at *
      generalize str (padC k.data.toList n.data.toList j) = B at *
      clear hsz hlt hj7 hcs
      go_wp2_with fail
      refine (C1.out _).mono ?_
      rintro e w4 ⟨rfl, hb4⟩
      have hB4 := hB.trans (hb4.mono hB.size)
      clear hb4 hB
      go_wp2
      go_roundw
      case rel => exact ⟨j + 1, by have := HNUM.out; omega, by first | rfl | (have := HNUM.out; go_num), by rw [HE.out], .inr (by have := HNUM.out.1; simpa using this), hB4⟩
      case measure =>
        rw [HE.out]
        show 1000 - (str (padC k.data.toList n.data.toList (j + 1))).size < 1000 - B.size
        have := HS2.out; have := HNUM.out
        omega
    · have hszI : (d.size : Int) ≤ ((str (padC k.data.toList n.data.toList j)).size : Int) := by omega
      have CX := Lib.hid (fun w => (show Calls Tryd.prog 34 #[.string d, .string ((str (padC k.data.toList n.data.toList j)).extract 0 d.size)] w fun e w' => e = .returned (.string (str Z)) ∧ Below w.heap.size w w' by
        have h := xorOf_spec d ((str (padC k.data.toList n.data.toList j)).extract 0 d.size) w (by have := HDS.out; omega) (by rw [ByteArray.size_extract]; have := HDS.out; omega)
        rw [str_ext, str_list, xorL_eq (by rw [List.length_take, len_data, HPL.out]; omega), ← len_data d, HSP.out j hj (by rw [len_data]; omega)] at h
        rw [str_ext, ← len_data d]
        exact h))
      generalize str (padC k.data.toList n.data.toList j) = B at *
      clear hsz hlt
      go_wp2_with fail
      refine (CX.out _).mono ?_
      rintro e w4 ⟨rfl, hb4⟩
      have hB4 := hB.trans (hb4.mono hB.size)
      clear hb4 hB
      go_wp2
      go_ret
      exact ⟨by rw [HV.out]; rfl, hB4⟩

end Go.Proofs.YtgjnoleejbkddaaDoor

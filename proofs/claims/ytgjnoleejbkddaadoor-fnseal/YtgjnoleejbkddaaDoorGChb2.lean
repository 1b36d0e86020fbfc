/- Stream of both sides. -/
import Derived.Test.YtgjnoleejbkddaaDoorGChb1
import Derived.Test.YtgjnoleejbkddaaDoorGCha8
import Derived.Test.YtgjnoleejbkddaaDoorGXor
namespace Go.Proofs.YtgjnoleejbkddaaDoor
open Go.RowKit Go.My Go.Lib
set_option linter.unusedVariables false
theorem str_ext (l : List UInt8) (m : Nat) : (str l).extract 0 m = str (l.take m) := by
  apply ByteArray.ext
  rw [ByteArray.data_extract]
  unfold str
  simp

set_option maxRecDepth 100000 in
set_option maxHeartbeats 600000 in
theorem stream_i (k n d : ByteArray) (w : World) (hk : k.size ≤ 1048576) (hn : n.size ≤ 1048576) (hd : d.size ≤ 1048576) :
    Calls Tryd.prog 24 #[.string k, .string n, .string d] w fun e w' => e = .returned (.string (strV k n d)) ∧ Below w.heap.size w w' := by
  have HI := Lib.hid (fun w => isKey_any k w (by omega))
  have CB := Lib.hid (fun (i : Nat) (h : i < 1000) w => block_i k (i : Int) n w hk hn (by simp [Lit.wf, IntKind.min, IntKind.max, IntKind.signed, IntKind.bits]; omega))
  have hnI : (n.size : Int) ≤ 1048576 := by omega
  have hdI : (d.size : Int) ≤ 1048576 := by omega
  clear hk
  by_cases h1 : k.size = 32
  case neg =>
    have HV : Hid (strV k n d = ByteArray.mk #[]) := if_neg (fun x => h1 x.1)
    have HD : Hid (decide (k.size = 32) = false) := decide_eq_false h1
    generalize strV k n d = V at *
    clear h1 hn hd
    go_enter Tryd.func24, Tryd.ntmps24
    go_wp2_with fail
    refine (HI.out _).mono ?_
    rintro e w' ⟨rfl, rfl⟩
    rw [HD.out]
    go_wp2
    go_ret
    exact ⟨by rw [HV.out]; rfl, Below.refl _ _⟩
  have HD : Hid (decide (k.size = 32) = true) := decide_eq_true h1
  by_cases h2 : n.size = 12
  case neg =>
    have HV : Hid (strV k n d = ByteArray.mk #[]) := if_neg (fun x => h2 x.2.1)
    have c0 : ((n.size : Int) != 12) = true := by simp; omega
    generalize strV k n d = V at *
    clear h1 h2 hn hd
    go_enter Tryd.func24, Tryd.ntmps24
    go_wp2_with fail
    refine (HI.out _).mono ?_
    rintro e w' ⟨rfl, rfl⟩
    rw [HD.out]
    go_wp2
    go_ret
    exact ⟨by rw [HV.out]; rfl, Below.refl _ _⟩
  have c0 : ((n.size : Int) != 12) = false := by simp; omega
  by_cases h3 : d.size ≤ 400
  case neg =>
    have HV : Hid (strV k n d = ByteArray.mk #[]) := if_neg (fun x => h3 x.2.2)
    have c1 : (400 : Int) < (d.size : Int) := by omega
    generalize strV k n d = V at *
    clear h1 h2 h3 hn hd
    go_enter Tryd.func24, Tryd.ntmps24
    go_wp2_with fail
    refine (HI.out _).mono ?_
    rintro e w' ⟨rfl, rfl⟩
    rw [HD.out]
    go_wp2
    go_ret
    exact ⟨by rw [HV.out]; rfl, Below.refl _ _⟩
  have c1 : (d.size : Int) ≤ 400 := by omega
  have HV : Hid (strV k n d = str (strmL k.data.toList n.data.toList d.data.toList)) := if_pos ⟨h1, h2, h3⟩
  have HB : Hid (∀ i : Nat, i < 1000 → blkV k (i : Int) n = str (cOut (textL k.data.toList i n.data.toList) 16)) := fun i hi => if_pos ⟨h1, by omega, by omega, h2⟩
  have HL := Lib.hid (strmL_len k.data.toList n.data.toList d.data.toList (by rw [len_data]; omega))
  have HST := Lib.hid (strm_step k.data.toList n.data.toList d.data.toList)
  have HDS := Lib.hid h3
  have HCL : Hid (∀ i : Nat, (str (cOut (textL k.data.toList i n.data.toList) 16)).size = 64) := fun i => by rw [str_size, cOut_len]
  generalize strmL k.data.toList n.data.toList d.data.toList = Z at *
  generalize strV k n d = V at *
  clear h1 h2 hn hd h3
  go_enter Tryd.func24, Tryd.ntmps24
  go_wp2_with fail
  refine (HI.out _).mono ?_
  rintro e w' ⟨rfl, rfl⟩
  rw [HD.out]
  go_wp2
  go_loopw [7, 8] (fun s i wr => ∃ j : Nat, j ≤ 7 ∧ i = .int .i64 j ∧ s = .string (str (Z.take (64 * j))) ∧ (j = 0 ∨ 64 * (j - 1) < d.size) ∧ Below w.heap.size w wr) (fun s _ _ => match s with | .string t => d.size - t.size | _ => 0)
  case atStart => exact ⟨0, by omega, rfl, rfl, .inl rfl, Below.refl _ _⟩
  case round =>
    obtain ⟨j, hj, rfl, rfl, hjd, hB⟩ := hrel
    have hsz : (str (Z.take (64 * j))).size = min (64 * j) d.size := by rw [str_size, List.length_take, HL.out, len_data]
    by_cases hlt : 64 * j < d.size
    · have hsz1 : (str (Z.take (64 * j))).size = 64 * j := by omega
      have hszI : ((str (Z.take (64 * j))).size : Int) = ((64 * j : Nat) : Int) := by omega
      have hlI : ((64 * j : Nat) : Int) < (d.size : Int) := by omega
      have hj7 : j < 7 := by have := HDS.out; omega
      have e1 : IntKind.i64.wrap (((64 * j : Nat) : Int) + 64) = ((64 * j + 64 : Nat) : Int) := by rw [IntKind.wrap_i64]; omega
      have C1 := Lib.hid (CB.out j (by omega))
      rw [HB.out j (by omega)] at C1
      have hcs := HCL.out j
      have hst := HST.out j hj7
      by_cases hle : 64 * j + 64 ≤ d.size
      · have hPd : (d.extract (64 * j) (64 * j + 64)).data.toList = (d.data.toList.drop (64 * j)).take 64 := by
          rw [ext_take d (64 * j) (64 * j + 64) (by omega)]
          congr 1
          omega
        have hPs : (d.extract (64 * j) (64 * j + 64)).size = 64 := by rw [ByteArray.size_extract]; omega
        have hPsI : ((d.extract (64 * j) (64 * j + 64)).size : Int) = 64 := by omega
        have hmn : ((64 * j + 64 : Nat) : Int) ≤ (d.size : Int) := by omega
        have hmin : min ((64 * j + 64 : Nat) : Int) (d.size : Int) = ((64 * j + 64 : Nat) : Int) := by omega
        have q1 : ((64 * j : Nat) : Int) ≤ ((64 * j + 64 : Nat) : Int) := by omega
        have q0 : (0 : Int) ≤ ((64 * j : Nat) : Int) := by omega
        have CX := Lib.hid (fun w => (show Calls Tryd.prog 39 #[.string (d.extract (64 * j) (64 * j + 64)), .string ((str (cOut (textL k.data.toList j n.data.toList) 16)).extract 0 (min (64 * j + 64) d.size - 64 * j))] w fun e w' => e = .returned (.string (str (List.zipWith (· ^^^ ·) ((d.data.toList.drop (64 * j)).take 64) (cOut (textL k.data.toList j n.data.toList) 16)))) ∧ Below w.heap.size w w' by
          rw [show (min (64 * j + 64) d.size - 64 * j) = 64 by omega]
          have h := xorOf_impl (d.extract (64 * j) (64 * j + 64)) ((str (cOut (textL k.data.toList j n.data.toList) 16)).extract 0 64) w (by omega) (by rw [ByteArray.size_extract]; omega)
          rw [str_ext, str_list, xorL_eq (by rw [hPd, List.length_take, List.length_take, List.length_drop, len_data, cOut_len]; omega), hPd, zip_cut _ _ _ (by rw [List.length_take, List.length_drop, len_data]; omega)] at h
          rw [str_ext]
          exact h))
        have hQ : (str (List.zipWith (· ^^^ ·) ((d.data.toList.drop (64 * j)).take 64) (cOut (textL k.data.toList j n.data.toList) 16))).size ≤ 64 := by rw [str_size, List.length_zipWith, List.length_take, cOut_len]; omega
        have hcat : ¬ 9223372036854775807 < (str (Z.take (64 * j))).size + (str (List.zipWith (· ^^^ ·) ((d.data.toList.drop (64 * j)).take 64) (cOut (textL k.data.toList j n.data.toList) 16))).size := by omega
        have HE : Hid (str (Z.take (64 * j)) ++ str (List.zipWith (· ^^^ ·) ((d.data.toList.drop (64 * j)).take 64) (cOut (textL k.data.toList j n.data.toList) 16)) = str (Z.take (64 * (j + 1)))) := by show _ = _; rw [str_app, hst]
        have HSZ2 : Hid ((str (Z.take (64 * (j + 1)))).size = min (64 * (j + 1)) d.size) := by show _ = _; rw [str_size, List.length_take, HL.out, len_data]
        have HNUM := Lib.hid (And.intro hlt (And.intro hj7 hsz1))
        generalize str (List.zipWith (· ^^^ ·) ((d.data.toList.drop (64 * j)).take 64) (cOut (textL k.data.toList j n.data.toList) 16)) = Y at *
        generalize str (cOut (textL k.data.toList j n.data.toList) 16) = X at *
        have hcsI : (X.size : Int) = 64 := by omega
        have hz64 : 64 ≤ X.size := by omega
        clear hst hPd hsz hsz1 hlt hle hj7 hQ hcs hPs
        generalize str (Z.take (64 * j)) = B at *
        go_wp2_with fail
        refine (C1.out _).mono ?_
        rintro e w4 ⟨rfl, hb4⟩
        have hB4 := hB.trans (hb4.mono hB.size)
        clear hb4 hB
        go_wp2_with fail
        refine (CX.out _).mono ?_
        rintro e w5 ⟨rfl, hb5⟩
        have hB5 := hB4.trans (hb5.mono hB4.size)
        clear hb5 hB4
        go_wp2
        go_roundw
        case rel => exact ⟨j + 1, by have := HNUM.out; omega, by have := HNUM.out; go_num, by rw [HE.out], .inr (by have := HNUM.out.1; simpa using this), hB5⟩
        case measure =>
          rw [HE.out]
          show d.size - (str (Z.take (64 * (j + 1)))).size < d.size - B.size
          have := HSZ2.out; have := HNUM.out
          omega
      · have hPd : (d.extract (64 * j) (d.size)).data.toList = (d.data.toList.drop (64 * j)).take 64 := by
          rw [ext_take d (64 * j) (d.size) (by omega)]
          rw [List.take_of_length_le (by rw [List.length_drop, len_data]; omega), List.take_of_length_le (by rw [List.length_drop, len_data]; have := HDS.out; omega)]
        have hPs : (d.extract (64 * j) (d.size)).size = (d.size - 64 * j) := by rw [ByteArray.size_extract]; omega
        have hPsI : ((d.extract (64 * j) (d.size)).size : Int) = ((d.size - 64 * j : Nat) : Int) := by omega
        have hmn : (d.size : Int) < ((64 * j + 64 : Nat) : Int) := by omega
        have hmn2 : ¬ ((64 * j + 64 : Nat) : Int) ≤ (d.size : Int) := by omega
        have hmin : min ((64 * j + 64 : Nat) : Int) (d.size : Int) = (d.size : Int) := by omega
        have q1 : ((64 * j : Nat) : Int) ≤ (d.size : Int) := by omega
        have q0 : (0 : Int) ≤ ((64 * j : Nat) : Int) := by omega
        have CX := Lib.hid (fun w => (show Calls Tryd.prog 39 #[.string (d.extract (64 * j) (d.size)), .string ((str (cOut (textL k.data.toList j n.data.toList) 16)).extract 0 (d.size - 64 * j))] w fun e w' => e = .returned (.string (str (List.zipWith (· ^^^ ·) ((d.data.toList.drop (64 * j)).take 64) (cOut (textL k.data.toList j n.data.toList) 16)))) ∧ Below w.heap.size w w' by
          skip
          have h := xorOf_impl (d.extract (64 * j) (d.size)) ((str (cOut (textL k.data.toList j n.data.toList) 16)).extract 0 (d.size - 64 * j)) w (by omega) (by rw [ByteArray.size_extract]; omega)
          rw [str_ext, str_list, xorL_eq (by rw [hPd, List.length_take, List.length_take, List.length_drop, len_data, cOut_len]; omega), hPd, zip_cut _ _ _ (by rw [List.length_take, List.length_drop, len_data]; omega)] at h
          rw [str_ext]
          exact h))
        have hQ : (str (List.zipWith (· ^^^ ·) ((d.data.toList.drop (64 * j)).take 64) (cOut (textL k.data.toList j n.data.toList) 16))).size ≤ 64 := by rw [str_size, List.length_zipWith, List.length_take, cOut_len]; omega
        have hcat : ¬ 9223372036854775807 < (str (Z.take (64 * j))).size + (str (List.zipWith (· ^^^ ·) ((d.data.toList.drop (64 * j)).take 64) (cOut (textL k.data.toList j n.data.toList) 16))).size := by omega
        have HE : Hid (str (Z.take (64 * j)) ++ str (List.zipWith (· ^^^ ·) ((d.data.toList.drop (64 * j)).take 64) (cOut (textL k.data.toList j n.data.toList) 16)) = str (Z.take (64 * (j + 1)))) := by show _ = _; rw [str_app, hst]
        have HSZ2 : Hid ((str (Z.take (64 * (j + 1)))).size = min (64 * (j + 1)) d.size) := by show _ = _; rw [str_size, List.length_take, HL.out, len_data]
        have HNUM := Lib.hid (And.intro hlt (And.intro hj7 hsz1))
        generalize str (List.zipWith (· ^^^ ·) ((d.data.toList.drop (64 * j)).take 64) (cOut (textL k.data.toList j n.data.toList) 16)) = Y at *
        generalize str (cOut (textL k.data.toList j n.data.toList) 16) = X at *
        have hcsI : (X.size : Int) = 64 := by omega
        have hz64 : (d.size - 64 * j) ≤ X.size := by omega
        have hzI : ((d.size - 64 * j : Nat) : Int) ≤ 64 := by omega
        have hzI0 : (0 : Int) ≤ ((d.size - 64 * j : Nat) : Int) := by omega
        clear hst hPd hsz hsz1 hlt hle hj7 hQ hcs hPs
        generalize str (Z.take (64 * j)) = B at *
        go_wp2_with fail
        refine (C1.out _).mono ?_
        rintro e w4 ⟨rfl, hb4⟩
        have hB4 := hB.trans (hb4.mono hB.size)
        clear hb4 hB
        go_wp2_with fail
        refine (CX.out _).mono ?_
        rintro e w5 ⟨rfl, hb5⟩
        have hB5 := hB4.trans (hb5.mono hB4.size)
        clear hb5 hB4
        go_wp2
        go_roundw
        case rel => exact ⟨j + 1, by have := HNUM.out; omega, by have := HNUM.out; go_num, by rw [HE.out], .inr (by have := HNUM.out.1; simpa using this), hB5⟩
        case measure =>
          rw [HE.out]
          show d.size - (str (Z.take (64 * (j + 1)))).size < d.size - B.size
          have := HSZ2.out; have := HNUM.out
          omega
    · have hszI : (d.size : Int) ≤ ((str (Z.take (64 * j))).size : Int) := by omega
      have HE : Hid (str (Z.take (64 * j)) = V) := by show _ = _; rw [HV.out, List.take_of_length_le (by rw [HL.out, len_data]; omega)]
      generalize str (Z.take (64 * j)) = B at *
      clear hsz hlt
      go_wp2
      go_ret
      exact ⟨by rw [← HE.out]; rfl, hB⟩

end Go.Proofs.YtgjnoleejbkddaaDoor

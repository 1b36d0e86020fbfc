/- The contract of the specification's l2Sha. -/
import Derived.Test.YtgjnoleejbkddaaDoorGSp4
namespace Go.Proofs.YtgjnoleejbkddaaDoor
open Go.RowKit Go.My Go.Lib
set_option linter.unusedVariables false

theorem stN_len (P : List UInt8) (n : Nat) : (stN P n).length = 32 := by
  cases n with
  | zero => rfl
  | succ n => exact outL_len _ 8

theorem extract_list (B : ByteArray) (p k : Nat) : (B.extract p (p + k)).data.toList = (B.data.toList.drop p).take k := by
  rw [ByteArray.data_extract, Array.toList_extract, List.extract_eq_take_drop]
  congr 1
  omega

set_option maxHeartbeats 2000000 in
theorem l2Sha_spec (s : ByteArray) (w : World) (hs : s.size ≤ 10000) :
    Calls Tryd.prog 31 #[.string s] w fun e w' => e = .returned (.string (str (shaL s.data.toList))) ∧ Below w.heap.size w w' := by
  have HS := Lib.hid hs
  clear hs
  go_enter Tryd.func31, Tryd.ntmps31
  go_wp2_with fail
  refine (l2Pad_spec s _ HS.out).mono ?_
  rintro e w1 ⟨rfl, hb1⟩
  go_wp2_with fail
  have hpl : (padT s.data.toList).length ≤ 20000 := by
    unfold padT
    simp only [List.length_append, List.length_replicate, List.length_cons, List.length_nil]
    rw [show (beL (8 * s.data.toList.length) 4).length = 4 from beT_len _ _ _, len_data]
    have := HS.out; have := padN_lt (s.size % 64)
    omega
  have hpm := padT_len s.data.toList
  have HF : Hid (shaL s.data.toList = stN (padT s.data.toList) ((padT s.data.toList).length / 64)) := rfl
  generalize padT s.data.toList = P at *
  have hBl : (str P).data.toList = P := str_list P
  have hBs : (str P).size = P.length := str_size P
  have HP := Lib.hid (And.intro hpl (And.intro hpm (And.intro hBl hBs)))
  have hp1 : ((str P).size : Int) ≤ 20000 := by omega
  clear hpl hpm hBl hBs
  generalize str P = B at *
  have hf0 : (⟨#[106, 9, 230, 103, 187, 103, 174, 133, 60, 110, 243, 114, 165, 79, 245, 58, 81, 14, 82, 127, 155, 5, 104, 140, 31, 131, 217, 171, 91, 224, 205, 25]⟩ : ByteArray) = str (stN P 0) := rfl
  rw [hf0]
  clear hf0
  go_loopw [4, 5] (fun v i wr => ∃ n p : Nat, p = 64 * n ∧ p ≤ B.size ∧ i = .int .i64 p ∧ v = .string (str (stN P n)) ∧ Below w.heap.size w wr)
    (fun _ i _ => B.size - (intOf i).toNat)
  case atStart => exact ⟨0, 0, rfl, Nat.zero_le _, rfl, rfl, hb1⟩
  case round =>
    clear hb1
    obtain ⟨n, p, hp, hpb, rfl, rfl, hb⟩ := hrel
    have HPN := Lib.hid (And.intro hp hpb)
    clear hp hpb
    by_cases hlt : p < B.size
    · have p0 : (0 : Int) ≤ (p : Int) := by omega
      have p1 : (p : Int) < (B.size : Int) := by omega
      have p64 : (p : Int) + 64 ≤ (B.size : Int) := by have := HP.out; have := HPN.out; omega
      have p65 : (0 : Int) ≤ (p : Int) + 64 := by omega
      have p66 : (p : Int) ≤ (p : Int) + 64 := by omega
      clear hlt
      have hex : (B.extract p (p + 64)).data.toList = (P.drop (64 * n)).take 64 := by
        rw [← HP.out.2.2.1, ← HPN.out.1]
        exact extract_list B p 64
      have hes : (B.extract p (p + 64)).size = 64 := by
        rw [ByteArray.size_extract]; omega
      have HE := Lib.hid (And.intro hex hes)
      clear hex hes
      go_wp2_with fail
      refine (l2Step_spec (str (stN P n)) _ _ (by rw [str_size]; exact stN_len P n) ?he).mono ?_
      case he => first | exact HE.out.2 | (rw [ByteArray.size_extract]; omega)
      rintro e w3 ⟨rfl, hb3⟩
      have hbq : Below w.heap.size w w3 := hb.trans ⟨hb3.os, hb3.tape, hb3.output, hb3.size, fun k hk => hb3.block k (Nat.lt_of_lt_of_le hk hb.size)⟩
      have hex : (B.extract p (p + 64)).data.toList = (P.drop (64 * n)).take 64 := by
        rw [← HP.out.2.2.1, ← HPN.out.1]
        exact extract_list B p 64
      rw [hex, str_list]
      clear hex hb hb3
      have hsn : stepL (stN P n) ((P.drop (64 * n)).take 64) = stN P (n + 1) := rfl
      rw [hsn]
      go_wp2
      go_roundw
      case rel => exact ⟨n + 1, p + 64, by have := HPN.out; omega, by omega, by go_num, rfl, hbq⟩
      case measure => simp [intOf]; omega
    · have hq : (B.size : Int) ≤ (p : Int) := by omega
      clear hlt
      go_wp2
      go_ret
      refine ⟨?_, hb⟩
      have := HP.out; have := HPN.out
      rw [HF.out, show P.length / 64 = n by omega]
      rfl

end Go.Proofs.YtgjnoleejbkddaaDoor

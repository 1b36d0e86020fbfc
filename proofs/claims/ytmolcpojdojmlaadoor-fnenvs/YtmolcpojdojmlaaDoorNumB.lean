/- The contract of the program's BytesNum; of the specification's l1At at two bytes. -/
import Derived.Test.YtmolcpojdojmlaaDoorMath1
import Derived.Test.YtmolcpojdojmlaaDoorBe
import Derived.Test.YtmolcpojdojmlaaDoorNumA
import Derived.Lib.Hide
import Derived.BigQuiet
import Derived.Deep.QuietTactic
namespace Go.Proofs.YtmolcpojdojmlaaDoor
open Go.RowKit Go.My
set_option linter.unusedVariables false

set_option maxHeartbeats 400000 in
theorem bnumI (s : ByteArray) (w : World) (h1 : 1 ≤ s.size) (h7 : s.size ≤ 7) :
    Calls Tryd.prog 66 #[.string s] w fun e w' => e = .returned (.tuple #[.int .i64 (numOf s.data.toList), .bool true]) ∧ w = w' := by
  have hs1 : (1 : Int) ≤ s.size := by omega
  have hs7 : (s.size : Int) ≤ 7 := by omega
  go_enter Tryd.func66, Tryd.ntmps66
  go_wp2
  go_loop [4, 5] (fun n i => ∃ k : Nat, k ≤ s.size ∧ i = .int .i64 k ∧ n = .int .i64 (numOf (s.data.toList.take k))) (fun _ i => s.size - (intOf i).toNat)
  case atStart => exact ⟨0, Nat.zero_le _, rfl, rfl⟩
  case round =>
    obtain ⟨k, hk, rfl, rfl⟩ := hrel
    by_cases hlt : k < s.size
    · have hL : (s.data.toList.take k).length = k := by rw [List.length_take, len_data]; omega
      have hb := numOf_lt (s.data.toList.take k)
      rw [hL] at hb
      have hb6 := pow6 k (by omega)
      have HS : Hid (numOf (s.data.toList.take (k + 1)) = numOf (s.data.toList.take k) * 256 + s[k].toNat) := by rw [take_snoc s k hlt, numOf_snoc]; rfl
      generalize numOf (s.data.toList.take k) = N at *
      have hN : (N : Int) ≤ 281474976710656 := by omega
      have hc := s[k].toNat_lt
      have ho := or_byte N s[k] (by omega)
      go_wp2
      go_round
      case rel => exact ⟨k + 1, by omega, by go_num, by rw [HS.out]; go_num⟩
      case measure => simp [intOf]; omega
    · obtain rfl : k = s.size := by omega
      rw [take_all]
      go_wp2
      go_ret2
      exact ⟨rfl, rfl⟩

theorem two_of (s : ByteArray) (k : Nat) (h : k + 2 ≤ s.size) : (s.extract k (k + 2)).data.toList = [s[k]'(by omega), s[k + 1]'(by omega)] := by
  apply List.ext_getElem
  · simp; omega
  · intro i h1 h2
    have : i = 0 ∨ i = 1 := by simp at h2; omega
    rcases this with rfl | rfl <;> simp <;> rfl
theorem numOf_two (x y : UInt8) : numOf [x, y] = x.toNat * 256 + y.toNat := by simp [numOf]

set_option maxHeartbeats 1000000 in
theorem at32_s (s : ByteArray) (w : World) (h : 34 ≤ s.size) (hm : s.size ≤ 1048576) :
    Calls Tryd.prog 21 #[.string s, .int .i64 32, .int .i64 2] w fun e w' => e = .returned (.int .i64 (numOf (s.extract 32 34).data.toList)) ∧ w = w' := by
  have a1 : 32 < s.size := by omega
  have a2 : 33 < s.size := by omega
  have HT : numOf (s.extract 32 34).data.toList = (s[32]'a1).toNat * 256 + (s[33]'a2).toNat := by
    have := two_of s 32 h
    rw [this, numOf_two]
  rw [HT]
  have b1 := (s[32]'a1).toNat_lt
  have b2 := (s[33]'a2).toNat_lt
  have a1' : (32 : Int) < (s.size : Int) := by omega
  have a2' : (33 : Int) < (s.size : Int) := by omega
  have HM := Lib.hid hm
  clear hm h HT
  go_enter Tryd.func21, Tryd.ntmps21
  go_wp2
  go_loop [7, 8] (fun n i => (n = .int .i64 0 ∧ i = .int .i64 32) ∨ (n = .int .i64 ((s[32]'a1).toNat : Nat) ∧ i = .int .i64 33) ∨ (n = .int .i64 (((s[32]'a1).toNat * 256 + (s[33]'a2).toNat : Nat) : Int) ∧ i = .int .i64 34)) (fun _ i => 34 - (intOf i).toNat)
  case atStart => exact .inl ⟨rfl, rfl⟩
  case round =>
    rcases hrel with ⟨rfl, rfl⟩ | ⟨rfl, rfl⟩ | ⟨rfl, rfl⟩
    · have o1 : bits BinOp.or IntKind.i64 0 ((s[32]'a1).toNat : Int) = ((s[32]'a1).toNat : Int) := by simpa using or_byte 0 (s[32]'a1) (by omega)
      go_wp2
      go_round
      case rel => exact .inr (.inl ⟨by go_num, by go_num⟩)
      case measure => simp [intOf]
    · have o2 := or_byte (s[32]'a1).toNat (s[33]'a2) (by omega)
      have hN : ((s[32]'a1).toNat : Int) ≤ 281474976710656 := by omega
      go_wp2
      go_round
      case rel => exact .inr (.inr ⟨by go_num, by go_num⟩)
      case measure => simp [intOf]
    · go_wp2
      go_ret
      exact ⟨rfl, rfl⟩

set_option maxHeartbeats 1000000 in
theorem at34_s (s : ByteArray) (w : World) (h : 36 ≤ s.size) (hm : s.size ≤ 1048576) :
    Calls Tryd.prog 21 #[.string s, .int .i64 34, .int .i64 2] w fun e w' => e = .returned (.int .i64 (numOf (s.extract 34 36).data.toList)) ∧ w = w' := by
  have a1 : 34 < s.size := by omega
  have a2 : 35 < s.size := by omega
  have HT : numOf (s.extract 34 36).data.toList = (s[34]'a1).toNat * 256 + (s[35]'a2).toNat := by
    have := two_of s 34 h
    rw [this, numOf_two]
  rw [HT]
  have b1 := (s[34]'a1).toNat_lt
  have b2 := (s[35]'a2).toNat_lt
  have a1' : (34 : Int) < (s.size : Int) := by omega
  have a2' : (35 : Int) < (s.size : Int) := by omega
  have HM := Lib.hid hm
  clear hm h HT
  go_enter Tryd.func21, Tryd.ntmps21
  go_wp2
  go_loop [7, 8] (fun n i => (n = .int .i64 0 ∧ i = .int .i64 34) ∨ (n = .int .i64 ((s[34]'a1).toNat : Nat) ∧ i = .int .i64 35) ∨ (n = .int .i64 (((s[34]'a1).toNat * 256 + (s[35]'a2).toNat : Nat) : Int) ∧ i = .int .i64 36)) (fun _ i => 36 - (intOf i).toNat)
  case atStart => exact .inl ⟨rfl, rfl⟩
  case round =>
    rcases hrel with ⟨rfl, rfl⟩ | ⟨rfl, rfl⟩ | ⟨rfl, rfl⟩
    · have o1 : bits BinOp.or IntKind.i64 0 ((s[34]'a1).toNat : Int) = ((s[34]'a1).toNat : Int) := by simpa using or_byte 0 (s[34]'a1) (by omega)
      go_wp2
      go_round
      case rel => exact .inr (.inl ⟨by go_num, by go_num⟩)
      case measure => simp [intOf]
    · have o2 := or_byte (s[34]'a1).toNat (s[35]'a2) (by omega)
      have hN : ((s[34]'a1).toNat : Int) ≤ 281474976710656 := by omega
      go_wp2
      go_round
      case rel => exact .inr (.inr ⟨by go_num, by go_num⟩)
      case measure => simp [intOf]
    · go_wp2
      go_ret
      exact ⟨rfl, rfl⟩

set_option maxHeartbeats 1000000 in
theorem at67_s (s : ByteArray) (w : World) (h : 69 ≤ s.size) (hm : s.size ≤ 1048576) :
    Calls Tryd.prog 21 #[.string s, .int .i64 67, .int .i64 2] w fun e w' => e = .returned (.int .i64 (numOf (s.extract 67 69).data.toList)) ∧ w = w' := by
  have a1 : 67 < s.size := by omega
  have a2 : 68 < s.size := by omega
  have HT : numOf (s.extract 67 69).data.toList = (s[67]'a1).toNat * 256 + (s[68]'a2).toNat := by
    have := two_of s 67 h
    rw [this, numOf_two]
  rw [HT]
  have b1 := (s[67]'a1).toNat_lt
  have b2 := (s[68]'a2).toNat_lt
  have a1' : (67 : Int) < (s.size : Int) := by omega
  have a2' : (68 : Int) < (s.size : Int) := by omega
  have HM := Lib.hid hm
  clear hm h HT
  go_enter Tryd.func21, Tryd.ntmps21
  go_wp2
  go_loop [7, 8] (fun n i => (n = .int .i64 0 ∧ i = .int .i64 67) ∨ (n = .int .i64 ((s[67]'a1).toNat : Nat) ∧ i = .int .i64 68) ∨ (n = .int .i64 (((s[67]'a1).toNat * 256 + (s[68]'a2).toNat : Nat) : Int) ∧ i = .int .i64 69)) (fun _ i => 69 - (intOf i).toNat)
  case atStart => exact .inl ⟨rfl, rfl⟩
  case round =>
    rcases hrel with ⟨rfl, rfl⟩ | ⟨rfl, rfl⟩ | ⟨rfl, rfl⟩
    · have o1 : bits BinOp.or IntKind.i64 0 ((s[67]'a1).toNat : Int) = ((s[67]'a1).toNat : Int) := by simpa using or_byte 0 (s[67]'a1) (by omega)
      go_wp2
      go_round
      case rel => exact .inr (.inl ⟨by go_num, by go_num⟩)
      case measure => simp [intOf]
    · have o2 := or_byte (s[67]'a1).toNat (s[68]'a2) (by omega)
      have hN : ((s[67]'a1).toNat : Int) ≤ 281474976710656 := by omega
      go_wp2
      go_round
      case rel => exact .inr (.inr ⟨by go_num, by go_num⟩)
      case measure => simp [intOf]
    · go_wp2
      go_ret
      exact ⟨rfl, rfl⟩

end Go.Proofs.YtmolcpojdojmlaaDoor

/- The contracts of NumBytes and BytesNum, the program's and the specification's. -/
import Derived.Test.YtepefbfmjjnamaaRows
import Derived.Test.YtepefbfmjjnamaaMath1
import Derived.Test.YtepefbfmjjnamaaSmall
import Derived.Test.YtepefbfmjjnamaaBe
import Derived.Test.YtepefbfmjjnamaaNumA
import Derived.Lib.Hide
import Derived.BigQuiet
import Derived.Deep.QuietTactic
namespace Go.Proofs.Ytepefbfmjjnamaa
open Go.RowKit Go.My
set_option linter.unusedVariables false

set_option maxHeartbeats 400000 in
theorem bnum_impl (s : ByteArray) (w : World) (h1 : 1 ≤ s.size) (h7 : s.size ≤ 7) :
    Calls Try.prog 77 #[.string s] w fun e w' => e = .returned (.tuple #[.int .i64 (numOf s.data.toList), .bool true]) ∧ w = w' := by
  have hs1 : (1 : Int) ≤ s.size := by omega
  have hs7 : (s.size : Int) ≤ 7 := by omega
  go_enter Try.func77, Try.ntmps77
  go_wp2
  go_loop [4, 5] (fun n i => ∃ k : Nat, k ≤ s.size ∧ i = .int .i64 k ∧ n = .int .i64 (numOf (s.data.toList.take k))) (fun _ i => s.size - (intOf i).toNat)
  case atStart => exact ⟨0, Nat.zero_le _, rfl, rfl⟩
  case round =>
    obtain ⟨k, hk, rfl, rfl⟩ := hrel
    by_cases hlt : k < s.size
    · have hL : (s.data.toList.take k).length = k := by rw [List.length_take, len_data]; omega
      have hb := numOf_lt (s.data.toList.take k)
      rw [hL] at hb
      have hb6 := pow6 k (by omega)
      have HS : Hid (numOf (s.data.toList.take (k + 1)) = numOf (s.data.toList.take k) * 256 + s[k].toNat) := by rw [take_snoc s k hlt, numOf_snoc]; rfl
      generalize numOf (s.data.toList.take k) = N at *
      have hN : (N : Int) ≤ 281474976710656 := by omega
      have hc := s[k].toNat_lt
      have ho := or_byte N s[k] (by omega)
      go_wp2
      go_round
      case rel => exact ⟨k + 1, by omega, by go_num, by rw [HS.out]; go_num⟩
      case measure => simp [intOf]; omega
    · obtain rfl : k = s.size := by omega
      rw [take_all]
      go_wp2
      go_ret2
      exact ⟨rfl, rfl⟩

set_option maxHeartbeats 400000 in
theorem bnum_impl_no (s : ByteArray) (w : World) (hm : s.size ≤ 1048576) (h : s.size < 1 ∨ 7 < s.size) :
    Calls Try.prog 77 #[.string s] w fun e w' => e = .returned (.tuple #[.int .i64 0, .bool false]) ∧ w = w' := by
  rcases h with h | h
  · have hd : decide ((s.size : Int) < 1) = true := by simp; omega
    go_enter Try.func77, Try.ntmps77
    go_wp2
    go_ret2
    exact ⟨rfl, rfl⟩
  · have hs1 : ¬ (s.size : Int) < 1 := by omega
    have hs7 : (7 : Int) < s.size := by omega
    go_enter Try.func77, Try.ntmps77
    go_wp2
    go_ret2
    exact ⟨rfl, rfl⟩

end Go.Proofs.Ytepefbfmjjnamaa

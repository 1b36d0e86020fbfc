/- The contract of the specification's l2Pad. -/
import Derived.Test.YtipcficcoogbnaaDoorSp2
namespace Go.Proofs.YtipcficcoogbnaaDoor
open Go.RowKit Go.My Go.Lib
set_option linter.unusedVariables false

/-- The text with its padding, as the specification lays it. -/
def padT (l : List UInt8) : List UInt8 := l ++ [128] ++ List.replicate (padN (l.length % 64)) 0 ++ [0, 0, 0, 0] ++ beL (8 * l.length) 4

set_option maxHeartbeats 2000000 in
theorem l2Pad_spec (s : ByteArray) (w : World) (hs : s.size ≤ 10000) :
    Calls Tryd.prog 53 #[.string s] w fun e w' => e = .returned (.string (str (padT s.data.toList))) ∧ Below w.heap.size w w' := by
  have hs1 : (s.size : Int) ≤ 10000 := by omega
  have HS := Lib.hid hs
  have hc1 : ¬ 9223372036854775807 < s.size + 1 := by omega
  clear hs
  go_enter Tryd.func53, Tryd.ntmps53
  go_wp2_with fail
  have h128 : s ++ (⟨#[128]⟩ : ByteArray) = str (s.data.toList ++ [128] ++ List.replicate 0 0) := by
    have : s = str s.data.toList := (str_of s).symm
    conv => lhs; rw [this]
    rw [show (⟨#[128]⟩ : ByteArray) = str [128] from rfl, str_app]
    simp
  rw [h128]
  clear h128 hc1
  have HP := Lib.hid (padN_lt (s.size % 64))
  go_loopw [3] (fun o wr => ∃ m : Nat, m ≤ padN (s.size % 64) ∧ o = .string (str (s.data.toList ++ [128] ++ List.replicate m 0)) ∧ wr = w)
    (fun o _ => match o with | .string t => s.size + 65 - t.size | _ => 0)
  case atStart => exact ⟨0, Nat.zero_le _, rfl, rfl⟩
  case round =>
    obtain ⟨m, hm, rfl, rfl⟩ := hrel
    have hsz : (str (s.data.toList ++ [128] ++ List.replicate m 0)).size = s.size + 1 + m := by
      rw [str_size]; simp only [List.length_append, List.length_replicate, List.length_singleton]; rw [len_data]
    by_cases hlt : m < padN (s.size % 64)
    · have hne := pad_u (s.size % 64) m (Nat.mod_lt _ (by decide)) hlt
      have hn2 : (((str (s.data.toList ++ [128] ++ List.replicate m 0)).size : Int) % 64 != 56) = true := by
        rw [hsz]; simp; omega
      have hsn : str (s.data.toList ++ [128] ++ List.replicate m 0) ++ (⟨#[0]⟩ : ByteArray) = str (s.data.toList ++ [128] ++ List.replicate (m + 1) 0) := by
        rw [show (⟨#[0]⟩ : ByteArray) = str [0] from rfl, str_app, List.replicate_succ', List.append_assoc]
      have HSN := Lib.hid hsn
      have HSZ := Lib.hid hsz
      have HM := Lib.hid (And.intro hm hlt)
      have hcat : ¬ 9223372036854775807 < (str (s.data.toList ++ [128] ++ List.replicate m 0)).size + 1 := by rw [hsz]; have := HS.out; have := HP.out; omega
      have b0 : (0 : Int) ≤ ((str (s.data.toList ++ [128] ++ List.replicate m 0)).size : Int) := by omega
      clear hne hsn hsz hm hlt
      generalize str (s.data.toList ++ [128] ++ List.replicate m 0) = B at *
      go_wp2
      go_roundw
      case rel => exact ⟨m + 1, by have := HM.out; omega, by rw [HSN.out], trivial⟩
      case measure =>
        rw [HSN.out]
        show s.size + 65 - (str (s.data.toList ++ [128] ++ List.replicate (m + 1) 0)).size < s.size + 65 - B.size
        rw [HSZ.out, str_size]
        simp only [List.length_append, List.length_replicate, List.length_singleton]
        rw [len_data]
        have := HP.out; have := HM.out
        omega
    · have hme : m = padN (s.size % 64) := by omega
      have he := pad_end (s.size % 64) (Nat.mod_lt _ (by decide))
      have hn2 : (((str (s.data.toList ++ [128] ++ List.replicate m 0)).size : Int) % 64 != 56) = false := by
        rw [hsz, hme]; simp; omega
      have hcat : ¬ 9223372036854775807 < (str (s.data.toList ++ [128] ++ List.replicate m 0)).size + 4 := by rw [hsz]; have := HS.out; have := HP.out; omega
      have HME := Lib.hid hme
      have HSZ := Lib.hid hsz
      have b0 : (0 : Int) ≤ ((str (s.data.toList ++ [128] ++ List.replicate m 0)).size : Int) := by omega
      have s0 : (0 : Int) ≤ (s.size : Int) := by omega
      clear hlt hm hme he hsz
      generalize hB : str (s.data.toList ++ [128] ++ List.replicate m 0) = B at *
      have HB := Lib.hid hB
      clear hB
      have hn1 : s.size ≤ 10000 := HS.out
      have e0 := beAt_val (8 * s.size) 4 0
      have e1 := beAt_val (8 * s.size) 4 1
      have e2 := beAt_val (8 * s.size) 4 2
      have e3 := beAt_val (8 * s.size) 4 3
      have hce : #[Value.int .u8 (8 * (s.size : Int) / 16777216), .int .u8 (8 * (s.size : Int) / 65536), .int .u8 (8 * (s.size : Int) / 256 % 256), .int .u8 (8 * (s.size : Int) % 256)] = (cellsOf (beL (8 * s.size) 4)).toArray := by
        have hb : beL (8 * s.size) 4 = [beAt (8 * s.size) 4 0, beAt (8 * s.size) 4 1, beAt (8 * s.size) 4 2, beAt (8 * s.size) 4 3] := rfl
        rw [hb]
        simp only [cellsOf, List.map_cons, List.map_nil, e0, e1, e2, e3]
        congr 1
        simp
        omega
      have hown : (wr.alloc (.cells #[Value.int .u8 (8 * (s.size : Int) / 16777216), .int .u8 (8 * (s.size : Int) / 65536), .int .u8 (8 * (s.size : Int) / 256 % 256), .int .u8 (8 * (s.size : Int) % 256)] 5)).ownsRow wr.heap.size 5 1 (.slice (some ⟨wr.heap.size, 0, none⟩) 4 4) 4 (cellsOf (beL (8 * s.size) 4)) := by
        rw [hce]
        exact World.ownsRow_lit wr (cellsOf (beL (8 * s.size) 4)).toArray 4 (Nat.le_refl _) (by unfold maxLen; omega) rfl
      have hcv := run_convert_own (P := Tryd.prog) _ 24 9 5 _ _ _ _ Tryd.underlying24 Tryd.underlying5 Tryd.underlying9 hown
      have HF : Hid (B ++ (⟨#[0, 0, 0, 0]⟩ : ByteArray) ++ str (beL (8 * s.size) 4) = str (padT s.data.toList)) := by
        show B ++ (⟨#[0, 0, 0, 0]⟩ : ByteArray) ++ str (beL (8 * s.size) 4) = str (padT s.data.toList)
        rw [← HB.out, show (⟨#[0, 0, 0, 0]⟩ : ByteArray) = str [0, 0, 0, 0] from rfl, str_app, str_app, HME.out]
        unfold padT
        rw [len_data]
      have hl4 : (str (beL (8 * s.size) 4)).size = 4 := by rw [str_size]; exact beT_len _ _ _
      have hcat2 : ¬ 9223372036854775807 < (B ++ (⟨#[0, 0, 0, 0]⟩ : ByteArray)).size + (str (beL (8 * s.size) 4)).size := by
        rw [hl4, ByteArray.size_append, HSZ.out]
        have := HP.out; have := HME.out
        show ¬ 9223372036854775807 < s.size + 1 + m + 4 + 4
        omega
      have hcat3 : ¬ 9223372036854775807 < B.size + 4 + (str (beL (8 * s.size) 4)).size := by
        rw [hl4, HSZ.out]
        have := HP.out; have := HME.out
        omega
      clear e0 e1 e2 e3 hce hown hn1 hl4
      generalize str (beL (8 * s.size) 4) = C at *
      go_wp2
      go_ret
      exact ⟨by rw [← HF.out]; rfl, (Below.refl _ _).alloc (Nat.le_refl _) _⟩

end Go.Proofs.YtipcficcoogbnaaDoor

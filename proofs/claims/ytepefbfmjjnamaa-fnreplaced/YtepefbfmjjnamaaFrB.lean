/- The check sum of frames: checkOf of the program, l12Sum of the specification. -/
import Derived.Test.YtepefbfmjjnamaaFrA
import Derived.Test.YtepefbfmjjnamaaRows
import Derived.WalkKit
import Derived.ProofKit
import Derived.Lib.Hide
import Derived.Deep.QuietTactic
import Derived.BigQuiet
import Derived.Deep.MidRow
import Derived.Deep.RegionHeld3
import Derived.Deep.AppendLies
import Derived.StillTailTactics
import Derived.WalkSpells
import Derived.WalkLawsBesides
import Derived.Deep.Cut
namespace Go.Proofs.Ytepefbfmjjnamaa
open Go.RowKit Go.My Go.Lib
set_option linter.unusedVariables false

theorem info_u8fr : (Try.prog.info? 5).map (fun i => (i.zero, i.size, i.bytes)) = some (some (.int .u8 0), 1, 1) := by kernel_rfl
theorem leN_snocF (l : List UInt8) (b : UInt8) : leN (l ++ [b]) = leN l + 256 ^ l.length * b.toNat := by rw [leN_append]; simp [leN]
theorem leValF (n j : Nat) : ((UInt8.ofNat (n / 256 ^ j)).toNat : Int) = (n : Int) / 2 ^ (8 * j) % 256 := by
  have e : (256 : Nat) ^ j = 2 ^ (8 * j) := by rw [show (256 : Nat) = 2 ^ 8 from rfl, ← Nat.pow_mul]
  rw [e, UInt8.toNat_ofNat', Int.natCast_emod, Int.natCast_ediv, Int.natCast_pow]
  rfl

theorem le4_bytes (n : Nat) (h : n < 4294967296) : cellsOf (leB n 4) = [.int .u8 ((n : Int) % 256), .int .u8 ((n : Int) / 256 % 256), .int .u8 ((n : Int) / 65536 % 256), .int .u8 ((n : Int) / 16777216 % 256)] := by
  have e : ∀ m : Nat, ((UInt8.ofNat m).toNat : Int) = (m : Int) % 256 := fun m => by rw [UInt8.toNat_ofNat']; omega
  rw [leB_snoc, leB_snoc, leB_snoc, leB_snoc, Nat.pow_zero, Nat.div_one]
  simp only [cellsOf, leB, List.nil_append, List.cons_append, List.map_cons, List.map_nil, e, Int.natCast_ediv]
  rfl
theorem conv_le (W : World) (n : Nat) (h : n < 4294967296) : (convert 22 9 (.slice (some ⟨W.heap.size, 0, none⟩) 4 4)).run Try.prog (W.alloc (.cells #[.int .u8 ((n : Int) % 256), .int .u8 ((n : Int) / 256 % 256), .int .u8 ((n : Int) / 65536 % 256), .int .u8 ((n : Int) / 16777216 % 256)] 5)) = .ok (.string (str (leB n 4))) (W.alloc (.cells #[.int .u8 ((n : Int) % 256), .int .u8 ((n : Int) / 256 % 256), .int .u8 ((n : Int) / 65536 % 256), .int .u8 ((n : Int) / 16777216 % 256)] 5)) := by
  refine run_convert_own (P := Try.prog) _ 22 9 5 W.heap.size 4 _ _ Try.underlying22 Try.underlying5 Try.underlying9 ?_
  rw [le4_bytes n h]
  exact World.ownsRow_lit (base := W.heap.size) (e := 5) (size := 1) W #[.int .u8 ((n : Int) % 256), .int .u8 ((n : Int) / 256 % 256), .int .u8 ((n : Int) / 65536 % 256), .int .u8 ((n : Int) / 16777216 % 256)] 4 (Nat.le_refl _) (by unfold maxLen; omega) rfl

set_option maxRecDepth 100000 in
set_option maxHeartbeats 1000000 in
theorem sum_s (s : ByteArray) (w : World) (hs : s.size ≤ 1048576) :
    Calls Try.prog 79 #[.string s] w fun e w' => e = .returned (.string (str (leB (crcV s.data.toList) 4))) ∧ Below w.heap.size w w' := by
  have hs1 : (s.size : Int) ≤ 1048576 := by omega
  go_enter Try.func79, Try.ntmps79
  go_wp2
  go_loop [3, 4] (fun c i => ∃ j : Nat, j ≤ s.size ∧ i = .int .i64 j ∧ c = .int .u32 (crcF (s.data.toList.take j))) (fun _ i => s.size - (intOf i).toNat)
  case atStart => exact ⟨0, Nat.zero_le _, rfl, rfl⟩
  case round =>
    obtain ⟨j, hj, rfl, rfl⟩ := hrel
    by_cases hlt : j < s.size
    · have HS : Hid (crcF (s.data.toList.take (j + 1)) = crcN (xor32 (crcF (s.data.toList.take j)) (s[j].toNat : Int)) 8) := by rw [take_snoc s j hlt, crcF_snoc]; rfl
      generalize crcF (s.data.toList.take j) = C at *
      have HX := Lib.hid (xor32_bd C (s[j].toNat : Int))
      have hx : bits .xor .u32 C ((s[j].toNat : Int) % 4294967296) = xor32 C (s[j].toNat : Int) := by rw [Int.emod_eq_of_lt (by omega) (by have := s[j].toNat_lt; omega)]; rfl
      generalize xor32 C (s[j].toNat : Int) = X at *
      go_wp2
      go_loop [3, 5] (fun c k => ∃ q : Nat, q ≤ 8 ∧ k = .int .i64 q ∧ c = .int .u32 (crcN X q)) (fun _ k => 8 - (intOf k).toNat)
      case atStart => exact ⟨0, Nat.zero_le _, rfl, rfl⟩
      case round =>
        obtain ⟨q, hq, rfl, rfl⟩ := hrel
        by_cases hq8 : q < 8
        · have HW := Lib.hid (crcN_bd HX.out q)
          have HN : Hid (crcN X (q + 1) = crcS (crcN X q)) := rfl
          generalize crcN X q = Y at *
          have e1 : Y.tmod 2 = Y % 2 := by have := HW.out; unfold W32 at this; exact Int.tmod_eq_emod_of_nonneg (by omega)
          rcases Int.emod_two_eq Y with h2 | h2
          · have hy := crcS_even h2
            rw [h2] at e1
            clear h2
            go_wp2
            go_round
            case rel => exact ⟨q + 1, by omega, by go_num, by rw [HN.out, hy]⟩
            case measure => simp [intOf]; omega
          · have hy := crcS_odd h2
            have hz : bits .xor .u32 (Y / 2) 3988292384 = xor32 (Y / 2) 3988292384 := rfl
            rw [h2] at e1
            clear h2
            go_wp2
            go_round
            case rel => exact ⟨q + 1, by omega, by go_num, by rw [HN.out, hy]⟩
            case measure => simp [intOf]; omega
        · obtain rfl : q = 8 := by omega
          rw [← HS.out]
          go_wp2
          go_round
          case rel => exact ⟨j + 1, by omega, by go_num, rfl⟩
          case measure => simp [intOf]; omega
    · obtain rfl : j = s.size := by omega
      rw [take_all]
      have hl := Lib.hid (crcV_lt s.data.toList)
      have hx : bits .xor .u32 IntKind.u32.max (crcF s.data.toList) = (crcV s.data.toList : Int) := (crcV_int s.data.toList).symm
      generalize hVV : crcV s.data.toList = V at *
      have HVV := Lib.hid hVV
      clear hVV
      generalize crcF s.data.toList = Z at *
      have hcv := fun W => conv_le W V hl.out
      generalize hBB : leB V 4 = B4 at *
      have HBB := Lib.hid hBB
      clear hBB
      go_wp2
      go_ret
      exact ⟨by rw [HVV.out, HBB.out]; rfl, (Below.refl _ _).alloc (Nat.le_refl _) _⟩

set_option maxHeartbeats 1000000 in
theorem le_fr (n : Nat) (k : Nat) (w : World) (hn : n < U64) (hk : k ≤ 8) :
    Calls Try.prog 109 #[.int .u64 n, .int .i64 k] w fun e w' => e = .returned (.string (str (leB n k))) ∧ Below w.heap.size w w' := by
  obtain ⟨i0, hi, hz0, hz1, hz2⟩ := info_parts info_u8fr
  have hk8 : (k : Int) ≤ 8 := by omega
  have hk0 : (0 : Int) ≤ (k : Int) := by omega
  have hn0 : (0 : Int) ≤ (n : Int) := by omega
  go_enter Try.func109, Try.ntmps109
  go_wp2_with (at_make; refine wpList_make_full _ rfl _ _ 22 rfl w.heap.size 5 i0 (.int .u8 0) 1 Try.underlying22 hi hz0 hz1 .i64 .i64 _ _ k rfl rfl rfl rfl ?c2 ?c3 ?c4 ?_)
  case c2 => rw [hz2]; omega
  case c3 => unfold maxLen; omega
  case c4 => exact Nat.le_refl _
  intro w1 hown hgrow
  have hb1 : Below w.heap.size w w1 := (Below.refl _ _).grown hgrow (Nat.le_refl _) (by simp)
  have hg1 : w.heap.size ≤ w.heap.size := Nat.le_refl _
  clear hgrow
  have ho : w1.ownsRow w.heap.size 5 1 (.slice (some ⟨w.heap.size, 0, none⟩) k k) k (cellsOf (leB n 0 ++ List.replicate (k - (leB n 0).length) 0)) := by
    have e : (madeCells #[Value.int .u8 0] k).toList = cellsOf (List.replicate k 0) := by rw [← fill_start]; exact toList_madeCells_one _ _
    rw [e] at hown
    exact hown
  clear hown
  go_wp2
  go_loopw [6, 11] (fun _ i wr => ∃ j : Nat, j ≤ k ∧ i = .int .i64 j ∧ wr.ownsRow w.heap.size 5 1 (.slice (some ⟨w.heap.size, 0, none⟩) k k) k (cellsOf (leB n j ++ List.replicate (k - (leB n j).length) 0)) ∧ Below w.heap.size w wr)
    (fun _ i _ => k - (intOf i).toNat)
  case atStart => exact ⟨0, Nat.zero_le _, rfl, ho, hb1⟩
  case round =>
    obtain ⟨j, hj, rfl, hown, hb⟩ := hrel
    by_cases hlt : j < k
    · have hj0 : (0 : Int) ≤ (j : Int) := Int.natCast_nonneg _
      have hj1 : (j : Int) < (k : Int) := by omega
      obtain ⟨hcell, hfz⟩ := store_cell (leB_len n j) hlt hown
      have R := store_step (b := UInt8.ofNat (n / 256 ^ j)) (leB_len n j) hlt hg1 hown hb
      rw [← leB_snoc, leValF] at R
      clear hown
      go_wp2
      go_roundw
      case rel => exact ⟨j + 1, by omega, by go_num, R.1, R.2⟩
      case measure => simp [intOf]; omega
    · obtain rfl : j = k := by omega
      rw [leB_len, Nat.sub_self, List.replicate_zero, List.append_nil] at hown
      have hcv := run_convert_own (P := Try.prog) wr 22 9 5 _ _ _ _ Try.underlying22 Try.underlying5 Try.underlying9 hown
      clear hown
      go_wp2
      go_ret
      exact ⟨rfl, hb⟩

set_option maxRecDepth 100000 in
set_option maxHeartbeats 1000000 in
theorem sum_i (s : ByteArray) (w : World) (hs : s.size ≤ 1048576) :
    Calls Try.prog 78 #[.string s] w fun e w' => e = .returned (.string (str (leB (crcV s.data.toList) 4))) ∧ Below w.heap.size w w' := by
  have hs1 : (s.size : Int) ≤ 1048576 := by omega
  go_enter Try.func78, Try.ntmps78
  go_wp2
  go_loop [3, 8] (fun c i => ∃ j : Nat, j ≤ s.size ∧ i = .int .i64 j ∧ c = .int .u32 (crcF (s.data.toList.take j))) (fun _ i => s.size - (intOf i).toNat)
  case atStart => exact ⟨0, Nat.zero_le _, rfl, rfl⟩
  case round =>
    obtain ⟨j, hj, rfl, rfl⟩ := hrel
    by_cases hlt : j < s.size
    · have HS : Hid (crcF (s.data.toList.take (j + 1)) = crcN (xor32 (crcF (s.data.toList.take j)) (s[j].toNat : Int)) 8) := by rw [take_snoc s j hlt, crcF_snoc]; rfl
      generalize crcF (s.data.toList.take j) = C at *
      have HX := Lib.hid (xor32_bd C (s[j].toNat : Int))
      have hx : bits .xor .u32 C ((s[j].toNat : Int) % 4294967296) = xor32 C (s[j].toNat : Int) := by rw [Int.emod_eq_of_lt (by omega) (by have := s[j].toNat_lt; omega)]; rfl
      generalize xor32 C (s[j].toNat : Int) = X at *
      go_wp2
      go_loop [3, 17] (fun c k => ∃ q : Nat, q ≤ 8 ∧ k = .int .i64 q ∧ c = .int .u32 (crcN X q)) (fun _ k => 8 - (intOf k).toNat)
      case atStart => exact ⟨0, Nat.zero_le _, rfl, rfl⟩
      case round =>
        obtain ⟨q, hq, rfl, rfl⟩ := hrel
        by_cases hq8 : q < 8
        · have HW := Lib.hid (crcN_bd HX.out q)
          have HN : Hid (crcN X (q + 1) = crcS (crcN X q)) := rfl
          generalize crcN X q = Y at *
          have e1 := u32_and1 Y HW.out
          rcases Int.emod_two_eq Y with h2 | h2
          · have hy := crcS_even h2
            have hz : bits .xor .u32 (Y / 2) 0 = Y / 2 := xor32_zero _ (by have := HW.out; unfold W32 at *; omega)
            rw [h2] at e1
            clear h2
            go_wp2
            go_round
            case rel => exact ⟨q + 1, by omega, by go_num, by rw [HN.out, hy]⟩
            case measure => simp [intOf]; omega
          · have hy := crcS_odd h2
            have hz : bits .xor .u32 (Y / 2) 3988292384 = xor32 (Y / 2) 3988292384 := rfl
            rw [h2] at e1
            clear h2
            go_wp2
            go_round
            case rel => exact ⟨q + 1, by omega, by go_num, by rw [HN.out, hy]⟩
            case measure => simp [intOf]; omega
        · obtain rfl : q = 8 := by omega
          rw [← HS.out]
          go_wp2
          go_round
          case rel => exact ⟨j + 1, by omega, by go_num, rfl⟩
          case measure => simp [intOf]; omega
    · obtain rfl : j = s.size := by omega
      rw [take_all]
      have hl := Lib.hid (crcV_lt s.data.toList)
      have hx : bits .xor .u32 IntKind.u32.max (crcF s.data.toList) = (crcV s.data.toList : Int) := (crcV_int s.data.toList).symm
      generalize hVV : crcV s.data.toList = V at *
      have HVV := Lib.hid hVV
      clear hVV
      generalize crcF s.data.toList = Z at *
      have HU : IntKind.u64.wrap (V : Int) = (V : Int) := by have := hl.out; rw [IntKind.wrap_u64]; omega
      have HL := Lib.hid (le_fr V 4 w (by have := hl.out; unfold U64; omega) (by omega))
      go_wp2_with fail
      refine HL.out.mono ?_
      rintro e w1 ⟨rfl, hb1⟩
      go_wp2
      go_ret
      exact ⟨by rw [HVV.out]; rfl, hb1⟩

end Go.Proofs.Ytepefbfmjjnamaa

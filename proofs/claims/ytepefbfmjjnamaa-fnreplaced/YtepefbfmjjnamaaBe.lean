/- The contracts of the big-endian encodings: bigEndian of the program, l1Be of the specification. -/
import Derived.Test.YtepefbfmjjnamaaRows
import Derived.Test.YtepefbfmjjnamaaMath1
import Derived.WalkKit
import Derived.ProofKit
import Derived.Deep.RegionHeld3
import Derived.Deep.AppendLies
import Derived.StillTailTactics
import Derived.WalkSpells
import Derived.WalkLawsBesides
namespace Go.Proofs.Ytepefbfmjjnamaa
open Go.RowKit Go.My
set_option linter.unusedVariables false
set_option maxRecDepth 100000

theorem info_u8b : (Try.prog.info? 5).map (fun i => (i.zero, i.size, i.bytes)) = some (some (.int .u8 0), 1, 1) := by kernel_rfl

set_option maxHeartbeats 400000 in
theorem be_impl (n : Nat) (k : Nat) (w : World) (hn : n < U64) (hk : k ≤ 8) :
    Calls Try.prog 110 #[.int .u64 n, .int .i64 k] w fun e w' => e = .returned (.string (str (beL n k))) ∧ Below w.heap.size w w' := by
  obtain ⟨i0, hi, hz0, hz1, hz2⟩ := info_parts info_u8b
  have hk8 : (k : Int) ≤ 8 := by omega
  have hk0 : (0 : Int) ≤ (k : Int) := by omega
  have hn0 : (0 : Int) ≤ (n : Int) := by omega
  go_enter Try.func110, Try.ntmps110
  go_wp2_with (at_make; refine wpList_make_full _ rfl _ _ 22 rfl w.heap.size 5 i0 (.int .u8 0) 1 Try.underlying22 hi hz0 hz1 .i64 .i64 _ _ k rfl rfl rfl rfl ?c2 ?c3 ?c4 ?_)
  case c2 => rw [hz2]; omega
  case c3 => unfold maxLen; omega
  case c4 => exact Nat.le_refl _
  intro w1 hown hgrow
  have hb1 : Below w.heap.size w w1 := (Below.refl _ _).grown hgrow (Nat.le_refl _) (by simp)
  have hg1 : w.heap.size ≤ w.heap.size := Nat.le_refl _
  clear hgrow
  have ho : w1.ownsRow w.heap.size 5 1 (.slice (some ⟨w.heap.size, 0, none⟩) k k) k (cellsOf (beT n k 0 ++ List.replicate (k - (beT n k 0).length) 0)) := by
    have e : (madeCells #[Value.int .u8 0] k).toList = cellsOf (List.replicate k 0) := by rw [← fill_start]; exact toList_madeCells_one _ _
    rw [e] at hown
    exact hown
  clear hown
  go_wp2
  go_loopw [6, 11] (fun _ i wr => ∃ j : Nat, j ≤ k ∧ i = .int .i64 j ∧ wr.ownsRow w.heap.size 5 1 (.slice (some ⟨w.heap.size, 0, none⟩) k k) k (cellsOf (beT n k j ++ List.replicate (k - (beT n k j).length) 0)) ∧ Below w.heap.size w wr)
    (fun _ i _ => k - (intOf i).toNat)
  case atStart => exact ⟨0, Nat.zero_le _, rfl, ho, hb1⟩
  case round =>
    obtain ⟨j, hj, rfl, hown, hb⟩ := hrel
    by_cases hlt : j < k
    · have hj0 : (0 : Int) ≤ (j : Int) := Int.natCast_nonneg _
      have hj1 : (j : Int) < (k : Int) := by omega
      obtain ⟨hcell, hfz⟩ := store_cell (beT_len n k j) hlt hown
      have R := store_step (b := beAt n k j) (beT_len n k j) hlt hg1 hown hb
      rw [← beT_snoc, beAt_val] at R
      clear hown
      go_wp2
      go_roundw
      case rel => exact ⟨j + 1, by omega, by go_num, R.1, R.2⟩
      case measure => simp [intOf]; omega
    · obtain rfl : j = k := by omega
      rw [beT_len, Nat.sub_self, List.replicate_zero, List.append_nil] at hown
      have hcv := run_convert_own (P := Try.prog) wr 22 9 5 _ _ _ _ Try.underlying22 Try.underlying5 Try.underlying9 hown
      clear hown
      go_wp2
      go_ret
      exact ⟨rfl, hb⟩

end Go.Proofs.Ytepefbfmjjnamaa

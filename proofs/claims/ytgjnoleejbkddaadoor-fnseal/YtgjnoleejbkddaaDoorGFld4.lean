/- The contracts of littleNum, littleEndian, wordsOf, encoded. -/
import Derived.Test.YtgjnoleejbkddaaDoorGFld1
namespace Go.Proofs.YtgjnoleejbkddaaDoor
open Go.RowKit Go.My Go.Lib
set_option linter.unusedVariables false

theorem info_u8l : (Tryd.prog.info? 5).map (fun i => (i.zero, i.size, i.bytes)) = some (some (.int .u8 0), 1, 1) := by kernel_rfl
theorem leN_snoc (l : List UInt8) (b : UInt8) : leN (l ++ [b]) = leN l + 256 ^ l.length * b.toNat := by rw [leN_append]; simp [leN]
theorem leVal (n j : Nat) : ((UInt8.ofNat (n / 256 ^ j)).toNat : Int) = (n : Int) / 2 ^ (8 * j) % 256 := by
  have e : (256 : Nat) ^ j = 2 ^ (8 * j) := by rw [show (256 : Nat) = 2 ^ 8 from rfl, ← Nat.pow_mul]
  rw [e, UInt8.toNat_ofNat', Int.natCast_emod, Int.natCast_ediv, Int.natCast_pow]
  rfl

set_option maxHeartbeats 1000000 in
theorem le_impl (n : Nat) (k : Nat) (w : World) (hn : n < U64) (hk : k ≤ 8) :
    Calls Tryd.prog 52 #[.int .u64 n, .int .i64 k] w fun e w' => e = .returned (.string (str (leB n k))) ∧ Below w.heap.size w w' := by
  obtain ⟨i0, hi, hz0, hz1, hz2⟩ := info_parts info_u8l
  have hk8 : (k : Int) ≤ 8 := by omega
  have hk0 : (0 : Int) ≤ (k : Int) := by omega
  have hn0 : (0 : Int) ≤ (n : Int) := by omega
  go_enter Tryd.func52, Tryd.ntmps52
  go_wp2_with (at_make; refine wpList_make_full _ rfl _ _ 25 rfl w.heap.size 5 i0 (.int .u8 0) 1 Tryd.underlying25 hi hz0 hz1 .i64 .i64 _ _ k rfl rfl rfl rfl ?c2 ?c3 ?c4 ?_)
  case c2 => rw [hz2]; omega
  case c3 => unfold maxLen; omega
  case c4 => exact Nat.le_refl _
  intro w1 hown hgrow
  have hb1 : Below w.heap.size w w1 := (Below.refl _ _).grown hgrow (Nat.le_refl _) (by simp)
  have hg1 : w.heap.size ≤ w.heap.size := Nat.le_refl _
  clear hgrow
  have ho : w1.ownsRow w.heap.size 5 1 (.slice (some ⟨w.heap.size, 0, none⟩) k k) k (cellsOf (leB n 0 ++ List.replicate (k - (leB n 0).length) 0)) := by
    have e : (madeCells #[Value.int .u8 0] k).toList = cellsOf (List.replicate k 0) := by rw [← fill_start]; exact toList_madeCells_one _ _
    rw [e] at hown
    exact hown
  clear hown
  go_wp2
  go_loopw [6, 11] (fun _ i wr => ∃ j : Nat, j ≤ k ∧ i = .int .i64 j ∧ wr.ownsRow w.heap.size 5 1 (.slice (some ⟨w.heap.size, 0, none⟩) k k) k (cellsOf (leB n j ++ List.replicate (k - (leB n j).length) 0)) ∧ Below w.heap.size w wr)
    (fun _ i _ => k - (intOf i).toNat)
  case atStart => exact ⟨0, Nat.zero_le _, rfl, ho, hb1⟩
  case round =>
    obtain ⟨j, hj, rfl, hown, hb⟩ := hrel
    by_cases hlt : j < k
    · have hj0 : (0 : Int) ≤ (j : Int) := Int.natCast_nonneg _
      have hj1 : (j : Int) < (k : Int) := by omega
      obtain ⟨hcell, hfz⟩ := store_cell (leB_len n j) hlt hown
      have R := store_step (b := UInt8.ofNat (n / 256 ^ j)) (leB_len n j) hlt hg1 hown hb
      rw [← leB_snoc, leVal] at R
      clear hown
      go_wp2
      go_roundw
      case rel => exact ⟨j + 1, by omega, by go_num, R.1, R.2⟩
      case measure => simp [intOf]; omega
    · obtain rfl : j = k := by omega
      rw [leB_len, Nat.sub_self, List.replicate_zero, List.append_nil] at hown
      have hcv := run_convert_own (P := Tryd.prog) wr 25 9 5 _ _ _ _ Tryd.underlying25 Tryd.underlying5 Tryd.underlying9 hown
      clear hown
      go_wp2
      go_ret
      exact ⟨rfl, hb⟩

theorem orAdd64 (k x y : Nat) (hx : x < 2 ^ k) (h : x + 2 ^ k * y < 18446744073709551616) : bits .or .u64 (x : Int) (IntKind.u64.wrap ((y : Int) * 2 ^ k)) = ((x + 2 ^ k * y : Nat) : Int) := by
  have e : IntKind.u64.wrap ((y : Int) * 2 ^ k) = ((2 ^ k * y : Nat) : Int) := by
    have e2 : (y : Int) * 2 ^ k = ((2 ^ k * y : Nat) : Int) := by rw [Int.natCast_mul, Int.natCast_pow, Int.mul_comm]; rfl
    rw [e2, IntKind.wrap_u64]
    omega
  rw [e, u64_or_nat _ _ (by omega) (by omega), Nat.or_comm, nat_join k (2 ^ k * y) x (by rw [Nat.mul_mod_right]) hx]
  congr 1
  omega

set_option maxHeartbeats 1000000 in
theorem ln_impl (s : ByteArray) (w : World) (hs : s.size ≤ 8) :
    Calls Tryd.prog 62 #[.string s] w fun e w' => e = .returned (.int .u64 (leN s.data.toList : Int)) ∧ w = w' := by
  have hs1 : (s.size : Int) ≤ 8 := by omega
  have HS := Lib.hid hs
  clear hs
  go_enter Tryd.func62, Tryd.ntmps62
  go_wp2
  go_loopw [3, 4] (fun x i wr => ∃ j : Nat, j ≤ s.size ∧ i = .int .i64 j ∧ x = .int .u64 (leN (s.data.toList.take j) : Int) ∧ w = wr)
    (fun _ i _ => s.size - (intOf i).toNat)
  case atStart => exact ⟨0, Nat.zero_le _, rfl, rfl, rfl⟩
  case round =>
    obtain ⟨j, hj, rfl, rfl, rfl⟩ := hrel
    by_cases hlt : j < s.size
    · have j0 : (0 : Int) ≤ (j : Int) := by omega
      have j1 : (j : Int) < (s.size : Int) := by omega
      have hsn : leN (s.data.toList.take (j + 1)) = leN (s.data.toList.take j) + 2 ^ (8 * j) * (s[j]'hlt).toNat := by
        rw [take_snoc s j hlt, leN_snoc, List.length_take, len_data, Nat.min_eq_left hj, show (256 : Nat) = 2 ^ 8 from rfl, ← Nat.pow_mul]
      have hl1 := leN_lt (s.data.toList.take j)
      rw [List.length_take, len_data, Nat.min_eq_left hj, show (256 : Nat) = 2 ^ 8 from rfl, ← Nat.pow_mul] at hl1
      have hl2 := leN_lt (s.data.toList.take (j + 1))
      rw [List.length_take, len_data, Nat.min_eq_left (by omega), show (256 : Nat) = 2 ^ 8 from rfl, ← Nat.pow_mul] at hl2
      have hl3 : leN (s.data.toList.take (j + 1)) < 18446744073709551616 := Nat.lt_of_lt_of_le hl2 (Nat.pow_le_pow_right (by omega) (by have := HS.out; omega : 8 * (j + 1) ≤ 64))
      have hor := orAdd64 (8 * j) (leN (s.data.toList.take j)) (s[j]'hlt).toNat hl1 (by rw [← hsn]; exact hl3)
      have HSN := Lib.hid hsn
      clear hl1 hl2 hl3 hsn
      generalize leN (s.data.toList.take j) = X at *
      go_wp2
      go_roundw
      case rel => exact ⟨j + 1, by omega, by go_num, by rw [show IntKind.u64.wrap ((s[j]'hlt).toNat : Int) = ((s[j]'hlt).toNat : Int) by rw [IntKind.wrap_u64]; have := (s[j]'hlt).toNat_lt; omega, hor, ← HSN.out], trivial⟩
      case measure => simp [intOf]; omega
    · have hje : j = s.size := by omega
      have hq : (s.size : Int) ≤ (j : Int) := by omega
      rw [hje, take_all]
      clear hlt hj
      go_wp2
      go_ret
      exact ⟨rfl, rfl⟩

/-! ### A key's words, and back -/
theorem leN_split (l : List UInt8) (k : Nat) (h : k ≤ l.length) : leN l = leN (l.take k) + 256 ^ k * leN (l.drop k) := by
  conv => lhs; rw [← List.take_append_drop k l, leN_append, List.length_take, Nat.min_eq_left h]
theorem leN_word (l : List UInt8) (h : l.length = 32) (i : Nat) (hi : i < 4) : lw (leN l) i = leN ((l.drop (8 * i)).take 8) := by
  have e8 : (256 : Nat) ^ 8 = 18446744073709551616 := by decide
  have s0 := leN_split l 8 (by omega)
  have s1 := leN_split (l.drop 8) 8 (by rw [List.length_drop]; omega)
  have s2 := leN_split (l.drop 16) 8 (by rw [List.length_drop]; omega)
  have s3 := leN_split (l.drop 24) 8 (by rw [List.length_drop]; omega)
  have z : leN ((l.drop 24).drop 8) = 0 := by rw [List.drop_drop, List.drop_of_length_le (by omega)]; rfl
  rw [List.drop_drop] at s1 s2
  have b0 := leN_lt (l.take 8)
  have b1 := leN_lt ((l.drop 8).take 8)
  have b2 := leN_lt ((l.drop 16).take 8)
  have b3 := leN_lt ((l.drop 24).take 8)
  rw [List.length_take, Nat.min_eq_left (by omega)] at b0
  rw [List.length_take, List.length_drop, Nat.min_eq_left (by omega)] at b1 b2 b3
  rw [e8] at s0 s1 s2 s3 b0 b1 b2 b3
  rw [z] at s3
  simp only [Nat.reduceAdd] at s1 s2
  match i with
  | 0 => simp only [lw, Nat.mul_zero, List.drop_zero]; omega
  | 1 => simp only [lw, Nat.mul_one]; omega
  | 2 => simp only [lw, Nat.reduceMul]; omega
  | 3 => simp only [lw, Nat.reduceMul]; omega
theorem ext_list (B : ByteArray) (p k : Nat) : (B.extract p (p + k)).data.toList = (B.data.toList.drop p).take k := by
  rw [ByteArray.data_extract, Array.toList_extract, List.extract_eq_take_drop]
  congr 1
  omega

def encP (n : Nat) : Nat → List UInt8
  | 0 => []
  | j + 1 => encP n j ++ leB (lw n j) 8
theorem encP_len (n j : Nat) : (encP n j).length = 8 * j := by
  induction j with
  | zero => rfl
  | succ j ih => rw [encP, List.length_append, ih, leB_len]; omega
theorem encP_all (n : Nat) : encP n 4 = leB n 32 := leB_words n

theorem isKey_any (s : ByteArray) (w : World) (hs : s.size ≤ 9223372036854775807) :
    Calls Tryd.prog 37 #[.string s] w fun e w' => e = .returned (.bool (decide (s.size = 32))) ∧ w = w' := by
  have hd : ((s.size : Int) == 32) = decide (s.size = 32) := by
    by_cases h : s.size = 32
    · rw [h]; rfl
    · rw [decide_eq_false h]; exact beq_eq_false_iff_ne.2 (by omega)
  go_enter Tryd.func37, Tryd.ntmps37
  go_wp2
  go_ret
  exact ⟨rfl, rfl⟩

end Go.Proofs.YtgjnoleejbkddaaDoor

/- The contracts of littleNum, littleEndian, wordsOf, encoded. -/
import Derived.Test.YtcaepcfgeelojaaFld1
namespace Go.Proofs.Ytcaepcfgeelojaa
open Go.RowKit Go.My Go.Lib
set_option linter.unusedVariables false

theorem info_u8l : (Try.prog.info? 5).map (fun i => (i.zero, i.size, i.bytes)) = some (some (.int .u8 0), 1, 1) := by kernel_rfl
theorem leN_snoc (l : List UInt8) (b : UInt8) : leN (l ++ [b]) = leN l + 256 ^ l.length * b.toNat := by rw [leN_append]; simp [leN]
theorem leVal (n j : Nat) : ((UInt8.ofNat (n / 256 ^ j)).toNat : Int) = (n : Int) / 2 ^ (8 * j) % 256 := by
  have e : (256 : Nat) ^ j = 2 ^ (8 * j) := by rw [show (256 : Nat) = 2 ^ 8 from rfl, ← Nat.pow_mul]
  rw [e, UInt8.toNat_ofNat', Int.natCast_emod, Int.natCast_ediv, Int.natCast_pow]
  rfl

theorem orAdd64 (k x y : Nat) (hx : x < 2 ^ k) (h : x + 2 ^ k * y < 18446744073709551616) : bits .or .u64 (x : Int) (IntKind.u64.wrap ((y : Int) * 2 ^ k)) = ((x + 2 ^ k * y : Nat) : Int) := by
  have e : IntKind.u64.wrap ((y : Int) * 2 ^ k) = ((2 ^ k * y : Nat) : Int) := by
    have e2 : (y : Int) * 2 ^ k = ((2 ^ k * y : Nat) : Int) := by rw [Int.natCast_mul, Int.natCast_pow, Int.mul_comm]; rfl
    rw [e2, IntKind.wrap_u64]
    omega
  rw [e, u64_or_nat _ _ (by omega) (by omega), Nat.or_comm, nat_join k (2 ^ k * y) x (by rw [Nat.mul_mod_right]) hx]
  congr 1
  omega

/-! ### A key's words, and back -/
theorem leN_split (l : List UInt8) (k : Nat) (h : k ≤ l.length) : leN l = leN (l.take k) + 256 ^ k * leN (l.drop k) := by
  conv => lhs; rw [← List.take_append_drop k l, leN_append, List.length_take, Nat.min_eq_left h]
theorem leN_word (l : List UInt8) (h : l.length = 32) (i : Nat) (hi : i < 4) : lw (leN l) i = leN ((l.drop (8 * i)).take 8) := by
  have e8 : (256 : Nat) ^ 8 = 18446744073709551616 := by decide
  have s0 := leN_split l 8 (by omega)
  have s1 := leN_split (l.drop 8) 8 (by rw [List.length_drop]; omega)
  have s2 := leN_split (l.drop 16) 8 (by rw [List.length_drop]; omega)
  have s3 := leN_split (l.drop 24) 8 (by rw [List.length_drop]; omega)
  have z : leN ((l.drop 24).drop 8) = 0 := by rw [List.drop_drop, List.drop_of_length_le (by omega)]; rfl
  rw [List.drop_drop] at s1 s2
  have b0 := leN_lt (l.take 8)
  have b1 := leN_lt ((l.drop 8).take 8)
  have b2 := leN_lt ((l.drop 16).take 8)
  have b3 := leN_lt ((l.drop 24).take 8)
  rw [List.length_take, Nat.min_eq_left (by omega)] at b0
  rw [List.length_take, List.length_drop, Nat.min_eq_left (by omega)] at b1 b2 b3
  rw [e8] at s0 s1 s2 s3 b0 b1 b2 b3
  rw [z] at s3
  simp only [Nat.reduceAdd] at s1 s2
  match i with
  | 0 => simp only [lw, Nat.mul_zero, List.drop_zero]; omega
  | 1 => simp only [lw, Nat.mul_one]; omega
  | 2 => simp only [lw, Nat.reduceMul]; omega
  | 3 => simp only [lw, Nat.reduceMul]; omega
theorem ext_list (B : ByteArray) (p k : Nat) : (B.extract p (p + k)).data.toList = (B.data.toList.drop p).take k := by
  rw [ByteArray.data_extract, Array.toList_extract, List.extract_eq_take_drop]
  congr 1
  omega

def encP (n : Nat) : Nat → List UInt8
  | 0 => []
  | j + 1 => encP n j ++ leB (lw n j) 8
theorem encP_len (n j : Nat) : (encP n j).length = 8 * j := by
  induction j with
  | zero => rfl
  | succ j ih => rw [encP, List.length_append, ih, leB_len]; omega
theorem encP_all (n : Nat) : encP n 4 = leB n 32 := leB_words n

theorem isKey_any (s : ByteArray) (w : World) (hs : s.size ≤ 9223372036854775807) :
    Calls Try.prog 7 #[.string s] w fun e w' => e = .returned (.bool (decide (s.size = 32))) ∧ w = w' := by
  have hd : ((s.size : Int) == 32) = decide (s.size = 32) := by
    by_cases h : s.size = 32
    · rw [h]; rfl
    · rw [decide_eq_false h]; exact beq_eq_false_iff_ne.2 (by omega)
  go_enter Try.func7, Try.ntmps7
  go_wp2
  go_ret
  exact ⟨rfl, rfl⟩

end Go.Proofs.Ytcaepcfgeelojaa

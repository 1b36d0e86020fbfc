/- The check sum of frames: plain words, over the integers as the program spells them. Nothing of the program is named. -/
import Derived.Test.YtepefbfmjjnamaaMathG
import Derived.Test.YtepefbfmjjnamaaMathS
namespace Go.My
open Go.RowKit
set_option linter.unusedVariables false

/-- One bit of the check sum. -/
def crcS (c : Int) : Int := if c % 2 = 1 then xor32 (c / 2) 3988292384 else c / 2
def crcN (c : Int) : Nat → Int
  | 0 => c
  | n + 1 => crcS (crcN c n)
def crcB (c : Int) (b : UInt8) : Int := crcN (xor32 c (b.toNat : Int)) 8
def crcF (l : List UInt8) : Int := l.foldl crcB 4294967295
/-- The check sum as a number. -/
def crcV (l : List UInt8) : Nat := (not32 (crcF l)).toNat
def W32 (c : Int) : Prop := 0 ≤ c ∧ c ≤ 4294967295
theorem crcS_odd {c : Int} (h : c % 2 = 1) : crcS c = xor32 (c / 2) 3988292384 := if_pos h
theorem crcS_even {c : Int} (h : c % 2 = 0) : crcS c = c / 2 := if_neg (by omega)
theorem crcS_bd {c : Int} (h : W32 c) : W32 (crcS c) := by
  unfold crcS
  split
  · exact xor32_bd _ _
  · unfold W32 at *; omega
theorem crcN_bd {c : Int} (h : W32 c) : ∀ n, W32 (crcN c n)
  | 0 => h
  | n + 1 => crcS_bd (crcN_bd h n)
theorem crcB_bd (c : Int) (b : UInt8) : W32 (crcB c b) := crcN_bd (xor32_bd _ _) 8
theorem crcF_snoc (l : List UInt8) (b : UInt8) : crcF (l ++ [b]) = crcB (crcF l) b := by simp [crcF]
theorem crcF_bd (l : List UInt8) : W32 (crcF l) := by
  have key : ∀ (l : List UInt8) (c : Int), W32 c → W32 (l.foldl crcB c) := by
    intro l
    induction l with
    | nil => intro c h; exact h
    | cons b l ih => intro c _; exact ih _ (crcB_bd c b)
  exact key l _ ⟨by decide, by decide⟩
theorem not32_bd (a : Int) : W32 (not32 a) := bits_u32 .xor _ _ (.inr (.inr rfl))
theorem crcV_int (l : List UInt8) : (crcV l : Int) = not32 (crcF l) := by
  have := not32_bd (crcF l)
  unfold W32 at this
  unfold crcV
  omega
theorem crcV_lt (l : List UInt8) : crcV l < 4294967296 := by
  have := not32_bd (crcF l)
  unfold W32 at this
  unfold crcV
  omega
theorem u32_and1 (n : Int) (h : W32 n) : bits .and .u32 n 1 = n % 2 := by
  have h1 : (BitVec.ofInt 32 1).toNat = 2 ^ 1 - 1 := by decide
  have key : (BitVec.ofInt 32 n &&& BitVec.ofInt 32 1).toNat = (n % ((2 ^ 32 : Nat) : Int)).toNat % 2 ^ 1 := by
    rw [BitVec.toNat_and, BitVec.toNat_ofInt, h1, Nat.and_two_pow_sub_one_eq_mod]
  show IntKind.u32.wrap ((BitVec.ofInt 32 n &&& BitVec.ofInt 32 1).toNat : Nat) = n % 2
  rw [key, IntKind.wrap_u32]
  unfold W32 at h
  omega
theorem xor32_zero (n : Int) (h : W32 n) : xor32 n 0 = n := by
  have key : (BitVec.ofInt 32 n ^^^ BitVec.ofInt 32 0).toNat = (n % ((2 ^ 32 : Nat) : Int)).toNat := by
    rw [show BitVec.ofInt 32 0 = 0#32 from rfl, BitVec.xor_zero, BitVec.toNat_ofInt]
  show IntKind.u32.wrap ((BitVec.ofInt 32 n ^^^ BitVec.ofInt 32 0).toNat : Nat) = n
  rw [key, IntKind.wrap_u32]
  unfold W32 at h
  omega
/-- A frame. -/
def frmL (l : List UInt8) : List UInt8 := beL l.length 4 ++ leB (crcV l) 4 ++ l
theorem beL_len (n k : Nat) : (beL n k).length = k := beT_len _ _ _
theorem frmL_len (l : List UInt8) : (frmL l).length = 8 + l.length := by
  unfold frmL
  rw [List.length_append, List.length_append, beL_len, leB_len]
def frmB (s : ByteArray) : ByteArray := if s.size ≤ 100000 then str (frmL s.data.toList) else ByteArray.mk #[]

end Go.My

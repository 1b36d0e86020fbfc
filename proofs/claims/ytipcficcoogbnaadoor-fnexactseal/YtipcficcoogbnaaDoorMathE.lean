/- Words out of bytes: the program's, filled byte by byte, and the specification's, laid together, are one. -/
import Derived.Test.YtipcficcoogbnaaDoorMathD
namespace Go.Proofs.YtipcficcoogbnaaDoor
open Go.RowKit Go.My Go.Lib
set_option linter.unusedVariables false

theorem or_u32 (k x y : Nat) (hx : x % 2 ^ k = 0) (hy : y < 2 ^ k) (h : x + y < 4294967296) : bits .or .u32 (x : Int) (y : Int) = ((x + y : Nat) : Int) := by
  have o : ∀ a : Nat, a < 4294967296 → (BitVec.ofInt 32 (a : Int)).toNat = a := fun a ha => by rw [BitVec.ofInt_natCast, BitVec.toNat_ofNat]; exact Nat.mod_eq_of_lt (by omega)
  show IntKind.u32.wrap ((BitVec.ofInt 32 (x : Int) ||| BitVec.ofInt 32 (y : Int)).toNat : Int) = _
  rw [BitVec.toNat_or, o x (by omega), o y (by omega), nat_join k x y hx hy, IntKind.wrap_u32]
  omega

/-- Four bytes as a number. -/
def num4 (a b c d : Nat) : Nat := a * 16777216 + b * 65536 + c * 256 + d
theorem or4_num (a b c d : Nat) (ha : a < 256) (hb : b < 256) (hc : c < 256) (hd : d < 256) :
    bits .or .u32 (bits .or .u32 (bits .or .u32 (IntKind.u32.wrap (IntKind.u32.wrap (a : Int) * 16777216)) (IntKind.u32.wrap (IntKind.u32.wrap (b : Int) * 65536))) (IntKind.u32.wrap (IntKind.u32.wrap (c : Int) * 256))) (IntKind.u32.wrap (d : Int)) = (num4 a b c d : Int) := by
  have wr : ∀ x : Int, IntKind.u32.wrap x = x % 4294967296 := fun x => IntKind.wrap_u32 x
  simp only [wr]
  rw [show (a : Int) % 4294967296 * 16777216 % 4294967296 = ((a * 16777216 : Nat) : Int) by omega, show (b : Int) % 4294967296 * 65536 % 4294967296 = ((b * 65536 : Nat) : Int) by omega, show (c : Int) % 4294967296 * 256 % 4294967296 = ((c * 256 : Nat) : Int) by omega, show (d : Int) % 4294967296 = (d : Int) by omega]
  rw [or_u32 24 _ _ (by omega) (by omega) (by omega), or_u32 16 _ _ (by omega) (by omega) (by omega), or_u32 8 _ _ (by omega) (by omega) (by omega)]
  rfl
theorem fillW_num (bk : Nat → Int) (q : Nat) (a b c d : Nat) (h0 : bk (4 * q) = a) (h1 : bk (4 * q + 1) = b) (h2 : bk (4 * q + 2) = c) (h3 : bk (4 * q + 3) = d) (ha : a < 256) (hb : b < 256) (hc : c < 256) (hd : d < 256) : fillW bk q 4 = (num4 a b c d : Int) := by
  have f1 : fillW bk q 1 = ((0 + a : Nat) : Int) := by
    show bits .or .u32 (0 * 256 % 4294967296) (bk (4 * q + 0)) = _
    rw [Nat.add_zero, h0]; exact or_u32 8 0 a rfl (by omega) (by omega)
  have f2 : fillW bk q 2 = ((a * 256 + b : Nat) : Int) := by
    show bits .or .u32 (fillW bk q 1 * 256 % 4294967296) (bk (4 * q + 1)) = _
    rw [f1, h1, show ((0 + a : Nat) : Int) * 256 % 4294967296 = ((a * 256 : Nat) : Int) by omega]; exact or_u32 8 _ _ (by omega) (by omega) (by omega)
  have f3 : fillW bk q 3 = (((a * 256 + b) * 256 + c : Nat) : Int) := by
    show bits .or .u32 (fillW bk q 2 * 256 % 4294967296) (bk (4 * q + 2)) = _
    rw [f2, h2, show ((a * 256 + b : Nat) : Int) * 256 % 4294967296 = (((a * 256 + b) * 256 : Nat) : Int) by omega]; exact or_u32 8 _ _ (by omega) (by omega) (by omega)
  show bits .or .u32 (fillW bk q 3 * 256 % 4294967296) (bk (4 * q + 3)) = _
  rw [f3, h3, show (((a * 256 + b) * 256 + c : Nat) : Int) * 256 % 4294967296 = ((((a * 256 + b) * 256 + c) * 256 : Nat) : Int) by omega, or_u32 8 _ _ (by omega) (by omega) (by omega)]
  unfold num4
  omega

theorem schW_congr (m m' : Nat → Int) (h : ∀ q, q < 16 → m q = m' q) (i : Nat) : schW m i = schW m' i := by
  induction i using Nat.strongRecOn with
  | ind i ih =>
    by_cases hi : i < 16
    · rw [schW_lo _ _ hi, schW_lo _ _ hi, h i hi]
    · rw [schW_hi m i (by omega), schW_hi m' i (by omega), ih (i - 16) (by omega), ih (i - 15) (by omega), ih (i - 7) (by omega), ih (i - 2) (by omega)]

/-- A block's bytes, as the digest holds them. -/
def blkF (l : List UInt8) : Nat → Int := fun j => ((l.getD j 0).toNat : Int)

/-- A block of 64 bytes goes into a digest whose block is empty. -/
theorem dputs_part (S : DS) (hu : S.u = 0) (l : List UInt8) (n : Nat) (hn : n ≤ l.length) (h64 : n < 64) : (dputs S (l.take n)).st = S.st ∧ (dputs S (l.take n)).u = n ∧ ∀ j, j < n → (dputs S (l.take n)).bk j = blkF l j := by
  induction n with
  | zero => exact ⟨rfl, hu, fun j hj => absurd hj (Nat.not_lt_zero j)⟩
  | succ n ih =>
    obtain ⟨h1, h2, h3⟩ := ih (by omega) (by omega)
    have hb : n < l.length := by omega
    rw [List.take_succ_eq_append_getElem hb, dputs_snoc, dstep_put _ _ (by rw [h2]; omega)]
    refine ⟨h1, by show (dputs S (l.take n)).u + 1 = n + 1; rw [h2], ?_⟩
    intro j hj
    show bput (dputs S (l.take n)).bk (dputs S (l.take n)).u (l[n].toNat : Int) j = _
    unfold bput
    rw [h2]
    by_cases e : j = n
    · rw [if_pos e, e]; unfold blkF; rw [List.getD_eq_getElem?_getD, List.getElem?_eq_getElem hb]; rfl
    · rw [if_neg e, h3 j (by omega)]
theorem dputs_block (S : DS) (hu : S.u = 0) (l : List UInt8) (hl : l.length = 64) : (dputs S l).u = 0 ∧ (dputs S l).st = compF S.st (schW (prtW (blkF l) 64)) := by
  obtain ⟨h1, h2, h3⟩ := dputs_part S hu l 63 (by omega) (by omega)
  have hb : 63 < l.length := by omega
  have e : dputs S l = dstep (dputs S (l.take 63)) l[63] := by
    rw [← dputs_snoc, ← List.take_succ_eq_append_getElem hb, List.take_of_length_le (by omega)]
  rw [e, dstep_mix _ _ (by rw [h2])]
  refine ⟨rfl, ?_⟩
  show compF (dputs S (l.take 63)).st _ = _
  rw [h1]
  congr 1
  funext i
  apply schW_congr
  intro q hq
  unfold prtW
  rw [show min 4 (64 - 4 * q) = 4 by omega]
  have hk : ∀ j, j < 64 → bput (dputs S (l.take 63)).bk (dputs S (l.take 63)).u (l[63].toNat : Int) j = blkF l j := by
    intro j hj
    unfold bput
    rw [h2]
    by_cases e : j = 63
    · rw [if_pos e, e]; unfold blkF; rw [List.getD_eq_getElem?_getD, List.getElem?_eq_getElem hb]; rfl
    · rw [if_neg e, h3 j (by omega)]
  simp only [fillW, Nat.add_zero]
  rw [hk (4 * q) (by omega), hk (4 * q + 1) (by omega), hk (4 * q + 2) (by omega), hk (4 * q + 3) (by omega)]

end Go.Proofs.YtipcficcoogbnaaDoor

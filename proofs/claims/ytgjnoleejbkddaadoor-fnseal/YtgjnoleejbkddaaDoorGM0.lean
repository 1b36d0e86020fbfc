import Derived.WalkKit
import Derived.Lib.Hide
import Derived.Orders
import Derived.Below
import Derived.Laws.Tables
import Derived.Deep.MidRow
import Derived.Test.YtgjnoleejbkddaaDoorRows
import Derived.ProofKit
import Derived.Deep.QuietTactic
import Derived.BigQuiet
import Derived.StillTailTactics
import Derived.Deep.Cut
import Derived.WalkSpells
import Derived.WalkLawsBesides
/- Plain facts on lists of bytes: hexadecimal digits. Nothing of the program is named. -/
namespace Go.My
open Go.RowKit
set_option linter.unusedVariables false

/-- The cells of a row of bytes. -/
def cellsOf (l : List UInt8) : List Value := l.map (fun b => Value.int .u8 (b.toNat : Int))
/-- A list of bytes as a string. -/
def str (l : List UInt8) : ByteArray := ⟨l.toArray⟩

theorem cellsOf_append (a b : List UInt8) : cellsOf (a ++ b) = cellsOf a ++ cellsOf b := by simp [cellsOf]
theorem cellsOf_length (a : List UInt8) : (cellsOf a).length = a.length := by simp [cellsOf]
theorem str_size (a : List UInt8) : (str a).size = a.length := by simp [str, ByteArray.size]
theorem str_list (a : List UInt8) : (str a).data.toList = a := by simp [str]
theorem str_of (s : ByteArray) : str s.data.toList = s := by cases s; simp [str]
theorem str_app (a b : List UInt8) : str a ++ str b = str (a ++ b) := by
  apply ByteArray.ext
  rw [ByteArray.data_append]
  simp [str]
theorem str_inj {a b : List UInt8} (h : str a = str b) : a = b := by
  have := congrArg (fun s : ByteArray => s.data.toList) h
  simpa [str] using this

theorem take_snoc (s : ByteArray) (k : Nat) (h : k < s.size) : s.data.toList.take (k + 1) = s.data.toList.take k ++ [s[k]] := by
  rw [List.take_succ_eq_append_getElem (by simpa using h)]; rfl

theorem len_data (s : ByteArray) : s.data.toList.length = s.size := by rw [Array.length_toList]; rfl
theorem take_all (s : ByteArray) : s.data.toList.take s.size = s.data.toList := List.take_of_length_le (by rw [Array.length_toList]; exact Nat.le_refl _)

def hexTab : List UInt8 := [48, 49, 50, 51, 52, 53, 54, 55, 56, 57, 97, 98, 99, 100, 101, 102]
def hexD (n : Nat) : UInt8 := hexTab.getD n 0
def hexL (l : List UInt8) : List UInt8 := l.flatMap fun b => [hexD (b.toNat / 16), hexD (b.toNat % 16)]
theorem hexL_snoc (l : List UInt8) (b : UInt8) : hexL (l ++ [b]) = hexL l ++ [hexD (b.toNat / 16), hexD (b.toNat % 16)] := by simp [hexL]
theorem hexL_length (l : List UInt8) : (hexL l).length = 2 * l.length := by
  induction l with
  | nil => rfl
  | cons a l ih => simp [hexL] at *; omega

theorem and15 (b : UInt8) : bits .and .u8 (b.toNat : Int) 15 = (b.toNat : Int) % 16 := by
  have h := u8_and_nat b.toNat 15 b.toNat_lt (by omega)
  rw [nat_mask4] at h
  simpa using h
theorem hexTab_get (n : Nat) (h : n < 16) (h' : n < (⟨#[48, 49, 50, 51, 52, 53, 54, 55, 56, 57, 97, 98, 99, 100, 101, 102]⟩ : ByteArray).size) : (⟨#[48, 49, 50, 51, 52, 53, 54, 55, 56, 57, 97, 98, 99, 100, 101, 102]⟩ : ByteArray)[n] = hexD n := by
  rcases n with _ | _ | _ | _ | _ | _ | _ | _ | _ | _ | _ | _ | _ | _ | _ | _ | n <;> first | rfl | omega
theorem toNat_div16 (b : UInt8) : ((b.toNat : Int) / 16).toNat = b.toNat / 16 := by omega
theorem toNat_mod16 (b : UInt8) : ((b.toNat : Int) % 16).toNat = b.toNat % 16 := by omega

/-- The exclusive or, byte by byte; nothing for lists of different lengths. -/
def xorL (a b : List UInt8) : List UInt8 := if a.length = b.length then List.zipWith (· ^^^ ·) a b else []
theorem xorL_ne {a b : List UInt8} (h : ¬ a.length = b.length) : xorL a b = [] := if_neg h
theorem xorL_eq {a b : List UInt8} (h : a.length = b.length) : xorL a b = List.zipWith (· ^^^ ·) a b := if_pos h
theorem zip_snoc (a b : ByteArray) (k : Nat) (ha : k < a.size) (hb : k < b.size) :
    List.zipWith (· ^^^ ·) (a.data.toList.take (k + 1)) (b.data.toList.take (k + 1)) = List.zipWith (· ^^^ ·) (a.data.toList.take k) (b.data.toList.take k) ++ [a[k] ^^^ b[k]] := by
  rw [take_snoc a k ha, take_snoc b k hb, List.zipWith_append (by rw [List.length_take, List.length_take, len_data, len_data]; omega)]
  rfl
theorem xor_u8 (a b : UInt8) : bits .xor .u8 (a.toNat : Int) (b.toNat : Int) = ((a ^^^ b).toNat : Int) := by
  rw [u8_xor_nat _ _ a.toNat_lt b.toNat_lt, UInt8.toNat_xor]

/-- What a filled row holds when its first bytes are set: the bytes, then noughts. -/
theorem fill_set (l : List UInt8) (b : UInt8) (n : Nat) (h : l.length < n) : (cellsOf (l ++ List.replicate (n - l.length) 0)).set l.length (.int .u8 (b.toNat : Int)) = cellsOf ((l ++ [b]) ++ List.replicate (n - (l ++ [b]).length) 0) := by
  obtain ⟨m, hm⟩ : ∃ m, n - l.length = m + 1 := ⟨n - l.length - 1, by omega⟩
  have h2 : n - (l ++ [b]).length = m := by simp; omega
  rw [hm, h2]
  simp [cellsOf, List.replicate_succ]
theorem fill_start (n : Nat) : List.replicate n (Value.int .u8 0) = cellsOf (List.replicate n 0) := by simp [cellsOf]

/-- 2^64, behind a name. -/
def U64 : Nat := 18446744073709551616
/-- Byte j of the big-endian encoding of n in k bytes. -/
def beAt (n k j : Nat) : UInt8 := UInt8.ofNat (n / 256 ^ (k - 1 - j))
def beT (n k j : Nat) : List UInt8 := (List.range j).map (beAt n k)
def beL (n k : Nat) : List UInt8 := beT n k k
theorem beT_len (n k j : Nat) : (beT n k j).length = j := by simp [beT]
theorem beT_snoc (n k j : Nat) : beT n k (j + 1) = beT n k j ++ [beAt n k j] := by simp [beT, List.range_succ]

theorem beAt_val (n k j : Nat) : ((beAt n k j).toNat : Int) = (n : Int) / 2 ^ (8 * (k - 1 - j)) % 256 := by
  have e : (256 : Nat) ^ (k - 1 - j) = 2 ^ (8 * (k - 1 - j)) := by rw [show (256 : Nat) = 2 ^ 8 from rfl, ← Nat.pow_mul]
  unfold beAt
  rw [e, UInt8.toNat_ofNat', Int.natCast_emod, Int.natCast_ediv, Int.natCast_pow]
  rfl

/-- A store into a row of the call's own that is filled from the left: noughts behind. -/
theorem store_step {w wr : World} {e g n j : Nat} {l : List UInt8} {b : UInt8} (hl : l.length = j) (hj : j < n) (hg : w.heap.size ≤ g)
    (hown : wr.ownsRow w.heap.size e 1 (.slice (some ⟨g, 0, none⟩) n n) n (cellsOf (l ++ List.replicate (n - l.length) 0))) (hb : Below w.heap.size w wr) :
    (wr.setCell ⟨g, j, none⟩ (.int .u8 (b.toNat : Int))).ownsRow w.heap.size e 1 (.slice (some ⟨g, 0, none⟩) n n) n (cellsOf ((l ++ [b]) ++ List.replicate (n - (l ++ [b]).length) 0)) ∧
    Below w.heap.size w (wr.setCell ⟨g, j, none⟩ (.int .u8 (b.toNat : Int))) := by
  have h := (hown.stored j (.int .u8 (b.toNat : Int))).1
  have hf := fill_set l b n (by omega)
  subst hl
  rw [hf] at h
  exact ⟨h, hb.setCell (by exact hg) _⟩
/-- The cell that such a store meets. -/
theorem store_cell {wr : World} {B e g n j : Nat} {l : List UInt8} (hl : l.length = j) (hj : j < n)
    (hown : wr.ownsRow B e 1 (.slice (some ⟨g, 0, none⟩) n n) n (cellsOf (l ++ List.replicate (n - l.length) 0))) : wr.cell? ⟨g, j, none⟩ = some (.int .u8 0) ∧ wr.frozen? ⟨g, j, none⟩ = false := by
  refine ⟨?_, hown.frozenAt j⟩
  rw [hown.cellAt j (by omega)]
  subst hl
  obtain ⟨m, hm⟩ : ∃ m, n - l.length = m + 1 := ⟨n - l.length - 1, by omega⟩
  rw [hm]
  simp [cellsOf, List.replicate_succ]
/-- An append to a row of the call's own, one block laid ahead of it. -/
theorem append_step {w wr w1 w2 : World} {e n : Nat} {l news : List UInt8} {v v' : Value} {m : Nat} (hown : wr.ownsRow w.heap.size e 1 v n (cellsOf l)) (hb : Below w.heap.size w w1) (hown2 : w2.ownsRow w.heap.size e 1 v' (n + m) (cellsOf l ++ cellsOf news))
    (hgrow : w1.grownBy w2 v.ownBlock) : w2.ownsRow w.heap.size e 1 v' (n + m) (cellsOf (l ++ news)) ∧ Below w.heap.size w w2 := by
  refine ⟨by rw [cellsOf_append]; exact hown2, hb.grown hgrow hb.size ?_⟩
  intro j hj
  exact (hown.lt j hj).1

/-- NumBytes: n in k bytes, if k is in 1..7 and n fits; else nothing. -/
def numB (n k : Int) : List UInt8 := if 1 ≤ k ∧ k ≤ 7 ∧ 0 ≤ n ∧ n < 2 ^ (8 * k.toNat) then beL n.toNat k.toNat else []
theorem numB_no {n k : Int} (h : ¬ (1 ≤ k ∧ k ≤ 7 ∧ 0 ≤ n)) : numB n k = [] := if_neg (fun c => h ⟨c.1, c.2.1, c.2.2.1⟩)
theorem numB_big {n k : Int} (h : ¬ n < 2 ^ (8 * k.toNat)) : numB n k = [] := if_neg (fun c => h c.2.2.2)
theorem numB_yes {n k : Int} (h : 1 ≤ k ∧ k ≤ 7 ∧ 0 ≤ n ∧ n < 2 ^ (8 * k.toNat)) : numB n k = beL n.toNat k.toNat := if_pos h

theorem wrap_pow (K : Nat) (h : K ≤ 7) : wrap64 (wrap64 (2 ^ (8 * K)) - 1) = 2 ^ (8 * K) - 1 := by
  rcases K with _ | _ | _ | _ | _ | _ | _ | _ | K <;> first | omega | decide +kernel

/-- The number of a list of bytes, the highest first. -/
def numOf (l : List UInt8) : Nat := l.foldl (fun n b => n * 256 + b.toNat) 0
theorem numOf_snoc (l : List UInt8) (b : UInt8) : numOf (l ++ [b]) = numOf l * 256 + b.toNat := by simp [numOf]
theorem foldl_lt (l : List UInt8) : ∀ a : Nat, l.foldl (fun n b => n * 256 + b.toNat) a < (a + 1) * 256 ^ l.length := by
  induction l with
  | nil => intro a; simp
  | cons b l ih =>
    intro a
    have h := ih (a * 256 + b.toNat)
    have hb := b.toNat_lt
    simp only [List.foldl_cons, List.length_cons, Nat.pow_succ]
    refine Nat.lt_of_lt_of_le h ?_
    rw [Nat.mul_comm (256 ^ l.length) 256, ← Nat.mul_assoc]
    exact Nat.mul_le_mul_right _ (by omega)
theorem numOf_lt (l : List UInt8) : numOf l < 256 ^ l.length := by have := foldl_lt l 0; simpa [numOf] using this
theorem pow7 (k : Nat) (h : k ≤ 7) : 256 ^ k ≤ 72057594037927936 := by
  have := Nat.pow_le_pow_right (n := 256) (by omega) h
  simpa using this
theorem pow6 (k : Nat) (h : k ≤ 6) : 256 ^ k ≤ 281474976710656 := by
  have := Nat.pow_le_pow_right (n := 256) (by omega) h
  simpa using this
theorem or_byte (n : Nat) (b : UInt8) (h : n ≤ 281474976710656) : bits .or .i64 ((n : Int) * 256) (b.toNat : Int) = (n : Int) * 256 + (b.toNat : Int) := by
  have hb := b.toNat_lt
  have e : (n : Int) * 256 = ((n * 256 : Nat) : Int) := by omega
  rw [e]
  show IntKind.i64.wrap ((BitVec.ofInt 64 ((n * 256 : Nat) : Int) ||| BitVec.ofInt 64 (b.toNat : Int)).toNat : Int) = _
  rw [BitVec.toNat_or, ofInt_u64 (n * 256) (by omega), ofInt_u64 b.toNat (by omega), nat_join 8 (n * 256) b.toNat (by omega) (by omega), IntKind.wrap_i64]
  omega

theorem byte_snoc (l : List UInt8) (y : Int) (h0 : 0 ≤ y) (h1 : y < 256) : cellsOf l ++ [Value.int .u8 y] = cellsOf (l ++ [UInt8.ofNat y.toNat]) := by
  rw [cellsOf_append]
  have : ((UInt8.ofNat y.toNat).toNat : Int) = y := by rw [UInt8.toNat_ofNat', Nat.mod_eq_of_lt (by omega)]; omega
  simp only [cellsOf, List.map_cons, List.map_nil, this]

theorem or_u64_nat (a b : Int) : ∃ m : Nat, m < U64 ∧ bits .or .u64 a b = (m : Int) := by
  have h : bits .or .u64 a b = IntKind.u64.wrap ((BitVec.ofInt 64 a ||| BitVec.ofInt 64 b).toNat : Int) := rfl
  rw [h, IntKind.wrap_u64]
  have := (BitVec.ofInt 64 a ||| BitVec.ofInt 64 b).isLt
  exact ⟨(BitVec.ofInt 64 a ||| BitVec.ofInt 64 b).toNat, by unfold U64; omega, by omega⟩

/-- A slice of integers that came in: nil, or a row of 'cap' cells, the numbers 'zs', each fitting its kind. -/
def IsRow (k : IntKind) (w : World) (a : Option Addr) (len cap : Nat) (zs : List Int) : Prop :=
  (a = none ∧ len = 0 ∧ cap = 0 ∧ zs = []) ∨
  ∃ x, a = some x ∧ len ≤ cap ∧ cap ≤ maxLen ∧ zs.length = cap ∧ (∀ i, i < zs.length → w.cell? (x.add i) = some (.int k (zs.getD i 0))) ∧ ∀ n ∈ zs, (Lit.int k n).wf = true

abbrev hexTabB : ByteArray := ⟨#[48, 49, 50, 51, 52, 53, 54, 55, 56, 57, 97, 98, 99, 100, 101, 102]⟩

/-- 'string(b)' of a slice that the call owns: nil or not. -/
theorem run_convert_own {P : Program} (w : World) (src dst e : TypeId) (base n : Nat) (v : Value) (l : List UInt8) (hs : P.underlying src = some (.slice e)) (he : P.underlying e = some (.int .u8)) (hd : P.underlying dst = some .string)
    (hown : w.ownsRow base e 1 v n (cellsOf l)) : (convert src dst v).run P w = .ok (.string (str l)) w := by
  have hl : l.length = n := by have := hown.1; simpa [cellsOf] using this
  rcases hown.2 with ⟨rfl, h0⟩ | ⟨g, cap, cur, rfl, hb, hg, hnc, hcm, hcs, htake⟩
  · obtain rfl : l = [] := List.eq_nil_of_length_eq_zero (by omega)
    rw [run_convert_bytes_string w src dst e none 0 0 hs he hd]
    rfl
  · subst hl
    refine run_convert_bytes_back w src dst e ⟨g, 0, none⟩ cap l hs he hd ?_
    intro j hj
    have := hown.cells (g := g) rfl j (.int .u8 (l[j].toNat : Int)) (by simp [cellsOf, hj])
    exact this

end Go.My

/- Plain words of SHA-256, over the integers as the program spells them. Nothing of the program is named. -/
namespace Go.My
open Go.RowKit
set_option linter.unusedVariables false

def xor32 (a b : Int) : Int := bits .xor .u32 a b
def and32 (a b : Int) : Int := bits .and .u32 a b
def add32 (a b : Int) : Int := IntKind.u32.wrap (a + b)
theorem add32_mod (a b : Int) : add32 a b = (a + b) % 4294967296 := IntKind.wrap_u32 _
def rot (x : Int) (k : Nat) : Int := bits .or .u32 (x * 2 ^ k % 4294967296) (x / 2 ^ (32 - k))
theorem bits_u32 (op : BinOp) (a b : Int) (h : op = .and ∨ op = .or ∨ op = .xor) : 0 ≤ bits op .u32 a b ∧ bits op .u32 a b ≤ 4294967295 := by
  have key : ∀ v : BitVec 32, 0 ≤ IntKind.u32.wrap (v.toNat : Int) ∧ IntKind.u32.wrap (v.toNat : Int) ≤ 4294967295 := by
    intro v; rw [IntKind.wrap_u32]; omega
  rcases h with rfl | rfl | rfl
  · exact key (BitVec.ofInt 32 a &&& BitVec.ofInt 32 b)
  · exact key (BitVec.ofInt 32 a ||| BitVec.ofInt 32 b)
  · exact key (BitVec.ofInt 32 a ^^^ BitVec.ofInt 32 b)
theorem xor32_bd (a b : Int) : 0 ≤ xor32 a b ∧ xor32 a b ≤ 4294967295 := bits_u32 .xor a b (.inr (.inr rfl))
theorem and32_bd (a b : Int) : 0 ≤ and32 a b ∧ and32 a b ≤ 4294967295 := bits_u32 .and a b (.inl rfl)
theorem rot_bd (x : Int) (k : Nat) : 0 ≤ rot x k ∧ rot x k ≤ 4294967295 := bits_u32 .or _ _ (.inr (.inl rfl))
theorem add32_bd (a b : Int) : 0 ≤ add32 a b ∧ add32 a b ≤ 4294967295 := by rw [add32_mod]; omega

theorem mask31 (r k : Nat) (h1 : 1 ≤ k) (h2 : k ≤ 31) (h : r + k = 32) : bits BinOp.and IntKind.u64 (IntKind.u64.wrap (-(r : Int))) 31 = (k : Int) := by
  have e : IntKind.u64.wrap (-(r : Int)) = ((18446744073709551616 - r : Nat) : Int) := by rw [IntKind.wrap_u64]; omega
  rw [e]
  have := u64_and_nat (18446744073709551616 - r) 31 (by omega) (by omega)
  rw [nat_mask5] at this
  have e2 : ((31 : Nat) : Int) = 31 := rfl
  rw [e2] at this
  rw [this]
  omega

/-- 'a[i]' of an array of integers by value. -/
theorem run_index_arr {P : Program} (w : World) (t e : TypeId) (n : Nat) (cs : Array Value) (k kk : IntKind) (i : Nat) (v : Value) (h : P.underlying t = some (.array n e)) (he : P.underlying e = some (.int kk))
    (hs : (P.info? e).map (·.size) = some 1) (hi : i < n) (hv : cs[i]? = some v) : (Instr.index t (.agg cs) (.int k (i : Int))).run P w = .ok v w := by
  obtain ⟨inf, hinf, hsz⟩ := Option.map_eq_some_iff.1 hs
  have h1 : 0 ≤ (i : Int) ∧ (i : Int) < (n : Int) := by omega
  simp [Instr.index, run_underlying h, asIntOf, go_sem, sizeOf, typeInfo, hinf, hsz, part, isAgg, run_underlying he]
  rw [if_pos (by omega)]
  simp [hv, go_sem]

/-! ### Rows of words -/
def wordsL (n : Nat) (f : Nat → Int) : List Value := (List.range n).map fun q => Value.int .u32 (f q)
def wordsA (n : Nat) (f : Nat → Int) : Array Value := (wordsL n f).toArray
theorem wordsL_len (n : Nat) (f : Nat → Int) : (wordsL n f).length = n := by simp [wordsL]
theorem wordsA_size (n : Nat) (f : Nat → Int) : (wordsA n f).size = n := by simp [wordsA, wordsL]
theorem wordsL_get (n : Nat) (f : Nat → Int) (q : Nat) (h : q < n) : (wordsL n f)[q]? = some (.int .u32 (f q)) := by simp [wordsL, h]
theorem wordsA_get (n : Nat) (f : Nat → Int) (q : Nat) (h : q < n) : (wordsA n f)[q]? = some (.int .u32 (f q)) := by simp [wordsA, wordsL, h]
theorem wordsA_set (n : Nat) (f g : Nat → Int) (q : Nat) (hq : q < n) (x : Int) (hx : g q = x) (ho : ∀ j, j < n → j ≠ q → g j = f j) : (wordsA n f).setIfInBounds q (.int .u32 x) = wordsA n g := by
  apply Array.ext_getElem?
  intro j
  by_cases hj : j < n
  · rw [wordsA_get n g j hj, Array.getElem?_setIfInBounds]
    by_cases e : q = j
    · subst e
      rw [if_pos rfl, if_pos (by rw [wordsA_size]; exact hq), hx]
    · rw [if_neg e, wordsA_get n f j hj, ho j hj (fun c => e c.symm)]
  · rw [Array.getElem?_eq_none (by rw [Array.size_setIfInBounds, wordsA_size]; omega), Array.getElem?_eq_none (by rw [wordsA_size]; omega)]
theorem wordsA_congr (n : Nat) {f g : Nat → Int} (h : ∀ q, q < n → f q = g q) : wordsA n f = wordsA n g := by
  unfold wordsA wordsL
  rw [List.map_congr_left (fun q hq => by rw [h q (List.mem_range.1 hq)])]

/-! ### The schedule -/
/-- A word that is filled byte by byte, the highest first. -/
def fillW (bk : Nat → Int) (q : Nat) : Nat → Int
  | 0 => 0
  | c + 1 => bits .or .u32 (fillW bk q c * 256 % 4294967296) (bk (4 * q + c))
theorem fillW_bd (bk : Nat → Int) (q c : Nat) : 0 ≤ fillW bk q c ∧ fillW bk q c ≤ 4294967295 := by
  cases c with
  | zero => unfold fillW; omega
  | succ c => exact bits_u32 .or _ _ (.inr (.inl rfl))
/-- The words when p bytes have been read. -/
def prtW (bk : Nat → Int) (p q : Nat) : Int := fillW bk q (min 4 (p - 4 * q))
theorem prtW_bd (bk : Nat → Int) (p q : Nat) : 0 ≤ prtW bk p q ∧ prtW bk p q ≤ 4294967295 := fillW_bd _ _ _
theorem prtW_at (bk : Nat → Int) (p : Nat) : prtW bk (p + 1) (p / 4) = bits .or .u32 (prtW bk p (p / 4) * 256 % 4294967296) (bk p) := by
  unfold prtW
  rw [show min 4 (p + 1 - 4 * (p / 4)) = (p - 4 * (p / 4)) + 1 by omega, show min 4 (p - 4 * (p / 4)) = p - 4 * (p / 4) by omega]
  show bits .or .u32 _ (bk (4 * (p / 4) + (p - 4 * (p / 4)))) = _
  rw [show 4 * (p / 4) + (p - 4 * (p / 4)) = p by omega]
theorem prtW_other (bk : Nat → Int) (p q : Nat) (h : q ≠ p / 4) : prtW bk (p + 1) q = prtW bk p q := by
  unfold prtW
  rw [show min 4 (p + 1 - 4 * q) = min 4 (p - 4 * q) by omega]

/-- The schedule's words: sixteen of the block, then each of four before it. -/
def sigS (x : Int) : Int := xor32 (xor32 (rot x 25) (rot x 14)) (x / 8)
def sigL (x : Int) : Int := xor32 (xor32 (rot x 15) (rot x 13)) (x / 1024)
def schW (m : Nat → Int) (i : Nat) : Int :=
  if h : i < 16 then m i else add32 (add32 (add32 (schW m (i - 16)) (sigS (schW m (i - 15)))) (schW m (i - 7))) (sigL (schW m (i - 2)))
termination_by i
theorem schW_lo (m : Nat → Int) (i : Nat) (h : i < 16) : schW m i = m i := by rw [schW, dif_pos h]
theorem schW_hi (m : Nat → Int) (i : Nat) (h : 16 ≤ i) : schW m i = add32 (add32 (add32 (schW m (i - 16)) (sigS (schW m (i - 15)))) (schW m (i - 7))) (sigL (schW m (i - 2))) := by rw [schW, dif_neg (by omega)]
theorem schW_bd (m : Nat → Int) (hm : ∀ i, 0 ≤ m i ∧ m i ≤ 4294967295) (i : Nat) : 0 ≤ schW m i ∧ schW m i ≤ 4294967295 := by
  by_cases h : i < 16
  · rw [schW_lo m i h]; exact hm i
  · rw [schW_hi m i (by omega)]; exact add32_bd _ _
/-- The row when words up to i are there. -/
def schT (m : Nat → Int) (i q : Nat) : Int := if q < i then schW m q else 0

theorem schT_start (bk : Nat → Int) : wordsA 64 (prtW bk 64) = wordsA 64 (schT (prtW bk 64) 16) := by
  apply wordsA_congr
  intro q hq
  unfold schT
  by_cases h : q < 16
  · rw [if_pos h, schW_lo _ _ h]
  · rw [if_neg h]
    unfold prtW
    rw [show min 4 (64 - 4 * q) = 0 by omega]
    rfl
theorem schT_end (m : Nat → Int) : wordsA 64 (schT m 64) = wordsA 64 (schW m) := wordsA_congr 64 (fun q hq => if_pos hq)
theorem schT_lt (m : Nat → Int) (i q : Nat) (h : q < i) : schT m i q = schW m q := if_pos h
theorem schT_set (m : Nat → Int) (i : Nat) (h : i < 64) : (wordsA 64 (schT m i)).setIfInBounds i (.int .u32 (schW m i)) = wordsA 64 (schT m (i + 1)) :=
  wordsA_set 64 _ _ i h _ (if_pos (by omega)) (fun j _ hj => by
    unfold schT
    by_cases h : j < i
    · rw [if_pos h, if_pos (by omega)]
    · rw [if_neg h, if_neg (by omega)])

theorem wordsA_one (n : Nat) (f : Nat → Int) : (wordsA n f).all (·.oneCell') = true := by
  refine Array.all_eq_true_iff_forall_mem.2 (fun v hv => ?_)
  have hv' : v ∈ wordsL n f := by simpa [wordsA] using hv
  obtain ⟨q, _, rfl⟩ := List.mem_map.1 hv'
  rfl

/-- A whole row is stored: the world behind it as a letter. -/
theorem wpList_store_row' {P : Program} {ops : Array Oper} {rest : List Oper} {o : Oper} {a : Act} {w : World} {Q : Exit → Act → World → Prop} (hgd : o.guard = none) (ty : TypeId) (x y : Operand) (ho : o.op = .store ty x y)
    (g : Nat) (cells : Array Value) (hx : a.eval x = .pointer (some ⟨g, 0, none⟩)) (hy : a.eval y = .agg cells)
    (t : TypeId) (old : Array Value) (hg : w.heap[g]? = some (.cells old t (0, 0))) (hi : (P.info? ty).map (·.size) = some cells.size)
    (hold : old.size = cells.size) (h1 : cells.all (·.oneCell') = true)
    (h : ∀ w2, w2.heap[g]? = some (.cells cells t (0, 0)) → w2.heap.size = w.heap.size → w.grownBy w2 (some g) → wpList P ops Q rest (a.put o.dst undef) w2) : wpList P ops Q (o :: rest) a w :=
  wpList_store_row hgd ty x y ho g cells hx hy t old hg hi hold h1
    (h _ (setRow_heap w g old cells t (0, 0) hg) (by simp) ⟨rfl, rfl, rfl, by simp, fun k _ hk => setRow_other w g k _ (fun e => hk (by rw [e]))⟩)

/-- Eight cells set one by one: the row is theirs. -/
theorem set8A (A : Array Value) (hs : A.size = 8) (x0 x1 x2 x3 x4 x5 x6 x7 : Value) :
    (((((((A.setIfInBounds 0 x0).setIfInBounds 1 x1).setIfInBounds 2 x2).setIfInBounds 3 x3).setIfInBounds 4 x4).setIfInBounds 5 x5).setIfInBounds 6 x6).setIfInBounds 7 x7 = #[x0, x1, x2, x3, x4, x5, x6, x7] := by
  rcases A with ⟨l⟩
  simp only [List.setIfInBounds_toArray]
  match l, hs with
  | [_, _, _, _, _, _, _, _], _ => simp only [List.set]
theorem set8 {w : World} {g t : Nat} {A : Array Value} (h : w.heap[g]? = some (.cells A t (0, 0))) (hs : A.size = 8) (x0 x1 x2 x3 x4 x5 x6 x7 : Value) :
    ((((((((w.setCell ⟨g, 0, none⟩ x0).setCell ⟨g, 1, none⟩ x1).setCell ⟨g, 2, none⟩ x2).setCell ⟨g, 3, none⟩ x3).setCell ⟨g, 4, none⟩ x4).setCell ⟨g, 5, none⟩ x5).setCell ⟨g, 6, none⟩ x6).setCell ⟨g, 7, none⟩ x7).heap[g]? = some (.cells #[x0, x1, x2, x3, x4, x5, x6, x7] t (0, 0)) := by
  have h0 := heap_setCell_same w g 0 A t x0 h
  have h1 := heap_setCell_same _ g 1 _ t x1 h0
  have h2 := heap_setCell_same _ g 2 _ t x2 h1
  have h3 := heap_setCell_same _ g 3 _ t x3 h2
  have h4 := heap_setCell_same _ g 4 _ t x4 h3
  have h5 := heap_setCell_same _ g 5 _ t x5 h4
  have h6 := heap_setCell_same _ g 6 _ t x6 h5
  have h7 := heap_setCell_same _ g 7 _ t x7 h6
  rw [h7, set8A A hs]

theorem wordsA8 (f : Nat → Int) : wordsA 8 f = #[.int .u32 (f 0), .int .u32 (f 1), .int .u32 (f 2), .int .u32 (f 3), .int .u32 (f 4), .int .u32 (f 5), .int .u32 (f 6), .int .u32 (f 7)] := rfl

/-! ### Rounds -/
def kL : List Int := [1116352408, 1899447441, 3049323471, 3921009573, 961987163, 1508970993, 2453635748, 2870763221, 3624381080, 310598401, 607225278, 1426881987, 1925078388, 2162078206, 2614888103, 3248222580, 3835390401, 4022224774, 264347078, 604807628, 770255983, 1249150122, 1555081692, 1996064986, 2554220882, 2821834349, 2952996808, 3210313671, 3336571891, 3584528711, 113926993, 338241895, 666307205, 773529912, 1294757372, 1396182291, 1695183700, 1986661051, 2177026350, 2456956037, 2730485921, 2820302411, 3259730800, 3345764771, 3516065817, 3600352804, 4094571909, 275423344, 430227734, 506948616, 659060556, 883997877, 958139571, 1322822218, 1537002063, 1747873779, 1955562222, 2024104815, 2227730452, 2361852424, 2428436474, 2756734187, 3204031479, 3329325298]
def kW (i : Nat) : Int := kL.getD i 0
theorem kW_bd (i : Nat) : 0 ≤ kW i ∧ kW i ≤ 4294967295 := by
  have key : ∀ i : Fin 64, 0 ≤ kL.getD i.val 0 ∧ kL.getD i.val 0 ≤ 4294967295 := by decide +kernel
  by_cases h : i < 64
  · exact key ⟨i, h⟩
  · unfold kW
    rw [List.getD_eq_getElem?_getD, List.getElem?_eq_none (show kL.length ≤ i by have : kL.length = 64 := rfl; omega)]
    simp
def not32 (a : Int) : Int := bits .xor .u32 IntKind.u32.max a
def chW (e f g : Int) : Int := xor32 (and32 e f) (and32 (not32 e) g)
def majW (a b c : Int) : Int := xor32 (xor32 (and32 a b) (and32 a c)) (and32 b c)
def sumE (e : Int) : Int := xor32 (xor32 (rot e 26) (rot e 21)) (rot e 7)
def sumA (a : Int) : Int := xor32 (xor32 (rot a 30) (rot a 19)) (rot a 10)
def oneW (v : Nat → Int) (k x : Int) : Int := add32 (add32 (add32 (add32 (v 7) (sumE (v 4))) (chW (v 4) (v 5) (v 6))) k) x
def twoW (v : Nat → Int) : Int := add32 (sumA (v 0)) (majW (v 0) (v 1) (v 2))
def rndF (v : Nat → Int) (k x : Int) : Nat → Int
  | 0 => add32 (oneW v k x) (twoW v)
  | 1 => v 0
  | 2 => v 1
  | 3 => v 2
  | 4 => add32 (v 3) (oneW v k x)
  | 5 => v 4
  | 6 => v 5
  | 7 => v 6
  | _ => 0
def roundsF (st W : Nat → Int) : Nat → Nat → Int
  | 0 => st
  | i + 1 => rndF (roundsF st W i) (kW i) (W i)
def compF (st W : Nat → Int) (q : Nat) : Int := add32 (st q) (roundsF st W 64 q)
def Bd (f : Nat → Int) : Prop := ∀ q, 0 ≤ f q ∧ f q ≤ 4294967295
theorem rndF_bd (v : Nat → Int) (k x : Int) (h : Bd v) : Bd (rndF v k x) := by
  intro q
  rcases q with _ | _ | _ | _ | _ | _ | _ | _ | q
  · exact add32_bd _ _
  · exact h 0
  · exact h 1
  · exact h 2
  · exact add32_bd _ _
  · exact h 4
  · exact h 5
  · exact h 6
  · exact ⟨Int.le_refl 0, (by decide : (0 : Int) ≤ 4294967295)⟩
theorem roundsF_bd (st W : Nat → Int) (h : Bd st) (i : Nat) : Bd (roundsF st W i) := by
  induction i with
  | zero => exact h
  | succ i ih => exact rndF_bd _ _ _ ih
theorem flat2 (a b : Int) : add32 a b = (a + b) % 4294967296 := add32_mod a b
theorem one_flat (v : Nat → Int) (k x : Int) : oneW v k x = (v 7 + sumE (v 4) + chW (v 4) (v 5) (v 6) + k + x) % 4294967296 := by unfold oneW; simp only [add32_mod]; omega
theorem two_flat (v : Nat → Int) : twoW v = (sumA (v 0) + majW (v 0) (v 1) (v 2)) % 4294967296 := by unfold twoW; rw [add32_mod]
theorem new0_flat (v : Nat → Int) (k x : Int) : rndF v k x 0 = (v 7 + sumE (v 4) + chW (v 4) (v 5) (v 6) + k + x + (sumA (v 0) + majW (v 0) (v 1) (v 2))) % 4294967296 := by
  show add32 _ _ = _
  rw [add32_mod, one_flat, two_flat]; omega
theorem new4_flat (v : Nat → Int) (k x : Int) : rndF v k x 4 = (v 3 + (v 7 + sumE (v 4) + chW (v 4) (v 5) (v 6) + k + x)) % 4294967296 := by
  show add32 _ _ = _
  rw [add32_mod, one_flat]; omega
theorem compF_bd (st W : Nat → Int) : Bd (compF st W) := fun q => add32_bd _ _

/-! ### A digest's cells -/
def bytesL (bk : Nat → Int) : List Value := (List.range 64).map fun q => Value.int .u8 (bk q)
theorem bytesL_get (bk : Nat → Int) (q : Nat) (h : q < 64) : (bytesL bk)[q]? = some (.int .u8 (bk q)) := by simp [bytesL, h]
theorem bytesL_len (bk : Nat → Int) : (bytesL bk).length = 64 := by simp [bytesL]
def digL (st bk : Nat → Int) (used : Int) (size : Int) : List Value := wordsL 8 st ++ (bytesL bk ++ [.int .i64 used, .int .u64 size])
def digA (st bk : Nat → Int) (used : Int) (size : Int) : Array Value := (digL st bk used size).toArray
theorem dig_st (st bk : Nat → Int) (u z : Int) (q : Nat) (h : q < 8) : (digA st bk u z)[q]? = some (.int .u32 (st q)) := by
  unfold digA digL
  rw [List.getElem?_toArray, List.getElem?_append_left (by rw [wordsL_len]; exact h), wordsL_get 8 st q h]
theorem dig_bk (st bk : Nat → Int) (u z : Int) (q : Nat) (h : q < 64) : (digA st bk u z)[8 + q]? = some (.int .u8 (bk q)) := by
  unfold digA digL
  rw [List.getElem?_toArray, List.getElem?_append_right (by rw [wordsL_len]; omega), wordsL_len, show 8 + q - 8 = q by omega, List.getElem?_append_left (by rw [bytesL_len]; exact h), bytesL_get bk q h]
theorem dig_used (st bk : Nat → Int) (u z : Int) : (digA st bk u z)[72]? = some (.int .i64 u) := by
  unfold digA digL
  rw [List.getElem?_toArray, List.getElem?_append_right (by rw [wordsL_len]; omega), wordsL_len, List.getElem?_append_right (by rw [bytesL_len]; omega), bytesL_len]
  rfl
theorem dig_size (st bk : Nat → Int) (u z : Int) : (digA st bk u z)[73]? = some (.int .u64 z) := by
  unfold digA digL
  rw [List.getElem?_toArray, List.getElem?_append_right (by rw [wordsL_len]; omega), wordsL_len, List.getElem?_append_right (by rw [bytesL_len]; omega), bytesL_len]
  rfl
theorem digA_size (st bk : Nat → Int) (u z : Int) : (digA st bk u z).size = 74 := by
  unfold digA digL
  simp [wordsL_len, bytesL_len]
theorem dig_ext {st bk st' bk' : Nat → Int} {u z u' z' : Int} {A : Array Value} (hs : A.size = 74) (h1 : ∀ q, q < 8 → A[q]? = some (.int .u32 (st' q))) (h2 : ∀ q, q < 64 → A[8 + q]? = some (.int .u8 (bk' q))) (h3 : A[72]? = some (.int .i64 u')) (h4 : A[73]? = some (.int .u64 z')) : A = digA st' bk' u' z' := by
  apply Array.ext_getElem?
  intro j
  by_cases hj : j < 8
  · rw [h1 j hj, dig_st _ _ _ _ j hj]
  · by_cases hj2 : j < 72
    · have := h2 (j - 8) (by omega)
      have e := dig_bk st' bk' u' z' (j - 8) (by omega)
      rw [show 8 + (j - 8) = j by omega] at this e
      rw [this, e]
    · by_cases hj3 : j = 72
      · subst hj3; rw [h3, dig_used]
      · by_cases hj4 : j = 73
        · subst hj4; rw [h4, dig_size]
        · rw [Array.getElem?_eq_none (by omega), Array.getElem?_eq_none (by rw [digA_size]; omega)]
theorem dig_set_st (st bk : Nat → Int) (u z : Int) (q : Nat) (hq : q < 8) (x : Int) : (digA st bk u z).setIfInBounds q (.int .u32 x) = digA (fun j => if j = q then x else st j) bk u z := by
  refine dig_ext (st := st) (bk := bk) (u := u) (z := z) (by rw [Array.size_setIfInBounds, digA_size]) ?_ ?_ ?_ ?_
  · intro j hj
    rw [Array.getElem?_setIfInBounds]
    by_cases e : q = j
    · subst e; rw [if_pos rfl, if_pos (by rw [digA_size]; omega), if_pos rfl]
    · rw [if_neg e, dig_st _ _ _ _ j hj, if_neg (fun c => e c.symm)]
  · intro j hj
    rw [Array.getElem?_setIfInBounds, if_neg (by omega), dig_bk _ _ _ _ j hj]
  · rw [Array.getElem?_setIfInBounds, if_neg (by omega), dig_used]
  · rw [Array.getElem?_setIfInBounds, if_neg (by omega), dig_size]
theorem dig_set_bk (st bk : Nat → Int) (u z : Int) (q : Nat) (hq : q < 64) (x : Int) : (digA st bk u z).setIfInBounds (8 + q) (.int .u8 x) = digA st (fun j => if j = q then x else bk j) u z := by
  refine dig_ext (st := st) (bk := bk) (u := u) (z := z) (by rw [Array.size_setIfInBounds, digA_size]) ?_ ?_ ?_ ?_
  · intro j hj
    rw [Array.getElem?_setIfInBounds, if_neg (by omega), dig_st _ _ _ _ j hj]
  · intro j hj
    rw [Array.getElem?_setIfInBounds]
    by_cases e : q = j
    · subst e; rw [if_pos rfl, if_pos (by rw [digA_size]; omega), if_pos rfl]
    · rw [if_neg (by omega), dig_bk _ _ _ _ j hj, if_neg (fun c => e c.symm)]
  · rw [Array.getElem?_setIfInBounds, if_neg (by omega), dig_used]
  · rw [Array.getElem?_setIfInBounds, if_neg (by omega), dig_size]
theorem dig_set_used (st bk : Nat → Int) (u z x : Int) : (digA st bk u z).setIfInBounds 72 (.int .i64 x) = digA st bk x z := by
  refine dig_ext (st := st) (bk := bk) (u := u) (z := z) (by rw [Array.size_setIfInBounds, digA_size]) ?_ ?_ ?_ ?_
  · intro j hj
    rw [Array.getElem?_setIfInBounds, if_neg (by omega), dig_st _ _ _ _ j hj]
  · intro j hj
    rw [Array.getElem?_setIfInBounds, if_neg (by omega), dig_bk _ _ _ _ j hj]
  · rw [Array.getElem?_setIfInBounds, if_pos rfl, if_pos (by rw [digA_size]; omega)]
  · rw [Array.getElem?_setIfInBounds, if_neg (by omega), dig_size]
theorem dig_set_size (st bk : Nat → Int) (u z x : Int) : (digA st bk u z).setIfInBounds 73 (.int .u64 x) = digA st bk u x := by
  refine dig_ext (st := st) (bk := bk) (u := u) (z := z) (by rw [Array.size_setIfInBounds, digA_size]) ?_ ?_ ?_ ?_
  · intro j hj
    rw [Array.getElem?_setIfInBounds, if_neg (by omega), dig_st _ _ _ _ j hj]
  · intro j hj
    rw [Array.getElem?_setIfInBounds, if_neg (by omega), dig_bk _ _ _ _ j hj]
  · rw [Array.getElem?_setIfInBounds, if_neg (by omega), dig_used]
  · rw [Array.getElem?_setIfInBounds, if_pos rfl, if_pos (by rw [digA_size]; omega)]

end Go.My

/- Regions that draw their order, made of operations whose results do not hang on it: loads, builds, calls that only make memory, new variables and their first stores. Nothing of the program is named. -/
namespace Go.My
open Go.RowKit
set_option linter.unusedVariables false

def dstOf (ops : Array Oper) (i : Nat) : Option Tmp := (ops[i]?).bind (·.dst)
/-- The frame behind those of the first n operations that have come up. -/
def putAll (ops : Array Oper) (v : Nat → Value) (L : Nat → Bool) (a : Act) : Nat → Act
  | 0 => a
  | n + 1 => if L n then (putAll ops v L a n).put (dstOf ops n) (v n) else putAll ops v L a n
def Apart (ops : Array Oper) (m : Nat) : Prop := ∀ i j, i < m → j < m → i ≠ j → ∀ d, dstOf ops i = some d → dstOf ops j ≠ some d
def apartB (ops : Array Oper) (m : Nat) : Bool := (List.range m).all fun i => (List.range m).all fun j => i == j || dstOf ops i == none || dstOf ops i != dstOf ops j
theorem apart_of {ops : Array Oper} {m : Nat} (h : apartB ops m = true) : Apart ops m := by
  intro i j hi hj hne d hd he
  have := List.all_eq_true.1 (List.all_eq_true.1 h i (List.mem_range.2 hi)) j (List.mem_range.2 hj)
  simp [hne, hd, he] at this
theorem putAll_congr {ops : Array Oper} {v v' : Nat → Value} {L L' : Nat → Bool} {a : Act} : ∀ n, (∀ j, j < n → L j = L' j ∧ (L j = true → v j = v' j)) → putAll ops v L a n = putAll ops v' L' a n
  | 0, _ => rfl
  | n + 1, h => by
    have ih := putAll_congr (ops := ops) (a := a) n (fun j hj => h j (by omega))
    have hn := h n (by omega)
    unfold putAll
    rw [ih, ← hn.1]
    by_cases c : L n = true
    · rw [if_pos c, if_pos c, hn.2 c]
    · rw [if_neg c, if_neg c]
theorem putAll_add {ops : Array Oper} {m : Nat} (hd : Apart ops m) {v v' : Nat → Value} {L L' : Nat → Bool} {a : Act} {i : Nat} (hi : i < m) (h0 : L i = false) (h1 : L' i = true)
    (hL : ∀ j, j ≠ i → L' j = L j) (hv : ∀ j, j ≠ i → v' j = v j) : ∀ n, i < n → n ≤ m → putAll ops v' L' a n = (putAll ops v L a n).put (dstOf ops i) (v' i)
  | 0, h, _ => by omega
  | n + 1, h, hm => by
    by_cases c : n = i
    · subst c
      have := putAll_congr (ops := ops) (a := a) (v := v') (v' := v) (L := L') (L' := L) n (fun j hj => ⟨hL j (by omega), fun _ => hv j (by omega)⟩)
      show (if L' n then _ else _) = _
      rw [if_pos h1, this]
      show _ = ((if L n then _ else _ : Act)).put _ _
      rw [if_neg (by rw [h0]; decide)]
    · have ih := putAll_add hd (a := a) hi h0 h1 hL hv n (by omega) (by omega)
      show (if L' n then _ else _) = ((if L n then _ else _ : Act)).put _ _
      rw [hL n c, ih, hv n c]
      by_cases k : L n = true
      · rw [if_pos k, if_pos k]
        exact Act.put_comm _ _ _ (fun d e => hd i n hi (by omega) (Ne.symm c) d e)
      · rw [if_neg k, if_neg k]
theorem putAll_size {ops : Array Oper} {v : Nat → Value} {L : Nat → Bool} {a : Act} : ∀ n, (putAll ops v L a n).tmps.size = a.tmps.size
  | 0 => rfl
  | n + 1 => by
    have ih := putAll_size (ops := ops) (v := v) (L := L) (a := a) n
    unfold putAll
    split
    · cases dstOf ops n with
      | none => exact ih
      | some d => simp [Act.put, ih]
    · exact ih
theorem eval_old {ops : Array Oper} {v : Nat → Value} {L : Nat → Bool} {a : Act} {k : Tmp} : ∀ n, (∀ j, j < n → dstOf ops j ≠ some k) → (putAll ops v L a n).eval (.tmp k) = a.eval (.tmp k)
  | 0, _ => rfl
  | n + 1, h => by
    have ih := eval_old (v := v) (L := L) (a := a) n (fun j hj => h j (by omega))
    unfold putAll
    split
    · rw [Act.eval_put (fun d e c => h n (by omega) (by rw [e]; injection c with c; rw [c])), ih]
    · exact ih
theorem eval_new {ops : Array Oper} {m : Nat} (hd : Apart ops m) {v : Nat → Value} {L : Nat → Bool} {a : Act} {k : Tmp} {j : Nat} (hk : k < a.tmps.size) (hj : dstOf ops j = some k) (hl : L j = true) : ∀ n, j < n → n ≤ m → (putAll ops v L a n).eval (.tmp k) = v j
  | 0, h, _ => by omega
  | n + 1, h, hm => by
    by_cases c : n = j
    · subst c
      show ((if L n then _ else _ : Act)).eval _ = _
      rw [if_pos hl, hj]
      have := putAll_size (ops := ops) (v := v) (L := L) (a := a) n
      simp [Act.eval, Act.put, this, hk]
    · have ih := eval_new hd (v := v) (a := a) hk hj hl n (by omega) (by omega)
      show ((if L n then _ else _ : Act)).eval _ = _
      split
      · rw [Act.eval_put (fun d e c' => hd j n (by omega) (by omega) (Ne.symm c) k hj (by rw [e]; injection c' with c'; rw [c'])), ih]
      · exact ih

/-- What an operation does: it yields this value; it makes a variable; it stores into the variable that number j made. -/
inductive Kd
  | val (x : Value)
  | new (T : TypeId) (Z : Array Value)
  | put (j : Nat) (T : TypeId) (cs : Array Value)
  | old (g : Nat) (T : TypeId) (cs : Array Value)
/-- The blocks that stood at the start, but for those of G, are as they were. -/
structure Kept (G : Nat → Prop) (w w' : World) : Prop where
  os : w'.os = w.os
  tape : w'.tape = w.tape
  output : w'.output = w.output
  size : w.heap.size ≤ w'.heap.size
  block : ∀ k, k < w.heap.size → ¬ G k → w'.heap[k]? = w.heap[k]?
theorem Kept.refl (G : Nat → Prop) (w : World) : Kept G w w := ⟨rfl, rfl, rfl, Nat.le_refl _, fun _ _ _ => rfl⟩
theorem Kept.below {G : Nat → Prop} {w w' : World} (h : Kept G w w') (hG : ∀ k, ¬ G k) : Below w.heap.size w w' := ⟨h.os, h.tape, h.output, h.size, fun k hk => h.block k hk (hG k)⟩
theorem Kept.base {G : Nat → Prop} {B : Nat} {w w' : World} (h : Kept G w w') (hB : B ≤ w.heap.size) (hG : ∀ k, k < B → ¬ G k) : Below B w w' := ⟨h.os, h.tape, h.output, h.size, fun k hk => h.block k (by omega) (hG k hk)⟩
theorem Kept.then {G : Nat → Prop} {w w' w2 : World} (h : Kept G w w') (hb : Below w'.heap.size w' w2) : Kept G w w2 := ⟨hb.os.trans h.os, hb.tape.trans h.tape, hb.output.trans h.output, Nat.le_trans h.size hb.size, fun k hk hg => (hb.block k (by have := h.size; omega)).trans (h.block k hk hg)⟩
theorem Kept.mono {G G' : Nat → Prop} {w w' : World} (h : Kept G w w') (hG : ∀ k, G k → G' k) : Kept G' w w' := ⟨h.os, h.tape, h.output, h.size, fun k hk hg => h.block k hk (fun c => hg (hG k c))⟩
/-- The old blocks into which what has come up has stored; all of them. -/
def HitBy (D : Nat → Kd) (L : Nat → Bool) (k : Nat) : Prop := ∃ i T cs, L i = true ∧ D i = .old k T cs
def Hits (D : Nat → Kd) (k : Nat) : Prop := ∃ i T cs, D i = .old k T cs
def IsNew (k : Kd) : Prop := ∃ T Z, k = .new T Z
def OkAt (B : Nat) (D : Nat → Kd) (v : Nat → Value) (L : Nat → Bool) (w : World) (i : Nat) : Prop :=
  match D i with
  | .val x => v i = x
  | .new T Z => (∃ g cs, v i = .pointer (some ⟨g, 0, none⟩) ∧ B ≤ g ∧ cs.size = Z.size ∧ w.heap[g]? = some (.cells cs T (0, 0))) ∧ ∀ j, j ≠ i → L j = true → IsNew (D j) → v j ≠ v i
  | .put j T cs => (L j = true ∧ IsNew (D j)) ∧ ∃ g, v j = .pointer (some ⟨g, 0, none⟩) ∧ w.heap[g]? = some (.cells cs T (0, 0))
  | .old g T cs => g < B ∧ w.heap[g]? = some (.cells cs T (0, 0))
def OkAll (B : Nat) (D : Nat → Kd) (v : Nat → Value) (L : Nat → Bool) (w : World) : Prop := ∀ i, L i = true → OkAt B D v L w i
def Dep (o : Oper) (j : Nat) : Prop := ∃ e ∈ o.after, Region.binds .any e = true ∧ e.on = j
def depB (o : Oper) (j : Nat) : Bool := o.after.any fun e => Region.binds .any e && e.on == j
theorem dep_of {o : Oper} {j : Nat} (h : depB o j = true) : Dep o j := by
  obtain ⟨e, he, hb⟩ := Array.any_eq_true'.1 h
  simp at hb
  exact ⟨e, he, hb.1, hb.2⟩
/-- Where slot k has the value y from: from ahead of the region, or from an operation that this one waits for. -/
def Src (ops : Array Oper) (m : Nat) (a0 : Act) (D : Nat → Kd) (o : Oper) (k : Tmp) (y : Value) : Prop :=
  ((∀ j, j < m → dstOf ops j ≠ some k) ∧ a0.eval (.tmp k) = y) ∨ (∃ j, j < m ∧ dstOf ops j = some k ∧ D j = .val y ∧ Dep o j)
def freeB (ops : Array Oper) (m : Nat) (k : Tmp) : Bool := (List.range m).all fun j => dstOf ops j != some k
theorem src_old {ops : Array Oper} {m : Nat} {a0 : Act} {D : Nat → Kd} {o : Oper} {k : Tmp} {y : Value} (h : freeB ops m k = true) (e : a0.eval (.tmp k) = y) : Src ops m a0 D o k y :=
  .inl ⟨fun j hj c => by have := List.all_eq_true.1 h j (List.mem_range.2 hj); simp [c] at this, e⟩
theorem src_new {ops : Array Oper} {m : Nat} {a0 : Act} {D : Nat → Kd} {o : Oper} {k : Tmp} {y : Value} (j : Nat) (hj : j < m) (hd : dstOf ops j = some k) (e : D j = .val y) (h : depB o j = true) : Src ops m a0 D o k y := .inr ⟨j, hj, hd, e, dep_of h⟩
def StepOk (P : Program) (Q : Exit → Act → World → Prop) (ops : Array Oper) (m : Nat) (a0 : Act) (w0 : World) (D : Nat → Kd) (i : Nat) : Prop :=
  ∃ o, ops[i]? = some o ∧ o.guard = none ∧
  match D i with
  | .val x => ∃ N : List (Tmp × Value), (∀ p ∈ N, Src ops m a0 D o p.1 p.2) ∧ ∀ (a : Act) (w : World), (∀ p ∈ N, a.eval (.tmp p.1) = p.2) → Kept (Hits D) w0 w → o.wp P a w (fun a' w' => a' = a.put o.dst x ∧ Below w.heap.size w w') Q
  | .new T Z => o.op = .alloc T ∧ ∀ w, (Instr.alloc T true (.tuple #[])).run P w = .ok (.pointer (some ⟨w.heap.size, 0, none⟩)) (w.alloc (.cells Z T))
  | .put j T cs => ∃ d k, o.op = .store T (.tmp d) (.tmp k) ∧ o.dst = none ∧ j < m ∧ dstOf ops j = some d ∧ Dep o j ∧ (∃ Z, D j = .new T Z ∧ Z.size = cs.size) ∧ Src ops m a0 D o k (.agg cs) ∧ (P.info? T).map (·.size) = some cs.size ∧ cs.all (·.oneCell') = true ∧ (∀ i', i' ≠ i → ∀ T' cs', D i' ≠ .put j T' cs')
  | .old g T cs => ∃ d k od, o.op = .store T (.tmp d) (.tmp k) ∧ o.dst = none ∧ Src ops m a0 D o d (.pointer (some ⟨g, 0, none⟩)) ∧ w0.heap[g]? = some (.cells od T (0, 0)) ∧ od.size = cs.size ∧ Src ops m a0 D o k (.agg cs) ∧ (P.info? T).map (·.size) = some cs.size ∧ cs.all (·.oneCell') = true ∧ (∀ i', i' ≠ i → ∀ T' cs', D i' ≠ .old g T' cs')

section
variable {P : Program} {Q : Exit → Act → World → Prop} {ops : Array Oper} {m : Nat} {a0 : Act} {w0 : World} {D : Nat → Kd}

theorem upd_ne {v : Nat → Value} {i : Nat} {x : Value} {j : Nat} (h : j ≠ i) : (fun k => if k = i then x else v k) j = v j := if_neg h
theorem upd_at {v : Nat → Value} {i : Nat} {x : Value} : (fun k => if k = i then x else v k) i = x := if_pos rfl
theorem updL_ne {L : Nat → Bool} {i j : Nat} (h : j ≠ i) : (fun k => if k = i then true else L k) j = L j := if_neg h
theorem OkAll.grow {B : Nat} {v : Nat → Value} {L : Nat → Bool} {w w' : World} (h : OkAll B D v L w) (hb : Below w.heap.size w w') : OkAll B D v L w' := by
  intro i hi
  have := h i hi
  unfold OkAt at *
  split
  · rename_i x e; rw [e] at this; exact this
  · rename_i T Z e
    rw [e] at this
    obtain ⟨⟨g, cs, h1, h2, h3, h4⟩, h5⟩ := this
    exact ⟨⟨g, cs, h1, h2, h3, (hb.block g (Array.getElem?_eq_some_iff.1 h4).1).trans h4⟩, h5⟩
  · rename_i j T cs e
    rw [e] at this
    obtain ⟨h0, g, h1, h2⟩ := this
    exact ⟨h0, g, h1, (hb.block g (Array.getElem?_eq_some_iff.1 h2).1).trans h2⟩
  · rename_i g T cs e
    rw [e] at this
    exact ⟨this.1, (hb.block g (Array.getElem?_eq_some_iff.1 this.2).1).trans this.2⟩
/-- One operation more, that made no variable and stored into none. -/
theorem OkAll.more {B : Nat} {v : Nat → Value} {L : Nat → Bool} {w : World} {i : Nat} {x : Value} (h : OkAll B D v L w) (h0 : L i = false) (hx : D i = .val x) :
    OkAll B D (fun k => if k = i then x else v k) (fun k => if k = i then true else L k) w := by
  intro j hj
  by_cases c : j = i
  · subst c; unfold OkAt; rw [hx]; exact if_pos rfl
  · have hl : L j = true := by rw [← updL_ne (L := L) c]; exact hj
    have := h j hl
    unfold OkAt at *
    split
    · rename_i y e; rw [e] at this; exact (upd_ne c).trans this
    · rename_i T Z e
      rw [e] at this
      obtain ⟨⟨g, cs, h1, h2⟩, h5⟩ := this
      refine ⟨⟨g, cs, (upd_ne c).trans h1, h2⟩, fun q hq hlq hn => ?_⟩
      have hqi : q ≠ i := fun e => by subst e; rw [hx] at hn; obtain ⟨_, _, hn⟩ := hn; cases hn
      rw [upd_ne hqi, upd_ne c]
      exact h5 q hq (by rw [← updL_ne (L := L) hqi]; exact hlq) hn
    · rename_i q T cs e
      rw [e] at this
      obtain ⟨⟨hq, hn⟩, g, h1, h2⟩ := this
      have hqi : q ≠ i := fun e => by subst e; rw [h0] at hq; cases hq
      exact ⟨⟨(updL_ne hqi).trans hq, hn⟩, g, (upd_ne hqi).trans h1, h2⟩
    · rename_i g T' cs e
      rw [e] at this
      exact this
theorem OkAll.made {B : Nat} {v : Nat → Value} {L : Nat → Bool} {w : World} {i : Nat} {T : TypeId} {Z : Array Value} (h : OkAll B D v L w) (h0 : L i = false) (hx : D i = .new T Z) (hB : B ≤ w.heap.size) :
    OkAll B D (fun k => if k = i then .pointer (some ⟨w.heap.size, 0, none⟩) else v k) (fun k => if k = i then true else L k) (w.alloc (.cells Z T)) := by
  have hg := h.grow (w' := w.alloc (.cells Z T)) ((Below.refl _ _).alloc (Nat.le_refl _) _)
  have apart : ∀ j, j ≠ i → L j = true → IsNew (D j) → v j ≠ .pointer (some ⟨w.heap.size, 0, none⟩) := fun j hj hl ⟨T', Z', hn⟩ e => by
    have := h j hl
    unfold OkAt at this
    rw [hn] at this
    obtain ⟨⟨g, cs, h1, _, _, h4⟩, _⟩ := this
    rw [h1] at e
    injection e with e; injection e with e; injection e with e
    have := (Array.getElem?_eq_some_iff.1 h4).1
    omega
  intro j hj
  by_cases c : j = i
  · subst c
    unfold OkAt
    rw [hx]
    refine ⟨⟨w.heap.size, Z, if_pos rfl, hB, rfl, heap_alloc_new w _⟩, fun q hq hl hn => ?_⟩
    rw [upd_ne hq, upd_at]
    exact apart q hq (by rw [← updL_ne (L := L) hq]; exact hl) hn
  · have hl : L j = true := by rw [← updL_ne (L := L) c]; exact hj
    have := hg j hl
    unfold OkAt at *
    split
    · rename_i y e; rw [e] at this; exact (upd_ne c).trans this
    · rename_i T' Z' e
      rw [e] at this
      obtain ⟨⟨g, cs, h1, h2⟩, h5⟩ := this
      refine ⟨⟨g, cs, (upd_ne c).trans h1, h2⟩, fun q hq hlq hn => ?_⟩
      by_cases hqi : q = i
      · subst hqi
        rw [upd_at, upd_ne c]
        exact Ne.symm (apart j c hl ⟨_, _, e⟩)
      · rw [upd_ne hqi, upd_ne c]
        exact h5 q hq (by rw [← updL_ne (L := L) hqi]; exact hlq) hn
    · rename_i q T' cs e
      rw [e] at this
      obtain ⟨⟨hq, hn⟩, g, h1, h2⟩ := this
      have hqi : q ≠ i := fun e => by subst e; rw [h0] at hq; cases hq
      exact ⟨⟨(updL_ne hqi).trans hq, hn⟩, g, (upd_ne hqi).trans h1, h2⟩
    · rename_i g T' cs e
      rw [e] at this
      exact this
theorem OkAll.stored {B : Nat} {v : Nat → Value} {L : Nat → Bool} {w : World} {i j g : Nat} {T : TypeId} {Z cs : Array Value} (h : OkAll B D v L w) (h0 : L i = false) (hx : D i = .put j T cs) (hj : D j = .new T Z) (hz : Z.size = cs.size) (hlj : L j = true)
    (hv : v j = .pointer (some ⟨g, 0, none⟩)) (hBg : B ≤ g) {old : Array Value} (hg : w.heap[g]? = some (.cells old T (0, 0))) (hu : ∀ i', i' ≠ i → ∀ T' cs', D i' ≠ .put j T' cs') :
    OkAll B D (fun k => if k = i then undef else v k) (fun k => if k = i then true else L k) (w.setRow g cs) := by
  have hji : j ≠ i := fun e => by subst e; rw [h0] at hlj; cases hlj
  intro q hq
  by_cases c : q = i
  · subst c
    unfold OkAt
    rw [hx]
    exact ⟨⟨(updL_ne hji).trans hlj, ⟨_, _, hj⟩⟩, g, (upd_ne hji).trans hv, setRow_heap w g old cs T (0, 0) hg⟩
  · have hl : L q = true := by rw [← updL_ne (L := L) c]; exact hq
    have := h q hl
    unfold OkAt at *
    split
    · rename_i y e; rw [e] at this; exact (upd_ne c).trans this
    · rename_i T' Z' e
      rw [e] at this
      obtain ⟨⟨g', cs', h1, h2, h3, h4⟩, h5⟩ := this
      refine ⟨?_, fun r hr hlr hn => ?_⟩
      · by_cases k : g' = g
        · subst k
          have hqj : q = j := by
            refine Classical.byContradiction fun hne => ?_
            exact h5 j (Ne.symm hne) hlj ⟨_, _, hj⟩ (by rw [h1, hv])
          subst hqj
          rw [hj] at e
          injection e with e1 e2
          subst e1; subst e2
          exact ⟨g', cs, (upd_ne c).trans h1, h2, hz.symm, setRow_heap w g' old cs T (0, 0) hg⟩
        · exact ⟨g', cs', (upd_ne c).trans h1, h2, h3, (setRow_other w g g' cs k).trans h4⟩
      · have hri : r ≠ i := fun e => by subst e; rw [hx] at hn; obtain ⟨_, _, hn⟩ := hn; cases hn
        rw [upd_ne hri, upd_ne c]
        exact h5 r hr (by rw [← updL_ne (L := L) hri]; exact hlr) hn
    · rename_i r T' cs' e
      rw [e] at this
      obtain ⟨⟨hr, hn⟩, g', h1, h2⟩ := this
      have hri : r ≠ i := fun e => by subst e; rw [h0] at hr; cases hr
      refine ⟨⟨(updL_ne hri).trans hr, hn⟩, g', (upd_ne hri).trans h1, ?_⟩
      by_cases k : g' = g
      · subst k
        exfalso
        by_cases hrj : r = j
        · subst hrj; exact hu q c _ _ e
        · have hjj := h j hlj
          unfold OkAt at hjj
          rw [hj] at hjj
          exact hjj.2 r hrj hr hn (by rw [h1, hv])
      · exact (setRow_other w g g' cs k).trans h2
    · rename_i g' T' cs' e
      rw [e] at this
      exact ⟨this.1, (setRow_other w g g' cs (by omega)).trans this.2⟩
theorem OkAll.storedOld {B : Nat} {v : Nat → Value} {L : Nat → Bool} {w : World} {i g : Nat} {T : TypeId} {cs : Array Value} (h : OkAll B D v L w) (h0 : L i = false) (hx : D i = .old g T cs) (hgB : g < B)
    {od : Array Value} (hg : w.heap[g]? = some (.cells od T (0, 0))) (hu : ∀ i', i' ≠ i → ∀ T' cs', D i' ≠ .old g T' cs') :
    OkAll B D (fun k => if k = i then undef else v k) (fun k => if k = i then true else L k) (w.setRow g cs) := by
  intro q hq
  by_cases c : q = i
  · subst c
    unfold OkAt
    rw [hx]
    exact ⟨hgB, setRow_heap w g od cs T (0, 0) hg⟩
  · have hl : L q = true := by rw [← updL_ne (L := L) c]; exact hq
    have := h q hl
    unfold OkAt at *
    split
    · rename_i y e; rw [e] at this; exact (upd_ne c).trans this
    · rename_i T' Z' e
      rw [e] at this
      obtain ⟨⟨g', cs', h1, h2, h3, h4⟩, h5⟩ := this
      refine ⟨⟨g', cs', (upd_ne c).trans h1, h2, h3, (setRow_other w g g' cs (by omega)).trans h4⟩, fun r hr hlr hn => ?_⟩
      have hri : r ≠ i := fun e => by subst e; rw [hx] at hn; obtain ⟨_, _, hn⟩ := hn; cases hn
      rw [upd_ne hri, upd_ne c]
      exact h5 r hr (by rw [← updL_ne (L := L) hri]; exact hlr) hn
    · rename_i r T' cs' e
      rw [e] at this
      obtain ⟨⟨hr, hn⟩, g', h1, h2⟩ := this
      have hri : r ≠ i := fun e => by subst e; rw [h0] at hr; cases hr
      refine ⟨⟨(updL_ne hri).trans hr, hn⟩, g', (upd_ne hri).trans h1, ?_⟩
      have hBg : B ≤ g' := by
        obtain ⟨T2, Z2, hn2⟩ := hn
        have hrr := h r hr
        unfold OkAt at hrr
        rw [hn2] at hrr
        obtain ⟨⟨g2, _, e1, e2, _⟩, _⟩ := hrr
        rw [h1] at e1
        injection e1 with e1; injection e1 with e1; injection e1 with e1
        omega
      exact (setRow_other w g g' cs (by omega)).trans h2
    · rename_i g' T' cs' e
      rw [e] at this
      exact ⟨this.1, (setRow_other w g g' cs (fun k => by subst k; exact hu q c _ _ e)).trans this.2⟩

theorem okPtr {B : Nat} {v : Nat → Value} {L : Nat → Bool} {w : World} {j : Nat} {T : TypeId} {Z : Array Value} (h : OkAll B D v L w) (hl : L j = true) (hj : D j = .new T Z) : ∃ g cs, v j = .pointer (some ⟨g, 0, none⟩) ∧ B ≤ g ∧ cs.size = Z.size ∧ w.heap[g]? = some (.cells cs T (0, 0)) := by
  have := h j hl
  unfold OkAt at this
  rw [hj] at this
  exact this.1
theorem okVal {B : Nat} {v : Nat → Value} {L : Nat → Bool} {w : World} {j : Nat} {x : Value} (h : OkAll B D v L w) (hl : L j = true) (hj : D j = .val x) : v j = x := by
  have := h j hl
  unfold OkAt at this
  rw [hj] at this
  exact this
theorem okRow {B : Nat} {v : Nat → Value} {L : Nat → Bool} {w : World} {i j : Nat} {T : TypeId} {cs : Array Value} (h : OkAll B D v L w) (hl : L i = true) (hj : D i = .put j T cs) : ∃ g, v j = .pointer (some ⟨g, 0, none⟩) ∧ w.heap[g]? = some (.cells cs T (0, 0)) := by
  have := h i hl
  unfold OkAt at this
  rw [hj] at this
  exact this.2
theorem Src.eval {o : Oper} {k : Tmp} {y : Value} {B : Nat} {v : Nat → Value} {L : Nat → Bool} {w : World} (hd : Apart ops m) (hsz : ∀ j d, dstOf ops j = some d → d < a0.tmps.size) (h : Src ops m a0 D o k y) (ho : OkAll B D v L w) (hdep : ∀ j, Dep o j → L j = true) :
    (putAll ops v L a0 m).eval (.tmp k) = y := by
  rcases h with ⟨h1, h2⟩ | ⟨j, hj, h1, h2, h3⟩
  · exact (eval_old m h1).trans h2
  · exact (eval_new hd (hsz j k h1) h1 (hdep j h3) m hj (Nat.le_refl _)).trans (okVal ho (hdep j h3) h2)

/-- One operation comes up. -/
theorem step_ok {B : Nat} (hB : B = w0.heap.size) (hd : Apart ops m) (hsz : ∀ j d, dstOf ops j = some d → d < a0.tmps.size) {i : Nat} (hi : i < m) (hs : StepOk P Q ops m a0 w0 D i) {v : Nat → Value} {L : Nat → Bool} {w : World}
    (ho : OkAll B D v L w) (hb : Kept (HitBy D L) w0 w) (h0 : L i = false) {o : Oper} (hoi : ops[i]? = some o) (hdep : ∀ j, Dep o j → L j = true) :
    o.guard = none ∧ o.wp P (putAll ops v L a0 m) w (fun a' w' => ∃ v', a' = putAll ops v' (fun k => if k = i then true else L k) a0 m ∧ OkAll B D v' (fun k => if k = i then true else L k) w' ∧ Kept (HitBy D (fun k => if k = i then true else L k)) w0 w') Q := by
  have up : ∀ k, HitBy D L k → HitBy D (fun k => if k = i then true else L k) k := fun k ⟨q, T, cs, h1, h2⟩ => ⟨q, T, cs, by
    by_cases c : q = i
    · exact if_pos c
    · exact (updL_ne c).trans h1, h2⟩
  obtain ⟨o', ho', hg, hk⟩ := hs
  rw [hoi] at ho'
  obtain rfl := Option.some.inj ho'
  refine ⟨hg, ?_⟩
  have hdst : dstOf ops i = o.dst := by unfold dstOf; rw [hoi]; rfl
  have add : ∀ x, (putAll ops v L a0 m).put o.dst x = putAll ops (fun k => if k = i then x else v k) (fun k => if k = i then true else L k) a0 m := fun x => by
    have := putAll_add hd (a := a0) (v := v) (v' := fun k => if k = i then x else v k) (L := L) (L' := fun k => if k = i then true else L k) hi h0 (if_pos rfl) (fun j hj => if_neg hj) (fun j hj => if_neg hj) m hi (Nat.le_refl _)
    rw [this, hdst, if_pos rfl]
  cases hD : D i with
  | val x =>
    rw [hD] at hk
    obtain ⟨N, hN, hw⟩ := hk
    refine Oper.wp_mono ?_ (hw _ w (fun p hp => (hN p hp).eval hd hsz ho hdep) (hb.mono fun k ⟨q, T, cs, _, h⟩ => ⟨q, T, cs, h⟩))
    rintro a' w' ⟨rfl, hb'⟩
    exact ⟨_, add x, (ho.grow hb').more h0 hD, (hb.then hb').mono up⟩
  | new T Z =>
    rw [hD] at hk
    obtain ⟨hop, hrun⟩ := hk
    unfold Oper.wp execOp
    simp only [hop, Sem.run_bind, hrun w, Result.andThen_ok, Sem.run_pure, Oper.upon]
    exact ⟨_, add _, ho.made h0 hD (by rw [hB]; exact hb.size), (hb.then ((Below.refl _ _).alloc (Nat.le_refl _) _)).mono up⟩
  | put j T cs =>
    rw [hD] at hk
    obtain ⟨d, k, hop, hdn, hjm, hjd, hjdep, ⟨Z, hjn, hz⟩, hsrc, hinfo, hone, huniq⟩ := hk
    have hlj := hdep j hjdep
    obtain ⟨g, old, hv, hBg, hos, hgb⟩ := okPtr ho hlj hjn
    have hx : (putAll ops v L a0 m).eval (.tmp d) = .pointer (some ⟨g, 0, none⟩) := (eval_new hd (hsz j d hjd) hjd hlj m hjm (Nat.le_refl _)).trans hv
    have hy := hsrc.eval hd hsz ho hdep
    have hst := run_storeVar_row (P := P) w g T T old cs hgb hinfo (by omega) hone
    unfold Oper.wp execOp
    simp only [hop, hx, hy, Instr.storeAt, Instr.sureAddr, Sem.run_bind, Sem.run_pure, Result.andThen_ok, hst, Oper.upon]
    refine ⟨_, add _, ho.stored h0 hD hjn hz hlj hv hBg hgb huniq, ?_⟩
    exact ⟨hb.os, hb.tape, hb.output, by have := hb.size; simpa using this, fun q hq hn => (setRow_other w g q cs (by omega)).trans (hb.block q hq fun c => hn (up q c))⟩
  | old g T cs =>
    rw [hD] at hk
    obtain ⟨d, k, od, hop, hdn, hsd, hgb0, hos, hsrc, hinfo, hone, huniq⟩ := hk
    have hgl : g < w0.heap.size := (Array.getElem?_eq_some_iff.1 hgb0).1
    have hgb : w.heap[g]? = some (.cells od T (0, 0)) := (hb.block g hgl (fun ⟨q, T', cs', h1, h2⟩ => by
      by_cases c : q = i
      · subst c; rw [h0] at h1; cases h1
      · exact huniq q c _ _ h2)).trans hgb0
    have hx := hsd.eval hd hsz ho hdep
    have hy := hsrc.eval hd hsz ho hdep
    have hst := run_storeVar_row (P := P) w g T T od cs hgb hinfo hos hone
    unfold Oper.wp execOp
    simp only [hop, hx, hy, Instr.storeAt, Instr.sureAddr, Sem.run_bind, Sem.run_pure, Result.andThen_ok, hst, Oper.upon]
    refine ⟨_, add _, ho.storedOld h0 hD (by rw [hB]; exact hgl) hgb huniq, ?_⟩
    refine ⟨hb.os, hb.tape, hb.output, by have := hb.size; simpa using this, fun q hq hn => ?_⟩
    exact (setRow_other w g q cs (fun c => hn ⟨i, T, cs, if_pos rfl, by rw [hD, c]⟩)).trans (hb.block q hq fun c => hn (up q c))

def cntF (L : Nat → Bool) : Nat → Nat
  | 0 => 0
  | n + 1 => cntF L n + if L n then 0 else 1
theorem cntF_set {L : Nat → Bool} {i : Nat} (h : L i = false) : ∀ n, i < n → cntF (fun k => if k = i then true else L k) n + 1 = cntF L n
  | 0, h => by omega
  | n + 1, hn => by
    by_cases c : n = i
    · subst c
      have e : ∀ q, q ≤ n → cntF (fun k => if k = n then true else L k) q = cntF L q := fun q => by
        induction q with
        | zero => intro _; rfl
        | succ q ih => intro hq; show cntF _ q + _ = cntF L q + _; rw [ih (by omega), updL_ne (L := L) (by omega : q ≠ n)]
      show cntF _ n + (if (if n = n then true else L n) then 0 else 1) + 1 = cntF L n + if L n then 0 else 1
      rw [e n (Nat.le_refl _), if_pos rfl, h]
      simp
    · have ih := cntF_set h n (by omega)
      show cntF _ n + (if (if n = i then true else L n) then 0 else 1) + 1 = cntF L n + if L n then 0 else 1
      rw [if_neg c]
      omega
theorem cntF_pos {L : Nat → Bool} : ∀ n, cntF L n = 0 → ∀ j, j < n → L j = true
  | 0, _, j, h => by omega
  | n + 1, h, j, hj => by
    have h' : cntF L n + (if L n then 0 else 1) = 0 := h
    by_cases c : j = n
    · subst c
      cases e : L j with
      | true => rfl
      | false => rw [e] at h'; simp at h'
    · exact cntF_pos n (by omega) j (by omega)
/-- The operations that one waits for, through others. -/
def cloB (ops : Array Oper) : Nat → List Nat → List Nat
  | 0, S => S
  | n + 1, S => cloB ops n (S ++ ((List.range ops.size).filter fun j => !S.contains j && S.any fun i => ((ops[i]?).map (depB · j)).getD false))
theorem cloB_sound {L : Nat → Bool} (hc : ∀ i o, ops[i]? = some o → L i = true → ∀ j, Dep o j → L j = true) : ∀ n S, (∀ j ∈ S, L j = true) → ∀ j ∈ cloB ops n S, L j = true
  | 0, _, h, j, hj => h j hj
  | n + 1, S, h, j, hj => by
    refine cloB_sound hc n _ (fun q hq => ?_) j hj
    rcases List.mem_append.1 hq with hq | hq
    · exact h q hq
    · have := (List.mem_filter.1 hq).2
      simp only [Bool.and_eq_true, List.any_eq_true] at this
      obtain ⟨_, i, hi, hd⟩ := this
      cases ho : ops[i]? with
      | none => simp [ho] at hd
      | some o =>
        rw [ho] at hd
        exact hc i o ho (h i hi) q (dep_of hd)
def orderB (ops : Array Oper) : Bool := (List.range ops.size).all fun i => ((ops[i]?).map fun o => o.after.all fun e => !Region.binds .any e || decide (e.on < i)).getD true
def tailB (ops : Array Oper) (m : Nat) : Bool := (List.range ops.size).all fun i => decide (i < m) || ((ops[i]?).map fun o => (List.range m).all fun j => (cloB ops ops.size ((List.range ops.size).filter (depB o))).contains j).getD false
def dstB (ops : Array Oper) (n : Nat) : Bool := (List.range ops.size).all fun j => match dstOf ops j with | some d => decide (d < n) | none => true
def listedTo (n m : Nat) : Array Bool := ((List.range n).map fun j => decide (j < m)).toArray

theorem any_ok {B : Nat} (hB : B = w0.heap.size) (hmn : m ≤ ops.size) (hd : Apart ops m) (hsz : ∀ j d, dstOf ops j = some d → d < a0.tmps.size) (hord : orderB ops = true) (htail : tailB ops m = true)
    (hs : ∀ i, i < m → StepOk P Q ops m a0 w0 D i)
    (hK : ∀ v w, OkAll B D v (fun j => decide (j < m)) w → Kept (HitBy D (fun j => decide (j < m))) w0 w → wpAny P .any ops Q (ops.size - m) (listedTo ops.size m) (putAll ops v (fun j => decide (j < m)) a0 m) w) :
    ∀ (c : Nat) (L : Array Bool) (v : Nat → Value) (w : World), L.size = ops.size → c = cntF (fun j => L.getD j false) m → (∀ j, m ≤ j → L.getD j false = false) →
      (∀ i o, ops[i]? = some o → L.getD i false = true → ∀ j, Dep o j → L.getD j false = true) →
      OkAll B D v (fun j => L.getD j false) w → Kept (HitBy D (fun j => L.getD j false)) w0 w → wpAny P .any ops Q (ops.size - m + c) L (putAll ops v (fun j => L.getD j false) a0 m) w := by
  intro c
  induction c with
  | zero =>
    intro L v w hL hc htop hclo ho hb
    have hall := cntF_pos m hc.symm
    have he : (fun j => L.getD j false) = fun j => decide (j < m) := by
      funext j
      by_cases h : j < m
      · rw [hall j h, decide_eq_true h]
      · rw [htop j (by omega), decide_eq_false h]
    have hLe : L = listedTo ops.size m := by
      apply Array.ext
      · simp [listedTo, hL]
      · intro j h1 h2
        have := congrFun he j
        simp only [Array.getD_eq_getD_getElem?, Array.getElem?_eq_getElem h1, Option.getD_some] at this
        rw [this]
        simp [listedTo]
    rw [he] at ho hb ⊢
    rw [hLe]
    exact hK v w ho hb
  | succ c ih =>
    intro L v w hL hc htop hclo ho hb
    have hlt : ∃ j, j < m ∧ L.getD j false = false ∧ ∀ q, q < j → L.getD q false = true := by
      refine Classical.byContradiction fun hno => ?_
      have all : ∀ j, j ≤ m → ∀ q, q < j → L.getD q false = true := by
        intro j
        induction j with
        | zero => intro _ q hq; omega
        | succ j ih2 =>
          intro hj q hq
          by_cases e : q = j
          · subst e
            cases h : L.getD q false with
            | true => rfl
            | false => exact absurd ⟨q, by omega, h, ih2 (by omega)⟩ hno
          · exact ih2 (by omega) q (by omega)
      have z : ∀ n, n ≤ m → cntF (fun j => L.getD j false) n = 0 := by
        intro n
        induction n with
        | zero => intro _; rfl
        | succ n ih3 => intro hn; show cntF _ n + _ = 0; rw [ih3 (by omega), if_pos (show (fun j => L.getD j false) n = true from all m (Nat.le_refl _) n (by omega))]
      rw [z m (Nat.le_refl _)] at hc
      omega
    have inb : ∀ j, j < ops.size → L.getD j true = L.getD j false := fun j hj => by
      simp [Array.getD_eq_getD_getElem?, Array.getElem?_eq_getElem (show j < L.size by omega)]
    show wpAny P .any ops Q ((ops.size - m + c) + 1) L _ w
    refine ⟨fun h => ?_, fun i hi => ?_⟩
    · obtain ⟨j, hj, hf, hq⟩ := hlt
      have hjs : j < ops.size := by omega
      have hr : j ∈ Region.ready .any ops L := mem_ready.2 ⟨(inb j hjs).trans hf, ops[j], Array.getElem?_eq_getElem hjs, fun e he hbd => hq e.on ?_⟩
      · rw [h] at hr; cases hr
      · have := List.all_eq_true.1 hord j (List.mem_range.2 hjs)
        rw [Array.getElem?_eq_getElem hjs] at this
        have := Array.all_eq_true'.1 this e he
        simpa [hbd] using this
    · obtain ⟨hu, o, hoi, hdeps⟩ := mem_ready.1 hi
      have his : i < ops.size := (Array.getElem?_eq_some_iff.1 hoi).1
      rw [inb i his] at hu
      have hdep : ∀ j, Dep o j → L.getD j false = true := fun j ⟨e, he, hb, hj⟩ => hj ▸ hdeps e he hb
      have him : i < m := by
        refine Classical.byContradiction fun hge => ?_
        have := List.all_eq_true.1 htail i (List.mem_range.2 his)
        rw [hoi, decide_eq_false hge] at this
        obtain ⟨j, hj, hf, _⟩ := hlt
        have h2 : ∀ x, x < m → x ∈ cloB ops ops.size (List.filter (depB o) (List.range ops.size)) := by simpa using this
        have : L.getD j false = true := cloB_sound (L := fun j => L.getD j false) hclo ops.size _ (fun q hq => hdep q (dep_of (List.mem_filter.1 hq).2)) j (h2 j hj)
        rw [hf] at this
        cases this
      obtain ⟨hg, hw⟩ := step_ok hB hd hsz him (hs i him) ho hb hu hoi hdep
      unfold wpOp
      simp only [hoi]
      rw [if_pos (by unfold Region.wanted; rw [hg])]
      refine .inl (Oper.wp_mono ?_ hw)
      rintro a' w' ⟨v', rfl, ho', hb'⟩
      have hset : (fun j => (L.setIfInBounds i true).getD j false) = fun k => if k = i then true else L.getD k false := by
        funext j
        by_cases e : j = i
        · subst e
          rw [if_pos rfl]
          simp [Array.getD_eq_getD_getElem?, show j < L.size by omega]
        · rw [if_neg e]
          exact getD_set_ne false (Ne.symm e)
      rw [← hset] at ho' hb' ⊢
      refine ih (L.setIfInBounds i true) v' w' (by simpa using hL) ?_ ?_ ?_ ho' hb'
      · rw [hset]
        have := cntF_set (L := fun j => L.getD j false) hu m him
        omega
      · intro j hj
        rw [congrFun hset j, if_neg (by omega)]
        exact htop j hj
      · intro j oj hoj hlj q hq
        rw [congrFun hset q]
        by_cases e : q = i
        · rw [if_pos e]
        · rw [if_neg e]
          rw [congrFun hset j] at hlj
          by_cases e2 : j = i
          · subst e2
            rw [hoi] at hoj
            obtain rfl := Option.some.inj hoj
            exact hdep q hq
          · rw [if_neg e2] at hlj
            exact hclo j oj hoj hlj q hq

/-- **A region of such operations, in whatever order**: m of them, behind which the rest comes. -/
theorem region_fun {id : Nat} (m : Nat) (D : Nat → Kd) (hm : P.follows .mixedOrders = true) (hmn : m ≤ ops.size) (hd : apartB ops m = true) (hord : orderB ops = true) (htail : tailB ops m = true) (hsz : dstB ops a0.tmps.size = true)
    (hs : ∀ i, i < m → StepOk P Q ops m a0 w0 D i)
    (hK : ∀ v w, OkAll w0.heap.size D v (fun j => decide (j < m)) w → Kept (HitBy D (fun j => decide (j < m))) w0 w → wpAny P .any ops Q (ops.size - m) (listedTo ops.size m) (putAll ops v (fun j => decide (j < m)) a0 m) w) :
    (Code.region id ops true).wp P Q a0 w0 := by
  refine wp_region_any hm ?_
  have hz : ∀ j, (Array.replicate ops.size false).getD j false = false := fun j => by
    simp only [Array.getD_eq_getD_getElem?, Array.getElem?_replicate]
    split <;> rfl
  have hzf : (fun j => (Array.replicate ops.size false).getD j false) = fun _ => false := funext hz
  have hput : ∀ v n, putAll ops v (fun _ => false) a0 n = a0 := fun v n => by
    induction n with
    | zero => rfl
    | succ n ih => unfold putAll; rw [if_neg (by decide)]; exact ih
  have hcnt : ∀ n, cntF (fun _ => false) n = n := fun n => by
    induction n with
    | zero => rfl
    | succ n ih => unfold cntF; rw [ih]; rfl
  have := any_ok (P := P) (Q := Q) (ops := ops) (m := m) (a0 := a0) (w0 := w0) (D := D) rfl hmn (apart_of hd)
    (fun j d hjd => by
      by_cases h : j < ops.size
      · have := List.all_eq_true.1 hsz j (List.mem_range.2 h)
        rw [hjd] at this
        simpa using this
      · unfold dstOf at hjd
        rw [Array.getElem?_eq_none (by omega)] at hjd
        cases hjd)
    hord htail hs hK m (Array.replicate ops.size false) (fun _ => undef) w0.drew (by simp) (by rw [hzf, hcnt]) (fun j _ => hz j) (fun i o _ hl => by rw [hz] at hl; cases hl)
    (fun i hl => by have hl : (Array.replicate ops.size false).getD i false = true := hl; rw [hz] at hl; cases hl) ⟨rfl, rfl, rfl, Nat.le_refl _, fun _ _ _ => rfl⟩
  rw [hzf, hput, show ops.size - m + m = ops.size by omega] at this
  exact this
end

/-! ### The pieces -/
section
variable {P : Program} {Q : Exit → Act → World → Prop} {ops : Array Oper} {m : Nat} {a0 : Act} {w0 : World} {D : Nat → Kd} {i : Nat} {o : Oper}
theorem stepRun {x : Value} (N : List (Tmp × Value)) (hoi : ops[i]? = some o) (hg : o.guard = none) (hD : D i = .val x) (hN : ∀ p ∈ N, Src ops m a0 D o p.1 p.2)
    (hr : ∀ (a : Act) (w : World), (∀ p ∈ N, a.eval (.tmp p.1) = p.2) → Kept (Hits D) w0 w → (execOp a.eval o).run P w = .ok (.value x) w) : StepOk P Q ops m a0 w0 D i := by
  refine ⟨o, hoi, hg, ?_⟩
  rw [hD]
  refine ⟨N, hN, fun a w ha hb => ?_⟩
  unfold Oper.wp
  rw [hr a w ha hb]
  exact ⟨rfl, Below.refl _ _⟩
theorem stepLoad {x : Value} {T : TypeId} {k : Tmp} (y : Value) (hoi : ops[i]? = some o) (hg : o.guard = none) (hD : D i = .val x) (hop : o.op = .load T (.tmp k)) (hk : Src ops m a0 D o k y)
    (hl : ∀ w, Kept (Hits D) w0 w → (Instr.loadAt T y).run P w = .ok x w) : StepOk P Q ops m a0 w0 D i := by
  refine stepRun [(k, y)] hoi hg hD (fun p hp => by rw [List.mem_singleton.1 hp]; exact hk) fun a w ha hb => ?_
  have := ha (k, y) (by simp)
  unfold execOp
  simp only [hop]
  simp only [this, Sem.run_bind, hl w hb, Result.andThen_ok, Sem.run_pure]
theorem stepField {x : Value} {T f : Nat} {k : Tmp} (y : Value) (hoi : ops[i]? = some o) (hg : o.guard = none) (hD : D i = .val x) (hop : o.op = .fieldAddr T (.tmp k) f) (hk : Src ops m a0 D o k y)
    (hl : ∀ w, (Instr.fieldAt T y f).run P w = .ok x w) : StepOk P Q ops m a0 w0 D i := by
  refine stepRun [(k, y)] hoi hg hD (fun p hp => by rw [List.mem_singleton.1 hp]; exact hk) fun a w ha hb => ?_
  have := ha (k, y) (by simp)
  unfold execOp
  simp only [hop]
  simp only [this, Sem.run_bind, hl w, Result.andThen_ok, Sem.run_pure]
theorem stepBuild {x : Value} {T : TypeId} {ps : Array (Nat × Operand)} (N : List (Tmp × Value)) (ys : Array (Nat × Value)) (hoi : ops[i]? = some o) (hg : o.guard = none) (hD : D i = .val x) (hop : o.op = .build T ps) (hN : ∀ p ∈ N, Src ops m a0 D o p.1 p.2)
    (hy : ∀ a : Act, (∀ p ∈ N, a.eval (.tmp p.1) = p.2) → (ps.map fun (i, x) => (i, a.eval x)) = ys) (hl : ∀ w, (Instr.build T ys).run P w = .ok x w) : StepOk P Q ops m a0 w0 D i := by
  refine stepRun N hoi hg hD hN fun a w ha hb => ?_
  have := hy a ha
  unfold execOp
  simp only [hop]
  simp only [this, Sem.run_bind, hl w, Result.andThen_ok, Sem.run_pure]
theorem cf_of {f : FuncId} {fn : Func} (hf : P.funcs[f]? = some fn) (hn : (fn.name == "runtime.NumGoroutine") = false) (hb : fn.body.isNone = false) (args : Array Value) (w : World) : (callFunc f args).run P w = .ok (.enter f args) w := by
  have h1 : fn.name ≠ "runtime.NumGoroutine" := by simpa using hn
  have h2 : fn.body ≠ none := fun e => by rw [e] at hb; cases hb
  simp [callFunc, hf, h1, h2]
/-- A call, its arguments all in slots. -/
theorem stepCall {x : Value} {f : FuncId} {ks : List Tmp} {ats : Array TypeId} (ys : List Value) (hoi : ops[i]? = some o) (hg : o.guard = none) (hD : D i = .val x) (hop : o.op = .call { callee := .value (.func f), args := (ks.map Operand.tmp).toArray, argTypes := ats })
    (hcf : ∀ args w, (callFunc f args).run P w = .ok (.enter f args) w) (hlen : ks.length = ys.length) (hk : ∀ p ∈ ks.zip ys, Src ops m a0 D o p.1 p.2)
    (hc : ∀ w, Kept (Hits D) w0 w → Calls P f ys.toArray w fun e w' => e = .returned x ∧ Below w.heap.size w w') : StepOk P Q ops m a0 w0 D i := by
  refine ⟨o, hoi, hg, ?_⟩
  rw [hD]
  refine ⟨ks.zip ys, hk, fun a w ha hb => ?_⟩
  have hargs : (ks.map Operand.tmp).toArray.map a.eval = ys.toArray := by
    rw [List.map_toArray, List.map_map]
    congr 1
    clear hk hc hop
    induction ks generalizing ys with
    | nil => cases ys with
      | nil => rfl
      | cons _ _ => simp at hlen
    | cons k ks ih => cases ys with
      | nil => simp at hlen
      | cons y ys =>
        rw [List.map_cons, ih ys (by simpa using hlen) (fun p hp => ha p (by rw [List.zip_cons_cons]; exact List.mem_cons_of_mem _ hp))]
        have := ha (k, y) (by rw [List.zip_cons_cons]; exact List.mem_cons_self)
        rw [Function.comp_apply, this]
  have he : (execOp a.eval o).run P w = .ok (.enter f ys.toArray) w := by
    unfold execOp
    simp only [hop]
    have e : (do let d ← resolve a.eval { callee := .value (.func f), args := (ks.map Operand.tmp).toArray, argTypes := ats } o.type; invoke d.target d.args : Sem Next) = callFunc f (#[] ++ (ks.map Operand.tmp).toArray.map a.eval ++ #[]) := rfl
    rw [e, hargs, Array.empty_append, Array.append_empty]
    exact hcf _ _
  unfold Oper.wp
  rw [he]
  refine Calls.mono (hc w hb) ?_
  rintro e w' ⟨rfl, hb'⟩
  exact ⟨rfl, hb'⟩
theorem stepNew {T : TypeId} {Z : Array Value} (hoi : ops[i]? = some o) (hg : o.guard = none) (hD : D i = .new T Z) (hop : o.op = .alloc T)
    (hl : ∀ w, (Instr.alloc T true (.tuple #[])).run P w = .ok (.pointer (some ⟨w.heap.size, 0, none⟩)) (w.alloc (.cells Z T))) : StepOk P Q ops m a0 w0 D i := by
  refine ⟨o, hoi, hg, ?_⟩
  rw [hD]
  exact ⟨hop, hl⟩
theorem stepPut {j : Nat} {T : TypeId} {Z cs : Array Value} {d k : Tmp} (hoi : ops[i]? = some o) (hg : o.guard = none) (hD : D i = .put j T cs) (hop : o.op = .store T (.tmp d) (.tmp k)) (hdn : o.dst = none) (hjm : j < m) (hjd : dstOf ops j = some d) (hdep : depB o j = true)
    (hj : D j = .new T Z) (hz : Z.size = cs.size) (hk : Src ops m a0 D o k (.agg cs)) (hi : (P.info? T).map (·.size) = some cs.size) (h1 : cs.all (·.oneCell') = true) (hu : ∀ i', i' ≠ i → ∀ T' cs', D i' ≠ .put j T' cs') : StepOk P Q ops m a0 w0 D i := by
  refine ⟨o, hoi, hg, ?_⟩
  rw [hD]
  exact ⟨d, k, hop, hdn, hjm, hjd, dep_of hdep, ⟨Z, hj, hz⟩, hk, hi, h1, hu⟩

theorem stepOld {g : Nat} {T : TypeId} {od cs : Array Value} {d k : Tmp} (hoi : ops[i]? = some o) (hg : o.guard = none) (hD : D i = .old g T cs) (hop : o.op = .store T (.tmp d) (.tmp k)) (hdn : o.dst = none) (hsd : Src ops m a0 D o d (.pointer (some ⟨g, 0, none⟩)))
    (hb : w0.heap[g]? = some (.cells od T (0, 0))) (hz : od.size = cs.size) (hk : Src ops m a0 D o k (.agg cs)) (hi : (P.info? T).map (·.size) = some cs.size) (h1 : cs.all (·.oneCell') = true) (hu : ∀ i', i' ≠ i → ∀ T' cs', D i' ≠ .old g T' cs') : StepOk P Q ops m a0 w0 D i := by
  refine ⟨o, hoi, hg, ?_⟩
  rw [hD]
  exact ⟨d, k, od, hop, hdn, hsd, hb, hz, hk, hi, h1, hu⟩
theorem stepMove {x : Value} {k : Tmp} (hoi : ops[i]? = some o) (hg : o.guard = none) (hD : D i = .val x) (hop : o.op = .move (.tmp k)) (hk : Src ops m a0 D o k x) : StepOk P Q ops m a0 w0 D i := by
  refine stepRun [(k, x)] hoi hg hD (fun p hp => by rw [List.mem_singleton.1 hp]; exact hk) fun a w ha hb => ?_
  have := ha (k, x) (by simp)
  unfold execOp
  simp only [hop]
  simp only [this, Sem.run_pure]
theorem stepAssign {x : Value} {k : Tmp} (hoi : ops[i]? = some o) (hg : o.guard = none) (hD : D i = .val x) (hop : o.op = .assign (.tmp k)) (hk : Src ops m a0 D o k x) : StepOk P Q ops m a0 w0 D i := by
  refine stepRun [(k, x)] hoi hg hD (fun p hp => by rw [List.mem_singleton.1 hp]; exact hk) fun a w ha hb => ?_
  have := ha (k, x) (by simp)
  unfold execOp
  simp only [hop]
  simp only [this, Sem.run_pure]
theorem okOld {B : Nat} {v : Nat → Value} {L : Nat → Bool} {w : World} {g : Nat} {T : TypeId} {cs : Array Value} (h : OkAll B D v L w) (hl : L i = true) (hj : D i = .old g T cs) : w.heap[g]? = some (.cells cs T (0, 0)) := by
  have := h i hl
  unfold OkAt at this
  rw [hj] at this
  exact this.2

/-- The frame behind all of the first m. -/
def putL : List (Option Tmp) → (Nat → Value) → Nat → Act → Act
  | [], _, _, a => a
  | d :: ds, v, n, a => putL ds v (n + 1) (a.put d (v n))
theorem putL_snoc (v : Nat → Value) (d : Option Tmp) : ∀ (ds : List (Option Tmp)) (n : Nat) (a : Act), putL (ds ++ [d]) v n a = (putL ds v n a).put d (v (n + ds.length))
  | [], n, a => rfl
  | e :: ds, n, a => by
    show putL (ds ++ [d]) v (n + 1) (a.put e (v n)) = _
    rw [putL_snoc v d ds (n + 1)]
    show (putL ds v (n + 1) (a.put e (v n))).put d (v (n + 1 + ds.length)) = _
    rw [show n + 1 + ds.length = n + (e :: ds).length by simp; omega]
    rfl
theorem putAll_list (v : Nat → Value) (a : Act) (M : Nat) : ∀ n, n ≤ M → putAll ops v (fun j => decide (j < M)) a n = putL ((List.range n).map (dstOf ops)) v 0 a
  | 0, _ => rfl
  | n + 1, h => by
    have ih := putAll_list v a M n (by omega)
    unfold putAll
    rw [if_pos (decide_eq_true (by omega)), ih, List.range_succ, List.map_append]
    show _ = putL (_ ++ [dstOf ops n]) v 0 a
    rw [putL_snoc]
    simp
theorem region_all {id : Nat} (m : Nat) (D : Nat → Kd) (ds : List (Option Tmp)) (hm : P.follows .mixedOrders = true) (hmn : ops.size = m) (hds : (List.range m).map (dstOf ops) = ds) (hd : apartB ops m = true) (hord : orderB ops = true) (hsz : dstB ops a0.tmps.size = true)
    (hs : ∀ i, i < m → StepOk P Q ops m a0 w0 D i)
    (hK : ∀ v w, OkAll w0.heap.size D v (fun j => decide (j < m)) w → Kept (HitBy D (fun j => decide (j < m))) w0 w → Q .normal (putL ds v 0 a0) w) :
    (Code.region id ops true).wp P Q a0 w0 := by
  refine region_fun m D hm (by omega) hd hord ?_ hsz hs fun v w ho hb => ?_
  · refine List.all_eq_true.2 fun i hi => ?_
    rw [decide_eq_true (by have := List.mem_range.1 hi; omega : i < m)]
    rfl
  · have := hK v w ho hb
    rw [← hds, ← putAll_list v a0 m m (Nat.le_refl _)] at this
    have hr : Region.ready .any ops (listedTo ops.size m) = [] := by
      unfold Region.ready
      rw [List.filter_eq_nil_iff]
      intro j hj
      have hj := List.mem_range.1 hj
      have e : (listedTo ops.size m).getD j true = true := by
        simp [listedTo, Array.getD_eq_getD_getElem?, hj]
        omega
      simp [e]
    rw [show ops.size - m = 0 by omega]
    exact ⟨hr, this⟩
theorem region_tail1 {id : Nat} (m : Nat) (D : Nat → Kd) (ds : List (Option Tmp)) (hm : P.follows .mixedOrders = true) (hmn : ops.size = m + 1) (hds : (List.range m).map (dstOf ops) = ds) (hd : apartB ops m = true) (hord : orderB ops = true) (htail : tailB ops m = true) (hsz : dstB ops a0.tmps.size = true)
    (hr1 : Region.ready .any ops (listedTo ops.size m) = [m]) (hr2 : Region.ready .any ops ((listedTo ops.size m).setIfInBounds m true) = []) (hom : ops[m]? = some o) (hg : o.guard = none)
    (hs : ∀ i, i < m → StepOk P Q ops m a0 w0 D i)
    (hK : ∀ v w, OkAll w0.heap.size D v (fun j => decide (j < m)) w → Kept (HitBy D (fun j => decide (j < m))) w0 w → o.wp P (putL ds v 0 a0) w (fun a' w' => Q .normal a' w') Q) :
    (Code.region id ops true).wp P Q a0 w0 := by
  refine region_fun m D hm (by omega) hd hord htail hsz hs fun v w ho hb => ?_
  have := hK v w ho hb
  rw [← hds, ← putAll_list v a0 m m (Nat.le_refl _)] at this
  rw [show ops.size - m = 0 + 1 by omega]
  refine ⟨fun h => by (rw [hr1] at h; cases h), fun i hi => ?_⟩
  rw [hr1] at hi
  obtain rfl := List.mem_singleton.1 hi
  unfold wpOp
  simp only [hom]
  rw [if_pos (by unfold Region.wanted; rw [hg])]
  exact .inl (Oper.wp_mono (fun a w h => ⟨hr2, h⟩) this)
theorem region_tail2 {id : Nat} {o2 : Oper} (m : Nat) (D : Nat → Kd) (ds : List (Option Tmp)) (hm : P.follows .mixedOrders = true) (hmn : ops.size = m + 2) (hds : (List.range m).map (dstOf ops) = ds) (hd : apartB ops m = true) (hord : orderB ops = true) (htail : tailB ops m = true) (hsz : dstB ops a0.tmps.size = true)
    (hr1 : Region.ready .any ops (listedTo ops.size m) = [m]) (hr2 : Region.ready .any ops ((listedTo ops.size m).setIfInBounds m true) = [m + 1]) (hr3 : Region.ready .any ops (((listedTo ops.size m).setIfInBounds m true).setIfInBounds (m + 1) true) = []) (hom : ops[m]? = some o) (hg : o.guard = none) (hom2 : ops[m + 1]? = some o2) (hg2 : o2.guard = none)
    (hs : ∀ i, i < m → StepOk P Q ops m a0 w0 D i)
    (hK : ∀ v w, OkAll w0.heap.size D v (fun j => decide (j < m)) w → Kept (HitBy D (fun j => decide (j < m))) w0 w → o.wp P (putL ds v 0 a0) w (fun a' w' => o2.wp P a' w' (fun a'' w'' => Q .normal a'' w'') Q) Q) :
    (Code.region id ops true).wp P Q a0 w0 := by
  refine region_fun m D hm (by omega) hd hord htail hsz hs fun v w ho hb => ?_
  have := hK v w ho hb
  rw [← hds, ← putAll_list v a0 m m (Nat.le_refl _)] at this
  rw [show ops.size - m = 0 + 1 + 1 by omega]
  refine ⟨fun h => by (rw [hr1] at h; cases h), fun i hi => ?_⟩
  rw [hr1] at hi
  obtain rfl := List.mem_singleton.1 hi
  unfold wpOp
  simp only [hom]
  rw [if_pos (by unfold Region.wanted; rw [hg])]
  refine .inl (Oper.wp_mono (fun a w h => ?_) this)
  refine ⟨fun h => by (rw [hr2] at h; cases h), fun j hj => ?_⟩
  rw [hr2] at hj
  obtain rfl := List.mem_singleton.1 hj
  unfold wpOp
  simp only [hom2]
  rw [if_pos (by unfold Region.wanted; rw [hg2])]
  exact .inl (Oper.wp_mono (fun a w h => ⟨hr3, h⟩) h)
/-- A store into a variable that was there. -/
theorem wp_store_old {a : Act} {w : World} {K : Act → World → Prop} {T : TypeId} {x y : Operand} (g : Nat) (cs old : Array Value) (hop : o.op = .store T x y) (hdn : o.dst = none) (hx : a.eval x = .pointer (some ⟨g, 0, none⟩)) (hy : a.eval y = .agg cs)
    (hgb : w.heap[g]? = some (.cells old T (0, 0))) (hinfo : (P.info? T).map (·.size) = some cs.size) (hos : old.size = cs.size) (hone : cs.all (·.oneCell') = true) (h : K a (w.setRow g cs)) : o.wp P a w K Q := by
  have hst := run_storeVar_row (P := P) w g T T old cs hgb hinfo hos hone
  unfold Oper.wp execOp
  simp only [hop, hx, hy, Instr.storeAt, Instr.sureAddr, Sem.run_bind, Sem.run_pure, Result.andThen_ok, hst, Oper.upon]
  rw [hdn]
  exact h

/-- The same in a plain region. -/
theorem list_ok (hmn : m ≤ ops.size) (hd : Apart ops m) (hsz : ∀ j d, dstOf ops j = some d → d < a0.tmps.size) (hord : orderB ops = true)
    (hs : ∀ i, i < m → StepOk P Q ops m a0 w0 D i)
    (hK : ∀ v w, OkAll w0.heap.size D v (fun j => decide (j < m)) w → Kept (HitBy D (fun j => decide (j < m))) w0 w → wpList P ops Q (ops.toList.drop m) (putAll ops v (fun j => decide (j < m)) a0 m) w) :
    ∀ (c n : Nat) (v : Nat → Value) (w : World), n + c = m → OkAll w0.heap.size D v (fun j => decide (j < n)) w → Kept (HitBy D (fun j => decide (j < n))) w0 w → wpList P ops Q (ops.toList.drop n) (putAll ops v (fun j => decide (j < n)) a0 m) w := by
  intro c
  induction c with
  | zero =>
    intro n v w hn ho hb
    have e : n = m := by omega
    subst e
    exact hK v w ho hb
  | succ c ih =>
    intro n v w hn ho hb
    have hns : n < ops.size := by omega
    have hoi : ops[n]? = some ops[n] := Array.getElem?_eq_getElem hns
    have hdep : ∀ j, Dep ops[n] j → decide (j < n) = true := fun j ⟨e, he, hbd, hj⟩ => by
      have := List.all_eq_true.1 hord n (List.mem_range.2 hns)
      rw [hoi] at this
      have := Array.all_eq_true'.1 this e he
      rw [← hj]
      simpa [hbd] using this
    obtain ⟨hg, hw⟩ := step_ok rfl hd hsz (by omega : n < m) (hs n (by omega)) ho hb (decide_eq_false (by omega)) hoi hdep
    rw [List.drop_eq_getElem_cons (by simpa using hns)]
    show if Region.wanted ops.toList[n] _ then _ else _
    rw [Array.getElem_toList, if_pos (by unfold Region.wanted; rw [hg])]
    refine .inl (Oper.wp_mono ?_ hw)
    rintro a' w' ⟨v', rfl, ho', hb'⟩
    have he : (fun k => if k = n then true else decide (k < n)) = fun k => decide (k < n + 1) := by
      funext k
      by_cases c : k = n
      · subst c; simp
      · rw [if_neg c]; exact decide_eq_decide.2 (by omega)
    rw [he] at ho' hb' ⊢
    exact ih (n + 1) v' w' (by omega) ho' hb'
theorem region_seq {id : Nat} (m : Nat) (D : Nat → Kd) (ds : List (Option Tmp)) (hmn : m ≤ ops.size) (hds : (List.range m).map (dstOf ops) = ds) (hd : apartB ops m = true) (hord : orderB ops = true) (hsz : dstB ops a0.tmps.size = true)
    (hs : ∀ i, i < m → StepOk P Q ops m a0 w0 D i)
    (hK : ∀ v w, OkAll w0.heap.size D v (fun j => decide (j < m)) w → Kept (HitBy D (fun j => decide (j < m))) w0 w → wpList P ops Q (ops.toList.drop m) (putL ds v 0 a0) w) :
    (Code.region id ops false).wp P Q a0 w0 := by
  refine wp_region_list ?_
  have hput : ∀ v n, putAll ops v (fun _ => false) a0 n = a0 := fun v n => by
    induction n with
    | zero => rfl
    | succ n ih => unfold putAll; rw [if_neg (by decide)]; exact ih
  have := list_ok (P := P) (Q := Q) (ops := ops) (m := m) (a0 := a0) (w0 := w0) (D := D) hmn (apart_of hd)
    (fun j d hjd => by
      by_cases h : j < ops.size
      · have := List.all_eq_true.1 hsz j (List.mem_range.2 h)
        rw [hjd] at this
        simpa using this
      · unfold dstOf at hjd
        rw [Array.getElem?_eq_none (by omega)] at hjd
        cases hjd)
    hord hs (fun v w ho hb => by
      have := hK v w ho hb
      rw [← hds, ← putAll_list v a0 m m (Nat.le_refl _)] at this
      exact this) m 0 (fun _ => undef) w0 (by omega) (fun i hl => by simp at hl) (Kept.refl _ _)
  have e : (fun j => decide (j < 0)) = fun _ => false := by funext j; simp
  rw [e, hput] at this
  exact this
end

end Go.My

/- Regions by a list of kinds: small aids. Nothing of the program is named. -/
namespace Go.My
open Go.RowKit
set_option linter.unusedVariables false

def kdAt (l : List Kd) (i : Nat) : Kd := l.getD i (.val undef)
def putsB (l : List Kd) (i j : Nat) : Bool := l.zipIdx.all fun p => p.2 == i || (match p.1 with | .put q _ _ => q != j | _ => true)
theorem uniq_of {l : List Kd} {i j : Nat} (h : putsB l i j = true) : ∀ i', i' ≠ i → ∀ T cs, kdAt l i' ≠ .put j T cs := by
  intro i' hne T cs e
  unfold kdAt at e
  rw [List.getD_eq_getElem?_getD] at e
  cases hi : l[i']? with
  | none => rw [hi] at e; simp at e
  | some k =>
    rw [hi] at e
    simp at e
    subst e
    have hm : (Kd.put j T cs, i') ∈ l.zipIdx := by rw [List.mk_mem_zipIdx_iff_getElem?]; exact hi
    have := List.all_eq_true.1 h _ hm
    simp [hne] at this
theorem all0 {C : Nat → Prop} : ∀ i, i < 0 → C i := fun i h => by omega
theorem allS {C : Nat → Prop} {n : Nat} (h : ∀ i, i < n → C i) (hn : C n) : ∀ i, i < n + 1 → C i := fun i hi => by
  by_cases c : i = n
  · rw [c]; exact hn
  · exact h i (by omega)
theorem src1 {C : Tmp → Value → Prop} {k : Tmp} {y : Value} (h : C k y) : ∀ p ∈ [k].zip [y], C p.1 p.2 := fun p hp => by
  rw [List.mem_singleton.1 hp]; exact h
theorem src2 {C : Tmp → Value → Prop} {k l : Tmp} {y z : Value} (h : C k y) (h2 : C l z) : ∀ p ∈ [k, l].zip [y, z], C p.1 p.2 := fun p hp => by
  rcases List.mem_cons.1 hp with e | e
  · rw [e]; exact h
  · rw [List.mem_singleton.1 e]; exact h2
theorem src3 {C : Tmp → Value → Prop} {k l m : Tmp} {y z u : Value} (h : C k y) (h2 : C l z) (h3 : C m u) : ∀ p ∈ [k, l, m].zip [y, z, u], C p.1 p.2 := fun p hp => by
  rcases List.mem_cons.1 hp with e | e
  · rw [e]; exact h
  · rcases List.mem_cons.1 e with e | e
    · rw [e]; exact h2
    · rw [List.mem_singleton.1 e]; exact h3
theorem srcN1 {C : Tmp → Value → Prop} {k : Tmp} {y : Value} (h : C k y) : ∀ p ∈ [(k, y)], C p.1 p.2 := fun p hp => by
  rw [List.mem_singleton.1 hp]; exact h
theorem srcN2 {C : Tmp → Value → Prop} {k l : Tmp} {y z : Value} (h : C k y) (h2 : C l z) : ∀ p ∈ [(k, y), (l, z)], C p.1 p.2 := fun p hp => by
  rcases List.mem_cons.1 hp with e | e
  · rw [e]; exact h
  · rw [List.mem_singleton.1 e]; exact h2

def oldsOf (l : List Kd) : List Nat := l.filterMap fun | .old g _ _ => some g | _ => none
theorem hits_of {l : List Kd} {k : Nat} (h : Hits (kdAt l) k) : k ∈ oldsOf l := by
  obtain ⟨i, T, cs, e⟩ := h
  unfold kdAt at e
  rw [List.getD_eq_getElem?_getD] at e
  cases hi : l[i]? with
  | none => rw [hi] at e; simp at e
  | some q =>
    rw [hi] at e
    simp at e
    subst e
    exact List.mem_filterMap.2 ⟨_, List.mem_of_getElem? hi, rfl⟩
theorem hitBy_of {l : List Kd} {L : Nat → Bool} {k : Nat} (h : HitBy (kdAt l) L k) : Hits (kdAt l) k := by
  obtain ⟨i, T, cs, _, e⟩ := h
  exact ⟨i, T, cs, e⟩
theorem nh0 {l : List Kd} (h : oldsOf l = []) : ∀ k, ¬ Hits (kdAt l) k := fun k c => by have := hits_of c; rw [h] at this; cases this
theorem nh1 {l : List Kd} {t : Nat} (h : oldsOf l = [t]) {k : Nat} (hk : k ≠ t) : ¬ Hits (kdAt l) k := fun c => by have := hits_of c; rw [h] at this; exact hk (List.mem_singleton.1 this)
theorem nh2 {l : List Kd} {t u : Nat} (h : oldsOf l = [t, u]) {k : Nat} (hk : k ≠ t) (hk2 : k ≠ u) : ¬ Hits (kdAt l) k := fun c => by
  have := hits_of c
  rw [h] at this
  rcases List.mem_cons.1 this with e | e
  · exact hk e
  · exact hk2 (List.mem_singleton.1 e)
theorem Kept.all {l : List Kd} {L : Nat → Bool} {w w' : World} (h : Kept (HitBy (kdAt l) L) w w') : Kept (Hits (kdAt l)) w w' := h.mono fun _ => hitBy_of
def olds1B (l : List Kd) (i : Nat) (g : Nat) : Prop := ∀ i', i' ≠ i → ∀ T cs, kdAt l i' ≠ .old g T cs
theorem olds_single {l : List Kd} {i g : Nat} {T : TypeId} {cs : Array Value} (hi : l[i]? = some (.old g T cs)) (h : ∀ q, q ≠ i → ∀ g' T' cs', l[q]? = some (.old g' T' cs') → g' ≠ g) : olds1B l i g := by
  intro q hq T' cs' e
  unfold kdAt at e
  rw [List.getD_eq_getElem?_getD] at e
  cases hi : l[q]? with
  | none => rw [hi] at e; simp at e
  | some k =>
    rw [hi] at e
    simp at e
    subst e
    exact h q hq g T' cs' hi rfl
/-- The places of the stores into old blocks. -/
def oldIdx (l : List Kd) : List (Nat × Nat) := l.zipIdx.filterMap fun p => match p.1 with | .old g _ _ => some (p.2, g) | _ => none
theorem mem_oldIdx {l : List Kd} {q g : Nat} {T : TypeId} {cs : Array Value} (h : kdAt l q = .old g T cs) : (q, g) ∈ oldIdx l := by
  unfold kdAt at h
  rw [List.getD_eq_getElem?_getD] at h
  cases hi : l[q]? with
  | none => rw [hi] at h; simp at h
  | some k =>
    rw [hi] at h
    simp at h
    subst h
    exact List.mem_filterMap.2 ⟨(_, q), List.mk_mem_zipIdx_iff_getElem?.2 hi, rfl⟩
theorem one_old {l : List Kd} {i g : Nat} (h : oldIdx l = [(i, g)]) : ∀ i', i' ≠ i → ∀ T cs, kdAt l i' ≠ .old g T cs := fun q hq T cs e => by
  have := mem_oldIdx e
  rw [h] at this
  have := List.mem_singleton.1 this
  injection this with a b
  exact hq a
theorem two_old {l : List Kd} {i g j k : Nat} (h : oldIdx l = [(i, g), (j, k)]) (hgk : g ≠ k) : (∀ i', i' ≠ i → ∀ T cs, kdAt l i' ≠ .old g T cs) ∧ (∀ i', i' ≠ j → ∀ T cs, kdAt l i' ≠ .old k T cs) := by
  constructor
  · intro q hq T cs e
    have := mem_oldIdx e
    rw [h] at this
    rcases List.mem_cons.1 this with e | e
    · injection e with a b; exact hq a
    · have := List.mem_singleton.1 e; injection this with a b; exact hgk b
  · intro q hq T cs e
    have := mem_oldIdx e
    rw [h] at this
    rcases List.mem_cons.1 this with e | e
    · injection e with a b; exact hgk b.symm
    · have := List.mem_singleton.1 e; injection this with a b; exact hq a
theorem okRowB {B : Nat} {D : Nat → Kd} {v : Nat → Value} {L : Nat → Bool} {w : World} {i j : Nat} {T T' : TypeId} {cs Z : Array Value} (h : OkAll B D v L w) (hl : L i = true) (hlj : L j = true) (hi : D i = .put j T cs) (hj : D j = .new T' Z) : ∃ g, v j = .pointer (some ⟨g, 0, none⟩) ∧ w.heap[g]? = some (.cells cs T (0, 0)) ∧ B ≤ g := by
  obtain ⟨g, h1, h2⟩ := okRow h hl hi
  obtain ⟨g', _, h3, h4, _⟩ := okPtr h hlj hj
  rw [h1] at h3
  injection h3 with e; injection e with e; injection e with e
  exact ⟨g, h1, h2, by omega⟩
theorem okNe {B : Nat} {D : Nat → Kd} {v : Nat → Value} {L : Nat → Bool} {w : World} {i j : Nat} {T T' : TypeId} {Z Z' : Array Value} {g g' : Nat} (h : OkAll B D v L w) (hl : L i = true) (hlj : L j = true) (hi : D i = .new T Z) (hj : D j = .new T' Z') (hne : i ≠ j)
    (e1 : v i = .pointer (some ⟨g, 0, none⟩)) (e2 : v j = .pointer (some ⟨g', 0, none⟩)) : g ≠ g' := fun c => by
  have := h i hl
  unfold OkAt at this
  rw [hi] at this
  exact this.2 j (Ne.symm hne) hlj ⟨_, _, hj⟩ (by rw [e1, e2, c])
theorem ne_new {a g M : Nat} (h : a < M) (hg : M ≤ g) : g ≠ a := by omega
/-- A block as it is. -/
def Blk (g : Nat) (cs : Array Value) (T : TypeId) (w : World) : Prop := w.heap[g]? = some (.cells cs T (0, 0))
theorem Blk.h {g : Nat} {cs : Array Value} {T : TypeId} {w : World} (h : Blk g cs T w) : w.heap[g]? = some (.cells cs T (0, 0)) := h
theorem Blk.below {g : Nat} {cs : Array Value} {T : TypeId} {V W : World} (hb : Below V.heap.size V W) (h : Blk g cs T V) : Blk g cs T W := (hb.block g (Array.getElem?_eq_some_iff.1 h).1).trans h
theorem Blk.lt {g : Nat} {cs : Array Value} {T : TypeId} {W : World} (h : Blk g cs T W) : g < W.heap.size := (Array.getElem?_eq_some_iff.1 h).1
theorem Blk.cell {g j : Nat} {cs : Array Value} {T : TypeId} {W : World} {v : Value} (h : Blk g cs T W) (hj : cs[j]? = some v) : W.cell? ⟨g, j, none⟩ = some v := (cell_of_row W g j cs T (0, 0) h).trans hj
theorem Blk.froz {g j : Nat} {cs : Array Value} {T : TypeId} {W : World} (h : Blk g cs T W) : W.frozen? ⟨g, j, none⟩ = false := frozen_of_row W g j cs T h
theorem Blk.set {g : Nat} {cs : Array Value} {T : TypeId} {W : World} (h : Blk g cs T W) (j : Nat) (v : Value) : Blk g (cs.setIfInBounds j v) T (W.setCell ⟨g, j, none⟩ v) := heap_setCell_same W g j cs T v h
theorem Blk.other {g k : Nat} {cs : Array Value} {T : TypeId} {W : World} (h : Blk g cs T W) (j : Nat) (v : Value) (hk : g ≠ k) : Blk g cs T (W.setCell ⟨k, j, none⟩ v) := (heap_setCell_other W ⟨k, j, none⟩ g v hk).trans h
theorem Blk.row {g k : Nat} {cs ds : Array Value} {T : TypeId} {W : World} (h : Blk g cs T W) (hne : g ≠ k) : Blk g cs T (W.setRow k ds) := (setRow_other W k g ds hne).trans h
theorem Blk.kept {g : Nat} {cs : Array Value} {T : TypeId} {G : Nat → Prop} {V W : World} (hb : Kept G V W) (hn : ¬ G g) (h : Blk g cs T V) : Blk g cs T W := (hb.block g (Array.getElem?_eq_some_iff.1 h).1 hn).trans h

end Go.My

/- Regions whose last operations come in their order; sums of strings and loads of strings within regions. -/
namespace Go.My
open Go.RowKit
set_option linter.unusedVariables false
section
variable {P : Program} {Q : Exit → Act → World → Prop} {ops : Array Oper} {m : Nat} {a0 : Act} {w0 : World} {D : Nat → Kd} {i : Nat} {o : Oper}
theorem anyStep {n i : Nat} {L : Array Bool} {rest : List Oper} {a : Act} {w : World} (hr : Region.ready .any ops L = [i]) (ho : ops[i]? = some o) (hK : ∀ a w, wpList P ops Q rest a w → wpAny P .any ops Q n (L.setIfInBounds i true) a w) (h : wpList P ops Q (o :: rest) a w) : wpAny P .any ops Q (n + 1) L a w := by
  refine ⟨fun h => by (rw [hr] at h; cases h), fun j hj => ?_⟩
  rw [hr] at hj
  obtain rfl := List.mem_singleton.1 hj
  unfold wpOp
  simp only [ho]
  unfold wpList at h
  by_cases c : Region.wanted o (yielded ops a.tmps) = true
  · rw [if_pos c] at h ⊢
    rcases h with h | h
    · exact .inl (Oper.wp_mono hK h)
    · exact .inr h
  · rw [if_neg c] at h ⊢
    exact hK _ _ h
theorem anyEnd {L : Array Bool} {a : Act} {w : World} (hr : Region.ready .any ops L = []) (h : wpList P ops Q [] a w) : wpAny P .any ops Q 0 L a w := ⟨hr, h⟩
theorem region_rest {id : Nat} (m : Nat) (D : Nat → Kd) (ds : List (Option Tmp)) (hm : P.follows .mixedOrders = true) (hmn : m ≤ ops.size) (hds : (List.range m).map (dstOf ops) = ds) (hd : apartB ops m = true) (hord : orderB ops = true) (htail : tailB ops m = true) (hsz : dstB ops a0.tmps.size = true)
    (rest : List Oper) (hT : ∀ a w, wpList P ops Q rest a w → wpAny P .any ops Q (ops.size - m) (listedTo ops.size m) a w)
    (hs : ∀ i, i < m → StepOk P Q ops m a0 w0 D i)
    (hK : ∀ v w, OkAll w0.heap.size D v (fun j => decide (j < m)) w → Kept (HitBy D (fun j => decide (j < m))) w0 w → wpList P ops Q rest (putL ds v 0 a0) w) :
    (Code.region id ops true).wp P Q a0 w0 := by
  refine region_fun m D hm hmn hd hord htail hsz hs fun v w ho hb => ?_
  have := hK v w ho hb
  rw [← hds, ← putAll_list v a0 m m (Nat.le_refl _)] at this
  exact hT _ _ this
theorem stepBin {x y z : Value} {bop : BinOp} {T U : TypeId} {k l : Tmp} (hoi : ops[i]? = some o) (hg : o.guard = none) (hD : D i = .val z) (hop : o.op = .binOp bop T (.tmp k) (.tmp l) U) (hk : Src ops m a0 D o k x) (hl : Src ops m a0 D o l y)
    (hr : ∀ w, (do eqGuard bop T (.tmp k) (.tmp l) x y; binOp bop T x y : Sem Value).run P w = .ok z w) : StepOk P Q ops m a0 w0 D i := by
  refine stepRun [(k, x), (l, y)] hoi hg hD (srcN2 hk hl) fun a w ha hb => ?_
  have h1 : a.eval (.tmp k) = x := ha (k, x) (by simp)
  have h2 : a.eval (.tmp l) = y := ha (l, y) (by simp)
  unfold execOp
  simp only [hop]
  simp only [h1, h2]
  rw [Sem.run_bind, hr w]
  rfl
end
end Go.My
namespace Go.Proofs.YtgjnoleejbkddaaDoor
open Go.RowKit Go.My
theorem strAdd (a b : ByteArray) (k l : Operand) (h : ¬ 9223372036854775807 < a.size + b.size) (w : World) : (do eqGuard .add 9 k l (.string a) (.string b); binOp .add 9 (.string a) (.string b) : Sem Value).run Tryd.prog w = .ok (.string (a ++ b)) w := by
  simp [eqGuard, binOp, go_sem, h]
theorem ldStr {g j : Nat} {s : ByteArray} {w : World} (h : w.cell? ⟨g, j, none⟩ = some (.string s)) : (Instr.loadAt 9 (.pointer (some ⟨g, j, none⟩))).run Tryd.prog w = .ok (.string s) w := by
  simp [Instr.loadAt, go_sem, h]
end Go.Proofs.YtgjnoleejbkddaaDoor

/- Further pieces of regions: nil checks, elements' addresses, words of 32 bits. -/
namespace Go.My
open Go.RowKit
set_option linter.unusedVariables false
section
variable {P : Program} {Q : Exit → Act → World → Prop} {ops : Array Oper} {m : Nat} {a0 : Act} {w0 : World} {D : Nat → Kd} {i : Nat} {o : Oper}
theorem stepNil {p : Addr} {k : Tmp} (hoi : ops[i]? = some o) (hg : o.guard = none) (hD : D i = .val (.pointer (some p))) (hop : o.op = .nilCheck (.tmp k)) (hk : Src ops m a0 D o k (.pointer (some p))) : StepOk P Q ops m a0 w0 D i := by
  refine stepRun [(k, .pointer (some p))] hoi hg hD (fun q hq => by rw [List.mem_singleton.1 hq]; exact hk) fun a w ha hb => ?_
  have := ha (k, .pointer (some p)) (by simp)
  unfold execOp
  simp only [hop]
  simp only [this, Sem.run_pure]
theorem stepIdx {x y z : Value} {T : TypeId} {k l : Tmp} (hoi : ops[i]? = some o) (hg : o.guard = none) (hD : D i = .val z) (hop : o.op = .indexAddr T (.tmp k) (.tmp l)) (hk : Src ops m a0 D o k x) (hl : Src ops m a0 D o l y)
    (hr : ∀ w, (Instr.indexAt T x y).run P w = .ok z w) : StepOk P Q ops m a0 w0 D i := by
  refine stepRun [(k, x), (l, y)] hoi hg hD (srcN2 hk hl) fun a w ha hb => ?_
  have h1 : a.eval (.tmp k) = x := ha (k, x) (by simp)
  have h2 : a.eval (.tmp l) = y := ha (l, y) (by simp)
  unfold execOp
  simp only [hop]
  simp only [h1, h2, Sem.run_bind, hr w, Result.andThen_ok, Sem.run_pure]
theorem stepBinL {c y z : Value} {bop : BinOp} {T U : TypeId} {l : Tmp} (hoi : ops[i]? = some o) (hg : o.guard = none) (hD : D i = .val z) (hop : o.op = .binOp bop T (.const c) (.tmp l) U) (hl : Src ops m a0 D o l y)
    (hr : ∀ w, (do eqGuard bop T (.const c) (.tmp l) c y; binOp bop T c y : Sem Value).run P w = .ok z w) : StepOk P Q ops m a0 w0 D i := by
  refine stepRun [(l, y)] hoi hg hD (srcN1 hl) fun a w ha hb => ?_
  have h2 : a.eval (.tmp l) = y := ha (l, y) (by simp)
  unfold execOp
  simp only [hop]
  simp only [h2]
  rw [Sem.run_bind]
  have := hr w
  simp only [Act.eval] at this ⊢
  rw [this]
  rfl
end
end Go.My
namespace Go.Proofs.YtgjnoleejbkddaaDoor
open Go.RowKit Go.My
set_option linter.unusedVariables false
theorem idxG (g i : Nat) (hi : i < 16) (w : World) : (Instr.indexAt 68 (.pointer (some ⟨g, 0, none⟩)) (.int .i64 i)).run Tryd.prog w = .ok (.pointer (some ⟨g, i, none⟩)) w := by
  have h2 : ¬ 16 ≤ i := by omega
  simp [Instr.indexAt, go_sem, h2]
theorem idxS (g i : Nat) (hi : i < 16) (w : World) : (Instr.indexAt 63 (.slice (some ⟨g, 0, none⟩) 16 16) (.int .i64 i)).run Tryd.prog w = .ok (.pointer (some ⟨g, i, none⟩)) w := by
  have h2 : ¬ 16 ≤ i := by omega
  simp [Instr.indexAt, go_sem, h2]
theorem ldW {g j : Nat} {x : Int} {w : World} (h : w.cell? ⟨g, j, none⟩ = some (.int .u32 x)) : (Instr.loadAt 64 (.pointer (some ⟨g, j, none⟩))).run Tryd.prog w = .ok (.int .u32 x) w := by
  simp [Instr.loadAt, go_sem, h]
theorem addW (a b : Int) (k l : Operand) (w : World) : (do eqGuard .add 64 k l (.int .u32 a) (.int .u32 b); binOp .add 64 (.int .u32 a) (.int .u32 b) : Sem Value).run Tryd.prog w = .ok (.int .u32 (add32 a b)) w := by
  simp [eqGuard, binOp, go_sem, add32]
theorem xorW (a b : Int) (k l : Operand) (w : World) : (do eqGuard .xor 64 k l (.int .u32 a) (.int .u32 b); binOp .xor 64 (.int .u32 a) (.int .u32 b) : Sem Value).run Tryd.prog w = .ok (.int .u32 (xor32 a b)) w := by
  simp [eqGuard, binOp, go_sem, xor32]
theorem orW (a b : Int) (k l : Operand) (w : World) : (do eqGuard .or 64 k l (.int .u32 a) (.int .u32 b); binOp .or 64 (.int .u32 a) (.int .u32 b) : Sem Value).run Tryd.prog w = .ok (.int .u32 (bits .or .u32 a b)) w := by
  simp [eqGuard, binOp, go_sem]
theorem subI (r : Nat) (h : r ≤ 32) (k l : Operand) (w : World) : (do eqGuard .sub 3 k l (.int .i64 32) (.int .i64 r); binOp .sub 3 (.int .i64 32) (.int .i64 r) : Sem Value).run Tryd.prog w = .ok (.int .i64 (32 - r : Nat)) w := by
  have : IntKind.i64.wrap (32 - (r : Int)) = ((32 - r : Nat) : Int) := by rw [IntKind.wrap_i64]; omega
  simp [eqGuard, binOp, go_sem, this]
theorem shlW (x : Int) (r : Nat) (h0 : 0 ≤ x) (h1 : x ≤ 4294967295) (hr : r ≤ 31) (k l : Operand) (w : World) : (do eqGuard .shl 64 k l (.int .u32 x) (.int .i64 r); binOp .shl 64 (.int .u32 x) (.int .i64 r) : Sem Value).run Tryd.prog w = .ok (.int .u32 (x * 2 ^ r % 4294967296)) w := by
  simp [eqGuard, binOp, go_sem]
  exact IntKind.wrap_u32 _
theorem shrW (x : Int) (r : Nat) (h0 : 0 ≤ x) (h1 : x ≤ 4294967295) (hr : r ≤ 31) (k l : Operand) (w : World) : (do eqGuard .shr 64 k l (.int .u32 x) (.int .i64 r); binOp .shr 64 (.int .u32 x) (.int .i64 r) : Sem Value).run Tryd.prog w = .ok (.int .u32 (x / 2 ^ r)) w := by
  simp [eqGuard, binOp, go_sem]
end Go.Proofs.YtgjnoleejbkddaaDoor

/- Rows of integers; words of 64 bits with their carries; bytes, the lowest first. Nothing of the program is named. -/
namespace Go.My
open Go.RowKit
set_option linter.unusedVariables false

/-! ### Rows -/
def rwL (k : IntKind) (n : Nat) (f : Nat → Int) : List Value := (List.range n).map fun q => Value.int k (f q)
def rwA (k : IntKind) (n : Nat) (f : Nat → Int) : Array Value := (rwL k n f).toArray
theorem rwL_len (k : IntKind) (n : Nat) (f : Nat → Int) : (rwL k n f).length = n := by simp [rwL]
theorem rwA_size (k : IntKind) (n : Nat) (f : Nat → Int) : (rwA k n f).size = n := by simp [rwA, rwL]
theorem rwA_get (k : IntKind) (n : Nat) (f : Nat → Int) (q : Nat) (h : q < n) : (rwA k n f)[q]? = some (.int k (f q)) := by simp [rwA, rwL, h]
theorem rwA_congr (k : IntKind) (n : Nat) {f g : Nat → Int} (h : ∀ q, q < n → f q = g q) : rwA k n f = rwA k n g := by
  unfold rwA rwL
  rw [List.map_congr_left (fun q hq => by rw [h q (List.mem_range.1 hq)])]
theorem rwA_set (k : IntKind) (n : Nat) (f g : Nat → Int) (q : Nat) (hq : q < n) (x : Int) (hx : g q = x) (ho : ∀ j, j < n → j ≠ q → g j = f j) : (rwA k n f).setIfInBounds q (.int k x) = rwA k n g := by
  apply Array.ext_getElem?
  intro j
  by_cases hj : j < n
  · rw [rwA_get k n g j hj, Array.getElem?_setIfInBounds]
    by_cases e : q = j
    · subst e
      rw [if_pos rfl, if_pos (by rw [rwA_size]; exact hq), hx]
    · rw [if_neg e, rwA_get k n f j hj, ho j hj (fun c => e c.symm)]
  · rw [Array.getElem?_eq_none (by rw [Array.size_setIfInBounds, rwA_size]; omega), Array.getElem?_eq_none (by rw [rwA_size]; omega)]
theorem rwA_one (k : IntKind) (n : Nat) (f : Nat → Int) : (rwA k n f).all (·.oneCell') = true := by
  refine Array.all_eq_true_iff_forall_mem.2 (fun v hv => ?_)
  have hv' : v ∈ rwL k n f := by simpa [rwA] using hv
  obtain ⟨q, _, rfl⟩ := List.mem_map.1 hv'
  rfl
/-- A row that is filled from the left: g up to i, f behind. -/
def upTo (i : Nat) (g f : Nat → Int) (q : Nat) : Int := if q < i then g q else f q
theorem upTo_set (k : IntKind) (n i : Nat) (g f : Nat → Int) (h : i < n) : (rwA k n (upTo i g f)).setIfInBounds i (.int k (g i)) = rwA k n (upTo (i + 1) g f) :=
  rwA_set k n _ _ i h _ (if_pos (by omega)) (fun j _ hj => by
    unfold upTo
    by_cases h : j < i
    · rw [if_pos h, if_pos (by omega)]
    · rw [if_neg h, if_neg (by omega)])
theorem upTo_zero (g f : Nat → Int) : upTo 0 g f = f := by funext q; exact if_neg (by omega)
theorem upTo_all (k : IntKind) (n : Nat) (g f : Nat → Int) : rwA k n (upTo n g f) = rwA k n g := rwA_congr k n (fun q hq => if_pos hq)
theorem upTo_at (g f : Nat → Int) (i : Nat) : upTo i g f i = f i := if_neg (by omega)

/-! ### Words with their carries -/
def V4 (f : Nat → Nat) : Nat := f 0 + 18446744073709551616 * f 1 + 340282366920938463463374607431768211456 * f 2 + 6277101735386680763835789423207666416102355444464034512896 * f 3
def W256 : Nat := 115792089237316195423570985008687907853269984665640564039457584007913129639936
def lw (n : Nat) : Nat → Nat
  | 0 => n % 18446744073709551616
  | 1 => n / 18446744073709551616 % 18446744073709551616
  | 2 => n / 340282366920938463463374607431768211456 % 18446744073709551616
  | 3 => n / 6277101735386680763835789423207666416102355444464034512896 % 18446744073709551616
  | _ => 0
theorem lw_lt (n q : Nat) : lw n q < U64 := by
  unfold U64
  match q with
  | 0 => exact Nat.mod_lt _ (by decide)
  | 1 => exact Nat.mod_lt _ (by decide)
  | 2 => exact Nat.mod_lt _ (by decide)
  | 3 => exact Nat.mod_lt _ (by decide)
  | q + 4 => exact (by decide : 0 < 18446744073709551616)
theorem V4_lw (n : Nat) (h : n < W256) : V4 (lw n) = n := by
  unfold W256 at h
  simp only [V4, lw]
  omega
theorem V4_lt (f : Nat → Nat) (h : ∀ q, q < 4 → f q < U64) : V4 f < W256 := by
  have h0 := h 0 (by omega)
  have h1 := h 1 (by omega)
  have h2 := h 2 (by omega)
  have h3 := h 3 (by omega)
  unfold W256 V4
  unfold U64 at *
  omega
theorem lw_V4 (f : Nat → Nat) (h : ∀ q, q < 4 → f q < U64) (q : Nat) (hq : q < 4) : lw (V4 f) q = f q := by
  have h0 := h 0 (by omega)
  have h1 := h 1 (by omega)
  have h2 := h 2 (by omega)
  have h3 := h 3 (by omega)
  unfold U64 at *
  match q with
  | 0 => simp only [V4, lw]; omega
  | 1 => simp only [V4, lw]; omega
  | 2 => simp only [V4, lw]; omega
  | 3 => simp only [V4, lw]; omega
theorem lw_of {f : Nat → Nat} {n : Nat} (h : ∀ q, q < 4 → f q < U64) (e : V4 f = n) (q : Nat) (hq : q < 4) : f q = lw n q := by rw [← e, lw_V4 f h q hq]
/-- A field's four words. -/
def fldA (n : Nat) : Array Value := rwA .u64 4 (fun q => (lw n q : Int))
theorem fld_of {f : Nat → Nat} {n : Nat} (h : ∀ q, q < 4 → f q < U64) (e : V4 f = n) : rwA .u64 4 (fun q => (f q : Int)) = fldA n :=
  rwA_congr _ _ (fun q hq => by rw [lw_of h e q hq])

def cAdd (f g : Nat → Nat) : Nat → Nat
  | 0 => 0
  | i + 1 => (f i + g i + cAdd f g i) / 18446744073709551616
def sAdd (f g : Nat → Nat) (i : Nat) : Nat := (f i + g i + cAdd f g i) % 18446744073709551616
theorem cAdd_le (f g : Nat → Nat) (hf : ∀ q, f q < U64) (hg : ∀ q, g q < U64) (i : Nat) : cAdd f g i ≤ 1 := by
  unfold U64 at *
  induction i with
  | zero => exact Nat.zero_le _
  | succ i ih => have := hf i; have := hg i; unfold cAdd; omega
theorem sAdd_lt (f g : Nat → Nat) (i : Nat) : sAdd f g i < U64 := Nat.mod_lt _ (by decide)
theorem V4_add (f g : Nat → Nat) : V4 (sAdd f g) + W256 * cAdd f g 4 = V4 f + V4 g := by
  simp only [V4, sAdd, cAdd, W256]
  omega
def bSub (f g : Nat → Nat) : Nat → Nat
  | 0 => 0
  | i + 1 => if f i < g i + bSub f g i then 1 else 0
def dSub (f g : Nat → Nat) (i : Nat) : Nat := (f i + 18446744073709551616 - g i - bSub f g i) % 18446744073709551616
theorem bSub_le (f g : Nat → Nat) (i : Nat) : bSub f g i ≤ 1 := by
  cases i with
  | zero => exact Nat.zero_le _
  | succ i => unfold bSub; split <;> omega
theorem dSub_lt (f g : Nat → Nat) (i : Nat) : dSub f g i < U64 := Nat.mod_lt _ (by decide)
theorem dSub_step (x y b : Nat) (hx : x < 18446744073709551616) (hy : y < 18446744073709551616) (hb : b ≤ 1) : (x + 18446744073709551616 - y - b) % 18446744073709551616 + y + b = x + 18446744073709551616 * (if x < y + b then 1 else 0) := by
  split <;> omega
theorem V4_sub (f g : Nat → Nat) (hf : ∀ q, f q < U64) (hg : ∀ q, g q < U64) : V4 (dSub f g) + V4 g = V4 f + W256 * bSub f g 4 := by
  unfold U64 at *
  have s0 := dSub_step (f 0) (g 0) (bSub f g 0) (hf 0) (hg 0) (bSub_le _ _ _)
  have s1 := dSub_step (f 1) (g 1) (bSub f g 1) (hf 1) (hg 1) (bSub_le _ _ _)
  have s2 := dSub_step (f 2) (g 2) (bSub f g 2) (hf 2) (hg 2) (bSub_le _ _ _)
  have s3 := dSub_step (f 3) (g 3) (bSub f g 3) (hf 3) (hg 3) (bSub_le _ _ _)
  change dSub f g 0 + g 0 + bSub f g 0 = f 0 + 18446744073709551616 * bSub f g 1 at s0
  change dSub f g 1 + g 1 + bSub f g 1 = f 1 + 18446744073709551616 * bSub f g 2 at s1
  change dSub f g 2 + g 2 + bSub f g 2 = f 2 + 18446744073709551616 * bSub f g 3 at s2
  change dSub f g 3 + g 3 + bSub f g 3 = f 3 + 18446744073709551616 * bSub f g 4 at s3
  have s : bSub f g 0 = 0 := rfl
  unfold V4 W256
  generalize dSub f g 0 = d0 at *
  generalize dSub f g 1 = d1 at *
  generalize dSub f g 2 = d2 at *
  generalize dSub f g 3 = d3 at *
  generalize bSub f g 0 = b0 at *
  generalize bSub f g 1 = b1 at *
  generalize bSub f g 2 = b2 at *
  generalize bSub f g 3 = b3 at *
  generalize bSub f g 4 = b4 at *
  clear hf hg
  omega

/-! ### The field's numbers -/
def P25n : Nat := 57896044618658097711785492504343953926634992332820282019728792003956564819949
def redF (n : Nat) : Nat := if n < P25n then n else n - P25n
theorem V4_P : V4 (lw P25n) = P25n := V4_lw _ (by decide)
theorem bSub_P (n : Nat) (h : n < W256) : (bSub (lw n) (lw P25n) 4 = 0 ∧ P25n ≤ n ∧ V4 (dSub (lw n) (lw P25n)) = n - P25n) ∨ (bSub (lw n) (lw P25n) 4 = 1 ∧ n < P25n) := by
  have e := V4_sub (lw n) (lw P25n) (lw_lt n) (lw_lt P25n)
  have l := V4_lt (dSub (lw n) (lw P25n)) (fun q _ => dSub_lt _ _ q)
  have b := bSub_le (lw n) (lw P25n) 4
  rw [V4_P, V4_lw n h] at e
  generalize bSub (lw n) (lw P25n) 4 = B at *
  generalize V4 (dSub (lw n) (lw P25n)) = D at *
  unfold W256 P25n at *
  omega
theorem red_mod (n : Nat) (h : n < 2 * P25n) : redF n = n % P25n := by
  unfold redF
  unfold P25n at *
  split <;> omega
/-- The difference of p and b, b no more than p. -/
theorem bSub_minus (b : Nat) (h : b ≤ P25n) : V4 (dSub (lw P25n) (lw b)) = P25n - b := by
  have e := V4_sub (lw P25n) (lw b) (lw_lt P25n) (lw_lt b)
  have l := V4_lt (dSub (lw P25n) (lw b)) (fun q _ => dSub_lt _ _ q)
  have c := bSub_le (lw P25n) (lw b) 4
  rw [V4_P, V4_lw b (by unfold W256; unfold P25n at h; omega)] at e
  generalize bSub (lw P25n) (lw b) 4 = B at *
  generalize V4 (dSub (lw P25n) (lw b)) = D at *
  unfold W256 P25n at *
  omega
theorem cAdd_plus (a b : Nat) (h : a + b < W256) : V4 (sAdd (lw a) (lw b)) = a + b := by
  have e := V4_add (lw a) (lw b)
  rw [V4_lw a (by omega), V4_lw b (by omega)] at e
  have l := V4_lt (sAdd (lw a) (lw b)) (fun q _ => sAdd_lt _ _ q)
  generalize cAdd (lw a) (lw b) 4 = C at *
  generalize V4 (sAdd (lw a) (lw b)) = D at *
  unfold W256 at *
  omega

/-! ### Bytes, the lowest first -/
def leN : List UInt8 → Nat
  | [] => 0
  | b :: l => b.toNat + 256 * leN l
def leB (n : Nat) : Nat → List UInt8
  | 0 => []
  | k + 1 => UInt8.ofNat n :: leB (n / 256) k
theorem leN_lt (l : List UInt8) : leN l < 256 ^ l.length := by
  induction l with
  | nil => exact (by decide : 0 < 1)
  | cons b l ih =>
    have := b.toNat_lt
    rw [leN, List.length_cons, Nat.pow_succ]
    omega
theorem leN_append (a b : List UInt8) : leN (a ++ b) = leN a + 256 ^ a.length * leN b := by
  induction a with
  | nil => simp [leN]
  | cons x a ih =>
    rw [List.cons_append, leN, ih, leN, List.length_cons, Nat.pow_succ, Nat.mul_add, Nat.mul_comm (256 ^ a.length) 256, Nat.mul_assoc]
    omega
theorem leB_len (n k : Nat) : (leB n k).length = k := by
  induction k generalizing n with
  | zero => rfl
  | succ k ih => rw [leB, List.length_cons, ih]
theorem leN_leB (n k : Nat) (h : n < 256 ^ k) : leN (leB n k) = n := by
  induction k generalizing n with
  | zero => simp at h; subst h; rfl
  | succ k ih =>
    rw [leB, leN, ih (n / 256) (by rw [Nat.pow_succ] at h; omega), UInt8.toNat_ofNat']
    omega
theorem leB_leN (l : List UInt8) : leB (leN l) l.length = l := by
  induction l with
  | nil => rfl
  | cons b l ih =>
    have hb := b.toNat_lt
    rw [List.length_cons, leB, leN, show (b.toNat + 256 * leN l) / 256 = leN l by omega, ih]
    congr 1
    apply UInt8.toNat_inj.1
    rw [UInt8.toNat_ofNat']
    omega
theorem leN_inj {a b : List UInt8} (hl : a.length = b.length) (h : leN a = leN b) : a = b := by rw [← leB_leN a, ← leB_leN b, h, hl]
theorem leB_snoc (n k : Nat) : leB n (k + 1) = leB n k ++ [UInt8.ofNat (n / 256 ^ k)] := by
  induction k generalizing n with
  | zero => simp [leB]
  | succ k ih =>
    rw [leB, ih, leB, List.cons_append, Nat.div_div_eq_div_mul, Nat.pow_succ, Nat.mul_comm]
theorem leB_add (n a b : Nat) : leB n (a + b) = leB n a ++ leB (n / 256 ^ a) b := by
  induction a generalizing n with
  | zero => simp [leB]
  | succ a ih => rw [show a + 1 + b = (a + b) + 1 by omega, leB, ih, leB, List.cons_append, Nat.div_div_eq_div_mul, Nat.pow_succ, Nat.mul_comm 256]
theorem leB_mod (n k : Nat) : leB (n % 256 ^ k) k = leB n k := by
  induction k generalizing n with
  | zero => rfl
  | succ k ih =>
    rw [leB, leB, ← ih (n / 256)]
    congr 1
    · apply UInt8.toNat_inj.1
      rw [UInt8.toNat_ofNat', UInt8.toNat_ofNat', Nat.pow_succ, Nat.mul_comm]
      rw [Nat.mod_mul_right_mod]
    · rw [Nat.pow_succ, Nat.mul_comm, Nat.mod_mul_right_div_self]
/-- A field's words as bytes. -/
theorem leB_words (n : Nat) : leB (lw n 0) 8 ++ leB (lw n 1) 8 ++ leB (lw n 2) 8 ++ leB (lw n 3) 8 = leB n 32 := by
  have e8 : (256 : Nat) ^ 8 = 18446744073709551616 := by decide
  have e16 : (256 : Nat) ^ 16 = 340282366920938463463374607431768211456 := by decide
  have e24 : (256 : Nat) ^ 24 = 6277101735386680763835789423207666416102355444464034512896 := by decide
  have h1 := leB_add n 8 24
  have h2 := leB_add (n / 256 ^ 8) 8 16
  have h3 := leB_add (n / 256 ^ 8 / 256 ^ 8) 8 8
  rw [show 8 + 24 = 32 from rfl] at h1
  rw [show 8 + 16 = 24 from rfl] at h2
  rw [show 8 + 8 = 16 from rfl] at h3
  rw [h1, h2, h3, ← leB_mod n 8, ← leB_mod (n / 256 ^ 8) 8, ← leB_mod (n / 256 ^ 8 / 256 ^ 8) 8, ← leB_mod (n / 256 ^ 8 / 256 ^ 8 / 256 ^ 8) 8, e8]
  simp only [lw, Nat.div_div_eq_div_mul, List.append_assoc]

end Go.My

/- ChaCha20's state: a word a place. Nothing of the program is named. -/
namespace Go.My
open Go.RowKit
set_option linter.unusedVariables false

def updF (f : Nat → Int) (i : Nat) (v : Int) : Nat → Int := fun k => if k = i then v else f k
theorem updF_at (f : Nat → Int) (i : Nat) (v : Int) : updF f i v i = v := if_pos rfl
theorem updF_ne {f : Nat → Int} {i k : Nat} {v : Int} (h : k ≠ i) : updF f i v k = f k := if_neg h
theorem updF_two (f : Nat → Int) (i : Nat) (v x : Int) : updF (updF f i v) i x = updF f i x := by
  funext k
  by_cases h : k = i
  · rw [h, updF_at, updF_at]
  · rw [updF_ne h, updF_ne h, updF_ne h]
theorem rwA_upd (k : IntKind) (n : Nat) (f : Nat → Int) (i : Nat) (v : Int) (hi : i < n) : (rwA k n f).setIfInBounds i (.int k v) = rwA k n (updF f i v) :=
  rwA_set k n f _ i hi v (updF_at f i v) (fun j _ h => updF_ne h)
/-- A place added to another, a third turned by it. -/
def mixF (f : Nat → Int) (t s u r : Nat) : Nat → Int := updF (updF f t (add32 (f t) (f s))) u (rot (xor32 (f u) (add32 (f t) (f s))) r)
def quartF (f : Nat → Int) (a b c d : Nat) : Nat → Int := mixF (mixF (mixF (mixF f a b d 16) c d b 12) a b d 8) c d b 7
theorem updF_bd {f : Nat → Int} (h : Bd f) (i : Nat) (v : Int) (hv : 0 ≤ v ∧ v ≤ 4294967295) : Bd (updF f i v) := by
  intro q
  by_cases c : q = i
  · rw [c, updF_at]; exact hv
  · rw [updF_ne c]; exact h q
theorem mixF_bd {f : Nat → Int} (h : Bd f) (t s u r : Nat) : Bd (mixF f t s u r) := updF_bd (updF_bd h t _ (add32_bd _ _)) u _ (rot_bd _ _)
theorem quartF_bd {f : Nat → Int} (h : Bd f) (a b c d : Nat) : Bd (quartF f a b c d) := mixF_bd (mixF_bd (mixF_bd (mixF_bd h _ _ _ _) _ _ _ _) _ _ _ _) _ _ _ _
/-- The first half of a double round up to column n; the second half up to diagonal n. -/
def colF (f : Nat → Int) : Nat → Nat → Int
  | 0 => f
  | n + 1 => quartF (colF f n) n (4 + n) (8 + n) (12 + n)
def diaF (f : Nat → Int) : Nat → Nat → Int
  | 0 => f
  | n + 1 => quartF (diaF f n) n (4 + (n + 1) % 4) (8 + (n + 2) % 4) (12 + (n + 3) % 4)
def dblF (f : Nat → Int) : Nat → Int := diaF (colF f 4) 4
def dblN (f : Nat → Int) : Nat → Nat → Int
  | 0 => f
  | n + 1 => dblF (dblN f n)
theorem colF_bd {f : Nat → Int} (h : Bd f) : ∀ n, Bd (colF f n)
  | 0 => h
  | n + 1 => quartF_bd (colF_bd h n) _ _ _ _
theorem diaF_bd {f : Nat → Int} (h : Bd f) : ∀ n, Bd (diaF f n)
  | 0 => h
  | n + 1 => quartF_bd (diaF_bd h n) _ _ _ _
theorem dblF_bd {f : Nat → Int} (h : Bd f) : Bd (dblF f) := diaF_bd (colF_bd h 4) 4
theorem dblN_bd {f : Nat → Int} (h : Bd f) : ∀ n, Bd (dblN f n)
  | 0 => h
  | n + 1 => dblF_bd (dblN_bd h n)
theorem Blk.u32 {g j : Nat} {f : Nat → Int} {T : TypeId} {W : World} (h : Blk g (rwA .u32 16 f) T W) (hj : j < 16) : W.cell? ⟨g, j, none⟩ = some (.int .u32 (f j)) := h.cell (rwA_get .u32 16 f j hj)
theorem Blk.u32v {g j : Nat} {f : Nat → Int} {T : TypeId} {W : World} {x : Int} (h : Blk g (rwA .u32 16 f) T W) (hj : j < 16) (hx : f j = x) : W.cell? ⟨g, j, none⟩ = some (.int .u32 x) := by rw [← hx]; exact h.u32 hj
theorem Blk.put32 {g j : Nat} {f : Nat → Int} {T : TypeId} {W : World} (h : Blk g (rwA .u32 16 f) T W) (hj : j < 16) (v : Int) : Blk g (rwA .u32 16 (updF f j v)) T (W.setCell ⟨g, j, none⟩ (.int .u32 v)) := by
  have := h.set j (.int .u32 v)
  rw [rwA_upd .u32 16 f j v hj] at this
  exact this
theorem grown_put (w : World) (g j : Nat) (v : Value) : w.grownBy (w.setCell ⟨g, j, none⟩ v) (some g) := ⟨rfl, rfl, rfl, by simp [World.setCell], fun k hk hne => Below.heap_setCell _ _ _ _ (fun c => hne (by rw [c]))⟩
theorem gr_trans2 {a b c : World} {r : Option Nat} (h : a.grownBy b r) (k : b.grownBy c r) : a.grownBy c r :=
  ⟨k.os.trans h.os, k.tape.trans h.tape, k.output.trans h.output, Nat.le_trans h.size k.size, fun i hi hne => (k.block i (Nat.lt_of_lt_of_le hi h.size) hne).trans (h.block i hi hne)⟩
theorem gr_drew2 {a b : World} {r : Option Nat} (h : a.grownBy b r) : a.grownBy b.drew r := ⟨h.os, h.tape, h.output, h.size, h.block⟩

end Go.My

/- The program's mix, quarter, doubleRound. -/
namespace Go.Proofs.YtgjnoleejbkddaaDoor
open Go.RowKit Go.My Go.Lib
set_option linter.unusedVariables false

theorem gr_of {a b : World} {r : Option Nat} (h : Below a.heap.size a b) : a.grownBy b r := ⟨h.os, h.tape, h.output, h.size, fun k hk _ => h.block k hk⟩

set_option maxRecDepth 100000 in
set_option maxHeartbeats 4000000 in
theorem cmix_any (g t s u r : Nat) (T : TypeId) (f : Nat → Int) (w : World) (hB : Blk g (rwA .u32 16 f) T w) (hf : Bd f) (ht : t < 16) (hs : s < 16) (hu : u < 16) (h2 : t ≠ u) (hr1 : 1 ≤ r) (hr2 : r ≤ 31) :
    Calls Tryd.prog 65 #[.pointer (some ⟨g, 0, none⟩), .int .i64 t, .int .i64 s, .int .i64 u, .int .i64 r] w fun e w' => e = .returned (.tuple #[]) ∧ Blk g (rwA .u32 16 (mixF f t s u r)) T w' ∧ w.grownBy w' (some g) := by
  obtain ⟨a, ea⟩ : ∃ a, f t = a := ⟨_, rfl⟩
  obtain ⟨b, eb⟩ : ∃ b, f s = b := ⟨_, rfl⟩
  obtain ⟨c, ec⟩ : ∃ c, f u = c := ⟨_, rfl⟩
  obtain ⟨A, eA⟩ : ∃ A, A = add32 a b := ⟨_, rfl⟩
  obtain ⟨X, eX⟩ : ∃ X, X = xor32 c A := ⟨_, rfl⟩
  have b0 : 0 ≤ X := by rw [eX]; exact (xor32_bd _ _).1
  have b1 : X ≤ 4294967295 := by rw [eX]; exact (xor32_bd _ _).2
  have HE : Hid (updF (updF (updF f t A) u X) u (rot X r) = mixF f t s u r) := by
    show _ = _
    rw [updF_two, eX, eA, ← ea, ← eb, ← ec]
    rfl
  have e1u : updF f t A u = c := by rw [updF_ne (fun k => h2 k.symm)]; exact ec
  have e1t : updF f t A t = A := updF_at _ _ _
  have e2u : updF (updF f t A) u X u = X := updF_at _ _ _
  have EA := Lib.hid eA
  have EX := Lib.hid eX
  clear hf eA eX
  go_enter Tryd.func65, Tryd.ntmps65
  go_upto_region 0 with (fail)
  refine region_rest 13 (kdAt [.val (.pointer (some ⟨g, 0, none⟩)), .val (.int .i64 t), .val (.pointer (some ⟨g, 0, none⟩)), .val (.pointer (some ⟨g, t, none⟩)), .val (.int .u32 a), .val (.pointer (some ⟨g, 0, none⟩)), .val (.int .i64 s), .val (.pointer (some ⟨g, 0, none⟩)), .val (.pointer (some ⟨g, s, none⟩)), .val (.int .u32 b), .val (.int .u32 A), .val (.pointer (some ⟨g, 0, none⟩)), .val (.pointer (some ⟨g, t, none⟩))]) [some 10, some 11, some 12, some 13, some 14, some 15, some 16, some 17, some 18, some 19, some 20, some 21, some 22] (by kernel_rfl) (by decide) (by kernel_rfl) (by kernel_rfl) (by kernel_rfl) (by kernel_rfl) (by kernel_rfl) _ (fun a w h => anyStep (n := 0) (i := 13) (by kernel_rfl) rfl (fun a w h => anyEnd (by kernel_rfl) h) h) ?_ ?_
  · repeat refine allS ?_ ?_
    · exact all0
    · exact stepMove rfl rfl rfl rfl (src_old (by kernel_rfl) rfl)
    · exact stepMove rfl rfl rfl rfl (src_old (by kernel_rfl) rfl)
    · exact stepNil rfl rfl rfl rfl (src_new 0 (by decide) rfl rfl (by kernel_rfl))
    · exact stepIdx rfl rfl rfl rfl (src_new 2 (by decide) rfl rfl (by kernel_rfl)) (src_new 1 (by decide) rfl rfl (by kernel_rfl)) (fun w => idxG g t ht w)
    · exact stepLoad (.pointer (some ⟨g, t, none⟩)) rfl rfl rfl rfl (src_new 3 (by decide) rfl rfl (by kernel_rfl)) (fun w hk => ldW ((hB.below (hk.below (nh0 rfl))).u32v ht ea))
    · exact stepMove rfl rfl rfl rfl (src_old (by kernel_rfl) rfl)
    · exact stepMove rfl rfl rfl rfl (src_old (by kernel_rfl) rfl)
    · exact stepNil rfl rfl rfl rfl (src_new 5 (by decide) rfl rfl (by kernel_rfl))
    · exact stepIdx rfl rfl rfl rfl (src_new 7 (by decide) rfl rfl (by kernel_rfl)) (src_new 6 (by decide) rfl rfl (by kernel_rfl)) (fun w => idxG g s hs w)
    · exact stepLoad (.pointer (some ⟨g, s, none⟩)) rfl rfl rfl rfl (src_new 8 (by decide) rfl rfl (by kernel_rfl)) (fun w hk => ldW ((hB.below (hk.below (nh0 rfl))).u32v hs eb))
    · exact stepBin rfl rfl rfl rfl (src_new 4 (by decide) rfl rfl (by kernel_rfl)) (src_new 9 (by decide) rfl rfl (by kernel_rfl)) (fun w => (EA.out ▸ addW a b _ _) w)
    · exact stepNil rfl rfl rfl rfl (src_new 0 (by decide) rfl rfl (by kernel_rfl))
    · exact stepIdx rfl rfl rfl rfl (src_new 11 (by decide) rfl rfl (by kernel_rfl)) (src_new 1 (by decide) rfl rfl (by kernel_rfl)) (fun w => idxG g t ht w)
  intro v x1 hok hk
  replace hk := hk.all
  have v0 := okVal hok (j := 0) rfl rfl
  have v1 := okVal hok (j := 1) rfl rfl
  have v2 := okVal hok (j := 2) rfl rfl
  have v3 := okVal hok (j := 3) rfl rfl
  have v4 := okVal hok (j := 4) rfl rfl
  have v5 := okVal hok (j := 5) rfl rfl
  have v6 := okVal hok (j := 6) rfl rfl
  have v7 := okVal hok (j := 7) rfl rfl
  have v8 := okVal hok (j := 8) rfl rfl
  have v9 := okVal hok (j := 9) rfl rfl
  have v10 := okVal hok (j := 10) rfl rfl
  have v11 := okVal hok (j := 11) rfl rfl
  have v12 := okVal hok (j := 12) rfl rfl
  clear hok
  simp only [putL, Nat.zero_add, Nat.reduceAdd, v0, v1, v2, v3, v4, v5, v6, v7, v8, v9, v10, v11, v12, Act.put, List.setIfInBounds_toArray, List.set_cons_zero, List.set_cons_succ]
  clear v0 v1 v2 v3 v4 v5 v6 v7 v8 v9 v10 v11 v12
  have fX := hB.below (hk.below (nh0 rfl))
  have gX : w.grownBy x1 (some g) := gr_of (hk.below (nh0 rfl))
  have cX := fX.u32 ht
  have zX := fX.froz (j := t)
  have f1 := fX.put32 ht (A)
  have g1 := gr_trans2 gX (grown_put x1 g t (.int .u32 (A)))
  clear hk fX gX
  clear hB
  go_upto_region 1 with (fail)
  generalize x1.setCell ⟨g, t, none⟩ (.int .u32 (A)) = y1 at *
  clear cX zX
  refine region_rest 13 (kdAt [.val (.pointer (some ⟨g, 0, none⟩)), .val (.int .i64 u), .val (.pointer (some ⟨g, 0, none⟩)), .val (.pointer (some ⟨g, u, none⟩)), .val (.int .u32 c), .val (.pointer (some ⟨g, 0, none⟩)), .val (.int .i64 t), .val (.pointer (some ⟨g, 0, none⟩)), .val (.pointer (some ⟨g, t, none⟩)), .val (.int .u32 A), .val (.int .u32 X), .val (.pointer (some ⟨g, 0, none⟩)), .val (.pointer (some ⟨g, u, none⟩))]) [some 23, some 24, some 25, some 26, some 27, some 28, some 29, some 30, some 31, some 32, some 33, some 34, some 35] (by kernel_rfl) (by decide) (by kernel_rfl) (by kernel_rfl) (by kernel_rfl) (by kernel_rfl) (by kernel_rfl) _ (fun a w h => anyStep (n := 0) (i := 13) (by kernel_rfl) rfl (fun a w h => anyEnd (by kernel_rfl) h) h) ?_ ?_
  · repeat refine allS ?_ ?_
    · exact all0
    · exact stepMove rfl rfl rfl rfl (src_old (by kernel_rfl) rfl)
    · exact stepMove rfl rfl rfl rfl (src_old (by kernel_rfl) rfl)
    · exact stepNil rfl rfl rfl rfl (src_new 0 (by decide) rfl rfl (by kernel_rfl))
    · exact stepIdx rfl rfl rfl rfl (src_new 2 (by decide) rfl rfl (by kernel_rfl)) (src_new 1 (by decide) rfl rfl (by kernel_rfl)) (fun w => idxG g u hu w)
    · exact stepLoad (.pointer (some ⟨g, u, none⟩)) rfl rfl rfl rfl (src_new 3 (by decide) rfl rfl (by kernel_rfl)) (fun w hk => ldW ((f1.below (hk.below (nh0 rfl))).u32v hu e1u))
    · exact stepMove rfl rfl rfl rfl (src_old (by kernel_rfl) rfl)
    · exact stepMove rfl rfl rfl rfl (src_old (by kernel_rfl) rfl)
    · exact stepNil rfl rfl rfl rfl (src_new 5 (by decide) rfl rfl (by kernel_rfl))
    · exact stepIdx rfl rfl rfl rfl (src_new 7 (by decide) rfl rfl (by kernel_rfl)) (src_new 6 (by decide) rfl rfl (by kernel_rfl)) (fun w => idxG g t ht w)
    · exact stepLoad (.pointer (some ⟨g, t, none⟩)) rfl rfl rfl rfl (src_new 8 (by decide) rfl rfl (by kernel_rfl)) (fun w hk => ldW ((f1.below (hk.below (nh0 rfl))).u32v ht e1t))
    · exact stepBin rfl rfl rfl rfl (src_new 4 (by decide) rfl rfl (by kernel_rfl)) (src_new 9 (by decide) rfl rfl (by kernel_rfl)) (fun w => (EX.out ▸ xorW c A _ _) w)
    · exact stepNil rfl rfl rfl rfl (src_new 0 (by decide) rfl rfl (by kernel_rfl))
    · exact stepIdx rfl rfl rfl rfl (src_new 11 (by decide) rfl rfl (by kernel_rfl)) (src_new 1 (by decide) rfl rfl (by kernel_rfl)) (fun w => idxG g u hu w)
  intro v x2 hok hk
  replace hk := hk.all
  have v0 := okVal hok (j := 0) rfl rfl
  have v1 := okVal hok (j := 1) rfl rfl
  have v2 := okVal hok (j := 2) rfl rfl
  have v3 := okVal hok (j := 3) rfl rfl
  have v4 := okVal hok (j := 4) rfl rfl
  have v5 := okVal hok (j := 5) rfl rfl
  have v6 := okVal hok (j := 6) rfl rfl
  have v7 := okVal hok (j := 7) rfl rfl
  have v8 := okVal hok (j := 8) rfl rfl
  have v9 := okVal hok (j := 9) rfl rfl
  have v10 := okVal hok (j := 10) rfl rfl
  have v11 := okVal hok (j := 11) rfl rfl
  have v12 := okVal hok (j := 12) rfl rfl
  clear hok
  simp only [putL, Nat.zero_add, Nat.reduceAdd, v0, v1, v2, v3, v4, v5, v6, v7, v8, v9, v10, v11, v12, Act.put, List.setIfInBounds_toArray, List.set_cons_zero, List.set_cons_succ]
  clear v0 v1 v2 v3 v4 v5 v6 v7 v8 v9 v10 v11 v12
  have fX := f1.below (hk.below (nh0 rfl))
  have gX : w.grownBy x2 (some g) := gr_trans2 g1 (gr_of (hk.below (nh0 rfl)))
  have cX := fX.u32 hu
  have zX := fX.froz (j := u)
  have f2 := fX.put32 hu (X)
  have g2 := gr_trans2 gX (grown_put x2 g u (.int .u32 (X)))
  clear hk fX gX
  clear f1 g1
  go_upto_region 2 with (fail)
  generalize x2.setCell ⟨g, u, none⟩ (.int .u32 (X)) = y2 at *
  clear cX zX
  refine region_rest 20 (kdAt [.val (.pointer (some ⟨g, 0, none⟩)), .val (.int .i64 u), .val (.pointer (some ⟨g, 0, none⟩)), .val (.int .i64 u), .val (.pointer (some ⟨g, 0, none⟩)), .val (.pointer (some ⟨g, u, none⟩)), .val (.int .u32 X), .val (.int .i64 r), .val (.int .u32 (X * 2 ^ r % 4294967296)), .val (.pointer (some ⟨g, 0, none⟩)), .val (.int .i64 u), .val (.pointer (some ⟨g, 0, none⟩)), .val (.pointer (some ⟨g, u, none⟩)), .val (.int .u32 X), .val (.int .i64 r), .val (.int .i64 (32 - r : Nat)), .val (.int .u32 (X / 2 ^ (32 - r))), .val (.int .u32 (rot X r)), .val (.pointer (some ⟨g, 0, none⟩)), .val (.pointer (some ⟨g, u, none⟩))]) [some 36, some 37, some 38, some 39, some 40, some 41, some 42, some 43, some 44, some 45, some 46, some 47, some 48, some 49, some 50, some 51, some 52, some 53, some 54, some 55] (by kernel_rfl) (by decide) (by kernel_rfl) (by kernel_rfl) (by kernel_rfl) (by kernel_rfl) (by kernel_rfl) _ (fun a w h => anyStep (n := 0) (i := 20) (by kernel_rfl) rfl (fun a w h => anyEnd (by kernel_rfl) h) h) ?_ ?_
  · repeat refine allS ?_ ?_
    · exact all0
    · exact stepMove rfl rfl rfl rfl (src_old (by kernel_rfl) rfl)
    · exact stepMove rfl rfl rfl rfl (src_old (by kernel_rfl) rfl)
    · exact stepMove rfl rfl rfl rfl (src_old (by kernel_rfl) rfl)
    · exact stepMove rfl rfl rfl rfl (src_old (by kernel_rfl) rfl)
    · exact stepNil rfl rfl rfl rfl (src_new 2 (by decide) rfl rfl (by kernel_rfl))
    · exact stepIdx rfl rfl rfl rfl (src_new 4 (by decide) rfl rfl (by kernel_rfl)) (src_new 3 (by decide) rfl rfl (by kernel_rfl)) (fun w => idxG g u hu w)
    · exact stepLoad (.pointer (some ⟨g, u, none⟩)) rfl rfl rfl rfl (src_new 5 (by decide) rfl rfl (by kernel_rfl)) (fun w hk => ldW ((f2.below (hk.below (nh0 rfl))).u32v hu e2u))
    · exact stepMove rfl rfl rfl rfl (src_old (by kernel_rfl) rfl)
    · exact stepBin rfl rfl rfl rfl (src_new 6 (by decide) rfl rfl (by kernel_rfl)) (src_new 7 (by decide) rfl rfl (by kernel_rfl)) (fun w => (shlW X r b0 b1 hr2 _ _) w)
    · exact stepMove rfl rfl rfl rfl (src_old (by kernel_rfl) rfl)
    · exact stepMove rfl rfl rfl rfl (src_old (by kernel_rfl) rfl)
    · exact stepNil rfl rfl rfl rfl (src_new 9 (by decide) rfl rfl (by kernel_rfl))
    · exact stepIdx rfl rfl rfl rfl (src_new 11 (by decide) rfl rfl (by kernel_rfl)) (src_new 10 (by decide) rfl rfl (by kernel_rfl)) (fun w => idxG g u hu w)
    · exact stepLoad (.pointer (some ⟨g, u, none⟩)) rfl rfl rfl rfl (src_new 12 (by decide) rfl rfl (by kernel_rfl)) (fun w hk => ldW ((f2.below (hk.below (nh0 rfl))).u32v hu e2u))
    · exact stepMove rfl rfl rfl rfl (src_old (by kernel_rfl) rfl)
    · exact stepBinL rfl rfl rfl rfl (src_new 14 (by decide) rfl rfl (by kernel_rfl)) (fun w => (subI r (by omega) _ _) w)
    · exact stepBin rfl rfl rfl rfl (src_new 13 (by decide) rfl rfl (by kernel_rfl)) (src_new 15 (by decide) rfl rfl (by kernel_rfl)) (fun w => (shrW X (32 - r) b0 b1 (by omega) _ _) w)
    · exact stepBin rfl rfl rfl rfl (src_new 8 (by decide) rfl rfl (by kernel_rfl)) (src_new 16 (by decide) rfl rfl (by kernel_rfl)) (fun w => (orW _ _ _ _) w)
    · exact stepNil rfl rfl rfl rfl (src_new 0 (by decide) rfl rfl (by kernel_rfl))
    · exact stepIdx rfl rfl rfl rfl (src_new 18 (by decide) rfl rfl (by kernel_rfl)) (src_new 1 (by decide) rfl rfl (by kernel_rfl)) (fun w => idxG g u hu w)
  intro v x3 hok hk
  replace hk := hk.all
  have v0 := okVal hok (j := 0) rfl rfl
  have v1 := okVal hok (j := 1) rfl rfl
  have v2 := okVal hok (j := 2) rfl rfl
  have v3 := okVal hok (j := 3) rfl rfl
  have v4 := okVal hok (j := 4) rfl rfl
  have v5 := okVal hok (j := 5) rfl rfl
  have v6 := okVal hok (j := 6) rfl rfl
  have v7 := okVal hok (j := 7) rfl rfl
  have v8 := okVal hok (j := 8) rfl rfl
  have v9 := okVal hok (j := 9) rfl rfl
  have v10 := okVal hok (j := 10) rfl rfl
  have v11 := okVal hok (j := 11) rfl rfl
  have v12 := okVal hok (j := 12) rfl rfl
  have v13 := okVal hok (j := 13) rfl rfl
  have v14 := okVal hok (j := 14) rfl rfl
  have v15 := okVal hok (j := 15) rfl rfl
  have v16 := okVal hok (j := 16) rfl rfl
  have v17 := okVal hok (j := 17) rfl rfl
  have v18 := okVal hok (j := 18) rfl rfl
  have v19 := okVal hok (j := 19) rfl rfl
  clear hok
  simp only [putL, Nat.zero_add, Nat.reduceAdd, v0, v1, v2, v3, v4, v5, v6, v7, v8, v9, v10, v11, v12, v13, v14, v15, v16, v17, v18, v19, Act.put, List.setIfInBounds_toArray, List.set_cons_zero, List.set_cons_succ]
  clear v0 v1 v2 v3 v4 v5 v6 v7 v8 v9 v10 v11 v12 v13 v14 v15 v16 v17 v18 v19
  have fX := f2.below (hk.below (nh0 rfl))
  have gX : w.grownBy x3 (some g) := gr_trans2 g2 (gr_of (hk.below (nh0 rfl)))
  have cX := fX.u32 hu
  have zX := fX.froz (j := u)
  have f3 := fX.put32 hu (rot X r)
  have g3 := gr_trans2 gX (grown_put x3 g u (.int .u32 (rot X r)))
  clear hk fX gX
  clear f2 g2
  go_wp2
  go_end0
  refine ⟨rfl, ?_, ?_⟩
  · rw [← HE.out]; exact f3
  · exact g3

set_option maxRecDepth 100000 in
set_option maxHeartbeats 2000000 in
theorem quarter_any (g a b c d : Nat) (T : TypeId) (f : Nat → Int) (w : World) (hB : Blk g (rwA .u32 16 f) T w) (hf : Bd f) (ha : a < 16) (hb : b < 16) (hc : c < 16) (hd : d < 16) (h1 : a ≠ d) (h2 : c ≠ b) :
    Calls Tryd.prog 63 #[.pointer (some ⟨g, 0, none⟩), .int .i64 a, .int .i64 b, .int .i64 c, .int .i64 d] w fun e w' => e = .returned (.tuple #[]) ∧ Blk g (rwA .u32 16 (quartF f a b c d)) T w' ∧ w.grownBy w' (some g) := by
  have B1 := mixF_bd hf a b d 16
  have B2 := mixF_bd B1 c d b 12
  have B3 := mixF_bd B2 a b d 8
  have C1 := Lib.hid (fun w hw => cmix_any g a b d 16 T f w hw hf ha hb hd h1 (by decide) (by decide))
  have C2 := Lib.hid (fun w hw => cmix_any g c d b 12 T _ w hw B1 hc hd hb h2 (by decide) (by decide))
  have C3 := Lib.hid (fun w hw => cmix_any g a b d 8 T _ w hw B2 ha hb hd h1 (by decide) (by decide))
  have C4 := Lib.hid (fun w hw => cmix_any g c d b 7 T _ w hw B3 hc hd hb h2 (by decide) (by decide))
  have HQ : Hid (mixF (mixF (mixF (mixF f a b d 16) c d b 12) a b d 8) c d b 7 = quartF f a b c d) := rfl
  generalize mixF (mixF (mixF (mixF f a b d 16) c d b 12) a b d 8) c d b 7 = f4 at *
  generalize mixF (mixF (mixF f a b d 16) c d b 12) a b d 8 = f3 at *
  generalize mixF (mixF f a b d 16) c d b 12 = f2 at *
  generalize mixF f a b d 16 = f1 at *
  clear B1 B2 B3 hf
  go_enter Tryd.func63, Tryd.ntmps63
  go_wp2_with fail
  refine (C1.out _ hB).mono ?_
  rintro e w1 ⟨rfl, q1, g1⟩
  go_wp2_with fail
  refine (C2.out _ q1).mono ?_
  rintro e w2 ⟨rfl, q2, g2⟩
  go_wp2_with fail
  refine (C3.out _ q2).mono ?_
  rintro e w3 ⟨rfl, q3, g3⟩
  go_wp2_with fail
  refine (C4.out _ q3).mono ?_
  rintro e w4 ⟨rfl, q4, g4⟩
  go_wp2
  go_end0
  exact ⟨rfl, by rw [← HQ.out]; exact q4, gr_trans2 (gr_trans2 (gr_trans2 g1 g2) g3) g4⟩

theorem gr_refl2 (w : World) (r : Option Nat) : w.grownBy w r := ⟨rfl, rfl, rfl, Nat.le_refl _, fun _ _ _ => rfl⟩
set_option maxRecDepth 100000 in
set_option maxHeartbeats 4000000 in
theorem doubleRound_any (g : Nat) (T : TypeId) (f : Nat → Int) (w : World) (hB : Blk g (rwA .u32 16 f) T w) (hf : Bd f) :
    Calls Tryd.prog 51 #[.pointer (some ⟨g, 0, none⟩)] w fun e w' => e = .returned (.tuple #[]) ∧ Blk g (rwA .u32 16 (dblF f)) T w' ∧ w.grownBy w' (some g) := by
  have HF := Lib.hid hf
  have HD : Hid (dblF f = diaF (colF f 4) 4) := rfl
  clear hf
  go_enter Tryd.func51, Tryd.ntmps51
  go_wp2
  go_loopw [4] (fun i wr => ∃ n : Nat, n ≤ 4 ∧ i = .int .i64 n ∧ Blk g (rwA .u32 16 (colF f n)) T wr ∧ w.grownBy wr (some g)) (fun i _ => 4 - (intOf i).toNat)
  case atStart => exact ⟨0, by omega, rfl, hB, gr_refl2 _ _⟩
  case round =>
    clear hB
    obtain ⟨n, hn, rfl, q, gr⟩ := hrel
    by_cases hlt : n < 4
    · have k1 : (n : Int) < 4 := by omega
      have k0 : (0 : Int) ≤ (n : Int) := by omega
      have e4 : IntKind.i64.wrap (4 + (n : Int)) = ((4 + n : Nat) : Int) := by rw [IntKind.wrap_i64]; omega
      have e8 : IntKind.i64.wrap (8 + (n : Int)) = ((8 + n : Nat) : Int) := by rw [IntKind.wrap_i64]; omega
      have e12 : IntKind.i64.wrap (12 + (n : Int)) = ((12 + n : Nat) : Int) := by rw [IntKind.wrap_i64]; omega
      have C := Lib.hid (fun w hw => quarter_any g n (4 + n) (8 + n) (12 + n) T (colF f n) w hw (colF_bd HF.out n) (by omega) (by omega) (by omega) (by omega) (by omega) (by omega))
      have HE : Hid (quartF (colF f n) n (4 + n) (8 + n) (12 + n) = colF f (n + 1)) := rfl
      generalize quartF (colF f n) n (4 + n) (8 + n) (12 + n) = f1 at *
      generalize 4 + n = m4 at *
      generalize 8 + n = m8 at *
      generalize 12 + n = m12 at *
      go_wp2_with fail
      refine (C.out _ q).mono ?_
      rintro e w1 ⟨rfl, q1, g1⟩
      have HR := Lib.hid (And.intro q1 (gr_trans2 gr g1))
      clear q gr q1 g1 e4 e8 e12
      go_wp2
      go_roundw
      case rel => exact ⟨n + 1, by omega, by go_num, by rw [← HE.out]; exact HR.out.1, HR.out.2⟩
      case measure => simp [intOf]; omega
    · have hn4 : n = 4 := by omega
      have k1 : (4 : Int) ≤ (n : Int) := by omega
      rw [hn4] at q
      have HC := Lib.hid (colF_bd HF.out 4)
      generalize colF f 4 = h at *
      clear hlt hn4
      go_wp2
      go_loopw [17] (fun i wr => ∃ n : Nat, n ≤ 4 ∧ i = .int .i64 n ∧ Blk g (rwA .u32 16 (diaF h n)) T wr ∧ w.grownBy wr (some g)) (fun i _ => 4 - (intOf i).toNat)
      case atStart => exact ⟨0, by omega, rfl, q, gr⟩
      case round =>
        clear q gr
        obtain ⟨n, hn, rfl, q, gr⟩ := hrel
        by_cases hlt : n < 4
        · have k1 : (n : Int) < 4 := by omega
          have C := Lib.hid (fun w hw => quarter_any g n (4 + (n + 1) % 4) (8 + (n + 2) % 4) (12 + (n + 3) % 4) T (diaF h n) w hw (diaF_bd HC.out n) (by omega) (by omega) (by omega) (by omega) (by omega) (by omega))
          have HE : Hid (quartF (diaF h n) n (4 + (n + 1) % 4) (8 + (n + 2) % 4) (12 + (n + 3) % 4) = diaF h (n + 1)) := rfl
          have hc : n = 0 ∨ n = 1 ∨ n = 2 ∨ n = 3 := by omega
          generalize quartF (diaF h n) n (4 + (n + 1) % 4) (8 + (n + 2) % 4) (12 + (n + 3) % 4) = f1 at *
          generalize diaF h n = fn at *
          clear hlt k1
          rcases hc with rfl | rfl | rfl | rfl
          all_goals
            simp only [Nat.reduceAdd, Nat.reduceMod] at C
            go_wp2_with fail
            refine (C.out _ q).mono ?_
            rintro e w1 ⟨rfl, q1, g1⟩
            have HR := Lib.hid (And.intro q1 (gr_trans2 gr g1))
            clear q gr q1 g1
            go_wp2
            go_roundw
            case rel => first | exact ⟨1, by omega, by first | rfl | go_num, by rw [show (1 : Nat) = 0 + 1 from rfl, ← HE.out]; exact HR.out.1, HR.out.2⟩ | exact ⟨2, by omega, by first | rfl | go_num, by rw [show (2 : Nat) = 1 + 1 from rfl, ← HE.out]; exact HR.out.1, HR.out.2⟩ | exact ⟨3, by omega, by first | rfl | go_num, by rw [show (3 : Nat) = 2 + 1 from rfl, ← HE.out]; exact HR.out.1, HR.out.2⟩ | exact ⟨4, by omega, by first | rfl | go_num, by rw [show (4 : Nat) = 3 + 1 from rfl, ← HE.out]; exact HR.out.1, HR.out.2⟩
            case measure => simp [intOf]
        · have hn4 : n = 4 := by omega
          have k1 : (4 : Int) ≤ (n : Int) := by omega
          rw [hn4] at q
          clear hlt hn4
          go_wp2
          go_end0
          exact ⟨rfl, by rw [HD.out]; exact q, gr⟩

end Go.Proofs.YtgjnoleejbkddaaDoor

/- The specification's l4Rot, l4Quarter. -/
namespace Go.My
open Go.RowKit
set_option linter.unusedVariables false
section
variable {P : Program} {Q : Exit → Act → World → Prop} {ops : Array Oper} {m : Nat} {a0 : Act} {w0 : World} {D : Nat → Kd} {i : Nat} {o : Oper}
/-- A call of a slot and a constant. -/
theorem stepCallC {x y c : Value} {f : FuncId} {k : Tmp} {ats : Array TypeId} (hoi : ops[i]? = some o) (hg : o.guard = none) (hD : D i = .val x) (hop : o.op = .call { callee := .value (.func f), args := #[.tmp k, .const c], argTypes := ats })
    (hcf : ∀ args w, (callFunc f args).run P w = .ok (.enter f args) w) (hk : Src ops m a0 D o k y)
    (hc : ∀ w, Kept (Hits D) w0 w → Calls P f #[y, c] w fun e w' => e = .returned x ∧ Below w.heap.size w w') : StepOk P Q ops m a0 w0 D i := by
  refine ⟨o, hoi, hg, ?_⟩
  rw [hD]
  refine ⟨[(k, y)], srcN1 hk, fun a w ha hb => ?_⟩
  have h1 : a.eval (.tmp k) = y := ha (k, y) (by simp)
  have he : (execOp a.eval o).run P w = .ok (.enter f #[y, c]) w := by
    unfold execOp
    simp only [hop]
    have e : (do let d ← resolve a.eval { callee := .value (.func f), args := #[.tmp k, .const c], argTypes := ats } o.type; invoke d.target d.args : Sem Next) = callFunc f (#[] ++ #[Operand.tmp k, .const c].map a.eval ++ #[]) := rfl
    have h2 : a.eval (.const c) = c := rfl
    rw [e, show #[Operand.tmp k, .const c].map a.eval = #[y, c] by simp only [List.map_toArray, List.map_cons, List.map_nil, h1, h2], Array.empty_append, Array.append_empty]
    exact hcf _ _
  unfold Oper.wp
  rw [he]
  refine Calls.mono (hc w hb) ?_
  rintro e w' ⟨rfl, hb'⟩
  exact ⟨rfl, hb'⟩
end
end Go.My
namespace Go.Proofs.YtgjnoleejbkddaaDoor
open Go.RowKit Go.My Go.Lib
set_option linter.unusedVariables false

theorem l4Rot_any (x : Int) (k : Nat) (w : World) (h0 : 0 ≤ x) (h1 : x ≤ 4294967295) (hr : 1 ≤ k) (hr2 : k ≤ 31) :
    Calls Tryd.prog 59 #[.int .u32 x, .int .u64 k] w fun e w' => e = .returned (.int .u32 (rot x k)) ∧ w = w' := by
  have hi1 : (1 : Int) ≤ k := by omega
  have hi2 : (k : Int) ≤ 31 := by omega
  go_enter Tryd.func59, Tryd.ntmps59
  go_wp2
  go_ret
  exact ⟨rfl, rfl⟩
theorem l4Rot_c (x R : Int) (k : Nat) (w : World) (h : 0 ≤ x ∧ x ≤ 4294967295) (hr : 1 ≤ k) (hr2 : k ≤ 31) (hR : R = rot x k) :
    Calls Tryd.prog 59 #[.int .u32 x, .int .u64 k] w fun e w' => e = .returned (.int .u32 R) ∧ Below w.heap.size w w' := by
  rw [hR]
  exact (l4Rot_any x k w h.1 h.2 hr hr2).mono fun e w' ⟨he, hw⟩ => ⟨he, hw ▸ Below.refl _ _⟩
theorem cfRot (args : Array Value) (w : World) : (callFunc 59 args).run Tryd.prog w = .ok (.enter 59 args) w := cf_of Tryd.func59 (by kernel_rfl) (by kernel_rfl) args w

set_option maxRecDepth 100000 in
set_option maxHeartbeats 4000000 in
theorem l4Quarter_any (g a b c d : Nat) (T : TypeId) (f0 : Nat → Int) (w : World) (hB : Blk g (rwA .u32 16 f0) T w) (ha : a < 16) (hb : b < 16) (hc : c < 16) (hd : d < 16) (h1 : a ≠ d) (h2 : c ≠ b) :
    Calls Tryd.prog 47 #[.slice (some ⟨g, 0, none⟩) 16 16, .int .i64 a, .int .i64 b, .int .i64 c, .int .i64 d] w fun e w' => e = .returned (.tuple #[]) ∧ Blk g (rwA .u32 16 (quartF f0 a b c d)) T w' ∧ w.grownBy w' (some g) := by
  have h1' : d ≠ a := fun k => h1 k.symm
  have h2' : b ≠ c := fun k => h2 k.symm
  obtain ⟨A0, eA0⟩ : ∃ A, A = add32 (f0 a) (f0 b) := ⟨_, rfl⟩
  obtain ⟨X0, eX0⟩ : ∃ X, X = xor32 (f0 d) A0 := ⟨_, rfl⟩
  obtain ⟨R0, eR0⟩ : ∃ R, R = rot X0 16 := ⟨_, rfl⟩
  obtain ⟨f1, ef1⟩ : ∃ f, f = updF (updF f0 a A0) d R0 := ⟨_, rfl⟩
  have em1 : f1 = mixF f0 a b d 16 := by rw [ef1, eR0, eX0, eA0]; rfl
  have EA0 := Lib.hid eA0
  have EX0 := Lib.hid eX0
  have ER0 := Lib.hid eR0
  have EF1 := Lib.hid ef1
  have BX0 : Hid (0 ≤ X0 ∧ X0 ≤ 4294967295) := by show _ ∧ _; rw [eX0]; exact xor32_bd _ _
  have u0 : updF f0 a A0 d = f0 d := updF_ne h1'
  have t0 : updF f0 a A0 a = A0 := updF_at _ _ _
  obtain ⟨A1, eA1⟩ : ∃ A, A = add32 (f1 c) (f1 d) := ⟨_, rfl⟩
  obtain ⟨X1, eX1⟩ : ∃ X, X = xor32 (f1 b) A1 := ⟨_, rfl⟩
  obtain ⟨R1, eR1⟩ : ∃ R, R = rot X1 12 := ⟨_, rfl⟩
  obtain ⟨f2, ef2⟩ : ∃ f, f = updF (updF f1 c A1) b R1 := ⟨_, rfl⟩
  have em2 : f2 = mixF f1 c d b 12 := by rw [ef2, eR1, eX1, eA1]; rfl
  have EA1 := Lib.hid eA1
  have EX1 := Lib.hid eX1
  have ER1 := Lib.hid eR1
  have EF2 := Lib.hid ef2
  have BX1 : Hid (0 ≤ X1 ∧ X1 ≤ 4294967295) := by show _ ∧ _; rw [eX1]; exact xor32_bd _ _
  have u1 : updF f1 c A1 b = f1 b := updF_ne h2'
  have t1 : updF f1 c A1 c = A1 := updF_at _ _ _
  obtain ⟨A2, eA2⟩ : ∃ A, A = add32 (f2 a) (f2 b) := ⟨_, rfl⟩
  obtain ⟨X2, eX2⟩ : ∃ X, X = xor32 (f2 d) A2 := ⟨_, rfl⟩
  obtain ⟨R2, eR2⟩ : ∃ R, R = rot X2 8 := ⟨_, rfl⟩
  obtain ⟨f3, ef3⟩ : ∃ f, f = updF (updF f2 a A2) d R2 := ⟨_, rfl⟩
  have em3 : f3 = mixF f2 a b d 8 := by rw [ef3, eR2, eX2, eA2]; rfl
  have EA2 := Lib.hid eA2
  have EX2 := Lib.hid eX2
  have ER2 := Lib.hid eR2
  have EF3 := Lib.hid ef3
  have BX2 : Hid (0 ≤ X2 ∧ X2 ≤ 4294967295) := by show _ ∧ _; rw [eX2]; exact xor32_bd _ _
  have u2 : updF f2 a A2 d = f2 d := updF_ne h1'
  have t2 : updF f2 a A2 a = A2 := updF_at _ _ _
  obtain ⟨A3, eA3⟩ : ∃ A, A = add32 (f3 c) (f3 d) := ⟨_, rfl⟩
  obtain ⟨X3, eX3⟩ : ∃ X, X = xor32 (f3 b) A3 := ⟨_, rfl⟩
  obtain ⟨R3, eR3⟩ : ∃ R, R = rot X3 7 := ⟨_, rfl⟩
  obtain ⟨f4, ef4⟩ : ∃ f, f = updF (updF f3 c A3) b R3 := ⟨_, rfl⟩
  have em4 : f4 = mixF f3 c d b 7 := by rw [ef4, eR3, eX3, eA3]; rfl
  have EA3 := Lib.hid eA3
  have EX3 := Lib.hid eX3
  have ER3 := Lib.hid eR3
  have EF4 := Lib.hid ef4
  have BX3 : Hid (0 ≤ X3 ∧ X3 ≤ 4294967295) := by show _ ∧ _; rw [eX3]; exact xor32_bd _ _
  have u3 : updF f3 c A3 b = f3 b := updF_ne h2'
  have t3 : updF f3 c A3 c = A3 := updF_at _ _ _
  have HE : Hid (f4 = quartF f0 a b c d) := by show _ = _; rw [em4, em3, em2, em1]; rfl
  clear eA0 eX0 eR0 ef1 em1 eA1 eX1 eR1 ef2 em2 eA2 eX2 eR2 ef3 em3 eA3 eX3 eR3 ef4 em4
  go_enter Tryd.func47, Tryd.ntmps47
  go_upto_region 0 with (fail)
  refine region_rest 12 (kdAt [.val (.slice (some ⟨g, 0, none⟩) 16 16), .val (.int .i64 a), .val (.slice (some ⟨g, 0, none⟩) 16 16), .val (.int .i64 a), .val (.pointer (some ⟨g, a, none⟩)), .val (.int .u32 (f0 a)), .val (.slice (some ⟨g, 0, none⟩) 16 16), .val (.int .i64 b), .val (.pointer (some ⟨g, b, none⟩)), .val (.int .u32 (f0 b)), .val (.int .u32 A0), .val (.pointer (some ⟨g, a, none⟩))]) [some 10, some 11, some 12, some 13, some 14, some 15, some 16, some 17, some 18, some 19, some 20, some 21] (by kernel_rfl) (by decide) (by kernel_rfl) (by kernel_rfl) (by kernel_rfl) (by kernel_rfl) (by kernel_rfl) _ (fun a w h => anyStep (n := 0) (i := 12) (by kernel_rfl) rfl (fun a w h => anyEnd (by kernel_rfl) h) h) ?_ ?_
  · repeat refine allS ?_ ?_
    · exact all0
    · exact stepMove rfl rfl rfl rfl (src_old (by kernel_rfl) rfl)
    · exact stepMove rfl rfl rfl rfl (src_old (by kernel_rfl) rfl)
    · exact stepMove rfl rfl rfl rfl (src_old (by kernel_rfl) rfl)
    · exact stepMove rfl rfl rfl rfl (src_old (by kernel_rfl) rfl)
    · exact stepIdx rfl rfl rfl rfl (src_new 2 (by decide) rfl rfl (by kernel_rfl)) (src_new 3 (by decide) rfl rfl (by kernel_rfl)) (fun w => idxS g a ha w)
    · exact stepLoad (.pointer (some ⟨g, a, none⟩)) rfl rfl rfl rfl (src_new 4 (by decide) rfl rfl (by kernel_rfl)) (fun w hk => ldW ((hB.below (hk.below (nh0 rfl))).u32v ha rfl))
    · exact stepMove rfl rfl rfl rfl (src_old (by kernel_rfl) rfl)
    · exact stepMove rfl rfl rfl rfl (src_old (by kernel_rfl) rfl)
    · exact stepIdx rfl rfl rfl rfl (src_new 6 (by decide) rfl rfl (by kernel_rfl)) (src_new 7 (by decide) rfl rfl (by kernel_rfl)) (fun w => idxS g b hb w)
    · exact stepLoad (.pointer (some ⟨g, b, none⟩)) rfl rfl rfl rfl (src_new 8 (by decide) rfl rfl (by kernel_rfl)) (fun w hk => ldW ((hB.below (hk.below (nh0 rfl))).u32v hb rfl))
    · exact stepBin rfl rfl rfl rfl (src_new 5 (by decide) rfl rfl (by kernel_rfl)) (src_new 9 (by decide) rfl rfl (by kernel_rfl)) (fun w => (EA0.out ▸ addW _ _ _ _) w)
    · exact stepIdx rfl rfl rfl rfl (src_new 0 (by decide) rfl rfl (by kernel_rfl)) (src_new 1 (by decide) rfl rfl (by kernel_rfl)) (fun w => idxS g a ha w)
  intro v x1 hok hk
  replace hk := hk.all
  have v0 := okVal hok (j := 0) rfl rfl
  have v1 := okVal hok (j := 1) rfl rfl
  have v2 := okVal hok (j := 2) rfl rfl
  have v3 := okVal hok (j := 3) rfl rfl
  have v4 := okVal hok (j := 4) rfl rfl
  have v5 := okVal hok (j := 5) rfl rfl
  have v6 := okVal hok (j := 6) rfl rfl
  have v7 := okVal hok (j := 7) rfl rfl
  have v8 := okVal hok (j := 8) rfl rfl
  have v9 := okVal hok (j := 9) rfl rfl
  have v10 := okVal hok (j := 10) rfl rfl
  have v11 := okVal hok (j := 11) rfl rfl
  clear hok
  simp only [putL, Nat.zero_add, Nat.reduceAdd, v0, v1, v2, v3, v4, v5, v6, v7, v8, v9, v10, v11, Act.put, List.setIfInBounds_toArray, List.set_cons_zero, List.set_cons_succ]
  clear v0 v1 v2 v3 v4 v5 v6 v7 v8 v9 v10 v11
  have fX := hB.below (hk.below (nh0 rfl))
  have gX : w.grownBy x1 (some g) := gr_of (hk.below (nh0 rfl))
  have cX := fX.u32 ha
  have zX := fX.froz (j := a)
  have p0 := fX.put32 ha A0
  have k0 := gr_trans2 gX (grown_put x1 g a (.int .u32 A0))
  clear hk fX gX
  clear hB
  go_upto_region 1 with (fail)
  generalize x1.setCell ⟨g, a, none⟩ (.int .u32 A0) = y0 at *
  clear cX zX
  refine region_rest 13 (kdAt [.val (.slice (some ⟨g, 0, none⟩) 16 16), .val (.int .i64 d), .val (.slice (some ⟨g, 0, none⟩) 16 16), .val (.int .i64 d), .val (.pointer (some ⟨g, d, none⟩)), .val (.int .u32 (f0 d)), .val (.slice (some ⟨g, 0, none⟩) 16 16), .val (.int .i64 a), .val (.pointer (some ⟨g, a, none⟩)), .val (.int .u32 A0), .val (.int .u32 X0), .val (.int .u32 R0), .val (.pointer (some ⟨g, d, none⟩))]) [some 22, some 23, some 24, some 25, some 26, some 27, some 28, some 29, some 30, some 31, some 32, some 33, some 34] (by kernel_rfl) (by decide) (by kernel_rfl) (by kernel_rfl) (by kernel_rfl) (by kernel_rfl) (by kernel_rfl) _ (fun a w h => anyStep (n := 0) (i := 13) (by kernel_rfl) rfl (fun a w h => anyEnd (by kernel_rfl) h) h) ?_ ?_
  · repeat refine allS ?_ ?_
    · exact all0
    · exact stepMove rfl rfl rfl rfl (src_old (by kernel_rfl) rfl)
    · exact stepMove rfl rfl rfl rfl (src_old (by kernel_rfl) rfl)
    · exact stepMove rfl rfl rfl rfl (src_old (by kernel_rfl) rfl)
    · exact stepMove rfl rfl rfl rfl (src_old (by kernel_rfl) rfl)
    · exact stepIdx rfl rfl rfl rfl (src_new 2 (by decide) rfl rfl (by kernel_rfl)) (src_new 3 (by decide) rfl rfl (by kernel_rfl)) (fun w => idxS g d hd w)
    · exact stepLoad (.pointer (some ⟨g, d, none⟩)) rfl rfl rfl rfl (src_new 4 (by decide) rfl rfl (by kernel_rfl)) (fun w hk => ldW ((p0.below (hk.below (nh0 rfl))).u32v hd u0))
    · exact stepMove rfl rfl rfl rfl (src_old (by kernel_rfl) rfl)
    · exact stepMove rfl rfl rfl rfl (src_old (by kernel_rfl) rfl)
    · exact stepIdx rfl rfl rfl rfl (src_new 6 (by decide) rfl rfl (by kernel_rfl)) (src_new 7 (by decide) rfl rfl (by kernel_rfl)) (fun w => idxS g a ha w)
    · exact stepLoad (.pointer (some ⟨g, a, none⟩)) rfl rfl rfl rfl (src_new 8 (by decide) rfl rfl (by kernel_rfl)) (fun w hk => ldW ((p0.below (hk.below (nh0 rfl))).u32v ha t0))
    · exact stepBin rfl rfl rfl rfl (src_new 5 (by decide) rfl rfl (by kernel_rfl)) (src_new 9 (by decide) rfl rfl (by kernel_rfl)) (fun w => (EX0.out ▸ xorW _ _ _ _) w)
    · exact stepCallC rfl rfl rfl rfl cfRot (src_new 10 (by decide) rfl rfl (by kernel_rfl)) (fun w hk => l4Rot_c X0 R0 16 w BX0.out (by decide) (by decide) ER0.out)
    · exact stepIdx rfl rfl rfl rfl (src_new 0 (by decide) rfl rfl (by kernel_rfl)) (src_new 1 (by decide) rfl rfl (by kernel_rfl)) (fun w => idxS g d hd w)
  intro v x2 hok hk
  replace hk := hk.all
  have v0 := okVal hok (j := 0) rfl rfl
  have v1 := okVal hok (j := 1) rfl rfl
  have v2 := okVal hok (j := 2) rfl rfl
  have v3 := okVal hok (j := 3) rfl rfl
  have v4 := okVal hok (j := 4) rfl rfl
  have v5 := okVal hok (j := 5) rfl rfl
  have v6 := okVal hok (j := 6) rfl rfl
  have v7 := okVal hok (j := 7) rfl rfl
  have v8 := okVal hok (j := 8) rfl rfl
  have v9 := okVal hok (j := 9) rfl rfl
  have v10 := okVal hok (j := 10) rfl rfl
  have v11 := okVal hok (j := 11) rfl rfl
  have v12 := okVal hok (j := 12) rfl rfl
  clear hok
  simp only [putL, Nat.zero_add, Nat.reduceAdd, v0, v1, v2, v3, v4, v5, v6, v7, v8, v9, v10, v11, v12, Act.put, List.setIfInBounds_toArray, List.set_cons_zero, List.set_cons_succ]
  clear v0 v1 v2 v3 v4 v5 v6 v7 v8 v9 v10 v11 v12
  have fX := p0.below (hk.below (nh0 rfl))
  have gX : w.grownBy x2 (some g) := gr_trans2 k0 (gr_of (hk.below (nh0 rfl)))
  have cX := fX.u32 hd
  have zX := fX.froz (j := d)
  have p1 := fX.put32 hd R0
  have k1 := gr_trans2 gX (grown_put x2 g d (.int .u32 R0))
  clear hk fX gX
  clear p0 k0
  go_upto_region 2 with (fail)
  generalize x2.setCell ⟨g, d, none⟩ (.int .u32 R0) = y1 at *
  clear cX zX
  rw [← EF1.out] at p1
  refine region_rest 12 (kdAt [.val (.slice (some ⟨g, 0, none⟩) 16 16), .val (.int .i64 c), .val (.slice (some ⟨g, 0, none⟩) 16 16), .val (.int .i64 c), .val (.pointer (some ⟨g, c, none⟩)), .val (.int .u32 (f1 c)), .val (.slice (some ⟨g, 0, none⟩) 16 16), .val (.int .i64 d), .val (.pointer (some ⟨g, d, none⟩)), .val (.int .u32 (f1 d)), .val (.int .u32 A1), .val (.pointer (some ⟨g, c, none⟩))]) [some 35, some 36, some 37, some 38, some 39, some 40, some 41, some 42, some 43, some 44, some 45, some 46] (by kernel_rfl) (by decide) (by kernel_rfl) (by kernel_rfl) (by kernel_rfl) (by kernel_rfl) (by kernel_rfl) _ (fun a w h => anyStep (n := 0) (i := 12) (by kernel_rfl) rfl (fun a w h => anyEnd (by kernel_rfl) h) h) ?_ ?_
  · repeat refine allS ?_ ?_
    · exact all0
    · exact stepMove rfl rfl rfl rfl (src_old (by kernel_rfl) rfl)
    · exact stepMove rfl rfl rfl rfl (src_old (by kernel_rfl) rfl)
    · exact stepMove rfl rfl rfl rfl (src_old (by kernel_rfl) rfl)
    · exact stepMove rfl rfl rfl rfl (src_old (by kernel_rfl) rfl)
    · exact stepIdx rfl rfl rfl rfl (src_new 2 (by decide) rfl rfl (by kernel_rfl)) (src_new 3 (by decide) rfl rfl (by kernel_rfl)) (fun w => idxS g c hc w)
    · exact stepLoad (.pointer (some ⟨g, c, none⟩)) rfl rfl rfl rfl (src_new 4 (by decide) rfl rfl (by kernel_rfl)) (fun w hk => ldW ((p1.below (hk.below (nh0 rfl))).u32v hc rfl))
    · exact stepMove rfl rfl rfl rfl (src_old (by kernel_rfl) rfl)
    · exact stepMove rfl rfl rfl rfl (src_old (by kernel_rfl) rfl)
    · exact stepIdx rfl rfl rfl rfl (src_new 6 (by decide) rfl rfl (by kernel_rfl)) (src_new 7 (by decide) rfl rfl (by kernel_rfl)) (fun w => idxS g d hd w)
    · exact stepLoad (.pointer (some ⟨g, d, none⟩)) rfl rfl rfl rfl (src_new 8 (by decide) rfl rfl (by kernel_rfl)) (fun w hk => ldW ((p1.below (hk.below (nh0 rfl))).u32v hd rfl))
    · exact stepBin rfl rfl rfl rfl (src_new 5 (by decide) rfl rfl (by kernel_rfl)) (src_new 9 (by decide) rfl rfl (by kernel_rfl)) (fun w => (EA1.out ▸ addW _ _ _ _) w)
    · exact stepIdx rfl rfl rfl rfl (src_new 0 (by decide) rfl rfl (by kernel_rfl)) (src_new 1 (by decide) rfl rfl (by kernel_rfl)) (fun w => idxS g c hc w)
  intro v x3 hok hk
  replace hk := hk.all
  have v0 := okVal hok (j := 0) rfl rfl
  have v1 := okVal hok (j := 1) rfl rfl
  have v2 := okVal hok (j := 2) rfl rfl
  have v3 := okVal hok (j := 3) rfl rfl
  have v4 := okVal hok (j := 4) rfl rfl
  have v5 := okVal hok (j := 5) rfl rfl
  have v6 := okVal hok (j := 6) rfl rfl
  have v7 := okVal hok (j := 7) rfl rfl
  have v8 := okVal hok (j := 8) rfl rfl
  have v9 := okVal hok (j := 9) rfl rfl
  have v10 := okVal hok (j := 10) rfl rfl
  have v11 := okVal hok (j := 11) rfl rfl
  clear hok
  simp only [putL, Nat.zero_add, Nat.reduceAdd, v0, v1, v2, v3, v4, v5, v6, v7, v8, v9, v10, v11, Act.put, List.setIfInBounds_toArray, List.set_cons_zero, List.set_cons_succ]
  clear v0 v1 v2 v3 v4 v5 v6 v7 v8 v9 v10 v11
  have fX := p1.below (hk.below (nh0 rfl))
  have gX : w.grownBy x3 (some g) := gr_trans2 k1 (gr_of (hk.below (nh0 rfl)))
  have cX := fX.u32 hc
  have zX := fX.froz (j := c)
  have p2 := fX.put32 hc A1
  have k2 := gr_trans2 gX (grown_put x3 g c (.int .u32 A1))
  clear hk fX gX
  clear p1 k1
  go_upto_region 3 with (fail)
  generalize x3.setCell ⟨g, c, none⟩ (.int .u32 A1) = y2 at *
  clear cX zX
  refine region_rest 13 (kdAt [.val (.slice (some ⟨g, 0, none⟩) 16 16), .val (.int .i64 b), .val (.slice (some ⟨g, 0, none⟩) 16 16), .val (.int .i64 b), .val (.pointer (some ⟨g, b, none⟩)), .val (.int .u32 (f1 b)), .val (.slice (some ⟨g, 0, none⟩) 16 16), .val (.int .i64 c), .val (.pointer (some ⟨g, c, none⟩)), .val (.int .u32 A1), .val (.int .u32 X1), .val (.int .u32 R1), .val (.pointer (some ⟨g, b, none⟩))]) [some 47, some 48, some 49, some 50, some 51, some 52, some 53, some 54, some 55, some 56, some 57, some 58, some 59] (by kernel_rfl) (by decide) (by kernel_rfl) (by kernel_rfl) (by kernel_rfl) (by kernel_rfl) (by kernel_rfl) _ (fun a w h => anyStep (n := 0) (i := 13) (by kernel_rfl) rfl (fun a w h => anyEnd (by kernel_rfl) h) h) ?_ ?_
  · repeat refine allS ?_ ?_
    · exact all0
    · exact stepMove rfl rfl rfl rfl (src_old (by kernel_rfl) rfl)
    · exact stepMove rfl rfl rfl rfl (src_old (by kernel_rfl) rfl)
    · exact stepMove rfl rfl rfl rfl (src_old (by kernel_rfl) rfl)
    · exact stepMove rfl rfl rfl rfl (src_old (by kernel_rfl) rfl)
    · exact stepIdx rfl rfl rfl rfl (src_new 2 (by decide) rfl rfl (by kernel_rfl)) (src_new 3 (by decide) rfl rfl (by kernel_rfl)) (fun w => idxS g b hb w)
    · exact stepLoad (.pointer (some ⟨g, b, none⟩)) rfl rfl rfl rfl (src_new 4 (by decide) rfl rfl (by kernel_rfl)) (fun w hk => ldW ((p2.below (hk.below (nh0 rfl))).u32v hb u1))
    · exact stepMove rfl rfl rfl rfl (src_old (by kernel_rfl) rfl)
    · exact stepMove rfl rfl rfl rfl (src_old (by kernel_rfl) rfl)
    · exact stepIdx rfl rfl rfl rfl (src_new 6 (by decide) rfl rfl (by kernel_rfl)) (src_new 7 (by decide) rfl rfl (by kernel_rfl)) (fun w => idxS g c hc w)
    · exact stepLoad (.pointer (some ⟨g, c, none⟩)) rfl rfl rfl rfl (src_new 8 (by decide) rfl rfl (by kernel_rfl)) (fun w hk => ldW ((p2.below (hk.below (nh0 rfl))).u32v hc t1))
    · exact stepBin rfl rfl rfl rfl (src_new 5 (by decide) rfl rfl (by kernel_rfl)) (src_new 9 (by decide) rfl rfl (by kernel_rfl)) (fun w => (EX1.out ▸ xorW _ _ _ _) w)
    · exact stepCallC rfl rfl rfl rfl cfRot (src_new 10 (by decide) rfl rfl (by kernel_rfl)) (fun w hk => l4Rot_c X1 R1 12 w BX1.out (by decide) (by decide) ER1.out)
    · exact stepIdx rfl rfl rfl rfl (src_new 0 (by decide) rfl rfl (by kernel_rfl)) (src_new 1 (by decide) rfl rfl (by kernel_rfl)) (fun w => idxS g b hb w)
  intro v x4 hok hk
  replace hk := hk.all
  have v0 := okVal hok (j := 0) rfl rfl
  have v1 := okVal hok (j := 1) rfl rfl
  have v2 := okVal hok (j := 2) rfl rfl
  have v3 := okVal hok (j := 3) rfl rfl
  have v4 := okVal hok (j := 4) rfl rfl
  have v5 := okVal hok (j := 5) rfl rfl
  have v6 := okVal hok (j := 6) rfl rfl
  have v7 := okVal hok (j := 7) rfl rfl
  have v8 := okVal hok (j := 8) rfl rfl
  have v9 := okVal hok (j := 9) rfl rfl
  have v10 := okVal hok (j := 10) rfl rfl
  have v11 := okVal hok (j := 11) rfl rfl
  have v12 := okVal hok (j := 12) rfl rfl
  clear hok
  simp only [putL, Nat.zero_add, Nat.reduceAdd, v0, v1, v2, v3, v4, v5, v6, v7, v8, v9, v10, v11, v12, Act.put, List.setIfInBounds_toArray, List.set_cons_zero, List.set_cons_succ]
  clear v0 v1 v2 v3 v4 v5 v6 v7 v8 v9 v10 v11 v12
  have fX := p2.below (hk.below (nh0 rfl))
  have gX : w.grownBy x4 (some g) := gr_trans2 k2 (gr_of (hk.below (nh0 rfl)))
  have cX := fX.u32 hb
  have zX := fX.froz (j := b)
  have p3 := fX.put32 hb R1
  have k3 := gr_trans2 gX (grown_put x4 g b (.int .u32 R1))
  clear hk fX gX
  clear p2 k2
  go_upto_region 4 with (fail)
  generalize x4.setCell ⟨g, b, none⟩ (.int .u32 R1) = y3 at *
  clear cX zX
  rw [← EF2.out] at p3
  refine region_rest 12 (kdAt [.val (.slice (some ⟨g, 0, none⟩) 16 16), .val (.int .i64 a), .val (.slice (some ⟨g, 0, none⟩) 16 16), .val (.int .i64 a), .val (.pointer (some ⟨g, a, none⟩)), .val (.int .u32 (f2 a)), .val (.slice (some ⟨g, 0, none⟩) 16 16), .val (.int .i64 b), .val (.pointer (some ⟨g, b, none⟩)), .val (.int .u32 (f2 b)), .val (.int .u32 A2), .val (.pointer (some ⟨g, a, none⟩))]) [some 60, some 61, some 62, some 63, some 64, some 65, some 66, some 67, some 68, some 69, some 70, some 71] (by kernel_rfl) (by decide) (by kernel_rfl) (by kernel_rfl) (by kernel_rfl) (by kernel_rfl) (by kernel_rfl) _ (fun a w h => anyStep (n := 0) (i := 12) (by kernel_rfl) rfl (fun a w h => anyEnd (by kernel_rfl) h) h) ?_ ?_
  · repeat refine allS ?_ ?_
    · exact all0
    · exact stepMove rfl rfl rfl rfl (src_old (by kernel_rfl) rfl)
    · exact stepMove rfl rfl rfl rfl (src_old (by kernel_rfl) rfl)
    · exact stepMove rfl rfl rfl rfl (src_old (by kernel_rfl) rfl)
    · exact stepMove rfl rfl rfl rfl (src_old (by kernel_rfl) rfl)
    · exact stepIdx rfl rfl rfl rfl (src_new 2 (by decide) rfl rfl (by kernel_rfl)) (src_new 3 (by decide) rfl rfl (by kernel_rfl)) (fun w => idxS g a ha w)
    · exact stepLoad (.pointer (some ⟨g, a, none⟩)) rfl rfl rfl rfl (src_new 4 (by decide) rfl rfl (by kernel_rfl)) (fun w hk => ldW ((p3.below (hk.below (nh0 rfl))).u32v ha rfl))
    · exact stepMove rfl rfl rfl rfl (src_old (by kernel_rfl) rfl)
    · exact stepMove rfl rfl rfl rfl (src_old (by kernel_rfl) rfl)
    · exact stepIdx rfl rfl rfl rfl (src_new 6 (by decide) rfl rfl (by kernel_rfl)) (src_new 7 (by decide) rfl rfl (by kernel_rfl)) (fun w => idxS g b hb w)
    · exact stepLoad (.pointer (some ⟨g, b, none⟩)) rfl rfl rfl rfl (src_new 8 (by decide) rfl rfl (by kernel_rfl)) (fun w hk => ldW ((p3.below (hk.below (nh0 rfl))).u32v hb rfl))
    · exact stepBin rfl rfl rfl rfl (src_new 5 (by decide) rfl rfl (by kernel_rfl)) (src_new 9 (by decide) rfl rfl (by kernel_rfl)) (fun w => (EA2.out ▸ addW _ _ _ _) w)
    · exact stepIdx rfl rfl rfl rfl (src_new 0 (by decide) rfl rfl (by kernel_rfl)) (src_new 1 (by decide) rfl rfl (by kernel_rfl)) (fun w => idxS g a ha w)
  intro v x5 hok hk
  replace hk := hk.all
  have v0 := okVal hok (j := 0) rfl rfl
  have v1 := okVal hok (j := 1) rfl rfl
  have v2 := okVal hok (j := 2) rfl rfl
  have v3 := okVal hok (j := 3) rfl rfl
  have v4 := okVal hok (j := 4) rfl rfl
  have v5 := okVal hok (j := 5) rfl rfl
  have v6 := okVal hok (j := 6) rfl rfl
  have v7 := okVal hok (j := 7) rfl rfl
  have v8 := okVal hok (j := 8) rfl rfl
  have v9 := okVal hok (j := 9) rfl rfl
  have v10 := okVal hok (j := 10) rfl rfl
  have v11 := okVal hok (j := 11) rfl rfl
  clear hok
  simp only [putL, Nat.zero_add, Nat.reduceAdd, v0, v1, v2, v3, v4, v5, v6, v7, v8, v9, v10, v11, Act.put, List.setIfInBounds_toArray, List.set_cons_zero, List.set_cons_succ]
  clear v0 v1 v2 v3 v4 v5 v6 v7 v8 v9 v10 v11
  have fX := p3.below (hk.below (nh0 rfl))
  have gX : w.grownBy x5 (some g) := gr_trans2 k3 (gr_of (hk.below (nh0 rfl)))
  have cX := fX.u32 ha
  have zX := fX.froz (j := a)
  have p4 := fX.put32 ha A2
  have k4 := gr_trans2 gX (grown_put x5 g a (.int .u32 A2))
  clear hk fX gX
  clear p3 k3
  go_upto_region 5 with (fail)
  generalize x5.setCell ⟨g, a, none⟩ (.int .u32 A2) = y4 at *
  clear cX zX
  refine region_rest 13 (kdAt [.val (.slice (some ⟨g, 0, none⟩) 16 16), .val (.int .i64 d), .val (.slice (some ⟨g, 0, none⟩) 16 16), .val (.int .i64 d), .val (.pointer (some ⟨g, d, none⟩)), .val (.int .u32 (f2 d)), .val (.slice (some ⟨g, 0, none⟩) 16 16), .val (.int .i64 a), .val (.pointer (some ⟨g, a, none⟩)), .val (.int .u32 A2), .val (.int .u32 X2), .val (.int .u32 R2), .val (.pointer (some ⟨g, d, none⟩))]) [some 72, some 73, some 74, some 75, some 76, some 77, some 78, some 79, some 80, some 81, some 82, some 83, some 84] (by kernel_rfl) (by decide) (by kernel_rfl) (by kernel_rfl) (by kernel_rfl) (by kernel_rfl) (by kernel_rfl) _ (fun a w h => anyStep (n := 0) (i := 13) (by kernel_rfl) rfl (fun a w h => anyEnd (by kernel_rfl) h) h) ?_ ?_
  · repeat refine allS ?_ ?_
    · exact all0
    · exact stepMove rfl rfl rfl rfl (src_old (by kernel_rfl) rfl)
    · exact stepMove rfl rfl rfl rfl (src_old (by kernel_rfl) rfl)
    · exact stepMove rfl rfl rfl rfl (src_old (by kernel_rfl) rfl)
    · exact stepMove rfl rfl rfl rfl (src_old (by kernel_rfl) rfl)
    · exact stepIdx rfl rfl rfl rfl (src_new 2 (by decide) rfl rfl (by kernel_rfl)) (src_new 3 (by decide) rfl rfl (by kernel_rfl)) (fun w => idxS g d hd w)
    · exact stepLoad (.pointer (some ⟨g, d, none⟩)) rfl rfl rfl rfl (src_new 4 (by decide) rfl rfl (by kernel_rfl)) (fun w hk => ldW ((p4.below (hk.below (nh0 rfl))).u32v hd u2))
    · exact stepMove rfl rfl rfl rfl (src_old (by kernel_rfl) rfl)
    · exact stepMove rfl rfl rfl rfl (src_old (by kernel_rfl) rfl)
    · exact stepIdx rfl rfl rfl rfl (src_new 6 (by decide) rfl rfl (by kernel_rfl)) (src_new 7 (by decide) rfl rfl (by kernel_rfl)) (fun w => idxS g a ha w)
    · exact stepLoad (.pointer (some ⟨g, a, none⟩)) rfl rfl rfl rfl (src_new 8 (by decide) rfl rfl (by kernel_rfl)) (fun w hk => ldW ((p4.below (hk.below (nh0 rfl))).u32v ha t2))
    · exact stepBin rfl rfl rfl rfl (src_new 5 (by decide) rfl rfl (by kernel_rfl)) (src_new 9 (by decide) rfl rfl (by kernel_rfl)) (fun w => (EX2.out ▸ xorW _ _ _ _) w)
    · exact stepCallC rfl rfl rfl rfl cfRot (src_new 10 (by decide) rfl rfl (by kernel_rfl)) (fun w hk => l4Rot_c X2 R2 8 w BX2.out (by decide) (by decide) ER2.out)
    · exact stepIdx rfl rfl rfl rfl (src_new 0 (by decide) rfl rfl (by kernel_rfl)) (src_new 1 (by decide) rfl rfl (by kernel_rfl)) (fun w => idxS g d hd w)
  intro v x6 hok hk
  replace hk := hk.all
  have v0 := okVal hok (j := 0) rfl rfl
  have v1 := okVal hok (j := 1) rfl rfl
  have v2 := okVal hok (j := 2) rfl rfl
  have v3 := okVal hok (j := 3) rfl rfl
  have v4 := okVal hok (j := 4) rfl rfl
  have v5 := okVal hok (j := 5) rfl rfl
  have v6 := okVal hok (j := 6) rfl rfl
  have v7 := okVal hok (j := 7) rfl rfl
  have v8 := okVal hok (j := 8) rfl rfl
  have v9 := okVal hok (j := 9) rfl rfl
  have v10 := okVal hok (j := 10) rfl rfl
  have v11 := okVal hok (j := 11) rfl rfl
  have v12 := okVal hok (j := 12) rfl rfl
  clear hok
  simp only [putL, Nat.zero_add, Nat.reduceAdd, v0, v1, v2, v3, v4, v5, v6, v7, v8, v9, v10, v11, v12, Act.put, List.setIfInBounds_toArray, List.set_cons_zero, List.set_cons_succ]
  clear v0 v1 v2 v3 v4 v5 v6 v7 v8 v9 v10 v11 v12
  have fX := p4.below (hk.below (nh0 rfl))
  have gX : w.grownBy x6 (some g) := gr_trans2 k4 (gr_of (hk.below (nh0 rfl)))
  have cX := fX.u32 hd
  have zX := fX.froz (j := d)
  have p5 := fX.put32 hd R2
  have k5 := gr_trans2 gX (grown_put x6 g d (.int .u32 R2))
  clear hk fX gX
  clear p4 k4
  go_upto_region 6 with (fail)
  generalize x6.setCell ⟨g, d, none⟩ (.int .u32 R2) = y5 at *
  clear cX zX
  rw [← EF3.out] at p5
  refine region_rest 12 (kdAt [.val (.slice (some ⟨g, 0, none⟩) 16 16), .val (.int .i64 c), .val (.slice (some ⟨g, 0, none⟩) 16 16), .val (.int .i64 c), .val (.pointer (some ⟨g, c, none⟩)), .val (.int .u32 (f3 c)), .val (.slice (some ⟨g, 0, none⟩) 16 16), .val (.int .i64 d), .val (.pointer (some ⟨g, d, none⟩)), .val (.int .u32 (f3 d)), .val (.int .u32 A3), .val (.pointer (some ⟨g, c, none⟩))]) [some 85, some 86, some 87, some 88, some 89, some 90, some 91, some 92, some 93, some 94, some 95, some 96] (by kernel_rfl) (by decide) (by kernel_rfl) (by kernel_rfl) (by kernel_rfl) (by kernel_rfl) (by kernel_rfl) _ (fun a w h => anyStep (n := 0) (i := 12) (by kernel_rfl) rfl (fun a w h => anyEnd (by kernel_rfl) h) h) ?_ ?_
  · repeat refine allS ?_ ?_
    · exact all0
    · exact stepMove rfl rfl rfl rfl (src_old (by kernel_rfl) rfl)
    · exact stepMove rfl rfl rfl rfl (src_old (by kernel_rfl) rfl)
    · exact stepMove rfl rfl rfl rfl (src_old (by kernel_rfl) rfl)
    · exact stepMove rfl rfl rfl rfl (src_old (by kernel_rfl) rfl)
    · exact stepIdx rfl rfl rfl rfl (src_new 2 (by decide) rfl rfl (by kernel_rfl)) (src_new 3 (by decide) rfl rfl (by kernel_rfl)) (fun w => idxS g c hc w)
    · exact stepLoad (.pointer (some ⟨g, c, none⟩)) rfl rfl rfl rfl (src_new 4 (by decide) rfl rfl (by kernel_rfl)) (fun w hk => ldW ((p5.below (hk.below (nh0 rfl))).u32v hc rfl))
    · exact stepMove rfl rfl rfl rfl (src_old (by kernel_rfl) rfl)
    · exact stepMove rfl rfl rfl rfl (src_old (by kernel_rfl) rfl)
    · exact stepIdx rfl rfl rfl rfl (src_new 6 (by decide) rfl rfl (by kernel_rfl)) (src_new 7 (by decide) rfl rfl (by kernel_rfl)) (fun w => idxS g d hd w)
    · exact stepLoad (.pointer (some ⟨g, d, none⟩)) rfl rfl rfl rfl (src_new 8 (by decide) rfl rfl (by kernel_rfl)) (fun w hk => ldW ((p5.below (hk.below (nh0 rfl))).u32v hd rfl))
    · exact stepBin rfl rfl rfl rfl (src_new 5 (by decide) rfl rfl (by kernel_rfl)) (src_new 9 (by decide) rfl rfl (by kernel_rfl)) (fun w => (EA3.out ▸ addW _ _ _ _) w)
    · exact stepIdx rfl rfl rfl rfl (src_new 0 (by decide) rfl rfl (by kernel_rfl)) (src_new 1 (by decide) rfl rfl (by kernel_rfl)) (fun w => idxS g c hc w)
  intro v x7 hok hk
  replace hk := hk.all
  have v0 := okVal hok (j := 0) rfl rfl
  have v1 := okVal hok (j := 1) rfl rfl
  have v2 := okVal hok (j := 2) rfl rfl
  have v3 := okVal hok (j := 3) rfl rfl
  have v4 := okVal hok (j := 4) rfl rfl
  have v5 := okVal hok (j := 5) rfl rfl
  have v6 := okVal hok (j := 6) rfl rfl
  have v7 := okVal hok (j := 7) rfl rfl
  have v8 := okVal hok (j := 8) rfl rfl
  have v9 := okVal hok (j := 9) rfl rfl
  have v10 := okVal hok (j := 10) rfl rfl
  have v11 := okVal hok (j := 11) rfl rfl
  clear hok
  simp only [putL, Nat.zero_add, Nat.reduceAdd, v0, v1, v2, v3, v4, v5, v6, v7, v8, v9, v10, v11, Act.put, List.setIfInBounds_toArray, List.set_cons_zero, List.set_cons_succ]
  clear v0 v1 v2 v3 v4 v5 v6 v7 v8 v9 v10 v11
  have fX := p5.below (hk.below (nh0 rfl))
  have gX : w.grownBy x7 (some g) := gr_trans2 k5 (gr_of (hk.below (nh0 rfl)))
  have cX := fX.u32 hc
  have zX := fX.froz (j := c)
  have p6 := fX.put32 hc A3
  have k6 := gr_trans2 gX (grown_put x7 g c (.int .u32 A3))
  clear hk fX gX
  clear p5 k5
  go_upto_region 7 with (fail)
  generalize x7.setCell ⟨g, c, none⟩ (.int .u32 A3) = y6 at *
  clear cX zX
  refine region_rest 13 (kdAt [.val (.slice (some ⟨g, 0, none⟩) 16 16), .val (.int .i64 b), .val (.slice (some ⟨g, 0, none⟩) 16 16), .val (.int .i64 b), .val (.pointer (some ⟨g, b, none⟩)), .val (.int .u32 (f3 b)), .val (.slice (some ⟨g, 0, none⟩) 16 16), .val (.int .i64 c), .val (.pointer (some ⟨g, c, none⟩)), .val (.int .u32 A3), .val (.int .u32 X3), .val (.int .u32 R3), .val (.pointer (some ⟨g, b, none⟩))]) [some 97, some 98, some 99, some 100, some 101, some 102, some 103, some 104, some 105, some 106, some 107, some 108, some 109] (by kernel_rfl) (by decide) (by kernel_rfl) (by kernel_rfl) (by kernel_rfl) (by kernel_rfl) (by kernel_rfl) _ (fun a w h => anyStep (n := 0) (i := 13) (by kernel_rfl) rfl (fun a w h => anyEnd (by kernel_rfl) h) h) ?_ ?_
  · repeat refine allS ?_ ?_
    · exact all0
    · exact stepMove rfl rfl rfl rfl (src_old (by kernel_rfl) rfl)
    · exact stepMove rfl rfl rfl rfl (src_old (by kernel_rfl) rfl)
    · exact stepMove rfl rfl rfl rfl (src_old (by kernel_rfl) rfl)
    · exact stepMove rfl rfl rfl rfl (src_old (by kernel_rfl) rfl)
    · exact stepIdx rfl rfl rfl rfl (src_new 2 (by decide) rfl rfl (by kernel_rfl)) (src_new 3 (by decide) rfl rfl (by kernel_rfl)) (fun w => idxS g b hb w)
    · exact stepLoad (.pointer (some ⟨g, b, none⟩)) rfl rfl rfl rfl (src_new 4 (by decide) rfl rfl (by kernel_rfl)) (fun w hk => ldW ((p6.below (hk.below (nh0 rfl))).u32v hb u3))
    · exact stepMove rfl rfl rfl rfl (src_old (by kernel_rfl) rfl)
    · exact stepMove rfl rfl rfl rfl (src_old (by kernel_rfl) rfl)
    · exact stepIdx rfl rfl rfl rfl (src_new 6 (by decide) rfl rfl (by kernel_rfl)) (src_new 7 (by decide) rfl rfl (by kernel_rfl)) (fun w => idxS g c hc w)
    · exact stepLoad (.pointer (some ⟨g, c, none⟩)) rfl rfl rfl rfl (src_new 8 (by decide) rfl rfl (by kernel_rfl)) (fun w hk => ldW ((p6.below (hk.below (nh0 rfl))).u32v hc t3))
    · exact stepBin rfl rfl rfl rfl (src_new 5 (by decide) rfl rfl (by kernel_rfl)) (src_new 9 (by decide) rfl rfl (by kernel_rfl)) (fun w => (EX3.out ▸ xorW _ _ _ _) w)
    · exact stepCallC rfl rfl rfl rfl cfRot (src_new 10 (by decide) rfl rfl (by kernel_rfl)) (fun w hk => l4Rot_c X3 R3 7 w BX3.out (by decide) (by decide) ER3.out)
    · exact stepIdx rfl rfl rfl rfl (src_new 0 (by decide) rfl rfl (by kernel_rfl)) (src_new 1 (by decide) rfl rfl (by kernel_rfl)) (fun w => idxS g b hb w)
  intro v x8 hok hk
  replace hk := hk.all
  have v0 := okVal hok (j := 0) rfl rfl
  have v1 := okVal hok (j := 1) rfl rfl
  have v2 := okVal hok (j := 2) rfl rfl
  have v3 := okVal hok (j := 3) rfl rfl
  have v4 := okVal hok (j := 4) rfl rfl
  have v5 := okVal hok (j := 5) rfl rfl
  have v6 := okVal hok (j := 6) rfl rfl
  have v7 := okVal hok (j := 7) rfl rfl
  have v8 := okVal hok (j := 8) rfl rfl
  have v9 := okVal hok (j := 9) rfl rfl
  have v10 := okVal hok (j := 10) rfl rfl
  have v11 := okVal hok (j := 11) rfl rfl
  have v12 := okVal hok (j := 12) rfl rfl
  clear hok
  simp only [putL, Nat.zero_add, Nat.reduceAdd, v0, v1, v2, v3, v4, v5, v6, v7, v8, v9, v10, v11, v12, Act.put, List.setIfInBounds_toArray, List.set_cons_zero, List.set_cons_succ]
  clear v0 v1 v2 v3 v4 v5 v6 v7 v8 v9 v10 v11 v12
  have fX := p6.below (hk.below (nh0 rfl))
  have gX : w.grownBy x8 (some g) := gr_trans2 k6 (gr_of (hk.below (nh0 rfl)))
  have cX := fX.u32 hb
  have zX := fX.froz (j := b)
  have p7 := fX.put32 hb R3
  have k7 := gr_trans2 gX (grown_put x8 g b (.int .u32 R3))
  clear hk fX gX
  clear p6 k6
  rw [← EF4.out] at p7
  go_wp2
  go_end0
  exact ⟨rfl, by rw [← HE.out]; exact p7, k7⟩

end Go.Proofs.YtgjnoleejbkddaaDoor

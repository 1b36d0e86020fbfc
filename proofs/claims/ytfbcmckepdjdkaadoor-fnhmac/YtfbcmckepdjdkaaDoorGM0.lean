import Derived.WalkKit
import Derived.Lib.Hide
import Derived.Test.YtfbcmckepdjdkaaDoorRows
import Derived.ProofKit
import Derived.Deep.QuietTactic
import Derived.BigQuiet
import Derived.Deep.MidRow
import Derived.Deep.RegionHeld3
import Derived.Deep.AppendLies
import Derived.StillTailTactics
import Derived.WalkSpells
import Derived.WalkLawsBesides
import Derived.Laws.Externs
/- Plain facts on lists of bytes: hexadecimal digits. Nothing of the program is named. -/
namespace Go.My
open Go.RowKit
set_option linter.unusedVariables false

/-- The cells of a row of bytes. -/
def cellsOf (l : List UInt8) : List Value := l.map (fun b => Value.int .u8 (b.toNat : Int))
/-- A list of bytes as a string. -/
def str (l : List UInt8) : ByteArray := ⟨l.toArray⟩

theorem cellsOf_append (a b : List UInt8) : cellsOf (a ++ b) = cellsOf a ++ cellsOf b := by simp [cellsOf]
theorem cellsOf_length (a : List UInt8) : (cellsOf a).length = a.length := by simp [cellsOf]
theorem str_size (a : List UInt8) : (str a).size = a.length := by simp [str, ByteArray.size]
theorem str_list (a : List UInt8) : (str a).data.toList = a := by simp [str]
theorem str_of (s : ByteArray) : str s.data.toList = s := by cases s; simp [str]
theorem str_app (a b : List UInt8) : str a ++ str b = str (a ++ b) := by
  apply ByteArray.ext
  rw [ByteArray.data_append]
  simp [str]
theorem str_inj {a b : List UInt8} (h : str a = str b) : a = b := by
  have := congrArg (fun s : ByteArray => s.data.toList) h
  simpa [str] using this

theorem take_snoc (s : ByteArray) (k : Nat) (h : k < s.size) : s.data.toList.take (k + 1) = s.data.toList.take k ++ [s[k]] := by
  rw [List.take_succ_eq_append_getElem (by simpa using h)]; rfl

theorem len_data (s : ByteArray) : s.data.toList.length = s.size := by rw [Array.length_toList]; rfl
theorem take_all (s : ByteArray) : s.data.toList.take s.size = s.data.toList := List.take_of_length_le (by rw [Array.length_toList]; exact Nat.le_refl _)

def hexTab : List UInt8 := [48, 49, 50, 51, 52, 53, 54, 55, 56, 57, 97, 98, 99, 100, 101, 102]
def hexD (n : Nat) : UInt8 := hexTab.getD n 0
def hexL (l : List UInt8) : List UInt8 := l.flatMap fun b => [hexD (b.toNat / 16), hexD (b.toNat % 16)]
theorem hexL_snoc (l : List UInt8) (b : UInt8) : hexL (l ++ [b]) = hexL l ++ [hexD (b.toNat / 16), hexD (b.toNat % 16)] := by simp [hexL]
theorem hexL_length (l : List UInt8) : (hexL l).length = 2 * l.length := by
  induction l with
  | nil => rfl
  | cons a l ih => simp [hexL] at *; omega

theorem and15 (b : UInt8) : bits .and .u8 (b.toNat : Int) 15 = (b.toNat : Int) % 16 := by
  have h := u8_and_nat b.toNat 15 b.toNat_lt (by omega)
  rw [nat_mask4] at h
  simpa using h
theorem hexTab_get (n : Nat) (h : n < 16) (h' : n < (⟨#[48, 49, 50, 51, 52, 53, 54, 55, 56, 57, 97, 98, 99, 100, 101, 102]⟩ : ByteArray).size) : (⟨#[48, 49, 50, 51, 52, 53, 54, 55, 56, 57, 97, 98, 99, 100, 101, 102]⟩ : ByteArray)[n] = hexD n := by
  rcases n with _ | _ | _ | _ | _ | _ | _ | _ | _ | _ | _ | _ | _ | _ | _ | _ | n <;> first | rfl | omega
theorem toNat_div16 (b : UInt8) : ((b.toNat : Int) / 16).toNat = b.toNat / 16 := by omega
theorem toNat_mod16 (b : UInt8) : ((b.toNat : Int) % 16).toNat = b.toNat % 16 := by omega

/-- The exclusive or, byte by byte; nothing for lists of different lengths. -/
def xorL (a b : List UInt8) : List UInt8 := if a.length = b.length then List.zipWith (· ^^^ ·) a b else []
theorem xorL_ne {a b : List UInt8} (h : ¬ a.length = b.length) : xorL a b = [] := if_neg h
theorem xorL_eq {a b : List UInt8} (h : a.length = b.length) : xorL a b = List.zipWith (· ^^^ ·) a b := if_pos h
theorem zip_snoc (a b : ByteArray) (k : Nat) (ha : k < a.size) (hb : k < b.size) :
    List.zipWith (· ^^^ ·) (a.data.toList.take (k + 1)) (b.data.toList.take (k + 1)) = List.zipWith (· ^^^ ·) (a.data.toList.take k) (b.data.toList.take k) ++ [a[k] ^^^ b[k]] := by
  rw [take_snoc a k ha, take_snoc b k hb, List.zipWith_append (by rw [List.length_take, List.length_take, len_data, len_data]; omega)]
  rfl
theorem xor_u8 (a b : UInt8) : bits .xor .u8 (a.toNat : Int) (b.toNat : Int) = ((a ^^^ b).toNat : Int) := by
  rw [u8_xor_nat _ _ a.toNat_lt b.toNat_lt, UInt8.toNat_xor]

/-- What a filled row holds when its first bytes are set: the bytes, then noughts. -/
theorem fill_set (l : List UInt8) (b : UInt8) (n : Nat) (h : l.length < n) : (cellsOf (l ++ List.replicate (n - l.length) 0)).set l.length (.int .u8 (b.toNat : Int)) = cellsOf ((l ++ [b]) ++ List.replicate (n - (l ++ [b]).length) 0) := by
  obtain ⟨m, hm⟩ : ∃ m, n - l.length = m + 1 := ⟨n - l.length - 1, by omega⟩
  have h2 : n - (l ++ [b]).length = m := by simp; omega
  rw [hm, h2]
  simp [cellsOf, List.replicate_succ]
theorem fill_start (n : Nat) : List.replicate n (Value.int .u8 0) = cellsOf (List.replicate n 0) := by simp [cellsOf]

/-- 2^64, behind a name. -/
def U64 : Nat := 18446744073709551616
/-- Byte j of the big-endian encoding of n in k bytes. -/
def beAt (n k j : Nat) : UInt8 := UInt8.ofNat (n / 256 ^ (k - 1 - j))
def beT (n k j : Nat) : List UInt8 := (List.range j).map (beAt n k)
def beL (n k : Nat) : List UInt8 := beT n k k
theorem beT_len (n k j : Nat) : (beT n k j).length = j := by simp [beT]
theorem beT_snoc (n k j : Nat) : beT n k (j + 1) = beT n k j ++ [beAt n k j] := by simp [beT, List.range_succ]

theorem beAt_val (n k j : Nat) : ((beAt n k j).toNat : Int) = (n : Int) / 2 ^ (8 * (k - 1 - j)) % 256 := by
  have e : (256 : Nat) ^ (k - 1 - j) = 2 ^ (8 * (k - 1 - j)) := by rw [show (256 : Nat) = 2 ^ 8 from rfl, ← Nat.pow_mul]
  unfold beAt
  rw [e, UInt8.toNat_ofNat', Int.natCast_emod, Int.natCast_ediv, Int.natCast_pow]
  rfl

/-- A store into a row of the call's own that is filled from the left: noughts behind. -/
theorem store_step {w wr : World} {e g n j : Nat} {l : List UInt8} {b : UInt8} (hl : l.length = j) (hj : j < n) (hg : w.heap.size ≤ g)
    (hown : wr.ownsRow w.heap.size e 1 (.slice (some ⟨g, 0, none⟩) n n) n (cellsOf (l ++ List.replicate (n - l.length) 0))) (hb : Below w.heap.size w wr) :
    (wr.setCell ⟨g, j, none⟩ (.int .u8 (b.toNat : Int))).ownsRow w.heap.size e 1 (.slice (some ⟨g, 0, none⟩) n n) n (cellsOf ((l ++ [b]) ++ List.replicate (n - (l ++ [b]).length) 0)) ∧
    Below w.heap.size w (wr.setCell ⟨g, j, none⟩ (.int .u8 (b.toNat : Int))) := by
  have h := (hown.stored j (.int .u8 (b.toNat : Int))).1
  have hf := fill_set l b n (by omega)
  subst hl
  rw [hf] at h
  exact ⟨h, hb.setCell (by exact hg) _⟩
/-- The cell that such a store meets. -/
theorem store_cell {wr : World} {B e g n j : Nat} {l : List UInt8} (hl : l.length = j) (hj : j < n)
    (hown : wr.ownsRow B e 1 (.slice (some ⟨g, 0, none⟩) n n) n (cellsOf (l ++ List.replicate (n - l.length) 0))) : wr.cell? ⟨g, j, none⟩ = some (.int .u8 0) ∧ wr.frozen? ⟨g, j, none⟩ = false := by
  refine ⟨?_, hown.frozenAt j⟩
  rw [hown.cellAt j (by omega)]
  subst hl
  obtain ⟨m, hm⟩ : ∃ m, n - l.length = m + 1 := ⟨n - l.length - 1, by omega⟩
  rw [hm]
  simp [cellsOf, List.replicate_succ]
/-- An append to a row of the call's own, one block laid ahead of it. -/
theorem append_step {w wr w1 w2 : World} {e n : Nat} {l news : List UInt8} {v v' : Value} {m : Nat} (hown : wr.ownsRow w.heap.size e 1 v n (cellsOf l)) (hb : Below w.heap.size w w1) (hown2 : w2.ownsRow w.heap.size e 1 v' (n + m) (cellsOf l ++ cellsOf news))
    (hgrow : w1.grownBy w2 v.ownBlock) : w2.ownsRow w.heap.size e 1 v' (n + m) (cellsOf (l ++ news)) ∧ Below w.heap.size w w2 := by
  refine ⟨by rw [cellsOf_append]; exact hown2, hb.grown hgrow hb.size ?_⟩
  intro j hj
  exact (hown.lt j hj).1

/-- NumBytes: n in k bytes, if k is in 1..7 and n fits; else nothing. -/
def numB (n k : Int) : List UInt8 := if 1 ≤ k ∧ k ≤ 7 ∧ 0 ≤ n ∧ n < 2 ^ (8 * k.toNat) then beL n.toNat k.toNat else []
theorem numB_no {n k : Int} (h : ¬ (1 ≤ k ∧ k ≤ 7 ∧ 0 ≤ n)) : numB n k = [] := if_neg (fun c => h ⟨c.1, c.2.1, c.2.2.1⟩)
theorem numB_big {n k : Int} (h : ¬ n < 2 ^ (8 * k.toNat)) : numB n k = [] := if_neg (fun c => h c.2.2.2)
theorem numB_yes {n k : Int} (h : 1 ≤ k ∧ k ≤ 7 ∧ 0 ≤ n ∧ n < 2 ^ (8 * k.toNat)) : numB n k = beL n.toNat k.toNat := if_pos h

theorem wrap_pow (K : Nat) (h : K ≤ 7) : wrap64 (wrap64 (2 ^ (8 * K)) - 1) = 2 ^ (8 * K) - 1 := by
  rcases K with _ | _ | _ | _ | _ | _ | _ | _ | K <;> first | omega | decide +kernel

/-- The number of a list of bytes, the highest first. -/
def numOf (l : List UInt8) : Nat := l.foldl (fun n b => n * 256 + b.toNat) 0
theorem numOf_snoc (l : List UInt8) (b : UInt8) : numOf (l ++ [b]) = numOf l * 256 + b.toNat := by simp [numOf]
theorem foldl_lt (l : List UInt8) : ∀ a : Nat, l.foldl (fun n b => n * 256 + b.toNat) a < (a + 1) * 256 ^ l.length := by
  induction l with
  | nil => intro a; simp
  | cons b l ih =>
    intro a
    have h := ih (a * 256 + b.toNat)
    have hb := b.toNat_lt
    simp only [List.foldl_cons, List.length_cons, Nat.pow_succ]
    refine Nat.lt_of_lt_of_le h ?_
    rw [Nat.mul_comm (256 ^ l.length) 256, ← Nat.mul_assoc]
    exact Nat.mul_le_mul_right _ (by omega)
theorem numOf_lt (l : List UInt8) : numOf l < 256 ^ l.length := by have := foldl_lt l 0; simpa [numOf] using this
theorem pow7 (k : Nat) (h : k ≤ 7) : 256 ^ k ≤ 72057594037927936 := by
  have := Nat.pow_le_pow_right (n := 256) (by omega) h
  simpa using this
theorem pow6 (k : Nat) (h : k ≤ 6) : 256 ^ k ≤ 281474976710656 := by
  have := Nat.pow_le_pow_right (n := 256) (by omega) h
  simpa using this
theorem or_byte (n : Nat) (b : UInt8) (h : n ≤ 281474976710656) : bits .or .i64 ((n : Int) * 256) (b.toNat : Int) = (n : Int) * 256 + (b.toNat : Int) := by
  have hb := b.toNat_lt
  have e : (n : Int) * 256 = ((n * 256 : Nat) : Int) := by omega
  rw [e]
  show IntKind.i64.wrap ((BitVec.ofInt 64 ((n * 256 : Nat) : Int) ||| BitVec.ofInt 64 (b.toNat : Int)).toNat : Int) = _
  rw [BitVec.toNat_or, ofInt_u64 (n * 256) (by omega), ofInt_u64 b.toNat (by omega), nat_join 8 (n * 256) b.toNat (by omega) (by omega), IntKind.wrap_i64]
  omega

theorem byte_snoc (l : List UInt8) (y : Int) (h0 : 0 ≤ y) (h1 : y < 256) : cellsOf l ++ [Value.int .u8 y] = cellsOf (l ++ [UInt8.ofNat y.toNat]) := by
  rw [cellsOf_append]
  have : ((UInt8.ofNat y.toNat).toNat : Int) = y := by rw [UInt8.toNat_ofNat', Nat.mod_eq_of_lt (by omega)]; omega
  simp only [cellsOf, List.map_cons, List.map_nil, this]

theorem or_u64_nat (a b : Int) : ∃ m : Nat, m < U64 ∧ bits .or .u64 a b = (m : Int) := by
  have h : bits .or .u64 a b = IntKind.u64.wrap ((BitVec.ofInt 64 a ||| BitVec.ofInt 64 b).toNat : Int) := rfl
  rw [h, IntKind.wrap_u64]
  have := (BitVec.ofInt 64 a ||| BitVec.ofInt 64 b).isLt
  exact ⟨(BitVec.ofInt 64 a ||| BitVec.ofInt 64 b).toNat, by unfold U64; omega, by omega⟩

/-- A slice of integers that came in: nil, or a row of 'cap' cells, the numbers 'zs', each fitting its kind. -/
def IsRow (k : IntKind) (w : World) (a : Option Addr) (len cap : Nat) (zs : List Int) : Prop :=
  (a = none ∧ len = 0 ∧ cap = 0 ∧ zs = []) ∨
  ∃ x, a = some x ∧ len ≤ cap ∧ cap ≤ maxLen ∧ zs.length = cap ∧ (∀ i, i < zs.length → w.cell? (x.add i) = some (.int k (zs.getD i 0))) ∧ ∀ n ∈ zs, (Lit.int k n).wf = true

abbrev hexTabB : ByteArray := ⟨#[48, 49, 50, 51, 52, 53, 54, 55, 56, 57, 97, 98, 99, 100, 101, 102]⟩

/-- 'string(b)' of a slice that the call owns: nil or not. -/
theorem run_convert_own {P : Program} (w : World) (src dst e : TypeId) (base n : Nat) (v : Value) (l : List UInt8) (hs : P.underlying src = some (.slice e)) (he : P.underlying e = some (.int .u8)) (hd : P.underlying dst = some .string)
    (hown : w.ownsRow base e 1 v n (cellsOf l)) : (convert src dst v).run P w = .ok (.string (str l)) w := by
  have hl : l.length = n := by have := hown.1; simpa [cellsOf] using this
  rcases hown.2 with ⟨rfl, h0⟩ | ⟨g, cap, cur, rfl, hb, hg, hnc, hcm, hcs, htake⟩
  · obtain rfl : l = [] := List.eq_nil_of_length_eq_zero (by omega)
    rw [run_convert_bytes_string w src dst e none 0 0 hs he hd]
    rfl
  · subst hl
    refine run_convert_bytes_back w src dst e ⟨g, 0, none⟩ cap l hs he hd ?_
    intro j hj
    have := hown.cells (g := g) rfl j (.int .u8 (l[j].toNat : Int)) (by simp [cellsOf, hj])
    exact this

end Go.My

/- Rows of integers; words of 64 bits with their carries; bytes, the lowest first. Nothing of the program is named. -/
namespace Go.My
open Go.RowKit
set_option linter.unusedVariables false

/-! ### Rows -/
def rwL (k : IntKind) (n : Nat) (f : Nat → Int) : List Value := (List.range n).map fun q => Value.int k (f q)
def rwA (k : IntKind) (n : Nat) (f : Nat → Int) : Array Value := (rwL k n f).toArray
theorem rwL_len (k : IntKind) (n : Nat) (f : Nat → Int) : (rwL k n f).length = n := by simp [rwL]
theorem rwA_size (k : IntKind) (n : Nat) (f : Nat → Int) : (rwA k n f).size = n := by simp [rwA, rwL]
theorem rwA_get (k : IntKind) (n : Nat) (f : Nat → Int) (q : Nat) (h : q < n) : (rwA k n f)[q]? = some (.int k (f q)) := by simp [rwA, rwL, h]
theorem rwA_congr (k : IntKind) (n : Nat) {f g : Nat → Int} (h : ∀ q, q < n → f q = g q) : rwA k n f = rwA k n g := by
  unfold rwA rwL
  rw [List.map_congr_left (fun q hq => by rw [h q (List.mem_range.1 hq)])]
theorem rwA_set (k : IntKind) (n : Nat) (f g : Nat → Int) (q : Nat) (hq : q < n) (x : Int) (hx : g q = x) (ho : ∀ j, j < n → j ≠ q → g j = f j) : (rwA k n f).setIfInBounds q (.int k x) = rwA k n g := by
  apply Array.ext_getElem?
  intro j
  by_cases hj : j < n
  · rw [rwA_get k n g j hj, Array.getElem?_setIfInBounds]
    by_cases e : q = j
    · subst e
      rw [if_pos rfl, if_pos (by rw [rwA_size]; exact hq), hx]
    · rw [if_neg e, rwA_get k n f j hj, ho j hj (fun c => e c.symm)]
  · rw [Array.getElem?_eq_none (by rw [Array.size_setIfInBounds, rwA_size]; omega), Array.getElem?_eq_none (by rw [rwA_size]; omega)]
theorem rwA_one (k : IntKind) (n : Nat) (f : Nat → Int) : (rwA k n f).all (·.oneCell') = true := by
  refine Array.all_eq_true_iff_forall_mem.2 (fun v hv => ?_)
  have hv' : v ∈ rwL k n f := by simpa [rwA] using hv
  obtain ⟨q, _, rfl⟩ := List.mem_map.1 hv'
  rfl
/-- A row that is filled from the left: g up to i, f behind. -/
def upTo (i : Nat) (g f : Nat → Int) (q : Nat) : Int := if q < i then g q else f q
theorem upTo_set (k : IntKind) (n i : Nat) (g f : Nat → Int) (h : i < n) : (rwA k n (upTo i g f)).setIfInBounds i (.int k (g i)) = rwA k n (upTo (i + 1) g f) :=
  rwA_set k n _ _ i h _ (if_pos (by omega)) (fun j _ hj => by
    unfold upTo
    by_cases h : j < i
    · rw [if_pos h, if_pos (by omega)]
    · rw [if_neg h, if_neg (by omega)])
theorem upTo_zero (g f : Nat → Int) : upTo 0 g f = f := by funext q; exact if_neg (by omega)
theorem upTo_all (k : IntKind) (n : Nat) (g f : Nat → Int) : rwA k n (upTo n g f) = rwA k n g := rwA_congr k n (fun q hq => if_pos hq)
theorem upTo_at (g f : Nat → Int) (i : Nat) : upTo i g f i = f i := if_neg (by omega)

/-! ### Words with their carries -/
def V4 (f : Nat → Nat) : Nat := f 0 + 18446744073709551616 * f 1 + 340282366920938463463374607431768211456 * f 2 + 6277101735386680763835789423207666416102355444464034512896 * f 3
def W256 : Nat := 115792089237316195423570985008687907853269984665640564039457584007913129639936
def lw (n : Nat) : Nat → Nat
  | 0 => n % 18446744073709551616
  | 1 => n / 18446744073709551616 % 18446744073709551616
  | 2 => n / 340282366920938463463374607431768211456 % 18446744073709551616
  | 3 => n / 6277101735386680763835789423207666416102355444464034512896 % 18446744073709551616
  | _ => 0
theorem lw_lt (n q : Nat) : lw n q < U64 := by
  unfold U64
  match q with
  | 0 => exact Nat.mod_lt _ (by decide)
  | 1 => exact Nat.mod_lt _ (by decide)
  | 2 => exact Nat.mod_lt _ (by decide)
  | 3 => exact Nat.mod_lt _ (by decide)
  | q + 4 => exact (by decide : 0 < 18446744073709551616)
theorem V4_lw (n : Nat) (h : n < W256) : V4 (lw n) = n := by
  unfold W256 at h
  simp only [V4, lw]
  omega
theorem V4_lt (f : Nat → Nat) (h : ∀ q, q < 4 → f q < U64) : V4 f < W256 := by
  have h0 := h 0 (by omega)
  have h1 := h 1 (by omega)
  have h2 := h 2 (by omega)
  have h3 := h 3 (by omega)
  unfold W256 V4
  unfold U64 at *
  omega
theorem lw_V4 (f : Nat → Nat) (h : ∀ q, q < 4 → f q < U64) (q : Nat) (hq : q < 4) : lw (V4 f) q = f q := by
  have h0 := h 0 (by omega)
  have h1 := h 1 (by omega)
  have h2 := h 2 (by omega)
  have h3 := h 3 (by omega)
  unfold U64 at *
  match q with
  | 0 => simp only [V4, lw]; omega
  | 1 => simp only [V4, lw]; omega
  | 2 => simp only [V4, lw]; omega
  | 3 => simp only [V4, lw]; omega
theorem lw_of {f : Nat → Nat} {n : Nat} (h : ∀ q, q < 4 → f q < U64) (e : V4 f = n) (q : Nat) (hq : q < 4) : f q = lw n q := by rw [← e, lw_V4 f h q hq]
/-- A field's four words. -/
def fldA (n : Nat) : Array Value := rwA .u64 4 (fun q => (lw n q : Int))
theorem fld_of {f : Nat → Nat} {n : Nat} (h : ∀ q, q < 4 → f q < U64) (e : V4 f = n) : rwA .u64 4 (fun q => (f q : Int)) = fldA n :=
  rwA_congr _ _ (fun q hq => by rw [lw_of h e q hq])

def cAdd (f g : Nat → Nat) : Nat → Nat
  | 0 => 0
  | i + 1 => (f i + g i + cAdd f g i) / 18446744073709551616
def sAdd (f g : Nat → Nat) (i : Nat) : Nat := (f i + g i + cAdd f g i) % 18446744073709551616
theorem cAdd_le (f g : Nat → Nat) (hf : ∀ q, f q < U64) (hg : ∀ q, g q < U64) (i : Nat) : cAdd f g i ≤ 1 := by
  unfold U64 at *
  induction i with
  | zero => exact Nat.zero_le _
  | succ i ih => have := hf i; have := hg i; unfold cAdd; omega
theorem sAdd_lt (f g : Nat → Nat) (i : Nat) : sAdd f g i < U64 := Nat.mod_lt _ (by decide)
theorem V4_add (f g : Nat → Nat) : V4 (sAdd f g) + W256 * cAdd f g 4 = V4 f + V4 g := by
  simp only [V4, sAdd, cAdd, W256]
  omega
def bSub (f g : Nat → Nat) : Nat → Nat
  | 0 => 0
  | i + 1 => if f i < g i + bSub f g i then 1 else 0
def dSub (f g : Nat → Nat) (i : Nat) : Nat := (f i + 18446744073709551616 - g i - bSub f g i) % 18446744073709551616
theorem bSub_le (f g : Nat → Nat) (i : Nat) : bSub f g i ≤ 1 := by
  cases i with
  | zero => exact Nat.zero_le _
  | succ i => unfold bSub; split <;> omega
theorem dSub_lt (f g : Nat → Nat) (i : Nat) : dSub f g i < U64 := Nat.mod_lt _ (by decide)
theorem dSub_step (x y b : Nat) (hx : x < 18446744073709551616) (hy : y < 18446744073709551616) (hb : b ≤ 1) : (x + 18446744073709551616 - y - b) % 18446744073709551616 + y + b = x + 18446744073709551616 * (if x < y + b then 1 else 0) := by
  split <;> omega
theorem V4_sub (f g : Nat → Nat) (hf : ∀ q, f q < U64) (hg : ∀ q, g q < U64) : V4 (dSub f g) + V4 g = V4 f + W256 * bSub f g 4 := by
  unfold U64 at *
  have s0 := dSub_step (f 0) (g 0) (bSub f g 0) (hf 0) (hg 0) (bSub_le _ _ _)
  have s1 := dSub_step (f 1) (g 1) (bSub f g 1) (hf 1) (hg 1) (bSub_le _ _ _)
  have s2 := dSub_step (f 2) (g 2) (bSub f g 2) (hf 2) (hg 2) (bSub_le _ _ _)
  have s3 := dSub_step (f 3) (g 3) (bSub f g 3) (hf 3) (hg 3) (bSub_le _ _ _)
  change dSub f g 0 + g 0 + bSub f g 0 = f 0 + 18446744073709551616 * bSub f g 1 at s0
  change dSub f g 1 + g 1 + bSub f g 1 = f 1 + 18446744073709551616 * bSub f g 2 at s1
  change dSub f g 2 + g 2 + bSub f g 2 = f 2 + 18446744073709551616 * bSub f g 3 at s2
  change dSub f g 3 + g 3 + bSub f g 3 = f 3 + 18446744073709551616 * bSub f g 4 at s3
  have s : bSub f g 0 = 0 := rfl
  unfold V4 W256
  generalize dSub f g 0 = d0 at *
  generalize dSub f g 1 = d1 at *
  generalize dSub f g 2 = d2 at *
  generalize dSub f g 3 = d3 at *
  generalize bSub f g 0 = b0 at *
  generalize bSub f g 1 = b1 at *
  generalize bSub f g 2 = b2 at *
  generalize bSub f g 3 = b3 at *
  generalize bSub f g 4 = b4 at *
  clear hf hg
  omega

/-! ### The field's numbers -/
def P25n : Nat := 57896044618658097711785492504343953926634992332820282019728792003956564819949
def redF (n : Nat) : Nat := if n < P25n then n else n - P25n
theorem V4_P : V4 (lw P25n) = P25n := V4_lw _ (by decide)
theorem bSub_P (n : Nat) (h : n < W256) : (bSub (lw n) (lw P25n) 4 = 0 ∧ P25n ≤ n ∧ V4 (dSub (lw n) (lw P25n)) = n - P25n) ∨ (bSub (lw n) (lw P25n) 4 = 1 ∧ n < P25n) := by
  have e := V4_sub (lw n) (lw P25n) (lw_lt n) (lw_lt P25n)
  have l := V4_lt (dSub (lw n) (lw P25n)) (fun q _ => dSub_lt _ _ q)
  have b := bSub_le (lw n) (lw P25n) 4
  rw [V4_P, V4_lw n h] at e
  generalize bSub (lw n) (lw P25n) 4 = B at *
  generalize V4 (dSub (lw n) (lw P25n)) = D at *
  unfold W256 P25n at *
  omega
theorem red_mod (n : Nat) (h : n < 2 * P25n) : redF n = n % P25n := by
  unfold redF
  unfold P25n at *
  split <;> omega
/-- The difference of p and b, b no more than p. -/
theorem bSub_minus (b : Nat) (h : b ≤ P25n) : V4 (dSub (lw P25n) (lw b)) = P25n - b := by
  have e := V4_sub (lw P25n) (lw b) (lw_lt P25n) (lw_lt b)
  have l := V4_lt (dSub (lw P25n) (lw b)) (fun q _ => dSub_lt _ _ q)
  have c := bSub_le (lw P25n) (lw b) 4
  rw [V4_P, V4_lw b (by unfold W256; unfold P25n at h; omega)] at e
  generalize bSub (lw P25n) (lw b) 4 = B at *
  generalize V4 (dSub (lw P25n) (lw b)) = D at *
  unfold W256 P25n at *
  omega
theorem cAdd_plus (a b : Nat) (h : a + b < W256) : V4 (sAdd (lw a) (lw b)) = a + b := by
  have e := V4_add (lw a) (lw b)
  rw [V4_lw a (by omega), V4_lw b (by omega)] at e
  have l := V4_lt (sAdd (lw a) (lw b)) (fun q _ => sAdd_lt _ _ q)
  generalize cAdd (lw a) (lw b) 4 = C at *
  generalize V4 (sAdd (lw a) (lw b)) = D at *
  unfold W256 at *
  omega

/-! ### Bytes, the lowest first -/
def leN : List UInt8 → Nat
  | [] => 0
  | b :: l => b.toNat + 256 * leN l
def leB (n : Nat) : Nat → List UInt8
  | 0 => []
  | k + 1 => UInt8.ofNat n :: leB (n / 256) k
theorem leN_lt (l : List UInt8) : leN l < 256 ^ l.length := by
  induction l with
  | nil => exact (by decide : 0 < 1)
  | cons b l ih =>
    have := b.toNat_lt
    rw [leN, List.length_cons, Nat.pow_succ]
    omega
theorem leN_append (a b : List UInt8) : leN (a ++ b) = leN a + 256 ^ a.length * leN b := by
  induction a with
  | nil => simp [leN]
  | cons x a ih =>
    rw [List.cons_append, leN, ih, leN, List.length_cons, Nat.pow_succ, Nat.mul_add, Nat.mul_comm (256 ^ a.length) 256, Nat.mul_assoc]
    omega
theorem leB_len (n k : Nat) : (leB n k).length = k := by
  induction k generalizing n with
  | zero => rfl
  | succ k ih => rw [leB, List.length_cons, ih]
theorem leN_leB (n k : Nat) (h : n < 256 ^ k) : leN (leB n k) = n := by
  induction k generalizing n with
  | zero => simp at h; subst h; rfl
  | succ k ih =>
    rw [leB, leN, ih (n / 256) (by rw [Nat.pow_succ] at h; omega), UInt8.toNat_ofNat']
    omega
theorem leB_leN (l : List UInt8) : leB (leN l) l.length = l := by
  induction l with
  | nil => rfl
  | cons b l ih =>
    have hb := b.toNat_lt
    rw [List.length_cons, leB, leN, show (b.toNat + 256 * leN l) / 256 = leN l by omega, ih]
    congr 1
    apply UInt8.toNat_inj.1
    rw [UInt8.toNat_ofNat']
    omega
theorem leN_inj {a b : List UInt8} (hl : a.length = b.length) (h : leN a = leN b) : a = b := by rw [← leB_leN a, ← leB_leN b, h, hl]
theorem leB_snoc (n k : Nat) : leB n (k + 1) = leB n k ++ [UInt8.ofNat (n / 256 ^ k)] := by
  induction k generalizing n with
  | zero => simp [leB]
  | succ k ih =>
    rw [leB, ih, leB, List.cons_append, Nat.div_div_eq_div_mul, Nat.pow_succ, Nat.mul_comm]
theorem leB_add (n a b : Nat) : leB n (a + b) = leB n a ++ leB (n / 256 ^ a) b := by
  induction a generalizing n with
  | zero => simp [leB]
  | succ a ih => rw [show a + 1 + b = (a + b) + 1 by omega, leB, ih, leB, List.cons_append, Nat.div_div_eq_div_mul, Nat.pow_succ, Nat.mul_comm 256]
theorem leB_mod (n k : Nat) : leB (n % 256 ^ k) k = leB n k := by
  induction k generalizing n with
  | zero => rfl
  | succ k ih =>
    rw [leB, leB, ← ih (n / 256)]
    congr 1
    · apply UInt8.toNat_inj.1
      rw [UInt8.toNat_ofNat', UInt8.toNat_ofNat', Nat.pow_succ, Nat.mul_comm]
      rw [Nat.mod_mul_right_mod]
    · rw [Nat.pow_succ, Nat.mul_comm, Nat.mod_mul_right_div_self]
/-- A field's words as bytes. -/
theorem leB_words (n : Nat) : leB (lw n 0) 8 ++ leB (lw n 1) 8 ++ leB (lw n 2) 8 ++ leB (lw n 3) 8 = leB n 32 := by
  have e8 : (256 : Nat) ^ 8 = 18446744073709551616 := by decide
  have e16 : (256 : Nat) ^ 16 = 340282366920938463463374607431768211456 := by decide
  have e24 : (256 : Nat) ^ 24 = 6277101735386680763835789423207666416102355444464034512896 := by decide
  have h1 := leB_add n 8 24
  have h2 := leB_add (n / 256 ^ 8) 8 16
  have h3 := leB_add (n / 256 ^ 8 / 256 ^ 8) 8 8
  rw [show 8 + 24 = 32 from rfl] at h1
  rw [show 8 + 16 = 24 from rfl] at h2
  rw [show 8 + 8 = 16 from rfl] at h3
  rw [h1, h2, h3, ← leB_mod n 8, ← leB_mod (n / 256 ^ 8) 8, ← leB_mod (n / 256 ^ 8 / 256 ^ 8) 8, ← leB_mod (n / 256 ^ 8 / 256 ^ 8 / 256 ^ 8) 8, e8]
  simp only [lw, Nat.div_div_eq_div_mul, List.append_assoc]

end Go.My

/- Field numbers in ten limbs of 26 and 25 bits by turns: carries. Nothing of the program is named. -/
namespace Go.My
open Go.RowKit
set_option linter.unusedVariables false

def VL (h : Nat → Int) : Int := h 0 + h 1 * 67108864 + h 2 * 2251799813685248 + h 3 * 151115727451828646838272 + h 4 * 5070602400912917605986812821504 + h 5 * 340282366920938463463374607431768211456 + h 6 * 11417981541647679048466287755595961091061972992 + h 7 * 766247770432944429179173513575154591809369561091801088 + h 8 * 25711008708143844408671393477458601640355247900524685364822016 + h 9 * 1725436586697640946858688965569256363112777243042596638790631055949824
/-- A limb's bits, as a power of two, and half of it. -/
def kw (i : Nat) : Int := if i % 2 = 0 then 67108864 else 33554432
def kh (i : Nat) : Int := if i % 2 = 0 then 33554432 else 16777216
theorem kw_cases (i : Nat) : (i % 2 = 0 ∧ kw i = 67108864 ∧ kh i = 33554432) ∨ (i % 2 = 1 ∧ kw i = 33554432 ∧ kh i = 16777216) := by
  unfold kw kh
  by_cases h : i % 2 = 0
  · exact .inl ⟨h, if_pos h, if_pos h⟩
  · exact .inr ⟨by omega, if_neg h, if_neg h⟩
def crC (h : Nat → Int) (i : Nat) : Int := (h i + kh i) / kw i
/-- One limb's carry. -/
def crS (h : Nat → Int) (i q : Nat) : Int :=
  if q = i then h i - crC h i * kw i else if i < 9 ∧ q = i + 1 then h (i + 1) + crC h i else if i = 9 ∧ q = 0 then h 0 + 19 * crC h 9 else h q
def crR (h : Nat → Int) : Nat → Nat → Int
  | 0 => h
  | n + 1 => crS (crR h n) (n % 10)
theorem crS_at (h : Nat → Int) (i : Nat) : crS h i i = h i - crC h i * kw i := if_pos rfl
theorem crS_next (h : Nat → Int) (i : Nat) (hi : i < 9) : crS h i (i + 1) = h (i + 1) + crC h i := by
  unfold crS
  rw [if_neg (by omega), if_pos ⟨hi, rfl⟩]
theorem crS_first (h : Nat → Int) : crS h 9 0 = h 0 + 19 * crC h 9 := by
  unfold crS
  rw [if_neg (by omega), if_neg (by omega), if_pos ⟨rfl, rfl⟩]
theorem crS_other (h : Nat → Int) (i q : Nat) (h1 : q ≠ i) (h2 : ¬ (i < 9 ∧ q = i + 1)) (h3 : ¬ (i = 9 ∧ q = 0)) : crS h i q = h q := by
  unfold crS
  rw [if_neg h1, if_neg h2, if_neg h3]
theorem crS_mod (h : Nat → Int) (i : Nat) (hi : i < 10) : ∃ k : Int, VL (crS h i) = VL h - k * 57896044618658097711785492504343953926634992332820282019728792003956564819949 := by
  by_cases h9 : i = 9
  · subst h9
    refine ⟨crC h 9, ?_⟩
    have e9 := crS_at h 9
    have e0 := crS_first h
    have o : ∀ q, q ≠ 9 → q ≠ 0 → crS h 9 q = h q := fun q a b => crS_other h 9 q a (by omega) (by omega)
    have kk : kw 9 = 33554432 := rfl
    rw [kk] at e9
    unfold VL
    rw [e9, e0, o 1 (by omega) (by omega), o 2 (by omega) (by omega), o 3 (by omega) (by omega), o 4 (by omega) (by omega), o 5 (by omega) (by omega), o 6 (by omega) (by omega), o 7 (by omega) (by omega), o 8 (by omega) (by omega)]
    generalize crC h 9 = c
    omega
  · refine ⟨0, ?_⟩
    have ei := crS_at h i
    have en := crS_next h i (by omega)
    have o : ∀ q, q ≠ i → q ≠ i + 1 → crS h i q = h q := fun q a b => crS_other h i q a (by omega) (by omega)
    unfold VL
    generalize crC h i = c at *
    rcases (by omega : i = 0 ∨ i = 1 ∨ i = 2 ∨ i = 3 ∨ i = 4 ∨ i = 5 ∨ i = 6 ∨ i = 7 ∨ i = 8) with rfl | rfl | rfl | rfl | rfl | rfl | rfl | rfl | rfl
    · rw [show kw 0 = 67108864 from rfl] at ei; simp only [Nat.reduceAdd] at en o; rw [ei, en, o 2 (by omega) (by omega), o 3 (by omega) (by omega), o 4 (by omega) (by omega), o 5 (by omega) (by omega), o 6 (by omega) (by omega), o 7 (by omega) (by omega), o 8 (by omega) (by omega), o 9 (by omega) (by omega)]; omega
    · rw [show kw 1 = 33554432 from rfl] at ei; simp only [Nat.reduceAdd] at en o; rw [ei, en, o 0 (by omega) (by omega), o 3 (by omega) (by omega), o 4 (by omega) (by omega), o 5 (by omega) (by omega), o 6 (by omega) (by omega), o 7 (by omega) (by omega), o 8 (by omega) (by omega), o 9 (by omega) (by omega)]; omega
    · rw [show kw 2 = 67108864 from rfl] at ei; simp only [Nat.reduceAdd] at en o; rw [ei, en, o 0 (by omega) (by omega), o 1 (by omega) (by omega), o 4 (by omega) (by omega), o 5 (by omega) (by omega), o 6 (by omega) (by omega), o 7 (by omega) (by omega), o 8 (by omega) (by omega), o 9 (by omega) (by omega)]; omega
    · rw [show kw 3 = 33554432 from rfl] at ei; simp only [Nat.reduceAdd] at en o; rw [ei, en, o 0 (by omega) (by omega), o 1 (by omega) (by omega), o 2 (by omega) (by omega), o 5 (by omega) (by omega), o 6 (by omega) (by omega), o 7 (by omega) (by omega), o 8 (by omega) (by omega), o 9 (by omega) (by omega)]; omega
    · rw [show kw 4 = 67108864 from rfl] at ei; simp only [Nat.reduceAdd] at en o; rw [ei, en, o 0 (by omega) (by omega), o 1 (by omega) (by omega), o 2 (by omega) (by omega), o 3 (by omega) (by omega), o 6 (by omega) (by omega), o 7 (by omega) (by omega), o 8 (by omega) (by omega), o 9 (by omega) (by omega)]; omega
    · rw [show kw 5 = 33554432 from rfl] at ei; simp only [Nat.reduceAdd] at en o; rw [ei, en, o 0 (by omega) (by omega), o 1 (by omega) (by omega), o 2 (by omega) (by omega), o 3 (by omega) (by omega), o 4 (by omega) (by omega), o 7 (by omega) (by omega), o 8 (by omega) (by omega), o 9 (by omega) (by omega)]; omega
    · rw [show kw 6 = 67108864 from rfl] at ei; simp only [Nat.reduceAdd] at en o; rw [ei, en, o 0 (by omega) (by omega), o 1 (by omega) (by omega), o 2 (by omega) (by omega), o 3 (by omega) (by omega), o 4 (by omega) (by omega), o 5 (by omega) (by omega), o 8 (by omega) (by omega), o 9 (by omega) (by omega)]; omega
    · rw [show kw 7 = 33554432 from rfl] at ei; simp only [Nat.reduceAdd] at en o; rw [ei, en, o 0 (by omega) (by omega), o 1 (by omega) (by omega), o 2 (by omega) (by omega), o 3 (by omega) (by omega), o 4 (by omega) (by omega), o 5 (by omega) (by omega), o 6 (by omega) (by omega), o 9 (by omega) (by omega)]; omega
    · rw [show kw 8 = 67108864 from rfl] at ei; simp only [Nat.reduceAdd] at en o; rw [ei, en, o 0 (by omega) (by omega), o 1 (by omega) (by omega), o 2 (by omega) (by omega), o 3 (by omega) (by omega), o 4 (by omega) (by omega), o 5 (by omega) (by omega), o 6 (by omega) (by omega), o 7 (by omega) (by omega)]; omega
theorem crR_mod (h : Nat → Int) (n : Nat) : ∃ k : Int, VL (crR h n) = VL h - k * 57896044618658097711785492504343953926634992332820282019728792003956564819949 := by
  induction n with
  | zero => exact ⟨0, by simp [crR]⟩
  | succ n ih =>
    obtain ⟨k, hk⟩ := ih
    obtain ⟨j, hj⟩ := crS_mod (crR h n) (n % 10) (Nat.mod_lt _ (by omega))
    refine ⟨k + j, ?_⟩
    show VL (crS (crR h n) (n % 10)) = _
    rw [hj, hk]
    omega

/-! ### Bounds -/
/-- What a carry leaves and hands on. -/
theorem crC_bd (h : Nat → Int) (i : Nat) (B : Int) (hB : -B ≤ h i ∧ h i ≤ B) : -kh i ≤ h i - crC h i * kw i ∧ h i - crC h i * kw i ≤ kh i ∧ -(B / 33554432 + 1) ≤ crC h i ∧ crC h i ≤ B / 33554432 + 1 := by
  unfold crC
  rcases kw_cases i with ⟨_, e1, e2⟩ | ⟨_, e1, e2⟩
  · rw [e1, e2]; omega
  · rw [e1, e2]; omega
/-- The first pass: limbs below i are small, the others no greater than they may come in. -/
theorem pass1 (h : Nat → Int) (hM : ∀ q, q < 10 → -7205759403792793600 ≤ h q ∧ h q ≤ 7205759403792793600) (i : Nat) (hi : i ≤ 9) :
    (∀ q, q < i → -kh q ≤ crR h i q ∧ crR h i q ≤ kh q) ∧ (-7205759953548607488 ≤ crR h i i ∧ crR h i i ≤ 7205759953548607488) ∧ (∀ q, i < q → q < 10 → -7205759403792793600 ≤ crR h i q ∧ crR h i q ≤ 7205759403792793600) := by
  induction i with
  | zero => exact ⟨fun q hq => absurd hq (by omega), by have := hM 0 (by omega); exact ⟨by show _ ≤ h 0; omega, by show h 0 ≤ _; omega⟩, fun q _ hq => hM q hq⟩
  | succ i ih =>
    obtain ⟨h1, h2, h3⟩ := ih (by omega)
    have hm : i % 10 = i := by omega
    have e : crR h (i + 1) = crS (crR h i) i := by show crS (crR h i) (i % 10) = _; rw [hm]
    obtain ⟨b1, b2, b3, b4⟩ := crC_bd (crR h i) i _ h2
    refine ⟨?_, ?_, ?_⟩
    · intro q hq
      rw [e]
      by_cases hqi : q = i
      · subst hqi; rw [crS_at]; exact ⟨b1, b2⟩
      · rw [crS_other _ _ _ hqi (by omega) (by omega)]; exact h1 q (by omega)
    · rw [e, crS_next _ _ (by omega)]
      have := h3 (i + 1) (by omega) (by omega)
      omega
    · intro q hq hq10
      rw [e, crS_other _ _ _ (by omega) (by omega) (by omega)]
      exact h3 q (by omega) hq10
theorem pass1_end (h : Nat → Int) (hM : ∀ q, q < 10 → -7205759403792793600 ≤ h q ∧ h q ≤ 7205759403792793600) :
    (-10445394018304 ≤ crR h 10 0 ∧ crR h 10 0 ≤ 10445394018304) ∧ ∀ q, 0 < q → q < 10 → -kh q ≤ crR h 10 q ∧ crR h 10 q ≤ kh q := by
  obtain ⟨h1, h2, _⟩ := pass1 h hM 9 (by omega)
  have e : crR h 10 = crS (crR h 9) 9 := rfl
  obtain ⟨b1, b2, b3, b4⟩ := crC_bd (crR h 9) 9 _ h2
  refine ⟨?_, ?_⟩
  · rw [e, crS_first]
    have := h1 0 (by omega)
    have k0 : kh 0 = 33554432 := rfl
    rw [k0] at this
    omega
  · intro q h0 hq
    rw [e]
    by_cases hq9 : q = 9
    · subst hq9; rw [crS_at]; exact ⟨b1, b2⟩
    · rw [crS_other _ _ _ hq9 (by omega) (by omega)]; exact h1 q (by omega)
theorem kh_le (q : Nat) : kh q ≤ 33554432 ∧ 16777216 ≤ kh q := by rcases kw_cases q with ⟨_, _, e⟩ | ⟨_, _, e⟩ <;> rw [e] <;> omega
/-- The second pass. -/
theorem pass2 (h : Nat → Int) (hM : ∀ q, q < 10 → -7205759403792793600 ≤ h q ∧ h q ≤ 7205759403792793600) (i : Nat) (h0 : 0 < i) (hi : i ≤ 9) :
    (∀ q, q < i → -kh q ≤ crR h (10 + i) q ∧ crR h (10 + i) q ≤ kh q) ∧ (-33816576 ≤ crR h (10 + i) i ∧ crR h (10 + i) i ≤ 33816576) ∧ (∀ q, i < q → q < 10 → -kh q ≤ crR h (10 + i) q ∧ crR h (10 + i) q ≤ kh q) := by
  obtain ⟨⟨a1, a2⟩, a3⟩ := pass1_end h hM
  induction i with
  | zero => omega
  | succ i ih =>
    have hm : (10 + i) % 10 = i := by omega
    have e : crR h (10 + (i + 1)) = crS (crR h (10 + i)) i := by show crS (crR h (10 + i)) ((10 + i) % 10) = _; rw [hm]
    by_cases hz : i = 0
    · subst hz
      obtain ⟨b1, b2, b3, b4⟩ := crC_bd (crR h 10) 0 _ ⟨a1, a2⟩
      have b3' : -262144 ≤ crC (crR h 10) 0 ∧ crC (crR h 10) 0 ≤ 262144 := by
        unfold crC
        rw [show kw 0 = 67108864 from rfl, show kh 0 = 33554432 from rfl]
        omega
      refine ⟨?_, ?_, ?_⟩
      · intro q hq
        obtain rfl : q = 0 := by omega
        rw [e]; show _ ≤ crS (crR h 10) 0 0 ∧ crS (crR h 10) 0 0 ≤ _
        rw [crS_at]; exact ⟨b1, b2⟩
      · rw [e]; show _ ≤ crS (crR h 10) 0 1 ∧ crS (crR h 10) 0 1 ≤ _
        rw [crS_next _ _ (by omega)]
        have := a3 1 (by omega) (by omega)
        rw [show kh 1 = 16777216 from rfl] at this
        simp only [Nat.zero_add] at *
        omega
      · intro q hq hq10
        rw [e]; show _ ≤ crS (crR h 10) 0 q ∧ crS (crR h 10) 0 q ≤ _
        rw [crS_other _ _ _ (by omega) (by omega) (by omega)]
        exact a3 q (by omega) hq10
    · obtain ⟨h1, h2, h3⟩ := ih (by omega) (by omega)
      obtain ⟨b1, b2, b3, b4⟩ := crC_bd (crR h (10 + i)) i _ h2
      refine ⟨?_, ?_, ?_⟩
      · intro q hq
        rw [e]
        by_cases hqi : q = i
        · subst hqi; rw [crS_at]; exact ⟨b1, b2⟩
        · rw [crS_other _ _ _ hqi (by omega) (by omega)]; exact h1 q (by omega)
      · rw [e, crS_next _ _ (by omega)]
        have := h3 (i + 1) (by omega) (by omega)
        have := kh_le (i + 1)
        omega
      · intro q hq hq10
        rw [e, crS_other _ _ _ (by omega) (by omega) (by omega)]
        exact h3 q (by omega) hq10
/-- What stands in a carried number. -/
def Low (g : Nat → Int) : Prop := (-33554532 ≤ g 0 ∧ g 0 ≤ 33554532) ∧ ∀ q, 0 < q → q < 10 → -kh q ≤ g q ∧ g q ≤ kh q
theorem carried (h : Nat → Int) (hM : ∀ q, q < 10 → -7205759403792793600 ≤ h q ∧ h q ≤ 7205759403792793600) : Low (crR h 20) := by
  obtain ⟨h1, h2, _⟩ := pass2 h hM 9 (by omega) (by omega)
  have e : crR h 20 = crS (crR h 19) 9 := rfl
  obtain ⟨b1, b2, b3, b4⟩ := crC_bd (crR h 19) 9 _ h2
  refine ⟨?_, ?_⟩
  · rw [e, crS_first]
    have := h1 0 (by omega)
    have k0 : kh 0 = 33554432 := rfl
    rw [k0] at this
    simp only [Nat.reduceAdd] at this
    omega
  · intro q h0 hq
    rw [e]
    by_cases hq9 : q = 9
    · subst hq9; rw [crS_at]; exact ⟨b1, b2⟩
    · rw [crS_other _ _ _ hq9 (by omega) (by omega)]; exact h1 q (by omega)
/-- No step of the carries leaves the kind's range. -/
theorem crR_bd (h : Nat → Int) (hM : ∀ q, q < 10 → -7205759403792793600 ≤ h q ∧ h q ≤ 7205759403792793600) (n : Nat) (hn : n < 20) : (∀ q, q < 10 → -7205759953548607488 ≤ crR h n q ∧ crR h n q ≤ 7205759953548607488) ∧ -549755813888 ≤ crC (crR h n) (n % 10) ∧ crC (crR h n) (n % 10) ≤ 549755813888 := by
  have all : ∀ q, q < 10 → -7205759953548607488 ≤ crR h n q ∧ crR h n q ≤ 7205759953548607488 := by
    intro q hq
    have hk := kh_le q
    by_cases h10 : n < 10
    · obtain ⟨h1, h2, h3⟩ := pass1 h hM n (by omega)
      rcases Nat.lt_trichotomy q n with c | c | c
      · have := h1 q c; omega
      · subst c; exact h2
      · have := h3 q c hq; omega
    · by_cases hz : n = 10
      · subst hz
        obtain ⟨a1, a3⟩ := pass1_end h hM
        by_cases c : q = 0
        · subst c; omega
        · have := a3 q (by omega) hq; omega
      · obtain ⟨i, rfl⟩ : ∃ i, n = 10 + i := ⟨n - 10, by omega⟩
        obtain ⟨h1, h2, h3⟩ := pass2 h hM i (by omega) (by omega)
        rcases Nat.lt_trichotomy q i with c | c | c
        · have := h1 q c; omega
        · subst c; omega
        · have := h3 q c hq; omega
  refine ⟨all, ?_⟩
  obtain ⟨_, _, b3, b4⟩ := crC_bd (crR h n) (n % 10) _ (all (n % 10) (Nat.mod_lt _ (by omega)))
  omega

end Go.My

/- Plain words of SHA-256, over the integers as the program spells them. Nothing of the program is named. -/
namespace Go.My
open Go.RowKit
set_option linter.unusedVariables false

def xor32 (a b : Int) : Int := bits .xor .u32 a b
def and32 (a b : Int) : Int := bits .and .u32 a b
def add32 (a b : Int) : Int := IntKind.u32.wrap (a + b)
theorem add32_mod (a b : Int) : add32 a b = (a + b) % 4294967296 := IntKind.wrap_u32 _
def rot (x : Int) (k : Nat) : Int := bits .or .u32 (x * 2 ^ k % 4294967296) (x / 2 ^ (32 - k))
theorem bits_u32 (op : BinOp) (a b : Int) (h : op = .and ∨ op = .or ∨ op = .xor) : 0 ≤ bits op .u32 a b ∧ bits op .u32 a b ≤ 4294967295 := by
  have key : ∀ v : BitVec 32, 0 ≤ IntKind.u32.wrap (v.toNat : Int) ∧ IntKind.u32.wrap (v.toNat : Int) ≤ 4294967295 := by
    intro v; rw [IntKind.wrap_u32]; omega
  rcases h with rfl | rfl | rfl
  · exact key (BitVec.ofInt 32 a &&& BitVec.ofInt 32 b)
  · exact key (BitVec.ofInt 32 a ||| BitVec.ofInt 32 b)
  · exact key (BitVec.ofInt 32 a ^^^ BitVec.ofInt 32 b)
theorem xor32_bd (a b : Int) : 0 ≤ xor32 a b ∧ xor32 a b ≤ 4294967295 := bits_u32 .xor a b (.inr (.inr rfl))
theorem and32_bd (a b : Int) : 0 ≤ and32 a b ∧ and32 a b ≤ 4294967295 := bits_u32 .and a b (.inl rfl)
theorem rot_bd (x : Int) (k : Nat) : 0 ≤ rot x k ∧ rot x k ≤ 4294967295 := bits_u32 .or _ _ (.inr (.inl rfl))
theorem add32_bd (a b : Int) : 0 ≤ add32 a b ∧ add32 a b ≤ 4294967295 := by rw [add32_mod]; omega

theorem mask31 (r k : Nat) (h1 : 1 ≤ k) (h2 : k ≤ 31) (h : r + k = 32) : bits BinOp.and IntKind.u64 (IntKind.u64.wrap (-(r : Int))) 31 = (k : Int) := by
  have e : IntKind.u64.wrap (-(r : Int)) = ((18446744073709551616 - r : Nat) : Int) := by rw [IntKind.wrap_u64]; omega
  rw [e]
  have := u64_and_nat (18446744073709551616 - r) 31 (by omega) (by omega)
  rw [nat_mask5] at this
  have e2 : ((31 : Nat) : Int) = 31 := rfl
  rw [e2] at this
  rw [this]
  omega

/-- 'a[i]' of an array of integers by value. -/
theorem run_index_arr {P : Program} (w : World) (t e : TypeId) (n : Nat) (cs : Array Value) (k kk : IntKind) (i : Nat) (v : Value) (h : P.underlying t = some (.array n e)) (he : P.underlying e = some (.int kk))
    (hs : (P.info? e).map (·.size) = some 1) (hi : i < n) (hv : cs[i]? = some v) : (Instr.index t (.agg cs) (.int k (i : Int))).run P w = .ok v w := by
  obtain ⟨inf, hinf, hsz⟩ := Option.map_eq_some_iff.1 hs
  have h1 : 0 ≤ (i : Int) ∧ (i : Int) < (n : Int) := by omega
  simp [Instr.index, run_underlying h, asIntOf, go_sem, sizeOf, typeInfo, hinf, hsz, part, isAgg, run_underlying he]
  rw [if_pos (by omega)]
  simp [hv, go_sem]

/-! ### Rows of words -/
def wordsL (n : Nat) (f : Nat → Int) : List Value := (List.range n).map fun q => Value.int .u32 (f q)
def wordsA (n : Nat) (f : Nat → Int) : Array Value := (wordsL n f).toArray
theorem wordsL_len (n : Nat) (f : Nat → Int) : (wordsL n f).length = n := by simp [wordsL]
theorem wordsA_size (n : Nat) (f : Nat → Int) : (wordsA n f).size = n := by simp [wordsA, wordsL]
theorem wordsL_get (n : Nat) (f : Nat → Int) (q : Nat) (h : q < n) : (wordsL n f)[q]? = some (.int .u32 (f q)) := by simp [wordsL, h]
theorem wordsA_get (n : Nat) (f : Nat → Int) (q : Nat) (h : q < n) : (wordsA n f)[q]? = some (.int .u32 (f q)) := by simp [wordsA, wordsL, h]
theorem wordsA_set (n : Nat) (f g : Nat → Int) (q : Nat) (hq : q < n) (x : Int) (hx : g q = x) (ho : ∀ j, j < n → j ≠ q → g j = f j) : (wordsA n f).setIfInBounds q (.int .u32 x) = wordsA n g := by
  apply Array.ext_getElem?
  intro j
  by_cases hj : j < n
  · rw [wordsA_get n g j hj, Array.getElem?_setIfInBounds]
    by_cases e : q = j
    · subst e
      rw [if_pos rfl, if_pos (by rw [wordsA_size]; exact hq), hx]
    · rw [if_neg e, wordsA_get n f j hj, ho j hj (fun c => e c.symm)]
  · rw [Array.getElem?_eq_none (by rw [Array.size_setIfInBounds, wordsA_size]; omega), Array.getElem?_eq_none (by rw [wordsA_size]; omega)]
theorem wordsA_congr (n : Nat) {f g : Nat → Int} (h : ∀ q, q < n → f q = g q) : wordsA n f = wordsA n g := by
  unfold wordsA wordsL
  rw [List.map_congr_left (fun q hq => by rw [h q (List.mem_range.1 hq)])]

/-! ### The schedule -/
/-- A word that is filled byte by byte, the highest first. -/
def fillW (bk : Nat → Int) (q : Nat) : Nat → Int
  | 0 => 0
  | c + 1 => bits .or .u32 (fillW bk q c * 256 % 4294967296) (bk (4 * q + c))
theorem fillW_bd (bk : Nat → Int) (q c : Nat) : 0 ≤ fillW bk q c ∧ fillW bk q c ≤ 4294967295 := by
  cases c with
  | zero => unfold fillW; omega
  | succ c => exact bits_u32 .or _ _ (.inr (.inl rfl))
/-- The words when p bytes have been read. -/
def prtW (bk : Nat → Int) (p q : Nat) : Int := fillW bk q (min 4 (p - 4 * q))
theorem prtW_bd (bk : Nat → Int) (p q : Nat) : 0 ≤ prtW bk p q ∧ prtW bk p q ≤ 4294967295 := fillW_bd _ _ _
theorem prtW_at (bk : Nat → Int) (p : Nat) : prtW bk (p + 1) (p / 4) = bits .or .u32 (prtW bk p (p / 4) * 256 % 4294967296) (bk p) := by
  unfold prtW
  rw [show min 4 (p + 1 - 4 * (p / 4)) = (p - 4 * (p / 4)) + 1 by omega, show min 4 (p - 4 * (p / 4)) = p - 4 * (p / 4) by omega]
  show bits .or .u32 _ (bk (4 * (p / 4) + (p - 4 * (p / 4)))) = _
  rw [show 4 * (p / 4) + (p - 4 * (p / 4)) = p by omega]
theorem prtW_other (bk : Nat → Int) (p q : Nat) (h : q ≠ p / 4) : prtW bk (p + 1) q = prtW bk p q := by
  unfold prtW
  rw [show min 4 (p + 1 - 4 * q) = min 4 (p - 4 * q) by omega]

/-- The schedule's words: sixteen of the block, then each of four before it. -/
def sigS (x : Int) : Int := xor32 (xor32 (rot x 25) (rot x 14)) (x / 8)
def sigL (x : Int) : Int := xor32 (xor32 (rot x 15) (rot x 13)) (x / 1024)
def schW (m : Nat → Int) (i : Nat) : Int :=
  if h : i < 16 then m i else add32 (add32 (add32 (schW m (i - 16)) (sigS (schW m (i - 15)))) (schW m (i - 7))) (sigL (schW m (i - 2)))
termination_by i
theorem schW_lo (m : Nat → Int) (i : Nat) (h : i < 16) : schW m i = m i := by rw [schW, dif_pos h]
theorem schW_hi (m : Nat → Int) (i : Nat) (h : 16 ≤ i) : schW m i = add32 (add32 (add32 (schW m (i - 16)) (sigS (schW m (i - 15)))) (schW m (i - 7))) (sigL (schW m (i - 2))) := by rw [schW, dif_neg (by omega)]
theorem schW_bd (m : Nat → Int) (hm : ∀ i, 0 ≤ m i ∧ m i ≤ 4294967295) (i : Nat) : 0 ≤ schW m i ∧ schW m i ≤ 4294967295 := by
  by_cases h : i < 16
  · rw [schW_lo m i h]; exact hm i
  · rw [schW_hi m i (by omega)]; exact add32_bd _ _
/-- The row when words up to i are there. -/
def schT (m : Nat → Int) (i q : Nat) : Int := if q < i then schW m q else 0

theorem schT_start (bk : Nat → Int) : wordsA 64 (prtW bk 64) = wordsA 64 (schT (prtW bk 64) 16) := by
  apply wordsA_congr
  intro q hq
  unfold schT
  by_cases h : q < 16
  · rw [if_pos h, schW_lo _ _ h]
  · rw [if_neg h]
    unfold prtW
    rw [show min 4 (64 - 4 * q) = 0 by omega]
    rfl
theorem schT_end (m : Nat → Int) : wordsA 64 (schT m 64) = wordsA 64 (schW m) := wordsA_congr 64 (fun q hq => if_pos hq)
theorem schT_lt (m : Nat → Int) (i q : Nat) (h : q < i) : schT m i q = schW m q := if_pos h
theorem schT_set (m : Nat → Int) (i : Nat) (h : i < 64) : (wordsA 64 (schT m i)).setIfInBounds i (.int .u32 (schW m i)) = wordsA 64 (schT m (i + 1)) :=
  wordsA_set 64 _ _ i h _ (if_pos (by omega)) (fun j _ hj => by
    unfold schT
    by_cases h : j < i
    · rw [if_pos h, if_pos (by omega)]
    · rw [if_neg h, if_neg (by omega)])

theorem wordsA_one (n : Nat) (f : Nat → Int) : (wordsA n f).all (·.oneCell') = true := by
  refine Array.all_eq_true_iff_forall_mem.2 (fun v hv => ?_)
  have hv' : v ∈ wordsL n f := by simpa [wordsA] using hv
  obtain ⟨q, _, rfl⟩ := List.mem_map.1 hv'
  rfl

/-- A whole row is stored: the world behind it as a letter. -/
theorem wpList_store_row' {P : Program} {ops : Array Oper} {rest : List Oper} {o : Oper} {a : Act} {w : World} {Q : Exit → Act → World → Prop} (hgd : o.guard = none) (ty : TypeId) (x y : Operand) (ho : o.op = .store ty x y)
    (g : Nat) (cells : Array Value) (hx : a.eval x = .pointer (some ⟨g, 0, none⟩)) (hy : a.eval y = .agg cells)
    (t : TypeId) (old : Array Value) (hg : w.heap[g]? = some (.cells old t (0, 0))) (hi : (P.info? ty).map (·.size) = some cells.size)
    (hold : old.size = cells.size) (h1 : cells.all (·.oneCell') = true)
    (h : ∀ w2, w2.heap[g]? = some (.cells cells t (0, 0)) → w2.heap.size = w.heap.size → w.grownBy w2 (some g) → wpList P ops Q rest (a.put o.dst undef) w2) : wpList P ops Q (o :: rest) a w :=
  wpList_store_row hgd ty x y ho g cells hx hy t old hg hi hold h1
    (h _ (setRow_heap w g old cells t (0, 0) hg) (by simp) ⟨rfl, rfl, rfl, by simp, fun k _ hk => setRow_other w g k _ (fun e => hk (by rw [e]))⟩)

/-- Eight cells set one by one: the row is theirs. -/
theorem set8A (A : Array Value) (hs : A.size = 8) (x0 x1 x2 x3 x4 x5 x6 x7 : Value) :
    (((((((A.setIfInBounds 0 x0).setIfInBounds 1 x1).setIfInBounds 2 x2).setIfInBounds 3 x3).setIfInBounds 4 x4).setIfInBounds 5 x5).setIfInBounds 6 x6).setIfInBounds 7 x7 = #[x0, x1, x2, x3, x4, x5, x6, x7] := by
  rcases A with ⟨l⟩
  simp only [List.setIfInBounds_toArray]
  match l, hs with
  | [_, _, _, _, _, _, _, _], _ => simp only [List.set]
theorem set8 {w : World} {g t : Nat} {A : Array Value} (h : w.heap[g]? = some (.cells A t (0, 0))) (hs : A.size = 8) (x0 x1 x2 x3 x4 x5 x6 x7 : Value) :
    ((((((((w.setCell ⟨g, 0, none⟩ x0).setCell ⟨g, 1, none⟩ x1).setCell ⟨g, 2, none⟩ x2).setCell ⟨g, 3, none⟩ x3).setCell ⟨g, 4, none⟩ x4).setCell ⟨g, 5, none⟩ x5).setCell ⟨g, 6, none⟩ x6).setCell ⟨g, 7, none⟩ x7).heap[g]? = some (.cells #[x0, x1, x2, x3, x4, x5, x6, x7] t (0, 0)) := by
  have h0 := heap_setCell_same w g 0 A t x0 h
  have h1 := heap_setCell_same _ g 1 _ t x1 h0
  have h2 := heap_setCell_same _ g 2 _ t x2 h1
  have h3 := heap_setCell_same _ g 3 _ t x3 h2
  have h4 := heap_setCell_same _ g 4 _ t x4 h3
  have h5 := heap_setCell_same _ g 5 _ t x5 h4
  have h6 := heap_setCell_same _ g 6 _ t x6 h5
  have h7 := heap_setCell_same _ g 7 _ t x7 h6
  rw [h7, set8A A hs]

theorem wordsA8 (f : Nat → Int) : wordsA 8 f = #[.int .u32 (f 0), .int .u32 (f 1), .int .u32 (f 2), .int .u32 (f 3), .int .u32 (f 4), .int .u32 (f 5), .int .u32 (f 6), .int .u32 (f 7)] := rfl

/-! ### Rounds -/
def kL : List Int := [1116352408, 1899447441, 3049323471, 3921009573, 961987163, 1508970993, 2453635748, 2870763221, 3624381080, 310598401, 607225278, 1426881987, 1925078388, 2162078206, 2614888103, 3248222580, 3835390401, 4022224774, 264347078, 604807628, 770255983, 1249150122, 1555081692, 1996064986, 2554220882, 2821834349, 2952996808, 3210313671, 3336571891, 3584528711, 113926993, 338241895, 666307205, 773529912, 1294757372, 1396182291, 1695183700, 1986661051, 2177026350, 2456956037, 2730485921, 2820302411, 3259730800, 3345764771, 3516065817, 3600352804, 4094571909, 275423344, 430227734, 506948616, 659060556, 883997877, 958139571, 1322822218, 1537002063, 1747873779, 1955562222, 2024104815, 2227730452, 2361852424, 2428436474, 2756734187, 3204031479, 3329325298]
def kW (i : Nat) : Int := kL.getD i 0
theorem kW_bd (i : Nat) : 0 ≤ kW i ∧ kW i ≤ 4294967295 := by
  have key : ∀ i : Fin 64, 0 ≤ kL.getD i.val 0 ∧ kL.getD i.val 0 ≤ 4294967295 := by decide +kernel
  by_cases h : i < 64
  · exact key ⟨i, h⟩
  · unfold kW
    rw [List.getD_eq_getElem?_getD, List.getElem?_eq_none (show kL.length ≤ i by have : kL.length = 64 := rfl; omega)]
    simp
def not32 (a : Int) : Int := bits .xor .u32 IntKind.u32.max a
def chW (e f g : Int) : Int := xor32 (and32 e f) (and32 (not32 e) g)
def majW (a b c : Int) : Int := xor32 (xor32 (and32 a b) (and32 a c)) (and32 b c)
def sumE (e : Int) : Int := xor32 (xor32 (rot e 26) (rot e 21)) (rot e 7)
def sumA (a : Int) : Int := xor32 (xor32 (rot a 30) (rot a 19)) (rot a 10)
def oneW (v : Nat → Int) (k x : Int) : Int := add32 (add32 (add32 (add32 (v 7) (sumE (v 4))) (chW (v 4) (v 5) (v 6))) k) x
def twoW (v : Nat → Int) : Int := add32 (sumA (v 0)) (majW (v 0) (v 1) (v 2))
def rndF (v : Nat → Int) (k x : Int) : Nat → Int
  | 0 => add32 (oneW v k x) (twoW v)
  | 1 => v 0
  | 2 => v 1
  | 3 => v 2
  | 4 => add32 (v 3) (oneW v k x)
  | 5 => v 4
  | 6 => v 5
  | 7 => v 6
  | _ => 0
def roundsF (st W : Nat → Int) : Nat → Nat → Int
  | 0 => st
  | i + 1 => rndF (roundsF st W i) (kW i) (W i)
def compF (st W : Nat → Int) (q : Nat) : Int := add32 (st q) (roundsF st W 64 q)
def Bd (f : Nat → Int) : Prop := ∀ q, 0 ≤ f q ∧ f q ≤ 4294967295
theorem rndF_bd (v : Nat → Int) (k x : Int) (h : Bd v) : Bd (rndF v k x) := by
  intro q
  rcases q with _ | _ | _ | _ | _ | _ | _ | _ | q
  · exact add32_bd _ _
  · exact h 0
  · exact h 1
  · exact h 2
  · exact add32_bd _ _
  · exact h 4
  · exact h 5
  · exact h 6
  · exact ⟨Int.le_refl 0, (by decide : (0 : Int) ≤ 4294967295)⟩
theorem roundsF_bd (st W : Nat → Int) (h : Bd st) (i : Nat) : Bd (roundsF st W i) := by
  induction i with
  | zero => exact h
  | succ i ih => exact rndF_bd _ _ _ ih
theorem flat2 (a b : Int) : add32 a b = (a + b) % 4294967296 := add32_mod a b
theorem one_flat (v : Nat → Int) (k x : Int) : oneW v k x = (v 7 + sumE (v 4) + chW (v 4) (v 5) (v 6) + k + x) % 4294967296 := by unfold oneW; simp only [add32_mod]; omega
theorem two_flat (v : Nat → Int) : twoW v = (sumA (v 0) + majW (v 0) (v 1) (v 2)) % 4294967296 := by unfold twoW; rw [add32_mod]
theorem new0_flat (v : Nat → Int) (k x : Int) : rndF v k x 0 = (v 7 + sumE (v 4) + chW (v 4) (v 5) (v 6) + k + x + (sumA (v 0) + majW (v 0) (v 1) (v 2))) % 4294967296 := by
  show add32 _ _ = _
  rw [add32_mod, one_flat, two_flat]; omega
theorem new4_flat (v : Nat → Int) (k x : Int) : rndF v k x 4 = (v 3 + (v 7 + sumE (v 4) + chW (v 4) (v 5) (v 6) + k + x)) % 4294967296 := by
  show add32 _ _ = _
  rw [add32_mod, one_flat]; omega
theorem compF_bd (st W : Nat → Int) : Bd (compF st W) := fun q => add32_bd _ _

/-! ### A digest's cells -/
def bytesL (bk : Nat → Int) : List Value := (List.range 64).map fun q => Value.int .u8 (bk q)
theorem bytesL_get (bk : Nat → Int) (q : Nat) (h : q < 64) : (bytesL bk)[q]? = some (.int .u8 (bk q)) := by simp [bytesL, h]
theorem bytesL_len (bk : Nat → Int) : (bytesL bk).length = 64 := by simp [bytesL]
def digL (st bk : Nat → Int) (used : Int) (size : Int) : List Value := wordsL 8 st ++ (bytesL bk ++ [.int .i64 used, .int .u64 size])
def digA (st bk : Nat → Int) (used : Int) (size : Int) : Array Value := (digL st bk used size).toArray
theorem dig_st (st bk : Nat → Int) (u z : Int) (q : Nat) (h : q < 8) : (digA st bk u z)[q]? = some (.int .u32 (st q)) := by
  unfold digA digL
  rw [List.getElem?_toArray, List.getElem?_append_left (by rw [wordsL_len]; exact h), wordsL_get 8 st q h]
theorem dig_bk (st bk : Nat → Int) (u z : Int) (q : Nat) (h : q < 64) : (digA st bk u z)[8 + q]? = some (.int .u8 (bk q)) := by
  unfold digA digL
  rw [List.getElem?_toArray, List.getElem?_append_right (by rw [wordsL_len]; omega), wordsL_len, show 8 + q - 8 = q by omega, List.getElem?_append_left (by rw [bytesL_len]; exact h), bytesL_get bk q h]
theorem dig_used (st bk : Nat → Int) (u z : Int) : (digA st bk u z)[72]? = some (.int .i64 u) := by
  unfold digA digL
  rw [List.getElem?_toArray, List.getElem?_append_right (by rw [wordsL_len]; omega), wordsL_len, List.getElem?_append_right (by rw [bytesL_len]; omega), bytesL_len]
  rfl
theorem dig_size (st bk : Nat → Int) (u z : Int) : (digA st bk u z)[73]? = some (.int .u64 z) := by
  unfold digA digL
  rw [List.getElem?_toArray, List.getElem?_append_right (by rw [wordsL_len]; omega), wordsL_len, List.getElem?_append_right (by rw [bytesL_len]; omega), bytesL_len]
  rfl
theorem digA_size (st bk : Nat → Int) (u z : Int) : (digA st bk u z).size = 74 := by
  unfold digA digL
  simp [wordsL_len, bytesL_len]
theorem dig_ext {st bk st' bk' : Nat → Int} {u z u' z' : Int} {A : Array Value} (hs : A.size = 74) (h1 : ∀ q, q < 8 → A[q]? = some (.int .u32 (st' q))) (h2 : ∀ q, q < 64 → A[8 + q]? = some (.int .u8 (bk' q))) (h3 : A[72]? = some (.int .i64 u')) (h4 : A[73]? = some (.int .u64 z')) : A = digA st' bk' u' z' := by
  apply Array.ext_getElem?
  intro j
  by_cases hj : j < 8
  · rw [h1 j hj, dig_st _ _ _ _ j hj]
  · by_cases hj2 : j < 72
    · have := h2 (j - 8) (by omega)
      have e := dig_bk st' bk' u' z' (j - 8) (by omega)
      rw [show 8 + (j - 8) = j by omega] at this e
      rw [this, e]
    · by_cases hj3 : j = 72
      · subst hj3; rw [h3, dig_used]
      · by_cases hj4 : j = 73
        · subst hj4; rw [h4, dig_size]
        · rw [Array.getElem?_eq_none (by omega), Array.getElem?_eq_none (by rw [digA_size]; omega)]
theorem dig_set_st (st bk : Nat → Int) (u z : Int) (q : Nat) (hq : q < 8) (x : Int) : (digA st bk u z).setIfInBounds q (.int .u32 x) = digA (fun j => if j = q then x else st j) bk u z := by
  refine dig_ext (st := st) (bk := bk) (u := u) (z := z) (by rw [Array.size_setIfInBounds, digA_size]) ?_ ?_ ?_ ?_
  · intro j hj
    rw [Array.getElem?_setIfInBounds]
    by_cases e : q = j
    · subst e; rw [if_pos rfl, if_pos (by rw [digA_size]; omega), if_pos rfl]
    · rw [if_neg e, dig_st _ _ _ _ j hj, if_neg (fun c => e c.symm)]
  · intro j hj
    rw [Array.getElem?_setIfInBounds, if_neg (by omega), dig_bk _ _ _ _ j hj]
  · rw [Array.getElem?_setIfInBounds, if_neg (by omega), dig_used]
  · rw [Array.getElem?_setIfInBounds, if_neg (by omega), dig_size]
theorem dig_set_bk (st bk : Nat → Int) (u z : Int) (q : Nat) (hq : q < 64) (x : Int) : (digA st bk u z).setIfInBounds (8 + q) (.int .u8 x) = digA st (fun j => if j = q then x else bk j) u z := by
  refine dig_ext (st := st) (bk := bk) (u := u) (z := z) (by rw [Array.size_setIfInBounds, digA_size]) ?_ ?_ ?_ ?_
  · intro j hj
    rw [Array.getElem?_setIfInBounds, if_neg (by omega), dig_st _ _ _ _ j hj]
  · intro j hj
    rw [Array.getElem?_setIfInBounds]
    by_cases e : q = j
    · subst e; rw [if_pos rfl, if_pos (by rw [digA_size]; omega), if_pos rfl]
    · rw [if_neg (by omega), dig_bk _ _ _ _ j hj, if_neg (fun c => e c.symm)]
  · rw [Array.getElem?_setIfInBounds, if_neg (by omega), dig_used]
  · rw [Array.getElem?_setIfInBounds, if_neg (by omega), dig_size]
theorem dig_set_used (st bk : Nat → Int) (u z x : Int) : (digA st bk u z).setIfInBounds 72 (.int .i64 x) = digA st bk x z := by
  refine dig_ext (st := st) (bk := bk) (u := u) (z := z) (by rw [Array.size_setIfInBounds, digA_size]) ?_ ?_ ?_ ?_
  · intro j hj
    rw [Array.getElem?_setIfInBounds, if_neg (by omega), dig_st _ _ _ _ j hj]
  · intro j hj
    rw [Array.getElem?_setIfInBounds, if_neg (by omega), dig_bk _ _ _ _ j hj]
  · rw [Array.getElem?_setIfInBounds, if_pos rfl, if_pos (by rw [digA_size]; omega)]
  · rw [Array.getElem?_setIfInBounds, if_neg (by omega), dig_size]
theorem dig_set_size (st bk : Nat → Int) (u z x : Int) : (digA st bk u z).setIfInBounds 73 (.int .u64 x) = digA st bk u x := by
  refine dig_ext (st := st) (bk := bk) (u := u) (z := z) (by rw [Array.size_setIfInBounds, digA_size]) ?_ ?_ ?_ ?_
  · intro j hj
    rw [Array.getElem?_setIfInBounds, if_neg (by omega), dig_st _ _ _ _ j hj]
  · intro j hj
    rw [Array.getElem?_setIfInBounds, if_neg (by omega), dig_bk _ _ _ _ j hj]
  · rw [Array.getElem?_setIfInBounds, if_neg (by omega), dig_used]
  · rw [Array.getElem?_setIfInBounds, if_pos rfl, if_pos (by rw [digA_size]; omega)]

end Go.My

/- Field numbers in ten limbs: products. Nothing of the program is named. -/
namespace Go.My
open Go.RowKit
set_option linter.unusedVariables false

def pwL : List Int := [1, 67108864, 2251799813685248, 151115727451828646838272, 5070602400912917605986812821504, 340282366920938463463374607431768211456, 11417981541647679048466287755595961091061972992, 766247770432944429179173513575154591809369561091801088, 25711008708143844408671393477458601640355247900524685364822016, 1725436586697640946858688965569256363112777243042596638790631055949824, 57896044618658097711785492504343953926634992332820282019728792003956564819968, 3885337784451458141838923813647037813284813678104279042503624819477808570410416996352, 130370302485407109521180524058200202307293977194619920040712988758680403184853549195737432064, 8749002899132047697490008908470485461412677723572849745703082425639811996797503692894052708092215296, 293567822846729153486185074598667128421960318613539983838411371441526128139326055432962374798096087878991872, 19701003098197239606139520050071806902539869635232723333974146702122860885748605305707133127442457820403313995153408, 661055968790248598951915308032771039828404682964281219284648795274405791236311345825189210439715284847591212025023358304256, 44362715105933037753254626946289339254982993206013065202727673289833940924890009968639590497666233249558259375382457149263586525184, 1488565707357402911845015158554633286356257506687627387456491927921949262056238946972039271861787782268441644249633132407878864135402815488, 99895953610111751404211111353381321783955140565279076827493022708011895642232499843849795298031743077114461795885011932654335221737225129801285632]
def pw (m : Nat) : Int := pwL.getD m 0
def sumF (f : Nat → Int) : Nat → Int
  | 0 => 0
  | n + 1 => sumF f n + f n
theorem sumF_congr {f g : Nat → Int} (n : Nat) (h : ∀ q, q < n → f q = g q) : sumF f n = sumF g n := by
  induction n with
  | zero => rfl
  | succ n ih => rw [sumF, sumF, ih (fun q hq => h q (by omega)), h n (by omega)]
theorem sumF_add (f g : Nat → Int) (n : Nat) : sumF (fun q => f q + g q) n = sumF f n + sumF g n := by
  induction n with
  | zero => rfl
  | succ n ih => rw [sumF, sumF, sumF, ih]; omega
theorem sumF_mul (c : Int) (f : Nat → Int) (n : Nat) : sumF (fun q => c * f q) n = c * sumF f n := by
  induction n with
  | zero => simp [sumF]
  | succ n ih => rw [sumF, sumF, ih, Int.mul_add]
theorem sumF_upd (t p : Nat → Int) (m : Nat) (d : Int) (n : Nat) : sumF (fun q => (if q = m then t q + d else t q) * p q) n = sumF (fun q => t q * p q) n + (if m < n then d * p m else 0) := by
  induction n with
  | zero => rw [if_neg (by omega)]; rfl
  | succ n ih =>
    rw [sumF, sumF, ih]
    by_cases h : n = m
    · rw [if_pos h, if_neg (by omega), if_pos (by omega), h, Int.add_mul]; omega
    · rw [if_neg h]
      by_cases h2 : m < n
      · rw [if_pos h2, if_pos (by omega)]; omega
      · rw [if_neg h2, if_neg (by omega)]; omega
theorem VL_sum (h : Nat → Int) : VL h = sumF (fun q => h q * pw q) 10 := by
  simp only [sumF, VL, pw, pwL]
  simp
def od (b : Nat → Int) (k : Nat) : Int := if k % 2 = 1 then 2 * b k else b k
/-- The row of the products: t, and what a pair of limbs has brought up to k. -/
def tIn (t b : Nat → Int) (x y : Int) (i k q : Nat) : Int := t q + (if i ≤ q ∧ q < i + k then x * b (q - i) else 0) + (if i + 1 ≤ q ∧ q < i + 1 + k then y * od b (q - i - 1) else 0)
def tMid (t b : Nat → Int) (x y : Int) (i k q : Nat) : Int := if q = i + k then tIn t b x y i k q + x * b k else tIn t b x y i k q
theorem tIn_zero (t b : Nat → Int) (x y : Int) (i : Nat) : tIn t b x y i 0 = t := by
  funext q
  unfold tIn
  rw [if_neg (by omega), if_neg (by omega)]
  omega
theorem tIn_succ (t b : Nat → Int) (x y : Int) (i k q : Nat) : tIn t b x y i (k + 1) q = if q = i + 1 + k then tMid t b x y i k q + y * od b k else tMid t b x y i k q := by
  unfold tMid tIn
  by_cases h1 : q = i + 1 + k
  · subst h1
    rw [if_pos rfl, if_neg (by omega : ¬ (i ≤ i + 1 + k ∧ i + 1 + k < i + (k + 1))), if_pos (by omega : i + 1 ≤ i + 1 + k ∧ i + 1 + k < i + 1 + (k + 1)), if_neg (by omega : ¬ i + 1 + k = i + k), if_neg (by omega : ¬ (i ≤ i + 1 + k ∧ i + 1 + k < i + k)), if_neg (by omega : ¬ (i + 1 ≤ i + 1 + k ∧ i + 1 + k < i + 1 + k)), show i + 1 + k - i - 1 = k by omega]
    omega
  · rw [if_neg h1]
    by_cases h2 : q = i + k
    · subst h2
      rw [if_pos rfl, if_pos (by omega : i ≤ i + k ∧ i + k < i + (k + 1)), if_neg (by omega : ¬ (i ≤ i + k ∧ i + k < i + k)), show i + k - i = k by omega]
      by_cases h3 : i + 1 ≤ i + k ∧ i + k < i + 1 + k
      · rw [if_pos h3, if_pos (by omega)]; omega
      · rw [if_neg h3, if_neg (by omega)]; omega
    · rw [if_neg h2]
      by_cases h3 : i ≤ q ∧ q < i + k
      · rw [if_pos h3, if_pos (by omega)]
        by_cases h4 : i + 1 ≤ q ∧ q < i + 1 + k
        · rw [if_pos h4, if_pos (by omega)]
        · rw [if_neg h4, if_neg (by omega)]
      · rw [if_neg h3, if_neg (by omega)]
        by_cases h4 : i + 1 ≤ q ∧ q < i + 1 + k
        · rw [if_pos h4, if_pos (by omega)]
        · rw [if_neg h4, if_neg (by omega)]
def V20 (t : Nat → Int) : Int := sumF (fun q => t q * pw q) 20
theorem pw_even (i k : Nat) (hi : i % 2 = 0) (hi2 : i < 10) (hk : k < 10) : pw (i + k) = pw i * pw k := by
  have h : ∀ i, i < 10 → ∀ k, k < 10 → i % 2 = 0 → pw (i + k) = pw i * pw k := by decide +kernel
  exact h i hi2 k hk hi
theorem pw_odd (i k : Nat) (hi : i % 2 = 0) (hi2 : i < 10) (hk : k < 10) : (if k % 2 = 1 then 2 else 1) * pw (i + 1 + k) = pw (i + 1) * pw k := by
  have h : ∀ i, i < 10 → ∀ k, k < 10 → i % 2 = 0 → (if k % 2 = 1 then 2 else 1) * pw (i + 1 + k) = pw (i + 1) * pw k := by decide +kernel
  exact h i hi2 k hk hi
theorem od_mul (b : Nat → Int) (k : Nat) : od b k = (if k % 2 = 1 then 2 else 1) * b k := by
  unfold od
  split <;> omega
theorem V20_in (t b : Nat → Int) (x y : Int) (i k : Nat) (hi : i % 2 = 0) (hi2 : i < 10) (hk : k ≤ 10) : V20 (tIn t b x y i k) = V20 t + (x * pw i + y * pw (i + 1)) * sumF (fun q => b q * pw q) k := by
  induction k with
  | zero => rw [tIn_zero]; simp [sumF]
  | succ k ih =>
    have e1 : V20 (tIn t b x y i (k + 1)) = V20 (tMid t b x y i k) + y * od b k * pw (i + 1 + k) := by
      unfold V20
      rw [sumF_congr 20 (fun q _ => by rw [tIn_succ]), sumF_upd, if_pos (by omega)]
    have e2 : V20 (tMid t b x y i k) = V20 (tIn t b x y i k) + x * b k * pw (i + k) := by
      have : ∀ q, tMid t b x y i k q * pw q = (if q = i + k then tIn t b x y i k q + x * b k else tIn t b x y i k q) * pw q := fun q => rfl
      unfold V20
      rw [sumF_congr 20 (fun q _ => this q), sumF_upd, if_pos (by omega)]
    have p1 := pw_even i k hi hi2 (by omega)
    have p2 := pw_odd i k hi hi2 (by omega)
    rw [e1, e2, ih (by omega), sumF, p1, od_mul]
    have e3 : y * ((if k % 2 = 1 then 2 else 1) * b k) * pw (i + 1 + k) = y * b k * ((if k % 2 = 1 then 2 else 1) * pw (i + 1 + k)) := by
      simp only [Int.mul_assoc, Int.mul_comm]
    rw [e3, p2, Int.mul_add, Int.add_mul (x * pw i), Int.add_mul (x * pw i)]
    have e4 : x * b k * (pw i * pw k) = x * pw i * (b k * pw k) := by simp only [Int.mul_assoc, Int.mul_left_comm]
    have e5 : y * b k * (pw (i + 1) * pw k) = y * pw (i + 1) * (b k * pw k) := by simp only [Int.mul_assoc, Int.mul_left_comm, Int.mul_comm]
    rw [e4, e5]
    omega
/-- The rows behind n pairs. -/
def tO (a b : Nat → Int) : Nat → Nat → Int
  | 0 => fun _ => 0
  | n + 1 => tIn (tO a b n) b (a (2 * n)) (a (2 * n + 1)) (2 * n) 10
theorem V20_all (a b : Nat → Int) : V20 (tO a b 5) = VL a * VL b := by
  have h : ∀ n, n ≤ 5 → V20 (tO a b n) = sumF (fun q => a q * pw q) (2 * n) * sumF (fun q => b q * pw q) 10 := by
    intro n
    induction n with
    | zero => intro _; simp only [sumF, Int.zero_mul]; show V20 (fun _ => 0) = 0; unfold V20; rw [sumF_congr 20 (g := fun _ => 0) (fun q _ => by simp)]; rfl
    | succ n ih =>
      intro hn
      show V20 (tIn _ b _ _ (2 * n) 10) = _
      have es : sumF (fun q => a q * pw q) (2 * n + 1 + 1) = sumF (fun q => a q * pw q) (2 * n) + (a (2 * n) * pw (2 * n) + a (2 * n + 1) * pw (2 * n + 1)) := by rw [sumF, sumF, Int.add_assoc]
      rw [V20_in _ _ _ _ _ _ (by omega) (by omega) (by omega), ih (by omega), ← Int.add_mul, show 2 * (n + 1) = 2 * n + 1 + 1 by omega, es]
  rw [h 5 (by omega), VL_sum, VL_sum]
def outM (t : Nat → Int) (i : Nat) : Int := t i + 19 * t (i + 10)
theorem out_mod (t : Nat → Int) : ∃ k : Int, VL (outM t) = V20 t - k * 57896044618658097711785492504343953926634992332820282019728792003956564819949 := by
  refine ⟨sumF (fun q => t (q + 10) * pw q) 10, ?_⟩
  rw [VL_sum]
  have e : ∀ q, q < 10 → outM t q * pw q = t q * pw q + 19 * (t (q + 10) * pw q) := fun q _ => by unfold outM; rw [Int.add_mul, Int.mul_assoc]
  rw [sumF_congr 10 e, sumF_add, sumF_mul]
  unfold V20
  simp only [sumF, pw, pwL]
  simp
  omega
theorem prod_bd (x y : Int) (A B : Nat) (hx : -(A : Int) ≤ x ∧ x ≤ A) (hy : -(B : Int) ≤ y ∧ y ≤ B) : -((A * B : Nat) : Int) ≤ x * y ∧ x * y ≤ ((A * B : Nat) : Int) := by
  have h := Nat.mul_le_mul (show x.natAbs ≤ A by omega) (show y.natAbs ≤ B by omega)
  rw [← Int.natAbs_mul] at h
  generalize x * y = z at *
  omega
/-- The limbs of a sum or a difference of carried numbers, or of one that was read. -/
def Mid (a : Nat → Int) : Prop := ∀ q, q < 10 → -134217728 ≤ a q ∧ a q ≤ 134217728
theorem od_bd (b : Nat → Int) (hb : Mid b) (k : Nat) (hk : k < 10) : -268435456 ≤ od b k ∧ od b k ≤ 268435456 := by
  have := hb k hk
  unfold od
  split <;> omega
theorem xb_bd (a b : Nat → Int) (ha : Mid a) (hb : Mid b) (i k : Nat) (hi : i < 10) (hk : k < 10) : -18014398509481984 ≤ a i * b k ∧ a i * b k ≤ 18014398509481984 := prod_bd (a i) (b k) 134217728 134217728 (ha i hi) (hb k hk)
theorem yo_bd (a b : Nat → Int) (ha : Mid a) (hb : Mid b) (i k : Nat) (hi : i < 10) (hk : k < 10) : -36028797018963968 ≤ a i * od b k ∧ a i * od b k ≤ 36028797018963968 := prod_bd (a i) (od b k) 134217728 268435456 (ha i hi) (od_bd b hb k hk)
theorem tO_bd (a b : Nat → Int) (ha : Mid a) (hb : Mid b) (n : Nat) (hn : n ≤ 5) (q : Nat) : -(54043195528445952 * (n : Int)) ≤ tO a b n q ∧ tO a b n q ≤ 54043195528445952 * (n : Int) := by
  induction n with
  | zero => exact ⟨by simp [tO], by simp [tO]⟩
  | succ n ih =>
    have h := ih (by omega)
    show _ ≤ tIn _ b _ _ (2 * n) 10 q ∧ tIn _ b _ _ (2 * n) 10 q ≤ _
    unfold tIn
    have h1 : -18014398509481984 ≤ (if 2 * n ≤ q ∧ q < 2 * n + 10 then a (2 * n) * b (q - 2 * n) else 0) ∧ (if 2 * n ≤ q ∧ q < 2 * n + 10 then a (2 * n) * b (q - 2 * n) else 0) ≤ 18014398509481984 := by
      split
      · exact xb_bd a b ha hb _ _ (by omega) (by omega)
      · omega
    have h2 : -36028797018963968 ≤ (if 2 * n + 1 ≤ q ∧ q < 2 * n + 1 + 10 then a (2 * n + 1) * od b (q - 2 * n - 1) else 0) ∧ (if 2 * n + 1 ≤ q ∧ q < 2 * n + 1 + 10 then a (2 * n + 1) * od b (q - 2 * n - 1) else 0) ≤ 36028797018963968 := by
      split
      · exact yo_bd a b ha hb _ _ (by omega) (by omega)
      · omega
    rw [Int.natCast_add]
    omega
theorem tIn_bd (a b : Nat → Int) (ha : Mid a) (hb : Mid b) (n k : Nat) (hn : n < 5) (hk : k ≤ 10) (q : Nat) : -270215977642229760 ≤ tIn (tO a b n) b (a (2 * n)) (a (2 * n + 1)) (2 * n) k q ∧ tIn (tO a b n) b (a (2 * n)) (a (2 * n + 1)) (2 * n) k q ≤ 270215977642229760 := by
  have h := tO_bd a b ha hb n (by omega) q
  unfold tIn
  have h1 : -18014398509481984 ≤ (if 2 * n ≤ q ∧ q < 2 * n + k then a (2 * n) * b (q - 2 * n) else 0) ∧ (if 2 * n ≤ q ∧ q < 2 * n + k then a (2 * n) * b (q - 2 * n) else 0) ≤ 18014398509481984 := by
    split
    · exact xb_bd a b ha hb _ _ (by omega) (by omega)
    · omega
  have h2 : -36028797018963968 ≤ (if 2 * n + 1 ≤ q ∧ q < 2 * n + 1 + k then a (2 * n + 1) * od b (q - 2 * n - 1) else 0) ∧ (if 2 * n + 1 ≤ q ∧ q < 2 * n + 1 + k then a (2 * n + 1) * od b (q - 2 * n - 1) else 0) ≤ 36028797018963968 := by
    split
    · exact yo_bd a b ha hb _ _ (by omega) (by omega)
    · omega
  omega
theorem outM_bd (a b : Nat → Int) (ha : Mid a) (hb : Mid b) (q : Nat) : -7205759403792793600 ≤ outM (tO a b 5) q ∧ outM (tO a b 5) q ≤ 7205759403792793600 := by
  have h1 := tO_bd a b ha hb 5 (by omega) q
  have h2 := tO_bd a b ha hb 5 (by omega) (q + 10)
  unfold outM
  omega
/-- The product, carried. -/
def mulL (a b : Nat → Int) : Nat → Int := crR (outM (tO a b 5)) 20
theorem mulL_low (a b : Nat → Int) (ha : Mid a) (hb : Mid b) : Low (mulL a b) := carried _ (fun q _ => outM_bd a b ha hb q)
theorem mulL_mod (a b : Nat → Int) : ∃ k : Int, VL (mulL a b) = VL a * VL b - k * 57896044618658097711785492504343953926634992332820282019728792003956564819949 := by
  obtain ⟨k, hk⟩ := crR_mod (outM (tO a b 5)) 20
  obtain ⟨j, hj⟩ := out_mod (tO a b 5)
  rw [V20_all] at hj
  refine ⟨k + j, ?_⟩
  unfold mulL
  rw [hk, hj]
  omega
theorem Low.mid {g : Nat → Int} (h : Low g) : Mid g := by
  intro q hq
  by_cases c : q = 0
  · subst c; have := h.1; omega
  · have := h.2 q (by omega) hq; have := kh_le q; omega

end Go.My

/- Field numbers in ten limbs: the least limbs; bits and bytes. Nothing of the program is named. -/
namespace Go.My
open Go.RowKit
set_option linter.unusedVariables false

/-- Where a limb begins, and how many bits it has. -/
def woL : List Nat := [0, 26, 51, 77, 102, 128, 153, 179, 204, 230, 255]
def wo (i : Nat) : Nat := woL.getD i 255
def bwn (i : Nat) : Nat := 26 - i % 2
theorem wo_succ (i : Nat) (h : i < 10) : wo (i + 1) = wo i + bwn i := by
  have h2 : ∀ i, i < 10 → wo (i + 1) = wo i + bwn i := by decide +kernel
  exact h2 i h
theorem wo_le (i : Nat) (h : i ≤ 10) : wo i ≤ 255 := by
  have h2 : ∀ i, i < 11 → wo i ≤ 255 := by decide +kernel
  exact h2 i (by omega)
/-- The limbs of a number. -/
def dig (n i : Nat) : Nat := n / 2 ^ wo i % 2 ^ bwn i
def digZ (n : Nat) (i : Nat) : Int := (dig n i : Int)
theorem dig_lt (n i : Nat) : dig n i < 67108864 := Nat.lt_of_lt_of_le (Nat.mod_lt _ (Nat.pow_pos (by decide))) (Nat.pow_le_pow_right (by decide) (by unfold bwn; omega : bwn i ≤ 26))
theorem digZ_mid (n : Nat) : Mid (digZ n) := fun q _ => by have := dig_lt n q; unfold digZ; omega
theorem VL_dig (n : Nat) (h : n < 2 ^ 255) : VL (digZ n) = n := by
  have e : ∀ i, digZ n i = ((n / 2 ^ wo i % 2 ^ bwn i : Nat) : Int) := fun _ => rfl
  unfold VL
  simp only [e, wo, woL, bwn]
  simp
  omega

/-! ### The quotient, and the least limbs -/
def qF (g : Nat → Int) : Nat → Int
  | 0 => (19 * g 9 + 16777216) / 33554432
  | i + 1 => (g i + qF g i) / kw i
/-- The carries of the last pass, with floors. -/
def fC (h : Nat → Int) : Nat → Int
  | 0 => 0
  | i + 1 => (h i + fC h i) / kw i
def fD (h : Nat → Int) (i : Nat) : Int := h i + fC h i - fC h (i + 1) * kw i
theorem nest (x X A K : Int) (hA : 0 < A) (hK : 0 ≤ K) : (x + X / A) / K = (X + x * A) / (A * K) := by
  rw [Int.add_comm x, ← Int.add_mul_ediv_right X x (by omega), Int.ediv_ediv, if_neg (fun c => by have := c.1; omega), Int.sub_zero]
theorem q_floor (g : Nat → Int) : qF g 1 = (g 0 + (qF g 0)) / 67108864 ∧ qF g 2 = (g 0 + g 1 * 67108864 + (qF g 0)) / 2251799813685248 ∧ qF g 3 = (g 0 + g 1 * 67108864 + g 2 * 2251799813685248 + (qF g 0)) / 151115727451828646838272 ∧ qF g 4 = (g 0 + g 1 * 67108864 + g 2 * 2251799813685248 + g 3 * 151115727451828646838272 + (qF g 0)) / 5070602400912917605986812821504 ∧ qF g 5 = (g 0 + g 1 * 67108864 + g 2 * 2251799813685248 + g 3 * 151115727451828646838272 + g 4 * 5070602400912917605986812821504 + (qF g 0)) / 340282366920938463463374607431768211456 ∧ qF g 6 = (g 0 + g 1 * 67108864 + g 2 * 2251799813685248 + g 3 * 151115727451828646838272 + g 4 * 5070602400912917605986812821504 + g 5 * 340282366920938463463374607431768211456 + (qF g 0)) / 11417981541647679048466287755595961091061972992 ∧ qF g 7 = (g 0 + g 1 * 67108864 + g 2 * 2251799813685248 + g 3 * 151115727451828646838272 + g 4 * 5070602400912917605986812821504 + g 5 * 340282366920938463463374607431768211456 + g 6 * 11417981541647679048466287755595961091061972992 + (qF g 0)) / 766247770432944429179173513575154591809369561091801088 ∧ qF g 8 = (g 0 + g 1 * 67108864 + g 2 * 2251799813685248 + g 3 * 151115727451828646838272 + g 4 * 5070602400912917605986812821504 + g 5 * 340282366920938463463374607431768211456 + g 6 * 11417981541647679048466287755595961091061972992 + g 7 * 766247770432944429179173513575154591809369561091801088 + (qF g 0)) / 25711008708143844408671393477458601640355247900524685364822016 ∧ qF g 9 = (g 0 + g 1 * 67108864 + g 2 * 2251799813685248 + g 3 * 151115727451828646838272 + g 4 * 5070602400912917605986812821504 + g 5 * 340282366920938463463374607431768211456 + g 6 * 11417981541647679048466287755595961091061972992 + g 7 * 766247770432944429179173513575154591809369561091801088 + g 8 * 25711008708143844408671393477458601640355247900524685364822016 + (qF g 0)) / 1725436586697640946858688965569256363112777243042596638790631055949824 ∧ qF g 10 = (g 0 + g 1 * 67108864 + g 2 * 2251799813685248 + g 3 * 151115727451828646838272 + g 4 * 5070602400912917605986812821504 + g 5 * 340282366920938463463374607431768211456 + g 6 * 11417981541647679048466287755595961091061972992 + g 7 * 766247770432944429179173513575154591809369561091801088 + g 8 * 25711008708143844408671393477458601640355247900524685364822016 + g 9 * 1725436586697640946858688965569256363112777243042596638790631055949824 + (qF g 0)) / 57896044618658097711785492504343953926634992332820282019728792003956564819968 := by
  have r1 : qF g 1 = (g 0 + qF g 0) / 67108864 := rfl
  have r2 : qF g 2 = (g 1 + qF g 1) / 33554432 := rfl
  have r3 : qF g 3 = (g 2 + qF g 2) / 67108864 := rfl
  have r4 : qF g 4 = (g 3 + qF g 3) / 33554432 := rfl
  have r5 : qF g 5 = (g 4 + qF g 4) / 67108864 := rfl
  have r6 : qF g 6 = (g 5 + qF g 5) / 33554432 := rfl
  have r7 : qF g 7 = (g 6 + qF g 6) / 67108864 := rfl
  have r8 : qF g 8 = (g 7 + qF g 7) / 33554432 := rfl
  have r9 : qF g 9 = (g 8 + qF g 8) / 67108864 := rfl
  have r10 : qF g 10 = (g 9 + qF g 9) / 33554432 := rfl
  generalize qF g 0 = x0 at *
  generalize qF g 1 = x1 at *
  generalize qF g 2 = x2 at *
  generalize qF g 3 = x3 at *
  generalize qF g 4 = x4 at *
  generalize qF g 5 = x5 at *
  generalize qF g 6 = x6 at *
  generalize qF g 7 = x7 at *
  generalize qF g 8 = x8 at *
  generalize qF g 9 = x9 at *
  generalize qF g 10 = x10 at *
  have e1 : x1 = (g 0 + x0) / 67108864 := r1
  have e2 : x2 = (g 0 + g 1 * 67108864 + x0) / 2251799813685248 := by rw [r2, e1, nest _ _ 67108864 33554432 (by decide) (by decide), show (67108864 : Int) * 33554432 = 2251799813685248 from rfl]; congr 1; omega
  have e3 : x3 = (g 0 + g 1 * 67108864 + g 2 * 2251799813685248 + x0) / 151115727451828646838272 := by rw [r3, e2, nest _ _ 2251799813685248 67108864 (by decide) (by decide), show (2251799813685248 : Int) * 67108864 = 151115727451828646838272 from rfl]; congr 1; omega
  have e4 : x4 = (g 0 + g 1 * 67108864 + g 2 * 2251799813685248 + g 3 * 151115727451828646838272 + x0) / 5070602400912917605986812821504 := by rw [r4, e3, nest _ _ 151115727451828646838272 33554432 (by decide) (by decide), show (151115727451828646838272 : Int) * 33554432 = 5070602400912917605986812821504 from rfl]; congr 1; omega
  have e5 : x5 = (g 0 + g 1 * 67108864 + g 2 * 2251799813685248 + g 3 * 151115727451828646838272 + g 4 * 5070602400912917605986812821504 + x0) / 340282366920938463463374607431768211456 := by rw [r5, e4, nest _ _ 5070602400912917605986812821504 67108864 (by decide) (by decide), show (5070602400912917605986812821504 : Int) * 67108864 = 340282366920938463463374607431768211456 from rfl]; congr 1; omega
  have e6 : x6 = (g 0 + g 1 * 67108864 + g 2 * 2251799813685248 + g 3 * 151115727451828646838272 + g 4 * 5070602400912917605986812821504 + g 5 * 340282366920938463463374607431768211456 + x0) / 11417981541647679048466287755595961091061972992 := by rw [r6, e5, nest _ _ 340282366920938463463374607431768211456 33554432 (by decide) (by decide), show (340282366920938463463374607431768211456 : Int) * 33554432 = 11417981541647679048466287755595961091061972992 from rfl]; congr 1; omega
  have e7 : x7 = (g 0 + g 1 * 67108864 + g 2 * 2251799813685248 + g 3 * 151115727451828646838272 + g 4 * 5070602400912917605986812821504 + g 5 * 340282366920938463463374607431768211456 + g 6 * 11417981541647679048466287755595961091061972992 + x0) / 766247770432944429179173513575154591809369561091801088 := by rw [r7, e6, nest _ _ 11417981541647679048466287755595961091061972992 67108864 (by decide) (by decide), show (11417981541647679048466287755595961091061972992 : Int) * 67108864 = 766247770432944429179173513575154591809369561091801088 from rfl]; congr 1; omega
  have e8 : x8 = (g 0 + g 1 * 67108864 + g 2 * 2251799813685248 + g 3 * 151115727451828646838272 + g 4 * 5070602400912917605986812821504 + g 5 * 340282366920938463463374607431768211456 + g 6 * 11417981541647679048466287755595961091061972992 + g 7 * 766247770432944429179173513575154591809369561091801088 + x0) / 25711008708143844408671393477458601640355247900524685364822016 := by rw [r8, e7, nest _ _ 766247770432944429179173513575154591809369561091801088 33554432 (by decide) (by decide), show (766247770432944429179173513575154591809369561091801088 : Int) * 33554432 = 25711008708143844408671393477458601640355247900524685364822016 from rfl]; congr 1; omega
  have e9 : x9 = (g 0 + g 1 * 67108864 + g 2 * 2251799813685248 + g 3 * 151115727451828646838272 + g 4 * 5070602400912917605986812821504 + g 5 * 340282366920938463463374607431768211456 + g 6 * 11417981541647679048466287755595961091061972992 + g 7 * 766247770432944429179173513575154591809369561091801088 + g 8 * 25711008708143844408671393477458601640355247900524685364822016 + x0) / 1725436586697640946858688965569256363112777243042596638790631055949824 := by rw [r9, e8, nest _ _ 25711008708143844408671393477458601640355247900524685364822016 67108864 (by decide) (by decide), show (25711008708143844408671393477458601640355247900524685364822016 : Int) * 67108864 = 1725436586697640946858688965569256363112777243042596638790631055949824 from rfl]; congr 1; omega
  have e10 : x10 = (g 0 + g 1 * 67108864 + g 2 * 2251799813685248 + g 3 * 151115727451828646838272 + g 4 * 5070602400912917605986812821504 + g 5 * 340282366920938463463374607431768211456 + g 6 * 11417981541647679048466287755595961091061972992 + g 7 * 766247770432944429179173513575154591809369561091801088 + g 8 * 25711008708143844408671393477458601640355247900524685364822016 + g 9 * 1725436586697640946858688965569256363112777243042596638790631055949824 + x0) / 57896044618658097711785492504343953926634992332820282019728792003956564819968 := by rw [r10, e9, nest _ _ 1725436586697640946858688965569256363112777243042596638790631055949824 33554432 (by decide) (by decide), show (1725436586697640946858688965569256363112777243042596638790631055949824 : Int) * 33554432 = 57896044618658097711785492504343953926634992332820282019728792003956564819968 from rfl]; congr 1; omega
  exact ⟨e1, e2, e3, e4, e5, e6, e7, e8, e9, e10⟩
theorem f_floor (g : Nat → Int) : fC g 1 = (g 0 + 0) / 67108864 ∧ fC g 2 = (g 0 + g 1 * 67108864 + 0) / 2251799813685248 ∧ fC g 3 = (g 0 + g 1 * 67108864 + g 2 * 2251799813685248 + 0) / 151115727451828646838272 ∧ fC g 4 = (g 0 + g 1 * 67108864 + g 2 * 2251799813685248 + g 3 * 151115727451828646838272 + 0) / 5070602400912917605986812821504 ∧ fC g 5 = (g 0 + g 1 * 67108864 + g 2 * 2251799813685248 + g 3 * 151115727451828646838272 + g 4 * 5070602400912917605986812821504 + 0) / 340282366920938463463374607431768211456 ∧ fC g 6 = (g 0 + g 1 * 67108864 + g 2 * 2251799813685248 + g 3 * 151115727451828646838272 + g 4 * 5070602400912917605986812821504 + g 5 * 340282366920938463463374607431768211456 + 0) / 11417981541647679048466287755595961091061972992 ∧ fC g 7 = (g 0 + g 1 * 67108864 + g 2 * 2251799813685248 + g 3 * 151115727451828646838272 + g 4 * 5070602400912917605986812821504 + g 5 * 340282366920938463463374607431768211456 + g 6 * 11417981541647679048466287755595961091061972992 + 0) / 766247770432944429179173513575154591809369561091801088 ∧ fC g 8 = (g 0 + g 1 * 67108864 + g 2 * 2251799813685248 + g 3 * 151115727451828646838272 + g 4 * 5070602400912917605986812821504 + g 5 * 340282366920938463463374607431768211456 + g 6 * 11417981541647679048466287755595961091061972992 + g 7 * 766247770432944429179173513575154591809369561091801088 + 0) / 25711008708143844408671393477458601640355247900524685364822016 ∧ fC g 9 = (g 0 + g 1 * 67108864 + g 2 * 2251799813685248 + g 3 * 151115727451828646838272 + g 4 * 5070602400912917605986812821504 + g 5 * 340282366920938463463374607431768211456 + g 6 * 11417981541647679048466287755595961091061972992 + g 7 * 766247770432944429179173513575154591809369561091801088 + g 8 * 25711008708143844408671393477458601640355247900524685364822016 + 0) / 1725436586697640946858688965569256363112777243042596638790631055949824 ∧ fC g 10 = (g 0 + g 1 * 67108864 + g 2 * 2251799813685248 + g 3 * 151115727451828646838272 + g 4 * 5070602400912917605986812821504 + g 5 * 340282366920938463463374607431768211456 + g 6 * 11417981541647679048466287755595961091061972992 + g 7 * 766247770432944429179173513575154591809369561091801088 + g 8 * 25711008708143844408671393477458601640355247900524685364822016 + g 9 * 1725436586697640946858688965569256363112777243042596638790631055949824 + 0) / 57896044618658097711785492504343953926634992332820282019728792003956564819968 := by
  have r1 : fC g 1 = (g 0 + fC g 0) / 67108864 := rfl
  have r2 : fC g 2 = (g 1 + fC g 1) / 33554432 := rfl
  have r3 : fC g 3 = (g 2 + fC g 2) / 67108864 := rfl
  have r4 : fC g 4 = (g 3 + fC g 3) / 33554432 := rfl
  have r5 : fC g 5 = (g 4 + fC g 4) / 67108864 := rfl
  have r6 : fC g 6 = (g 5 + fC g 5) / 33554432 := rfl
  have r7 : fC g 7 = (g 6 + fC g 6) / 67108864 := rfl
  have r8 : fC g 8 = (g 7 + fC g 7) / 33554432 := rfl
  have r9 : fC g 9 = (g 8 + fC g 8) / 67108864 := rfl
  have r10 : fC g 10 = (g 9 + fC g 9) / 33554432 := rfl
  have z0 : fC g 0 = 0 := rfl
  generalize fC g 0 = x0 at *
  generalize fC g 1 = x1 at *
  generalize fC g 2 = x2 at *
  generalize fC g 3 = x3 at *
  generalize fC g 4 = x4 at *
  generalize fC g 5 = x5 at *
  generalize fC g 6 = x6 at *
  generalize fC g 7 = x7 at *
  generalize fC g 8 = x8 at *
  generalize fC g 9 = x9 at *
  generalize fC g 10 = x10 at *
  have e1 : x1 = (g 0 + 0) / 67108864 := by rw [r1, z0]
  have e2 : x2 = (g 0 + g 1 * 67108864 + 0) / 2251799813685248 := by rw [r2, e1, nest _ _ 67108864 33554432 (by decide) (by decide), show (67108864 : Int) * 33554432 = 2251799813685248 from rfl]; congr 1; omega
  have e3 : x3 = (g 0 + g 1 * 67108864 + g 2 * 2251799813685248 + 0) / 151115727451828646838272 := by rw [r3, e2, nest _ _ 2251799813685248 67108864 (by decide) (by decide), show (2251799813685248 : Int) * 67108864 = 151115727451828646838272 from rfl]; congr 1; omega
  have e4 : x4 = (g 0 + g 1 * 67108864 + g 2 * 2251799813685248 + g 3 * 151115727451828646838272 + 0) / 5070602400912917605986812821504 := by rw [r4, e3, nest _ _ 151115727451828646838272 33554432 (by decide) (by decide), show (151115727451828646838272 : Int) * 33554432 = 5070602400912917605986812821504 from rfl]; congr 1; omega
  have e5 : x5 = (g 0 + g 1 * 67108864 + g 2 * 2251799813685248 + g 3 * 151115727451828646838272 + g 4 * 5070602400912917605986812821504 + 0) / 340282366920938463463374607431768211456 := by rw [r5, e4, nest _ _ 5070602400912917605986812821504 67108864 (by decide) (by decide), show (5070602400912917605986812821504 : Int) * 67108864 = 340282366920938463463374607431768211456 from rfl]; congr 1; omega
  have e6 : x6 = (g 0 + g 1 * 67108864 + g 2 * 2251799813685248 + g 3 * 151115727451828646838272 + g 4 * 5070602400912917605986812821504 + g 5 * 340282366920938463463374607431768211456 + 0) / 11417981541647679048466287755595961091061972992 := by rw [r6, e5, nest _ _ 340282366920938463463374607431768211456 33554432 (by decide) (by decide), show (340282366920938463463374607431768211456 : Int) * 33554432 = 11417981541647679048466287755595961091061972992 from rfl]; congr 1; omega
  have e7 : x7 = (g 0 + g 1 * 67108864 + g 2 * 2251799813685248 + g 3 * 151115727451828646838272 + g 4 * 5070602400912917605986812821504 + g 5 * 340282366920938463463374607431768211456 + g 6 * 11417981541647679048466287755595961091061972992 + 0) / 766247770432944429179173513575154591809369561091801088 := by rw [r7, e6, nest _ _ 11417981541647679048466287755595961091061972992 67108864 (by decide) (by decide), show (11417981541647679048466287755595961091061972992 : Int) * 67108864 = 766247770432944429179173513575154591809369561091801088 from rfl]; congr 1; omega
  have e8 : x8 = (g 0 + g 1 * 67108864 + g 2 * 2251799813685248 + g 3 * 151115727451828646838272 + g 4 * 5070602400912917605986812821504 + g 5 * 340282366920938463463374607431768211456 + g 6 * 11417981541647679048466287755595961091061972992 + g 7 * 766247770432944429179173513575154591809369561091801088 + 0) / 25711008708143844408671393477458601640355247900524685364822016 := by rw [r8, e7, nest _ _ 766247770432944429179173513575154591809369561091801088 33554432 (by decide) (by decide), show (766247770432944429179173513575154591809369561091801088 : Int) * 33554432 = 25711008708143844408671393477458601640355247900524685364822016 from rfl]; congr 1; omega
  have e9 : x9 = (g 0 + g 1 * 67108864 + g 2 * 2251799813685248 + g 3 * 151115727451828646838272 + g 4 * 5070602400912917605986812821504 + g 5 * 340282366920938463463374607431768211456 + g 6 * 11417981541647679048466287755595961091061972992 + g 7 * 766247770432944429179173513575154591809369561091801088 + g 8 * 25711008708143844408671393477458601640355247900524685364822016 + 0) / 1725436586697640946858688965569256363112777243042596638790631055949824 := by rw [r9, e8, nest _ _ 25711008708143844408671393477458601640355247900524685364822016 67108864 (by decide) (by decide), show (25711008708143844408671393477458601640355247900524685364822016 : Int) * 67108864 = 1725436586697640946858688965569256363112777243042596638790631055949824 from rfl]; congr 1; omega
  have e10 : x10 = (g 0 + g 1 * 67108864 + g 2 * 2251799813685248 + g 3 * 151115727451828646838272 + g 4 * 5070602400912917605986812821504 + g 5 * 340282366920938463463374607431768211456 + g 6 * 11417981541647679048466287755595961091061972992 + g 7 * 766247770432944429179173513575154591809369561091801088 + g 8 * 25711008708143844408671393477458601640355247900524685364822016 + g 9 * 1725436586697640946858688965569256363112777243042596638790631055949824 + 0) / 57896044618658097711785492504343953926634992332820282019728792003956564819968 := by rw [r10, e9, nest _ _ 1725436586697640946858688965569256363112777243042596638790631055949824 33554432 (by decide) (by decide), show (1725436586697640946858688965569256363112777243042596638790631055949824 : Int) * 33554432 = 57896044618658097711785492504343953926634992332820282019728792003956564819968 from rfl]; congr 1; omega
  exact ⟨e1, e2, e3, e4, e5, e6, e7, e8, e9, e10⟩
theorem q_end (g : Nat → Int) : qF g 10 = (VL g + qF g 0) / 57896044618658097711785492504343953926634992332820282019728792003956564819968 := by
  have h := (q_floor g).2.2.2.2.2.2.2.2.2
  rw [h]
  rfl
/-- What the quotient leaves lies between 0 and the prime. -/
theorem q_range (g : Nat → Int) (h : Low g) : 0 ≤ VL g - qF g 10 * 57896044618658097711785492504343953926634992332820282019728792003956564819949 ∧ VL g - qF g 10 * 57896044618658097711785492504343953926634992332820282019728792003956564819949 < 57896044618658097711785492504343953926634992332820282019728792003956564819949 := by
  rw [q_end]
  have e0 : qF g 0 = (19 * g 9 + 16777216) / 33554432 := rfl
  rw [e0]
  have b0 := h.1
  have b1 := h.2 1 (by omega) (by omega)
  rw [show kh 1 = 16777216 from rfl] at b1
  have b2 := h.2 2 (by omega) (by omega)
  rw [show kh 2 = 33554432 from rfl] at b2
  have b3 := h.2 3 (by omega) (by omega)
  rw [show kh 3 = 16777216 from rfl] at b3
  have b4 := h.2 4 (by omega) (by omega)
  rw [show kh 4 = 33554432 from rfl] at b4
  have b5 := h.2 5 (by omega) (by omega)
  rw [show kh 5 = 16777216 from rfl] at b5
  have b6 := h.2 6 (by omega) (by omega)
  rw [show kh 6 = 33554432 from rfl] at b6
  have b7 := h.2 7 (by omega) (by omega)
  rw [show kh 7 = 16777216 from rfl] at b7
  have b8 := h.2 8 (by omega) (by omega)
  rw [show kh 8 = 33554432 from rfl] at b8
  have b9 := h.2 9 (by omega) (by omega)
  rw [show kh 9 = 16777216 from rfl] at b9
  have hL : -1725436586697640946858688965569256363112777243042596638790631055949823 ≤ VL g - 1725436586697640946858688965569256363112777243042596638790631055949824 * g 9 ∧ VL g - 1725436586697640946858688965569256363112777243042596638790631055949824 * g 9 ≤ 1725436586697640946858688965569256363112777243042596638790631055949823 := by unfold VL; omega
  generalize VL g = V at *
  clear b0 b1 b2 b3 b4 b5 b6 b7 b8
  generalize g 9 = x at *
  omega
/-- The limbs with the quotient taken off. -/
def offQ (g : Nat → Int) (q : Nat) : Int := if q = 0 then g 0 + 19 * qF g 10 else g q
def fullL (g : Nat → Int) : Nat → Int := fD (offQ g)
theorem VL_off (g : Nat → Int) : VL (offQ g) = VL g + 19 * qF g 10 := by
  have e0 : offQ g 0 = g 0 + 19 * qF g 10 := rfl
  have o : ∀ q, q ≠ 0 → offQ g q = g q := fun q hq => if_neg hq
  unfold VL
  rw [e0, o 1 (by omega), o 2 (by omega), o 3 (by omega), o 4 (by omega), o 5 (by omega), o 6 (by omega), o 7 (by omega), o 8 (by omega), o 9 (by omega)]
  omega
/-- The least limbs are those of the remainder. -/
theorem full_dig (g : Nat → Int) (h : Low g) (n : Nat) (hn : VL g - qF g 10 * 57896044618658097711785492504343953926634992332820282019728792003956564819949 = n) (i : Nat) (hi : i < 10) : fullL g i = digZ n i := by
  obtain ⟨e1, e2, e3, e4, e5, e6, e7, e8, e9, e10⟩ := f_floor (offQ g)
  have hv : VL (offQ g) = (n : Int) + qF g 10 * 57896044618658097711785492504343953926634992332820282019728792003956564819968 := by rw [VL_off]; omega
  unfold VL at hv
  have z0 : fC (offQ g) 0 = 0 := rfl
  unfold fullL
  generalize offQ g = h' at *
  generalize qF g 10 = Q at *
  have d : ∀ i, fD h' i = h' i + fC h' i - fC h' (i + 1) * kw i := fun _ => rfl
  have k0 : kw 0 = 67108864 := rfl
  have k1 : kw 1 = 33554432 := rfl
  have k2 : kw 2 = 67108864 := rfl
  have k3 : kw 3 = 33554432 := rfl
  have k4 : kw 4 = 67108864 := rfl
  have k5 : kw 5 = 33554432 := rfl
  have k6 : kw 6 = 67108864 := rfl
  have k7 : kw 7 = 33554432 := rfl
  have k8 : kw 8 = 67108864 := rfl
  have k9 : kw 9 = 33554432 := rfl
  have ed : ∀ i, digZ n i = ((n / 2 ^ wo i % 2 ^ bwn i : Nat) : Int) := fun _ => rfl
  rcases (by omega : i = 0 ∨ i = 1 ∨ i = 2 ∨ i = 3 ∨ i = 4 ∨ i = 5 ∨ i = 6 ∨ i = 7 ∨ i = 8 ∨ i = 9) with rfl | rfl | rfl | rfl | rfl | rfl | rfl | rfl | rfl | rfl
  · rw [d 0, ed 0, show 0 + 1 = 1 from rfl, k0, z0, e1, show wo 0 = 0 from rfl, show bwn 0 = 26 from rfl]
    clear e1 e2 e3 e4 e5 e6 e7 e8 e9 e10 d ed z0 k0 k1 k2 k3 k4 k5 k6 k7 k8 k9
    simp only [Nat.reducePow]
    omega
  · rw [d 1, ed 1, show 1 + 1 = 2 from rfl, k1, e1, e2, show wo 1 = 26 from rfl, show bwn 1 = 25 from rfl]
    clear e1 e2 e3 e4 e5 e6 e7 e8 e9 e10 d ed z0 k0 k1 k2 k3 k4 k5 k6 k7 k8 k9
    simp only [Nat.reducePow]
    omega
  · rw [d 2, ed 2, show 2 + 1 = 3 from rfl, k2, e2, e3, show wo 2 = 51 from rfl, show bwn 2 = 26 from rfl]
    clear e1 e2 e3 e4 e5 e6 e7 e8 e9 e10 d ed z0 k0 k1 k2 k3 k4 k5 k6 k7 k8 k9
    simp only [Nat.reducePow]
    omega
  · rw [d 3, ed 3, show 3 + 1 = 4 from rfl, k3, e3, e4, show wo 3 = 77 from rfl, show bwn 3 = 25 from rfl]
    clear e1 e2 e3 e4 e5 e6 e7 e8 e9 e10 d ed z0 k0 k1 k2 k3 k4 k5 k6 k7 k8 k9
    simp only [Nat.reducePow]
    omega
  · rw [d 4, ed 4, show 4 + 1 = 5 from rfl, k4, e4, e5, show wo 4 = 102 from rfl, show bwn 4 = 26 from rfl]
    clear e1 e2 e3 e4 e5 e6 e7 e8 e9 e10 d ed z0 k0 k1 k2 k3 k4 k5 k6 k7 k8 k9
    simp only [Nat.reducePow]
    omega
  · rw [d 5, ed 5, show 5 + 1 = 6 from rfl, k5, e5, e6, show wo 5 = 128 from rfl, show bwn 5 = 25 from rfl]
    clear e1 e2 e3 e4 e5 e6 e7 e8 e9 e10 d ed z0 k0 k1 k2 k3 k4 k5 k6 k7 k8 k9
    simp only [Nat.reducePow]
    omega
  · rw [d 6, ed 6, show 6 + 1 = 7 from rfl, k6, e6, e7, show wo 6 = 153 from rfl, show bwn 6 = 26 from rfl]
    clear e1 e2 e3 e4 e5 e6 e7 e8 e9 e10 d ed z0 k0 k1 k2 k3 k4 k5 k6 k7 k8 k9
    simp only [Nat.reducePow]
    omega
  · rw [d 7, ed 7, show 7 + 1 = 8 from rfl, k7, e7, e8, show wo 7 = 179 from rfl, show bwn 7 = 25 from rfl]
    clear e1 e2 e3 e4 e5 e6 e7 e8 e9 e10 d ed z0 k0 k1 k2 k3 k4 k5 k6 k7 k8 k9
    simp only [Nat.reducePow]
    omega
  · rw [d 8, ed 8, show 8 + 1 = 9 from rfl, k8, e8, e9, show wo 8 = 204 from rfl, show bwn 8 = 26 from rfl]
    clear e1 e2 e3 e4 e5 e6 e7 e8 e9 e10 d ed z0 k0 k1 k2 k3 k4 k5 k6 k7 k8 k9
    simp only [Nat.reducePow]
    omega
  · rw [d 9, ed 9, show 9 + 1 = 10 from rfl, k9, e9, e10, show wo 9 = 230 from rfl, show bwn 9 = 25 from rfl]
    clear e1 e2 e3 e4 e5 e6 e7 e8 e9 e10 d ed z0 k0 k1 k2 k3 k4 k5 k6 k7 k8 k9
    simp only [Nat.reducePow]
    omega

end Go.My

/- Bits of bytes and of limbs. Nothing of the program is named. -/
namespace Go.My
open Go.RowKit
set_option linter.unusedVariables false

theorem leN_get (l : List UInt8) (j : Nat) (h : j < l.length) : (l[j]).toNat = leN l / 256 ^ j % 256 := by
  induction l generalizing j with
  | nil => simp at h
  | cons b l ih =>
    have hb := b.toNat_lt
    cases j with
    | zero => simp only [List.getElem_cons_zero, leN, Nat.pow_zero, Nat.div_one]; omega
    | succ j =>
      rw [List.getElem_cons_succ, ih j (by simpa using h), leN, Nat.pow_succ, Nat.mul_comm (256 ^ j), ← Nat.div_div_eq_div_mul, show (b.toNat + 256 * leN l) / 256 = leN l by omega]
theorem p256 (j : Nat) : (256 : Nat) ^ j = 2 ^ (8 * j) := by rw [show (256 : Nat) = 2 ^ 8 from rfl, ← Nat.pow_mul]
theorem byte_bit (n A : Nat) : n / 256 ^ (A / 8) % 256 / 2 ^ (A % 8) % 2 = n / 2 ^ A % 2 := by
  have hp : (256 : Nat) = 2 ^ (A % 8) * 2 ^ (8 - A % 8) := by rw [← Nat.pow_add, show A % 8 + (8 - A % 8) = 8 by omega]
  rw [p256]
  conv => lhs; lhs; lhs; rhs; rw [hp]
  rw [Nat.mod_mul_right_div_self, Nat.div_div_eq_div_mul, ← Nat.pow_add, show 8 * (A / 8) + A % 8 = A by omega]
  obtain ⟨m, hm⟩ : ∃ m, 8 - A % 8 = m + 1 := ⟨7 - A % 8, by omega⟩
  rw [hm, Nat.pow_succ, Nat.mul_comm, Nat.mod_mul_right_mod]
theorem dig_bit (n w k b : Nat) (h : k < b) : n / 2 ^ w % 2 ^ b / 2 ^ k % 2 = n / 2 ^ (w + k) % 2 := by
  obtain ⟨c, rfl⟩ : ∃ c, b = k + (c + 1) := ⟨b - k - 1, by omega⟩
  rw [Nat.pow_add 2 k, Nat.mod_mul_right_div_self, Nat.div_div_eq_div_mul, ← Nat.pow_add, Nat.pow_succ, Nat.mul_comm, Nat.mod_mul_right_mod]
theorem dig_step (n w k : Nat) : n / 2 ^ w % 2 ^ (k + 1) = n / 2 ^ w % 2 ^ k + 2 ^ k * (n / 2 ^ (w + k) % 2) := by
  rw [Nat.mod_pow_succ, Nat.div_div_eq_div_mul, ← Nat.pow_add]
/-- The bytes of a number, by place. -/
def byF (m j : Nat) : Nat := m / 256 ^ j % 256
theorem byF_lt (m j : Nat) : byF m j < 256 := Nat.mod_lt _ (by decide)
theorem byF_at (m A B : Nat) (hm : m < 2 ^ A) (hB : B < 2) : byF (m + 2 ^ A * B) (A / 8) = byF m (A / 8) + 2 ^ (A % 8) * B ∧ byF m (A / 8) < 2 ^ (A % 8) := by
  have e : 2 ^ A = 256 ^ (A / 8) * 2 ^ (A % 8) := by rw [p256, ← Nat.pow_add, show 8 * (A / 8) + A % 8 = A by omega]
  have hl : m / 256 ^ (A / 8) < 2 ^ (A % 8) := by
    rw [e] at hm
    exact Nat.div_lt_of_lt_mul hm
  have h8 : 2 ^ (A % 8) ≤ 128 := Nat.pow_le_pow_right (by decide) (by omega : A % 8 ≤ 7)
  have hB2 : B = 0 ∨ B = 1 := by omega
  unfold byF
  rw [e, Nat.mul_assoc, Nat.add_mul_div_left _ _ (Nat.pow_pos (by decide))]
  clear e hm
  generalize m / 256 ^ (A / 8) = d at *
  generalize 2 ^ (A % 8) = c at *
  rcases hB2 with rfl | rfl
  · exact ⟨by omega, by omega⟩
  · exact ⟨by omega, by omega⟩
theorem byF_other (m A B j : Nat) (hm : m < 2 ^ A) (hB : B < 2) (hj : j ≠ A / 8) : byF (m + 2 ^ A * B) j = byF m j := by
  unfold byF
  by_cases h : j < A / 8
  · obtain ⟨c, hc⟩ : ∃ c, A = 8 * j + (8 + c) := ⟨A - 8 * j - 8, by omega⟩
    have e : 2 ^ A * B = 256 ^ j * (256 * (2 ^ c * B)) := by
      rw [hc, Nat.pow_add, Nat.pow_add, p256]
      simp only [Nat.mul_assoc]
    rw [e, Nat.add_mul_div_left _ _ (Nat.pow_pos (by decide)), Nat.add_mul_mod_self_left]
  · have h1 : m + 2 ^ A * B < 256 ^ j := by
      have : 2 ^ (A + 1) ≤ 256 ^ j := by rw [p256]; exact Nat.pow_le_pow_right (by decide) (by omega)
      rw [Nat.pow_succ] at this
      rcases (by omega : B = 0 ∨ B = 1) with rfl | rfl <;> omega
    rw [Nat.div_eq_of_lt h1, Nat.div_eq_of_lt (by omega)]
theorem mod_step (r A : Nat) : r % 2 ^ (A + 1) = r % 2 ^ A + 2 ^ A * (r / 2 ^ A % 2) := Nat.mod_pow_succ
theorem leB_byF (m : Nat) (k : Nat) : leB m k = (List.range k).map (fun j => UInt8.ofNat (byF m j)) := by
  induction k with
  | zero => rfl
  | succ k ih =>
    rw [leB_snoc, ih, List.range_succ, List.map_append]
    congr 1
    simp only [List.map_cons, List.map_nil, List.cons.injEq, and_true]
    apply UInt8.toNat_inj.1
    rw [UInt8.toNat_ofNat', UInt8.toNat_ofNat']
    unfold byF
    omega
theorem cells_byF (m : Nat) (k : Nat) : cellsOf (leB m k) = rwL .u8 k (fun j => (byF m j : Int)) := by
  rw [leB_byF]
  unfold cellsOf rwL
  rw [List.map_map]
  apply List.map_congr_left
  intro j _
  show Value.int .u8 ((UInt8.ofNat (byF m j)).toNat : Int) = _
  rw [UInt8.toNat_ofNat', Nat.mod_eq_of_lt (byF_lt m j)]

/-! ### Bits of signed words -/
theorem i64_and1 (n : Int) : bits .and .i64 n 1 = n % 2 := by
  have h1 : (BitVec.ofInt 64 1).toNat = 2 ^ 1 - 1 := by decide
  have key : (BitVec.ofInt 64 n &&& BitVec.ofInt 64 1).toNat = (n % ((2 ^ 64 : Nat) : Int)).toNat % 2 ^ 1 := by
    rw [BitVec.toNat_and, BitVec.toNat_ofInt, h1, Nat.and_two_pow_sub_one_eq_mod]
  show IntKind.i64.wrap ((BitVec.ofInt 64 n &&& BitVec.ofInt 64 1).toNat : Nat) = n % 2
  rw [key, IntKind.wrap_i64]
  omega
theorem i64_or (k x y : Nat) (hx : x < 2 ^ k) (h : x + 2 ^ k * y < 4611686018427387904) : bits .or .i64 (x : Int) ((y : Int) * 2 ^ k) = ((x + 2 ^ k * y : Nat) : Int) := by
  have e : (y : Int) * 2 ^ k = ((2 ^ k * y : Nat) : Int) := by rw [Int.natCast_mul, Int.natCast_pow, Int.mul_comm]; rfl
  have o : ∀ a : Nat, a < 4611686018427387904 → (BitVec.ofInt 64 (a : Int)).toNat = a := fun a ha => by rw [BitVec.ofInt_natCast, BitVec.toNat_ofNat]; exact Nat.mod_eq_of_lt (by omega)
  rw [e]
  show IntKind.i64.wrap ((BitVec.ofInt 64 (x : Int) ||| BitVec.ofInt 64 ((2 ^ k * y : Nat) : Int)).toNat : Int) = _
  rw [BitVec.toNat_or, o x (by omega), o _ (by omega), Nat.or_comm, nat_join k (2 ^ k * y) x (by rw [Nat.mul_mod_right]) hx, IntKind.wrap_i64]
  omega
theorem u8_or_add (k x y : Nat) (hx : x < 2 ^ k) (h : x + 2 ^ k * y < 256) : bits .or .u8 (x : Int) ((y : Int) * 2 ^ k) = ((x + 2 ^ k * y : Nat) : Int) := by
  have e : (y : Int) * 2 ^ k = ((2 ^ k * y : Nat) : Int) := by rw [Int.natCast_mul, Int.natCast_pow, Int.mul_comm]; rfl
  rw [e, u8_or_nat _ _ (by omega) (by omega), Nat.or_comm, nat_join k (2 ^ k * y) x (by rw [Nat.mul_mod_right]) hx]
  congr 1
  omega
theorem u8_and1 (x r : Nat) (h : x < 256) : bits .and .u8 ((x : Int) / 2 ^ r) 1 = ((x / 2 ^ r % 2 : Nat) : Int) := by
  have e : (x : Int) / 2 ^ r = ((x / 2 ^ r : Nat) : Int) := by rw [Int.natCast_ediv, Int.natCast_pow]; rfl
  have hl : x / 2 ^ r < 256 := Nat.lt_of_le_of_lt (Nat.div_le_self _ _) h
  have h1 := u8_and_nat (x / 2 ^ r) 1 hl (by omega)
  rw [Nat.and_one_is_mod] at h1
  rw [e]
  exact h1

end Go.My

/- The contracts of the field's small pieces: reduced, plus, minus. -/
namespace Go.Proofs.YtfbcmckepdjdkaaDoor
open Go.RowKit Go.My Go.Lib
set_option linter.unusedVariables false

theorem size_u64 : (Tryd.prog.info? 95).map (·.size) = some 1 := by kernel_rfl
theorem size_f4 : (Tryd.prog.info? 97).map (·.size) = some 4 := by kernel_rfl
/-- The table of the prime's words. -/
def TabP (w : World) : Prop := 0 < w.heap.size ∧ ∀ i, i < 4 → w.cell? ⟨0, i, none⟩ = some (.int .u64 (lw P25n i : Int))
theorem TabP.below {w w' : World} {B : Nat} (h : TabP w) (hb : Below B w w') (hB : 0 < B) : TabP w' := ⟨Nat.lt_of_lt_of_le h.1 hb.size, fun i hi => by rw [hb.cell (p := ⟨0, i, none⟩) hB]; exact h.2 i hi⟩

theorem run_add (x y c : Nat) (hc : c ≤ 1) (w : World) :
    (callFunc 205 #[.int .u64 x, .int .u64 y, .int .u64 c]).run Tryd.prog w =
      .ok (.value (.tuple #[.int .u64 (((x + y + c) % 18446744073709551616 : Nat) : Int), .int .u64 (((x + y + c) / 18446744073709551616 : Nat) : Int)])) w := by
  rw [run_callFunc_extern Tryd.func205 (by kernel_rfl) (by kernel_rfl) (by kernel_rfl) (e := add64Entry) (by kernel_rfl), run_add64 x y c (by omega) (by omega) (by omega) (by omega)]
  simp only [Result.andThen]
  congr 5 <;> omega
def sub64E : Array Value → Sem Value := fun args => do
  let (x, y, b) ← Extern.MathBitsCarry.three "Sub64" args
  pure (Extern.MathBitsCarry.pair ((x + Extern.MathBitsCarry.m64 - y - b) % Extern.MathBitsCarry.m64) (if x < y + b then 1 else 0))
theorem run_subE (x y b : Nat) (hb : b ≤ 1) (w : World) :
    (sub64E #[.int .u64 x, .int .u64 y, .int .u64 b]).run Tryd.prog w =
      .ok (.tuple #[.int .u64 (((x + 18446744073709551616 - y - b) % 18446744073709551616 : Nat) : Int), .int .u64 ((if x < y + b then 1 else 0 : Nat) : Int)]) w := by
  have : b = 0 ∨ b = 1 := by omega
  rcases this with rfl | rfl <;> rfl
theorem run_sub (x y b : Nat) (hb : b ≤ 1) (w : World) :
    (callFunc 180 #[.int .u64 x, .int .u64 y, .int .u64 b]).run Tryd.prog w =
      .ok (.value (.tuple #[.int .u64 (((x + 18446744073709551616 - y - b) % 18446744073709551616 : Nat) : Int), .int .u64 ((if x < y + b then 1 else 0 : Nat) : Int)])) w := by
  rw [run_callFunc_extern Tryd.func180 (by kernel_rfl) (by kernel_rfl) (by kernel_rfl) (e := sub64E) (by kernel_rfl), run_subE x y b hb]
  rfl

abbrev Z4 : Array Value := #[Value.int .u64 0, Value.int .u64 0, Value.int .u64 0, Value.int .u64 0]
theorem Z4_eq : Z4 = rwA .u64 4 (fun _ => 0) := rfl
theorem al3_0 (w : World) (A B C : Obj) : (((w.alloc A).alloc B).alloc C).heap[w.heap.size]? = some A := by
  rw [Below.heap_alloc _ _ _ (by simp; omega), Below.heap_alloc _ _ _ (by simp)]; exact heap_alloc_new w A
theorem al3_1 (w : World) (A B C : Obj) : (((w.alloc A).alloc B).alloc C).heap[w.heap.size + 1]? = some B := by
  rw [Below.heap_alloc _ _ _ (by simp)]; exact heap_alloc2_new w A B
theorem al3_2 (w : World) (A B C : Obj) : (((w.alloc A).alloc B).alloc C).heap[w.heap.size + 1 + 1]? = some C := by
  have := heap_alloc_new ((w.alloc A).alloc B) C
  simpa using this
theorem fsz (f : Nat → Int) : (Tryd.prog.info? 97).map (·.size) = some (rwA .u64 4 f).size := by rw [rwA_size]; exact size_f4
theorem zsz (f : Nat → Int) : Z4.size = (rwA .u64 4 f).size := by rw [rwA_size]; rfl
theorem fszN (n : Nat) : (Tryd.prog.info? 97).map (·.size) = some (fldA n).size := fsz _
theorem zszN (n : Nat) : Z4.size = (fldA n).size := zsz _
theorem oneN (n : Nat) : (fldA n).all (·.oneCell') = true := rwA_one _ _ _
theorem fidx (f : Nat → Int) (i : Nat) (hi : i < 4) (w : World) : (Instr.index 97 (.agg (rwA .u64 4 f)) (.int .i64 (i : Int))).run Tryd.prog w = .ok (.int .u64 (f i)) w :=
  run_index_arr w 97 95 4 (rwA .u64 4 f) .i64 .u64 i _ Tryd.underlying97 Tryd.underlying95 size_u64 hi (rwA_get .u64 4 f i hi)

set_option maxHeartbeats 2000000 in
theorem reduced_any (n : Nat) (w : World) (hn : n < W256) (hp : TabP w) :
    Calls Tryd.prog 134 #[.agg (fldA n)] w fun e w' => e = .returned (.agg (fldA (redF n))) ∧ Below w.heap.size w w' := by
  have HN := Lib.hid (bSub_P n hn)
  have HRD : Hid (redF n = if n < P25n then n else n - P25n) := rfl
  have HF := Lib.hid (fun f => fsz f)
  have HX := Lib.hid (fun f i hi wx => fidx f i hi wx)
  clear hn
  unfold fldA
  go_enter Tryd.func134, Tryd.ntmps134
  go_wp2_with (first
    | with_reducible refine wpList_load_row (o := ⟨some 7, _, _, _, _, _⟩) rfl 97 _ rfl w.heap.size rfl 97 (rwA .u64 4 (fun q => (lw n q : Int))) (0, 0) (.array 4 95) (al3_0 w _ _ _) Tryd.underlying97 rfl (HF.out _) ?_)
  go_loopw [4, 8] (fun b i wr => ∃ j : Nat, j ≤ 4 ∧ i = .int .i64 j ∧ b = .int .u64 (bSub (lw n) (lw P25n) j : Int) ∧ wr.heap[w.heap.size + 1 + 1]? = some (.cells (rwA .u64 4 (upTo j (fun q => (dSub (lw n) (lw P25n) q : Int)) (fun _ => 0))) 97 (0, 0)) ∧ wr.heap[w.heap.size]? = some (.cells (rwA .u64 4 (fun q => (lw n q : Int))) 97 (0, 0)) ∧ wr.heap[w.heap.size + 1]? = some (.cells Z4 97 (0, 0)) ∧ Below w.heap.size w wr)
    (fun _ i _ => 4 - (intOf i).toNat)
  case atStart => exact ⟨0, by omega, rfl, rfl, by rw [upTo_zero]; exact al3_2 w _ _ _, al3_0 w _ _ _, al3_1 w _ _ _, (((Below.refl _ _).alloc (Nat.le_refl _) _).alloc (by simp) _).alloc (by simp; omega) _⟩
  case round =>
    obtain ⟨j, hj, rfl, rfl, hl, ha, hz, hb⟩ := hrel
    by_cases hlt : j < 4
    · have hidx := HX.out (fun q => (lw n q : Int)) j hlt
      have hkc : wr.cell? ⟨0, j, none⟩ = some (.int .u64 (lw P25n j : Int)) := (hp.below hb hp.1).2 j hlt
      have hsub := fun wx => run_sub (lw n j) (lw P25n j) (bSub (lw n) (lw P25n) j) (bSub_le _ _ _) wx
      have hcell := (cell_of_row wr (w.heap.size + 1 + 1) j _ _ _ hl).trans (rwA_get .u64 4 _ j hlt)
      rw [upTo_at] at hcell
      have hfz := frozen_of_row wr (w.heap.size + 1 + 1) j _ _ hl
      have hst := heap_setCell_same wr (w.heap.size + 1 + 1) j _ _ (.int .u64 (dSub (lw n) (lw P25n) j : Int)) hl
      rw [upTo_set .u64 4 j (fun q => (dSub (lw n) (lw P25n) q : Int)) (fun _ => 0) hlt] at hst
      have ha' : (wr.setCell ⟨w.heap.size + 1 + 1, j, none⟩ (.int .u64 (dSub (lw n) (lw P25n) j : Int))).heap[w.heap.size]? = _ := (heap_setCell_other wr _ _ _ (by simp; omega)).trans ha
      have hz' : (wr.setCell ⟨w.heap.size + 1 + 1, j, none⟩ (.int .u64 (dSub (lw n) (lw P25n) j : Int))).heap[w.heap.size + 1]? = _ := (heap_setCell_other wr _ _ _ (by simp)).trans hz
      have hb' := hb.setCell (p := ⟨w.heap.size + 1 + 1, j, none⟩) (by simp; omega) (.int .u64 (dSub (lw n) (lw P25n) j : Int))
      have hbe : bSub (lw n) (lw P25n) (j + 1) = if lw n j < lw P25n j + bSub (lw n) (lw P25n) j then 1 else 0 := rfl
      have hde : (lw n j + 18446744073709551616 - lw P25n j - bSub (lw n) (lw P25n) j) % 18446744073709551616 = dSub (lw n) (lw P25n) j := rfl
      rw [hde] at hsub
      rw [← hbe] at hsub
      have HR := Lib.hid (And.intro hst (And.intro ha' (And.intro hz' hb')))
      have j0 : (0 : Int) ≤ (j : Int) := by omega
      have j1 : (j : Int) < 4 := by omega
      clear hst ha' hz' hb' hl ha hz hb hbe hde
      generalize hD : dSub (lw n) (lw P25n) j = D at *
      generalize hB1 : bSub (lw n) (lw P25n) (j + 1) = B1 at *
      generalize bSub (lw n) (lw P25n) j = B0 at *
      have HB1 := Lib.hid hB1
      clear hD hB1
      go_wp2
      go_roundw
      case rel => exact ⟨j + 1, by omega, by go_num, by rw [HB1.out], HR.out.1, HR.out.2.1, HR.out.2.2.1, HR.out.2.2.2⟩
      case measure => simp [intOf]; omega
    · have hje : j = 4 := by omega
      have hpj : (4 : Int) ≤ (j : Int) := by omega
      rw [hje, upTo_all] at hl
      have HJ := Lib.hid hje
      have H1 := Lib.hid (fun f => rwA_one .u64 4 f)
      have HZ := Lib.hid (fun f => zsz f)
      clear hlt hj hje
      rcases HN.out with ⟨h0, h1, h2⟩ | ⟨h0, h1⟩
      · have hb0 : bSub (lw n) (lw P25n) j = 0 := by rw [HJ.out]; exact h0
        have HE := Lib.hid (fld_of (fun q _ => dSub_lt (lw n) (lw P25n) q) h2)
        have HRR : Hid (redF n = n - P25n) := if_neg (by omega)
        clear h0 h1 h2 HN
        generalize (fun q => (dSub (lw n) (lw P25n) q : Int)) = DD at *
        rw [hb0]
        go_wp2_with (first
          | with_reducible refine wpList_load_row (o := ⟨some 27, _, _, _, _, _⟩) rfl 97 _ rfl (w.heap.size + 1 + 1) rfl 97 (rwA .u64 4 DD) (0, 0) (.array 4 95) hl Tryd.underlying97 rfl (HF.out _) ?_
          | with_reducible (refine wpList_store_row (o := ⟨none, .store 97 _ _, _, _, _, _⟩) rfl 97 _ _ rfl (w.heap.size + 1) (rwA .u64 4 DD) rfl rfl 97 Z4 hz (HF.out _) (HZ.out _) (H1.out _) ?_))
        have hrow := setRow_heap wr (w.heap.size + 1) Z4 (rwA .u64 4 DD) 97 (0, 0) hz
        refine bodyPost_ret (v := .agg (rwA .u64 4 DD)) ?_ rfl ⟨by rw [HE.out, HRR.out]; rfl, ?_⟩
        · exact results_cell_row Tryd.results134 _ _ (w.heap.size + 1) 97 _ (0, 0) _ rfl hrow Tryd.underlying97 rfl (HF.out _)
        · exact hb.trans ⟨rfl, rfl, rfl, by simp, fun k hk => setRow_other wr (w.heap.size + 1) k _ (by omega)⟩
      · have hb0 : bSub (lw n) (lw P25n) j = 1 := by rw [HJ.out]; exact h0
        have HRR : Hid (redF n = n) := if_pos h1
        clear h0 h1 HN
        rw [hb0]
        go_wp2_with (first
          | with_reducible refine wpList_load_row (o := ⟨some 26, _, _, _, _, _⟩) rfl 97 _ rfl w.heap.size rfl 97 (rwA .u64 4 (fun q => (lw n q : Int))) (0, 0) (.array 4 95) ha Tryd.underlying97 rfl (HF.out _) ?_
          | with_reducible (refine wpList_store_row (o := ⟨none, .store 97 _ _, _, _, _, _⟩) rfl 97 _ _ rfl (w.heap.size + 1) (rwA .u64 4 (fun q => (lw n q : Int))) rfl rfl 97 Z4 hz (HF.out _) (HZ.out _) (H1.out _) ?_))
        have hrow := setRow_heap wr (w.heap.size + 1) Z4 (rwA .u64 4 (fun q => (lw n q : Int))) 97 (0, 0) hz
        refine bodyPost_ret (v := .agg (rwA .u64 4 (fun q => (lw n q : Int)))) ?_ rfl ⟨by rw [HRR.out], ?_⟩
        · exact results_cell_row Tryd.results134 _ _ (w.heap.size + 1) 97 _ (0, 0) _ rfl hrow Tryd.underlying97 rfl (HF.out _)
        · exact hb.trans ⟨rfl, rfl, rfl, by simp, fun k hk => setRow_other wr (w.heap.size + 1) k _ (by omega)⟩

set_option maxHeartbeats 2000000 in
theorem plus_any (a b : Nat) (w : World) (hn : a + b < W256) (hp : TabP w) :
    Calls Tryd.prog 192 #[.agg (fldA a), .agg (fldA b)] w fun e w' => e = .returned (.agg (fldA (redF (a + b)))) ∧ Below w.heap.size w w' := by
  have HE := Lib.hid (fld_of (fun q _ => sAdd_lt (lw a) (lw b) q) (cAdd_plus a b hn))
  have HF := Lib.hid (fun f => fsz f)
  have HFN := Lib.hid (fun m => fszN m)
  have HX := Lib.hid (fun f i hi wx => fidx f i hi wx)
  have HN := Lib.hid hn
  have HGA : Hid (fldA a = rwA .u64 4 (fun q => (lw a q : Int))) := rfl
  have HGB : Hid (fldA b = rwA .u64 4 (fun q => (lw b q : Int))) := rfl
  clear hn
  rw [HGA.out, HGB.out]
  go_enter Tryd.func192, Tryd.ntmps192
  go_wp2_with (first
    | with_reducible refine wpList_load_row (o := ⟨some 8, _, _, _, _, _⟩) rfl 97 _ rfl (w.heap.size + 1) rfl 97 (rwA .u64 4 (fun q => (lw b q : Int))) (0, 0) (.array 4 95) (al3_1 w _ _ _) Tryd.underlying97 rfl (HF.out _) ?_)
  go_loopw [5, 9] (fun c i wr => ∃ j : Nat, j ≤ 4 ∧ i = .int .i64 j ∧ c = .int .u64 (cAdd (lw a) (lw b) j : Int) ∧ wr.heap[w.heap.size]? = some (.cells (rwA .u64 4 (upTo j (fun q => (sAdd (lw a) (lw b) q : Int)) (fun q => (lw a q : Int)))) 97 (0, 0)) ∧ wr.heap[w.heap.size + 1 + 1]? = some (.cells Z4 97 (0, 0)) ∧ Below w.heap.size w wr)
    (fun _ i _ => 4 - (intOf i).toNat)
  case atStart => exact ⟨0, by omega, rfl, rfl, by rw [upTo_zero]; exact al3_0 w _ _ _, al3_2 w _ _ _, (((Below.refl _ _).alloc (Nat.le_refl _) _).alloc (by simp) _).alloc (by simp; omega) _⟩
  case round =>
    obtain ⟨j, hj, rfl, rfl, hl, hz, hb⟩ := hrel
    by_cases hlt : j < 4
    · have hidx := HX.out (fun q => (lw b q : Int)) j hlt
      have hadd := fun wx => run_add (lw a j) (lw b j) (cAdd (lw a) (lw b) j) (cAdd_le _ _ (lw_lt a) (lw_lt b) _) wx
      have hcell := (cell_of_row wr w.heap.size j _ _ _ hl).trans (rwA_get .u64 4 _ j hlt)
      rw [upTo_at] at hcell
      have hfz := frozen_of_row wr w.heap.size j _ _ hl
      have hst := heap_setCell_same wr w.heap.size j _ _ (.int .u64 (sAdd (lw a) (lw b) j : Int)) hl
      rw [upTo_set .u64 4 j (fun q => (sAdd (lw a) (lw b) q : Int)) (fun q => (lw a q : Int)) hlt] at hst
      have hz' : (wr.setCell ⟨w.heap.size, j, none⟩ (.int .u64 (sAdd (lw a) (lw b) j : Int))).heap[w.heap.size + 1 + 1]? = _ := (heap_setCell_other wr _ _ _ (by simp; omega)).trans hz
      have hb' := hb.setCell (p := ⟨w.heap.size, j, none⟩) (Nat.le_refl _) (.int .u64 (sAdd (lw a) (lw b) j : Int))
      have hce : (lw a j + lw b j + cAdd (lw a) (lw b) j) / 18446744073709551616 = cAdd (lw a) (lw b) (j + 1) := rfl
      have hse : (lw a j + lw b j + cAdd (lw a) (lw b) j) % 18446744073709551616 = sAdd (lw a) (lw b) j := rfl
      rw [hce, hse] at hadd
      have HR := Lib.hid (And.intro hst (And.intro hz' hb'))
      have j0 : (0 : Int) ≤ (j : Int) := by omega
      have j1 : (j : Int) < 4 := by omega
      clear hst hz' hb' hl hz hb hce hse
      generalize sAdd (lw a) (lw b) j = D at *
      generalize hB1 : cAdd (lw a) (lw b) (j + 1) = B1 at *
      generalize cAdd (lw a) (lw b) j = B0 at *
      have HB1 := Lib.hid hB1
      clear hB1
      go_wp2
      go_roundw
      case rel => exact ⟨j + 1, by omega, by go_num, by rw [HB1.out], HR.out.1, HR.out.2.1, HR.out.2.2⟩
      case measure => simp [intOf]; omega
    · have hje : j = 4 := by omega
      have hpj : (4 : Int) ≤ (j : Int) := by omega
      rw [hje, upTo_all, HE.out] at hl
      have H1N := Lib.hid (fun m => oneN m)
      have HZN := Lib.hid (fun m => zszN m)
      have HRED := Lib.hid (fun wx hx => reduced_any (a + b) wx HN.out (hp.below hx hp.1))
      clear hlt hj hje
      go_wp2_with (first
        | with_reducible refine wpList_load_row (o := ⟨some 25, _, _, _, _, _⟩) rfl 97 _ rfl w.heap.size rfl 97 (fldA (a + b)) (0, 0) (.array 4 95) hl Tryd.underlying97 rfl (HFN.out _) ?_
        | fail)
      refine (HRED.out _ hb).mono ?_
      rintro e w2 ⟨rfl, hb2⟩
      have hz2 : w2.heap[w.heap.size + 1 + 1]? = some (.cells Z4 97 (0, 0)) := by rw [hb2.block _ (Array.getElem?_eq_some_iff.1 hz).1]; exact hz
      have hbq := hb.trans (hb2.mono hb.size)
      clear hl hz hb hb2
      go_wp2_with (first
        | with_reducible (refine wpList_store_row (o := ⟨none, .store 97 _ _, _, _, _, _⟩) rfl 97 _ _ rfl (w.heap.size + 1 + 1) (fldA (redF (a + b))) rfl rfl 97 Z4 hz2 (HFN.out _) (HZN.out _) (H1N.out _) ?_))
      have hrow := setRow_heap w2 (w.heap.size + 1 + 1) Z4 (fldA (redF (a + b))) 97 (0, 0) hz2
      refine bodyPost_ret (v := .agg (fldA (redF (a + b)))) ?_ rfl ⟨rfl, ?_⟩
      · exact results_cell_row Tryd.results192 _ _ (w.heap.size + 1 + 1) 97 _ (0, 0) _ rfl hrow Tryd.underlying97 rfl (HFN.out _)
      · exact hbq.trans ⟨rfl, rfl, rfl, by simp, fun k hk => setRow_other w2 (w.heap.size + 1 + 1) k _ (by omega)⟩

set_option maxHeartbeats 2000000 in
theorem minus_any (a b : Nat) (w : World) (ha : a < P25n) (hbp : b ≤ P25n) (hp : TabP w) :
    Calls Tryd.prog 193 #[.agg (fldA a), .agg (fldA b)] w fun e w' => e = .returned (.agg (fldA (redF (a + (P25n - b))))) ∧ Below w.heap.size w w' := by
  have HE := Lib.hid (fld_of (fun q _ => dSub_lt (lw P25n) (lw b) q) (bSub_minus b hbp))
  have HF := Lib.hid (fun f => fsz f)
  have HFN := Lib.hid (fun m => fszN m)
  have HX := Lib.hid (fun f i hi wx => fidx f i hi wx)
  have HN : Hid (a + (P25n - b) < W256) := by show _ < _; unfold W256; unfold P25n at *; omega
  have HGA : Hid (fldA a = rwA .u64 4 (fun q => (lw a q : Int))) := rfl
  have HGB : Hid (fldA b = rwA .u64 4 (fun q => (lw b q : Int))) := rfl
  clear ha hbp
  rw [HGB.out]
  go_enter Tryd.func193, Tryd.ntmps193
  go_wp2_with (first
    | with_reducible refine wpList_load_row (o := ⟨some 8, _, _, _, _, _⟩) rfl 97 _ rfl (w.heap.size + 1) rfl 97 (rwA .u64 4 (fun q => (lw b q : Int))) (0, 0) (.array 4 95) (al3_1 w _ _ _) Tryd.underlying97 rfl (HF.out _) ?_)
  go_loopw [5, 9] (fun c i wr => ∃ j : Nat, j ≤ 4 ∧ i = .int .i64 j ∧ c = .int .u64 (bSub (lw P25n) (lw b) j : Int) ∧ wr.heap[w.heap.size + 1]? = some (.cells (rwA .u64 4 (upTo j (fun q => (dSub (lw P25n) (lw b) q : Int)) (fun q => (lw b q : Int)))) 97 (0, 0)) ∧ wr.heap[w.heap.size]? = some (.cells (fldA a) 97 (0, 0)) ∧ wr.heap[w.heap.size + 1 + 1]? = some (.cells Z4 97 (0, 0)) ∧ Below w.heap.size w wr)
    (fun _ i _ => 4 - (intOf i).toNat)
  case atStart => exact ⟨0, by omega, rfl, rfl, by rw [upTo_zero]; exact al3_1 w _ _ _, al3_0 w _ _ _, al3_2 w _ _ _, (((Below.refl _ _).alloc (Nat.le_refl _) _).alloc (by simp) _).alloc (by simp; omega) _⟩
  case round =>
    obtain ⟨j, hj, rfl, rfl, hl, ha, hz, hb⟩ := hrel
    by_cases hlt : j < 4
    · have hidx := HX.out (fun q => (lw b q : Int)) j hlt
      have hkc : wr.cell? ⟨0, j, none⟩ = some (.int .u64 (lw P25n j : Int)) := (hp.below hb hp.1).2 j hlt
      have hsub := fun wx => run_sub (lw P25n j) (lw b j) (bSub (lw P25n) (lw b) j) (bSub_le _ _ _) wx
      have hcell := (cell_of_row wr (w.heap.size + 1) j _ _ _ hl).trans (rwA_get .u64 4 _ j hlt)
      have hfz := frozen_of_row wr (w.heap.size + 1) j _ _ hl
      have hst := heap_setCell_same wr (w.heap.size + 1) j _ _ (.int .u64 (dSub (lw P25n) (lw b) j : Int)) hl
      rw [upTo_set .u64 4 j (fun q => (dSub (lw P25n) (lw b) q : Int)) (fun q => (lw b q : Int)) hlt] at hst
      have ha' : (wr.setCell ⟨w.heap.size + 1, j, none⟩ (.int .u64 (dSub (lw P25n) (lw b) j : Int))).heap[w.heap.size]? = _ := (heap_setCell_other wr _ _ _ (by simp)).trans ha
      have hz' : (wr.setCell ⟨w.heap.size + 1, j, none⟩ (.int .u64 (dSub (lw P25n) (lw b) j : Int))).heap[w.heap.size + 1 + 1]? = _ := (heap_setCell_other wr _ _ _ (by simp)).trans hz
      have hb' := hb.setCell (p := ⟨w.heap.size + 1, j, none⟩) (by simp) (.int .u64 (dSub (lw P25n) (lw b) j : Int))
      have hbe : bSub (lw P25n) (lw b) (j + 1) = if lw P25n j < lw b j + bSub (lw P25n) (lw b) j then 1 else 0 := rfl
      have hde : (lw P25n j + 18446744073709551616 - lw b j - bSub (lw P25n) (lw b) j) % 18446744073709551616 = dSub (lw P25n) (lw b) j := rfl
      rw [hde] at hsub
      rw [← hbe] at hsub
      have HR := Lib.hid (And.intro hst (And.intro ha' (And.intro hz' hb')))
      have j0 : (0 : Int) ≤ (j : Int) := by omega
      have j1 : (j : Int) < 4 := by omega
      clear hst ha' hz' hb' hl ha hz hb hbe hde
      generalize dSub (lw P25n) (lw b) j = D at *
      generalize hB1 : bSub (lw P25n) (lw b) (j + 1) = B1 at *
      generalize bSub (lw P25n) (lw b) j = B0 at *
      have HB1 := Lib.hid hB1
      clear hB1
      go_wp2
      go_roundw
      case rel => exact ⟨j + 1, by omega, by go_num, by rw [HB1.out], HR.out.1, HR.out.2.1, HR.out.2.2.1, HR.out.2.2.2⟩
      case measure => simp [intOf]; omega
    · have hje : j = 4 := by omega
      have hpj : (4 : Int) ≤ (j : Int) := by omega
      rw [hje, upTo_all, HE.out] at hl
      have H1N := Lib.hid (fun m => oneN m)
      have HZN := Lib.hid (fun m => zszN m)
      have HPL := Lib.hid (fun wx hx => plus_any a (P25n - b) wx HN.out (hp.below hx hp.1))
      clear hlt hj hje
      go_wp2_with (first
        | with_reducible refine wpList_load_row (o := ⟨some 25, _, _, _, _, _⟩) rfl 97 _ rfl w.heap.size rfl 97 (fldA a) (0, 0) (.array 4 95) ha Tryd.underlying97 rfl (HFN.out _) ?_
        | with_reducible refine wpList_load_row (o := ⟨some 26, _, _, _, _, _⟩) rfl 97 _ rfl (w.heap.size + 1) rfl 97 (fldA (P25n - b)) (0, 0) (.array 4 95) hl Tryd.underlying97 rfl (HFN.out _) ?_
        | fail)
      refine (HPL.out _ hb).mono ?_
      rintro e w2 ⟨rfl, hb2⟩
      have hz2 : w2.heap[w.heap.size + 1 + 1]? = some (.cells Z4 97 (0, 0)) := by rw [hb2.block _ (Array.getElem?_eq_some_iff.1 hz).1]; exact hz
      have hbq := hb.trans (hb2.mono hb.size)
      clear hl hz hb hb2
      go_wp2_with (first
        | with_reducible (refine wpList_store_row (o := ⟨none, .store 97 _ _, _, _, _, _⟩) rfl 97 _ _ rfl (w.heap.size + 1 + 1) (fldA (redF (a + (P25n - b)))) rfl rfl 97 Z4 hz2 (HFN.out _) (HZN.out _) (H1N.out _) ?_))
      have hrow := setRow_heap w2 (w.heap.size + 1 + 1) Z4 (fldA (redF (a + (P25n - b)))) 97 (0, 0) hz2
      refine bodyPost_ret (v := .agg (fldA (redF (a + (P25n - b))))) ?_ rfl ⟨rfl, ?_⟩
      · exact results_cell_row Tryd.results193 _ _ (w.heap.size + 1 + 1) 97 _ (0, 0) _ rfl hrow Tryd.underlying97 rfl (HFN.out _)
      · exact hbq.trans ⟨rfl, rfl, rfl, by simp, fun k hk => setRow_other w2 (w.heap.size + 1 + 1) k _ (by omega)⟩

end Go.Proofs.YtfbcmckepdjdkaaDoor

/- The contracts of Mul64 and productPlus. -/
namespace Go.Proofs.YtfbcmckepdjdkaaDoor
open Go.RowKit Go.My Go.Lib
set_option linter.unusedVariables false

theorem w64n (n : Nat) (h : n < 18446744073709551616) : IntKind.u64.wrap (n : Int) = (n : Int) := by rw [IntKind.wrap_u64]; omega
theorem and32m (n : Nat) (h : n < 18446744073709551616) : bits .and .u64 (n : Int) 4294967295 = ((n % 4294967296 : Nat) : Int) := by
  have := u64_and_nat n 4294967295 h (by omega)
  rw [show (4294967295 : Nat) = 2 ^ 32 - 1 from rfl, Nat.and_two_pow_sub_one_eq_mod] at this
  exact this
theorem d32 (n : Nat) : (n : Int) / 4294967296 = ((n / 4294967296 : Nat) : Int) := by omega
theorem mulP (a b : Nat) (ha : a < 4294967296) (hb : b < 4294967296) : a * b ≤ 18446744065119617025 := Nat.mul_le_mul (by omega : a ≤ 4294967295) (by omega : b ≤ 4294967295)
theorem mulHi (x y : Nat) (hx : x < 18446744073709551616) (hy : y < 18446744073709551616) :
    IntKind.u64.wrap (IntKind.u64.wrap (IntKind.u64.wrap ((x : Int) / 4294967296 * ((y : Int) / 4294967296)) + IntKind.u64.wrap (IntKind.u64.wrap ((x : Int) / 4294967296 * bits .and .u64 (y : Int) 4294967295) + IntKind.u64.wrap (bits .and .u64 (x : Int) 4294967295 * bits .and .u64 (y : Int) 4294967295) / 4294967296) / 4294967296) +
      IntKind.u64.wrap (bits .and .u64 (IntKind.u64.wrap (IntKind.u64.wrap ((x : Int) / 4294967296 * bits .and .u64 (y : Int) 4294967295) + IntKind.u64.wrap (bits .and .u64 (x : Int) 4294967295 * bits .and .u64 (y : Int) 4294967295) / 4294967296)) 4294967295 + IntKind.u64.wrap (bits .and .u64 (x : Int) 4294967295 * ((y : Int) / 4294967296))) / 4294967296) = ((x * y / 18446744073709551616 : Nat) : Int) := by
  rw [and32m x hx, and32m y hy, d32 x, d32 y]
  have ex : x = x % 4294967296 + 4294967296 * (x / 4294967296) := by omega
  have ey : y = y % 4294967296 + 4294967296 * (y / 4294967296) := by omega
  have ep : x * y = (x % 4294967296 * (y % 4294967296)) + 4294967296 * (x / 4294967296 * (y % 4294967296)) + 4294967296 * (x % 4294967296 * (y / 4294967296)) + 18446744073709551616 * (x / 4294967296 * (y / 4294967296)) := by
    conv => lhs; rw [ex, ey]
    generalize x % 4294967296 = a
    generalize x / 4294967296 = b
    generalize y % 4294967296 = c
    generalize y / 4294967296 = d
    have e1 : (a + 4294967296 * b) * (c + 4294967296 * d) = a * c + a * (4294967296 * d) + (4294967296 * b * c + 4294967296 * b * (4294967296 * d)) := by rw [Nat.add_mul, Nat.mul_add, Nat.mul_add]
    have e2 : a * (4294967296 * d) = 4294967296 * (a * d) := by rw [← Nat.mul_assoc, Nat.mul_comm a, Nat.mul_assoc]
    have e3 : 4294967296 * b * c = 4294967296 * (b * c) := by rw [Nat.mul_assoc]
    have e4 : 4294967296 * b * (4294967296 * d) = 18446744073709551616 * (b * d) := by
      rw [Nat.mul_assoc, ← Nat.mul_assoc b, Nat.mul_comm b, Nat.mul_assoc, ← Nat.mul_assoc]
    rw [e1, e2, e3, e4]
    omega
  rw [ep]
  have hA := mulP (x % 4294967296) (y % 4294967296) (by omega) (by omega)
  have hB := mulP (x / 4294967296) (y % 4294967296) (by omega) (by omega)
  have hC := mulP (x % 4294967296) (y / 4294967296) (by omega) (by omega)
  have hD := mulP (x / 4294967296) (y / 4294967296) (by omega) (by omega)
  rw [← Int.natCast_mul, ← Int.natCast_mul, ← Int.natCast_mul, ← Int.natCast_mul]
  generalize x % 4294967296 * (y % 4294967296) = A at *
  generalize x / 4294967296 * (y % 4294967296) = B at *
  generalize x % 4294967296 * (y / 4294967296) = C at *
  generalize x / 4294967296 * (y / 4294967296) = D at *
  clear ex ey ep hx hy
  rw [w64n A (by omega), w64n B (by omega), w64n C (by omega), w64n D (by omega), d32 A, ← Int.natCast_add, w64n (B + A / 4294967296) (by omega), and32m _ (by omega), d32, ← Int.natCast_add, ← Int.natCast_add, w64n ((B + A / 4294967296) % 4294967296 + C) (by omega), d32]
  by_cases hbig : D + (B + A / 4294967296) / 4294967296 < 18446744073709551616
  · rw [w64n _ hbig, ← Int.natCast_add, IntKind.wrap_u64]
    omega
  · omega

set_option maxHeartbeats 2000000 in
theorem mul64_any (x y : Nat) (w : World) (hx : x < U64) (hy : y < U64) :
    Calls Tryd.prog 206 #[.int .u64 x, .int .u64 y] w fun e w' => e = .returned (.tuple #[.int .u64 ((x * y / 18446744073709551616 : Nat) : Int), .int .u64 ((x * y % 18446744073709551616 : Nat) : Int)]) ∧ w = w' := by
  have HX := Lib.hid (And.intro hx hy)
  clear hx hy
  have x0 : (0 : Int) ≤ (x : Int) := by omega
  have y0 : (0 : Int) ≤ (y : Int) := by omega
  go_enter Tryd.func206, Tryd.ntmps206
  go_wp2
  rw [mulHi x y HX.out.1 HX.out.2, show IntKind.u64.wrap ((x : Int) * (y : Int)) = ((x * y % 18446744073709551616 : Nat) : Int) by rw [IntKind.wrap_u64, ← Int.natCast_mul]; omega]
  go_ret2
  exact ⟨rfl, rfl⟩

theorem ppHi (P a b : Nat) (hP : P ≤ 340282366920938463426481119284349108225) (ha : a < 18446744073709551616) (hb : b < 18446744073709551616) :
    IntKind.u64.wrap (IntKind.u64.wrap (((P / 18446744073709551616 : Nat) : Int) + (((P % 18446744073709551616 + a + 0) / 18446744073709551616 : Nat) : Int)) + ((((P % 18446744073709551616 + a + 0) % 18446744073709551616 + b + 0) / 18446744073709551616 : Nat) : Int)) = (((P + a + b) / 18446744073709551616 : Nat) : Int) := by
  rw [IntKind.wrap_u64, IntKind.wrap_u64]
  omega
theorem ppLo (P a b : Nat) : ((P % 18446744073709551616 + a + 0) % 18446744073709551616 + b + 0) % 18446744073709551616 = (P + a + b) % 18446744073709551616 := by omega

set_option maxHeartbeats 2000000 in
theorem pp_any (x y a b : Nat) (w : World) (hx : x < U64) (hy : y < U64) (ha : a < U64) (hb : b < U64) :
    Calls Tryd.prog 194 #[.int .u64 x, .int .u64 y, .int .u64 a, .int .u64 b] w fun e w' => e = .returned (.tuple #[.int .u64 (((x * y + a + b) / 18446744073709551616 : Nat) : Int), .int .u64 (((x * y + a + b) % 18446744073709551616 : Nat) : Int)]) ∧ w = w' := by
  have HP : Hid (x * y ≤ 340282366920938463426481119284349108225) := Nat.mul_le_mul (by unfold U64 at hx; omega : x ≤ 18446744073709551615) (by unfold U64 at hy; omega : y ≤ 18446744073709551615)
  have HX := Lib.hid (And.intro hx (And.intro hy (And.intro ha hb)))
  have h1 := fun wx => run_add (x * y % 18446744073709551616) a 0 (by omega) wx
  have h2 := fun wx => run_add ((x * y % 18446744073709551616 + a + 0) % 18446744073709551616) b 0 (by omega) wx
  have hc0 : (((0 : Nat) : Int)) = 0 := rfl
  rw [hc0] at h1 h2
  have HM := Lib.hid (mul64_any x y w hx hy)
  clear hx hy ha hb hc0
  rw [← ppHi (x * y) a b HP.out HX.out.2.2.1 HX.out.2.2.2, ← ppLo (x * y) a b]
  generalize x * y % 18446744073709551616 = L at *
  generalize x * y / 18446744073709551616 = H at *
  generalize (L + a + 0) % 18446744073709551616 = L2 at *
  generalize (L + a + 0) / 18446744073709551616 = C1 at *
  generalize (L2 + b + 0) % 18446744073709551616 = L3 at *
  generalize (L2 + b + 0) / 18446744073709551616 = C2 at *
  go_enter Tryd.func194, Tryd.ntmps194
  go_wp2_with fail
  refine HM.out.mono ?_
  rintro e w' ⟨rfl, rfl⟩
  go_wp2
  go_ret2
  exact ⟨rfl, rfl⟩

end Go.Proofs.YtfbcmckepdjdkaaDoor

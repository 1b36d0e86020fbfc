/- Plain facts on lists of bytes: hexadecimal digits. Nothing of the program is named. -/
import Derived.WalkKit
import Derived.Lib.Hide
namespace Go.My
open Go.RowKit
set_option linter.unusedVariables false

/-- The cells of a row of bytes. -/
def cellsOf (l : List UInt8) : List Value := l.map (fun b => Value.int .u8 (b.toNat : Int))
/-- A list of bytes as a string. -/
def str (l : List UInt8) : ByteArray := ⟨l.toArray⟩

theorem cellsOf_append (a b : List UInt8) : cellsOf (a ++ b) = cellsOf a ++ cellsOf b := by simp [cellsOf]
theorem cellsOf_length (a : List UInt8) : (cellsOf a).length = a.length := by simp [cellsOf]
theorem str_size (a : List UInt8) : (str a).size = a.length := by simp [str, ByteArray.size]
theorem str_list (a : List UInt8) : (str a).data.toList = a := by simp [str]
theorem str_of (s : ByteArray) : str s.data.toList = s := by cases s; simp [str]
theorem str_app (a b : List UInt8) : str a ++ str b = str (a ++ b) := by
  apply ByteArray.ext
  rw [ByteArray.data_append]
  simp [str]
theorem str_inj {a b : List UInt8} (h : str a = str b) : a = b := by
  have := congrArg (fun s : ByteArray => s.data.toList) h
  simpa [str] using this

theorem take_snoc (s : ByteArray) (k : Nat) (h : k < s.size) : s.data.toList.take (k + 1) = s.data.toList.take k ++ [s[k]] := by
  rw [List.take_succ_eq_append_getElem (by simpa using h)]; rfl

theorem len_data (s : ByteArray) : s.data.toList.length = s.size := by rw [Array.length_toList]; rfl
theorem take_all (s : ByteArray) : s.data.toList.take s.size = s.data.toList := List.take_of_length_le (by rw [Array.length_toList]; exact Nat.le_refl _)

def hexTab : List UInt8 := [48, 49, 50, 51, 52, 53, 54, 55, 56, 57, 97, 98, 99, 100, 101, 102]
def hexD (n : Nat) : UInt8 := hexTab.getD n 0
def hexL (l : List UInt8) : List UInt8 := l.flatMap fun b => [hexD (b.toNat / 16), hexD (b.toNat % 16)]
theorem hexL_snoc (l : List UInt8) (b : UInt8) : hexL (l ++ [b]) = hexL l ++ [hexD (b.toNat / 16), hexD (b.toNat % 16)] := by simp [hexL]
theorem hexL_length (l : List UInt8) : (hexL l).length = 2 * l.length := by
  induction l with
  | nil => rfl
  | cons a l ih => simp [hexL] at *; omega

theorem and15 (b : UInt8) : bits .and .u8 (b.toNat : Int) 15 = (b.toNat : Int) % 16 := by
  have h := u8_and_nat b.toNat 15 b.toNat_lt (by omega)
  rw [nat_mask4] at h
  simpa using h
theorem hexTab_get (n : Nat) (h : n < 16) (h' : n < (⟨#[48, 49, 50, 51, 52, 53, 54, 55, 56, 57, 97, 98, 99, 100, 101, 102]⟩ : ByteArray).size) : (⟨#[48, 49, 50, 51, 52, 53, 54, 55, 56, 57, 97, 98, 99, 100, 101, 102]⟩ : ByteArray)[n] = hexD n := by
  rcases n with _ | _ | _ | _ | _ | _ | _ | _ | _ | _ | _ | _ | _ | _ | _ | _ | n <;> first | rfl | omega
theorem toNat_div16 (b : UInt8) : ((b.toNat : Int) / 16).toNat = b.toNat / 16 := by omega
theorem toNat_mod16 (b : UInt8) : ((b.toNat : Int) % 16).toNat = b.toNat % 16 := by omega

/-- The exclusive or, byte by byte; nothing for lists of different lengths. -/
def xorL (a b : List UInt8) : List UInt8 := if a.length = b.length then List.zipWith (· ^^^ ·) a b else []
theorem xorL_ne {a b : List UInt8} (h : ¬ a.length = b.length) : xorL a b = [] := if_neg h
theorem xorL_eq {a b : List UInt8} (h : a.length = b.length) : xorL a b = List.zipWith (· ^^^ ·) a b := if_pos h
theorem zip_snoc (a b : ByteArray) (k : Nat) (ha : k < a.size) (hb : k < b.size) :
    List.zipWith (· ^^^ ·) (a.data.toList.take (k + 1)) (b.data.toList.take (k + 1)) = List.zipWith (· ^^^ ·) (a.data.toList.take k) (b.data.toList.take k) ++ [a[k] ^^^ b[k]] := by
  rw [take_snoc a k ha, take_snoc b k hb, List.zipWith_append (by rw [List.length_take, List.length_take, len_data, len_data]; omega)]
  rfl
theorem xor_u8 (a b : UInt8) : bits .xor .u8 (a.toNat : Int) (b.toNat : Int) = ((a ^^^ b).toNat : Int) := by
  rw [u8_xor_nat _ _ a.toNat_lt b.toNat_lt, UInt8.toNat_xor]

/-- What a filled row holds when its first bytes are set: the bytes, then noughts. -/
theorem fill_set (l : List UInt8) (b : UInt8) (n : Nat) (h : l.length < n) : (cellsOf (l ++ List.replicate (n - l.length) 0)).set l.length (.int .u8 (b.toNat : Int)) = cellsOf ((l ++ [b]) ++ List.replicate (n - (l ++ [b]).length) 0) := by
  obtain ⟨m, hm⟩ : ∃ m, n - l.length = m + 1 := ⟨n - l.length - 1, by omega⟩
  have h2 : n - (l ++ [b]).length = m := by simp; omega
  rw [hm, h2]
  simp [cellsOf, List.replicate_succ]
theorem fill_start (n : Nat) : List.replicate n (Value.int .u8 0) = cellsOf (List.replicate n 0) := by simp [cellsOf]

/-- 2^64, behind a name. -/
def U64 : Nat := 18446744073709551616
/-- Byte j of the big-endian encoding of n in k bytes. -/
def beAt (n k j : Nat) : UInt8 := UInt8.ofNat (n / 256 ^ (k - 1 - j))
def beT (n k j : Nat) : List UInt8 := (List.range j).map (beAt n k)
def beL (n k : Nat) : List UInt8 := beT n k k
theorem beT_len (n k j : Nat) : (beT n k j).length = j := by simp [beT]
theorem beT_snoc (n k j : Nat) : beT n k (j + 1) = beT n k j ++ [beAt n k j] := by simp [beT, List.range_succ]

theorem beAt_val (n k j : Nat) : ((beAt n k j).toNat : Int) = (n : Int) / 2 ^ (8 * (k - 1 - j)) % 256 := by
  have e : (256 : Nat) ^ (k - 1 - j) = 2 ^ (8 * (k - 1 - j)) := by rw [show (256 : Nat) = 2 ^ 8 from rfl, ← Nat.pow_mul]
  unfold beAt
  rw [e, UInt8.toNat_ofNat', Int.natCast_emod, Int.natCast_ediv, Int.natCast_pow]
  rfl

/-- A store into a row of the call's own that is filled from the left: noughts behind. -/
theorem store_step {w wr : World} {e g n j : Nat} {l : List UInt8} {b : UInt8} (hl : l.length = j) (hj : j < n) (hg : w.heap.size ≤ g)
    (hown : wr.ownsRow w.heap.size e 1 (.slice (some ⟨g, 0, none⟩) n n) n (cellsOf (l ++ List.replicate (n - l.length) 0))) (hb : Below w.heap.size w wr) :
    (wr.setCell ⟨g, j, none⟩ (.int .u8 (b.toNat : Int))).ownsRow w.heap.size e 1 (.slice (some ⟨g, 0, none⟩) n n) n (cellsOf ((l ++ [b]) ++ List.replicate (n - (l ++ [b]).length) 0)) ∧
    Below w.heap.size w (wr.setCell ⟨g, j, none⟩ (.int .u8 (b.toNat : Int))) := by
  have h := (hown.stored j (.int .u8 (b.toNat : Int))).1
  have hf := fill_set l b n (by omega)
  subst hl
  rw [hf] at h
  exact ⟨h, hb.setCell (by exact hg) _⟩
/-- The cell that such a store meets. -/
theorem store_cell {wr : World} {B e g n j : Nat} {l : List UInt8} (hl : l.length = j) (hj : j < n)
    (hown : wr.ownsRow B e 1 (.slice (some ⟨g, 0, none⟩) n n) n (cellsOf (l ++ List.replicate (n - l.length) 0))) : wr.cell? ⟨g, j, none⟩ = some (.int .u8 0) ∧ wr.frozen? ⟨g, j, none⟩ = false := by
  refine ⟨?_, hown.frozenAt j⟩
  rw [hown.cellAt j (by omega)]
  subst hl
  obtain ⟨m, hm⟩ : ∃ m, n - l.length = m + 1 := ⟨n - l.length - 1, by omega⟩
  rw [hm]
  simp [cellsOf, List.replicate_succ]
/-- An append to a row of the call's own, one block laid ahead of it. -/
theorem append_step {w wr w1 w2 : World} {e n : Nat} {l news : List UInt8} {v v' : Value} {m : Nat} (hown : wr.ownsRow w.heap.size e 1 v n (cellsOf l)) (hb : Below w.heap.size w w1) (hown2 : w2.ownsRow w.heap.size e 1 v' (n + m) (cellsOf l ++ cellsOf news))
    (hgrow : w1.grownBy w2 v.ownBlock) : w2.ownsRow w.heap.size e 1 v' (n + m) (cellsOf (l ++ news)) ∧ Below w.heap.size w w2 := by
  refine ⟨by rw [cellsOf_append]; exact hown2, hb.grown hgrow hb.size ?_⟩
  intro j hj
  exact (hown.lt j hj).1

/-- NumBytes: n in k bytes, if k is in 1..7 and n fits; else nothing. -/
def numB (n k : Int) : List UInt8 := if 1 ≤ k ∧ k ≤ 7 ∧ 0 ≤ n ∧ n < 2 ^ (8 * k.toNat) then beL n.toNat k.toNat else []
theorem numB_no {n k : Int} (h : ¬ (1 ≤ k ∧ k ≤ 7 ∧ 0 ≤ n)) : numB n k = [] := if_neg (fun c => h ⟨c.1, c.2.1, c.2.2.1⟩)
theorem numB_big {n k : Int} (h : ¬ n < 2 ^ (8 * k.toNat)) : numB n k = [] := if_neg (fun c => h c.2.2.2)
theorem numB_yes {n k : Int} (h : 1 ≤ k ∧ k ≤ 7 ∧ 0 ≤ n ∧ n < 2 ^ (8 * k.toNat)) : numB n k = beL n.toNat k.toNat := if_pos h

theorem wrap_pow (K : Nat) (h : K ≤ 7) : wrap64 (wrap64 (2 ^ (8 * K)) - 1) = 2 ^ (8 * K) - 1 := by
  rcases K with _ | _ | _ | _ | _ | _ | _ | _ | K <;> first | omega | decide +kernel

/-- The number of a list of bytes, the highest first. -/
def numOf (l : List UInt8) : Nat := l.foldl (fun n b => n * 256 + b.toNat) 0
theorem numOf_snoc (l : List UInt8) (b : UInt8) : numOf (l ++ [b]) = numOf l * 256 + b.toNat := by simp [numOf]
theorem foldl_lt (l : List UInt8) : ∀ a : Nat, l.foldl (fun n b => n * 256 + b.toNat) a < (a + 1) * 256 ^ l.length := by
  induction l with
  | nil => intro a; simp
  | cons b l ih =>
    intro a
    have h := ih (a * 256 + b.toNat)
    have hb := b.toNat_lt
    simp only [List.foldl_cons, List.length_cons, Nat.pow_succ]
    refine Nat.lt_of_lt_of_le h ?_
    rw [Nat.mul_comm (256 ^ l.length) 256, ← Nat.mul_assoc]
    exact Nat.mul_le_mul_right _ (by omega)
theorem numOf_lt (l : List UInt8) : numOf l < 256 ^ l.length := by have := foldl_lt l 0; simpa [numOf] using this
theorem pow7 (k : Nat) (h : k ≤ 7) : 256 ^ k ≤ 72057594037927936 := by
  have := Nat.pow_le_pow_right (n := 256) (by omega) h
  simpa using this
theorem pow6 (k : Nat) (h : k ≤ 6) : 256 ^ k ≤ 281474976710656 := by
  have := Nat.pow_le_pow_right (n := 256) (by omega) h
  simpa using this
theorem or_byte (n : Nat) (b : UInt8) (h : n ≤ 281474976710656) : bits .or .i64 ((n : Int) * 256) (b.toNat : Int) = (n : Int) * 256 + (b.toNat : Int) := by
  have hb := b.toNat_lt
  have e : (n : Int) * 256 = ((n * 256 : Nat) : Int) := by omega
  rw [e]
  show IntKind.i64.wrap ((BitVec.ofInt 64 ((n * 256 : Nat) : Int) ||| BitVec.ofInt 64 (b.toNat : Int)).toNat : Int) = _
  rw [BitVec.toNat_or, ofInt_u64 (n * 256) (by omega), ofInt_u64 b.toNat (by omega), nat_join 8 (n * 256) b.toNat (by omega) (by omega), IntKind.wrap_i64]
  omega

theorem byte_snoc (l : List UInt8) (y : Int) (h0 : 0 ≤ y) (h1 : y < 256) : cellsOf l ++ [Value.int .u8 y] = cellsOf (l ++ [UInt8.ofNat y.toNat]) := by
  rw [cellsOf_append]
  have : ((UInt8.ofNat y.toNat).toNat : Int) = y := by rw [UInt8.toNat_ofNat', Nat.mod_eq_of_lt (by omega)]; omega
  simp only [cellsOf, List.map_cons, List.map_nil, this]

theorem or_u64_nat (a b : Int) : ∃ m : Nat, m < U64 ∧ bits .or .u64 a b = (m : Int) := by
  have h : bits .or .u64 a b = IntKind.u64.wrap ((BitVec.ofInt 64 a ||| BitVec.ofInt 64 b).toNat : Int) := rfl
  rw [h, IntKind.wrap_u64]
  have := (BitVec.ofInt 64 a ||| BitVec.ofInt 64 b).isLt
  exact ⟨(BitVec.ofInt 64 a ||| BitVec.ofInt 64 b).toNat, by unfold U64; omega, by omega⟩

/-- A slice of integers that came in: nil, or a row of 'cap' cells, the numbers 'zs', each fitting its kind. -/
def IsRow (k : IntKind) (w : World) (a : Option Addr) (len cap : Nat) (zs : List Int) : Prop :=
  (a = none ∧ len = 0 ∧ cap = 0 ∧ zs = []) ∨
  ∃ x, a = some x ∧ len ≤ cap ∧ cap ≤ maxLen ∧ zs.length = cap ∧ (∀ i, i < zs.length → w.cell? (x.add i) = some (.int k (zs.getD i 0))) ∧ ∀ n ∈ zs, (Lit.int k n).wf = true

abbrev hexTabB : ByteArray := ⟨#[48, 49, 50, 51, 52, 53, 54, 55, 56, 57, 97, 98, 99, 100, 101, 102]⟩

/-- 'string(b)' of a slice that the call owns: nil or not. -/
theorem run_convert_own {P : Program} (w : World) (src dst e : TypeId) (base n : Nat) (v : Value) (l : List UInt8) (hs : P.underlying src = some (.slice e)) (he : P.underlying e = some (.int .u8)) (hd : P.underlying dst = some .string)
    (hown : w.ownsRow base e 1 v n (cellsOf l)) : (convert src dst v).run P w = .ok (.string (str l)) w := by
  have hl : l.length = n := by have := hown.1; simpa [cellsOf] using this
  rcases hown.2 with ⟨rfl, h0⟩ | ⟨g, cap, cur, rfl, hb, hg, hnc, hcm, hcs, htake⟩
  · obtain rfl : l = [] := List.eq_nil_of_length_eq_zero (by omega)
    rw [run_convert_bytes_string w src dst e none 0 0 hs he hd]
    rfl
  · subst hl
    refine run_convert_bytes_back w src dst e ⟨g, 0, none⟩ cap l hs he hd ?_
    intro j hj
    have := hown.cells (g := g) rfl j (.int .u8 (l[j].toNat : Int)) (by simp [cellsOf, hj])
    exact this

end Go.My

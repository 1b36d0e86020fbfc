/- Plain words of SHA-256, over the integers as the program spells them. Nothing of the program is named. -/
import Derived.Test.YtkglgficmealnaaMath1
namespace Go.My
open Go.RowKit
set_option linter.unusedVariables false

def xor32 (a b : Int) : Int := bits .xor .u32 a b
def and32 (a b : Int) : Int := bits .and .u32 a b
def add32 (a b : Int) : Int := IntKind.u32.wrap (a + b)
theorem add32_mod (a b : Int) : add32 a b = (a + b) % 4294967296 := IntKind.wrap_u32 _
def rot (x : Int) (k : Nat) : Int := bits .or .u32 (x * 2 ^ k % 4294967296) (x / 2 ^ (32 - k))
theorem bits_u32 (op : BinOp) (a b : Int) (h : op = .and ∨ op = .or ∨ op = .xor) : 0 ≤ bits op .u32 a b ∧ bits op .u32 a b ≤ 4294967295 := by
  have key : ∀ v : BitVec 32, 0 ≤ IntKind.u32.wrap (v.toNat : Int) ∧ IntKind.u32.wrap (v.toNat : Int) ≤ 4294967295 := by
    intro v; rw [IntKind.wrap_u32]; omega
  rcases h with rfl | rfl | rfl
  · exact key (BitVec.ofInt 32 a &&& BitVec.ofInt 32 b)
  · exact key (BitVec.ofInt 32 a ||| BitVec.ofInt 32 b)
  · exact key (BitVec.ofInt 32 a ^^^ BitVec.ofInt 32 b)
theorem xor32_bd (a b : Int) : 0 ≤ xor32 a b ∧ xor32 a b ≤ 4294967295 := bits_u32 .xor a b (.inr (.inr rfl))
theorem and32_bd (a b : Int) : 0 ≤ and32 a b ∧ and32 a b ≤ 4294967295 := bits_u32 .and a b (.inl rfl)
theorem rot_bd (x : Int) (k : Nat) : 0 ≤ rot x k ∧ rot x k ≤ 4294967295 := bits_u32 .or _ _ (.inr (.inl rfl))
theorem add32_bd (a b : Int) : 0 ≤ add32 a b ∧ add32 a b ≤ 4294967295 := by rw [add32_mod]; omega

theorem mask31 (r k : Nat) (h1 : 1 ≤ k) (h2 : k ≤ 31) (h : r + k = 32) : bits BinOp.and IntKind.u64 (IntKind.u64.wrap (-(r : Int))) 31 = (k : Int) := by
  have e : IntKind.u64.wrap (-(r : Int)) = ((18446744073709551616 - r : Nat) : Int) := by rw [IntKind.wrap_u64]; omega
  rw [e]
  have := u64_and_nat (18446744073709551616 - r) 31 (by omega) (by omega)
  rw [nat_mask5] at this
  have e2 : ((31 : Nat) : Int) = 31 := rfl
  rw [e2] at this
  rw [this]
  omega

/-- 'a[i]' of an array of integers by value. -/
theorem run_index_arr {P : Program} (w : World) (t e : TypeId) (n : Nat) (cs : Array Value) (k kk : IntKind) (i : Nat) (v : Value) (h : P.underlying t = some (.array n e)) (he : P.underlying e = some (.int kk))
    (hs : (P.info? e).map (·.size) = some 1) (hi : i < n) (hv : cs[i]? = some v) : (Instr.index t (.agg cs) (.int k (i : Int))).run P w = .ok v w := by
  obtain ⟨inf, hinf, hsz⟩ := Option.map_eq_some_iff.1 hs
  have h1 : 0 ≤ (i : Int) ∧ (i : Int) < (n : Int) := by omega
  simp [Instr.index, run_underlying h, asIntOf, go_sem, sizeOf, typeInfo, hinf, hsz, part, isAgg, run_underlying he]
  rw [if_pos (by omega)]
  simp [hv, go_sem]

/-! ### Rows of words -/
def wordsL (n : Nat) (f : Nat → Int) : List Value := (List.range n).map fun q => Value.int .u32 (f q)
def wordsA (n : Nat) (f : Nat → Int) : Array Value := (wordsL n f).toArray
theorem wordsL_len (n : Nat) (f : Nat → Int) : (wordsL n f).length = n := by simp [wordsL]
theorem wordsA_size (n : Nat) (f : Nat → Int) : (wordsA n f).size = n := by simp [wordsA, wordsL]
theorem wordsL_get (n : Nat) (f : Nat → Int) (q : Nat) (h : q < n) : (wordsL n f)[q]? = some (.int .u32 (f q)) := by simp [wordsL, h]
theorem wordsA_get (n : Nat) (f : Nat → Int) (q : Nat) (h : q < n) : (wordsA n f)[q]? = some (.int .u32 (f q)) := by simp [wordsA, wordsL, h]
theorem wordsA_set (n : Nat) (f g : Nat → Int) (q : Nat) (hq : q < n) (x : Int) (hx : g q = x) (ho : ∀ j, j < n → j ≠ q → g j = f j) : (wordsA n f).setIfInBounds q (.int .u32 x) = wordsA n g := by
  apply Array.ext_getElem?
  intro j
  by_cases hj : j < n
  · rw [wordsA_get n g j hj, Array.getElem?_setIfInBounds]
    by_cases e : q = j
    · subst e
      rw [if_pos rfl, if_pos (by rw [wordsA_size]; exact hq), hx]
    · rw [if_neg e, wordsA_get n f j hj, ho j hj (fun c => e c.symm)]
  · rw [Array.getElem?_eq_none (by rw [Array.size_setIfInBounds, wordsA_size]; omega), Array.getElem?_eq_none (by rw [wordsA_size]; omega)]
theorem wordsA_congr (n : Nat) {f g : Nat → Int} (h : ∀ q, q < n → f q = g q) : wordsA n f = wordsA n g := by
  unfold wordsA wordsL
  rw [List.map_congr_left (fun q hq => by rw [h q (List.mem_range.1 hq)])]

/-! ### The schedule -/
/-- A word that is filled byte by byte, the highest first. -/
def fillW (bk : Nat → Int) (q : Nat) : Nat → Int
  | 0 => 0
  | c + 1 => bits .or .u32 (fillW bk q c * 256 % 4294967296) (bk (4 * q + c))
theorem fillW_bd (bk : Nat → Int) (q c : Nat) : 0 ≤ fillW bk q c ∧ fillW bk q c ≤ 4294967295 := by
  cases c with
  | zero => unfold fillW; omega
  | succ c => exact bits_u32 .or _ _ (.inr (.inl rfl))
/-- The words when p bytes have been read. -/
def prtW (bk : Nat → Int) (p q : Nat) : Int := fillW bk q (min 4 (p - 4 * q))
theorem prtW_bd (bk : Nat → Int) (p q : Nat) : 0 ≤ prtW bk p q ∧ prtW bk p q ≤ 4294967295 := fillW_bd _ _ _
theorem prtW_at (bk : Nat → Int) (p : Nat) : prtW bk (p + 1) (p / 4) = bits .or .u32 (prtW bk p (p / 4) * 256 % 4294967296) (bk p) := by
  unfold prtW
  rw [show min 4 (p + 1 - 4 * (p / 4)) = (p - 4 * (p / 4)) + 1 by omega, show min 4 (p - 4 * (p / 4)) = p - 4 * (p / 4) by omega]
  show bits .or .u32 _ (bk (4 * (p / 4) + (p - 4 * (p / 4)))) = _
  rw [show 4 * (p / 4) + (p - 4 * (p / 4)) = p by omega]
theorem prtW_other (bk : Nat → Int) (p q : Nat) (h : q ≠ p / 4) : prtW bk (p + 1) q = prtW bk p q := by
  unfold prtW
  rw [show min 4 (p + 1 - 4 * q) = min 4 (p - 4 * q) by omega]

/-- The schedule's words: sixteen of the block, then each of four before it. -/
def sigS (x : Int) : Int := xor32 (xor32 (rot x 25) (rot x 14)) (x / 8)
def sigL (x : Int) : Int := xor32 (xor32 (rot x 15) (rot x 13)) (x / 1024)
def schW (m : Nat → Int) (i : Nat) : Int :=
  if h : i < 16 then m i else add32 (add32 (add32 (schW m (i - 16)) (sigS (schW m (i - 15)))) (schW m (i - 7))) (sigL (schW m (i - 2)))
termination_by i
theorem schW_lo (m : Nat → Int) (i : Nat) (h : i < 16) : schW m i = m i := by rw [schW, dif_pos h]
theorem schW_hi (m : Nat → Int) (i : Nat) (h : 16 ≤ i) : schW m i = add32 (add32 (add32 (schW m (i - 16)) (sigS (schW m (i - 15)))) (schW m (i - 7))) (sigL (schW m (i - 2))) := by rw [schW, dif_neg (by omega)]
theorem schW_bd (m : Nat → Int) (hm : ∀ i, 0 ≤ m i ∧ m i ≤ 4294967295) (i : Nat) : 0 ≤ schW m i ∧ schW m i ≤ 4294967295 := by
  by_cases h : i < 16
  · rw [schW_lo m i h]; exact hm i
  · rw [schW_hi m i (by omega)]; exact add32_bd _ _
/-- The row when words up to i are there. -/
def schT (m : Nat → Int) (i q : Nat) : Int := if q < i then schW m q else 0

theorem schT_start (bk : Nat → Int) : wordsA 64 (prtW bk 64) = wordsA 64 (schT (prtW bk 64) 16) := by
  apply wordsA_congr
  intro q hq
  unfold schT
  by_cases h : q < 16
  · rw [if_pos h, schW_lo _ _ h]
  · rw [if_neg h]
    unfold prtW
    rw [show min 4 (64 - 4 * q) = 0 by omega]
    rfl
theorem schT_end (m : Nat → Int) : wordsA 64 (schT m 64) = wordsA 64 (schW m) := wordsA_congr 64 (fun q hq => if_pos hq)
theorem schT_lt (m : Nat → Int) (i q : Nat) (h : q < i) : schT m i q = schW m q := if_pos h
theorem schT_set (m : Nat → Int) (i : Nat) (h : i < 64) : (wordsA 64 (schT m i)).setIfInBounds i (.int .u32 (schW m i)) = wordsA 64 (schT m (i + 1)) :=
  wordsA_set 64 _ _ i h _ (if_pos (by omega)) (fun j _ hj => by
    unfold schT
    by_cases h : j < i
    · rw [if_pos h, if_pos (by omega)]
    · rw [if_neg h, if_neg (by omega)])

theorem wordsA_one (n : Nat) (f : Nat → Int) : (wordsA n f).all (·.oneCell') = true := by
  refine Array.all_eq_true_iff_forall_mem.2 (fun v hv => ?_)
  have hv' : v ∈ wordsL n f := by simpa [wordsA] using hv
  obtain ⟨q, _, rfl⟩ := List.mem_map.1 hv'
  rfl

/-- A whole row is stored: the world behind it as a letter. -/
theorem wpList_store_row' {P : Program} {ops : Array Oper} {rest : List Oper} {o : Oper} {a : Act} {w : World} {Q : Exit → Act → World → Prop} (hgd : o.guard = none) (ty : TypeId) (x y : Operand) (ho : o.op = .store ty x y)
    (g : Nat) (cells : Array Value) (hx : a.eval x = .pointer (some ⟨g, 0, none⟩)) (hy : a.eval y = .agg cells)
    (t : TypeId) (old : Array Value) (hg : w.heap[g]? = some (.cells old t (0, 0))) (hi : (P.info? ty).map (·.size) = some cells.size)
    (hold : old.size = cells.size) (h1 : cells.all (·.oneCell') = true)
    (h : ∀ w2, w2.heap[g]? = some (.cells cells t (0, 0)) → w2.heap.size = w.heap.size → w.grownBy w2 (some g) → wpList P ops Q rest (a.put o.dst undef) w2) : wpList P ops Q (o :: rest) a w :=
  wpList_store_row hgd ty x y ho g cells hx hy t old hg hi hold h1
    (h _ (setRow_heap w g old cells t (0, 0) hg) (by simp) ⟨rfl, rfl, rfl, by simp, fun k _ hk => setRow_other w g k _ (fun e => hk (by rw [e]))⟩)

/-- Eight cells set one by one: the row is theirs. -/
theorem set8A (A : Array Value) (hs : A.size = 8) (x0 x1 x2 x3 x4 x5 x6 x7 : Value) :
    (((((((A.setIfInBounds 0 x0).setIfInBounds 1 x1).setIfInBounds 2 x2).setIfInBounds 3 x3).setIfInBounds 4 x4).setIfInBounds 5 x5).setIfInBounds 6 x6).setIfInBounds 7 x7 = #[x0, x1, x2, x3, x4, x5, x6, x7] := by
  rcases A with ⟨l⟩
  simp only [List.setIfInBounds_toArray]
  match l, hs with
  | [_, _, _, _, _, _, _, _], _ => simp only [List.set]
theorem set8 {w : World} {g t : Nat} {A : Array Value} (h : w.heap[g]? = some (.cells A t (0, 0))) (hs : A.size = 8) (x0 x1 x2 x3 x4 x5 x6 x7 : Value) :
    ((((((((w.setCell ⟨g, 0, none⟩ x0).setCell ⟨g, 1, none⟩ x1).setCell ⟨g, 2, none⟩ x2).setCell ⟨g, 3, none⟩ x3).setCell ⟨g, 4, none⟩ x4).setCell ⟨g, 5, none⟩ x5).setCell ⟨g, 6, none⟩ x6).setCell ⟨g, 7, none⟩ x7).heap[g]? = some (.cells #[x0, x1, x2, x3, x4, x5, x6, x7] t (0, 0)) := by
  have h0 := heap_setCell_same w g 0 A t x0 h
  have h1 := heap_setCell_same _ g 1 _ t x1 h0
  have h2 := heap_setCell_same _ g 2 _ t x2 h1
  have h3 := heap_setCell_same _ g 3 _ t x3 h2
  have h4 := heap_setCell_same _ g 4 _ t x4 h3
  have h5 := heap_setCell_same _ g 5 _ t x5 h4
  have h6 := heap_setCell_same _ g 6 _ t x6 h5
  have h7 := heap_setCell_same _ g 7 _ t x7 h6
  rw [h7, set8A A hs]

theorem wordsA8 (f : Nat → Int) : wordsA 8 f = #[.int .u32 (f 0), .int .u32 (f 1), .int .u32 (f 2), .int .u32 (f 3), .int .u32 (f 4), .int .u32 (f 5), .int .u32 (f 6), .int .u32 (f 7)] := rfl

/-! ### Rounds -/
def kL : List Int := [1116352408, 1899447441, 3049323471, 3921009573, 961987163, 1508970993, 2453635748, 2870763221, 3624381080, 310598401, 607225278, 1426881987, 1925078388, 2162078206, 2614888103, 3248222580, 3835390401, 4022224774, 264347078, 604807628, 770255983, 1249150122, 1555081692, 1996064986, 2554220882, 2821834349, 2952996808, 3210313671, 3336571891, 3584528711, 113926993, 338241895, 666307205, 773529912, 1294757372, 1396182291, 1695183700, 1986661051, 2177026350, 2456956037, 2730485921, 2820302411, 3259730800, 3345764771, 3516065817, 3600352804, 4094571909, 275423344, 430227734, 506948616, 659060556, 883997877, 958139571, 1322822218, 1537002063, 1747873779, 1955562222, 2024104815, 2227730452, 2361852424, 2428436474, 2756734187, 3204031479, 3329325298]
def kW (i : Nat) : Int := kL.getD i 0
theorem kW_bd (i : Nat) : 0 ≤ kW i ∧ kW i ≤ 4294967295 := by
  have key : ∀ i : Fin 64, 0 ≤ kL.getD i.val 0 ∧ kL.getD i.val 0 ≤ 4294967295 := by decide +kernel
  by_cases h : i < 64
  · exact key ⟨i, h⟩
  · unfold kW
    rw [List.getD_eq_getElem?_getD, List.getElem?_eq_none (show kL.length ≤ i by have : kL.length = 64 := rfl; omega)]
    simp
def not32 (a : Int) : Int := bits .xor .u32 IntKind.u32.max a
def chW (e f g : Int) : Int := xor32 (and32 e f) (and32 (not32 e) g)
def majW (a b c : Int) : Int := xor32 (xor32 (and32 a b) (and32 a c)) (and32 b c)
def sumE (e : Int) : Int := xor32 (xor32 (rot e 26) (rot e 21)) (rot e 7)
def sumA (a : Int) : Int := xor32 (xor32 (rot a 30) (rot a 19)) (rot a 10)
def oneW (v : Nat → Int) (k x : Int) : Int := add32 (add32 (add32 (add32 (v 7) (sumE (v 4))) (chW (v 4) (v 5) (v 6))) k) x
def twoW (v : Nat → Int) : Int := add32 (sumA (v 0)) (majW (v 0) (v 1) (v 2))
def rndF (v : Nat → Int) (k x : Int) : Nat → Int
  | 0 => add32 (oneW v k x) (twoW v)
  | 1 => v 0
  | 2 => v 1
  | 3 => v 2
  | 4 => add32 (v 3) (oneW v k x)
  | 5 => v 4
  | 6 => v 5
  | 7 => v 6
  | _ => 0
def roundsF (st W : Nat → Int) : Nat → Nat → Int
  | 0 => st
  | i + 1 => rndF (roundsF st W i) (kW i) (W i)
def compF (st W : Nat → Int) (q : Nat) : Int := add32 (st q) (roundsF st W 64 q)
def Bd (f : Nat → Int) : Prop := ∀ q, 0 ≤ f q ∧ f q ≤ 4294967295
theorem rndF_bd (v : Nat → Int) (k x : Int) (h : Bd v) : Bd (rndF v k x) := by
  intro q
  rcases q with _ | _ | _ | _ | _ | _ | _ | _ | q
  · exact add32_bd _ _
  · exact h 0
  · exact h 1
  · exact h 2
  · exact add32_bd _ _
  · exact h 4
  · exact h 5
  · exact h 6
  · exact ⟨Int.le_refl 0, (by decide : (0 : Int) ≤ 4294967295)⟩
theorem roundsF_bd (st W : Nat → Int) (h : Bd st) (i : Nat) : Bd (roundsF st W i) := by
  induction i with
  | zero => exact h
  | succ i ih => exact rndF_bd _ _ _ ih
theorem flat2 (a b : Int) : add32 a b = (a + b) % 4294967296 := add32_mod a b
theorem one_flat (v : Nat → Int) (k x : Int) : oneW v k x = (v 7 + sumE (v 4) + chW (v 4) (v 5) (v 6) + k + x) % 4294967296 := by unfold oneW; simp only [add32_mod]; omega
theorem two_flat (v : Nat → Int) : twoW v = (sumA (v 0) + majW (v 0) (v 1) (v 2)) % 4294967296 := by unfold twoW; rw [add32_mod]
theorem new0_flat (v : Nat → Int) (k x : Int) : rndF v k x 0 = (v 7 + sumE (v 4) + chW (v 4) (v 5) (v 6) + k + x + (sumA (v 0) + majW (v 0) (v 1) (v 2))) % 4294967296 := by
  show add32 _ _ = _
  rw [add32_mod, one_flat, two_flat]; omega
theorem new4_flat (v : Nat → Int) (k x : Int) : rndF v k x 4 = (v 3 + (v 7 + sumE (v 4) + chW (v 4) (v 5) (v 6) + k + x)) % 4294967296 := by
  show add32 _ _ = _
  rw [add32_mod, one_flat]; omega
theorem compF_bd (st W : Nat → Int) : Bd (compF st W) := fun q => add32_bd _ _

/-! ### A digest's cells -/
def bytesL (bk : Nat → Int) : List Value := (List.range 64).map fun q => Value.int .u8 (bk q)
theorem bytesL_get (bk : Nat → Int) (q : Nat) (h : q < 64) : (bytesL bk)[q]? = some (.int .u8 (bk q)) := by simp [bytesL, h]
theorem bytesL_len (bk : Nat → Int) : (bytesL bk).length = 64 := by simp [bytesL]
def digL (st bk : Nat → Int) (used : Int) (size : Int) : List Value := wordsL 8 st ++ (bytesL bk ++ [.int .i64 used, .int .u64 size])
def digA (st bk : Nat → Int) (used : Int) (size : Int) : Array Value := (digL st bk used size).toArray
theorem dig_st (st bk : Nat → Int) (u z : Int) (q : Nat) (h : q < 8) : (digA st bk u z)[q]? = some (.int .u32 (st q)) := by
  unfold digA digL
  rw [List.getElem?_toArray, List.getElem?_append_left (by rw [wordsL_len]; exact h), wordsL_get 8 st q h]
theorem dig_bk (st bk : Nat → Int) (u z : Int) (q : Nat) (h : q < 64) : (digA st bk u z)[8 + q]? = some (.int .u8 (bk q)) := by
  unfold digA digL
  rw [List.getElem?_toArray, List.getElem?_append_right (by rw [wordsL_len]; omega), wordsL_len, show 8 + q - 8 = q by omega, List.getElem?_append_left (by rw [bytesL_len]; exact h), bytesL_get bk q h]
theorem dig_used (st bk : Nat → Int) (u z : Int) : (digA st bk u z)[72]? = some (.int .i64 u) := by
  unfold digA digL
  rw [List.getElem?_toArray, List.getElem?_append_right (by rw [wordsL_len]; omega), wordsL_len, List.getElem?_append_right (by rw [bytesL_len]; omega), bytesL_len]
  rfl
theorem dig_size (st bk : Nat → Int) (u z : Int) : (digA st bk u z)[73]? = some (.int .u64 z) := by
  unfold digA digL
  rw [List.getElem?_toArray, List.getElem?_append_right (by rw [wordsL_len]; omega), wordsL_len, List.getElem?_append_right (by rw [bytesL_len]; omega), bytesL_len]
  rfl
theorem digA_size (st bk : Nat → Int) (u z : Int) : (digA st bk u z).size = 74 := by
  unfold digA digL
  simp [wordsL_len, bytesL_len]
theorem dig_ext {st bk st' bk' : Nat → Int} {u z u' z' : Int} {A : Array Value} (hs : A.size = 74) (h1 : ∀ q, q < 8 → A[q]? = some (.int .u32 (st' q))) (h2 : ∀ q, q < 64 → A[8 + q]? = some (.int .u8 (bk' q))) (h3 : A[72]? = some (.int .i64 u')) (h4 : A[73]? = some (.int .u64 z')) : A = digA st' bk' u' z' := by
  apply Array.ext_getElem?
  intro j
  by_cases hj : j < 8
  · rw [h1 j hj, dig_st _ _ _ _ j hj]
  · by_cases hj2 : j < 72
    · have := h2 (j - 8) (by omega)
      have e := dig_bk st' bk' u' z' (j - 8) (by omega)
      rw [show 8 + (j - 8) = j by omega] at this e
      rw [this, e]
    · by_cases hj3 : j = 72
      · subst hj3; rw [h3, dig_used]
      · by_cases hj4 : j = 73
        · subst hj4; rw [h4, dig_size]
        · rw [Array.getElem?_eq_none (by omega), Array.getElem?_eq_none (by rw [digA_size]; omega)]
theorem dig_set_st (st bk : Nat → Int) (u z : Int) (q : Nat) (hq : q < 8) (x : Int) : (digA st bk u z).setIfInBounds q (.int .u32 x) = digA (fun j => if j = q then x else st j) bk u z := by
  refine dig_ext (st := st) (bk := bk) (u := u) (z := z) (by rw [Array.size_setIfInBounds, digA_size]) ?_ ?_ ?_ ?_
  · intro j hj
    rw [Array.getElem?_setIfInBounds]
    by_cases e : q = j
    · subst e; rw [if_pos rfl, if_pos (by rw [digA_size]; omega), if_pos rfl]
    · rw [if_neg e, dig_st _ _ _ _ j hj, if_neg (fun c => e c.symm)]
  · intro j hj
    rw [Array.getElem?_setIfInBounds, if_neg (by omega), dig_bk _ _ _ _ j hj]
  · rw [Array.getElem?_setIfInBounds, if_neg (by omega), dig_used]
  · rw [Array.getElem?_setIfInBounds, if_neg (by omega), dig_size]
theorem dig_set_bk (st bk : Nat → Int) (u z : Int) (q : Nat) (hq : q < 64) (x : Int) : (digA st bk u z).setIfInBounds (8 + q) (.int .u8 x) = digA st (fun j => if j = q then x else bk j) u z := by
  refine dig_ext (st := st) (bk := bk) (u := u) (z := z) (by rw [Array.size_setIfInBounds, digA_size]) ?_ ?_ ?_ ?_
  · intro j hj
    rw [Array.getElem?_setIfInBounds, if_neg (by omega), dig_st _ _ _ _ j hj]
  · intro j hj
    rw [Array.getElem?_setIfInBounds]
    by_cases e : q = j
    · subst e; rw [if_pos rfl, if_pos (by rw [digA_size]; omega), if_pos rfl]
    · rw [if_neg (by omega), dig_bk _ _ _ _ j hj, if_neg (fun c => e c.symm)]
  · rw [Array.getElem?_setIfInBounds, if_neg (by omega), dig_used]
  · rw [Array.getElem?_setIfInBounds, if_neg (by omega), dig_size]
theorem dig_set_used (st bk : Nat → Int) (u z x : Int) : (digA st bk u z).setIfInBounds 72 (.int .i64 x) = digA st bk x z := by
  refine dig_ext (st := st) (bk := bk) (u := u) (z := z) (by rw [Array.size_setIfInBounds, digA_size]) ?_ ?_ ?_ ?_
  · intro j hj
    rw [Array.getElem?_setIfInBounds, if_neg (by omega), dig_st _ _ _ _ j hj]
  · intro j hj
    rw [Array.getElem?_setIfInBounds, if_neg (by omega), dig_bk _ _ _ _ j hj]
  · rw [Array.getElem?_setIfInBounds, if_pos rfl, if_pos (by rw [digA_size]; omega)]
  · rw [Array.getElem?_setIfInBounds, if_neg (by omega), dig_size]
theorem dig_set_size (st bk : Nat → Int) (u z x : Int) : (digA st bk u z).setIfInBounds 73 (.int .u64 x) = digA st bk u x := by
  refine dig_ext (st := st) (bk := bk) (u := u) (z := z) (by rw [Array.size_setIfInBounds, digA_size]) ?_ ?_ ?_ ?_
  · intro j hj
    rw [Array.getElem?_setIfInBounds, if_neg (by omega), dig_st _ _ _ _ j hj]
  · intro j hj
    rw [Array.getElem?_setIfInBounds, if_neg (by omega), dig_bk _ _ _ _ j hj]
  · rw [Array.getElem?_setIfInBounds, if_neg (by omega), dig_used]
  · rw [Array.getElem?_setIfInBounds, if_pos rfl, if_pos (by rw [digA_size]; omega)]

end Go.My

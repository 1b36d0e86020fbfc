/- Rows of integers; words of 64 bits with their carries; bytes, the lowest first. Nothing of the program is named. -/
import Derived.Test.YtepefbfmjjnamaaMath1
namespace Go.My
open Go.RowKit
set_option linter.unusedVariables false

/-! ### Rows -/
def rwL (k : IntKind) (n : Nat) (f : Nat → Int) : List Value := (List.range n).map fun q => Value.int k (f q)
def rwA (k : IntKind) (n : Nat) (f : Nat → Int) : Array Value := (rwL k n f).toArray
theorem rwL_len (k : IntKind) (n : Nat) (f : Nat → Int) : (rwL k n f).length = n := by simp [rwL]
theorem rwA_size (k : IntKind) (n : Nat) (f : Nat → Int) : (rwA k n f).size = n := by simp [rwA, rwL]
theorem rwA_get (k : IntKind) (n : Nat) (f : Nat → Int) (q : Nat) (h : q < n) : (rwA k n f)[q]? = some (.int k (f q)) := by simp [rwA, rwL, h]
theorem rwA_congr (k : IntKind) (n : Nat) {f g : Nat → Int} (h : ∀ q, q < n → f q = g q) : rwA k n f = rwA k n g := by
  unfold rwA rwL
  rw [List.map_congr_left (fun q hq => by rw [h q (List.mem_range.1 hq)])]
theorem rwA_set (k : IntKind) (n : Nat) (f g : Nat → Int) (q : Nat) (hq : q < n) (x : Int) (hx : g q = x) (ho : ∀ j, j < n → j ≠ q → g j = f j) : (rwA k n f).setIfInBounds q (.int k x) = rwA k n g := by
  apply Array.ext_getElem?
  intro j
  by_cases hj : j < n
  · rw [rwA_get k n g j hj, Array.getElem?_setIfInBounds]
    by_cases e : q = j
    · subst e
      rw [if_pos rfl, if_pos (by rw [rwA_size]; exact hq), hx]
    · rw [if_neg e, rwA_get k n f j hj, ho j hj (fun c => e c.symm)]
  · rw [Array.getElem?_eq_none (by rw [Array.size_setIfInBounds, rwA_size]; omega), Array.getElem?_eq_none (by rw [rwA_size]; omega)]
theorem rwA_one (k : IntKind) (n : Nat) (f : Nat → Int) : (rwA k n f).all (·.oneCell') = true := by
  refine Array.all_eq_true_iff_forall_mem.2 (fun v hv => ?_)
  have hv' : v ∈ rwL k n f := by simpa [rwA] using hv
  obtain ⟨q, _, rfl⟩ := List.mem_map.1 hv'
  rfl
/-- A row that is filled from the left: g up to i, f behind. -/
def upTo (i : Nat) (g f : Nat → Int) (q : Nat) : Int := if q < i then g q else f q
theorem upTo_set (k : IntKind) (n i : Nat) (g f : Nat → Int) (h : i < n) : (rwA k n (upTo i g f)).setIfInBounds i (.int k (g i)) = rwA k n (upTo (i + 1) g f) :=
  rwA_set k n _ _ i h _ (if_pos (by omega)) (fun j _ hj => by
    unfold upTo
    by_cases h : j < i
    · rw [if_pos h, if_pos (by omega)]
    · rw [if_neg h, if_neg (by omega)])
theorem upTo_zero (g f : Nat → Int) : upTo 0 g f = f := by funext q; exact if_neg (by omega)
theorem upTo_all (k : IntKind) (n : Nat) (g f : Nat → Int) : rwA k n (upTo n g f) = rwA k n g := rwA_congr k n (fun q hq => if_pos hq)
theorem upTo_at (g f : Nat → Int) (i : Nat) : upTo i g f i = f i := if_neg (by omega)

/-! ### Words with their carries -/
def V4 (f : Nat → Nat) : Nat := f 0 + 18446744073709551616 * f 1 + 340282366920938463463374607431768211456 * f 2 + 6277101735386680763835789423207666416102355444464034512896 * f 3
def W256 : Nat := 115792089237316195423570985008687907853269984665640564039457584007913129639936
def lw (n : Nat) : Nat → Nat
  | 0 => n % 18446744073709551616
  | 1 => n / 18446744073709551616 % 18446744073709551616
  | 2 => n / 340282366920938463463374607431768211456 % 18446744073709551616
  | 3 => n / 6277101735386680763835789423207666416102355444464034512896 % 18446744073709551616
  | _ => 0
theorem lw_lt (n q : Nat) : lw n q < U64 := by
  unfold U64
  match q with
  | 0 => exact Nat.mod_lt _ (by decide)
  | 1 => exact Nat.mod_lt _ (by decide)
  | 2 => exact Nat.mod_lt _ (by decide)
  | 3 => exact Nat.mod_lt _ (by decide)
  | q + 4 => exact (by decide : 0 < 18446744073709551616)
theorem V4_lw (n : Nat) (h : n < W256) : V4 (lw n) = n := by
  unfold W256 at h
  simp only [V4, lw]
  omega
theorem V4_lt (f : Nat → Nat) (h : ∀ q, q < 4 → f q < U64) : V4 f < W256 := by
  have h0 := h 0 (by omega)
  have h1 := h 1 (by omega)
  have h2 := h 2 (by omega)
  have h3 := h 3 (by omega)
  unfold W256 V4
  unfold U64 at *
  omega
theorem lw_V4 (f : Nat → Nat) (h : ∀ q, q < 4 → f q < U64) (q : Nat) (hq : q < 4) : lw (V4 f) q = f q := by
  have h0 := h 0 (by omega)
  have h1 := h 1 (by omega)
  have h2 := h 2 (by omega)
  have h3 := h 3 (by omega)
  unfold U64 at *
  match q with
  | 0 => simp only [V4, lw]; omega
  | 1 => simp only [V4, lw]; omega
  | 2 => simp only [V4, lw]; omega
  | 3 => simp only [V4, lw]; omega
theorem lw_of {f : Nat → Nat} {n : Nat} (h : ∀ q, q < 4 → f q < U64) (e : V4 f = n) (q : Nat) (hq : q < 4) : f q = lw n q := by rw [← e, lw_V4 f h q hq]
/-- A field's four words. -/
def fldA (n : Nat) : Array Value := rwA .u64 4 (fun q => (lw n q : Int))
theorem fld_of {f : Nat → Nat} {n : Nat} (h : ∀ q, q < 4 → f q < U64) (e : V4 f = n) : rwA .u64 4 (fun q => (f q : Int)) = fldA n :=
  rwA_congr _ _ (fun q hq => by rw [lw_of h e q hq])

def cAdd (f g : Nat → Nat) : Nat → Nat
  | 0 => 0
  | i + 1 => (f i + g i + cAdd f g i) / 18446744073709551616
def sAdd (f g : Nat → Nat) (i : Nat) : Nat := (f i + g i + cAdd f g i) % 18446744073709551616
theorem cAdd_le (f g : Nat → Nat) (hf : ∀ q, f q < U64) (hg : ∀ q, g q < U64) (i : Nat) : cAdd f g i ≤ 1 := by
  unfold U64 at *
  induction i with
  | zero => exact Nat.zero_le _
  | succ i ih => have := hf i; have := hg i; unfold cAdd; omega
theorem sAdd_lt (f g : Nat → Nat) (i : Nat) : sAdd f g i < U64 := Nat.mod_lt _ (by decide)
theorem V4_add (f g : Nat → Nat) : V4 (sAdd f g) + W256 * cAdd f g 4 = V4 f + V4 g := by
  simp only [V4, sAdd, cAdd, W256]
  omega
def bSub (f g : Nat → Nat) : Nat → Nat
  | 0 => 0
  | i + 1 => if f i < g i + bSub f g i then 1 else 0
def dSub (f g : Nat → Nat) (i : Nat) : Nat := (f i + 18446744073709551616 - g i - bSub f g i) % 18446744073709551616
theorem bSub_le (f g : Nat → Nat) (i : Nat) : bSub f g i ≤ 1 := by
  cases i with
  | zero => exact Nat.zero_le _
  | succ i => unfold bSub; split <;> omega
theorem dSub_lt (f g : Nat → Nat) (i : Nat) : dSub f g i < U64 := Nat.mod_lt _ (by decide)
theorem dSub_step (x y b : Nat) (hx : x < 18446744073709551616) (hy : y < 18446744073709551616) (hb : b ≤ 1) : (x + 18446744073709551616 - y - b) % 18446744073709551616 + y + b = x + 18446744073709551616 * (if x < y + b then 1 else 0) := by
  split <;> omega
theorem V4_sub (f g : Nat → Nat) (hf : ∀ q, f q < U64) (hg : ∀ q, g q < U64) : V4 (dSub f g) + V4 g = V4 f + W256 * bSub f g 4 := by
  unfold U64 at *
  have s0 := dSub_step (f 0) (g 0) (bSub f g 0) (hf 0) (hg 0) (bSub_le _ _ _)
  have s1 := dSub_step (f 1) (g 1) (bSub f g 1) (hf 1) (hg 1) (bSub_le _ _ _)
  have s2 := dSub_step (f 2) (g 2) (bSub f g 2) (hf 2) (hg 2) (bSub_le _ _ _)
  have s3 := dSub_step (f 3) (g 3) (bSub f g 3) (hf 3) (hg 3) (bSub_le _ _ _)
  change dSub f g 0 + g 0 + bSub f g 0 = f 0 + 18446744073709551616 * bSub f g 1 at s0
  change dSub f g 1 + g 1 + bSub f g 1 = f 1 + 18446744073709551616 * bSub f g 2 at s1
  change dSub f g 2 + g 2 + bSub f g 2 = f 2 + 18446744073709551616 * bSub f g 3 at s2
  change dSub f g 3 + g 3 + bSub f g 3 = f 3 + 18446744073709551616 * bSub f g 4 at s3
  have s : bSub f g 0 = 0 := rfl
  unfold V4 W256
  generalize dSub f g 0 = d0 at *
  generalize dSub f g 1 = d1 at *
  generalize dSub f g 2 = d2 at *
  generalize dSub f g 3 = d3 at *
  generalize bSub f g 0 = b0 at *
  generalize bSub f g 1 = b1 at *
  generalize bSub f g 2 = b2 at *
  generalize bSub f g 3 = b3 at *
  generalize bSub f g 4 = b4 at *
  clear hf hg
  omega

/-! ### The field's numbers -/
def P25n : Nat := 57896044618658097711785492504343953926634992332820282019728792003956564819949
def redF (n : Nat) : Nat := if n < P25n then n else n - P25n
theorem V4_P : V4 (lw P25n) = P25n := V4_lw _ (by decide)
theorem bSub_P (n : Nat) (h : n < W256) : (bSub (lw n) (lw P25n) 4 = 0 ∧ P25n ≤ n ∧ V4 (dSub (lw n) (lw P25n)) = n - P25n) ∨ (bSub (lw n) (lw P25n) 4 = 1 ∧ n < P25n) := by
  have e := V4_sub (lw n) (lw P25n) (lw_lt n) (lw_lt P25n)
  have l := V4_lt (dSub (lw n) (lw P25n)) (fun q _ => dSub_lt _ _ q)
  have b := bSub_le (lw n) (lw P25n) 4
  rw [V4_P, V4_lw n h] at e
  generalize bSub (lw n) (lw P25n) 4 = B at *
  generalize V4 (dSub (lw n) (lw P25n)) = D at *
  unfold W256 P25n at *
  omega
theorem red_mod (n : Nat) (h : n < 2 * P25n) : redF n = n % P25n := by
  unfold redF
  unfold P25n at *
  split <;> omega
/-- The difference of p and b, b no more than p. -/
theorem bSub_minus (b : Nat) (h : b ≤ P25n) : V4 (dSub (lw P25n) (lw b)) = P25n - b := by
  have e := V4_sub (lw P25n) (lw b) (lw_lt P25n) (lw_lt b)
  have l := V4_lt (dSub (lw P25n) (lw b)) (fun q _ => dSub_lt _ _ q)
  have c := bSub_le (lw P25n) (lw b) 4
  rw [V4_P, V4_lw b (by unfold W256; unfold P25n at h; omega)] at e
  generalize bSub (lw P25n) (lw b) 4 = B at *
  generalize V4 (dSub (lw P25n) (lw b)) = D at *
  unfold W256 P25n at *
  omega
theorem cAdd_plus (a b : Nat) (h : a + b < W256) : V4 (sAdd (lw a) (lw b)) = a + b := by
  have e := V4_add (lw a) (lw b)
  rw [V4_lw a (by omega), V4_lw b (by omega)] at e
  have l := V4_lt (sAdd (lw a) (lw b)) (fun q _ => sAdd_lt _ _ q)
  generalize cAdd (lw a) (lw b) 4 = C at *
  generalize V4 (sAdd (lw a) (lw b)) = D at *
  unfold W256 at *
  omega

/-! ### Bytes, the lowest first -/
def leN : List UInt8 → Nat
  | [] => 0
  | b :: l => b.toNat + 256 * leN l
def leB (n : Nat) : Nat → List UInt8
  | 0 => []
  | k + 1 => UInt8.ofNat n :: leB (n / 256) k
theorem leN_lt (l : List UInt8) : leN l < 256 ^ l.length := by
  induction l with
  | nil => exact (by decide : 0 < 1)
  | cons b l ih =>
    have := b.toNat_lt
    rw [leN, List.length_cons, Nat.pow_succ]
    omega
theorem leN_append (a b : List UInt8) : leN (a ++ b) = leN a + 256 ^ a.length * leN b := by
  induction a with
  | nil => simp [leN]
  | cons x a ih =>
    rw [List.cons_append, leN, ih, leN, List.length_cons, Nat.pow_succ, Nat.mul_add, Nat.mul_comm (256 ^ a.length) 256, Nat.mul_assoc]
    omega
theorem leB_len (n k : Nat) : (leB n k).length = k := by
  induction k generalizing n with
  | zero => rfl
  | succ k ih => rw [leB, List.length_cons, ih]
theorem leN_leB (n k : Nat) (h : n < 256 ^ k) : leN (leB n k) = n := by
  induction k generalizing n with
  | zero => simp at h; subst h; rfl
  | succ k ih =>
    rw [leB, leN, ih (n / 256) (by rw [Nat.pow_succ] at h; omega), UInt8.toNat_ofNat']
    omega
theorem leB_leN (l : List UInt8) : leB (leN l) l.length = l := by
  induction l with
  | nil => rfl
  | cons b l ih =>
    have hb := b.toNat_lt
    rw [List.length_cons, leB, leN, show (b.toNat + 256 * leN l) / 256 = leN l by omega, ih]
    congr 1
    apply UInt8.toNat_inj.1
    rw [UInt8.toNat_ofNat']
    omega
theorem leN_inj {a b : List UInt8} (hl : a.length = b.length) (h : leN a = leN b) : a = b := by rw [← leB_leN a, ← leB_leN b, h, hl]
theorem leB_snoc (n k : Nat) : leB n (k + 1) = leB n k ++ [UInt8.ofNat (n / 256 ^ k)] := by
  induction k generalizing n with
  | zero => simp [leB]
  | succ k ih =>
    rw [leB, ih, leB, List.cons_append, Nat.div_div_eq_div_mul, Nat.pow_succ, Nat.mul_comm]
theorem leB_add (n a b : Nat) : leB n (a + b) = leB n a ++ leB (n / 256 ^ a) b := by
  induction a generalizing n with
  | zero => simp [leB]
  | succ a ih => rw [show a + 1 + b = (a + b) + 1 by omega, leB, ih, leB, List.cons_append, Nat.div_div_eq_div_mul, Nat.pow_succ, Nat.mul_comm 256]
theorem leB_mod (n k : Nat) : leB (n % 256 ^ k) k = leB n k := by
  induction k generalizing n with
  | zero => rfl
  | succ k ih =>
    rw [leB, leB, ← ih (n / 256)]
    congr 1
    · apply UInt8.toNat_inj.1
      rw [UInt8.toNat_ofNat', UInt8.toNat_ofNat', Nat.pow_succ, Nat.mul_comm]
      rw [Nat.mod_mul_right_mod]
    · rw [Nat.pow_succ, Nat.mul_comm, Nat.mod_mul_right_div_self]
/-- A field's words as bytes. -/
theorem leB_words (n : Nat) : leB (lw n 0) 8 ++ leB (lw n 1) 8 ++ leB (lw n 2) 8 ++ leB (lw n 3) 8 = leB n 32 := by
  have e8 : (256 : Nat) ^ 8 = 18446744073709551616 := by decide
  have e16 : (256 : Nat) ^ 16 = 340282366920938463463374607431768211456 := by decide
  have e24 : (256 : Nat) ^ 24 = 6277101735386680763835789423207666416102355444464034512896 := by decide
  have h1 := leB_add n 8 24
  have h2 := leB_add (n / 256 ^ 8) 8 16
  have h3 := leB_add (n / 256 ^ 8 / 256 ^ 8) 8 8
  rw [show 8 + 24 = 32 from rfl] at h1
  rw [show 8 + 16 = 24 from rfl] at h2
  rw [show 8 + 8 = 16 from rfl] at h3
  rw [h1, h2, h3, ← leB_mod n 8, ← leB_mod (n / 256 ^ 8) 8, ← leB_mod (n / 256 ^ 8 / 256 ^ 8) 8, ← leB_mod (n / 256 ^ 8 / 256 ^ 8 / 256 ^ 8) 8, e8]
  simp only [lw, Nat.div_div_eq_div_mul, List.append_assoc]

end Go.My

import Derived.Test.YtfbcmckepdjdkaaDoorGM0
import Derived.Orders
import Derived.Below
import Derived.Laws.Tables
import Derived.Deep.MidRow
import Derived.Test.YtfbcmckepdjdkaaDoorRows
import Derived.WalkKit
import Derived.ProofKit
import Derived.Lib.Hide
import Derived.Deep.AppendLies
import Derived.Deep.QuietTactic
import Derived.BigQuiet
import Derived.WalkSpells
import Derived.WalkLawsBesides
import Derived.Deep.RegionWith
import Derived.Deep.RegionHeld3
/- Products of words: four by four, and the fold at 2^256. Nothing of the program is named. -/
namespace Go.My
open Go.RowKit
set_option linter.unusedVariables false

def V8 (f : Nat → Nat) : Nat := f 0 + 18446744073709551616 * f 1 + 340282366920938463463374607431768211456 * f 2 + 6277101735386680763835789423207666416102355444464034512896 * f 3 + 115792089237316195423570985008687907853269984665640564039457584007913129639936 * f 4 + 2135987035920910082395021706169552114602704522356652769947041607822219725780640550022962086936576 * f 5 + 39402006196394479212279040100143613805079739270465446667948293404245721771497210611414266254884915640806627990306816 * f 6 + 726838724295606890549323807888004534353641360687318060281490199180639288113397923326191050713763565560762521606266177933534601628614656 * f 7
/-- The carries of a word's product with a row of four, added to a row from place i on. -/
def cM (b f : Nat → Nat) (x i : Nat) : Nat → Nat
  | 0 => 0
  | j + 1 => (x * b j + f (i + j) + cM b f x i j) / 18446744073709551616
def rM (b f : Nat → Nat) (x i j : Nat) : Nat := (x * b j + f (i + j) + cM b f x i j) % 18446744073709551616
/-- The row when j places are done, and when all are. -/
def inM (b f : Nat → Nat) (x i j q : Nat) : Nat := if i ≤ q ∧ q < i + j then rM b f x i (q - i) else f q
def rowM (b f : Nat → Nat) (x i q : Nat) : Nat := if q = i + 4 then cM b f x i 4 else inM b f x i 4 q
theorem rM_lt (b f : Nat → Nat) (x i j : Nat) : rM b f x i j < U64 := Nat.mod_lt _ (by decide)
theorem prodU (x y : Nat) (hx : x < U64) (hy : y < U64) : x * y ≤ 340282366920938463426481119284349108225 := Nat.mul_le_mul (by unfold U64 at hx; omega : x ≤ 18446744073709551615) (by unfold U64 at hy; omega : y ≤ 18446744073709551615)
theorem cM_lt (b f : Nat → Nat) (x i j : Nat) (hx : x < U64) (hb : ∀ q, b q < U64) (hf : ∀ q, f q < U64) : cM b f x i j < U64 := by
  induction j with
  | zero => exact (by decide : 0 < 18446744073709551616)
  | succ j ih =>
    have h1 := prodU x (b j) hx (hb j)
    have h2 := hf (i + j)
    unfold cM
    unfold U64 at *
    omega
theorem inM_lt (b f : Nat → Nat) (x i j q : Nat) (hf : ∀ q, f q < U64) : inM b f x i j q < U64 := by
  unfold inM
  split
  · exact rM_lt _ _ _ _ _
  · exact hf q
theorem rowM_lt (b f : Nat → Nat) (x i q : Nat) (hx : x < U64) (hb : ∀ q, b q < U64) (hf : ∀ q, f q < U64) : rowM b f x i q < U64 := by
  unfold rowM
  split
  · exact cM_lt _ _ _ _ _ hx hb hf
  · exact inM_lt _ _ _ _ _ _ hf
theorem inM_zero (b f : Nat → Nat) (x i : Nat) : inM b f x i 0 = f := by funext q; exact if_neg (by omega)
theorem inM_at (b f : Nat → Nat) (x i j : Nat) : inM b f x i j (i + j) = f (i + j) := if_neg (by omega)
theorem inM_set (b f : Nat → Nat) (x i j : Nat) (h : i + j < 8) : (rwA .u64 8 (fun q => (inM b f x i j q : Int))).setIfInBounds (i + j) (.int .u64 (rM b f x i j : Int)) = rwA .u64 8 (fun q => (inM b f x i (j + 1) q : Int)) :=
  rwA_set _ _ _ _ _ h _ (by show ((inM b f x i (j + 1) (i + j) : Nat) : Int) = _; unfold inM; rw [if_pos (by omega), Nat.add_sub_cancel_left]) (fun k _ hk => by
    show ((inM b f x i (j + 1) k : Nat) : Int) = ((inM b f x i j k : Nat) : Int)
    unfold inM
    by_cases c : i ≤ k ∧ k < i + j
    · rw [if_pos c, if_pos (by omega)]
    · rw [if_neg c, if_neg (by omega)])
theorem rowM_set (b f : Nat → Nat) (x i : Nat) (h : i + 4 < 8) : (rwA .u64 8 (fun q => (inM b f x i 4 q : Int))).setIfInBounds (i + 4) (.int .u64 (cM b f x i 4 : Int)) = rwA .u64 8 (fun q => (rowM b f x i q : Int)) :=
  rwA_set _ _ _ _ _ h _ (by show ((rowM b f x i (i + 4) : Nat) : Int) = _; unfold rowM; rw [if_pos rfl]) (fun k _ hk => by
    show ((rowM b f x i k : Nat) : Int) = ((inM b f x i 4 k : Nat) : Int)
    unfold rowM
    rw [if_neg hk])
theorem mul_V4 (x : Nat) (b : Nat → Nat) : x * V4 b = x * b 0 + 18446744073709551616 * (x * b 1) + 340282366920938463463374607431768211456 * (x * b 2) + 6277101735386680763835789423207666416102355444464034512896 * (x * b 3) := by
  unfold V4
  rw [Nat.mul_add, Nat.mul_add, Nat.mul_add, Nat.mul_left_comm x, Nat.mul_left_comm x, Nat.mul_left_comm x]
theorem chain4 (b f : Nat → Nat) (x i : Nat) : rM b f x i 0 + 18446744073709551616 * rM b f x i 1 + 340282366920938463463374607431768211456 * rM b f x i 2 + 6277101735386680763835789423207666416102355444464034512896 * rM b f x i 3 + 115792089237316195423570985008687907853269984665640564039457584007913129639936 * cM b f x i 4 = x * V4 b + (f i + 18446744073709551616 * f (i + 1) + 340282366920938463463374607431768211456 * f (i + 2) + 6277101735386680763835789423207666416102355444464034512896 * f (i + 3)) := by
  rw [mul_V4]
  have h0 := Nat.mod_add_div (x * b 0 + f (i + 0) + cM b f x i 0) 18446744073709551616
  have h1 := Nat.mod_add_div (x * b 1 + f (i + 1) + cM b f x i 1) 18446744073709551616
  have h2 := Nat.mod_add_div (x * b 2 + f (i + 2) + cM b f x i 2) 18446744073709551616
  have h3 := Nat.mod_add_div (x * b 3 + f (i + 3) + cM b f x i 3) 18446744073709551616
  change rM b f x i 0 + 18446744073709551616 * cM b f x i 1 = x * b 0 + f (i + 0) + cM b f x i 0 at h0
  change rM b f x i 1 + 18446744073709551616 * cM b f x i 2 = x * b 1 + f (i + 1) + cM b f x i 1 at h1
  change rM b f x i 2 + 18446744073709551616 * cM b f x i 3 = x * b 2 + f (i + 2) + cM b f x i 2 at h2
  change rM b f x i 3 + 18446744073709551616 * cM b f x i 4 = x * b 3 + f (i + 3) + cM b f x i 3 at h3
  have hz : cM b f x i 0 = 0 := rfl
  rw [Nat.add_zero, hz] at h0
  generalize rM b f x i 0 = r0 at *
  generalize rM b f x i 1 = r1 at *
  generalize rM b f x i 2 = r2 at *
  generalize rM b f x i 3 = r3 at *
  generalize cM b f x i 1 = c1 at *
  generalize cM b f x i 2 = c2 at *
  generalize cM b f x i 3 = c3 at *
  generalize cM b f x i 4 = c4 at *
  generalize x * b 0 = p0 at *
  generalize x * b 1 = p1 at *
  generalize x * b 2 = p2 at *
  generalize x * b 3 = p3 at *
  omega
theorem V8_row0 (b f : Nat → Nat) (x : Nat) (h0 : f 4 = 0) : V8 (rowM b f x 0) = V8 f + 1 * (x * V4 b) := by
  have h := chain4 b f x 0
  have e0 : rowM b f x 0 0 = rM b f x 0 0 := rfl
  have e1 : rowM b f x 0 1 = rM b f x 0 1 := rfl
  have e2 : rowM b f x 0 2 = rM b f x 0 2 := rfl
  have e3 : rowM b f x 0 3 = rM b f x 0 3 := rfl
  have e4 : rowM b f x 0 4 = cM b f x 0 4 := rfl
  have e5 : rowM b f x 0 5 = f 5 := rfl
  have e6 : rowM b f x 0 6 = f 6 := rfl
  have e7 : rowM b f x 0 7 = f 7 := rfl
  simp only [Nat.zero_add] at h
  unfold V8
  rw [e0, e1, e2, e3, e4, e5, e6, e7, h0]
  generalize rM b f x 0 0 = r0 at *
  generalize rM b f x 0 1 = r1 at *
  generalize rM b f x 0 2 = r2 at *
  generalize rM b f x 0 3 = r3 at *
  generalize cM b f x 0 4 = c4 at *
  generalize x * V4 b = X at *
  clear e0 e1 e2 e3 e4 e5 e6 e7
  omega
theorem V8_row1 (b f : Nat → Nat) (x : Nat) (h0 : f 5 = 0) : V8 (rowM b f x 1) = V8 f + 18446744073709551616 * (x * V4 b) := by
  have h := chain4 b f x 1
  have e0 : rowM b f x 1 0 = f 0 := rfl
  have e1 : rowM b f x 1 1 = rM b f x 1 0 := rfl
  have e2 : rowM b f x 1 2 = rM b f x 1 1 := rfl
  have e3 : rowM b f x 1 3 = rM b f x 1 2 := rfl
  have e4 : rowM b f x 1 4 = rM b f x 1 3 := rfl
  have e5 : rowM b f x 1 5 = cM b f x 1 4 := rfl
  have e6 : rowM b f x 1 6 = f 6 := rfl
  have e7 : rowM b f x 1 7 = f 7 := rfl
  simp only [Nat.reduceAdd] at h
  unfold V8
  rw [e0, e1, e2, e3, e4, e5, e6, e7, h0]
  generalize rM b f x 1 0 = r0 at *
  generalize rM b f x 1 1 = r1 at *
  generalize rM b f x 1 2 = r2 at *
  generalize rM b f x 1 3 = r3 at *
  generalize cM b f x 1 4 = c4 at *
  generalize x * V4 b = X at *
  clear e0 e1 e2 e3 e4 e5 e6 e7
  omega
theorem V8_row2 (b f : Nat → Nat) (x : Nat) (h0 : f 6 = 0) : V8 (rowM b f x 2) = V8 f + 340282366920938463463374607431768211456 * (x * V4 b) := by
  have h := chain4 b f x 2
  have e0 : rowM b f x 2 0 = f 0 := rfl
  have e1 : rowM b f x 2 1 = f 1 := rfl
  have e2 : rowM b f x 2 2 = rM b f x 2 0 := rfl
  have e3 : rowM b f x 2 3 = rM b f x 2 1 := rfl
  have e4 : rowM b f x 2 4 = rM b f x 2 2 := rfl
  have e5 : rowM b f x 2 5 = rM b f x 2 3 := rfl
  have e6 : rowM b f x 2 6 = cM b f x 2 4 := rfl
  have e7 : rowM b f x 2 7 = f 7 := rfl
  simp only [Nat.reduceAdd] at h
  unfold V8
  rw [e0, e1, e2, e3, e4, e5, e6, e7, h0]
  generalize rM b f x 2 0 = r0 at *
  generalize rM b f x 2 1 = r1 at *
  generalize rM b f x 2 2 = r2 at *
  generalize rM b f x 2 3 = r3 at *
  generalize cM b f x 2 4 = c4 at *
  generalize x * V4 b = X at *
  clear e0 e1 e2 e3 e4 e5 e6 e7
  omega
theorem V8_row3 (b f : Nat → Nat) (x : Nat) (h0 : f 7 = 0) : V8 (rowM b f x 3) = V8 f + 6277101735386680763835789423207666416102355444464034512896 * (x * V4 b) := by
  have h := chain4 b f x 3
  have e0 : rowM b f x 3 0 = f 0 := rfl
  have e1 : rowM b f x 3 1 = f 1 := rfl
  have e2 : rowM b f x 3 2 = f 2 := rfl
  have e3 : rowM b f x 3 3 = rM b f x 3 0 := rfl
  have e4 : rowM b f x 3 4 = rM b f x 3 1 := rfl
  have e5 : rowM b f x 3 5 = rM b f x 3 2 := rfl
  have e6 : rowM b f x 3 6 = rM b f x 3 3 := rfl
  have e7 : rowM b f x 3 7 = cM b f x 3 4 := rfl
  simp only [Nat.reduceAdd] at h
  unfold V8
  rw [e0, e1, e2, e3, e4, e5, e6, e7, h0]
  generalize rM b f x 3 0 = r0 at *
  generalize rM b f x 3 1 = r1 at *
  generalize rM b f x 3 2 = r2 at *
  generalize rM b f x 3 3 = r3 at *
  generalize cM b f x 3 4 = c4 at *
  generalize x * V4 b = X at *
  clear e0 e1 e2 e3 e4 e5 e6 e7
  omega
/-- The rows of the product. -/
def rowsM (a b : Nat → Nat) : Nat → Nat → Nat
  | 0 => fun _ => 0
  | i + 1 => rowM b (rowsM a b i) (a i) i
theorem rowsM_lt (a b : Nat → Nat) (ha : ∀ q, a q < U64) (hb : ∀ q, b q < U64) (i q : Nat) : rowsM a b i q < U64 := by
  induction i generalizing q with
  | zero => exact (by decide : 0 < 18446744073709551616)
  | succ i ih => exact rowM_lt _ _ _ _ _ (ha i) hb ih
theorem rowsM_zero (a b : Nat → Nat) (i q : Nat) (h : i + 4 ≤ q) : rowsM a b i q = 0 := by
  induction i with
  | zero => rfl
  | succ i ih =>
    show rowM _ _ _ _ q = 0
    unfold rowM inM
    rw [if_neg (by omega), if_neg (by omega)]
    exact ih (by omega)
theorem rowsM_all (a b : Nat → Nat) : V8 (rowsM a b 4) = V4 a * V4 b := by
  have z : V8 (rowsM a b 0) = 0 := rfl
  have e1 : V8 (rowsM a b 1) = _ := V8_row0 b (rowsM a b 0) (a 0) rfl
  have e2 : V8 (rowsM a b 2) = _ := V8_row1 b (rowsM a b 1) (a 1) (rowsM_zero _ _ _ _ (by omega))
  have e3 : V8 (rowsM a b 3) = _ := V8_row2 b (rowsM a b 2) (a 2) (rowsM_zero _ _ _ _ (by omega))
  have e4 : V8 (rowsM a b 4) = _ := V8_row3 b (rowsM a b 3) (a 3) (rowsM_zero _ _ _ _ (by omega))
  rw [e4, e3, e2, e1, z]
  show _ = (a 0 + 18446744073709551616 * a 1 + 340282366920938463463374607431768211456 * a 2 + 6277101735386680763835789423207666416102355444464034512896 * a 3) * V4 b
  rw [Nat.add_mul, Nat.add_mul, Nat.add_mul, Nat.mul_assoc, Nat.mul_assoc, Nat.mul_assoc]
  omega
theorem times_val (a b : Nat) (ha : a < W256) (hb : b < W256) : V8 (rowsM (lw a) (lw b) 4) = a * b := by rw [rowsM_all, V4_lw a ha, V4_lw b hb]

/-! ### The fold -/
def cF (f : Nat → Nat) : Nat → Nat
  | 0 => 0
  | i + 1 => (f (i + 4) * 38 + f i + cF f i) / 18446744073709551616
def lF (f : Nat → Nat) (i : Nat) : Nat := (f (i + 4) * 38 + f i + cF f i) % 18446744073709551616
theorem lF_lt (f : Nat → Nat) (i : Nat) : lF f i < U64 := Nat.mod_lt _ (by decide)
theorem cF_le (f : Nat → Nat) (hf : ∀ q, f q < U64) (i : Nat) : cF f i ≤ 38 := by
  unfold U64 at hf
  induction i with
  | zero => exact Nat.zero_le _
  | succ i ih => have := hf (i + 4); have := hf i; unfold cF; omega
theorem fold_val (f : Nat → Nat) : V4 (lF f) + W256 * cF f 4 = 38 * V4 (fun q => f (q + 4)) + V4 f := by
  have h0 := Nat.mod_add_div (f (0 + 4) * 38 + f 0 + cF f 0) 18446744073709551616
  have h1 := Nat.mod_add_div (f (1 + 4) * 38 + f 1 + cF f 1) 18446744073709551616
  have h2 := Nat.mod_add_div (f (2 + 4) * 38 + f 2 + cF f 2) 18446744073709551616
  have h3 := Nat.mod_add_div (f (3 + 4) * 38 + f 3 + cF f 3) 18446744073709551616
  change lF f 0 + 18446744073709551616 * cF f 1 = f (0 + 4) * 38 + f 0 + cF f 0 at h0
  change lF f 1 + 18446744073709551616 * cF f 2 = f (1 + 4) * 38 + f 1 + cF f 1 at h1
  change lF f 2 + 18446744073709551616 * cF f 3 = f (2 + 4) * 38 + f 2 + cF f 2 at h2
  change lF f 3 + 18446744073709551616 * cF f 4 = f (3 + 4) * 38 + f 3 + cF f 3 at h3
  have hz : cF f 0 = 0 := rfl
  rw [hz] at h0
  simp only [V4, W256]
  generalize lF f 0 = r0 at *
  generalize lF f 1 = r1 at *
  generalize lF f 2 = r2 at *
  generalize lF f 3 = r3 at *
  generalize cF f 1 = c1 at *
  generalize cF f 2 = c2 at *
  generalize cF f 3 = c3 at *
  generalize cF f 4 = c4 at *
  omega
theorem V8_split (f : Nat → Nat) : V8 f = V4 f + W256 * V4 (fun q => f (q + 4)) := by
  simp only [V8, V4, W256, Nat.reduceAdd]
  omega
/-- The folded row's last word without its highest bit. -/
def lowF (f : Nat → Nat) (q : Nat) : Nat := if q = 3 then lF f 3 % 9223372036854775808 else lF f q
def topF (f : Nat → Nat) : Nat := 2 * cF f 4 + lF f 3 / 9223372036854775808
theorem lowF_lt (f : Nat → Nat) (q : Nat) : lowF f q < U64 := by
  unfold lowF
  split
  · have := lF_lt f 3; unfold U64 at *; omega
  · exact lF_lt f q
theorem topF_le (f : Nat → Nat) (hf : ∀ q, f q < U64) : topF f ≤ 77 := by
  have h1 := cF_le f hf 4
  have h2 := lF_lt f 3
  unfold topF U64 at *
  omega
theorem lowF_lt255 (f : Nat → Nat) : V4 (lowF f) < 57896044618658097711785492504343953926634992332820282019728792003956564819968 := by
  have h0 := lF_lt f 0
  have h1 := lF_lt f 1
  have h2 := lF_lt f 2
  have e0 : lowF f 0 = lF f 0 := rfl
  have e1 : lowF f 1 = lF f 1 := rfl
  have e2 : lowF f 2 = lF f 2 := rfl
  have e3 : lowF f 3 = lF f 3 % 9223372036854775808 := rfl
  unfold V4
  rw [e0, e1, e2, e3]
  unfold U64 at *
  omega
theorem fold_sum (f : Nat → Nat) (hf : ∀ q, f q < U64) : V4 (lowF f) + 19 * topF f < W256 ∧ redF (V4 (lowF f) + 19 * topF f) = V8 f % P25n := by
  have h1 := fold_val f
  have h2 := V8_split f
  have h3 := lowF_lt255 f
  have h4 := topF_le f hf
  have h5 : V4 (lF f) = V4 (lowF f) + 57896044618658097711785492504343953926634992332820282019728792003956564819968 * (lF f 3 / 9223372036854775808) := by
    have e0 : lowF f 0 = lF f 0 := rfl
    have e1 : lowF f 1 = lF f 1 := rfl
    have e2 : lowF f 2 = lF f 2 := rfl
    have e3 : lowF f 3 = lF f 3 % 9223372036854775808 := rfl
    unfold V4
    rw [e0, e1, e2, e3]
    omega
  have h6 : topF f = 2 * cF f 4 + lF f 3 / 9223372036854775808 := rfl
  generalize V4 (lowF f) = L at *
  generalize topF f = T at *
  generalize V4 (lF f) = LL at *
  generalize lF f 3 / 9223372036854775808 = t at *
  generalize cF f 4 = c at *
  generalize V4 (fun q => f (q + 4)) = H at *
  generalize V4 f = LO at *
  generalize V8 f = N at *
  refine ⟨by unfold W256; omega, ?_⟩
  rw [red_mod _ (by unfold P25n; omega)]
  unfold W256 at *
  unfold P25n
  omega
theorem times_mod (a b : Nat) (ha : a < W256) (hb : b < W256) : V4 (lowF (rowsM (lw a) (lw b) 4)) + 19 * topF (rowsM (lw a) (lw b) 4) < W256 ∧ redF (V4 (lowF (rowsM (lw a) (lw b) 4)) + 19 * topF (rowsM (lw a) (lw b) 4)) = a * b % P25n := by
  have := fold_sum (rowsM (lw a) (lw b) 4) (fun q => rowsM_lt _ _ (lw_lt a) (lw_lt b) 4 q)
  rw [times_val a b ha hb] at this
  exact this

end Go.My

/- The contracts of littleNum, littleEndian, wordsOf, encoded. -/
namespace Go.Proofs.YtfbcmckepdjdkaaDoor
open Go.RowKit Go.My Go.Lib
set_option linter.unusedVariables false

theorem info_u8l : (Tryd.prog.info? 5).map (fun i => (i.zero, i.size, i.bytes)) = some (some (.int .u8 0), 1, 1) := by kernel_rfl
theorem leN_snoc (l : List UInt8) (b : UInt8) : leN (l ++ [b]) = leN l + 256 ^ l.length * b.toNat := by rw [leN_append]; simp [leN]
theorem leVal (n j : Nat) : ((UInt8.ofNat (n / 256 ^ j)).toNat : Int) = (n : Int) / 2 ^ (8 * j) % 256 := by
  have e : (256 : Nat) ^ j = 2 ^ (8 * j) := by rw [show (256 : Nat) = 2 ^ 8 from rfl, ← Nat.pow_mul]
  rw [e, UInt8.toNat_ofNat', Int.natCast_emod, Int.natCast_ediv, Int.natCast_pow]
  rfl

set_option maxHeartbeats 1000000 in
theorem le_impl (n : Nat) (k : Nat) (w : World) (hn : n < U64) (hk : k ≤ 8) :
    Calls Tryd.prog 139 #[.int .u64 n, .int .i64 k] w fun e w' => e = .returned (.string (str (leB n k))) ∧ Below w.heap.size w w' := by
  obtain ⟨i0, hi, hz0, hz1, hz2⟩ := info_parts info_u8l
  have hk8 : (k : Int) ≤ 8 := by omega
  have hk0 : (0 : Int) ≤ (k : Int) := by omega
  have hn0 : (0 : Int) ≤ (n : Int) := by omega
  go_enter Tryd.func139, Tryd.ntmps139
  go_wp2_with (at_make; refine wpList_make_full _ rfl _ _ 39 rfl w.heap.size 5 i0 (.int .u8 0) 1 Tryd.underlying39 hi hz0 hz1 .i64 .i64 _ _ k rfl rfl rfl rfl ?c2 ?c3 ?c4 ?_)
  case c2 => rw [hz2]; omega
  case c3 => unfold maxLen; omega
  case c4 => exact Nat.le_refl _
  intro w1 hown hgrow
  have hb1 : Below w.heap.size w w1 := (Below.refl _ _).grown hgrow (Nat.le_refl _) (by simp)
  have hg1 : w.heap.size ≤ w.heap.size := Nat.le_refl _
  clear hgrow
  have ho : w1.ownsRow w.heap.size 5 1 (.slice (some ⟨w.heap.size, 0, none⟩) k k) k (cellsOf (leB n 0 ++ List.replicate (k - (leB n 0).length) 0)) := by
    have e : (madeCells #[Value.int .u8 0] k).toList = cellsOf (List.replicate k 0) := by rw [← fill_start]; exact toList_madeCells_one _ _
    rw [e] at hown
    exact hown
  clear hown
  go_wp2
  go_loopw [6, 11] (fun _ i wr => ∃ j : Nat, j ≤ k ∧ i = .int .i64 j ∧ wr.ownsRow w.heap.size 5 1 (.slice (some ⟨w.heap.size, 0, none⟩) k k) k (cellsOf (leB n j ++ List.replicate (k - (leB n j).length) 0)) ∧ Below w.heap.size w wr)
    (fun _ i _ => k - (intOf i).toNat)
  case atStart => exact ⟨0, Nat.zero_le _, rfl, ho, hb1⟩
  case round =>
    obtain ⟨j, hj, rfl, hown, hb⟩ := hrel
    by_cases hlt : j < k
    · have hj0 : (0 : Int) ≤ (j : Int) := Int.natCast_nonneg _
      have hj1 : (j : Int) < (k : Int) := by omega
      obtain ⟨hcell, hfz⟩ := store_cell (leB_len n j) hlt hown
      have R := store_step (b := UInt8.ofNat (n / 256 ^ j)) (leB_len n j) hlt hg1 hown hb
      rw [← leB_snoc, leVal] at R
      clear hown
      go_wp2
      go_roundw
      case rel => exact ⟨j + 1, by omega, by go_num, R.1, R.2⟩
      case measure => simp [intOf]; omega
    · obtain rfl : j = k := by omega
      rw [leB_len, Nat.sub_self, List.replicate_zero, List.append_nil] at hown
      have hcv := run_convert_own (P := Tryd.prog) wr 39 9 5 _ _ _ _ Tryd.underlying39 Tryd.underlying5 Tryd.underlying9 hown
      clear hown
      go_wp2
      go_ret
      exact ⟨rfl, hb⟩

theorem orAdd64 (k x y : Nat) (hx : x < 2 ^ k) (h : x + 2 ^ k * y < 18446744073709551616) : bits .or .u64 (x : Int) (IntKind.u64.wrap ((y : Int) * 2 ^ k)) = ((x + 2 ^ k * y : Nat) : Int) := by
  have e : IntKind.u64.wrap ((y : Int) * 2 ^ k) = ((2 ^ k * y : Nat) : Int) := by
    have e2 : (y : Int) * 2 ^ k = ((2 ^ k * y : Nat) : Int) := by rw [Int.natCast_mul, Int.natCast_pow, Int.mul_comm]; rfl
    rw [e2, IntKind.wrap_u64]
    omega
  rw [e, u64_or_nat _ _ (by omega) (by omega), Nat.or_comm, nat_join k (2 ^ k * y) x (by rw [Nat.mul_mod_right]) hx]
  congr 1
  omega

set_option maxHeartbeats 1000000 in
theorem ln_impl (s : ByteArray) (w : World) (hs : s.size ≤ 8) :
    Calls Tryd.prog 175 #[.string s] w fun e w' => e = .returned (.int .u64 (leN s.data.toList : Int)) ∧ w = w' := by
  have hs1 : (s.size : Int) ≤ 8 := by omega
  have HS := Lib.hid hs
  clear hs
  go_enter Tryd.func175, Tryd.ntmps175
  go_wp2
  go_loopw [3, 4] (fun x i wr => ∃ j : Nat, j ≤ s.size ∧ i = .int .i64 j ∧ x = .int .u64 (leN (s.data.toList.take j) : Int) ∧ w = wr)
    (fun _ i _ => s.size - (intOf i).toNat)
  case atStart => exact ⟨0, Nat.zero_le _, rfl, rfl, rfl⟩
  case round =>
    obtain ⟨j, hj, rfl, rfl, rfl⟩ := hrel
    by_cases hlt : j < s.size
    · have j0 : (0 : Int) ≤ (j : Int) := by omega
      have j1 : (j : Int) < (s.size : Int) := by omega
      have hsn : leN (s.data.toList.take (j + 1)) = leN (s.data.toList.take j) + 2 ^ (8 * j) * (s[j]'hlt).toNat := by
        rw [take_snoc s j hlt, leN_snoc, List.length_take, len_data, Nat.min_eq_left hj, show (256 : Nat) = 2 ^ 8 from rfl, ← Nat.pow_mul]
      have hl1 := leN_lt (s.data.toList.take j)
      rw [List.length_take, len_data, Nat.min_eq_left hj, show (256 : Nat) = 2 ^ 8 from rfl, ← Nat.pow_mul] at hl1
      have hl2 := leN_lt (s.data.toList.take (j + 1))
      rw [List.length_take, len_data, Nat.min_eq_left (by omega), show (256 : Nat) = 2 ^ 8 from rfl, ← Nat.pow_mul] at hl2
      have hl3 : leN (s.data.toList.take (j + 1)) < 18446744073709551616 := Nat.lt_of_lt_of_le hl2 (Nat.pow_le_pow_right (by omega) (by have := HS.out; omega : 8 * (j + 1) ≤ 64))
      have hor := orAdd64 (8 * j) (leN (s.data.toList.take j)) (s[j]'hlt).toNat hl1 (by rw [← hsn]; exact hl3)
      have HSN := Lib.hid hsn
      clear hl1 hl2 hl3 hsn
      generalize leN (s.data.toList.take j) = X at *
      go_wp2
      go_roundw
      case rel => exact ⟨j + 1, by omega, by go_num, by rw [show IntKind.u64.wrap ((s[j]'hlt).toNat : Int) = ((s[j]'hlt).toNat : Int) by rw [IntKind.wrap_u64]; have := (s[j]'hlt).toNat_lt; omega, hor, ← HSN.out], trivial⟩
      case measure => simp [intOf]; omega
    · have hje : j = s.size := by omega
      have hq : (s.size : Int) ≤ (j : Int) := by omega
      rw [hje, take_all]
      clear hlt hj
      go_wp2
      go_ret
      exact ⟨rfl, rfl⟩

/-! ### A key's words, and back -/
theorem leN_split (l : List UInt8) (k : Nat) (h : k ≤ l.length) : leN l = leN (l.take k) + 256 ^ k * leN (l.drop k) := by
  conv => lhs; rw [← List.take_append_drop k l, leN_append, List.length_take, Nat.min_eq_left h]
theorem leN_word (l : List UInt8) (h : l.length = 32) (i : Nat) (hi : i < 4) : lw (leN l) i = leN ((l.drop (8 * i)).take 8) := by
  have e8 : (256 : Nat) ^ 8 = 18446744073709551616 := by decide
  have s0 := leN_split l 8 (by omega)
  have s1 := leN_split (l.drop 8) 8 (by rw [List.length_drop]; omega)
  have s2 := leN_split (l.drop 16) 8 (by rw [List.length_drop]; omega)
  have s3 := leN_split (l.drop 24) 8 (by rw [List.length_drop]; omega)
  have z : leN ((l.drop 24).drop 8) = 0 := by rw [List.drop_drop, List.drop_of_length_le (by omega)]; rfl
  rw [List.drop_drop] at s1 s2
  have b0 := leN_lt (l.take 8)
  have b1 := leN_lt ((l.drop 8).take 8)
  have b2 := leN_lt ((l.drop 16).take 8)
  have b3 := leN_lt ((l.drop 24).take 8)
  rw [List.length_take, Nat.min_eq_left (by omega)] at b0
  rw [List.length_take, List.length_drop, Nat.min_eq_left (by omega)] at b1 b2 b3
  rw [e8] at s0 s1 s2 s3 b0 b1 b2 b3
  rw [z] at s3
  simp only [Nat.reduceAdd] at s1 s2
  match i with
  | 0 => simp only [lw, Nat.mul_zero, List.drop_zero]; omega
  | 1 => simp only [lw, Nat.mul_one]; omega
  | 2 => simp only [lw, Nat.reduceMul]; omega
  | 3 => simp only [lw, Nat.reduceMul]; omega
theorem ext_list (B : ByteArray) (p k : Nat) : (B.extract p (p + k)).data.toList = (B.data.toList.drop p).take k := by
  rw [ByteArray.data_extract, Array.toList_extract, List.extract_eq_take_drop]
  congr 1
  omega

set_option maxHeartbeats 2000000 in
theorem wordsOf_any (s : ByteArray) (w : World) (hs : s.size = 32) :
    Calls Tryd.prog 131 #[.string s] w fun e w' => e = .returned (.agg (fldA (leN s.data.toList))) ∧ Below w.heap.size w w' := by
  have HFN := Lib.hid (fun m => fszN m)
  have hs1 : (s.size : Int) = 32 := by omega
  have HW := Lib.hid (fun i hi => leN_word s.data.toList (by rw [len_data]; exact hs) i hi)
  have HS := Lib.hid hs
  clear hs
  go_enter Tryd.func131, Tryd.ntmps131
  go_wp2
  go_loopw [5] (fun i wr => ∃ j : Nat, j ≤ 4 ∧ i = .int .i64 j ∧ wr.heap[w.heap.size + 1]? = some (.cells (rwA .u64 4 (upTo j (fun q => (lw (leN s.data.toList) q : Int)) (fun _ => 0))) 97 (0, 0)) ∧ wr.heap[w.heap.size]? = some (.cells Z4 97 (0, 0)) ∧ Below w.heap.size w wr)
    (fun i _ => 4 - (intOf i).toNat)
  case atStart => exact ⟨0, by omega, rfl, by rw [upTo_zero]; exact heap_alloc2_new w _ _, heap_alloc2_old w _ _, ((Below.refl _ _).alloc (Nat.le_refl _) _).alloc (by simp) _⟩
  case round =>
    obtain ⟨j, hj, rfl, hl, hz, hb⟩ := hrel
    by_cases hlt : j < 4
    · have hcell := (cell_of_row wr (w.heap.size + 1) j _ _ _ hl).trans (rwA_get .u64 4 _ j hlt)
      have hfz := frozen_of_row wr (w.heap.size + 1) j _ _ hl
      have hst := heap_setCell_same wr (w.heap.size + 1) j _ _ (.int .u64 (lw (leN s.data.toList) j : Int)) hl
      rw [upTo_set .u64 4 j (fun q => (lw (leN s.data.toList) q : Int)) (fun _ => 0) hlt] at hst
      have hz' : (wr.setCell ⟨w.heap.size + 1, j, none⟩ (.int .u64 (lw (leN s.data.toList) j : Int))).heap[w.heap.size]? = _ := (heap_setCell_other wr _ _ _ (by simp)).trans hz
      have hb' := hb.setCell (p := ⟨w.heap.size + 1, j, none⟩) (by simp) (.int .u64 (lw (leN s.data.toList) j : Int))
      have HR := Lib.hid (And.intro hst (And.intro hz' hb'))
      have j0 : (0 : Int) ≤ (j : Int) := by omega
      have j1 : (j : Int) < 4 := by omega
      have a0 : (0 : Int) ≤ 8 * (j : Int) := by omega
      have a1 : 8 * (j : Int) ≤ 8 * (j : Int) + 8 := by omega
      have a2 : 8 * (j : Int) + 8 ≤ 32 := by omega
      have a3 : (0 : Int) ≤ 8 * (j : Int) + 8 := by omega
      have at1 : (8 * (j : Int)).toNat = 8 * j := by omega
      have at2 : (8 * (j : Int) + 8).toNat = 8 * j + 8 := by omega
      have aw : IntKind.i64.wrap (8 * (j : Int)) = 8 * (j : Int) := IntWalk.i64_in _ (by omega)
      have aw2 : IntKind.i64.wrap (8 * (j : Int) + 8) = 8 * (j : Int) + 8 := IntWalk.i64_in _ (by omega)
      have HWJ := Lib.hid (HW.out j hlt)
      have HX : Hid ((s.extract (8 * j) (8 * j + 8)).data.toList = (s.data.toList.drop (8 * j)).take 8) := ext_list s (8 * j) 8
      have HXS : Hid ((s.extract (8 * j) (8 * j + 8)).size ≤ 8) := by show _ ≤ _; rw [ByteArray.size_extract]; omega
      clear hst hz' hb' hl hz hb
      go_wp2_with fail
      refine (ln_impl _ _ HXS.out).mono ?_
      rintro e w' ⟨rfl, rfl⟩
      rw [HX.out, ← HWJ.out]
      generalize lw (leN s.data.toList) j = D at *
      go_wp2
      go_roundw
      case rel => exact ⟨j + 1, by omega, by go_num, HR.out.1, HR.out.2.1, HR.out.2.2⟩
      case measure => simp [intOf]; omega
    · have hje : j = 4 := by omega
      have hpj : (4 : Int) ≤ (j : Int) := by omega
      have hfe : rwA .u64 4 (fun q => (lw (leN s.data.toList) q : Int)) = fldA (leN s.data.toList) := rfl
      rw [hje, upTo_all, hfe] at hl
      have H1N := Lib.hid (fun m => oneN m)
      have HZN := Lib.hid (fun m => zszN m)
      clear hlt hj hje hfe
      go_wp2_with (first
        | with_reducible refine wpList_load_row (o := ⟨some 19, _, _, _, _, _⟩) rfl 97 _ rfl (w.heap.size + 1) rfl 97 (fldA (leN s.data.toList)) (0, 0) (.array 4 95) hl Tryd.underlying97 rfl (HFN.out _) ?_
        | with_reducible (refine wpList_store_row (o := ⟨none, .store 97 _ _, _, _, _, _⟩) rfl 97 _ _ rfl w.heap.size (fldA (leN s.data.toList)) rfl rfl 97 Z4 hz (HFN.out _) (HZN.out _) (H1N.out _) ?_))
      have hrow := setRow_heap wr w.heap.size Z4 (fldA (leN s.data.toList)) 97 (0, 0) hz
      refine bodyPost_ret (v := .agg (fldA (leN s.data.toList))) ?_ rfl ⟨rfl, ?_⟩
      · exact results_cell_row Tryd.results131 _ _ w.heap.size 97 _ (0, 0) _ rfl hrow Tryd.underlying97 rfl (HFN.out _)
      · exact hb.trans ⟨rfl, rfl, rfl, by simp, fun k hk => setRow_other wr w.heap.size k _ (by omega)⟩

def encP (n : Nat) : Nat → List UInt8
  | 0 => []
  | j + 1 => encP n j ++ leB (lw n j) 8
theorem encP_len (n j : Nat) : (encP n j).length = 8 * j := by
  induction j with
  | zero => rfl
  | succ j ih => rw [encP, List.length_append, ih, leB_len]; omega
theorem encP_all (n : Nat) : encP n 4 = leB n 32 := leB_words n

set_option maxHeartbeats 2000000 in
theorem encoded_any (n : Nat) (w : World) :
    Calls Tryd.prog 80 #[.agg (fldA n)] w fun e w' => e = .returned (.string (str (leB n 32))) ∧ Below w.heap.size w w' := by
  have HF := Lib.hid (fun f => fsz f)
  have HX := Lib.hid (fun f i hi wx => fidx f i hi wx)
  have HGA : Hid (fldA n = rwA .u64 4 (fun q => (lw n q : Int))) := rfl
  rw [HGA.out, ← encP_all n]
  go_enter Tryd.func80, Tryd.ntmps80
  go_wp2_with (first
    | with_reducible refine wpList_load_row (o := ⟨some 6, _, _, _, _, _⟩) rfl 97 _ rfl w.heap.size rfl 97 (rwA .u64 4 (fun q => (lw n q : Int))) (0, 0) (.array 4 95) (heap_alloc_new w _) Tryd.underlying97 rfl (HF.out _) ?_)
  go_loopw [3, 7] (fun o i wr => ∃ j : Nat, j ≤ 4 ∧ i = .int .i64 j ∧ o = .string (str (encP n j)) ∧ Below w.heap.size w wr)
    (fun _ i _ => 4 - (intOf i).toNat)
  case atStart => exact ⟨0, by omega, rfl, rfl, (Below.refl _ _).alloc (Nat.le_refl _) _⟩
  case round =>
    obtain ⟨j, hj, rfl, rfl, hb⟩ := hrel
    by_cases hlt : j < 4
    · have hidx := HX.out (fun q => (lw n q : Int)) j hlt
      have HSN : Hid (str (encP n j) ++ str (leB (lw n j) 8) = str (encP n (j + 1))) := by show _ = _; rw [str_app]; rfl
      have hos : (str (encP n j)).size = 8 * j := by rw [str_size, encP_len]
      have hls : (str (leB (lw n j) 8)).size = 8 := by rw [str_size, leB_len]
      have hcat : ¬ 9223372036854775807 < (str (encP n j)).size + (str (leB (lw n j) 8)).size := by omega
      have HLE := Lib.hid (fun wx => le_impl (lw n j) 8 wx (lw_lt n j) (by omega))
      have j0 : (0 : Int) ≤ (j : Int) := by omega
      have j1 : (j : Int) < 4 := by omega
      clear hos hls
      generalize str (leB (lw n j) 8) = E at *
      generalize lw n j = X at *
      generalize str (encP n j) = O at *
      go_wp2_with fail
      refine (HLE.out _).mono ?_
      rintro e w2 ⟨rfl, hb2⟩
      have hbq := hb.trans (hb2.mono hb.size)
      clear hb hb2
      go_wp2
      go_roundw
      case rel => exact ⟨j + 1, by omega, by go_num, by rw [HSN.out], hbq⟩
      case measure => simp [intOf]; omega
    · have hje : j = 4 := by omega
      have hpj : (4 : Int) ≤ (j : Int) := by omega
      rw [hje]
      clear hlt hj
      go_wp2
      go_ret
      exact ⟨rfl, hb⟩

theorem isKey_any (s : ByteArray) (w : World) (hs : s.size ≤ 9223372036854775807) :
    Calls Tryd.prog 83 #[.string s] w fun e w' => e = .returned (.bool (decide (s.size = 32))) ∧ w = w' := by
  have hd : ((s.size : Int) == 32) = decide (s.size = 32) := by
    by_cases h : s.size = 32
    · rw [h]; rfl
    · rw [decide_eq_false h]; exact beq_eq_false_iff_ne.2 (by omega)
  go_enter Tryd.func83, Tryd.ntmps83
  go_wp2
  go_ret
  exact ⟨rfl, rfl⟩

end Go.Proofs.YtfbcmckepdjdkaaDoor

/- Regions that draw their order, made of operations whose results do not hang on it: loads, builds, calls that only make memory, new variables and their first stores. Nothing of the program is named. -/
namespace Go.My
open Go.RowKit
set_option linter.unusedVariables false

def dstOf (ops : Array Oper) (i : Nat) : Option Tmp := (ops[i]?).bind (·.dst)
/-- The frame behind those of the first n operations that have come up. -/
def putAll (ops : Array Oper) (v : Nat → Value) (L : Nat → Bool) (a : Act) : Nat → Act
  | 0 => a
  | n + 1 => if L n then (putAll ops v L a n).put (dstOf ops n) (v n) else putAll ops v L a n
def Apart (ops : Array Oper) (m : Nat) : Prop := ∀ i j, i < m → j < m → i ≠ j → ∀ d, dstOf ops i = some d → dstOf ops j ≠ some d
def apartB (ops : Array Oper) (m : Nat) : Bool := (List.range m).all fun i => (List.range m).all fun j => i == j || dstOf ops i == none || dstOf ops i != dstOf ops j
theorem apart_of {ops : Array Oper} {m : Nat} (h : apartB ops m = true) : Apart ops m := by
  intro i j hi hj hne d hd he
  have := List.all_eq_true.1 (List.all_eq_true.1 h i (List.mem_range.2 hi)) j (List.mem_range.2 hj)
  simp [hne, hd, he] at this
theorem putAll_congr {ops : Array Oper} {v v' : Nat → Value} {L L' : Nat → Bool} {a : Act} : ∀ n, (∀ j, j < n → L j = L' j ∧ (L j = true → v j = v' j)) → putAll ops v L a n = putAll ops v' L' a n
  | 0, _ => rfl
  | n + 1, h => by
    have ih := putAll_congr (ops := ops) (a := a) n (fun j hj => h j (by omega))
    have hn := h n (by omega)
    unfold putAll
    rw [ih, ← hn.1]
    by_cases c : L n = true
    · rw [if_pos c, if_pos c, hn.2 c]
    · rw [if_neg c, if_neg c]
theorem putAll_add {ops : Array Oper} {m : Nat} (hd : Apart ops m) {v v' : Nat → Value} {L L' : Nat → Bool} {a : Act} {i : Nat} (hi : i < m) (h0 : L i = false) (h1 : L' i = true)
    (hL : ∀ j, j ≠ i → L' j = L j) (hv : ∀ j, j ≠ i → v' j = v j) : ∀ n, i < n → n ≤ m → putAll ops v' L' a n = (putAll ops v L a n).put (dstOf ops i) (v' i)
  | 0, h, _ => by omega
  | n + 1, h, hm => by
    by_cases c : n = i
    · subst c
      have := putAll_congr (ops := ops) (a := a) (v := v') (v' := v) (L := L') (L' := L) n (fun j hj => ⟨hL j (by omega), fun _ => hv j (by omega)⟩)
      show (if L' n then _ else _) = _
      rw [if_pos h1, this]
      show _ = ((if L n then _ else _ : Act)).put _ _
      rw [if_neg (by rw [h0]; decide)]
    · have ih := putAll_add hd (a := a) hi h0 h1 hL hv n (by omega) (by omega)
      show (if L' n then _ else _) = ((if L n then _ else _ : Act)).put _ _
      rw [hL n c, ih, hv n c]
      by_cases k : L n = true
      · rw [if_pos k, if_pos k]
        exact Act.put_comm _ _ _ (fun d e => hd i n hi (by omega) (Ne.symm c) d e)
      · rw [if_neg k, if_neg k]
theorem putAll_size {ops : Array Oper} {v : Nat → Value} {L : Nat → Bool} {a : Act} : ∀ n, (putAll ops v L a n).tmps.size = a.tmps.size
  | 0 => rfl
  | n + 1 => by
    have ih := putAll_size (ops := ops) (v := v) (L := L) (a := a) n
    unfold putAll
    split
    · cases dstOf ops n with
      | none => exact ih
      | some d => simp [Act.put, ih]
    · exact ih
theorem eval_old {ops : Array Oper} {v : Nat → Value} {L : Nat → Bool} {a : Act} {k : Tmp} : ∀ n, (∀ j, j < n → dstOf ops j ≠ some k) → (putAll ops v L a n).eval (.tmp k) = a.eval (.tmp k)
  | 0, _ => rfl
  | n + 1, h => by
    have ih := eval_old (v := v) (L := L) (a := a) n (fun j hj => h j (by omega))
    unfold putAll
    split
    · rw [Act.eval_put (fun d e c => h n (by omega) (by rw [e]; injection c with c; rw [c])), ih]
    · exact ih
theorem eval_new {ops : Array Oper} {m : Nat} (hd : Apart ops m) {v : Nat → Value} {L : Nat → Bool} {a : Act} {k : Tmp} {j : Nat} (hk : k < a.tmps.size) (hj : dstOf ops j = some k) (hl : L j = true) : ∀ n, j < n → n ≤ m → (putAll ops v L a n).eval (.tmp k) = v j
  | 0, h, _ => by omega
  | n + 1, h, hm => by
    by_cases c : n = j
    · subst c
      show ((if L n then _ else _ : Act)).eval _ = _
      rw [if_pos hl, hj]
      have := putAll_size (ops := ops) (v := v) (L := L) (a := a) n
      simp [Act.eval, Act.put, this, hk]
    · have ih := eval_new hd (v := v) (a := a) hk hj hl n (by omega) (by omega)
      show ((if L n then _ else _ : Act)).eval _ = _
      split
      · rw [Act.eval_put (fun d e c' => hd j n (by omega) (by omega) (Ne.symm c) k hj (by rw [e]; injection c' with c'; rw [c'])), ih]
      · exact ih

/-- What an operation does: it yields this value; it makes a variable; it stores into the variable that number j made. -/
inductive Kd
  | val (x : Value)
  | new (T : TypeId) (Z : Array Value)
  | put (j : Nat) (T : TypeId) (cs : Array Value)
  | old (g : Nat) (T : TypeId) (cs : Array Value)
/-- The blocks that stood at the start, but for those of G, are as they were. -/
structure Kept (G : Nat → Prop) (w w' : World) : Prop where
  os : w'.os = w.os
  tape : w'.tape = w.tape
  output : w'.output = w.output
  size : w.heap.size ≤ w'.heap.size
  block : ∀ k, k < w.heap.size → ¬ G k → w'.heap[k]? = w.heap[k]?
theorem Kept.refl (G : Nat → Prop) (w : World) : Kept G w w := ⟨rfl, rfl, rfl, Nat.le_refl _, fun _ _ _ => rfl⟩
theorem Kept.below {G : Nat → Prop} {w w' : World} (h : Kept G w w') (hG : ∀ k, ¬ G k) : Below w.heap.size w w' := ⟨h.os, h.tape, h.output, h.size, fun k hk => h.block k hk (hG k)⟩
theorem Kept.base {G : Nat → Prop} {B : Nat} {w w' : World} (h : Kept G w w') (hB : B ≤ w.heap.size) (hG : ∀ k, k < B → ¬ G k) : Below B w w' := ⟨h.os, h.tape, h.output, h.size, fun k hk => h.block k (by omega) (hG k hk)⟩
theorem Kept.then {G : Nat → Prop} {w w' w2 : World} (h : Kept G w w') (hb : Below w'.heap.size w' w2) : Kept G w w2 := ⟨hb.os.trans h.os, hb.tape.trans h.tape, hb.output.trans h.output, Nat.le_trans h.size hb.size, fun k hk hg => (hb.block k (by have := h.size; omega)).trans (h.block k hk hg)⟩
theorem Kept.mono {G G' : Nat → Prop} {w w' : World} (h : Kept G w w') (hG : ∀ k, G k → G' k) : Kept G' w w' := ⟨h.os, h.tape, h.output, h.size, fun k hk hg => h.block k hk (fun c => hg (hG k c))⟩
/-- The old blocks into which what has come up has stored; all of them. -/
def HitBy (D : Nat → Kd) (L : Nat → Bool) (k : Nat) : Prop := ∃ i T cs, L i = true ∧ D i = .old k T cs
def Hits (D : Nat → Kd) (k : Nat) : Prop := ∃ i T cs, D i = .old k T cs
def IsNew (k : Kd) : Prop := ∃ T Z, k = .new T Z
def OkAt (B : Nat) (D : Nat → Kd) (v : Nat → Value) (L : Nat → Bool) (w : World) (i : Nat) : Prop :=
  match D i with
  | .val x => v i = x
  | .new T Z => (∃ g cs, v i = .pointer (some ⟨g, 0, none⟩) ∧ B ≤ g ∧ cs.size = Z.size ∧ w.heap[g]? = some (.cells cs T (0, 0))) ∧ ∀ j, j ≠ i → L j = true → IsNew (D j) → v j ≠ v i
  | .put j T cs => (L j = true ∧ IsNew (D j)) ∧ ∃ g, v j = .pointer (some ⟨g, 0, none⟩) ∧ w.heap[g]? = some (.cells cs T (0, 0))
  | .old g T cs => g < B ∧ w.heap[g]? = some (.cells cs T (0, 0))
def OkAll (B : Nat) (D : Nat → Kd) (v : Nat → Value) (L : Nat → Bool) (w : World) : Prop := ∀ i, L i = true → OkAt B D v L w i
def Dep (o : Oper) (j : Nat) : Prop := ∃ e ∈ o.after, Region.binds .any e = true ∧ e.on = j
def depB (o : Oper) (j : Nat) : Bool := o.after.any fun e => Region.binds .any e && e.on == j
theorem dep_of {o : Oper} {j : Nat} (h : depB o j = true) : Dep o j := by
  obtain ⟨e, he, hb⟩ := Array.any_eq_true'.1 h
  simp at hb
  exact ⟨e, he, hb.1, hb.2⟩
/-- Where slot k has the value y from: from ahead of the region, or from an operation that this one waits for. -/
def Src (ops : Array Oper) (m : Nat) (a0 : Act) (D : Nat → Kd) (o : Oper) (k : Tmp) (y : Value) : Prop :=
  ((∀ j, j < m → dstOf ops j ≠ some k) ∧ a0.eval (.tmp k) = y) ∨ (∃ j, j < m ∧ dstOf ops j = some k ∧ D j = .val y ∧ Dep o j)
def freeB (ops : Array Oper) (m : Nat) (k : Tmp) : Bool := (List.range m).all fun j => dstOf ops j != some k
theorem src_old {ops : Array Oper} {m : Nat} {a0 : Act} {D : Nat → Kd} {o : Oper} {k : Tmp} {y : Value} (h : freeB ops m k = true) (e : a0.eval (.tmp k) = y) : Src ops m a0 D o k y :=
  .inl ⟨fun j hj c => by have := List.all_eq_true.1 h j (List.mem_range.2 hj); simp [c] at this, e⟩
theorem src_new {ops : Array Oper} {m : Nat} {a0 : Act} {D : Nat → Kd} {o : Oper} {k : Tmp} {y : Value} (j : Nat) (hj : j < m) (hd : dstOf ops j = some k) (e : D j = .val y) (h : depB o j = true) : Src ops m a0 D o k y := .inr ⟨j, hj, hd, e, dep_of h⟩
def StepOk (P : Program) (Q : Exit → Act → World → Prop) (ops : Array Oper) (m : Nat) (a0 : Act) (w0 : World) (D : Nat → Kd) (i : Nat) : Prop :=
  ∃ o, ops[i]? = some o ∧ o.guard = none ∧
  match D i with
  | .val x => ∃ N : List (Tmp × Value), (∀ p ∈ N, Src ops m a0 D o p.1 p.2) ∧ ∀ (a : Act) (w : World), (∀ p ∈ N, a.eval (.tmp p.1) = p.2) → Kept (Hits D) w0 w → o.wp P a w (fun a' w' => a' = a.put o.dst x ∧ Below w.heap.size w w') Q
  | .new T Z => o.op = .alloc T ∧ ∀ w, (Instr.alloc T true (.tuple #[])).run P w = .ok (.pointer (some ⟨w.heap.size, 0, none⟩)) (w.alloc (.cells Z T))
  | .put j T cs => ∃ d k, o.op = .store T (.tmp d) (.tmp k) ∧ o.dst = none ∧ j < m ∧ dstOf ops j = some d ∧ Dep o j ∧ (∃ Z, D j = .new T Z ∧ Z.size = cs.size) ∧ Src ops m a0 D o k (.agg cs) ∧ (P.info? T).map (·.size) = some cs.size ∧ cs.all (·.oneCell') = true ∧ (∀ i', i' ≠ i → ∀ T' cs', D i' ≠ .put j T' cs')
  | .old g T cs => ∃ d k od, o.op = .store T (.tmp d) (.tmp k) ∧ o.dst = none ∧ Src ops m a0 D o d (.pointer (some ⟨g, 0, none⟩)) ∧ w0.heap[g]? = some (.cells od T (0, 0)) ∧ od.size = cs.size ∧ Src ops m a0 D o k (.agg cs) ∧ (P.info? T).map (·.size) = some cs.size ∧ cs.all (·.oneCell') = true ∧ (∀ i', i' ≠ i → ∀ T' cs', D i' ≠ .old g T' cs')

section
variable {P : Program} {Q : Exit → Act → World → Prop} {ops : Array Oper} {m : Nat} {a0 : Act} {w0 : World} {D : Nat → Kd}

theorem upd_ne {v : Nat → Value} {i : Nat} {x : Value} {j : Nat} (h : j ≠ i) : (fun k => if k = i then x else v k) j = v j := if_neg h
theorem upd_at {v : Nat → Value} {i : Nat} {x : Value} : (fun k => if k = i then x else v k) i = x := if_pos rfl
theorem updL_ne {L : Nat → Bool} {i j : Nat} (h : j ≠ i) : (fun k => if k = i then true else L k) j = L j := if_neg h
theorem OkAll.grow {B : Nat} {v : Nat → Value} {L : Nat → Bool} {w w' : World} (h : OkAll B D v L w) (hb : Below w.heap.size w w') : OkAll B D v L w' := by
  intro i hi
  have := h i hi
  unfold OkAt at *
  split
  · rename_i x e; rw [e] at this; exact this
  · rename_i T Z e
    rw [e] at this
    obtain ⟨⟨g, cs, h1, h2, h3, h4⟩, h5⟩ := this
    exact ⟨⟨g, cs, h1, h2, h3, (hb.block g (Array.getElem?_eq_some_iff.1 h4).1).trans h4⟩, h5⟩
  · rename_i j T cs e
    rw [e] at this
    obtain ⟨h0, g, h1, h2⟩ := this
    exact ⟨h0, g, h1, (hb.block g (Array.getElem?_eq_some_iff.1 h2).1).trans h2⟩
  · rename_i g T cs e
    rw [e] at this
    exact ⟨this.1, (hb.block g (Array.getElem?_eq_some_iff.1 this.2).1).trans this.2⟩
/-- One operation more, that made no variable and stored into none. -/
theorem OkAll.more {B : Nat} {v : Nat → Value} {L : Nat → Bool} {w : World} {i : Nat} {x : Value} (h : OkAll B D v L w) (h0 : L i = false) (hx : D i = .val x) :
    OkAll B D (fun k => if k = i then x else v k) (fun k => if k = i then true else L k) w := by
  intro j hj
  by_cases c : j = i
  · subst c; unfold OkAt; rw [hx]; exact if_pos rfl
  · have hl : L j = true := by rw [← updL_ne (L := L) c]; exact hj
    have := h j hl
    unfold OkAt at *
    split
    · rename_i y e; rw [e] at this; exact (upd_ne c).trans this
    · rename_i T Z e
      rw [e] at this
      obtain ⟨⟨g, cs, h1, h2⟩, h5⟩ := this
      refine ⟨⟨g, cs, (upd_ne c).trans h1, h2⟩, fun q hq hlq hn => ?_⟩
      have hqi : q ≠ i := fun e => by subst e; rw [hx] at hn; obtain ⟨_, _, hn⟩ := hn; cases hn
      rw [upd_ne hqi, upd_ne c]
      exact h5 q hq (by rw [← updL_ne (L := L) hqi]; exact hlq) hn
    · rename_i q T cs e
      rw [e] at this
      obtain ⟨⟨hq, hn⟩, g, h1, h2⟩ := this
      have hqi : q ≠ i := fun e => by subst e; rw [h0] at hq; cases hq
      exact ⟨⟨(updL_ne hqi).trans hq, hn⟩, g, (upd_ne hqi).trans h1, h2⟩
    · rename_i g T' cs e
      rw [e] at this
      exact this
theorem OkAll.made {B : Nat} {v : Nat → Value} {L : Nat → Bool} {w : World} {i : Nat} {T : TypeId} {Z : Array Value} (h : OkAll B D v L w) (h0 : L i = false) (hx : D i = .new T Z) (hB : B ≤ w.heap.size) :
    OkAll B D (fun k => if k = i then .pointer (some ⟨w.heap.size, 0, none⟩) else v k) (fun k => if k = i then true else L k) (w.alloc (.cells Z T)) := by
  have hg := h.grow (w' := w.alloc (.cells Z T)) ((Below.refl _ _).alloc (Nat.le_refl _) _)
  have apart : ∀ j, j ≠ i → L j = true → IsNew (D j) → v j ≠ .pointer (some ⟨w.heap.size, 0, none⟩) := fun j hj hl ⟨T', Z', hn⟩ e => by
    have := h j hl
    unfold OkAt at this
    rw [hn] at this
    obtain ⟨⟨g, cs, h1, _, _, h4⟩, _⟩ := this
    rw [h1] at e
    injection e with e; injection e with e; injection e with e
    have := (Array.getElem?_eq_some_iff.1 h4).1
    omega
  intro j hj
  by_cases c : j = i
  · subst c
    unfold OkAt
    rw [hx]
    refine ⟨⟨w.heap.size, Z, if_pos rfl, hB, rfl, heap_alloc_new w _⟩, fun q hq hl hn => ?_⟩
    rw [upd_ne hq, upd_at]
    exact apart q hq (by rw [← updL_ne (L := L) hq]; exact hl) hn
  · have hl : L j = true := by rw [← updL_ne (L := L) c]; exact hj
    have := hg j hl
    unfold OkAt at *
    split
    · rename_i y e; rw [e] at this; exact (upd_ne c).trans this
    · rename_i T' Z' e
      rw [e] at this
      obtain ⟨⟨g, cs, h1, h2⟩, h5⟩ := this
      refine ⟨⟨g, cs, (upd_ne c).trans h1, h2⟩, fun q hq hlq hn => ?_⟩
      by_cases hqi : q = i
      · subst hqi
        rw [upd_at, upd_ne c]
        exact Ne.symm (apart j c hl ⟨_, _, e⟩)
      · rw [upd_ne hqi, upd_ne c]
        exact h5 q hq (by rw [← updL_ne (L := L) hqi]; exact hlq) hn
    · rename_i q T' cs e
      rw [e] at this
      obtain ⟨⟨hq, hn⟩, g, h1, h2⟩ := this
      have hqi : q ≠ i := fun e => by subst e; rw [h0] at hq; cases hq
      exact ⟨⟨(updL_ne hqi).trans hq, hn⟩, g, (upd_ne hqi).trans h1, h2⟩
    · rename_i g T' cs e
      rw [e] at this
      exact this
theorem OkAll.stored {B : Nat} {v : Nat → Value} {L : Nat → Bool} {w : World} {i j g : Nat} {T : TypeId} {Z cs : Array Value} (h : OkAll B D v L w) (h0 : L i = false) (hx : D i = .put j T cs) (hj : D j = .new T Z) (hz : Z.size = cs.size) (hlj : L j = true)
    (hv : v j = .pointer (some ⟨g, 0, none⟩)) (hBg : B ≤ g) {old : Array Value} (hg : w.heap[g]? = some (.cells old T (0, 0))) (hu : ∀ i', i' ≠ i → ∀ T' cs', D i' ≠ .put j T' cs') :
    OkAll B D (fun k => if k = i then undef else v k) (fun k => if k = i then true else L k) (w.setRow g cs) := by
  have hji : j ≠ i := fun e => by subst e; rw [h0] at hlj; cases hlj
  intro q hq
  by_cases c : q = i
  · subst c
    unfold OkAt
    rw [hx]
    exact ⟨⟨(updL_ne hji).trans hlj, ⟨_, _, hj⟩⟩, g, (upd_ne hji).trans hv, setRow_heap w g old cs T (0, 0) hg⟩
  · have hl : L q = true := by rw [← updL_ne (L := L) c]; exact hq
    have := h q hl
    unfold OkAt at *
    split
    · rename_i y e; rw [e] at this; exact (upd_ne c).trans this
    · rename_i T' Z' e
      rw [e] at this
      obtain ⟨⟨g', cs', h1, h2, h3, h4⟩, h5⟩ := this
      refine ⟨?_, fun r hr hlr hn => ?_⟩
      · by_cases k : g' = g
        · subst k
          have hqj : q = j := by
            refine Classical.byContradiction fun hne => ?_
            exact h5 j (Ne.symm hne) hlj ⟨_, _, hj⟩ (by rw [h1, hv])
          subst hqj
          rw [hj] at e
          injection e with e1 e2
          subst e1; subst e2
          exact ⟨g', cs, (upd_ne c).trans h1, h2, hz.symm, setRow_heap w g' old cs T (0, 0) hg⟩
        · exact ⟨g', cs', (upd_ne c).trans h1, h2, h3, (setRow_other w g g' cs k).trans h4⟩
      · have hri : r ≠ i := fun e => by subst e; rw [hx] at hn; obtain ⟨_, _, hn⟩ := hn; cases hn
        rw [upd_ne hri, upd_ne c]
        exact h5 r hr (by rw [← updL_ne (L := L) hri]; exact hlr) hn
    · rename_i r T' cs' e
      rw [e] at this
      obtain ⟨⟨hr, hn⟩, g', h1, h2⟩ := this
      have hri : r ≠ i := fun e => by subst e; rw [h0] at hr; cases hr
      refine ⟨⟨(updL_ne hri).trans hr, hn⟩, g', (upd_ne hri).trans h1, ?_⟩
      by_cases k : g' = g
      · subst k
        exfalso
        by_cases hrj : r = j
        · subst hrj; exact hu q c _ _ e
        · have hjj := h j hlj
          unfold OkAt at hjj
          rw [hj] at hjj
          exact hjj.2 r hrj hr hn (by rw [h1, hv])
      · exact (setRow_other w g g' cs k).trans h2
    · rename_i g' T' cs' e
      rw [e] at this
      exact ⟨this.1, (setRow_other w g g' cs (by omega)).trans this.2⟩
theorem OkAll.storedOld {B : Nat} {v : Nat → Value} {L : Nat → Bool} {w : World} {i g : Nat} {T : TypeId} {cs : Array Value} (h : OkAll B D v L w) (h0 : L i = false) (hx : D i = .old g T cs) (hgB : g < B)
    {od : Array Value} (hg : w.heap[g]? = some (.cells od T (0, 0))) (hu : ∀ i', i' ≠ i → ∀ T' cs', D i' ≠ .old g T' cs') :
    OkAll B D (fun k => if k = i then undef else v k) (fun k => if k = i then true else L k) (w.setRow g cs) := by
  intro q hq
  by_cases c : q = i
  · subst c
    unfold OkAt
    rw [hx]
    exact ⟨hgB, setRow_heap w g od cs T (0, 0) hg⟩
  · have hl : L q = true := by rw [← updL_ne (L := L) c]; exact hq
    have := h q hl
    unfold OkAt at *
    split
    · rename_i y e; rw [e] at this; exact (upd_ne c).trans this
    · rename_i T' Z' e
      rw [e] at this
      obtain ⟨⟨g', cs', h1, h2, h3, h4⟩, h5⟩ := this
      refine ⟨⟨g', cs', (upd_ne c).trans h1, h2, h3, (setRow_other w g g' cs (by omega)).trans h4⟩, fun r hr hlr hn => ?_⟩
      have hri : r ≠ i := fun e => by subst e; rw [hx] at hn; obtain ⟨_, _, hn⟩ := hn; cases hn
      rw [upd_ne hri, upd_ne c]
      exact h5 r hr (by rw [← updL_ne (L := L) hri]; exact hlr) hn
    · rename_i r T' cs' e
      rw [e] at this
      obtain ⟨⟨hr, hn⟩, g', h1, h2⟩ := this
      have hri : r ≠ i := fun e => by subst e; rw [h0] at hr; cases hr
      refine ⟨⟨(updL_ne hri).trans hr, hn⟩, g', (upd_ne hri).trans h1, ?_⟩
      have hBg : B ≤ g' := by
        obtain ⟨T2, Z2, hn2⟩ := hn
        have hrr := h r hr
        unfold OkAt at hrr
        rw [hn2] at hrr
        obtain ⟨⟨g2, _, e1, e2, _⟩, _⟩ := hrr
        rw [h1] at e1
        injection e1 with e1; injection e1 with e1; injection e1 with e1
        omega
      exact (setRow_other w g g' cs (by omega)).trans h2
    · rename_i g' T' cs' e
      rw [e] at this
      exact ⟨this.1, (setRow_other w g g' cs (fun k => by subst k; exact hu q c _ _ e)).trans this.2⟩

theorem okPtr {B : Nat} {v : Nat → Value} {L : Nat → Bool} {w : World} {j : Nat} {T : TypeId} {Z : Array Value} (h : OkAll B D v L w) (hl : L j = true) (hj : D j = .new T Z) : ∃ g cs, v j = .pointer (some ⟨g, 0, none⟩) ∧ B ≤ g ∧ cs.size = Z.size ∧ w.heap[g]? = some (.cells cs T (0, 0)) := by
  have := h j hl
  unfold OkAt at this
  rw [hj] at this
  exact this.1
theorem okVal {B : Nat} {v : Nat → Value} {L : Nat → Bool} {w : World} {j : Nat} {x : Value} (h : OkAll B D v L w) (hl : L j = true) (hj : D j = .val x) : v j = x := by
  have := h j hl
  unfold OkAt at this
  rw [hj] at this
  exact this
theorem okRow {B : Nat} {v : Nat → Value} {L : Nat → Bool} {w : World} {i j : Nat} {T : TypeId} {cs : Array Value} (h : OkAll B D v L w) (hl : L i = true) (hj : D i = .put j T cs) : ∃ g, v j = .pointer (some ⟨g, 0, none⟩) ∧ w.heap[g]? = some (.cells cs T (0, 0)) := by
  have := h i hl
  unfold OkAt at this
  rw [hj] at this
  exact this.2
theorem Src.eval {o : Oper} {k : Tmp} {y : Value} {B : Nat} {v : Nat → Value} {L : Nat → Bool} {w : World} (hd : Apart ops m) (hsz : ∀ j d, dstOf ops j = some d → d < a0.tmps.size) (h : Src ops m a0 D o k y) (ho : OkAll B D v L w) (hdep : ∀ j, Dep o j → L j = true) :
    (putAll ops v L a0 m).eval (.tmp k) = y := by
  rcases h with ⟨h1, h2⟩ | ⟨j, hj, h1, h2, h3⟩
  · exact (eval_old m h1).trans h2
  · exact (eval_new hd (hsz j k h1) h1 (hdep j h3) m hj (Nat.le_refl _)).trans (okVal ho (hdep j h3) h2)

/-- One operation comes up. -/
theorem step_ok {B : Nat} (hB : B = w0.heap.size) (hd : Apart ops m) (hsz : ∀ j d, dstOf ops j = some d → d < a0.tmps.size) {i : Nat} (hi : i < m) (hs : StepOk P Q ops m a0 w0 D i) {v : Nat → Value} {L : Nat → Bool} {w : World}
    (ho : OkAll B D v L w) (hb : Kept (HitBy D L) w0 w) (h0 : L i = false) {o : Oper} (hoi : ops[i]? = some o) (hdep : ∀ j, Dep o j → L j = true) :
    o.guard = none ∧ o.wp P (putAll ops v L a0 m) w (fun a' w' => ∃ v', a' = putAll ops v' (fun k => if k = i then true else L k) a0 m ∧ OkAll B D v' (fun k => if k = i then true else L k) w' ∧ Kept (HitBy D (fun k => if k = i then true else L k)) w0 w') Q := by
  have up : ∀ k, HitBy D L k → HitBy D (fun k => if k = i then true else L k) k := fun k ⟨q, T, cs, h1, h2⟩ => ⟨q, T, cs, by
    by_cases c : q = i
    · exact if_pos c
    · exact (updL_ne c).trans h1, h2⟩
  obtain ⟨o', ho', hg, hk⟩ := hs
  rw [hoi] at ho'
  obtain rfl := Option.some.inj ho'
  refine ⟨hg, ?_⟩
  have hdst : dstOf ops i = o.dst := by unfold dstOf; rw [hoi]; rfl
  have add : ∀ x, (putAll ops v L a0 m).put o.dst x = putAll ops (fun k => if k = i then x else v k) (fun k => if k = i then true else L k) a0 m := fun x => by
    have := putAll_add hd (a := a0) (v := v) (v' := fun k => if k = i then x else v k) (L := L) (L' := fun k => if k = i then true else L k) hi h0 (if_pos rfl) (fun j hj => if_neg hj) (fun j hj => if_neg hj) m hi (Nat.le_refl _)
    rw [this, hdst, if_pos rfl]
  cases hD : D i with
  | val x =>
    rw [hD] at hk
    obtain ⟨N, hN, hw⟩ := hk
    refine Oper.wp_mono ?_ (hw _ w (fun p hp => (hN p hp).eval hd hsz ho hdep) (hb.mono fun k ⟨q, T, cs, _, h⟩ => ⟨q, T, cs, h⟩))
    rintro a' w' ⟨rfl, hb'⟩
    exact ⟨_, add x, (ho.grow hb').more h0 hD, (hb.then hb').mono up⟩
  | new T Z =>
    rw [hD] at hk
    obtain ⟨hop, hrun⟩ := hk
    unfold Oper.wp execOp
    simp only [hop, Sem.run_bind, hrun w, Result.andThen_ok, Sem.run_pure, Oper.upon]
    exact ⟨_, add _, ho.made h0 hD (by rw [hB]; exact hb.size), (hb.then ((Below.refl _ _).alloc (Nat.le_refl _) _)).mono up⟩
  | put j T cs =>
    rw [hD] at hk
    obtain ⟨d, k, hop, hdn, hjm, hjd, hjdep, ⟨Z, hjn, hz⟩, hsrc, hinfo, hone, huniq⟩ := hk
    have hlj := hdep j hjdep
    obtain ⟨g, old, hv, hBg, hos, hgb⟩ := okPtr ho hlj hjn
    have hx : (putAll ops v L a0 m).eval (.tmp d) = .pointer (some ⟨g, 0, none⟩) := (eval_new hd (hsz j d hjd) hjd hlj m hjm (Nat.le_refl _)).trans hv
    have hy := hsrc.eval hd hsz ho hdep
    have hst := run_storeVar_row (P := P) w g T T old cs hgb hinfo (by omega) hone
    unfold Oper.wp execOp
    simp only [hop, hx, hy, Instr.storeAt, Instr.sureAddr, Sem.run_bind, Sem.run_pure, Result.andThen_ok, hst, Oper.upon]
    refine ⟨_, add _, ho.stored h0 hD hjn hz hlj hv hBg hgb huniq, ?_⟩
    exact ⟨hb.os, hb.tape, hb.output, by have := hb.size; simpa using this, fun q hq hn => (setRow_other w g q cs (by omega)).trans (hb.block q hq fun c => hn (up q c))⟩
  | old g T cs =>
    rw [hD] at hk
    obtain ⟨d, k, od, hop, hdn, hsd, hgb0, hos, hsrc, hinfo, hone, huniq⟩ := hk
    have hgl : g < w0.heap.size := (Array.getElem?_eq_some_iff.1 hgb0).1
    have hgb : w.heap[g]? = some (.cells od T (0, 0)) := (hb.block g hgl (fun ⟨q, T', cs', h1, h2⟩ => by
      by_cases c : q = i
      · subst c; rw [h0] at h1; cases h1
      · exact huniq q c _ _ h2)).trans hgb0
    have hx := hsd.eval hd hsz ho hdep
    have hy := hsrc.eval hd hsz ho hdep
    have hst := run_storeVar_row (P := P) w g T T od cs hgb hinfo hos hone
    unfold Oper.wp execOp
    simp only [hop, hx, hy, Instr.storeAt, Instr.sureAddr, Sem.run_bind, Sem.run_pure, Result.andThen_ok, hst, Oper.upon]
    refine ⟨_, add _, ho.storedOld h0 hD (by rw [hB]; exact hgl) hgb huniq, ?_⟩
    refine ⟨hb.os, hb.tape, hb.output, by have := hb.size; simpa using this, fun q hq hn => ?_⟩
    exact (setRow_other w g q cs (fun c => hn ⟨i, T, cs, if_pos rfl, by rw [hD, c]⟩)).trans (hb.block q hq fun c => hn (up q c))

def cntF (L : Nat → Bool) : Nat → Nat
  | 0 => 0
  | n + 1 => cntF L n + if L n then 0 else 1
theorem cntF_set {L : Nat → Bool} {i : Nat} (h : L i = false) : ∀ n, i < n → cntF (fun k => if k = i then true else L k) n + 1 = cntF L n
  | 0, h => by omega
  | n + 1, hn => by
    by_cases c : n = i
    · subst c
      have e : ∀ q, q ≤ n → cntF (fun k => if k = n then true else L k) q = cntF L q := fun q => by
        induction q with
        | zero => intro _; rfl
        | succ q ih => intro hq; show cntF _ q + _ = cntF L q + _; rw [ih (by omega), updL_ne (L := L) (by omega : q ≠ n)]
      show cntF _ n + (if (if n = n then true else L n) then 0 else 1) + 1 = cntF L n + if L n then 0 else 1
      rw [e n (Nat.le_refl _), if_pos rfl, h]
      simp
    · have ih := cntF_set h n (by omega)
      show cntF _ n + (if (if n = i then true else L n) then 0 else 1) + 1 = cntF L n + if L n then 0 else 1
      rw [if_neg c]
      omega
theorem cntF_pos {L : Nat → Bool} : ∀ n, cntF L n = 0 → ∀ j, j < n → L j = true
  | 0, _, j, h => by omega
  | n + 1, h, j, hj => by
    have h' : cntF L n + (if L n then 0 else 1) = 0 := h
    by_cases c : j = n
    · subst c
      cases e : L j with
      | true => rfl
      | false => rw [e] at h'; simp at h'
    · exact cntF_pos n (by omega) j (by omega)
/-- The operations that one waits for, through others. -/
def cloB (ops : Array Oper) : Nat → List Nat → List Nat
  | 0, S => S
  | n + 1, S => cloB ops n (S ++ ((List.range ops.size).filter fun j => !S.contains j && S.any fun i => ((ops[i]?).map (depB · j)).getD false))
theorem cloB_sound {L : Nat → Bool} (hc : ∀ i o, ops[i]? = some o → L i = true → ∀ j, Dep o j → L j = true) : ∀ n S, (∀ j ∈ S, L j = true) → ∀ j ∈ cloB ops n S, L j = true
  | 0, _, h, j, hj => h j hj
  | n + 1, S, h, j, hj => by
    refine cloB_sound hc n _ (fun q hq => ?_) j hj
    rcases List.mem_append.1 hq with hq | hq
    · exact h q hq
    · have := (List.mem_filter.1 hq).2
      simp only [Bool.and_eq_true, List.any_eq_true] at this
      obtain ⟨_, i, hi, hd⟩ := this
      cases ho : ops[i]? with
      | none => simp [ho] at hd
      | some o =>
        rw [ho] at hd
        exact hc i o ho (h i hi) q (dep_of hd)
def orderB (ops : Array Oper) : Bool := (List.range ops.size).all fun i => ((ops[i]?).map fun o => o.after.all fun e => !Region.binds .any e || decide (e.on < i)).getD true
def tailB (ops : Array Oper) (m : Nat) : Bool := (List.range ops.size).all fun i => decide (i < m) || ((ops[i]?).map fun o => (List.range m).all fun j => (cloB ops ops.size ((List.range ops.size).filter (depB o))).contains j).getD false
def dstB (ops : Array Oper) (n : Nat) : Bool := (List.range ops.size).all fun j => match dstOf ops j with | some d => decide (d < n) | none => true
def listedTo (n m : Nat) : Array Bool := ((List.range n).map fun j => decide (j < m)).toArray

theorem any_ok {B : Nat} (hB : B = w0.heap.size) (hmn : m ≤ ops.size) (hd : Apart ops m) (hsz : ∀ j d, dstOf ops j = some d → d < a0.tmps.size) (hord : orderB ops = true) (htail : tailB ops m = true)
    (hs : ∀ i, i < m → StepOk P Q ops m a0 w0 D i)
    (hK : ∀ v w, OkAll B D v (fun j => decide (j < m)) w → Kept (HitBy D (fun j => decide (j < m))) w0 w → wpAny P .any ops Q (ops.size - m) (listedTo ops.size m) (putAll ops v (fun j => decide (j < m)) a0 m) w) :
    ∀ (c : Nat) (L : Array Bool) (v : Nat → Value) (w : World), L.size = ops.size → c = cntF (fun j => L.getD j false) m → (∀ j, m ≤ j → L.getD j false = false) →
      (∀ i o, ops[i]? = some o → L.getD i false = true → ∀ j, Dep o j → L.getD j false = true) →
      OkAll B D v (fun j => L.getD j false) w → Kept (HitBy D (fun j => L.getD j false)) w0 w → wpAny P .any ops Q (ops.size - m + c) L (putAll ops v (fun j => L.getD j false) a0 m) w := by
  intro c
  induction c with
  | zero =>
    intro L v w hL hc htop hclo ho hb
    have hall := cntF_pos m hc.symm
    have he : (fun j => L.getD j false) = fun j => decide (j < m) := by
      funext j
      by_cases h : j < m
      · rw [hall j h, decide_eq_true h]
      · rw [htop j (by omega), decide_eq_false h]
    have hLe : L = listedTo ops.size m := by
      apply Array.ext
      · simp [listedTo, hL]
      · intro j h1 h2
        have := congrFun he j
        simp only [Array.getD_eq_getD_getElem?, Array.getElem?_eq_getElem h1, Option.getD_some] at this
        rw [this]
        simp [listedTo]
    rw [he] at ho hb ⊢
    rw [hLe]
    exact hK v w ho hb
  | succ c ih =>
    intro L v w hL hc htop hclo ho hb
    have hlt : ∃ j, j < m ∧ L.getD j false = false ∧ ∀ q, q < j → L.getD q false = true := by
      refine Classical.byContradiction fun hno => ?_
      have all : ∀ j, j ≤ m → ∀ q, q < j → L.getD q false = true := by
        intro j
        induction j with
        | zero => intro _ q hq; omega
        | succ j ih2 =>
          intro hj q hq
          by_cases e : q = j
          · subst e
            cases h : L.getD q false with
            | true => rfl
            | false => exact absurd ⟨q, by omega, h, ih2 (by omega)⟩ hno
          · exact ih2 (by omega) q (by omega)
      have z : ∀ n, n ≤ m → cntF (fun j => L.getD j false) n = 0 := by
        intro n
        induction n with
        | zero => intro _; rfl
        | succ n ih3 => intro hn; show cntF _ n + _ = 0; rw [ih3 (by omega), if_pos (show (fun j => L.getD j false) n = true from all m (Nat.le_refl _) n (by omega))]
      rw [z m (Nat.le_refl _)] at hc
      omega
    have inb : ∀ j, j < ops.size → L.getD j true = L.getD j false := fun j hj => by
      simp [Array.getD_eq_getD_getElem?, Array.getElem?_eq_getElem (show j < L.size by omega)]
    show wpAny P .any ops Q ((ops.size - m + c) + 1) L _ w
    refine ⟨fun h => ?_, fun i hi => ?_⟩
    · obtain ⟨j, hj, hf, hq⟩ := hlt
      have hjs : j < ops.size := by omega
      have hr : j ∈ Region.ready .any ops L := mem_ready.2 ⟨(inb j hjs).trans hf, ops[j], Array.getElem?_eq_getElem hjs, fun e he hbd => hq e.on ?_⟩
      · rw [h] at hr; cases hr
      · have := List.all_eq_true.1 hord j (List.mem_range.2 hjs)
        rw [Array.getElem?_eq_getElem hjs] at this
        have := Array.all_eq_true'.1 this e he
        simpa [hbd] using this
    · obtain ⟨hu, o, hoi, hdeps⟩ := mem_ready.1 hi
      have his : i < ops.size := (Array.getElem?_eq_some_iff.1 hoi).1
      rw [inb i his] at hu
      have hdep : ∀ j, Dep o j → L.getD j false = true := fun j ⟨e, he, hb, hj⟩ => hj ▸ hdeps e he hb
      have him : i < m := by
        refine Classical.byContradiction fun hge => ?_
        have := List.all_eq_true.1 htail i (List.mem_range.2 his)
        rw [hoi, decide_eq_false hge] at this
        obtain ⟨j, hj, hf, _⟩ := hlt
        have h2 : ∀ x, x < m → x ∈ cloB ops ops.size (List.filter (depB o) (List.range ops.size)) := by simpa using this
        have : L.getD j false = true := cloB_sound (L := fun j => L.getD j false) hclo ops.size _ (fun q hq => hdep q (dep_of (List.mem_filter.1 hq).2)) j (h2 j hj)
        rw [hf] at this
        cases this
      obtain ⟨hg, hw⟩ := step_ok hB hd hsz him (hs i him) ho hb hu hoi hdep
      unfold wpOp
      simp only [hoi]
      rw [if_pos (by unfold Region.wanted; rw [hg])]
      refine .inl (Oper.wp_mono ?_ hw)
      rintro a' w' ⟨v', rfl, ho', hb'⟩
      have hset : (fun j => (L.setIfInBounds i true).getD j false) = fun k => if k = i then true else L.getD k false := by
        funext j
        by_cases e : j = i
        · subst e
          rw [if_pos rfl]
          simp [Array.getD_eq_getD_getElem?, show j < L.size by omega]
        · rw [if_neg e]
          exact getD_set_ne false (Ne.symm e)
      rw [← hset] at ho' hb' ⊢
      refine ih (L.setIfInBounds i true) v' w' (by simpa using hL) ?_ ?_ ?_ ho' hb'
      · rw [hset]
        have := cntF_set (L := fun j => L.getD j false) hu m him
        omega
      · intro j hj
        rw [congrFun hset j, if_neg (by omega)]
        exact htop j hj
      · intro j oj hoj hlj q hq
        rw [congrFun hset q]
        by_cases e : q = i
        · rw [if_pos e]
        · rw [if_neg e]
          rw [congrFun hset j] at hlj
          by_cases e2 : j = i
          · subst e2
            rw [hoi] at hoj
            obtain rfl := Option.some.inj hoj
            exact hdep q hq
          · rw [if_neg e2] at hlj
            exact hclo j oj hoj hlj q hq

/-- **A region of such operations, in whatever order**: m of them, behind which the rest comes. -/
theorem region_fun {id : Nat} (m : Nat) (D : Nat → Kd) (hm : P.follows .mixedOrders = true) (hmn : m ≤ ops.size) (hd : apartB ops m = true) (hord : orderB ops = true) (htail : tailB ops m = true) (hsz : dstB ops a0.tmps.size = true)
    (hs : ∀ i, i < m → StepOk P Q ops m a0 w0 D i)
    (hK : ∀ v w, OkAll w0.heap.size D v (fun j => decide (j < m)) w → Kept (HitBy D (fun j => decide (j < m))) w0 w → wpAny P .any ops Q (ops.size - m) (listedTo ops.size m) (putAll ops v (fun j => decide (j < m)) a0 m) w) :
    (Code.region id ops true).wp P Q a0 w0 := by
  refine wp_region_any hm ?_
  have hz : ∀ j, (Array.replicate ops.size false).getD j false = false := fun j => by
    simp only [Array.getD_eq_getD_getElem?, Array.getElem?_replicate]
    split <;> rfl
  have hzf : (fun j => (Array.replicate ops.size false).getD j false) = fun _ => false := funext hz
  have hput : ∀ v n, putAll ops v (fun _ => false) a0 n = a0 := fun v n => by
    induction n with
    | zero => rfl
    | succ n ih => unfold putAll; rw [if_neg (by decide)]; exact ih
  have hcnt : ∀ n, cntF (fun _ => false) n = n := fun n => by
    induction n with
    | zero => rfl
    | succ n ih => unfold cntF; rw [ih]; rfl
  have := any_ok (P := P) (Q := Q) (ops := ops) (m := m) (a0 := a0) (w0 := w0) (D := D) rfl hmn (apart_of hd)
    (fun j d hjd => by
      by_cases h : j < ops.size
      · have := List.all_eq_true.1 hsz j (List.mem_range.2 h)
        rw [hjd] at this
        simpa using this
      · unfold dstOf at hjd
        rw [Array.getElem?_eq_none (by omega)] at hjd
        cases hjd)
    hord htail hs hK m (Array.replicate ops.size false) (fun _ => undef) w0.drew (by simp) (by rw [hzf, hcnt]) (fun j _ => hz j) (fun i o _ hl => by rw [hz] at hl; cases hl)
    (fun i hl => by have hl : (Array.replicate ops.size false).getD i false = true := hl; rw [hz] at hl; cases hl) ⟨rfl, rfl, rfl, Nat.le_refl _, fun _ _ _ => rfl⟩
  rw [hzf, hput, show ops.size - m + m = ops.size by omega] at this
  exact this
end

/-! ### The pieces -/
section
variable {P : Program} {Q : Exit → Act → World → Prop} {ops : Array Oper} {m : Nat} {a0 : Act} {w0 : World} {D : Nat → Kd} {i : Nat} {o : Oper}
theorem stepRun {x : Value} (N : List (Tmp × Value)) (hoi : ops[i]? = some o) (hg : o.guard = none) (hD : D i = .val x) (hN : ∀ p ∈ N, Src ops m a0 D o p.1 p.2)
    (hr : ∀ (a : Act) (w : World), (∀ p ∈ N, a.eval (.tmp p.1) = p.2) → Kept (Hits D) w0 w → (execOp a.eval o).run P w = .ok (.value x) w) : StepOk P Q ops m a0 w0 D i := by
  refine ⟨o, hoi, hg, ?_⟩
  rw [hD]
  refine ⟨N, hN, fun a w ha hb => ?_⟩
  unfold Oper.wp
  rw [hr a w ha hb]
  exact ⟨rfl, Below.refl _ _⟩
theorem stepLoad {x : Value} {T : TypeId} {k : Tmp} (y : Value) (hoi : ops[i]? = some o) (hg : o.guard = none) (hD : D i = .val x) (hop : o.op = .load T (.tmp k)) (hk : Src ops m a0 D o k y)
    (hl : ∀ w, Kept (Hits D) w0 w → (Instr.loadAt T y).run P w = .ok x w) : StepOk P Q ops m a0 w0 D i := by
  refine stepRun [(k, y)] hoi hg hD (fun p hp => by rw [List.mem_singleton.1 hp]; exact hk) fun a w ha hb => ?_
  have := ha (k, y) (by simp)
  unfold execOp
  simp only [hop]
  simp only [this, Sem.run_bind, hl w hb, Result.andThen_ok, Sem.run_pure]
theorem stepField {x : Value} {T f : Nat} {k : Tmp} (y : Value) (hoi : ops[i]? = some o) (hg : o.guard = none) (hD : D i = .val x) (hop : o.op = .fieldAddr T (.tmp k) f) (hk : Src ops m a0 D o k y)
    (hl : ∀ w, (Instr.fieldAt T y f).run P w = .ok x w) : StepOk P Q ops m a0 w0 D i := by
  refine stepRun [(k, y)] hoi hg hD (fun p hp => by rw [List.mem_singleton.1 hp]; exact hk) fun a w ha hb => ?_
  have := ha (k, y) (by simp)
  unfold execOp
  simp only [hop]
  simp only [this, Sem.run_bind, hl w, Result.andThen_ok, Sem.run_pure]
theorem stepBuild {x : Value} {T : TypeId} {ps : Array (Nat × Operand)} (N : List (Tmp × Value)) (ys : Array (Nat × Value)) (hoi : ops[i]? = some o) (hg : o.guard = none) (hD : D i = .val x) (hop : o.op = .build T ps) (hN : ∀ p ∈ N, Src ops m a0 D o p.1 p.2)
    (hy : ∀ a : Act, (∀ p ∈ N, a.eval (.tmp p.1) = p.2) → (ps.map fun (i, x) => (i, a.eval x)) = ys) (hl : ∀ w, (Instr.build T ys).run P w = .ok x w) : StepOk P Q ops m a0 w0 D i := by
  refine stepRun N hoi hg hD hN fun a w ha hb => ?_
  have := hy a ha
  unfold execOp
  simp only [hop]
  simp only [this, Sem.run_bind, hl w, Result.andThen_ok, Sem.run_pure]
theorem cf_of {f : FuncId} {fn : Func} (hf : P.funcs[f]? = some fn) (hn : (fn.name == "runtime.NumGoroutine") = false) (hb : fn.body.isNone = false) (args : Array Value) (w : World) : (callFunc f args).run P w = .ok (.enter f args) w := by
  have h1 : fn.name ≠ "runtime.NumGoroutine" := by simpa using hn
  have h2 : fn.body ≠ none := fun e => by rw [e] at hb; cases hb
  simp [callFunc, hf, h1, h2]
/-- A call, its arguments all in slots. -/
theorem stepCall {x : Value} {f : FuncId} {ks : List Tmp} {ats : Array TypeId} (ys : List Value) (hoi : ops[i]? = some o) (hg : o.guard = none) (hD : D i = .val x) (hop : o.op = .call { callee := .value (.func f), args := (ks.map Operand.tmp).toArray, argTypes := ats })
    (hcf : ∀ args w, (callFunc f args).run P w = .ok (.enter f args) w) (hlen : ks.length = ys.length) (hk : ∀ p ∈ ks.zip ys, Src ops m a0 D o p.1 p.2)
    (hc : ∀ w, Kept (Hits D) w0 w → Calls P f ys.toArray w fun e w' => e = .returned x ∧ Below w.heap.size w w') : StepOk P Q ops m a0 w0 D i := by
  refine ⟨o, hoi, hg, ?_⟩
  rw [hD]
  refine ⟨ks.zip ys, hk, fun a w ha hb => ?_⟩
  have hargs : (ks.map Operand.tmp).toArray.map a.eval = ys.toArray := by
    rw [List.map_toArray, List.map_map]
    congr 1
    clear hk hc hop
    induction ks generalizing ys with
    | nil => cases ys with
      | nil => rfl
      | cons _ _ => simp at hlen
    | cons k ks ih => cases ys with
      | nil => simp at hlen
      | cons y ys =>
        rw [List.map_cons, ih ys (by simpa using hlen) (fun p hp => ha p (by rw [List.zip_cons_cons]; exact List.mem_cons_of_mem _ hp))]
        have := ha (k, y) (by rw [List.zip_cons_cons]; exact List.mem_cons_self)
        rw [Function.comp_apply, this]
  have he : (execOp a.eval o).run P w = .ok (.enter f ys.toArray) w := by
    unfold execOp
    simp only [hop]
    have e : (do let d ← resolve a.eval { callee := .value (.func f), args := (ks.map Operand.tmp).toArray, argTypes := ats } o.type; invoke d.target d.args : Sem Next) = callFunc f (#[] ++ (ks.map Operand.tmp).toArray.map a.eval ++ #[]) := rfl
    rw [e, hargs, Array.empty_append, Array.append_empty]
    exact hcf _ _
  unfold Oper.wp
  rw [he]
  refine Calls.mono (hc w hb) ?_
  rintro e w' ⟨rfl, hb'⟩
  exact ⟨rfl, hb'⟩
theorem stepNew {T : TypeId} {Z : Array Value} (hoi : ops[i]? = some o) (hg : o.guard = none) (hD : D i = .new T Z) (hop : o.op = .alloc T)
    (hl : ∀ w, (Instr.alloc T true (.tuple #[])).run P w = .ok (.pointer (some ⟨w.heap.size, 0, none⟩)) (w.alloc (.cells Z T))) : StepOk P Q ops m a0 w0 D i := by
  refine ⟨o, hoi, hg, ?_⟩
  rw [hD]
  exact ⟨hop, hl⟩
theorem stepPut {j : Nat} {T : TypeId} {Z cs : Array Value} {d k : Tmp} (hoi : ops[i]? = some o) (hg : o.guard = none) (hD : D i = .put j T cs) (hop : o.op = .store T (.tmp d) (.tmp k)) (hdn : o.dst = none) (hjm : j < m) (hjd : dstOf ops j = some d) (hdep : depB o j = true)
    (hj : D j = .new T Z) (hz : Z.size = cs.size) (hk : Src ops m a0 D o k (.agg cs)) (hi : (P.info? T).map (·.size) = some cs.size) (h1 : cs.all (·.oneCell') = true) (hu : ∀ i', i' ≠ i → ∀ T' cs', D i' ≠ .put j T' cs') : StepOk P Q ops m a0 w0 D i := by
  refine ⟨o, hoi, hg, ?_⟩
  rw [hD]
  exact ⟨d, k, hop, hdn, hjm, hjd, dep_of hdep, ⟨Z, hj, hz⟩, hk, hi, h1, hu⟩

theorem stepOld {g : Nat} {T : TypeId} {od cs : Array Value} {d k : Tmp} (hoi : ops[i]? = some o) (hg : o.guard = none) (hD : D i = .old g T cs) (hop : o.op = .store T (.tmp d) (.tmp k)) (hdn : o.dst = none) (hsd : Src ops m a0 D o d (.pointer (some ⟨g, 0, none⟩)))
    (hb : w0.heap[g]? = some (.cells od T (0, 0))) (hz : od.size = cs.size) (hk : Src ops m a0 D o k (.agg cs)) (hi : (P.info? T).map (·.size) = some cs.size) (h1 : cs.all (·.oneCell') = true) (hu : ∀ i', i' ≠ i → ∀ T' cs', D i' ≠ .old g T' cs') : StepOk P Q ops m a0 w0 D i := by
  refine ⟨o, hoi, hg, ?_⟩
  rw [hD]
  exact ⟨d, k, od, hop, hdn, hsd, hb, hz, hk, hi, h1, hu⟩
theorem stepMove {x : Value} {k : Tmp} (hoi : ops[i]? = some o) (hg : o.guard = none) (hD : D i = .val x) (hop : o.op = .move (.tmp k)) (hk : Src ops m a0 D o k x) : StepOk P Q ops m a0 w0 D i := by
  refine stepRun [(k, x)] hoi hg hD (fun p hp => by rw [List.mem_singleton.1 hp]; exact hk) fun a w ha hb => ?_
  have := ha (k, x) (by simp)
  unfold execOp
  simp only [hop]
  simp only [this, Sem.run_pure]
theorem stepAssign {x : Value} {k : Tmp} (hoi : ops[i]? = some o) (hg : o.guard = none) (hD : D i = .val x) (hop : o.op = .assign (.tmp k)) (hk : Src ops m a0 D o k x) : StepOk P Q ops m a0 w0 D i := by
  refine stepRun [(k, x)] hoi hg hD (fun p hp => by rw [List.mem_singleton.1 hp]; exact hk) fun a w ha hb => ?_
  have := ha (k, x) (by simp)
  unfold execOp
  simp only [hop]
  simp only [this, Sem.run_pure]
theorem okOld {B : Nat} {v : Nat → Value} {L : Nat → Bool} {w : World} {g : Nat} {T : TypeId} {cs : Array Value} (h : OkAll B D v L w) (hl : L i = true) (hj : D i = .old g T cs) : w.heap[g]? = some (.cells cs T (0, 0)) := by
  have := h i hl
  unfold OkAt at this
  rw [hj] at this
  exact this.2

/-- The frame behind all of the first m. -/
def putL : List (Option Tmp) → (Nat → Value) → Nat → Act → Act
  | [], _, _, a => a
  | d :: ds, v, n, a => putL ds v (n + 1) (a.put d (v n))
theorem putL_snoc (v : Nat → Value) (d : Option Tmp) : ∀ (ds : List (Option Tmp)) (n : Nat) (a : Act), putL (ds ++ [d]) v n a = (putL ds v n a).put d (v (n + ds.length))
  | [], n, a => rfl
  | e :: ds, n, a => by
    show putL (ds ++ [d]) v (n + 1) (a.put e (v n)) = _
    rw [putL_snoc v d ds (n + 1)]
    show (putL ds v (n + 1) (a.put e (v n))).put d (v (n + 1 + ds.length)) = _
    rw [show n + 1 + ds.length = n + (e :: ds).length by simp; omega]
    rfl
theorem putAll_list (v : Nat → Value) (a : Act) (M : Nat) : ∀ n, n ≤ M → putAll ops v (fun j => decide (j < M)) a n = putL ((List.range n).map (dstOf ops)) v 0 a
  | 0, _ => rfl
  | n + 1, h => by
    have ih := putAll_list v a M n (by omega)
    unfold putAll
    rw [if_pos (decide_eq_true (by omega)), ih, List.range_succ, List.map_append]
    show _ = putL (_ ++ [dstOf ops n]) v 0 a
    rw [putL_snoc]
    simp
theorem region_all {id : Nat} (m : Nat) (D : Nat → Kd) (ds : List (Option Tmp)) (hm : P.follows .mixedOrders = true) (hmn : ops.size = m) (hds : (List.range m).map (dstOf ops) = ds) (hd : apartB ops m = true) (hord : orderB ops = true) (hsz : dstB ops a0.tmps.size = true)
    (hs : ∀ i, i < m → StepOk P Q ops m a0 w0 D i)
    (hK : ∀ v w, OkAll w0.heap.size D v (fun j => decide (j < m)) w → Kept (HitBy D (fun j => decide (j < m))) w0 w → Q .normal (putL ds v 0 a0) w) :
    (Code.region id ops true).wp P Q a0 w0 := by
  refine region_fun m D hm (by omega) hd hord ?_ hsz hs fun v w ho hb => ?_
  · refine List.all_eq_true.2 fun i hi => ?_
    rw [decide_eq_true (by have := List.mem_range.1 hi; omega : i < m)]
    rfl
  · have := hK v w ho hb
    rw [← hds, ← putAll_list v a0 m m (Nat.le_refl _)] at this
    have hr : Region.ready .any ops (listedTo ops.size m) = [] := by
      unfold Region.ready
      rw [List.filter_eq_nil_iff]
      intro j hj
      have hj := List.mem_range.1 hj
      have e : (listedTo ops.size m).getD j true = true := by
        simp [listedTo, Array.getD_eq_getD_getElem?, hj]
        omega
      simp [e]
    rw [show ops.size - m = 0 by omega]
    exact ⟨hr, this⟩
theorem region_tail1 {id : Nat} (m : Nat) (D : Nat → Kd) (ds : List (Option Tmp)) (hm : P.follows .mixedOrders = true) (hmn : ops.size = m + 1) (hds : (List.range m).map (dstOf ops) = ds) (hd : apartB ops m = true) (hord : orderB ops = true) (htail : tailB ops m = true) (hsz : dstB ops a0.tmps.size = true)
    (hr1 : Region.ready .any ops (listedTo ops.size m) = [m]) (hr2 : Region.ready .any ops ((listedTo ops.size m).setIfInBounds m true) = []) (hom : ops[m]? = some o) (hg : o.guard = none)
    (hs : ∀ i, i < m → StepOk P Q ops m a0 w0 D i)
    (hK : ∀ v w, OkAll w0.heap.size D v (fun j => decide (j < m)) w → Kept (HitBy D (fun j => decide (j < m))) w0 w → o.wp P (putL ds v 0 a0) w (fun a' w' => Q .normal a' w') Q) :
    (Code.region id ops true).wp P Q a0 w0 := by
  refine region_fun m D hm (by omega) hd hord htail hsz hs fun v w ho hb => ?_
  have := hK v w ho hb
  rw [← hds, ← putAll_list v a0 m m (Nat.le_refl _)] at this
  rw [show ops.size - m = 0 + 1 by omega]
  refine ⟨fun h => by (rw [hr1] at h; cases h), fun i hi => ?_⟩
  rw [hr1] at hi
  obtain rfl := List.mem_singleton.1 hi
  unfold wpOp
  simp only [hom]
  rw [if_pos (by unfold Region.wanted; rw [hg])]
  exact .inl (Oper.wp_mono (fun a w h => ⟨hr2, h⟩) this)
theorem region_tail2 {id : Nat} {o2 : Oper} (m : Nat) (D : Nat → Kd) (ds : List (Option Tmp)) (hm : P.follows .mixedOrders = true) (hmn : ops.size = m + 2) (hds : (List.range m).map (dstOf ops) = ds) (hd : apartB ops m = true) (hord : orderB ops = true) (htail : tailB ops m = true) (hsz : dstB ops a0.tmps.size = true)
    (hr1 : Region.ready .any ops (listedTo ops.size m) = [m]) (hr2 : Region.ready .any ops ((listedTo ops.size m).setIfInBounds m true) = [m + 1]) (hr3 : Region.ready .any ops (((listedTo ops.size m).setIfInBounds m true).setIfInBounds (m + 1) true) = []) (hom : ops[m]? = some o) (hg : o.guard = none) (hom2 : ops[m + 1]? = some o2) (hg2 : o2.guard = none)
    (hs : ∀ i, i < m → StepOk P Q ops m a0 w0 D i)
    (hK : ∀ v w, OkAll w0.heap.size D v (fun j => decide (j < m)) w → Kept (HitBy D (fun j => decide (j < m))) w0 w → o.wp P (putL ds v 0 a0) w (fun a' w' => o2.wp P a' w' (fun a'' w'' => Q .normal a'' w'') Q) Q) :
    (Code.region id ops true).wp P Q a0 w0 := by
  refine region_fun m D hm (by omega) hd hord htail hsz hs fun v w ho hb => ?_
  have := hK v w ho hb
  rw [← hds, ← putAll_list v a0 m m (Nat.le_refl _)] at this
  rw [show ops.size - m = 0 + 1 + 1 by omega]
  refine ⟨fun h => by (rw [hr1] at h; cases h), fun i hi => ?_⟩
  rw [hr1] at hi
  obtain rfl := List.mem_singleton.1 hi
  unfold wpOp
  simp only [hom]
  rw [if_pos (by unfold Region.wanted; rw [hg])]
  refine .inl (Oper.wp_mono (fun a w h => ?_) this)
  refine ⟨fun h => by (rw [hr2] at h; cases h), fun j hj => ?_⟩
  rw [hr2] at hj
  obtain rfl := List.mem_singleton.1 hj
  unfold wpOp
  simp only [hom2]
  rw [if_pos (by unfold Region.wanted; rw [hg2])]
  exact .inl (Oper.wp_mono (fun a w h => ⟨hr3, h⟩) h)
/-- A store into a variable that was there. -/
theorem wp_store_old {a : Act} {w : World} {K : Act → World → Prop} {T : TypeId} {x y : Operand} (g : Nat) (cs old : Array Value) (hop : o.op = .store T x y) (hdn : o.dst = none) (hx : a.eval x = .pointer (some ⟨g, 0, none⟩)) (hy : a.eval y = .agg cs)
    (hgb : w.heap[g]? = some (.cells old T (0, 0))) (hinfo : (P.info? T).map (·.size) = some cs.size) (hos : old.size = cs.size) (hone : cs.all (·.oneCell') = true) (h : K a (w.setRow g cs)) : o.wp P a w K Q := by
  have hst := run_storeVar_row (P := P) w g T T old cs hgb hinfo hos hone
  unfold Oper.wp execOp
  simp only [hop, hx, hy, Instr.storeAt, Instr.sureAddr, Sem.run_bind, Sem.run_pure, Result.andThen_ok, hst, Oper.upon]
  rw [hdn]
  exact h

/-- The same in a plain region. -/
theorem list_ok (hmn : m ≤ ops.size) (hd : Apart ops m) (hsz : ∀ j d, dstOf ops j = some d → d < a0.tmps.size) (hord : orderB ops = true)
    (hs : ∀ i, i < m → StepOk P Q ops m a0 w0 D i)
    (hK : ∀ v w, OkAll w0.heap.size D v (fun j => decide (j < m)) w → Kept (HitBy D (fun j => decide (j < m))) w0 w → wpList P ops Q (ops.toList.drop m) (putAll ops v (fun j => decide (j < m)) a0 m) w) :
    ∀ (c n : Nat) (v : Nat → Value) (w : World), n + c = m → OkAll w0.heap.size D v (fun j => decide (j < n)) w → Kept (HitBy D (fun j => decide (j < n))) w0 w → wpList P ops Q (ops.toList.drop n) (putAll ops v (fun j => decide (j < n)) a0 m) w := by
  intro c
  induction c with
  | zero =>
    intro n v w hn ho hb
    have e : n = m := by omega
    subst e
    exact hK v w ho hb
  | succ c ih =>
    intro n v w hn ho hb
    have hns : n < ops.size := by omega
    have hoi : ops[n]? = some ops[n] := Array.getElem?_eq_getElem hns
    have hdep : ∀ j, Dep ops[n] j → decide (j < n) = true := fun j ⟨e, he, hbd, hj⟩ => by
      have := List.all_eq_true.1 hord n (List.mem_range.2 hns)
      rw [hoi] at this
      have := Array.all_eq_true'.1 this e he
      rw [← hj]
      simpa [hbd] using this
    obtain ⟨hg, hw⟩ := step_ok rfl hd hsz (by omega : n < m) (hs n (by omega)) ho hb (decide_eq_false (by omega)) hoi hdep
    rw [List.drop_eq_getElem_cons (by simpa using hns)]
    show if Region.wanted ops.toList[n] _ then _ else _
    rw [Array.getElem_toList, if_pos (by unfold Region.wanted; rw [hg])]
    refine .inl (Oper.wp_mono ?_ hw)
    rintro a' w' ⟨v', rfl, ho', hb'⟩
    have he : (fun k => if k = n then true else decide (k < n)) = fun k => decide (k < n + 1) := by
      funext k
      by_cases c : k = n
      · subst c; simp
      · rw [if_neg c]; exact decide_eq_decide.2 (by omega)
    rw [he] at ho' hb' ⊢
    exact ih (n + 1) v' w' (by omega) ho' hb'
theorem region_seq {id : Nat} (m : Nat) (D : Nat → Kd) (ds : List (Option Tmp)) (hmn : m ≤ ops.size) (hds : (List.range m).map (dstOf ops) = ds) (hd : apartB ops m = true) (hord : orderB ops = true) (hsz : dstB ops a0.tmps.size = true)
    (hs : ∀ i, i < m → StepOk P Q ops m a0 w0 D i)
    (hK : ∀ v w, OkAll w0.heap.size D v (fun j => decide (j < m)) w → Kept (HitBy D (fun j => decide (j < m))) w0 w → wpList P ops Q (ops.toList.drop m) (putL ds v 0 a0) w) :
    (Code.region id ops false).wp P Q a0 w0 := by
  refine wp_region_list ?_
  have hput : ∀ v n, putAll ops v (fun _ => false) a0 n = a0 := fun v n => by
    induction n with
    | zero => rfl
    | succ n ih => unfold putAll; rw [if_neg (by decide)]; exact ih
  have := list_ok (P := P) (Q := Q) (ops := ops) (m := m) (a0 := a0) (w0 := w0) (D := D) hmn (apart_of hd)
    (fun j d hjd => by
      by_cases h : j < ops.size
      · have := List.all_eq_true.1 hsz j (List.mem_range.2 h)
        rw [hjd] at this
        simpa using this
      · unfold dstOf at hjd
        rw [Array.getElem?_eq_none (by omega)] at hjd
        cases hjd)
    hord hs (fun v w ho hb => by
      have := hK v w ho hb
      rw [← hds, ← putAll_list v a0 m m (Nat.le_refl _)] at this
      exact this) m 0 (fun _ => undef) w0 (by omega) (fun i hl => by simp at hl) (Kept.refl _ _)
  have e : (fun j => decide (j < 0)) = fun _ => false := by funext j; simp
  rw [e, hput] at this
  exact this
end

end Go.My

/- Regions by a list of kinds: small aids. Nothing of the program is named. -/
namespace Go.My
open Go.RowKit
set_option linter.unusedVariables false

def kdAt (l : List Kd) (i : Nat) : Kd := l.getD i (.val undef)
def putsB (l : List Kd) (i j : Nat) : Bool := l.zipIdx.all fun p => p.2 == i || (match p.1 with | .put q _ _ => q != j | _ => true)
theorem uniq_of {l : List Kd} {i j : Nat} (h : putsB l i j = true) : ∀ i', i' ≠ i → ∀ T cs, kdAt l i' ≠ .put j T cs := by
  intro i' hne T cs e
  unfold kdAt at e
  rw [List.getD_eq_getElem?_getD] at e
  cases hi : l[i']? with
  | none => rw [hi] at e; simp at e
  | some k =>
    rw [hi] at e
    simp at e
    subst e
    have hm : (Kd.put j T cs, i') ∈ l.zipIdx := by rw [List.mk_mem_zipIdx_iff_getElem?]; exact hi
    have := List.all_eq_true.1 h _ hm
    simp [hne] at this
theorem all0 {C : Nat → Prop} : ∀ i, i < 0 → C i := fun i h => by omega
theorem allS {C : Nat → Prop} {n : Nat} (h : ∀ i, i < n → C i) (hn : C n) : ∀ i, i < n + 1 → C i := fun i hi => by
  by_cases c : i = n
  · rw [c]; exact hn
  · exact h i (by omega)
theorem src1 {C : Tmp → Value → Prop} {k : Tmp} {y : Value} (h : C k y) : ∀ p ∈ [k].zip [y], C p.1 p.2 := fun p hp => by
  rw [List.mem_singleton.1 hp]; exact h
theorem src2 {C : Tmp → Value → Prop} {k l : Tmp} {y z : Value} (h : C k y) (h2 : C l z) : ∀ p ∈ [k, l].zip [y, z], C p.1 p.2 := fun p hp => by
  rcases List.mem_cons.1 hp with e | e
  · rw [e]; exact h
  · rw [List.mem_singleton.1 e]; exact h2
theorem src3 {C : Tmp → Value → Prop} {k l m : Tmp} {y z u : Value} (h : C k y) (h2 : C l z) (h3 : C m u) : ∀ p ∈ [k, l, m].zip [y, z, u], C p.1 p.2 := fun p hp => by
  rcases List.mem_cons.1 hp with e | e
  · rw [e]; exact h
  · rcases List.mem_cons.1 e with e | e
    · rw [e]; exact h2
    · rw [List.mem_singleton.1 e]; exact h3
theorem srcN1 {C : Tmp → Value → Prop} {k : Tmp} {y : Value} (h : C k y) : ∀ p ∈ [(k, y)], C p.1 p.2 := fun p hp => by
  rw [List.mem_singleton.1 hp]; exact h
theorem srcN2 {C : Tmp → Value → Prop} {k l : Tmp} {y z : Value} (h : C k y) (h2 : C l z) : ∀ p ∈ [(k, y), (l, z)], C p.1 p.2 := fun p hp => by
  rcases List.mem_cons.1 hp with e | e
  · rw [e]; exact h
  · rw [List.mem_singleton.1 e]; exact h2

def oldsOf (l : List Kd) : List Nat := l.filterMap fun | .old g _ _ => some g | _ => none
theorem hits_of {l : List Kd} {k : Nat} (h : Hits (kdAt l) k) : k ∈ oldsOf l := by
  obtain ⟨i, T, cs, e⟩ := h
  unfold kdAt at e
  rw [List.getD_eq_getElem?_getD] at e
  cases hi : l[i]? with
  | none => rw [hi] at e; simp at e
  | some q =>
    rw [hi] at e
    simp at e
    subst e
    exact List.mem_filterMap.2 ⟨_, List.mem_of_getElem? hi, rfl⟩
theorem hitBy_of {l : List Kd} {L : Nat → Bool} {k : Nat} (h : HitBy (kdAt l) L k) : Hits (kdAt l) k := by
  obtain ⟨i, T, cs, _, e⟩ := h
  exact ⟨i, T, cs, e⟩
theorem nh0 {l : List Kd} (h : oldsOf l = []) : ∀ k, ¬ Hits (kdAt l) k := fun k c => by have := hits_of c; rw [h] at this; cases this
theorem nh1 {l : List Kd} {t : Nat} (h : oldsOf l = [t]) {k : Nat} (hk : k ≠ t) : ¬ Hits (kdAt l) k := fun c => by have := hits_of c; rw [h] at this; exact hk (List.mem_singleton.1 this)
theorem nh2 {l : List Kd} {t u : Nat} (h : oldsOf l = [t, u]) {k : Nat} (hk : k ≠ t) (hk2 : k ≠ u) : ¬ Hits (kdAt l) k := fun c => by
  have := hits_of c
  rw [h] at this
  rcases List.mem_cons.1 this with e | e
  · exact hk e
  · exact hk2 (List.mem_singleton.1 e)
theorem Kept.all {l : List Kd} {L : Nat → Bool} {w w' : World} (h : Kept (HitBy (kdAt l) L) w w') : Kept (Hits (kdAt l)) w w' := h.mono fun _ => hitBy_of
def olds1B (l : List Kd) (i : Nat) (g : Nat) : Prop := ∀ i', i' ≠ i → ∀ T cs, kdAt l i' ≠ .old g T cs
theorem olds_single {l : List Kd} {i g : Nat} {T : TypeId} {cs : Array Value} (hi : l[i]? = some (.old g T cs)) (h : ∀ q, q ≠ i → ∀ g' T' cs', l[q]? = some (.old g' T' cs') → g' ≠ g) : olds1B l i g := by
  intro q hq T' cs' e
  unfold kdAt at e
  rw [List.getD_eq_getElem?_getD] at e
  cases hi : l[q]? with
  | none => rw [hi] at e; simp at e
  | some k =>
    rw [hi] at e
    simp at e
    subst e
    exact h q hq g T' cs' hi rfl
/-- The places of the stores into old blocks. -/
def oldIdx (l : List Kd) : List (Nat × Nat) := l.zipIdx.filterMap fun p => match p.1 with | .old g _ _ => some (p.2, g) | _ => none
theorem mem_oldIdx {l : List Kd} {q g : Nat} {T : TypeId} {cs : Array Value} (h : kdAt l q = .old g T cs) : (q, g) ∈ oldIdx l := by
  unfold kdAt at h
  rw [List.getD_eq_getElem?_getD] at h
  cases hi : l[q]? with
  | none => rw [hi] at h; simp at h
  | some k =>
    rw [hi] at h
    simp at h
    subst h
    exact List.mem_filterMap.2 ⟨(_, q), List.mk_mem_zipIdx_iff_getElem?.2 hi, rfl⟩
theorem one_old {l : List Kd} {i g : Nat} (h : oldIdx l = [(i, g)]) : ∀ i', i' ≠ i → ∀ T cs, kdAt l i' ≠ .old g T cs := fun q hq T cs e => by
  have := mem_oldIdx e
  rw [h] at this
  have := List.mem_singleton.1 this
  injection this with a b
  exact hq a
theorem two_old {l : List Kd} {i g j k : Nat} (h : oldIdx l = [(i, g), (j, k)]) (hgk : g ≠ k) : (∀ i', i' ≠ i → ∀ T cs, kdAt l i' ≠ .old g T cs) ∧ (∀ i', i' ≠ j → ∀ T cs, kdAt l i' ≠ .old k T cs) := by
  constructor
  · intro q hq T cs e
    have := mem_oldIdx e
    rw [h] at this
    rcases List.mem_cons.1 this with e | e
    · injection e with a b; exact hq a
    · have := List.mem_singleton.1 e; injection this with a b; exact hgk b
  · intro q hq T cs e
    have := mem_oldIdx e
    rw [h] at this
    rcases List.mem_cons.1 this with e | e
    · injection e with a b; exact hgk b.symm
    · have := List.mem_singleton.1 e; injection this with a b; exact hq a
theorem okRowB {B : Nat} {D : Nat → Kd} {v : Nat → Value} {L : Nat → Bool} {w : World} {i j : Nat} {T T' : TypeId} {cs Z : Array Value} (h : OkAll B D v L w) (hl : L i = true) (hlj : L j = true) (hi : D i = .put j T cs) (hj : D j = .new T' Z) : ∃ g, v j = .pointer (some ⟨g, 0, none⟩) ∧ w.heap[g]? = some (.cells cs T (0, 0)) ∧ B ≤ g := by
  obtain ⟨g, h1, h2⟩ := okRow h hl hi
  obtain ⟨g', _, h3, h4, _⟩ := okPtr h hlj hj
  rw [h1] at h3
  injection h3 with e; injection e with e; injection e with e
  exact ⟨g, h1, h2, by omega⟩
theorem okNe {B : Nat} {D : Nat → Kd} {v : Nat → Value} {L : Nat → Bool} {w : World} {i j : Nat} {T T' : TypeId} {Z Z' : Array Value} {g g' : Nat} (h : OkAll B D v L w) (hl : L i = true) (hlj : L j = true) (hi : D i = .new T Z) (hj : D j = .new T' Z') (hne : i ≠ j)
    (e1 : v i = .pointer (some ⟨g, 0, none⟩)) (e2 : v j = .pointer (some ⟨g', 0, none⟩)) : g ≠ g' := fun c => by
  have := h i hl
  unfold OkAt at this
  rw [hi] at this
  exact this.2 j (Ne.symm hne) hlj ⟨_, _, hj⟩ (by rw [e1, e2, c])
theorem ne_new {a g M : Nat} (h : a < M) (hg : M ≤ g) : g ≠ a := by omega
/-- A block as it is. -/
def Blk (g : Nat) (cs : Array Value) (T : TypeId) (w : World) : Prop := w.heap[g]? = some (.cells cs T (0, 0))
theorem Blk.h {g : Nat} {cs : Array Value} {T : TypeId} {w : World} (h : Blk g cs T w) : w.heap[g]? = some (.cells cs T (0, 0)) := h
theorem Blk.below {g : Nat} {cs : Array Value} {T : TypeId} {V W : World} (hb : Below V.heap.size V W) (h : Blk g cs T V) : Blk g cs T W := (hb.block g (Array.getElem?_eq_some_iff.1 h).1).trans h
theorem Blk.lt {g : Nat} {cs : Array Value} {T : TypeId} {W : World} (h : Blk g cs T W) : g < W.heap.size := (Array.getElem?_eq_some_iff.1 h).1
theorem Blk.cell {g j : Nat} {cs : Array Value} {T : TypeId} {W : World} {v : Value} (h : Blk g cs T W) (hj : cs[j]? = some v) : W.cell? ⟨g, j, none⟩ = some v := (cell_of_row W g j cs T (0, 0) h).trans hj
theorem Blk.froz {g j : Nat} {cs : Array Value} {T : TypeId} {W : World} (h : Blk g cs T W) : W.frozen? ⟨g, j, none⟩ = false := frozen_of_row W g j cs T h
theorem Blk.set {g : Nat} {cs : Array Value} {T : TypeId} {W : World} (h : Blk g cs T W) (j : Nat) (v : Value) : Blk g (cs.setIfInBounds j v) T (W.setCell ⟨g, j, none⟩ v) := heap_setCell_same W g j cs T v h
theorem Blk.other {g k : Nat} {cs : Array Value} {T : TypeId} {W : World} (h : Blk g cs T W) (j : Nat) (v : Value) (hk : g ≠ k) : Blk g cs T (W.setCell ⟨k, j, none⟩ v) := (heap_setCell_other W ⟨k, j, none⟩ g v hk).trans h
theorem Blk.row {g k : Nat} {cs ds : Array Value} {T : TypeId} {W : World} (h : Blk g cs T W) (hne : g ≠ k) : Blk g cs T (W.setRow k ds) := (setRow_other W k g ds hne).trans h
theorem Blk.kept {g : Nat} {cs : Array Value} {T : TypeId} {G : Nat → Prop} {V W : World} (hb : Kept G V W) (hn : ¬ G g) (h : Blk g cs T V) : Blk g cs T W := (hb.block g (Array.getElem?_eq_some_iff.1 h).1 hn).trans h

end Go.My

/- The contracts of the reader of draws (l1Rd): whatever is drawn lies in its range; only the reader's own block turns. -/
namespace Go.Proofs.YtfbcmckepdjdkaaDoor
open Go.RowKit Go.My Go.Lib
set_option linter.unusedVariables false

theorem info_u8r : (Tryd.prog.info? 5).map (fun i => (i.zero, i.size, i.bytes)) = some (some (.int .u8 0), 1, 1) := by kernel_rfl

theorem grown_trans {a b c : World} {r : Option Nat} (h : a.grownBy b r) (k : b.grownBy c r) : a.grownBy c r :=
  ⟨k.os.trans h.os, k.tape.trans h.tape, k.output.trans h.output, Nat.le_trans h.size k.size, fun i hi hne => (k.block i (Nat.lt_of_lt_of_le hi h.size) hne).trans (h.block i hi hne)⟩
theorem grown_below {B g : Nat} {a b : World} (h : a.grownBy b (some g)) (hg : B ≤ g) (hB : B ≤ a.heap.size) : Below B a b :=
  ⟨h.os, h.tape, h.output, h.size, fun k hk => h.block k (by omega) (fun c => by have := Option.some.inj c; omega)⟩

/-- The code's bytes, below block B. -/
def RdCode (B : Nat) (w : World) (a : Option Addr) (len : Nat) : Prop :=
  len ≤ 1048576 ∧ (len = 0 ∨ ∃ b off, a = some ⟨b, off, none⟩ ∧ b < B ∧ ∀ i, i < len → ∃ n : Int, 0 ≤ n ∧ n ≤ 255 ∧ w.cell? ⟨b, off + i, none⟩ = some (.int .u8 n))
/-- Block g is a reader of such a code. -/
def Rd (B : Nat) (w : World) (g : Nat) : Prop :=
  B ≤ g ∧ B ≤ w.heap.size ∧ ∃ a len cap p, w.heap[g]? = some (.cells #[.slice a len cap, .int .i64 (p : Nat)] 147 (0, 0)) ∧ p ≤ len ∧ RdCode B w a len
theorem RdCode.below {B : Nat} {w w' : World} {a : Option Addr} {len : Nat} (h : RdCode B w a len) (hb : Below B w w') : RdCode B w' a len := by
  obtain ⟨h1, h2⟩ := h
  refine ⟨h1, ?_⟩
  rcases h2 with h2 | ⟨b, off, ha, hbb, hc⟩
  · exact .inl h2
  · refine .inr ⟨b, off, ha, hbb, fun i hi => ?_⟩
    obtain ⟨n, h0, h1, hn⟩ := hc i hi
    exact ⟨n, h0, h1, by rw [hb.cell (p := ⟨b, off + i, none⟩) hbb]; exact hn⟩
/-- What leaves the reader's block alone leaves the reader. -/
theorem Rd.kept {B g : Nat} {w w' : World} {r : Option Nat} (h : Rd B w g) (hg : w.grownBy w' r) (hr : r ≠ some g) (hr2 : ∀ k, r = some k → B ≤ k) : Rd B w' g := by
  obtain ⟨hB, hBs, a, len, cap, p, hh, hp, hc⟩ := h
  have hlt : g < w.heap.size := (Array.getElem?_eq_some_iff.1 hh).1
  have hbel : Below B w w' := ⟨hg.os, hg.tape, hg.output, hg.size, fun k hk => hg.block k (by omega) (fun c => by have := hr2 k c.symm; omega)⟩
  exact ⟨hB, Nat.le_trans hBs hg.size, a, len, cap, p, by rw [hg.block g hlt (fun c => hr c.symm)]; exact hh, hp, hc.below hbel⟩

theorem Rd.alloc {B g : Nat} {w : World} (h : Rd B w g) (o : Obj) : Rd B (w.alloc o) g := h.kept (World.grownBy_alloc w o none) (by simp) (by simp)
theorem Rd.drew {B g : Nat} {w : World} (h : Rd B w g) : Rd B w.drew g := h
theorem Rd.lt {B g : Nat} {w : World} (h : Rd B w g) : g < w.heap.size := by obtain ⟨_, _, a, len, cap, p, hh, _⟩ := h; exact (Array.getElem?_eq_some_iff.1 hh).1
theorem grown_drew {a b : World} {r : Option Nat} (h : a.grownBy b r) : a.grownBy b.drew r := ⟨h.os, h.tape, h.output, h.size, h.block⟩
theorem drew_grown {a b : World} {r : Option Nat} (h : a.drew.grownBy b r) : a.grownBy b r := ⟨h.os, h.tape, h.output, h.size, h.block⟩

/-- A byte has been read: the reader stands one further. -/
theorem Rd.turned {B g : Nat} {w : World} {a : Option Addr} {len cap p : Nat} (h : Rd B w g) (hp : p < len) (hh : w.heap[g]? = some (.cells #[.slice a len cap, .int .i64 (p : Nat)] 147 (0, 0))) :
    Rd B (w.setCell ⟨g, 1, none⟩ (.int .i64 ((p : Int) + 1))) g ∧ w.grownBy (w.setCell ⟨g, 1, none⟩ (.int .i64 ((p : Int) + 1))) (some g) := by
  obtain ⟨hB, hBs, a', len', cap', p', hh', hp', hc⟩ := h
  rw [hh] at hh'
  simp at hh'
  obtain ⟨⟨rfl, rfl, rfl⟩, hpp⟩ := hh'
  obtain rfl : p = p' := by omega
  have hg : w.grownBy (w.setCell ⟨g, 1, none⟩ (.int .i64 ((p : Int) + 1))) (some g) := ⟨rfl, rfl, rfl, by simp [World.setCell], fun k hk hne => Below.heap_setCell _ _ _ _ (fun c => hne (by rw [c]))⟩
  refine ⟨⟨hB, Nat.le_trans hBs hg.size, a, len, cap, p + 1, ?_, hp, hc.below (grown_below hg hB hBs)⟩, hg⟩
  have := heap_setCell_same w g 1 #[.slice a len cap, .int .i64 (p : Nat)] 147 (.int .i64 ((p : Int) + 1)) hh
  rw [this]
  simp

/-- A number in 0 .. N - 1 comes back; the reader's block alone has turned. -/
def Drawn (N : Int) (B g : Nat) (w : World) (e : Ending) (w' : World) : Prop :=
  ∃ n : Int, e = .returned (.int .i64 n) ∧ 0 ≤ n ∧ n < N ∧ Rd B w' g ∧ w.grownBy w' (some g)

theorem cell_of_two {w : World} {g : Nat} {x y : Value} {T : TypeId} (h : w.heap[g]? = some (.cells #[x, y] T (0, 0))) : w.cell? ⟨g, 0, none⟩ = some x ∧ w.cell? ⟨g, 1, none⟩ = some y ∧ w.frozen? ⟨g, 0, none⟩ = false ∧ w.frozen? ⟨g, 1, none⟩ = false := by
  refine ⟨?_, ?_, ?_, ?_⟩ <;> simp [World.cell?, World.frozen?, h]

set_option maxHeartbeats 1000000 in
theorem next_any (B g : Nat) (w : World) (h : Rd B w g) : Calls Tryd.prog 140 #[.pointer (some ⟨g, 0, none⟩)] w (Drawn 256 B g w) := by
  have hR := h
  obtain ⟨hB, hBs, a, len, cap, p, hh, hp, hlen, hc⟩ := h
  obtain ⟨c0, c1, f0, f1⟩ := cell_of_two hh
  by_cases hpl : p < len
  · rcases hc with hc | ⟨b, off, rfl, hbB, hc⟩
    · omega
    obtain ⟨n, hn0, hn1, hn⟩ := hc p hpl
    have hpl' : (p : Int) < (len : Int) := by omega
    have hlen' : (len : Int) ≤ 1048576 := by omega
    have hp0 : (0 : Int) ≤ (p : Int) := by omega
    have hbg : b ≠ g := by omega
    have R := hR.turned hpl hh
    clear hh hR
    go_enter Tryd.func140, Tryd.ntmps140
    go_wp2
    go_quiet (fail)
    go_wp2
    go_quiet (fail)
    go_wp2
    go_ret
    exact ⟨n, rfl, hn0, by omega, R.1, ⟨R.2.os, R.2.tape, R.2.output, R.2.size, R.2.block⟩⟩
  · have hpl' : (len : Int) ≤ (p : Int) := by omega
    go_enter Tryd.func140, Tryd.ntmps140
    go_wp2
    go_quiet (fail)
    go_wp2
    go_ret
    exact ⟨0, rfl, by omega, by omega, hR, ⟨rfl, rfl, rfl, Nat.le_refl _, fun _ _ _ => rfl⟩⟩

set_option maxHeartbeats 1000000 in
theorem below_any (B g : Nat) (n : Int) (w : World) (h : Rd B w g) (h1 : 1 ≤ n) (h2 : n ≤ 1048577) : Calls Tryd.prog 84 #[.pointer (some ⟨g, 0, none⟩), .int .i64 n] w (Drawn n B g w) := by
  by_cases hn1 : n ≤ 1
  · go_enter Tryd.func84, Tryd.ntmps84
    go_wp2
    go_ret
    exact ⟨0, rfl, by omega, by omega, h, World.grownBy.refl _ _⟩
  have hne : (n == 0) = false := by simp; omega
  by_cases hn2 : n ≤ 256
  · go_enter Tryd.func84, Tryd.ntmps84
    go_wp2_with fail
    refine (next_any B g _ h).mono ?_
    rintro e w1 ⟨x, rfl, hx0, hx1, hR1, hg1⟩
    go_wp2
    go_ret
    exact ⟨_, rfl, Int.emod_nonneg _ (by omega), Int.emod_lt_of_pos _ (by omega), hR1, hg1⟩
  · go_enter Tryd.func84, Tryd.ntmps84
    go_wp2_with fail
    refine (next_any B g _ h).mono ?_
    rintro e w1 ⟨x, rfl, hx0, hx1, hR1, hg1⟩
    go_wp2_with fail
    refine (next_any B g _ hR1).mono ?_
    rintro e w2 ⟨y, rfl, hy0, hy1, hR2, hg2⟩
    go_wp2
    go_ret
    exact ⟨_, rfl, Int.emod_nonneg _ (by omega), Int.emod_lt_of_pos _ (by omega), hR2, grown_trans hg1 hg2⟩

def DrawnBool (B g : Nat) (w : World) (e : Ending) (w' : World) : Prop := ∃ b : Bool, e = .returned (.bool b) ∧ Rd B w' g ∧ w.grownBy w' (some g)
theorem once_any (B g : Nat) (n : Int) (w : World) (h : Rd B w g) (h1 : 1 ≤ n) (h2 : n ≤ 1048577) : Calls Tryd.prog 78 #[.pointer (some ⟨g, 0, none⟩), .int .i64 n] w (DrawnBool B g w) := by
  go_enter Tryd.func78, Tryd.ntmps78
  go_wp2_with fail
  refine (below_any B g n _ h h1 h2).mono ?_
  rintro e w1 ⟨x, rfl, hx0, hx1, hR1, hg1⟩
  go_wp2
  go_ret
  exact ⟨_, rfl, hR1, hg1⟩

def DrawnStr (N : Nat) (B g : Nat) (w : World) (e : Ending) (w' : World) : Prop := ∃ s : ByteArray, e = .returned (.string s) ∧ s.size ≤ N ∧ Rd B w' g ∧ w.grownBy w' (some g)

/-- An append to a row of the call's own keeps the reader and turns nothing that was there but its block. -/
theorem Rd.append {B g : Nat} {w wr w2 : World} {o : Obj} {v : Value} {e n : Nat} {xs : List Value} {B2 : Nat} (hgr : w.grownBy wr (some g)) (hw : w.heap.size = B2) (hown : wr.ownsRow B2 e 1 v n xs) (hR : Rd B wr g) (hg : g < B2) (hgrow : (wr.alloc o).grownBy w2 v.ownBlock) : Rd B w2 g ∧ w.grownBy w2 (some g) := by
  have hB : B ≤ g := hR.1
  have ha := hR.kept (World.grownBy_alloc wr o none) (by simp) (by simp)
  refine ⟨ha.kept hgrow ?_ ?_, ?_⟩
  · intro c
    have := (hown.lt g c).1
    omega
  · intro k hk
    have := (hown.lt k hk).1
    omega
  · have h1 : w.grownBy (wr.alloc o) (some g) := grown_trans hgr (World.grownBy_alloc wr o _)
    refine ⟨hgrow.os.trans h1.os, hgrow.tape.trans h1.tape, hgrow.output.trans h1.output, Nat.le_trans h1.size hgrow.size, fun k hk hne => ?_⟩
    rw [hgrow.block k (Nat.lt_of_lt_of_le hk h1.size) (fun c => by have := (hown.lt k c.symm).1; omega), h1.block k hk hne]

set_option maxHeartbeats 1000000 in
theorem bytes_any (B g : Nat) (N : Nat) (w : World) (h : Rd B w g) (hN : N ≤ 100000) : Calls Tryd.prog 138 #[.pointer (some ⟨g, 0, none⟩), .int .i64 N] w (DrawnStr N B g w) := by
  obtain ⟨i0, hi, hz0, hz1, hz2⟩ := info_parts info_u8r
  have hN1 : (N : Int) ≤ 100000 := by omega
  have hg : g < w.heap.size := by obtain ⟨_, _, a, len, cap, p, hh, _⟩ := h; exact (Array.getElem?_eq_some_iff.1 hh).1
  go_enter Tryd.func138, Tryd.ntmps138
  go_wp2_with fail
  have hown : (w.alloc (.cells #[] 5)).ownsRow w.heap.size 5 1 (.slice (some ⟨w.heap.size, 0, none⟩) 0 0) 0 (cellsOf []) := World.ownsRow_lit w #[] 0 (Nat.le_refl _) (by unfold maxLen; omega) rfl
  refine (below_any B g _ _ (h.kept (World.grownBy_alloc w _ none) (by simp) (by simp)) (by omega) (by omega)).mono ?_
  rintro e w1 ⟨x, rfl, hx0, hx1, hR1, hg1⟩
  obtain ⟨X, rfl⟩ : ∃ X : Nat, x = X := ⟨x.toNat, by omega⟩
  have hg1' : w.grownBy w1 (some g) := grown_trans (World.grownBy_alloc w _ _) hg1
  have hown1 : w1.ownsRow w.heap.size 5 1 (.slice (some ⟨w.heap.size, 0, none⟩) 0 0) 0 (cellsOf []) := hown.kept hg1 (.inr (by simp [Value.ownBlock]; omega))
  clear hown hg1
  go_wp2
  go_loopw [5, 7] (fun v i wr => ∃ k : Nat, ∃ l : List UInt8, k ≤ X ∧ i = .int .i64 k ∧ wr.ownsRow w.heap.size 5 1 v k (cellsOf l) ∧ Rd B wr g ∧ w.grownBy wr (some g))
    (fun _ i _ => X - (intOf i).toNat)
  case atStart => exact ⟨0, [], Nat.zero_le _, rfl, hown1, hR1, hg1'⟩
  case round =>
    clear hown1 hR1 hg1'
    obtain ⟨k, l, hk, rfl, hown, hR, hgr⟩ := hrel
    by_cases hlt : k < X
    · have hk0 : (k : Int) < (X : Int) := by omega
      go_wp2_with fail
      refine (below_any B g _ _ hR (by omega) (by omega)).mono ?_
      rintro e w2 ⟨y, rfl, hy0, hy1, hR2, hg2⟩
      have hown2 : w2.ownsRow w.heap.size 5 1 u5 k (cellsOf l) := hown.kept hg2 (.inr (fun c => by have := (hown.lt g c).1; omega))
      have hgr2 := grown_trans hgr hg2
      clear hown hR hgr hg2
      go_wp2_with (at_builtin; refine wpList_append_lies _ rfl _ _ 39 rfl w.heap.size 5 i0 (.int .u8 0) 1 1 Tryd.underlying39 hi hz0 hz1 hz2 rfl (by decide) u5 k _ rfl (hown2.alloc _) ⟨w2.heap.size, 0, none⟩ 1 1 [_] rfl rfl (World.news_of_block (cs := #[_]) (t := 5) (fr := (0, 0)) (heap_alloc_new w2 _)) (by simp [Value.oneCell']) (by omega) (by unfold maxLen; omega) (by omega) (by have := hgr2.size; simp; omega) (w2.heap.size + 1) (by simp) ?_; intro g3 cap w3 hown3 hgrow3 hat hlt3)
      rw [byte_snoc l y hy0 hy1] at hown3
      have R := Rd.append hgr2 rfl hown2 hR2 hg hgrow3
      clear hown2 hgrow3 hR2 hgr2
      go_roundw
      case rel => exact ⟨k + 1, _, by omega, by go_num, hown3, R.1, R.2⟩
      case measure => simp [intOf]; omega
    · obtain rfl : k = X := by omega
      have hcv := run_convert_own (P := Tryd.prog) wr 39 9 5 _ _ _ _ Tryd.underlying39 Tryd.underlying5 Tryd.underlying9 hown
      have hl : l.length = k := by have := hown.1; rw [cellsOf_length] at this; omega
      have HL := Lib.hid hl
      clear hown hl
      go_wp2
      go_ret
      exact ⟨str l, rfl, by rw [str_size, HL.out]; omega, hR, hgr⟩

/-- A new reader. -/
theorem open_any (B : Nat) (a : Option Addr) (len cap : Nat) (w : World) (hB : B ≤ w.heap.size) (h : RdCode B w a len) :
    Calls Tryd.prog 77 #[.slice a len cap] w fun e w' => e = .returned (.pointer (some ⟨w.heap.size, 0, none⟩)) ∧ Rd B w' w.heap.size ∧ w.grownBy w' none := by
  go_enter Tryd.func77, Tryd.ntmps77
  go_wp2
  go_ret
  refine ⟨rfl, ⟨hB, by simp; omega, a, len, cap, 0, heap_alloc_new w _, Nat.zero_le _, h.below ((Below.refl _ _).alloc hB _)⟩, World.grownBy_alloc w _ _⟩

/-- Every case of a small range. -/
theorem four {n : Int} (h0 : 0 ≤ n) (h1 : n < 4) : n = 0 ∨ n = 1 ∨ n = 2 ∨ n = 3 := by omega

end Go.Proofs.YtfbcmckepdjdkaaDoor

/- The contract of the reader's 'key': a text of 40 bytes at most. -/
namespace Go.Proofs.YtfbcmckepdjdkaaDoor
open Go.RowKit Go.My Go.Lib
set_option linter.unusedVariables false

theorem eight {n : Int} (h0 : 0 ≤ n) (h1 : n < 8) : n = 0 ∨ n = 1 ∨ n = 2 ∨ n = 3 ∨ n = 4 ∨ n = 5 ∨ n = 6 ∨ n = 7 := by omega
theorem pick8 (a b c d e f g h : Int) (x : Int) (h0 : 0 ≤ x) (h1 : x < 8) (ha : 0 ≤ a ∧ a < 256) (hb : 0 ≤ b ∧ b < 256) (hc : 0 ≤ c ∧ c < 256) (hd : 0 ≤ d ∧ d < 256) (he : 0 ≤ e ∧ e < 256) (hf : 0 ≤ f ∧ f < 256) (hg : 0 ≤ g ∧ g < 256) (hh : 0 ≤ h ∧ h < 256) :
    ∃ t : Int, (#[Value.int .u8 a, .int .u8 b, .int .u8 c, .int .u8 d, .int .u8 e, .int .u8 f, .int .u8 g, .int .u8 h] : Array Value)[x.toNat]? = some (.int .u8 t) ∧ (∀ h', ([Value.int .u8 a, .int .u8 b, .int .u8 c, .int .u8 d, .int .u8 e, .int .u8 f, .int .u8 g, .int .u8 h] : List Value)[x.toNat]'h' = .int .u8 t) ∧ 0 ≤ t ∧ t < 256 := by
  rcases eight h0 h1 with rfl | rfl | rfl | rfl | rfl | rfl | rfl | rfl
  · exact ⟨a, rfl, fun _ => rfl, ha⟩
  · exact ⟨b, rfl, fun _ => rfl, hb⟩
  · exact ⟨c, rfl, fun _ => rfl, hc⟩
  · exact ⟨d, rfl, fun _ => rfl, hd⟩
  · exact ⟨e, rfl, fun _ => rfl, he⟩
  · exact ⟨f, rfl, fun _ => rfl, hf⟩
  · exact ⟨g, rfl, fun _ => rfl, hg⟩
  · exact ⟨h, rfl, fun _ => rfl, hh⟩

set_option maxHeartbeats 2000000 in
theorem key_any (B g : Nat) (w : World) (h : Rd B w g) : Calls Tryd.prog 79 #[.pointer (some ⟨g, 0, none⟩)] w (DrawnStr 40 B g w) := by
  obtain ⟨i0, hi, hz0, hz1, hz2⟩ := info_parts info_u8r
  go_enter Tryd.func79, Tryd.ntmps79
  go_wp2_with fail
  refine (once_any B g _ _ h (by omega) (by omega)).mono ?_
  rintro e w1 ⟨b, rfl, hR1, hg1⟩
  cases b with
  | true =>
    go_wp2_with fail
    refine (bytes_any B g 40 _ hR1 (by omega)).mono ?_
    rintro e w2 ⟨s, rfl, hs, hR2, hg2⟩
    go_wp2
    go_ret
    exact ⟨s, rfl, hs, hR2, grown_trans hg1 hg2⟩
  | false =>
    have hg : g < w1.heap.size := hR1.lt
    go_wp2_with fail
    have hown : (w1.alloc (.cells #[] 5)).ownsRow w1.heap.size 5 1 (.slice (some ⟨w1.heap.size, 0, none⟩) 0 0) 0 (cellsOf []) := World.ownsRow_lit w1 #[] 0 (Nat.le_refl _) (by unfold maxLen; omega) rfl
    refine (below_any B g _ _ (hR1.alloc _) (by omega) (by omega)).mono ?_
    rintro e w2 ⟨x, rfl, hx0, hx1, hR2, hg2⟩
    have hg2' : w1.grownBy w2 (some g) := grown_trans (World.grownBy_alloc w1 _ _) hg2
    have HG1 := Lib.hid hg1
    have hw1 : w1.heap.size ≤ w2.heap.size := Nat.le_trans (by simp) hg2.size
    have hown2 : w2.ownsRow w1.heap.size 5 1 (.slice (some ⟨w1.heap.size, 0, none⟩) 0 0) 0 (cellsOf []) := hown.kept hg2 (.inr (by simp [Value.ownBlock]; omega))
    clear hown hg2 hg1
    go_wp2
    go_loopw [3, 5] (fun v i wr => ∃ k : Nat, ∃ l : List UInt8, k ≤ 32 ∧ i = .int .i64 k ∧ wr.ownsRow w1.heap.size 5 1 v k (cellsOf l) ∧ Rd B wr g ∧ w1.grownBy wr (some g))
      (fun _ i _ => 32 - (intOf i).toNat)
    case atStart => exact ⟨0, [], Nat.zero_le _, rfl, hown2, hR2, hg2'⟩
    case round =>
    clear hown2 hR2 hg2'
    obtain ⟨k, l, hk, rfl, hown, hR, hgr⟩ := hrel
    by_cases hlt : k < 32
    · have hk0 : (k : Int) < 32 := by omega
      go_wp2_with fail
      refine (below_any B g _ _ hR (by omega) (by omega)).mono ?_
      rintro e w3 ⟨ya, rfl, hya0, hya1, hR3, hg3⟩
      go_wp2_with fail
      refine (below_any B g _ _ hR3 (by omega) (by omega)).mono ?_
      rintro e w4 ⟨yb, rfl, hyb0, hyb1, hR4, hg4⟩
      go_wp2_with fail
      refine (below_any B g _ _ hR4 (by omega) (by omega)).mono ?_
      rintro e w5 ⟨yc, rfl, hyc0, hyc1, hR5, hg5⟩
      go_wp2_with fail
      refine (below_any B g _ _ hR5 (by omega) (by omega)).mono ?_
      rintro e w6 ⟨yd, rfl, hyd0, hyd1, hR6, hg6⟩
      go_wp2_with fail
      refine (below_any B g _ _ hR6 (by omega) (by omega)).mono ?_
      rintro e w7 ⟨ye, rfl, hye0, hye1, hR7, hg7⟩
      have hgA : wr.grownBy w7 (some g) := grown_trans hg3 (grown_trans hg4 (grown_trans hg5 (grown_trans hg6 hg7)))
      have hown7 : w7.ownsRow w1.heap.size 5 1 u3 k (cellsOf l) := hown.kept hgA (.inr (fun c => by have := (hown.lt g c).1; omega))
      have hgr7 := grown_trans hgr hgA
      obtain ⟨y, hy, hy', hy0, hy1⟩ := pick8 0 255 ya yb (k : Int) yc yd ye x hx0 hx1 (by omega) (by omega) (by omega) (by omega) (by omega) (by omega) (by omega) (by omega)
      clear hown hR hgr hg3 hg4 hg5 hg6 hg7 hgA hR3 hR4 hR5 hR6
      have H7 := Lib.hid hgr7.size
      have R8 := Lib.hid (fun o => And.intro (hR7.alloc o) (grown_trans hgr7 (World.grownBy_alloc w7 o _)))
      have O8 := Lib.hid (fun o => hown7.alloc o)
      clear hR7 hgr7 hown7
      have hnew : ∀ o o', ((w7.alloc o).alloc o').heap[w7.heap.size + 1]? = some o' := by intro o o'; simpa using heap_alloc_new (w7.alloc o) o'
      have h7 : w1.heap.size ≤ w7.heap.size := H7.out
      go_wp2_with (at_builtin; refine wpList_append_lies _ rfl _ _ 39 rfl w1.heap.size 5 i0 (.int .u8 0) 1 1 Tryd.underlying39 hi hz0 hz1 hz2 rfl (by decide) u3 k _ rfl ((O8.out _).alloc _) ⟨w7.heap.size + 1, 0, none⟩ 1 1 [_] rfl rfl (World.news_of_block (cs := #[_]) (t := 5) (fr := (0, 0)) (hnew _ _)) (by simp [Value.oneCell']) (by omega) (by unfold maxLen; omega) (by omega) (by simp; omega) (w7.heap.size + 1 + 1) (by simp) ?_; intro g8 cap w8 hown8 hgrow8 hat hlt8)
      rw [byte_snoc l y hy0 hy1] at hown8
      have R := Rd.append (R8.out _).2 rfl (O8.out _) (R8.out _).1 hg hgrow8
      clear hgrow8 R8 O8
      go_roundw
      case rel => exact ⟨k + 1, _, by omega, by go_num, hown8, R.1, R.2⟩
      case measure => simp [intOf]; omega
    · obtain rfl : k = 32 := by omega
      have hcv := run_convert_own (P := Tryd.prog) wr 39 9 5 _ _ _ _ Tryd.underlying39 Tryd.underlying5 Tryd.underlying9 hown
      have hl : l.length = 32 := by have := hown.1; rw [cellsOf_length] at this; omega
      have HL := Lib.hid hl
      clear hown hl
      go_wp2
      go_ret
      exact ⟨str l, rfl, by rw [str_size, HL.out]; omega, hR, grown_trans HG1.out hgr⟩

end Go.Proofs.YtfbcmckepdjdkaaDoor

/- What every law's draws want: a code, the bound, the shapes of draws. -/
namespace Go.Proofs.YtfbcmckepdjdkaaDoor
open Go.RowKit Go.My Go.Lib
set_option linter.unusedVariables false

/-- A slice that came in is a code, if it is no longer than the laws take. -/
theorem code_of_row {w : World} {a : Option Addr} {len cap : Nat} {zs : List Int} (h : IsRow .u8 w a len cap zs) (hl : len ≤ 1048576) : RdCode w.heap.size w a len := by
  refine ⟨hl, ?_⟩
  rcases h with ⟨_, rfl, _⟩ | ⟨x, rfl, hlc, _, hz, hc, hwf⟩
  · exact .inl rfl
  · by_cases h0 : len = 0
    · exact .inl h0
    right
    have c0 := hc 0 (by omega)
    obtain ⟨b, off, spot⟩ := x
    have hspot : spot = none := by simpa [Addr.add] using World.cell?_spot c0
    subst hspot
    refine ⟨b, off, rfl, ?_, fun i hi => ?_⟩
    · have := World.block_lt_of_cell? w _ c0
      simpa [Addr.add] using this
    · have hci := hc i (by omega)
      have hm : zs.getD i 0 ∈ zs := by
        have : i < zs.length := by omega
        rw [List.getD_eq_getElem?_getD, List.getElem?_eq_getElem this]
        exact List.getElem_mem this
      have hw := hwf _ hm
      simp [Lit.wf, IntKind.min, IntKind.max, IntKind.signed, IntKind.bits] at hw
      exact ⟨zs.getD i 0, by simpa using hw.1, by simpa using hw.2, by rw [Addr.add_lit] at hci; exact hci⟩

theorem big_any (a : Option Addr) (len cap : Nat) (w : World) (h : len ≤ 9223372036854775807) :
    Calls Tryd.prog 25 #[.slice a len cap] w fun e w' => e = .returned (.bool (decide (1048576 < (len : Int)))) ∧ w = w' := by
  go_enter Tryd.func25, Tryd.ntmps25
  go_wp2
  go_ret
  exact ⟨rfl, rfl⟩

def DrawS (N B : Nat) (w : World) (e : Ending) (w' : World) : Prop := ∃ s : ByteArray, e = .returned (.string s) ∧ s.size ≤ N ∧ Below B w w'
def DrawSS (N B : Nat) (w : World) (e : Ending) (w' : World) : Prop := ∃ s t : ByteArray, e = .returned (.tuple #[.string s, .string t]) ∧ s.size ≤ N ∧ t.size ≤ N ∧ Below B w w'
def DrawII (B : Nat) (w : World) (e : Ending) (w' : World) : Prop := ∃ n k : Int, e = .returned (.tuple #[.int .i64 n, .int .i64 k]) ∧ (Lit.int .i64 n).wf = true ∧ (Lit.int .i64 k).wf = true ∧ Below B w w'

theorem below_none {B : Nat} {a b : World} (h : a.grownBy b none) (hB : B ≤ a.heap.size) : Below B a b :=
  ⟨h.os, h.tape, h.output, h.size, fun k hk => h.block k (by omega) (by simp)⟩


end Go.Proofs.YtfbcmckepdjdkaaDoor

/- The modulus 2^255 - 19 is prime (Pocklington), and Fermat's theorem. Nothing of the program is named. -/
namespace Go.My
set_option linter.unusedVariables false

def Prim (p : Nat) : Prop := 2 ≤ p ∧ ∀ d, d ∣ p → d = 1 ∨ d = p
theorem Prim.euclid {p a b : Nat} (hp : Prim p) (h : p ∣ a * b) : p ∣ a ∨ p ∣ b := by
  rcases hp.2 (Nat.gcd p a) (Nat.gcd_dvd_left p a) with h1 | h1
  · exact .inr (Nat.Coprime.dvd_of_dvd_mul_left h1 h)
  · left
    have := Nat.gcd_dvd_right p a
    rw [h1] at this
    exact this

/-! ### Fermat, by the binomial theorem -/
def ch : Nat → Nat → Nat
  | _, 0 => 1
  | 0, _ + 1 => 0
  | n + 1, k + 1 => ch n k + ch n (k + 1)
theorem ch_zero (n : Nat) : ch n 0 = 1 := by cases n <;> rfl
theorem ch_big (n k : Nat) (h : n < k) : ch n k = 0 := by
  induction n generalizing k with
  | zero => cases k with
    | zero => omega
    | succ k => rfl
  | succ n ih => cases k with
    | zero => omega
    | succ k => rw [ch, ih k (by omega), ih (k + 1) (by omega)]
theorem ch_self (n : Nat) : ch n n = 1 := by
  induction n with
  | zero => rfl
  | succ n ih => rw [ch, ih, ch_big n (n + 1) (by omega)]
theorem ch_absorb (n k : Nat) : (k + 1) * ch (n + 1) (k + 1) = (n + 1) * ch n k := by
  induction n generalizing k with
  | zero => cases k with
    | zero => rfl
    | succ k => simp [ch]
  | succ n ih =>
    cases k with
    | zero =>
      have h := ih 0
      rw [ch_zero] at h ⊢
      rw [show ch (n + 1 + 1) (0 + 1) = ch (n + 1) 0 + ch (n + 1) (0 + 1) from rfl, ch_zero]
      omega
    | succ k =>
      have h1 := ih k
      have h2 := ih (k + 1)
      rw [ch, Nat.mul_add]
      have e1 : (k + 1 + 1) * ch (n + 1) (k + 1) = (n + 1) * ch n k + ch (n + 1) (k + 1) := by rw [← h1, Nat.add_mul, Nat.one_mul]
      rw [e1, h2, show ch (n + 1) (k + 1) = ch n k + ch n (k + 1) from rfl]
      simp only [Nat.add_mul, Nat.mul_add]
      omega
def bs (n x : Nat) : Nat → Nat
  | 0 => 0
  | m + 1 => bs n x m + ch n m * x ^ m
theorem bs_succ (n x m : Nat) : bs (n + 1) x (m + 1) = bs n x (m + 1) + x * bs n x m := by
  induction m with
  | zero => simp [bs, ch_zero]
  | succ m ih =>
    rw [bs, ih, bs, bs, bs, ch, Nat.pow_succ, Nat.add_mul, Nat.mul_add]
    have e : ch n m * (x ^ m * x) = x * (ch n m * x ^ m) := by rw [Nat.mul_comm x, Nat.mul_assoc]
    rw [e]
    omega
theorem bs_all (n x : Nat) : bs n x (n + 1) = (x + 1) ^ n := by
  induction n with
  | zero => simp [bs, ch]
  | succ n ih =>
    rw [bs_succ, ih, bs, ih, ch_big n (n + 1) (by omega), Nat.zero_mul, Nat.pow_succ, Nat.mul_add, Nat.mul_comm x]
    omega
theorem bs_mid (p x : Nat) (hp : Prim p) (m : Nat) (hm : m + 1 ≤ p) : bs p x (m + 1) % p = 1 % p := by
  induction m with
  | zero => simp [bs, ch_zero]
  | succ m ih =>
    rw [bs]
    have hd : p ∣ ch p (m + 1) := by
      obtain ⟨q, rfl⟩ : ∃ q, p = q + 1 := ⟨p - 1, by omega⟩
      have := ch_absorb q m
      rcases hp.euclid (a := m + 1) (b := ch (q + 1) (m + 1)) ⟨_, this⟩ with h | h
      · have := Nat.le_of_dvd (by omega) h
        omega
      · exact h
    obtain ⟨c, hc⟩ := hd
    rw [hc, Nat.mul_assoc, Nat.add_mul_mod_self_left]
    exact ih (by omega)
theorem frob (p x : Nat) (hp : Prim p) : (x + 1) ^ p % p = (x ^ p + 1) % p := by
  obtain ⟨q, rfl⟩ : ∃ q, p = q + 1 := ⟨p - 1, by have := hp.1; omega⟩
  rw [← bs_all, bs, ch_self, Nat.one_mul, Nat.add_mod, bs_mid (q + 1) x hp q (by omega), ← Nat.add_mod, Nat.add_comm]
theorem fermat (p x : Nat) (hp : Prim p) : x ^ p % p = x % p := by
  induction x with
  | zero => rw [Nat.zero_pow (by have := hp.1; omega)]
  | succ x ih => rw [frob p x hp, Nat.add_mod, ih, ← Nat.add_mod]
theorem fermat1 (p x : Nat) (hp : Prim p) (h : x % p ≠ 0) : x ^ (p - 1) % p = 1 := by
  have h2 := hp.1
  have hx : 0 < x := by
    rcases Nat.eq_zero_or_pos x with e | e
    · rw [e] at h; simp at h
    · exact e
  have e : x ^ p = x * x ^ (p - 1) := by rw [Nat.mul_comm, ← Nat.pow_succ]; congr 1; omega
  have f := fermat p x hp
  have hpos : 0 < x ^ (p - 1) := Nat.pow_pos hx
  have hd : p ∣ x * (x ^ (p - 1) - 1) := by
    rw [Nat.mul_sub, Nat.mul_one, ← e]
    exact Nat.dvd_of_mod_eq_zero (Nat.sub_mod_eq_zero_of_mod_eq f)
  rcases hp.euclid hd with hd | hd
  · exact absurd (Nat.mod_eq_zero_of_dvd hd) h
  · obtain ⟨c, hc⟩ := hd
    rw [show x ^ (p - 1) = 1 + p * c by omega, Nat.add_mul_mod_self_left]
    exact Nat.mod_eq_of_lt (by omega)

/-! ### Pocklington -/
theorem pow_one_mod {r x a : Nat} (h : x ^ a % r = 1 % r) (k : Nat) : x ^ (a * k) % r = 1 % r := by
  rw [Nat.pow_mul, Nat.pow_mod, h]
  rw [← Nat.pow_mod, Nat.one_pow]
theorem pow_gcd {r x : Nat} : ∀ (a b : Nat), x ^ a % r = 1 % r → x ^ b % r = 1 % r → x ^ Nat.gcd a b % r = 1 % r := by
  intro a
  induction a using Nat.strongRecOn with
  | ind a ih =>
    intro b ha hb
    rcases Nat.eq_zero_or_pos a with rfl | ha0
    · rw [Nat.gcd_zero_left]; exact hb
    · rw [Nat.gcd_rec]
      refine ih (b % a) (Nat.mod_lt _ ha0) a ?_ ha
      have e : x ^ b = x ^ (a * (b / a)) * x ^ (b % a) := by rw [← Nat.pow_add, Nat.div_add_mod]
      rw [e, Nat.mul_mod, pow_one_mod ha, ← Nat.mul_mod, Nat.one_mul] at hb
      exact hb
theorem pock_dvd (n q m a r : Nat) (hq : Prim q) (h1 : a ^ (q * m) % n = 1) (h2 : Nat.gcd (a ^ m % n + (n - 1)) n = 1) (hn : 2 ≤ n) (hr : Prim r) (hrn : r ∣ n) : q ∣ r - 1 := by
  have hr2 := hr.1
  have down : ∀ y, y % n % r = y % r := fun y => Nat.mod_mod_of_dvd y hrn
  have e1 : (a ^ m) ^ q % r = 1 % r := by rw [← Nat.pow_mul, Nat.mul_comm, ← down, h1]
  have hne : a ^ m % r ≠ 1 % r := by
    intro c
    have hd : r ∣ a ^ m % n + (n - 1) := by
      obtain ⟨k, hk⟩ := hrn
      have hk1 : (n - 1) % r = (r - 1) % r := by
        have hk0 : 0 < k := by rcases Nat.eq_zero_or_pos k with e | e; (rw [e] at hk; omega); exact e
        obtain ⟨j, rfl⟩ : ∃ j, k = j + 1 := ⟨k - 1, by omega⟩
        rw [Nat.mul_add, Nat.mul_one] at hk
        rw [show n - 1 = (r - 1) + r * j by omega, Nat.add_mul_mod_self_left]
      apply Nat.dvd_of_mod_eq_zero
      rw [Nat.add_mod, down, c, hk1, ← Nat.add_mod, show 1 + (r - 1) = r by omega, Nat.mod_self]
    have := Nat.dvd_gcd hd hrn
    rw [h2] at this
    have := Nat.le_of_dvd (by omega) this
    omega
  have hx : a ^ m % r ≠ 0 := by
    intro c
    have : (a ^ m) ^ q % r = 0 := by
      rw [Nat.pow_mod, c, Nat.zero_pow (by have := hq.1; omega)]
      exact Nat.zero_mod _
    rw [this, Nat.mod_eq_of_lt (by omega : 1 < r)] at e1
    omega
  have e2 : (a ^ m) ^ (r - 1) % r = 1 % r := by rw [fermat1 r _ hr hx, Nat.mod_eq_of_lt (by omega)]
  have e3 := pow_gcd q (r - 1) e1 e2
  rcases hq.2 (Nat.gcd q (r - 1)) (Nat.gcd_dvd_left _ _) with h | h
  · rw [h, Nat.pow_one] at e3
    exact absurd e3 hne
  · rw [← h]
    exact Nat.gcd_dvd_right _ _
theorem has_prim : ∀ n, 2 ≤ n → ∃ r, Prim r ∧ r ∣ n := by
  intro n
  induction n using Nat.strongRecOn with
  | ind n ih =>
    intro hn
    by_cases hp : Prim n
    · exact ⟨n, hp, Nat.dvd_refl n⟩
    · have : ∃ d, d ∣ n ∧ d ≠ 1 ∧ d ≠ n := by
        refine Classical.byContradiction fun c => hp ⟨hn, fun d hd => ?_⟩
        refine Classical.byContradiction fun c2 => c ⟨d, hd, fun e => c2 (.inl e), fun e => c2 (.inr e)⟩
      obtain ⟨d, hd, h1, h2⟩ := this
      have hle := Nat.le_of_dvd (by omega) hd
      have h0 : d ≠ 0 := by rintro rfl; exact absurd (Nat.eq_zero_of_zero_dvd hd) (by omega)
      obtain ⟨r, hr, hrd⟩ := ih d (by omega) (by omega)
      exact ⟨r, hr, Nat.dvd_trans hrd hd⟩
theorem prim_of_big (n K : Nat) (hn : 2 ≤ n) (hK : n < K * K) (h : ∀ r, Prim r → r ∣ n → K ≤ r) : Prim n := by
  refine ⟨hn, fun d hd => ?_⟩
  refine Classical.byContradiction fun c => ?_
  obtain ⟨e, he⟩ := hd
  have d0 : 2 ≤ d := by
    rcases d with _ | _ | d
    · simp at he; omega
    · exact absurd (.inl rfl) c
    · omega
  have e0 : 2 ≤ e := by
    rcases e with _ | _ | e
    · simp at he; omega
    · exact absurd (.inr (by omega)) c
    · omega
  obtain ⟨r, hr, hrd⟩ := has_prim d d0
  obtain ⟨s, hs, hse⟩ := has_prim e e0
  have h1 := h r hr (by rw [he]; exact Nat.dvd_trans hrd (Nat.dvd_mul_right _ _))
  have h2 := h s hs (by rw [he]; exact Nat.dvd_trans hse (Nat.dvd_mul_left _ _))
  have h3 := Nat.le_of_dvd (by omega) hrd
  have h4 := Nat.le_of_dvd (by omega) hse
  have := Nat.mul_le_mul (Nat.le_trans h1 h3) (Nat.le_trans h2 h4)
  omega
theorem prim_small (n K : Nat) (hn : 2 ≤ n) (hK : n < K * K) (h : ((List.range K).all fun d => decide (d < 2) || n % d != 0) = true) : Prim n := by
  refine prim_of_big n K hn hK fun r hr hrn => ?_
  refine Classical.byContradiction fun c => ?_
  have := List.all_eq_true.1 h r (List.mem_range.2 (by omega))
  have h2 := hr.1
  simp only [Bool.or_eq_true, decide_eq_true_eq, bne_iff_ne, ne_eq] at this
  rcases this with h3 | h3
  · omega
  · exact h3 (Nat.mod_eq_zero_of_dvd hrn)
/-! ### The certificate -/
/-- a^e mod n, by squares. -/
def pm (n : Nat) : Nat → Nat → Nat → Nat
  | 0, _, _ => 1 % n
  | f + 1, a, e => bif e % 2 == 1 then a * pm n f (a * a % n) (e / 2) % n else pm n f (a * a % n) (e / 2)
theorem pm_eq (n : Nat) : ∀ f a e, e < 2 ^ f → pm n f a e = a ^ e % n := by
  intro f
  induction f with
  | zero =>
    intro a e h
    obtain rfl : e = 0 := by rw [Nat.pow_zero] at h; omega
    rfl
  | succ f ih =>
    intro a e h
    have hh : e / 2 < 2 ^ f := by rw [Nat.pow_succ] at h; omega
    have hs : (a * a % n) ^ (e / 2) % n = (a ^ (2 * (e / 2))) % n := by rw [← Nat.pow_mod, Nat.pow_mul, Nat.pow_two]
    rw [pm, ih _ _ hh, hs]
    by_cases h1 : e % 2 = 1
    · rw [show (e % 2 == 1) = true by simp [h1], cond_true, Nat.mul_mod, Nat.mod_mod, ← Nat.mul_mod, Nat.mul_comm a, ← Nat.pow_succ]
      congr 2; omega
    · rw [show (e % 2 == 1) = false by simp [h1], cond_false]
      congr 2; omega

theorem prim_two (n q1 q2 m1 m2 : Nat) (hn : 2 ≤ n) (p1 : Prim q1) (p2 : Prim q2) (hc : Nat.Coprime q1 q2) (e1 : n - 1 = q1 * m1) (e2 : n - 1 = q2 * m2) (hK : n < (q1 * q2) * (q1 * q2))
    (f : Nat) (hf : n ≤ 2 ^ f)
    (h1 : pm n f 2 (n - 1) = 1) (g1 : Nat.gcd (pm n f 2 m1 + (n - 1)) n = 1) (g2 : Nat.gcd (pm n f 2 m2 + (n - 1)) n = 1) : Prim n := by
  have l1 : m1 ≤ n - 1 := by rw [e1]; exact Nat.le_mul_of_pos_left _ (by have := p1.1; omega)
  have l2 : m2 ≤ n - 1 := by rw [e2]; exact Nat.le_mul_of_pos_left _ (by have := p2.1; omega)
  rw [pm_eq n f 2 _ (by omega)] at h1 g1 g2
  refine prim_of_big n (q1 * q2) hn hK fun r hr hrn => ?_
  have d1 := pock_dvd n q1 m1 2 r p1 (by rw [← e1]; exact h1) g1 hn hr hrn
  have d2 := pock_dvd n q2 m2 2 r p2 (by rw [← e2]; exact h1) g2 hn hr hrn
  have := Nat.le_of_dvd (by have := hr.1; omega) (Nat.Coprime.mul_dvd_of_dvd_of_dvd hc d1 d2)
  omega
theorem prim_one (n q m : Nat) (hn : 2 ≤ n) (p1 : Prim q) (e1 : n - 1 = q * m) (hK : n < q * q) (f : Nat) (hf : n ≤ 2 ^ f)
    (h1 : pm n f 2 (n - 1) = 1) (g1 : Nat.gcd (pm n f 2 m + (n - 1)) n = 1) : Prim n := by
  have l1 : m ≤ n - 1 := by rw [e1]; exact Nat.le_mul_of_pos_left _ (by have := p1.1; omega)
  rw [pm_eq n f 2 _ (by omega)] at h1 g1
  refine prim_of_big n q hn hK fun r hr hrn => ?_
  have d1 := pock_dvd n q m 2 r p1 (by rw [← e1]; exact h1) g1 hn hr hrn
  have := Nat.le_of_dvd (by have := hr.1; omega) d1
  omega

theorem prim127 : Prim 127 := prim_small 127 12 (by decide) (by decide) (by decide +kernel)
theorem prim75707 : Prim 75707 := prim_small 75707 300 (by decide) (by decide) (by decide +kernel)
theorem prim132049 : Prim 132049 := prim_small 132049 400 (by decide) (by decide) (by decide +kernel)
theorem prim8574133 : Prim 8574133 := prim_small 8574133 3000 (by decide) (by decide) (by decide +kernel)
theorem primR2 : Prim 1919519569386763 :=
  prim_two 1919519569386763 8574133 127 ((1919519569386763 - 1) / 8574133) ((1919519569386763 - 1) / 127) (by decide) prim8574133 prim127 (by decide +kernel) (by decide +kernel) (by decide +kernel) (by decide +kernel)
    60 (by decide +kernel) (by decide +kernel) (by decide +kernel) (by decide +kernel)
theorem primR1 : Prim 75445702479781427272750846543864801 :=
  prim_two 75445702479781427272750846543864801 1919519569386763 75707 ((75445702479781427272750846543864801 - 1) / 1919519569386763) ((75445702479781427272750846543864801 - 1) / 75707) (by decide) primR2 prim75707 (by decide +kernel) (by decide +kernel) (by decide +kernel) (by decide +kernel)
    120 (by decide +kernel) (by decide +kernel) (by decide +kernel) (by decide +kernel)
theorem primQ : Prim 74058212732561358302231226437062788676166966415465897661863160754340907 :=
  prim_two 74058212732561358302231226437062788676166966415465897661863160754340907 75445702479781427272750846543864801 132049 ((74058212732561358302231226437062788676166966415465897661863160754340907 - 1) / 75445702479781427272750846543864801) ((74058212732561358302231226437062788676166966415465897661863160754340907 - 1) / 132049) (by decide) primR1 prim132049 (by decide +kernel) (by decide +kernel) (by decide +kernel) (by decide +kernel)
    260 (by decide +kernel) (by decide +kernel) (by decide +kernel) (by decide +kernel)
/-- 2^255 - 19. -/
def P25 : Nat := 57896044618658097711785492504343953926634992332820282019728792003956564819949
theorem primP : Prim P25 :=
  prim_one P25 74058212732561358302231226437062788676166966415465897661863160754340907 ((P25 - 1) / 74058212732561358302231226437062788676166966415465897661863160754340907) (by decide +kernel) primQ (by decide +kernel) (by decide +kernel)
    260 (by decide +kernel) (by decide +kernel) (by decide +kernel)

end Go.My

/- The contracts of the small pieces of SHA-256: turning a word, the program's and the specification's. -/
namespace Go.Proofs.YtfbcmckepdjdkaaDoor
open Go.RowKit Go.My Go.Lib
set_option linter.unusedVariables false

theorem rot_spec (x : Int) (k : Nat) (w : World) (h0 : 0 ≤ x) (h1 : x ≤ 4294967295) (hr : 1 ≤ k) (hr2 : k ≤ 31) :
    Calls Tryd.prog 201 #[.int .u32 x, .int .i64 k] w fun e w' => e = .returned (.int .u32 (rot x k)) ∧ w = w' := by
  have hi1 : (1 : Int) ≤ k := by omega
  have hi2 : (k : Int) ≤ 31 := by omega
  go_enter Tryd.func201, Tryd.ntmps201
  go_wp2
  go_ret
  exact ⟨rfl, rfl⟩

theorem rot_impl (x : Int) (r k : Nat) (w : World) (h0 : 0 ≤ x) (h1 : x ≤ 4294967295) (hr : 1 ≤ k) (hr2 : k ≤ 31) (hrk : r + k = 32) :
    Calls Tryd.prog 209 #[.int .u32 x, .int .i64 (-(r : Int))] w fun e w' => e = .returned (.int .u32 (rot x k)) ∧ w = w' := by
  have hi1 : (1 : Int) ≤ k := by omega
  have hi2 : (k : Int) ≤ 31 := by omega
  have he := mask31 r k hr hr2 hrk
  go_enter Tryd.func209, Tryd.ntmps209
  go_wp2
  go_ret
  exact ⟨rfl, rfl⟩

theorem rot_impl' (x n : Int) (r k : Nat) (w : World) (h0 : 0 ≤ x) (h1 : x ≤ 4294967295) (hn : n = -(r : Int)) (hr : 1 ≤ k) (hr2 : k ≤ 31) (hrk : r + k = 32) :
    Calls Tryd.prog 209 #[.int .u32 x, .int .i64 n] w fun e w' => e = .returned (.int .u32 (rot x k)) ∧ w = w' := by
  subst hn
  exact rot_impl x r k w h0 h1 hr hr2 hrk

theorem turned_any (x : Int) (w : World) (h0 : 0 ≤ x) (h1 : x ≤ 4294967295) (i j k i' j' k' : Nat) (hi : 1 ≤ i' ∧ i' ≤ 31 ∧ i + i' = 32) (hj : 1 ≤ j' ∧ j' ≤ 31 ∧ j + j' = 32) (hk : 1 ≤ k' ∧ k' ≤ 31 ∧ k + k' = 32) :
    Calls Tryd.prog 199 #[.int .u32 x, .int .i64 i, .int .i64 j, .int .i64 k] w fun e w' => e = .returned (.int .u32 (xor32 (xor32 (rot x i') (rot x j')) (rot x k'))) ∧ w = w' := by
  have hi1 : (i : Int) ≤ 31 := by omega
  have hj1 : (j : Int) ≤ 31 := by omega
  have hk1 : (k : Int) ≤ 31 := by omega
  have HI := Lib.hid hi
  have HJ := Lib.hid hj
  have HK := Lib.hid hk
  clear hi hj hk
  go_enter Tryd.func199, Tryd.ntmps199
  go_wp2_with fail
  refine (rot_impl x i i' _ h0 h1 HI.out.1 HI.out.2.1 HI.out.2.2).mono ?_
  rintro e w' ⟨rfl, rfl⟩
  go_wp2_with fail
  refine (rot_impl x j j' _ h0 h1 HJ.out.1 HJ.out.2.1 HJ.out.2.2).mono ?_
  rintro e w' ⟨rfl, rfl⟩
  go_wp2_with fail
  refine (rot_impl x k k' _ h0 h1 HK.out.1 HK.out.2.1 HK.out.2.2).mono ?_
  rintro e w' ⟨rfl, rfl⟩
  go_wp2
  go_ret
  exact ⟨rfl, rfl⟩

end Go.Proofs.YtfbcmckepdjdkaaDoor

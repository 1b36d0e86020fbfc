/- Products of words: four by four, and the fold at 2^256. Nothing of the program is named. -/
import Derived.Test.YtdhfddeghnoecaaDoorMathG
namespace Go.My
open Go.RowKit

def V8 (f : Nat → Nat) : Nat := f 0 + 18446744073709551616 * f 1 + 340282366920938463463374607431768211456 * f 2 + 6277101735386680763835789423207666416102355444464034512896 * f 3 + 115792089237316195423570985008687907853269984665640564039457584007913129639936 * f 4 + 2135987035920910082395021706169552114602704522356652769947041607822219725780640550022962086936576 * f 5 + 39402006196394479212279040100143613805079739270465446667948293404245721771497210611414266254884915640806627990306816 * f 6 + 726838724295606890549323807888004534353641360687318060281490199180639288113397923326191050713763565560762521606266177933534601628614656 * f 7
/-- The carries of a word's product with a row of four, added to a row from place i on. -/
def cM (b f : Nat → Nat) (x i : Nat) : Nat → Nat
  | 0 => 0
  | j + 1 => (x * b j + f (i + j) + cM b f x i j) / 18446744073709551616
def rM (b f : Nat → Nat) (x i j : Nat) : Nat := (x * b j + f (i + j) + cM b f x i j) % 18446744073709551616
/-- The row when j places are done, and when all are. -/
def inM (b f : Nat → Nat) (x i j q : Nat) : Nat := if i ≤ q ∧ q < i + j then rM b f x i (q - i) else f q
def rowM (b f : Nat → Nat) (x i q : Nat) : Nat := if q = i + 4 then cM b f x i 4 else inM b f x i 4 q
theorem rM_lt (b f : Nat → Nat) (x i j : Nat) : rM b f x i j < U64 := Nat.mod_lt _ (by decide)
theorem prodU (x y : Nat) (hx : x < U64) (hy : y < U64) : x * y ≤ 340282366920938463426481119284349108225 := Nat.mul_le_mul (by unfold U64 at hx; omega : x ≤ 18446744073709551615) (by unfold U64 at hy; omega : y ≤ 18446744073709551615)
theorem cM_lt (b f : Nat → Nat) (x i j : Nat) (hx : x < U64) (hb : ∀ q, b q < U64) (hf : ∀ q, f q < U64) : cM b f x i j < U64 := by
  induction j with
  | zero => exact (by decide : 0 < 18446744073709551616)
  | succ j ih =>
    have h1 := prodU x (b j) hx (hb j)
    have h2 := hf (i + j)
    unfold cM
    unfold U64 at *
    omega
theorem inM_lt (b f : Nat → Nat) (x i j q : Nat) (hf : ∀ q, f q < U64) : inM b f x i j q < U64 := by
  unfold inM
  split
  · exact rM_lt _ _ _ _ _
  · exact hf q
theorem rowM_lt (b f : Nat → Nat) (x i q : Nat) (hx : x < U64) (hb : ∀ q, b q < U64) (hf : ∀ q, f q < U64) : rowM b f x i q < U64 := by
  unfold rowM
  split
  · exact cM_lt _ _ _ _ _ hx hb hf
  · exact inM_lt _ _ _ _ _ _ hf
theorem inM_zero (b f : Nat → Nat) (x i : Nat) : inM b f x i 0 = f := by funext q; exact if_neg (by omega)
theorem inM_at (b f : Nat → Nat) (x i j : Nat) : inM b f x i j (i + j) = f (i + j) := if_neg (by omega)
theorem inM_set (b f : Nat → Nat) (x i j : Nat) (h : i + j < 8) : (rwA .u64 8 (fun q => (inM b f x i j q : Int))).setIfInBounds (i + j) (.int .u64 (rM b f x i j : Int)) = rwA .u64 8 (fun q => (inM b f x i (j + 1) q : Int)) :=
  rwA_set _ _ _ _ _ h _ (by show ((inM b f x i (j + 1) (i + j) : Nat) : Int) = _; unfold inM; rw [if_pos (by omega), Nat.add_sub_cancel_left]) (fun k _ hk => by
    show ((inM b f x i (j + 1) k : Nat) : Int) = ((inM b f x i j k : Nat) : Int)
    unfold inM
    by_cases c : i ≤ k ∧ k < i + j
    · rw [if_pos c, if_pos (by omega)]
    · rw [if_neg c, if_neg (by omega)])
theorem rowM_set (b f : Nat → Nat) (x i : Nat) (h : i + 4 < 8) : (rwA .u64 8 (fun q => (inM b f x i 4 q : Int))).setIfInBounds (i + 4) (.int .u64 (cM b f x i 4 : Int)) = rwA .u64 8 (fun q => (rowM b f x i q : Int)) :=
  rwA_set _ _ _ _ _ h _ (by show ((rowM b f x i (i + 4) : Nat) : Int) = _; unfold rowM; rw [if_pos rfl]) (fun k _ hk => by
    show ((rowM b f x i k : Nat) : Int) = ((inM b f x i 4 k : Nat) : Int)
    unfold rowM
    rw [if_neg hk])
theorem mul_V4 (x : Nat) (b : Nat → Nat) : x * V4 b = x * b 0 + 18446744073709551616 * (x * b 1) + 340282366920938463463374607431768211456 * (x * b 2) + 6277101735386680763835789423207666416102355444464034512896 * (x * b 3) := by
  unfold V4
  rw [Nat.mul_add, Nat.mul_add, Nat.mul_add, Nat.mul_left_comm x, Nat.mul_left_comm x, Nat.mul_left_comm x]
theorem chain4 (b f : Nat → Nat) (x i : Nat) : rM b f x i 0 + 18446744073709551616 * rM b f x i 1 + 340282366920938463463374607431768211456 * rM b f x i 2 + 6277101735386680763835789423207666416102355444464034512896 * rM b f x i 3 + 115792089237316195423570985008687907853269984665640564039457584007913129639936 * cM b f x i 4 = x * V4 b + (f i + 18446744073709551616 * f (i + 1) + 340282366920938463463374607431768211456 * f (i + 2) + 6277101735386680763835789423207666416102355444464034512896 * f (i + 3)) := by
  rw [mul_V4]
  have h0 := Nat.mod_add_div (x * b 0 + f (i + 0) + cM b f x i 0) 18446744073709551616
  have h1 := Nat.mod_add_div (x * b 1 + f (i + 1) + cM b f x i 1) 18446744073709551616
  have h2 := Nat.mod_add_div (x * b 2 + f (i + 2) + cM b f x i 2) 18446744073709551616
  have h3 := Nat.mod_add_div (x * b 3 + f (i + 3) + cM b f x i 3) 18446744073709551616
  change rM b f x i 0 + 18446744073709551616 * cM b f x i 1 = x * b 0 + f (i + 0) + cM b f x i 0 at h0
  change rM b f x i 1 + 18446744073709551616 * cM b f x i 2 = x * b 1 + f (i + 1) + cM b f x i 1 at h1
  change rM b f x i 2 + 18446744073709551616 * cM b f x i 3 = x * b 2 + f (i + 2) + cM b f x i 2 at h2
  change rM b f x i 3 + 18446744073709551616 * cM b f x i 4 = x * b 3 + f (i + 3) + cM b f x i 3 at h3
  have hz : cM b f x i 0 = 0 := rfl
  rw [Nat.add_zero, hz] at h0
  generalize rM b f x i 0 = r0 at *
  generalize rM b f x i 1 = r1 at *
  generalize rM b f x i 2 = r2 at *
  generalize rM b f x i 3 = r3 at *
  generalize cM b f x i 1 = c1 at *
  generalize cM b f x i 2 = c2 at *
  generalize cM b f x i 3 = c3 at *
  generalize cM b f x i 4 = c4 at *
  generalize x * b 0 = p0 at *
  generalize x * b 1 = p1 at *
  generalize x * b 2 = p2 at *
  generalize x * b 3 = p3 at *
  omega
theorem V8_row0 (b f : Nat → Nat) (x : Nat) (h0 : f 4 = 0) : V8 (rowM b f x 0) = V8 f + 1 * (x * V4 b) := by
  have h := chain4 b f x 0
  have e0 : rowM b f x 0 0 = rM b f x 0 0 := rfl
  have e1 : rowM b f x 0 1 = rM b f x 0 1 := rfl
  have e2 : rowM b f x 0 2 = rM b f x 0 2 := rfl
  have e3 : rowM b f x 0 3 = rM b f x 0 3 := rfl
  have e4 : rowM b f x 0 4 = cM b f x 0 4 := rfl
  have e5 : rowM b f x 0 5 = f 5 := rfl
  have e6 : rowM b f x 0 6 = f 6 := rfl
  have e7 : rowM b f x 0 7 = f 7 := rfl
  simp only [Nat.zero_add, Nat.reduceAdd] at h
  unfold V8
  rw [e0, e1, e2, e3, e4, e5, e6, e7, h0]
  generalize rM b f x 0 0 = r0 at *
  generalize rM b f x 0 1 = r1 at *
  generalize rM b f x 0 2 = r2 at *
  generalize rM b f x 0 3 = r3 at *
  generalize cM b f x 0 4 = c4 at *
  generalize x * V4 b = X at *
  clear e0 e1 e2 e3 e4 e5 e6 e7
  omega
theorem V8_row1 (b f : Nat → Nat) (x : Nat) (h0 : f 5 = 0) : V8 (rowM b f x 1) = V8 f + 18446744073709551616 * (x * V4 b) := by
  have h := chain4 b f x 1
  have e0 : rowM b f x 1 0 = f 0 := rfl
  have e1 : rowM b f x 1 1 = rM b f x 1 0 := rfl
  have e2 : rowM b f x 1 2 = rM b f x 1 1 := rfl
  have e3 : rowM b f x 1 3 = rM b f x 1 2 := rfl
  have e4 : rowM b f x 1 4 = rM b f x 1 3 := rfl
  have e5 : rowM b f x 1 5 = cM b f x 1 4 := rfl
  have e6 : rowM b f x 1 6 = f 6 := rfl
  have e7 : rowM b f x 1 7 = f 7 := rfl
  simp only [Nat.zero_add, Nat.reduceAdd] at h
  unfold V8
  rw [e0, e1, e2, e3, e4, e5, e6, e7, h0]
  generalize rM b f x 1 0 = r0 at *
  generalize rM b f x 1 1 = r1 at *
  generalize rM b f x 1 2 = r2 at *
  generalize rM b f x 1 3 = r3 at *
  generalize cM b f x 1 4 = c4 at *
  generalize x * V4 b = X at *
  clear e0 e1 e2 e3 e4 e5 e6 e7
  omega
theorem V8_row2 (b f : Nat → Nat) (x : Nat) (h0 : f 6 = 0) : V8 (rowM b f x 2) = V8 f + 340282366920938463463374607431768211456 * (x * V4 b) := by
  have h := chain4 b f x 2
  have e0 : rowM b f x 2 0 = f 0 := rfl
  have e1 : rowM b f x 2 1 = f 1 := rfl
  have e2 : rowM b f x 2 2 = rM b f x 2 0 := rfl
  have e3 : rowM b f x 2 3 = rM b f x 2 1 := rfl
  have e4 : rowM b f x 2 4 = rM b f x 2 2 := rfl
  have e5 : rowM b f x 2 5 = rM b f x 2 3 := rfl
  have e6 : rowM b f x 2 6 = cM b f x 2 4 := rfl
  have e7 : rowM b f x 2 7 = f 7 := rfl
  simp only [Nat.zero_add, Nat.reduceAdd] at h
  unfold V8
  rw [e0, e1, e2, e3, e4, e5, e6, e7, h0]
  generalize rM b f x 2 0 = r0 at *
  generalize rM b f x 2 1 = r1 at *
  generalize rM b f x 2 2 = r2 at *
  generalize rM b f x 2 3 = r3 at *
  generalize cM b f x 2 4 = c4 at *
  generalize x * V4 b = X at *
  clear e0 e1 e2 e3 e4 e5 e6 e7
  omega
theorem V8_row3 (b f : Nat → Nat) (x : Nat) (h0 : f 7 = 0) : V8 (rowM b f x 3) = V8 f + 6277101735386680763835789423207666416102355444464034512896 * (x * V4 b) := by
  have h := chain4 b f x 3
  have e0 : rowM b f x 3 0 = f 0 := rfl
  have e1 : rowM b f x 3 1 = f 1 := rfl
  have e2 : rowM b f x 3 2 = f 2 := rfl
  have e3 : rowM b f x 3 3 = rM b f x 3 0 := rfl
  have e4 : rowM b f x 3 4 = rM b f x 3 1 := rfl
  have e5 : rowM b f x 3 5 = rM b f x 3 2 := rfl
  have e6 : rowM b f x 3 6 = rM b f x 3 3 := rfl
  have e7 : rowM b f x 3 7 = cM b f x 3 4 := rfl
  simp only [Nat.zero_add, Nat.reduceAdd] at h
  unfold V8
  rw [e0, e1, e2, e3, e4, e5, e6, e7, h0]
  generalize rM b f x 3 0 = r0 at *
  generalize rM b f x 3 1 = r1 at *
  generalize rM b f x 3 2 = r2 at *
  generalize rM b f x 3 3 = r3 at *
  generalize cM b f x 3 4 = c4 at *
  generalize x * V4 b = X at *
  clear e0 e1 e2 e3 e4 e5 e6 e7
  omega
/-- The rows of the product. -/
def rowsM (a b : Nat → Nat) : Nat → Nat → Nat
  | 0 => fun _ => 0
  | i + 1 => rowM b (rowsM a b i) (a i) i
theorem rowsM_lt (a b : Nat → Nat) (ha : ∀ q, a q < U64) (hb : ∀ q, b q < U64) (i q : Nat) : rowsM a b i q < U64 := by
  induction i generalizing q with
  | zero => exact (by decide : 0 < 18446744073709551616)
  | succ i ih => exact rowM_lt _ _ _ _ _ (ha i) hb ih
theorem rowsM_zero (a b : Nat → Nat) (i q : Nat) (h : i + 4 ≤ q) : rowsM a b i q = 0 := by
  induction i with
  | zero => rfl
  | succ i ih =>
    show rowM _ _ _ _ q = 0
    unfold rowM inM
    rw [if_neg (by omega), if_neg (by omega)]
    exact ih (by omega)
theorem rowsM_all (a b : Nat → Nat) : V8 (rowsM a b 4) = V4 a * V4 b := by
  have z : V8 (rowsM a b 0) = 0 := rfl
  have e1 : V8 (rowsM a b 1) = _ := V8_row0 b (rowsM a b 0) (a 0) rfl
  have e2 : V8 (rowsM a b 2) = _ := V8_row1 b (rowsM a b 1) (a 1) (rowsM_zero _ _ _ _ (by omega))
  have e3 : V8 (rowsM a b 3) = _ := V8_row2 b (rowsM a b 2) (a 2) (rowsM_zero _ _ _ _ (by omega))
  have e4 : V8 (rowsM a b 4) = _ := V8_row3 b (rowsM a b 3) (a 3) (rowsM_zero _ _ _ _ (by omega))
  rw [e4, e3, e2, e1, z]
  show _ = (a 0 + 18446744073709551616 * a 1 + 340282366920938463463374607431768211456 * a 2 + 6277101735386680763835789423207666416102355444464034512896 * a 3) * V4 b
  rw [Nat.add_mul, Nat.add_mul, Nat.add_mul, Nat.mul_assoc, Nat.mul_assoc, Nat.mul_assoc]
  omega
theorem times_val (a b : Nat) (ha : a < W256) (hb : b < W256) : V8 (rowsM (lw a) (lw b) 4) = a * b := by rw [rowsM_all, V4_lw a ha, V4_lw b hb]

/-! ### The fold -/
def cF (f : Nat → Nat) : Nat → Nat
  | 0 => 0
  | i + 1 => (f (i + 4) * 38 + f i + cF f i) / 18446744073709551616
def lF (f : Nat → Nat) (i : Nat) : Nat := (f (i + 4) * 38 + f i + cF f i) % 18446744073709551616
theorem lF_lt (f : Nat → Nat) (i : Nat) : lF f i < U64 := Nat.mod_lt _ (by decide)
theorem cF_le (f : Nat → Nat) (hf : ∀ q, f q < U64) (i : Nat) : cF f i ≤ 38 := by
  unfold U64 at hf
  induction i with
  | zero => exact Nat.zero_le _
  | succ i ih => have := hf (i + 4); have := hf i; unfold cF; omega
theorem fold_val (f : Nat → Nat) : V4 (lF f) + W256 * cF f 4 = 38 * V4 (fun q => f (q + 4)) + V4 f := by
  have h0 := Nat.mod_add_div (f (0 + 4) * 38 + f 0 + cF f 0) 18446744073709551616
  have h1 := Nat.mod_add_div (f (1 + 4) * 38 + f 1 + cF f 1) 18446744073709551616
  have h2 := Nat.mod_add_div (f (2 + 4) * 38 + f 2 + cF f 2) 18446744073709551616
  have h3 := Nat.mod_add_div (f (3 + 4) * 38 + f 3 + cF f 3) 18446744073709551616
  change lF f 0 + 18446744073709551616 * cF f 1 = f (0 + 4) * 38 + f 0 + cF f 0 at h0
  change lF f 1 + 18446744073709551616 * cF f 2 = f (1 + 4) * 38 + f 1 + cF f 1 at h1
  change lF f 2 + 18446744073709551616 * cF f 3 = f (2 + 4) * 38 + f 2 + cF f 2 at h2
  change lF f 3 + 18446744073709551616 * cF f 4 = f (3 + 4) * 38 + f 3 + cF f 3 at h3
  have hz : cF f 0 = 0 := rfl
  rw [hz] at h0
  simp only [V4, W256]
  generalize lF f 0 = r0 at *
  generalize lF f 1 = r1 at *
  generalize lF f 2 = r2 at *
  generalize lF f 3 = r3 at *
  generalize cF f 1 = c1 at *
  generalize cF f 2 = c2 at *
  generalize cF f 3 = c3 at *
  generalize cF f 4 = c4 at *
  omega
theorem V8_split (f : Nat → Nat) : V8 f = V4 f + W256 * V4 (fun q => f (q + 4)) := by
  simp only [V8, V4, W256, Nat.reduceAdd]
  omega
/-- The folded row's last word without its highest bit. -/
def lowF (f : Nat → Nat) (q : Nat) : Nat := if q = 3 then lF f 3 % 9223372036854775808 else lF f q
def topF (f : Nat → Nat) : Nat := 2 * cF f 4 + lF f 3 / 9223372036854775808
theorem lowF_lt (f : Nat → Nat) (q : Nat) : lowF f q < U64 := by
  unfold lowF
  split
  · have := lF_lt f 3; unfold U64 at *; omega
  · exact lF_lt f q
theorem topF_le (f : Nat → Nat) (hf : ∀ q, f q < U64) : topF f ≤ 77 := by
  have h1 := cF_le f hf 4
  have h2 := lF_lt f 3
  unfold topF U64 at *
  omega
theorem lowF_lt255 (f : Nat → Nat) : V4 (lowF f) < 57896044618658097711785492504343953926634992332820282019728792003956564819968 := by
  have h0 := lF_lt f 0
  have h1 := lF_lt f 1
  have h2 := lF_lt f 2
  have e0 : lowF f 0 = lF f 0 := rfl
  have e1 : lowF f 1 = lF f 1 := rfl
  have e2 : lowF f 2 = lF f 2 := rfl
  have e3 : lowF f 3 = lF f 3 % 9223372036854775808 := rfl
  unfold V4
  rw [e0, e1, e2, e3]
  unfold U64 at *
  omega
theorem fold_sum (f : Nat → Nat) (hf : ∀ q, f q < U64) : V4 (lowF f) + 19 * topF f < W256 ∧ redF (V4 (lowF f) + 19 * topF f) = V8 f % P25n := by
  have h1 := fold_val f
  have h2 := V8_split f
  have h3 := lowF_lt255 f
  have h4 := topF_le f hf
  have h5 : V4 (lF f) = V4 (lowF f) + 57896044618658097711785492504343953926634992332820282019728792003956564819968 * (lF f 3 / 9223372036854775808) := by
    have e0 : lowF f 0 = lF f 0 := rfl
    have e1 : lowF f 1 = lF f 1 := rfl
    have e2 : lowF f 2 = lF f 2 := rfl
    have e3 : lowF f 3 = lF f 3 % 9223372036854775808 := rfl
    unfold V4
    rw [e0, e1, e2, e3]
    omega
  have h6 : topF f = 2 * cF f 4 + lF f 3 / 9223372036854775808 := rfl
  generalize V4 (lowF f) = L at *
  generalize topF f = T at *
  generalize V4 (lF f) = LL at *
  generalize lF f 3 / 9223372036854775808 = t at *
  generalize cF f 4 = c at *
  generalize V4 (fun q => f (q + 4)) = H at *
  generalize V4 f = LO at *
  generalize V8 f = N at *
  refine ⟨by unfold W256; omega, ?_⟩
  rw [red_mod _ (by unfold P25n; omega)]
  unfold W256 at *
  unfold P25n
  omega
theorem times_mod (a b : Nat) (ha : a < W256) (hb : b < W256) : V4 (lowF (rowsM (lw a) (lw b) 4)) + 19 * topF (rowsM (lw a) (lw b) 4) < W256 ∧ redF (V4 (lowF (rowsM (lw a) (lw b) 4)) + 19 * topF (rowsM (lw a) (lw b) 4)) = a * b % P25n := by
  have := fold_sum (rowsM (lw a) (lw b) 4) (fun q => rowsM_lt _ _ (lw_lt a) (lw_lt b) 4 q)
  rw [times_val a b ha hb] at this
  exact this

end Go.My

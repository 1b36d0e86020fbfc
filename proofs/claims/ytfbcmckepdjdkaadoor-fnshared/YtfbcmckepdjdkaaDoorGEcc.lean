/- The curve over the integers modulo 2^255 - 19, and its base point. Nothing of the program is named. -/
import Derived.Test.YtfbcmckepdjdkaaDoorGM1
import Derived.Test.YtfbcmckepdjdkaaDoorGM2
namespace Go.My
open Lean.Grind
set_option linter.unusedVariables false

instance nzP : NeZero P25 := ⟨by decide⟩
abbrev K25 : Type := Fin P25
def kv (n : Nat) : K25 := Fin.ofNat P25 n
theorem kv_val (n : Nat) : (kv n).val = n % P25 := rfl
theorem kv_ext {a b : Nat} (h : a % P25 = b % P25) : kv a = kv b := Fin.ext (by rw [kv_val, kv_val, h])
theorem kv_add (a b : Nat) : kv (a + b) = kv a + kv b := Fin.ext (by rw [Fin.val_add, kv_val, kv_val, kv_val, ← Nat.add_mod])
theorem kv_mul (a b : Nat) : kv (a * b) = kv a * kv b := Fin.ext (by rw [Fin.val_mul, kv_val, kv_val, kv_val, ← Nat.mul_mod])
theorem kv_mod (a : Nat) : kv (a % P25) = kv a := kv_ext (Nat.mod_mod _ _)
theorem kv_P : kv P25 = 0 := Fin.ext (Nat.mod_self _)
theorem kv_zero : kv 0 = 0 := rfl
theorem kv_one : kv 1 = 1 := rfl
theorem kv_inj {a b : Nat} (ha : a < P25) (hb : b < P25) (h : kv a = kv b) : a = b := by
  have := congrArg Fin.val h
  rw [kv_val, kv_val, Nat.mod_eq_of_lt ha, Nat.mod_eq_of_lt hb] at this
  exact this
theorem kv_self (x : K25) : kv x.val = x := Fin.ext (Nat.mod_eq_of_lt x.isLt)
theorem kv_eq_zero {n : Nat} : kv n = 0 ↔ n % P25 = 0 := ⟨fun h => by have := congrArg Fin.val h; exact this, fun h => Fin.ext h⟩
theorem kv_sub (a b : Nat) (h : b ≤ P25) : kv (a + (P25 - b)) = kv a - kv b := by
  have : kv (a + (P25 - b)) + kv b = kv a := by
    rw [← kv_add, show a + (P25 - b) + b = a + P25 by omega, kv_add, kv_P]
    grind
  grind
def EX : Nat := P25 - 2
def HX : Nat := (P25 - 1) / 2
def invK (x : K25) : K25 := kv (x.val ^ EX)
theorem invK_kv (z : Nat) : invK (kv z) = kv (z ^ EX % P25) := kv_ext (by rw [kv_val, Nat.mod_mod, ← Nat.pow_mod])
theorem invK_mul (x : K25) (h : x ≠ 0) : x * invK x = 1 := by
  have hx : x.val % P25 ≠ 0 := fun c => h (by rw [← kv_self x]; exact kv_eq_zero.2 c)
  have hf := fermat1 P25 x.val primP hx
  unfold invK
  conv => lhs; arg 1; rw [← kv_self x]
  rw [← kv_mul, ← kv_one]
  refine kv_ext ?_
  rw [← Nat.pow_succ', show Nat.succ EX = P25 - 1 by decide, hf]
  decide
theorem pmD : pm P25 255 486660 HX = P25 - 1 := by decide +kernel
theorem euler : 486660 ^ HX % P25 = P25 - 1 := by rw [← pm_eq P25 255 486660 HX (by decide +kernel)]; exact pmD
theorem nonsqK (v w : K25) (h : kv 486660 * (w * w) = v * v) : w = 0 := by
  refine Classical.byContradiction fun hw => ?_
  have hwv : w.val % P25 ≠ 0 := fun c => hw (by rw [← kv_self w]; exact kv_eq_zero.2 c)
  have hN : (486660 * (w.val * w.val)) % P25 = (v.val * v.val) % P25 := by
    have e : kv (486660 * (w.val * w.val)) = kv (v.val * v.val) := by rw [kv_mul, kv_mul, kv_mul, kv_self, kv_self]; exact h
    exact congrArg Fin.val e
  have h2 : 2 * HX = P25 - 1 := by decide
  have hp : (486660 * (w.val * w.val)) ^ HX % P25 = (v.val * v.val) ^ HX % P25 := by rw [Nat.pow_mod, hN, ← Nat.pow_mod]
  have sq : ∀ x : Nat, (x * x) ^ HX = x ^ (P25 - 1) := fun x => by rw [← Nat.pow_two, ← Nat.pow_mul, h2]
  rw [Nat.mul_pow, sq, sq, Nat.mul_mod, euler, fermat1 P25 w.val primP hwv, Nat.mul_one] at hp
  by_cases hv : v.val % P25 = 0
  · have hv0 : v = 0 := by rw [← kv_self v]; exact kv_eq_zero.2 hv
    rw [hv0] at h
    have e : kv (486660 * (w.val * w.val)) = 0 := by rw [kv_mul, kv_mul, kv_self, h]; grind
    have d := Nat.dvd_of_mod_eq_zero (kv_eq_zero.1 e)
    rcases primP.euclid d with d | d
    · exact absurd (Nat.le_of_dvd (by decide) d) (by decide)
    · rcases primP.euclid d with d | d <;> exact hwv (Nat.mod_eq_zero_of_dvd d)
  · rw [fermat1 P25 v.val primP hv] at hp
    revert hp
    decide
def sqA : Nat := 48802004052532134862652268456126542835229456083994414501085850622543968879637
theorem kvn {a b : Nat} (h : a % P25 ≠ b % P25) : kv a ≠ kv b := fun c => h (congrArg Fin.val c)
theorem kv_two : kv 2 = 2 := rfl
theorem kv_four : kv 4 = 4 := rfl
def E25f : EF K25 where
  inv := invK
  inv_mul := invK_mul
  inv_zero := by
    rw [← kv_zero, invK_kv, Nat.zero_pow (by decide)]
    rfl
  one_ne := by rw [← kv_one, ← kv_zero]; exact kvn (by decide)
  two_ne := by rw [← kv_two, ← kv_zero]; exact kvn (by decide)
  s := kv sqA
  a := kv 486664
  d := kv 486660
  c := kv 121665
  a_sq := by rw [← kv_mul]; exact kv_ext (by decide +kernel)
  a_ne := by rw [← kv_zero]; exact kvn (by decide)
  d_c := by rw [← kv_four, ← kv_mul]
  a_d := by rw [← kv_four, ← kv_add]
  nonsq := nonsqK
def Gx : Nat := 19682211724289367445990778417013818358151178695569199618971391691394964886553
def Gy : Nat := 46316835694926478169428394003475163141307993866256225615783033603165251855960
def G25 : K25 × K25 := (kv Gx, kv Gy)
theorem G_on : E25f.On G25 := by
  show kv 486664 * (kv Gx * kv Gx) + kv Gy * kv Gy = 1 + kv 486660 * (kv Gx * kv Gx) * (kv Gy * kv Gy)
  rw [← kv_one, ← kv_mul, ← kv_mul, ← kv_mul, ← kv_mul, ← kv_mul, ← kv_add, ← kv_add]
  exact kv_ext (by decide +kernel)
theorem G_u : kv 9 * (1 - kv Gy) = 1 + kv Gy := by
  have : kv 9 = 1 + kv Gy + kv 9 * kv Gy := by
    rw [← kv_one, ← kv_mul, ← kv_add, ← kv_add]
    exact kv_ext (by decide +kernel)
  grind

/-! ### Ways to negate, small points -/
namespace EF
theorem neg_neg {R : Type} [CommRing R] (p : R × R) : neg (neg p) = p := by
  unfold neg
  refine Prod.ext ?_ rfl
  show - -p.1 = p.1
  grind
theorem neg_add {R : Type} [CommRing R] (E : EF R) (p q : R × R) : neg (E.add p q) = E.add (neg p) (neg q) := by
  have t : E.T (neg p) (neg q) = E.T p q := by unfold T neg; simp only; grind
  unfold add
  rw [t]
  unfold neg
  refine Prod.ext ?_ ?_
  · simp only
    grind
  · simp only
    congr 1
    grind
theorem mul_diff' {R : Type} [CommRing R] (E : EF R) {p : R × R} (hp : E.On p) (m : Nat) : E.add (E.mul m p) (neg (E.mul (m + 1) p)) = neg p := by
  have := E.mul_diff hp m
  rw [← congrArg neg this, neg_add, neg_neg, E.add_comm]
/-- A point with y = 1 or y = -1. -/
theorem small {R : Type} [CommRing R] (E : EF R) {p : R × R} (hp : E.On p) (h : p.2 * p.2 = 1) : p.1 = 0 := by
  have had := E.a_d
  have h4 : (4 : R) ≠ 0 := fun c => E.mul_ne E.two_ne E.two_ne (by grind)
  refine E.sq_zero (E.cancel h4 ?_)
  unfold On at hp
  rw [h, had] at hp
  generalize p.1 * p.1 = z at *
  generalize E.d = d at *
  clear h had h4
  grind
theorem twice_small {R : Type} [CommRing R] (E : EF R) {p : R × R} (hp : E.On p) (h : p.2 * p.2 = 1) (n : Nat) : E.mul (2 * n) p = zero := by
  have hx := E.small hp h
  have h2 : E.mul 2 p = zero := by
    show E.add (E.mul 1 p) p = zero
    rw [E.mul_one]
    have t : E.T p p = 0 := by unfold T; rw [hx]; grind
    unfold add
    rw [t, hx, h, show (1 : R) + 0 = 1 by grind, show (1 : R) - 0 = 1 by grind, E.inv_one]
    unfold zero
    refine Prod.ext ?_ ?_
    · simp only; grind
    · simp only; grind
  rw [Nat.mul_comm, E.mul_mul hp, h2, E.mul_zeroE]
theorem U_small {R : Type} [CommRing R] (E : EF R) {p : R × R} : (E.U p = 0) ↔ p.2 * p.2 = 1 := by
  unfold U
  constructor
  · intro h
    by_cases c : 1 - p.2 = 0
    · have : p.2 = 1 := by grind
      rw [this]; grind
    · have hi := E.inv_mul _ c
      have hn : E.inv (1 - p.2) ≠ 0 := fun z => E.one_ne (by rw [← hi, z]; grind)
      have := E.cancel hn (y := 1 + p.2) (by grind)
      have : p.2 = -1 := by grind
      rw [this]; grind
  · intro h
    by_cases c : 1 - p.2 = 0
    · rw [c, E.inv_zero]; grind
    · have := E.cancel c (y := 1 + p.2) (by grind)
      rw [this]; grind
theorem U_zero {R : Type} [CommRing R] (E : EF R) : E.U (zero : R × R) = 0 := E.U_small.2 (by unfold zero; simp only; grind)
theorem rep0 {R : Type} [CommRing R] (E : EF R) : Rep (1 : R) 0 1 := ⟨by grind, fun c => E.one_ne (by grind)⟩
theorem rep1 {R : Type} [CommRing R] (E : EF R) {u y : R} (hk : u * (1 - y) = 1 + y) : Rep u 1 y := by
  refine ⟨by grind, fun c => E.two_ne ?_⟩
  have : u = -1 := by grind
  rw [this] at hk
  grind
theorem U_ne {R : Type} [CommRing R] (E : EF R) {p : R × R} (h : E.U p ≠ 0) : p.2 ≠ 1 := fun e => h (E.U_small.2 (by rw [e]; grind))
theorem U_eq {R : Type} [CommRing R] (E : EF R) {p : R × R} {u : R} (h1 : p.2 ≠ 1) (h : u * (1 - p.2) = 1 + p.2) : u = E.U p := by
  have hc : 1 - p.2 ≠ 0 := fun c => h1 (by grind)
  unfold U
  have := E.inv_mul _ hc
  generalize E.inv (1 - p.2) = i at *
  rw [← h]
  grind
theorem U_frac {R : Type} [CommRing R] (E : EF R) {p : R × R} (h : p.2 ≠ 1) : E.U p * (1 - p.2) = 1 + p.2 := by
  unfold U
  have c : 1 - p.2 ≠ 0 := fun c => h (by grind)
  have := E.inv_mul _ c
  generalize E.inv (1 - p.2) = i at *
  grind
end EF
end Go.My

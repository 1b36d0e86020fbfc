/- A complete Edwards curve over a field: the group law, multiples, and a step of the ladder. Nothing of the program is named. -/
import Derived.WalkKit
namespace Go.My
open Lean.Grind
set_option linter.unusedVariables false

structure EF (R : Type) [CommRing R] where
  inv : R → R
  inv_mul : ∀ x, x ≠ 0 → x * inv x = 1
  inv_zero : inv 0 = 0
  one_ne : (1 : R) ≠ 0
  two_ne : (2 : R) ≠ 0
  s : R
  a : R
  d : R
  c : R
  a_sq : a = s * s
  a_ne : a ≠ 0
  d_c : d = 4 * c
  a_d : a = d + 4
  nonsq : ∀ v w, d * (w * w) = v * v → w = 0

namespace EF
variable {R : Type} [CommRing R]
def zero : R × R := (0, 1)
def neg (p : R × R) : R × R := (-p.1, p.2)

theorem cancel (E : EF R) {x y : R} (hx : x ≠ 0) (h : x * y = 0) : y = 0 := by
  have h1 := E.inv_mul x hx
  have : y = (x * E.inv x) * y := by rw [h1]; grind
  rw [this, show x * E.inv x * y = E.inv x * (x * y) by grind, h]
  grind
theorem cancel_eq (E : EF R) {x y z : R} (hx : x ≠ 0) (h : x * y = x * z) : y = z := by
  have := E.cancel hx (y := y - z) (by grind)
  grind
theorem mul_ne (E : EF R) {x y : R} (hx : x ≠ 0) (hy : y ≠ 0) : x * y ≠ 0 := fun h => hy (E.cancel hx h)
theorem sq_zero (E : EF R) {x : R} (h : x * x = 0) : x = 0 := by
  refine Classical.byContradiction fun hx => E.mul_ne hx hx h
theorem frac_eq (E : EF R) {n1 d1 n2 d2 : R} (h1 : d1 ≠ 0) (h2 : d2 ≠ 0) (h : n1 * d2 = n2 * d1) : n1 * E.inv d1 = n2 * E.inv d2 := by
  have e1 := E.inv_mul d1 h1
  have e2 := E.inv_mul d2 h2
  refine E.cancel_eq (E.mul_ne h1 h2) ?_
  generalize E.inv d1 = i1 at *
  generalize E.inv d2 = i2 at *
  grind
theorem frac_one (E : EF R) {n d1 : R} (h1 : d1 ≠ 0) : d1 * (n * E.inv d1) = n := by
  have e1 := E.inv_mul d1 h1
  generalize E.inv d1 = i1 at *
  grind
theorem inv_one (E : EF R) : E.inv 1 = 1 := by
  have := E.inv_mul 1 E.one_ne
  grind
theorem inv_unique (E : EF R) {x y : R} (h : x * y = 1) : E.inv x = y := by
  have hx : x ≠ 0 := fun c => E.one_ne (by rw [← h, c]; grind)
  exact E.cancel_eq hx (by rw [E.inv_mul x hx, h])
theorem inv_mulE (E : EF R) (x y : R) : E.inv (x * y) = E.inv x * E.inv y := by
  by_cases hx : x = 0
  · subst hx; rw [show (0 : R) * y = 0 by grind, E.inv_zero]; grind
  · by_cases hy : y = 0
    · subst hy; rw [show x * (0 : R) = 0 by grind, E.inv_zero]; grind
    · refine E.inv_unique ?_
      have e1 := E.inv_mul x hx
      have e2 := E.inv_mul y hy
      generalize E.inv x = i1 at *
      generalize E.inv y = i2 at *
      grind

/-- On the curve. -/
def On (E : EF R) (p : R × R) : Prop := E.a * (p.1 * p.1) + p.2 * p.2 = 1 + E.d * (p.1 * p.1) * (p.2 * p.2)
def T (E : EF R) (p q : R × R) : R := E.d * (p.1 * q.1) * (p.2 * q.2)
def add (E : EF R) (p q : R × R) : R × R := ((p.1 * q.2 + p.2 * q.1) * E.inv (1 + E.T p q), (p.2 * q.2 - E.a * (p.1 * q.1)) * E.inv (1 - E.T p q))

theorem on' (E : EF R) {p : R × R} (hp : E.On p) : E.a * p.1 * p.1 + p.2 * p.2 = 1 + E.d * p.1 * p.1 * p.2 * p.2 := by
  unfold On at hp
  grind
theorem no_unit (E : EF R) {p q : R × R} (hp : E.On p) (hq : E.On q) (e : R) (he : e * e = 1) : E.T p q ≠ e := by
  intro ht
  unfold On at hp hq
  unfold T at ht
  have hs := E.a_sq
  have hn := E.nonsq
  have ha := E.a_ne
  have ene : e ≠ 0 := fun c => E.one_ne (by rw [← he, c]; grind)
  obtain ⟨x1, y1⟩ := p
  obtain ⟨x2, y2⟩ := q
  simp only at *
  have w1 := hn (E.s * x1 + e * y1) (x1 * y1 * (E.s * x2 + y2)) (by
    generalize E.s = s at *
    generalize E.a = a at *
    generalize E.d = d at *
    clear hn ha ene
    subst hs
    grind)
  have w2 := hn (E.s * x1 - e * y1) (x1 * y1 * (E.s * x2 - y2)) (by
    generalize E.s = s at *
    generalize E.a = a at *
    generalize E.d = d at *
    clear hn ha ene w1
    subst hs
    grind)
  have hxy : x1 * y1 ≠ 0 := fun c => ene (by rw [← ht, show E.d * (x1 * x2) * (y1 * y2) = E.d * (x1 * y1) * (x2 * y2) by grind, c]; grind)
  have h1 := E.cancel hxy w1
  have h2 := E.cancel hxy w2
  have hy2 : y2 = 0 := by
    refine E.cancel E.two_ne ?_
    grind
  exact ene (by rw [← ht, hy2]; grind)
theorem den_p (E : EF R) {p q : R × R} (hp : E.On p) (hq : E.On q) : 1 + E.T p q ≠ 0 := fun h => E.no_unit hp hq (-1) (by grind) (by grind)
theorem den_m (E : EF R) {p q : R × R} (hp : E.On p) (hq : E.On q) : 1 - E.T p q ≠ 0 := fun h => E.no_unit hp hq 1 (by grind) (by grind)
theorem on_zero (E : EF R) : E.On zero := by unfold On zero; simp only; grind
theorem on_neg (E : EF R) {p : R × R} (hp : E.On p) : E.On (neg p) := by unfold On neg at *; simp only; grind
theorem add_x (E : EF R) {p q : R × R} (hp : E.On p) (hq : E.On q) : (1 + E.T p q) * (E.add p q).1 = p.1 * q.2 + p.2 * q.1 := E.frac_one (E.den_p hp hq)
theorem add_y (E : EF R) {p q : R × R} (hp : E.On p) (hq : E.On q) : (1 - E.T p q) * (E.add p q).2 = p.2 * q.2 - E.a * (p.1 * q.1) := E.frac_one (E.den_m hp hq)
theorem on_add (E : EF R) {p q : R × R} (hp : E.On p) (hq : E.On q) : E.On (E.add p q) := by
  have hx := E.add_x hp hq
  have hy := E.add_y hp hq
  have n1 := E.den_p hp hq
  have n2 := E.den_m hp hq
  have nn := E.mul_ne (E.mul_ne n1 n2) (E.mul_ne n1 n2)
  have key : (1 + E.T p q) * (1 - E.T p q) * ((1 + E.T p q) * (1 - E.T p q)) * (E.a * ((E.add p q).1 * (E.add p q).1) + (E.add p q).2 * (E.add p q).2) = (1 + E.T p q) * (1 - E.T p q) * ((1 + E.T p q) * (1 - E.T p q)) * (1 + E.d * ((E.add p q).1 * (E.add p q).1) * ((E.add p q).2 * (E.add p q).2)) := by
    have poly : E.a * ((p.1 * q.2 + p.2 * q.1) * (p.1 * q.2 + p.2 * q.1)) * ((1 - E.T p q) * (1 - E.T p q)) + (p.2 * q.2 - E.a * (p.1 * q.1)) * (p.2 * q.2 - E.a * (p.1 * q.1)) * ((1 + E.T p q) * (1 + E.T p q)) = (1 + E.T p q) * (1 - E.T p q) * ((1 + E.T p q) * (1 - E.T p q)) + E.d * ((p.1 * q.2 + p.2 * q.1) * (p.1 * q.2 + p.2 * q.1)) * ((p.2 * q.2 - E.a * (p.1 * q.1)) * (p.2 * q.2 - E.a * (p.1 * q.1))) := by
      unfold On at hp hq
      unfold T
      clear hx hy n1 n2 nn
      obtain ⟨x1, y1⟩ := p
      obtain ⟨x2, y2⟩ := q
      simp only at *
      generalize E.a = a at *
      generalize E.d = d at *
      grind
    rw [← hx, ← hy] at poly
    generalize E.T p q = t at *
    generalize (E.add p q).1 = x at *
    generalize (E.add p q).2 = y at *
    generalize E.a = a at *
    generalize E.d = d at *
    clear hx hy hp hq n1 n2 nn
    grind
  exact E.cancel_eq nn key
theorem T_comm (E : EF R) (p q : R × R) : E.T p q = E.T q p := by unfold T; grind
theorem add_comm (E : EF R) (p q : R × R) : E.add p q = E.add q p := by
  unfold add
  rw [E.T_comm p q]
  refine Prod.ext ?_ ?_
  · simp only; congr 1; grind
  · simp only; congr 1; grind
theorem add_zero (E : EF R) {p : R × R} : E.add p zero = p := by
  unfold add
  have : E.T p zero = 0 := by unfold T zero; simp only; grind
  rw [this, show (1 : R) + 0 = 1 by grind, show (1 : R) - 0 = 1 by grind, E.inv_one]
  unfold zero
  refine Prod.ext ?_ ?_
  · simp only; grind
  · simp only; grind
theorem add_neg (E : EF R) {p : R × R} (hp : E.On p) : E.add p (neg p) = zero := by
  have hd := E.den_m hp (E.on_neg hp)
  have e : 1 - E.T p (neg p) = p.2 * (neg p).2 - E.a * (p.1 * (neg p).1) := by
    unfold On at hp
    unfold T neg
    simp only
    grind
  unfold add
  rw [← e]
  refine Prod.ext ?_ ?_
  · show (p.1 * (neg p).2 + p.2 * (neg p).1) * _ = 0
    rw [show p.1 * (neg p).2 + p.2 * (neg p).1 = 0 by unfold neg; simp only; grind]
    grind
  · exact E.inv_mul _ hd
theorem poly_x (x1 y1 x2 y2 x3 y3 a d : R) (h1 : a*x1*x1 + y1*y1 = 1 + d*x1*x1*y1*y1) (h2 : a*x2*x2 + y2*y2 = 1 + d*x2*x2*y2*y2) (h3 : a*x3*x3 + y3*y3 = 1 + d*x3*x3*y3*y3) :
   ((x1*y2+y1*x2) * (1 - d*x1*x2*y1*y2) * y3 + (y1*y2 - a*x1*x2) * (1 + d*x1*x2*y1*y2) * x3) * ((1 + d*x2*x3*y2*y3)*(1 - d*x2*x3*y2*y3) + d*x1*y1*(x2*y3+y2*x3)*(y2*y3-a*x2*x3))
   = (x1*(y2*y3-a*x2*x3)*(1 + d*x2*x3*y2*y3) + y1*(x2*y3+y2*x3)*(1 - d*x2*x3*y2*y3)) * ((1 + d*x1*x2*y1*y2)*(1 - d*x1*x2*y1*y2) + d*x3*y3*(x1*y2+y1*x2)*(y1*y2-a*x1*x2)) := by grind
theorem poly_y (x1 y1 x2 y2 x3 y3 a d : R) (h1 : a*x1*x1 + y1*y1 = 1 + d*x1*x1*y1*y1) (h2 : a*x2*x2 + y2*y2 = 1 + d*x2*x2*y2*y2) (h3 : a*x3*x3 + y3*y3 = 1 + d*x3*x3*y3*y3) :
   ((y1*y2 - a*x1*x2) * (1 + d*x1*x2*y1*y2) * y3 - a * ((x1*y2+y1*x2) * (1 - d*x1*x2*y1*y2) * x3)) * ((1 + d*x2*x3*y2*y3)*(1 - d*x2*x3*y2*y3) - d*x1*y1*(x2*y3+y2*x3)*(y2*y3-a*x2*x3))
   = (y1*(y2*y3-a*x2*x3)*(1 + d*x2*x3*y2*y3) - a * (x1*(x2*y3+y2*x3)*(1 - d*x2*x3*y2*y3))) * ((1 + d*x1*x2*y1*y2)*(1 - d*x1*x2*y1*y2) - d*x3*y3*(x1*y2+y1*x2)*(y1*y2-a*x1*x2)) := by grind
theorem add_assoc (E : EF R) {p q r : R × R} (hp : E.On p) (hq : E.On q) (hr : E.On r) : E.add (E.add p q) r = E.add p (E.add q r) := by
  have hpq := E.on_add hp hq
  have hqr := E.on_add hq hr
  have x1 := E.add_x hp hq
  have y1 := E.add_y hp hq
  have x2 := E.add_x hq hr
  have y2 := E.add_y hq hr
  have n1 := E.den_p hp hq
  have n2 := E.den_m hp hq
  have n3 := E.den_p hq hr
  have n4 := E.den_m hq hr
  have d1 := E.den_p hpq hr
  have d2 := E.den_m hpq hr
  have d3 := E.den_p hp hqr
  have d4 := E.den_m hp hqr
  have nn := E.mul_ne (E.mul_ne n1 n2) (E.mul_ne n3 n4)
  have px := poly_x p.1 p.2 q.1 q.2 r.1 r.2 E.a E.d (E.on' hp) (E.on' hq) (E.on' hr)
  have py := poly_y p.1 p.2 q.1 q.2 r.1 r.2 E.a E.d (E.on' hp) (E.on' hq) (E.on' hr)
  have t1 : E.d * p.1 * q.1 * p.2 * q.2 = E.T p q := by unfold T; grind
  have t2 : E.d * q.1 * r.1 * q.2 * r.2 = E.T q r := by unfold T; grind
  have a1 : p.2 * q.2 - E.a * p.1 * q.1 = p.2 * q.2 - E.a * (p.1 * q.1) := by grind
  have a2 : q.2 * r.2 - E.a * q.1 * r.1 = q.2 * r.2 - E.a * (q.1 * r.1) := by grind
  rw [t1, t2, a1, a2, ← x1, ← x2, ← y1, ← y2] at px py
  refine Prod.ext ?_ ?_
  · show ((E.add p q).1 * r.2 + (E.add p q).2 * r.1) * E.inv (1 + E.T (E.add p q) r) = (p.1 * (E.add q r).2 + p.2 * (E.add q r).1) * E.inv (1 + E.T p (E.add q r))
    refine E.frac_eq d1 d3 (E.cancel_eq nn ?_)
    have u1 : E.T (E.add p q) r = E.d * ((E.add p q).1 * r.1) * ((E.add p q).2 * r.2) := rfl
    have u2 : E.T p (E.add q r) = E.d * (p.1 * (E.add q r).1) * (p.2 * (E.add q r).2) := rfl
    rw [u1, u2]
    generalize E.T p q = t at *
    generalize E.T q r = t' at *
    generalize E.add p q = P at *
    generalize E.add q r = Q at *
    generalize E.a = a at *
    generalize E.d = d at *
    clear x1 x2 y1 y2 a1 a2 t1 t2 u1 u2 d1 d2 d3 d4 n1 n2 n3 n4 nn hp hq hr hpq hqr py
    grind
  · show ((E.add p q).2 * r.2 - E.a * ((E.add p q).1 * r.1)) * E.inv (1 - E.T (E.add p q) r) = (p.2 * (E.add q r).2 - E.a * (p.1 * (E.add q r).1)) * E.inv (1 - E.T p (E.add q r))
    refine E.frac_eq d2 d4 (E.cancel_eq nn ?_)
    have u1 : E.T (E.add p q) r = E.d * ((E.add p q).1 * r.1) * ((E.add p q).2 * r.2) := rfl
    have u2 : E.T p (E.add q r) = E.d * (p.1 * (E.add q r).1) * (p.2 * (E.add q r).2) := rfl
    rw [u1, u2]
    generalize E.T p q = t at *
    generalize E.T q r = t' at *
    generalize E.add p q = P at *
    generalize E.add q r = Q at *
    generalize E.a = a at *
    generalize E.d = d at *
    clear x1 x2 y1 y2 a1 a2 t1 t2 u1 u2 d1 d2 d3 d4 n1 n2 n3 n4 nn hp hq hr hpq hqr px
    grind

/-! ### Multiples -/
def mul (E : EF R) : Nat → R × R → R × R
  | 0, _ => zero
  | n + 1, p => E.add (mul E n p) p
theorem on_mul (E : EF R) {p : R × R} (hp : E.On p) : ∀ n, E.On (E.mul n p)
  | 0 => E.on_zero
  | n + 1 => E.on_add (E.on_mul hp n) hp
theorem zero_add (E : EF R) {p : R × R} : E.add zero p = p := by rw [E.add_comm]; exact E.add_zero
theorem mul_one (E : EF R) (p : R × R) : E.mul 1 p = p := E.zero_add
theorem mul_add (E : EF R) {p : R × R} (hp : E.On p) (m : Nat) : ∀ n, E.mul (m + n) p = E.add (E.mul m p) (E.mul n p)
  | 0 => (E.add_zero).symm
  | n + 1 => by
    show E.add (E.mul (m + n) p) p = E.add (E.mul m p) (E.add (E.mul n p) p)
    rw [E.mul_add hp m n, E.add_assoc (E.on_mul hp m) (E.on_mul hp n) hp]
theorem mul_mul (E : EF R) {p : R × R} (hp : E.On p) (n : Nat) : ∀ m, E.mul (m * n) p = E.mul m (E.mul n p)
  | 0 => by rw [Nat.zero_mul]; rfl
  | m + 1 => by
    rw [Nat.succ_mul, E.mul_add hp, E.mul_mul hp n m]
    rfl
theorem mul_comm (E : EF R) {p : R × R} (hp : E.On p) (m n : Nat) : E.mul m (E.mul n p) = E.mul n (E.mul m p) := by
  rw [← E.mul_mul hp, ← E.mul_mul hp, Nat.mul_comm]
theorem mul_zeroE (E : EF R) : ∀ n, E.mul n (zero : R × R) = zero
  | 0 => rfl
  | n + 1 => by show E.add (E.mul n zero) zero = zero; rw [E.add_zero]; exact E.mul_zeroE n
/-- What lies between a multiple and the next. -/
theorem mul_diff (E : EF R) {p : R × R} (hp : E.On p) (m : Nat) : E.add (E.mul (m + 1) p) (neg (E.mul m p)) = p := by
  have h1 := E.on_mul hp m
  have h2 := E.on_neg h1
  rw [show E.mul (m + 1) p = E.add (E.mul m p) p from rfl, E.add_comm (E.mul m p) p, E.add_assoc hp h1 h2, E.add_neg h1, E.add_zero]

/-! ### The ladder's points: only y counts -/
def Rep (X Z y : R) : Prop := X - Z = y * (X + Z) ∧ X + Z ≠ 0
theorem ady_ne (E : EF R) {y : R} : E.a - E.d * (y * y) ≠ 0 := by
  intro h
  have hs := E.a_sq
  have := E.nonsq E.s y (by grind)
  subst this
  exact E.a_ne (by grind)
theorem dbl_rep (E : EF R) {q : R × R} (hq : E.On q) {X Z : R} (h : Rep X Z q.2) :
    Rep ((X + Z) * (X + Z) * ((X - Z) * (X - Z))) (((X + Z) * (X + Z) - (X - Z) * (X - Z)) * ((X + Z) * (X + Z) + ((X + Z) * (X + Z) - (X - Z) * (X - Z)) * E.c)) (E.add q q).2 := by
  obtain ⟨h1, h2⟩ := h
  have hy := E.add_y hq hq
  have nd := E.den_m hq hq
  have na := E.ady_ne (y := q.2)
  have hc := E.d_c
  have had := E.a_d
  have h4 : (4 : R) ≠ 0 := fun c => E.mul_ne E.two_ne E.two_ne (by grind)
  rw [h1]
  have hq' : E.a * (q.1 * q.1) + q.2 * q.2 = 1 + E.d * (q.1 * q.1) * (q.2 * q.2) := hq
  have e1 : (E.a - E.d * (q.2 * q.2)) * (1 - E.T q q) = 4 * (1 + E.c * ((1 - q.2 * q.2) * (1 - q.2 * q.2))) := by
    unfold T
    generalize E.a = a at *
    generalize E.d = d at *
    generalize E.c = c at *
    clear h1 h2 hy nd na h4 hq
    subst had
    subst hc
    grind
  have e2 : (E.a - E.d * (q.2 * q.2)) * (q.2 * q.2 - E.a * (q.1 * q.1)) = 4 * (2 * (q.2 * q.2) - 1 - E.c * ((1 - q.2 * q.2) * (1 - q.2 * q.2))) := by
    generalize E.a = a at *
    generalize E.d = d at *
    generalize E.c = c at *
    clear h1 h2 hy nd na h4 hq e1
    subst had
    subst hc
    grind
  have nk : 1 + E.c * ((1 - q.2 * q.2) * (1 - q.2 * q.2)) ≠ 0 := fun c => E.mul_ne na nd (by rw [e1, c]; grind)
  have key : (E.add q q).2 * (1 + E.c * ((1 - q.2 * q.2) * (1 - q.2 * q.2))) = 2 * (q.2 * q.2) - 1 - E.c * ((1 - q.2 * q.2) * (1 - q.2 * q.2)) := by
    refine E.cancel_eq h4 ?_
    rw [← e2, ← hy]
    generalize (E.add q q).2 = Y at *
    generalize E.T q q = t at *
    generalize E.a - E.d * (q.2 * q.2) = k at *
    generalize 1 + E.c * ((1 - q.2 * q.2) * (1 - q.2 * q.2)) = l at *
    clear h1 h2 hy nd na h4 hq e2 hq' had hc nk
    grind
  generalize (E.add q q).2 = Y at *
  generalize X + Z = S at *
  generalize q.2 = y at *
  generalize E.c = c at *
  have hS : S * S * (S * S) ≠ 0 := E.mul_ne (E.mul_ne h2 h2) (E.mul_ne h2 h2)
  have hsum : S * S * (y * S * (y * S)) + (S * S - y * S * (y * S)) * (S * S + (S * S - y * S * (y * S)) * c) = S * S * (S * S) * (1 + c * ((1 - y * y) * (1 - y * y))) := by
    clear h1 h2 hy nd na h4 hq e1 e2 hq' had hc nk key hS
    grind
  refine ⟨?_, ?_⟩
  · rw [hsum]
    clear h1 h2 hy nd na h4 hq e1 e2 hq' had hc nk hS hsum
    grind
  · rw [hsum]
    exact E.mul_ne hS nk
theorem diff_poly (x1 y1 x2 y2 a d : R) (h1 : a*x1*x1 + y1*y1 = 1 + d*x1*x1*y1*y1) (h2 : a*x2*x2 + y2*y2 = 1 + d*x2*x2*y2*y2) :
   (1 - d*x1*x2*y1*y2 + (y1*y2 - a*x1*x2)) * (1 + d*x1*x2*y1*y2 + (y1*y2 + a*x1*x2)) * ((y1-y2)*(y1-y2)) = (1 - d*x1*x2*y1*y2 - (y1*y2 - a*x1*x2)) * (1 + d*x1*x2*y1*y2 - (y1*y2 + a*x1*x2)) * ((y1+y2)*(y1+y2)) := by grind
/-- The sum of two points, by what lies between them. -/
theorem sum_rep (E : EF R) {p q r : R × R} (hp : E.On p) (hq : E.On q) (hr : E.add p (neg q) = r) {X Z X' Z' u : R} (h : Rep X Z p.2) (h' : Rep X' Z' q.2) (hu : u * (1 - r.2) = 1 + r.2) (hu0 : u ≠ 0) (hr1 : r.2 ≠ 1) :
    Rep (((X' - Z') * (X + Z) + (X' + Z') * (X - Z)) * ((X' - Z') * (X + Z) + (X' + Z') * (X - Z))) (u * (((X' - Z') * (X + Z) - (X' + Z') * (X - Z)) * ((X' - Z') * (X + Z) - (X' + Z') * (X - Z)))) (E.add p q).2 := by
  have hn := E.on_neg hq
  have ys := E.add_y hp hq
  have yd := E.add_y hp hn
  rw [hr] at yd
  have ns := E.den_m hp hq
  have nd := E.den_m hp hn
  have dp := diff_poly p.1 p.2 q.1 q.2 E.a E.d (E.on' hp) (E.on' hq)
  have t1 : E.d * p.1 * q.1 * p.2 * q.2 = E.T p q := by unfold T; grind
  have t2 : E.T p (neg q) = - E.T p q := by unfold T neg; simp only; grind
  have a1 : p.2 * q.2 - E.a * p.1 * q.1 = (1 - E.T p q) * (E.add p q).2 := by rw [ys]; grind
  have a2 : p.2 * q.2 + E.a * p.1 * q.1 = (1 + E.T p q) * r.2 := by
    rw [t2] at yd
    have : (neg q).2 = q.2 := rfl
    have n1 : (neg q).1 = - q.1 := rfl
    rw [this, n1] at yd
    generalize E.T p q = t at *
    generalize E.a = a at *
    clear this n1 t1 t2 a1 dp nd ns ys hn hr1 hu0 hu h h' hr hq hp
    grind
  rw [t1, a1, a2] at dp
  have np : 1 + E.T p q ≠ 0 := by rw [t2] at nd; intro c; exact nd (by grind)
  have key : (1 + (E.add p q).2) * (1 + r.2) * ((p.2 - q.2) * (p.2 - q.2)) = (1 - (E.add p q).2) * (1 - r.2) * ((p.2 + q.2) * (p.2 + q.2)) := by
    refine E.cancel_eq (E.mul_ne ns np) ?_
    clear t1 t2 a1 a2 ys yd ns nd np hp hq hn hr h h' hu hu0 hr1
    generalize E.T p q = t at *
    generalize (E.add p q).2 = y at *
    grind
  have n1r : 1 - r.2 ≠ 0 := fun c => hr1 (by grind)
  have key2 : (1 + (E.add p q).2) * u * ((p.2 - q.2) * (p.2 - q.2)) = (1 - (E.add p q).2) * ((p.2 + q.2) * (p.2 + q.2)) := by
    refine E.cancel_eq n1r ?_
    rw [← hu] at key
    clear t1 t2 a1 a2 ys yd ns nd np hp hq hn hr h h' hu hu0 hr1 dp n1r
    grind
  -- where both are nought
  have both : p.2 = 0 → q.2 = 0 → False := fun e1 e2 => by
    have o1 : E.a * (p.1 * p.1) = 1 := by unfold On at hp; rw [e1] at hp; grind
    have o2 : E.a * (q.1 * q.1) = 1 := by unfold On at hq; rw [e2] at hq; grind
    have tz : E.T p q = 0 := by unfold T; rw [e1]; grind
    have rr : r.2 = E.a * (p.1 * q.1) := by rw [tz, e1, e2] at a2; grind
    have r1 : r.2 * r.2 = 1 := by rw [rr]; grind
    have : (1 - r.2) * (1 + r.2) = 0 := by grind
    have h0 := E.cancel n1r this
    rw [h0] at hu
    exact E.mul_ne hu0 n1r hu
  obtain ⟨hX, hS⟩ := h
  obtain ⟨hX', hS'⟩ := h'
  rw [hX, hX']
  have two := E.two_ne
  have dom : ∀ x : R, x * x = 0 → x = 0 := fun x => E.sq_zero
  clear t1 t2 a1 a2 ys yd ns nd np hn hr hX hX' dp key hu n1r hr1
  generalize (E.add p q).2 = Y at *
  generalize p.2 = y at *
  generalize q.2 = y' at *
  generalize X + Z = S at *
  generalize X' + Z' = S' at *
  have hk : S * S' * (S * S') ≠ 0 := E.mul_ne (E.mul_ne hS hS') (E.mul_ne hS hS')
  have f1 : (y' * S' * S + S' * (y * S)) * (y' * S' * S + S' * (y * S)) = S * S' * (S * S') * ((y + y') * (y + y')) := by grind
  have f2 : u * ((y' * S' * S - S' * (y * S)) * (y' * S' * S - S' * (y * S))) = S * S' * (S * S') * (u * ((y - y') * (y - y'))) := by grind
  rw [f1, f2]
  have d : S * S' * (S * S') * ((y + y') * (y + y')) - S * S' * (S * S') * (u * ((y - y') * (y - y'))) = Y * (S * S' * (S * S') * ((y + y') * (y + y')) + S * S' * (S * S') * (u * ((y - y') * (y - y')))) := by
    clear both dom hk f1 f2 two hu0 hS hS' hp hq
    grind
  refine ⟨d, fun hz => ?_⟩
  rw [hz] at d
  have hx : S * S' * (S * S') * ((y + y') * (y + y')) = 0 := by
    refine E.cancel two ?_
    clear key2 both dom hk f1 f2 hS hS' hp hq
    grind
  have hy : S * S' * (S * S') * (u * ((y - y') * (y - y'))) = 0 := by
    clear key2 both dom hk f1 f2 hS hS' hp hq
    grind
  have s1 := dom _ (E.cancel hk hx)
  have s2 := dom _ (E.cancel hu0 (E.cancel hk hy))
  have z1 : y = 0 := by
    refine E.cancel two ?_
    grind
  exact both z1 (by rw [z1] at s1; grind)
/-- The number that the ladder ends in. -/
def U (E : EF R) (p : R × R) : R := (1 + p.2) * E.inv (1 - p.2)
theorem rep_U (E : EF R) {X Z : R} {p : R × R} (h : Rep X Z p.2) : X * E.inv Z = E.U p := by
  obtain ⟨h1, h2⟩ := h
  have e1 : 2 * X = (X + Z) * (1 + p.2) := by grind
  have e2 : 2 * Z = (X + Z) * (1 - p.2) := by grind
  have i2 := E.inv_mul 2 E.two_ne
  have iS := E.inv_mul (X + Z) h2
  have k := E.inv_mulE 2 Z
  rw [e2, E.inv_mulE] at k
  unfold U
  generalize E.inv (1 - p.2) = j at *
  generalize E.inv (X + Z) = k1 at *
  generalize E.inv 2 = k2 at *
  generalize E.inv Z = k3 at *
  -- X k3 = (1 + y) j
  refine E.cancel_eq (x := k2) (fun c => E.one_ne (by rw [← i2, c]; grind)) ?_
  rw [show k2 * (X * k3) = X * (k2 * k3) by grind, ← k]
  clear k h1 h2
  have : X = k2 * ((X + Z) * (1 + p.2)) := by rw [← e1]; clear iS e1 e2; grind
  clear e1 e2
  generalize X + Z = S at *
  rw [this]
  clear this
  generalize p.2 = y at *
  grind
end EF
end Go.My

/- The modulus 2^255 - 19 is prime (Pocklington), and Fermat's theorem. Nothing of the program is named. -/
import Derived.WalkKit
namespace Go.My

def Prim (p : Nat) : Prop := 2 ≤ p ∧ ∀ d, d ∣ p → d = 1 ∨ d = p
theorem Prim.euclid {p a b : Nat} (hp : Prim p) (h : p ∣ a * b) : p ∣ a ∨ p ∣ b := by
  rcases hp.2 (Nat.gcd p a) (Nat.gcd_dvd_left p a) with h1 | h1
  · exact .inr (Nat.Coprime.dvd_of_dvd_mul_left h1 h)
  · left
    have := Nat.gcd_dvd_right p a
    rw [h1] at this
    exact this

/-! ### Fermat, by the binomial theorem -/
def ch : Nat → Nat → Nat
  | _, 0 => 1
  | 0, _ + 1 => 0
  | n + 1, k + 1 => ch n k + ch n (k + 1)
theorem ch_zero (n : Nat) : ch n 0 = 1 := by cases n <;> rfl
theorem ch_big (n k : Nat) (h : n < k) : ch n k = 0 := by
  induction n generalizing k with
  | zero => cases k with
    | zero => omega
    | succ k => rfl
  | succ n ih => cases k with
    | zero => omega
    | succ k => rw [ch, ih k (by omega), ih (k + 1) (by omega)]
theorem ch_self (n : Nat) : ch n n = 1 := by
  induction n with
  | zero => rfl
  | succ n ih => rw [ch, ih, ch_big n (n + 1) (by omega)]
theorem ch_absorb (n k : Nat) : (k + 1) * ch (n + 1) (k + 1) = (n + 1) * ch n k := by
  induction n generalizing k with
  | zero => cases k with
    | zero => rfl
    | succ k => simp [ch]
  | succ n ih =>
    cases k with
    | zero =>
      have h := ih 0
      rw [ch_zero] at h ⊢
      rw [show ch (n + 1 + 1) (0 + 1) = ch (n + 1) 0 + ch (n + 1) (0 + 1) from rfl, ch_zero]
      omega
    | succ k =>
      have h1 := ih k
      have h2 := ih (k + 1)
      rw [ch, Nat.mul_add]
      have e1 : (k + 1 + 1) * ch (n + 1) (k + 1) = (n + 1) * ch n k + ch (n + 1) (k + 1) := by rw [← h1, Nat.add_mul, Nat.one_mul]
      rw [e1, h2, show ch (n + 1) (k + 1) = ch n k + ch n (k + 1) from rfl]
      simp only [Nat.add_mul, Nat.mul_add]
      omega
def bs (n x : Nat) : Nat → Nat
  | 0 => 0
  | m + 1 => bs n x m + ch n m * x ^ m
theorem bs_succ (n x m : Nat) : bs (n + 1) x (m + 1) = bs n x (m + 1) + x * bs n x m := by
  induction m with
  | zero => simp [bs, ch_zero]
  | succ m ih =>
    rw [bs, ih, bs, bs, bs, ch, Nat.pow_succ, Nat.add_mul, Nat.mul_add]
    have e : ch n m * (x ^ m * x) = x * (ch n m * x ^ m) := by rw [Nat.mul_comm x, Nat.mul_assoc]
    rw [e]
    omega
theorem bs_all (n x : Nat) : bs n x (n + 1) = (x + 1) ^ n := by
  induction n with
  | zero => simp [bs, ch]
  | succ n ih =>
    rw [bs_succ, ih, bs, ih, ch_big n (n + 1) (by omega), Nat.zero_mul, Nat.pow_succ, Nat.mul_add, Nat.mul_comm x]
    omega
theorem bs_mid (p x : Nat) (hp : Prim p) (m : Nat) (hm : m + 1 ≤ p) : bs p x (m + 1) % p = 1 % p := by
  induction m with
  | zero => simp [bs, ch_zero]
  | succ m ih =>
    rw [bs]
    have hd : p ∣ ch p (m + 1) := by
      obtain ⟨q, rfl⟩ : ∃ q, p = q + 1 := ⟨p - 1, by omega⟩
      have := ch_absorb q m
      rcases hp.euclid (a := m + 1) (b := ch (q + 1) (m + 1)) ⟨_, this⟩ with h | h
      · have := Nat.le_of_dvd (by omega) h
        omega
      · exact h
    obtain ⟨c, hc⟩ := hd
    rw [hc, Nat.mul_assoc, Nat.add_mul_mod_self_left]
    exact ih (by omega)
theorem frob (p x : Nat) (hp : Prim p) : (x + 1) ^ p % p = (x ^ p + 1) % p := by
  obtain ⟨q, rfl⟩ : ∃ q, p = q + 1 := ⟨p - 1, by have := hp.1; omega⟩
  rw [← bs_all, bs, ch_self, Nat.one_mul, Nat.add_mod, bs_mid (q + 1) x hp q (by omega), ← Nat.add_mod, Nat.add_comm]
theorem fermat (p x : Nat) (hp : Prim p) : x ^ p % p = x % p := by
  induction x with
  | zero => rw [Nat.zero_pow (by have := hp.1; omega)]
  | succ x ih => rw [frob p x hp, Nat.add_mod, ih, ← Nat.add_mod]
theorem fermat1 (p x : Nat) (hp : Prim p) (h : x % p ≠ 0) : x ^ (p - 1) % p = 1 := by
  have h2 := hp.1
  have hx : 0 < x := by
    rcases Nat.eq_zero_or_pos x with e | e
    · rw [e] at h; simp at h
    · exact e
  have e : x ^ p = x * x ^ (p - 1) := by rw [Nat.mul_comm, ← Nat.pow_succ]; congr 1; omega
  have f := fermat p x hp
  have hpos : 0 < x ^ (p - 1) := Nat.pow_pos hx
  have hd : p ∣ x * (x ^ (p - 1) - 1) := by
    rw [Nat.mul_sub, Nat.mul_one, ← e]
    exact Nat.dvd_of_mod_eq_zero (Nat.sub_mod_eq_zero_of_mod_eq f)
  rcases hp.euclid hd with hd | hd
  · exact absurd (Nat.mod_eq_zero_of_dvd hd) h
  · obtain ⟨c, hc⟩ := hd
    rw [show x ^ (p - 1) = 1 + p * c by omega, Nat.add_mul_mod_self_left]
    exact Nat.mod_eq_of_lt (by omega)

/-! ### Pocklington -/
theorem pow_one_mod {r x a : Nat} (h : x ^ a % r = 1 % r) (k : Nat) : x ^ (a * k) % r = 1 % r := by
  rw [Nat.pow_mul, Nat.pow_mod, h]
  rw [← Nat.pow_mod, Nat.one_pow]
theorem pow_gcd {r x : Nat} : ∀ (a b : Nat), x ^ a % r = 1 % r → x ^ b % r = 1 % r → x ^ Nat.gcd a b % r = 1 % r := by
  intro a
  induction a using Nat.strongRecOn with
  | ind a ih =>
    intro b ha hb
    rcases Nat.eq_zero_or_pos a with rfl | ha0
    · rw [Nat.gcd_zero_left]; exact hb
    · rw [Nat.gcd_rec]
      refine ih (b % a) (Nat.mod_lt _ ha0) a ?_ ha
      have e : x ^ b = x ^ (a * (b / a)) * x ^ (b % a) := by rw [← Nat.pow_add, Nat.div_add_mod]
      rw [e, Nat.mul_mod, pow_one_mod ha, ← Nat.mul_mod, Nat.one_mul] at hb
      exact hb
theorem pock_dvd (n q m a r : Nat) (hq : Prim q) (h1 : a ^ (q * m) % n = 1) (h2 : Nat.gcd (a ^ m % n + (n - 1)) n = 1) (hn : 2 ≤ n) (hr : Prim r) (hrn : r ∣ n) : q ∣ r - 1 := by
  have hr2 := hr.1
  have down : ∀ y, y % n % r = y % r := fun y => Nat.mod_mod_of_dvd y hrn
  have e1 : (a ^ m) ^ q % r = 1 % r := by rw [← Nat.pow_mul, Nat.mul_comm, ← down, h1]
  have hne : a ^ m % r ≠ 1 % r := by
    intro c
    have hd : r ∣ a ^ m % n + (n - 1) := by
      obtain ⟨k, hk⟩ := hrn
      have hk1 : (n - 1) % r = (r - 1) % r := by
        have hk0 : 0 < k := by rcases Nat.eq_zero_or_pos k with e | e; (rw [e] at hk; omega); exact e
        obtain ⟨j, rfl⟩ : ∃ j, k = j + 1 := ⟨k - 1, by omega⟩
        rw [Nat.mul_add, Nat.mul_one] at hk
        rw [show n - 1 = (r - 1) + r * j by omega, Nat.add_mul_mod_self_left]
      apply Nat.dvd_of_mod_eq_zero
      rw [Nat.add_mod, down, c, hk1, ← Nat.add_mod, show 1 + (r - 1) = r by omega, Nat.mod_self]
    have := Nat.dvd_gcd hd hrn
    rw [h2] at this
    have := Nat.le_of_dvd (by omega) this
    omega
  have hx : a ^ m % r ≠ 0 := by
    intro c
    have : (a ^ m) ^ q % r = 0 := by
      rw [Nat.pow_mod, c, Nat.zero_pow (by have := hq.1; omega)]
      exact Nat.zero_mod _
    rw [this, Nat.mod_eq_of_lt (by omega : 1 < r)] at e1
    omega
  have e2 : (a ^ m) ^ (r - 1) % r = 1 % r := by rw [fermat1 r _ hr hx, Nat.mod_eq_of_lt (by omega)]
  have e3 := pow_gcd q (r - 1) e1 e2
  rcases hq.2 (Nat.gcd q (r - 1)) (Nat.gcd_dvd_left _ _) with h | h
  · rw [h, Nat.pow_one] at e3
    exact absurd e3 hne
  · rw [← h]
    exact Nat.gcd_dvd_right _ _
theorem has_prim : ∀ n, 2 ≤ n → ∃ r, Prim r ∧ r ∣ n := by
  intro n
  induction n using Nat.strongRecOn with
  | ind n ih =>
    intro hn
    by_cases hp : Prim n
    · exact ⟨n, hp, Nat.dvd_refl n⟩
    · have : ∃ d, d ∣ n ∧ d ≠ 1 ∧ d ≠ n := by
        refine Classical.byContradiction fun c => hp ⟨hn, fun d hd => ?_⟩
        refine Classical.byContradiction fun c2 => c ⟨d, hd, fun e => c2 (.inl e), fun e => c2 (.inr e)⟩
      obtain ⟨d, hd, h1, h2⟩ := this
      have hle := Nat.le_of_dvd (by omega) hd
      have h0 : d ≠ 0 := by rintro rfl; exact absurd (Nat.eq_zero_of_zero_dvd hd) (by omega)
      obtain ⟨r, hr, hrd⟩ := ih d (by omega) (by omega)
      exact ⟨r, hr, Nat.dvd_trans hrd hd⟩
theorem prim_of_big (n K : Nat) (hn : 2 ≤ n) (hK : n < K * K) (h : ∀ r, Prim r → r ∣ n → K ≤ r) : Prim n := by
  refine ⟨hn, fun d hd => ?_⟩
  refine Classical.byContradiction fun c => ?_
  obtain ⟨e, he⟩ := hd
  have d0 : 2 ≤ d := by
    rcases d with _ | _ | d
    · simp at he; omega
    · exact absurd (.inl rfl) c
    · omega
  have e0 : 2 ≤ e := by
    rcases e with _ | _ | e
    · simp at he; omega
    · exact absurd (.inr (by omega)) c
    · omega
  obtain ⟨r, hr, hrd⟩ := has_prim d d0
  obtain ⟨s, hs, hse⟩ := has_prim e e0
  have h1 := h r hr (by rw [he]; exact Nat.dvd_trans hrd (Nat.dvd_mul_right _ _))
  have h2 := h s hs (by rw [he]; exact Nat.dvd_trans hse (Nat.dvd_mul_left _ _))
  have h3 := Nat.le_of_dvd (by omega) hrd
  have h4 := Nat.le_of_dvd (by omega) hse
  have := Nat.mul_le_mul (Nat.le_trans h1 h3) (Nat.le_trans h2 h4)
  omega
theorem prim_small (n K : Nat) (hn : 2 ≤ n) (hK : n < K * K) (h : ((List.range K).all fun d => decide (d < 2) || n % d != 0) = true) : Prim n := by
  refine prim_of_big n K hn hK fun r hr hrn => ?_
  refine Classical.byContradiction fun c => ?_
  have := List.all_eq_true.1 h r (List.mem_range.2 (by omega))
  have h2 := hr.1
  simp only [Bool.or_eq_true, decide_eq_true_eq, bne_iff_ne, ne_eq] at this
  rcases this with h3 | h3
  · omega
  · exact h3 (Nat.mod_eq_zero_of_dvd hrn)
/-! ### The certificate -/
/-- a^e mod n, by squares. -/
def pm (n : Nat) : Nat → Nat → Nat → Nat
  | 0, _, _ => 1 % n
  | f + 1, a, e => bif e % 2 == 1 then a * pm n f (a * a % n) (e / 2) % n else pm n f (a * a % n) (e / 2)
theorem pm_eq (n : Nat) : ∀ f a e, e < 2 ^ f → pm n f a e = a ^ e % n := by
  intro f
  induction f with
  | zero =>
    intro a e h
    obtain rfl : e = 0 := by rw [Nat.pow_zero] at h; omega
    rfl
  | succ f ih =>
    intro a e h
    have hh : e / 2 < 2 ^ f := by rw [Nat.pow_succ] at h; omega
    have hs : (a * a % n) ^ (e / 2) % n = (a ^ (2 * (e / 2))) % n := by rw [← Nat.pow_mod, Nat.pow_mul, Nat.pow_two]
    rw [pm, ih _ _ hh, hs]
    by_cases h1 : e % 2 = 1
    · rw [show (e % 2 == 1) = true by simp [h1], cond_true, Nat.mul_mod, Nat.mod_mod, ← Nat.mul_mod, Nat.mul_comm a, ← Nat.pow_succ]
      congr 2; omega
    · rw [show (e % 2 == 1) = false by simp [h1], cond_false]
      congr 2; omega

theorem prim_two (n q1 q2 m1 m2 : Nat) (hn : 2 ≤ n) (p1 : Prim q1) (p2 : Prim q2) (hc : Nat.Coprime q1 q2) (e1 : n - 1 = q1 * m1) (e2 : n - 1 = q2 * m2) (hK : n < (q1 * q2) * (q1 * q2))
    (f : Nat) (hf : n ≤ 2 ^ f)
    (h1 : pm n f 2 (n - 1) = 1) (g1 : Nat.gcd (pm n f 2 m1 + (n - 1)) n = 1) (g2 : Nat.gcd (pm n f 2 m2 + (n - 1)) n = 1) : Prim n := by
  have l1 : m1 ≤ n - 1 := by rw [e1]; exact Nat.le_mul_of_pos_left _ (by have := p1.1; omega)
  have l2 : m2 ≤ n - 1 := by rw [e2]; exact Nat.le_mul_of_pos_left _ (by have := p2.1; omega)
  rw [pm_eq n f 2 _ (by omega)] at h1 g1 g2
  refine prim_of_big n (q1 * q2) hn hK fun r hr hrn => ?_
  have d1 := pock_dvd n q1 m1 2 r p1 (by rw [← e1]; exact h1) g1 hn hr hrn
  have d2 := pock_dvd n q2 m2 2 r p2 (by rw [← e2]; exact h1) g2 hn hr hrn
  have := Nat.le_of_dvd (by have := hr.1; omega) (Nat.Coprime.mul_dvd_of_dvd_of_dvd hc d1 d2)
  omega
theorem prim_one (n q m : Nat) (hn : 2 ≤ n) (p1 : Prim q) (e1 : n - 1 = q * m) (hK : n < q * q) (f : Nat) (hf : n ≤ 2 ^ f)
    (h1 : pm n f 2 (n - 1) = 1) (g1 : Nat.gcd (pm n f 2 m + (n - 1)) n = 1) : Prim n := by
  have l1 : m ≤ n - 1 := by rw [e1]; exact Nat.le_mul_of_pos_left _ (by have := p1.1; omega)
  rw [pm_eq n f 2 _ (by omega)] at h1 g1
  refine prim_of_big n q hn hK fun r hr hrn => ?_
  have d1 := pock_dvd n q m 2 r p1 (by rw [← e1]; exact h1) g1 hn hr hrn
  have := Nat.le_of_dvd (by have := hr.1; omega) d1
  omega

theorem prim127 : Prim 127 := prim_small 127 12 (by decide) (by decide) (by decide +kernel)
theorem prim75707 : Prim 75707 := prim_small 75707 300 (by decide) (by decide) (by decide +kernel)
theorem prim132049 : Prim 132049 := prim_small 132049 400 (by decide) (by decide) (by decide +kernel)
theorem prim8574133 : Prim 8574133 := prim_small 8574133 3000 (by decide) (by decide) (by decide +kernel)
theorem primR2 : Prim 1919519569386763 :=
  prim_two 1919519569386763 8574133 127 ((1919519569386763 - 1) / 8574133) ((1919519569386763 - 1) / 127) (by decide) prim8574133 prim127 (by decide +kernel) (by decide +kernel) (by decide +kernel) (by decide +kernel)
    60 (by decide +kernel) (by decide +kernel) (by decide +kernel) (by decide +kernel)
theorem primR1 : Prim 75445702479781427272750846543864801 :=
  prim_two 75445702479781427272750846543864801 1919519569386763 75707 ((75445702479781427272750846543864801 - 1) / 1919519569386763) ((75445702479781427272750846543864801 - 1) / 75707) (by decide) primR2 prim75707 (by decide +kernel) (by decide +kernel) (by decide +kernel) (by decide +kernel)
    120 (by decide +kernel) (by decide +kernel) (by decide +kernel) (by decide +kernel)
theorem primQ : Prim 74058212732561358302231226437062788676166966415465897661863160754340907 :=
  prim_two 74058212732561358302231226437062788676166966415465897661863160754340907 75445702479781427272750846543864801 132049 ((74058212732561358302231226437062788676166966415465897661863160754340907 - 1) / 75445702479781427272750846543864801) ((74058212732561358302231226437062788676166966415465897661863160754340907 - 1) / 132049) (by decide) primR1 prim132049 (by decide +kernel) (by decide +kernel) (by decide +kernel) (by decide +kernel)
    260 (by decide +kernel) (by decide +kernel) (by decide +kernel) (by decide +kernel)
/-- 2^255 - 19. -/
def P25 : Nat := 57896044618658097711785492504343953926634992332820282019728792003956564819949
theorem primP : Prim P25 :=
  prim_one P25 74058212732561358302231226437062788676166966415465897661863160754340907 ((P25 - 1) / 74058212732561358302231226437062788676166966415465897661863160754340907) (by decide +kernel) primQ (by decide +kernel) (by decide +kernel)
    260 (by decide +kernel) (by decide +kernel) (by decide +kernel)

end Go.My

/- Field numbers in ten limbs: products. Nothing of the program is named. -/
import Derived.Test.YtdhfddeghnoecaaDoorMathL
namespace Go.My
open Go.RowKit

def pwL : List Int := [1, 67108864, 2251799813685248, 151115727451828646838272, 5070602400912917605986812821504, 340282366920938463463374607431768211456, 11417981541647679048466287755595961091061972992, 766247770432944429179173513575154591809369561091801088, 25711008708143844408671393477458601640355247900524685364822016, 1725436586697640946858688965569256363112777243042596638790631055949824, 57896044618658097711785492504343953926634992332820282019728792003956564819968, 3885337784451458141838923813647037813284813678104279042503624819477808570410416996352, 130370302485407109521180524058200202307293977194619920040712988758680403184853549195737432064, 8749002899132047697490008908470485461412677723572849745703082425639811996797503692894052708092215296, 293567822846729153486185074598667128421960318613539983838411371441526128139326055432962374798096087878991872, 19701003098197239606139520050071806902539869635232723333974146702122860885748605305707133127442457820403313995153408, 661055968790248598951915308032771039828404682964281219284648795274405791236311345825189210439715284847591212025023358304256, 44362715105933037753254626946289339254982993206013065202727673289833940924890009968639590497666233249558259375382457149263586525184, 1488565707357402911845015158554633286356257506687627387456491927921949262056238946972039271861787782268441644249633132407878864135402815488, 99895953610111751404211111353381321783955140565279076827493022708011895642232499843849795298031743077114461795885011932654335221737225129801285632]
def pw (m : Nat) : Int := pwL.getD m 0
def sumF (f : Nat → Int) : Nat → Int
  | 0 => 0
  | n + 1 => sumF f n + f n
theorem sumF_congr {f g : Nat → Int} (n : Nat) (h : ∀ q, q < n → f q = g q) : sumF f n = sumF g n := by
  induction n with
  | zero => rfl
  | succ n ih => rw [sumF, sumF, ih (fun q hq => h q (by omega)), h n (by omega)]
theorem sumF_add (f g : Nat → Int) (n : Nat) : sumF (fun q => f q + g q) n = sumF f n + sumF g n := by
  induction n with
  | zero => rfl
  | succ n ih => rw [sumF, sumF, sumF, ih]; omega
theorem sumF_mul (c : Int) (f : Nat → Int) (n : Nat) : sumF (fun q => c * f q) n = c * sumF f n := by
  induction n with
  | zero => simp [sumF]
  | succ n ih => rw [sumF, sumF, ih, Int.mul_add]
theorem sumF_upd (t p : Nat → Int) (m : Nat) (d : Int) (n : Nat) : sumF (fun q => (if q = m then t q + d else t q) * p q) n = sumF (fun q => t q * p q) n + (if m < n then d * p m else 0) := by
  induction n with
  | zero => rw [if_neg (by omega)]; rfl
  | succ n ih =>
    rw [sumF, sumF, ih]
    by_cases h : n = m
    · rw [if_pos h, if_neg (by omega), if_pos (by omega), h, Int.add_mul]; omega
    · rw [if_neg h]
      by_cases h2 : m < n
      · rw [if_pos h2, if_pos (by omega)]; omega
      · rw [if_neg h2, if_neg (by omega)]; omega
theorem VL_sum (h : Nat → Int) : VL h = sumF (fun q => h q * pw q) 10 := by
  simp only [sumF, VL, pw, pwL]
  simp
def od (b : Nat → Int) (k : Nat) : Int := if k % 2 = 1 then 2 * b k else b k
/-- The row of the products: t, and what a pair of limbs has brought up to k. -/
def tIn (t b : Nat → Int) (x y : Int) (i k q : Nat) : Int := t q + (if i ≤ q ∧ q < i + k then x * b (q - i) else 0) + (if i + 1 ≤ q ∧ q < i + 1 + k then y * od b (q - i - 1) else 0)
def tMid (t b : Nat → Int) (x y : Int) (i k q : Nat) : Int := if q = i + k then tIn t b x y i k q + x * b k else tIn t b x y i k q
theorem tIn_zero (t b : Nat → Int) (x y : Int) (i : Nat) : tIn t b x y i 0 = t := by
  funext q
  unfold tIn
  rw [if_neg (by omega), if_neg (by omega)]
  omega
theorem tIn_succ (t b : Nat → Int) (x y : Int) (i k q : Nat) : tIn t b x y i (k + 1) q = if q = i + 1 + k then tMid t b x y i k q + y * od b k else tMid t b x y i k q := by
  unfold tMid tIn
  by_cases h1 : q = i + 1 + k
  · subst h1
    rw [if_pos rfl, if_neg (by omega : ¬ (i ≤ i + 1 + k ∧ i + 1 + k < i + (k + 1))), if_pos (by omega : i + 1 ≤ i + 1 + k ∧ i + 1 + k < i + 1 + (k + 1)), if_neg (by omega : ¬ i + 1 + k = i + k), if_neg (by omega : ¬ (i ≤ i + 1 + k ∧ i + 1 + k < i + k)), if_neg (by omega : ¬ (i + 1 ≤ i + 1 + k ∧ i + 1 + k < i + 1 + k)), show i + 1 + k - i - 1 = k by omega]
    omega
  · rw [if_neg h1]
    by_cases h2 : q = i + k
    · subst h2
      rw [if_pos rfl, if_pos (by omega : i ≤ i + k ∧ i + k < i + (k + 1)), if_neg (by omega : ¬ (i ≤ i + k ∧ i + k < i + k)), show i + k - i = k by omega]
      by_cases h3 : i + 1 ≤ i + k ∧ i + k < i + 1 + k
      · rw [if_pos h3, if_pos (by omega)]; omega
      · rw [if_neg h3, if_neg (by omega)]; omega
    · rw [if_neg h2]
      by_cases h3 : i ≤ q ∧ q < i + k
      · rw [if_pos h3, if_pos (by omega)]
        by_cases h4 : i + 1 ≤ q ∧ q < i + 1 + k
        · rw [if_pos h4, if_pos (by omega)]
        · rw [if_neg h4, if_neg (by omega)]
      · rw [if_neg h3, if_neg (by omega)]
        by_cases h4 : i + 1 ≤ q ∧ q < i + 1 + k
        · rw [if_pos h4, if_pos (by omega)]
        · rw [if_neg h4, if_neg (by omega)]
def V20 (t : Nat → Int) : Int := sumF (fun q => t q * pw q) 20
theorem pw_even (i k : Nat) (hi : i % 2 = 0) (hi2 : i < 10) (hk : k < 10) : pw (i + k) = pw i * pw k := by
  have h : ∀ i, i < 10 → ∀ k, k < 10 → i % 2 = 0 → pw (i + k) = pw i * pw k := by decide +kernel
  exact h i hi2 k hk hi
theorem pw_odd (i k : Nat) (hi : i % 2 = 0) (hi2 : i < 10) (hk : k < 10) : (if k % 2 = 1 then 2 else 1) * pw (i + 1 + k) = pw (i + 1) * pw k := by
  have h : ∀ i, i < 10 → ∀ k, k < 10 → i % 2 = 0 → (if k % 2 = 1 then 2 else 1) * pw (i + 1 + k) = pw (i + 1) * pw k := by decide +kernel
  exact h i hi2 k hk hi
theorem od_mul (b : Nat → Int) (k : Nat) : od b k = (if k % 2 = 1 then 2 else 1) * b k := by
  unfold od
  split <;> omega
theorem V20_in (t b : Nat → Int) (x y : Int) (i k : Nat) (hi : i % 2 = 0) (hi2 : i < 10) (hk : k ≤ 10) : V20 (tIn t b x y i k) = V20 t + (x * pw i + y * pw (i + 1)) * sumF (fun q => b q * pw q) k := by
  induction k with
  | zero => rw [tIn_zero]; simp [sumF]
  | succ k ih =>
    have e1 : V20 (tIn t b x y i (k + 1)) = V20 (tMid t b x y i k) + y * od b k * pw (i + 1 + k) := by
      unfold V20
      rw [sumF_congr 20 (fun q _ => by rw [tIn_succ]), sumF_upd, if_pos (by omega)]
    have e2 : V20 (tMid t b x y i k) = V20 (tIn t b x y i k) + x * b k * pw (i + k) := by
      have : ∀ q, tMid t b x y i k q * pw q = (if q = i + k then tIn t b x y i k q + x * b k else tIn t b x y i k q) * pw q := fun q => rfl
      unfold V20
      rw [sumF_congr 20 (fun q _ => this q), sumF_upd, if_pos (by omega)]
    have p1 := pw_even i k hi hi2 (by omega)
    have p2 := pw_odd i k hi hi2 (by omega)
    rw [e1, e2, ih (by omega), sumF, p1, od_mul]
    have e3 : y * ((if k % 2 = 1 then 2 else 1) * b k) * pw (i + 1 + k) = y * b k * ((if k % 2 = 1 then 2 else 1) * pw (i + 1 + k)) := by
      simp only [Int.mul_assoc, Int.mul_left_comm, Int.mul_comm]
    rw [e3, p2, Int.mul_add, Int.add_mul (x * pw i), Int.add_mul (x * pw i)]
    have e4 : x * b k * (pw i * pw k) = x * pw i * (b k * pw k) := by simp only [Int.mul_assoc, Int.mul_left_comm, Int.mul_comm]
    have e5 : y * b k * (pw (i + 1) * pw k) = y * pw (i + 1) * (b k * pw k) := by simp only [Int.mul_assoc, Int.mul_left_comm, Int.mul_comm]
    rw [e4, e5]
    omega
/-- The rows behind n pairs. -/
def tO (a b : Nat → Int) : Nat → Nat → Int
  | 0 => fun _ => 0
  | n + 1 => tIn (tO a b n) b (a (2 * n)) (a (2 * n + 1)) (2 * n) 10
theorem V20_all (a b : Nat → Int) : V20 (tO a b 5) = VL a * VL b := by
  have h : ∀ n, n ≤ 5 → V20 (tO a b n) = sumF (fun q => a q * pw q) (2 * n) * sumF (fun q => b q * pw q) 10 := by
    intro n
    induction n with
    | zero => intro _; simp only [Nat.mul_zero, sumF, Int.zero_mul]; show V20 (fun _ => 0) = 0; unfold V20; rw [sumF_congr 20 (g := fun _ => 0) (fun q _ => by simp)]; rfl
    | succ n ih =>
      intro hn
      show V20 (tIn _ b _ _ (2 * n) 10) = _
      have es : sumF (fun q => a q * pw q) (2 * n + 1 + 1) = sumF (fun q => a q * pw q) (2 * n) + (a (2 * n) * pw (2 * n) + a (2 * n + 1) * pw (2 * n + 1)) := by rw [sumF, sumF, Int.add_assoc]
      rw [V20_in _ _ _ _ _ _ (by omega) (by omega) (by omega), ih (by omega), ← Int.add_mul, show 2 * (n + 1) = 2 * n + 1 + 1 by omega, es]
  rw [h 5 (by omega), VL_sum, VL_sum]
def outM (t : Nat → Int) (i : Nat) : Int := t i + 19 * t (i + 10)
theorem out_mod (t : Nat → Int) : ∃ k : Int, VL (outM t) = V20 t - k * 57896044618658097711785492504343953926634992332820282019728792003956564819949 := by
  refine ⟨sumF (fun q => t (q + 10) * pw q) 10, ?_⟩
  rw [VL_sum]
  have e : ∀ q, q < 10 → outM t q * pw q = t q * pw q + 19 * (t (q + 10) * pw q) := fun q _ => by unfold outM; rw [Int.add_mul, Int.mul_assoc]
  rw [sumF_congr 10 e, sumF_add, sumF_mul]
  unfold V20
  simp only [sumF, pw, pwL]
  simp
  omega
theorem prod_bd (x y : Int) (A B : Nat) (hx : -(A : Int) ≤ x ∧ x ≤ A) (hy : -(B : Int) ≤ y ∧ y ≤ B) : -((A * B : Nat) : Int) ≤ x * y ∧ x * y ≤ ((A * B : Nat) : Int) := by
  have h := Nat.mul_le_mul (show x.natAbs ≤ A by omega) (show y.natAbs ≤ B by omega)
  rw [← Int.natAbs_mul] at h
  generalize x * y = z at *
  omega
/-- The limbs of a sum or a difference of carried numbers, or of one that was read. -/
def Mid (a : Nat → Int) : Prop := ∀ q, q < 10 → -134217728 ≤ a q ∧ a q ≤ 134217728
theorem od_bd (b : Nat → Int) (hb : Mid b) (k : Nat) (hk : k < 10) : -268435456 ≤ od b k ∧ od b k ≤ 268435456 := by
  have := hb k hk
  unfold od
  split <;> omega
theorem xb_bd (a b : Nat → Int) (ha : Mid a) (hb : Mid b) (i k : Nat) (hi : i < 10) (hk : k < 10) : -18014398509481984 ≤ a i * b k ∧ a i * b k ≤ 18014398509481984 := prod_bd (a i) (b k) 134217728 134217728 (ha i hi) (hb k hk)
theorem yo_bd (a b : Nat → Int) (ha : Mid a) (hb : Mid b) (i k : Nat) (hi : i < 10) (hk : k < 10) : -36028797018963968 ≤ a i * od b k ∧ a i * od b k ≤ 36028797018963968 := prod_bd (a i) (od b k) 134217728 268435456 (ha i hi) (od_bd b hb k hk)
theorem tO_bd (a b : Nat → Int) (ha : Mid a) (hb : Mid b) (n : Nat) (hn : n ≤ 5) (q : Nat) : -(54043195528445952 * (n : Int)) ≤ tO a b n q ∧ tO a b n q ≤ 54043195528445952 * (n : Int) := by
  induction n with
  | zero => exact ⟨by simp [tO], by simp [tO]⟩
  | succ n ih =>
    have h := ih (by omega)
    show _ ≤ tIn _ b _ _ (2 * n) 10 q ∧ tIn _ b _ _ (2 * n) 10 q ≤ _
    unfold tIn
    have h1 : -18014398509481984 ≤ (if 2 * n ≤ q ∧ q < 2 * n + 10 then a (2 * n) * b (q - 2 * n) else 0) ∧ (if 2 * n ≤ q ∧ q < 2 * n + 10 then a (2 * n) * b (q - 2 * n) else 0) ≤ 18014398509481984 := by
      split
      · exact xb_bd a b ha hb _ _ (by omega) (by omega)
      · omega
    have h2 : -36028797018963968 ≤ (if 2 * n + 1 ≤ q ∧ q < 2 * n + 1 + 10 then a (2 * n + 1) * od b (q - 2 * n - 1) else 0) ∧ (if 2 * n + 1 ≤ q ∧ q < 2 * n + 1 + 10 then a (2 * n + 1) * od b (q - 2 * n - 1) else 0) ≤ 36028797018963968 := by
      split
      · exact yo_bd a b ha hb _ _ (by omega) (by omega)
      · omega
    rw [Int.natCast_add]
    omega
theorem tIn_bd (a b : Nat → Int) (ha : Mid a) (hb : Mid b) (n k : Nat) (hn : n < 5) (hk : k ≤ 10) (q : Nat) : -270215977642229760 ≤ tIn (tO a b n) b (a (2 * n)) (a (2 * n + 1)) (2 * n) k q ∧ tIn (tO a b n) b (a (2 * n)) (a (2 * n + 1)) (2 * n) k q ≤ 270215977642229760 := by
  have h := tO_bd a b ha hb n (by omega) q
  unfold tIn
  have h1 : -18014398509481984 ≤ (if 2 * n ≤ q ∧ q < 2 * n + k then a (2 * n) * b (q - 2 * n) else 0) ∧ (if 2 * n ≤ q ∧ q < 2 * n + k then a (2 * n) * b (q - 2 * n) else 0) ≤ 18014398509481984 := by
    split
    · exact xb_bd a b ha hb _ _ (by omega) (by omega)
    · omega
  have h2 : -36028797018963968 ≤ (if 2 * n + 1 ≤ q ∧ q < 2 * n + 1 + k then a (2 * n + 1) * od b (q - 2 * n - 1) else 0) ∧ (if 2 * n + 1 ≤ q ∧ q < 2 * n + 1 + k then a (2 * n + 1) * od b (q - 2 * n - 1) else 0) ≤ 36028797018963968 := by
    split
    · exact yo_bd a b ha hb _ _ (by omega) (by omega)
    · omega
  omega
theorem outM_bd (a b : Nat → Int) (ha : Mid a) (hb : Mid b) (q : Nat) : -7205759403792793600 ≤ outM (tO a b 5) q ∧ outM (tO a b 5) q ≤ 7205759403792793600 := by
  have h1 := tO_bd a b ha hb 5 (by omega) q
  have h2 := tO_bd a b ha hb 5 (by omega) (q + 10)
  unfold outM
  omega
/-- The product, carried. -/
def mulL (a b : Nat → Int) : Nat → Int := crR (outM (tO a b 5)) 20
theorem mulL_low (a b : Nat → Int) (ha : Mid a) (hb : Mid b) : Low (mulL a b) := carried _ (fun q _ => outM_bd a b ha hb q)
theorem mulL_mod (a b : Nat → Int) : ∃ k : Int, VL (mulL a b) = VL a * VL b - k * 57896044618658097711785492504343953926634992332820282019728792003956564819949 := by
  obtain ⟨k, hk⟩ := crR_mod (outM (tO a b 5)) 20
  obtain ⟨j, hj⟩ := out_mod (tO a b 5)
  rw [V20_all] at hj
  refine ⟨k + j, ?_⟩
  unfold mulL
  rw [hk, hj]
  omega
theorem Low.mid {g : Nat → Int} (h : Low g) : Mid g := by
  intro q hq
  by_cases c : q = 0
  · subst c; have := h.1; omega
  · have := h.2 q (by omega) hq; have := kh_le q; omega

end Go.My

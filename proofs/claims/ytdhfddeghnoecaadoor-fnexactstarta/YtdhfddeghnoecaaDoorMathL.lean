/- Field numbers in ten limbs of 26 and 25 bits by turns: carries. Nothing of the program is named. -/
import Derived.Test.YtdhfddeghnoecaaDoorMathG
namespace Go.My
open Go.RowKit

def VL (h : Nat → Int) : Int := h 0 + h 1 * 67108864 + h 2 * 2251799813685248 + h 3 * 151115727451828646838272 + h 4 * 5070602400912917605986812821504 + h 5 * 340282366920938463463374607431768211456 + h 6 * 11417981541647679048466287755595961091061972992 + h 7 * 766247770432944429179173513575154591809369561091801088 + h 8 * 25711008708143844408671393477458601640355247900524685364822016 + h 9 * 1725436586697640946858688965569256363112777243042596638790631055949824
/-- A limb's bits, as a power of two, and half of it. -/
def kw (i : Nat) : Int := if i % 2 = 0 then 67108864 else 33554432
def kh (i : Nat) : Int := if i % 2 = 0 then 33554432 else 16777216
theorem kw_cases (i : Nat) : (i % 2 = 0 ∧ kw i = 67108864 ∧ kh i = 33554432) ∨ (i % 2 = 1 ∧ kw i = 33554432 ∧ kh i = 16777216) := by
  unfold kw kh
  by_cases h : i % 2 = 0
  · exact .inl ⟨h, if_pos h, if_pos h⟩
  · exact .inr ⟨by omega, if_neg h, if_neg h⟩
def crC (h : Nat → Int) (i : Nat) : Int := (h i + kh i) / kw i
/-- One limb's carry. -/
def crS (h : Nat → Int) (i q : Nat) : Int :=
  if q = i then h i - crC h i * kw i else if i < 9 ∧ q = i + 1 then h (i + 1) + crC h i else if i = 9 ∧ q = 0 then h 0 + 19 * crC h 9 else h q
def crR (h : Nat → Int) : Nat → Nat → Int
  | 0 => h
  | n + 1 => crS (crR h n) (n % 10)
theorem crS_at (h : Nat → Int) (i : Nat) : crS h i i = h i - crC h i * kw i := if_pos rfl
theorem crS_next (h : Nat → Int) (i : Nat) (hi : i < 9) : crS h i (i + 1) = h (i + 1) + crC h i := by
  unfold crS
  rw [if_neg (by omega), if_pos ⟨hi, rfl⟩]
theorem crS_first (h : Nat → Int) : crS h 9 0 = h 0 + 19 * crC h 9 := by
  unfold crS
  rw [if_neg (by omega), if_neg (by omega), if_pos ⟨rfl, rfl⟩]
theorem crS_other (h : Nat → Int) (i q : Nat) (h1 : q ≠ i) (h2 : ¬ (i < 9 ∧ q = i + 1)) (h3 : ¬ (i = 9 ∧ q = 0)) : crS h i q = h q := by
  unfold crS
  rw [if_neg h1, if_neg h2, if_neg h3]
theorem crS_mod (h : Nat → Int) (i : Nat) (hi : i < 10) : ∃ k : Int, VL (crS h i) = VL h - k * 57896044618658097711785492504343953926634992332820282019728792003956564819949 := by
  by_cases h9 : i = 9
  · subst h9
    refine ⟨crC h 9, ?_⟩
    have e9 := crS_at h 9
    have e0 := crS_first h
    have o : ∀ q, q ≠ 9 → q ≠ 0 → crS h 9 q = h q := fun q a b => crS_other h 9 q a (by omega) (by omega)
    have kk : kw 9 = 33554432 := rfl
    rw [kk] at e9
    unfold VL
    rw [e9, e0, o 1 (by omega) (by omega), o 2 (by omega) (by omega), o 3 (by omega) (by omega), o 4 (by omega) (by omega), o 5 (by omega) (by omega), o 6 (by omega) (by omega), o 7 (by omega) (by omega), o 8 (by omega) (by omega)]
    generalize crC h 9 = c
    omega
  · refine ⟨0, ?_⟩
    have ei := crS_at h i
    have en := crS_next h i (by omega)
    have o : ∀ q, q ≠ i → q ≠ i + 1 → crS h i q = h q := fun q a b => crS_other h i q a (by omega) (by omega)
    unfold VL
    generalize crC h i = c at *
    rcases (by omega : i = 0 ∨ i = 1 ∨ i = 2 ∨ i = 3 ∨ i = 4 ∨ i = 5 ∨ i = 6 ∨ i = 7 ∨ i = 8) with rfl | rfl | rfl | rfl | rfl | rfl | rfl | rfl | rfl
    · rw [show kw 0 = 67108864 from rfl] at ei; simp only [Nat.reduceAdd] at en o; rw [ei, en, o 2 (by omega) (by omega), o 3 (by omega) (by omega), o 4 (by omega) (by omega), o 5 (by omega) (by omega), o 6 (by omega) (by omega), o 7 (by omega) (by omega), o 8 (by omega) (by omega), o 9 (by omega) (by omega)]; omega
    · rw [show kw 1 = 33554432 from rfl] at ei; simp only [Nat.reduceAdd] at en o; rw [ei, en, o 0 (by omega) (by omega), o 3 (by omega) (by omega), o 4 (by omega) (by omega), o 5 (by omega) (by omega), o 6 (by omega) (by omega), o 7 (by omega) (by omega), o 8 (by omega) (by omega), o 9 (by omega) (by omega)]; omega
    · rw [show kw 2 = 67108864 from rfl] at ei; simp only [Nat.reduceAdd] at en o; rw [ei, en, o 0 (by omega) (by omega), o 1 (by omega) (by omega), o 4 (by omega) (by omega), o 5 (by omega) (by omega), o 6 (by omega) (by omega), o 7 (by omega) (by omega), o 8 (by omega) (by omega), o 9 (by omega) (by omega)]; omega
    · rw [show kw 3 = 33554432 from rfl] at ei; simp only [Nat.reduceAdd] at en o; rw [ei, en, o 0 (by omega) (by omega), o 1 (by omega) (by omega), o 2 (by omega) (by omega), o 5 (by omega) (by omega), o 6 (by omega) (by omega), o 7 (by omega) (by omega), o 8 (by omega) (by omega), o 9 (by omega) (by omega)]; omega
    · rw [show kw 4 = 67108864 from rfl] at ei; simp only [Nat.reduceAdd] at en o; rw [ei, en, o 0 (by omega) (by omega), o 1 (by omega) (by omega), o 2 (by omega) (by omega), o 3 (by omega) (by omega), o 6 (by omega) (by omega), o 7 (by omega) (by omega), o 8 (by omega) (by omega), o 9 (by omega) (by omega)]; omega
    · rw [show kw 5 = 33554432 from rfl] at ei; simp only [Nat.reduceAdd] at en o; rw [ei, en, o 0 (by omega) (by omega), o 1 (by omega) (by omega), o 2 (by omega) (by omega), o 3 (by omega) (by omega), o 4 (by omega) (by omega), o 7 (by omega) (by omega), o 8 (by omega) (by omega), o 9 (by omega) (by omega)]; omega
    · rw [show kw 6 = 67108864 from rfl] at ei; simp only [Nat.reduceAdd] at en o; rw [ei, en, o 0 (by omega) (by omega), o 1 (by omega) (by omega), o 2 (by omega) (by omega), o 3 (by omega) (by omega), o 4 (by omega) (by omega), o 5 (by omega) (by omega), o 8 (by omega) (by omega), o 9 (by omega) (by omega)]; omega
    · rw [show kw 7 = 33554432 from rfl] at ei; simp only [Nat.reduceAdd] at en o; rw [ei, en, o 0 (by omega) (by omega), o 1 (by omega) (by omega), o 2 (by omega) (by omega), o 3 (by omega) (by omega), o 4 (by omega) (by omega), o 5 (by omega) (by omega), o 6 (by omega) (by omega), o 9 (by omega) (by omega)]; omega
    · rw [show kw 8 = 67108864 from rfl] at ei; simp only [Nat.reduceAdd] at en o; rw [ei, en, o 0 (by omega) (by omega), o 1 (by omega) (by omega), o 2 (by omega) (by omega), o 3 (by omega) (by omega), o 4 (by omega) (by omega), o 5 (by omega) (by omega), o 6 (by omega) (by omega), o 7 (by omega) (by omega)]; omega
theorem crR_mod (h : Nat → Int) (n : Nat) : ∃ k : Int, VL (crR h n) = VL h - k * 57896044618658097711785492504343953926634992332820282019728792003956564819949 := by
  induction n with
  | zero => exact ⟨0, by simp [crR]⟩
  | succ n ih =>
    obtain ⟨k, hk⟩ := ih
    obtain ⟨j, hj⟩ := crS_mod (crR h n) (n % 10) (Nat.mod_lt _ (by omega))
    refine ⟨k + j, ?_⟩
    show VL (crS (crR h n) (n % 10)) = _
    rw [hj, hk]
    omega

/-! ### Bounds -/
/-- What a carry leaves and hands on. -/
theorem crC_bd (h : Nat → Int) (i : Nat) (B : Int) (hB : -B ≤ h i ∧ h i ≤ B) : -kh i ≤ h i - crC h i * kw i ∧ h i - crC h i * kw i ≤ kh i ∧ -(B / 33554432 + 1) ≤ crC h i ∧ crC h i ≤ B / 33554432 + 1 := by
  unfold crC
  rcases kw_cases i with ⟨_, e1, e2⟩ | ⟨_, e1, e2⟩
  · rw [e1, e2]; omega
  · rw [e1, e2]; omega
/-- The first pass: limbs below i are small, the others no greater than they may come in. -/
theorem pass1 (h : Nat → Int) (hM : ∀ q, q < 10 → -7205759403792793600 ≤ h q ∧ h q ≤ 7205759403792793600) (i : Nat) (hi : i ≤ 9) :
    (∀ q, q < i → -kh q ≤ crR h i q ∧ crR h i q ≤ kh q) ∧ (-7205759953548607488 ≤ crR h i i ∧ crR h i i ≤ 7205759953548607488) ∧ (∀ q, i < q → q < 10 → -7205759403792793600 ≤ crR h i q ∧ crR h i q ≤ 7205759403792793600) := by
  induction i with
  | zero => exact ⟨fun q hq => absurd hq (by omega), by have := hM 0 (by omega); exact ⟨by show _ ≤ h 0; omega, by show h 0 ≤ _; omega⟩, fun q _ hq => hM q hq⟩
  | succ i ih =>
    obtain ⟨h1, h2, h3⟩ := ih (by omega)
    have hm : i % 10 = i := by omega
    have e : crR h (i + 1) = crS (crR h i) i := by show crS (crR h i) (i % 10) = _; rw [hm]
    obtain ⟨b1, b2, b3, b4⟩ := crC_bd (crR h i) i _ h2
    refine ⟨?_, ?_, ?_⟩
    · intro q hq
      rw [e]
      by_cases hqi : q = i
      · subst hqi; rw [crS_at]; exact ⟨b1, b2⟩
      · rw [crS_other _ _ _ hqi (by omega) (by omega)]; exact h1 q (by omega)
    · rw [e, crS_next _ _ (by omega)]
      have := h3 (i + 1) (by omega) (by omega)
      omega
    · intro q hq hq10
      rw [e, crS_other _ _ _ (by omega) (by omega) (by omega)]
      exact h3 q (by omega) hq10
theorem pass1_end (h : Nat → Int) (hM : ∀ q, q < 10 → -7205759403792793600 ≤ h q ∧ h q ≤ 7205759403792793600) :
    (-10445394018304 ≤ crR h 10 0 ∧ crR h 10 0 ≤ 10445394018304) ∧ ∀ q, 0 < q → q < 10 → -kh q ≤ crR h 10 q ∧ crR h 10 q ≤ kh q := by
  obtain ⟨h1, h2, _⟩ := pass1 h hM 9 (by omega)
  have e : crR h 10 = crS (crR h 9) 9 := rfl
  obtain ⟨b1, b2, b3, b4⟩ := crC_bd (crR h 9) 9 _ h2
  refine ⟨?_, ?_⟩
  · rw [e, crS_first]
    have := h1 0 (by omega)
    have k0 : kh 0 = 33554432 := rfl
    rw [k0] at this
    omega
  · intro q h0 hq
    rw [e]
    by_cases hq9 : q = 9
    · subst hq9; rw [crS_at]; exact ⟨b1, b2⟩
    · rw [crS_other _ _ _ hq9 (by omega) (by omega)]; exact h1 q (by omega)
theorem kh_le (q : Nat) : kh q ≤ 33554432 ∧ 16777216 ≤ kh q := by rcases kw_cases q with ⟨_, _, e⟩ | ⟨_, _, e⟩ <;> rw [e] <;> omega
/-- The second pass. -/
theorem pass2 (h : Nat → Int) (hM : ∀ q, q < 10 → -7205759403792793600 ≤ h q ∧ h q ≤ 7205759403792793600) (i : Nat) (h0 : 0 < i) (hi : i ≤ 9) :
    (∀ q, q < i → -kh q ≤ crR h (10 + i) q ∧ crR h (10 + i) q ≤ kh q) ∧ (-33816576 ≤ crR h (10 + i) i ∧ crR h (10 + i) i ≤ 33816576) ∧ (∀ q, i < q → q < 10 → -kh q ≤ crR h (10 + i) q ∧ crR h (10 + i) q ≤ kh q) := by
  obtain ⟨⟨a1, a2⟩, a3⟩ := pass1_end h hM
  induction i with
  | zero => omega
  | succ i ih =>
    have hm : (10 + i) % 10 = i := by omega
    have e : crR h (10 + (i + 1)) = crS (crR h (10 + i)) i := by show crS (crR h (10 + i)) ((10 + i) % 10) = _; rw [hm]
    by_cases hz : i = 0
    · subst hz
      obtain ⟨b1, b2, b3, b4⟩ := crC_bd (crR h 10) 0 _ ⟨a1, a2⟩
      have b3' : -262144 ≤ crC (crR h 10) 0 ∧ crC (crR h 10) 0 ≤ 262144 := by
        unfold crC
        rw [show kw 0 = 67108864 from rfl, show kh 0 = 33554432 from rfl]
        omega
      refine ⟨?_, ?_, ?_⟩
      · intro q hq
        obtain rfl : q = 0 := by omega
        rw [e]; show _ ≤ crS (crR h 10) 0 0 ∧ crS (crR h 10) 0 0 ≤ _
        rw [crS_at]; exact ⟨b1, b2⟩
      · rw [e]; show _ ≤ crS (crR h 10) 0 1 ∧ crS (crR h 10) 0 1 ≤ _
        rw [crS_next _ _ (by omega)]
        have := a3 1 (by omega) (by omega)
        rw [show kh 1 = 16777216 from rfl] at this
        simp only [Nat.zero_add] at *
        omega
      · intro q hq hq10
        rw [e]; show _ ≤ crS (crR h 10) 0 q ∧ crS (crR h 10) 0 q ≤ _
        rw [crS_other _ _ _ (by omega) (by omega) (by omega)]
        exact a3 q (by omega) hq10
    · obtain ⟨h1, h2, h3⟩ := ih (by omega) (by omega)
      obtain ⟨b1, b2, b3, b4⟩ := crC_bd (crR h (10 + i)) i _ h2
      refine ⟨?_, ?_, ?_⟩
      · intro q hq
        rw [e]
        by_cases hqi : q = i
        · subst hqi; rw [crS_at]; exact ⟨b1, b2⟩
        · rw [crS_other _ _ _ hqi (by omega) (by omega)]; exact h1 q (by omega)
      · rw [e, crS_next _ _ (by omega)]
        have := h3 (i + 1) (by omega) (by omega)
        have := kh_le (i + 1)
        omega
      · intro q hq hq10
        rw [e, crS_other _ _ _ (by omega) (by omega) (by omega)]
        exact h3 q (by omega) hq10
/-- What stands in a carried number. -/
def Low (g : Nat → Int) : Prop := (-33554532 ≤ g 0 ∧ g 0 ≤ 33554532) ∧ ∀ q, 0 < q → q < 10 → -kh q ≤ g q ∧ g q ≤ kh q
theorem carried (h : Nat → Int) (hM : ∀ q, q < 10 → -7205759403792793600 ≤ h q ∧ h q ≤ 7205759403792793600) : Low (crR h 20) := by
  obtain ⟨h1, h2, _⟩ := pass2 h hM 9 (by omega) (by omega)
  have e : crR h 20 = crS (crR h 19) 9 := rfl
  obtain ⟨b1, b2, b3, b4⟩ := crC_bd (crR h 19) 9 _ h2
  refine ⟨?_, ?_⟩
  · rw [e, crS_first]
    have := h1 0 (by omega)
    have k0 : kh 0 = 33554432 := rfl
    rw [k0] at this
    simp only [Nat.reduceAdd] at this
    omega
  · intro q h0 hq
    rw [e]
    by_cases hq9 : q = 9
    · subst hq9; rw [crS_at]; exact ⟨b1, b2⟩
    · rw [crS_other _ _ _ hq9 (by omega) (by omega)]; exact h1 q (by omega)
/-- No step of the carries leaves the kind's range. -/
theorem crR_bd (h : Nat → Int) (hM : ∀ q, q < 10 → -7205759403792793600 ≤ h q ∧ h q ≤ 7205759403792793600) (n : Nat) (hn : n < 20) : (∀ q, q < 10 → -7205759953548607488 ≤ crR h n q ∧ crR h n q ≤ 7205759953548607488) ∧ -549755813888 ≤ crC (crR h n) (n % 10) ∧ crC (crR h n) (n % 10) ≤ 549755813888 := by
  have all : ∀ q, q < 10 → -7205759953548607488 ≤ crR h n q ∧ crR h n q ≤ 7205759953548607488 := by
    intro q hq
    have hk := kh_le q
    by_cases h10 : n < 10
    · obtain ⟨h1, h2, h3⟩ := pass1 h hM n (by omega)
      rcases Nat.lt_trichotomy q n with c | c | c
      · have := h1 q c; omega
      · subst c; exact h2
      · have := h3 q c hq; omega
    · by_cases hz : n = 10
      · subst hz
        obtain ⟨a1, a3⟩ := pass1_end h hM
        by_cases c : q = 0
        · subst c; omega
        · have := a3 q (by omega) hq; omega
      · obtain ⟨i, rfl⟩ : ∃ i, n = 10 + i := ⟨n - 10, by omega⟩
        obtain ⟨h1, h2, h3⟩ := pass2 h hM i (by omega) (by omega)
        rcases Nat.lt_trichotomy q i with c | c | c
        · have := h1 q c; omega
        · subst c; omega
        · have := h3 q c hq; omega
  refine ⟨all, ?_⟩
  obtain ⟨_, _, b3, b4⟩ := crC_bd (crR h n) (n % 10) _ (all (n % 10) (Nat.mod_lt _ (by omega)))
  omega

end Go.My

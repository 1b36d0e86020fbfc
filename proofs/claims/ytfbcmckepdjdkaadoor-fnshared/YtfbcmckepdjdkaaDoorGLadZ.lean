/- The ladder with 0 and with 1: noughts; clamped numbers; the highest bit. -/
import Derived.Test.YtfbcmckepdjdkaaDoorGM5
import Derived.Test.YtfbcmckepdjdkaaDoorGM4
namespace Go.Proofs.YtfbcmckepdjdkaaDoor
open Go.RowKit Go.My Go.Lib
set_option linter.unusedVariables false

theorem fSb_self (x : Nat) (h : x < P25n) : fSb x x = 0 := by unfold fSb; rw [show x + (P25n - x) = P25n by omega, Nat.mod_self]
theorem fMu_zl (x : Nat) : fMu 0 x = 0 := by unfold fMu; rw [Nat.zero_mul]; rfl
theorem fMu_zr (x : Nat) : fMu x 0 = 0 := by unfold fMu; rw [Nat.mul_zero]; rfl
theorem fAd_zr (x : Nat) (h : x < P25n) : fAd x 0 = x := Nat.mod_eq_of_lt h
theorem fAd_zl (x : Nat) (h : x < P25n) : fAd 0 x = x := by unfold fAd; rw [Nat.zero_add]; exact Nat.mod_eq_of_lt h
theorem fSb_zr (x : Nat) (h : x < P25n) : fSb x 0 = x := by unfold fSb; rw [Nat.sub_zero, Nat.add_mod_right]; exact Nat.mod_eq_of_lt h
theorem fSq_opp (x : Nat) (h : x < P25n) : fMu (fSb 0 x) (fSb 0 x) = fMu x x := by
  unfold fMu fSb
  rw [Nat.zero_add, ← Nat.mul_mod]
  exact opp_mul P25n x x (by omega) (by omega)
theorem fMu_opp (x y : Nat) (h : x < P25n) : fAd (fMu (fSb 0 x) y) (fMu x y) = 0 := by
  unfold fAd fMu fSb
  rw [Nat.zero_add, Nat.mod_mul_mod, ← Nat.add_mod, ← Nat.add_mul, show P25n - x + x = P25n by omega, Nat.mul_mod_right]
theorem fMu_opp2 (x y : Nat) (h : y < P25n) : fAd (fMu x y) (fMu x (fSb 0 y)) = 0 := by
  rw [fMu_comm x (fSb 0 y), fMu_comm x y]
  have := fMu_opp y x h
  unfold fAd at *
  rw [Nat.add_comm]
  exact this
/-- Twice a point with z = 0, with x = 0, with x = z. -/
theorem dbl_z (a b : Nat × Nat) (u : Nat) (ha : a.1 < P25n) (h : a.2 = 0) : (stepN a b u).1.2 = 0 := by
  unfold stepN
  simp only [h, fAd_zr _ ha, fSb_zr _ ha, fSb_self _ (fMu_lt _ _), fMu_zl]
theorem dbl_x (a b : Nat × Nat) (u : Nat) (ha : a.2 < P25n) (h : a.1 = 0) : (stepN a b u).1.2 = 0 := by
  unfold stepN
  simp only [h, fAd_zl _ ha, fSq_opp _ ha, fSb_self _ (fMu_lt _ _), fMu_zl]
theorem dbl_e (a b : Nat × Nat) (u : Nat) (ha : a.2 < P25n) (h : a.1 = a.2) : (stepN a b u).1.1 = 0 := by
  unfold stepN
  simp only [h, fSb_self _ ha, fMu_zr]
/-- The sum where one of the two has x = z, with the base 1. -/
theorem sum_e (a b : Nat × Nat) (ha : a.2 < P25n) (hb : b.2 < P25n) (h : a.1 = a.2 ∨ b.1 = b.2) : (stepN a b 1).2.1 = (stepN a b 1).2.2 := by
  have one : ∀ x, fMu 1 (fMu x x) = fMu x x := fun x => by
    rw [show fMu 1 (fMu x x) = 1 * fMu x x % P25n from rfl, Nat.one_mul]
    exact Nat.mod_eq_of_lt (fMu_lt _ _)
  unfold stepN
  rcases h with h | h
  · simp only [h, fSb_self _ ha, fMu_zr, fAd_zr _ (fMu_lt _ _), fSb_zr _ (fMu_lt _ _), one]
  · simp only [h, fSb_self _ hb, fMu_zl, fAd_zl _ (fMu_lt _ _), fSq_opp _ (fMu_lt _ _), one]
/-- The sum of one with z = 0 and one with x = 0 has x = 0. -/
theorem sum_zx (a b : Nat × Nat) (u : Nat) (ha : a.1 < P25n) (hb : b.2 < P25n) (h1 : a.2 = 0) (h2 : b.1 = 0) : (stepN a b u).2.1 = 0 := by
  unfold stepN
  simp only [h1, h2, fAd_zr _ ha, fSb_zr _ ha, fAd_zl _ hb, fMu_opp _ _ hb, fMu_zl]
theorem sum_xz (a b : Nat × Nat) (u : Nat) (ha : a.2 < P25n) (hb : b.1 < P25n) (h1 : a.1 = 0) (h2 : b.2 = 0) : (stepN a b u).2.1 = 0 := by
  unfold stepN
  simp only [h1, h2, fAd_zl _ ha, fSb_zr _ hb, fAd_zr _ hb, fMu_opp2 _ _ ha, fMu_zl]
/-- Which of these a multiple is. -/
def Cl0 (m : Nat) (a : Nat × Nat) : Prop := if m % 2 = 0 then a.2 = 0 else a.1 = 0
def Cl1 (m : Nat) (a : Nat × Nat) : Prop := if m % 2 = 1 then a.1 = a.2 else if m % 4 = 0 then a.2 = 0 else a.1 = 0
theorem pre_step (n k : Nat) (hk : k < 255) : n / 2 ^ (255 - (k + 1)) = 2 * (n / 2 ^ (255 - k)) + n / 2 ^ (254 - k) % 2 := by
  have := half n (254 - k)
  rw [show 254 - k + 1 = 255 - k by omega] at this
  rw [show 255 - (k + 1) = 254 - k by omega]
  exact this
theorem lad0_inv (n : Nat) : ∀ k, k ≤ 255 → Cl0 (n / 2 ^ (255 - k)) (ladN n 0 k).1 ∧ Cl0 (n / 2 ^ (255 - k) + 1) (ladN n 0 k).2 ∨ (n / 2 ^ 255 ≠ 0)
  | 0, _ => by
    by_cases c : n / 2 ^ 255 = 0
    · left
      rw [Nat.sub_zero, c]
      exact ⟨rfl, rfl⟩
    · exact .inr c
  | k + 1, h => by
    rcases lad0_inv n k (by omega) with ⟨h1, h2⟩ | h3
    case inr => exact .inr h3
    left
    have hl := ladN_lt n 0 (by decide) k
    rw [pre_step n k (by omega)]
    generalize hp : n / 2 ^ (255 - k) = p at *
    unfold ladN
    by_cases c : n / 2 ^ (254 - k) % 2 = 1
    · rw [if_pos c, c]
      refine ⟨?_, ?_⟩
      · unfold Cl0
        rw [if_neg (by omega)]
        unfold Cl0 at h1 h2
        by_cases e : p % 2 = 0
        · rw [if_pos e] at h1; rw [if_neg (by omega)] at h2
          exact sum_xz _ _ 0 hl.2.2.2 hl.1 h2 h1
        · rw [if_neg e] at h1; rw [if_pos (by omega)] at h2
          exact sum_zx _ _ 0 hl.2.2.1 hl.2.1 h2 h1
      · unfold Cl0
        rw [if_pos (by omega)]
        unfold Cl0 at h2
        by_cases e : (p + 1) % 2 = 0
        · rw [if_pos e] at h2; exact dbl_z (ladN n 0 k).2 (ladN n 0 k).1 0 hl.2.2.1 h2
        · rw [if_neg e] at h2; exact dbl_x (ladN n 0 k).2 (ladN n 0 k).1 0 hl.2.2.2 h2
    · rw [if_neg c, show n / 2 ^ (254 - k) % 2 = 0 by omega]
      refine ⟨?_, ?_⟩
      · unfold Cl0
        rw [if_pos (by omega)]
        unfold Cl0 at h1
        by_cases e : p % 2 = 0
        · rw [if_pos e] at h1; exact dbl_z (ladN n 0 k).1 (ladN n 0 k).2 0 hl.1 h1
        · rw [if_neg e] at h1; exact dbl_x (ladN n 0 k).1 (ladN n 0 k).2 0 hl.2.1 h1
      · unfold Cl0
        rw [if_neg (by omega)]
        unfold Cl0 at h1 h2
        by_cases e : p % 2 = 0
        · rw [if_pos e] at h1; rw [if_neg (by omega)] at h2
          exact sum_zx _ _ 0 hl.1 hl.2.2.2 h1 h2
        · rw [if_neg e] at h1; rw [if_pos (by omega)] at h2
          exact sum_xz _ _ 0 hl.2.1 hl.2.2.1 h1 h2
theorem lad1_inv (n : Nat) (hn : n / 2 ^ 255 = 0) : ∀ k, k ≤ 255 → Cl1 (n / 2 ^ (255 - k)) (ladN n 1 k).1 ∧ Cl1 (n / 2 ^ (255 - k) + 1) (ladN n 1 k).2
  | 0, _ => by
    rw [Nat.sub_zero, hn]
    exact ⟨rfl, rfl⟩
  | k + 1, h => by
    obtain ⟨h1, h2⟩ := lad1_inv n hn k (by omega)
    have hl := ladN_lt n 1 (by decide) k
    rw [pre_step n k (by omega)]
    generalize hp : n / 2 ^ (255 - k) = p at *
    have odd : (ladN n 1 k).1.1 = (ladN n 1 k).1.2 ∨ (ladN n 1 k).2.1 = (ladN n 1 k).2.2 := by
      by_cases e : p % 2 = 1
      · unfold Cl1 at h1; rw [if_pos e] at h1; exact .inl h1
      · unfold Cl1 at h2; rw [if_pos (by omega)] at h2; exact .inr h2
    have dbl : ∀ (m : Nat) (a b : Nat × Nat), a.1 < P25n → a.2 < P25n → Cl1 m a → Cl1 (2 * m) (stepN a b 1).1 := by
      intro m a b ha1 ha2 hc
      unfold Cl1 at hc ⊢
      rw [if_neg (by omega)]
      by_cases e : m % 2 = 1
      · rw [if_pos e] at hc; rw [if_neg (by omega)]; exact dbl_e a b 1 ha2 hc
      · rw [if_neg e] at hc; rw [if_pos (by omega)]
        by_cases e2 : m % 4 = 0
        · rw [if_pos e2] at hc; exact dbl_z a b 1 ha1 hc
        · rw [if_neg e2] at hc; exact dbl_x a b 1 ha2 hc
    unfold ladN
    by_cases c : n / 2 ^ (254 - k) % 2 = 1
    · rw [if_pos c, c]
      refine ⟨?_, ?_⟩
      · unfold Cl1
        rw [if_pos (by omega)]
        exact sum_e _ _ hl.2.2.2 hl.2.1 odd.symm
      · have := dbl (p + 1) (ladN n 1 k).2 (ladN n 1 k).1 hl.2.2.1 hl.2.2.2 h2
        rw [show 2 * p + 1 + 1 = 2 * (p + 1) by omega]
        exact this
    · rw [if_neg c, show n / 2 ^ (254 - k) % 2 = 0 by omega]
      refine ⟨dbl p (ladN n 1 k).1 (ladN n 1 k).2 hl.1 hl.2.1 h1, ?_⟩
      unfold Cl1
      rw [if_pos (by omega)]
      exact sum_e _ _ hl.2.1 hl.2.2.2 odd
theorem ladV_low (n : Nat) (h4 : n % 4 = 0) (hn : n / 2 ^ 255 = 0) : ladV n 0 = 0 ∧ ladV n 1 = 0 := by
  have z : ∀ x, fMu x (0 ^ E25 % P25n) = 0 := fun x => by rw [powE_zero]; exact fMu_zr x
  constructor
  · rcases lad0_inv n 255 (Nat.le_refl _) with ⟨h, _⟩ | h
    · unfold Cl0 at h
      rw [Nat.sub_self, Nat.pow_zero, Nat.div_one, if_pos (by omega)] at h
      unfold ladV
      rw [h]
      exact z _
    · exact absurd hn h
  · have h := (lad1_inv n hn 255 (Nat.le_refl _)).1
    unfold Cl1 at h
    rw [Nat.sub_self, Nat.pow_zero, Nat.div_one, if_neg (by omega), if_pos h4] at h
    unfold ladV
    rw [h]
    exact z _

/-! ### Clamped numbers -/
theorem getD_lt (l : List UInt8) (i : Nat) : (l.getD i 0).toNat < 256 := (l.getD i 0).toNat_lt
theorem clamp_parts (l : List UInt8) (h : l.length = 32) : clampL l = [UInt8.ofNat (c0 (l.getD 0 0).toNat)] ++ (l.drop 1).take 30 ++ [UInt8.ofNat (c31 (l.getD 31 0).toNat)] := set_ends l h _ _
theorem ofNat_n (x : Nat) (h : x < 256) : (UInt8.ofNat x).toNat = x := by rw [UInt8.toNat_ofNat']; omega
theorem c0_lt (x : Nat) (h : x < 256) : c0 x < 256 := by unfold c0; omega
theorem c31_lt (x : Nat) : c31 x < 128 := by unfold c31; omega
theorem clamp_n (l : List UInt8) (h : l.length = 32) : leN (clampL l) % 4 = 0 ∧ leN (clampL l) / 2 ^ 255 = 0 := by
  have hc := clamp_parts l h
  have hm := leN_lt ((l.drop 1).take 30)
  have hlm : ((l.drop 1).take 30).length = 30 := by simp; omega
  rw [hlm] at hm
  generalize (l.drop 1).take 30 = M at *
  have e : leN (clampL l) = c0 (l.getD 0 0).toNat + 256 * (leN M + 256 ^ 30 * c31 (l.getD 31 0).toNat) := by
    rw [hc, List.append_assoc, leN_append, leN_append, hlm]
    simp only [leN, List.length_singleton, Nat.pow_one, Nat.mul_zero, Nat.add_zero]
    rw [ofNat_n _ (c0_lt _ (getD_lt l 0)), ofNat_n _ (by have := c31_lt (l.getD 31 0).toNat; omega)]
  have h0 := c0_lt _ (getD_lt l 0)
  have h31 := c31_lt (l.getD 31 0).toNat
  have hz : c0 (l.getD 0 0).toNat % 8 = 0 := by unfold c0; omega
  rw [e]
  generalize c0 (l.getD 0 0).toNat = x at *
  generalize c31 (l.getD 31 0).toNat = y at *
  generalize leN M = z at *
  rw [show (256 : Nat) ^ 30 = 1766847064778384329583297500742918515827483896875618958121606201292619776 by decide] at *
  rw [show (2 : Nat) ^ 255 = 57896044618658097711785492504343953926634992332820282019728792003956564819968 by decide]
  omega
theorem clamp_twice (l : List UInt8) (h : l.length = 32) : clampL (clampL l) = clampL l := by
  have g0 : (clampL l).getD 0 0 = UInt8.ofNat (c0 (l.getD 0 0).toNat) := by rw [clamp_parts l h]; rfl
  have g31 : (clampL l).getD 31 0 = UInt8.ofNat (c31 (l.getD 31 0).toNat) := by unfold clampL; simp [h]
  have x0 : c0 (c0 (l.getD 0 0).toNat) = c0 (l.getD 0 0).toNat := by unfold c0; omega
  have x31 : c31 (c31 (l.getD 31 0).toNat) = c31 (l.getD 31 0).toNat := by unfold c31; omega
  have e : clampL (clampL l) = ((clampL l).set 0 (UInt8.ofNat (c0 ((clampL l).getD 0 0).toNat))).set 31 (UInt8.ofNat (c31 ((clampL l).getD 31 0).toNat)) := rfl
  rw [e, g0, g31, ofNat_n _ (c0_lt _ (getD_lt l 0)), ofNat_n _ (by have := c31_lt (l.getD 31 0).toNat; omega), x0, x31, ← g0, ← g31]
  apply List.ext_getElem?
  intro j
  have hl := clampL_len l
  by_cases c31' : j = 31
  · subst c31'; rw [List.getElem?_set_self (by simp; omega), List.getD_eq_getElem?_getD, List.getElem?_eq_getElem (by omega)]; rfl
  · rw [List.getElem?_set_ne (by omega)]
    by_cases c0' : j = 0
    · subst c0'; rw [List.getElem?_set_self (by omega), List.getD_eq_getElem?_getD, List.getElem?_eq_getElem (by omega)]; rfl
    · rw [List.getElem?_set_ne (by omega)]
theorem clampV_twice (k : ByteArray) (h : k.size = 32) : clampV (clampV k) = clampV k := by
  have h2 := (clampV_key k h).1
  rw [show clampV (clampV k) = str (clampL (clampV k).data.toList) from if_pos h2]
  rw [show clampV k = str (clampL k.data.toList) from if_pos h, str_list, clamp_twice _ (by rw [len_data]; exact h)]
theorem dh_clamped (k p : ByteArray) (h : k.size = 32) (hp : p.size = 32) : dhV (clampV k) p = dhV k p := by
  rw [dhV_pos (clampV_key k h).1 hp, dhV_pos h hp]
  rw [show (clampV k).data.toList = clampL k.data.toList from by rw [show clampV k = str (clampL k.data.toList) from if_pos h, str_list]]
  rw [clamp_twice _ (by rw [len_data]; exact h)]
theorem dh_low (k : ByteArray) (h : k.size = 32) : dhV k (str (List.replicate 32 0)) = str (List.replicate 32 0) ∧ dhV k oneS = str (List.replicate 32 0) := by
  obtain ⟨h1, h2⟩ := clamp_n k.data.toList (by rw [len_data]; exact h)
  obtain ⟨v0, v1⟩ := ladV_low _ h1 h2
  constructor
  · rw [dhV_pos h (by rw [str_size]; rfl), show leN (str (List.replicate 32 0)).data.toList % T255 % P25n = 0 by decide +kernel, v0, ← zeroS_eq]
  · rw [dhV_pos h (okS_size oneS_ok), show leN oneS.data.toList % T255 % P25n = 1 by decide +kernel, v1, ← zeroS_eq]
/-- The highest bit of the public key is passed over. -/
theorem dh_high (k b t : ByteArray) (x y : Nat) (hb : b.size = 32) (ht : t.size = 32) (hx : x < 256) (hy : y < 256) (hxy : x % 128 = y % 128) (M : List UInt8) (hM : M.length = 31) (eb : b.data.toList = M ++ [UInt8.ofNat x]) (et : t.data.toList = M ++ [UInt8.ofNat y]) : dhV k t = dhV k b := by
  have e : leN t.data.toList % T255 = leN b.data.toList % T255 := by
    have hm := leN_lt M
    rw [eb, et, leN_append, leN_append, hM]
    rw [hM] at hm
    simp only [leN, Nat.mul_zero, Nat.add_zero]
    rw [ofNat_n x hx, ofNat_n y hy]
    generalize leN M = z at *
    rw [show (256 : Nat) ^ 31 = 452312848583266388373324160190187140051835877600158453279131187530910662656 by decide] at *
    unfold T255
    omega
  unfold dhV
  rw [e]
  by_cases c : k.size = 32
  · rw [if_pos ⟨c, ht⟩, if_pos ⟨c, hb⟩]
  · rw [if_neg (fun h => c h.1), if_neg (fun h => c h.1)]

end Go.Proofs.YtfbcmckepdjdkaaDoor

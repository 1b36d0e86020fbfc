/- The ladder reckons multiples on the curve; so keys agree. -/
import Derived.Test.YtfbcmckepdjdkaaDoorGLadZ
import Derived.Test.YtfbcmckepdjdkaaDoorGEcc
namespace Go.Proofs.YtfbcmckepdjdkaaDoor
open Go.RowKit Go.My Go.Lib
open Go.My.EF (Rep)
set_option linter.unusedVariables false

theorem PP : P25n = P25 := by decide
theorem k_ad (a b : Nat) : kv (fAd a b) = kv a + kv b := by unfold fAd; rw [PP, kv_mod, kv_add]
theorem k_mu (a b : Nat) : kv (fMu a b) = kv a * kv b := by unfold fMu; rw [PP, kv_mod, kv_mul]
theorem k_sb (a b : Nat) (h : b < P25n) : kv (fSb a b) = kv a - kv b := by unfold fSb; rw [PP, kv_mod, kv_sub a b (by rw [← PP]; omega)]
/-- A step of the ladder, on the curve's field. -/
theorem k_step (a b : Nat × Nat) (u : Nat) (ha : a.1 < P25n ∧ a.2 < P25n) (hb : b.1 < P25n ∧ b.2 < P25n) :
    kv (stepN a b u).1.1 = (kv a.1 + kv a.2) * (kv a.1 + kv a.2) * ((kv a.1 - kv a.2) * (kv a.1 - kv a.2)) ∧
    kv (stepN a b u).1.2 = ((kv a.1 + kv a.2) * (kv a.1 + kv a.2) - (kv a.1 - kv a.2) * (kv a.1 - kv a.2)) * ((kv a.1 + kv a.2) * (kv a.1 + kv a.2) + ((kv a.1 + kv a.2) * (kv a.1 + kv a.2) - (kv a.1 - kv a.2) * (kv a.1 - kv a.2)) * kv 121665) ∧
    kv (stepN a b u).2.1 = ((kv b.1 - kv b.2) * (kv a.1 + kv a.2) + (kv b.1 + kv b.2) * (kv a.1 - kv a.2)) * ((kv b.1 - kv b.2) * (kv a.1 + kv a.2) + (kv b.1 + kv b.2) * (kv a.1 - kv a.2)) ∧
    kv (stepN a b u).2.2 = kv u * (((kv b.1 - kv b.2) * (kv a.1 + kv a.2) - (kv b.1 + kv b.2) * (kv a.1 - kv a.2)) * ((kv b.1 - kv b.2) * (kv a.1 + kv a.2) - (kv b.1 + kv b.2) * (kv a.1 - kv a.2))) := by
  unfold stepN
  simp only [k_mu, k_ad, k_sb _ _ ha.2, k_sb _ _ hb.2, k_sb _ _ (fMu_lt _ _)]
  exact ⟨trivial, trivial, trivial, trivial⟩
theorem lad_curve (p : K25 × K25) (u n : Nat) (hp : E25f.On p) (hu : u < P25n) (hk : kv u * (1 - p.2) = 1 + p.2) (hk0 : kv u ≠ 0) (h1 : p.2 ≠ 1) (hn : n / 2 ^ 255 = 0) :
    ∀ k, k ≤ 255 → Rep (kv (ladN n u k).1.1) (kv (ladN n u k).1.2) (E25f.mul (n / 2 ^ (255 - k)) p).2 ∧ Rep (kv (ladN n u k).2.1) (kv (ladN n u k).2.2) (E25f.mul (n / 2 ^ (255 - k) + 1) p).2
  | 0, _ => by
    rw [Nat.sub_zero, hn]
    refine ⟨?_, ?_⟩
    · show Rep (kv 1) (kv 0) (E25f.mul 0 p).2
      rw [kv_one, kv_zero]
      exact E25f.rep0
    · show Rep (kv u) (kv 1) (E25f.mul 1 p).2
      rw [E25f.mul_one, kv_one]
      exact E25f.rep1 hk
  | k + 1, h => by
    obtain ⟨i1, i2⟩ := lad_curve p u n hp hu hk hk0 h1 hn k (by omega)
    have hl := ladN_lt n u hu k
    rw [pre_step n k (by omega)]
    generalize n / 2 ^ (255 - k) = m at *
    have o1 := E25f.on_mul hp m
    have o2 := E25f.on_mul hp (m + 1)
    unfold ladN
    by_cases c : n / 2 ^ (254 - k) % 2 = 1
    · rw [if_pos c, c]
      obtain ⟨s1, s2, s3, s4⟩ := k_step (ladN n u k).2 (ladN n u k).1 u ⟨hl.2.2.1, hl.2.2.2⟩ ⟨hl.1, hl.2.1⟩
      refine ⟨?_, ?_⟩
      · rw [show (stepN (ladN n u k).2 (ladN n u k).1 u).2 = ((stepN (ladN n u k).2 (ladN n u k).1 u).2.1, (stepN (ladN n u k).2 (ladN n u k).1 u).2.2) from rfl]
        show Rep (kv (stepN (ladN n u k).2 (ladN n u k).1 u).2.1) (kv (stepN (ladN n u k).2 (ladN n u k).1 u).2.2) _
        rw [s3, s4]
        have := E25f.sum_rep o2 o1 (E25f.mul_diff hp m) i2 i1 hk hk0 h1
        rw [← E25f.mul_add hp (m + 1) m, show m + 1 + m = 2 * m + 1 by omega] at this
        exact this
      · show Rep (kv (stepN (ladN n u k).2 (ladN n u k).1 u).1.1) (kv (stepN (ladN n u k).2 (ladN n u k).1 u).1.2) _
        rw [s1, s2]
        have := E25f.dbl_rep o2 i2
        rw [← E25f.mul_add hp (m + 1) (m + 1), show m + 1 + (m + 1) = 2 * m + 1 + 1 by omega] at this
        exact this
    · rw [if_neg c, show n / 2 ^ (254 - k) % 2 = 0 by omega, Nat.add_zero]
      obtain ⟨s1, s2, s3, s4⟩ := k_step (ladN n u k).1 (ladN n u k).2 u ⟨hl.1, hl.2.1⟩ ⟨hl.2.2.1, hl.2.2.2⟩
      refine ⟨?_, ?_⟩
      · rw [s1, s2]
        have := E25f.dbl_rep o1 i1
        rw [← E25f.mul_add hp m m, show m + m = 2 * m by omega] at this
        exact this
      · rw [s3, s4]
        have := E25f.sum_rep o1 o2 (E25f.mul_diff' hp m) i1 i2 hk hk0 h1
        rw [← E25f.mul_add hp m (m + 1), show m + (m + 1) = 2 * m + 1 by omega] at this
        exact this
theorem ladV_U (p : K25 × K25) (u n : Nat) (hp : E25f.On p) (hu : u < P25n) (hk : kv u * (1 - p.2) = 1 + p.2) (hk0 : kv u ≠ 0) (h1 : p.2 ≠ 1) (hn : n / 2 ^ 255 = 0) : kv (ladV n u) = E25f.U (E25f.mul n p) := by
  have h := (lad_curve p u n hp hu hk hk0 h1 hn 255 (Nat.le_refl _)).1
  rw [Nat.sub_self, Nat.pow_zero, Nat.div_one] at h
  rw [← E25f.rep_U h]
  unfold ladV
  rw [k_mu, PP, show E25 = EX from by decide, ← invK_kv]
  rfl
/-- The number of a point, whatever point. -/
theorem ladV_pt (p : K25 × K25) (u n : Nat) (hp : E25f.On p) (hu : u < P25n) (hk : kv u = E25f.U p) (h4 : n % 4 = 0) (hn : n / 2 ^ 255 = 0) : kv (ladV n u) = E25f.U (E25f.mul n p) := by
  by_cases c : E25f.U p = 0
  · have hu0 : u = 0 := by rw [c, ← kv_zero] at hk; exact kv_inj (by rw [← PP]; exact hu) (by decide) hk
    rw [hu0, (ladV_low n h4 hn).1, kv_zero]
    have hs := E25f.U_small.1 c
    rw [show n = 2 * (n / 2) by omega, E25f.twice_small hp hs, E25f.U_zero]
  · have h1 : p.2 ≠ 1 := E25f.U_ne c
    exact ladV_U p u n hp hu (by rw [hk]; exact E25f.U_frac h1) (by rw [hk]; exact c) h1 hn
theorem G_U : kv 9 = E25f.U G25 := by
  have h1 : G25.2 ≠ 1 := by
    show kv Gy ≠ 1
    rw [← kv_one]
    exact kvn (by decide)
  exact E25f.U_eq h1 G_u
/-- Two keys, and three. -/
theorem lad_two (a b : Nat) (ha : a % 4 = 0) (ha2 : a / 2 ^ 255 = 0) (hb : b % 4 = 0) (hb2 : b / 2 ^ 255 = 0) (u : Nat) (p : K25 × K25) (hp : E25f.On p) (hu : u < P25n) (hk : kv u = E25f.U p) : ladV a (ladV b u) = ladV b (ladV a u) := by
  have h1 := ladV_pt (E25f.mul b p) (ladV b u) a (E25f.on_mul hp b) (ladV_lt _ _) (ladV_pt p u b hp hu hk hb hb2) ha ha2
  have h2 := ladV_pt (E25f.mul a p) (ladV a u) b (E25f.on_mul hp a) (ladV_lt _ _) (ladV_pt p u a hp hu hk ha ha2) hb hb2
  rw [E25f.mul_comm hp] at h1
  exact kv_inj (by rw [← PP]; exact ladV_lt _ _) (by rw [← PP]; exact ladV_lt _ _) (h1.trans h2.symm)
/-- A public key's string is its number's; a secret of a secret. -/
theorem dh_of (k p : ByteArray) (N : Nat) (hk : k.size = 32) (hN : N < P25n) (e : p = str (leB N 32)) : dhV k p = str (leB (ladV (leN (clampL k.data.toList)) N) 32) := by
  have hs : p.size = 32 := by rw [e, str_size, leB_len]
  have hn := leS_n N hN
  rw [dhV_pos hk hs, e]
  rw [show leN (str (leB N 32)).data.toList = N from hn]
  rw [Nat.mod_eq_of_lt (show N < T255 by unfold T255; unfold P25n at hN; omega), Nat.mod_eq_of_lt hN]
theorem pub_of (k : ByteArray) (hk : k.size = 32) : dhV k nineS = str (leB (ladV (leN (clampL k.data.toList)) 9) 32) := dh_of k nineS 9 hk (by decide) rfl
theorem dh_same (a b : ByteArray) (ha : a.size = 32) (hb : b.size = 32) : dhV a (dhV b nineS) = dhV b (dhV a nineS) := by
  obtain ⟨a4, a2⟩ := clamp_n a.data.toList (by rw [len_data]; exact ha)
  obtain ⟨b4, b2⟩ := clamp_n b.data.toList (by rw [len_data]; exact hb)
  rw [dh_of a _ _ ha (ladV_lt _ _) (pub_of b hb), dh_of b _ _ hb (ladV_lt _ _) (pub_of a ha), lad_two _ _ a4 a2 b4 b2 9 G25 G_on (by decide) G_U]
theorem dh_three (a b c : ByteArray) (ha : a.size = 32) (hb : b.size = 32) (hc : c.size = 32) : dhV a (dhV b (dhV c nineS)) = dhV b (dhV a (dhV c nineS)) := by
  obtain ⟨a4, a2⟩ := clamp_n a.data.toList (by rw [len_data]; exact ha)
  obtain ⟨b4, b2⟩ := clamp_n b.data.toList (by rw [len_data]; exact hb)
  obtain ⟨c4, c2⟩ := clamp_n c.data.toList (by rw [len_data]; exact hc)
  rw [pub_of c hc]
  have e1 := dh_of b (str (leB (ladV (leN (clampL c.data.toList)) 9) 32)) _ hb (ladV_lt _ _) rfl
  have e2 := dh_of a (str (leB (ladV (leN (clampL c.data.toList)) 9) 32)) _ ha (ladV_lt _ _) rfl
  rw [dh_of a _ _ ha (ladV_lt _ _) e1, dh_of b _ _ hb (ladV_lt _ _) e2]
  rw [lad_two _ _ a4 a2 b4 b2 _ (E25f.mul (leN (clampL c.data.toList)) G25) (E25f.on_mul G_on _) (ladV_lt _ _) (ladV_pt G25 9 _ G_on (by decide) G_U c4 c2)]

end Go.Proofs.YtfbcmckepdjdkaaDoor

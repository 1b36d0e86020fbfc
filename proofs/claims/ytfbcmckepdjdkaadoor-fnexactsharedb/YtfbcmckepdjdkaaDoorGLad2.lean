/- The specification's ladder. -/
import Derived.Test.YtfbcmckepdjdkaaDoorGLim9
import Derived.Test.YtfbcmckepdjdkaaDoorGLad1
namespace Go.Proofs.YtfbcmckepdjdkaaDoor
open Go.RowKit Go.My Go.Lib
set_option linter.unusedVariables false

/-- Limbs of 2^26 at most. -/
def Hf (a : Nat → Int) : Prop := ∀ q, q < 10 → -67108864 ≤ a q ∧ a q ≤ 67108864
theorem Hf.add {a b : Nat → Int} (ha : Hf a) (hb : Hf b) : Mid (fun q => a q + b q) := fun q hq => by have := ha q hq; have := hb q hq; simp only; omega
theorem Hf.sub {a b : Nat → Int} (ha : Hf a) (hb : Hf b) : Mid (fun q => a q - b q) := fun q hq => by have := ha q hq; have := hb q hq; simp only; omega
theorem Hf.mid {a : Nat → Int} (ha : Hf a) : Mid a := fun q hq => by have := ha q hq; omega
theorem lowHf {a : Nat → Int} (h : Low a) : Hf a := fun q hq => by
  by_cases c : q = 0
  · subst c; have := h.1; omega
  · have := h.2 q (by omega) hq
    rcases kw_cases q with ⟨_, _, e⟩ | ⟨_, _, e⟩ <;> rw [e] at this <;> omega
theorem dig_hf (n : Nat) : Hf (digZ n) := fun q _ => by have := dig_lt n q; unfold digZ; omega
def cF (q : Nat) : Int := if q = 0 then 121665 else 0
theorem cF_mid : Mid cF := fun q _ => by unfold cF; split <;> omega
theorem cF_rN : rN cF = 121665 := by decide +kernel
def zF (_ : Nat) : Int := 0
theorem rN_addL (a b : Nat → Int) : rN (fun q => a q + b q) = fAd (rN a) (rN b) := by
  have e : VL (fun q => a q + b q) = VL a + VL b := by unfold VL; simp only [Int.add_mul]; omega
  have h1 := rN_cast (fun q => a q + b q)
  rw [e, Int.add_emod, ← rN_cast, ← rN_cast] at h1
  unfold fAd P25n
  omega
theorem rN_subL (a b : Nat → Int) : rN (fun q => a q - b q) = fSb (rN a) (rN b) := by
  have e : VL (fun q => a q - b q) = VL a - VL b := by unfold VL; simp only [Int.sub_mul]; omega
  have h1 := rN_cast (fun q => a q - b q)
  rw [e, Int.sub_emod, ← rN_cast, ← rN_cast] at h1
  have := rN_lt b
  unfold fSb
  unfold P25n at *
  omega
theorem rN_prodL (a b : Nat → Int) : rN (mulL a b) = fMu (rN a) (rN b) := rN_prod a b
theorem fMu_comm (a b : Nat) : fMu a b = fMu b a := by unfold fMu; rw [Nat.mul_comm]
theorem lpow_mid (a : Nat → Int) (ha : Mid a) : ∀ k, Mid (lpow a k)
  | 0 => oneF_mid
  | k + 1 => by
    have ih := lpow_mid a ha k
    unfold lpow
    split
    · exact (mulL_low _ _ ih ih).mid
    · exact (mulL_low _ _ (mulL_low _ _ ih ih).mid ha).mid
theorem lpow_rN (a : Nat → Int) : ∀ k, k ≤ 255 → rN (lpow a k) = rN a ^ (E25 / 2 ^ (255 - k)) % P25n
  | 0, _ => by
    rw [show E25 / 2 ^ (255 - 0) = 0 by decide +kernel, Nat.pow_zero]
    show rN oneF = _
    rw [oneF_rN]
    decide +kernel
  | k + 1, h => by
    have ih := lpow_rN a k (by omega)
    obtain ⟨m, hm⟩ : ∃ m, 254 - k = m := ⟨_, rfl⟩
    rw [show 255 - k = m + 1 by omega] at ih
    rw [show 255 - (k + 1) = m by omega]
    have hh := half E25 m
    have hb := e_bit m (by omega)
    unfold lpow
    rw [hm]
    by_cases c : m = 2 ∨ m = 4
    · rw [if_pos c, rN_prod, ih, sq_mod, hh]
      rw [if_pos c] at hb
      rw [hb]
      rfl
    · rw [if_neg c, rN_prod, rN_prod, ih, sq_mod, sm_mod, hh]
      rw [if_neg c] at hb
      rw [hb]
theorem lpow_all (a : Nat → Int) : rN (lpow a 255) = rN a ^ E25 % P25n := by
  have := lpow_rN a 255 (Nat.le_refl _)
  rw [Nat.sub_self, Nat.pow_zero, Nat.div_one] at this
  exact this
theorem mid62 {a : Nat → Int} (h : Mid a) : (∀ q, q < 10 → -4611686018427387904 ≤ a q ∧ a q ≤ 4611686018427387903) ∧ (∀ q, q < 10 → -4611686018427387903 ≤ a q ∧ a q ≤ 4611686018427387903) :=
  ⟨fun q hq => by have := h q hq; omega, fun q hq => by have := h q hq; omega⟩
theorem lAdd_c (a b c : Nat → Int) (w : World) (hc : c = fun q => a q + b q) (ha : Mid a) (hb : Mid b) : Calls Tryd.prog 171 [Value.agg (rwA .i64 10 a), Value.agg (rwA .i64 10 b)].toArray w fun e w' => e = .returned (.agg (rwA .i64 10 c)) ∧ Below w.heap.size w w' := by
  rw [hc]; exact ladd_any a b w (mid62 ha).1 (mid62 hb).2
theorem lSub_c (a b c : Nat → Int) (w : World) (hc : c = fun q => a q - b q) (ha : Mid a) (hb : Mid b) : Calls Tryd.prog 172 [Value.agg (rwA .i64 10 a), Value.agg (rwA .i64 10 b)].toArray w fun e w' => e = .returned (.agg (rwA .i64 10 c)) ∧ Below w.heap.size w w' := by
  rw [hc]; exact lsub_any a b w (mid62 ha).1 (mid62 hb).2
theorem lMul_c (a b c : Nat → Int) (w : World) (hc : c = mulL a b) (ha : Mid a) (hb : Mid b) : Calls Tryd.prog 173 [Value.agg (rwA .i64 10 a), Value.agg (rwA .i64 10 b)].toArray w fun e w' => e = .returned (.agg (rwA .i64 10 c)) ∧ Below w.heap.size w w' := by
  rw [hc]; exact mulL_any a b w ha hb
theorem lPow_c (a c : Nat → Int) (w : World) (hc : c = lpow a 255) (ha : Mid a) : Calls Tryd.prog 174 [Value.agg (rwA .i64 10 a)].toArray w fun e w' => e = .returned (.agg (rwA .i64 10 c)) ∧ Below w.heap.size w w' := by
  rw [hc]; exact (power_val a w ha).mono fun e w' h => h.1
theorem cfLadd (args : Array Value) (w : World) : (callFunc 171 args).run Tryd.prog w = .ok (.enter 171 args) w := cf_of Tryd.func171 (by kernel_rfl) (by kernel_rfl) args w
theorem cfLsub (args : Array Value) (w : World) : (callFunc 172 args).run Tryd.prog w = .ok (.enter 172 args) w := cf_of Tryd.func172 (by kernel_rfl) (by kernel_rfl) args w
theorem cfLmul (args : Array Value) (w : World) : (callFunc 173 args).run Tryd.prog w = .ok (.enter 173 args) w := cf_of Tryd.func173 (by kernel_rfl) (by kernel_rfl) args w
theorem cfLpow (args : Array Value) (w : World) : (callFunc 174 args).run Tryd.prog w = .ok (.enter 174 args) w := cf_of Tryd.func174 (by kernel_rfl) (by kernel_rfl) args w
theorem alL (w : World) : (Instr.alloc 134 true (.tuple #[])).run Tryd.prog w = .ok (.pointer (some ⟨w.heap.size, 0, none⟩)) (w.alloc (.cells Z10 134)) := by kernel_rfl
theorem bOne (w : World) : (Instr.build 134 #[(0, .int .i64 1)]).run Tryd.prog w = .ok (.agg (rwA .i64 10 oneF)) w := by kernel_rfl
theorem bCF (w : World) : (Instr.build 134 #[(0, .int .i64 121665)]).run Tryd.prog w = .ok (.agg (rwA .i64 10 cF)) w := by kernel_rfl
theorem l10ld {g : Nat} {f : Nat → Int} {w : World} (h : Blk g (rwA .i64 10 f) 134 w) : (Instr.loadAt 134 (.pointer (some ⟨g, 0, none⟩))).run Tryd.prog w = .ok (.agg (rwA .i64 10 f)) w := by
  have hr : w.rangeAt g 0 (rwA .i64 10 f).toList := fun j v hv => by
    rw [Nat.zero_add, cell_of_row _ _ _ _ _ _ h]
    simpa using hv
  have := run_loadAt_mid (P := Tryd.prog) w g 0 134 (rwA .i64 10 f).toList (.array 10 2) hr Tryd.underlying134 rfl (by rw [Array.length_toList]; exact l10sz f)
  rw [Array.toArray_toList] at this
  exact this
structure NeL (g3 g4 g5 g6 g7 g8 : Nat) : Prop where
  g3g4 : g3 ≠ g4
  g3g5 : g3 ≠ g5
  g3g6 : g3 ≠ g6
  g3g7 : g3 ≠ g7
  g3g8 : g3 ≠ g8
  g4g3 : g4 ≠ g3
  g4g5 : g4 ≠ g5
  g4g6 : g4 ≠ g6
  g4g7 : g4 ≠ g7
  g4g8 : g4 ≠ g8
  g5g3 : g5 ≠ g3
  g5g4 : g5 ≠ g4
  g5g6 : g5 ≠ g6
  g5g7 : g5 ≠ g7
  g5g8 : g5 ≠ g8
  g6g3 : g6 ≠ g3
  g6g4 : g6 ≠ g4
  g6g5 : g6 ≠ g5
  g6g7 : g6 ≠ g7
  g6g8 : g6 ≠ g8
  g7g3 : g7 ≠ g3
  g7g4 : g7 ≠ g4
  g7g5 : g7 ≠ g5
  g7g6 : g7 ≠ g6
  g7g8 : g7 ≠ g8
  g8g3 : g8 ≠ g3
  g8g4 : g8 ≠ g4
  g8g5 : g8 ≠ g5
  g8g6 : g8 ≠ g6
  g8g7 : g8 ≠ g7

/-- The two points in the order that the last bit has left them. -/
def LadRel (L : Nat) (st : (Nat × Nat) × (Nat × Nat)) (x2 z2 x3 z3 : Nat → Int) : Prop :=
  if L = 1 then (rN x2, rN z2) = st.2 ∧ (rN x3, rN z3) = st.1 else (rN x2, rN z2) = st.1 ∧ (rN x3, rN z3) = st.2
theorem one_l10' : #[Value.int .i64 1, Value.int .i64 0, Value.int .i64 0, Value.int .i64 0, Value.int .i64 0, Value.int .i64 0, Value.int .i64 0, Value.int .i64 0, Value.int .i64 0, Value.int .i64 0] = rwA .i64 10 oneF := rfl
theorem oneF_hf : Hf oneF := fun q _ => by unfold oneF; split <;> omega
theorem zF_hf : Hf zF := fun q _ => by unfold zF; omega
theorem zF_rN : rN zF = 0 := by decide +kernel
def PostL (n : Nat) (x : Nat → Int) (w : World) (e : Ending) (w' : World) : Prop := ∃ o : Nat → Int, e = .returned (.agg (rwA .i64 10 o)) ∧ Mid o ∧ rN o = ladV n (rN x) ∧ Below w.heap.size w w'

set_option maxRecDepth 100000 in
set_option maxHeartbeats 16000000 in
theorem ladL_any (key : ByteArray) (x : Nat → Int) (w : World) (hk : key.size = 32) (hx : Hf x) :
    Calls Tryd.prog 128 #[.string key, .agg (rwA .i64 10 x)] w fun e w' => ∃ o : Nat → Int, e = .returned (.agg (rwA .i64 10 o)) ∧ Mid o ∧ rN o = ladV (leN key.data.toList) (rN x) ∧ Below w.heap.size w w' := by
  have hk1 : (key.size : Int) = 32 := by omega
  have HK := Lib.hid hk
  have Fx := Lib.hid hx
  have Mx := Lib.hid hx.mid
  have McF := Lib.hid cF_mid
  obtain ⟨n, hn⟩ : ∃ n, n = leN key.data.toList := ⟨_, rfl⟩
  rw [← hn]
  have HKN := Lib.hid hn
  clear hk hx hn
  have HPO := Lib.hid (show ∀ (e : Ending) (w' : World), PostL n x w e w' → (∃ o : Nat → Int, e = .returned (.agg (rwA .i64 10 o)) ∧ Mid o ∧ rN o = ladV n (rN x) ∧ Below w.heap.size w w') from fun e w' h => h)
  refine Calls.mono (R := PostL n x w) ?_ HPO.out
  go_enter Tryd.func128, Tryd.ntmps128
  go_upto_region 3 with (fail)
  have HZ : Hid (∀ T, Obj.cells Z10 T (0, 0) = Obj.cells (rwA .i64 10 zF) T (0, 0)) := fun T => rfl
  have f_g3 : Blk w.heap.size (rwA .i64 10 x) 134 ((((w.alloc (.cells (rwA .i64 10 x) 134)).alloc (.cells Z10 134)).alloc (.cells (rwA .i64 10 oneF) 134)).alloc (.cells Z10 134)) := al4_0 w _ _ _ _
  have f_g4 : Blk (w.heap.size + 1) Z10 134 ((((w.alloc (.cells (rwA .i64 10 x) 134)).alloc (.cells Z10 134)).alloc (.cells (rwA .i64 10 oneF) 134)).alloc (.cells Z10 134)) := al4_1 w _ _ _ _
  have f_g5 : Blk (w.heap.size + 1 + 1) (rwA .i64 10 oneF) 134 ((((w.alloc (.cells (rwA .i64 10 x) 134)).alloc (.cells Z10 134)).alloc (.cells (rwA .i64 10 oneF) 134)).alloc (.cells Z10 134)) := al4_2 w _ _ _ _
  have f_g6 : Blk (w.heap.size + 1 + 1 + 1) (rwA .i64 10 zF) 134 ((((w.alloc (.cells (rwA .i64 10 x) 134)).alloc (.cells Z10 134)).alloc (.cells (rwA .i64 10 oneF) 134)).alloc (.cells Z10 134)) := by
    have := al4_3 w (.cells (rwA .i64 10 x) 134) (.cells Z10 134) (.cells (rwA .i64 10 oneF) 134) (.cells Z10 134)
    rw [HZ.out] at this
    exact this
  have hB : Below w.heap.size w ((((w.alloc (.cells (rwA .i64 10 x) 134)).alloc (.cells Z10 134)).alloc (.cells (rwA .i64 10 oneF) 134)).alloc (.cells Z10 134)) := ((((Below.refl _ _).alloc (Nat.le_refl _) _).alloc (by simp) _).alloc (by simp; omega) _).alloc (by simp; omega) _
  have hM : w.heap.size ≤ ((((w.alloc (.cells (rwA .i64 10 x) 134)).alloc (.cells Z10 134)).alloc (.cells (rwA .i64 10 oneF) 134)).alloc (.cells Z10 134)).heap.size := hB.size
  have HD := Lib.hid (show w.heap.size ≠ w.heap.size + 1 ∧ w.heap.size ≠ w.heap.size + 1 + 1 ∧ w.heap.size ≠ w.heap.size + 1 + 1 + 1 ∧ w.heap.size + 1 ≠ w.heap.size + 1 + 1 ∧ w.heap.size + 1 ≠ w.heap.size + 1 + 1 + 1 ∧ w.heap.size + 1 + 1 ≠ w.heap.size + 1 + 1 + 1 ∧ w.heap.size ≤ w.heap.size + 1 ∧ w.heap.size ≤ w.heap.size + 1 + 1 ∧ w.heap.size ≤ w.heap.size + 1 + 1 + 1 by omega)
  change Code.wp _ _ _ _ ((((w.alloc (.cells (rwA .i64 10 x) 134)).alloc (.cells Z10 134)).alloc (.cells (rwA .i64 10 oneF) 134)).alloc (.cells Z10 134))
  generalize ((((w.alloc (.cells (rwA .i64 10 x) 134)).alloc (.cells Z10 134)).alloc (.cells (rwA .i64 10 oneF) 134)).alloc (.cells Z10 134)) = x0 at *
  generalize w.heap.size + 1 + 1 + 1 = g6 at *
  generalize w.heap.size + 1 + 1 = g5 at *
  generalize w.heap.size + 1 = g4 at *
  obtain ⟨g3, hg3⟩ : ∃ g, g = w.heap.size := ⟨_, rfl⟩
  rw [← hg3] at f_g3 ⊢
  have HG3 := Lib.hid hg3
  clear hg3 HZ
  go_upto_region 3 with (fail)
  refine region_seq 3 (kdAt [.val (.agg (rwA .i64 10 x)), .new 134 Z10, .put 1 134 (rwA .i64 10 x)]) [some 23, some 7, none] (by decide) (by kernel_rfl) (by kernel_rfl) (by kernel_rfl) (by kernel_rfl) ?_ ?_
  · repeat refine allS ?_ ?_
    · exact all0
    · exact stepLoad (.pointer (some ⟨g3, 0, none⟩)) rfl rfl rfl rfl (src_old (by kernel_rfl) rfl) (fun w hk => l10ld (f_g3.below (hk.below (nh0 rfl))))
    · exact stepNew rfl rfl rfl rfl alL
    · exact stepPut (Z := Z10) (d := 7) (k := 23) rfl rfl rfl rfl rfl (by decide) rfl (by kernel_rfl) rfl (z10sz x) (src_new 0 (by decide) rfl rfl (by kernel_rfl)) (l10sz x) (l10one x) (uniq_of rfl)
  intro v x1 hok hk
  replace hk := hk.all
  refine wpList_nil ?_
  have v0 := okVal hok (j := 0) rfl rfl
  obtain ⟨g7, v1, k7, l7⟩ := okRowB hok (i := 2) (j := 1) rfl rfl rfl rfl
  clear hok
  simp only [putL, Nat.zero_add, v0, v1, Act.put, List.setIfInBounds_toArray, List.set_cons_zero, List.set_cons_succ]
  clear v0 v1
  have n_g3_g7 := ne_new f_g3.lt l7
  have n_g4_g7 := ne_new f_g4.lt l7
  have n_g5_g7 := ne_new f_g5.lt l7
  have n_g6_g7 := ne_new f_g6.lt l7
  replace l7 := Nat.le_trans hM l7
  replace f_g3 := f_g3.below (hk.below (nh0 rfl))
  replace f_g4 := f_g4.below (hk.below (nh0 rfl))
  replace f_g5 := f_g5.below (hk.below (nh0 rfl))
  replace f_g6 := f_g6.below (hk.below (nh0 rfl))
  have f7 : Blk g7 (rwA .i64 10 x) 134 x1 := k7
  clear k7
  replace hM := Nat.le_trans hM hk.size
  replace hB := hB.trans ((hk.below (nh0 rfl)).mono hB.size)
  clear hk
  have f_g7 := f7
  clear f7
  go_upto_region 4 with (fail)
  refine region_seq 3 (kdAt [.val (.agg (rwA .i64 10 oneF)), .new 134 Z10, .put 1 134 (rwA .i64 10 oneF)]) [some 24, some 8, none] (by decide) (by kernel_rfl) (by kernel_rfl) (by kernel_rfl) (by kernel_rfl) ?_ ?_
  · repeat refine allS ?_ ?_
    · exact all0
    · exact stepBuild [] #[(0, .int .i64 1)] rfl rfl rfl rfl (fun p hp => by cases hp) (fun a ha => by simp [Act.eval]) (fun w => bOne w)
    · exact stepNew rfl rfl rfl rfl alL
    · exact stepPut (Z := Z10) (d := 8) (k := 24) rfl rfl rfl rfl rfl (by decide) rfl (by kernel_rfl) rfl (z10sz oneF) (src_new 0 (by decide) rfl rfl (by kernel_rfl)) (l10sz oneF) (l10one oneF) (uniq_of rfl)
  intro v x2 hok hk
  replace hk := hk.all
  refine wpList_nil ?_
  have v0 := okVal hok (j := 0) rfl rfl
  obtain ⟨g8, v1, k8, l8⟩ := okRowB hok (i := 2) (j := 1) rfl rfl rfl rfl
  clear hok
  simp only [putL, Nat.zero_add, v0, v1, Act.put, List.setIfInBounds_toArray, List.set_cons_zero, List.set_cons_succ]
  clear v0 v1
  have n_g3_g8 := ne_new f_g3.lt l8
  have n_g4_g8 := ne_new f_g4.lt l8
  have n_g5_g8 := ne_new f_g5.lt l8
  have n_g6_g8 := ne_new f_g6.lt l8
  have n_g7_g8 := ne_new f_g7.lt l8
  replace l8 := Nat.le_trans hM l8
  replace f_g3 := f_g3.below (hk.below (nh0 rfl))
  replace f_g4 := f_g4.below (hk.below (nh0 rfl))
  replace f_g5 := f_g5.below (hk.below (nh0 rfl))
  replace f_g6 := f_g6.below (hk.below (nh0 rfl))
  replace f_g7 := f_g7.below (hk.below (nh0 rfl))
  have f8 : Blk g8 (rwA .i64 10 oneF) 134 x2 := k8
  clear k8
  replace hM := Nat.le_trans hM hk.size
  replace hB := hB.trans ((hk.below (nh0 rfl)).mono hB.size)
  clear hk
  have f_g8 := f8
  clear f8
  have HNE := Lib.hid (show NeL g3 g4 g5 g6 g7 g8 by
    have := HD.out
    have := HG3.out
    constructor <;> omega)
  have HB0 := Lib.hid (show w.heap.size ≤ g4 ∧ w.heap.size ≤ g5 ∧ w.heap.size ≤ g6 ∧ w.heap.size ≤ g7 ∧ w.heap.size ≤ g8 from ⟨HD.out.2.2.2.2.2.2.1, HD.out.2.2.2.2.2.2.2.1, HD.out.2.2.2.2.2.2.2.2, l7, l8⟩)
  clear n_g3_g7 n_g4_g7 n_g5_g7 n_g6_g7 n_g3_g8 n_g4_g8 n_g5_g8 n_g6_g8 n_g7_g8 l7 l8 hM
  go_wp2_with fail
  go_loopw [9, 10] (fun l i wr => ∃ (j L : Nat) (x2 z2 x3 z3 : Nat → Int), j ≤ 255 ∧ L ≤ 1 ∧ i = .int .i64 ((j : Int) - 1) ∧ l = .int .u8 (L : Int) ∧ Hf x2 ∧ Hf z2 ∧ Hf x3 ∧ Hf z3 ∧ LadRel L (ladN n (rN x) (255 - j)) x2 z2 x3 z3 ∧ Blk g3 (rwA .i64 10 x) 134 wr ∧ Blk g4 Z10 134 wr ∧ Blk g5 (rwA .i64 10 x2) 134 wr ∧ Blk g6 (rwA .i64 10 z2) 134 wr ∧ Blk g7 (rwA .i64 10 x3) 134 wr ∧ Blk g8 (rwA .i64 10 z3) 134 wr ∧ Below w.heap.size w wr)
    (fun _ i _ => (intOf i + 1).toNat)
  case atStart =>
    refine ⟨255, 0, oneF, zF, x, oneF, by omega, by omega, rfl, rfl, oneF_hf, zF_hf, Fx.out, oneF_hf, ?_, f_g3, f_g4, f_g5, f_g6, f_g7, f_g8, hB⟩
    unfold LadRel
    rw [if_neg (by omega), oneF_rN, zF_rN]
    exact ⟨rfl, rfl⟩
  case round =>
    clear f_g3 f_g4 f_g5 f_g6 f_g7 f_g8 hB
    obtain ⟨j, L, x2, z2, x3, z3, hj, hL, rfl, rfl, fx2, fz2, fx3, fz3, hrl, f_g3, f_g4, f_g5, f_g6, f_g7, f_g8, hB⟩ := hrel
    by_cases hlt : 0 < j
    · obtain ⟨m, rfl⟩ : ∃ m, j = m + 1 := ⟨j - 1, by omega⟩
      have hme : ((m + 1 : Nat) : Int) - 1 = (m : Int) := by omega
      rw [hme]
      have m0 : (0 : Int) ≤ (m : Int) := by omega
      have m1 : (m : Int) ≤ 254 := by omega
      have q0 : (0 : Int) ≤ (m : Int) / 8 := by omega
      have q1 : (m : Int) / 8 < 32 := by omega
      have qt : ((m : Int) / 8).toNat = m / 8 := by omega
      have r0 : (0 : Int) ≤ (m : Int) % 8 := by omega
      have r1 : (m : Int) % 8 < 8 := by omega
      have rt : ((m : Int) % 8).toNat = m % 8 := by omega
      have uw2 : IntKind.u64.wrap ((m : Int) % 8) = (m : Int) % 8 := by rw [IntKind.wrap_u64]; omega
      have tm : (m : Int).tmod 8 = (m : Int) % 8 := Int.tmod_eq_emod_of_nonneg (by omega)
      have hjj : m / 8 < key.size := by have := HK.out; omega
      have hbit : bits .and .u8 (((key[m / 8]'hjj).toNat : Int) / 2 ^ (m % 8)) 1 = ((n / 2 ^ m % 2 : Nat) : Int) := by
        have hby : (key[m / 8]'hjj).toNat = n / 256 ^ (m / 8) % 256 := by rw [HKN.out]; exact leN_get key.data.toList (m / 8) (by rw [len_data]; exact hjj)
        rw [u8_and1 _ _ (key[m / 8]'hjj).toNat_lt, hby, byte_bit]
      have HJ := Lib.hid hj
      have HS := Lib.hid (lad_step n (rN x) m (by omega))
      have HBL : Hid (n / 2 ^ m % 2 ≤ 1) := by show _ ≤ _; omega
      obtain ⟨st, hst⟩ : ∃ st, st = ladN n (rN x) (255 - (m + 1)) := ⟨_, rfl⟩
      rw [← hst] at hrl HS
      have HSW := Lib.hid (show ∀ B, B ≤ 1 → (B = L → (rN x2, rN z2) = (if B = 1 then st.2 else st.1) ∧ (rN x3, rN z3) = (if B = 1 then st.1 else st.2)) ∧ (B ≠ L → (rN x3, rN z3) = (if B = 1 then st.2 else st.1) ∧ (rN x2, rN z2) = (if B = 1 then st.1 else st.2)) from fun B hB => by
        unfold LadRel at hrl
        constructor
        · intro c
          subst c
          by_cases h1 : B = 1
          · rw [if_pos h1] at hrl; rw [if_pos h1, if_pos h1]; exact hrl
          · rw [if_neg h1] at hrl; rw [if_neg h1, if_neg h1]; exact hrl
        · intro c
          by_cases h1 : B = 1
          · rw [if_neg (by omega)] at hrl; rw [if_pos h1, if_pos h1]; exact ⟨hrl.2, hrl.1⟩
          · rw [if_pos (by omega)] at hrl; rw [if_neg h1, if_neg h1]; exact ⟨hrl.2, hrl.1⟩)
      have HF := Lib.hid (And.intro fx2 (And.intro fz2 (And.intro fx3 fz3)))
      clear hst hrl fx2 fz2 fx3 fz3 hme hj hlt
      generalize (n / 2 ^ m % 2 : Nat) = B at *
      by_cases hsw : B = L
      · have hne : ((B : Int) != (L : Int)) = false := by simp; omega
        have HRel := Lib.hid ((HSW.out B HBL.out).1 hsw)
        have FA2 := Lib.hid HF.out.1
        have FC2 := Lib.hid HF.out.2.1
        have FA3 := Lib.hid HF.out.2.2.1
        have FC3 := Lib.hid HF.out.2.2.2
        clear HSW HF hsw
        generalize x2 = A2 at *
        generalize z2 = C2 at *
        generalize x3 = A3 at *
        generalize z3 = C3 at *
        go_upto_region 14 with (fail)
        clear hne hbit
        have MA2 := Lib.hid FA2.out.mid
        have hM : wr.heap.size ≤ wr.heap.size := Nat.le_refl _
        have HL := Lib.hid (show g4 < wr.heap.size ∧ g5 < wr.heap.size ∧ g6 < wr.heap.size ∧ g7 < wr.heap.size ∧ g8 < wr.heap.size from ⟨f_g4.lt, f_g5.lt, f_g6.lt, f_g7.lt, f_g8.lt⟩)
        have MC2 := Lib.hid FC2.out.mid
        have MA3 := Lib.hid FA3.out.mid
        have MC3 := Lib.hid FC3.out.mid
        obtain ⟨a, ea⟩ : ∃ f : Nat → Int, f = fun q => A2 q + C2 q := ⟨_, rfl⟩
        have Ea := Lib.hid ea
        have Ma : Hid (Mid a) := by show Mid _; rw [ea]; exact Hf.add FA2.out FC2.out
        have Ra : Hid (rN a = fAd (rN A2) (rN C2)) := by show _ = _; rw [ea]; exact rN_addL _ _
        clear ea
        obtain ⟨b, eb⟩ : ∃ f : Nat → Int, f = fun q => A2 q - C2 q := ⟨_, rfl⟩
        have Eb := Lib.hid eb
        have Mb : Hid (Mid b) := by show Mid _; rw [eb]; exact Hf.sub FA2.out FC2.out
        have Rb : Hid (rN b = fSb (rN A2) (rN C2)) := by show _ = _; rw [eb]; exact rN_subL _ _
        clear eb
        obtain ⟨aa, eaa⟩ : ∃ f : Nat → Int, f = mulL a a := ⟨_, rfl⟩
        have Eaa := Lib.hid eaa
        have Laa : Hid (Low aa) := by show Low _; rw [eaa]; exact mulL_low _ _ Ma.out Ma.out
        have Maa : Hid (Mid aa) := Laa.out.mid
        have Raa : Hid (rN aa = fMu (rN a) (rN a)) := by show _ = _; rw [eaa]; exact rN_prodL _ _
        clear eaa
        obtain ⟨bb, ebb⟩ : ∃ f : Nat → Int, f = mulL b b := ⟨_, rfl⟩
        have Ebb := Lib.hid ebb
        have Lbb : Hid (Low bb) := by show Low _; rw [ebb]; exact mulL_low _ _ Mb.out Mb.out
        have Mbb : Hid (Mid bb) := Lbb.out.mid
        have Rbb : Hid (rN bb = fMu (rN b) (rN b)) := by show _ = _; rw [ebb]; exact rN_prodL _ _
        clear ebb
        obtain ⟨ee, eee⟩ : ∃ f : Nat → Int, f = fun q => aa q - bb q := ⟨_, rfl⟩
        have Eee := Lib.hid eee
        have Mee : Hid (Mid ee) := by show Mid _; rw [eee]; exact Hf.sub (lowHf Laa.out) (lowHf Lbb.out)
        have Ree : Hid (rN ee = fSb (rN aa) (rN bb)) := by show _ = _; rw [eee]; exact rN_subL _ _
        clear eee
        obtain ⟨d0, ed0⟩ : ∃ f : Nat → Int, f = fun q => A3 q - C3 q := ⟨_, rfl⟩
        have Ed0 := Lib.hid ed0
        have Md0 : Hid (Mid d0) := by show Mid _; rw [ed0]; exact Hf.sub FA3.out FC3.out
        have Rd0 : Hid (rN d0 = fSb (rN A3) (rN C3)) := by show _ = _; rw [ed0]; exact rN_subL _ _
        clear ed0
        obtain ⟨da, eda⟩ : ∃ f : Nat → Int, f = mulL d0 a := ⟨_, rfl⟩
        have Eda := Lib.hid eda
        have Lda : Hid (Low da) := by show Low _; rw [eda]; exact mulL_low _ _ Md0.out Ma.out
        have Mda : Hid (Mid da) := Lda.out.mid
        have Rda : Hid (rN da = fMu (rN d0) (rN a)) := by show _ = _; rw [eda]; exact rN_prodL _ _
        clear eda
        obtain ⟨c0, ec0⟩ : ∃ f : Nat → Int, f = fun q => A3 q + C3 q := ⟨_, rfl⟩
        have Ec0 := Lib.hid ec0
        have Mc0 : Hid (Mid c0) := by show Mid _; rw [ec0]; exact Hf.add FA3.out FC3.out
        have Rc0 : Hid (rN c0 = fAd (rN A3) (rN C3)) := by show _ = _; rw [ec0]; exact rN_addL _ _
        clear ec0
        obtain ⟨cb, ecb⟩ : ∃ f : Nat → Int, f = mulL c0 b := ⟨_, rfl⟩
        have Ecb := Lib.hid ecb
        have Lcb : Hid (Low cb) := by show Low _; rw [ecb]; exact mulL_low _ _ Mc0.out Mb.out
        have Mcb : Hid (Mid cb) := Lcb.out.mid
        have Rcb : Hid (rN cb = fMu (rN c0) (rN b)) := by show _ = _; rw [ecb]; exact rN_prodL _ _
        clear ecb
        obtain ⟨ss, ess⟩ : ∃ f : Nat → Int, f = fun q => da q + cb q := ⟨_, rfl⟩
        have Ess := Lib.hid ess
        have Mss : Hid (Mid ss) := by show Mid _; rw [ess]; exact Hf.add (lowHf Lda.out) (lowHf Lcb.out)
        have Rss : Hid (rN ss = fAd (rN da) (rN cb)) := by show _ = _; rw [ess]; exact rN_addL _ _
        clear ess
        obtain ⟨dd, edd⟩ : ∃ f : Nat → Int, f = fun q => da q - cb q := ⟨_, rfl⟩
        have Edd := Lib.hid edd
        have Mdd : Hid (Mid dd) := by show Mid _; rw [edd]; exact Hf.sub (lowHf Lda.out) (lowHf Lcb.out)
        have Rdd : Hid (rN dd = fSb (rN da) (rN cb)) := by show _ = _; rw [edd]; exact rN_subL _ _
        clear edd
        obtain ⟨n3, en3⟩ : ∃ f : Nat → Int, f = mulL ss ss := ⟨_, rfl⟩
        have En3 := Lib.hid en3
        have Ln3 : Hid (Low n3) := by show Low _; rw [en3]; exact mulL_low _ _ Mss.out Mss.out
        have Mn3 : Hid (Mid n3) := Ln3.out.mid
        have Rn3 : Hid (rN n3 = fMu (rN ss) (rN ss)) := by show _ = _; rw [en3]; exact rN_prodL _ _
        clear en3
        obtain ⟨d2, ed2⟩ : ∃ f : Nat → Int, f = mulL dd dd := ⟨_, rfl⟩
        have Ed2 := Lib.hid ed2
        have Ld2 : Hid (Low d2) := by show Low _; rw [ed2]; exact mulL_low _ _ Mdd.out Mdd.out
        have Md2 : Hid (Mid d2) := Ld2.out.mid
        have Rd2 : Hid (rN d2 = fMu (rN dd) (rN dd)) := by show _ = _; rw [ed2]; exact rN_prodL _ _
        clear ed2
        obtain ⟨m3, em3⟩ : ∃ f : Nat → Int, f = mulL x d2 := ⟨_, rfl⟩
        have Em3 := Lib.hid em3
        have Lm3 : Hid (Low m3) := by show Low _; rw [em3]; exact mulL_low _ _ Mx.out Md2.out
        have Mm3 : Hid (Mid m3) := Lm3.out.mid
        have Rm3 : Hid (rN m3 = fMu (rN x) (rN d2)) := by show _ = _; rw [em3]; exact rN_prodL _ _
        clear em3
        obtain ⟨n2, en2⟩ : ∃ f : Nat → Int, f = mulL aa bb := ⟨_, rfl⟩
        have En2 := Lib.hid en2
        have Ln2 : Hid (Low n2) := by show Low _; rw [en2]; exact mulL_low _ _ Maa.out Mbb.out
        have Mn2 : Hid (Mid n2) := Ln2.out.mid
        have Rn2 : Hid (rN n2 = fMu (rN aa) (rN bb)) := by show _ = _; rw [en2]; exact rN_prodL _ _
        clear en2
        obtain ⟨e1, ee1⟩ : ∃ f : Nat → Int, f = mulL cF ee := ⟨_, rfl⟩
        have Ee1 := Lib.hid ee1
        have Le1 : Hid (Low e1) := by show Low _; rw [ee1]; exact mulL_low _ _ McF.out Mee.out
        have Me1 : Hid (Mid e1) := Le1.out.mid
        have Re1 : Hid (rN e1 = fMu (rN cF) (rN ee)) := by show _ = _; rw [ee1]; exact rN_prodL _ _
        clear ee1
        obtain ⟨e2, ee2⟩ : ∃ f : Nat → Int, f = fun q => aa q + e1 q := ⟨_, rfl⟩
        have Ee2 := Lib.hid ee2
        have Me2 : Hid (Mid e2) := by show Mid _; rw [ee2]; exact Hf.add (lowHf Laa.out) (lowHf Le1.out)
        have Re2 : Hid (rN e2 = fAd (rN aa) (rN e1)) := by show _ = _; rw [ee2]; exact rN_addL _ _
        clear ee2
        obtain ⟨m2, em2⟩ : ∃ f : Nat → Int, f = mulL ee e2 := ⟨_, rfl⟩
        have Em2 := Lib.hid em2
        have Lm2 : Hid (Low m2) := by show Low _; rw [em2]; exact mulL_low _ _ Mee.out Me2.out
        have Mm2 : Hid (Mid m2) := Lm2.out.mid
        have Rm2 : Hid (rN m2 = fMu (rN ee) (rN e2)) := by show _ = _; rw [em2]; exact rN_prodL _ _
        clear em2
        have HSP : Hid ((rN n2, rN m2) = (stepN (rN A2, rN C2) (rN A3, rN C3) (rN x)).1 ∧ (rN n3, rN m3) = (stepN (rN A2, rN C2) (rN A3, rN C3) (rN x)).2) := by
          show _ ∧ _
          rw [Rn2.out, Rm2.out, Re2.out, Re1.out, Rn3.out, Rm3.out, Rd2.out, Rss.out, Rdd.out, Rda.out, Rcb.out, Rd0.out, Rc0.out, Ree.out, Raa.out, Rbb.out, Ra.out, Rb.out, cF_rN, fMu_comm 121665]
          exact ⟨rfl, rfl⟩
        have HNX : Hid (LadRel B (ladN n (rN x) (255 - m)) n2 m2 n3 m3) := by
          show LadRel _ _ _ _ _ _
          have h1 := HSP.out
          rw [HRel.out.1, HRel.out.2] at h1
          unfold LadRel
          rw [HS.out]
          by_cases c : B = 1
          · rw [if_pos c] at h1 ⊢
            rw [if_pos c, if_pos c] at *
            exact h1
          · rw [if_neg c] at h1 ⊢
            rw [if_neg c, if_neg c] at *
            exact h1
        go_upto_region 14 with (fail)
        refine region_seq 5 (kdAt [.val (.agg (rwA .i64 10 A2)), .val (.agg (rwA .i64 10 C2)), .val (.agg (rwA .i64 10 a)), .new 134 Z10, .put 3 134 (rwA .i64 10 a)]) [some 46, some 47, some 48, some 12, none] (by decide) (by kernel_rfl) (by kernel_rfl) (by kernel_rfl) (by kernel_rfl) ?_ ?_
        · repeat refine allS ?_ ?_
          · exact all0
          · exact stepLoad (.pointer (some ⟨g5, 0, none⟩)) rfl rfl rfl rfl (src_old (by kernel_rfl) rfl) (fun w hk => l10ld (f_g5.below (hk.below (nh0 rfl))))
          · exact stepLoad (.pointer (some ⟨g6, 0, none⟩)) rfl rfl rfl rfl (src_old (by kernel_rfl) rfl) (fun w hk => l10ld (f_g6.below (hk.below (nh0 rfl))))
          · exact stepCall (ks := [46, 47]) [.agg (rwA .i64 10 A2), .agg (rwA .i64 10 C2)] rfl rfl rfl rfl cfLadd rfl (src2 (src_new 0 (by decide) rfl rfl (by kernel_rfl)) (src_new 1 (by decide) rfl rfl (by kernel_rfl))) (fun w hk => lAdd_c A2 C2 a w Ea.out MA2.out MC2.out)
          · exact stepNew rfl rfl rfl rfl alL
          · exact stepPut (Z := Z10) (d := 12) (k := 48) rfl rfl rfl rfl rfl (by decide) rfl (by kernel_rfl) rfl (z10sz a) (src_new 2 (by decide) rfl rfl (by kernel_rfl)) (l10sz a) (l10one a) (uniq_of rfl)
        intro v x1 hok hk
        replace hk := hk.all
        refine wpList_nil ?_
        have v0 := okVal hok (j := 0) rfl rfl
        have v1 := okVal hok (j := 1) rfl rfl
        have v2 := okVal hok (j := 2) rfl rfl
        obtain ⟨g12, v3, k12, l12⟩ := okRowB hok (i := 4) (j := 3) rfl rfl rfl rfl
        clear hok
        simp only [putL, Nat.zero_add, Nat.reduceAdd, v0, v1, v2, v3, Act.put, List.setIfInBounds_toArray, List.set_cons_zero, List.set_cons_succ]
        clear v0 v1 v2 v3
        replace l12 := Nat.le_trans hM l12
        replace f_g3 := f_g3.below (hk.below (nh0 rfl))
        replace f_g4 := f_g4.below (hk.below (nh0 rfl))
        replace f_g5 := f_g5.below (hk.below (nh0 rfl))
        replace f_g6 := f_g6.below (hk.below (nh0 rfl))
        replace f_g7 := f_g7.below (hk.below (nh0 rfl))
        replace f_g8 := f_g8.below (hk.below (nh0 rfl))
        have f12 : Blk g12 (rwA .i64 10 a) 134 x1 := k12
        clear k12
        replace hM := Nat.le_trans hM hk.size
        replace hB := hB.trans ((hk.below (nh0 rfl)).mono hB.size)
        clear hk
        go_upto_region 15 with (fail)
        refine region_seq 5 (kdAt [.val (.agg (rwA .i64 10 A2)), .val (.agg (rwA .i64 10 C2)), .val (.agg (rwA .i64 10 b)), .new 134 Z10, .put 3 134 (rwA .i64 10 b)]) [some 49, some 50, some 51, some 13, none] (by decide) (by kernel_rfl) (by kernel_rfl) (by kernel_rfl) (by kernel_rfl) ?_ ?_
        · repeat refine allS ?_ ?_
          · exact all0
          · exact stepLoad (.pointer (some ⟨g5, 0, none⟩)) rfl rfl rfl rfl (src_old (by kernel_rfl) rfl) (fun w hk => l10ld (f_g5.below (hk.below (nh0 rfl))))
          · exact stepLoad (.pointer (some ⟨g6, 0, none⟩)) rfl rfl rfl rfl (src_old (by kernel_rfl) rfl) (fun w hk => l10ld (f_g6.below (hk.below (nh0 rfl))))
          · exact stepCall (ks := [49, 50]) [.agg (rwA .i64 10 A2), .agg (rwA .i64 10 C2)] rfl rfl rfl rfl cfLsub rfl (src2 (src_new 0 (by decide) rfl rfl (by kernel_rfl)) (src_new 1 (by decide) rfl rfl (by kernel_rfl))) (fun w hk => lSub_c A2 C2 b w Eb.out MA2.out MC2.out)
          · exact stepNew rfl rfl rfl rfl alL
          · exact stepPut (Z := Z10) (d := 13) (k := 51) rfl rfl rfl rfl rfl (by decide) rfl (by kernel_rfl) rfl (z10sz b) (src_new 2 (by decide) rfl rfl (by kernel_rfl)) (l10sz b) (l10one b) (uniq_of rfl)
        intro v x2 hok hk
        replace hk := hk.all
        refine wpList_nil ?_
        have v0 := okVal hok (j := 0) rfl rfl
        have v1 := okVal hok (j := 1) rfl rfl
        have v2 := okVal hok (j := 2) rfl rfl
        obtain ⟨g13, v3, k13, l13⟩ := okRowB hok (i := 4) (j := 3) rfl rfl rfl rfl
        clear hok
        simp only [putL, Nat.zero_add, Nat.reduceAdd, v0, v1, v2, v3, Act.put, List.setIfInBounds_toArray, List.set_cons_zero, List.set_cons_succ]
        clear v0 v1 v2 v3
        replace l13 := Nat.le_trans hM l13
        replace f_g3 := f_g3.below (hk.below (nh0 rfl))
        replace f_g4 := f_g4.below (hk.below (nh0 rfl))
        replace f_g5 := f_g5.below (hk.below (nh0 rfl))
        replace f_g6 := f_g6.below (hk.below (nh0 rfl))
        replace f_g7 := f_g7.below (hk.below (nh0 rfl))
        replace f_g8 := f_g8.below (hk.below (nh0 rfl))
        replace f12 := f12.below (hk.below (nh0 rfl))
        have f13 : Blk g13 (rwA .i64 10 b) 134 x2 := k13
        clear k13
        replace hM := Nat.le_trans hM hk.size
        replace hB := hB.trans ((hk.below (nh0 rfl)).mono hB.size)
        clear hk
        go_upto_region 16 with (fail)
        refine region_seq 5 (kdAt [.val (.agg (rwA .i64 10 a)), .val (.agg (rwA .i64 10 a)), .val (.agg (rwA .i64 10 aa)), .new 134 Z10, .put 3 134 (rwA .i64 10 aa)]) [some 52, some 53, some 54, some 14, none] (by decide) (by kernel_rfl) (by kernel_rfl) (by kernel_rfl) (by kernel_rfl) ?_ ?_
        · repeat refine allS ?_ ?_
          · exact all0
          · exact stepLoad (.pointer (some ⟨g12, 0, none⟩)) rfl rfl rfl rfl (src_old (by kernel_rfl) rfl) (fun w hk => l10ld (f12.below (hk.below (nh0 rfl))))
          · exact stepLoad (.pointer (some ⟨g12, 0, none⟩)) rfl rfl rfl rfl (src_old (by kernel_rfl) rfl) (fun w hk => l10ld (f12.below (hk.below (nh0 rfl))))
          · exact stepCall (ks := [52, 53]) [.agg (rwA .i64 10 a), .agg (rwA .i64 10 a)] rfl rfl rfl rfl cfLmul rfl (src2 (src_new 0 (by decide) rfl rfl (by kernel_rfl)) (src_new 1 (by decide) rfl rfl (by kernel_rfl))) (fun w hk => lMul_c a a aa w Eaa.out Ma.out Ma.out)
          · exact stepNew rfl rfl rfl rfl alL
          · exact stepPut (Z := Z10) (d := 14) (k := 54) rfl rfl rfl rfl rfl (by decide) rfl (by kernel_rfl) rfl (z10sz aa) (src_new 2 (by decide) rfl rfl (by kernel_rfl)) (l10sz aa) (l10one aa) (uniq_of rfl)
        intro v x3 hok hk
        replace hk := hk.all
        refine wpList_nil ?_
        have v0 := okVal hok (j := 0) rfl rfl
        have v1 := okVal hok (j := 1) rfl rfl
        have v2 := okVal hok (j := 2) rfl rfl
        obtain ⟨g14, v3, k14, l14⟩ := okRowB hok (i := 4) (j := 3) rfl rfl rfl rfl
        clear hok
        simp only [putL, Nat.zero_add, Nat.reduceAdd, v0, v1, v2, v3, Act.put, List.setIfInBounds_toArray, List.set_cons_zero, List.set_cons_succ]
        clear v0 v1 v2 v3
        replace l14 := Nat.le_trans hM l14
        replace f_g3 := f_g3.below (hk.below (nh0 rfl))
        replace f_g4 := f_g4.below (hk.below (nh0 rfl))
        replace f_g5 := f_g5.below (hk.below (nh0 rfl))
        replace f_g6 := f_g6.below (hk.below (nh0 rfl))
        replace f_g7 := f_g7.below (hk.below (nh0 rfl))
        replace f_g8 := f_g8.below (hk.below (nh0 rfl))
        replace f12 := f12.below (hk.below (nh0 rfl))
        replace f13 := f13.below (hk.below (nh0 rfl))
        have f14 : Blk g14 (rwA .i64 10 aa) 134 x3 := k14
        clear k14
        replace hM := Nat.le_trans hM hk.size
        replace hB := hB.trans ((hk.below (nh0 rfl)).mono hB.size)
        clear hk
        go_upto_region 17 with (fail)
        refine region_seq 5 (kdAt [.val (.agg (rwA .i64 10 b)), .val (.agg (rwA .i64 10 b)), .val (.agg (rwA .i64 10 bb)), .new 134 Z10, .put 3 134 (rwA .i64 10 bb)]) [some 55, some 56, some 57, some 15, none] (by decide) (by kernel_rfl) (by kernel_rfl) (by kernel_rfl) (by kernel_rfl) ?_ ?_
        · repeat refine allS ?_ ?_
          · exact all0
          · exact stepLoad (.pointer (some ⟨g13, 0, none⟩)) rfl rfl rfl rfl (src_old (by kernel_rfl) rfl) (fun w hk => l10ld (f13.below (hk.below (nh0 rfl))))
          · exact stepLoad (.pointer (some ⟨g13, 0, none⟩)) rfl rfl rfl rfl (src_old (by kernel_rfl) rfl) (fun w hk => l10ld (f13.below (hk.below (nh0 rfl))))
          · exact stepCall (ks := [55, 56]) [.agg (rwA .i64 10 b), .agg (rwA .i64 10 b)] rfl rfl rfl rfl cfLmul rfl (src2 (src_new 0 (by decide) rfl rfl (by kernel_rfl)) (src_new 1 (by decide) rfl rfl (by kernel_rfl))) (fun w hk => lMul_c b b bb w Ebb.out Mb.out Mb.out)
          · exact stepNew rfl rfl rfl rfl alL
          · exact stepPut (Z := Z10) (d := 15) (k := 57) rfl rfl rfl rfl rfl (by decide) rfl (by kernel_rfl) rfl (z10sz bb) (src_new 2 (by decide) rfl rfl (by kernel_rfl)) (l10sz bb) (l10one bb) (uniq_of rfl)
        intro v x4 hok hk
        replace hk := hk.all
        refine wpList_nil ?_
        have v0 := okVal hok (j := 0) rfl rfl
        have v1 := okVal hok (j := 1) rfl rfl
        have v2 := okVal hok (j := 2) rfl rfl
        obtain ⟨g15, v3, k15, l15⟩ := okRowB hok (i := 4) (j := 3) rfl rfl rfl rfl
        clear hok
        simp only [putL, Nat.zero_add, Nat.reduceAdd, v0, v1, v2, v3, Act.put, List.setIfInBounds_toArray, List.set_cons_zero, List.set_cons_succ]
        clear v0 v1 v2 v3
        replace l15 := Nat.le_trans hM l15
        replace f_g3 := f_g3.below (hk.below (nh0 rfl))
        replace f_g4 := f_g4.below (hk.below (nh0 rfl))
        replace f_g5 := f_g5.below (hk.below (nh0 rfl))
        replace f_g6 := f_g6.below (hk.below (nh0 rfl))
        replace f_g7 := f_g7.below (hk.below (nh0 rfl))
        replace f_g8 := f_g8.below (hk.below (nh0 rfl))
        replace f12 := f12.below (hk.below (nh0 rfl))
        replace f13 := f13.below (hk.below (nh0 rfl))
        replace f14 := f14.below (hk.below (nh0 rfl))
        have f15 : Blk g15 (rwA .i64 10 bb) 134 x4 := k15
        clear k15
        replace hM := Nat.le_trans hM hk.size
        replace hB := hB.trans ((hk.below (nh0 rfl)).mono hB.size)
        clear hk
        go_upto_region 18 with (fail)
        refine region_seq 5 (kdAt [.val (.agg (rwA .i64 10 aa)), .val (.agg (rwA .i64 10 bb)), .val (.agg (rwA .i64 10 ee)), .new 134 Z10, .put 3 134 (rwA .i64 10 ee)]) [some 58, some 59, some 60, some 16, none] (by decide) (by kernel_rfl) (by kernel_rfl) (by kernel_rfl) (by kernel_rfl) ?_ ?_
        · repeat refine allS ?_ ?_
          · exact all0
          · exact stepLoad (.pointer (some ⟨g14, 0, none⟩)) rfl rfl rfl rfl (src_old (by kernel_rfl) rfl) (fun w hk => l10ld (f14.below (hk.below (nh0 rfl))))
          · exact stepLoad (.pointer (some ⟨g15, 0, none⟩)) rfl rfl rfl rfl (src_old (by kernel_rfl) rfl) (fun w hk => l10ld (f15.below (hk.below (nh0 rfl))))
          · exact stepCall (ks := [58, 59]) [.agg (rwA .i64 10 aa), .agg (rwA .i64 10 bb)] rfl rfl rfl rfl cfLsub rfl (src2 (src_new 0 (by decide) rfl rfl (by kernel_rfl)) (src_new 1 (by decide) rfl rfl (by kernel_rfl))) (fun w hk => lSub_c aa bb ee w Eee.out Maa.out Mbb.out)
          · exact stepNew rfl rfl rfl rfl alL
          · exact stepPut (Z := Z10) (d := 16) (k := 60) rfl rfl rfl rfl rfl (by decide) rfl (by kernel_rfl) rfl (z10sz ee) (src_new 2 (by decide) rfl rfl (by kernel_rfl)) (l10sz ee) (l10one ee) (uniq_of rfl)
        intro v x5 hok hk
        replace hk := hk.all
        refine wpList_nil ?_
        have v0 := okVal hok (j := 0) rfl rfl
        have v1 := okVal hok (j := 1) rfl rfl
        have v2 := okVal hok (j := 2) rfl rfl
        obtain ⟨g16, v3, k16, l16⟩ := okRowB hok (i := 4) (j := 3) rfl rfl rfl rfl
        clear hok
        simp only [putL, Nat.zero_add, Nat.reduceAdd, v0, v1, v2, v3, Act.put, List.setIfInBounds_toArray, List.set_cons_zero, List.set_cons_succ]
        clear v0 v1 v2 v3
        replace l16 := Nat.le_trans hM l16
        replace f_g3 := f_g3.below (hk.below (nh0 rfl))
        replace f_g4 := f_g4.below (hk.below (nh0 rfl))
        replace f_g5 := f_g5.below (hk.below (nh0 rfl))
        replace f_g6 := f_g6.below (hk.below (nh0 rfl))
        replace f_g7 := f_g7.below (hk.below (nh0 rfl))
        replace f_g8 := f_g8.below (hk.below (nh0 rfl))
        replace f12 := f12.below (hk.below (nh0 rfl))
        replace f13 := f13.below (hk.below (nh0 rfl))
        replace f14 := f14.below (hk.below (nh0 rfl))
        replace f15 := f15.below (hk.below (nh0 rfl))
        have f16 : Blk g16 (rwA .i64 10 ee) 134 x5 := k16
        clear k16
        replace hM := Nat.le_trans hM hk.size
        replace hB := hB.trans ((hk.below (nh0 rfl)).mono hB.size)
        clear hk
        go_upto_region 19 with (fail)
        refine region_all 7 (kdAt [.val (.agg (rwA .i64 10 A3)), .val (.agg (rwA .i64 10 C3)), .val (.agg (rwA .i64 10 d0)), .val (.agg (rwA .i64 10 a)), .val (.agg (rwA .i64 10 da)), .new 134 Z10, .put 5 134 (rwA .i64 10 da)]) [some 61, some 62, some 63, some 64, some 65, some 17, none] (by kernel_rfl) rfl (by kernel_rfl) (by kernel_rfl) (by kernel_rfl) (by kernel_rfl) ?_ ?_
        · repeat refine allS ?_ ?_
          · exact all0
          · exact stepLoad (.pointer (some ⟨g7, 0, none⟩)) rfl rfl rfl rfl (src_old (by kernel_rfl) rfl) (fun w hk => l10ld (f_g7.below (hk.below (nh0 rfl))))
          · exact stepLoad (.pointer (some ⟨g8, 0, none⟩)) rfl rfl rfl rfl (src_old (by kernel_rfl) rfl) (fun w hk => l10ld (f_g8.below (hk.below (nh0 rfl))))
          · exact stepCall (ks := [61, 62]) [.agg (rwA .i64 10 A3), .agg (rwA .i64 10 C3)] rfl rfl rfl rfl cfLsub rfl (src2 (src_new 0 (by decide) rfl rfl (by kernel_rfl)) (src_new 1 (by decide) rfl rfl (by kernel_rfl))) (fun w hk => lSub_c A3 C3 d0 w Ed0.out MA3.out MC3.out)
          · exact stepLoad (.pointer (some ⟨g12, 0, none⟩)) rfl rfl rfl rfl (src_old (by kernel_rfl) rfl) (fun w hk => l10ld (f12.below (hk.below (nh0 rfl))))
          · exact stepCall (ks := [63, 64]) [.agg (rwA .i64 10 d0), .agg (rwA .i64 10 a)] rfl rfl rfl rfl cfLmul rfl (src2 (src_new 2 (by decide) rfl rfl (by kernel_rfl)) (src_new 3 (by decide) rfl rfl (by kernel_rfl))) (fun w hk => lMul_c d0 a da w Eda.out Md0.out Ma.out)
          · exact stepNew rfl rfl rfl rfl alL
          · exact stepPut (Z := Z10) (d := 17) (k := 65) rfl rfl rfl rfl rfl (by decide) rfl (by kernel_rfl) rfl (z10sz da) (src_new 4 (by decide) rfl rfl (by kernel_rfl)) (l10sz da) (l10one da) (uniq_of rfl)
        intro v x6 hok hk
        replace hk := hk.all
        have v0 := okVal hok (j := 0) rfl rfl
        have v1 := okVal hok (j := 1) rfl rfl
        have v2 := okVal hok (j := 2) rfl rfl
        have v3 := okVal hok (j := 3) rfl rfl
        have v4 := okVal hok (j := 4) rfl rfl
        obtain ⟨g17, v5, k17, l17⟩ := okRowB hok (i := 6) (j := 5) rfl rfl rfl rfl
        clear hok
        simp only [putL, Nat.zero_add, Nat.reduceAdd, v0, v1, v2, v3, v4, v5, Act.put, List.setIfInBounds_toArray, List.set_cons_zero, List.set_cons_succ]
        clear v0 v1 v2 v3 v4 v5
        replace l17 := Nat.le_trans hM l17
        replace f_g3 := f_g3.below (hk.below (nh0 rfl))
        replace f_g4 := f_g4.below (hk.below (nh0 rfl))
        replace f_g5 := f_g5.below (hk.below (nh0 rfl))
        replace f_g6 := f_g6.below (hk.below (nh0 rfl))
        replace f_g7 := f_g7.below (hk.below (nh0 rfl))
        replace f_g8 := f_g8.below (hk.below (nh0 rfl))
        replace f12 := f12.below (hk.below (nh0 rfl))
        replace f13 := f13.below (hk.below (nh0 rfl))
        replace f14 := f14.below (hk.below (nh0 rfl))
        replace f15 := f15.below (hk.below (nh0 rfl))
        replace f16 := f16.below (hk.below (nh0 rfl))
        have f17 : Blk g17 (rwA .i64 10 da) 134 x6 := k17
        clear k17
        replace hM := Nat.le_trans hM hk.size
        replace hB := hB.trans ((hk.below (nh0 rfl)).mono hB.size)
        clear hk
        go_upto_region 20 with (fail)
        refine region_all 7 (kdAt [.val (.agg (rwA .i64 10 A3)), .val (.agg (rwA .i64 10 C3)), .val (.agg (rwA .i64 10 c0)), .val (.agg (rwA .i64 10 b)), .val (.agg (rwA .i64 10 cb)), .new 134 Z10, .put 5 134 (rwA .i64 10 cb)]) [some 66, some 67, some 68, some 69, some 70, some 18, none] (by kernel_rfl) rfl (by kernel_rfl) (by kernel_rfl) (by kernel_rfl) (by kernel_rfl) ?_ ?_
        · repeat refine allS ?_ ?_
          · exact all0
          · exact stepLoad (.pointer (some ⟨g7, 0, none⟩)) rfl rfl rfl rfl (src_old (by kernel_rfl) rfl) (fun w hk => l10ld (f_g7.below (hk.below (nh0 rfl))))
          · exact stepLoad (.pointer (some ⟨g8, 0, none⟩)) rfl rfl rfl rfl (src_old (by kernel_rfl) rfl) (fun w hk => l10ld (f_g8.below (hk.below (nh0 rfl))))
          · exact stepCall (ks := [66, 67]) [.agg (rwA .i64 10 A3), .agg (rwA .i64 10 C3)] rfl rfl rfl rfl cfLadd rfl (src2 (src_new 0 (by decide) rfl rfl (by kernel_rfl)) (src_new 1 (by decide) rfl rfl (by kernel_rfl))) (fun w hk => lAdd_c A3 C3 c0 w Ec0.out MA3.out MC3.out)
          · exact stepLoad (.pointer (some ⟨g13, 0, none⟩)) rfl rfl rfl rfl (src_old (by kernel_rfl) rfl) (fun w hk => l10ld (f13.below (hk.below (nh0 rfl))))
          · exact stepCall (ks := [68, 69]) [.agg (rwA .i64 10 c0), .agg (rwA .i64 10 b)] rfl rfl rfl rfl cfLmul rfl (src2 (src_new 2 (by decide) rfl rfl (by kernel_rfl)) (src_new 3 (by decide) rfl rfl (by kernel_rfl))) (fun w hk => lMul_c c0 b cb w Ecb.out Mc0.out Mb.out)
          · exact stepNew rfl rfl rfl rfl alL
          · exact stepPut (Z := Z10) (d := 18) (k := 70) rfl rfl rfl rfl rfl (by decide) rfl (by kernel_rfl) rfl (z10sz cb) (src_new 4 (by decide) rfl rfl (by kernel_rfl)) (l10sz cb) (l10one cb) (uniq_of rfl)
        intro v x7 hok hk
        replace hk := hk.all
        have v0 := okVal hok (j := 0) rfl rfl
        have v1 := okVal hok (j := 1) rfl rfl
        have v2 := okVal hok (j := 2) rfl rfl
        have v3 := okVal hok (j := 3) rfl rfl
        have v4 := okVal hok (j := 4) rfl rfl
        obtain ⟨g18, v5, k18, l18⟩ := okRowB hok (i := 6) (j := 5) rfl rfl rfl rfl
        clear hok
        simp only [putL, Nat.zero_add, Nat.reduceAdd, v0, v1, v2, v3, v4, v5, Act.put, List.setIfInBounds_toArray, List.set_cons_zero, List.set_cons_succ]
        clear v0 v1 v2 v3 v4 v5
        clear f12
        clear f13
        replace l18 := Nat.le_trans hM l18
        replace f_g3 := f_g3.below (hk.below (nh0 rfl))
        replace f_g4 := f_g4.below (hk.below (nh0 rfl))
        replace f_g5 := f_g5.below (hk.below (nh0 rfl))
        replace f_g6 := f_g6.below (hk.below (nh0 rfl))
        replace f_g7 := f_g7.below (hk.below (nh0 rfl))
        replace f_g8 := f_g8.below (hk.below (nh0 rfl))
        replace f14 := f14.below (hk.below (nh0 rfl))
        replace f15 := f15.below (hk.below (nh0 rfl))
        replace f16 := f16.below (hk.below (nh0 rfl))
        replace f17 := f17.below (hk.below (nh0 rfl))
        have f18 : Blk g18 (rwA .i64 10 cb) 134 x7 := k18
        clear k18
        replace hM := Nat.le_trans hM hk.size
        replace hB := hB.trans ((hk.below (nh0 rfl)).mono hB.size)
        clear hk
        go_upto_region 21 with (fail)
        refine region_seq 5 (kdAt [.val (.agg (rwA .i64 10 da)), .val (.agg (rwA .i64 10 cb)), .val (.agg (rwA .i64 10 ss)), .new 134 Z10, .put 3 134 (rwA .i64 10 ss)]) [some 71, some 72, some 73, some 19, none] (by decide) (by kernel_rfl) (by kernel_rfl) (by kernel_rfl) (by kernel_rfl) ?_ ?_
        · repeat refine allS ?_ ?_
          · exact all0
          · exact stepLoad (.pointer (some ⟨g17, 0, none⟩)) rfl rfl rfl rfl (src_old (by kernel_rfl) rfl) (fun w hk => l10ld (f17.below (hk.below (nh0 rfl))))
          · exact stepLoad (.pointer (some ⟨g18, 0, none⟩)) rfl rfl rfl rfl (src_old (by kernel_rfl) rfl) (fun w hk => l10ld (f18.below (hk.below (nh0 rfl))))
          · exact stepCall (ks := [71, 72]) [.agg (rwA .i64 10 da), .agg (rwA .i64 10 cb)] rfl rfl rfl rfl cfLadd rfl (src2 (src_new 0 (by decide) rfl rfl (by kernel_rfl)) (src_new 1 (by decide) rfl rfl (by kernel_rfl))) (fun w hk => lAdd_c da cb ss w Ess.out Mda.out Mcb.out)
          · exact stepNew rfl rfl rfl rfl alL
          · exact stepPut (Z := Z10) (d := 19) (k := 73) rfl rfl rfl rfl rfl (by decide) rfl (by kernel_rfl) rfl (z10sz ss) (src_new 2 (by decide) rfl rfl (by kernel_rfl)) (l10sz ss) (l10one ss) (uniq_of rfl)
        intro v x8 hok hk
        replace hk := hk.all
        refine wpList_nil ?_
        have v0 := okVal hok (j := 0) rfl rfl
        have v1 := okVal hok (j := 1) rfl rfl
        have v2 := okVal hok (j := 2) rfl rfl
        obtain ⟨g19, v3, k19, l19⟩ := okRowB hok (i := 4) (j := 3) rfl rfl rfl rfl
        clear hok
        simp only [putL, Nat.zero_add, Nat.reduceAdd, v0, v1, v2, v3, Act.put, List.setIfInBounds_toArray, List.set_cons_zero, List.set_cons_succ]
        clear v0 v1 v2 v3
        replace l19 := Nat.le_trans hM l19
        replace f_g3 := f_g3.below (hk.below (nh0 rfl))
        replace f_g4 := f_g4.below (hk.below (nh0 rfl))
        replace f_g5 := f_g5.below (hk.below (nh0 rfl))
        replace f_g6 := f_g6.below (hk.below (nh0 rfl))
        replace f_g7 := f_g7.below (hk.below (nh0 rfl))
        replace f_g8 := f_g8.below (hk.below (nh0 rfl))
        replace f14 := f14.below (hk.below (nh0 rfl))
        replace f15 := f15.below (hk.below (nh0 rfl))
        replace f16 := f16.below (hk.below (nh0 rfl))
        replace f17 := f17.below (hk.below (nh0 rfl))
        replace f18 := f18.below (hk.below (nh0 rfl))
        have f19 : Blk g19 (rwA .i64 10 ss) 134 x8 := k19
        clear k19
        replace hM := Nat.le_trans hM hk.size
        replace hB := hB.trans ((hk.below (nh0 rfl)).mono hB.size)
        clear hk
        go_upto_region 22 with (fail)
        refine region_seq 5 (kdAt [.val (.agg (rwA .i64 10 da)), .val (.agg (rwA .i64 10 cb)), .val (.agg (rwA .i64 10 dd)), .new 134 Z10, .put 3 134 (rwA .i64 10 dd)]) [some 74, some 75, some 76, some 20, none] (by decide) (by kernel_rfl) (by kernel_rfl) (by kernel_rfl) (by kernel_rfl) ?_ ?_
        · repeat refine allS ?_ ?_
          · exact all0
          · exact stepLoad (.pointer (some ⟨g17, 0, none⟩)) rfl rfl rfl rfl (src_old (by kernel_rfl) rfl) (fun w hk => l10ld (f17.below (hk.below (nh0 rfl))))
          · exact stepLoad (.pointer (some ⟨g18, 0, none⟩)) rfl rfl rfl rfl (src_old (by kernel_rfl) rfl) (fun w hk => l10ld (f18.below (hk.below (nh0 rfl))))
          · exact stepCall (ks := [74, 75]) [.agg (rwA .i64 10 da), .agg (rwA .i64 10 cb)] rfl rfl rfl rfl cfLsub rfl (src2 (src_new 0 (by decide) rfl rfl (by kernel_rfl)) (src_new 1 (by decide) rfl rfl (by kernel_rfl))) (fun w hk => lSub_c da cb dd w Edd.out Mda.out Mcb.out)
          · exact stepNew rfl rfl rfl rfl alL
          · exact stepPut (Z := Z10) (d := 20) (k := 76) rfl rfl rfl rfl rfl (by decide) rfl (by kernel_rfl) rfl (z10sz dd) (src_new 2 (by decide) rfl rfl (by kernel_rfl)) (l10sz dd) (l10one dd) (uniq_of rfl)
        intro v x9 hok hk
        replace hk := hk.all
        refine wpList_nil ?_
        have v0 := okVal hok (j := 0) rfl rfl
        have v1 := okVal hok (j := 1) rfl rfl
        have v2 := okVal hok (j := 2) rfl rfl
        obtain ⟨g20, v3, k20, l20⟩ := okRowB hok (i := 4) (j := 3) rfl rfl rfl rfl
        clear hok
        simp only [putL, Nat.zero_add, Nat.reduceAdd, v0, v1, v2, v3, Act.put, List.setIfInBounds_toArray, List.set_cons_zero, List.set_cons_succ]
        clear v0 v1 v2 v3
        replace l20 := Nat.le_trans hM l20
        replace f_g3 := f_g3.below (hk.below (nh0 rfl))
        replace f_g4 := f_g4.below (hk.below (nh0 rfl))
        replace f_g5 := f_g5.below (hk.below (nh0 rfl))
        replace f_g6 := f_g6.below (hk.below (nh0 rfl))
        replace f_g7 := f_g7.below (hk.below (nh0 rfl))
        replace f_g8 := f_g8.below (hk.below (nh0 rfl))
        replace f14 := f14.below (hk.below (nh0 rfl))
        replace f15 := f15.below (hk.below (nh0 rfl))
        replace f16 := f16.below (hk.below (nh0 rfl))
        replace f17 := f17.below (hk.below (nh0 rfl))
        replace f18 := f18.below (hk.below (nh0 rfl))
        replace f19 := f19.below (hk.below (nh0 rfl))
        have f20 : Blk g20 (rwA .i64 10 dd) 134 x9 := k20
        clear k20
        replace hM := Nat.le_trans hM hk.size
        replace hB := hB.trans ((hk.below (nh0 rfl)).mono hB.size)
        clear hk
        go_upto_region 23 with (fail)
        refine region_seq 4 (kdAt [.val (.agg (rwA .i64 10 ss)), .val (.agg (rwA .i64 10 ss)), .val (.agg (rwA .i64 10 n3)), .old g7 134 (rwA .i64 10 n3)]) [some 77, some 78, some 79, none] (by decide) (by kernel_rfl) (by kernel_rfl) (by kernel_rfl) (by kernel_rfl) ?_ ?_
        · repeat refine allS ?_ ?_
          · exact all0
          · exact stepLoad (.pointer (some ⟨g19, 0, none⟩)) rfl rfl rfl rfl (src_old (by kernel_rfl) rfl) (fun w hk => l10ld (f19.kept hk (nh1 rfl (ne_new HL.out.2.2.2.1 l19))))
          · exact stepLoad (.pointer (some ⟨g19, 0, none⟩)) rfl rfl rfl rfl (src_old (by kernel_rfl) rfl) (fun w hk => l10ld (f19.kept hk (nh1 rfl (ne_new HL.out.2.2.2.1 l19))))
          · exact stepCall (ks := [77, 78]) [.agg (rwA .i64 10 ss), .agg (rwA .i64 10 ss)] rfl rfl rfl rfl cfLmul rfl (src2 (src_new 0 (by decide) rfl rfl (by kernel_rfl)) (src_new 1 (by decide) rfl rfl (by kernel_rfl))) (fun w hk => lMul_c ss ss n3 w En3.out Mss.out Mss.out)
          · exact stepOld (d := 7) (k := 79) rfl rfl rfl rfl rfl (src_old (by kernel_rfl) rfl) f_g7 (l10same _ _) (src_new 2 (by decide) rfl rfl (by kernel_rfl)) (l10sz n3) (l10one n3) (one_old rfl)
        intro v x10 hok hk
        replace hk := hk.all
        refine wpList_nil ?_
        have v0 := okVal hok (j := 0) rfl rfl
        have v1 := okVal hok (j := 1) rfl rfl
        have v2 := okVal hok (j := 2) rfl rfl
        have o3 := okOld hok (i := 3) rfl rfl
        clear hok
        simp only [putL, Nat.zero_add, Nat.reduceAdd, v0, v1, v2, Act.put, List.setIfInBounds_toArray, List.set_cons_zero, List.set_cons_succ]
        clear v0 v1 v2
        clear f17
        clear f18
        replace f_g3 := f_g3.kept hk (nh1 rfl HNE.out.g3g7)
        replace f_g4 := f_g4.kept hk (nh1 rfl HNE.out.g4g7)
        replace f_g5 := f_g5.kept hk (nh1 rfl HNE.out.g5g7)
        replace f_g6 := f_g6.kept hk (nh1 rfl HNE.out.g6g7)
        clear f_g7
        replace f_g8 := f_g8.kept hk (nh1 rfl HNE.out.g8g7)
        replace f14 := f14.kept hk (nh1 rfl (ne_new HL.out.2.2.2.1 l14))
        replace f15 := f15.kept hk (nh1 rfl (ne_new HL.out.2.2.2.1 l15))
        replace f16 := f16.kept hk (nh1 rfl (ne_new HL.out.2.2.2.1 l16))
        replace f19 := f19.kept hk (nh1 rfl (ne_new HL.out.2.2.2.1 l19))
        replace f20 := f20.kept hk (nh1 rfl (ne_new HL.out.2.2.2.1 l20))
        have f_g7 : Blk g7 (rwA .i64 10 n3) 134 x10 := o3
        clear o3
        replace hM := Nat.le_trans hM hk.size
        replace hB := hB.trans (hk.base hB.size (fun k hk => nh1 rfl (Nat.ne_of_lt (Nat.lt_of_lt_of_le hk HB0.out.2.2.2.1))))
        clear hk
        go_upto_region 24 with (fail)
        refine region_all 6 (kdAt [.val (.agg (rwA .i64 10 x)), .val (.agg (rwA .i64 10 dd)), .val (.agg (rwA .i64 10 dd)), .val (.agg (rwA .i64 10 d2)), .val (.agg (rwA .i64 10 m3)), .old g8 134 (rwA .i64 10 m3)]) [some 80, some 81, some 82, some 83, some 84, none] (by kernel_rfl) rfl (by kernel_rfl) (by kernel_rfl) (by kernel_rfl) (by kernel_rfl) ?_ ?_
        · repeat refine allS ?_ ?_
          · exact all0
          · exact stepLoad (.pointer (some ⟨g3, 0, none⟩)) rfl rfl rfl rfl (src_old (by kernel_rfl) rfl) (fun w hk => l10ld (f_g3.kept hk (nh1 rfl HNE.out.g3g8)))
          · exact stepLoad (.pointer (some ⟨g20, 0, none⟩)) rfl rfl rfl rfl (src_old (by kernel_rfl) rfl) (fun w hk => l10ld (f20.kept hk (nh1 rfl (ne_new HL.out.2.2.2.2 l20))))
          · exact stepLoad (.pointer (some ⟨g20, 0, none⟩)) rfl rfl rfl rfl (src_old (by kernel_rfl) rfl) (fun w hk => l10ld (f20.kept hk (nh1 rfl (ne_new HL.out.2.2.2.2 l20))))
          · exact stepCall (ks := [81, 82]) [.agg (rwA .i64 10 dd), .agg (rwA .i64 10 dd)] rfl rfl rfl rfl cfLmul rfl (src2 (src_new 1 (by decide) rfl rfl (by kernel_rfl)) (src_new 2 (by decide) rfl rfl (by kernel_rfl))) (fun w hk => lMul_c dd dd d2 w Ed2.out Mdd.out Mdd.out)
          · exact stepCall (ks := [80, 83]) [.agg (rwA .i64 10 x), .agg (rwA .i64 10 d2)] rfl rfl rfl rfl cfLmul rfl (src2 (src_new 0 (by decide) rfl rfl (by kernel_rfl)) (src_new 3 (by decide) rfl rfl (by kernel_rfl))) (fun w hk => lMul_c x d2 m3 w Em3.out Mx.out Md2.out)
          · exact stepOld (d := 8) (k := 84) rfl rfl rfl rfl rfl (src_old (by kernel_rfl) rfl) f_g8 (l10same _ _) (src_new 4 (by decide) rfl rfl (by kernel_rfl)) (l10sz m3) (l10one m3) (one_old rfl)
        intro v x11 hok hk
        replace hk := hk.all
        have v0 := okVal hok (j := 0) rfl rfl
        have v1 := okVal hok (j := 1) rfl rfl
        have v2 := okVal hok (j := 2) rfl rfl
        have v3 := okVal hok (j := 3) rfl rfl
        have v4 := okVal hok (j := 4) rfl rfl
        have o5 := okOld hok (i := 5) rfl rfl
        clear hok
        simp only [putL, Nat.zero_add, Nat.reduceAdd, v0, v1, v2, v3, v4, Act.put, List.setIfInBounds_toArray, List.set_cons_zero, List.set_cons_succ]
        clear v0 v1 v2 v3 v4
        clear f19
        clear f20
        replace f_g3 := f_g3.kept hk (nh1 rfl HNE.out.g3g8)
        replace f_g4 := f_g4.kept hk (nh1 rfl HNE.out.g4g8)
        replace f_g5 := f_g5.kept hk (nh1 rfl HNE.out.g5g8)
        replace f_g6 := f_g6.kept hk (nh1 rfl HNE.out.g6g8)
        clear f_g8
        replace f14 := f14.kept hk (nh1 rfl (ne_new HL.out.2.2.2.2 l14))
        replace f15 := f15.kept hk (nh1 rfl (ne_new HL.out.2.2.2.2 l15))
        replace f16 := f16.kept hk (nh1 rfl (ne_new HL.out.2.2.2.2 l16))
        replace f_g7 := f_g7.kept hk (nh1 rfl HNE.out.g7g8)
        have f_g8 : Blk g8 (rwA .i64 10 m3) 134 x11 := o5
        clear o5
        replace hM := Nat.le_trans hM hk.size
        replace hB := hB.trans (hk.base hB.size (fun k hk => nh1 rfl (Nat.ne_of_lt (Nat.lt_of_lt_of_le hk HB0.out.2.2.2.2))))
        clear hk
        go_upto_region 25 with (fail)
        refine region_seq 4 (kdAt [.val (.agg (rwA .i64 10 aa)), .val (.agg (rwA .i64 10 bb)), .val (.agg (rwA .i64 10 n2)), .old g5 134 (rwA .i64 10 n2)]) [some 85, some 86, some 87, none] (by decide) (by kernel_rfl) (by kernel_rfl) (by kernel_rfl) (by kernel_rfl) ?_ ?_
        · repeat refine allS ?_ ?_
          · exact all0
          · exact stepLoad (.pointer (some ⟨g14, 0, none⟩)) rfl rfl rfl rfl (src_old (by kernel_rfl) rfl) (fun w hk => l10ld (f14.kept hk (nh1 rfl (ne_new HL.out.2.1 l14))))
          · exact stepLoad (.pointer (some ⟨g15, 0, none⟩)) rfl rfl rfl rfl (src_old (by kernel_rfl) rfl) (fun w hk => l10ld (f15.kept hk (nh1 rfl (ne_new HL.out.2.1 l15))))
          · exact stepCall (ks := [85, 86]) [.agg (rwA .i64 10 aa), .agg (rwA .i64 10 bb)] rfl rfl rfl rfl cfLmul rfl (src2 (src_new 0 (by decide) rfl rfl (by kernel_rfl)) (src_new 1 (by decide) rfl rfl (by kernel_rfl))) (fun w hk => lMul_c aa bb n2 w En2.out Maa.out Mbb.out)
          · exact stepOld (d := 5) (k := 87) rfl rfl rfl rfl rfl (src_old (by kernel_rfl) rfl) f_g5 (l10same _ _) (src_new 2 (by decide) rfl rfl (by kernel_rfl)) (l10sz n2) (l10one n2) (one_old rfl)
        intro v x12 hok hk
        replace hk := hk.all
        refine wpList_nil ?_
        have v0 := okVal hok (j := 0) rfl rfl
        have v1 := okVal hok (j := 1) rfl rfl
        have v2 := okVal hok (j := 2) rfl rfl
        have o3 := okOld hok (i := 3) rfl rfl
        clear hok
        simp only [putL, Nat.zero_add, Nat.reduceAdd, v0, v1, v2, Act.put, List.setIfInBounds_toArray, List.set_cons_zero, List.set_cons_succ]
        clear v0 v1 v2
        replace f_g3 := f_g3.kept hk (nh1 rfl HNE.out.g3g5)
        replace f_g4 := f_g4.kept hk (nh1 rfl HNE.out.g4g5)
        clear f_g5
        replace f_g6 := f_g6.kept hk (nh1 rfl HNE.out.g6g5)
        replace f14 := f14.kept hk (nh1 rfl (ne_new HL.out.2.1 l14))
        replace f15 := f15.kept hk (nh1 rfl (ne_new HL.out.2.1 l15))
        replace f16 := f16.kept hk (nh1 rfl (ne_new HL.out.2.1 l16))
        replace f_g7 := f_g7.kept hk (nh1 rfl HNE.out.g7g5)
        replace f_g8 := f_g8.kept hk (nh1 rfl HNE.out.g8g5)
        have f_g5 : Blk g5 (rwA .i64 10 n2) 134 x12 := o3
        clear o3
        replace hM := Nat.le_trans hM hk.size
        replace hB := hB.trans (hk.base hB.size (fun k hk => nh1 rfl (Nat.ne_of_lt (Nat.lt_of_lt_of_le hk HB0.out.2.1))))
        clear hk
        go_upto_region 26 with (fail)
        refine region_all 8 (kdAt [.val (.agg (rwA .i64 10 ee)), .val (.agg (rwA .i64 10 aa)), .val (.agg (rwA .i64 10 cF)), .val (.agg (rwA .i64 10 ee)), .val (.agg (rwA .i64 10 e1)), .val (.agg (rwA .i64 10 e2)), .val (.agg (rwA .i64 10 m2)), .old g6 134 (rwA .i64 10 m2)]) [some 88, some 89, some 90, some 91, some 92, some 93, some 94, none] (by kernel_rfl) rfl (by kernel_rfl) (by kernel_rfl) (by kernel_rfl) (by kernel_rfl) ?_ ?_
        · repeat refine allS ?_ ?_
          · exact all0
          · exact stepLoad (.pointer (some ⟨g16, 0, none⟩)) rfl rfl rfl rfl (src_old (by kernel_rfl) rfl) (fun w hk => l10ld (f16.kept hk (nh1 rfl (ne_new HL.out.2.2.1 l16))))
          · exact stepLoad (.pointer (some ⟨g14, 0, none⟩)) rfl rfl rfl rfl (src_old (by kernel_rfl) rfl) (fun w hk => l10ld (f14.kept hk (nh1 rfl (ne_new HL.out.2.2.1 l14))))
          · exact stepBuild [] #[(0, .int .i64 121665)] rfl rfl rfl rfl (fun p hp => by cases hp) (fun a ha => by simp [Act.eval]) (fun w => bCF w)
          · exact stepLoad (.pointer (some ⟨g16, 0, none⟩)) rfl rfl rfl rfl (src_old (by kernel_rfl) rfl) (fun w hk => l10ld (f16.kept hk (nh1 rfl (ne_new HL.out.2.2.1 l16))))
          · exact stepCall (ks := [90, 91]) [.agg (rwA .i64 10 cF), .agg (rwA .i64 10 ee)] rfl rfl rfl rfl cfLmul rfl (src2 (src_new 2 (by decide) rfl rfl (by kernel_rfl)) (src_new 3 (by decide) rfl rfl (by kernel_rfl))) (fun w hk => lMul_c cF ee e1 w Ee1.out McF.out Mee.out)
          · exact stepCall (ks := [89, 92]) [.agg (rwA .i64 10 aa), .agg (rwA .i64 10 e1)] rfl rfl rfl rfl cfLadd rfl (src2 (src_new 1 (by decide) rfl rfl (by kernel_rfl)) (src_new 4 (by decide) rfl rfl (by kernel_rfl))) (fun w hk => lAdd_c aa e1 e2 w Ee2.out Maa.out Me1.out)
          · exact stepCall (ks := [88, 93]) [.agg (rwA .i64 10 ee), .agg (rwA .i64 10 e2)] rfl rfl rfl rfl cfLmul rfl (src2 (src_new 0 (by decide) rfl rfl (by kernel_rfl)) (src_new 5 (by decide) rfl rfl (by kernel_rfl))) (fun w hk => lMul_c ee e2 m2 w Em2.out Mee.out Me2.out)
          · exact stepOld (d := 6) (k := 94) rfl rfl rfl rfl rfl (src_old (by kernel_rfl) rfl) f_g6 (l10same _ _) (src_new 6 (by decide) rfl rfl (by kernel_rfl)) (l10sz m2) (l10one m2) (one_old rfl)
        intro v x13 hok hk
        replace hk := hk.all
        have v0 := okVal hok (j := 0) rfl rfl
        have v1 := okVal hok (j := 1) rfl rfl
        have v2 := okVal hok (j := 2) rfl rfl
        have v3 := okVal hok (j := 3) rfl rfl
        have v4 := okVal hok (j := 4) rfl rfl
        have v5 := okVal hok (j := 5) rfl rfl
        have v6 := okVal hok (j := 6) rfl rfl
        have o7 := okOld hok (i := 7) rfl rfl
        clear hok
        simp only [putL, Nat.zero_add, Nat.reduceAdd, v0, v1, v2, v3, v4, v5, v6, Act.put, List.setIfInBounds_toArray, List.set_cons_zero, List.set_cons_succ]
        clear v0 v1 v2 v3 v4 v5 v6
        replace f_g3 := f_g3.kept hk (nh1 rfl HNE.out.g3g6)
        replace f_g4 := f_g4.kept hk (nh1 rfl HNE.out.g4g6)
        clear f_g6
        replace f14 := f14.kept hk (nh1 rfl (ne_new HL.out.2.2.1 l14))
        replace f15 := f15.kept hk (nh1 rfl (ne_new HL.out.2.2.1 l15))
        replace f16 := f16.kept hk (nh1 rfl (ne_new HL.out.2.2.1 l16))
        replace f_g7 := f_g7.kept hk (nh1 rfl HNE.out.g7g6)
        replace f_g8 := f_g8.kept hk (nh1 rfl HNE.out.g8g6)
        replace f_g5 := f_g5.kept hk (nh1 rfl HNE.out.g5g6)
        have f_g6 : Blk g6 (rwA .i64 10 m2) 134 x13 := o7
        clear o7
        replace hM := Nat.le_trans hM hk.size
        replace hB := hB.trans (hk.base hB.size (fun k hk => nh1 rfl (Nat.ne_of_lt (Nat.lt_of_lt_of_le hk HB0.out.2.2.1))))
        clear hk
        go_wp2_with fail
        go_roundw
        case rel => exact ⟨m, B, n2, m2, n3, m3, by have := HJ.out; omega, HBL.out, by go_num, rfl, lowHf Ln2.out, lowHf Lm2.out, lowHf Ln3.out, lowHf Lm3.out, HNX.out, f_g3, f_g4, f_g5, f_g6, f_g7, f_g8, hB⟩
        case measure => first | (simp [intOf]; omega) | simp [intOf]
      · have hne : ((B : Int) != (L : Int)) = true := by simp; omega
        have HRel := Lib.hid ((HSW.out B HBL.out).2 hsw)
        have FA2 := Lib.hid HF.out.2.2.1
        have FC2 := Lib.hid HF.out.2.2.2
        have FA3 := Lib.hid HF.out.1
        have FC3 := Lib.hid HF.out.2.1
        clear HSW HF hsw
        generalize x3 = A2 at *
        generalize z3 = C2 at *
        generalize x2 = A3 at *
        generalize z2 = C3 at *
        have f7' := f_g7.row (ds := rwA .i64 10 A2) HNE.out.g7g5
        go_upto_region 12 with (first
          | with_reducible refine wpList_load_row (o := ⟨some 41, _, _, _, _, _⟩) rfl 134 _ rfl g7 rfl 134 (rwA .i64 10 A2) (0, 0) (.array 10 2) f_g7.h Tryd.underlying134 rfl (l10sz _) ?_
          | with_reducible refine wpList_load_row (o := ⟨some 42, _, _, _, _, _⟩) rfl 134 _ rfl g5 rfl 134 (rwA .i64 10 A3) (0, 0) (.array 10 2) f_g5.h Tryd.underlying134 rfl (l10sz _) ?_
          | with_reducible refine wpList_store_row (o := ⟨none, .store 134 _ _, _, _, _, _⟩) rfl 134 _ _ rfl g5 (rwA .i64 10 A2) rfl rfl 134 (rwA .i64 10 A3) f_g5.h (l10sz _) (l10same _ _) (l10one _) ?_
          | with_reducible refine wpList_store_row (o := ⟨none, .store 134 _ _, _, _, _, _⟩) rfl 134 _ _ rfl g7 (rwA .i64 10 A3) rfl rfl 134 (rwA .i64 10 A2) f7'.h (l10sz _) (l10same _ _) (l10one _) ?_)
        have q5 : Blk g5 (rwA .i64 10 A2) 134 ((wr.setRow g5 (rwA .i64 10 A2)).setRow g7 (rwA .i64 10 A3)) := Blk.row (setRow_heap wr g5 _ _ _ (0, 0) f_g5) HNE.out.g5g7
        have q7 : Blk g7 (rwA .i64 10 A3) 134 ((wr.setRow g5 (rwA .i64 10 A2)).setRow g7 (rwA .i64 10 A3)) := setRow_heap _ g7 _ _ _ (0, 0) f7'
        replace f_g3 := (f_g3.row (ds := rwA .i64 10 A2) HNE.out.g3g5).row (ds := rwA .i64 10 A3) HNE.out.g3g7
        replace f_g4 := (f_g4.row (ds := rwA .i64 10 A2) HNE.out.g4g5).row (ds := rwA .i64 10 A3) HNE.out.g4g7
        replace f_g6 := (f_g6.row (ds := rwA .i64 10 A2) HNE.out.g6g5).row (ds := rwA .i64 10 A3) HNE.out.g6g7
        replace f_g8 := (f_g8.row (ds := rwA .i64 10 A2) HNE.out.g8g5).row (ds := rwA .i64 10 A3) HNE.out.g8g7
        replace hB := below_row (below_row hB HB0.out.2.1 (rwA .i64 10 A2)) HB0.out.2.2.2.1 (rwA .i64 10 A3)
        clear f_g5 f_g7 f7'
        generalize (wr.setRow g5 (rwA .i64 10 A2)).setRow g7 (rwA .i64 10 A3) = wr at *
        have f8' := f_g8.row (ds := rwA .i64 10 C2) HNE.out.g8g6
        go_upto_region 14 with (first
          | with_reducible refine wpList_load_row (o := ⟨some 43, _, _, _, _, _⟩) rfl 134 _ rfl g8 rfl 134 (rwA .i64 10 C2) (0, 0) (.array 10 2) f_g8.h Tryd.underlying134 rfl (l10sz _) ?_
          | with_reducible refine wpList_load_row (o := ⟨some 44, _, _, _, _, _⟩) rfl 134 _ rfl g6 rfl 134 (rwA .i64 10 C3) (0, 0) (.array 10 2) f_g6.h Tryd.underlying134 rfl (l10sz _) ?_
          | with_reducible refine wpList_store_row (o := ⟨none, .store 134 _ _, _, _, _, _⟩) rfl 134 _ _ rfl g6 (rwA .i64 10 C2) rfl rfl 134 (rwA .i64 10 C3) f_g6.h (l10sz _) (l10same _ _) (l10one _) ?_
          | with_reducible refine wpList_store_row (o := ⟨none, .store 134 _ _, _, _, _, _⟩) rfl 134 _ _ rfl g8 (rwA .i64 10 C3) rfl rfl 134 (rwA .i64 10 C2) f8'.h (l10sz _) (l10same _ _) (l10one _) ?_)
        have q6 : Blk g6 (rwA .i64 10 C2) 134 ((wr.setRow g6 (rwA .i64 10 C2)).setRow g8 (rwA .i64 10 C3)) := Blk.row (setRow_heap wr g6 _ _ _ (0, 0) f_g6) HNE.out.g6g8
        have q8 : Blk g8 (rwA .i64 10 C3) 134 ((wr.setRow g6 (rwA .i64 10 C2)).setRow g8 (rwA .i64 10 C3)) := setRow_heap _ g8 _ _ _ (0, 0) f8'
        replace f_g3 := (f_g3.row (ds := rwA .i64 10 C2) HNE.out.g3g6).row (ds := rwA .i64 10 C3) HNE.out.g3g8
        replace f_g4 := (f_g4.row (ds := rwA .i64 10 C2) HNE.out.g4g6).row (ds := rwA .i64 10 C3) HNE.out.g4g8
        have f_g5 := (q5.row (ds := rwA .i64 10 C2) HNE.out.g5g6).row (ds := rwA .i64 10 C3) HNE.out.g5g8
        have f_g7 := (q7.row (ds := rwA .i64 10 C2) HNE.out.g7g6).row (ds := rwA .i64 10 C3) HNE.out.g7g8
        replace hB := below_row (below_row hB HB0.out.2.2.1 (rwA .i64 10 C2)) HB0.out.2.2.2.2 (rwA .i64 10 C3)
        clear f_g6 f_g8 f8' q5 q7
        have f_g6 := q6
        have f_g8 := q8
        clear q6 q8
        generalize (wr.setRow g6 (rwA .i64 10 C2)).setRow g8 (rwA .i64 10 C3) = wr at *
        clear hne hbit
        have MA2 := Lib.hid FA2.out.mid
        have hM : wr.heap.size ≤ wr.heap.size := Nat.le_refl _
        have HL := Lib.hid (show g4 < wr.heap.size ∧ g5 < wr.heap.size ∧ g6 < wr.heap.size ∧ g7 < wr.heap.size ∧ g8 < wr.heap.size from ⟨f_g4.lt, f_g5.lt, f_g6.lt, f_g7.lt, f_g8.lt⟩)
        have MC2 := Lib.hid FC2.out.mid
        have MA3 := Lib.hid FA3.out.mid
        have MC3 := Lib.hid FC3.out.mid
        obtain ⟨a, ea⟩ : ∃ f : Nat → Int, f = fun q => A2 q + C2 q := ⟨_, rfl⟩
        have Ea := Lib.hid ea
        have Ma : Hid (Mid a) := by show Mid _; rw [ea]; exact Hf.add FA2.out FC2.out
        have Ra : Hid (rN a = fAd (rN A2) (rN C2)) := by show _ = _; rw [ea]; exact rN_addL _ _
        clear ea
        obtain ⟨b, eb⟩ : ∃ f : Nat → Int, f = fun q => A2 q - C2 q := ⟨_, rfl⟩
        have Eb := Lib.hid eb
        have Mb : Hid (Mid b) := by show Mid _; rw [eb]; exact Hf.sub FA2.out FC2.out
        have Rb : Hid (rN b = fSb (rN A2) (rN C2)) := by show _ = _; rw [eb]; exact rN_subL _ _
        clear eb
        obtain ⟨aa, eaa⟩ : ∃ f : Nat → Int, f = mulL a a := ⟨_, rfl⟩
        have Eaa := Lib.hid eaa
        have Laa : Hid (Low aa) := by show Low _; rw [eaa]; exact mulL_low _ _ Ma.out Ma.out
        have Maa : Hid (Mid aa) := Laa.out.mid
        have Raa : Hid (rN aa = fMu (rN a) (rN a)) := by show _ = _; rw [eaa]; exact rN_prodL _ _
        clear eaa
        obtain ⟨bb, ebb⟩ : ∃ f : Nat → Int, f = mulL b b := ⟨_, rfl⟩
        have Ebb := Lib.hid ebb
        have Lbb : Hid (Low bb) := by show Low _; rw [ebb]; exact mulL_low _ _ Mb.out Mb.out
        have Mbb : Hid (Mid bb) := Lbb.out.mid
        have Rbb : Hid (rN bb = fMu (rN b) (rN b)) := by show _ = _; rw [ebb]; exact rN_prodL _ _
        clear ebb
        obtain ⟨ee, eee⟩ : ∃ f : Nat → Int, f = fun q => aa q - bb q := ⟨_, rfl⟩
        have Eee := Lib.hid eee
        have Mee : Hid (Mid ee) := by show Mid _; rw [eee]; exact Hf.sub (lowHf Laa.out) (lowHf Lbb.out)
        have Ree : Hid (rN ee = fSb (rN aa) (rN bb)) := by show _ = _; rw [eee]; exact rN_subL _ _
        clear eee
        obtain ⟨d0, ed0⟩ : ∃ f : Nat → Int, f = fun q => A3 q - C3 q := ⟨_, rfl⟩
        have Ed0 := Lib.hid ed0
        have Md0 : Hid (Mid d0) := by show Mid _; rw [ed0]; exact Hf.sub FA3.out FC3.out
        have Rd0 : Hid (rN d0 = fSb (rN A3) (rN C3)) := by show _ = _; rw [ed0]; exact rN_subL _ _
        clear ed0
        obtain ⟨da, eda⟩ : ∃ f : Nat → Int, f = mulL d0 a := ⟨_, rfl⟩
        have Eda := Lib.hid eda
        have Lda : Hid (Low da) := by show Low _; rw [eda]; exact mulL_low _ _ Md0.out Ma.out
        have Mda : Hid (Mid da) := Lda.out.mid
        have Rda : Hid (rN da = fMu (rN d0) (rN a)) := by show _ = _; rw [eda]; exact rN_prodL _ _
        clear eda
        obtain ⟨c0, ec0⟩ : ∃ f : Nat → Int, f = fun q => A3 q + C3 q := ⟨_, rfl⟩
        have Ec0 := Lib.hid ec0
        have Mc0 : Hid (Mid c0) := by show Mid _; rw [ec0]; exact Hf.add FA3.out FC3.out
        have Rc0 : Hid (rN c0 = fAd (rN A3) (rN C3)) := by show _ = _; rw [ec0]; exact rN_addL _ _
        clear ec0
        obtain ⟨cb, ecb⟩ : ∃ f : Nat → Int, f = mulL c0 b := ⟨_, rfl⟩
        have Ecb := Lib.hid ecb
        have Lcb : Hid (Low cb) := by show Low _; rw [ecb]; exact mulL_low _ _ Mc0.out Mb.out
        have Mcb : Hid (Mid cb) := Lcb.out.mid
        have Rcb : Hid (rN cb = fMu (rN c0) (rN b)) := by show _ = _; rw [ecb]; exact rN_prodL _ _
        clear ecb
        obtain ⟨ss, ess⟩ : ∃ f : Nat → Int, f = fun q => da q + cb q := ⟨_, rfl⟩
        have Ess := Lib.hid ess
        have Mss : Hid (Mid ss) := by show Mid _; rw [ess]; exact Hf.add (lowHf Lda.out) (lowHf Lcb.out)
        have Rss : Hid (rN ss = fAd (rN da) (rN cb)) := by show _ = _; rw [ess]; exact rN_addL _ _
        clear ess
        obtain ⟨dd, edd⟩ : ∃ f : Nat → Int, f = fun q => da q - cb q := ⟨_, rfl⟩
        have Edd := Lib.hid edd
        have Mdd : Hid (Mid dd) := by show Mid _; rw [edd]; exact Hf.sub (lowHf Lda.out) (lowHf Lcb.out)
        have Rdd : Hid (rN dd = fSb (rN da) (rN cb)) := by show _ = _; rw [edd]; exact rN_subL _ _
        clear edd
        obtain ⟨n3, en3⟩ : ∃ f : Nat → Int, f = mulL ss ss := ⟨_, rfl⟩
        have En3 := Lib.hid en3
        have Ln3 : Hid (Low n3) := by show Low _; rw [en3]; exact mulL_low _ _ Mss.out Mss.out
        have Mn3 : Hid (Mid n3) := Ln3.out.mid
        have Rn3 : Hid (rN n3 = fMu (rN ss) (rN ss)) := by show _ = _; rw [en3]; exact rN_prodL _ _
        clear en3
        obtain ⟨d2, ed2⟩ : ∃ f : Nat → Int, f = mulL dd dd := ⟨_, rfl⟩
        have Ed2 := Lib.hid ed2
        have Ld2 : Hid (Low d2) := by show Low _; rw [ed2]; exact mulL_low _ _ Mdd.out Mdd.out
        have Md2 : Hid (Mid d2) := Ld2.out.mid
        have Rd2 : Hid (rN d2 = fMu (rN dd) (rN dd)) := by show _ = _; rw [ed2]; exact rN_prodL _ _
        clear ed2
        obtain ⟨m3, em3⟩ : ∃ f : Nat → Int, f = mulL x d2 := ⟨_, rfl⟩
        have Em3 := Lib.hid em3
        have Lm3 : Hid (Low m3) := by show Low _; rw [em3]; exact mulL_low _ _ Mx.out Md2.out
        have Mm3 : Hid (Mid m3) := Lm3.out.mid
        have Rm3 : Hid (rN m3 = fMu (rN x) (rN d2)) := by show _ = _; rw [em3]; exact rN_prodL _ _
        clear em3
        obtain ⟨n2, en2⟩ : ∃ f : Nat → Int, f = mulL aa bb := ⟨_, rfl⟩
        have En2 := Lib.hid en2
        have Ln2 : Hid (Low n2) := by show Low _; rw [en2]; exact mulL_low _ _ Maa.out Mbb.out
        have Mn2 : Hid (Mid n2) := Ln2.out.mid
        have Rn2 : Hid (rN n2 = fMu (rN aa) (rN bb)) := by show _ = _; rw [en2]; exact rN_prodL _ _
        clear en2
        obtain ⟨e1, ee1⟩ : ∃ f : Nat → Int, f = mulL cF ee := ⟨_, rfl⟩
        have Ee1 := Lib.hid ee1
        have Le1 : Hid (Low e1) := by show Low _; rw [ee1]; exact mulL_low _ _ McF.out Mee.out
        have Me1 : Hid (Mid e1) := Le1.out.mid
        have Re1 : Hid (rN e1 = fMu (rN cF) (rN ee)) := by show _ = _; rw [ee1]; exact rN_prodL _ _
        clear ee1
        obtain ⟨e2, ee2⟩ : ∃ f : Nat → Int, f = fun q => aa q + e1 q := ⟨_, rfl⟩
        have Ee2 := Lib.hid ee2
        have Me2 : Hid (Mid e2) := by show Mid _; rw [ee2]; exact Hf.add (lowHf Laa.out) (lowHf Le1.out)
        have Re2 : Hid (rN e2 = fAd (rN aa) (rN e1)) := by show _ = _; rw [ee2]; exact rN_addL _ _
        clear ee2
        obtain ⟨m2, em2⟩ : ∃ f : Nat → Int, f = mulL ee e2 := ⟨_, rfl⟩
        have Em2 := Lib.hid em2
        have Lm2 : Hid (Low m2) := by show Low _; rw [em2]; exact mulL_low _ _ Mee.out Me2.out
        have Mm2 : Hid (Mid m2) := Lm2.out.mid
        have Rm2 : Hid (rN m2 = fMu (rN ee) (rN e2)) := by show _ = _; rw [em2]; exact rN_prodL _ _
        clear em2
        have HSP : Hid ((rN n2, rN m2) = (stepN (rN A2, rN C2) (rN A3, rN C3) (rN x)).1 ∧ (rN n3, rN m3) = (stepN (rN A2, rN C2) (rN A3, rN C3) (rN x)).2) := by
          show _ ∧ _
          rw [Rn2.out, Rm2.out, Re2.out, Re1.out, Rn3.out, Rm3.out, Rd2.out, Rss.out, Rdd.out, Rda.out, Rcb.out, Rd0.out, Rc0.out, Ree.out, Raa.out, Rbb.out, Ra.out, Rb.out, cF_rN, fMu_comm 121665]
          exact ⟨rfl, rfl⟩
        have HNX : Hid (LadRel B (ladN n (rN x) (255 - m)) n2 m2 n3 m3) := by
          show LadRel _ _ _ _ _ _
          have h1 := HSP.out
          rw [HRel.out.1, HRel.out.2] at h1
          unfold LadRel
          rw [HS.out]
          by_cases c : B = 1
          · rw [if_pos c] at h1 ⊢
            rw [if_pos c, if_pos c] at *
            exact h1
          · rw [if_neg c] at h1 ⊢
            rw [if_neg c, if_neg c] at *
            exact h1
        go_upto_region 14 with (fail)
        refine region_seq 5 (kdAt [.val (.agg (rwA .i64 10 A2)), .val (.agg (rwA .i64 10 C2)), .val (.agg (rwA .i64 10 a)), .new 134 Z10, .put 3 134 (rwA .i64 10 a)]) [some 46, some 47, some 48, some 12, none] (by decide) (by kernel_rfl) (by kernel_rfl) (by kernel_rfl) (by kernel_rfl) ?_ ?_
        · repeat refine allS ?_ ?_
          · exact all0
          · exact stepLoad (.pointer (some ⟨g5, 0, none⟩)) rfl rfl rfl rfl (src_old (by kernel_rfl) rfl) (fun w hk => l10ld (f_g5.below (hk.below (nh0 rfl))))
          · exact stepLoad (.pointer (some ⟨g6, 0, none⟩)) rfl rfl rfl rfl (src_old (by kernel_rfl) rfl) (fun w hk => l10ld (f_g6.below (hk.below (nh0 rfl))))
          · exact stepCall (ks := [46, 47]) [.agg (rwA .i64 10 A2), .agg (rwA .i64 10 C2)] rfl rfl rfl rfl cfLadd rfl (src2 (src_new 0 (by decide) rfl rfl (by kernel_rfl)) (src_new 1 (by decide) rfl rfl (by kernel_rfl))) (fun w hk => lAdd_c A2 C2 a w Ea.out MA2.out MC2.out)
          · exact stepNew rfl rfl rfl rfl alL
          · exact stepPut (Z := Z10) (d := 12) (k := 48) rfl rfl rfl rfl rfl (by decide) rfl (by kernel_rfl) rfl (z10sz a) (src_new 2 (by decide) rfl rfl (by kernel_rfl)) (l10sz a) (l10one a) (uniq_of rfl)
        intro v x1 hok hk
        replace hk := hk.all
        refine wpList_nil ?_
        have v0 := okVal hok (j := 0) rfl rfl
        have v1 := okVal hok (j := 1) rfl rfl
        have v2 := okVal hok (j := 2) rfl rfl
        obtain ⟨g12, v3, k12, l12⟩ := okRowB hok (i := 4) (j := 3) rfl rfl rfl rfl
        clear hok
        simp only [putL, Nat.zero_add, Nat.reduceAdd, v0, v1, v2, v3, Act.put, List.setIfInBounds_toArray, List.set_cons_zero, List.set_cons_succ]
        clear v0 v1 v2 v3
        replace l12 := Nat.le_trans hM l12
        replace f_g3 := f_g3.below (hk.below (nh0 rfl))
        replace f_g4 := f_g4.below (hk.below (nh0 rfl))
        replace f_g5 := f_g5.below (hk.below (nh0 rfl))
        replace f_g6 := f_g6.below (hk.below (nh0 rfl))
        replace f_g7 := f_g7.below (hk.below (nh0 rfl))
        replace f_g8 := f_g8.below (hk.below (nh0 rfl))
        have f12 : Blk g12 (rwA .i64 10 a) 134 x1 := k12
        clear k12
        replace hM := Nat.le_trans hM hk.size
        replace hB := hB.trans ((hk.below (nh0 rfl)).mono hB.size)
        clear hk
        go_upto_region 15 with (fail)
        refine region_seq 5 (kdAt [.val (.agg (rwA .i64 10 A2)), .val (.agg (rwA .i64 10 C2)), .val (.agg (rwA .i64 10 b)), .new 134 Z10, .put 3 134 (rwA .i64 10 b)]) [some 49, some 50, some 51, some 13, none] (by decide) (by kernel_rfl) (by kernel_rfl) (by kernel_rfl) (by kernel_rfl) ?_ ?_
        · repeat refine allS ?_ ?_
          · exact all0
          · exact stepLoad (.pointer (some ⟨g5, 0, none⟩)) rfl rfl rfl rfl (src_old (by kernel_rfl) rfl) (fun w hk => l10ld (f_g5.below (hk.below (nh0 rfl))))
          · exact stepLoad (.pointer (some ⟨g6, 0, none⟩)) rfl rfl rfl rfl (src_old (by kernel_rfl) rfl) (fun w hk => l10ld (f_g6.below (hk.below (nh0 rfl))))
          · exact stepCall (ks := [49, 50]) [.agg (rwA .i64 10 A2), .agg (rwA .i64 10 C2)] rfl rfl rfl rfl cfLsub rfl (src2 (src_new 0 (by decide) rfl rfl (by kernel_rfl)) (src_new 1 (by decide) rfl rfl (by kernel_rfl))) (fun w hk => lSub_c A2 C2 b w Eb.out MA2.out MC2.out)
          · exact stepNew rfl rfl rfl rfl alL
          · exact stepPut (Z := Z10) (d := 13) (k := 51) rfl rfl rfl rfl rfl (by decide) rfl (by kernel_rfl) rfl (z10sz b) (src_new 2 (by decide) rfl rfl (by kernel_rfl)) (l10sz b) (l10one b) (uniq_of rfl)
        intro v x2 hok hk
        replace hk := hk.all
        refine wpList_nil ?_
        have v0 := okVal hok (j := 0) rfl rfl
        have v1 := okVal hok (j := 1) rfl rfl
        have v2 := okVal hok (j := 2) rfl rfl
        obtain ⟨g13, v3, k13, l13⟩ := okRowB hok (i := 4) (j := 3) rfl rfl rfl rfl
        clear hok
        simp only [putL, Nat.zero_add, Nat.reduceAdd, v0, v1, v2, v3, Act.put, List.setIfInBounds_toArray, List.set_cons_zero, List.set_cons_succ]
        clear v0 v1 v2 v3
        replace l13 := Nat.le_trans hM l13
        replace f_g3 := f_g3.below (hk.below (nh0 rfl))
        replace f_g4 := f_g4.below (hk.below (nh0 rfl))
        replace f_g5 := f_g5.below (hk.below (nh0 rfl))
        replace f_g6 := f_g6.below (hk.below (nh0 rfl))
        replace f_g7 := f_g7.below (hk.below (nh0 rfl))
        replace f_g8 := f_g8.below (hk.below (nh0 rfl))
        replace f12 := f12.below (hk.below (nh0 rfl))
        have f13 : Blk g13 (rwA .i64 10 b) 134 x2 := k13
        clear k13
        replace hM := Nat.le_trans hM hk.size
        replace hB := hB.trans ((hk.below (nh0 rfl)).mono hB.size)
        clear hk
        go_upto_region 16 with (fail)
        refine region_seq 5 (kdAt [.val (.agg (rwA .i64 10 a)), .val (.agg (rwA .i64 10 a)), .val (.agg (rwA .i64 10 aa)), .new 134 Z10, .put 3 134 (rwA .i64 10 aa)]) [some 52, some 53, some 54, some 14, none] (by decide) (by kernel_rfl) (by kernel_rfl) (by kernel_rfl) (by kernel_rfl) ?_ ?_
        · repeat refine allS ?_ ?_
          · exact all0
          · exact stepLoad (.pointer (some ⟨g12, 0, none⟩)) rfl rfl rfl rfl (src_old (by kernel_rfl) rfl) (fun w hk => l10ld (f12.below (hk.below (nh0 rfl))))
          · exact stepLoad (.pointer (some ⟨g12, 0, none⟩)) rfl rfl rfl rfl (src_old (by kernel_rfl) rfl) (fun w hk => l10ld (f12.below (hk.below (nh0 rfl))))
          · exact stepCall (ks := [52, 53]) [.agg (rwA .i64 10 a), .agg (rwA .i64 10 a)] rfl rfl rfl rfl cfLmul rfl (src2 (src_new 0 (by decide) rfl rfl (by kernel_rfl)) (src_new 1 (by decide) rfl rfl (by kernel_rfl))) (fun w hk => lMul_c a a aa w Eaa.out Ma.out Ma.out)
          · exact stepNew rfl rfl rfl rfl alL
          · exact stepPut (Z := Z10) (d := 14) (k := 54) rfl rfl rfl rfl rfl (by decide) rfl (by kernel_rfl) rfl (z10sz aa) (src_new 2 (by decide) rfl rfl (by kernel_rfl)) (l10sz aa) (l10one aa) (uniq_of rfl)
        intro v x3 hok hk
        replace hk := hk.all
        refine wpList_nil ?_
        have v0 := okVal hok (j := 0) rfl rfl
        have v1 := okVal hok (j := 1) rfl rfl
        have v2 := okVal hok (j := 2) rfl rfl
        obtain ⟨g14, v3, k14, l14⟩ := okRowB hok (i := 4) (j := 3) rfl rfl rfl rfl
        clear hok
        simp only [putL, Nat.zero_add, Nat.reduceAdd, v0, v1, v2, v3, Act.put, List.setIfInBounds_toArray, List.set_cons_zero, List.set_cons_succ]
        clear v0 v1 v2 v3
        replace l14 := Nat.le_trans hM l14
        replace f_g3 := f_g3.below (hk.below (nh0 rfl))
        replace f_g4 := f_g4.below (hk.below (nh0 rfl))
        replace f_g5 := f_g5.below (hk.below (nh0 rfl))
        replace f_g6 := f_g6.below (hk.below (nh0 rfl))
        replace f_g7 := f_g7.below (hk.below (nh0 rfl))
        replace f_g8 := f_g8.below (hk.below (nh0 rfl))
        replace f12 := f12.below (hk.below (nh0 rfl))
        replace f13 := f13.below (hk.below (nh0 rfl))
        have f14 : Blk g14 (rwA .i64 10 aa) 134 x3 := k14
        clear k14
        replace hM := Nat.le_trans hM hk.size
        replace hB := hB.trans ((hk.below (nh0 rfl)).mono hB.size)
        clear hk
        go_upto_region 17 with (fail)
        refine region_seq 5 (kdAt [.val (.agg (rwA .i64 10 b)), .val (.agg (rwA .i64 10 b)), .val (.agg (rwA .i64 10 bb)), .new 134 Z10, .put 3 134 (rwA .i64 10 bb)]) [some 55, some 56, some 57, some 15, none] (by decide) (by kernel_rfl) (by kernel_rfl) (by kernel_rfl) (by kernel_rfl) ?_ ?_
        · repeat refine allS ?_ ?_
          · exact all0
          · exact stepLoad (.pointer (some ⟨g13, 0, none⟩)) rfl rfl rfl rfl (src_old (by kernel_rfl) rfl) (fun w hk => l10ld (f13.below (hk.below (nh0 rfl))))
          · exact stepLoad (.pointer (some ⟨g13, 0, none⟩)) rfl rfl rfl rfl (src_old (by kernel_rfl) rfl) (fun w hk => l10ld (f13.below (hk.below (nh0 rfl))))
          · exact stepCall (ks := [55, 56]) [.agg (rwA .i64 10 b), .agg (rwA .i64 10 b)] rfl rfl rfl rfl cfLmul rfl (src2 (src_new 0 (by decide) rfl rfl (by kernel_rfl)) (src_new 1 (by decide) rfl rfl (by kernel_rfl))) (fun w hk => lMul_c b b bb w Ebb.out Mb.out Mb.out)
          · exact stepNew rfl rfl rfl rfl alL
          · exact stepPut (Z := Z10) (d := 15) (k := 57) rfl rfl rfl rfl rfl (by decide) rfl (by kernel_rfl) rfl (z10sz bb) (src_new 2 (by decide) rfl rfl (by kernel_rfl)) (l10sz bb) (l10one bb) (uniq_of rfl)
        intro v x4 hok hk
        replace hk := hk.all
        refine wpList_nil ?_
        have v0 := okVal hok (j := 0) rfl rfl
        have v1 := okVal hok (j := 1) rfl rfl
        have v2 := okVal hok (j := 2) rfl rfl
        obtain ⟨g15, v3, k15, l15⟩ := okRowB hok (i := 4) (j := 3) rfl rfl rfl rfl
        clear hok
        simp only [putL, Nat.zero_add, Nat.reduceAdd, v0, v1, v2, v3, Act.put, List.setIfInBounds_toArray, List.set_cons_zero, List.set_cons_succ]
        clear v0 v1 v2 v3
        replace l15 := Nat.le_trans hM l15
        replace f_g3 := f_g3.below (hk.below (nh0 rfl))
        replace f_g4 := f_g4.below (hk.below (nh0 rfl))
        replace f_g5 := f_g5.below (hk.below (nh0 rfl))
        replace f_g6 := f_g6.below (hk.below (nh0 rfl))
        replace f_g7 := f_g7.below (hk.below (nh0 rfl))
        replace f_g8 := f_g8.below (hk.below (nh0 rfl))
        replace f12 := f12.below (hk.below (nh0 rfl))
        replace f13 := f13.below (hk.below (nh0 rfl))
        replace f14 := f14.below (hk.below (nh0 rfl))
        have f15 : Blk g15 (rwA .i64 10 bb) 134 x4 := k15
        clear k15
        replace hM := Nat.le_trans hM hk.size
        replace hB := hB.trans ((hk.below (nh0 rfl)).mono hB.size)
        clear hk
        go_upto_region 18 with (fail)
        refine region_seq 5 (kdAt [.val (.agg (rwA .i64 10 aa)), .val (.agg (rwA .i64 10 bb)), .val (.agg (rwA .i64 10 ee)), .new 134 Z10, .put 3 134 (rwA .i64 10 ee)]) [some 58, some 59, some 60, some 16, none] (by decide) (by kernel_rfl) (by kernel_rfl) (by kernel_rfl) (by kernel_rfl) ?_ ?_
        · repeat refine allS ?_ ?_
          · exact all0
          · exact stepLoad (.pointer (some ⟨g14, 0, none⟩)) rfl rfl rfl rfl (src_old (by kernel_rfl) rfl) (fun w hk => l10ld (f14.below (hk.below (nh0 rfl))))
          · exact stepLoad (.pointer (some ⟨g15, 0, none⟩)) rfl rfl rfl rfl (src_old (by kernel_rfl) rfl) (fun w hk => l10ld (f15.below (hk.below (nh0 rfl))))
          · exact stepCall (ks := [58, 59]) [.agg (rwA .i64 10 aa), .agg (rwA .i64 10 bb)] rfl rfl rfl rfl cfLsub rfl (src2 (src_new 0 (by decide) rfl rfl (by kernel_rfl)) (src_new 1 (by decide) rfl rfl (by kernel_rfl))) (fun w hk => lSub_c aa bb ee w Eee.out Maa.out Mbb.out)
          · exact stepNew rfl rfl rfl rfl alL
          · exact stepPut (Z := Z10) (d := 16) (k := 60) rfl rfl rfl rfl rfl (by decide) rfl (by kernel_rfl) rfl (z10sz ee) (src_new 2 (by decide) rfl rfl (by kernel_rfl)) (l10sz ee) (l10one ee) (uniq_of rfl)
        intro v x5 hok hk
        replace hk := hk.all
        refine wpList_nil ?_
        have v0 := okVal hok (j := 0) rfl rfl
        have v1 := okVal hok (j := 1) rfl rfl
        have v2 := okVal hok (j := 2) rfl rfl
        obtain ⟨g16, v3, k16, l16⟩ := okRowB hok (i := 4) (j := 3) rfl rfl rfl rfl
        clear hok
        simp only [putL, Nat.zero_add, Nat.reduceAdd, v0, v1, v2, v3, Act.put, List.setIfInBounds_toArray, List.set_cons_zero, List.set_cons_succ]
        clear v0 v1 v2 v3
        replace l16 := Nat.le_trans hM l16
        replace f_g3 := f_g3.below (hk.below (nh0 rfl))
        replace f_g4 := f_g4.below (hk.below (nh0 rfl))
        replace f_g5 := f_g5.below (hk.below (nh0 rfl))
        replace f_g6 := f_g6.below (hk.below (nh0 rfl))
        replace f_g7 := f_g7.below (hk.below (nh0 rfl))
        replace f_g8 := f_g8.below (hk.below (nh0 rfl))
        replace f12 := f12.below (hk.below (nh0 rfl))
        replace f13 := f13.below (hk.below (nh0 rfl))
        replace f14 := f14.below (hk.below (nh0 rfl))
        replace f15 := f15.below (hk.below (nh0 rfl))
        have f16 : Blk g16 (rwA .i64 10 ee) 134 x5 := k16
        clear k16
        replace hM := Nat.le_trans hM hk.size
        replace hB := hB.trans ((hk.below (nh0 rfl)).mono hB.size)
        clear hk
        go_upto_region 19 with (fail)
        refine region_all 7 (kdAt [.val (.agg (rwA .i64 10 A3)), .val (.agg (rwA .i64 10 C3)), .val (.agg (rwA .i64 10 d0)), .val (.agg (rwA .i64 10 a)), .val (.agg (rwA .i64 10 da)), .new 134 Z10, .put 5 134 (rwA .i64 10 da)]) [some 61, some 62, some 63, some 64, some 65, some 17, none] (by kernel_rfl) rfl (by kernel_rfl) (by kernel_rfl) (by kernel_rfl) (by kernel_rfl) ?_ ?_
        · repeat refine allS ?_ ?_
          · exact all0
          · exact stepLoad (.pointer (some ⟨g7, 0, none⟩)) rfl rfl rfl rfl (src_old (by kernel_rfl) rfl) (fun w hk => l10ld (f_g7.below (hk.below (nh0 rfl))))
          · exact stepLoad (.pointer (some ⟨g8, 0, none⟩)) rfl rfl rfl rfl (src_old (by kernel_rfl) rfl) (fun w hk => l10ld (f_g8.below (hk.below (nh0 rfl))))
          · exact stepCall (ks := [61, 62]) [.agg (rwA .i64 10 A3), .agg (rwA .i64 10 C3)] rfl rfl rfl rfl cfLsub rfl (src2 (src_new 0 (by decide) rfl rfl (by kernel_rfl)) (src_new 1 (by decide) rfl rfl (by kernel_rfl))) (fun w hk => lSub_c A3 C3 d0 w Ed0.out MA3.out MC3.out)
          · exact stepLoad (.pointer (some ⟨g12, 0, none⟩)) rfl rfl rfl rfl (src_old (by kernel_rfl) rfl) (fun w hk => l10ld (f12.below (hk.below (nh0 rfl))))
          · exact stepCall (ks := [63, 64]) [.agg (rwA .i64 10 d0), .agg (rwA .i64 10 a)] rfl rfl rfl rfl cfLmul rfl (src2 (src_new 2 (by decide) rfl rfl (by kernel_rfl)) (src_new 3 (by decide) rfl rfl (by kernel_rfl))) (fun w hk => lMul_c d0 a da w Eda.out Md0.out Ma.out)
          · exact stepNew rfl rfl rfl rfl alL
          · exact stepPut (Z := Z10) (d := 17) (k := 65) rfl rfl rfl rfl rfl (by decide) rfl (by kernel_rfl) rfl (z10sz da) (src_new 4 (by decide) rfl rfl (by kernel_rfl)) (l10sz da) (l10one da) (uniq_of rfl)
        intro v x6 hok hk
        replace hk := hk.all
        have v0 := okVal hok (j := 0) rfl rfl
        have v1 := okVal hok (j := 1) rfl rfl
        have v2 := okVal hok (j := 2) rfl rfl
        have v3 := okVal hok (j := 3) rfl rfl
        have v4 := okVal hok (j := 4) rfl rfl
        obtain ⟨g17, v5, k17, l17⟩ := okRowB hok (i := 6) (j := 5) rfl rfl rfl rfl
        clear hok
        simp only [putL, Nat.zero_add, Nat.reduceAdd, v0, v1, v2, v3, v4, v5, Act.put, List.setIfInBounds_toArray, List.set_cons_zero, List.set_cons_succ]
        clear v0 v1 v2 v3 v4 v5
        replace l17 := Nat.le_trans hM l17
        replace f_g3 := f_g3.below (hk.below (nh0 rfl))
        replace f_g4 := f_g4.below (hk.below (nh0 rfl))
        replace f_g5 := f_g5.below (hk.below (nh0 rfl))
        replace f_g6 := f_g6.below (hk.below (nh0 rfl))
        replace f_g7 := f_g7.below (hk.below (nh0 rfl))
        replace f_g8 := f_g8.below (hk.below (nh0 rfl))
        replace f12 := f12.below (hk.below (nh0 rfl))
        replace f13 := f13.below (hk.below (nh0 rfl))
        replace f14 := f14.below (hk.below (nh0 rfl))
        replace f15 := f15.below (hk.below (nh0 rfl))
        replace f16 := f16.below (hk.below (nh0 rfl))
        have f17 : Blk g17 (rwA .i64 10 da) 134 x6 := k17
        clear k17
        replace hM := Nat.le_trans hM hk.size
        replace hB := hB.trans ((hk.below (nh0 rfl)).mono hB.size)
        clear hk
        go_upto_region 20 with (fail)
        refine region_all 7 (kdAt [.val (.agg (rwA .i64 10 A3)), .val (.agg (rwA .i64 10 C3)), .val (.agg (rwA .i64 10 c0)), .val (.agg (rwA .i64 10 b)), .val (.agg (rwA .i64 10 cb)), .new 134 Z10, .put 5 134 (rwA .i64 10 cb)]) [some 66, some 67, some 68, some 69, some 70, some 18, none] (by kernel_rfl) rfl (by kernel_rfl) (by kernel_rfl) (by kernel_rfl) (by kernel_rfl) ?_ ?_
        · repeat refine allS ?_ ?_
          · exact all0
          · exact stepLoad (.pointer (some ⟨g7, 0, none⟩)) rfl rfl rfl rfl (src_old (by kernel_rfl) rfl) (fun w hk => l10ld (f_g7.below (hk.below (nh0 rfl))))
          · exact stepLoad (.pointer (some ⟨g8, 0, none⟩)) rfl rfl rfl rfl (src_old (by kernel_rfl) rfl) (fun w hk => l10ld (f_g8.below (hk.below (nh0 rfl))))
          · exact stepCall (ks := [66, 67]) [.agg (rwA .i64 10 A3), .agg (rwA .i64 10 C3)] rfl rfl rfl rfl cfLadd rfl (src2 (src_new 0 (by decide) rfl rfl (by kernel_rfl)) (src_new 1 (by decide) rfl rfl (by kernel_rfl))) (fun w hk => lAdd_c A3 C3 c0 w Ec0.out MA3.out MC3.out)
          · exact stepLoad (.pointer (some ⟨g13, 0, none⟩)) rfl rfl rfl rfl (src_old (by kernel_rfl) rfl) (fun w hk => l10ld (f13.below (hk.below (nh0 rfl))))
          · exact stepCall (ks := [68, 69]) [.agg (rwA .i64 10 c0), .agg (rwA .i64 10 b)] rfl rfl rfl rfl cfLmul rfl (src2 (src_new 2 (by decide) rfl rfl (by kernel_rfl)) (src_new 3 (by decide) rfl rfl (by kernel_rfl))) (fun w hk => lMul_c c0 b cb w Ecb.out Mc0.out Mb.out)
          · exact stepNew rfl rfl rfl rfl alL
          · exact stepPut (Z := Z10) (d := 18) (k := 70) rfl rfl rfl rfl rfl (by decide) rfl (by kernel_rfl) rfl (z10sz cb) (src_new 4 (by decide) rfl rfl (by kernel_rfl)) (l10sz cb) (l10one cb) (uniq_of rfl)
        intro v x7 hok hk
        replace hk := hk.all
        have v0 := okVal hok (j := 0) rfl rfl
        have v1 := okVal hok (j := 1) rfl rfl
        have v2 := okVal hok (j := 2) rfl rfl
        have v3 := okVal hok (j := 3) rfl rfl
        have v4 := okVal hok (j := 4) rfl rfl
        obtain ⟨g18, v5, k18, l18⟩ := okRowB hok (i := 6) (j := 5) rfl rfl rfl rfl
        clear hok
        simp only [putL, Nat.zero_add, Nat.reduceAdd, v0, v1, v2, v3, v4, v5, Act.put, List.setIfInBounds_toArray, List.set_cons_zero, List.set_cons_succ]
        clear v0 v1 v2 v3 v4 v5
        clear f12
        clear f13
        replace l18 := Nat.le_trans hM l18
        replace f_g3 := f_g3.below (hk.below (nh0 rfl))
        replace f_g4 := f_g4.below (hk.below (nh0 rfl))
        replace f_g5 := f_g5.below (hk.below (nh0 rfl))
        replace f_g6 := f_g6.below (hk.below (nh0 rfl))
        replace f_g7 := f_g7.below (hk.below (nh0 rfl))
        replace f_g8 := f_g8.below (hk.below (nh0 rfl))
        replace f14 := f14.below (hk.below (nh0 rfl))
        replace f15 := f15.below (hk.below (nh0 rfl))
        replace f16 := f16.below (hk.below (nh0 rfl))
        replace f17 := f17.below (hk.below (nh0 rfl))
        have f18 : Blk g18 (rwA .i64 10 cb) 134 x7 := k18
        clear k18
        replace hM := Nat.le_trans hM hk.size
        replace hB := hB.trans ((hk.below (nh0 rfl)).mono hB.size)
        clear hk
        go_upto_region 21 with (fail)
        refine region_seq 5 (kdAt [.val (.agg (rwA .i64 10 da)), .val (.agg (rwA .i64 10 cb)), .val (.agg (rwA .i64 10 ss)), .new 134 Z10, .put 3 134 (rwA .i64 10 ss)]) [some 71, some 72, some 73, some 19, none] (by decide) (by kernel_rfl) (by kernel_rfl) (by kernel_rfl) (by kernel_rfl) ?_ ?_
        · repeat refine allS ?_ ?_
          · exact all0
          · exact stepLoad (.pointer (some ⟨g17, 0, none⟩)) rfl rfl rfl rfl (src_old (by kernel_rfl) rfl) (fun w hk => l10ld (f17.below (hk.below (nh0 rfl))))
          · exact stepLoad (.pointer (some ⟨g18, 0, none⟩)) rfl rfl rfl rfl (src_old (by kernel_rfl) rfl) (fun w hk => l10ld (f18.below (hk.below (nh0 rfl))))
          · exact stepCall (ks := [71, 72]) [.agg (rwA .i64 10 da), .agg (rwA .i64 10 cb)] rfl rfl rfl rfl cfLadd rfl (src2 (src_new 0 (by decide) rfl rfl (by kernel_rfl)) (src_new 1 (by decide) rfl rfl (by kernel_rfl))) (fun w hk => lAdd_c da cb ss w Ess.out Mda.out Mcb.out)
          · exact stepNew rfl rfl rfl rfl alL
          · exact stepPut (Z := Z10) (d := 19) (k := 73) rfl rfl rfl rfl rfl (by decide) rfl (by kernel_rfl) rfl (z10sz ss) (src_new 2 (by decide) rfl rfl (by kernel_rfl)) (l10sz ss) (l10one ss) (uniq_of rfl)
        intro v x8 hok hk
        replace hk := hk.all
        refine wpList_nil ?_
        have v0 := okVal hok (j := 0) rfl rfl
        have v1 := okVal hok (j := 1) rfl rfl
        have v2 := okVal hok (j := 2) rfl rfl
        obtain ⟨g19, v3, k19, l19⟩ := okRowB hok (i := 4) (j := 3) rfl rfl rfl rfl
        clear hok
        simp only [putL, Nat.zero_add, Nat.reduceAdd, v0, v1, v2, v3, Act.put, List.setIfInBounds_toArray, List.set_cons_zero, List.set_cons_succ]
        clear v0 v1 v2 v3
        replace l19 := Nat.le_trans hM l19
        replace f_g3 := f_g3.below (hk.below (nh0 rfl))
        replace f_g4 := f_g4.below (hk.below (nh0 rfl))
        replace f_g5 := f_g5.below (hk.below (nh0 rfl))
        replace f_g6 := f_g6.below (hk.below (nh0 rfl))
        replace f_g7 := f_g7.below (hk.below (nh0 rfl))
        replace f_g8 := f_g8.below (hk.below (nh0 rfl))
        replace f14 := f14.below (hk.below (nh0 rfl))
        replace f15 := f15.below (hk.below (nh0 rfl))
        replace f16 := f16.below (hk.below (nh0 rfl))
        replace f17 := f17.below (hk.below (nh0 rfl))
        replace f18 := f18.below (hk.below (nh0 rfl))
        have f19 : Blk g19 (rwA .i64 10 ss) 134 x8 := k19
        clear k19
        replace hM := Nat.le_trans hM hk.size
        replace hB := hB.trans ((hk.below (nh0 rfl)).mono hB.size)
        clear hk
        go_upto_region 22 with (fail)
        refine region_seq 5 (kdAt [.val (.agg (rwA .i64 10 da)), .val (.agg (rwA .i64 10 cb)), .val (.agg (rwA .i64 10 dd)), .new 134 Z10, .put 3 134 (rwA .i64 10 dd)]) [some 74, some 75, some 76, some 20, none] (by decide) (by kernel_rfl) (by kernel_rfl) (by kernel_rfl) (by kernel_rfl) ?_ ?_
        · repeat refine allS ?_ ?_
          · exact all0
          · exact stepLoad (.pointer (some ⟨g17, 0, none⟩)) rfl rfl rfl rfl (src_old (by kernel_rfl) rfl) (fun w hk => l10ld (f17.below (hk.below (nh0 rfl))))
          · exact stepLoad (.pointer (some ⟨g18, 0, none⟩)) rfl rfl rfl rfl (src_old (by kernel_rfl) rfl) (fun w hk => l10ld (f18.below (hk.below (nh0 rfl))))
          · exact stepCall (ks := [74, 75]) [.agg (rwA .i64 10 da), .agg (rwA .i64 10 cb)] rfl rfl rfl rfl cfLsub rfl (src2 (src_new 0 (by decide) rfl rfl (by kernel_rfl)) (src_new 1 (by decide) rfl rfl (by kernel_rfl))) (fun w hk => lSub_c da cb dd w Edd.out Mda.out Mcb.out)
          · exact stepNew rfl rfl rfl rfl alL
          · exact stepPut (Z := Z10) (d := 20) (k := 76) rfl rfl rfl rfl rfl (by decide) rfl (by kernel_rfl) rfl (z10sz dd) (src_new 2 (by decide) rfl rfl (by kernel_rfl)) (l10sz dd) (l10one dd) (uniq_of rfl)
        intro v x9 hok hk
        replace hk := hk.all
        refine wpList_nil ?_
        have v0 := okVal hok (j := 0) rfl rfl
        have v1 := okVal hok (j := 1) rfl rfl
        have v2 := okVal hok (j := 2) rfl rfl
        obtain ⟨g20, v3, k20, l20⟩ := okRowB hok (i := 4) (j := 3) rfl rfl rfl rfl
        clear hok
        simp only [putL, Nat.zero_add, Nat.reduceAdd, v0, v1, v2, v3, Act.put, List.setIfInBounds_toArray, List.set_cons_zero, List.set_cons_succ]
        clear v0 v1 v2 v3
        replace l20 := Nat.le_trans hM l20
        replace f_g3 := f_g3.below (hk.below (nh0 rfl))
        replace f_g4 := f_g4.below (hk.below (nh0 rfl))
        replace f_g5 := f_g5.below (hk.below (nh0 rfl))
        replace f_g6 := f_g6.below (hk.below (nh0 rfl))
        replace f_g7 := f_g7.below (hk.below (nh0 rfl))
        replace f_g8 := f_g8.below (hk.below (nh0 rfl))
        replace f14 := f14.below (hk.below (nh0 rfl))
        replace f15 := f15.below (hk.below (nh0 rfl))
        replace f16 := f16.below (hk.below (nh0 rfl))
        replace f17 := f17.below (hk.below (nh0 rfl))
        replace f18 := f18.below (hk.below (nh0 rfl))
        replace f19 := f19.below (hk.below (nh0 rfl))
        have f20 : Blk g20 (rwA .i64 10 dd) 134 x9 := k20
        clear k20
        replace hM := Nat.le_trans hM hk.size
        replace hB := hB.trans ((hk.below (nh0 rfl)).mono hB.size)
        clear hk
        go_upto_region 23 with (fail)
        refine region_seq 4 (kdAt [.val (.agg (rwA .i64 10 ss)), .val (.agg (rwA .i64 10 ss)), .val (.agg (rwA .i64 10 n3)), .old g7 134 (rwA .i64 10 n3)]) [some 77, some 78, some 79, none] (by decide) (by kernel_rfl) (by kernel_rfl) (by kernel_rfl) (by kernel_rfl) ?_ ?_
        · repeat refine allS ?_ ?_
          · exact all0
          · exact stepLoad (.pointer (some ⟨g19, 0, none⟩)) rfl rfl rfl rfl (src_old (by kernel_rfl) rfl) (fun w hk => l10ld (f19.kept hk (nh1 rfl (ne_new HL.out.2.2.2.1 l19))))
          · exact stepLoad (.pointer (some ⟨g19, 0, none⟩)) rfl rfl rfl rfl (src_old (by kernel_rfl) rfl) (fun w hk => l10ld (f19.kept hk (nh1 rfl (ne_new HL.out.2.2.2.1 l19))))
          · exact stepCall (ks := [77, 78]) [.agg (rwA .i64 10 ss), .agg (rwA .i64 10 ss)] rfl rfl rfl rfl cfLmul rfl (src2 (src_new 0 (by decide) rfl rfl (by kernel_rfl)) (src_new 1 (by decide) rfl rfl (by kernel_rfl))) (fun w hk => lMul_c ss ss n3 w En3.out Mss.out Mss.out)
          · exact stepOld (d := 7) (k := 79) rfl rfl rfl rfl rfl (src_old (by kernel_rfl) rfl) f_g7 (l10same _ _) (src_new 2 (by decide) rfl rfl (by kernel_rfl)) (l10sz n3) (l10one n3) (one_old rfl)
        intro v x10 hok hk
        replace hk := hk.all
        refine wpList_nil ?_
        have v0 := okVal hok (j := 0) rfl rfl
        have v1 := okVal hok (j := 1) rfl rfl
        have v2 := okVal hok (j := 2) rfl rfl
        have o3 := okOld hok (i := 3) rfl rfl
        clear hok
        simp only [putL, Nat.zero_add, Nat.reduceAdd, v0, v1, v2, Act.put, List.setIfInBounds_toArray, List.set_cons_zero, List.set_cons_succ]
        clear v0 v1 v2
        clear f17
        clear f18
        replace f_g3 := f_g3.kept hk (nh1 rfl HNE.out.g3g7)
        replace f_g4 := f_g4.kept hk (nh1 rfl HNE.out.g4g7)
        replace f_g5 := f_g5.kept hk (nh1 rfl HNE.out.g5g7)
        replace f_g6 := f_g6.kept hk (nh1 rfl HNE.out.g6g7)
        clear f_g7
        replace f_g8 := f_g8.kept hk (nh1 rfl HNE.out.g8g7)
        replace f14 := f14.kept hk (nh1 rfl (ne_new HL.out.2.2.2.1 l14))
        replace f15 := f15.kept hk (nh1 rfl (ne_new HL.out.2.2.2.1 l15))
        replace f16 := f16.kept hk (nh1 rfl (ne_new HL.out.2.2.2.1 l16))
        replace f19 := f19.kept hk (nh1 rfl (ne_new HL.out.2.2.2.1 l19))
        replace f20 := f20.kept hk (nh1 rfl (ne_new HL.out.2.2.2.1 l20))
        have f_g7 : Blk g7 (rwA .i64 10 n3) 134 x10 := o3
        clear o3
        replace hM := Nat.le_trans hM hk.size
        replace hB := hB.trans (hk.base hB.size (fun k hk => nh1 rfl (Nat.ne_of_lt (Nat.lt_of_lt_of_le hk HB0.out.2.2.2.1))))
        clear hk
        go_upto_region 24 with (fail)
        refine region_all 6 (kdAt [.val (.agg (rwA .i64 10 x)), .val (.agg (rwA .i64 10 dd)), .val (.agg (rwA .i64 10 dd)), .val (.agg (rwA .i64 10 d2)), .val (.agg (rwA .i64 10 m3)), .old g8 134 (rwA .i64 10 m3)]) [some 80, some 81, some 82, some 83, some 84, none] (by kernel_rfl) rfl (by kernel_rfl) (by kernel_rfl) (by kernel_rfl) (by kernel_rfl) ?_ ?_
        · repeat refine allS ?_ ?_
          · exact all0
          · exact stepLoad (.pointer (some ⟨g3, 0, none⟩)) rfl rfl rfl rfl (src_old (by kernel_rfl) rfl) (fun w hk => l10ld (f_g3.kept hk (nh1 rfl HNE.out.g3g8)))
          · exact stepLoad (.pointer (some ⟨g20, 0, none⟩)) rfl rfl rfl rfl (src_old (by kernel_rfl) rfl) (fun w hk => l10ld (f20.kept hk (nh1 rfl (ne_new HL.out.2.2.2.2 l20))))
          · exact stepLoad (.pointer (some ⟨g20, 0, none⟩)) rfl rfl rfl rfl (src_old (by kernel_rfl) rfl) (fun w hk => l10ld (f20.kept hk (nh1 rfl (ne_new HL.out.2.2.2.2 l20))))
          · exact stepCall (ks := [81, 82]) [.agg (rwA .i64 10 dd), .agg (rwA .i64 10 dd)] rfl rfl rfl rfl cfLmul rfl (src2 (src_new 1 (by decide) rfl rfl (by kernel_rfl)) (src_new 2 (by decide) rfl rfl (by kernel_rfl))) (fun w hk => lMul_c dd dd d2 w Ed2.out Mdd.out Mdd.out)
          · exact stepCall (ks := [80, 83]) [.agg (rwA .i64 10 x), .agg (rwA .i64 10 d2)] rfl rfl rfl rfl cfLmul rfl (src2 (src_new 0 (by decide) rfl rfl (by kernel_rfl)) (src_new 3 (by decide) rfl rfl (by kernel_rfl))) (fun w hk => lMul_c x d2 m3 w Em3.out Mx.out Md2.out)
          · exact stepOld (d := 8) (k := 84) rfl rfl rfl rfl rfl (src_old (by kernel_rfl) rfl) f_g8 (l10same _ _) (src_new 4 (by decide) rfl rfl (by kernel_rfl)) (l10sz m3) (l10one m3) (one_old rfl)
        intro v x11 hok hk
        replace hk := hk.all
        have v0 := okVal hok (j := 0) rfl rfl
        have v1 := okVal hok (j := 1) rfl rfl
        have v2 := okVal hok (j := 2) rfl rfl
        have v3 := okVal hok (j := 3) rfl rfl
        have v4 := okVal hok (j := 4) rfl rfl
        have o5 := okOld hok (i := 5) rfl rfl
        clear hok
        simp only [putL, Nat.zero_add, Nat.reduceAdd, v0, v1, v2, v3, v4, Act.put, List.setIfInBounds_toArray, List.set_cons_zero, List.set_cons_succ]
        clear v0 v1 v2 v3 v4
        clear f19
        clear f20
        replace f_g3 := f_g3.kept hk (nh1 rfl HNE.out.g3g8)
        replace f_g4 := f_g4.kept hk (nh1 rfl HNE.out.g4g8)
        replace f_g5 := f_g5.kept hk (nh1 rfl HNE.out.g5g8)
        replace f_g6 := f_g6.kept hk (nh1 rfl HNE.out.g6g8)
        clear f_g8
        replace f14 := f14.kept hk (nh1 rfl (ne_new HL.out.2.2.2.2 l14))
        replace f15 := f15.kept hk (nh1 rfl (ne_new HL.out.2.2.2.2 l15))
        replace f16 := f16.kept hk (nh1 rfl (ne_new HL.out.2.2.2.2 l16))
        replace f_g7 := f_g7.kept hk (nh1 rfl HNE.out.g7g8)
        have f_g8 : Blk g8 (rwA .i64 10 m3) 134 x11 := o5
        clear o5
        replace hM := Nat.le_trans hM hk.size
        replace hB := hB.trans (hk.base hB.size (fun k hk => nh1 rfl (Nat.ne_of_lt (Nat.lt_of_lt_of_le hk HB0.out.2.2.2.2))))
        clear hk
        go_upto_region 25 with (fail)
        refine region_seq 4 (kdAt [.val (.agg (rwA .i64 10 aa)), .val (.agg (rwA .i64 10 bb)), .val (.agg (rwA .i64 10 n2)), .old g5 134 (rwA .i64 10 n2)]) [some 85, some 86, some 87, none] (by decide) (by kernel_rfl) (by kernel_rfl) (by kernel_rfl) (by kernel_rfl) ?_ ?_
        · repeat refine allS ?_ ?_
          · exact all0
          · exact stepLoad (.pointer (some ⟨g14, 0, none⟩)) rfl rfl rfl rfl (src_old (by kernel_rfl) rfl) (fun w hk => l10ld (f14.kept hk (nh1 rfl (ne_new HL.out.2.1 l14))))
          · exact stepLoad (.pointer (some ⟨g15, 0, none⟩)) rfl rfl rfl rfl (src_old (by kernel_rfl) rfl) (fun w hk => l10ld (f15.kept hk (nh1 rfl (ne_new HL.out.2.1 l15))))
          · exact stepCall (ks := [85, 86]) [.agg (rwA .i64 10 aa), .agg (rwA .i64 10 bb)] rfl rfl rfl rfl cfLmul rfl (src2 (src_new 0 (by decide) rfl rfl (by kernel_rfl)) (src_new 1 (by decide) rfl rfl (by kernel_rfl))) (fun w hk => lMul_c aa bb n2 w En2.out Maa.out Mbb.out)
          · exact stepOld (d := 5) (k := 87) rfl rfl rfl rfl rfl (src_old (by kernel_rfl) rfl) f_g5 (l10same _ _) (src_new 2 (by decide) rfl rfl (by kernel_rfl)) (l10sz n2) (l10one n2) (one_old rfl)
        intro v x12 hok hk
        replace hk := hk.all
        refine wpList_nil ?_
        have v0 := okVal hok (j := 0) rfl rfl
        have v1 := okVal hok (j := 1) rfl rfl
        have v2 := okVal hok (j := 2) rfl rfl
        have o3 := okOld hok (i := 3) rfl rfl
        clear hok
        simp only [putL, Nat.zero_add, Nat.reduceAdd, v0, v1, v2, Act.put, List.setIfInBounds_toArray, List.set_cons_zero, List.set_cons_succ]
        clear v0 v1 v2
        replace f_g3 := f_g3.kept hk (nh1 rfl HNE.out.g3g5)
        replace f_g4 := f_g4.kept hk (nh1 rfl HNE.out.g4g5)
        clear f_g5
        replace f_g6 := f_g6.kept hk (nh1 rfl HNE.out.g6g5)
        replace f14 := f14.kept hk (nh1 rfl (ne_new HL.out.2.1 l14))
        replace f15 := f15.kept hk (nh1 rfl (ne_new HL.out.2.1 l15))
        replace f16 := f16.kept hk (nh1 rfl (ne_new HL.out.2.1 l16))
        replace f_g7 := f_g7.kept hk (nh1 rfl HNE.out.g7g5)
        replace f_g8 := f_g8.kept hk (nh1 rfl HNE.out.g8g5)
        have f_g5 : Blk g5 (rwA .i64 10 n2) 134 x12 := o3
        clear o3
        replace hM := Nat.le_trans hM hk.size
        replace hB := hB.trans (hk.base hB.size (fun k hk => nh1 rfl (Nat.ne_of_lt (Nat.lt_of_lt_of_le hk HB0.out.2.1))))
        clear hk
        go_upto_region 26 with (fail)
        refine region_all 8 (kdAt [.val (.agg (rwA .i64 10 ee)), .val (.agg (rwA .i64 10 aa)), .val (.agg (rwA .i64 10 cF)), .val (.agg (rwA .i64 10 ee)), .val (.agg (rwA .i64 10 e1)), .val (.agg (rwA .i64 10 e2)), .val (.agg (rwA .i64 10 m2)), .old g6 134 (rwA .i64 10 m2)]) [some 88, some 89, some 90, some 91, some 92, some 93, some 94, none] (by kernel_rfl) rfl (by kernel_rfl) (by kernel_rfl) (by kernel_rfl) (by kernel_rfl) ?_ ?_
        · repeat refine allS ?_ ?_
          · exact all0
          · exact stepLoad (.pointer (some ⟨g16, 0, none⟩)) rfl rfl rfl rfl (src_old (by kernel_rfl) rfl) (fun w hk => l10ld (f16.kept hk (nh1 rfl (ne_new HL.out.2.2.1 l16))))
          · exact stepLoad (.pointer (some ⟨g14, 0, none⟩)) rfl rfl rfl rfl (src_old (by kernel_rfl) rfl) (fun w hk => l10ld (f14.kept hk (nh1 rfl (ne_new HL.out.2.2.1 l14))))
          · exact stepBuild [] #[(0, .int .i64 121665)] rfl rfl rfl rfl (fun p hp => by cases hp) (fun a ha => by simp [Act.eval]) (fun w => bCF w)
          · exact stepLoad (.pointer (some ⟨g16, 0, none⟩)) rfl rfl rfl rfl (src_old (by kernel_rfl) rfl) (fun w hk => l10ld (f16.kept hk (nh1 rfl (ne_new HL.out.2.2.1 l16))))
          · exact stepCall (ks := [90, 91]) [.agg (rwA .i64 10 cF), .agg (rwA .i64 10 ee)] rfl rfl rfl rfl cfLmul rfl (src2 (src_new 2 (by decide) rfl rfl (by kernel_rfl)) (src_new 3 (by decide) rfl rfl (by kernel_rfl))) (fun w hk => lMul_c cF ee e1 w Ee1.out McF.out Mee.out)
          · exact stepCall (ks := [89, 92]) [.agg (rwA .i64 10 aa), .agg (rwA .i64 10 e1)] rfl rfl rfl rfl cfLadd rfl (src2 (src_new 1 (by decide) rfl rfl (by kernel_rfl)) (src_new 4 (by decide) rfl rfl (by kernel_rfl))) (fun w hk => lAdd_c aa e1 e2 w Ee2.out Maa.out Me1.out)
          · exact stepCall (ks := [88, 93]) [.agg (rwA .i64 10 ee), .agg (rwA .i64 10 e2)] rfl rfl rfl rfl cfLmul rfl (src2 (src_new 0 (by decide) rfl rfl (by kernel_rfl)) (src_new 5 (by decide) rfl rfl (by kernel_rfl))) (fun w hk => lMul_c ee e2 m2 w Em2.out Mee.out Me2.out)
          · exact stepOld (d := 6) (k := 94) rfl rfl rfl rfl rfl (src_old (by kernel_rfl) rfl) f_g6 (l10same _ _) (src_new 6 (by decide) rfl rfl (by kernel_rfl)) (l10sz m2) (l10one m2) (one_old rfl)
        intro v x13 hok hk
        replace hk := hk.all
        have v0 := okVal hok (j := 0) rfl rfl
        have v1 := okVal hok (j := 1) rfl rfl
        have v2 := okVal hok (j := 2) rfl rfl
        have v3 := okVal hok (j := 3) rfl rfl
        have v4 := okVal hok (j := 4) rfl rfl
        have v5 := okVal hok (j := 5) rfl rfl
        have v6 := okVal hok (j := 6) rfl rfl
        have o7 := okOld hok (i := 7) rfl rfl
        clear hok
        simp only [putL, Nat.zero_add, Nat.reduceAdd, v0, v1, v2, v3, v4, v5, v6, Act.put, List.setIfInBounds_toArray, List.set_cons_zero, List.set_cons_succ]
        clear v0 v1 v2 v3 v4 v5 v6
        replace f_g3 := f_g3.kept hk (nh1 rfl HNE.out.g3g6)
        replace f_g4 := f_g4.kept hk (nh1 rfl HNE.out.g4g6)
        clear f_g6
        replace f14 := f14.kept hk (nh1 rfl (ne_new HL.out.2.2.1 l14))
        replace f15 := f15.kept hk (nh1 rfl (ne_new HL.out.2.2.1 l15))
        replace f16 := f16.kept hk (nh1 rfl (ne_new HL.out.2.2.1 l16))
        replace f_g7 := f_g7.kept hk (nh1 rfl HNE.out.g7g6)
        replace f_g8 := f_g8.kept hk (nh1 rfl HNE.out.g8g6)
        replace f_g5 := f_g5.kept hk (nh1 rfl HNE.out.g5g6)
        have f_g6 : Blk g6 (rwA .i64 10 m2) 134 x13 := o7
        clear o7
        replace hM := Nat.le_trans hM hk.size
        replace hB := hB.trans (hk.base hB.size (fun k hk => nh1 rfl (Nat.ne_of_lt (Nat.lt_of_lt_of_le hk HB0.out.2.2.1))))
        clear hk
        go_wp2_with fail
        go_roundw
        case rel => exact ⟨m, B, n2, m2, n3, m3, by have := HJ.out; omega, HBL.out, by go_num, rfl, lowHf Ln2.out, lowHf Lm2.out, lowHf Ln3.out, lowHf Lm3.out, HNX.out, f_g3, f_g4, f_g5, f_g6, f_g7, f_g8, hB⟩
        case measure => first | (simp [intOf]; omega) | simp [intOf]
    · have hke : j = 0 := by omega
      subst hke
      simp only [Nat.sub_zero] at hrl
      have HV : Hid (ladV n (rN x) = fMu (ladN n (rN x) 255).1.1 ((ladN n (rN x) 255).1.2 ^ E25 % P25n)) := rfl
      generalize ladN n (rN x) 255 = st at *
      have HF := Lib.hid (And.intro fx2 (And.intro fz2 (And.intro fx3 fz3)))
      have hM : wr.heap.size ≤ wr.heap.size := Nat.le_refl _
      have HL := Lib.hid (show g4 < wr.heap.size ∧ g5 < wr.heap.size ∧ g6 < wr.heap.size ∧ g7 < wr.heap.size ∧ g8 < wr.heap.size from ⟨f_g4.lt, f_g5.lt, f_g6.lt, f_g7.lt, f_g8.lt⟩)
      clear hj hlt fx2 fz2 fx3 fz3
      by_cases h1 : L = 1
      · have HX : Hid ((rN x3, rN z3) = st.1) := by unfold LadRel at hrl; rw [if_pos h1] at hrl; exact hrl.2
        subst h1
        have MX := Lib.hid HF.out.2.2.1.mid
        have MZ := Lib.hid HF.out.2.2.2.mid
        clear hrl HF
        go_upto_region 28 with (fail)
        refine region_all 4 (kdAt [.val (.agg (rwA .i64 10 x3)), .val (.agg (rwA .i64 10 z3)), .old g5 134 (rwA .i64 10 x3), .old g6 134 (rwA .i64 10 z3)]) [some 97, some 98, none, none] (by kernel_rfl) rfl (by kernel_rfl) (by kernel_rfl) (by kernel_rfl) (by kernel_rfl) ?_ ?_
        · repeat refine allS ?_ ?_
          · exact all0
          · exact stepLoad (.pointer (some ⟨g7, 0, none⟩)) rfl rfl rfl rfl (src_old (by kernel_rfl) rfl) (fun w hk => l10ld (f_g7.kept hk (nh2 rfl HNE.out.g7g5 HNE.out.g7g6)))
          · exact stepLoad (.pointer (some ⟨g8, 0, none⟩)) rfl rfl rfl rfl (src_old (by kernel_rfl) rfl) (fun w hk => l10ld (f_g8.kept hk (nh2 rfl HNE.out.g8g5 HNE.out.g8g6)))
          · exact stepOld (d := 5) (k := 97) rfl rfl rfl rfl rfl (src_old (by kernel_rfl) rfl) f_g5 (l10same _ _) (src_new 0 (by decide) rfl rfl (by kernel_rfl)) (l10sz x3) (l10one x3) (two_old rfl HNE.out.g5g6).1
          · exact stepOld (d := 6) (k := 98) rfl rfl rfl rfl rfl (src_old (by kernel_rfl) rfl) f_g6 (l10same _ _) (src_new 1 (by decide) rfl rfl (by kernel_rfl)) (l10sz z3) (l10one z3) (two_old rfl HNE.out.g5g6).2
        intro v x1 hok hk
        replace hk := hk.all
        have v0 := okVal hok (j := 0) rfl rfl
        have v1 := okVal hok (j := 1) rfl rfl
        have o2 := okOld hok (i := 2) rfl rfl
        have o3 := okOld hok (i := 3) rfl rfl
        clear hok
        simp only [putL, Nat.zero_add, v0, v1, Act.put, List.setIfInBounds_toArray, List.set_cons_zero, List.set_cons_succ]
        clear v0 v1
        replace f_g3 := f_g3.kept hk (nh2 rfl HNE.out.g3g5 HNE.out.g3g6)
        replace f_g4 := f_g4.kept hk (nh2 rfl HNE.out.g4g5 HNE.out.g4g6)
        clear f_g5
        clear f_g6
        replace f_g7 := f_g7.kept hk (nh2 rfl HNE.out.g7g5 HNE.out.g7g6)
        replace f_g8 := f_g8.kept hk (nh2 rfl HNE.out.g8g5 HNE.out.g8g6)
        have f_g5 : Blk g5 (rwA .i64 10 x3) 134 x1 := o2
        clear o2
        have f_g6 : Blk g6 (rwA .i64 10 z3) 134 x1 := o3
        clear o3
        replace hM := Nat.le_trans hM hk.size
        replace hB := hB.trans (hk.base hB.size (fun k hk => nh2 rfl (Nat.ne_of_lt (Nat.lt_of_lt_of_le hk HB0.out.2.1)) (Nat.ne_of_lt (Nat.lt_of_lt_of_le hk HB0.out.2.2.1))))
        clear hk
        generalize x3 = X at *
        generalize z3 = Z at *
        clear f_g7 f_g8
        obtain ⟨pw, epw⟩ : ∃ f : Nat → Int, f = lpow Z 255 := ⟨_, rfl⟩
        obtain ⟨o, eo⟩ : ∃ f : Nat → Int, f = mulL X pw := ⟨_, rfl⟩
        have Epw := Lib.hid epw
        have Eo := Lib.hid eo
        have Mpw : Hid (Mid pw) := by show Mid _; rw [epw]; exact lpow_mid Z MZ.out 255
        have HO : Hid (Mid o ∧ rN o = ladV n (rN x)) := by
          refine ⟨by rw [eo]; exact (mulL_low _ _ MX.out Mpw.out).mid, ?_⟩
          rw [eo, rN_prod, epw, lpow_all, HV.out, ← HX.out]
          rfl
        clear epw eo
        go_upto_region 29 with (fail)
        refine region_all 5 (kdAt [.val (.agg (rwA .i64 10 X)), .val (.agg (rwA .i64 10 Z)), .val (.agg (rwA .i64 10 pw)), .val (.agg (rwA .i64 10 o)), .old g4 134 (rwA .i64 10 o)]) [some 99, some 100, some 101, some 102, none] (by kernel_rfl) rfl (by kernel_rfl) (by kernel_rfl) (by kernel_rfl) (by kernel_rfl) ?_ ?_
        · repeat refine allS ?_ ?_
          · exact all0
          · exact stepLoad (.pointer (some ⟨g5, 0, none⟩)) rfl rfl rfl rfl (src_old (by kernel_rfl) rfl) (fun w hk => l10ld (f_g5.kept hk (nh1 rfl HNE.out.g5g4)))
          · exact stepLoad (.pointer (some ⟨g6, 0, none⟩)) rfl rfl rfl rfl (src_old (by kernel_rfl) rfl) (fun w hk => l10ld (f_g6.kept hk (nh1 rfl HNE.out.g6g4)))
          · exact stepCall (ks := [100]) [.agg (rwA .i64 10 Z)] rfl rfl rfl rfl cfLpow rfl (src1 (src_new 1 (by decide) rfl rfl (by kernel_rfl))) (fun w hk => lPow_c Z pw w Epw.out MZ.out)
          · exact stepCall (ks := [99, 101]) [.agg (rwA .i64 10 X), .agg (rwA .i64 10 pw)] rfl rfl rfl rfl cfLmul rfl (src2 (src_new 0 (by decide) rfl rfl (by kernel_rfl)) (src_new 2 (by decide) rfl rfl (by kernel_rfl))) (fun w hk => lMul_c X pw o w Eo.out MX.out Mpw.out)
          · exact stepOld (d := 4) (k := 102) rfl rfl rfl rfl rfl (src_old (by kernel_rfl) rfl) f_g4 (z10sz _) (src_new 3 (by decide) rfl rfl (by kernel_rfl)) (l10sz o) (l10one o) (one_old rfl)
        intro v x2 hok hk
        replace hk := hk.all
        have v0 := okVal hok (j := 0) rfl rfl
        have v1 := okVal hok (j := 1) rfl rfl
        have v2 := okVal hok (j := 2) rfl rfl
        have v3 := okVal hok (j := 3) rfl rfl
        have o4 := okOld hok (i := 4) rfl rfl
        clear hok
        simp only [putL, Nat.zero_add, Nat.reduceAdd, v0, v1, v2, v3, Act.put, List.setIfInBounds_toArray, List.set_cons_zero, List.set_cons_succ]
        clear v0 v1 v2 v3
        replace f_g3 := f_g3.kept hk (nh1 rfl HNE.out.g3g4)
        clear f_g4
        replace f_g5 := f_g5.kept hk (nh1 rfl HNE.out.g5g4)
        replace f_g6 := f_g6.kept hk (nh1 rfl HNE.out.g6g4)
        have f_g4 : Blk g4 (rwA .i64 10 o) 134 x2 := o4
        clear o4
        replace hM := Nat.le_trans hM hk.size
        replace hB := hB.trans (hk.base hB.size (fun k hk => nh1 rfl (Nat.ne_of_lt (Nat.lt_of_lt_of_le hk HB0.out.1))))
        clear hk
        go_wp2_with fail
        refine bodyPost_ret (v := .agg (rwA .i64 10 o)) ?_ rfl ⟨o, rfl, HO.out.1, HO.out.2, hB⟩
        exact results_cell_row Tryd.results128 _ _ g4 134 _ (0, 0) _ rfl f_g4 Tryd.underlying134 rfl (l10sz _)
      · have HX : Hid ((rN x2, rN z2) = st.1) := by unfold LadRel at hrl; rw [if_neg h1] at hrl; exact hrl.1
        have h0 : L = 0 := by omega
        subst h0
        have MX := Lib.hid HF.out.1.mid
        have MZ := Lib.hid HF.out.2.1.mid
        clear hrl HF h1
        generalize x2 = X at *
        generalize z2 = Z at *
        clear f_g7 f_g8
        obtain ⟨pw, epw⟩ : ∃ f : Nat → Int, f = lpow Z 255 := ⟨_, rfl⟩
        obtain ⟨o, eo⟩ : ∃ f : Nat → Int, f = mulL X pw := ⟨_, rfl⟩
        have Epw := Lib.hid epw
        have Eo := Lib.hid eo
        have Mpw : Hid (Mid pw) := by show Mid _; rw [epw]; exact lpow_mid Z MZ.out 255
        have HO : Hid (Mid o ∧ rN o = ladV n (rN x)) := by
          refine ⟨by rw [eo]; exact (mulL_low _ _ MX.out Mpw.out).mid, ?_⟩
          rw [eo, rN_prod, epw, lpow_all, HV.out, ← HX.out]
          rfl
        clear epw eo
        go_upto_region 29 with (fail)
        refine region_all 5 (kdAt [.val (.agg (rwA .i64 10 X)), .val (.agg (rwA .i64 10 Z)), .val (.agg (rwA .i64 10 pw)), .val (.agg (rwA .i64 10 o)), .old g4 134 (rwA .i64 10 o)]) [some 99, some 100, some 101, some 102, none] (by kernel_rfl) rfl (by kernel_rfl) (by kernel_rfl) (by kernel_rfl) (by kernel_rfl) ?_ ?_
        · repeat refine allS ?_ ?_
          · exact all0
          · exact stepLoad (.pointer (some ⟨g5, 0, none⟩)) rfl rfl rfl rfl (src_old (by kernel_rfl) rfl) (fun w hk => l10ld (f_g5.kept hk (nh1 rfl HNE.out.g5g4)))
          · exact stepLoad (.pointer (some ⟨g6, 0, none⟩)) rfl rfl rfl rfl (src_old (by kernel_rfl) rfl) (fun w hk => l10ld (f_g6.kept hk (nh1 rfl HNE.out.g6g4)))
          · exact stepCall (ks := [100]) [.agg (rwA .i64 10 Z)] rfl rfl rfl rfl cfLpow rfl (src1 (src_new 1 (by decide) rfl rfl (by kernel_rfl))) (fun w hk => lPow_c Z pw w Epw.out MZ.out)
          · exact stepCall (ks := [99, 101]) [.agg (rwA .i64 10 X), .agg (rwA .i64 10 pw)] rfl rfl rfl rfl cfLmul rfl (src2 (src_new 0 (by decide) rfl rfl (by kernel_rfl)) (src_new 2 (by decide) rfl rfl (by kernel_rfl))) (fun w hk => lMul_c X pw o w Eo.out MX.out Mpw.out)
          · exact stepOld (d := 4) (k := 102) rfl rfl rfl rfl rfl (src_old (by kernel_rfl) rfl) f_g4 (z10sz _) (src_new 3 (by decide) rfl rfl (by kernel_rfl)) (l10sz o) (l10one o) (one_old rfl)
        intro v x2 hok hk
        replace hk := hk.all
        have v0 := okVal hok (j := 0) rfl rfl
        have v1 := okVal hok (j := 1) rfl rfl
        have v2 := okVal hok (j := 2) rfl rfl
        have v3 := okVal hok (j := 3) rfl rfl
        have o4 := okOld hok (i := 4) rfl rfl
        clear hok
        simp only [putL, Nat.zero_add, Nat.reduceAdd, v0, v1, v2, v3, Act.put, List.setIfInBounds_toArray, List.set_cons_zero, List.set_cons_succ]
        clear v0 v1 v2 v3
        replace f_g3 := f_g3.kept hk (nh1 rfl HNE.out.g3g4)
        clear f_g4
        replace f_g5 := f_g5.kept hk (nh1 rfl HNE.out.g5g4)
        replace f_g6 := f_g6.kept hk (nh1 rfl HNE.out.g6g4)
        have f_g4 : Blk g4 (rwA .i64 10 o) 134 x2 := o4
        clear o4
        replace hM := Nat.le_trans hM hk.size
        replace hB := hB.trans (hk.base hB.size (fun k hk => nh1 rfl (Nat.ne_of_lt (Nat.lt_of_lt_of_le hk HB0.out.1))))
        clear hk
        go_wp2_with fail
        refine bodyPost_ret (v := .agg (rwA .i64 10 o)) ?_ rfl ⟨o, rfl, HO.out.1, HO.out.2, hB⟩
        exact results_cell_row Tryd.results128 _ _ g4 134 _ (0, 0) _ rfl f_g4 Tryd.underlying134 rfl (l10sz _)

end Go.Proofs.YtfbcmckepdjdkaaDoor

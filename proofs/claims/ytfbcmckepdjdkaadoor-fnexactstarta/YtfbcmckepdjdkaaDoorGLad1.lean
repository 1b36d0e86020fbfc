/- The program's ladder. -/
import Derived.Test.YtfbcmckepdjdkaaDoorGM3
namespace Go.Proofs.YtfbcmckepdjdkaaDoor
open Go.RowKit Go.My Go.Lib
set_option linter.unusedVariables false

def ladN (n u : Nat) : Nat → (Nat × Nat) × (Nat × Nat)
  | 0 => ((1, 0), (u, 1))
  | k + 1 => if n / 2 ^ (254 - k) % 2 = 1 then ((stepN (ladN n u k).2 (ladN n u k).1 u).2, (stepN (ladN n u k).2 (ladN n u k).1 u).1) else stepN (ladN n u k).1 (ladN n u k).2 u
def Lt4 (s : (Nat × Nat) × (Nat × Nat)) : Prop := s.1.1 < P25n ∧ s.1.2 < P25n ∧ s.2.1 < P25n ∧ s.2.2 < P25n
theorem stepN_lt (a b : Nat × Nat) (u : Nat) : Lt4 (stepN a b u) := ⟨fMu_lt _ _, fMu_lt _ _, fMu_lt _ _, fMu_lt _ _⟩
theorem ladN_lt (n u : Nat) (hu : u < P25n) : ∀ k, Lt4 (ladN n u k)
  | 0 => ⟨(by decide : 1 < P25n), (by decide : 0 < P25n), hu, (by decide : 1 < P25n)⟩
  | k + 1 => by
    unfold ladN
    split
    · have h := stepN_lt (ladN n u k).2 (ladN n u k).1 u
      exact ⟨h.2.2.1, h.2.2.2, h.1, h.2.1⟩
    · exact stepN_lt _ _ _
theorem lad_step (n u m : Nat) (hm : m ≤ 254) : ladN n u (255 - m) = if n / 2 ^ m % 2 = 1 then ((stepN (ladN n u (255 - (m + 1))).2 (ladN n u (255 - (m + 1))).1 u).2, (stepN (ladN n u (255 - (m + 1))).2 (ladN n u (255 - (m + 1))).1 u).1) else stepN (ladN n u (255 - (m + 1))).1 (ladN n u (255 - (m + 1))).2 u := by
  obtain ⟨k, hk⟩ : ∃ k, 255 - (m + 1) = k := ⟨_, rfl⟩
  have h1 : 255 - m = k + 1 := by omega
  have h2 : 254 - k = m := by omega
  rw [h1, hk]
  show (if n / 2 ^ (254 - k) % 2 = 1 then _ else _) = _
  rw [h2]
/-- The ladder's number. -/
def ladV (n u : Nat) : Nat := fMu (ladN n u 255).1.1 ((ladN n u 255).1.2 ^ E25 % P25n)
theorem inv_any (a c : Nat) (w : World) (hc : c = a ^ E25 % P25n) (ha : a < P25n) (hp : TabP w) :
    Calls Tryd.prog 179 [Value.agg (fldA a)].toArray w fun e w' => e = .returned (.agg (fldA c)) ∧ Below w.heap.size w w' := by
  rw [hc]
  exact inverse_any a w (ltW ha) hp
theorem cfInv (args : Array Value) (w : World) : (callFunc 179 args).run Tryd.prog w = .ok (.enter 179 args) w := cf_of Tryd.func179 (by kernel_rfl) (by kernel_rfl) args w
theorem bP1 (w : World) : (Instr.build 184 #[(0, .agg (fldA 1))]).run Tryd.prog w = .ok (.agg (ptA 1 0)) w := by kernel_rfl
theorem ptSame (a b c d : Nat) : (ptA a b).size = (ptA c d).size := by rw [ptA_size, ptA_size]
theorem below_row {B g : Nat} {w W : World} (h : Below B w W) (hg : B ≤ g) (cs : Array Value) : Below B w (W.setRow g cs) := h.trans ⟨rfl, rfl, rfl, by simp, fun q hq => setRow_other W g q cs (by omega)⟩
theorem fldAt_of {g n : Nat} {w : World} {T : TypeId} (h : Blk g (fldA n) T w) : FldAt g 0 n w := FldAt.blk h

set_option maxRecDepth 100000 in
set_option maxHeartbeats 8000000 in
theorem ladder_any (n u : Nat) (w : World) (hn : n < W256) (hu : u < P25n) (hp : TabP w) :
    Calls Tryd.prog 132 #[.agg (fldA n), .agg (fldA u)] w fun e w' => e = .returned (.agg (fldA (ladV n u))) ∧ Below w.heap.size w w' := by
  have HFN := Lib.hid (fun m => fszN m)
  have HU := Lib.hid hu
  go_enter Tryd.func132, Tryd.ntmps132
  go_upto_region 1 with (fail)
  have hB : Below w.heap.size w (((w.alloc (.cells (fldA n) 97)).alloc (.cells (fldA u) 97)).alloc (.cells Z4 97)) := (((Below.refl _ _).alloc (Nat.le_refl _) _).alloc (by simp) _).alloc (by simp; omega) _
  have fu := (FldAt.box (w.alloc (.cells (fldA n) 97)) u 97).past (.cells Z4 97)
  have f2 : Blk w.heap.size (fldA n) 97 (((w.alloc (.cells (fldA n) 97)).alloc (.cells (fldA u) 97)).alloc (.cells Z4 97)) := al3_0 w _ _ _
  have f3 : Blk (w.heap.size + 1) (fldA u) 97 (((w.alloc (.cells (fldA n) 97)).alloc (.cells (fldA u) 97)).alloc (.cells Z4 97)) := al3_1 w _ _ _
  have f4 : Blk (w.heap.size + 1 + 1) Z4 97 (((w.alloc (.cells (fldA n) 97)).alloc (.cells (fldA u) 97)).alloc (.cells Z4 97)) := al3_2 w _ _ _
  have ht : TabP (((w.alloc (.cells (fldA n) 97)).alloc (.cells (fldA u) 97)).alloc (.cells Z4 97)) := hp.below hB hp.1
  have hM : w.heap.size + 1 + 1 + 1 ≤ (((w.alloc (.cells (fldA n) 97)).alloc (.cells (fldA u) 97)).alloc (.cells Z4 97)).heap.size := by simp
  simp only [World.size_alloc] at fu
  obtain ⟨H0, hH0⟩ : ∃ H, H = w.heap.size := ⟨_, rfl⟩
  have HP := Lib.hid hp
  clear hu hp
  generalize (((w.alloc (.cells (fldA n) 97)).alloc (.cells (fldA u) 97)).alloc (.cells Z4 97)) = x0 at *
  have HN := Lib.hid (show w.heap.size + 1 + 1 < w.heap.size + 1 + 1 + 1 ∧ w.heap.size ≠ w.heap.size + 1 + 1 ∧ 0 ≠ w.heap.size + 1 + 1 ∧ w.heap.size ≤ w.heap.size + 1 + 1 ∧ w.heap.size + 1 ≠ w.heap.size + 1 + 1 by have := HP.out.1; omega)
  have HM := Lib.hid (show w.heap.size < w.heap.size + 1 + 1 + 1 ∧ w.heap.size + 1 < w.heap.size + 1 + 1 + 1 ∧ w.heap.size + 1 + 1 < w.heap.size + 1 + 1 + 1 by omega)
  generalize w.heap.size + 1 + 1 + 1 = M at *
  generalize w.heap.size + 1 + 1 = g4 at *
  generalize w.heap.size + 1 = g3 at *
  obtain ⟨g2, hg2⟩ : ∃ g, g = w.heap.size := ⟨_, rfl⟩
  rw [← hg2] at f2 ⊢
  have HG2 := Lib.hid (And.intro hg2 hH0)
  clear hg2 hH0
  replace f3 := f3
  go_upto_region 1 with (fail)
  refine region_all 9 (kdAt [.val (.agg (fldA 1)), .val (.agg (ptA 1 0)), .val (.agg (fldA u)), .val (.agg (fldA 1)), .val (.agg (ptA u 1)), .new 184 Z8, .new 184 Z8, .put 5 184 (ptA 1 0), .put 6 184 (ptA u 1)]) [some 8, some 9, some 10, some 11, some 12, some 5, some 6, none, none] (by kernel_rfl) rfl (by kernel_rfl) (by kernel_rfl) (by kernel_rfl) (by kernel_rfl) ?_ ?_
  · repeat refine allS ?_ ?_
    · exact all0
    · exact stepBuild [] #[(0, .int .u64 1)] rfl rfl rfl rfl (fun p hp => by cases hp) (fun a ha => by simp [Act.eval]) (fun w => bF 1 (by decide) w)
    · exact stepBuild [(8, .agg (fldA 1))] #[(0, .agg (fldA 1))] rfl rfl rfl rfl (srcN1 (src_new 0 (by decide) rfl rfl (by kernel_rfl))) (fun a ha => by simp [show a.eval (.tmp 8) = .agg (fldA 1) from ha (8, .agg (fldA 1)) (by simp)]) (fun w => bP1 w)
    · exact stepLoad (.pointer (some ⟨g3, 0, none⟩)) rfl rfl rfl rfl (src_old (by kernel_rfl) rfl) (fun w hk => FldAt.ld (fu.below (hk.below (nh0 rfl))))
    · exact stepBuild [] #[(0, .int .u64 1)] rfl rfl rfl rfl (fun p hp => by cases hp) (fun a ha => by simp [Act.eval]) (fun w => bF 1 (by decide) w)
    · exact stepBuild [(10, .agg (fldA u)), (11, .agg (fldA 1))] #[(0, .agg (fldA u)), (1, .agg (fldA 1))] rfl rfl rfl rfl (srcN2 (src_new 2 (by decide) rfl rfl (by kernel_rfl)) (src_new 3 (by decide) rfl rfl (by kernel_rfl))) (fun a ha => by simp [show a.eval (.tmp 10) = .agg (fldA u) from ha (10, .agg (fldA u)) (by simp), show a.eval (.tmp 11) = .agg (fldA 1) from ha (11, .agg (fldA 1)) (by simp)]) (fun w => bP u 1 w)
    · exact stepNew rfl rfl rfl rfl alP
    · exact stepNew rfl rfl rfl rfl alP
    · exact stepPut (Z := Z8) (d := 5) (k := 9) rfl rfl rfl rfl rfl (by decide) rfl (by kernel_rfl) rfl (z8p 1 0) (src_new 1 (by decide) rfl rfl (by kernel_rfl)) (ptSz 1 0) (ptOne 1 0) (uniq_of rfl)
    · exact stepPut (Z := Z8) (d := 6) (k := 12) rfl rfl rfl rfl rfl (by decide) rfl (by kernel_rfl) rfl (z8p u 1) (src_new 4 (by decide) rfl rfl (by kernel_rfl)) (ptSz u 1) (ptOne u 1) (uniq_of rfl)
  intro v x1 hok hk
  replace hk := hk.all
  have v0 := okVal hok (j := 0) rfl rfl
  have v1 := okVal hok (j := 1) rfl rfl
  have v2 := okVal hok (j := 2) rfl rfl
  have v3 := okVal hok (j := 3) rfl rfl
  have v4 := okVal hok (j := 4) rfl rfl
  obtain ⟨g5, v5, k5, l5⟩ := okRowB hok (i := 7) (j := 5) rfl rfl rfl rfl
  obtain ⟨g6, v6, k6, l6⟩ := okRowB hok (i := 8) (j := 6) rfl rfl rfl rfl
  have n5_6 := okNe hok (i := 5) (j := 6) rfl rfl rfl rfl (by decide) v5 v6
  clear hok
  simp only [putL, Nat.zero_add, Nat.reduceAdd, v0, v1, v2, v3, v4, v5, v6, Act.put, List.setIfInBounds_toArray, List.set_cons_zero, List.set_cons_succ]
  clear v0 v1 v2 v3 v4 v5 v6
  replace l5 := Nat.le_trans hM l5
  replace l6 := Nat.le_trans hM l6
  replace fu := fu.below (hk.below (nh0 rfl))
  replace f2 := f2.below (hk.below (nh0 rfl))
  replace f3 := f3.below (hk.below (nh0 rfl))
  replace f4 := f4.below (hk.below (nh0 rfl))
  replace ht := ht.below (hk.below (nh0 rfl)) ht.1
  have f5 : Blk g5 (ptA 1 0) 184 x1 := k5
  clear k5
  have f6 : Blk g6 (ptA u 1) 184 x1 := k6
  clear k6
  replace hM := Nat.le_trans hM hk.size
  replace hB := hB.trans ((hk.below (nh0 rfl)).mono hB.size)
  clear hk
  have HX := Lib.hid (And.intro n5_6 (And.intro (Nat.le_trans (show w.heap.size ≤ M by have := HN.out; omega) l5) (Nat.le_trans (show w.heap.size ≤ M by have := HN.out; omega) l6)))
  have HY := Lib.hid (show g2 ≠ g5 ∧ g2 ≠ g6 ∧ g3 ≠ g5 ∧ g3 ≠ g6 ∧ g4 ≠ g5 ∧ g4 ≠ g6 ∧ g5 ≠ g4 ∧ g6 ≠ g4 by have := HN.out; have := HG2.out; have := HM.out; omega)
  clear n5_6 l5 l6 ht fu hM
  clear HM
  go_wp2_with fail
  go_loopw [7] (fun i wr => ∃ j : Nat, j ≤ 255 ∧ i = .int .i64 ((j : Int) - 1) ∧ Blk g5 (ptA (ladN n u (255 - j)).1.1 (ladN n u (255 - j)).1.2) 184 wr ∧ Blk g6 (ptA (ladN n u (255 - j)).2.1 (ladN n u (255 - j)).2.2) 184 wr ∧ Blk g2 (fldA n) 97 wr ∧ Blk g3 (fldA u) 97 wr ∧ Blk g4 Z4 97 wr ∧ Below w.heap.size w wr)
    (fun i _ => (intOf i + 1).toNat)
  case atStart => exact ⟨255, by omega, rfl, f5, f6, f2, f3, f4, hB⟩
  case round =>
    clear f5 f6 f2 f3 f4 hB
    obtain ⟨j, hj, rfl, f5, f6, f2, f3, f4, hB⟩ := hrel
    by_cases hlt : 0 < j
    · obtain ⟨m, rfl⟩ : ∃ m, j = m + 1 := ⟨j - 1, by omega⟩
      have hme : ((m + 1 : Nat) : Int) - 1 = (m : Int) := by omega
      rw [hme]
      have m0 : (0 : Int) ≤ (m : Int) := by omega
      have m1 : (m : Int) ≤ 254 := by omega
      have HK := Lib.hid hj
      have HS := Lib.hid (lad_step n u m (by omega))
      have HL := Lib.hid (ladN_lt n u HU.out (255 - (m + 1)))
      generalize ladN n u (255 - (m + 1)) = st at *
      obtain ⟨⟨lx, lz⟩, hx, hz⟩ := st
      simp only at f5 f6 HS
      have HT := Lib.hid (HP.out.below hB HP.out.1)
      clear hj hlt hme
      go_wp2_with (first
        | with_reducible refine wpList_load_row (o := ⟨some 17, _, _, _, _, _⟩) rfl 97 _ rfl g2 rfl 97 (fldA n) (0, 0) (.array 4 95) f2.h Tryd.underlying97 rfl (HFN.out _) ?_
        | fail)
      refine (bit_any n m _ (by omega)).mono ?_
      rintro e w2 ⟨rfl, hb2⟩
      replace f2 := f2.below hb2
      replace f3 := f3.below hb2
      replace f4 := f4.below hb2
      replace f5 := f5.below hb2
      replace f6 := f6.below hb2
      replace hB := hB.trans (hb2.mono hB.size)
      replace HT := Lib.hid (HT.out.below hb2 HT.out.1)
      clear hb2
      by_cases hbit : n / 2 ^ m % 2 = 1
      · rw [decide_eq_true hbit]
        have HE : Hid (ladN n u (255 - m) = ((stepN (hx, hz) (lx, lz) u).2, (stepN (hx, hz) (lx, lz) u).1)) := by show _ = _; rw [HS.out, if_pos hbit]
        have HQ : Hid (∀ V, TabP V → Calls Tryd.prog 177 #[.agg (ptA hx hz), .agg (ptA lx lz), .agg (fldA u)] V fun e w' => e = .returned (.tuple #[.agg (ptA (stepN (hx, hz) (lx, lz) u).1.1 (stepN (hx, hz) (lx, lz) u).1.2), .agg (ptA (stepN (hx, hz) (lx, lz) u).2.1 (stepN (hx, hz) (lx, lz) u).2.2)]) ∧ Below V.heap.size V w') := fun V hV => stepped_any (hx, hz) (lx, lz) u V HL.out.2.2.1 HL.out.2.2.2 HL.out.1 HL.out.2.1 HU.out hV
        clear hbit HS
        generalize stepN (hx, hz) (lx, lz) u = r at *
        obtain ⟨⟨ra, rb⟩, rc, rd⟩ := r
        simp only at HQ HE
        go_wp2_with (first
          | with_reducible refine wpList_load_row (o := ⟨some 21, _, _, _, _, _⟩) rfl 184 _ rfl g6 rfl 184 (ptA hx hz) (0, 0) _ f6.h Tryd.underlying184 rfl (ptSz _ _) ?_
          | with_reducible refine wpList_load_row (o := ⟨some 22, _, _, _, _, _⟩) rfl 184 _ rfl g5 rfl 184 (ptA lx lz) (0, 0) _ f5.h Tryd.underlying184 rfl (ptSz _ _) ?_
          | with_reducible refine wpList_load_row (o := ⟨some 23, _, _, _, _, _⟩) rfl 97 _ rfl g3 rfl 97 (fldA u) (0, 0) _ f3.h Tryd.underlying97 rfl (HFN.out _) ?_
          | fail)
        refine (HQ.out _ HT.out).mono ?_
        rintro e w3 ⟨rfl, hb3⟩
        replace f2 := f2.below hb3
        replace f3 := f3.below hb3
        replace f4 := f4.below hb3
        replace f5 := f5.below hb3
        replace f6 := f6.below hb3
        replace hB := hB.trans (hb3.mono hB.size)
        clear hb3 HQ HL HT
        go_wp2_with (first
          | ((with_reducible refine wpList_store_row (o := ⟨none, .store 184 _ _, _, _, _, _⟩) rfl 184 _ _ rfl g6 (ptA ra rb) rfl rfl 184 (ptA hx hz) f6.h (ptSz _ _) (ptSame _ _ _ _) (ptOne _ _) ?_); have f5' := f5.row (ds := ptA ra rb) HX.out.1)
          | ((with_reducible refine wpList_store_row (o := ⟨none, .store 184 _ _, _, _, _, _⟩) rfl 184 _ _ rfl g5 (ptA rc rd) rfl rfl 184 (ptA lx lz) f5'.h (ptSz _ _) (ptSame _ _ _ _) (ptOne _ _) ?_))
          | fail)
        have q6 : Blk g6 (ptA ra rb) 184 ((w3.setRow g6 (ptA ra rb)).setRow g5 (ptA rc rd)) := Blk.row (setRow_heap w3 g6 _ _ _ (0, 0) f6) (Ne.symm HX.out.1)
        have q5 : Blk g5 (ptA rc rd) 184 ((w3.setRow g6 (ptA ra rb)).setRow g5 (ptA rc rd)) := setRow_heap _ g5 _ _ _ (0, 0) f5'
        have q2 := (f2.row (ds := ptA ra rb) HY.out.2.1).row (ds := ptA rc rd) HY.out.1
        have q3 := (f3.row (ds := ptA ra rb) HY.out.2.2.2.1).row (ds := ptA rc rd) HY.out.2.2.1
        have q4 := (f4.row (ds := ptA ra rb) HY.out.2.2.2.2.2.1).row (ds := ptA rc rd) HY.out.2.2.2.2.1
        have qB : Below w.heap.size w ((w3.setRow g6 (ptA ra rb)).setRow g5 (ptA rc rd)) := below_row (below_row hB HX.out.2.2 _) HX.out.2.1 _
        clear f5 f5' f6 f2 f3 f4 hB
        go_roundw
        case rel => exact ⟨m, by have := HK.out; omega, by go_num, by rw [HE.out]; exact q5, by rw [HE.out]; exact q6, q2, q3, q4, qB⟩
        case measure => first | (simp [intOf]; omega) | simp [intOf]
      · rw [decide_eq_false hbit]
        have HE : Hid (ladN n u (255 - m) = stepN (lx, lz) (hx, hz) u) := by show _ = _; rw [HS.out, if_neg hbit]
        have HQ : Hid (∀ V, TabP V → Calls Tryd.prog 177 #[.agg (ptA lx lz), .agg (ptA hx hz), .agg (fldA u)] V fun e w' => e = .returned (.tuple #[.agg (ptA (stepN (lx, lz) (hx, hz) u).1.1 (stepN (lx, lz) (hx, hz) u).1.2), .agg (ptA (stepN (lx, lz) (hx, hz) u).2.1 (stepN (lx, lz) (hx, hz) u).2.2)]) ∧ Below V.heap.size V w') := fun V hV => stepped_any (lx, lz) (hx, hz) u V HL.out.1 HL.out.2.1 HL.out.2.2.1 HL.out.2.2.2 HU.out hV
        clear hbit HS
        generalize stepN (lx, lz) (hx, hz) u = r at *
        obtain ⟨⟨ra, rb⟩, rc, rd⟩ := r
        simp only at HQ HE
        go_wp2_with (first
          | with_reducible refine wpList_load_row (o := ⟨some 28, _, _, _, _, _⟩) rfl 184 _ rfl g5 rfl 184 (ptA lx lz) (0, 0) _ f5.h Tryd.underlying184 rfl (ptSz _ _) ?_
          | with_reducible refine wpList_load_row (o := ⟨some 29, _, _, _, _, _⟩) rfl 184 _ rfl g6 rfl 184 (ptA hx hz) (0, 0) _ f6.h Tryd.underlying184 rfl (ptSz _ _) ?_
          | with_reducible refine wpList_load_row (o := ⟨some 30, _, _, _, _, _⟩) rfl 97 _ rfl g3 rfl 97 (fldA u) (0, 0) _ f3.h Tryd.underlying97 rfl (HFN.out _) ?_
          | fail)
        refine (HQ.out _ HT.out).mono ?_
        rintro e w3 ⟨rfl, hb3⟩
        replace f2 := f2.below hb3
        replace f3 := f3.below hb3
        replace f4 := f4.below hb3
        replace f5 := f5.below hb3
        replace f6 := f6.below hb3
        replace hB := hB.trans (hb3.mono hB.size)
        clear hb3 HQ HL HT
        go_wp2_with (first
          | ((with_reducible refine wpList_store_row (o := ⟨none, .store 184 _ _, _, _, _, _⟩) rfl 184 _ _ rfl g5 (ptA ra rb) rfl rfl 184 (ptA lx lz) f5.h (ptSz _ _) (ptSame _ _ _ _) (ptOne _ _) ?_); have f6' := f6.row (ds := ptA ra rb) (Ne.symm HX.out.1))
          | ((with_reducible refine wpList_store_row (o := ⟨none, .store 184 _ _, _, _, _, _⟩) rfl 184 _ _ rfl g6 (ptA rc rd) rfl rfl 184 (ptA hx hz) f6'.h (ptSz _ _) (ptSame _ _ _ _) (ptOne _ _) ?_))
          | fail)
        have q5 : Blk g5 (ptA ra rb) 184 ((w3.setRow g5 (ptA ra rb)).setRow g6 (ptA rc rd)) := Blk.row (setRow_heap w3 g5 _ _ _ (0, 0) f5) HX.out.1
        have q6 : Blk g6 (ptA rc rd) 184 ((w3.setRow g5 (ptA ra rb)).setRow g6 (ptA rc rd)) := setRow_heap _ g6 _ _ _ (0, 0) f6'
        have q2 := (f2.row (ds := ptA ra rb) HY.out.1).row (ds := ptA rc rd) HY.out.2.1
        have q3 := (f3.row (ds := ptA ra rb) HY.out.2.2.1).row (ds := ptA rc rd) HY.out.2.2.2.1
        have q4 := (f4.row (ds := ptA ra rb) HY.out.2.2.2.2.1).row (ds := ptA rc rd) HY.out.2.2.2.2.2.1
        have qB : Below w.heap.size w ((w3.setRow g5 (ptA ra rb)).setRow g6 (ptA rc rd)) := below_row (below_row hB HX.out.2.1 _) HX.out.2.2 _
        clear f5 f6' f6 f2 f3 f4 hB
        go_roundw
        case rel => exact ⟨m, by have := HK.out; omega, by go_num, by rw [HE.out]; exact q5, by rw [HE.out]; exact q6, q2, q3, q4, qB⟩
        case measure => first | (simp [intOf]; omega) | simp [intOf]
    · have hke : j = 0 := by omega
      subst hke
      simp only [Nat.sub_zero] at f5 f6
      have HL := Lib.hid (ladN_lt n u HU.out 255)
      have HV : Hid (ladV n u = fMu (ladN n u 255).1.1 ((ladN n u 255).1.2 ^ E25 % P25n)) := rfl
      generalize ladN n u 255 = st at *
      obtain ⟨⟨lx, lz⟩, hx, hz⟩ := st
      simp only at f5 f6 HV
      obtain ⟨zi, hzi⟩ : ∃ zi, zi = lz ^ E25 % P25n := ⟨_, rfl⟩
      obtain ⟨R, hR⟩ : ∃ R, R = fMu lx zi := ⟨_, rfl⟩
      have Ezi := Lib.hid hzi
      have ER := Lib.hid hR
      have Blx := Lib.hid HL.out.1
      have Blz := Lib.hid HL.out.2.1
      have Bzi : Hid (zi < P25n) := by show _ < _; rw [hzi]; exact Nat.mod_lt _ (by decide)
      have HVR : Hid (ladV n u = R) := by show _ = _; rw [HV.out, hR, hzi]
      have ht := HP.out.below hB HP.out.1
      have px : FldAt g5 0 lx wr := FldAt.px f5
      have pz : FldAt g5 4 lz wr := FldAt.pz f5
      replace HN := Lib.hid (show g4 < wr.heap.size ∧ g5 ≠ g4 ∧ 0 ≠ g4 ∧ w.heap.size ≤ g4 from ⟨f4.lt, HY.out.2.2.2.2.2.2.1, HN.out.2.2.1, HN.out.2.2.2.1⟩)
      have hM : wr.heap.size ≤ wr.heap.size := Nat.le_refl _
      clear hlt hj hzi hR f5 f6 f2 f3
      go_upto_region 8 with (fail)
      refine region_all 7 (kdAt [.val (.pointer (some ⟨g5, 0, none⟩)), .val (.agg (fldA lx)), .val (.pointer (some ⟨g5, 4, none⟩)), .val (.agg (fldA lz)), .val (.agg (fldA zi)), .val (.agg (fldA R)), .old g4 97 (fldA R)]) [some 34, some 35, some 36, some 37, some 38, some 39, none] (by kernel_rfl) rfl (by kernel_rfl) (by kernel_rfl) (by kernel_rfl) (by kernel_rfl) ?_ ?_
      · repeat refine allS ?_ ?_
        · exact all0
        · exact stepField (.pointer (some ⟨g5, 0, none⟩)) rfl rfl rfl rfl (src_old (by kernel_rfl) rfl) (fun w => fx _ w)
        · exact stepLoad (.pointer (some ⟨g5, 0, none⟩)) rfl rfl rfl rfl (src_new 0 (by decide) rfl rfl (by kernel_rfl)) (fun w hk => FldAt.ld (px.kept hk (nh1 rfl HN.out.2.1)))
        · exact stepField (.pointer (some ⟨g5, 0, none⟩)) rfl rfl rfl rfl (src_old (by kernel_rfl) rfl) (fun w => fz _ w)
        · exact stepLoad (.pointer (some ⟨g5, 4, none⟩)) rfl rfl rfl rfl (src_new 2 (by decide) rfl rfl (by kernel_rfl)) (fun w hk => FldAt.ld (pz.kept hk (nh1 rfl HN.out.2.1)))
        · exact stepCall (ks := [37]) [.agg (fldA lz)] rfl rfl rfl rfl cfInv rfl (src1 (src_new 3 (by decide) rfl rfl (by kernel_rfl))) (fun w hk => inv_any lz zi w Ezi.out Blz.out (ht.kept hk (nh1 rfl HN.out.2.2.1)))
        · exact stepCall (ks := [35, 38]) [.agg (fldA lx), .agg (fldA zi)] rfl rfl rfl rfl cfTimes rfl (src2 (src_new 1 (by decide) rfl rfl (by kernel_rfl)) (src_new 4 (by decide) rfl rfl (by kernel_rfl))) (fun w hk => fMul_any lx zi R w ER.out Blx.out Bzi.out (ht.kept hk (nh1 rfl HN.out.2.2.1)))
        · exact stepOld (d := 4) (k := 39) rfl rfl rfl rfl rfl (src_old (by kernel_rfl) rfl) f4 (zszN _) (src_new 5 (by decide) rfl rfl (by kernel_rfl)) (fszN R) (oneN R) (one_old rfl)
      intro v x2 hok hk
      replace hk := hk.all
      have v0 := okVal hok (j := 0) rfl rfl
      have v1 := okVal hok (j := 1) rfl rfl
      have v2 := okVal hok (j := 2) rfl rfl
      have v3 := okVal hok (j := 3) rfl rfl
      have v4 := okVal hok (j := 4) rfl rfl
      have v5 := okVal hok (j := 5) rfl rfl
      have o6 := okOld hok (i := 6) rfl rfl
      clear hok
      simp only [putL, Nat.zero_add, Nat.reduceAdd, v0, v1, v2, v3, v4, v5, Act.put, List.setIfInBounds_toArray, List.set_cons_zero, List.set_cons_succ]
      clear v0 v1 v2 v3 v4 v5
      clear f4
      have f_g4 : Blk g4 (fldA R) 97 x2 := o6
      clear o6
      replace hM := Nat.le_trans hM hk.size
      replace hB := hB.trans (hk.base hB.size (fun k hk => nh1 rfl (Nat.ne_of_lt (Nat.lt_of_lt_of_le hk HN.out.2.2.2))))
      clear hk
      go_wp2_with fail
      refine bodyPost_ret (v := .agg (fldA R)) ?_ rfl ⟨by rw [HVR.out], hB⟩
      exact results_cell_row Tryd.results132 _ _ g4 97 _ (0, 0) _ rfl f_g4 Tryd.underlying97 rfl (HFN.out _)

end Go.Proofs.YtfbcmckepdjdkaaDoor

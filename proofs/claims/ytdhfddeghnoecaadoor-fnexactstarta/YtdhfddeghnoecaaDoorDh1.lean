/- The program's Dh and PublicOf. -/
import Derived.Test.YtdhfddeghnoecaaDoorLad1
import Derived.Test.YtdhfddeghnoecaaDoorClm1
namespace Go.Proofs.YtdhfddeghnoecaaDoor
open Go.RowKit Go.My Go.Lib
set_option linter.unusedVariables false

def T255 : Nat := 57896044618658097711785492504343953926634992332820282019728792003956564819968
theorem fld_top (N : Nat) (h : N < W256) : (fldA N).setIfInBounds 3 (.int .u64 ((lw N 3 % 9223372036854775808 : Nat) : Int)) = fldA (N % T255) := by
  refine rwA_set .u64 4 _ _ 3 (by omega) _ ?_ ?_
  · simp only [lw]
    unfold T255 W256 at *
    omega
  · intro j hj hne
    rcases (by omega : j = 0 ∨ j = 1 ∨ j = 2) with rfl | rfl | rfl
    · simp only [lw]
      unfold T255
      omega
    · simp only [lw]
      unfold T255
      omega
    · simp only [lw]
      unfold T255
      omega
def dhV (k p : ByteArray) : ByteArray := if k.size = 32 ∧ p.size = 32 then str (leB (ladV (leN (clampL k.data.toList)) (leN p.data.toList % T255 % P25n)) 32) else str []
theorem words_any (s : ByteArray) (N : Nat) (w : World) (hN : N = leN s.data.toList) (hs : s.size = 32) :
    Calls Tryd.prog 45 [Value.string s].toArray w fun e w' => e = .returned (.agg (fldA N)) ∧ Below w.heap.size w w' := by rw [hN]; exact wordsOf_any s w hs
theorem clamp_key (s t : ByteArray) (w : World) (ht : t = str (clampL s.data.toList)) (hs : s.size = 32) :
    Calls Tryd.prog 47 [Value.string s].toArray w fun e w' => e = .returned (.string t) ∧ Below w.heap.size w w' := by
  have := clamp_i s w (by omega)
  rw [clampV, if_pos hs, ← ht] at this
  exact this
theorem red_any (n u : Nat) (w : World) (hu : u = n % P25n) (hn : n < T255) (hp : TabP w) :
    Calls Tryd.prog 48 [Value.agg (fldA n)].toArray w fun e w' => e = .returned (.agg (fldA u)) ∧ Below w.heap.size w w' := by
  have := reduced_any n w (by unfold T255 at hn; unfold W256; omega) hp
  rw [red_mod n (by unfold T255 at hn; unfold P25n; omega), ← hu] at this
  exact this
theorem lad_any (n u r : Nat) (w : World) (hr : r = ladV n u) (hn : n < W256) (hu : u < P25n) (hp : TabP w) :
    Calls Tryd.prog 46 [Value.agg (fldA n), Value.agg (fldA u)].toArray w fun e w' => e = .returned (.agg (fldA r)) ∧ Below w.heap.size w w' := by rw [hr]; exact ladder_any n u w hn hu hp
theorem enc_any (n : Nat) (o : ByteArray) (w : World) (ho : o = str (leB n 32)) :
    Calls Tryd.prog 43 [Value.agg (fldA n)].toArray w fun e w' => e = .returned (.string o) ∧ Below w.heap.size w w' := by rw [ho]; exact encoded_any n w
theorem cfWords (args : Array Value) (w : World) : (callFunc 45 args).run Tryd.prog w = .ok (.enter 45 args) w := cf_of Tryd.func45 (by kernel_rfl) (by kernel_rfl) args w
theorem cfClamp (args : Array Value) (w : World) : (callFunc 47 args).run Tryd.prog w = .ok (.enter 47 args) w := cf_of Tryd.func47 (by kernel_rfl) (by kernel_rfl) args w
theorem cfRed (args : Array Value) (w : World) : (callFunc 48 args).run Tryd.prog w = .ok (.enter 48 args) w := cf_of Tryd.func48 (by kernel_rfl) (by kernel_rfl) args w
theorem cfLad (args : Array Value) (w : World) : (callFunc 46 args).run Tryd.prog w = .ok (.enter 46 args) w := cf_of Tryd.func46 (by kernel_rfl) (by kernel_rfl) args w
theorem cfEnc (args : Array Value) (w : World) : (callFunc 43 args).run Tryd.prog w = .ok (.enter 43 args) w := cf_of Tryd.func43 (by kernel_rfl) (by kernel_rfl) args w
theorem leN_lt32 (l : List UInt8) (h : l.length = 32) : leN l < W256 := by
  have := leN_lt l
  rw [h] at this
  exact Nat.lt_of_lt_of_le this (by decide)

theorem dh_no (k p : ByteArray) (w : World) (hk : k.size ≤ 9223372036854775807) (hp : p.size ≤ 9223372036854775807) (h : ¬ (k.size = 32 ∧ p.size = 32)) :
    Calls Tryd.prog 27 #[.string k, .string p] w fun e w' => e = .returned (.string (dhV k p)) ∧ Below w.heap.size w w' := by
  have HV : Hid (dhV k p = str []) := if_neg h
  have HM := Lib.hid (And.intro hk hp)
  by_cases h1 : k.size = 32
  · have HD := Lib.hid (decide_eq_true h1)
    have HE := Lib.hid (decide_eq_false (fun c => h ⟨h1, c⟩ : ¬ p.size = 32))
    clear h h1 hk hp
    go_enter Tryd.func27, Tryd.ntmps27
    go_wp2_with fail
    refine (isKey_any k _ HM.out.1).mono ?_
    rintro e w' ⟨rfl, rfl⟩
    rw [HD.out]
    go_wp2_with fail
    refine (isKey_any p _ HM.out.2).mono ?_
    rintro e w' ⟨rfl, rfl⟩
    rw [HE.out]
    go_wp2
    go_ret
    exact ⟨by rw [HV.out]; rfl, Below.refl _ _⟩
  · have HD := Lib.hid (decide_eq_false h1)
    clear h h1 hk hp
    go_enter Tryd.func27, Tryd.ntmps27
    go_wp2_with fail
    refine (isKey_any k _ HM.out.1).mono ?_
    rintro e w' ⟨rfl, rfl⟩
    rw [HD.out]
    go_wp2
    go_ret
    exact ⟨by rw [HV.out]; rfl, Below.refl _ _⟩

set_option maxRecDepth 100000 in
set_option maxHeartbeats 8000000 in
theorem dh_yes (k p k2 o : ByteArray) (N N2 C u r : Nat) (w : World) (hk : k.size = 32) (hp : p.size = 32) (ht : TabP w)
    (eN : N = leN p.data.toList) (eN2 : N2 = N % T255) (eK : k2 = str (clampL k.data.toList)) (eC : C = leN k2.data.toList) (eu : u = N2 % P25n) (er : r = ladV C u) (eo : o = str (leB r 32)) :
    Calls Tryd.prog 27 #[.string k, .string p] w fun e w' => e = .returned (.string o) ∧ Below w.heap.size w w' := by
  have HM : Hid (k.size ≤ 9223372036854775807 ∧ p.size ≤ 9223372036854775807) := ⟨by omega, by omega⟩
  have HS := Lib.hid (And.intro hk hp)
  have HD := Lib.hid (decide_eq_true hk)
  have HE := Lib.hid (decide_eq_true hp)
  have HK2 : Hid (k2.size = 32) := by show _ = _; rw [eK, str_size, clampL_len, len_data]; exact hk
  have BN : Hid (N < W256) := by show _ < _; rw [eN]; exact leN_lt32 _ (by rw [len_data]; exact hp)
  have BC : Hid (C < W256) := by show _ < _; rw [eC]; exact leN_lt32 _ (by rw [len_data]; exact HK2.out)
  have BN2 : Hid (N2 < T255) := by show _ < _; rw [eN2]; exact Nat.mod_lt _ (by decide)
  have Bu : Hid (u < P25n) := by show _ < _; rw [eu]; exact Nat.mod_lt _ (by decide)
  have EN := Lib.hid eN
  have EN2 := Lib.hid eN2
  have EK := Lib.hid eK
  have EC := Lib.hid eC
  have Eu := Lib.hid eu
  have Er := Lib.hid er
  have Eo := Lib.hid eo
  clear hk hp eN eN2 eK eC eu er eo
  have HTW := Lib.hid ht
  have hB : Below w.heap.size w w := Below.refl _ _
  have hM : w.heap.size ≤ w.heap.size := Nat.le_refl _
  go_enter Tryd.func27, Tryd.ntmps27
  go_wp2_with fail
  refine (isKey_any k _ HM.out.1).mono ?_
  rintro e w' ⟨rfl, rfl⟩
  rw [HD.out]
  go_wp2_with fail
  refine (isKey_any p _ HM.out.2).mono ?_
  rintro e w' ⟨rfl, rfl⟩
  rw [HE.out]
  go_upto_region 3 with (fail)
  refine region_seq 4 (kdAt [.val (.string p), .val (.agg (fldA N)), .new 60 Z4, .put 2 60 (fldA N)]) [some 14, some 15, some 5, none] (by decide) (by kernel_rfl) (by kernel_rfl) (by kernel_rfl) (by kernel_rfl) ?_ ?_
  · repeat refine allS ?_ ?_
    · exact all0
    · exact stepMove rfl rfl rfl rfl (src_old (by kernel_rfl) rfl)
    · exact stepCall (ks := [14]) [.string p] rfl rfl rfl rfl cfWords rfl (src1 (src_new 0 (by decide) rfl rfl (by kernel_rfl))) (fun w hk => words_any p N w EN.out HS.out.2)
    · exact stepNew rfl rfl rfl rfl alF
    · exact stepPut (Z := Z4) (d := 5) (k := 15) rfl rfl rfl rfl rfl (by decide) rfl (by kernel_rfl) rfl (zszN N) (src_new 1 (by decide) rfl rfl (by kernel_rfl)) (fszN N) (oneN N) (uniq_of rfl)
  intro v x1 hok hk
  replace hk := hk.all
  refine wpList_nil ?_
  have v0 := okVal hok (j := 0) rfl rfl
  have v1 := okVal hok (j := 1) rfl rfl
  obtain ⟨g5, v2, k5, l5⟩ := okRowB hok (i := 3) (j := 2) rfl rfl rfl rfl
  clear hok
  simp only [putL, Nat.zero_add, Nat.reduceAdd, v0, v1, v2, Act.put, List.setIfInBounds_toArray, List.set_cons_zero, List.set_cons_succ]
  clear v0 v1 v2
  replace l5 := Nat.le_trans hM l5
  replace ht := ht.below (hk.below (nh0 rfl)) ht.1
  have f5 : Blk g5 (fldA N) 60 x1 := k5
  clear k5
  replace hM := Nat.le_trans hM hk.size
  replace hB := hB.trans ((hk.below (nh0 rfl)).mono hB.size)
  clear hk
  have hc := f5.cell (j := 3) (rwA_get .u64 4 _ 3 (by omega))
  have hf := f5.froz (j := 3)
  have hst := f5.set 3 (.int .u64 ((lw N 3 % 9223372036854775808 : Nat) : Int))
  rw [fld_top N BN.out, ← EN2.out] at hst
  have hn := notTop (lw N 3) (lw_lt N 3)
  have hB2 := hB.setCell (p := ⟨g5, 3, none⟩) l5 (.int .u64 ((lw N 3 % 9223372036854775808 : Nat) : Int))
  have HX := Lib.hid (And.intro hB2 (HTW.out.below hB2 HTW.out.1))
  clear hB2
  clear f5 hB ht hM l5
  generalize (lw N 3 % 9223372036854775808 : Nat) = y at *
  generalize (lw N 3 : Nat) = z at *
  go_upto_region 5 with (fail)
  obtain ⟨hB, ht⟩ := HX.out
  have f5 := hst
  have hM : 0 ≤ (x1.setCell ⟨g5, 3, none⟩ (.int .u64 (y : Int))).heap.size := Nat.zero_le _
  clear hst hc hf hn HX
  generalize x1.setCell ⟨g5, 3, none⟩ (.int .u64 (y : Int)) = x2 at *
  go_upto_region 5 with (fail)
  refine region_all 8 (kdAt [.val (.string k), .val (.string k2), .val (.agg (fldA C)), .val (.agg (fldA N2)), .val (.agg (fldA u)), .val (.agg (fldA r)), .val (.string o), .val (.string o)]) [some 20, some 21, some 22, some 23, some 24, some 25, some 26, some 4] (by kernel_rfl) rfl (by kernel_rfl) (by kernel_rfl) (by kernel_rfl) (by kernel_rfl) ?_ ?_
  · repeat refine allS ?_ ?_
    · exact all0
    · exact stepMove rfl rfl rfl rfl (src_old (by kernel_rfl) rfl)
    · exact stepCall (ks := [20]) [.string k] rfl rfl rfl rfl cfClamp rfl (src1 (src_new 0 (by decide) rfl rfl (by kernel_rfl))) (fun w hk => clamp_key k k2 w EK.out HS.out.1)
    · exact stepCall (ks := [21]) [.string k2] rfl rfl rfl rfl cfWords rfl (src1 (src_new 1 (by decide) rfl rfl (by kernel_rfl))) (fun w hk => words_any k2 C w EC.out HK2.out)
    · exact stepLoad (.pointer (some ⟨g5, 0, none⟩)) rfl rfl rfl rfl (src_old (by kernel_rfl) rfl) (fun w hk => FldAt.ld (FldAt.blk (f5.below (hk.below (nh0 rfl))).h))
    · exact stepCall (ks := [23]) [.agg (fldA N2)] rfl rfl rfl rfl cfRed rfl (src1 (src_new 3 (by decide) rfl rfl (by kernel_rfl))) (fun w hk => red_any N2 u w Eu.out BN2.out (ht.below (hk.below (nh0 rfl)) ht.1))
    · exact stepCall (ks := [22, 24]) [.agg (fldA C), .agg (fldA u)] rfl rfl rfl rfl cfLad rfl (src2 (src_new 2 (by decide) rfl rfl (by kernel_rfl)) (src_new 4 (by decide) rfl rfl (by kernel_rfl))) (fun w hk => lad_any C u r w Er.out BC.out Bu.out (ht.below (hk.below (nh0 rfl)) ht.1))
    · exact stepCall (ks := [25]) [.agg (fldA r)] rfl rfl rfl rfl cfEnc rfl (src1 (src_new 5 (by decide) rfl rfl (by kernel_rfl))) (fun w hk => enc_any r o w Eo.out)
    · exact stepAssign rfl rfl rfl rfl (src_new 6 (by decide) rfl rfl (by kernel_rfl))
  intro v x2 hok hk
  replace hk := hk.all
  have v0 := okVal hok (j := 0) rfl rfl
  have v1 := okVal hok (j := 1) rfl rfl
  have v2 := okVal hok (j := 2) rfl rfl
  have v3 := okVal hok (j := 3) rfl rfl
  have v4 := okVal hok (j := 4) rfl rfl
  have v5 := okVal hok (j := 5) rfl rfl
  have v6 := okVal hok (j := 6) rfl rfl
  have v7 := okVal hok (j := 7) rfl rfl
  clear hok
  simp only [putL, Nat.zero_add, Nat.reduceAdd, v0, v1, v2, v3, v4, v5, v6, v7, Act.put, List.setIfInBounds_toArray, List.set_cons_zero, List.set_cons_succ]
  clear v0 v1 v2 v3 v4 v5 v6 v7
  replace f5 := f5.below (hk.below (nh0 rfl))
  replace ht := ht.below (hk.below (nh0 rfl)) ht.1
  replace hM := Nat.le_trans hM hk.size
  replace hB := hB.trans ((hk.below (nh0 rfl)).mono hB.size)
  clear hk
  go_wp2
  go_ret
  exact ⟨rfl, hB⟩

theorem dh_i (k p : ByteArray) (w : World) (hk : k.size ≤ 9223372036854775807) (hp : p.size ≤ 9223372036854775807) (ht : TabP w) :
    Calls Tryd.prog 27 #[.string k, .string p] w fun e w' => e = .returned (.string (dhV k p)) ∧ Below w.heap.size w w' := by
  by_cases h : k.size = 32 ∧ p.size = 32
  · have := dh_yes k p _ _ _ _ _ _ _ w h.1 h.2 ht rfl rfl rfl rfl rfl rfl rfl
    rw [dhV, if_pos h]
    simpa [str] using this
  · exact dh_no k p w hk hp h

def nineS : ByteArray := str (leB 9 32)
theorem cfDh (args : Array Value) (w : World) : (callFunc 27 args).run Tryd.prog w = .ok (.enter 27 args) w := cf_of Tryd.func27 (by kernel_rfl) (by kernel_rfl) args w
theorem dh_any (k p o : ByteArray) (w : World) (ho : o = dhV k p) (hk : k.size ≤ 9223372036854775807) (hp : p.size ≤ 9223372036854775807) (ht : TabP w) :
    Calls Tryd.prog 27 [Value.string k, Value.string p].toArray w fun e w' => e = .returned (.string o) ∧ Below w.heap.size w w' := by rw [ho]; exact dh_i k p w hk hp ht
theorem nine_size : nineS.size = 32 := by decide +kernel

set_option maxRecDepth 100000 in
set_option maxHeartbeats 8000000 in
theorem pub_i (k : ByteArray) (w : World) (hk : k.size ≤ 9223372036854775807) (ht : TabP w) :
    Calls Tryd.prog 25 #[.string k] w fun e w' => e = .returned (.string (dhV k nineS)) ∧ Below w.heap.size w w' := by
  have HK := Lib.hid hk
  have HN : Hid (nineS.size ≤ 9223372036854775807) := by show _ ≤ _; rw [nine_size]; omega
  have E9 : Hid (nineS = str (leB 9 32)) := rfl
  obtain ⟨o, eo⟩ : ∃ o, o = dhV k nineS := ⟨_, rfl⟩
  rw [← eo]
  have Eo := Lib.hid eo
  clear hk eo
  have hB : Below w.heap.size w w := Below.refl _ _
  have hM : w.heap.size ≤ w.heap.size := Nat.le_refl _
  go_enter Tryd.func25, Tryd.ntmps25
  go_upto_region 1 with (fail)
  refine region_seq 5 (kdAt [.val (.string k), .val (.agg (fldA 9)), .val (.string nineS), .val (.string o), .val (.string o)]) [some 3, some 4, some 5, some 6, some 2] (by decide) (by kernel_rfl) (by kernel_rfl) (by kernel_rfl) (by kernel_rfl) ?_ ?_
  · repeat refine allS ?_ ?_
    · exact all0
    · exact stepMove rfl rfl rfl rfl (src_old (by kernel_rfl) rfl)
    · exact stepBuild [] #[(0, .int .u64 9)] rfl rfl rfl rfl (fun p hp => by cases hp) (fun a ha => by simp [Act.eval]) (fun w => bF 9 (by decide) w)
    · exact stepCall (ks := [4]) [.agg (fldA 9)] rfl rfl rfl rfl cfEnc rfl (src1 (src_new 1 (by decide) rfl rfl (by kernel_rfl))) (fun w hk => enc_any 9 nineS w E9.out)
    · exact stepCall (ks := [3, 5]) [.string k, .string nineS] rfl rfl rfl rfl cfDh rfl (src2 (src_new 0 (by decide) rfl rfl (by kernel_rfl)) (src_new 2 (by decide) rfl rfl (by kernel_rfl))) (fun w hk => dh_any k nineS o w Eo.out HK.out HN.out (ht.below (hk.below (nh0 rfl)) ht.1))
    · exact stepAssign rfl rfl rfl rfl (src_new 3 (by decide) rfl rfl (by kernel_rfl))
  intro v x1 hok hk
  replace hk := hk.all
  refine wpList_nil ?_
  have v0 := okVal hok (j := 0) rfl rfl
  have v1 := okVal hok (j := 1) rfl rfl
  have v2 := okVal hok (j := 2) rfl rfl
  have v3 := okVal hok (j := 3) rfl rfl
  have v4 := okVal hok (j := 4) rfl rfl
  clear hok
  simp only [putL, Nat.zero_add, Nat.reduceAdd, v0, v1, v2, v3, v4, Act.put, List.setIfInBounds_toArray, List.set_cons_zero, List.set_cons_succ]
  clear v0 v1 v2 v3 v4
  replace ht := ht.below (hk.below (nh0 rfl)) ht.1
  replace hM := Nat.le_trans hM hk.size
  replace hB := hB.trans ((hk.below (nh0 rfl)).mono hB.size)
  clear hk
  go_wp2
  go_ret
  exact ⟨rfl, hB⟩

end Go.Proofs.YtdhfddeghnoecaaDoor

import Derived.Test.YtfbcmckepdjdkaaDoorGLad1
import Derived.Test.YtfbcmckepdjdkaaDoorGClm1
import Derived.Test.YtfbcmckepdjdkaaDoorGLad2
import Derived.Test.YtfbcmckepdjdkaaDoorGM1
import Derived.Test.YtfbcmckepdjdkaaDoorGM4
/- The program's Dh and PublicOf. -/
namespace Go.Proofs.YtfbcmckepdjdkaaDoor
open Go.RowKit Go.My Go.Lib
set_option linter.unusedVariables false

def T255 : Nat := 57896044618658097711785492504343953926634992332820282019728792003956564819968
theorem fld_top (N : Nat) (h : N < W256) : (fldA N).setIfInBounds 3 (.int .u64 ((lw N 3 % 9223372036854775808 : Nat) : Int)) = fldA (N % T255) := by
  refine rwA_set .u64 4 _ _ 3 (by omega) _ ?_ ?_
  · simp only [lw]
    unfold T255 W256 at *
    omega
  · intro j hj hne
    rcases (by omega : j = 0 ∨ j = 1 ∨ j = 2) with rfl | rfl | rfl
    · simp only [lw]
      unfold T255
      omega
    · simp only [lw]
      unfold T255
      omega
    · simp only [lw]
      unfold T255
      omega
def dhV (k p : ByteArray) : ByteArray := if k.size = 32 ∧ p.size = 32 then str (leB (ladV (leN (clampL k.data.toList)) (leN p.data.toList % T255 % P25n)) 32) else str []
theorem words_any (s : ByteArray) (N : Nat) (w : World) (hN : N = leN s.data.toList) (hs : s.size = 32) :
    Calls Tryd.prog 131 [Value.string s].toArray w fun e w' => e = .returned (.agg (fldA N)) ∧ Below w.heap.size w w' := by rw [hN]; exact wordsOf_any s w hs
theorem clamp_key (s t : ByteArray) (w : World) (ht : t = str (clampL s.data.toList)) (hs : s.size = 32) :
    Calls Tryd.prog 133 [Value.string s].toArray w fun e w' => e = .returned (.string t) ∧ Below w.heap.size w w' := by
  have := clamp_i s w (by omega)
  rw [clampV, if_pos hs, ← ht] at this
  exact this
theorem red_any (n u : Nat) (w : World) (hu : u = n % P25n) (hn : n < T255) (hp : TabP w) :
    Calls Tryd.prog 134 [Value.agg (fldA n)].toArray w fun e w' => e = .returned (.agg (fldA u)) ∧ Below w.heap.size w w' := by
  have := reduced_any n w (by unfold T255 at hn; unfold W256; omega) hp
  rw [red_mod n (by unfold T255 at hn; unfold P25n; omega), ← hu] at this
  exact this
theorem lad_any (n u r : Nat) (w : World) (hr : r = ladV n u) (hn : n < W256) (hu : u < P25n) (hp : TabP w) :
    Calls Tryd.prog 132 [Value.agg (fldA n), Value.agg (fldA u)].toArray w fun e w' => e = .returned (.agg (fldA r)) ∧ Below w.heap.size w w' := by rw [hr]; exact ladder_any n u w hn hu hp
theorem enc_any (n : Nat) (o : ByteArray) (w : World) (ho : o = str (leB n 32)) :
    Calls Tryd.prog 80 [Value.agg (fldA n)].toArray w fun e w' => e = .returned (.string o) ∧ Below w.heap.size w w' := by rw [ho]; exact encoded_any n w
theorem cfWords (args : Array Value) (w : World) : (callFunc 131 args).run Tryd.prog w = .ok (.enter 131 args) w := cf_of Tryd.func131 (by kernel_rfl) (by kernel_rfl) args w
theorem cfClamp (args : Array Value) (w : World) : (callFunc 133 args).run Tryd.prog w = .ok (.enter 133 args) w := cf_of Tryd.func133 (by kernel_rfl) (by kernel_rfl) args w
theorem cfRed (args : Array Value) (w : World) : (callFunc 134 args).run Tryd.prog w = .ok (.enter 134 args) w := cf_of Tryd.func134 (by kernel_rfl) (by kernel_rfl) args w
theorem cfLad (args : Array Value) (w : World) : (callFunc 132 args).run Tryd.prog w = .ok (.enter 132 args) w := cf_of Tryd.func132 (by kernel_rfl) (by kernel_rfl) args w
theorem cfEnc (args : Array Value) (w : World) : (callFunc 80 args).run Tryd.prog w = .ok (.enter 80 args) w := cf_of Tryd.func80 (by kernel_rfl) (by kernel_rfl) args w
theorem leN_lt32 (l : List UInt8) (h : l.length = 32) : leN l < W256 := by
  have := leN_lt l
  rw [h] at this
  exact Nat.lt_of_lt_of_le this (by decide)

theorem dh_no (k p : ByteArray) (w : World) (hk : k.size ≤ 9223372036854775807) (hp : p.size ≤ 9223372036854775807) (h : ¬ (k.size = 32 ∧ p.size = 32)) :
    Calls Tryd.prog 68 #[.string k, .string p] w fun e w' => e = .returned (.string (dhV k p)) ∧ Below w.heap.size w w' := by
  have HV : Hid (dhV k p = str []) := if_neg h
  have HM := Lib.hid (And.intro hk hp)
  by_cases h1 : k.size = 32
  · have HD := Lib.hid (decide_eq_true h1)
    have HE := Lib.hid (decide_eq_false (fun c => h ⟨h1, c⟩ : ¬ p.size = 32))
    clear h h1 hk hp
    go_enter Tryd.func68, Tryd.ntmps68
    go_wp2_with fail
    refine (isKey_any k _ HM.out.1).mono ?_
    rintro e w' ⟨rfl, rfl⟩
    rw [HD.out]
    go_wp2_with fail
    refine (isKey_any p _ HM.out.2).mono ?_
    rintro e w' ⟨rfl, rfl⟩
    rw [HE.out]
    go_wp2
    go_ret
    exact ⟨by rw [HV.out]; rfl, Below.refl _ _⟩
  · have HD := Lib.hid (decide_eq_false h1)
    clear h h1 hk hp
    go_enter Tryd.func68, Tryd.ntmps68
    go_wp2_with fail
    refine (isKey_any k _ HM.out.1).mono ?_
    rintro e w' ⟨rfl, rfl⟩
    rw [HD.out]
    go_wp2
    go_ret
    exact ⟨by rw [HV.out]; rfl, Below.refl _ _⟩

set_option maxRecDepth 100000 in
set_option maxHeartbeats 8000000 in
theorem dh_yes (k p k2 o : ByteArray) (N N2 C u r : Nat) (w : World) (hk : k.size = 32) (hp : p.size = 32) (ht : TabP w)
    (eN : N = leN p.data.toList) (eN2 : N2 = N % T255) (eK : k2 = str (clampL k.data.toList)) (eC : C = leN k2.data.toList) (eu : u = N2 % P25n) (er : r = ladV C u) (eo : o = str (leB r 32)) :
    Calls Tryd.prog 68 #[.string k, .string p] w fun e w' => e = .returned (.string o) ∧ Below w.heap.size w w' := by
  have HM : Hid (k.size ≤ 9223372036854775807 ∧ p.size ≤ 9223372036854775807) := ⟨by omega, by omega⟩
  have HS := Lib.hid (And.intro hk hp)
  have HD := Lib.hid (decide_eq_true hk)
  have HE := Lib.hid (decide_eq_true hp)
  have HK2 : Hid (k2.size = 32) := by show _ = _; rw [eK, str_size, clampL_len, len_data]; exact hk
  have BN : Hid (N < W256) := by show _ < _; rw [eN]; exact leN_lt32 _ (by rw [len_data]; exact hp)
  have BC : Hid (C < W256) := by show _ < _; rw [eC]; exact leN_lt32 _ (by rw [len_data]; exact HK2.out)
  have BN2 : Hid (N2 < T255) := by show _ < _; rw [eN2]; exact Nat.mod_lt _ (by decide)
  have Bu : Hid (u < P25n) := by show _ < _; rw [eu]; exact Nat.mod_lt _ (by decide)
  have EN := Lib.hid eN
  have EN2 := Lib.hid eN2
  have EK := Lib.hid eK
  have EC := Lib.hid eC
  have Eu := Lib.hid eu
  have Er := Lib.hid er
  have Eo := Lib.hid eo
  clear hk hp eN eN2 eK eC eu er eo
  have HTW := Lib.hid ht
  have hB : Below w.heap.size w w := Below.refl _ _
  have hM : w.heap.size ≤ w.heap.size := Nat.le_refl _
  go_enter Tryd.func68, Tryd.ntmps68
  go_wp2_with fail
  refine (isKey_any k _ HM.out.1).mono ?_
  rintro e w' ⟨rfl, rfl⟩
  rw [HD.out]
  go_wp2_with fail
  refine (isKey_any p _ HM.out.2).mono ?_
  rintro e w' ⟨rfl, rfl⟩
  rw [HE.out]
  go_upto_region 3 with (fail)
  refine region_seq 4 (kdAt [.val (.string p), .val (.agg (fldA N)), .new 97 Z4, .put 2 97 (fldA N)]) [some 14, some 15, some 5, none] (by decide) (by kernel_rfl) (by kernel_rfl) (by kernel_rfl) (by kernel_rfl) ?_ ?_
  · repeat refine allS ?_ ?_
    · exact all0
    · exact stepMove rfl rfl rfl rfl (src_old (by kernel_rfl) rfl)
    · exact stepCall (ks := [14]) [.string p] rfl rfl rfl rfl cfWords rfl (src1 (src_new 0 (by decide) rfl rfl (by kernel_rfl))) (fun w hk => words_any p N w EN.out HS.out.2)
    · exact stepNew rfl rfl rfl rfl alF
    · exact stepPut (Z := Z4) (d := 5) (k := 15) rfl rfl rfl rfl rfl (by decide) rfl (by kernel_rfl) rfl (zszN N) (src_new 1 (by decide) rfl rfl (by kernel_rfl)) (fszN N) (oneN N) (uniq_of rfl)
  intro v x1 hok hk
  replace hk := hk.all
  refine wpList_nil ?_
  have v0 := okVal hok (j := 0) rfl rfl
  have v1 := okVal hok (j := 1) rfl rfl
  obtain ⟨g5, v2, k5, l5⟩ := okRowB hok (i := 3) (j := 2) rfl rfl rfl rfl
  clear hok
  simp only [putL, Nat.zero_add, Nat.reduceAdd, v0, v1, v2, Act.put, List.setIfInBounds_toArray, List.set_cons_zero, List.set_cons_succ]
  clear v0 v1 v2
  replace l5 := Nat.le_trans hM l5
  replace ht := ht.below (hk.below (nh0 rfl)) ht.1
  have f5 : Blk g5 (fldA N) 97 x1 := k5
  clear k5
  replace hM := Nat.le_trans hM hk.size
  replace hB := hB.trans ((hk.below (nh0 rfl)).mono hB.size)
  clear hk
  have hc := f5.cell (j := 3) (rwA_get .u64 4 _ 3 (by omega))
  have hf := f5.froz (j := 3)
  have hst := f5.set 3 (.int .u64 ((lw N 3 % 9223372036854775808 : Nat) : Int))
  rw [fld_top N BN.out, ← EN2.out] at hst
  have hn := notTop (lw N 3) (lw_lt N 3)
  have hB2 := hB.setCell (p := ⟨g5, 3, none⟩) l5 (.int .u64 ((lw N 3 % 9223372036854775808 : Nat) : Int))
  have HX := Lib.hid (And.intro hB2 (HTW.out.below hB2 HTW.out.1))
  clear hB2
  clear f5 hB ht hM l5
  generalize (lw N 3 % 9223372036854775808 : Nat) = y at *
  generalize (lw N 3 : Nat) = z at *
  go_upto_region 5 with (fail)
  obtain ⟨hB, ht⟩ := HX.out
  have f5 := hst
  have hM : 0 ≤ (x1.setCell ⟨g5, 3, none⟩ (.int .u64 (y : Int))).heap.size := Nat.zero_le _
  clear hst hc hf hn HX
  generalize x1.setCell ⟨g5, 3, none⟩ (.int .u64 (y : Int)) = x2 at *
  go_upto_region 5 with (fail)
  refine region_all 8 (kdAt [.val (.string k), .val (.string k2), .val (.agg (fldA C)), .val (.agg (fldA N2)), .val (.agg (fldA u)), .val (.agg (fldA r)), .val (.string o), .val (.string o)]) [some 20, some 21, some 22, some 23, some 24, some 25, some 26, some 4] (by kernel_rfl) rfl (by kernel_rfl) (by kernel_rfl) (by kernel_rfl) (by kernel_rfl) ?_ ?_
  · repeat refine allS ?_ ?_
    · exact all0
    · exact stepMove rfl rfl rfl rfl (src_old (by kernel_rfl) rfl)
    · exact stepCall (ks := [20]) [.string k] rfl rfl rfl rfl cfClamp rfl (src1 (src_new 0 (by decide) rfl rfl (by kernel_rfl))) (fun w hk => clamp_key k k2 w EK.out HS.out.1)
    · exact stepCall (ks := [21]) [.string k2] rfl rfl rfl rfl cfWords rfl (src1 (src_new 1 (by decide) rfl rfl (by kernel_rfl))) (fun w hk => words_any k2 C w EC.out HK2.out)
    · exact stepLoad (.pointer (some ⟨g5, 0, none⟩)) rfl rfl rfl rfl (src_old (by kernel_rfl) rfl) (fun w hk => FldAt.ld (FldAt.blk (f5.below (hk.below (nh0 rfl))).h))
    · exact stepCall (ks := [23]) [.agg (fldA N2)] rfl rfl rfl rfl cfRed rfl (src1 (src_new 3 (by decide) rfl rfl (by kernel_rfl))) (fun w hk => red_any N2 u w Eu.out BN2.out (ht.below (hk.below (nh0 rfl)) ht.1))
    · exact stepCall (ks := [22, 24]) [.agg (fldA C), .agg (fldA u)] rfl rfl rfl rfl cfLad rfl (src2 (src_new 2 (by decide) rfl rfl (by kernel_rfl)) (src_new 4 (by decide) rfl rfl (by kernel_rfl))) (fun w hk => lad_any C u r w Er.out BC.out Bu.out (ht.below (hk.below (nh0 rfl)) ht.1))
    · exact stepCall (ks := [25]) [.agg (fldA r)] rfl rfl rfl rfl cfEnc rfl (src1 (src_new 5 (by decide) rfl rfl (by kernel_rfl))) (fun w hk => enc_any r o w Eo.out)
    · exact stepAssign rfl rfl rfl rfl (src_new 6 (by decide) rfl rfl (by kernel_rfl))
  intro v x2 hok hk
  replace hk := hk.all
  have v0 := okVal hok (j := 0) rfl rfl
  have v1 := okVal hok (j := 1) rfl rfl
  have v2 := okVal hok (j := 2) rfl rfl
  have v3 := okVal hok (j := 3) rfl rfl
  have v4 := okVal hok (j := 4) rfl rfl
  have v5 := okVal hok (j := 5) rfl rfl
  have v6 := okVal hok (j := 6) rfl rfl
  have v7 := okVal hok (j := 7) rfl rfl
  clear hok
  simp only [putL, Nat.zero_add, Nat.reduceAdd, v0, v1, v2, v3, v4, v5, v6, v7, Act.put, List.setIfInBounds_toArray, List.set_cons_zero, List.set_cons_succ]
  clear v0 v1 v2 v3 v4 v5 v6 v7
  replace f5 := f5.below (hk.below (nh0 rfl))
  replace ht := ht.below (hk.below (nh0 rfl)) ht.1
  replace hM := Nat.le_trans hM hk.size
  replace hB := hB.trans ((hk.below (nh0 rfl)).mono hB.size)
  clear hk
  go_wp2
  go_ret
  exact ⟨rfl, hB⟩

theorem dh_i (k p : ByteArray) (w : World) (hk : k.size ≤ 9223372036854775807) (hp : p.size ≤ 9223372036854775807) (ht : TabP w) :
    Calls Tryd.prog 68 #[.string k, .string p] w fun e w' => e = .returned (.string (dhV k p)) ∧ Below w.heap.size w w' := by
  by_cases h : k.size = 32 ∧ p.size = 32
  · have := dh_yes k p _ _ _ _ _ _ _ w h.1 h.2 ht rfl rfl rfl rfl rfl rfl rfl
    rw [dhV, if_pos h]
    simpa [str] using this
  · exact dh_no k p w hk hp h

def nineS : ByteArray := str (leB 9 32)
theorem cfDh (args : Array Value) (w : World) : (callFunc 68 args).run Tryd.prog w = .ok (.enter 68 args) w := cf_of Tryd.func68 (by kernel_rfl) (by kernel_rfl) args w
theorem dh_any (k p o : ByteArray) (w : World) (ho : o = dhV k p) (hk : k.size ≤ 9223372036854775807) (hp : p.size ≤ 9223372036854775807) (ht : TabP w) :
    Calls Tryd.prog 68 [Value.string k, Value.string p].toArray w fun e w' => e = .returned (.string o) ∧ Below w.heap.size w w' := by rw [ho]; exact dh_i k p w hk hp ht
theorem nine_size : nineS.size = 32 := by decide +kernel

set_option maxRecDepth 100000 in
set_option maxHeartbeats 8000000 in
theorem pub_i (k : ByteArray) (w : World) (hk : k.size ≤ 9223372036854775807) (ht : TabP w) :
    Calls Tryd.prog 27 #[.string k] w fun e w' => e = .returned (.string (dhV k nineS)) ∧ Below w.heap.size w w' := by
  have HK := Lib.hid hk
  have HN : Hid (nineS.size ≤ 9223372036854775807) := by show _ ≤ _; rw [nine_size]; omega
  have E9 : Hid (nineS = str (leB 9 32)) := rfl
  obtain ⟨o, eo⟩ : ∃ o, o = dhV k nineS := ⟨_, rfl⟩
  rw [← eo]
  have Eo := Lib.hid eo
  clear hk eo
  have hB : Below w.heap.size w w := Below.refl _ _
  have hM : w.heap.size ≤ w.heap.size := Nat.le_refl _
  go_enter Tryd.func27, Tryd.ntmps27
  go_upto_region 1 with (fail)
  refine region_seq 5 (kdAt [.val (.string k), .val (.agg (fldA 9)), .val (.string nineS), .val (.string o), .val (.string o)]) [some 3, some 4, some 5, some 6, some 2] (by decide) (by kernel_rfl) (by kernel_rfl) (by kernel_rfl) (by kernel_rfl) ?_ ?_
  · repeat refine allS ?_ ?_
    · exact all0
    · exact stepMove rfl rfl rfl rfl (src_old (by kernel_rfl) rfl)
    · exact stepBuild [] #[(0, .int .u64 9)] rfl rfl rfl rfl (fun p hp => by cases hp) (fun a ha => by simp [Act.eval]) (fun w => bF 9 (by decide) w)
    · exact stepCall (ks := [4]) [.agg (fldA 9)] rfl rfl rfl rfl cfEnc rfl (src1 (src_new 1 (by decide) rfl rfl (by kernel_rfl))) (fun w hk => enc_any 9 nineS w E9.out)
    · exact stepCall (ks := [3, 5]) [.string k, .string nineS] rfl rfl rfl rfl cfDh rfl (src2 (src_new 0 (by decide) rfl rfl (by kernel_rfl)) (src_new 2 (by decide) rfl rfl (by kernel_rfl))) (fun w hk => dh_any k nineS o w Eo.out HK.out HN.out (ht.below (hk.below (nh0 rfl)) ht.1))
    · exact stepAssign rfl rfl rfl rfl (src_new 3 (by decide) rfl rfl (by kernel_rfl))
  intro v x1 hok hk
  replace hk := hk.all
  refine wpList_nil ?_
  have v0 := okVal hok (j := 0) rfl rfl
  have v1 := okVal hok (j := 1) rfl rfl
  have v2 := okVal hok (j := 2) rfl rfl
  have v3 := okVal hok (j := 3) rfl rfl
  have v4 := okVal hok (j := 4) rfl rfl
  clear hok
  simp only [putL, Nat.zero_add, Nat.reduceAdd, v0, v1, v2, v3, v4, Act.put, List.setIfInBounds_toArray, List.set_cons_zero, List.set_cons_succ]
  clear v0 v1 v2 v3 v4
  replace ht := ht.below (hk.below (nh0 rfl)) ht.1
  replace hM := Nat.le_trans hM hk.size
  replace hB := hB.trans ((hk.below (nh0 rfl)).mono hB.size)
  clear hk
  go_wp2
  go_ret
  exact ⟨rfl, hB⟩

end Go.Proofs.YtfbcmckepdjdkaaDoor

/- The specification's Dh and PublicOf. -/
namespace Go.Proofs.YtfbcmckepdjdkaaDoor
open Go.RowKit Go.My Go.Lib
set_option linter.unusedVariables false

theorem str_list (l : List UInt8) : (str l).data.toList = l := rfl
theorem clampV_key (k : ByteArray) (h : k.size = 32) : (clampV k).size = 32 ∧ leN (clampV k).data.toList = leN (clampL k.data.toList) := by
  rw [clampV, if_pos h, str_size, clampL_len, len_data]
  exact ⟨h, rfl⟩
theorem mid_wr {o : Nat → Int} (h : Mid o) : ∀ q, q < 10 → -7205759403792793600 ≤ o q ∧ o q ≤ 7205759403792793600 := fun q hq => by have := h q hq; omega
def nineF (q : Nat) : Int := if q = 0 then 9 else 0
theorem nineF_hf : Hf nineF := fun q _ => by unfold nineF; split <;> omega
theorem nineF_rN : rN nineF = 9 := by decide +kernel
theorem nine_l10 : #[Value.int .i64 9, Value.int .i64 0, Value.int .i64 0, Value.int .i64 0, Value.int .i64 0, Value.int .i64 0, Value.int .i64 0, Value.int .i64 0, Value.int .i64 0, Value.int .i64 0] = rwA .i64 10 nineF := rfl
theorem nineS_n : leN nineS.data.toList % T255 % P25n = 9 := by decide +kernel

set_option maxHeartbeats 4000000 in
theorem dh_s (k p : ByteArray) (w : World) (hk : k.size ≤ 9223372036854775807) (hp : p.size ≤ 9223372036854775807) :
    Calls Tryd.prog 65 #[.string k, .string p] w fun e w' => e = .returned (.string (dhV k p)) ∧ Below w.heap.size w w' := by
  by_cases h1 : k.size = 32
  case neg =>
    have HD : Hid (((k.size : Int) == 32) = false) := by show _ = _; simp; omega
    have HV : Hid (dhV k p = str []) := if_neg (fun c => h1 c.1)
    clear h1 hk hp
    go_enter Tryd.func65, Tryd.ntmps65
    go_wp2_with fail
    refine (l1Key_bool k _ false HD.out).mono ?_
    rintro e w' ⟨rfl, rfl⟩
    go_wp2
    go_ret
    exact ⟨by rw [HV.out]; rfl, Below.refl _ _⟩
  have HD : Hid (((k.size : Int) == 32) = true) := by show _ = _; simp; omega
  by_cases h2 : p.size = 32
  case neg =>
    have HE : Hid (((p.size : Int) == 32) = false) := by show _ = _; simp; omega
    have HV : Hid (dhV k p = str []) := if_neg (fun c => h2 c.2)
    clear h1 h2 hk hp
    go_enter Tryd.func65, Tryd.ntmps65
    go_wp2_with fail
    refine (l1Key_bool k _ true HD.out).mono ?_
    rintro e w' ⟨rfl, rfl⟩
    go_wp2_with fail
    refine (l1Key_bool p _ false HE.out).mono ?_
    rintro e w' ⟨rfl, rfl⟩
    go_wp2
    go_ret
    exact ⟨by rw [HV.out]; rfl, Below.refl _ _⟩
  have HE : Hid (((p.size : Int) == 32) = true) := by show _ = _; simp; omega
  have HC := Lib.hid (clampV_key k h1)
  have HV : Hid (dhV k p = str (leB (ladV (leN (clampV k).data.toList) (rN (digZ (leN p.data.toList)))) 32)) := by
    show _ = _
    rw [dhV, if_pos ⟨h1, h2⟩, HC.out.2, rN_dig]
    rfl
  have HP := Lib.hid h2
  have HK := Lib.hid hk
  clear h1 h2 hk hp
  have HCS := Lib.hid (fun w => clamp_s k w HK.out)
  generalize clampV k = c at *
  go_enter Tryd.func65, Tryd.ntmps65
  go_wp2_with fail
  refine (l1Key_bool k _ true HD.out).mono ?_
  rintro e w' ⟨rfl, rfl⟩
  go_wp2_with fail
  refine (l1Key_bool p _ true HE.out).mono ?_
  rintro e w' ⟨rfl, rfl⟩
  go_wp2_with fail
  refine (HCS.out _).mono ?_
  rintro e w1 ⟨rfl, hb1⟩
  go_wp2_with fail
  refine (read_any p _ HP.out).mono ?_
  rintro e w2 ⟨rfl, hb2'⟩
  have hb2 := hb1.trans (hb2'.mono hb1.size)
  clear hb1 hb2'
  go_wp2_with fail
  refine (ladL_any c (digZ (leN p.data.toList)) _ HC.out.1 (dig_hf _)).mono ?_
  rintro e w3 ⟨o, rfl, hm, hr, hb3'⟩
  have hb3 := hb2.trans (hb3'.mono hb2.size)
  have HR := Lib.hid (And.intro hm hr)
  clear hb2 hb3' hm hr
  go_wp2_with fail
  refine (write_any o _ (mid_wr HR.out.1)).mono ?_
  rintro e w4 ⟨rfl, hb4'⟩
  have hb4 := hb3.trans (hb4'.mono hb3.size)
  clear hb3 hb4'
  go_wp2
  go_ret
  exact ⟨by rw [HV.out, ← HR.out.2]; rfl, hb4⟩

set_option maxHeartbeats 4000000 in
theorem pub_s (k : ByteArray) (w : World) (hk : k.size ≤ 9223372036854775807) :
    Calls Tryd.prog 63 #[.string k] w fun e w' => e = .returned (.string (dhV k nineS)) ∧ Below w.heap.size w w' := by
  by_cases h1 : k.size = 32
  case neg =>
    have HD : Hid (((k.size : Int) == 32) = false) := by show _ = _; simp; omega
    have HV : Hid (dhV k nineS = str []) := if_neg (fun c => h1 c.1)
    clear h1 hk
    go_enter Tryd.func63, Tryd.ntmps63
    go_wp2_with fail
    refine (l1Key_bool k _ false HD.out).mono ?_
    rintro e w' ⟨rfl, rfl⟩
    go_wp2
    go_ret
    exact ⟨by rw [HV.out]; rfl, Below.refl _ _⟩
  have HD : Hid (((k.size : Int) == 32) = true) := by show _ = _; simp; omega
  have HC := Lib.hid (clampV_key k h1)
  have HV : Hid (dhV k nineS = str (leB (ladV (leN (clampV k).data.toList) (rN nineF)) 32)) := by
    show _ = _
    rw [dhV, if_pos ⟨h1, nine_size⟩, HC.out.2, nineS_n, nineF_rN]
  have HK := Lib.hid hk
  clear h1 hk
  have HCS := Lib.hid (fun w => clamp_s k w HK.out)
  generalize clampV k = c at *
  go_enter Tryd.func63, Tryd.ntmps63
  go_wp2_with fail
  refine (l1Key_bool k _ true HD.out).mono ?_
  rintro e w' ⟨rfl, rfl⟩
  go_wp2_with fail
  refine (HCS.out _).mono ?_
  rintro e w1 ⟨rfl, hb1⟩
  go_wp2_with fail
  rw [nine_l10]
  refine (ladL_any c nineF _ HC.out.1 nineF_hf).mono ?_
  rintro e w3 ⟨o, rfl, hm, hr, hb3'⟩
  have hb3 := hb1.trans (hb3'.mono hb1.size)
  have HR := Lib.hid (And.intro hm hr)
  clear hb1 hb3' hm hr
  go_wp2_with fail
  refine (write_any o _ (mid_wr HR.out.1)).mono ?_
  rintro e w4 ⟨rfl, hb4'⟩
  have hb4 := hb3.trans (hb4'.mono hb3.size)
  clear hb3 hb4'
  go_wp2
  go_ret
  exact ⟨by rw [HV.out, ← HR.out.2]; rfl, hb4⟩

end Go.Proofs.YtfbcmckepdjdkaaDoor

/- Dh, PublicOf and Clamped under the laws' bounds; the draws of keys. -/
namespace Go.Proofs.YtfbcmckepdjdkaaDoor
open Go.RowKit Go.My Go.Lib
set_option linter.unusedVariables false

theorem dhS20 (k p : ByteArray) (w : World) (hk : k.size ≤ 1048576) (hp : p.size ≤ 1048576) :
    Calls Tryd.prog 65 #[.string k, .string p] w fun e w' => e = .returned (.string (dhV k p)) ∧ Below w.heap.size w w' := dh_s k p w (by omega) (by omega)
theorem dhI20 (k p : ByteArray) (w : World) (hk : k.size ≤ 1048576) (hp : p.size ≤ 1048576) (ht : TabP w) :
    Calls Tryd.prog 68 #[.string k, .string p] w fun e w' => e = .returned (.string (dhV k p)) ∧ Below w.heap.size w w' := dh_i k p w (by omega) (by omega) ht
theorem pubS20 (k : ByteArray) (w : World) (hk : k.size ≤ 1048576) :
    Calls Tryd.prog 63 #[.string k] w fun e w' => e = .returned (.string (dhV k nineS)) ∧ Below w.heap.size w w' := pub_s k w (by omega)
theorem pubI20 (k : ByteArray) (w : World) (hk : k.size ≤ 1048576) (ht : TabP w) :
    Calls Tryd.prog 27 #[.string k] w fun e w' => e = .returned (.string (dhV k nineS)) ∧ Below w.heap.size w w' := pub_i k w (by omega) ht

theorem ladV_lt (n u : Nat) : ladV n u < P25n := fMu_lt _ _
theorem dhV_size (k p : ByteArray) : (dhV k p).size ≤ 40 := by
  unfold dhV
  split
  · rw [str_size, leB_len]; omega
  · rw [str_size]; simp
theorem dhV_pos {k p : ByteArray} (hk : k.size = 32) (hp : p.size = 32) : dhV k p = str (leB (ladV (leN (clampL k.data.toList)) (leN p.data.toList % T255 % P25n)) 32) := if_pos ⟨hk, hp⟩
theorem dhV_ok {k p : ByteArray} (hk : k.size = 32) (hp : p.size = 32) : okS (dhV k p) := by rw [dhV_pos hk hp]; exact leS_ok _ (ladV_lt _ _)
theorem dhV_neg {k p : ByteArray} (h : ¬ (k.size = 32 ∧ p.size = 32)) : dhV k p = str [] := if_neg h
theorem emptyE : (str []).toList.isEmpty = true := by rw [isE]; rfl
theorem row_maxD {w : World} {a : Option Addr} {len cap : Nat} {zs : List Int} (h : IsRow .u8 w a len cap zs) : len ≤ 9223372036854775807 := by
  rcases h with ⟨_, rfl, _⟩ | ⟨x, _, h1, h2, _⟩
  · omega
  · unfold maxLen at h2; omega
theorem nine_cat : (ByteArray.mk #[9]) ++ str (List.replicate 31 0) = nineS := by decide +kernel
theorem nineB : nineS = ByteArray.mk #[9] ++ str (List.replicate 31 0) := nine_cat.symm

end Go.Proofs.YtfbcmckepdjdkaaDoor

/- Sessions: allKeys, and StartB of both sides. -/
namespace Go.Proofs.YtfbcmckepdjdkaaDoor
open Go.RowKit Go.My Go.Lib
set_option linter.unusedVariables false

def strsA (l : List ByteArray) : Array Value := (l.map Value.string).toArray
theorem strsA_get (l : List ByteArray) (j : Nat) (h : j < l.length) : (strsA l)[j]? = some (.string l[j]) := by simp [strsA, h]
def allK (l : List ByteArray) : Bool := l.all fun s => decide (s.size = 32)
theorem allK_take (l : List ByteArray) (j : Nat) (h : j < l.length) : allK (l.take (j + 1)) = (allK (l.take j) && decide (l[j].size = 32)) := by
  unfold allK
  rw [List.take_succ_eq_append_getElem h, List.all_append]
  simp
theorem allK_bad (l : List ByteArray) (j : Nat) (h : j < l.length) (hb : ¬ l[j].size = 32) : allK l = false := by
  unfold allK
  rw [List.all_eq_false]
  exact ⟨l[j], List.getElem_mem h, by simpa using hb⟩

set_option maxHeartbeats 2000000 in
theorem allKeys_any (g : Nat) (l : List ByteArray) (w : World) (h : Blk g (strsA l) 9 w) (hl : l.length ≤ 100) (hs : ∀ j (hj : j < l.length), (l[j]'hj).size ≤ 9223372036854775807) :
    Calls Tryd.prog 66 #[.slice (some ⟨g, 0, none⟩) l.length l.length] w fun e w' => e = .returned (.bool (allK l)) ∧ w = w' := by
  have HB := Lib.hid h
  have HS := Lib.hid hs
  have hl1 : (l.length : Int) ≤ 100 := by omega
  clear h hs
  go_enter Tryd.func66, Tryd.ntmps66
  go_wp2
  go_loopw [7] (fun i wr => ∃ j : Nat, j ≤ l.length ∧ i = .int .i64 j ∧ allK (l.take j) = true ∧ w = wr) (fun i _ => l.length - (intOf i).toNat)
  case atStart => exact ⟨0, Nat.zero_le _, rfl, rfl, rfl⟩
  case round =>
    obtain ⟨j, hj, rfl, hall, rfl⟩ := hrel
    by_cases hlt : j < l.length
    · have j0 : (0 : Int) ≤ (j : Int) := by omega
      have j1 : (j : Int) < (l.length : Int) := by omega
      have hc := HB.out.cell (strsA_get l j hlt)
      have HSJ := Lib.hid (HS.out j hlt)
      have HA := Lib.hid hall
      have HT := Lib.hid (allK_take l j hlt)
      have HBD := Lib.hid (allK_bad l j hlt)
      clear hall hj
      generalize l[j] = s at *
      go_wp2_with fail
      refine (isKey_any s _ HSJ.out).mono ?_
      rintro e w' ⟨rfl, rfl⟩
      by_cases h32 : s.size = 32
      · have HN : Hid (allK (l.take (j + 1)) = true) := by show _ = _; rw [HT.out, HA.out, decide_eq_true h32]; rfl
        rw [decide_eq_true h32]
        clear h32
        go_wp2
        go_roundw
        case rel => exact ⟨j + 1, by omega, by go_num, HN.out, by first | rfl | trivial⟩
        case measure => simp [intOf]; omega
      · rw [decide_eq_false h32]
        have HN := Lib.hid (HBD.out h32)
        clear h32
        go_wp2
        go_ret
        exact ⟨by rw [HN.out]; rfl, rfl⟩
    · have hje : j = l.length := by omega
      have hpj : (l.length : Int) ≤ (j : Int) := by omega
      have HA : Hid (allK l = true) := by show _ = _; rw [hje, List.take_length] at hall; exact hall
      clear hall hlt hj hje
      go_wp2
      go_ret
      exact ⟨by rw [HA.out]; rfl, rfl⟩

abbrev sesA (r o p t k : ByteArray) (n v : Int) (q : ByteArray) (m : Int) : Array Value := #[.string r, .string o, .string p, .string t, .string k, .int .i64 n, .int .i64 v, .string q, .int .i64 m, .slice none 0 0]
abbrev sesZ : Array Value := sesA (ByteArray.mk #[]) (ByteArray.mk #[]) (ByteArray.mk #[]) (ByteArray.mk #[]) (ByteArray.mk #[]) 0 0 (ByteArray.mk #[]) 0
theorem szS : (Tryd.prog.info? 24).map (·.size) = some 10 := by kernel_rfl
theorem sesSz (r o p t k : ByteArray) (n v : Int) (q : ByteArray) (m : Int) : (Tryd.prog.info? 24).map (·.size) = some (sesA r o p t k n v q m).size := szS
def stB (r o : ByteArray) : Array Value := if r.size = 32 ∧ o.size = 32 then sesA r o (dhV o nineS) (ByteArray.mk #[]) (ByteArray.mk #[]) 0 0 (ByteArray.mk #[]) 0 else sesZ

theorem sesOne (r o p t k : ByteArray) (n v : Int) (q : ByteArray) (m : Int) : (sesA r o p t k n v q m).all (·.oneCell') = true := by kernel_rfl
theorem bSes (r o p : ByteArray) (w : World) : (Instr.build 24 #[(0, .string r), (1, .string o), (2, .string p)]).run Tryd.prog w = .ok (.agg (sesA r o p (ByteArray.mk #[]) (ByteArray.mk #[]) 0 0 (ByteArray.mk #[]) 0)) w := by kernel_rfl
theorem stepConst {P : Program} {Q : Exit → Act → World → Prop} {ops : Array Oper} {m : Nat} {a0 : Act} {w0 : World} {D : Nat → Kd} {i : Nat} {o : Oper} {x : Value} (hoi : ops[i]? = some o) (hg : o.guard = none) (hD : D i = .val x) (hop : o.op = .assign (.const x)) : StepOk P Q ops m a0 w0 D i := by
  refine stepRun [] hoi hg hD (fun p hp => by cases hp) fun a w ha hb => ?_
  unfold execOp
  simp only [hop, Act.eval, Sem.run_pure]
theorem srcN3 {C : Tmp → Value → Prop} {k l m : Tmp} {y z u : Value} (h : C k y) (h2 : C l z) (h3 : C m u) : ∀ p ∈ [(k, y), (l, z), (m, u)], C p.1 p.2 := fun p hp => by
  rcases List.mem_cons.1 hp with e | e
  · rw [e]; exact h
  · rcases List.mem_cons.1 e with e | e
    · rw [e]; exact h2
    · rw [List.mem_singleton.1 e]; exact h3
theorem pub_ci (k o : ByteArray) (w : World) (ho : o = dhV k nineS) (hk : k.size ≤ 1048576) (ht : TabP w) :
    Calls Tryd.prog 27 [Value.string k].toArray w fun e w' => e = .returned (.string o) ∧ Below w.heap.size w w' := by rw [ho]; exact pubI20 k w hk ht
theorem pub_cs (k o : ByteArray) (w : World) (ho : o = dhV k nineS) (hk : k.size ≤ 1048576) :
    Calls Tryd.prog 63 [Value.string k].toArray w fun e w' => e = .returned (.string o) ∧ Below w.heap.size w w' := by rw [ho]; exact pubS20 k w hk
theorem cfPubI (args : Array Value) (w : World) : (callFunc 27 args).run Tryd.prog w = .ok (.enter 27 args) w := cf_of Tryd.func27 (by kernel_rfl) (by kernel_rfl) args w
theorem cfPubS (args : Array Value) (w : World) : (callFunc 63 args).run Tryd.prog w = .ok (.enter 63 args) w := cf_of Tryd.func63 (by kernel_rfl) (by kernel_rfl) args w

end Go.Proofs.YtfbcmckepdjdkaaDoor

/- The laws' own helpers on sessions without skipped keys. -/
namespace Go.Proofs.YtfbcmckepdjdkaaDoor
open Go.RowKit Go.My Go.Lib
set_option linter.unusedVariables false

theorem eqSkipS_nil (w : World) : Calls Tryd.prog 69 #[.slice none 0 0, .slice none 0 0] w fun e w' => e = .returned (.bool true) ∧ w = w' := by
  go_enter Tryd.func69, Tryd.ntmps69
  go_wp2
  go_loopw [5] (fun i wr => i = .int .i64 0 ∧ w = wr) (fun _ _ => 0)
  case atStart => exact ⟨rfl, rfl⟩
  case round =>
    obtain ⟨rfl, rfl⟩ := hrel
    go_wp2
    go_ret
    exact ⟨rfl, rfl⟩
theorem markSkipS_nil (k : Int) (w : World) : Calls Tryd.prog 70 #[.slice none 0 0, .int .i64 k] w fun e w' => e = .returned (.int .i64 k) ∧ w = w' := by
  go_enter Tryd.func70, Tryd.ntmps70
  go_wp2
  go_loopw [1, 5] (fun q i wr => q = .int .i64 k ∧ i = .int .i64 0 ∧ w = wr) (fun _ _ _ => 0)
  case atStart => exact ⟨rfl, rfl, rfl⟩
  case round =>
    obtain ⟨rfl, rfl, rfl⟩ := hrel
    go_wp2
    go_ret
    exact ⟨rfl, rfl⟩
theorem heldSkipS_nil (k : Int) (w : World) : Calls Tryd.prog 71 #[.slice none 0 0, .int .i64 k] w fun e w' => e = .returned (.int .i64 k) ∧ w = w' := by
  go_enter Tryd.func71, Tryd.ntmps71
  go_wp2
  go_loopw [1, 5] (fun q i wr => q = .int .i64 k ∧ i = .int .i64 0 ∧ w = wr) (fun _ _ _ => 0)
  case atStart => exact ⟨rfl, rfl, rfl⟩
  case round =>
    obtain ⟨rfl, rfl, rfl⟩ := hrel
    go_wp2
    go_ret
    exact ⟨rfl, rfl⟩
theorem markSes (r o p t s : ByteArray) (n v : Int) (q : ByteArray) (m : Int) (k : Int) (w : World) : Calls Tryd.prog 17 #[.agg (sesA r o p t s n v q m), .int .i64 k] w fun e w' => e = .returned (.int .i64 k) ∧ Below w.heap.size w w' := by
  go_enter Tryd.func17, Tryd.ntmps17
  go_wp2_with fail
  refine (markSkipS_nil k _).mono ?_
  rintro e w' ⟨rfl, rfl⟩
  go_wp2
  go_ret
  exact ⟨rfl, (Below.refl _ _).alloc (Nat.le_refl _) _⟩
theorem heldSes (r o p t s : ByteArray) (n v : Int) (q : ByteArray) (m : Int) (k : Int) (hk : 0 ≤ k) (w : World) : Calls Tryd.prog 18 #[.agg (sesA r o p t s n v q m), .int .i64 k] w fun e w' => e = .returned (.int .i64 k) ∧ Below w.heap.size w w' := by
  go_enter Tryd.func18, Tryd.ntmps18
  go_wp2_with fail
  refine (heldSkipS_nil k _).mono ?_
  rintro e w' ⟨rfl, rfl⟩
  go_wp2
  go_ret
  exact ⟨rfl, (Below.refl _ _).alloc (Nat.le_refl _) _⟩
theorem eqSes (r o p t s : ByteArray) (n v : Int) (q : ByteArray) (m : Int) (w : World) : Calls Tryd.prog 16 #[.agg (sesA r o p t s n v q m), .agg (sesA r o p t s n v q m)] w fun e w' => e = .returned (.bool true) ∧ Below w.heap.size w w' := by
  go_enter Tryd.func16, Tryd.ntmps16
  go_wp2_with fail
  refine (eqSkipS_nil _).mono ?_
  rintro e w' ⟨rfl, rfl⟩
  go_wp2
  go_ret
  exact ⟨rfl, ((Below.refl _ _).alloc (Nat.le_refl _) _).alloc (by simp) _⟩
/-- A session without skipped keys. -/
def IsSes (A : Array Value) : Prop := ∃ r o p t s n v q m, A = sesA r o p t s n v q m
theorem IsSes.sz {A : Array Value} (h : IsSes A) : (Tryd.prog.info? 24).map (·.size) = some A.size := by obtain ⟨r, o, p, t, s, n, v, q, m, rfl⟩ := h; exact szS
theorem IsSes.one {A : Array Value} (h : IsSes A) : A.all (·.oneCell') = true := by obtain ⟨r, o, p, t, s, n, v, q, m, rfl⟩ := h; exact sesOne _ _ _ _ _ _ _ _ _
theorem IsSes.zs {A : Array Value} (h : IsSes A) : sesZ.size = A.size := by obtain ⟨r, o, p, t, s, n, v, q, m, rfl⟩ := h; rfl
theorem IsSes.mark {A : Array Value} (h : IsSes A) (k : Int) (w : World) : Calls Tryd.prog 17 #[.agg A, .int .i64 k] w fun e w' => e = .returned (.int .i64 k) ∧ Below w.heap.size w w' := by obtain ⟨r, o, p, t, s, n, v, q, m, rfl⟩ := h; exact markSes _ _ _ _ _ _ _ _ _ k w
theorem IsSes.held {A : Array Value} (h : IsSes A) (k : Int) (hk : 0 ≤ k) (w : World) : Calls Tryd.prog 18 #[.agg A, .int .i64 k] w fun e w' => e = .returned (.int .i64 k) ∧ Below w.heap.size w w' := by obtain ⟨r, o, p, t, s, n, v, q, m, rfl⟩ := h; exact heldSes _ _ _ _ _ _ _ _ _ k hk w
theorem IsSes.eq {A : Array Value} (h : IsSes A) (w : World) : Calls Tryd.prog 16 #[.agg A, .agg A] w fun e w' => e = .returned (.bool true) ∧ Below w.heap.size w w' := by obtain ⟨r, o, p, t, s, n, v, q, m, rfl⟩ := h; exact eqSes _ _ _ _ _ _ _ _ _ w
theorem stB_is (r o : ByteArray) : IsSes (stB r o) := by
  unfold stB
  split
  · exact ⟨_, _, _, _, _, _, _, _, _, rfl⟩
  · exact ⟨_, _, _, _, _, _, _, _, _, rfl⟩

end Go.Proofs.YtfbcmckepdjdkaaDoor

/- Pairs: PairOf of both sides. -/
namespace Go.Proofs.YtfbcmckepdjdkaaDoor
open Go.RowKit Go.My Go.Lib
set_option linter.unusedVariables false

abbrev pairA (k p : ByteArray) : Array Value := #[.string k, .string p]
abbrev pairZ : Array Value := pairA (ByteArray.mk #[]) (ByteArray.mk #[])
theorem szPr : (Tryd.prog.info? 46).map (·.size) = some 2 := by kernel_rfl
theorem pairSz (k p : ByteArray) : (Tryd.prog.info? 46).map (·.size) = some (pairA k p).size := szPr
theorem pairOne (k p : ByteArray) : (pairA k p).all (·.oneCell') = true := by kernel_rfl
def pairV (k : ByteArray) : Array Value := if k.size = 32 then pairA k (dhV k nineS) else pairZ
theorem eqPr (k p : ByteArray) (w : World) : Calls Tryd.prog 31 #[.agg (pairA k p), .agg (pairA k p)] w fun e w' => e = .returned (.bool true) ∧ Below w.heap.size w w' := by
  go_enter Tryd.func31, Tryd.ntmps31
  go_wp2
  go_ret
  exact ⟨rfl, ((Below.refl _ _).alloc (Nat.le_refl _) _).alloc (by simp) _⟩
def IsPair (A : Array Value) : Prop := ∃ k p, A = pairA k p
theorem IsPair.sz {A : Array Value} (h : IsPair A) : (Tryd.prog.info? 46).map (·.size) = some A.size := by obtain ⟨k, p, rfl⟩ := h; exact szPr
theorem IsPair.one {A : Array Value} (h : IsPair A) : A.all (·.oneCell') = true := by obtain ⟨k, p, rfl⟩ := h; exact pairOne _ _
theorem IsPair.zs {A : Array Value} (h : IsPair A) : pairZ.size = A.size := by obtain ⟨k, p, rfl⟩ := h; rfl
theorem IsPair.eq {A : Array Value} (h : IsPair A) (w : World) : Calls Tryd.prog 31 #[.agg A, .agg A] w fun e w' => e = .returned (.bool true) ∧ Below w.heap.size w w' := by obtain ⟨k, p, rfl⟩ := h; exact eqPr _ _ w
theorem pairV_is (k : ByteArray) : IsPair (pairV k) := by
  unfold pairV
  split
  · exact ⟨_, _, rfl⟩
  · exact ⟨_, _, rfl⟩
theorem pubP_i (k o : ByteArray) (w : World) (ho : o = dhV k nineS) (hk : k.size ≤ 1048576) (ht : TabP w) :
    Calls Tryd.prog 27 #[.string k] w fun e w' => e = .returned (.string o) ∧ Below w.heap.size w w' := by rw [ho]; exact pubI20 k w hk ht
theorem pubP_s (k o : ByteArray) (w : World) (ho : o = dhV k nineS) (hk : k.size ≤ 1048576) :
    Calls Tryd.prog 63 #[.string k] w fun e w' => e = .returned (.string o) ∧ Below w.heap.size w w' := by rw [ho]; exact pubS20 k w hk

set_option maxHeartbeats 2000000 in
theorem l9Pair_s (k : ByteArray) (w : World) (hk : k.size ≤ 1048576) :
    Calls Tryd.prog 82 #[.string k] w fun e w' => e = .returned (.agg (pairA k (dhV k nineS))) ∧ Below w.heap.size w w' := by
  have hb0 : Below w.heap.size w (w.alloc (.cells pairZ 46)) := (Below.refl _ _).alloc (Nat.le_refl _) _
  have f0 : Blk w.heap.size pairZ 46 (w.alloc (.cells pairZ 46)) := heap_alloc_new w _
  obtain ⟨p, ep⟩ : ∃ p, p = dhV k nineS := ⟨_, rfl⟩
  rw [← ep]
  have Ep := Lib.hid ep
  have HK := Lib.hid hk
  clear ep hk
  go_enter Tryd.func82, Tryd.ntmps82
  go_wp2_with fail
  refine (pubP_s k p _ Ep.out HK.out).mono ?_
  rintro e w1 ⟨rfl, hb1⟩
  have hB1 := hb0.trans (hb1.mono hb0.size)
  replace f0 := f0.below hb1
  clear hb1 hb0
  go_wp2_with (first | ((with_reducible refine wpList_store_row' (o := ⟨none, .store 46 _ _, _, _, _, _⟩) rfl 46 _ _ rfl w.heap.size (pairA k p) rfl rfl 46 pairZ f0.h (pairSz _ _) rfl (pairOne _ _) ?_); intro w2 hw2 hsw2 hgw2) | fail)
  have hB2 : Below w.heap.size w w2 := hB1.grown hgw2 (by have := hB1.size; omega) (by intro k hk; have := Option.some.inj hk; omega)
  refine bodyPost_ret (v := .agg (pairA k p)) ?_ rfl ⟨rfl, hB2⟩
  exact results_cell_row Tryd.results82 _ _ w.heap.size 46 _ (0, 0) _ rfl hw2 Tryd.underlying46 rfl (pairSz _ _)

set_option maxHeartbeats 2000000 in
theorem pairOf_i (k : ByteArray) (w : World) (hk : k.size ≤ 1048576) (ht : TabP w) :
    Calls Tryd.prog 30 #[.string k] w fun e w' => e = .returned (.tuple #[.agg (pairV k), .bool (decide (k.size = 32))]) ∧ Below w.heap.size w w' := by
  have hb0 : Below w.heap.size w (w.alloc (.cells pairZ 46)) := (Below.refl _ _).alloc (Nat.le_refl _) _
  have f0 : Blk w.heap.size pairZ 46 (w.alloc (.cells pairZ 46)) := heap_alloc_new w _
  have HK := Lib.hid hk
  have HKM : Hid (k.size ≤ 9223372036854775807) := by show _ ≤ _; omega
  have HTP := Lib.hid ht
  clear ht
  by_cases h : k.size = 32
  case neg =>
    have HD : Hid (decide (k.size = 32) = false) := by show _ = _; simpa using h
    have HV : Hid (pairV k = pairZ) := if_neg h
    rw [decide_eq_false h]
    clear h hk
    generalize hst : pairV k = A at *
    have HST := Lib.hid hst
    clear hst
    go_enter Tryd.func30, Tryd.ntmps30
    go_wp2_with fail
    refine (isKey_any k _ HKM.out).mono ?_
    rintro e w' ⟨rfl, rfl⟩
    rw [HD.out]
    go_wp2
    refine bodyPost_ret (v := .tuple #[.agg pairZ, .bool false]) ?_ rfl ⟨by rw [HV.out], hb0⟩
    exact results_row_tmp Tryd.results30 _ _ w.heap.size 46 _ (0, 0) _ rfl f0.h Tryd.underlying46 rfl (pairSz _ _)
  have HD : Hid (decide (k.size = 32) = true) := by show _ = _; simpa using h
  obtain ⟨p, ep⟩ : ∃ p, p = dhV k nineS := ⟨_, rfl⟩
  have HV : Hid (pairV k = pairA k p) := by show _ = _; rw [ep]; exact if_pos h
  have Ep := Lib.hid ep
  rw [decide_eq_true h]
  clear h ep hk
  generalize hst : pairV k = A at *
  have HST := Lib.hid hst
  clear hst
  go_enter Tryd.func30, Tryd.ntmps30
  go_wp2_with fail
  refine (isKey_any k _ HKM.out).mono ?_
  rintro e w' ⟨rfl, rfl⟩
  rw [HD.out]
  go_wp2_with fail
  refine (pubP_i k p _ Ep.out HK.out (HTP.out.below hb0 HTP.out.1)).mono ?_
  rintro e w1 ⟨rfl, hb1⟩
  have hB1 := hb0.trans (hb1.mono hb0.size)
  replace f0 := f0.below hb1
  clear hb1 hb0
  go_wp2_with (first | ((with_reducible refine wpList_store_row' (o := ⟨none, .store 46 _ _, _, _, _, _⟩) rfl 46 _ _ rfl w.heap.size (pairA k p) rfl rfl 46 pairZ f0.h (pairSz _ _) rfl (pairOne _ _) ?_); intro w2 hw2 hsw2 hgw2) | fail)
  have hB2 : Below w.heap.size w w2 := hB1.grown hgw2 (by have := hB1.size; omega) (by intro k hk; have := Option.some.inj hk; omega)
  refine bodyPost_ret (v := .tuple #[.agg (pairA k p), .bool true]) ?_ rfl ⟨by rw [HV.out], hB2⟩
  exact results_row_tmp Tryd.results30 _ _ w.heap.size 46 _ (0, 0) _ rfl hw2 Tryd.underlying46 rfl (pairSz _ _)

set_option maxHeartbeats 2000000 in
theorem pairOf_s (k : ByteArray) (w : World) (hk : k.size ≤ 1048576) :
    Calls Tryd.prog 29 #[.string k] w fun e w' => e = .returned (.tuple #[.agg (pairV k), .bool (decide (k.size = 32))]) ∧ Below w.heap.size w w' := by
  have hb0 : Below w.heap.size w (w.alloc (.cells pairZ 46)) := (Below.refl _ _).alloc (Nat.le_refl _) _
  have f0 : Blk w.heap.size pairZ 46 (w.alloc (.cells pairZ 46)) := heap_alloc_new w _
  have HK := Lib.hid hk
  have HKM : Hid (k.size ≤ 9223372036854775807) := by show _ ≤ _; omega
  by_cases h : k.size = 32
  case neg =>
    have HD : Hid (((k.size : Int) == 32) = false) := by show _ = _; simp; omega
    have HV : Hid (pairV k = pairZ) := if_neg h
    rw [decide_eq_false h]
    clear h hk
    generalize hst : pairV k = A at *
    have HST := Lib.hid hst
    clear hst
    go_enter Tryd.func29, Tryd.ntmps29
    go_wp2_with fail
    refine (l1Key_bool k _ false HD.out).mono ?_
    rintro e w' ⟨rfl, rfl⟩
    go_wp2
    refine bodyPost_ret (v := .tuple #[.agg pairZ, .bool false]) ?_ rfl ⟨by rw [HV.out], hb0⟩
    exact results_row_tmp Tryd.results29 _ _ w.heap.size 46 _ (0, 0) _ rfl f0.h Tryd.underlying46 rfl (pairSz _ _)
  have HD : Hid (((k.size : Int) == 32) = true) := by show _ = _; simp; omega
  obtain ⟨p, ep⟩ : ∃ p, p = dhV k nineS := ⟨_, rfl⟩
  have HV : Hid (pairV k = pairA k p) := by show _ = _; rw [ep]; exact if_pos h
  have Ep := Lib.hid ep
  rw [decide_eq_true h]
  clear h ep hk
  generalize hst : pairV k = A at *
  have HST := Lib.hid hst
  clear hst
  go_enter Tryd.func29, Tryd.ntmps29
  go_wp2_with fail
  refine (l1Key_bool k _ true HD.out).mono ?_
  rintro e w' ⟨rfl, rfl⟩
  go_wp2_with fail
  refine (l9Pair_s k _ HK.out).mono ?_
  rintro e w1 ⟨rfl, hb1⟩
  have hB1 := hb0.trans (hb1.mono hb0.size)
  replace f0 := f0.below hb1
  clear hb1 hb0
  rw [← Ep.out]
  go_wp2_with (first | ((with_reducible refine wpList_store_row' (o := ⟨none, .store 46 _ _, _, _, _, _⟩) rfl 46 _ _ rfl w.heap.size (pairA k p) rfl rfl 46 pairZ f0.h (pairSz _ _) rfl (pairOne _ _) ?_); intro w2 hw2 hsw2 hgw2) | fail)
  have hB2 : Below w.heap.size w w2 := hB1.grown hgw2 (by have := hB1.size; omega) (by intro k hk; have := Option.some.inj hk; omega)
  refine bodyPost_ret (v := .tuple #[.agg (pairA k p), .bool true]) ?_ rfl ⟨by rw [HV.out], hB2⟩
  exact results_row_tmp Tryd.results29 _ _ w.heap.size 46 _ (0, 0) _ rfl hw2 Tryd.underlying46 rfl (pairSz _ _)

end Go.Proofs.YtfbcmckepdjdkaaDoor

/- The contracts of the field's functions of the program. -/
import Derived.Test.YtcaepcfgeelojaaDoorFld6
namespace Go.Proofs.YtcaepcfgeelojaaDoor
open Go.RowKit Go.My Go.Lib
set_option linter.unusedVariables false

set_option maxHeartbeats 2000000 in
theorem readField_no (s : ByteArray) (w : World) (hs : ¬ s.size = 32) (hm : s.size ≤ 9223372036854775807) :
    Calls Tryd.prog 28 #[.string s] w fun e w' => e = .returned (.tuple #[.agg Z4, .bool false]) ∧ Below w.heap.size w w' := by
  have hd : decide (s.size = 32) = false := decide_eq_false hs
  have HM := Lib.hid hm
  clear hs hm
  go_enter Tryd.func28, Tryd.ntmps28
  go_wp2_with fail
  refine (isKey_any s _ HM.out).mono ?_
  rintro e w' ⟨rfl, rfl⟩
  rw [hd]
  go_wp2
  refine bodyPost_ret (v := .tuple #[.agg Z4, .bool false]) ?_ rfl ⟨rfl, (Below.refl _ _).alloc (Nat.le_refl _) _⟩
  exact results_row_tmp Tryd.results28 _ _ w.heap.size 34 Z4 (0, 0) _ rfl (heap_alloc_new w _) Tryd.underlying34 rfl size_f4

def fldOk (l : List UInt8) : Prop := l.length = 32 ∧ leN l < P25n
instance (l : List UInt8) : Decidable (fldOk l) := inferInstanceAs (Decidable (_ ∧ _))
def rdA (s : ByteArray) : Array Value := if s.size = 32 then fldA (leN s.data.toList) else Z4
theorem rdA_size (s : ByteArray) : (rdA s).size = 4 := by
  unfold rdA
  split
  · exact rwA_size _ _ _
  · rfl
theorem rdA_sz (s : ByteArray) : (Tryd.prog.info? 34).map (·.size) = some (rdA s).size := by rw [rdA_size]; exact size_f4
theorem rdA_z (s : ByteArray) : Z4.size = (rdA s).size := by rw [rdA_size]; rfl
theorem rdA_one (s : ByteArray) : (rdA s).all (·.oneCell') = true := by
  unfold rdA
  split
  · exact oneN _
  · rw [Z4_eq]; exact rwA_one _ _ _
theorem rdA_ok (s : ByteArray) (h : fldOk s.data.toList) : rdA s = fldA (leN s.data.toList) := if_pos (by rw [← len_data]; exact h.1)
theorem readField_any (s : ByteArray) (w : World) (hm : s.size ≤ 9223372036854775807) (hp : TabP w) :
    Calls Tryd.prog 28 #[.string s] w fun e w' => e = .returned (.tuple #[.agg (rdA s), .bool (decide (fldOk s.data.toList))]) ∧ Below w.heap.size w w' := by
  by_cases h : s.size = 32
  · rw [show rdA s = fldA (leN s.data.toList) from if_pos h, show decide (fldOk s.data.toList) = decide (leN s.data.toList < P25n) from decide_eq_decide.2 ⟨fun c => c.2, fun c => ⟨by rw [len_data]; exact h, c⟩⟩]
    exact readField_key s w h hp
  · rw [show rdA s = Z4 from if_neg h, show decide (fldOk s.data.toList) = false from decide_eq_false (fun c => h (by rw [← len_data]; exact c.1))]
    exact readField_no s w h hm
def opV (f : Nat → Nat → Nat) (a b : List UInt8) : List UInt8 := if fldOk a ∧ fldOk b then leB (f (leN a) (leN b)) 32 else []

set_option maxHeartbeats 2000000 in
theorem comb_no (F : Nat) (a b : ByteArray) (w : World) (ha : a.size ≤ 1048576) (hb : b.size ≤ 1048576) (hp : TabP w) (p q : Bool) (hP : decide (fldOk a.data.toList) = p) (hQ : decide (fldOk b.data.toList) = q) (hpq : (p && q) = false) :
    Calls Tryd.prog 35 #[.string a, .string b, .func (.func F) #[] #[]] w fun e w' => e = .returned (.string (str [])) ∧ Below w.heap.size w w' := by
  have HA := Lib.hid (And.intro ha hb)
  clear ha hb
  have HDA := Lib.hid hP
  have HDB := Lib.hid hQ
  clear hP hQ
  cases p <;> cases q
  case true.true => exact absurd hpq (by decide)
  all_goals
    go_enter Tryd.func35, Tryd.ntmps35
    go_wp2_with fail
    refine (readField_any a _ (by have := HA.out; omega) hp).mono ?_
    rintro e w1 ⟨rfl, hb1⟩
    rw [HDA.out]
    go_wp2_with (first
      | ((with_reducible refine wpList_store_row' (o := ⟨none, .store 34 _ _, _, _, _, _⟩) rfl 34 _ _ rfl w1.heap.size (rdA a) rfl rfl 34 Z4 (heap_alloc_new w1 _) (rdA_sz _) (rdA_z _) (rdA_one _) ?_); intro w2 hw2 hs2 hg2)
      | fail)
    have hb2 : Below w.heap.size w w2 := (hb1.alloc hb1.size _).grown hg2 (by simp; have := hb1.size; omega) (by intro k hk; have := Option.some.inj hk; have := hb1.size; omega)
    have hl2 : w1.heap.size < w2.heap.size := (Array.getElem?_eq_some_iff.1 hw2).1
    have HL := Lib.hid (And.intro hl2 hb1.size)
    clear hb1 hs2 hg2 hl2
    refine (readField_any b _ (by have := HA.out; omega) (hp.below hb2 hp.1)).mono ?_
    rintro e w3 ⟨rfl, hb3⟩
    rw [HDB.out]
    go_wp2_with (first
      | ((with_reducible refine wpList_store_row' (o := ⟨none, .store 34 _ _, _, _, _, _⟩) rfl 34 _ _ rfl w3.heap.size (rdA b) rfl rfl 34 Z4 (heap_alloc_new w3 _) (rdA_sz _) (rdA_z _) (rdA_one _) ?_); intro w4 hw4 hs4 hg4)
      | fail)
    have hb03 := hb2.trans (hb3.mono hb2.size)
    have hb4 : Below w.heap.size w w4 := (hb03.alloc hb03.size _).grown hg4 (by simp; have := hb03.size; omega) (by intro k hk; have := Option.some.inj hk; have := hb03.size; omega)
    go_ret
    exact ⟨rfl, hb4⟩

set_option maxHeartbeats 2000000 in
theorem comb_plus (a b : ByteArray) (w : World) (ha : a.size ≤ 1048576) (hb : b.size ≤ 1048576) (hp : TabP w) :
    Calls Tryd.prog 35 #[.string a, .string b, .func (.func 37) #[] #[]] w fun e w' => e = .returned (.string (str (opV (fun x y => (x + y) % P25n) a.data.toList b.data.toList))) ∧ Below w.heap.size w w' := by
  by_cases oa : fldOk a.data.toList
  case neg => rw [show opV (fun x y => (x + y) % P25n) a.data.toList b.data.toList = [] from if_neg (fun c => oa c.1)]; exact comb_no _ a b w ha hb hp false (decide (fldOk b.data.toList)) (decide_eq_false oa) rfl rfl
  by_cases ob : fldOk b.data.toList
  case neg => rw [show opV (fun x y => (x + y) % P25n) a.data.toList b.data.toList = [] from if_neg (fun c => ob c.2)]; exact comb_no _ a b w ha hb hp (decide (fldOk a.data.toList)) false rfl (decide_eq_false ob) (Bool.and_false _)
  have HA := Lib.hid (And.intro ha hb)
  have HDA := Lib.hid (decide_eq_true oa)
  have HDB := Lib.hid (decide_eq_true ob)
  have HV : Hid (opV (fun x y => (x + y) % P25n) a.data.toList b.data.toList = leB ((fun x y => (x + y) % P25n) (leN a.data.toList) (leN b.data.toList)) 32) := if_pos ⟨oa, ob⟩
  have HRA := Lib.hid (rdA_ok a oa)
  have HRB := Lib.hid (rdA_ok b ob)
  have HO := Lib.hid (And.intro oa.2 ob.2)
  clear ha hb oa ob
  go_enter Tryd.func35, Tryd.ntmps35
  go_wp2_with fail
  refine (readField_any a _ (by have := HA.out; omega) hp).mono ?_
  rintro e w1 ⟨rfl, hb1⟩
  rw [HDA.out]
  go_wp2_with (first
    | ((with_reducible refine wpList_store_row' (o := ⟨none, .store 34 _ _, _, _, _, _⟩) rfl 34 _ _ rfl w1.heap.size (rdA a) rfl rfl 34 Z4 (heap_alloc_new w1 _) (rdA_sz _) (rdA_z _) (rdA_one _) ?_); intro w2 hw2 hs2 hg2)
    | fail)
  have hb2 : Below w.heap.size w w2 := (hb1.alloc hb1.size _).grown hg2 (by simp; have := hb1.size; omega) (by intro k hk; have := Option.some.inj hk; have := hb1.size; omega)
  have hl2 : w1.heap.size < w2.heap.size := (Array.getElem?_eq_some_iff.1 hw2).1
  have HL := Lib.hid (And.intro hl2 hb1.size)
  clear hb1 hs2 hg2 hl2
  refine (readField_any b _ (by have := HA.out; omega) (hp.below hb2 hp.1)).mono ?_
  rintro e w3 ⟨rfl, hb3⟩
  rw [HDB.out]
  go_wp2_with (first
    | ((with_reducible refine wpList_store_row' (o := ⟨none, .store 34 _ _, _, _, _, _⟩) rfl 34 _ _ rfl w3.heap.size (rdA b) rfl rfl 34 Z4 (heap_alloc_new w3 _) (rdA_sz _) (rdA_z _) (rdA_one _) ?_); intro w4 hw4 hs4 hg4)
    | ((with_reducible refine wpList_load_row (o := ⟨some 28, _, _, _, _, _⟩) rfl 34 _ rfl w1.heap.size rfl 34 (rdA a) (0, 0) (.array 4 32) ?hA Tryd.underlying34 rfl (rdA_sz _) ?_))
    | ((with_reducible refine wpList_load_row (o := ⟨some 29, _, _, _, _, _⟩) rfl 34 _ rfl w3.heap.size rfl 34 (rdA b) (0, 0) (.array 4 32) hw4 Tryd.underlying34 rfl (rdA_sz _) ?_))
    | fail)
  case hA => exact ((gr_fld hg4 _ (by simp; have := HL.out.1; have := hb3.size; omega) (by have := HL.out.1; have := hb3.size; omega)).trans (Below.heap_alloc w3 _ _ (Nat.lt_of_lt_of_le HL.out.1 hb3.size))).trans ((hb3.block _ HL.out.1).trans hw2)
  have hb03 := hb2.trans (hb3.mono hb2.size)
  have hb4 : Below w.heap.size w w4 := (hb03.alloc hb03.size _).grown hg4 (by simp; have := hb03.size; omega) (by intro k hk; have := Option.some.inj hk; have := hb03.size; omega)
  rw [HRA.out, HRB.out]
  clear hs4 hg4 hb3 hb2 hb03 hw2
  generalize leN a.data.toList = x at *
  generalize leN b.data.toList = y at *
  have HC : Hid (Calls Tryd.prog 37 #[.agg (fldA x), .agg (fldA y)] w4 fun e w' => e = .returned (.agg (fldA ((x + y) % P25n))) ∧ Below w4.heap.size w4 w') := by
    show Calls _ _ _ _ _
    have := plus_any x y w4 (by have := HO.out; unfold W256; unfold P25n at this; omega) (hp.below hb4 hp.1)
    rw [red_mod (x + y) (by have := HO.out; omega)] at this
    exact this
  refine HC.out.mono ?_
  rintro e w6 ⟨rfl, hb6⟩
  have hb06 := hb4.trans (hb6.mono hb4.size)
  clear hb4 hb6 hw4
  go_wp2_with fail
  refine (encoded_any _ _).mono ?_
  rintro e w7 ⟨rfl, hb7⟩
  go_wp2
  go_ret
  exact ⟨by rw [HV.out]; rfl, hb06.trans (hb7.mono hb06.size)⟩

theorem fieldAdd_impl (a b : ByteArray) (w : World) (ha : a.size ≤ 1048576) (hb : b.size ≤ 1048576) (hp : TabP w) :
    Calls Tryd.prog 16 #[.string a, .string b] w fun e w' => e = .returned (.string (str (opV (fun x y => (x + y) % P25n) a.data.toList b.data.toList))) ∧ Below w.heap.size w w' := by
  have HC := Lib.hid (comb_plus a b w ha hb hp)
  clear ha hb
  go_enter Tryd.func16, Tryd.ntmps16
  go_wp2_with fail
  refine HC.out.mono ?_
  rintro e w1 ⟨rfl, hb1⟩
  go_wp2
  go_ret
  exact ⟨rfl, hb1⟩

set_option maxHeartbeats 2000000 in
theorem comb_minus (a b : ByteArray) (w : World) (ha : a.size ≤ 1048576) (hb : b.size ≤ 1048576) (hp : TabP w) :
    Calls Tryd.prog 35 #[.string a, .string b, .func (.func 66) #[] #[]] w fun e w' => e = .returned (.string (str (opV (fun x y => (x + (P25n - y)) % P25n) a.data.toList b.data.toList))) ∧ Below w.heap.size w w' := by
  by_cases oa : fldOk a.data.toList
  case neg => rw [show opV (fun x y => (x + (P25n - y)) % P25n) a.data.toList b.data.toList = [] from if_neg (fun c => oa c.1)]; exact comb_no _ a b w ha hb hp false (decide (fldOk b.data.toList)) (decide_eq_false oa) rfl rfl
  by_cases ob : fldOk b.data.toList
  case neg => rw [show opV (fun x y => (x + (P25n - y)) % P25n) a.data.toList b.data.toList = [] from if_neg (fun c => ob c.2)]; exact comb_no _ a b w ha hb hp (decide (fldOk a.data.toList)) false rfl (decide_eq_false ob) (Bool.and_false _)
  have HA := Lib.hid (And.intro ha hb)
  have HDA := Lib.hid (decide_eq_true oa)
  have HDB := Lib.hid (decide_eq_true ob)
  have HV : Hid (opV (fun x y => (x + (P25n - y)) % P25n) a.data.toList b.data.toList = leB ((fun x y => (x + (P25n - y)) % P25n) (leN a.data.toList) (leN b.data.toList)) 32) := if_pos ⟨oa, ob⟩
  have HRA := Lib.hid (rdA_ok a oa)
  have HRB := Lib.hid (rdA_ok b ob)
  have HO := Lib.hid (And.intro oa.2 ob.2)
  clear ha hb oa ob
  go_enter Tryd.func35, Tryd.ntmps35
  go_wp2_with fail
  refine (readField_any a _ (by have := HA.out; omega) hp).mono ?_
  rintro e w1 ⟨rfl, hb1⟩
  rw [HDA.out]
  go_wp2_with (first
    | ((with_reducible refine wpList_store_row' (o := ⟨none, .store 34 _ _, _, _, _, _⟩) rfl 34 _ _ rfl w1.heap.size (rdA a) rfl rfl 34 Z4 (heap_alloc_new w1 _) (rdA_sz _) (rdA_z _) (rdA_one _) ?_); intro w2 hw2 hs2 hg2)
    | fail)
  have hb2 : Below w.heap.size w w2 := (hb1.alloc hb1.size _).grown hg2 (by simp; have := hb1.size; omega) (by intro k hk; have := Option.some.inj hk; have := hb1.size; omega)
  have hl2 : w1.heap.size < w2.heap.size := (Array.getElem?_eq_some_iff.1 hw2).1
  have HL := Lib.hid (And.intro hl2 hb1.size)
  clear hb1 hs2 hg2 hl2
  refine (readField_any b _ (by have := HA.out; omega) (hp.below hb2 hp.1)).mono ?_
  rintro e w3 ⟨rfl, hb3⟩
  rw [HDB.out]
  go_wp2_with (first
    | ((with_reducible refine wpList_store_row' (o := ⟨none, .store 34 _ _, _, _, _, _⟩) rfl 34 _ _ rfl w3.heap.size (rdA b) rfl rfl 34 Z4 (heap_alloc_new w3 _) (rdA_sz _) (rdA_z _) (rdA_one _) ?_); intro w4 hw4 hs4 hg4)
    | ((with_reducible refine wpList_load_row (o := ⟨some 28, _, _, _, _, _⟩) rfl 34 _ rfl w1.heap.size rfl 34 (rdA a) (0, 0) (.array 4 32) ?hA Tryd.underlying34 rfl (rdA_sz _) ?_))
    | ((with_reducible refine wpList_load_row (o := ⟨some 29, _, _, _, _, _⟩) rfl 34 _ rfl w3.heap.size rfl 34 (rdA b) (0, 0) (.array 4 32) hw4 Tryd.underlying34 rfl (rdA_sz _) ?_))
    | fail)
  case hA => exact ((gr_fld hg4 _ (by simp; have := HL.out.1; have := hb3.size; omega) (by have := HL.out.1; have := hb3.size; omega)).trans (Below.heap_alloc w3 _ _ (Nat.lt_of_lt_of_le HL.out.1 hb3.size))).trans ((hb3.block _ HL.out.1).trans hw2)
  have hb03 := hb2.trans (hb3.mono hb2.size)
  have hb4 : Below w.heap.size w w4 := (hb03.alloc hb03.size _).grown hg4 (by simp; have := hb03.size; omega) (by intro k hk; have := Option.some.inj hk; have := hb03.size; omega)
  rw [HRA.out, HRB.out]
  clear hs4 hg4 hb3 hb2 hb03 hw2
  generalize leN a.data.toList = x at *
  generalize leN b.data.toList = y at *
  have HC : Hid (Calls Tryd.prog 66 #[.agg (fldA x), .agg (fldA y)] w4 fun e w' => e = .returned (.agg (fldA ((x + (P25n - y)) % P25n))) ∧ Below w4.heap.size w4 w') := by
    show Calls _ _ _ _ _
    have := minus_any x y w4 HO.out.1 (by have := HO.out; omega) (hp.below hb4 hp.1)
    rw [red_mod (x + (P25n - y)) (by have := HO.out; omega)] at this
    exact this
  refine HC.out.mono ?_
  rintro e w6 ⟨rfl, hb6⟩
  have hb06 := hb4.trans (hb6.mono hb4.size)
  clear hb4 hb6 hw4
  go_wp2_with fail
  refine (encoded_any _ _).mono ?_
  rintro e w7 ⟨rfl, hb7⟩
  go_wp2
  go_ret
  exact ⟨by rw [HV.out]; rfl, hb06.trans (hb7.mono hb06.size)⟩

set_option maxHeartbeats 2000000 in
theorem comb_times (a b : ByteArray) (w : World) (ha : a.size ≤ 1048576) (hb : b.size ≤ 1048576) (hp : TabP w) :
    Calls Tryd.prog 35 #[.string a, .string b, .func (.func 36) #[] #[]] w fun e w' => e = .returned (.string (str (opV (fun x y => x * y % P25n) a.data.toList b.data.toList))) ∧ Below w.heap.size w w' := by
  by_cases oa : fldOk a.data.toList
  case neg => rw [show opV (fun x y => x * y % P25n) a.data.toList b.data.toList = [] from if_neg (fun c => oa c.1)]; exact comb_no _ a b w ha hb hp false (decide (fldOk b.data.toList)) (decide_eq_false oa) rfl rfl
  by_cases ob : fldOk b.data.toList
  case neg => rw [show opV (fun x y => x * y % P25n) a.data.toList b.data.toList = [] from if_neg (fun c => ob c.2)]; exact comb_no _ a b w ha hb hp (decide (fldOk a.data.toList)) false rfl (decide_eq_false ob) (Bool.and_false _)
  have HA := Lib.hid (And.intro ha hb)
  have HDA := Lib.hid (decide_eq_true oa)
  have HDB := Lib.hid (decide_eq_true ob)
  have HV : Hid (opV (fun x y => x * y % P25n) a.data.toList b.data.toList = leB ((fun x y => x * y % P25n) (leN a.data.toList) (leN b.data.toList)) 32) := if_pos ⟨oa, ob⟩
  have HRA := Lib.hid (rdA_ok a oa)
  have HRB := Lib.hid (rdA_ok b ob)
  have HO := Lib.hid (And.intro oa.2 ob.2)
  clear ha hb oa ob
  go_enter Tryd.func35, Tryd.ntmps35
  go_wp2_with fail
  refine (readField_any a _ (by have := HA.out; omega) hp).mono ?_
  rintro e w1 ⟨rfl, hb1⟩
  rw [HDA.out]
  go_wp2_with (first
    | ((with_reducible refine wpList_store_row' (o := ⟨none, .store 34 _ _, _, _, _, _⟩) rfl 34 _ _ rfl w1.heap.size (rdA a) rfl rfl 34 Z4 (heap_alloc_new w1 _) (rdA_sz _) (rdA_z _) (rdA_one _) ?_); intro w2 hw2 hs2 hg2)
    | fail)
  have hb2 : Below w.heap.size w w2 := (hb1.alloc hb1.size _).grown hg2 (by simp; have := hb1.size; omega) (by intro k hk; have := Option.some.inj hk; have := hb1.size; omega)
  have hl2 : w1.heap.size < w2.heap.size := (Array.getElem?_eq_some_iff.1 hw2).1
  have HL := Lib.hid (And.intro hl2 hb1.size)
  clear hb1 hs2 hg2 hl2
  refine (readField_any b _ (by have := HA.out; omega) (hp.below hb2 hp.1)).mono ?_
  rintro e w3 ⟨rfl, hb3⟩
  rw [HDB.out]
  go_wp2_with (first
    | ((with_reducible refine wpList_store_row' (o := ⟨none, .store 34 _ _, _, _, _, _⟩) rfl 34 _ _ rfl w3.heap.size (rdA b) rfl rfl 34 Z4 (heap_alloc_new w3 _) (rdA_sz _) (rdA_z _) (rdA_one _) ?_); intro w4 hw4 hs4 hg4)
    | ((with_reducible refine wpList_load_row (o := ⟨some 28, _, _, _, _, _⟩) rfl 34 _ rfl w1.heap.size rfl 34 (rdA a) (0, 0) (.array 4 32) ?hA Tryd.underlying34 rfl (rdA_sz _) ?_))
    | ((with_reducible refine wpList_load_row (o := ⟨some 29, _, _, _, _, _⟩) rfl 34 _ rfl w3.heap.size rfl 34 (rdA b) (0, 0) (.array 4 32) hw4 Tryd.underlying34 rfl (rdA_sz _) ?_))
    | fail)
  case hA => exact ((gr_fld hg4 _ (by simp; have := HL.out.1; have := hb3.size; omega) (by have := HL.out.1; have := hb3.size; omega)).trans (Below.heap_alloc w3 _ _ (Nat.lt_of_lt_of_le HL.out.1 hb3.size))).trans ((hb3.block _ HL.out.1).trans hw2)
  have hb03 := hb2.trans (hb3.mono hb2.size)
  have hb4 : Below w.heap.size w w4 := (hb03.alloc hb03.size _).grown hg4 (by simp; have := hb03.size; omega) (by intro k hk; have := Option.some.inj hk; have := hb03.size; omega)
  rw [HRA.out, HRB.out]
  clear hs4 hg4 hb3 hb2 hb03 hw2
  generalize leN a.data.toList = x at *
  generalize leN b.data.toList = y at *
  have HC : Hid (Calls Tryd.prog 36 #[.agg (fldA x), .agg (fldA y)] w4 fun e w' => e = .returned (.agg (fldA (x * y % P25n))) ∧ Below w4.heap.size w4 w') := by
    show Calls _ _ _ _ _
    exact times_any x y w4 (by have := HO.out; unfold W256; unfold P25n at this; omega) (by have := HO.out; unfold W256; unfold P25n at this; omega) (hp.below hb4 hp.1)
  refine HC.out.mono ?_
  rintro e w6 ⟨rfl, hb6⟩
  have hb06 := hb4.trans (hb6.mono hb4.size)
  clear hb4 hb6 hw4
  go_wp2_with fail
  refine (encoded_any _ _).mono ?_
  rintro e w7 ⟨rfl, hb7⟩
  go_wp2
  go_ret
  exact ⟨by rw [HV.out]; rfl, hb06.trans (hb7.mono hb06.size)⟩

theorem fieldMul_impl (a b : ByteArray) (w : World) (ha : a.size ≤ 1048576) (hb : b.size ≤ 1048576) (hp : TabP w) :
    Calls Tryd.prog 14 #[.string a, .string b] w fun e w' => e = .returned (.string (str (opV (fun x y => x * y % P25n) a.data.toList b.data.toList))) ∧ Below w.heap.size w w' := by
  have HC := Lib.hid (comb_times a b w ha hb hp)
  clear ha hb
  go_enter Tryd.func14, Tryd.ntmps14
  go_wp2_with fail
  refine HC.out.mono ?_
  rintro e w1 ⟨rfl, hb1⟩
  go_wp2
  go_ret
  exact ⟨rfl, hb1⟩

def invV (a : List UInt8) : List UInt8 := if fldOk a then leB (leN a ^ E25 % P25n) 32 else []
set_option maxHeartbeats 2000000 in
theorem fieldInv_impl (a : ByteArray) (w : World) (ha : a.size ≤ 1048576) (hp : TabP w) :
    Calls Tryd.prog 12 #[.string a] w fun e w' => e = .returned (.string (str (invV a.data.toList))) ∧ Below w.heap.size w w' := by
  have HA := Lib.hid ha
  clear ha
  by_cases oa : fldOk a.data.toList
  case neg =>
    have HDA := Lib.hid (decide_eq_false oa)
    have HV : Hid (invV a.data.toList = []) := if_neg oa
    clear oa
    go_enter Tryd.func12, Tryd.ntmps12
    go_wp2_with fail
    refine (readField_any a _ (by have := HA.out; omega) hp).mono ?_
    rintro e w1 ⟨rfl, hb1⟩
    rw [HDA.out]
    go_wp2_with (first
      | ((with_reducible refine wpList_store_row' (o := ⟨none, .store 34 _ _, _, _, _, _⟩) rfl 34 _ _ rfl w1.heap.size (rdA a) rfl rfl 34 Z4 (heap_alloc_new w1 _) (rdA_sz _) (rdA_z _) (rdA_one _) ?_); intro w2 hw2 hs2 hg2)
      | fail)
    have hb2 : Below w.heap.size w w2 := (hb1.alloc hb1.size _).grown hg2 (by simp; have := hb1.size; omega) (by intro k hk; have := Option.some.inj hk; have := hb1.size; omega)
    go_ret
    exact ⟨by rw [HV.out]; rfl, hb2⟩
  have HDA := Lib.hid (decide_eq_true oa)
  have HV : Hid (invV a.data.toList = leB (leN a.data.toList ^ E25 % P25n) 32) := if_pos oa
  have HRA := Lib.hid (rdA_ok a oa)
  have HO := Lib.hid oa.2
  clear oa
  go_enter Tryd.func12, Tryd.ntmps12
  go_wp2_with fail
  refine (readField_any a _ (by have := HA.out; omega) hp).mono ?_
  rintro e w1 ⟨rfl, hb1⟩
  rw [HDA.out]
  go_wp2_with (first
    | ((with_reducible refine wpList_store_row' (o := ⟨none, .store 34 _ _, _, _, _, _⟩) rfl 34 _ _ rfl w1.heap.size (rdA a) rfl rfl 34 Z4 (heap_alloc_new w1 _) (rdA_sz _) (rdA_z _) (rdA_one _) ?_); intro w2 hw2 hs2 hg2)
    | ((with_reducible refine wpList_load_row rfl 34 _ rfl w1.heap.size rfl 34 (rdA a) (0, 0) (.array 4 32) hw2 Tryd.underlying34 rfl (rdA_sz _) ?_))
    | fail)
  have hb2 : Below w.heap.size w w2 := (hb1.alloc hb1.size _).grown hg2 (by simp; have := hb1.size; omega) (by intro k hk; have := Option.some.inj hk; have := hb1.size; omega)
  rw [HRA.out]
  refine (inverse_any (leN a.data.toList) _ (by have := HO.out; unfold W256; unfold P25n at this; omega) (hp.below hb2 hp.1)).mono ?_
  rintro e w6 ⟨rfl, hb6⟩
  have hb06 := hb2.trans (hb6.mono hb2.size)
  clear hb2 hb6 hb1 hw2 hs2 hg2
  go_wp2_with fail
  refine (encoded_any _ _).mono ?_
  rintro e w7 ⟨rfl, hb7⟩
  go_wp2
  go_ret
  exact ⟨by rw [HV.out]; rfl, hb06.trans (hb7.mono hb06.size)⟩

set_option maxHeartbeats 2000000 in
theorem fieldOk_impl (a : ByteArray) (w : World) (ha : a.size ≤ 1048576) (hp : TabP w) :
    Calls Tryd.prog 21 #[.string a] w fun e w' => e = .returned (.bool (decide (fldOk a.data.toList))) ∧ Below w.heap.size w w' := by
  have HA := Lib.hid ha
  clear ha
  go_enter Tryd.func21, Tryd.ntmps21
  go_wp2_with fail
  refine (readField_any a _ (by have := HA.out; omega) hp).mono ?_
  rintro e w1 ⟨rfl, hb1⟩
  go_wp2_with (first
    | ((with_reducible refine wpList_store_row' (o := ⟨none, .store 34 _ _, _, _, _, _⟩) rfl 34 _ _ rfl w1.heap.size (rdA a) rfl rfl 34 Z4 (heap_alloc_new w1 _) (rdA_sz _) (rdA_z _) (rdA_one _) ?_); intro w2 hw2 hs2 hg2)
    | fail)
  have hb2 : Below w.heap.size w w2 := (hb1.alloc hb1.size _).grown hg2 (by simp; have := hb1.size; omega) (by intro k hk; have := Option.some.inj hk; have := hb1.size; omega)
  go_ret
  exact ⟨rfl, hb2⟩

end Go.Proofs.YtcaepcfgeelojaaDoor

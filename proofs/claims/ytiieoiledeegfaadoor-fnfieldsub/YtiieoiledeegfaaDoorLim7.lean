/- The contracts of the specification's FieldOk, FieldAdd, FieldSub. -/
import Derived.Test.YtiieoiledeegfaaDoorLim6
import Derived.Test.YtiieoiledeegfaaDoorLim2
import Derived.Test.YtiieoiledeegfaaDoorFld7
namespace Go.Proofs.YtiieoiledeegfaaDoor
open Go.RowKit Go.My Go.Lib
set_option linter.unusedVariables false

theorem VL_digm (n : Nat) : VL (digZ n) = ((n % 57896044618658097711785492504343953926634992332820282019728792003956564819968 : Nat) : Int) := by
  have e : ∀ i, digZ n i = ((n / 2 ^ wo i % 2 ^ bwn i : Nat) : Int) := fun _ => rfl
  unfold VL
  simp only [e, wo, woL, bwn]
  simp
  omega
theorem rN_dig (n : Nat) : rN (digZ n) = n % 57896044618658097711785492504343953926634992332820282019728792003956564819968 % P25n := by
  unfold rN
  rw [VL_digm]
  unfold P25n
  omega
theorem beqL (a b : ByteArray) : (a.toList == b.toList) = decide (a = b) := by
  rw [ByteArray.toList_eq, ByteArray.toList_eq]
  by_cases h : a = b
  · rw [h, decide_eq_true rfl]; exact beq_self_eq_true _
  · rw [decide_eq_false h]
    refine beq_eq_false_iff_ne.2 (fun c => h ?_)
    rw [← str_of a, ← str_of b, c]
theorem okEq (a : ByteArray) (h : a.size = 32) : ((str (leB (rN (digZ (leN a.data.toList))) 32)).toList == a.toList) = decide (fldOk a.data.toList) := by
  rw [beqL]
  have hl := len_data a
  have hlt := leN_lt a.data.toList
  rw [hl, h] at hlt
  rw [rN_dig]
  have key : str (leB (leN a.data.toList % 57896044618658097711785492504343953926634992332820282019728792003956564819968 % P25n) 32) = a ↔ fldOk a.data.toList := by
    constructor
    · intro c
      refine ⟨by omega, ?_⟩
      have e := congrArg (fun s : ByteArray => leN s.data.toList) c
      simp only [str_list] at e
      rw [leN_leB _ _ (Nat.lt_trans (Nat.mod_lt _ (by decide : 0 < P25n)) (by decide))] at e
      rw [← e]
      exact Nat.mod_lt _ (by decide)
    · intro c
      have e : leN a.data.toList % 57896044618658097711785492504343953926634992332820282019728792003956564819968 % P25n = leN a.data.toList := by
        have := c.2
        unfold P25n at *
        omega
      rw [e]
      have := leB_leN a.data.toList
      rw [hl, h] at this
      rw [this, str_of]
  exact decide_eq_decide.2 key

set_option maxHeartbeats 2000000 in
theorem fieldOk_spec (a : ByteArray) (w : World) (ha : a.size ≤ 1048576) :
    Calls Tryd.prog 20 #[.string a] w fun e w' => e = .returned (.bool (decide (fldOk a.data.toList))) ∧ Below w.heap.size w w' := by
  by_cases h : a.size = 32
  case neg =>
    have hd : decide (fldOk a.data.toList) = false := decide_eq_false (fun c => h (by rw [← len_data]; exact c.1))
    have h1 : ¬ (a.size : Int) = 32 := by omega
    have h2 : (a.size : Int) ≤ 1048576 := by omega
    rw [hd]
    clear ha hd
    go_enter Tryd.func20, Tryd.ntmps20
    go_wp2
    go_ret
    exact ⟨rfl, Below.refl _ _⟩
  have h1 : (a.size : Int) = 32 := by omega
  have HS := Lib.hid h
  have HE := Lib.hid (okEq a h)
  clear ha h
  go_enter Tryd.func20, Tryd.ntmps20
  go_wp2_with fail
  refine (read_any a _ HS.out).mono ?_
  rintro e w1 ⟨rfl, hb1⟩
  go_wp2_with fail
  refine (write_any (digZ (leN a.data.toList)) _ (fun q hq => by have := digZ_mid (leN a.data.toList) q hq; omega)).mono ?_
  rintro e w2 ⟨rfl, hb2⟩
  have hseq := HE.out
  generalize str (leB (rN (digZ (leN a.data.toList))) 32) = X at *
  go_wp2
  go_ret
  exact ⟨rfl, hb1.trans (hb2.mono hb1.size)⟩

theorem rN_add (x y : Nat) (hx : x < P25n) (hy : y < P25n) : rN (fun q => digZ x q + digZ y q) = (x + y) % P25n := by
  have h1 := VL_dig x (Nat.lt_trans hx (by decide))
  have h2 := VL_dig y (Nat.lt_trans hy (by decide))
  have h3 : VL (fun q => digZ x q + digZ y q) = VL (digZ x) + VL (digZ y) := by simp only [VL]; omega
  unfold rN
  rw [h3, h1, h2]
  unfold P25n at *
  omega
theorem bd_add (x y : Nat) (q : Nat) (hq : q < 10) : -7205759403792793600 ≤ digZ x q + digZ y q ∧ digZ x q + digZ y q ≤ 7205759403792793600 := by
  have h1 := digZ_mid x q hq
  have h2 := digZ_mid y q hq
  omega
set_option maxHeartbeats 2000000 in
theorem fieldAdd_spec (a b : ByteArray) (w : World) (ha : a.size ≤ 1048576) (hb : b.size ≤ 1048576) :
    Calls Tryd.prog 17 #[.string a, .string b] w fun e w' => e = .returned (.string (str (opV (fun x y => (x + y) % P25n) a.data.toList b.data.toList))) ∧ Below w.heap.size w w' := by
  have HA := Lib.hid (And.intro ha hb)
  clear ha hb
  by_cases oa : fldOk a.data.toList
  case neg =>
    have HD := Lib.hid (decide_eq_false oa)
    have HV : Hid (opV (fun x y => (x + y) % P25n) a.data.toList b.data.toList = []) := if_neg (fun c => oa c.1)
    clear oa
    go_enter Tryd.func17, Tryd.ntmps17
    go_wp2_with fail
    refine (fieldOk_spec a _ HA.out.1).mono ?_
    rintro e w1 ⟨rfl, hb1⟩
    rw [HD.out]
    go_wp2
    go_ret
    exact ⟨by rw [HV.out]; rfl, hb1⟩
  by_cases ob : fldOk b.data.toList
  case neg =>
    have HD := Lib.hid (decide_eq_true oa)
    have HE := Lib.hid (decide_eq_false ob)
    have HV : Hid (opV (fun x y => (x + y) % P25n) a.data.toList b.data.toList = []) := if_neg (fun c => ob c.2)
    clear oa ob
    go_enter Tryd.func17, Tryd.ntmps17
    go_wp2_with fail
    refine (fieldOk_spec a _ HA.out.1).mono ?_
    rintro e w1 ⟨rfl, hb1⟩
    rw [HD.out]
    go_wp2_with fail
    refine (fieldOk_spec b _ HA.out.2).mono ?_
    rintro e w2 ⟨rfl, hb2⟩
    rw [HE.out]
    go_wp2
    go_ret
    exact ⟨by rw [HV.out]; rfl, hb1.trans (hb2.mono hb1.size)⟩
  have HD := Lib.hid (decide_eq_true oa)
  have HE := Lib.hid (decide_eq_true ob)
  have HV : Hid (opV (fun x y => (x + y) % P25n) a.data.toList b.data.toList = leB ((fun x y => (x + y) % P25n) (leN a.data.toList) (leN b.data.toList)) 32) := if_pos ⟨oa, ob⟩
  have HS : Hid (a.size = 32 ∧ b.size = 32) := ⟨by rw [← len_data]; exact oa.1, by rw [← len_data]; exact ob.1⟩
  have HRN := Lib.hid (rN_add _ _ oa.2 ob.2)
  clear oa ob
  go_enter Tryd.func17, Tryd.ntmps17
  go_wp2_with fail
  refine (fieldOk_spec a _ HA.out.1).mono ?_
  rintro e w1 ⟨rfl, hb1⟩
  rw [HD.out]
  go_wp2_with fail
  refine (fieldOk_spec b _ HA.out.2).mono ?_
  rintro e w2 ⟨rfl, hb2'⟩
  have hb2 := hb1.trans (hb2'.mono hb1.size)
  clear hb1 hb2'
  rw [HE.out]
  go_wp2_with fail
  refine (read_any a _ HS.out.1).mono ?_
  rintro e w3 ⟨rfl, hb3'⟩
  have hb3 := hb2.trans (hb3'.mono hb2.size)
  clear hb2 hb3'
  go_wp2_with fail
  refine (read_any b _ HS.out.2).mono ?_
  rintro e w4 ⟨rfl, hb4'⟩
  have hb4 := hb3.trans (hb4'.mono hb3.size)
  clear hb3 hb4'
  generalize leN a.data.toList = x at *
  generalize leN b.data.toList = y at *
  go_wp2_with fail
  refine (ladd_any (digZ x) (digZ y) _ (fun q hq => by have := digZ_mid x q hq; omega) (fun q hq => by have := digZ_mid y q hq; omega)).mono ?_
  rintro e w5 ⟨rfl, hb5'⟩
  have hb5 := hb4.trans (hb5'.mono hb4.size)
  clear hb4 hb5'
  go_wp2_with fail
  refine (write_any (fun q => digZ x q + digZ y q) _ (fun q hq => bd_add x y q hq)).mono ?_
  rintro e w6 ⟨rfl, hb6⟩
  rw [HRN.out]
  go_wp2
  go_ret
  exact ⟨by rw [HV.out]; rfl, hb5.trans (hb6.mono hb5.size)⟩

theorem rN_sub (x y : Nat) (hx : x < P25n) (hy : y < P25n) : rN (fun q => digZ x q - digZ y q) = (x + (P25n - y)) % P25n := by
  have h1 := VL_dig x (Nat.lt_trans hx (by decide))
  have h2 := VL_dig y (Nat.lt_trans hy (by decide))
  have h3 : VL (fun q => digZ x q - digZ y q) = VL (digZ x) - VL (digZ y) := by simp only [VL]; omega
  unfold rN
  rw [h3, h1, h2]
  unfold P25n at *
  omega
theorem bd_sub (x y : Nat) (q : Nat) (hq : q < 10) : -7205759403792793600 ≤ digZ x q - digZ y q ∧ digZ x q - digZ y q ≤ 7205759403792793600 := by
  have h1 := digZ_mid x q hq
  have h2 := digZ_mid y q hq
  omega
set_option maxHeartbeats 2000000 in
theorem fieldSub_spec (a b : ByteArray) (w : World) (ha : a.size ≤ 1048576) (hb : b.size ≤ 1048576) :
    Calls Tryd.prog 18 #[.string a, .string b] w fun e w' => e = .returned (.string (str (opV (fun x y => (x + (P25n - y)) % P25n) a.data.toList b.data.toList))) ∧ Below w.heap.size w w' := by
  have HA := Lib.hid (And.intro ha hb)
  clear ha hb
  by_cases oa : fldOk a.data.toList
  case neg =>
    have HD := Lib.hid (decide_eq_false oa)
    have HV : Hid (opV (fun x y => (x + (P25n - y)) % P25n) a.data.toList b.data.toList = []) := if_neg (fun c => oa c.1)
    clear oa
    go_enter Tryd.func18, Tryd.ntmps18
    go_wp2_with fail
    refine (fieldOk_spec a _ HA.out.1).mono ?_
    rintro e w1 ⟨rfl, hb1⟩
    rw [HD.out]
    go_wp2
    go_ret
    exact ⟨by rw [HV.out]; rfl, hb1⟩
  by_cases ob : fldOk b.data.toList
  case neg =>
    have HD := Lib.hid (decide_eq_true oa)
    have HE := Lib.hid (decide_eq_false ob)
    have HV : Hid (opV (fun x y => (x + (P25n - y)) % P25n) a.data.toList b.data.toList = []) := if_neg (fun c => ob c.2)
    clear oa ob
    go_enter Tryd.func18, Tryd.ntmps18
    go_wp2_with fail
    refine (fieldOk_spec a _ HA.out.1).mono ?_
    rintro e w1 ⟨rfl, hb1⟩
    rw [HD.out]
    go_wp2_with fail
    refine (fieldOk_spec b _ HA.out.2).mono ?_
    rintro e w2 ⟨rfl, hb2⟩
    rw [HE.out]
    go_wp2
    go_ret
    exact ⟨by rw [HV.out]; rfl, hb1.trans (hb2.mono hb1.size)⟩
  have HD := Lib.hid (decide_eq_true oa)
  have HE := Lib.hid (decide_eq_true ob)
  have HV : Hid (opV (fun x y => (x + (P25n - y)) % P25n) a.data.toList b.data.toList = leB ((fun x y => (x + (P25n - y)) % P25n) (leN a.data.toList) (leN b.data.toList)) 32) := if_pos ⟨oa, ob⟩
  have HS : Hid (a.size = 32 ∧ b.size = 32) := ⟨by rw [← len_data]; exact oa.1, by rw [← len_data]; exact ob.1⟩
  have HRN := Lib.hid (rN_sub _ _ oa.2 ob.2)
  clear oa ob
  go_enter Tryd.func18, Tryd.ntmps18
  go_wp2_with fail
  refine (fieldOk_spec a _ HA.out.1).mono ?_
  rintro e w1 ⟨rfl, hb1⟩
  rw [HD.out]
  go_wp2_with fail
  refine (fieldOk_spec b _ HA.out.2).mono ?_
  rintro e w2 ⟨rfl, hb2'⟩
  have hb2 := hb1.trans (hb2'.mono hb1.size)
  clear hb1 hb2'
  rw [HE.out]
  go_wp2_with fail
  refine (read_any a _ HS.out.1).mono ?_
  rintro e w3 ⟨rfl, hb3'⟩
  have hb3 := hb2.trans (hb3'.mono hb2.size)
  clear hb2 hb3'
  go_wp2_with fail
  refine (read_any b _ HS.out.2).mono ?_
  rintro e w4 ⟨rfl, hb4'⟩
  have hb4 := hb3.trans (hb4'.mono hb3.size)
  clear hb3 hb4'
  generalize leN a.data.toList = x at *
  generalize leN b.data.toList = y at *
  go_wp2_with fail
  refine (lsub_any (digZ x) (digZ y) _ (fun q hq => by have := digZ_mid x q hq; omega) (fun q hq => by have := digZ_mid y q hq; omega)).mono ?_
  rintro e w5 ⟨rfl, hb5'⟩
  have hb5 := hb4.trans (hb5'.mono hb4.size)
  clear hb4 hb5'
  go_wp2_with fail
  refine (write_any (fun q => digZ x q - digZ y q) _ (fun q hq => bd_sub x y q hq)).mono ?_
  rintro e w6 ⟨rfl, hb6⟩
  rw [HRN.out]
  go_wp2
  go_ret
  exact ⟨by rw [HV.out]; rfl, hb5.trans (hb6.mono hb5.size)⟩

end Go.Proofs.YtiieoiledeegfaaDoor

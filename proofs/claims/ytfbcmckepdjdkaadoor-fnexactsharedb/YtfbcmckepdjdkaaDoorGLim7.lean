/- The contracts of the specification's FieldOk, FieldAdd, FieldSub. -/
import Derived.Test.YtfbcmckepdjdkaaDoorGLim6
import Derived.Test.YtfbcmckepdjdkaaDoorGLim2
import Derived.Test.YtfbcmckepdjdkaaDoorGM3
namespace Go.Proofs.YtfbcmckepdjdkaaDoor
open Go.RowKit Go.My Go.Lib
set_option linter.unusedVariables false

theorem VL_digm (n : Nat) : VL (digZ n) = ((n % 57896044618658097711785492504343953926634992332820282019728792003956564819968 : Nat) : Int) := by
  have e : ∀ i, digZ n i = ((n / 2 ^ wo i % 2 ^ bwn i : Nat) : Int) := fun _ => rfl
  unfold VL
  simp only [e, wo, woL, bwn]
  simp
  omega
theorem rN_dig (n : Nat) : rN (digZ n) = n % 57896044618658097711785492504343953926634992332820282019728792003956564819968 % P25n := by
  unfold rN
  rw [VL_digm]
  unfold P25n
  omega
theorem beqL (a b : ByteArray) : (a.toList == b.toList) = decide (a = b) := by
  rw [ByteArray.toList_eq, ByteArray.toList_eq]
  by_cases h : a = b
  · rw [h, decide_eq_true rfl]; exact beq_self_eq_true _
  · rw [decide_eq_false h]
    refine beq_eq_false_iff_ne.2 (fun c => h ?_)
    rw [← str_of a, ← str_of b, c]
theorem okEq (a : ByteArray) (h : a.size = 32) : ((str (leB (rN (digZ (leN a.data.toList))) 32)).toList == a.toList) = decide (fldOk a.data.toList) := by
  rw [beqL]
  have hl := len_data a
  have hlt := leN_lt a.data.toList
  rw [hl, h] at hlt
  rw [rN_dig]
  have key : str (leB (leN a.data.toList % 57896044618658097711785492504343953926634992332820282019728792003956564819968 % P25n) 32) = a ↔ fldOk a.data.toList := by
    constructor
    · intro c
      refine ⟨by omega, ?_⟩
      have e := congrArg (fun s : ByteArray => leN s.data.toList) c
      simp only [str_list] at e
      rw [leN_leB _ _ (Nat.lt_trans (Nat.mod_lt _ (by decide : 0 < P25n)) (by decide))] at e
      rw [← e]
      exact Nat.mod_lt _ (by decide)
    · intro c
      have e : leN a.data.toList % 57896044618658097711785492504343953926634992332820282019728792003956564819968 % P25n = leN a.data.toList := by
        have := c.2
        unfold P25n at *
        omega
      rw [e]
      have := leB_leN a.data.toList
      rw [hl, h] at this
      rw [this, str_of]
  exact decide_eq_decide.2 key

theorem rN_add (x y : Nat) (hx : x < P25n) (hy : y < P25n) : rN (fun q => digZ x q + digZ y q) = (x + y) % P25n := by
  have h1 := VL_dig x (Nat.lt_trans hx (by decide))
  have h2 := VL_dig y (Nat.lt_trans hy (by decide))
  have h3 : VL (fun q => digZ x q + digZ y q) = VL (digZ x) + VL (digZ y) := by simp only [VL]; omega
  unfold rN
  rw [h3, h1, h2]
  unfold P25n at *
  omega
theorem bd_add (x y : Nat) (q : Nat) (hq : q < 10) : -7205759403792793600 ≤ digZ x q + digZ y q ∧ digZ x q + digZ y q ≤ 7205759403792793600 := by
  have h1 := digZ_mid x q hq
  have h2 := digZ_mid y q hq
  omega
theorem rN_sub (x y : Nat) (hx : x < P25n) (hy : y < P25n) : rN (fun q => digZ x q - digZ y q) = (x + (P25n - y)) % P25n := by
  have h1 := VL_dig x (Nat.lt_trans hx (by decide))
  have h2 := VL_dig y (Nat.lt_trans hy (by decide))
  have h3 : VL (fun q => digZ x q - digZ y q) = VL (digZ x) - VL (digZ y) := by simp only [VL]; omega
  unfold rN
  rw [h3, h1, h2]
  unfold P25n at *
  omega
theorem bd_sub (x y : Nat) (q : Nat) (hq : q < 10) : -7205759403792793600 ≤ digZ x q - digZ y q ∧ digZ x q - digZ y q ≤ 7205759403792793600 := by
  have h1 := digZ_mid x q hq
  have h2 := digZ_mid y q hq
  omega
end Go.Proofs.YtfbcmckepdjdkaaDoor

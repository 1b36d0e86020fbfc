/- BundleOk of both sides. -/
import Derived.Test.YtfbcmckepdjdkaaDoorGM2
namespace Go.Proofs.YtfbcmckepdjdkaaDoor
open Go.RowKit Go.My Go.Lib
set_option linter.unusedVariables false

abbrev bundleA (p q s : ByteArray) (a : Int) : Array Value := #[.string p, .string q, .string s, .int .i64 a]
def oneB (s : ByteArray) (a : Int) : Bool := if s.size = 0 then a == 0 else ((s.size : Int) == 32) && decide (1 ≤ a) && decide (a ≤ 999)
def bndB (p q s : ByteArray) (a : Int) : Bool := keysB [p, q] && oneB s a
theorem empty_of {s : ByteArray} (h : s.size = 0) : s = ByteArray.mk #[] := by
  rcases s with ⟨l⟩
  congr 1
  exact Array.eq_empty_of_size_eq_zero h
theorem ne_of {s : ByteArray} (h : ¬ s.size = 0) : s.toList.isEmpty = false := by
  rw [ByteArray.toList_eq]
  rcases s with ⟨⟨l⟩⟩
  cases l with
  | nil => exact absurd rfl h
  | cons _ _ => rfl

set_option maxHeartbeats 2000000 in
theorem oneOk_k (s : ByteArray) (a : Int) (w : World) :
    Calls Tryd.prog 81 #[.string s, .int .i64 a] w fun e w' => e = .returned (.bool (oneB s a)) ∧ w = w' := by
  by_cases h : s.size = 0
  · have HV : Hid (oneB s a = (a == 0)) := if_pos h
    rw [HV.out]
    clear HV
    have he := empty_of h
    subst he
    clear h
    go_enter Tryd.func81, Tryd.ntmps81
    go_wp2
    go_ret
    exact ⟨rfl, rfl⟩
  have HV : Hid (oneB s a = (((s.size : Int) == 32) && decide (1 ≤ a) && decide (a ≤ 999))) := if_neg h
  have hne := ne_of h
  rw [HV.out]
  clear h HV
  cases hk : ((s.size : Int) == 32) with
  | false =>
    have HK := Lib.hid hk
    clear hk
    go_enter Tryd.func81, Tryd.ntmps81
    go_wp2_with fail
    refine (isKey_k s _ false HK.out).mono ?_
    rintro e w' ⟨rfl, rfl⟩
    go_wp2
    go_ret
    exact ⟨rfl, rfl⟩
  | true =>
    have HK := Lib.hid hk
    clear hk
    by_cases h1 : 1 ≤ a
    · have d1 := decide_eq_true h1
      go_enter Tryd.func81, Tryd.ntmps81
      go_wp2_with fail
      refine (isKey_k s _ true HK.out).mono ?_
      rintro e w' ⟨rfl, rfl⟩
      go_wp2
      go_ret
      exact ⟨by rw [decide_eq_true h1]; rfl, rfl⟩
    · have d1 := decide_eq_false h1
      go_enter Tryd.func81, Tryd.ntmps81
      go_wp2_with fail
      refine (isKey_k s _ true HK.out).mono ?_
      rintro e w' ⟨rfl, rfl⟩
      go_wp2
      go_ret
      exact ⟨by rw [d1]; rfl, rfl⟩

set_option maxHeartbeats 2000000 in
theorem bundleOk_i (p q s : ByteArray) (a : Int) (w : World) :
    Calls Tryd.prog 28 #[.agg (bundleA p q s a)] w fun e w' => e = .returned (.bool (bndB p q s a)) ∧ Below w.heap.size w w' := by
  have HK := Lib.hid (allKeys_k (w.heap.size + 1) [p, q] ((w.alloc (.cells (bundleA p q s a) 34)).alloc (.cells (strsK [p, q]) 9)) (heap_alloc2_new w _ _) (by simp))
  have hB : Below w.heap.size w ((w.alloc (.cells (bundleA p q s a) 34)).alloc (.cells (strsK [p, q]) 9)) := ((Below.refl _ _).alloc (Nat.le_refl _) _).alloc (by simp) _
  have HV : Hid (bndB p q s a = (keysB [p, q] && oneB s a)) := rfl
  have HO := Lib.hid (fun w => oneOk_k s a w)
  cases hk : keysB [p, q] with
  | true =>
    rw [hk] at HK HV
    clear hk
    go_enter Tryd.func28, Tryd.ntmps28
    go_wp2_with fail
    refine HK.out.mono ?_
    rintro e w' ⟨rfl, rfl⟩
    go_wp2_with fail
    refine (HO.out _).mono ?_
    rintro e w' ⟨rfl, rfl⟩
    go_wp2
    go_ret
    exact ⟨by rw [HV.out]; rfl, hB⟩
  | false =>
    rw [hk] at HK HV
    clear hk
    go_enter Tryd.func28, Tryd.ntmps28
    go_wp2_with fail
    refine HK.out.mono ?_
    rintro e w' ⟨rfl, rfl⟩
    go_wp2
    go_ret
    exact ⟨by rw [HV.out]; rfl, hB⟩

theorem l1In_k (a lo hi : Int) (w : World) : Calls Tryd.prog 92 #[.int .i64 a, .int .i64 lo, .int .i64 hi] w fun e w' => e = .returned (.bool (decide (lo ≤ a) && decide (a ≤ hi))) ∧ w = w' := by
  by_cases h1 : lo ≤ a
  · have d1 := decide_eq_true h1
    go_enter Tryd.func92, Tryd.ntmps92
    go_wp2
    go_ret
    exact ⟨by first | rfl | (rw [d1]; rfl), rfl⟩
  · have d1 := decide_eq_false h1
    go_enter Tryd.func92, Tryd.ntmps92
    go_wp2
    go_ret
    exact ⟨by first | rfl | (rw [d1]; rfl), rfl⟩

set_option maxHeartbeats 4000000 in
theorem bundleOk_s (p q s : ByteArray) (a : Int) (w : World) :
    Calls Tryd.prog 72 #[.agg (bundleA p q s a)] w fun e w' => e = .returned (.bool (bndB p q s a)) ∧ Below w.heap.size w w' := by
  have hB : Below w.heap.size w (w.alloc (.cells (bundleA p q s a) 34)) := (Below.refl _ _).alloc (Nat.le_refl _) _
  have e2 := keysB2 p q
  have HV0 : bndB p q s a = (keysB [p, q] && oneB s a) := rfl
  rw [e2] at HV0
  clear e2
  cases hp : ((p.size : Int) == 32) with
  | false =>
    rw [hp] at HV0
    have HV := Lib.hid HV0
    have HP := Lib.hid hp
    clear hp HV0
    go_enter Tryd.func72, Tryd.ntmps72
    go_wp2_with fail
    refine (l1Key_k p _ false HP.out).mono ?_
    rintro e w' ⟨rfl, rfl⟩
    go_wp2
    go_ret
    exact ⟨by rw [HV.out]; rfl, hB⟩
  | true =>
    cases hq : ((q.size : Int) == 32) with
    | false =>
      rw [hp, hq] at HV0
      have HV := Lib.hid HV0
      have HP := Lib.hid hp
      have HQ := Lib.hid hq
      clear hp hq HV0
      go_enter Tryd.func72, Tryd.ntmps72
      go_wp2_with fail
      refine (l1Key_k p _ true HP.out).mono ?_
      rintro e w' ⟨rfl, rfl⟩
      go_wp2_with fail
      refine (l1Key_k q _ false HQ.out).mono ?_
      rintro e w' ⟨rfl, rfl⟩
      go_wp2
      go_ret
      exact ⟨by rw [HV.out]; rfl, hB⟩
    | true =>
      rw [hp, hq] at HV0
      have HP := Lib.hid hp
      have HQ := Lib.hid hq
      clear hp hq
      by_cases h : s.size = 0
      · rw [show oneB s a = (a == 0) from if_pos h] at HV0
        have HV := Lib.hid HV0
        clear HV0
        have he := empty_of h
        subst he
        clear h
        by_cases hz : a = 0
        · subst hz
          go_enter Tryd.func72, Tryd.ntmps72
          go_wp2_with fail
          refine (l1Key_k p _ true HP.out).mono ?_
          rintro e w' ⟨rfl, rfl⟩
          go_wp2_with fail
          refine (l1Key_k q _ true HQ.out).mono ?_
          rintro e w' ⟨rfl, rfl⟩
          go_wp2
          go_ret
          exact ⟨by rw [HV.out]; rfl, hB⟩
        · have hz' : (a == 0) = false := by simpa using hz
          have HZ := Lib.hid hz'
          go_enter Tryd.func72, Tryd.ntmps72
          go_wp2_with fail
          refine (l1Key_k p _ true HP.out).mono ?_
          rintro e w' ⟨rfl, rfl⟩
          go_wp2_with fail
          refine (l1Key_k q _ true HQ.out).mono ?_
          rintro e w' ⟨rfl, rfl⟩
          go_wp2_with fail
          refine (l1Key_k (ByteArray.mk #[]) _ false (by decide)).mono ?_
          rintro e w' ⟨rfl, rfl⟩
          go_wp2
          go_ret
          exact ⟨by rw [HV.out, HZ.out]; rfl, hB⟩
      · rw [show oneB s a = (((s.size : Int) == 32) && decide (1 ≤ a) && decide (a ≤ 999)) from if_neg h] at HV0
        have hne := ne_of h
        clear h
        cases hs : ((s.size : Int) == 32) with
        | false =>
          rw [hs] at HV0
          have HV := Lib.hid HV0
          have HS := Lib.hid hs
          clear hs HV0
          go_enter Tryd.func72, Tryd.ntmps72
          go_wp2_with fail
          refine (l1Key_k p _ true HP.out).mono ?_
          rintro e w' ⟨rfl, rfl⟩
          go_wp2_with fail
          refine (l1Key_k q _ true HQ.out).mono ?_
          rintro e w' ⟨rfl, rfl⟩
          go_wp2_with fail
          refine (l1Key_k s _ false HS.out).mono ?_
          rintro e w' ⟨rfl, rfl⟩
          go_wp2
          go_ret
          exact ⟨by rw [HV.out]; rfl, hB⟩
        | true =>
          rw [hs] at HV0
          have HV := Lib.hid HV0
          have HS := Lib.hid hs
          clear hs HV0
          go_enter Tryd.func72, Tryd.ntmps72
          go_wp2_with fail
          refine (l1Key_k p _ true HP.out).mono ?_
          rintro e w' ⟨rfl, rfl⟩
          go_wp2_with fail
          refine (l1Key_k q _ true HQ.out).mono ?_
          rintro e w' ⟨rfl, rfl⟩
          go_wp2_with fail
          refine (l1Key_k s _ true HS.out).mono ?_
          rintro e w' ⟨rfl, rfl⟩
          go_wp2_with fail
          refine (l1In_k a 1 999 _).mono ?_
          rintro e w' ⟨rfl, rfl⟩
          go_wp2
          go_ret
          exact ⟨by rw [HV.out]; rfl, hB⟩

end Go.Proofs.YtfbcmckepdjdkaaDoor

/- SessionOk of the program. -/
import Derived.Test.YtkglgficmealnaaSsC
namespace Go.Proofs.Ytkglgficmealnaa
open Go.RowKit Go.My Go.Lib
set_option linter.unusedVariables false
set_option maxRecDepth 100000

/-- What ends a session's check. -/
def tailB (t k q : ByteArray) : Bool := (decide (t.size = 0) == decide (k.size = 0)) && (decide (q.size = 0) || !decide (t.size = 0))
def sesB (r o p t k : ByteArray) (n v : Int) (q : ByteArray) (m : Int) (K : List SkipT) : Bool :=
  keysB [r, o, p] && noneOr t && noneOr k && noneOr q && cntB n && cntB v && cntB m && skipsB K && tailB t k q

set_option maxHeartbeats 8000000 in
theorem sesOk_i (r o p t k : ByteArray) (n v : Int) (q : ByteArray) (m : Int) (u : Value) (K : List SkipT) (w : World) (h : SkipsAt 0 u K w) (hm : K.length ≤ 1048576) :
    Calls Try.prog 11 #[.agg (sesU r o p t k n v q m u)] w fun e w' => e = .returned (.bool (sesB r o p t k n v q m K)) ∧ Below w.heap.size w w' := by
  have hb0 : Below w.heap.size w ((w.alloc (.cells (sesU r o p t k n v q m u) 29)).alloc (.cells (strsK [r, o, p]) 9)) := ((Below.refl _ _).alloc (Nat.le_refl _) _).alloc (by simp) _
  have hsz : (w.alloc (.cells (sesU r o p t k n v q m u) 29)).heap.size = w.heap.size + 1 := by simp
  have hbx : ((w.alloc (.cells (sesU r o p t k n v q m u) 29)).alloc (.cells (strsK [r, o, p]) 9)).heap[w.heap.size]? = some (.cells (sesU r o p t k n v q m u) 29 (0, 0)) := by
    rw [Below.heap_alloc _ _ _ (by rw [hsz]; omega)]
    exact heap_alloc_new w _
  have CK := Lib.hid (allKeys_k (w.heap.size + 1) [r, o, p] _ (by rw [← hsz]; exact heap_alloc_new _ _) (by simp))
  have HB0 := Lib.hid hb0
  have C8 := Lib.hid (skipsOk_i u K _ (h.below hb0) hm)
  obtain ⟨A, eA⟩ : ∃ A, keysB [r, o, p] = A := ⟨_, rfl⟩
  rw [eA] at CK
  have HV : Hid (sesB r o p t k n v q m K = (A && noneOr t && noneOr k && noneOr q && cntB n && cntB v && cntB m && skipsB K && tailB t k q)) := by show _ = _; rw [← eA]; rfl
  obtain ⟨pu, cu, rfl, _, _, _⟩ := h.open
  clear eA h hb0 hsz
  obtain ⟨⟨c0, c1, c2, c3, c4, c5, c6, c7, c8, c9⟩, _⟩ := ses_cells hbx
  go_enter Try.func11, Try.ntmps11
  go_wp2_with fail
  refine CK.out.mono ?_
  rintro e w1 ⟨rfl, rfl⟩
  cases A with
  | false =>
    go_wp2
    go_ret
    exact ⟨by rw [HV.out]; simp, HB0.out⟩
  | true =>
  go_wp2_with fail
  refine (keyOrNone_b t _).mono ?_
  rintro e w2 ⟨rfl, rfl⟩
  cases n1 : noneOr t with
  | false =>
    go_wp2
    go_ret
    exact ⟨by rw [HV.out, n1]; simp, HB0.out⟩
  | true =>
  go_wp2_with fail
  refine (keyOrNone_b k _).mono ?_
  rintro e w2 ⟨rfl, rfl⟩
  cases n2 : noneOr k with
  | false =>
    go_wp2
    go_ret
    exact ⟨by rw [HV.out, n2]; simp, HB0.out⟩
  | true =>
  go_wp2_with fail
  refine (keyOrNone_b q _).mono ?_
  rintro e w2 ⟨rfl, rfl⟩
  cases n3 : noneOr q with
  | false =>
    go_wp2
    go_ret
    exact ⟨by rw [HV.out, n3]; simp, HB0.out⟩
  | true =>
  go_wp2_with fail
  refine (countOk_b n _).mono ?_
  rintro e w2 ⟨rfl, rfl⟩
  cases n4 : cntB n with
  | false =>
    go_wp2
    go_ret
    exact ⟨by rw [HV.out, n4]; simp, HB0.out⟩
  | true =>
  go_wp2_with fail
  refine (countOk_b v _).mono ?_
  rintro e w2 ⟨rfl, rfl⟩
  cases n5 : cntB v with
  | false =>
    go_wp2
    go_ret
    exact ⟨by rw [HV.out, n5]; simp, HB0.out⟩
  | true =>
  go_wp2_with fail
  refine (countOk_b m _).mono ?_
  rintro e w2 ⟨rfl, rfl⟩
  cases n6 : cntB m with
  | false =>
    go_wp2
    go_ret
    exact ⟨by rw [HV.out, n6]; simp, HB0.out⟩
  | true =>
  go_wp2_with fail
  refine C8.out.mono ?_
  rintro e w3 ⟨rfl, hb⟩
  have HB := Lib.hid (HB0.out.trans (hb.mono HB0.out.size))
  have hbx3 := (hb.block _ (Array.getElem?_eq_some_iff.1 hbx).1).trans hbx
  clear hb hbx c0 c1 c2 c3 c4 c5 c6 c7 c8 c9
  cases n7 : skipsB K with
  | false =>
    go_wp2
    go_ret
    exact ⟨by rw [HV.out, n7]; simp, HB.out⟩
  | true =>
  have HV2 : Hid (sesB r o p t k n v q m K = tailB t k q) := by show _ = _; rw [HV.out, n1, n2, n3, n4, n5, n6, n7]; rfl
  clear HV n1 n2 n3 n4 n5 n6 n7 C8 CK
  obtain ⟨⟨c0, c1, c2, c3, c4, c5, c6, c7, c8, c9⟩, _⟩ := ses_cells hbx3
  clear hbx3
  by_cases ht : t.size = 0
  · obtain rfl := emptyS ht
    by_cases hk : k.size = 0
    · obtain rfl := emptyS hk
      by_cases hq : q.size = 0
      · obtain rfl := emptyS hq
        go_wp2
        go_ret
        exact ⟨by rw [HV2.out]; simp_all [tailB], HB.out⟩
      · have eq := fullS hq
        go_wp2
        go_ret
        exact ⟨by rw [HV2.out]; simp_all [tailB], HB.out⟩
    · have ek := fullS hk
      by_cases hq : q.size = 0
      · obtain rfl := emptyS hq
        go_wp2
        go_ret
        exact ⟨by rw [HV2.out]; simp_all [tailB], HB.out⟩
      · have eq := fullS hq
        go_wp2
        go_ret
        exact ⟨by rw [HV2.out]; simp_all [tailB], HB.out⟩
  · have et := fullS ht
    by_cases hk : k.size = 0
    · obtain rfl := emptyS hk
      by_cases hq : q.size = 0
      · obtain rfl := emptyS hq
        go_wp2
        go_ret
        exact ⟨by rw [HV2.out]; simp_all [tailB], HB.out⟩
      · have eq := fullS hq
        go_wp2
        go_ret
        exact ⟨by rw [HV2.out]; simp_all [tailB], HB.out⟩
    · have ek := fullS hk
      by_cases hq : q.size = 0
      · obtain rfl := emptyS hq
        go_wp2
        go_ret
        exact ⟨by rw [HV2.out]; simp_all [tailB], HB.out⟩
      · have eq := fullS hq
        go_wp2
        go_ret
        exact ⟨by rw [HV2.out]; simp_all [tailB], HB.out⟩

end Go.Proofs.Ytkglgficmealnaa

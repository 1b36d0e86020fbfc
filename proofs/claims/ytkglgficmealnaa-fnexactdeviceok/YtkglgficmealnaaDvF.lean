/- Devices' checks of the program: pairs, users, one held session. -/
import Derived.Test.YtkglgficmealnaaDvE
import Derived.Test.YtkglgficmealnaaSsQ
import Derived.Test.YtkglgficmealnaaRdHex
import Derived.Test.YtkglgficmealnaaWire4
namespace Go.Proofs.Ytkglgficmealnaa
open Go.RowKit Go.My Go.Lib
set_option linter.unusedVariables false
set_option maxRecDepth 100000

open Classical in
/-- The text of a held session's name. -/
noncomputable def idB (s : ByteArray) : Bool := decide (s.size = 16 ∧ digits s s.size)
theorem idB_cases (s : ByteArray) : (∃ l, hexRes s = .tuple #[.string (str l), .bool false] ∧ idB s = false) ∨ (∃ l : List UInt8, hexRes s = .tuple #[.string (str l), .bool true] ∧ l.length = s.size / 2 ∧ s.size % 2 = 0 ∧ idB s = decide (s.size = 16)) := by
  classical
  by_cases h1 : s.size % 2 = 0
  · by_cases h2 : digits s s.size
    · refine Or.inr ⟨unhexL s, hexRes_yes h1 h2, by simp [unhexL], h1, ?_⟩
      unfold idB
      exact decide_eq_decide.2 ⟨fun c => c.1, fun c => ⟨c, h2⟩⟩
    · refine Or.inl ⟨[], if_neg (fun c => h2 c.2), ?_⟩
      unfold idB
      exact decide_eq_false (fun c => h2 c.2)
  · refine Or.inl ⟨[], hexRes_odd h1, ?_⟩
    unfold idB
    exact decide_eq_false (fun c => h1 (by omega))
noncomputable def heldB (a : HeldT) : Bool := idB a.id && decide (a.ad.size = 64) && sesB a.r a.o a.p a.t a.k a.n a.v a.q a.m a.K && decide (HasP a.has a.pa a.pb a.one)
def heldW (a : HeldT) : Prop := a.id.size ≤ 1048576 ∧ a.K.length ≤ 1048576 ∧ a.pa.size ≤ 9223372036854775807 ∧ a.pb.size ≤ 9223372036854775807
def pairB (k p : ByteArray) : Bool := k32 k && k32 p
def userB (u : Int) : Bool := decide (u = 0) || decide (u = 1)

theorem pairOk_i (k p : ByteArray) (w : World) : Calls Try.prog 51 #[.agg #[.string k, .string p]] w fun e w' => e = .returned (.bool (pairB k p)) ∧ Below w.heap.size w w' := by
  have hb0 : Below w.heap.size w ((w.alloc (.cells #[.string k, .string p] 43)).alloc (.cells (strsK [k, p]) 9)) := ((Below.refl _ _).alloc (Nat.le_refl _) _).alloc (by simp) _
  have hsz : (w.alloc (.cells #[.string k, .string p] 43)).heap.size = w.heap.size + 1 := by simp
  have CK := Lib.hid (allKeys_k (w.heap.size + 1) [k, p] _ (by rw [← hsz]; exact heap_alloc_new _ _) (by simp))
  have HV := Lib.hid (show keysB [k, p] = pairB k p from by simp [keysB, pairB, k32])
  clear hsz
  go_enter Try.func51, Try.ntmps51
  go_wp2_with fail
  refine CK.out.mono ?_
  rintro e w1 ⟨rfl, rfl⟩
  go_wp2
  go_ret
  exact ⟨by rw [← HV.out]; rfl, hb0⟩
theorem userOk_i (u : Int) (w : World) : Calls Try.prog 50 #[.int .i64 u] w fun e w' => e = .returned (.bool (userB u)) ∧ w = w' := by
  unfold userB
  by_cases h : u = 0
  · subst h
    go_enter Try.func50, Try.ntmps50
    go_wp2
    go_ret
    exact ⟨by simp, rfl⟩
  · go_enter Try.func50, Try.ntmps50
    go_wp2
    go_ret
    exact ⟨by show Ending.returned (.bool (u == 0 || u == 1)) = _; rw [show (u == 0) = decide (u = 0) from rfl]; rfl, rfl⟩

set_option maxHeartbeats 8000000 in
theorem heldOk_i (a : HeldT) (w : World) (h : heldQ 0 a w) (hm : heldW a) : Calls Try.prog 85 #[.agg (heldC a).toArray] w fun e w' => e = .returned (.bool (heldB a)) ∧ Below w.heap.size w w' := by
  obtain ⟨id, ad, r, o, p, t, k, n, v, q, m, u, K, has, pa, pb, one⟩ := a
  have h : SkipsAt 0 u K w := h
  obtain ⟨hm1, hm2, hm3, hm4⟩ := hm
  have hm1 : id.size ≤ 1048576 := hm1
  have hm2 : K.length ≤ 1048576 := hm2
  show Calls _ _ #[.agg #[.string id, .string ad, .string r, .string o, .string p, .string t, .string k, .int .i64 n, .int .i64 v, .string q, .int .i64 m, u, .bool has, .string pa, .string pb, .int .i64 one]] _ _
  have hb0 : Below w.heap.size w (w.alloc (.cells #[.string id, .string ad, .string r, .string o, .string p, .string t, .string k, .int .i64 n, .int .i64 v, .string q, .int .i64 m, u, .bool has, .string pa, .string pb, .int .i64 one] 94)) := (Below.refl _ _).alloc (Nat.le_refl _) _
  have hbx : (w.alloc (.cells #[.string id, .string ad, .string r, .string o, .string p, .string t, .string k, .int .i64 n, .int .i64 v, .string q, .int .i64 m, u, .bool has, .string pa, .string pb, .int .i64 one] 94)).heap[w.heap.size]? = some (.cells #[.string id, .string ad, .string r, .string o, .string p, .string t, .string k, .int .i64 n, .int .i64 v, .string q, .int .i64 m, u, .bool has, .string pa, .string pb, .int .i64 one] 94 (0, 0)) := heap_alloc_new w _
  have CH := Lib.hid (readHex_impl id (w.alloc (.cells #[.string id, .string ad, .string r, .string o, .string p, .string t, .string k, .int .i64 n, .int .i64 v, .string q, .int .i64 m, u, .bool has, .string pa, .string pb, .int .i64 one] 94)) hm1)
  have HK := Lib.hid (h.below hb0)
  have HX := Lib.hid (And.intro hb0 hbx)
  have c0 : _ = some (Value.string id) := cell_of_row _ w.heap.size 0 _ _ _ hbx
  obtain ⟨pu, cu, rfl, _, _, _⟩ := h.open
  have HV := Lib.hid (show heldB ⟨id, ad, r, o, p, t, k, n, v, q, m, .slice pu K.length cu, K, has, pa, pb, one⟩ = (idB id && decide (ad.size = 64) && sesB r o p t k n v q m K && decide (HasP has pa pb one)) from rfl)
  have HB := Lib.hid (fun (b : Bool) (hb : decide (HasP has pa pb one) = b) (w : World) => hasOk_i has pa pb one w b hb hm3 hm4)
  have HI := Lib.hid (idB_cases id)
  clear hb0 hbx h hm1 hm3 hm4
  go_enter Try.func85, Try.ntmps85
  go_wp2_with fail
  refine CH.out.mono ?_
  rintro e w1 ⟨rfl, hb⟩
  have hbx := (hb.block _ (Array.getElem?_eq_some_iff.1 HX.out.2).1).trans HX.out.2
  have HB0 := Lib.hid (HX.out.1.trans (hb.mono HX.out.1.size))
  have CS := Lib.hid (sesOk_i r o p t k n v q m _ K w1 (HK.out.below hb) hm2)
  clear c0 HX hb HK CH
  have c0 : w1.cell? ⟨w.heap.size, 0, none⟩ = some (.string id) := cell_of_row w1 w.heap.size 0 _ _ (0, 0) hbx
  have c1 : w1.cell? ⟨w.heap.size, 1, none⟩ = some (.string ad) := cell_of_row w1 w.heap.size 1 _ _ (0, 0) hbx
  have c2 : w1.cell? ⟨w.heap.size, 2, none⟩ = some (.string r) := cell_of_row w1 w.heap.size 2 _ _ (0, 0) hbx
  have c3 : w1.cell? ⟨w.heap.size, 3, none⟩ = some (.string o) := cell_of_row w1 w.heap.size 3 _ _ (0, 0) hbx
  have c4 : w1.cell? ⟨w.heap.size, 4, none⟩ = some (.string p) := cell_of_row w1 w.heap.size 4 _ _ (0, 0) hbx
  have c5 : w1.cell? ⟨w.heap.size, 5, none⟩ = some (.string t) := cell_of_row w1 w.heap.size 5 _ _ (0, 0) hbx
  have c6 : w1.cell? ⟨w.heap.size, 6, none⟩ = some (.string k) := cell_of_row w1 w.heap.size 6 _ _ (0, 0) hbx
  have c7 : w1.cell? ⟨w.heap.size, 7, none⟩ = some (.int .i64 n) := cell_of_row w1 w.heap.size 7 _ _ (0, 0) hbx
  have c8 : w1.cell? ⟨w.heap.size, 8, none⟩ = some (.int .i64 v) := cell_of_row w1 w.heap.size 8 _ _ (0, 0) hbx
  have c9 : w1.cell? ⟨w.heap.size, 9, none⟩ = some (.string q) := cell_of_row w1 w.heap.size 9 _ _ (0, 0) hbx
  have c10 : w1.cell? ⟨w.heap.size, 10, none⟩ = some (.int .i64 m) := cell_of_row w1 w.heap.size 10 _ _ (0, 0) hbx
  have c11 : w1.cell? ⟨w.heap.size, 11, none⟩ = some (.slice pu K.length cu) := cell_of_row w1 w.heap.size 11 _ _ (0, 0) hbx
  have c12 : w1.cell? ⟨w.heap.size, 12, none⟩ = some (.bool has) := cell_of_row w1 w.heap.size 12 _ _ (0, 0) hbx
  have c13 : w1.cell? ⟨w.heap.size, 13, none⟩ = some (.string pa) := cell_of_row w1 w.heap.size 13 _ _ (0, 0) hbx
  have c14 : w1.cell? ⟨w.heap.size, 14, none⟩ = some (.string pb) := cell_of_row w1 w.heap.size 14 _ _ (0, 0) hbx
  have c15 : w1.cell? ⟨w.heap.size, 15, none⟩ = some (.int .i64 one) := cell_of_row w1 w.heap.size 15 _ _ (0, 0) hbx
  have HX := Lib.hid hbx
  clear hbx
  rcases HI.out with ⟨l, e1, e2⟩ | ⟨l, e1, _, _, e2⟩
  · rw [e1]
    clear e1 HI
    go_wp2
    go_ret
    exact ⟨by rw [HV.out, e2]; rfl, HB0.out⟩
  rw [e1]
  clear e1 HI
  by_cases h1 : id.size = 16
  case neg =>
    go_wp2
    go_ret
    exact ⟨by rw [HV.out, e2, decide_eq_false h1]; rfl, HB0.out⟩
  by_cases h2 : ad.size = 64
  case neg =>
    go_wp2
    go_ret
    exact ⟨by rw [HV.out, decide_eq_false h2]; simp, HB0.out⟩
  have HW := Lib.hid (show heldB ⟨id, ad, r, o, p, t, k, n, v, q, m, .slice pu K.length cu, K, has, pa, pb, one⟩ = (sesB r o p t k n v q m K && decide (HasP has pa pb one)) from by rw [HV.out, e2, decide_eq_true h1, decide_eq_true h2]; rfl)
  clear e2 HV
  go_wp2_with fail
  refine CS.out.mono ?_
  rintro e w2 ⟨rfl, hb⟩
  have hbx := (hb.block _ (Array.getElem?_eq_some_iff.1 HX.out).1).trans HX.out
  have HB1 := Lib.hid (HB0.out.trans (hb.mono HB0.out.size))
  clear c0 c1 c2 c3 c4 c5 c6 c7 c8 c9 c10 c11 c12 c13 c14 c15 HX hb CS h1 h2 HB0
  have c12 : w2.cell? ⟨w.heap.size, 12, none⟩ = some (.bool has) := cell_of_row w2 w.heap.size 12 _ _ (0, 0) hbx
  have c13 : w2.cell? ⟨w.heap.size, 13, none⟩ = some (.string pa) := cell_of_row w2 w.heap.size 13 _ _ (0, 0) hbx
  have c14 : w2.cell? ⟨w.heap.size, 14, none⟩ = some (.string pb) := cell_of_row w2 w.heap.size 14 _ _ (0, 0) hbx
  have c15 : w2.cell? ⟨w.heap.size, 15, none⟩ = some (.int .i64 one) := cell_of_row w2 w.heap.size 15 _ _ (0, 0) hbx
  clear hbx
  cases n1 : sesB r o p t k n v q m K with
  | false =>
    go_wp2
    go_ret
    exact ⟨by rw [HW.out, n1]; rfl, HB1.out⟩
  | true =>
  have HZ := Lib.hid (show heldB ⟨id, ad, r, o, p, t, k, n, v, q, m, .slice pu K.length cu, K, has, pa, pb, one⟩ = decide (HasP has pa pb one) from by rw [HW.out, n1]; rfl)
  clear n1 HW
  go_wp2_with fail
  refine (HB.out _ rfl _).mono ?_
  rintro e w3 ⟨rfl, hb⟩
  have HB2 := Lib.hid (HB1.out.trans (hb.mono HB1.out.size))
  clear hb HB1 HB c12 c13 c14 c15
  rw [← HZ.out]
  go_wp2
  go_ret
  exact ⟨rfl, HB2.out⟩
end Go.Proofs.Ytkglgficmealnaa

/- The exact laws' helpers for sessions that are held: sizes, comparison. -/
import Derived.Test.YtkglgficmealnaaDvH
namespace Go.Proofs.Ytkglgficmealnaa
open Go.RowKit Go.My Go.Lib
set_option linter.unusedVariables false
set_option maxRecDepth 100000

set_option maxHeartbeats 4000000 in
theorem szHeld_c (a : HeldT) (left : Nat) (w : World) (h : heldA a w) (hl : left ≤ 1048576) : Calls Try.prog 90 #[.agg (heldC a).toArray, .int .i64 left] w fun e w' => ((∃ r : Nat, e = .returned (.int .i64 r) ∧ r ≤ left ∧ heldM (heldG a)) ∨ e = .returned (.int .i64 (-1))) ∧ Below w.heap.size w w' := by
  obtain ⟨id, ad, r, o, p, t, k, n, v, q, m, u, K, has, pa, pb, one⟩ := a
  show Calls _ _ #[.agg #[.string id, .string ad, .string r, .string o, .string p, .string t, .string k, .int .i64 n, .int .i64 v, .string q, .int .i64 m, u, .bool has, .string pa, .string pb, .int .i64 one], _] _ _
  have hb0 := below_box w (.cells #[.string id, .string ad, .string r, .string o, .string p, .string t, .string k, .int .i64 n, .int .i64 v, .string q, .int .i64 m, u, .bool has, .string pa, .string pb, .int .i64 one] 141)
  have hx0 := heap_alloc_new w (.cells #[.string id, .string ad, .string r, .string o, .string p, .string t, .string k, .int .i64 n, .int .i64 v, .string q, .int .i64 m, u, .bool has, .string pa, .string pb, .int .i64 one] 141)
  have hlI : (left : Int) ≤ 1048576 := by omega
  have hmi : (id.size : Int) ≤ 9223372036854775807 := by have := (show id.size ≤ maxLen from h.2.1); unfold maxLen at this; omega
  have hma : (ad.size : Int) ≤ 9223372036854775807 := by have := (show ad.size ≤ maxLen from h.2.2.1); unfold maxLen at this; omega
  have HX := Lib.hid (And.intro hb0 hx0)
  have H := Lib.hid h
  have RNG := Lib.hid (range10 hx0)
  obtain ⟨pu, cu, eu, _⟩ := h.1.sk
  have eu : u = .slice pu K.length cu := eu
  subst eu
  have a0 : (w.alloc (.cells #[.string id, .string ad, .string r, .string o, .string p, .string t, .string k, .int .i64 n, .int .i64 v, .string q, .int .i64 m, .slice pu K.length cu, .bool has, .string pa, .string pb, .int .i64 one] 141)).cell? ⟨w.heap.size, 0, none⟩ = some (.string id) := cell_of_row _ w.heap.size 0 _ _ _ HX.out.2
  have a1 : (w.alloc (.cells #[.string id, .string ad, .string r, .string o, .string p, .string t, .string k, .int .i64 n, .int .i64 v, .string q, .int .i64 m, .slice pu K.length cu, .bool has, .string pa, .string pb, .int .i64 one] 141)).cell? ⟨w.heap.size, 1, none⟩ = some (.string ad) := cell_of_row _ w.heap.size 1 _ _ _ HX.out.2
  clear h hb0 hx0
  by_cases h1 : id.size ≤ left
  case neg =>
    have q1 : (left : Int) - (id.size : Int) < 0 := by omega
    clear h1
    go_enter Try.func90, Try.ntmps90
    go_wp2
    go_ret
    exact ⟨.inr rfl, HX.out.1⟩
  by_cases h2 : id.size + ad.size ≤ left
  case neg =>
    have q1 : ¬ (left : Int) - (id.size : Int) < 0 := by omega
    have q2 : (left : Int) - (id.size : Int) - (ad.size : Int) < 0 := by omega
    clear h1 h2
    go_enter Try.func90, Try.ntmps90
    go_wp2
    go_ret
    exact ⟨.inr rfl, HX.out.1⟩
  have q1 : ¬ (left : Int) - (id.size : Int) < 0 := by omega
  have q2 : ¬ (left : Int) - (id.size : Int) - (ad.size : Int) < 0 := by omega
  have HE : Hid ((left : Int) - (id.size : Int) - (ad.size : Int) = ((left - (id.size + ad.size) : Nat) : Int)) := by show _ = _; omega
  have HID : Hid (id.size ≤ 1048576) := by show _ ≤ _; omega
  have C1 := Lib.hid (szSession_any r o p t k n v q m (.slice pu K.length cu) K (left - (id.size + ad.size)) _ (H.out.1.below HX.out.1) (by omega))
  have HLE : Hid (left - (id.size + ad.size) ≤ left) := Nat.sub_le _ _
  clear h1 h2
  go_enter Try.func90, Try.ntmps90
  go_wp2_with (first | (with_reducible refine wpList_load_mid (op := ⟨some 20, _, _, _, _, _⟩) rfl 24 _ rfl w.heap.size 2 rfl (sesU r o p t k n v q m (.slice pu K.length cu)).toList _ RNG.out Try.underlying24 rfl (sesI_l r o p t k n v q m (.slice pu K.length cu)) ?_) | fail)
  rw [HE.out]
  refine C1.out.mono ?_
  rintro e w1 ⟨hres, hb⟩
  have HX := Lib.hid (And.intro (HX.out.1.trans (hb.mono HX.out.1.size)) ((hb.block _ (Array.getElem?_eq_some_iff.1 HX.out.2).1).trans HX.out.2))
  clear hb C1 a0 a1 RNG
  rcases hres with ⟨s, rfl, hK, hs⟩ | rfl
  case inr =>
    go_wp2
    go_ret
    exact ⟨.inr rfl, HX.out.1⟩
  have q3 : ¬ (s : Int) < 0 := by omega
  have HM : Hid (K.length ≤ 1048576 ∧ s ≤ left) := by have := HLE.out; show _ ∧ _; omega
  have hs20 : s ≤ 1048576 := by have := HM.out.2; omega
  have RNG := Lib.hid (range3 HX.out.2)
  clear hK hs
  go_wp2_with (first | (with_reducible refine wpList_load_mid (op := ⟨some 26, _, _, _, _, _⟩) rfl 139 _ rfl w.heap.size 13 rfl [.string pa, .string pb, .int .i64 one] _ RNG.out Try.underlying139 rfl (iniL pa pb one) ?_) | fail)
  refine (szInit_any pa pb one s _ hs20 H.out.2.2.2.1 H.out.2.2.2.2).mono ?_
  rintro e w2 ⟨hres, hb⟩
  have HB := Lib.hid (HX.out.1.trans (hb.mono HX.out.1.size))
  clear hb RNG
  rcases hres with ⟨r2, rfl, hr2⟩ | rfl
  · have q4 : ¬ (r2 : Int) < 0 := by omega
    have HR : Hid (r2 ≤ left) := by have := HM.out.2; show _ ≤ _; omega
    clear hr2
    go_wp2
    go_ret
    exact ⟨.inl ⟨r2, rfl, HR.out, HM.out.1, HID.out⟩, HB.out⟩
  · go_wp2
    go_ret
    exact ⟨.inr rfl, HB.out⟩

set_option maxHeartbeats 4000000 in
theorem eqHeld_c (a b : HeldT) (w : World) (ha : heldQ 0 a w) (hb : heldQ 0 b w) (hg : heldG a = heldG b) (hm : heldM (heldG a)) : Calls Try.prog 97 #[.agg (heldC a).toArray, .agg (heldC b).toArray] w fun e w' => e = .returned (.bool true) ∧ Below w.heap.size w w' := by
  obtain ⟨pp, nn, cc, eu⟩ := ha.sl
  obtain ⟨p2, n2, c2, eu2⟩ := hb.sl
  obtain ⟨id, ad, r, o, p, t, k, n, v, q, m, u, K, has, pa, pb, one⟩ := a
  obtain ⟨id', ad', r', o', p', t', k', n', v', q', m', u2, K', has', pa', pb', one'⟩ := b
  have eu : u = .slice pp nn cc := eu
  have eu2 : u2 = .slice p2 n2 c2 := eu2
  subst eu eu2
  unfold heldG at hg
  injection hg with e1 e2 e3 e4 e5 e6 e7 e8 e9 e10 e11 _ e13 e14 e15 e16 e17
  simp only at e1 e2 e3 e4 e5 e6 e7 e8 e9 e10 e11 e13 e14 e15 e16 e17
  subst e1 e2 e3 e4 e5 e6 e7 e8 e9 e10 e11 e13 e14 e15 e16 e17
  show Calls _ _ #[.agg #[.string id, .string ad, .string r, .string o, .string p, .string t, .string k, .int .i64 n, .int .i64 v, .string q, .int .i64 m, .slice pp nn cc, .bool has, .string pa, .string pb, .int .i64 one], .agg #[.string id, .string ad, .string r, .string o, .string p, .string t, .string k, .int .i64 n, .int .i64 v, .string q, .int .i64 m, .slice p2 n2 c2, .bool has, .string pa, .string pb, .int .i64 one]] _ _
  obtain ⟨hB0, hx0, hy0⟩ := boxes2 w (.cells #[.string id, .string ad, .string r, .string o, .string p, .string t, .string k, .int .i64 n, .int .i64 v, .string q, .int .i64 m, .slice pp nn cc, .bool has, .string pa, .string pb, .int .i64 one] 94) (.cells #[.string id, .string ad, .string r, .string o, .string p, .string t, .string k, .int .i64 n, .int .i64 v, .string q, .int .i64 m, .slice p2 n2 c2, .bool has, .string pa, .string pb, .int .i64 one] 94) _ (Below.refl _ _)
  have C := Lib.hid (eqSession_same r o p t k n v q m (.slice pp nn cc) (.slice p2 n2 c2) K _ (RowL.below ha hB0) (RowL.below hb hB0) hm.1)
  have R1 := Lib.hid (range10 hx0)
  have R2 := Lib.hid (range10 hy0)
  have HX := Lib.hid (And.intro hB0 (And.intro hx0 hy0))
  have qi : (id.toList != id.toList) = false := by simp
  have qa : (ad.toList != ad.toList) = false := by simp
  have qh : (has != has) = false := by simp
  have a0 : _ = some (Value.string id) := cell_of_row _ w.heap.size 0 _ _ _ hx0
  have a1 : _ = some (Value.string ad) := cell_of_row _ w.heap.size 1 _ _ _ hx0
  have b0 : _ = some (Value.string id) := cell_of_row _ (w.heap.size + 1) 0 _ _ _ hy0
  have b1 : _ = some (Value.string ad) := cell_of_row _ (w.heap.size + 1) 1 _ _ _ hy0
  clear ha hb hm hB0 hx0 hy0
  go_enter Try.func97, Try.ntmps97
  go_wp2_with (first | (with_reducible refine wpList_load_mid (op := ⟨some 16, _, _, _, _, _⟩) rfl 29 _ rfl w.heap.size 2 rfl (sesU r o p t k n v q m (.slice pp nn cc)).toList _ R1.out Try.underlying29 rfl (sesI_i r o p t k n v q m (.slice pp nn cc)) ?_) | (with_reducible refine wpList_load_mid (op := ⟨some 18, _, _, _, _, _⟩) rfl 29 _ rfl (w.heap.size + 1) 2 rfl (sesU r o p t k n v q m (.slice p2 n2 c2)).toList _ R2.out Try.underlying29 rfl (sesI_i r o p t k n v q m (.slice p2 n2 c2)) ?_) | fail)
  refine C.out.mono ?_
  rintro e w1 ⟨rfl, hb⟩
  have HX := Lib.hid (And.intro (HX.out.1.trans (hb.mono HX.out.1.size)) (And.intro ((hb.block _ (Array.getElem?_eq_some_iff.1 HX.out.2.1).1).trans HX.out.2.1) ((hb.block _ (Array.getElem?_eq_some_iff.1 HX.out.2.2).1).trans HX.out.2.2)))
  clear hb C R1 R2 a0 a1 b0 b1
  have R1 := Lib.hid (range3 HX.out.2.1)
  have R2 := Lib.hid (range3 HX.out.2.2)
  have a12 : _ = some (Value.bool has) := cell_of_row _ w.heap.size 12 _ _ _ HX.out.2.1
  have b12 : _ = some (Value.bool has) := cell_of_row _ (w.heap.size + 1) 12 _ _ _ HX.out.2.2
  go_wp2_with (first | (with_reducible refine wpList_load_mid (op := ⟨some 27, _, _, _, _, _⟩) rfl 92 _ rfl w.heap.size 13 rfl [.string pa, .string pb, .int .i64 one] _ R1.out Try.underlying92 rfl (iniI pa pb one) ?_) | (with_reducible refine wpList_load_mid (op := ⟨some 29, _, _, _, _, _⟩) rfl 92 _ rfl (w.heap.size + 1) 13 rfl [.string pa, .string pb, .int .i64 one] _ R2.out Try.underlying92 rfl (iniI pa pb one) ?_) | fail)
  refine (eqInit_same pa pb one _).mono ?_
  rintro e w2 ⟨rfl, hb⟩
  have HB := Lib.hid (HX.out.1.trans (hb.mono HX.out.1.size))
  clear hb R1 R2 a12 b12
  go_wp2
  go_ret
  exact ⟨rfl, HB.out⟩

end Go.Proofs.Ytkglgficmealnaa

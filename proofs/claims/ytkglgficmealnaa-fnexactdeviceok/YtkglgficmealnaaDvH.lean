/- The exact laws' helpers for sessions that are held. -/
import Derived.Test.YtkglgficmealnaaSsL
import Derived.Test.YtkglgficmealnaaRwInit
import Derived.Test.YtkglgficmealnaaRowN
namespace Go.My
open Go.RowKit
def setA : Array Value → Nat → List Value → Array Value
  | cs, _, [] => cs
  | cs, o, v :: r => setA (cs.setIfInBounds o v) (o + 1) r
theorem heap_setCells (g : Nat) (T : TypeId) : ∀ (vs : List Value) (o : Nat) (cs : Array Value) (w : World), w.heap[g]? = some (.cells cs T (0, 0)) → (w.setCells g o vs).heap[g]? = some (.cells (setA cs o vs) T (0, 0))
  | [], _, _, _, h => h
  | v :: r, o, cs, w, h => heap_setCells g T r (o + 1) _ (w.setCell ⟨g, o, none⟩ v) (heap_setCell_same w g o cs T v h)
theorem set10 (a0 a1 a2 a3 a4 a5 a6 a7 a8 a9 a10 a11 a12 a13 a14 a15 x0 x1 x2 x3 x4 x5 x6 x7 x8 x9 : Value) : setA #[a0, a1, a2, a3, a4, a5, a6, a7, a8, a9, a10, a11, a12, a13, a14, a15] 2 [x0, x1, x2, x3, x4, x5, x6, x7, x8, x9] = #[a0, a1, x0, x1, x2, x3, x4, x5, x6, x7, x8, x9, a12, a13, a14, a15] := by
  simp only [setA, List.setIfInBounds_toArray, List.set_cons_zero, List.set_cons_succ]
theorem set13 (a0 a1 a2 a3 a4 a5 a6 a7 a8 a9 a10 a11 a12 a13 a14 a15 x0 x1 x2 : Value) : setA #[a0, a1, a2, a3, a4, a5, a6, a7, a8, a9, a10, a11, a12, a13, a14, a15] 13 [x0, x1, x2] = #[a0, a1, a2, a3, a4, a5, a6, a7, a8, a9, a10, a11, a12, x0, x1, x2] := by
  simp only [setA, List.setIfInBounds_toArray, List.set_cons_zero, List.set_cons_succ]
theorem heap_setCells_out (g k : Nat) (hk : k ≠ g) : ∀ (vs : List Value) (o : Nat) (w : World), (w.setCells g o vs).heap[k]? = w.heap[k]?
  | [], _, _ => rfl
  | v :: r, o, w => (heap_setCells_out g k hk r (o + 1) (w.setCell ⟨g, o, none⟩ v)).trans (heap_setCell_other w ⟨g, o, none⟩ k v hk)
/-- Some cells of a row, as a range. -/
theorem range_of_row {w : World} {g o : Nat} {cs : Array Value} {T : TypeId} {vs : List Value} (h : w.heap[g]? = some (.cells cs T (0, 0))) (hv : ∀ j v, vs[j]? = some v → cs[o + j]? = some v) : w.rangeAt g o vs := fun j v hj => (cell_of_row w g (o + j) cs T (0, 0) h).trans (hv j v hj)
theorem there_of_row {w : World} {g o n : Nat} {cs : Array Value} {T : TypeId} (h : w.heap[g]? = some (.cells cs T (0, 0))) (hn : o + n ≤ cs.size) : w.there g o n := fun j hj => ⟨by rw [cell_of_row w g (o + j) cs T (0, 0) h, Array.getElem?_eq_getElem (by omega)]; rfl, frozen_of_row w g (o + j) _ T h⟩
end Go.My
namespace Go.Proofs.Ytkglgficmealnaa
open Go.RowKit Go.My Go.Lib
set_option linter.unusedVariables false
set_option maxRecDepth 100000

structure HeldT where
  id : ByteArray
  ad : ByteArray
  r : ByteArray
  o : ByteArray
  p : ByteArray
  t : ByteArray
  k : ByteArray
  n : Int
  v : Int
  q : ByteArray
  m : Int
  u : Value
  K : List SkipT
  has : Bool
  pa : ByteArray
  pb : ByteArray
  one : Int
def heldC (a : HeldT) : List Value := [.string a.id, .string a.ad, .string a.r, .string a.o, .string a.p, .string a.t, .string a.k, .int .i64 a.n, .int .i64 a.v, .string a.q, .int .i64 a.m, a.u, .bool a.has, .string a.pa, .string a.pb, .int .i64 a.one]
theorem heldC_len (a : HeldT) : (heldC a).length = 16 := rfl
def heldZ : HeldT := ⟨ByteArray.empty, ByteArray.empty, ByteArray.empty, ByteArray.empty, ByteArray.empty, ByteArray.empty, ByteArray.empty, 0, 0, ByteArray.empty, 0, .slice none 0 0, [], false, ByteArray.empty, ByteArray.empty, 0⟩
theorem info_Held : (Try.prog.info? 94).map (fun i => (i.zero, i.size, i.bytes)) = some (some (.agg #[.string ByteArray.empty, .string ByteArray.empty, .string ByteArray.empty, .string ByteArray.empty, .string ByteArray.empty, .string ByteArray.empty, .string ByteArray.empty, .int .i64 0, .int .i64 0, .string ByteArray.empty, .int .i64 0, .slice none 0 0, .bool false, .string ByteArray.empty, .string ByteArray.empty, .int .i64 0]), 16, 224) := by kernel_rfl
theorem szHeldI (a : HeldT) : (Try.prog.info? 94).map (·.size) = some (heldC a).toArray.size := by kernel_rfl
theorem szHeldL (a : HeldT) : (Try.prog.info? 141).map (·.size) = some (heldC a).length := by kernel_rfl
def heldA (a : HeldT) (w : World) : Prop := SesArg a.r a.o a.p a.t a.k a.n a.v a.q a.m a.u a.K w ∧ a.id.size ≤ maxLen ∧ a.ad.size ≤ maxLen ∧ a.pa.size ≤ maxLen ∧ a.pb.size ≤ maxLen
def heldQ (B : Nat) (a : HeldT) (w : World) : Prop := SkipsAt B a.u a.K w
def heldG (a : HeldT) : HeldT := { a with u := .slice none 0 0 }
def heldM (a : HeldT) : Prop := a.K.length ≤ 1048576 ∧ a.id.size ≤ 1048576
theorem heldA.below {B : Nat} {a : HeldT} {w w' : World} (h : heldA a w) (hb : Below B w w') (hB : B = w.heap.size := by rfl) : heldA a w' := ⟨h.1.below (by rw [← hB]; exact hb), h.2⟩
theorem heldQ.below {B B' : Nat} {a : HeldT} {w w' : World} (h : heldQ B a w) (hb : Below B' w w') (hB : B' = w.heap.size := by rfl) : heldQ B a w' := RowL.below h (by rw [← hB]; exact hb)
theorem heldQ.mono {B B' : Nat} {a : HeldT} {w : World} (h : heldQ B a w) (hb : B' ≤ B) : heldQ B' a w := RowL.mono h hb
theorem heldQ.kept {B g : Nat} {a : HeldT} {w w' : World} (h : heldQ B a w) (hg : w.grownBy w' (some g)) (hgB : g < B) : heldQ B a w' := RowL.kept h hg (row_ne h hgB)
theorem heldQ.sl {B : Nat} {a : HeldT} {w : World} (h : heldQ B a w) : ∃ p n c, a.u = .slice p n c := by
  obtain ⟨p, c, e, _⟩ := RowL.open h
  exact ⟨p, _, c, e⟩
theorem oneHeldC {B : Nat} {a : HeldT} {w : World} (h : heldQ B a w) : (heldC a).toArray.all (·.oneCell') = true := by
  obtain ⟨pp, nn, cc, e⟩ := h.sl
  obtain ⟨id, ad, r, o, p, t, k, n, v, q, m, u, K, has, pa, pb, one⟩ := a
  have e : u = .slice pp nn cc := e
  subst e
  simp [heldC, Value.oneCell']
theorem sesI_l (r o p t k : ByteArray) (n v : Int) (q : ByteArray) (m : Int) (u : Value) : (Try.prog.info? 24).map (·.size) = some (sesU r o p t k n v q m u).toList.length := by kernel_rfl
theorem sesI_i (r o p t k : ByteArray) (n v : Int) (q : ByteArray) (m : Int) (u : Value) : (Try.prog.info? 29).map (·.size) = some (sesU r o p t k n v q m u).toList.length := by kernel_rfl
theorem iniL (pa pb : ByteArray) (one : Int) : (Try.prog.info? 139).map (·.size) = some [Value.string pa, .string pb, .int .i64 one].length := by kernel_rfl
theorem iniI (pa pb : ByteArray) (one : Int) : (Try.prog.info? 92).map (·.size) = some [Value.string pa, .string pb, .int .i64 one].length := by kernel_rfl
theorem iniS (pa pb : ByteArray) (one : Int) : (Try.prog.info? 92).map (·.size) = some (#[Value.string pa, .string pb, .int .i64 one] : Array Value).size := by kernel_rfl
theorem iniOne (pa pb : ByteArray) (one : Int) : (#[Value.string pa, .string pb, .int .i64 one] : Array Value).all (·.oneCell') = true := by simp [Value.oneCell']
theorem szHeldX (id ad r o p t k : ByteArray) (n v : Int) (q : ByteArray) (m : Int) (u : Value) (has : Bool) (pa pb : ByteArray) (one : Int) : (Try.prog.info? 94).map (·.size) = some (#[.string id, .string ad, .string r, .string o, .string p, .string t, .string k, .int .i64 n, .int .i64 v, .string q, .int .i64 m, u, .bool has, .string pa, .string pb, .int .i64 one] : Array Value).size := by kernel_rfl
theorem oneHeldX (id ad r o p t k : ByteArray) (n v : Int) (q : ByteArray) (m : Int) (p1 : Option Addr) (n1 c1 : Nat) (has : Bool) (pa pb : ByteArray) (one : Int) : (#[.string id, .string ad, .string r, .string o, .string p, .string t, .string k, .int .i64 n, .int .i64 v, .string q, .int .i64 m, .slice p1 n1 c1, .bool has, .string pa, .string pb, .int .i64 one] : Array Value).all (·.oneCell') = true := by simp [Value.oneCell']
theorem range10 {w : World} {g : Nat} {T : TypeId} {id ad r o p t k : ByteArray} {n v : Int} {q : ByteArray} {m : Int} {u : Value} {x y z c : Value} (h : w.heap[g]? = some (.cells #[.string id, .string ad, .string r, .string o, .string p, .string t, .string k, .int .i64 n, .int .i64 v, .string q, .int .i64 m, u, x, y, z, c] T (0, 0))) : w.rangeAt g 2 (sesU r o p t k n v q m u).toList :=
  range_of_row h (fun j v hj => by
    have hl := (List.getElem?_eq_some_iff.1 hj).1
    have hl : j < 10 := hl
    have : j = 0 ∨ j = 1 ∨ j = 2 ∨ j = 3 ∨ j = 4 ∨ j = 5 ∨ j = 6 ∨ j = 7 ∨ j = 8 ∨ j = 9 := by omega
    rcases this with rfl | rfl | rfl | rfl | rfl | rfl | rfl | rfl | rfl | rfl <;> exact hj)
theorem range3 {w : World} {g : Nat} {T : TypeId} {a0 a1 a2 a3 a4 a5 a6 a7 a8 a9 a10 a11 a12 x y z : Value} (h : w.heap[g]? = some (.cells #[a0, a1, a2, a3, a4, a5, a6, a7, a8, a9, a10, a11, a12, x, y, z] T (0, 0))) : w.rangeAt g 13 [x, y, z] :=
  range_of_row h (fun j v hj => by
    have hl := (List.getElem?_eq_some_iff.1 hj).1
    have hl : j < 3 := hl
    have : j = 0 ∨ j = 1 ∨ j = 2 := by omega
    rcases this with rfl | rfl | rfl <;> exact hj)

set_option maxHeartbeats 4000000 in
theorem toHeld_c (a : HeldT) (w : World) (h : heldA a w) (hm : heldM (heldG a)) : Calls Try.prog 92 #[.agg (heldC a).toArray] w fun e w' => ∃ a', e = .returned (.agg (heldC a').toArray) ∧ heldG a' = heldG a ∧ heldQ w.heap.size a' w' ∧ Below w.heap.size w w' := by
  obtain ⟨id, ad, r, o, p, t, k, n, v, q, m, u, K, has, pa, pb, one⟩ := a
  show Calls _ _ #[.agg #[.string id, .string ad, .string r, .string o, .string p, .string t, .string k, .int .i64 n, .int .i64 v, .string q, .int .i64 m, u, .bool has, .string pa, .string pb, .int .i64 one]] _ _
  have H := Lib.hid h.1.sk
  have hK : K.length ≤ 1048576 := hm.1
  obtain ⟨hB0, ha0, hr0, ho0, _⟩ := boxes3 w (.cells #[.string id, .string ad, .string r, .string o, .string p, .string t, .string k, .int .i64 n, .int .i64 v, .string q, .int .i64 m, u, .bool has, .string pa, .string pb, .int .i64 one] 141) (.cells #[.string (ByteArray.mk #[]), .string (ByteArray.mk #[]), .string (ByteArray.mk #[]), .string (ByteArray.mk #[]), .string (ByteArray.mk #[]), .string (ByteArray.mk #[]), .string (ByteArray.mk #[]), .int .i64 0, .int .i64 0, .string (ByteArray.mk #[]), .int .i64 0, .slice none 0 0, .bool false, .string (ByteArray.mk #[]), .string (ByteArray.mk #[]), .int .i64 0] 94) (.cells #[.string id, .string ad, .string (ByteArray.mk #[]), .string (ByteArray.mk #[]), .string (ByteArray.mk #[]), .string (ByteArray.mk #[]), .string (ByteArray.mk #[]), .int .i64 0, .int .i64 0, .string (ByteArray.mk #[]), .int .i64 0, .slice none 0 0, .bool false, .string (ByteArray.mk #[]), .string (ByteArray.mk #[]), .int .i64 0] 94) _ (Below.refl _ _)
  have C := Lib.hid (toSession_any r o p t k n v q m u K _ (H.out.below hB0) hK)
  obtain ⟨pu, cu, eu, _⟩ := h.1.sk
  have eu : u = .slice pu K.length cu := eu
  subst eu
  have RNG := Lib.hid (range10 ha0)
  have HX := Lib.hid (And.intro hB0 (And.intro ha0 (And.intro hr0 ho0)))
  clear h hm hB0 ha0 hr0 ho0
  go_enter Try.func92, Try.ntmps92
  go_wp2_with (first | (with_reducible refine wpList_load_mid (op := ⟨some 11, _, _, _, _, _⟩) rfl 24 _ rfl w.heap.size 2 rfl (sesU r o p t k n v q m (.slice pu K.length cu)).toList _ RNG.out Try.underlying24 rfl (sesI_l r o p t k n v q m (.slice pu K.length cu)) ?_) | fail)
  refine C.out.mono ?_
  rintro e w1 ⟨u', rfl, hs, hb⟩
  have ha := (hb.block _ (Array.getElem?_eq_some_iff.1 HX.out.2.1).1).trans HX.out.2.1
  have hr := (hb.block _ (Array.getElem?_eq_some_iff.1 HX.out.2.2.1).1).trans HX.out.2.2.1
  have ho := (hb.block _ (Array.getElem?_eq_some_iff.1 HX.out.2.2.2).1).trans HX.out.2.2.2
  have hlow : w.heap.size + 1 + 1 + 1 ≤ _ := (Array.getElem?_eq_some_iff.1 HX.out.2.2.2).1
  have hs2 : SkipsAt (w.heap.size + 1 + 1 + 1) u' K w1 := hs.mono hlow
  have hB := HX.out.1.trans (hb.mono HX.out.1.size)
  obtain ⟨p1, c1, rfl, _, _, _⟩ := hs2.open
  have THR := Lib.hid (show w1.there (w.heap.size + 1 + 1) 2 (sesU r o p t k n v q m (.slice p1 K.length c1)).size from there_of_row ho (by show 2 + 10 ≤ 16; omega))
  have hgr := setCells_grown (w.heap.size + 1 + 1) (sesU r o p t k n v q m (.slice p1 K.length c1)).toList 2 w1
  have h10 := heap_setCells (w.heap.size + 1 + 1) 94 (sesU r o p t k n v q m (.slice p1 K.length c1)).toList 2 _ w1 ho
  have e10 : setA #[.string id, .string ad, .string (ByteArray.mk #[]), .string (ByteArray.mk #[]), .string (ByteArray.mk #[]), .string (ByteArray.mk #[]), .string (ByteArray.mk #[]), .int .i64 0, .int .i64 0, .string (ByteArray.mk #[]), .int .i64 0, .slice none 0 0, .bool false, .string (ByteArray.mk #[]), .string (ByteArray.mk #[]), .int .i64 0] 2 (sesU r o p t k n v q m (.slice p1 K.length c1)).toList = #[.string id, .string ad, .string r, .string o, .string p, .string t, .string k, .int .i64 n, .int .i64 v, .string q, .int .i64 m, .slice p1 K.length c1, .bool false, .string (ByteArray.mk #[]), .string (ByteArray.mk #[]), .int .i64 0] := set10 _ _ _ _ _ _ _ _ _ _ _ _ _ _ _ _ _ _ _ _ _ _ _ _ _ _
  rw [e10] at h10
  clear e10
  have HY := Lib.hid (And.intro ((heap_setCells_out (w.heap.size + 1 + 1) w.heap.size (by omega) (sesU r o p t k n v q m (.slice p1 K.length c1)).toList 2 w1).trans ha) (And.intro ((heap_setCells_out (w.heap.size + 1 + 1) (w.heap.size + 1) (by omega) (sesU r o p t k n v q m (.slice p1 K.length c1)).toList 2 w1).trans hr) (And.intro h10 (And.intro (RowL.kept hs2 hgr (row_ne hs2 (Nat.lt_succ_self _))) (hB.grown hgr hB.size (fun q hq => by have := Option.some.inj hq; omega))))))
  clear ha hr ho hlow hs hs2 hB hb hgr HX C RNG
  go_upto_region 5 with (first | (with_reducible refine wpList_store_mid (op := ⟨none, .store 29 _ _, _, _, _, _⟩) rfl 29 _ _ rfl (w.heap.size + 1 + 1) 2 (sesU r o p t k n v q m (.slice p1 K.length c1)) rfl rfl THR.out (szSU r o p t k n v q m (.slice p1 K.length c1)) (sesUone r o p t k n v q m p1 K.length c1) ?_) | fail)
  generalize w1.setCells (w.heap.size + 1 + 1) 2 (sesU r o p t k n v q m (.slice p1 K.length c1)).toList = w2 at HY ⊢
  have a12 : w2.cell? ⟨w.heap.size, 12, none⟩ = some (.bool has) := cell_of_row w2 w.heap.size 12 _ _ _ HY.out.1
  have o12 : w2.cell? ⟨w.heap.size + 1 + 1, 12, none⟩ = some (.bool false) := cell_of_row w2 (w.heap.size + 1 + 1) 12 _ _ _ HY.out.2.2.1
  have of12 := frozen_of_row w2 (w.heap.size + 1 + 1) 12 _ _ HY.out.2.2.1
  go_upto_region 6 with (fail)
  clear a12 o12 of12 THR
  have hgr := grw_set (grw_refl w2 (some (w.heap.size + 1 + 1))) 12 (.bool has)
  have HY := Lib.hid (show _ ∧ _ ∧ _ ∧ _ ∧ _ from And.intro ((heap_setCell_other w2 ⟨w.heap.size + 1 + 1, 12, none⟩ w.heap.size (.bool has) (by show w.heap.size ≠ w.heap.size + 1 + 1; omega)).trans HY.out.1) (And.intro ((heap_setCell_other w2 ⟨w.heap.size + 1 + 1, 12, none⟩ (w.heap.size + 1) (.bool has) (by show w.heap.size + 1 ≠ w.heap.size + 1 + 1; omega)).trans HY.out.2.1) (And.intro (show (w2.setCell ⟨w.heap.size + 1 + 1, 12, none⟩ (.bool has)).heap[w.heap.size + 1 + 1]? = some (.cells #[.string id, .string ad, .string r, .string o, .string p, .string t, .string k, .int .i64 n, .int .i64 v, .string q, .int .i64 m, .slice p1 K.length c1, .bool has, .string (ByteArray.mk #[]), .string (ByteArray.mk #[]), .int .i64 0] 94 (0, 0)) from heap_setCell_same w2 (w.heap.size + 1 + 1) 12 _ _ (.bool has) HY.out.2.2.1) (And.intro (RowL.kept HY.out.2.2.2.1 hgr (row_ne HY.out.2.2.2.1 (Nat.lt_succ_self _))) (HY.out.2.2.2.2.grown hgr HY.out.2.2.2.2.size (fun q hq => by have := Option.some.inj hq; omega))))))
  clear hgr
  generalize w2.setCell ⟨w.heap.size + 1 + 1, 12, none⟩ (.bool has) = w3 at HY ⊢
  have RNG := Lib.hid (range3 HY.out.1)
  go_wp2_with (first | (with_reducible refine wpList_load_mid (op := ⟨some 18, _, _, _, _, _⟩) rfl 139 _ rfl w.heap.size 13 rfl [.string pa, .string pb, .int .i64 one] _ RNG.out Try.underlying139 rfl (iniL pa pb one) ?_) | fail)
  refine (toInit_any pa pb one _).mono ?_
  rintro e w4 ⟨rfl, hb⟩
  have hr := (hb.block _ (Array.getElem?_eq_some_iff.1 HY.out.2.1).1).trans HY.out.2.1
  have ho := (hb.block _ (Array.getElem?_eq_some_iff.1 HY.out.2.2.1).1).trans HY.out.2.2.1
  have hs2 := HY.out.2.2.2.1.below hb
  have hB := HY.out.2.2.2.2.trans (hb.mono HY.out.2.2.2.2.size)
  have THR := Lib.hid (show w4.there (w.heap.size + 1 + 1) 13 (#[Value.string pa, .string pb, .int .i64 one] : Array Value).size from there_of_row ho (by show 13 + 3 ≤ 16; omega))
  have hgr := setCells_grown (w.heap.size + 1 + 1) [Value.string pa, .string pb, .int .i64 one] 13 w4
  have h13 := heap_setCells (w.heap.size + 1 + 1) 94 [Value.string pa, .string pb, .int .i64 one] 13 _ w4 ho
  rw [set13] at h13
  have HZ := Lib.hid (And.intro ((heap_setCells_out (w.heap.size + 1 + 1) (w.heap.size + 1) (by omega) [Value.string pa, .string pb, .int .i64 one] 13 w4).trans hr) (And.intro h13 (And.intro (RowL.kept hs2 hgr (row_ne hs2 (Nat.lt_succ_self _))) (hB.grown hgr hB.size (fun q hq => by have := Option.some.inj hq; omega)))))
  clear hr ho hs2 hB hb hgr HY RNG
  go_upto_region 7 with (first | (with_reducible refine wpList_store_mid (op := ⟨none, .store 92 _ _, _, _, _, _⟩) rfl 92 _ _ rfl (w.heap.size + 1 + 1) 13 #[.string pa, .string pb, .int .i64 one] rfl rfl THR.out (iniS pa pb one) (iniOne pa pb one) ?_) | fail)
  change Code.wp _ _ _ _ (w4.setCells (w.heap.size + 1 + 1) 13 [Value.string pa, .string pb, .int .i64 one])
  generalize w4.setCells (w.heap.size + 1 + 1) 13 [Value.string pa, .string pb, .int .i64 one] = w5 at HZ ⊢
  go_wp2_with (first
    | (with_reducible refine wpList_load_row (o := ⟨some 21, _, _, _, _, _⟩) rfl 94 _ rfl (w.heap.size + 1 + 1) rfl 94 #[.string id, .string ad, .string r, .string o, .string p, .string t, .string k, .int .i64 n, .int .i64 v, .string q, .int .i64 m, .slice p1 K.length c1, .bool has, .string pa, .string pb, .int .i64 one] (0, 0) _ HZ.out.2.1 Try.underlying94 rfl (szHeldX id ad r o p t k n v q m (.slice p1 K.length c1) has pa pb one) ?_)
    | ((with_reducible refine wpList_store_row' (o := ⟨none, .store 94 _ _, _, _, _, _⟩) rfl 94 _ _ rfl (w.heap.size + 1) #[.string id, .string ad, .string r, .string o, .string p, .string t, .string k, .int .i64 n, .int .i64 v, .string q, .int .i64 m, .slice p1 K.length c1, .bool has, .string pa, .string pb, .int .i64 one] rfl rfl 94 #[.string (ByteArray.mk #[]), .string (ByteArray.mk #[]), .string (ByteArray.mk #[]), .string (ByteArray.mk #[]), .string (ByteArray.mk #[]), .string (ByteArray.mk #[]), .string (ByteArray.mk #[]), .int .i64 0, .int .i64 0, .string (ByteArray.mk #[]), .int .i64 0, .slice none 0 0, .bool false, .string (ByteArray.mk #[]), .string (ByteArray.mk #[]), .int .i64 0] HZ.out.1 (szHeldX id ad r o p t k n v q m (.slice p1 K.length c1) has pa pb one) rfl (oneHeldX id ad r o p t k n v q m p1 K.length c1 has pa pb one) ?_); intro w6 hw6 hsw6 hgw6)
    | fail)
  refine bodyPost_ret (v := .agg #[.string id, .string ad, .string r, .string o, .string p, .string t, .string k, .int .i64 n, .int .i64 v, .string q, .int .i64 m, .slice p1 K.length c1, .bool has, .string pa, .string pb, .int .i64 one]) (results_cell_row Try.results92 _ _ (w.heap.size + 1) 94 _ (0, 0) _ rfl hw6 Try.underlying94 rfl (szHeldX id ad r o p t k n v q m (.slice p1 K.length c1) has pa pb one)) rfl ⟨⟨id, ad, r, o, p, t, k, n, v, q, m, .slice p1 K.length c1, K, has, pa, pb, one⟩, rfl, rfl, ?_, ?_⟩
  · exact (RowL.kept HZ.out.2.2.1 hgw6 (row_ne HZ.out.2.2.1 (by omega))).mono (by omega)
  · exact HZ.out.2.2.2.grown hgw6 HZ.out.2.2.2.size (fun k hk => by have := Option.some.inj hk; omega)

end Go.Proofs.Ytkglgficmealnaa

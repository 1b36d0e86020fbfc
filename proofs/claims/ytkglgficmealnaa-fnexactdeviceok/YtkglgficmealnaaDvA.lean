/- The exact laws' helpers for one-time prekeys. -/
import Derived.Test.YtkglgficmealnaaRwPair
import Derived.Test.YtkglgficmealnaaRowN
import Derived.Test.YtkglgficmealnaaBx
namespace Go.Proofs.Ytkglgficmealnaa
open Go.RowKit Go.My Go.Lib
set_option linter.unusedVariables false

abbrev OneT : Type := Int × ByteArray × ByteArray
def oneC (a : OneT) : List Value := [.int .i64 a.1, .string a.2.1, .string a.2.2]
theorem oneC_len (a : OneT) : (oneC a).length = 3 := rfl
def oneZ : OneT := (0, ByteArray.empty, ByteArray.empty)
def oneW (a : OneT) : Prop := (Lit.int .i64 a.1).wf = true ∧ a.2.1.size ≤ maxLen ∧ a.2.2.size ≤ maxLen
theorem info_One : (Try.prog.info? 74).map (fun i => (i.zero, i.size, i.bytes)) = some (some (.agg #[.int .i64 0, .string ByteArray.empty, .string ByteArray.empty]), 3, 40) := by kernel_rfl
theorem szOneI (a : OneT) : (Try.prog.info? 74).map (·.size) = some (oneC a).toArray.size := by kernel_rfl
theorem szOneL (a : OneT) : (Try.prog.info? 110).map (·.size) = some (oneC a).length := by kernel_rfl

set_option maxHeartbeats 2000000 in
theorem toOne_any (a : OneT) (w : World) : Calls Try.prog 70 #[.agg (oneC a).toArray] w fun e w' => e = .returned (.agg (oneC a).toArray) ∧ Below w.heap.size w w' := by
  obtain ⟨i, p, q⟩ := a
  show Calls _ _ #[.agg #[.int .i64 i, .string p, .string q]] _ _
  obtain ⟨hB0, _, hr0, ho0, _⟩ := boxes3 w (.cells #[.int .i64 i, .string p, .string q] 110) (.cells #[.int .i64 0, .string (ByteArray.mk #[]), .string (ByteArray.mk #[])] 74) (.cells #[.int .i64 i, .string (ByteArray.mk #[]), .string (ByteArray.mk #[])] 74) _ (Below.refl _ _)
  have HX := Lib.hid (And.intro hB0 (And.intro hr0 ho0))
  clear hB0 hr0 ho0
  go_enter Try.func70, Try.ntmps70
  go_wp2_with fail
  refine (toPair_any p q _).mono ?_
  rintro e w1 ⟨rfl, hb⟩
  have hr := (hb.block _ (Array.getElem?_eq_some_iff.1 HX.out.2.1).1).trans HX.out.2.1
  have ho := (hb.block _ (Array.getElem?_eq_some_iff.1 HX.out.2.2).1).trans HX.out.2.2
  have HB := Lib.hid (HX.out.1.trans (hb.mono HX.out.1.size))
  obtain ⟨⟨o0, o1, o2⟩, of⟩ := dk_cells ho
  obtain ⟨⟨s0, s1, s2⟩, sf⟩ := dk_cells hr
  have of1 := of 1
  have of2 := of 2
  have sf0 := sf 0
  have sf1 := sf 1
  have sf2 := sf 2
  have HR := Lib.hid hr
  clear of sf ho hr hb HX
  go_wp2
  have q0 : (((w1.setCell ⟨w.heap.size + 1 + 1, 1, none⟩ (.string p)).setCell ⟨w.heap.size + 1 + 1, 2, none⟩ (.string q)).heap[w.heap.size + 1]? = _) := (heap_setCell_other _ ⟨w.heap.size + 1 + 1, 2, none⟩ (w.heap.size + 1) (.string q) (by simp)).trans ((heap_setCell_other _ ⟨w.heap.size + 1 + 1, 1, none⟩ (w.heap.size + 1) (.string p) (by simp)).trans HR.out)
  have q1 := heap_setCell_same _ (w.heap.size + 1) 0 _ _ (.int .i64 i) q0
  have q2 := heap_setCell_same _ (w.heap.size + 1) 1 _ _ (.string p) q1
  have q3 := heap_setCell_same _ (w.heap.size + 1) 2 _ _ (.string q) q2
  refine bodyPost_ret (v := .agg #[.int .i64 i, .string p, .string q]) (results_cell_row Try.results70 _ _ (w.heap.size + 1) 74 _ (0, 0) _ rfl q3 Try.underlying74 rfl (by kernel_rfl)) rfl ⟨rfl, ?_⟩
  exact ((((HB.out.setCell (by simp; omega) _).setCell (by simp; omega) _).setCell (by simp) _).setCell (by simp) _).setCell (by simp) _

set_option maxHeartbeats 2000000 in
theorem szOne_any (a : OneT) (left : Nat) (w : World) (h : oneW a) (hl : left ≤ 1048576) : Calls Try.prog 67 #[.agg (oneC a).toArray, .int .i64 left] w fun e w' => ((∃ r : Nat, e = .returned (.int .i64 r) ∧ r ≤ left) ∨ e = .returned (.int .i64 (-1))) ∧ Below w.heap.size w w' := by
  obtain ⟨i, p, q⟩ := a
  show Calls _ _ #[.agg #[.int .i64 i, .string p, .string q], _] _ _
  have C := Lib.hid (fun W => szPair_any p q left W hl h.2.1 h.2.2)
  have HB := Lib.hid (Below.alloc (Below.refl _ w) (Nat.le_refl _) (.cells #[.int .i64 i, .string p, .string q] 110))
  have hlI : (left : Int) ≤ 1048576 := by omega
  have hl0 : ¬ ((left : Int) < 0) := by omega
  clear h
  go_enter Try.func67, Try.ntmps67
  go_wp2_with fail
  refine (C.out _).mono ?_
  rintro e w1 ⟨hres, hb⟩
  have hB := HB.out.trans (hb.mono HB.out.size)
  clear hb C
  rcases hres with ⟨r, rfl, hr⟩ | rfl
  · have q0 : ¬ (r : Int) < 0 := by omega
    have HR : Hid (r ≤ left) := by show _ ≤ _; omega
    clear hr
    go_wp2
    go_ret
    exact ⟨.inl ⟨r, rfl, HR.out⟩, hB⟩
  · go_wp2
    go_ret
    exact ⟨.inr rfl, hB⟩

set_option maxHeartbeats 2000000 in
theorem eqOne_same (a : OneT) (w : World) : Calls Try.prog 73 #[.agg (oneC a).toArray, .agg (oneC a).toArray] w fun e w' => e = .returned (.bool true) ∧ Below w.heap.size w w' := by
  obtain ⟨i, p, q⟩ := a
  show Calls _ _ #[.agg #[.int .i64 i, .string p, .string q], .agg #[.int .i64 i, .string p, .string q]] _ _
  obtain ⟨hB0, _, _⟩ := boxes2 w (.cells #[.int .i64 i, .string p, .string q] 74) (.cells #[.int .i64 i, .string p, .string q] 74) _ (Below.refl _ _)
  have HB := Lib.hid hB0
  clear hB0
  go_enter Try.func73, Try.ntmps73
  go_wp2_with fail
  refine (eqPair_same p q _).mono ?_
  rintro e w1 ⟨rfl, hb⟩
  have hB := HB.out.trans (hb.mono HB.out.size)
  clear hb
  go_wp2
  go_ret
  exact ⟨rfl, hB⟩

/-- As lists of them want it: a one-time prekey holds no row. -/
def oneA (a : OneT) (w : World) : Prop := oneW a
def oneQ (B : Nat) (a : OneT) (w : World) : Prop := True
def oneG (a : OneT) : OneT := a
def oneM (a : OneT) : Prop := True
theorem oneA.below {B : Nat} {a : OneT} {w w' : World} (h : oneA a w) (hb : Below B w w') : oneA a w' := h
theorem oneQ.below {B B' : Nat} {a : OneT} {w w' : World} (h : oneQ B a w) (hb : Below B' w w') : oneQ B a w' := h
theorem oneQ.mono {B B' : Nat} {a : OneT} {w : World} (h : oneQ B a w) (hb : B' ≤ B) : oneQ B' a w := h
theorem oneQ.kept {B g : Nat} {a : OneT} {w w' : World} (h : oneQ B a w) (hg : w.grownBy w' (some g)) (hgB : g < B) : oneQ B a w' := h
theorem oneOneC {B : Nat} {a : OneT} {w : World} (h : oneQ B a w) : (oneC a).toArray.all (·.oneCell') = true := by kernel_rfl
theorem toOne_c (a : OneT) (w : World) (h : oneA a w) (hm : oneM (oneG a)) : Calls Try.prog 70 #[.agg (oneC a).toArray] w fun e w' => ∃ a', e = .returned (.agg (oneC a').toArray) ∧ oneG a' = oneG a ∧ oneQ w.heap.size a' w' ∧ Below w.heap.size w w' :=
  (toOne_any a w).mono (by rintro e w' ⟨rfl, hb⟩; exact ⟨a, rfl, rfl, trivial, hb⟩)
theorem szOne_c (a : OneT) (left : Nat) (w : World) (h : oneA a w) (hl : left ≤ 1048576) : Calls Try.prog 67 #[.agg (oneC a).toArray, .int .i64 left] w fun e w' => ((∃ r : Nat, e = .returned (.int .i64 r) ∧ r ≤ left ∧ oneM (oneG a)) ∨ e = .returned (.int .i64 (-1))) ∧ Below w.heap.size w w' :=
  (szOne_any a left w h hl).mono (by
    rintro e w' ⟨⟨r, rfl, hr⟩ | rfl, hb⟩
    · exact ⟨.inl ⟨r, rfl, hr, trivial⟩, hb⟩
    · exact ⟨.inr rfl, hb⟩)
theorem eqOne_c (a b : OneT) (w : World) (ha : oneQ 0 a w) (hb : oneQ 0 b w) (hg : oneG a = oneG b) (hm : oneM (oneG a)) : Calls Try.prog 73 #[.agg (oneC a).toArray, .agg (oneC b).toArray] w fun e w' => e = .returned (.bool true) ∧ Below w.heap.size w w' := by
  have e : a = b := hg
  subst e
  exact eqOne_same a w

end Go.Proofs.Ytkglgficmealnaa

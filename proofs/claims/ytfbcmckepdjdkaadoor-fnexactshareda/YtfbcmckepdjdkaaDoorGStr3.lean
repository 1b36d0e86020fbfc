/- Bundles as arguments of a law: read from their cells, and back. -/
import Derived.Test.YtfbcmckepdjdkaaDoorGBnd1
import Derived.Lib.SmallJoins
import Derived.ChangeMaps5
namespace Go.Proofs.YtfbcmckepdjdkaaDoor
open Go.RowKit Go.My Go.Lib Go.ChangeShapes Go.WideShapes
set_option linter.unusedVariables false
set_option maxRecDepth 100000

theorem cells_s : Tryd.prog.cellsOf 9 = 1 := by kernel_rfl
theorem cells_i : Tryd.prog.cellsOf 2 = 1 := by kernel_rfl
theorem cells_b : Tryd.prog.cellsOf 4 = 1 := by kernel_rfl
theorem trod_string_mk {H : Type} {enc : TypeId × Value → H} {P : Program} {w : World} {base : Nat} {sp : Nat → Bool} {held : Bool} {t : TypeId} {s : ByteArray} (m : Nat) (ht : P.underlying t = some .string) (hs : s.size ≤ maxLen) : DataW.trod enc P w base sp held (m + 1) t [.string s] = some (.lit (.string s.data.toList), []) := by
  simp [DataW.trod, ht, hs]
theorem trod_bool_mk {H : Type} {enc : TypeId × Value → H} {P : Program} {w : World} {base : Nat} {sp : Nat → Bool} {held : Bool} {t : TypeId} {b : Bool} (m : Nat) (ht : P.underlying t = some .bool) : DataW.trod enc P w base sp held (m + 1) t [.bool b] = some (.lit (.bool b), []) := by
  simp [DataW.trod, ht]

theorem cells_bundle : Tryd.prog.cellsOf 31 = 4 := by kernel_rfl
def bundleD {H : Type} (p : ByteArray) (q : ByteArray) (s : ByteArray) (a : Int) : DataW H := .agg [.lit (.string p.data.toList), .lit (.string q.data.toList), .lit (.string s.data.toList), .lit (.int .i64 a)]
abbrev bundleL (p : ByteArray) (q : ByteArray) (s : ByteArray) (a : Int) : List Value := [.string p, .string q, .string s, .int .i64 a]
def bundleW (p : ByteArray) (q : ByteArray) (s : ByteArray) (a : Int) : Prop := p.size ≤ maxLen ∧ q.size ≤ maxLen ∧ s.size ≤ maxLen ∧ (Lit.int .i64 a).wf = true
theorem bundle_open {H : Type} {enc : TypeId × Value → H} {w : World} {base : Nat} {sp : Nat → Bool} {held : Bool} {fuel : Nat} {cs : List Value} {x : DataW H × List MemPlace} (h : DataW.trod enc Tryd.prog w base sp held fuel 31 cs = some x) :
    ∃ (p : ByteArray) (q : ByteArray) (s : ByteArray) (a : Int), cs = bundleL p q s a ∧ x = (bundleD p q s a, []) ∧ bundleW p q s a := by
  obtain ⟨xs, n, _, hx, hl, hn, hf⟩ := DataW.trod_struct Tryd.underlying31 h
  rw [cells_bundle] at hl
  match cs, hl with
  | [c0, c1, c2, c3], _ =>
  match xs, hn with
  | [y0, y1, y2, y3], _ =>
    have h0 : DataW.trod enc Tryd.prog w base sp held n 9 (List.take (Tryd.prog.cellsOf 9) (List.drop 0 [c0, c1, c2, c3])) = some y0 := by have := hf 0 _ rfl; exact this
    rw [cells_s] at h0
    have g0 : DataW.trod enc Tryd.prog w base sp held n 9 [c0] = some y0 := h0
    obtain ⟨p, e0, r0, wp⟩ := DataW.trod_string Tryd.underlying9 g0
    have h1 : DataW.trod enc Tryd.prog w base sp held n 9 (List.take (Tryd.prog.cellsOf 9) (List.drop 1 [c0, c1, c2, c3])) = some y1 := by have := hf 1 _ rfl; exact this
    rw [cells_s] at h1
    have g1 : DataW.trod enc Tryd.prog w base sp held n 9 [c1] = some y1 := h1
    obtain ⟨q, e1, r1, wq⟩ := DataW.trod_string Tryd.underlying9 g1
    have h2 : DataW.trod enc Tryd.prog w base sp held n 9 (List.take (Tryd.prog.cellsOf 9) (List.drop 2 [c0, c1, c2, c3])) = some y2 := by have := hf 2 _ rfl; exact this
    rw [cells_s] at h2
    have g2 : DataW.trod enc Tryd.prog w base sp held n 9 [c2] = some y2 := h2
    obtain ⟨s, e2, r2, ws⟩ := DataW.trod_string Tryd.underlying9 g2
    have h3 : DataW.trod enc Tryd.prog w base sp held n 2 (List.take (Tryd.prog.cellsOf 2) (List.drop 3 [c0, c1, c2, c3])) = some y3 := by have := hf 3 _ rfl; exact this
    rw [cells_i] at h3
    have g3 : DataW.trod enc Tryd.prog w base sp held n 2 [c3] = some y3 := h3
    obtain ⟨a, e3, r3, wa⟩ := DataW.trod_int Tryd.underlying2 g3
    simp only [List.cons.injEq, and_true] at e0
    obtain rfl := e0
    subst r0
    simp only [List.cons.injEq, and_true] at e1
    obtain rfl := e1
    subst r1
    simp only [List.cons.injEq, and_true] at e2
    obtain rfl := e2
    subst r2
    simp only [List.cons.injEq, and_true] at e3
    obtain rfl := e3
    subst r3
    exact ⟨p, q, s, a, rfl, hx, wp, wq, ws, wa⟩
theorem bundle_mk {H : Type} {enc : TypeId × Value → H} {w : World} {base : Nat} {sp : Nat → Bool} {held : Bool} (m : Nat) (p : ByteArray) (q : ByteArray) (s : ByteArray) (a : Int) (W : bundleW p q s a) :
    DataW.trod enc Tryd.prog w base sp held (m + 2) 31 (bundleL p q s a) = some (bundleD p q s a, []) := by
  have g0 : DataW.trod enc Tryd.prog w base sp held (m + 1) 9 ([.string p]) = some (.lit (.string p.data.toList), []) := trod_string_mk _ Tryd.underlying9 (W.1)
  have g1 : DataW.trod enc Tryd.prog w base sp held (m + 1) 9 ([.string q]) = some (.lit (.string q.data.toList), []) := trod_string_mk _ Tryd.underlying9 (W.2.1)
  have g2 : DataW.trod enc Tryd.prog w base sp held (m + 1) 9 ([.string s]) = some (.lit (.string s.data.toList), []) := trod_string_mk _ Tryd.underlying9 (W.2.2.1)
  have g3 : DataW.trod enc Tryd.prog w base sp held (m + 1) 2 ([.int .i64 a]) = some (.lit (.int .i64 a), []) := trod_int_mk _ Tryd.underlying2 (W.2.2.2)
  have := trod_struct_mk (enc := enc) (P := Tryd.prog) (w := w) (base := base) (spare := sp) (held := held) (n := m + 1) (cs := bundleL p q s a) (xs := [(.lit (.string p.data.toList), []), (.lit (.string q.data.toList), []), (.lit (.string s.data.toList), []), (.lit (.int .i64 a), [])]) Tryd.underlying31 (by rw [cells_bundle]; rfl) (by
    simp only [cells_i, cells_s, List.mapM_cons, List.mapM_nil, List.drop_zero, List.drop_succ_cons, List.take_succ_cons, List.take_zero]
    simp [g0, g1, g2, g3])
  simpa [bundleD] using this
theorem open_bundleV {H : Type} {enc : TypeId × Value → H} {w : World} {base : Nat} {sp : Nat → Bool} {held : Bool} {r : Reach} {b0 : Nat} {v : Value} {d : DataW H} {ps : List MemPlace} (hv : Value.okWide Tryd.prog w r b0 31 v) (h : DataW.Trod enc Tryd.prog w base sp held 31 v d ps) :
    ∃ (p : ByteArray) (q : ByteArray) (s : ByteArray) (a : Int), v = .agg (bundleA p q s a) ∧ d = bundleD p q s a ∧ ps = [] ∧ bundleW p q s a := by
  obtain ⟨cs, rfl, _⟩ := okWide_struct Tryd.underlying31 hv
  obtain ⟨fuel, hf⟩ := h
  obtain ⟨p, q, s, a, hc, hx, W⟩ := bundle_open hf
  simp only [Prod.mk.injEq] at hx
  refine ⟨p, q, s, a, ?_, hx.1, hx.2, W⟩
  obtain ⟨l⟩ := cs
  simp only [Value.cells] at hc
  exact congrArg (fun l => Value.agg ⟨l⟩) hc
theorem shut_bundleV {H : Type} {enc : TypeId × Value → H} {w : World} {base : Nat} {sp : Nat → Bool} {held : Bool} (p : ByteArray) (q : ByteArray) (s : ByteArray) (a : Int) (W : bundleW p q s a) : DataW.Trod enc Tryd.prog w base sp held 31 (.agg (bundleA p q s a)) (bundleD p q s a) [] :=
  ⟨_, bundle_mk 0 p q s a W⟩

end Go.Proofs.YtfbcmckepdjdkaaDoor

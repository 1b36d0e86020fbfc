/- Letters as arguments of a law: read from their cells, and back. -/
import Derived.Test.YtmekpinhhmknnaaDoorLtr1
import Derived.Lib.SmallJoins
import Derived.ChangeMaps5
namespace Go.Proofs.YtmekpinhhmknnaaDoor
open Go.RowKit Go.My Go.Lib Go.ChangeShapes Go.WideShapes
set_option linter.unusedVariables false
set_option maxRecDepth 100000

theorem cells_s : Tryd.prog.cellsOf 9 = 1 := by kernel_rfl
theorem cells_i : Tryd.prog.cellsOf 2 = 1 := by kernel_rfl
theorem cells_b : Tryd.prog.cellsOf 4 = 1 := by kernel_rfl
theorem trod_string_mk {H : Type} {enc : TypeId × Value → H} {P : Program} {w : World} {base : Nat} {sp : Nat → Bool} {held : Bool} {t : TypeId} {s : ByteArray} (m : Nat) (ht : P.underlying t = some .string) (hs : s.size ≤ maxLen) : DataW.trod enc P w base sp held (m + 1) t [.string s] = some (.lit (.string s.data.toList), []) := by
  simp [DataW.trod, ht, hs]
theorem trod_bool_mk {H : Type} {enc : TypeId × Value → H} {P : Program} {w : World} {base : Nat} {sp : Nat → Bool} {held : Bool} {t : TypeId} {b : Bool} (m : Nat) (ht : P.underlying t = some .bool) : DataW.trod enc P w base sp held (m + 1) t [.bool b] = some (.lit (.bool b), []) := by
  simp [DataW.trod, ht]

theorem cells_letter : Tryd.prog.cellsOf 23 = 3 := by kernel_rfl
def letterD {H : Type} (a : Int) (b : Int) (s : ByteArray) : DataW H := .agg [.lit (.int .i64 a), .lit (.int .i64 b), .lit (.string s.data.toList)]
abbrev letterL (a : Int) (b : Int) (s : ByteArray) : List Value := [.int .i64 a, .int .i64 b, .string s]
def letterW (a : Int) (b : Int) (s : ByteArray) : Prop := (Lit.int .i64 a).wf = true ∧ (Lit.int .i64 b).wf = true ∧ s.size ≤ maxLen
theorem letter_open {H : Type} {enc : TypeId × Value → H} {w : World} {base : Nat} {sp : Nat → Bool} {held : Bool} {fuel : Nat} {cs : List Value} {x : DataW H × List MemPlace} (h : DataW.trod enc Tryd.prog w base sp held fuel 23 cs = some x) :
    ∃ (a : Int) (b : Int) (s : ByteArray), cs = letterL a b s ∧ x = (letterD a b s, []) ∧ letterW a b s := by
  obtain ⟨xs, n, _, hx, hl, hn, hf⟩ := DataW.trod_struct Tryd.underlying23 h
  rw [cells_letter] at hl
  match cs, hl with
  | [c0, c1, c2], _ =>
  match xs, hn with
  | [y0, y1, y2], _ =>
    have h0 : DataW.trod enc Tryd.prog w base sp held n 2 (List.take (Tryd.prog.cellsOf 2) (List.drop 0 [c0, c1, c2])) = some y0 := by have := hf 0 _ rfl; exact this
    rw [cells_i] at h0
    have g0 : DataW.trod enc Tryd.prog w base sp held n 2 [c0] = some y0 := h0
    obtain ⟨a, e0, r0, wa⟩ := DataW.trod_int Tryd.underlying2 g0
    have h1 : DataW.trod enc Tryd.prog w base sp held n 2 (List.take (Tryd.prog.cellsOf 2) (List.drop 1 [c0, c1, c2])) = some y1 := by have := hf 1 _ rfl; exact this
    rw [cells_i] at h1
    have g1 : DataW.trod enc Tryd.prog w base sp held n 2 [c1] = some y1 := h1
    obtain ⟨b, e1, r1, wb⟩ := DataW.trod_int Tryd.underlying2 g1
    have h2 : DataW.trod enc Tryd.prog w base sp held n 9 (List.take (Tryd.prog.cellsOf 9) (List.drop 2 [c0, c1, c2])) = some y2 := by have := hf 2 _ rfl; exact this
    rw [cells_s] at h2
    have g2 : DataW.trod enc Tryd.prog w base sp held n 9 [c2] = some y2 := h2
    obtain ⟨s, e2, r2, ws⟩ := DataW.trod_string Tryd.underlying9 g2
    simp only [List.cons.injEq, and_true] at e0
    obtain rfl := e0
    subst r0
    simp only [List.cons.injEq, and_true] at e1
    obtain rfl := e1
    subst r1
    simp only [List.cons.injEq, and_true] at e2
    obtain rfl := e2
    subst r2
    exact ⟨a, b, s, rfl, hx, wa, wb, ws⟩
theorem letter_mk {H : Type} {enc : TypeId × Value → H} {w : World} {base : Nat} {sp : Nat → Bool} {held : Bool} (m : Nat) (a : Int) (b : Int) (s : ByteArray) (W : letterW a b s) :
    DataW.trod enc Tryd.prog w base sp held (m + 2) 23 (letterL a b s) = some (letterD a b s, []) := by
  have g0 : DataW.trod enc Tryd.prog w base sp held (m + 1) 2 ([.int .i64 a]) = some (.lit (.int .i64 a), []) := trod_int_mk _ Tryd.underlying2 (W.1)
  have g1 : DataW.trod enc Tryd.prog w base sp held (m + 1) 2 ([.int .i64 b]) = some (.lit (.int .i64 b), []) := trod_int_mk _ Tryd.underlying2 (W.2.1)
  have g2 : DataW.trod enc Tryd.prog w base sp held (m + 1) 9 ([.string s]) = some (.lit (.string s.data.toList), []) := trod_string_mk _ Tryd.underlying9 (W.2.2)
  have := trod_struct_mk (enc := enc) (P := Tryd.prog) (w := w) (base := base) (spare := sp) (held := held) (n := m + 1) (cs := letterL a b s) (xs := [(.lit (.int .i64 a), []), (.lit (.int .i64 b), []), (.lit (.string s.data.toList), [])]) Tryd.underlying23 (by rw [cells_letter]; rfl) (by
    simp only [cells_i, cells_s, List.mapM_cons, List.mapM_nil, List.drop_zero, List.drop_succ_cons, List.take_succ_cons, List.take_zero]
    simp [g0, g1, g2])
  simpa [letterD] using this
theorem open_letterV {H : Type} {enc : TypeId × Value → H} {w : World} {base : Nat} {sp : Nat → Bool} {held : Bool} {r : Reach} {b0 : Nat} {v : Value} {d : DataW H} {ps : List MemPlace} (hv : Value.okWide Tryd.prog w r b0 23 v) (h : DataW.Trod enc Tryd.prog w base sp held 23 v d ps) :
    ∃ (a : Int) (b : Int) (s : ByteArray), v = .agg (letterA a b s) ∧ d = letterD a b s ∧ ps = [] ∧ letterW a b s := by
  obtain ⟨cs, rfl, _⟩ := okWide_struct Tryd.underlying23 hv
  obtain ⟨fuel, hf⟩ := h
  obtain ⟨a, b, s, hc, hx, W⟩ := letter_open hf
  simp only [Prod.mk.injEq] at hx
  refine ⟨a, b, s, ?_, hx.1, hx.2, W⟩
  obtain ⟨l⟩ := cs
  simp only [Value.cells] at hc
  exact congrArg (fun l => Value.agg ⟨l⟩) hc
theorem shut_letterV {H : Type} {enc : TypeId × Value → H} {w : World} {base : Nat} {sp : Nat → Bool} {held : Bool} (a : Int) (b : Int) (s : ByteArray) (W : letterW a b s) : DataW.Trod enc Tryd.prog w base sp held 23 (.agg (letterA a b s)) (letterD a b s) [] :=
  ⟨_, letter_mk 0 a b s W⟩

end Go.Proofs.YtmekpinhhmknnaaDoor

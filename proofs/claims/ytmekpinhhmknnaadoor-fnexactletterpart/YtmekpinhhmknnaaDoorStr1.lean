/- Heads, Inits and messages as arguments of a law: read from their cells, and back. -/
import Derived.Test.YtmekpinhhmknnaaDoorWire1
import Derived.Lib.SmallJoins
import Derived.ChangeMaps5
namespace Go.Proofs.YtmekpinhhmknnaaDoor
open Go.RowKit Go.My Go.Lib Go.ChangeShapes Go.WideShapes
set_option linter.unusedVariables false
set_option maxRecDepth 100000

theorem cells_s : Tryd.prog.cellsOf 9 = 1 := by kernel_rfl
theorem cells_i : Tryd.prog.cellsOf 2 = 1 := by kernel_rfl
theorem cells_b : Tryd.prog.cellsOf 4 = 1 := by kernel_rfl
theorem trod_string_mk {H : Type} {enc : TypeId × Value → H} {P : Program} {w : World} {base : Nat} {sp : Nat → Bool} {held : Bool} {t : TypeId} {s : ByteArray} (m : Nat) (ht : P.underlying t = some .string) (hs : s.size ≤ maxLen) : DataW.trod enc P w base sp held (m + 1) t [.string s] = some (.lit (.string s.data.toList), []) := by
  simp [DataW.trod, ht, hs]
theorem trod_bool_mk {H : Type} {enc : TypeId × Value → H} {P : Program} {w : World} {base : Nat} {sp : Nat → Bool} {held : Bool} {t : TypeId} {b : Bool} (m : Nat) (ht : P.underlying t = some .bool) : DataW.trod enc P w base sp held (m + 1) t [.bool b] = some (.lit (.bool b), []) := by
  simp [DataW.trod, ht]

theorem cells_head : Tryd.prog.cellsOf 32 = 3 := by kernel_rfl
def headD {H : Type} (p : ByteArray) (a : Int) (b : Int) : DataW H := .agg [.lit (.string p.data.toList), .lit (.int .i64 a), .lit (.int .i64 b)]
abbrev headL (p : ByteArray) (a : Int) (b : Int) : List Value := [.string p, .int .i64 a, .int .i64 b]
def headW (p : ByteArray) (a : Int) (b : Int) : Prop := p.size ≤ maxLen ∧ (Lit.int .i64 a).wf = true ∧ (Lit.int .i64 b).wf = true
theorem head_open {H : Type} {enc : TypeId × Value → H} {w : World} {base : Nat} {sp : Nat → Bool} {held : Bool} {fuel : Nat} {cs : List Value} {x : DataW H × List MemPlace} (h : DataW.trod enc Tryd.prog w base sp held fuel 32 cs = some x) :
    ∃ (p : ByteArray) (a : Int) (b : Int), cs = headL p a b ∧ x = (headD p a b, []) ∧ headW p a b := by
  obtain ⟨xs, n, _, hx, hl, hn, hf⟩ := DataW.trod_struct Tryd.underlying32 h
  rw [cells_head] at hl
  match cs, hl with
  | [c0, c1, c2], _ =>
  match xs, hn with
  | [y0, y1, y2], _ =>
    have h0 : DataW.trod enc Tryd.prog w base sp held n 9 (List.take (Tryd.prog.cellsOf 9) (List.drop 0 [c0, c1, c2])) = some y0 := by have := hf 0 _ rfl; exact this
    rw [cells_s] at h0
    have g0 : DataW.trod enc Tryd.prog w base sp held n 9 [c0] = some y0 := h0
    obtain ⟨p, e0, r0, wp⟩ := DataW.trod_string Tryd.underlying9 g0
    have h1 : DataW.trod enc Tryd.prog w base sp held n 2 (List.take (Tryd.prog.cellsOf 2) (List.drop 1 [c0, c1, c2])) = some y1 := by have := hf 1 _ rfl; exact this
    rw [cells_i] at h1
    have g1 : DataW.trod enc Tryd.prog w base sp held n 2 [c1] = some y1 := h1
    obtain ⟨a, e1, r1, wa⟩ := DataW.trod_int Tryd.underlying2 g1
    have h2 : DataW.trod enc Tryd.prog w base sp held n 2 (List.take (Tryd.prog.cellsOf 2) (List.drop 2 [c0, c1, c2])) = some y2 := by have := hf 2 _ rfl; exact this
    rw [cells_i] at h2
    have g2 : DataW.trod enc Tryd.prog w base sp held n 2 [c2] = some y2 := h2
    obtain ⟨b, e2, r2, wb⟩ := DataW.trod_int Tryd.underlying2 g2
    simp only [List.cons.injEq, and_true] at e0
    obtain rfl := e0
    subst r0
    simp only [List.cons.injEq, and_true] at e1
    obtain rfl := e1
    subst r1
    simp only [List.cons.injEq, and_true] at e2
    obtain rfl := e2
    subst r2
    exact ⟨p, a, b, rfl, hx, wp, wa, wb⟩
theorem head_mk {H : Type} {enc : TypeId × Value → H} {w : World} {base : Nat} {sp : Nat → Bool} {held : Bool} (m : Nat) (p : ByteArray) (a : Int) (b : Int) (W : headW p a b) :
    DataW.trod enc Tryd.prog w base sp held (m + 2) 32 (headL p a b) = some (headD p a b, []) := by
  have g0 : DataW.trod enc Tryd.prog w base sp held (m + 1) 9 ([.string p]) = some (.lit (.string p.data.toList), []) := trod_string_mk _ Tryd.underlying9 (W.1)
  have g1 : DataW.trod enc Tryd.prog w base sp held (m + 1) 2 ([.int .i64 a]) = some (.lit (.int .i64 a), []) := trod_int_mk _ Tryd.underlying2 (W.2.1)
  have g2 : DataW.trod enc Tryd.prog w base sp held (m + 1) 2 ([.int .i64 b]) = some (.lit (.int .i64 b), []) := trod_int_mk _ Tryd.underlying2 (W.2.2)
  have := trod_struct_mk (enc := enc) (P := Tryd.prog) (w := w) (base := base) (spare := sp) (held := held) (n := m + 1) (cs := headL p a b) (xs := [(.lit (.string p.data.toList), []), (.lit (.int .i64 a), []), (.lit (.int .i64 b), [])]) Tryd.underlying32 (by rw [cells_head]; rfl) (by
    simp only [cells_i, cells_s, List.mapM_cons, List.mapM_nil, List.drop_zero, List.drop_succ_cons, List.take_succ_cons, List.take_zero]
    simp [g0, g1, g2])
  simpa [headD] using this
theorem open_headV {H : Type} {enc : TypeId × Value → H} {w : World} {base : Nat} {sp : Nat → Bool} {held : Bool} {r : Reach} {b0 : Nat} {v : Value} {d : DataW H} {ps : List MemPlace} (hv : Value.okWide Tryd.prog w r b0 32 v) (h : DataW.Trod enc Tryd.prog w base sp held 32 v d ps) :
    ∃ (p : ByteArray) (a : Int) (b : Int), v = .agg (headA p a b) ∧ d = headD p a b ∧ ps = [] ∧ headW p a b := by
  obtain ⟨cs, rfl, _⟩ := okWide_struct Tryd.underlying32 hv
  obtain ⟨fuel, hf⟩ := h
  obtain ⟨p, a, b, hc, hx, W⟩ := head_open hf
  simp only [Prod.mk.injEq] at hx
  refine ⟨p, a, b, ?_, hx.1, hx.2, W⟩
  obtain ⟨l⟩ := cs
  simp only [Value.cells] at hc
  exact congrArg (fun l => Value.agg ⟨l⟩) hc
theorem shut_headV {H : Type} {enc : TypeId × Value → H} {w : World} {base : Nat} {sp : Nat → Bool} {held : Bool} (p : ByteArray) (a : Int) (b : Int) (W : headW p a b) : DataW.Trod enc Tryd.prog w base sp held 32 (.agg (headA p a b)) (headD p a b) [] :=
  ⟨_, head_mk 0 p a b W⟩

theorem cells_init : Tryd.prog.cellsOf 30 = 3 := by kernel_rfl
def initD {H : Type} (p : ByteArray) (q : ByteArray) (a : Int) : DataW H := .agg [.lit (.string p.data.toList), .lit (.string q.data.toList), .lit (.int .i64 a)]
abbrev initL (p : ByteArray) (q : ByteArray) (a : Int) : List Value := [.string p, .string q, .int .i64 a]
def initW (p : ByteArray) (q : ByteArray) (a : Int) : Prop := p.size ≤ maxLen ∧ q.size ≤ maxLen ∧ (Lit.int .i64 a).wf = true
theorem init_open {H : Type} {enc : TypeId × Value → H} {w : World} {base : Nat} {sp : Nat → Bool} {held : Bool} {fuel : Nat} {cs : List Value} {x : DataW H × List MemPlace} (h : DataW.trod enc Tryd.prog w base sp held fuel 30 cs = some x) :
    ∃ (p : ByteArray) (q : ByteArray) (a : Int), cs = initL p q a ∧ x = (initD p q a, []) ∧ initW p q a := by
  obtain ⟨xs, n, _, hx, hl, hn, hf⟩ := DataW.trod_struct Tryd.underlying30 h
  rw [cells_init] at hl
  match cs, hl with
  | [c0, c1, c2], _ =>
  match xs, hn with
  | [y0, y1, y2], _ =>
    have h0 : DataW.trod enc Tryd.prog w base sp held n 9 (List.take (Tryd.prog.cellsOf 9) (List.drop 0 [c0, c1, c2])) = some y0 := by have := hf 0 _ rfl; exact this
    rw [cells_s] at h0
    have g0 : DataW.trod enc Tryd.prog w base sp held n 9 [c0] = some y0 := h0
    obtain ⟨p, e0, r0, wp⟩ := DataW.trod_string Tryd.underlying9 g0
    have h1 : DataW.trod enc Tryd.prog w base sp held n 9 (List.take (Tryd.prog.cellsOf 9) (List.drop 1 [c0, c1, c2])) = some y1 := by have := hf 1 _ rfl; exact this
    rw [cells_s] at h1
    have g1 : DataW.trod enc Tryd.prog w base sp held n 9 [c1] = some y1 := h1
    obtain ⟨q, e1, r1, wq⟩ := DataW.trod_string Tryd.underlying9 g1
    have h2 : DataW.trod enc Tryd.prog w base sp held n 2 (List.take (Tryd.prog.cellsOf 2) (List.drop 2 [c0, c1, c2])) = some y2 := by have := hf 2 _ rfl; exact this
    rw [cells_i] at h2
    have g2 : DataW.trod enc Tryd.prog w base sp held n 2 [c2] = some y2 := h2
    obtain ⟨a, e2, r2, wa⟩ := DataW.trod_int Tryd.underlying2 g2
    simp only [List.cons.injEq, and_true] at e0
    obtain rfl := e0
    subst r0
    simp only [List.cons.injEq, and_true] at e1
    obtain rfl := e1
    subst r1
    simp only [List.cons.injEq, and_true] at e2
    obtain rfl := e2
    subst r2
    exact ⟨p, q, a, rfl, hx, wp, wq, wa⟩
theorem init_mk {H : Type} {enc : TypeId × Value → H} {w : World} {base : Nat} {sp : Nat → Bool} {held : Bool} (m : Nat) (p : ByteArray) (q : ByteArray) (a : Int) (W : initW p q a) :
    DataW.trod enc Tryd.prog w base sp held (m + 2) 30 (initL p q a) = some (initD p q a, []) := by
  have g0 : DataW.trod enc Tryd.prog w base sp held (m + 1) 9 ([.string p]) = some (.lit (.string p.data.toList), []) := trod_string_mk _ Tryd.underlying9 (W.1)
  have g1 : DataW.trod enc Tryd.prog w base sp held (m + 1) 9 ([.string q]) = some (.lit (.string q.data.toList), []) := trod_string_mk _ Tryd.underlying9 (W.2.1)
  have g2 : DataW.trod enc Tryd.prog w base sp held (m + 1) 2 ([.int .i64 a]) = some (.lit (.int .i64 a), []) := trod_int_mk _ Tryd.underlying2 (W.2.2)
  have := trod_struct_mk (enc := enc) (P := Tryd.prog) (w := w) (base := base) (spare := sp) (held := held) (n := m + 1) (cs := initL p q a) (xs := [(.lit (.string p.data.toList), []), (.lit (.string q.data.toList), []), (.lit (.int .i64 a), [])]) Tryd.underlying30 (by rw [cells_init]; rfl) (by
    simp only [cells_i, cells_s, List.mapM_cons, List.mapM_nil, List.drop_zero, List.drop_succ_cons, List.take_succ_cons, List.take_zero]
    simp [g0, g1, g2])
  simpa [initD] using this
theorem open_initV {H : Type} {enc : TypeId × Value → H} {w : World} {base : Nat} {sp : Nat → Bool} {held : Bool} {r : Reach} {b0 : Nat} {v : Value} {d : DataW H} {ps : List MemPlace} (hv : Value.okWide Tryd.prog w r b0 30 v) (h : DataW.Trod enc Tryd.prog w base sp held 30 v d ps) :
    ∃ (p : ByteArray) (q : ByteArray) (a : Int), v = .agg (initA p q a) ∧ d = initD p q a ∧ ps = [] ∧ initW p q a := by
  obtain ⟨cs, rfl, _⟩ := okWide_struct Tryd.underlying30 hv
  obtain ⟨fuel, hf⟩ := h
  obtain ⟨p, q, a, hc, hx, W⟩ := init_open hf
  simp only [Prod.mk.injEq] at hx
  refine ⟨p, q, a, ?_, hx.1, hx.2, W⟩
  obtain ⟨l⟩ := cs
  simp only [Value.cells] at hc
  exact congrArg (fun l => Value.agg ⟨l⟩) hc
theorem shut_initV {H : Type} {enc : TypeId × Value → H} {w : World} {base : Nat} {sp : Nat → Bool} {held : Bool} (p : ByteArray) (q : ByteArray) (a : Int) (W : initW p q a) : DataW.Trod enc Tryd.prog w base sp held 30 (.agg (initA p q a)) (initD p q a) [] :=
  ⟨_, init_mk 0 p q a W⟩

theorem cells_msg : Tryd.prog.cellsOf 34 = 4 := by kernel_rfl
def msgD {H : Type} (p : ByteArray) (a : Int) (b : Int) (s : ByteArray) : DataW H := .agg [headD p a b, .lit (.string s.data.toList)]
abbrev msgL (p : ByteArray) (a : Int) (b : Int) (s : ByteArray) : List Value := [.string p, .int .i64 a, .int .i64 b, .string s]
def msgW (p : ByteArray) (a : Int) (b : Int) (s : ByteArray) : Prop := p.size ≤ maxLen ∧ (Lit.int .i64 a).wf = true ∧ (Lit.int .i64 b).wf = true ∧ s.size ≤ maxLen
theorem msg_open {H : Type} {enc : TypeId × Value → H} {w : World} {base : Nat} {sp : Nat → Bool} {held : Bool} {fuel : Nat} {cs : List Value} {x : DataW H × List MemPlace} (h : DataW.trod enc Tryd.prog w base sp held fuel 34 cs = some x) :
    ∃ (p : ByteArray) (a : Int) (b : Int) (s : ByteArray), cs = msgL p a b s ∧ x = (msgD p a b s, []) ∧ msgW p a b s := by
  obtain ⟨xs, n, _, hx, hl, hn, hf⟩ := DataW.trod_struct Tryd.underlying34 h
  rw [cells_msg] at hl
  match cs, hl with
  | [c0, c1, c2, c3], _ =>
  match xs, hn with
  | [y0, y1], _ =>
    have h0 : DataW.trod enc Tryd.prog w base sp held n 32 (List.take (Tryd.prog.cellsOf 32) (List.drop 0 [c0, c1, c2, c3])) = some y0 := by have := hf 0 _ rfl; exact this
    rw [cells_head] at h0
    have g0 : DataW.trod enc Tryd.prog w base sp held n 32 [c0, c1, c2] = some y0 := h0
    obtain ⟨p, a, b, e0, r0, W0⟩ := head_open g0
    have h1 : DataW.trod enc Tryd.prog w base sp held n 9 (List.take (Tryd.prog.cellsOf 9) (List.drop 3 [c0, c1, c2, c3])) = some y1 := by have := hf 1 _ rfl; exact this
    rw [cells_s] at h1
    have g1 : DataW.trod enc Tryd.prog w base sp held n 9 [c3] = some y1 := h1
    obtain ⟨s, e1, r1, ws⟩ := DataW.trod_string Tryd.underlying9 g1
    simp only [headL, List.cons.injEq, and_true] at e0
    obtain ⟨rfl, rfl, rfl⟩ := e0
    subst r0
    simp only [List.cons.injEq, and_true] at e1
    obtain rfl := e1
    subst r1
    exact ⟨p, a, b, s, rfl, hx, W0.1, W0.2.1, W0.2.2, ws⟩
theorem msg_mk {H : Type} {enc : TypeId × Value → H} {w : World} {base : Nat} {sp : Nat → Bool} {held : Bool} (m : Nat) (p : ByteArray) (a : Int) (b : Int) (s : ByteArray) (W : msgW p a b s) :
    DataW.trod enc Tryd.prog w base sp held (m + 3) 34 (msgL p a b s) = some (msgD p a b s, []) := by
  have g0 : DataW.trod enc Tryd.prog w base sp held (m + 2) 32 (headL p a b) = some (headD p a b, []) := head_mk (m + 0) p a b ⟨W.1, W.2.1, W.2.2.1⟩
  have g1 : DataW.trod enc Tryd.prog w base sp held (m + 2) 9 ([.string s]) = some (.lit (.string s.data.toList), []) := trod_string_mk _ Tryd.underlying9 (W.2.2.2)
  have := trod_struct_mk (enc := enc) (P := Tryd.prog) (w := w) (base := base) (spare := sp) (held := held) (n := m + 2) (cs := msgL p a b s) (xs := [(headD p a b, []), (.lit (.string s.data.toList), [])]) Tryd.underlying34 (by rw [cells_msg]; rfl) (by
    simp only [cells_head, cells_s, List.mapM_cons, List.mapM_nil, List.drop_zero, List.drop_succ_cons, List.take_succ_cons, List.take_zero]
    simp [g0, g1])
  simpa [msgD] using this
theorem open_msgV {H : Type} {enc : TypeId × Value → H} {w : World} {base : Nat} {sp : Nat → Bool} {held : Bool} {r : Reach} {b0 : Nat} {v : Value} {d : DataW H} {ps : List MemPlace} (hv : Value.okWide Tryd.prog w r b0 34 v) (h : DataW.Trod enc Tryd.prog w base sp held 34 v d ps) :
    ∃ (p : ByteArray) (a : Int) (b : Int) (s : ByteArray), v = .agg (msgA p a b s) ∧ d = msgD p a b s ∧ ps = [] ∧ msgW p a b s := by
  obtain ⟨cs, rfl, _⟩ := okWide_struct Tryd.underlying34 hv
  obtain ⟨fuel, hf⟩ := h
  obtain ⟨p, a, b, s, hc, hx, W⟩ := msg_open hf
  simp only [Prod.mk.injEq] at hx
  refine ⟨p, a, b, s, ?_, hx.1, hx.2, W⟩
  obtain ⟨l⟩ := cs
  simp only [Value.cells] at hc
  exact congrArg (fun l => Value.agg ⟨l⟩) hc
theorem shut_msgV {H : Type} {enc : TypeId × Value → H} {w : World} {base : Nat} {sp : Nat → Bool} {held : Bool} (p : ByteArray) (a : Int) (b : Int) (s : ByteArray) (W : msgW p a b s) : DataW.Trod enc Tryd.prog w base sp held 34 (.agg (msgA p a b s)) (msgD p a b s) [] :=
  ⟨_, msg_mk 0 p a b s W⟩

end Go.Proofs.YtmekpinhhmknnaaDoor

/- Envelopes as arguments of a law: read from their cells, and back. -/
import Derived.Test.YtmekpinhhmknnaaDoorStr1
import Derived.Test.YtmekpinhhmknnaaDoorWire4
import Derived.Lib.SmallJoins
import Derived.ChangeMaps5
namespace Go.Proofs.YtmekpinhhmknnaaDoor
open Go.RowKit Go.My Go.Lib Go.ChangeShapes Go.WideShapes
set_option linter.unusedVariables false
set_option maxRecDepth 100000

theorem cells_env : Tryd.prog.cellsOf 36 = 10 := by kernel_rfl
def envD {H : Type} (f : Int) (t : Int) (z : Bool) (p : ByteArray) (q : ByteArray) (o : Int) (u : ByteArray) (a : Int) (b : Int) (s : ByteArray) : DataW H := .agg [.lit (.int .i64 f), .lit (.int .i64 t), .lit (.bool z), initD p q o, msgD u a b s]
abbrev envL (f : Int) (t : Int) (z : Bool) (p : ByteArray) (q : ByteArray) (o : Int) (u : ByteArray) (a : Int) (b : Int) (s : ByteArray) : List Value := [.int .i64 f, .int .i64 t, .bool z, .string p, .string q, .int .i64 o, .string u, .int .i64 a, .int .i64 b, .string s]
def envW (f : Int) (t : Int) (z : Bool) (p : ByteArray) (q : ByteArray) (o : Int) (u : ByteArray) (a : Int) (b : Int) (s : ByteArray) : Prop := (Lit.int .i64 f).wf = true ∧ (Lit.int .i64 t).wf = true ∧ p.size ≤ maxLen ∧ q.size ≤ maxLen ∧ (Lit.int .i64 o).wf = true ∧ u.size ≤ maxLen ∧ (Lit.int .i64 a).wf = true ∧ (Lit.int .i64 b).wf = true ∧ s.size ≤ maxLen
theorem env_open {H : Type} {enc : TypeId × Value → H} {w : World} {base : Nat} {sp : Nat → Bool} {held : Bool} {fuel : Nat} {cs : List Value} {x : DataW H × List MemPlace} (h : DataW.trod enc Tryd.prog w base sp held fuel 36 cs = some x) :
    ∃ (f : Int) (t : Int) (z : Bool) (p : ByteArray) (q : ByteArray) (o : Int) (u : ByteArray) (a : Int) (b : Int) (s : ByteArray), cs = envL f t z p q o u a b s ∧ x = (envD f t z p q o u a b s, []) ∧ envW f t z p q o u a b s := by
  obtain ⟨xs, n, _, hx, hl, hn, hf⟩ := DataW.trod_struct Tryd.underlying36 h
  rw [cells_env] at hl
  match cs, hl with
  | [c0, c1, c2, c3, c4, c5, c6, c7, c8, c9], _ =>
  match xs, hn with
  | [y0, y1, y2, y3, y4], _ =>
    have h0 : DataW.trod enc Tryd.prog w base sp held n 2 (List.take (Tryd.prog.cellsOf 2) (List.drop 0 [c0, c1, c2, c3, c4, c5, c6, c7, c8, c9])) = some y0 := by have := hf 0 _ rfl; exact this
    rw [cells_i] at h0
    have g0 : DataW.trod enc Tryd.prog w base sp held n 2 [c0] = some y0 := h0
    obtain ⟨f, e0, r0, wf⟩ := DataW.trod_int Tryd.underlying2 g0
    have h1 : DataW.trod enc Tryd.prog w base sp held n 2 (List.take (Tryd.prog.cellsOf 2) (List.drop 1 [c0, c1, c2, c3, c4, c5, c6, c7, c8, c9])) = some y1 := by have := hf 1 _ rfl; exact this
    rw [cells_i] at h1
    have g1 : DataW.trod enc Tryd.prog w base sp held n 2 [c1] = some y1 := h1
    obtain ⟨t, e1, r1, wt⟩ := DataW.trod_int Tryd.underlying2 g1
    have h2 : DataW.trod enc Tryd.prog w base sp held n 4 (List.take (Tryd.prog.cellsOf 4) (List.drop 2 [c0, c1, c2, c3, c4, c5, c6, c7, c8, c9])) = some y2 := by have := hf 2 _ rfl; exact this
    rw [cells_b] at h2
    have g2 : DataW.trod enc Tryd.prog w base sp held n 4 [c2] = some y2 := h2
    obtain ⟨z, e2, r2⟩ := DataW.trod_bool Tryd.underlying4 g2
    have h3 : DataW.trod enc Tryd.prog w base sp held n 30 (List.take (Tryd.prog.cellsOf 30) (List.drop 3 [c0, c1, c2, c3, c4, c5, c6, c7, c8, c9])) = some y3 := by have := hf 3 _ rfl; exact this
    rw [cells_init] at h3
    have g3 : DataW.trod enc Tryd.prog w base sp held n 30 [c3, c4, c5] = some y3 := h3
    obtain ⟨p, q, o, e3, r3, W3⟩ := init_open g3
    have h4 : DataW.trod enc Tryd.prog w base sp held n 34 (List.take (Tryd.prog.cellsOf 34) (List.drop 6 [c0, c1, c2, c3, c4, c5, c6, c7, c8, c9])) = some y4 := by have := hf 4 _ rfl; exact this
    rw [cells_msg] at h4
    have g4 : DataW.trod enc Tryd.prog w base sp held n 34 [c6, c7, c8, c9] = some y4 := h4
    obtain ⟨u, a, b, s, e4, r4, W4⟩ := msg_open g4
    simp only [List.cons.injEq, and_true] at e0
    obtain rfl := e0
    subst r0
    simp only [List.cons.injEq, and_true] at e1
    obtain rfl := e1
    subst r1
    simp only [List.cons.injEq, and_true] at e2
    obtain rfl := e2
    subst r2
    simp only [initL, List.cons.injEq, and_true] at e3
    obtain ⟨rfl, rfl, rfl⟩ := e3
    subst r3
    simp only [msgL, List.cons.injEq, and_true] at e4
    obtain ⟨rfl, rfl, rfl, rfl⟩ := e4
    subst r4
    exact ⟨f, t, z, p, q, o, u, a, b, s, rfl, hx, wf, wt, W3.1, W3.2.1, W3.2.2, W4.1, W4.2.1, W4.2.2.1, W4.2.2.2⟩
theorem env_mk {H : Type} {enc : TypeId × Value → H} {w : World} {base : Nat} {sp : Nat → Bool} {held : Bool} (m : Nat) (f : Int) (t : Int) (z : Bool) (p : ByteArray) (q : ByteArray) (o : Int) (u : ByteArray) (a : Int) (b : Int) (s : ByteArray) (W : envW f t z p q o u a b s) :
    DataW.trod enc Tryd.prog w base sp held (m + 4) 36 (envL f t z p q o u a b s) = some (envD f t z p q o u a b s, []) := by
  have g0 : DataW.trod enc Tryd.prog w base sp held (m + 3) 2 ([.int .i64 f]) = some (.lit (.int .i64 f), []) := trod_int_mk _ Tryd.underlying2 (W.1)
  have g1 : DataW.trod enc Tryd.prog w base sp held (m + 3) 2 ([.int .i64 t]) = some (.lit (.int .i64 t), []) := trod_int_mk _ Tryd.underlying2 (W.2.1)
  have g2 : DataW.trod enc Tryd.prog w base sp held (m + 3) 4 ([.bool z]) = some (.lit (.bool z), []) := trod_bool_mk _ Tryd.underlying4
  have g3 : DataW.trod enc Tryd.prog w base sp held (m + 3) 30 (initL p q o) = some (initD p q o, []) := init_mk (m + 1) p q o ⟨W.2.2.1, W.2.2.2.1, W.2.2.2.2.1⟩
  have g4 : DataW.trod enc Tryd.prog w base sp held (m + 3) 34 (msgL u a b s) = some (msgD u a b s, []) := msg_mk (m + 0) u a b s ⟨W.2.2.2.2.2.1, W.2.2.2.2.2.2.1, W.2.2.2.2.2.2.2.1, W.2.2.2.2.2.2.2.2⟩
  have := trod_struct_mk (enc := enc) (P := Tryd.prog) (w := w) (base := base) (spare := sp) (held := held) (n := m + 3) (cs := envL f t z p q o u a b s) (xs := [(.lit (.int .i64 f), []), (.lit (.int .i64 t), []), (.lit (.bool z), []), (initD p q o, []), (msgD u a b s, [])]) Tryd.underlying36 (by rw [cells_env]; rfl) (by
    simp only [cells_b, cells_i, cells_init, cells_msg, List.mapM_cons, List.mapM_nil, List.drop_zero, List.drop_succ_cons, List.take_succ_cons, List.take_zero]
    simp [g0, g1, g2, g3, g4])
  simpa [envD] using this
theorem open_envV {H : Type} {enc : TypeId × Value → H} {w : World} {base : Nat} {sp : Nat → Bool} {held : Bool} {r : Reach} {b0 : Nat} {v : Value} {d : DataW H} {ps : List MemPlace} (hv : Value.okWide Tryd.prog w r b0 36 v) (h : DataW.Trod enc Tryd.prog w base sp held 36 v d ps) :
    ∃ (f : Int) (t : Int) (z : Bool) (p : ByteArray) (q : ByteArray) (o : Int) (u : ByteArray) (a : Int) (b : Int) (s : ByteArray), v = .agg (envA f t z p q o u a b s) ∧ d = envD f t z p q o u a b s ∧ ps = [] ∧ envW f t z p q o u a b s := by
  obtain ⟨cs, rfl, _⟩ := okWide_struct Tryd.underlying36 hv
  obtain ⟨fuel, hf⟩ := h
  obtain ⟨f, t, z, p, q, o, u, a, b, s, hc, hx, W⟩ := env_open hf
  simp only [Prod.mk.injEq] at hx
  refine ⟨f, t, z, p, q, o, u, a, b, s, ?_, hx.1, hx.2, W⟩
  obtain ⟨l⟩ := cs
  simp only [Value.cells] at hc
  exact congrArg (fun l => Value.agg ⟨l⟩) hc
theorem shut_envV {H : Type} {enc : TypeId × Value → H} {w : World} {base : Nat} {sp : Nat → Bool} {held : Bool} (f : Int) (t : Int) (z : Bool) (p : ByteArray) (q : ByteArray) (o : Int) (u : ByteArray) (a : Int) (b : Int) (s : ByteArray) (W : envW f t z p q o u a b s) : DataW.Trod enc Tryd.prog w base sp held 36 (.agg (envA f t z p q o u a b s)) (envD f t z p q o u a b s) [] :=
  ⟨_, env_mk 0 f t z p q o u a b s W⟩

end Go.Proofs.YtmekpinhhmknnaaDoor

/- Regions that draw their order, made of operations whose results do not hang on it: loads, builds, calls that only make memory, new variables and their first stores. Nothing of the program is named. -/
import Derived.Test.YtkglgficmealnaaMathS
import Derived.Orders
import Derived.Below
import Derived.Laws.Tables
import Derived.Deep.MidRow
namespace Go.My
open Go.RowKit
set_option linter.unusedVariables false

def dstOf (ops : Array Oper) (i : Nat) : Option Tmp := (ops[i]?).bind (·.dst)
/-- The frame behind those of the first n operations that have come up. -/
def putAll (ops : Array Oper) (v : Nat → Value) (L : Nat → Bool) (a : Act) : Nat → Act
  | 0 => a
  | n + 1 => if L n then (putAll ops v L a n).put (dstOf ops n) (v n) else putAll ops v L a n
def Apart (ops : Array Oper) (m : Nat) : Prop := ∀ i j, i < m → j < m → i ≠ j → ∀ d, dstOf ops i = some d → dstOf ops j ≠ some d
def apartB (ops : Array Oper) (m : Nat) : Bool := (List.range m).all fun i => (List.range m).all fun j => i == j || dstOf ops i == none || dstOf ops i != dstOf ops j
theorem apart_of {ops : Array Oper} {m : Nat} (h : apartB ops m = true) : Apart ops m := by
  intro i j hi hj hne d hd he
  have := List.all_eq_true.1 (List.all_eq_true.1 h i (List.mem_range.2 hi)) j (List.mem_range.2 hj)
  simp [hne, hd, he] at this
theorem putAll_congr {ops : Array Oper} {v v' : Nat → Value} {L L' : Nat → Bool} {a : Act} : ∀ n, (∀ j, j < n → L j = L' j ∧ (L j = true → v j = v' j)) → putAll ops v L a n = putAll ops v' L' a n
  | 0, _ => rfl
  | n + 1, h => by
    have ih := putAll_congr (ops := ops) (a := a) n (fun j hj => h j (by omega))
    have hn := h n (by omega)
    unfold putAll
    rw [ih, ← hn.1]
    by_cases c : L n = true
    · rw [if_pos c, if_pos c, hn.2 c]
    · rw [if_neg c, if_neg c]
theorem putAll_add {ops : Array Oper} {m : Nat} (hd : Apart ops m) {v v' : Nat → Value} {L L' : Nat → Bool} {a : Act} {i : Nat} (hi : i < m) (h0 : L i = false) (h1 : L' i = true)
    (hL : ∀ j, j ≠ i → L' j = L j) (hv : ∀ j, j ≠ i → v' j = v j) : ∀ n, i < n → n ≤ m → putAll ops v' L' a n = (putAll ops v L a n).put (dstOf ops i) (v' i)
  | 0, h, _ => by omega
  | n + 1, h, hm => by
    by_cases c : n = i
    · subst c
      have := putAll_congr (ops := ops) (a := a) (v := v') (v' := v) (L := L') (L' := L) n (fun j hj => ⟨hL j (by omega), fun _ => hv j (by omega)⟩)
      show (if L' n then _ else _) = _
      rw [if_pos h1, this]
      show _ = ((if L n then _ else _ : Act)).put _ _
      rw [if_neg (by rw [h0]; decide)]
    · have ih := putAll_add hd (a := a) hi h0 h1 hL hv n (by omega) (by omega)
      show (if L' n then _ else _) = ((if L n then _ else _ : Act)).put _ _
      rw [hL n c, ih, hv n c]
      by_cases k : L n = true
      · rw [if_pos k, if_pos k]
        exact Act.put_comm _ _ _ (fun d e => hd i n hi (by omega) (Ne.symm c) d e)
      · rw [if_neg k, if_neg k]
theorem putAll_size {ops : Array Oper} {v : Nat → Value} {L : Nat → Bool} {a : Act} : ∀ n, (putAll ops v L a n).tmps.size = a.tmps.size
  | 0 => rfl
  | n + 1 => by
    have ih := putAll_size (ops := ops) (v := v) (L := L) (a := a) n
    unfold putAll
    split
    · cases dstOf ops n with
      | none => exact ih
      | some d => simp [Act.put, ih]
    · exact ih
theorem eval_old {ops : Array Oper} {v : Nat → Value} {L : Nat → Bool} {a : Act} {k : Tmp} : ∀ n, (∀ j, j < n → dstOf ops j ≠ some k) → (putAll ops v L a n).eval (.tmp k) = a.eval (.tmp k)
  | 0, _ => rfl
  | n + 1, h => by
    have ih := eval_old (v := v) (L := L) (a := a) n (fun j hj => h j (by omega))
    unfold putAll
    split
    · rw [Act.eval_put (fun d e c => h n (by omega) (by rw [e]; injection c with c; rw [c])), ih]
    · exact ih
theorem eval_new {ops : Array Oper} {m : Nat} (hd : Apart ops m) {v : Nat → Value} {L : Nat → Bool} {a : Act} {k : Tmp} {j : Nat} (hk : k < a.tmps.size) (hj : dstOf ops j = some k) (hl : L j = true) : ∀ n, j < n → n ≤ m → (putAll ops v L a n).eval (.tmp k) = v j
  | 0, h, _ => by omega
  | n + 1, h, hm => by
    by_cases c : n = j
    · subst c
      show ((if L n then _ else _ : Act)).eval _ = _
      rw [if_pos hl, hj]
      have := putAll_size (ops := ops) (v := v) (L := L) (a := a) n
      simp [Act.eval, Act.put, this, hk]
    · have ih := eval_new hd (v := v) (a := a) hk hj hl n (by omega) (by omega)
      show ((if L n then _ else _ : Act)).eval _ = _
      split
      · rw [Act.eval_put (fun d e c' => hd j n (by omega) (by omega) (Ne.symm c) k hj (by rw [e]; injection c' with c'; rw [c'])), ih]
      · exact ih

/-- What an operation does: it yields this value; it makes a variable; it stores into the variable that number j made. -/
inductive Kd
  | val (x : Value)
  | new (T : TypeId) (Z : Array Value)
  | put (j : Nat) (T : TypeId) (cs : Array Value)
  | old (g : Nat) (T : TypeId) (cs : Array Value)
/-- The blocks that stood at the start, but for those of G, are as they were. -/
structure Kept (G : Nat → Prop) (w w' : World) : Prop where
  os : w'.os = w.os
  tape : w'.tape = w.tape
  output : w'.output = w.output
  size : w.heap.size ≤ w'.heap.size
  block : ∀ k, k < w.heap.size → ¬ G k → w'.heap[k]? = w.heap[k]?
theorem Kept.refl (G : Nat → Prop) (w : World) : Kept G w w := ⟨rfl, rfl, rfl, Nat.le_refl _, fun _ _ _ => rfl⟩
theorem Kept.below {G : Nat → Prop} {w w' : World} (h : Kept G w w') (hG : ∀ k, ¬ G k) : Below w.heap.size w w' := ⟨h.os, h.tape, h.output, h.size, fun k hk => h.block k hk (hG k)⟩
theorem Kept.base {G : Nat → Prop} {B : Nat} {w w' : World} (h : Kept G w w') (hB : B ≤ w.heap.size) (hG : ∀ k, k < B → ¬ G k) : Below B w w' := ⟨h.os, h.tape, h.output, h.size, fun k hk => h.block k (by omega) (hG k hk)⟩
theorem Kept.then {G : Nat → Prop} {w w' w2 : World} (h : Kept G w w') (hb : Below w'.heap.size w' w2) : Kept G w w2 := ⟨hb.os.trans h.os, hb.tape.trans h.tape, hb.output.trans h.output, Nat.le_trans h.size hb.size, fun k hk hg => (hb.block k (by have := h.size; omega)).trans (h.block k hk hg)⟩
theorem Kept.mono {G G' : Nat → Prop} {w w' : World} (h : Kept G w w') (hG : ∀ k, G k → G' k) : Kept G' w w' := ⟨h.os, h.tape, h.output, h.size, fun k hk hg => h.block k hk (fun c => hg (hG k c))⟩
/-- The old blocks into which what has come up has stored; all of them. -/
def HitBy (D : Nat → Kd) (L : Nat → Bool) (k : Nat) : Prop := ∃ i T cs, L i = true ∧ D i = .old k T cs
def Hits (D : Nat → Kd) (k : Nat) : Prop := ∃ i T cs, D i = .old k T cs
def IsNew (k : Kd) : Prop := ∃ T Z, k = .new T Z
def OkAt (B : Nat) (D : Nat → Kd) (v : Nat → Value) (L : Nat → Bool) (w : World) (i : Nat) : Prop :=
  match D i with
  | .val x => v i = x
  | .new T Z => (∃ g cs, v i = .pointer (some ⟨g, 0, none⟩) ∧ B ≤ g ∧ cs.size = Z.size ∧ w.heap[g]? = some (.cells cs T (0, 0))) ∧ ∀ j, j ≠ i → L j = true → IsNew (D j) → v j ≠ v i
  | .put j T cs => (L j = true ∧ IsNew (D j)) ∧ ∃ g, v j = .pointer (some ⟨g, 0, none⟩) ∧ w.heap[g]? = some (.cells cs T (0, 0))
  | .old g T cs => g < B ∧ w.heap[g]? = some (.cells cs T (0, 0))
def OkAll (B : Nat) (D : Nat → Kd) (v : Nat → Value) (L : Nat → Bool) (w : World) : Prop := ∀ i, L i = true → OkAt B D v L w i
def Dep (o : Oper) (j : Nat) : Prop := ∃ e ∈ o.after, Region.binds .any e = true ∧ e.on = j
def depB (o : Oper) (j : Nat) : Bool := o.after.any fun e => Region.binds .any e && e.on == j
theorem dep_of {o : Oper} {j : Nat} (h : depB o j = true) : Dep o j := by
  obtain ⟨e, he, hb⟩ := Array.any_eq_true'.1 h
  simp at hb
  exact ⟨e, he, hb.1, hb.2⟩
/-- Where slot k has the value y from: from ahead of the region, or from an operation that this one waits for. -/
def Src (ops : Array Oper) (m : Nat) (a0 : Act) (D : Nat → Kd) (o : Oper) (k : Tmp) (y : Value) : Prop :=
  ((∀ j, j < m → dstOf ops j ≠ some k) ∧ a0.eval (.tmp k) = y) ∨ (∃ j, j < m ∧ dstOf ops j = some k ∧ D j = .val y ∧ Dep o j)
def freeB (ops : Array Oper) (m : Nat) (k : Tmp) : Bool := (List.range m).all fun j => dstOf ops j != some k
theorem src_old {ops : Array Oper} {m : Nat} {a0 : Act} {D : Nat → Kd} {o : Oper} {k : Tmp} {y : Value} (h : freeB ops m k = true) (e : a0.eval (.tmp k) = y) : Src ops m a0 D o k y :=
  .inl ⟨fun j hj c => by have := List.all_eq_true.1 h j (List.mem_range.2 hj); simp [c] at this, e⟩
theorem src_new {ops : Array Oper} {m : Nat} {a0 : Act} {D : Nat → Kd} {o : Oper} {k : Tmp} {y : Value} (j : Nat) (hj : j < m) (hd : dstOf ops j = some k) (e : D j = .val y) (h : depB o j = true) : Src ops m a0 D o k y := .inr ⟨j, hj, hd, e, dep_of h⟩
def StepOk (P : Program) (Q : Exit → Act → World → Prop) (ops : Array Oper) (m : Nat) (a0 : Act) (w0 : World) (D : Nat → Kd) (i : Nat) : Prop :=
  ∃ o, ops[i]? = some o ∧ o.guard = none ∧
  match D i with
  | .val x => ∃ N : List (Tmp × Value), (∀ p ∈ N, Src ops m a0 D o p.1 p.2) ∧ ∀ (a : Act) (w : World), (∀ p ∈ N, a.eval (.tmp p.1) = p.2) → Kept (Hits D) w0 w → o.wp P a w (fun a' w' => a' = a.put o.dst x ∧ Below w.heap.size w w') Q
  | .new T Z => o.op = .alloc T ∧ ∀ w, (Instr.alloc T true (.tuple #[])).run P w = .ok (.pointer (some ⟨w.heap.size, 0, none⟩)) (w.alloc (.cells Z T))
  | .put j T cs => ∃ d k, o.op = .store T (.tmp d) (.tmp k) ∧ o.dst = none ∧ j < m ∧ dstOf ops j = some d ∧ Dep o j ∧ (∃ Z, D j = .new T Z ∧ Z.size = cs.size) ∧ Src ops m a0 D o k (.agg cs) ∧ (P.info? T).map (·.size) = some cs.size ∧ cs.all (·.oneCell') = true ∧ (∀ i', i' ≠ i → ∀ T' cs', D i' ≠ .put j T' cs')
  | .old g T cs => ∃ d k od, o.op = .store T (.tmp d) (.tmp k) ∧ o.dst = none ∧ Src ops m a0 D o d (.pointer (some ⟨g, 0, none⟩)) ∧ w0.heap[g]? = some (.cells od T (0, 0)) ∧ od.size = cs.size ∧ Src ops m a0 D o k (.agg cs) ∧ (P.info? T).map (·.size) = some cs.size ∧ cs.all (·.oneCell') = true ∧ (∀ i', i' ≠ i → ∀ T' cs', D i' ≠ .old g T' cs')

section
variable {P : Program} {Q : Exit → Act → World → Prop} {ops : Array Oper} {m : Nat} {a0 : Act} {w0 : World} {D : Nat → Kd}

theorem upd_ne {v : Nat → Value} {i : Nat} {x : Value} {j : Nat} (h : j ≠ i) : (fun k => if k = i then x else v k) j = v j := if_neg h
theorem upd_at {v : Nat → Value} {i : Nat} {x : Value} : (fun k => if k = i then x else v k) i = x := if_pos rfl
theorem updL_ne {L : Nat → Bool} {i j : Nat} (h : j ≠ i) : (fun k => if k = i then true else L k) j = L j := if_neg h
theorem OkAll.grow {B : Nat} {v : Nat → Value} {L : Nat → Bool} {w w' : World} (h : OkAll B D v L w) (hb : Below w.heap.size w w') : OkAll B D v L w' := by
  intro i hi
  have := h i hi
  unfold OkAt at *
  split
  · rename_i x e; rw [e] at this; exact this
  · rename_i T Z e
    rw [e] at this
    obtain ⟨⟨g, cs, h1, h2, h3, h4⟩, h5⟩ := this
    exact ⟨⟨g, cs, h1, h2, h3, (hb.block g (Array.getElem?_eq_some_iff.1 h4).1).trans h4⟩, h5⟩
  · rename_i j T cs e
    rw [e] at this
    obtain ⟨h0, g, h1, h2⟩ := this
    exact ⟨h0, g, h1, (hb.block g (Array.getElem?_eq_some_iff.1 h2).1).trans h2⟩
  · rename_i g T cs e
    rw [e] at this
    exact ⟨this.1, (hb.block g (Array.getElem?_eq_some_iff.1 this.2).1).trans this.2⟩
/-- One operation more, that made no variable and stored into none. -/
theorem OkAll.more {B : Nat} {v : Nat → Value} {L : Nat → Bool} {w : World} {i : Nat} {x : Value} (h : OkAll B D v L w) (h0 : L i = false) (hx : D i = .val x) :
    OkAll B D (fun k => if k = i then x else v k) (fun k => if k = i then true else L k) w := by
  intro j hj
  by_cases c : j = i
  · subst c; unfold OkAt; rw [hx]; exact if_pos rfl
  · have hl : L j = true := by rw [← updL_ne (L := L) c]; exact hj
    have := h j hl
    unfold OkAt at *
    split
    · rename_i y e; rw [e] at this; exact (upd_ne c).trans this
    · rename_i T Z e
      rw [e] at this
      obtain ⟨⟨g, cs, h1, h2⟩, h5⟩ := this
      refine ⟨⟨g, cs, (upd_ne c).trans h1, h2⟩, fun q hq hlq hn => ?_⟩
      have hqi : q ≠ i := fun e => by subst e; rw [hx] at hn; obtain ⟨_, _, hn⟩ := hn; cases hn
      rw [upd_ne hqi, upd_ne c]
      exact h5 q hq (by rw [← updL_ne (L := L) hqi]; exact hlq) hn
    · rename_i q T cs e
      rw [e] at this
      obtain ⟨⟨hq, hn⟩, g, h1, h2⟩ := this
      have hqi : q ≠ i := fun e => by subst e; rw [h0] at hq; cases hq
      exact ⟨⟨(updL_ne hqi).trans hq, hn⟩, g, (upd_ne hqi).trans h1, h2⟩
    · rename_i g T' cs e
      rw [e] at this
      exact this
theorem OkAll.made {B : Nat} {v : Nat → Value} {L : Nat → Bool} {w : World} {i : Nat} {T : TypeId} {Z : Array Value} (h : OkAll B D v L w) (h0 : L i = false) (hx : D i = .new T Z) (hB : B ≤ w.heap.size) :
    OkAll B D (fun k => if k = i then .pointer (some ⟨w.heap.size, 0, none⟩) else v k) (fun k => if k = i then true else L k) (w.alloc (.cells Z T)) := by
  have hg := h.grow (w' := w.alloc (.cells Z T)) ((Below.refl _ _).alloc (Nat.le_refl _) _)
  have apart : ∀ j, j ≠ i → L j = true → IsNew (D j) → v j ≠ .pointer (some ⟨w.heap.size, 0, none⟩) := fun j hj hl ⟨T', Z', hn⟩ e => by
    have := h j hl
    unfold OkAt at this
    rw [hn] at this
    obtain ⟨⟨g, cs, h1, _, _, h4⟩, _⟩ := this
    rw [h1] at e
    injection e with e; injection e with e; injection e with e
    have := (Array.getElem?_eq_some_iff.1 h4).1
    omega
  intro j hj
  by_cases c : j = i
  · subst c
    unfold OkAt
    rw [hx]
    refine ⟨⟨w.heap.size, Z, if_pos rfl, hB, rfl, heap_alloc_new w _⟩, fun q hq hl hn => ?_⟩
    rw [upd_ne hq, upd_at]
    exact apart q hq (by rw [← updL_ne (L := L) hq]; exact hl) hn
  · have hl : L j = true := by rw [← updL_ne (L := L) c]; exact hj
    have := hg j hl
    unfold OkAt at *
    split
    · rename_i y e; rw [e] at this; exact (upd_ne c).trans this
    · rename_i T' Z' e
      rw [e] at this
      obtain ⟨⟨g, cs, h1, h2⟩, h5⟩ := this
      refine ⟨⟨g, cs, (upd_ne c).trans h1, h2⟩, fun q hq hlq hn => ?_⟩
      by_cases hqi : q = i
      · subst hqi
        rw [upd_at, upd_ne c]
        exact Ne.symm (apart j c hl ⟨_, _, e⟩)
      · rw [upd_ne hqi, upd_ne c]
        exact h5 q hq (by rw [← updL_ne (L := L) hqi]; exact hlq) hn
    · rename_i q T' cs e
      rw [e] at this
      obtain ⟨⟨hq, hn⟩, g, h1, h2⟩ := this
      have hqi : q ≠ i := fun e => by subst e; rw [h0] at hq; cases hq
      exact ⟨⟨(updL_ne hqi).trans hq, hn⟩, g, (upd_ne hqi).trans h1, h2⟩
    · rename_i g T' cs e
      rw [e] at this
      exact this
theorem OkAll.stored {B : Nat} {v : Nat → Value} {L : Nat → Bool} {w : World} {i j g : Nat} {T : TypeId} {Z cs : Array Value} (h : OkAll B D v L w) (h0 : L i = false) (hx : D i = .put j T cs) (hj : D j = .new T Z) (hz : Z.size = cs.size) (hlj : L j = true)
    (hv : v j = .pointer (some ⟨g, 0, none⟩)) (hBg : B ≤ g) {old : Array Value} (hg : w.heap[g]? = some (.cells old T (0, 0))) (hu : ∀ i', i' ≠ i → ∀ T' cs', D i' ≠ .put j T' cs') :
    OkAll B D (fun k => if k = i then undef else v k) (fun k => if k = i then true else L k) (w.setRow g cs) := by
  have hji : j ≠ i := fun e => by subst e; rw [h0] at hlj; cases hlj
  intro q hq
  by_cases c : q = i
  · subst c
    unfold OkAt
    rw [hx]
    exact ⟨⟨(updL_ne hji).trans hlj, ⟨_, _, hj⟩⟩, g, (upd_ne hji).trans hv, setRow_heap w g old cs T (0, 0) hg⟩
  · have hl : L q = true := by rw [← updL_ne (L := L) c]; exact hq
    have := h q hl
    unfold OkAt at *
    split
    · rename_i y e; rw [e] at this; exact (upd_ne c).trans this
    · rename_i T' Z' e
      rw [e] at this
      obtain ⟨⟨g', cs', h1, h2, h3, h4⟩, h5⟩ := this
      refine ⟨?_, fun r hr hlr hn => ?_⟩
      · by_cases k : g' = g
        · subst k
          have hqj : q = j := by
            refine Classical.byContradiction fun hne => ?_
            exact h5 j (Ne.symm hne) hlj ⟨_, _, hj⟩ (by rw [h1, hv])
          subst hqj
          rw [hj] at e
          injection e with e1 e2
          subst e1; subst e2
          exact ⟨g', cs, (upd_ne c).trans h1, h2, hz.symm, setRow_heap w g' old cs T (0, 0) hg⟩
        · exact ⟨g', cs', (upd_ne c).trans h1, h2, h3, (setRow_other w g g' cs k).trans h4⟩
      · have hri : r ≠ i := fun e => by subst e; rw [hx] at hn; obtain ⟨_, _, hn⟩ := hn; cases hn
        rw [upd_ne hri, upd_ne c]
        exact h5 r hr (by rw [← updL_ne (L := L) hri]; exact hlr) hn
    · rename_i r T' cs' e
      rw [e] at this
      obtain ⟨⟨hr, hn⟩, g', h1, h2⟩ := this
      have hri : r ≠ i := fun e => by subst e; rw [h0] at hr; cases hr
      refine ⟨⟨(updL_ne hri).trans hr, hn⟩, g', (upd_ne hri).trans h1, ?_⟩
      by_cases k : g' = g
      · subst k
        exfalso
        by_cases hrj : r = j
        · subst hrj; exact hu q c _ _ e
        · have hjj := h j hlj
          unfold OkAt at hjj
          rw [hj] at hjj
          exact hjj.2 r hrj hr hn (by rw [h1, hv])
      · exact (setRow_other w g g' cs k).trans h2
    · rename_i g' T' cs' e
      rw [e] at this
      exact ⟨this.1, (setRow_other w g g' cs (by omega)).trans this.2⟩
theorem OkAll.storedOld {B : Nat} {v : Nat → Value} {L : Nat → Bool} {w : World} {i g : Nat} {T : TypeId} {cs : Array Value} (h : OkAll B D v L w) (h0 : L i = false) (hx : D i = .old g T cs) (hgB : g < B)
    {od : Array Value} (hg : w.heap[g]? = some (.cells od T (0, 0))) (hu : ∀ i', i' ≠ i → ∀ T' cs', D i' ≠ .old g T' cs') :
    OkAll B D (fun k => if k = i then undef else v k) (fun k => if k = i then true else L k) (w.setRow g cs) := by
  intro q hq
  by_cases c : q = i
  · subst c
    unfold OkAt
    rw [hx]
    exact ⟨hgB, setRow_heap w g od cs T (0, 0) hg⟩
  · have hl : L q = true := by rw [← updL_ne (L := L) c]; exact hq
    have := h q hl
    unfold OkAt at *
    split
    · rename_i y e; rw [e] at this; exact (upd_ne c).trans this
    · rename_i T' Z' e
      rw [e] at this
      obtain ⟨⟨g', cs', h1, h2, h3, h4⟩, h5⟩ := this
      refine ⟨⟨g', cs', (upd_ne c).trans h1, h2, h3, (setRow_other w g g' cs (by omega)).trans h4⟩, fun r hr hlr hn => ?_⟩
      have hri : r ≠ i := fun e => by subst e; rw [hx] at hn; obtain ⟨_, _, hn⟩ := hn; cases hn
      rw [upd_ne hri, upd_ne c]
      exact h5 r hr (by rw [← updL_ne (L := L) hri]; exact hlr) hn
    · rename_i r T' cs' e
      rw [e] at this
      obtain ⟨⟨hr, hn⟩, g', h1, h2⟩ := this
      have hri : r ≠ i := fun e => by subst e; rw [h0] at hr; cases hr
      refine ⟨⟨(updL_ne hri).trans hr, hn⟩, g', (upd_ne hri).trans h1, ?_⟩
      have hBg : B ≤ g' := by
        obtain ⟨T2, Z2, hn2⟩ := hn
        have hrr := h r hr
        unfold OkAt at hrr
        rw [hn2] at hrr
        obtain ⟨⟨g2, _, e1, e2, _⟩, _⟩ := hrr
        rw [h1] at e1
        injection e1 with e1; injection e1 with e1; injection e1 with e1
        omega
      exact (setRow_other w g g' cs (by omega)).trans h2
    · rename_i g' T' cs' e
      rw [e] at this
      exact ⟨this.1, (setRow_other w g g' cs (fun k => by subst k; exact hu q c _ _ e)).trans this.2⟩

theorem okPtr {B : Nat} {v : Nat → Value} {L : Nat → Bool} {w : World} {j : Nat} {T : TypeId} {Z : Array Value} (h : OkAll B D v L w) (hl : L j = true) (hj : D j = .new T Z) : ∃ g cs, v j = .pointer (some ⟨g, 0, none⟩) ∧ B ≤ g ∧ cs.size = Z.size ∧ w.heap[g]? = some (.cells cs T (0, 0)) := by
  have := h j hl
  unfold OkAt at this
  rw [hj] at this
  exact this.1
theorem okVal {B : Nat} {v : Nat → Value} {L : Nat → Bool} {w : World} {j : Nat} {x : Value} (h : OkAll B D v L w) (hl : L j = true) (hj : D j = .val x) : v j = x := by
  have := h j hl
  unfold OkAt at this
  rw [hj] at this
  exact this
theorem okRow {B : Nat} {v : Nat → Value} {L : Nat → Bool} {w : World} {i j : Nat} {T : TypeId} {cs : Array Value} (h : OkAll B D v L w) (hl : L i = true) (hj : D i = .put j T cs) : ∃ g, v j = .pointer (some ⟨g, 0, none⟩) ∧ w.heap[g]? = some (.cells cs T (0, 0)) := by
  have := h i hl
  unfold OkAt at this
  rw [hj] at this
  exact this.2
theorem Src.eval {o : Oper} {k : Tmp} {y : Value} {B : Nat} {v : Nat → Value} {L : Nat → Bool} {w : World} (hd : Apart ops m) (hsz : ∀ j d, dstOf ops j = some d → d < a0.tmps.size) (h : Src ops m a0 D o k y) (ho : OkAll B D v L w) (hdep : ∀ j, Dep o j → L j = true) :
    (putAll ops v L a0 m).eval (.tmp k) = y := by
  rcases h with ⟨h1, h2⟩ | ⟨j, hj, h1, h2, h3⟩
  · exact (eval_old m h1).trans h2
  · exact (eval_new hd (hsz j k h1) h1 (hdep j h3) m hj (Nat.le_refl _)).trans (okVal ho (hdep j h3) h2)

/-- One operation comes up. -/
theorem step_ok {B : Nat} (hB : B = w0.heap.size) (hd : Apart ops m) (hsz : ∀ j d, dstOf ops j = some d → d < a0.tmps.size) {i : Nat} (hi : i < m) (hs : StepOk P Q ops m a0 w0 D i) {v : Nat → Value} {L : Nat → Bool} {w : World}
    (ho : OkAll B D v L w) (hb : Kept (HitBy D L) w0 w) (h0 : L i = false) {o : Oper} (hoi : ops[i]? = some o) (hdep : ∀ j, Dep o j → L j = true) :
    o.guard = none ∧ o.wp P (putAll ops v L a0 m) w (fun a' w' => ∃ v', a' = putAll ops v' (fun k => if k = i then true else L k) a0 m ∧ OkAll B D v' (fun k => if k = i then true else L k) w' ∧ Kept (HitBy D (fun k => if k = i then true else L k)) w0 w') Q := by
  have up : ∀ k, HitBy D L k → HitBy D (fun k => if k = i then true else L k) k := fun k ⟨q, T, cs, h1, h2⟩ => ⟨q, T, cs, by
    by_cases c : q = i
    · exact if_pos c
    · exact (updL_ne c).trans h1, h2⟩
  obtain ⟨o', ho', hg, hk⟩ := hs
  rw [hoi] at ho'
  obtain rfl := Option.some.inj ho'
  refine ⟨hg, ?_⟩
  have hdst : dstOf ops i = o.dst := by unfold dstOf; rw [hoi]; rfl
  have add : ∀ x, (putAll ops v L a0 m).put o.dst x = putAll ops (fun k => if k = i then x else v k) (fun k => if k = i then true else L k) a0 m := fun x => by
    have := putAll_add hd (a := a0) (v := v) (v' := fun k => if k = i then x else v k) (L := L) (L' := fun k => if k = i then true else L k) hi h0 (if_pos rfl) (fun j hj => if_neg hj) (fun j hj => if_neg hj) m hi (Nat.le_refl _)
    rw [this, hdst, if_pos rfl]
  cases hD : D i with
  | val x =>
    rw [hD] at hk
    obtain ⟨N, hN, hw⟩ := hk
    refine Oper.wp_mono ?_ (hw _ w (fun p hp => (hN p hp).eval hd hsz ho hdep) (hb.mono fun k ⟨q, T, cs, _, h⟩ => ⟨q, T, cs, h⟩))
    rintro a' w' ⟨rfl, hb'⟩
    exact ⟨_, add x, (ho.grow hb').more h0 hD, (hb.then hb').mono up⟩
  | new T Z =>
    rw [hD] at hk
    obtain ⟨hop, hrun⟩ := hk
    unfold Oper.wp execOp
    simp only [hop, Sem.run_bind, hrun w, Result.andThen_ok, Sem.run_pure, Oper.upon]
    exact ⟨_, add _, ho.made h0 hD (by rw [hB]; exact hb.size), (hb.then ((Below.refl _ _).alloc (Nat.le_refl _) _)).mono up⟩
  | put j T cs =>
    rw [hD] at hk
    obtain ⟨d, k, hop, hdn, hjm, hjd, hjdep, ⟨Z, hjn, hz⟩, hsrc, hinfo, hone, huniq⟩ := hk
    have hlj := hdep j hjdep
    obtain ⟨g, old, hv, hBg, hos, hgb⟩ := okPtr ho hlj hjn
    have hx : (putAll ops v L a0 m).eval (.tmp d) = .pointer (some ⟨g, 0, none⟩) := (eval_new hd (hsz j d hjd) hjd hlj m hjm (Nat.le_refl _)).trans hv
    have hy := hsrc.eval hd hsz ho hdep
    have hst := run_storeVar_row (P := P) w g T T old cs hgb hinfo (by omega) hone
    unfold Oper.wp execOp
    simp only [hop, hx, hy, Instr.storeAt, Instr.sureAddr, Sem.run_bind, Sem.run_pure, Result.andThen_ok, hst, Oper.upon]
    refine ⟨_, add _, ho.stored h0 hD hjn hz hlj hv hBg hgb huniq, ?_⟩
    exact ⟨hb.os, hb.tape, hb.output, by have := hb.size; simpa using this, fun q hq hn => (setRow_other w g q cs (by omega)).trans (hb.block q hq fun c => hn (up q c))⟩
  | old g T cs =>
    rw [hD] at hk
    obtain ⟨d, k, od, hop, hdn, hsd, hgb0, hos, hsrc, hinfo, hone, huniq⟩ := hk
    have hgl : g < w0.heap.size := (Array.getElem?_eq_some_iff.1 hgb0).1
    have hgb : w.heap[g]? = some (.cells od T (0, 0)) := (hb.block g hgl (fun ⟨q, T', cs', h1, h2⟩ => by
      by_cases c : q = i
      · subst c; rw [h0] at h1; cases h1
      · exact huniq q c _ _ h2)).trans hgb0
    have hx := hsd.eval hd hsz ho hdep
    have hy := hsrc.eval hd hsz ho hdep
    have hst := run_storeVar_row (P := P) w g T T od cs hgb hinfo hos hone
    unfold Oper.wp execOp
    simp only [hop, hx, hy, Instr.storeAt, Instr.sureAddr, Sem.run_bind, Sem.run_pure, Result.andThen_ok, hst, Oper.upon]
    refine ⟨_, add _, ho.storedOld h0 hD (by rw [hB]; exact hgl) hgb huniq, ?_⟩
    refine ⟨hb.os, hb.tape, hb.output, by have := hb.size; simpa using this, fun q hq hn => ?_⟩
    exact (setRow_other w g q cs (fun c => hn ⟨i, T, cs, if_pos rfl, by rw [hD, c]⟩)).trans (hb.block q hq fun c => hn (up q c))

def cntF (L : Nat → Bool) : Nat → Nat
  | 0 => 0
  | n + 1 => cntF L n + if L n then 0 else 1
theorem cntF_set {L : Nat → Bool} {i : Nat} (h : L i = false) : ∀ n, i < n → cntF (fun k => if k = i then true else L k) n + 1 = cntF L n
  | 0, h => by omega
  | n + 1, hn => by
    by_cases c : n = i
    · subst c
      have e : ∀ q, q ≤ n → cntF (fun k => if k = n then true else L k) q = cntF L q := fun q => by
        induction q with
        | zero => intro _; rfl
        | succ q ih => intro hq; show cntF _ q + _ = cntF L q + _; rw [ih (by omega), updL_ne (L := L) (by omega : q ≠ n)]
      show cntF _ n + (if (if n = n then true else L n) then 0 else 1) + 1 = cntF L n + if L n then 0 else 1
      rw [e n (Nat.le_refl _), if_pos rfl, h]
      simp
    · have ih := cntF_set h n (by omega)
      show cntF _ n + (if (if n = i then true else L n) then 0 else 1) + 1 = cntF L n + if L n then 0 else 1
      rw [if_neg c]
      omega
theorem cntF_pos {L : Nat → Bool} : ∀ n, cntF L n = 0 → ∀ j, j < n → L j = true
  | 0, _, j, h => by omega
  | n + 1, h, j, hj => by
    have h' : cntF L n + (if L n then 0 else 1) = 0 := h
    by_cases c : j = n
    · subst c
      cases e : L j with
      | true => rfl
      | false => rw [e] at h'; simp at h'
    · exact cntF_pos n (by omega) j (by omega)
/-- The operations that one waits for, through others. -/
def cloB (ops : Array Oper) : Nat → List Nat → List Nat
  | 0, S => S
  | n + 1, S => cloB ops n (S ++ ((List.range ops.size).filter fun j => !S.contains j && S.any fun i => ((ops[i]?).map (depB · j)).getD false))
theorem cloB_sound {L : Nat → Bool} (hc : ∀ i o, ops[i]? = some o → L i = true → ∀ j, Dep o j → L j = true) : ∀ n S, (∀ j ∈ S, L j = true) → ∀ j ∈ cloB ops n S, L j = true
  | 0, _, h, j, hj => h j hj
  | n + 1, S, h, j, hj => by
    refine cloB_sound hc n _ (fun q hq => ?_) j hj
    rcases List.mem_append.1 hq with hq | hq
    · exact h q hq
    · have := (List.mem_filter.1 hq).2
      simp only [Bool.and_eq_true, List.any_eq_true] at this
      obtain ⟨_, i, hi, hd⟩ := this
      cases ho : ops[i]? with
      | none => simp [ho] at hd
      | some o =>
        rw [ho] at hd
        exact hc i o ho (h i hi) q (dep_of hd)
def orderB (ops : Array Oper) : Bool := (List.range ops.size).all fun i => ((ops[i]?).map fun o => o.after.all fun e => !Region.binds .any e || decide (e.on < i)).getD true
def tailB (ops : Array Oper) (m : Nat) : Bool := (List.range ops.size).all fun i => decide (i < m) || ((ops[i]?).map fun o => (List.range m).all fun j => (cloB ops ops.size ((List.range ops.size).filter (depB o))).contains j).getD false
def dstB (ops : Array Oper) (n : Nat) : Bool := (List.range ops.size).all fun j => match dstOf ops j with | some d => decide (d < n) | none => true
def listedTo (n m : Nat) : Array Bool := ((List.range n).map fun j => decide (j < m)).toArray

theorem any_ok {B : Nat} (hB : B = w0.heap.size) (hmn : m ≤ ops.size) (hd : Apart ops m) (hsz : ∀ j d, dstOf ops j = some d → d < a0.tmps.size) (hord : orderB ops = true) (htail : tailB ops m = true)
    (hs : ∀ i, i < m → StepOk P Q ops m a0 w0 D i)
    (hK : ∀ v w, OkAll B D v (fun j => decide (j < m)) w → Kept (HitBy D (fun j => decide (j < m))) w0 w → wpAny P .any ops Q (ops.size - m) (listedTo ops.size m) (putAll ops v (fun j => decide (j < m)) a0 m) w) :
    ∀ (c : Nat) (L : Array Bool) (v : Nat → Value) (w : World), L.size = ops.size → c = cntF (fun j => L.getD j false) m → (∀ j, m ≤ j → L.getD j false = false) →
      (∀ i o, ops[i]? = some o → L.getD i false = true → ∀ j, Dep o j → L.getD j false = true) →
      OkAll B D v (fun j => L.getD j false) w → Kept (HitBy D (fun j => L.getD j false)) w0 w → wpAny P .any ops Q (ops.size - m + c) L (putAll ops v (fun j => L.getD j false) a0 m) w := by
  intro c
  induction c with
  | zero =>
    intro L v w hL hc htop hclo ho hb
    have hall := cntF_pos m hc.symm
    have he : (fun j => L.getD j false) = fun j => decide (j < m) := by
      funext j
      by_cases h : j < m
      · rw [hall j h, decide_eq_true h]
      · rw [htop j (by omega), decide_eq_false h]
    have hLe : L = listedTo ops.size m := by
      apply Array.ext
      · simp [listedTo, hL]
      · intro j h1 h2
        have := congrFun he j
        simp only [Array.getD_eq_getD_getElem?, Array.getElem?_eq_getElem h1, Option.getD_some] at this
        rw [this]
        simp [listedTo]
    rw [he] at ho hb ⊢
    rw [hLe]
    exact hK v w ho hb
  | succ c ih =>
    intro L v w hL hc htop hclo ho hb
    have hlt : ∃ j, j < m ∧ L.getD j false = false ∧ ∀ q, q < j → L.getD q false = true := by
      refine Classical.byContradiction fun hno => ?_
      have all : ∀ j, j ≤ m → ∀ q, q < j → L.getD q false = true := by
        intro j
        induction j with
        | zero => intro _ q hq; omega
        | succ j ih2 =>
          intro hj q hq
          by_cases e : q = j
          · subst e
            cases h : L.getD q false with
            | true => rfl
            | false => exact absurd ⟨q, by omega, h, ih2 (by omega)⟩ hno
          · exact ih2 (by omega) q (by omega)
      have z : ∀ n, n ≤ m → cntF (fun j => L.getD j false) n = 0 := by
        intro n
        induction n with
        | zero => intro _; rfl
        | succ n ih3 => intro hn; show cntF _ n + _ = 0; rw [ih3 (by omega), if_pos (show (fun j => L.getD j false) n = true from all m (Nat.le_refl _) n (by omega))]
      rw [z m (Nat.le_refl _)] at hc
      omega
    have inb : ∀ j, j < ops.size → L.getD j true = L.getD j false := fun j hj => by
      simp [Array.getD_eq_getD_getElem?, Array.getElem?_eq_getElem (show j < L.size by omega)]
    show wpAny P .any ops Q ((ops.size - m + c) + 1) L _ w
    refine ⟨fun h => ?_, fun i hi => ?_⟩
    · obtain ⟨j, hj, hf, hq⟩ := hlt
      have hjs : j < ops.size := by omega
      have hr : j ∈ Region.ready .any ops L := mem_ready.2 ⟨(inb j hjs).trans hf, ops[j], Array.getElem?_eq_getElem hjs, fun e he hbd => hq e.on ?_⟩
      · rw [h] at hr; cases hr
      · have := List.all_eq_true.1 hord j (List.mem_range.2 hjs)
        rw [Array.getElem?_eq_getElem hjs] at this
        have := Array.all_eq_true'.1 this e he
        simpa [hbd] using this
    · obtain ⟨hu, o, hoi, hdeps⟩ := mem_ready.1 hi
      have his : i < ops.size := (Array.getElem?_eq_some_iff.1 hoi).1
      rw [inb i his] at hu
      have hdep : ∀ j, Dep o j → L.getD j false = true := fun j ⟨e, he, hb, hj⟩ => hj ▸ hdeps e he hb
      have him : i < m := by
        refine Classical.byContradiction fun hge => ?_
        have := List.all_eq_true.1 htail i (List.mem_range.2 his)
        rw [hoi, decide_eq_false hge] at this
        obtain ⟨j, hj, hf, _⟩ := hlt
        have h2 : ∀ x, x < m → x ∈ cloB ops ops.size (List.filter (depB o) (List.range ops.size)) := by simpa using this
        have : L.getD j false = true := cloB_sound (L := fun j => L.getD j false) hclo ops.size _ (fun q hq => hdep q (dep_of (List.mem_filter.1 hq).2)) j (h2 j hj)
        rw [hf] at this
        cases this
      obtain ⟨hg, hw⟩ := step_ok hB hd hsz him (hs i him) ho hb hu hoi hdep
      unfold wpOp
      simp only [hoi]
      rw [if_pos (by unfold Region.wanted; rw [hg])]
      refine .inl (Oper.wp_mono ?_ hw)
      rintro a' w' ⟨v', rfl, ho', hb'⟩
      have hset : (fun j => (L.setIfInBounds i true).getD j false) = fun k => if k = i then true else L.getD k false := by
        funext j
        by_cases e : j = i
        · subst e
          rw [if_pos rfl]
          simp [Array.getD_eq_getD_getElem?, show j < L.size by omega]
        · rw [if_neg e]
          exact getD_set_ne false (Ne.symm e)
      rw [← hset] at ho' hb' ⊢
      refine ih (L.setIfInBounds i true) v' w' (by simpa using hL) ?_ ?_ ?_ ho' hb'
      · rw [hset]
        have := cntF_set (L := fun j => L.getD j false) hu m him
        omega
      · intro j hj
        rw [congrFun hset j, if_neg (by omega)]
        exact htop j hj
      · intro j oj hoj hlj q hq
        rw [congrFun hset q]
        by_cases e : q = i
        · rw [if_pos e]
        · rw [if_neg e]
          rw [congrFun hset j] at hlj
          by_cases e2 : j = i
          · subst e2
            rw [hoi] at hoj
            obtain rfl := Option.some.inj hoj
            exact hdep q hq
          · rw [if_neg e2] at hlj
            exact hclo j oj hoj hlj q hq

/-- **A region of such operations, in whatever order**: m of them, behind which the rest comes. -/
theorem region_fun {id : Nat} (m : Nat) (D : Nat → Kd) (hm : P.follows .mixedOrders = true) (hmn : m ≤ ops.size) (hd : apartB ops m = true) (hord : orderB ops = true) (htail : tailB ops m = true) (hsz : dstB ops a0.tmps.size = true)
    (hs : ∀ i, i < m → StepOk P Q ops m a0 w0 D i)
    (hK : ∀ v w, OkAll w0.heap.size D v (fun j => decide (j < m)) w → Kept (HitBy D (fun j => decide (j < m))) w0 w → wpAny P .any ops Q (ops.size - m) (listedTo ops.size m) (putAll ops v (fun j => decide (j < m)) a0 m) w) :
    (Code.region id ops true).wp P Q a0 w0 := by
  refine wp_region_any hm ?_
  have hz : ∀ j, (Array.replicate ops.size false).getD j false = false := fun j => by
    simp only [Array.getD_eq_getD_getElem?, Array.getElem?_replicate]
    split <;> rfl
  have hzf : (fun j => (Array.replicate ops.size false).getD j false) = fun _ => false := funext hz
  have hput : ∀ v n, putAll ops v (fun _ => false) a0 n = a0 := fun v n => by
    induction n with
    | zero => rfl
    | succ n ih => unfold putAll; rw [if_neg (by decide)]; exact ih
  have hcnt : ∀ n, cntF (fun _ => false) n = n := fun n => by
    induction n with
    | zero => rfl
    | succ n ih => unfold cntF; rw [ih]; rfl
  have := any_ok (P := P) (Q := Q) (ops := ops) (m := m) (a0 := a0) (w0 := w0) (D := D) rfl hmn (apart_of hd)
    (fun j d hjd => by
      by_cases h : j < ops.size
      · have := List.all_eq_true.1 hsz j (List.mem_range.2 h)
        rw [hjd] at this
        simpa using this
      · unfold dstOf at hjd
        rw [Array.getElem?_eq_none (by omega)] at hjd
        cases hjd)
    hord htail hs hK m (Array.replicate ops.size false) (fun _ => undef) w0.drew (by simp) (by rw [hzf, hcnt]) (fun j _ => hz j) (fun i o _ hl => by rw [hz] at hl; cases hl)
    (fun i hl => by have hl : (Array.replicate ops.size false).getD i false = true := hl; rw [hz] at hl; cases hl) ⟨rfl, rfl, rfl, Nat.le_refl _, fun _ _ _ => rfl⟩
  rw [hzf, hput, show ops.size - m + m = ops.size by omega] at this
  exact this
end

/-! ### The pieces -/
section
variable {P : Program} {Q : Exit → Act → World → Prop} {ops : Array Oper} {m : Nat} {a0 : Act} {w0 : World} {D : Nat → Kd} {i : Nat} {o : Oper}
theorem stepRun {x : Value} (N : List (Tmp × Value)) (hoi : ops[i]? = some o) (hg : o.guard = none) (hD : D i = .val x) (hN : ∀ p ∈ N, Src ops m a0 D o p.1 p.2)
    (hr : ∀ (a : Act) (w : World), (∀ p ∈ N, a.eval (.tmp p.1) = p.2) → Kept (Hits D) w0 w → (execOp a.eval o).run P w = .ok (.value x) w) : StepOk P Q ops m a0 w0 D i := by
  refine ⟨o, hoi, hg, ?_⟩
  rw [hD]
  refine ⟨N, hN, fun a w ha hb => ?_⟩
  unfold Oper.wp
  rw [hr a w ha hb]
  exact ⟨rfl, Below.refl _ _⟩
theorem stepLoad {x : Value} {T : TypeId} {k : Tmp} (y : Value) (hoi : ops[i]? = some o) (hg : o.guard = none) (hD : D i = .val x) (hop : o.op = .load T (.tmp k)) (hk : Src ops m a0 D o k y)
    (hl : ∀ w, Kept (Hits D) w0 w → (Instr.loadAt T y).run P w = .ok x w) : StepOk P Q ops m a0 w0 D i := by
  refine stepRun [(k, y)] hoi hg hD (fun p hp => by rw [List.mem_singleton.1 hp]; exact hk) fun a w ha hb => ?_
  have := ha (k, y) (by simp)
  unfold execOp
  simp only [hop]
  simp only [this, Sem.run_bind, hl w hb, Result.andThen_ok, Sem.run_pure]
theorem stepField {x : Value} {T f : Nat} {k : Tmp} (y : Value) (hoi : ops[i]? = some o) (hg : o.guard = none) (hD : D i = .val x) (hop : o.op = .fieldAddr T (.tmp k) f) (hk : Src ops m a0 D o k y)
    (hl : ∀ w, (Instr.fieldAt T y f).run P w = .ok x w) : StepOk P Q ops m a0 w0 D i := by
  refine stepRun [(k, y)] hoi hg hD (fun p hp => by rw [List.mem_singleton.1 hp]; exact hk) fun a w ha hb => ?_
  have := ha (k, y) (by simp)
  unfold execOp
  simp only [hop]
  simp only [this, Sem.run_bind, hl w, Result.andThen_ok, Sem.run_pure]
theorem stepBuild {x : Value} {T : TypeId} {ps : Array (Nat × Operand)} (N : List (Tmp × Value)) (ys : Array (Nat × Value)) (hoi : ops[i]? = some o) (hg : o.guard = none) (hD : D i = .val x) (hop : o.op = .build T ps) (hN : ∀ p ∈ N, Src ops m a0 D o p.1 p.2)
    (hy : ∀ a : Act, (∀ p ∈ N, a.eval (.tmp p.1) = p.2) → (ps.map fun (i, x) => (i, a.eval x)) = ys) (hl : ∀ w, (Instr.build T ys).run P w = .ok x w) : StepOk P Q ops m a0 w0 D i := by
  refine stepRun N hoi hg hD hN fun a w ha hb => ?_
  have := hy a ha
  unfold execOp
  simp only [hop]
  simp only [this, Sem.run_bind, hl w, Result.andThen_ok, Sem.run_pure]
theorem cf_of {f : FuncId} {fn : Func} (hf : P.funcs[f]? = some fn) (hn : (fn.name == "runtime.NumGoroutine") = false) (hb : fn.body.isNone = false) (args : Array Value) (w : World) : (callFunc f args).run P w = .ok (.enter f args) w := by
  have h1 : fn.name ≠ "runtime.NumGoroutine" := by simpa using hn
  have h2 : fn.body ≠ none := fun e => by rw [e] at hb; cases hb
  simp [callFunc, hf, h1, h2]
/-- A call, its arguments all in slots. -/
theorem stepCall {x : Value} {f : FuncId} {ks : List Tmp} {ats : Array TypeId} (ys : List Value) (hoi : ops[i]? = some o) (hg : o.guard = none) (hD : D i = .val x) (hop : o.op = .call { callee := .value (.func f), args := (ks.map Operand.tmp).toArray, argTypes := ats })
    (hcf : ∀ args w, (callFunc f args).run P w = .ok (.enter f args) w) (hlen : ks.length = ys.length) (hk : ∀ p ∈ ks.zip ys, Src ops m a0 D o p.1 p.2)
    (hc : ∀ w, Kept (Hits D) w0 w → Calls P f ys.toArray w fun e w' => e = .returned x ∧ Below w.heap.size w w') : StepOk P Q ops m a0 w0 D i := by
  refine ⟨o, hoi, hg, ?_⟩
  rw [hD]
  refine ⟨ks.zip ys, hk, fun a w ha hb => ?_⟩
  have hargs : (ks.map Operand.tmp).toArray.map a.eval = ys.toArray := by
    rw [List.map_toArray, List.map_map]
    congr 1
    clear hk hc hop
    induction ks generalizing ys with
    | nil => cases ys with
      | nil => rfl
      | cons _ _ => simp at hlen
    | cons k ks ih => cases ys with
      | nil => simp at hlen
      | cons y ys =>
        rw [List.map_cons, ih ys (by simpa using hlen) (fun p hp => ha p (by rw [List.zip_cons_cons]; exact List.mem_cons_of_mem _ hp))]
        have := ha (k, y) (by rw [List.zip_cons_cons]; exact List.mem_cons_self)
        rw [Function.comp_apply, this]
  have he : (execOp a.eval o).run P w = .ok (.enter f ys.toArray) w := by
    unfold execOp
    simp only [hop]
    have e : (do let d ← resolve a.eval { callee := .value (.func f), args := (ks.map Operand.tmp).toArray, argTypes := ats } o.type; invoke d.target d.args : Sem Next) = callFunc f (#[] ++ (ks.map Operand.tmp).toArray.map a.eval ++ #[]) := rfl
    rw [e, hargs, Array.empty_append, Array.append_empty]
    exact hcf _ _
  unfold Oper.wp
  rw [he]
  refine Calls.mono (hc w hb) ?_
  rintro e w' ⟨rfl, hb'⟩
  exact ⟨rfl, hb'⟩
theorem stepNew {T : TypeId} {Z : Array Value} (hoi : ops[i]? = some o) (hg : o.guard = none) (hD : D i = .new T Z) (hop : o.op = .alloc T)
    (hl : ∀ w, (Instr.alloc T true (.tuple #[])).run P w = .ok (.pointer (some ⟨w.heap.size, 0, none⟩)) (w.alloc (.cells Z T))) : StepOk P Q ops m a0 w0 D i := by
  refine ⟨o, hoi, hg, ?_⟩
  rw [hD]
  exact ⟨hop, hl⟩
theorem stepPut {j : Nat} {T : TypeId} {Z cs : Array Value} {d k : Tmp} (hoi : ops[i]? = some o) (hg : o.guard = none) (hD : D i = .put j T cs) (hop : o.op = .store T (.tmp d) (.tmp k)) (hdn : o.dst = none) (hjm : j < m) (hjd : dstOf ops j = some d) (hdep : depB o j = true)
    (hj : D j = .new T Z) (hz : Z.size = cs.size) (hk : Src ops m a0 D o k (.agg cs)) (hi : (P.info? T).map (·.size) = some cs.size) (h1 : cs.all (·.oneCell') = true) (hu : ∀ i', i' ≠ i → ∀ T' cs', D i' ≠ .put j T' cs') : StepOk P Q ops m a0 w0 D i := by
  refine ⟨o, hoi, hg, ?_⟩
  rw [hD]
  exact ⟨d, k, hop, hdn, hjm, hjd, dep_of hdep, ⟨Z, hj, hz⟩, hk, hi, h1, hu⟩

theorem stepOld {g : Nat} {T : TypeId} {od cs : Array Value} {d k : Tmp} (hoi : ops[i]? = some o) (hg : o.guard = none) (hD : D i = .old g T cs) (hop : o.op = .store T (.tmp d) (.tmp k)) (hdn : o.dst = none) (hsd : Src ops m a0 D o d (.pointer (some ⟨g, 0, none⟩)))
    (hb : w0.heap[g]? = some (.cells od T (0, 0))) (hz : od.size = cs.size) (hk : Src ops m a0 D o k (.agg cs)) (hi : (P.info? T).map (·.size) = some cs.size) (h1 : cs.all (·.oneCell') = true) (hu : ∀ i', i' ≠ i → ∀ T' cs', D i' ≠ .old g T' cs') : StepOk P Q ops m a0 w0 D i := by
  refine ⟨o, hoi, hg, ?_⟩
  rw [hD]
  exact ⟨d, k, od, hop, hdn, hsd, hb, hz, hk, hi, h1, hu⟩
theorem stepMove {x : Value} {k : Tmp} (hoi : ops[i]? = some o) (hg : o.guard = none) (hD : D i = .val x) (hop : o.op = .move (.tmp k)) (hk : Src ops m a0 D o k x) : StepOk P Q ops m a0 w0 D i := by
  refine stepRun [(k, x)] hoi hg hD (fun p hp => by rw [List.mem_singleton.1 hp]; exact hk) fun a w ha hb => ?_
  have := ha (k, x) (by simp)
  unfold execOp
  simp only [hop]
  simp only [this, Sem.run_pure]
theorem stepAssign {x : Value} {k : Tmp} (hoi : ops[i]? = some o) (hg : o.guard = none) (hD : D i = .val x) (hop : o.op = .assign (.tmp k)) (hk : Src ops m a0 D o k x) : StepOk P Q ops m a0 w0 D i := by
  refine stepRun [(k, x)] hoi hg hD (fun p hp => by rw [List.mem_singleton.1 hp]; exact hk) fun a w ha hb => ?_
  have := ha (k, x) (by simp)
  unfold execOp
  simp only [hop]
  simp only [this, Sem.run_pure]
theorem okOld {B : Nat} {v : Nat → Value} {L : Nat → Bool} {w : World} {g : Nat} {T : TypeId} {cs : Array Value} (h : OkAll B D v L w) (hl : L i = true) (hj : D i = .old g T cs) : w.heap[g]? = some (.cells cs T (0, 0)) := by
  have := h i hl
  unfold OkAt at this
  rw [hj] at this
  exact this.2

/-- The frame behind all of the first m. -/
def putL : List (Option Tmp) → (Nat → Value) → Nat → Act → Act
  | [], _, _, a => a
  | d :: ds, v, n, a => putL ds v (n + 1) (a.put d (v n))
theorem putL_snoc (v : Nat → Value) (d : Option Tmp) : ∀ (ds : List (Option Tmp)) (n : Nat) (a : Act), putL (ds ++ [d]) v n a = (putL ds v n a).put d (v (n + ds.length))
  | [], n, a => rfl
  | e :: ds, n, a => by
    show putL (ds ++ [d]) v (n + 1) (a.put e (v n)) = _
    rw [putL_snoc v d ds (n + 1)]
    show (putL ds v (n + 1) (a.put e (v n))).put d (v (n + 1 + ds.length)) = _
    rw [show n + 1 + ds.length = n + (e :: ds).length by simp; omega]
    rfl
theorem putAll_list (v : Nat → Value) (a : Act) (M : Nat) : ∀ n, n ≤ M → putAll ops v (fun j => decide (j < M)) a n = putL ((List.range n).map (dstOf ops)) v 0 a
  | 0, _ => rfl
  | n + 1, h => by
    have ih := putAll_list v a M n (by omega)
    unfold putAll
    rw [if_pos (decide_eq_true (by omega)), ih, List.range_succ, List.map_append]
    show _ = putL (_ ++ [dstOf ops n]) v 0 a
    rw [putL_snoc]
    simp
theorem region_all {id : Nat} (m : Nat) (D : Nat → Kd) (ds : List (Option Tmp)) (hm : P.follows .mixedOrders = true) (hmn : ops.size = m) (hds : (List.range m).map (dstOf ops) = ds) (hd : apartB ops m = true) (hord : orderB ops = true) (hsz : dstB ops a0.tmps.size = true)
    (hs : ∀ i, i < m → StepOk P Q ops m a0 w0 D i)
    (hK : ∀ v w, OkAll w0.heap.size D v (fun j => decide (j < m)) w → Kept (HitBy D (fun j => decide (j < m))) w0 w → Q .normal (putL ds v 0 a0) w) :
    (Code.region id ops true).wp P Q a0 w0 := by
  refine region_fun m D hm (by omega) hd hord ?_ hsz hs fun v w ho hb => ?_
  · refine List.all_eq_true.2 fun i hi => ?_
    rw [decide_eq_true (by have := List.mem_range.1 hi; omega : i < m)]
    rfl
  · have := hK v w ho hb
    rw [← hds, ← putAll_list v a0 m m (Nat.le_refl _)] at this
    have hr : Region.ready .any ops (listedTo ops.size m) = [] := by
      unfold Region.ready
      rw [List.filter_eq_nil_iff]
      intro j hj
      have hj := List.mem_range.1 hj
      have e : (listedTo ops.size m).getD j true = true := by
        simp [listedTo, Array.getD_eq_getD_getElem?, hj]
        omega
      simp [e]
    rw [show ops.size - m = 0 by omega]
    exact ⟨hr, this⟩
theorem region_tail1 {id : Nat} (m : Nat) (D : Nat → Kd) (ds : List (Option Tmp)) (hm : P.follows .mixedOrders = true) (hmn : ops.size = m + 1) (hds : (List.range m).map (dstOf ops) = ds) (hd : apartB ops m = true) (hord : orderB ops = true) (htail : tailB ops m = true) (hsz : dstB ops a0.tmps.size = true)
    (hr1 : Region.ready .any ops (listedTo ops.size m) = [m]) (hr2 : Region.ready .any ops ((listedTo ops.size m).setIfInBounds m true) = []) (hom : ops[m]? = some o) (hg : o.guard = none)
    (hs : ∀ i, i < m → StepOk P Q ops m a0 w0 D i)
    (hK : ∀ v w, OkAll w0.heap.size D v (fun j => decide (j < m)) w → Kept (HitBy D (fun j => decide (j < m))) w0 w → o.wp P (putL ds v 0 a0) w (fun a' w' => Q .normal a' w') Q) :
    (Code.region id ops true).wp P Q a0 w0 := by
  refine region_fun m D hm (by omega) hd hord htail hsz hs fun v w ho hb => ?_
  have := hK v w ho hb
  rw [← hds, ← putAll_list v a0 m m (Nat.le_refl _)] at this
  rw [show ops.size - m = 0 + 1 by omega]
  refine ⟨fun h => by (rw [hr1] at h; cases h), fun i hi => ?_⟩
  rw [hr1] at hi
  obtain rfl := List.mem_singleton.1 hi
  unfold wpOp
  simp only [hom]
  rw [if_pos (by unfold Region.wanted; rw [hg])]
  exact .inl (Oper.wp_mono (fun a w h => ⟨hr2, h⟩) this)
theorem region_tail2 {id : Nat} {o2 : Oper} (m : Nat) (D : Nat → Kd) (ds : List (Option Tmp)) (hm : P.follows .mixedOrders = true) (hmn : ops.size = m + 2) (hds : (List.range m).map (dstOf ops) = ds) (hd : apartB ops m = true) (hord : orderB ops = true) (htail : tailB ops m = true) (hsz : dstB ops a0.tmps.size = true)
    (hr1 : Region.ready .any ops (listedTo ops.size m) = [m]) (hr2 : Region.ready .any ops ((listedTo ops.size m).setIfInBounds m true) = [m + 1]) (hr3 : Region.ready .any ops (((listedTo ops.size m).setIfInBounds m true).setIfInBounds (m + 1) true) = []) (hom : ops[m]? = some o) (hg : o.guard = none) (hom2 : ops[m + 1]? = some o2) (hg2 : o2.guard = none)
    (hs : ∀ i, i < m → StepOk P Q ops m a0 w0 D i)
    (hK : ∀ v w, OkAll w0.heap.size D v (fun j => decide (j < m)) w → Kept (HitBy D (fun j => decide (j < m))) w0 w → o.wp P (putL ds v 0 a0) w (fun a' w' => o2.wp P a' w' (fun a'' w'' => Q .normal a'' w'') Q) Q) :
    (Code.region id ops true).wp P Q a0 w0 := by
  refine region_fun m D hm (by omega) hd hord htail hsz hs fun v w ho hb => ?_
  have := hK v w ho hb
  rw [← hds, ← putAll_list v a0 m m (Nat.le_refl _)] at this
  rw [show ops.size - m = 0 + 1 + 1 by omega]
  refine ⟨fun h => by (rw [hr1] at h; cases h), fun i hi => ?_⟩
  rw [hr1] at hi
  obtain rfl := List.mem_singleton.1 hi
  unfold wpOp
  simp only [hom]
  rw [if_pos (by unfold Region.wanted; rw [hg])]
  refine .inl (Oper.wp_mono (fun a w h => ?_) this)
  refine ⟨fun h => by (rw [hr2] at h; cases h), fun j hj => ?_⟩
  rw [hr2] at hj
  obtain rfl := List.mem_singleton.1 hj
  unfold wpOp
  simp only [hom2]
  rw [if_pos (by unfold Region.wanted; rw [hg2])]
  exact .inl (Oper.wp_mono (fun a w h => ⟨hr3, h⟩) h)
/-- A store into a variable that was there. -/
theorem wp_store_old {a : Act} {w : World} {K : Act → World → Prop} {T : TypeId} {x y : Operand} (g : Nat) (cs old : Array Value) (hop : o.op = .store T x y) (hdn : o.dst = none) (hx : a.eval x = .pointer (some ⟨g, 0, none⟩)) (hy : a.eval y = .agg cs)
    (hgb : w.heap[g]? = some (.cells old T (0, 0))) (hinfo : (P.info? T).map (·.size) = some cs.size) (hos : old.size = cs.size) (hone : cs.all (·.oneCell') = true) (h : K a (w.setRow g cs)) : o.wp P a w K Q := by
  have hst := run_storeVar_row (P := P) w g T T old cs hgb hinfo hos hone
  unfold Oper.wp execOp
  simp only [hop, hx, hy, Instr.storeAt, Instr.sureAddr, Sem.run_bind, Sem.run_pure, Result.andThen_ok, hst, Oper.upon]
  rw [hdn]
  exact h

/-- The same in a plain region. -/
theorem list_ok (hmn : m ≤ ops.size) (hd : Apart ops m) (hsz : ∀ j d, dstOf ops j = some d → d < a0.tmps.size) (hord : orderB ops = true)
    (hs : ∀ i, i < m → StepOk P Q ops m a0 w0 D i)
    (hK : ∀ v w, OkAll w0.heap.size D v (fun j => decide (j < m)) w → Kept (HitBy D (fun j => decide (j < m))) w0 w → wpList P ops Q (ops.toList.drop m) (putAll ops v (fun j => decide (j < m)) a0 m) w) :
    ∀ (c n : Nat) (v : Nat → Value) (w : World), n + c = m → OkAll w0.heap.size D v (fun j => decide (j < n)) w → Kept (HitBy D (fun j => decide (j < n))) w0 w → wpList P ops Q (ops.toList.drop n) (putAll ops v (fun j => decide (j < n)) a0 m) w := by
  intro c
  induction c with
  | zero =>
    intro n v w hn ho hb
    have e : n = m := by omega
    subst e
    exact hK v w ho hb
  | succ c ih =>
    intro n v w hn ho hb
    have hns : n < ops.size := by omega
    have hoi : ops[n]? = some ops[n] := Array.getElem?_eq_getElem hns
    have hdep : ∀ j, Dep ops[n] j → decide (j < n) = true := fun j ⟨e, he, hbd, hj⟩ => by
      have := List.all_eq_true.1 hord n (List.mem_range.2 hns)
      rw [hoi] at this
      have := Array.all_eq_true'.1 this e he
      rw [← hj]
      simpa [hbd] using this
    obtain ⟨hg, hw⟩ := step_ok rfl hd hsz (by omega : n < m) (hs n (by omega)) ho hb (decide_eq_false (by omega)) hoi hdep
    rw [List.drop_eq_getElem_cons (by simpa using hns)]
    show if Region.wanted ops.toList[n] _ then _ else _
    rw [Array.getElem_toList, if_pos (by unfold Region.wanted; rw [hg])]
    refine .inl (Oper.wp_mono ?_ hw)
    rintro a' w' ⟨v', rfl, ho', hb'⟩
    have he : (fun k => if k = n then true else decide (k < n)) = fun k => decide (k < n + 1) := by
      funext k
      by_cases c : k = n
      · subst c; simp
      · rw [if_neg c]; exact decide_eq_decide.2 (by omega)
    rw [he] at ho' hb' ⊢
    exact ih (n + 1) v' w' (by omega) ho' hb'
theorem region_seq {id : Nat} (m : Nat) (D : Nat → Kd) (ds : List (Option Tmp)) (hmn : m ≤ ops.size) (hds : (List.range m).map (dstOf ops) = ds) (hd : apartB ops m = true) (hord : orderB ops = true) (hsz : dstB ops a0.tmps.size = true)
    (hs : ∀ i, i < m → StepOk P Q ops m a0 w0 D i)
    (hK : ∀ v w, OkAll w0.heap.size D v (fun j => decide (j < m)) w → Kept (HitBy D (fun j => decide (j < m))) w0 w → wpList P ops Q (ops.toList.drop m) (putL ds v 0 a0) w) :
    (Code.region id ops false).wp P Q a0 w0 := by
  refine wp_region_list ?_
  have hput : ∀ v n, putAll ops v (fun _ => false) a0 n = a0 := fun v n => by
    induction n with
    | zero => rfl
    | succ n ih => unfold putAll; rw [if_neg (by decide)]; exact ih
  have := list_ok (P := P) (Q := Q) (ops := ops) (m := m) (a0 := a0) (w0 := w0) (D := D) hmn (apart_of hd)
    (fun j d hjd => by
      by_cases h : j < ops.size
      · have := List.all_eq_true.1 hsz j (List.mem_range.2 h)
        rw [hjd] at this
        simpa using this
      · unfold dstOf at hjd
        rw [Array.getElem?_eq_none (by omega)] at hjd
        cases hjd)
    hord hs (fun v w ho hb => by
      have := hK v w ho hb
      rw [← hds, ← putAll_list v a0 m m (Nat.le_refl _)] at this
      exact this) m 0 (fun _ => undef) w0 (by omega) (fun i hl => by simp at hl) (Kept.refl _ _)
  have e : (fun j => decide (j < 0)) = fun _ => false := by funext j; simp
  rw [e, hput] at this
  exact this
end

end Go.My

/- Regions by a list of kinds: small aids. Nothing of the program is named. -/
import Derived.Test.YtkglgficmealnaaReg
namespace Go.My
open Go.RowKit
set_option linter.unusedVariables false

def kdAt (l : List Kd) (i : Nat) : Kd := l.getD i (.val undef)
def putsB (l : List Kd) (i j : Nat) : Bool := l.zipIdx.all fun p => p.2 == i || (match p.1 with | .put q _ _ => q != j | _ => true)
theorem uniq_of {l : List Kd} {i j : Nat} (h : putsB l i j = true) : ∀ i', i' ≠ i → ∀ T cs, kdAt l i' ≠ .put j T cs := by
  intro i' hne T cs e
  unfold kdAt at e
  rw [List.getD_eq_getElem?_getD] at e
  cases hi : l[i']? with
  | none => rw [hi] at e; simp at e
  | some k =>
    rw [hi] at e
    simp at e
    subst e
    have hm : (Kd.put j T cs, i') ∈ l.zipIdx := by rw [List.mk_mem_zipIdx_iff_getElem?]; exact hi
    have := List.all_eq_true.1 h _ hm
    simp [hne] at this
theorem all0 {C : Nat → Prop} : ∀ i, i < 0 → C i := fun i h => by omega
theorem allS {C : Nat → Prop} {n : Nat} (h : ∀ i, i < n → C i) (hn : C n) : ∀ i, i < n + 1 → C i := fun i hi => by
  by_cases c : i = n
  · rw [c]; exact hn
  · exact h i (by omega)
theorem src1 {C : Tmp → Value → Prop} {k : Tmp} {y : Value} (h : C k y) : ∀ p ∈ [k].zip [y], C p.1 p.2 := fun p hp => by
  rw [List.mem_singleton.1 hp]; exact h
theorem src2 {C : Tmp → Value → Prop} {k l : Tmp} {y z : Value} (h : C k y) (h2 : C l z) : ∀ p ∈ [k, l].zip [y, z], C p.1 p.2 := fun p hp => by
  rcases List.mem_cons.1 hp with e | e
  · rw [e]; exact h
  · rw [List.mem_singleton.1 e]; exact h2
theorem src3 {C : Tmp → Value → Prop} {k l m : Tmp} {y z u : Value} (h : C k y) (h2 : C l z) (h3 : C m u) : ∀ p ∈ [k, l, m].zip [y, z, u], C p.1 p.2 := fun p hp => by
  rcases List.mem_cons.1 hp with e | e
  · rw [e]; exact h
  · rcases List.mem_cons.1 e with e | e
    · rw [e]; exact h2
    · rw [List.mem_singleton.1 e]; exact h3
theorem srcN1 {C : Tmp → Value → Prop} {k : Tmp} {y : Value} (h : C k y) : ∀ p ∈ [(k, y)], C p.1 p.2 := fun p hp => by
  rw [List.mem_singleton.1 hp]; exact h
theorem srcN2 {C : Tmp → Value → Prop} {k l : Tmp} {y z : Value} (h : C k y) (h2 : C l z) : ∀ p ∈ [(k, y), (l, z)], C p.1 p.2 := fun p hp => by
  rcases List.mem_cons.1 hp with e | e
  · rw [e]; exact h
  · rw [List.mem_singleton.1 e]; exact h2

def oldsOf (l : List Kd) : List Nat := l.filterMap fun | .old g _ _ => some g | _ => none
theorem hits_of {l : List Kd} {k : Nat} (h : Hits (kdAt l) k) : k ∈ oldsOf l := by
  obtain ⟨i, T, cs, e⟩ := h
  unfold kdAt at e
  rw [List.getD_eq_getElem?_getD] at e
  cases hi : l[i]? with
  | none => rw [hi] at e; simp at e
  | some q =>
    rw [hi] at e
    simp at e
    subst e
    exact List.mem_filterMap.2 ⟨_, List.mem_of_getElem? hi, rfl⟩
theorem hitBy_of {l : List Kd} {L : Nat → Bool} {k : Nat} (h : HitBy (kdAt l) L k) : Hits (kdAt l) k := by
  obtain ⟨i, T, cs, _, e⟩ := h
  exact ⟨i, T, cs, e⟩
theorem nh0 {l : List Kd} (h : oldsOf l = []) : ∀ k, ¬ Hits (kdAt l) k := fun k c => by have := hits_of c; rw [h] at this; cases this
theorem nh1 {l : List Kd} {t : Nat} (h : oldsOf l = [t]) {k : Nat} (hk : k ≠ t) : ¬ Hits (kdAt l) k := fun c => by have := hits_of c; rw [h] at this; exact hk (List.mem_singleton.1 this)
theorem nh2 {l : List Kd} {t u : Nat} (h : oldsOf l = [t, u]) {k : Nat} (hk : k ≠ t) (hk2 : k ≠ u) : ¬ Hits (kdAt l) k := fun c => by
  have := hits_of c
  rw [h] at this
  rcases List.mem_cons.1 this with e | e
  · exact hk e
  · exact hk2 (List.mem_singleton.1 e)
theorem Kept.all {l : List Kd} {L : Nat → Bool} {w w' : World} (h : Kept (HitBy (kdAt l) L) w w') : Kept (Hits (kdAt l)) w w' := h.mono fun _ => hitBy_of
def olds1B (l : List Kd) (i : Nat) (g : Nat) : Prop := ∀ i', i' ≠ i → ∀ T cs, kdAt l i' ≠ .old g T cs
theorem olds_single {l : List Kd} {i g : Nat} {T : TypeId} {cs : Array Value} (hi : l[i]? = some (.old g T cs)) (h : ∀ q, q ≠ i → ∀ g' T' cs', l[q]? = some (.old g' T' cs') → g' ≠ g) : olds1B l i g := by
  intro q hq T' cs' e
  unfold kdAt at e
  rw [List.getD_eq_getElem?_getD] at e
  cases hi : l[q]? with
  | none => rw [hi] at e; simp at e
  | some k =>
    rw [hi] at e
    simp at e
    subst e
    exact h q hq g T' cs' hi rfl
/-- The places of the stores into old blocks. -/
def oldIdx (l : List Kd) : List (Nat × Nat) := l.zipIdx.filterMap fun p => match p.1 with | .old g _ _ => some (p.2, g) | _ => none
theorem mem_oldIdx {l : List Kd} {q g : Nat} {T : TypeId} {cs : Array Value} (h : kdAt l q = .old g T cs) : (q, g) ∈ oldIdx l := by
  unfold kdAt at h
  rw [List.getD_eq_getElem?_getD] at h
  cases hi : l[q]? with
  | none => rw [hi] at h; simp at h
  | some k =>
    rw [hi] at h
    simp at h
    subst h
    exact List.mem_filterMap.2 ⟨(_, q), List.mk_mem_zipIdx_iff_getElem?.2 hi, rfl⟩
theorem one_old {l : List Kd} {i g : Nat} (h : oldIdx l = [(i, g)]) : ∀ i', i' ≠ i → ∀ T cs, kdAt l i' ≠ .old g T cs := fun q hq T cs e => by
  have := mem_oldIdx e
  rw [h] at this
  have := List.mem_singleton.1 this
  injection this with a b
  exact hq a
theorem two_old {l : List Kd} {i g j k : Nat} (h : oldIdx l = [(i, g), (j, k)]) (hgk : g ≠ k) : (∀ i', i' ≠ i → ∀ T cs, kdAt l i' ≠ .old g T cs) ∧ (∀ i', i' ≠ j → ∀ T cs, kdAt l i' ≠ .old k T cs) := by
  constructor
  · intro q hq T cs e
    have := mem_oldIdx e
    rw [h] at this
    rcases List.mem_cons.1 this with e | e
    · injection e with a b; exact hq a
    · have := List.mem_singleton.1 e; injection this with a b; exact hgk b
  · intro q hq T cs e
    have := mem_oldIdx e
    rw [h] at this
    rcases List.mem_cons.1 this with e | e
    · injection e with a b; exact hgk b.symm
    · have := List.mem_singleton.1 e; injection this with a b; exact hq a
theorem okRowB {B : Nat} {D : Nat → Kd} {v : Nat → Value} {L : Nat → Bool} {w : World} {i j : Nat} {T T' : TypeId} {cs Z : Array Value} (h : OkAll B D v L w) (hl : L i = true) (hlj : L j = true) (hi : D i = .put j T cs) (hj : D j = .new T' Z) : ∃ g, v j = .pointer (some ⟨g, 0, none⟩) ∧ w.heap[g]? = some (.cells cs T (0, 0)) ∧ B ≤ g := by
  obtain ⟨g, h1, h2⟩ := okRow h hl hi
  obtain ⟨g', _, h3, h4, _⟩ := okPtr h hlj hj
  rw [h1] at h3
  injection h3 with e; injection e with e; injection e with e
  exact ⟨g, h1, h2, by omega⟩
theorem okNe {B : Nat} {D : Nat → Kd} {v : Nat → Value} {L : Nat → Bool} {w : World} {i j : Nat} {T T' : TypeId} {Z Z' : Array Value} {g g' : Nat} (h : OkAll B D v L w) (hl : L i = true) (hlj : L j = true) (hi : D i = .new T Z) (hj : D j = .new T' Z') (hne : i ≠ j)
    (e1 : v i = .pointer (some ⟨g, 0, none⟩)) (e2 : v j = .pointer (some ⟨g', 0, none⟩)) : g ≠ g' := fun c => by
  have := h i hl
  unfold OkAt at this
  rw [hi] at this
  exact this.2 j (Ne.symm hne) hlj ⟨_, _, hj⟩ (by rw [e1, e2, c])
theorem ne_new {a g M : Nat} (h : a < M) (hg : M ≤ g) : g ≠ a := by omega
/-- A block as it is. -/
def Blk (g : Nat) (cs : Array Value) (T : TypeId) (w : World) : Prop := w.heap[g]? = some (.cells cs T (0, 0))
theorem Blk.h {g : Nat} {cs : Array Value} {T : TypeId} {w : World} (h : Blk g cs T w) : w.heap[g]? = some (.cells cs T (0, 0)) := h
theorem Blk.below {g : Nat} {cs : Array Value} {T : TypeId} {V W : World} (hb : Below V.heap.size V W) (h : Blk g cs T V) : Blk g cs T W := (hb.block g (Array.getElem?_eq_some_iff.1 h).1).trans h
theorem Blk.lt {g : Nat} {cs : Array Value} {T : TypeId} {W : World} (h : Blk g cs T W) : g < W.heap.size := (Array.getElem?_eq_some_iff.1 h).1
theorem Blk.cell {g j : Nat} {cs : Array Value} {T : TypeId} {W : World} {v : Value} (h : Blk g cs T W) (hj : cs[j]? = some v) : W.cell? ⟨g, j, none⟩ = some v := (cell_of_row W g j cs T (0, 0) h).trans hj
theorem Blk.froz {g j : Nat} {cs : Array Value} {T : TypeId} {W : World} (h : Blk g cs T W) : W.frozen? ⟨g, j, none⟩ = false := frozen_of_row W g j cs T h
theorem Blk.set {g : Nat} {cs : Array Value} {T : TypeId} {W : World} (h : Blk g cs T W) (j : Nat) (v : Value) : Blk g (cs.setIfInBounds j v) T (W.setCell ⟨g, j, none⟩ v) := heap_setCell_same W g j cs T v h
theorem Blk.other {g k : Nat} {cs : Array Value} {T : TypeId} {W : World} (h : Blk g cs T W) (j : Nat) (v : Value) (hk : g ≠ k) : Blk g cs T (W.setCell ⟨k, j, none⟩ v) := (heap_setCell_other W ⟨k, j, none⟩ g v hk).trans h
theorem Blk.row {g k : Nat} {cs ds : Array Value} {T : TypeId} {W : World} (h : Blk g cs T W) (hne : g ≠ k) : Blk g cs T (W.setRow k ds) := (setRow_other W k g ds hne).trans h
theorem Blk.kept {g : Nat} {cs : Array Value} {T : TypeId} {G : Nat → Prop} {V W : World} (hb : Kept G V W) (hn : ¬ G g) (h : Blk g cs T V) : Blk g cs T W := (hb.block g (Array.getElem?_eq_some_iff.1 h).1 hn).trans h

end Go.My

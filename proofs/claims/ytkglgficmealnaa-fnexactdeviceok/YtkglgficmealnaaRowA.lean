/- Lists of values in memory, a fixed number of cells each. Nothing of the program is named. -/
import Derived.Test.YtkglgficmealnaaMath1
import Derived.Below
import Derived.Laws.OwnMore
import Derived.Deep.AppendLies
namespace Go.My
open Go.RowKit
set_option linter.unusedVariables false

variable {α : Type}

theorem flat_len {f : α → List Value} {c : Nat} (hf : ∀ a, (f a).length = c) (l : List α) : (l.flatMap f).length = l.length * c := by
  induction l with
  | nil => simp
  | cons a l ih => rw [List.flatMap_cons, List.length_append, ih, hf, List.length_cons, Nat.succ_mul]; omega
theorem flat_get {f : α → List Value} {c : Nat} (hf : ∀ a, (f a).length = c) : ∀ (l : List α) (i : Nat) (h : i < l.length) (j : Nat), j < c → (l.flatMap f)[c * i + j]? = (f l[i])[j]?
  | [], i, h, _, _ => by simp at h
  | a :: l, 0, _, j, hj => by
    rw [List.flatMap_cons, List.getElem?_append_left (by rw [hf]; omega)]
    simp
  | a :: l, i + 1, h, j, hj => by
    rw [List.flatMap_cons, List.getElem?_append_right (by rw [hf, Nat.mul_succ]; omega), hf]
    rw [show c * (i + 1) + j - c = c * i + j by rw [Nat.mul_succ]; omega]
    rw [flat_get hf l i (by simpa using h) j hj]
    simp
theorem flat_set {f : α → List Value} {c : Nat} (hf : ∀ a, (f a).length = c) : ∀ (l : List α) (i : Nat) (h : i < l.length) (j : Nat) (u : Value) (b : α), j < c → f b = (f l[i]).set j u → (l.flatMap f).set (c * i + j) u = (l.set i b).flatMap f
  | [], i, h, _, _, _, _, _ => by simp at h
  | a :: l, 0, _, j, u, b, hj, hb => by
    have hb' : f b = (f a).set j u := hb
    rw [List.flatMap_cons, List.set_append, if_pos (by rw [hf]; omega)]
    rw [List.set_cons_zero, List.flatMap_cons, hb']
    simp
  | a :: l, i + 1, h, j, u, b, hj, hb => by
    rw [List.flatMap_cons, List.set_append, if_neg (by rw [hf, Nat.mul_succ]; omega), hf]
    rw [show c * (i + 1) + j - c = c * i + j by rw [Nat.mul_succ]; omega]
    rw [flat_set hf l i (by simpa using h) j u b hj (by simpa using hb)]
    rw [List.set_cons_succ, List.flatMap_cons]

/-- Value v is a slice over these elements; its block is B or a later one. -/
def RowL (B e c : Nat) (f : α → List Value) (v : Value) (l : List α) (w : World) : Prop := w.ownsRow B e c v l.length (l.flatMap f)
theorem RowL.open {B e c : Nat} {f : α → List Value} {v : Value} {l : List α} {w : World} (h : RowL B e c f v l w) :
    ∃ p cap, v = .slice p l.length cap ∧ cap ≤ maxLen ∧ l.length ≤ cap ∧ ((l = [] ∧ p = none) ∨ ∃ g, p = some ⟨g, 0, none⟩ ∧ B ≤ g ∧ g < w.heap.size) := by
  rcases h.2 with ⟨hv, h0⟩ | ⟨g, cap, cur, hv, hb, hg, hnc, hcm, hcs, htake⟩
  · exact ⟨none, 0, by rw [hv, h0], by unfold maxLen; omega, by omega, .inl ⟨List.eq_nil_of_length_eq_zero h0, rfl⟩⟩
  · exact ⟨_, cap, hv, hcm, hnc, .inr ⟨g, rfl, hb, (Array.getElem?_eq_some_iff.1 hg).1⟩⟩
theorem RowL.below {B e c : Nat} {f : α → List Value} {v : Value} {l : List α} {w w' : World} (h : RowL B e c f v l w) (hb : Below w.heap.size w w') : RowL B e c f v l w' :=
  World.ownsRow.kept (row := none) h ⟨hb.os, hb.tape, hb.output, hb.size, fun k hk _ => hb.block k hk⟩ (by cases v.ownBlock <;> simp)
theorem RowL.kept {B e c : Nat} {f : α → List Value} {v : Value} {l : List α} {w w' : World} {r : Option Nat} (h : RowL B e c f v l w) (hg : w.grownBy w' r) (hne : v.ownBlock = none ∨ v.ownBlock ≠ r) : RowL B e c f v l w' :=
  World.ownsRow.kept h hg hne
theorem RowL.mono {B B' e c : Nat} {f : α → List Value} {v : Value} {l : List α} {w : World} (h : RowL B e c f v l w) (hB : B' ≤ B) : RowL B' e c f v l w := by
  refine ⟨h.1, ?_⟩
  rcases h.2 with hn | ⟨g, cap, cur, hv, hb, hr⟩
  · exact .inl hn
  · exact .inr ⟨g, cap, cur, hv, by omega, hr⟩
theorem RowL.cell {B e c g cap n : Nat} {f : α → List Value} {l : List α} {w : World} (hf : ∀ a, (f a).length = c) (h : RowL B e c f (.slice (some ⟨g, 0, none⟩) n cap) l w) (i : Nat) (hi : i < l.length) (j : Nat) (hj : j < c) (u : Value) (hu : (f l[i])[j]? = some u) : w.cell? ⟨g, c * i + j, none⟩ = some u := by
  have hn : n = l.length := by
    rcases h.2 with ⟨hv, h0⟩ | ⟨_, _, _, hv, _⟩
    · simp at hv
    · simp at hv; exact hv.2.1
  subst hn
  have hlt : c * i + j < l.length * c := by
    have : c * (i + 1) ≤ c * l.length := Nat.mul_le_mul_left c hi
    rw [Nat.mul_succ] at this
    rw [Nat.mul_comm l.length c]
    omega
  rw [World.ownsRow.cellAt h (c * i + j) hlt, flat_get hf l i hi j hj, hu]
theorem RowL.frozen {B e c g cap n : Nat} {f : α → List Value} {l : List α} {w : World} (h : RowL B e c f (.slice (some ⟨g, 0, none⟩) n cap) l w) (j : Nat) : w.frozen? ⟨g, j, none⟩ = false := by
  have hn : n = l.length := by
    rcases h.2 with ⟨hv, h0⟩ | ⟨_, _, _, hv, _⟩
    · simp at hv
    · simp at hv; exact hv.2.1
  subst hn
  exact World.ownsRow.frozenAt h j
theorem RowL.set {B e c g cap n : Nat} {f : α → List Value} {l : List α} {w : World} (hf : ∀ a, (f a).length = c) (h : RowL B e c f (.slice (some ⟨g, 0, none⟩) n cap) l w) (i : Nat) (hi : i < l.length) (j : Nat) (hj : j < c) (u : Value) (b : α) (hb : f b = (f l[i]).set j u) :
    RowL B e c f (.slice (some ⟨g, 0, none⟩) n cap) (l.set i b) (w.setCell ⟨g, c * i + j, none⟩ u) := by
  have hn : n = l.length := by
    rcases h.2 with ⟨hv, h0⟩ | ⟨_, _, _, hv, _⟩
    · simp at hv
    · simp at hv; exact hv.2.1
  subst hn
  have := (World.ownsRow.stored h (c * i + j) u).1
  rw [flat_set hf l i hi j u b hj hb] at this
  unfold RowL
  rw [List.length_set]
  exact this
theorem RowL.nil (B e c : Nat) (f : α → List Value) (w : World) : RowL B e c f (.slice none 0 0) [] w := World.ownsRow_nil w B e c
/-- A row of one cell an element: strings. -/
def strC (s : ByteArray) : List Value := [.string s]
theorem strC_len (s : ByteArray) : (strC s).length = 1 := rfl
theorem RowL.str {B e g cap n : Nat} {l : List ByteArray} {w : World} (h : RowL B e 1 strC (.slice (some ⟨g, 0, none⟩) n cap) l w) (i : Nat) (hi : i < l.length) : w.cell? ⟨g, i, none⟩ = some (.string l[i]) := by
  have := h.cell strC_len i hi 0 (by omega) (.string l[i]) rfl
  simpa using this
theorem RowL.putStr {B e g cap n : Nat} {l : List ByteArray} {w : World} (h : RowL B e 1 strC (.slice (some ⟨g, 0, none⟩) n cap) l w) (i : Nat) (hi : i < l.length) (b : ByteArray) : RowL B e 1 strC (.slice (some ⟨g, 0, none⟩) n cap) (l.set i b) (w.setCell ⟨g, i, none⟩ (.string b)) := by
  have := h.set strC_len i hi 0 (by omega) (.string b) b rfl
  simpa using this

theorem w64_nat (n : Nat) (h : n ≤ 9223372036854775807) : wrap64 (n : Int) = (n : Int) := by unfold wrap64; omega
theorem below_nx {B : Nat} {w V W : World} (hb : Below V.heap.size V W) (h : Below B w V) (hs : B ≤ V.heap.size) : Below B w W := h.trans (hb.mono hs)
theorem grw_refl (a : World) (r : Option Nat) : a.grownBy a r := ⟨rfl, rfl, rfl, Nat.le_refl _, fun _ _ _ => rfl⟩
theorem grw_trans {a b c : World} {r : Option Nat} (h : a.grownBy b r) (k : b.grownBy c r) : a.grownBy c r :=
  ⟨k.os.trans h.os, k.tape.trans h.tape, k.output.trans h.output, Nat.le_trans h.size k.size, fun i hi hn => (k.block i (Nat.lt_of_lt_of_le hi h.size) hn).trans (h.block i hi hn)⟩
theorem grw_of_below {a b : World} (h : Below a.heap.size a b) (r : Option Nat) : a.grownBy b r := ⟨h.os, h.tape, h.output, h.size, fun k hk _ => h.block k hk⟩
theorem grw_below {a b c : World} {r : Option Nat} (h : a.grownBy b r) (k : Below b.heap.size b c) : a.grownBy c r := grw_trans h (grw_of_below k r)
theorem grw_set {a b : World} {g : Nat} (h : a.grownBy b (some g)) (j : Nat) (u : Value) : a.grownBy (b.setCell ⟨g, j, none⟩ u) (some g) :=
  grw_trans h ⟨rfl, rfl, rfl, by simp [World.setCell], fun k hk hne => Below.heap_setCell _ _ _ _ (fun c => hne (by rw [c]))⟩
theorem grw_drew {a b : World} {r : Option Nat} (h : a.grownBy b r) : a.grownBy b.drew r := ⟨h.os, h.tape, h.output, h.size, h.block⟩
theorem below_grw {B : Nat} {a b c : World} {r : Option Nat} (h : Below B a b) (k : b.grownBy c r) (hB : B ≤ b.heap.size) (hr : ∀ q, r = some q → B ≤ q) : Below B a c := h.grown k hB hr

/-- An element is appended. -/
theorem row_push {w w1 w2 : World} {B e c n : Nat} {f : α → List Value} {l : List α} {b : α} {v v' : Value} {o : Obj} {fb : List Value} (hR : w1.ownsRow B e c v l.length (l.flatMap f)) (hB : Below B w w1) (hBs : B ≤ w1.heap.size) (hn : n = l.length + 1) (hfb : fb = f b)
    (hown2 : w2.ownsRow B e c v' n (l.flatMap f ++ fb)) (hgrow : (w1.alloc o).grownBy w2 v.ownBlock) : RowL B e c f v' (l ++ [b]) w2 ∧ Below B w w2 := by
  subst hn hfb
  refine ⟨?_, (hB.alloc hBs o).grown hgrow (by simp; omega) (fun j hj => (hR.lt j hj).1)⟩
  have e : (l ++ [b]).flatMap f = l.flatMap f ++ f b := by rw [List.flatMap_append]; simp
  unfold RowL
  rw [e, List.length_append, List.length_singleton]
  exact hown2
/-- Of two lists the one was there when the other was made: their blocks are unlike. -/
theorem row_apart {α β : Type} {B e c e' c' C : Nat} {f : α → List Value} {f' : β → List Value} {v v' : Value} {l : List α} {l' : List β} {w w' : World} (h : RowL B e c f v l w) (h' : RowL C e' c' f' v' l' w') (hC : w.heap.size ≤ C) : v.ownBlock = none ∨ v.ownBlock ≠ v'.ownBlock := by
  cases hv : v.ownBlock with
  | none => exact .inl rfl
  | some k =>
    refine .inr (fun c => ?_)
    have h1 := (World.ownsRow.lt h k hv).2
    have h2 := (World.ownsRow.lt h' k c.symm).1
    omega
theorem row_below {B e c : Nat} {f : α → List Value} {v : Value} {l : List α} {w a b : World} (h : RowL B e c f v l w) (hb : Below B a w) (hs : B ≤ w.heap.size) (hg : w.grownBy b v.ownBlock) : Below B a b :=
  hb.grown hg hs (fun k hk => (World.ownsRow.lt h k hk).1)
/-- The first j elements. -/
theorem RowL.take {B e c cap n : Nat} {f : α → List Value} {p : Option Addr} {l : List α} {w : World} (hf : ∀ a, (f a).length = c) (h : RowL B e c f (.slice p n cap) l w) (j : Nat) (hj : j ≤ l.length) : RowL B e c f (.slice p j cap) (l.take j) w := by
  have hl : (l.take j).length = j := by rw [List.length_take]; omega
  have hk : (l.take j).flatMap f = (l.flatMap f).take (j * c) := by
    have e : l.flatMap f = (l.take j).flatMap f ++ (l.drop j).flatMap f := by rw [← List.flatMap_append, List.take_append_drop]
    rw [e, List.take_left' (by rw [flat_len hf, hl])]
  unfold RowL
  rw [hl, hk]
  refine ⟨by rw [← hk, flat_len hf, hl], ?_⟩
  rcases h.2 with ⟨hv, h0⟩ | ⟨g, cap', cur, hv, hb, hg, hnc, hcm, hcs, htake⟩
  · cases hv
    exact .inl ⟨by rw [show j = 0 by omega], by omega⟩
  · cases hv
    refine .inr ⟨g, _, cur, rfl, hb, hg, by omega, hcm, hcs, ?_⟩
    rw [← htake, List.take_take]
    congr 1
    have : j * c ≤ l.length * c := Nat.mul_le_mul_right c hj
    omega
/-! ### Marks -/
/-- The digits of a number that is more than nought. -/
def digM : Nat → Nat → List UInt8
  | 0, _ => []
  | m + 1, k => if k = 0 then [] else digM m (k / 10) ++ [UInt8.ofNat (48 + k % 10)]
def markB (k : Nat) : ByteArray := if k = 0 then str [109, 48] else str (109 :: digM k k)
theorem digM_fuel : ∀ (m k : Nat), k ≤ m → digM m k = digM k k := by
  have key : ∀ (m k n : Nat), k ≤ m → k ≤ n → digM m k = digM n k := by
    intro m
    induction m with
    | zero =>
      intro k n h1 h2
      obtain rfl : k = 0 := by omega
      cases n <;> simp [digM]
    | succ m ih =>
      intro k n h1 h2
      by_cases h0 : k = 0
      · subst h0; cases n <;> simp [digM]
      · cases n with
        | zero => omega
        | succ n =>
          simp only [digM, if_neg h0]
          rw [ih (k / 10) n (by omega) (by omega)]
  intro m k h
  exact key m k k h (Nat.le_refl _)
theorem digM_step (k : Nat) (h : 0 < k) : digM k k = digM (k / 10) (k / 10) ++ [UInt8.ofNat (48 + k % 10)] := by
  obtain ⟨m, rfl⟩ : ∃ m, k = m + 1 := ⟨k - 1, by omega⟩
  show (if m + 1 = 0 then [] else digM m ((m + 1) / 10) ++ [UInt8.ofNat (48 + (m + 1) % 10)]) = _
  rw [if_neg (by omega), digM_fuel m ((m + 1) / 10) (by omega)]
theorem digM_len (k : Nat) : (digM k k).length ≤ k := by
  induction k using Nat.strongRecOn with
  | _ k ih =>
    by_cases h : k = 0
    · subst h; simp [digM]
    · rw [digM_step k (by omega), List.length_append]
      have := ih (k / 10) (by omega)
      simp
      omega
/-- Strings k, k + 1 .. -/
def marksL (k n : Nat) : List ByteArray := (List.range n).map (fun i => markB (k + i))
theorem marksL_len (k n : Nat) : (marksL k n).length = n := by simp [marksL]

end Go.My

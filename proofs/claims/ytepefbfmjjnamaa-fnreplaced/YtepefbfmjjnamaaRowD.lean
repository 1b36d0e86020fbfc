/- Copies among lists of elements of several cells; an element put between others. Nothing of the program is named. -/
import Derived.Test.YtepefbfmjjnamaaRowC
import Derived.Laws.CopyRow
import Derived.Shelf.Spec.SlicesInsert
import Derived.Lib.AppendZerosOnto
namespace Go.My
open Go.RowKit
set_option linter.unusedVariables false
variable {P : Program}

theorem run_copy_many (w : World) (dT sT ty elem : TypeId) (k g o dLen dCap : Nat) (a : Addr) (sLen sCap : Nat) (cur : Array Value) (t : TypeId) (cs : List Value)
    (hu : P.underlying dT = some (.slice elem)) (hs : (P.info? elem).map (·.size) = some k) (hg : w.heap[g]? = some (.cells cur t (0, 0))) (hn : cs.length = Nat.min sLen dLen * k)
    (hsrc : ∀ j v, cs[j]? = some v → w.cell? (a.add j) = some v) (hfit : o + cs.length ≤ cur.size) (h1 : ∀ v ∈ cs, v.oneCell' = true) :
    (Builtin.copy_ #[dT, sT] ty #[.slice (some ⟨g, o, none⟩) dLen dCap, .slice (some a) sLen sCap]).run P w =
      .ok (goInt (Nat.min sLen dLen : Nat)) (w.setRow g (cur.toList.take o ++ cs ++ cur.toList.drop (o + cs.length)).toArray) := by
  have hl := run_loadCells_list (P := P) w a cs hsrc
  have hst := run_storeCells_at P g o t cs 0 cur w hg (by simpa using hfit) h1
  cases hq : P.info? elem with
  | none => simp [hq] at hs
  | some i =>
    have hi : i.size = k := by simpa [hq] using hs
    simp [Builtin.copy_, run_underlying hu, Builtin.lenOf, Builtin.firstCells, sizeOf, typeInfo, hq, hi, ← hn, hl, hst]

/-- The tail moved on, then the element laid. -/
theorem ins_shift {β : Type} (c A D X R : List β) (a b : Nat) (hA : c.take a = A) (hab : b = a + X.length) (hb : b ≤ c.length) :
    (c.take b ++ D ++ R).take a ++ X ++ (c.take b ++ D ++ R).drop (a + X.length) = A ++ X ++ D ++ R := by
  have h1 : (c.take b).length = b := by rw [List.length_take]; omega
  rw [List.append_assoc (c.take b), List.take_append_of_le_length (by omega), List.take_take, Nat.min_eq_left (by omega), hA]
  rw [← hab, List.drop_left' h1, ← List.append_assoc]
/-- The element laid, then the tail. -/
theorem ins_new {β : Type} (c A D X : List β) (a b : Nat) (hA : c.take a = A) (hab : b = a + X.length) (hb : b + D.length ≤ c.length) :
    (c.take a ++ X ++ c.drop (a + X.length)).take b ++ D ++ (c.take a ++ X ++ c.drop (a + X.length)).drop (b + D.length) = A ++ X ++ D ++ c.drop (b + D.length) := by
  have h1 : (c.take a).length = a := by rw [List.length_take]; omega
  have h2 : (c.take a ++ X).length = b := by rw [List.length_append, h1, hab]
  rw [List.take_left' h2, ← hab, hA]
  rw [hA] at h2
  rw [← List.drop_drop, List.drop_left' h2, List.drop_drop]

/-- An element between others. -/
def insL {α : Type} (l : List α) (i : Nat) (x : α) : List α := l.take i ++ x :: l.drop i
theorem insL_len {α : Type} (l : List α) (i : Nat) (x : α) (h : i ≤ l.length) : (insL l i x).length = l.length + 1 := by
  unfold insL; rw [List.length_append, List.length_take, List.length_cons, List.length_drop]; omega
theorem insL_flat {α β : Type} (f : α → List β) (l : List α) (i : Nat) (x : α) : (insL l i x).flatMap f = (l.take i).flatMap f ++ f x ++ (l.drop i).flatMap f := by
  unfold insL; rw [List.flatMap_append, List.flatMap_cons, List.append_assoc]
theorem insL_end {α : Type} (l : List α) (x : α) : insL l l.length x = l ++ [x] := by unfold insL; rw [List.take_length, List.drop_length]
theorem grw_setRow {a b : World} {g : Nat} (h : a.grownBy b (some g)) (cs : Array Value) : a.grownBy (b.setRow g cs) (some g) :=
  grw_trans h ⟨rfl, rfl, rfl, by simp [World.setRow], fun k _ hne => setRow_other _ _ _ _ (fun c => hne (by rw [c]))⟩
/-- A row whose first cells are those of the list. -/
theorem rowl_is {α : Type} {B e c g cap : Nat} {f : α → List Value} {l : List α} {w : World} {cs R : List Value} (hf : ∀ a, (f a).length = c) (hB : B ≤ g) (hg : w.heap[g]? = some (.cells cs.toArray e (0, 0))) (hc : l.length ≤ cap) (hm : cap ≤ maxLen) (hs : cs.length = cap * c) (hR : cs = l.flatMap f ++ R) :
    RowL B e c f (.slice (some ⟨g, 0, none⟩) l.length cap) l w := by
  refine ⟨flat_len hf l, .inr ⟨g, cap, cs.toArray, rfl, hB, hg, hc, hm, by simpa using hs, ?_⟩⟩
  show cs.take _ = _
  rw [hR, List.take_left' (flat_len hf l)]

end Go.My

/- Lists of structs in memory: cells in the order that the program spells them; lists that came in; lists of noughts. Nothing of the program is named. -/
import Derived.Test.YtkglgficmealnaaRowA
import Derived.Laws.MakeOwn
import Derived.Deep.Slices
namespace Go.My
open Go.RowKit
set_option linter.unusedVariables false
variable {α : Type}

theorem RowL.at {B e c g cap n : Nat} {f : α → List Value} {l : List α} {w : World} (h : RowL B e c f (.slice (some ⟨g, 0, none⟩) n cap) l w) (hf : ∀ a, (f a).length = c) {i : Nat} (hi : i < l.length) {x : α} (hx : l[i] = x) (j : Nat) (hj : j < c) {u : Value} (hu : (f x)[j]? = some u) : w.cell? ⟨g, i * c + j, none⟩ = some u := by
  subst hx
  rw [Nat.mul_comm]
  exact h.cell hf i hi j hj u hu
theorem RowL.put {B e c g cap n : Nat} {f : α → List Value} {l : List α} {w : World} (h : RowL B e c f (.slice (some ⟨g, 0, none⟩) n cap) l w) (hf : ∀ a, (f a).length = c) {i : Nat} (hi : i < l.length) {x : α} (hx : l[i] = x) (j : Nat) (hj : j < c) (u : Value) {b : α} (hb : f b = (f x).set j u) :
    RowL B e c f (.slice (some ⟨g, 0, none⟩) n cap) (l.set i b) (w.setCell ⟨g, i * c + j, none⟩ u) := by
  subst hx
  rw [Nat.mul_comm i c]
  exact h.set hf i hi j hj u b hb

/-- Noughts. -/
theorem made_flat (z : Array Value) (f : α → List Value) (a : α) (n : Nat) (hz : f a = z.toList) : (madeCells z (n * z.size)).toList = (List.replicate n a).flatMap f := by
  have hf : ∀ b ∈ List.replicate n a, f b = z.toList := fun b hb => by rw [List.eq_of_mem_replicate hb, hz]
  have e : (List.replicate n a).flatMap f = (List.replicate n a).flatMap (fun _ => z.toList) := by
    rw [List.flatMap_def, List.flatMap_def]
    congr 1
    exact List.map_congr_left hf
  rw [e]
  by_cases h0 : z.size = 0
  · have : z.toList = [] := List.eq_nil_of_length_eq_zero (by rw [Array.length_toList]; exact h0)
    rw [this, h0, Nat.mul_zero]
    simp [madeCells]
  apply List.ext_getElem?
  intro i
  have hl : ∀ m, ((List.replicate m a).flatMap (fun _ => z.toList)).length = m * z.size := by
    intro m
    induction m with
    | zero => simp
    | succ m ih => rw [List.replicate_succ, List.flatMap_cons, List.length_append, ih, Array.length_toList, Nat.succ_mul]; omega
  by_cases hi : i < n * z.size
  · have h1 : (madeCells z (n * z.size)).toList[i]? = some z[i % z.size]! := by
      simp [madeCells, hi]
    rw [h1]
    have key : ∀ (m i : Nat), i < m * z.size → ((List.replicate m a).flatMap (fun _ => z.toList))[i]? = some z[i % z.size]! := by
      intro m
      induction m with
      | zero => intro i hi; omega
      | succ m ih =>
        intro i hi
        rw [List.replicate_succ, List.flatMap_cons]
        by_cases hlt : i < z.size
        · rw [List.getElem?_append_left (by rw [Array.length_toList]; exact hlt), Nat.mod_eq_of_lt hlt]
          simp [hlt]
        · rw [List.getElem?_append_right (by rw [Array.length_toList]; omega), Array.length_toList, ih (i - z.size) (by rw [Nat.succ_mul] at hi; omega)]
          have hm : i % z.size = (i - z.size) % z.size := Nat.mod_eq_sub_mod (by omega)
          rw [hm]
    exact (key n i hi).symm
  · rw [List.getElem?_eq_none (by rw [Array.length_toList, size_madeCells]; omega), List.getElem?_eq_none (by rw [hl]; omega)]

/-- A slice that came in, over these elements. -/
def ArgL (c : Nat) (f : α → List Value) (v : Value) (l : List α) (w : World) : Prop :=
  ∃ p cap, v = .slice p l.length cap ∧ l.length ≤ cap ∧ cap ≤ maxLen ∧ (l = [] ∨ ∃ b o, p = some ⟨b, o, none⟩ ∧ b < w.heap.size ∧ ∀ i (hi : i < l.length) j u, (f l[i])[j]? = some u → w.cell? ⟨b, o + (i * c + j), none⟩ = some u)
theorem ArgL.below {c : Nat} {f : α → List Value} {v : Value} {l : List α} {w w' : World} (h : ArgL c f v l w) (hb : Below w.heap.size w w') : ArgL c f v l w' := by
  obtain ⟨p, cap, hv, h1, h2, h3⟩ := h
  refine ⟨p, cap, hv, h1, h2, ?_⟩
  rcases h3 with h3 | ⟨b, o, hp, hlt, hc⟩
  · exact .inl h3
  · exact .inr ⟨b, o, hp, Nat.lt_of_lt_of_le hlt hb.size, fun i hi j u hu => by rw [hb.cell (p := ⟨b, o + (i * c + j), none⟩) hlt]; exact hc i hi j u hu⟩
/-- The list as far as it is written. -/
theorem tkp_put {l z : List α} (hz : z.length = l.length) (j : Nat) (hj : j < l.length) : (l.take j ++ z.drop j).set j l[j] = l.take (j + 1) ++ z.drop (j + 1) := by
  have h1 : (l.take j).length = j := by rw [List.length_take]; omega
  rw [List.set_append, if_neg (by omega), h1, Nat.sub_self, List.drop_eq_getElem_cons (by omega : j < z.length), List.set_cons_zero]
  rw [List.take_succ_eq_append_getElem hj, List.append_assoc]
  rfl
theorem tkp_at {l z : List α} (hz : z.length = l.length) (j : Nat) (hj : j < l.length) : (l.take j ++ z.drop j)[j]'(by rw [List.length_append, List.length_take, List.length_drop]; omega) = z[j]'(by omega) := by
  have h1 : (l.take j).length = j := by rw [List.length_take]; omega
  rw [List.getElem_append_right (by omega)]
  simp only [h1, Nat.sub_self]
  rw [List.getElem_drop]
  simp
theorem tkp_len {l z : List α} (hz : z.length = l.length) (j : Nat) (hj : j ≤ l.length) : (l.take j ++ z.drop j).length = l.length := by
  rw [List.length_append, List.length_take, List.length_drop]; omega
theorem set_set_at {l : List α} {j : Nat} (h : j < l.length) (a b : α) : (l.set j a).set j b = l.set j b := List.set_set ..

end Go.My

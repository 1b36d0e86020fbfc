/- A slice of structs that came in, opened. Nothing of the program is named. -/
import Derived.Test.YtkglgficmealnaaRowC
import Derived.OpenShut
import Derived.ShutString
import Derived.ChangeOld
import Derived.Below
namespace Go.My
open Go.RowKit Go.ChangeShapes Go.WideShapes
set_option linter.unusedVariables false

theorem add_none (b o k : Nat) : (⟨b, o, none⟩ : Addr).add k = ⟨b, o + k, none⟩ := by
  unfold Addr.add
  by_cases h : k = 0
  · subst h; rfl
  · rw [if_neg h]
/-- A slice of structs that came in, opened. -/
theorem argL_open {H : Type} {enc : TypeId × Value → H} {P : Program} {w : World} {sp : Nat → Bool} {held : Bool} {α : Type} [Inhabited α] {t e : TypeId} {c : Nat} {f : α → List Value} {W : α → Prop} {fuel : Nat} {cs : List Value} {x : DataW H × List MemPlace}
    (ht : P.underlying t = some (.slice e)) (hc : P.cellsOf e = c) (hc0 : 0 < c) (hf : ∀ a, (f a).length = c) (hel : ∀ n cs x, DataW.trod enc P w 0 sp held n e cs = some x → ∃ a, cs = f a ∧ W a)
    (h : DataW.trod enc P w 0 sp held fuel t cs = some x) : ∃ v l, cs = [v] ∧ ArgL c f v l w ∧ ∀ a ∈ l, W a := by
  rcases Deep.open_slice ht h with ⟨rfl, _⟩ | ⟨a, len, cap, m, n, D, Pl, rfl, _, hl, hm, hmm, _, hx⟩
  · exact ⟨_, [], rfl, ⟨none, 0, rfl, Nat.le_refl _, Nat.zero_le _, .inl rfl⟩, fun _ h => by cases h⟩
  have hlm : len ≤ m := by rw [hmm]; split <;> omega
  have each : ∀ i, i < len → ∃ y : α, W y ∧ w.cells? 0 (a.add (i * c)) c = some (f y) := by
    intro i hi
    obtain ⟨cs', h1, h2⟩ := hx i (by omega)
    obtain ⟨y, rfl, hy⟩ := hel _ _ _ h2
    exact ⟨y, hy, by rw [hc] at h1; exact h1⟩
  obtain ⟨Y, hY⟩ := Deep.choose_lt each
  refine ⟨_, (List.range len).map Y, rfl, ⟨some a, cap, by rw [List.length_map, List.length_range], by rw [List.length_map, List.length_range]; exact hl, hm, ?_⟩, ?_⟩
  · by_cases h0 : len = 0
    · left; rw [h0]; rfl
    right
    have key : ∀ i, i < len → ∀ j u, (f (Y i))[j]? = some u → w.cell? (a.add (i * c + j)) = some u := by
      intro i hi j u hu
      obtain ⟨_, hlen, hcell⟩ := World.cells?_some (hY i hi).2
      have hj : j < c := by have := (List.getElem?_eq_some_iff.1 hu).1; rw [hf] at this; exact this
      rw [← Deep.add_add, hcell j hj, hu]
    obtain ⟨b, o, s⟩ := a
    have k0 : w.cell? ⟨b, o, s⟩ = some ((f (Y 0))[0]'(by rw [hf]; exact hc0)) := by
      have := key 0 (by omega) 0 _ (List.getElem?_eq_getElem (by rw [hf]; exact hc0))
      rw [Nat.zero_mul] at this
      exact this
    have hs : s = none := by
      cases s with
      | none => rfl
      | some q =>
        exfalso
        unfold World.cell? at k0
        split at k0
        · simp at k0
        · cases k0
    subst hs
    refine ⟨b, o, rfl, World.block_lt_of_cell? _ _ k0, fun i hi j u hu => ?_⟩
    rw [List.length_map, List.length_range] at hi
    rw [List.getElem_map, List.getElem_range] at hu
    have := key i hi j u hu
    rw [add_none] at this
    exact this
  · intro y hy
    obtain ⟨i, hi, rfl⟩ := List.mem_map.1 hy
    exact (hY i (List.mem_range.1 hi)).1

end Go.My

/- Rows of structs that hold rows: elements moved whole. Nothing of the program is named. -/
import Derived.Test.YtkglgficmealnaaRowC
import Derived.Deep.MidRow
namespace Go.My
open Go.RowKit
set_option linter.unusedVariables false
variable {α : Type}

theorem setCells_grown (g : Nat) : ∀ (vs : List Value) (o : Nat) (w : World), w.grownBy (w.setCells g o vs) (some g)
  | [], o, w => grw_refl w _
  | v :: vs, o, w => grw_trans (grw_set (grw_refl w (some g)) o v) (setCells_grown g vs (o + 1) (w.setCell ⟨g, o, none⟩ v))
def setL : List Value → Nat → List Value → List Value
  | xs, _, [] => xs
  | xs, o, v :: r => setL (xs.set o v) (o + 1) r
theorem setL_len : ∀ (vs xs : List Value) (o : Nat), (setL xs o vs).length = xs.length
  | [], xs, o => rfl
  | v :: r, xs, o => by show (setL (xs.set o v) (o + 1) r).length = _; rw [setL_len r, List.length_set]
theorem setL_out : ∀ (vs xs : List Value) (o k : Nat), k < o ∨ o + vs.length ≤ k → (setL xs o vs)[k]? = xs[k]?
  | [], xs, o, k, _ => rfl
  | v :: r, xs, o, k, h => by
    show (setL (xs.set o v) (o + 1) r)[k]? = _
    have hl : (v :: r).length = r.length + 1 := rfl
    rw [setL_out r (xs.set o v) (o + 1) k (by omega), List.getElem?_set_ne (by omega)]
theorem setL_in : ∀ (vs xs : List Value) (o j : Nat), o + vs.length ≤ xs.length → j < vs.length → (setL xs o vs)[o + j]? = vs[j]?
  | [], xs, o, j, _, hj => by simp at hj
  | v :: r, xs, o, 0, h, _ => by
    show (setL (xs.set o v) (o + 1) r)[o]? = some v
    have hl : (v :: r).length = r.length + 1 := rfl
    rw [setL_out r (xs.set o v) (o + 1) o (by omega), List.getElem?_set_self (by omega)]
  | v :: r, xs, o, j + 1, h, hj => by
    show (setL (xs.set o v) (o + 1) r)[o + (j + 1)]? = r[j]?
    have hl : (v :: r).length = r.length + 1 := rfl
    rw [show o + (j + 1) = o + 1 + j from by omega]
    exact setL_in r (xs.set o v) (o + 1) j (by rw [List.length_set]; omega) (by omega)
theorem own_setCells {B e c g cap n : Nat} : ∀ (vs xs : List Value) (o : Nat) (w : World), w.ownsRow B e c (.slice (some ⟨g, 0, none⟩) n cap) n xs → (w.setCells g o vs).ownsRow B e c (.slice (some ⟨g, 0, none⟩) n cap) n (setL xs o vs)
  | [], xs, o, w, h => h
  | v :: r, xs, o, w, h => own_setCells r (xs.set o v) (o + 1) (w.setCell ⟨g, o, none⟩ v) (World.ownsRow.stored h o v).1
/-- An element is stored whole. -/
theorem RowL.setAll {B e c g cap n : Nat} {f : α → List Value} {l : List α} {w : World} (h : RowL B e c f (.slice (some ⟨g, 0, none⟩) n cap) l w) (hf : ∀ a, (f a).length = c) (hc0 : 0 < c) {i : Nat} (hi : i < l.length) (b : α) :
    RowL B e c f (.slice (some ⟨g, 0, none⟩) n cap) (l.set i b) (w.setCells g (i * c) (f b)) := by
  have hn : n = l.length := by
    rcases h.2 with ⟨hv, h0⟩ | ⟨_, _, _, hv, _⟩
    · simp at hv
    · simp at hv; exact hv.2.1
  subst hn
  have h1 := own_setCells (f b) (l.flatMap f) (i * c) w h
  have e1 : setL (l.flatMap f) (i * c) (f b) = (l.set i b).flatMap f := by
    apply List.ext_getElem?
    intro k
    have hlen : (l.flatMap f).length = l.length * c := flat_len hf l
    have hmul : i * c + c ≤ l.length * c := by
      have := Nat.mul_le_mul_right c (show i + 1 ≤ l.length from hi)
      rw [Nat.succ_mul] at this
      exact this
    by_cases hk : k < l.length * c
    · obtain ⟨q, r, hr, rfl⟩ : ∃ q r, r < c ∧ k = c * q + r := ⟨k / c, k % c, Nat.mod_lt _ hc0, (Nat.div_add_mod k c).symm⟩
      have hq : q < l.length := by
        refine Nat.lt_of_not_le (fun hle => ?_)
        have := Nat.mul_le_mul_left c hle
        rw [Nat.mul_comm l.length c] at hk
        omega
      rw [flat_get hf (l.set i b) q (by rw [List.length_set]; exact hq) r hr]
      by_cases e : q = i
      · subst e
        rw [Nat.mul_comm c q, setL_in _ _ _ _ (by rw [hf, hlen]; exact hmul) (by rw [hf]; exact hr), List.getElem_set_self]
      · rw [setL_out _ _ _ _ (by
          rw [hf]
          rcases Nat.lt_or_gt_of_ne e with h2 | h2
          · left
            have := Nat.mul_le_mul_left c (show q + 1 ≤ i from h2)
            rw [Nat.mul_succ] at this
            rw [Nat.mul_comm i c]
            omega
          · right
            have := Nat.mul_le_mul_left c (show i + 1 ≤ q from h2)
            rw [Nat.mul_succ] at this
            rw [Nat.mul_comm i c]
            omega), flat_get hf l q hq r hr, List.getElem_set_ne (Ne.symm e)]
    · rw [List.getElem?_eq_none (by rw [setL_len, hlen]; omega), List.getElem?_eq_none (by rw [flat_len hf, List.length_set]; omega)]
  unfold RowL
  rw [List.length_set, ← e1]
  exact h1
theorem row_range {B e c g cap n : Nat} {f : α → List Value} {l : List α} {w : World} (h : RowL B e c f (.slice (some ⟨g, 0, none⟩) n cap) l w) (hf : ∀ a, (f a).length = c) {i : Nat} (hi : i < l.length) : w.rangeAt g (i * c) (f l[i]) := by
  intro j v hj
  exact h.at hf hi rfl j (by have := (List.getElem?_eq_some_iff.1 hj).1; rw [hf] at this; exact this) hj
theorem row_there {B e c g cap n : Nat} {f : α → List Value} {l : List α} {w : World} (h : RowL B e c f (.slice (some ⟨g, 0, none⟩) n cap) l w) (hf : ∀ a, (f a).length = c) {i : Nat} (hi : i < l.length) : w.there g (i * c) c := by
  intro j hj
  have h1 := h.at hf hi rfl j hj (List.getElem?_eq_getElem (by rw [hf]; exact hj))
  exact ⟨by rw [h1]; rfl, h.frozen _⟩
theorem arg_range {c n cap b o : Nat} {f : α → List Value} {l : List α} {w : World} (h : ArgL c f (.slice (some ⟨b, o, none⟩) n cap) l w) {i : Nat} (hi : i < l.length) : w.rangeAt b (o + i * c) (f l[i]) := by
  obtain ⟨p, c2, hv, _, _, h3⟩ := h
  injection hv with e1 e2 e3
  subst e1
  rcases h3 with rfl | ⟨b2, o2, hp, _, hc⟩
  · simp at hi
  · injection hp with hp
    injection hp with h4 h5 _
    subst h4 h5
    intro j v hj
    have := hc i hi j v hj
    rw [show o + i * c + j = o + (i * c + j) from by omega]
    exact this
theorem fill_next {L Z : List α} {j : Nat} (hL : L.length = j) (hj : j < Z.length) (x : α) : (L ++ Z.drop j).set j x = (L ++ [x]) ++ Z.drop (j + 1) := by
  subst hL
  rw [List.set_append, if_neg (by omega), Nat.sub_self, List.drop_eq_getElem_cons hj, List.set_cons_zero, List.append_assoc]
  rfl
theorem range_below {w w' : World} {b o B : Nat} {cs : List Value} (h : w.rangeAt b o cs) (hb : Below B w w') (hB : b < B) : w'.rangeAt b o cs := fun j v hj => (hb.cell (p := ⟨b, o + j, none⟩) hB).trans (h j v hj)

end Go.My

/- The order of texts; a name's place in right files. -/
import Derived.Test.YtepefbfmjjnamaaDkW
import Derived.Lib.Bytealg
namespace Go.Proofs.Ytepefbfmjjnamaa
open Go.RowKit Go.My Go.Lib
set_option linter.unusedVariables false

theorem less_irr : ∀ a : List UInt8, Op.bytesLess a a = false
  | [] => rfl
  | a :: x => by
    show (decide (a < a) || (a == a && Op.bytesLess x x)) = false
    rw [less_irr x]
    simp
theorem less_trans : ∀ a b c : List UInt8, Op.bytesLess a b = true → Op.bytesLess b c = true → Op.bytesLess a c = true
  | _, _, [], h1, h2 => by simp [Op.bytesLess] at h2
  | _, [], _ :: _, h1, h2 => by simp [Op.bytesLess] at h1
  | [], _ :: _, _ :: _, h1, h2 => rfl
  | a :: x, b :: y, c :: z, h1, h2 => by
    have h1' : (decide (a < b) || (a == b && Op.bytesLess x y)) = true := h1
    have h2' : (decide (b < c) || (b == c && Op.bytesLess y z)) = true := h2
    show (decide (a < c) || (a == c && Op.bytesLess x z)) = true
    simp only [Bool.or_eq_true, Bool.and_eq_true, decide_eq_true_eq, beq_iff_eq] at *
    rcases h1' with h1' | ⟨rfl, h1'⟩
    · rcases h2' with h2' | ⟨rfl, h2'⟩
      · exact .inl (UInt8.lt_trans h1' h2')
      · exact .inl h1'
    · rcases h2' with h2' | ⟨rfl, h2'⟩
      · exact .inl h2'
      · exact .inr ⟨rfl, less_trans x y z h1' h2'⟩
theorem less_tri : ∀ a b : List UInt8, Op.bytesLess a b = true ∨ a = b ∨ Op.bytesLess b a = true
  | [], [] => .inr (.inl rfl)
  | [], _ :: _ => .inl rfl
  | _ :: _, [] => .inr (.inr rfl)
  | a :: x, b :: y => by
    have e1 : Op.bytesLess (a :: x) (b :: y) = (decide (a < b) || (a == b && Op.bytesLess x y)) := rfl
    have e2 : Op.bytesLess (b :: y) (a :: x) = (decide (b < a) || (b == a && Op.bytesLess y x)) := rfl
    rw [e1, e2]
    simp only [Bool.or_eq_true, Bool.and_eq_true, decide_eq_true_eq, beq_iff_eq, List.cons.injEq]
    by_cases h : a < b
    · exact .inl (.inl h)
    · by_cases h' : b < a
      · exact .inr (.inr (.inl h'))
      · have he : a = b := by
          apply UInt8.toNat_inj.1
          have h1 : ¬ a.toNat < b.toNat := h
          have h2 : ¬ b.toNat < a.toNat := h'
          omega
        subst he
        rcases less_tri x y with h | h | h
        · exact .inl (.inr ⟨rfl, h⟩)
        · exact .inr (.inl ⟨rfl, h⟩)
        · exact .inr (.inr (.inr ⟨rfl, h⟩))
theorem cmp_less : ∀ a b : List UInt8, compareBytes a b = (if Op.bytesLess a b then -1 else if a = b then 0 else 1)
  | [], [] => rfl
  | [], _ :: _ => rfl
  | _ :: _, [] => by simp [compareBytes, Op.bytesLess]
  | a :: x, b :: y => by
    have e1 : Op.bytesLess (a :: x) (b :: y) = (decide (a < b) || (a == b && Op.bytesLess x y)) := rfl
    have e2 : compareBytes (a :: x) (b :: y) = (if a < b then -1 else if b < a then 1 else compareBytes x y) := rfl
    rw [e1, e2]
    by_cases h : a < b
    · rw [if_pos h, decide_eq_true h]; rfl
    · rw [if_neg h, decide_eq_false h, Bool.false_or]
      by_cases h' : b < a
      · have hne : a ≠ b := by intro c; subst c; exact h h'
        rw [if_pos h']
        simp [hne]
      · have he : a = b := by
          apply UInt8.toNat_inj.1
          have h1 : ¬ a.toNat < b.toNat := h
          have h2 : ¬ b.toNat < a.toNat := h'
          omega
        subst he
        rw [if_neg h', cmp_less x y]
        simp
theorem blt_irr (a : ByteArray) : blt a a = false := less_irr _
theorem blt_trans {a b c : ByteArray} (h1 : blt a b = true) (h2 : blt b c = true) : blt a c = true := less_trans _ _ _ h1 h2
theorem blt_tri (a b : ByteArray) : blt a b = true ∨ a = b ∨ blt b a = true := by
  rcases less_tri a.toList b.toList with h | h | h
  · exact .inl h
  · refine .inr (.inl ?_)
    rw [ByteArray.toList_eq, ByteArray.toList_eq] at h
    rw [← str_of a, ← str_of b, h]
  · exact .inr (.inr h)
theorem blt_asym {a b : ByteArray} (h : blt a b = true) : blt b a = false := by
  cases h' : blt b a with
  | false => rfl
  | true => have := blt_trans h h'; rw [blt_irr] at this; cases this
/-- What strings.Compare says. -/
def cmpV (a b : ByteArray) : Int := if blt a b then -1 else if a = b then 0 else 1
theorem cmpV_eq (a b : ByteArray) : compareBytes a.data.toList b.data.toList = cmpV a b := by
  rw [cmp_less]
  unfold cmpV blt
  rw [ByteArray.toList_eq, ByteArray.toList_eq]
  by_cases h : a = b
  · subst h; simp
  · have : ¬ a.data.toList = b.data.toList := fun c => h (by rw [← str_of a, ← str_of b, c])
    simp [h, this]
theorem cmpV_lt {a b : ByteArray} (h : blt a b = true) : cmpV a b = -1 := by unfold cmpV; rw [h]; rfl
theorem cmpV_ge {a b : ByteArray} (h : blt a b = false) : 0 ≤ cmpV a b := by unfold cmpV; rw [h]; simp; split <;> omega
theorem cmpV_zero (a b : ByteArray) : (cmpV a b == 0) = decide (a = b) := by
  unfold cmpV
  by_cases h : a = b
  · subst h; rw [blt_irr]; simp
  · cases blt a b <;> simp [h]

/-- Names in their order. -/
theorem sorted_of {l : List FileT} (h : filesB l = true) : ∀ i j (hi : i < l.length) (hj : j < l.length), i < j → blt l[i].1 l[j].1 = true := by
  unfold filesB at h
  rw [Bool.and_eq_true, Bool.and_eq_true] at h
  have step : ∀ j (hj : j + 1 < l.length), blt (l[j]'(by omega)).1 l[j + 1].1 = true := by
    intro j hj
    have := goodTo_at l l.length h.1.2 (j + 1) hj
    unfold goodAt at this
    rw [Bool.and_eq_true, Bool.or_eq_true, Nat.add_sub_cancel, nameAt_eq l (j + 1) hj, nameAt_eq l j (by omega)] at this
    rcases this.2 with h' | h'
    · simp at h'
    · simp only [Bool.not_eq_true', Bool.or_eq_false_iff, decide_eq_false_iff_not] at h'
      rcases blt_tri (l[j]'(by omega)).1 l[j + 1].1 with c | c | c
      · exact c
      · exact absurd c.symm h'.2
      · rw [h'.1] at c; cases c
  intro i j hi hj hij
  induction j with
  | zero => omega
  | succ j ih =>
    by_cases hc : i = j
    · subst hc; exact step i hj
    · exact blt_trans (ih (by omega) (by omega)) (step j hj)

end Go.Proofs.Ytepefbfmjjnamaa

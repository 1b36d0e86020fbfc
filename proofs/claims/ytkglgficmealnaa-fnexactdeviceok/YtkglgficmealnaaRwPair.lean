/- The exact laws' helpers for 'Pair' and its lists. Written by py/rows.py. -/
import Derived.Test.YtkglgficmealnaaRowB
import Derived.Test.YtkglgficmealnaaRowC
namespace Go.Proofs.Ytkglgficmealnaa
open Go.RowKit Go.My Go.Lib
set_option linter.unusedVariables false

abbrev PairT : Type := ByteArray × ByteArray
def pairC (a : PairT) : List Value := [.string a.1, .string a.2]
theorem pairC_len (a : PairT) : (pairC a).length = 2 := rfl
def pairZ : PairT := (ByteArray.empty, ByteArray.empty)
def pairN (a : PairT) : Nat := a.1.size + a.2.size
/-- Sizes and numbers as an argument has them. -/
def pairW (a : PairT) : Prop := a.1.size ≤ maxLen ∧ a.2.size ≤ maxLen
def pairSum (l : List PairT) : Nat := (l.map pairN).sum
theorem pairSum_next (l : List PairT) (j : Nat) (h : j < l.length) : pairSum (l.take (j + 1)) = pairSum (l.take j) + pairN l[j] := by
  unfold pairSum
  rw [List.take_succ_eq_append_getElem h, List.map_append, List.sum_append]
  simp
theorem info_Pair : (Try.prog.info? 43).map (fun i => (i.zero, i.size, i.bytes)) = some (some (.agg #[.string ByteArray.empty, .string ByteArray.empty]), 2, 32) := by kernel_rfl

set_option maxHeartbeats 1000000 in
theorem toPair_any (f0 : ByteArray) (f1 : ByteArray) (w : World) : Calls Try.prog 46 #[.agg #[.string f0, .string f1]] w fun e w' => e = .returned (.agg #[.string f0, .string f1]) ∧ Below w.heap.size w w' := by
  go_enter Try.func46, Try.ntmps46
  go_wp2
  refine bodyPost_ret (v := .agg #[.string f0, .string f1]) (by simp [results, Try.results46, go_sem]) rfl ⟨rfl, ?_⟩
  repeat (refine Below.setCell ?_ (p := ⟨_, _, none⟩) (by first | (simp; done) | (simp; omega)) _)
  repeat (refine Below.alloc ?_ (by first | (simp; done) | (simp; omega)) _)
  exact Below.refl _ _

set_option maxHeartbeats 1000000 in
theorem szPair_any (f0 : ByteArray) (f1 : ByteArray) (left : Nat) (w : World) (hl : left ≤ 1048576) (wf0 : f0.size ≤ maxLen) (wf1 : f1.size ≤ maxLen) : Calls Try.prog 39 #[.agg #[.string f0, .string f1], .int .i64 left] w fun e w' => ((∃ r : Nat, e = .returned (.int .i64 r) ∧ r + pairN (f0, f1) = left) ∨ e = .returned (.int .i64 (-1))) ∧ Below w.heap.size w w' := by
  have hlI : (left : Int) ≤ 1048576 := by omega
  have hmf0 : (f0.size : Int) ≤ 9223372036854775807 := by unfold maxLen at wf0; omega
  have hmf1 : (f1.size : Int) ≤ 9223372036854775807 := by unfold maxLen at wf1; omega
  have HN : Hid (pairN (f0, f1) = f0.size + f1.size) := rfl
  by_cases hf0 : f0.size ≤ left
  case neg =>
    have qf0 : (left : Int) - (f0.size : Int) < 0 := by omega
    clear hf0
    go_enter Try.func39, Try.ntmps39
    go_wp2
    go_ret
    exact ⟨.inr rfl, (Below.refl _ _).alloc (Nat.le_refl _) _⟩
  by_cases hf1 : f0.size + f1.size ≤ left
  case neg =>
    have qf0 : ¬ (left : Int) - (f0.size : Int) < 0 := by omega
    have qf1 : (left : Int) - (f0.size : Int) - (f1.size : Int) < 0 := by omega
    clear hf0 hf1
    go_enter Try.func39, Try.ntmps39
    go_wp2
    go_ret
    exact ⟨.inr rfl, (Below.refl _ _).alloc (Nat.le_refl _) _⟩
  have qf0 : ¬ (left : Int) - (f0.size : Int) < 0 := by omega
  have qf1 : ¬ (left : Int) - (f0.size : Int) - (f1.size : Int) < 0 := by omega
  have HE : Hid ((left : Int) - (f0.size : Int) - (f1.size : Int) = ((left - (f0.size + f1.size) : Nat) : Int)) := by show _ = _; omega
  have HL := Lib.hid hf1
  clear hf0 hf1
  go_enter Try.func39, Try.ntmps39
  go_wp2
  go_ret
  exact ⟨.inl ⟨left - (f0.size + f1.size), by rw [← HE.out]; rfl, by rw [HN.out]; have := HL.out; omega⟩, (Below.refl _ _).alloc (Nat.le_refl _) _⟩

set_option maxHeartbeats 1000000 in
theorem eqPair_same (f0 : ByteArray) (f1 : ByteArray) (w : World) : Calls Try.prog 54 #[.agg #[.string f0, .string f1], .agg #[.string f0, .string f1]] w fun e w' => e = .returned (.bool true) ∧ Below w.heap.size w w' := by
  go_enter Try.func54, Try.ntmps54
  go_wp2
  go_ret
  refine ⟨rfl, ?_⟩
  repeat (refine Below.setCell ?_ (p := ⟨_, _, none⟩) (by first | (simp; done) | (simp; omega)) _)
  repeat (refine Below.alloc ?_ (by first | (simp; done) | (simp; omega)) _)
  exact Below.refl _ _

def pairM (m : Nat) : PairT := (markB (m), markB (m + 1))
def pairMs (k n : Nat) : List PairT := (List.range n).map (fun i => pairM (k + 2 * i))
theorem pairMs_len (k n : Nat) : (pairMs k n).length = n := by simp [pairMs]
theorem pairMs_at (k n j : Nat) (h : j < (pairMs k n).length) : (pairMs k n)[j] = pairM (k + 2 * j) := by simp [pairMs]
theorem pairMs_put (k j : Nat) (l : List PairT) (hj : j < l.length) : (pairMs k j ++ l.drop j).set j (pairM (k + 2 * j)) = pairMs k (j + 1) ++ l.drop (j + 1) := by
  have h1 : (pairMs k j).length = j := pairMs_len k j
  rw [List.set_append, if_neg (by omega), h1, Nat.sub_self]
  rw [show pairMs k (j + 1) = pairMs k j ++ [pairM (k + 2 * j)] by simp [pairMs, List.range_succ]]
  rw [List.drop_eq_getElem_cons (by omega : j < l.length), List.set_cons_zero, List.append_assoc]
  rfl

end Go.Proofs.Ytkglgficmealnaa

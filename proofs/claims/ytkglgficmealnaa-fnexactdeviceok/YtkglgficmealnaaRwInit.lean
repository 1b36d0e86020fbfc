/- The exact laws' helpers for 'Init' and its lists. Written by py/rows.py. -/
import Derived.Test.YtkglgficmealnaaRowB
import Derived.Test.YtkglgficmealnaaRowC
namespace Go.Proofs.Ytkglgficmealnaa
open Go.RowKit Go.My Go.Lib
set_option linter.unusedVariables false

abbrev InitT : Type := ByteArray × ByteArray × Int
def initC (a : InitT) : List Value := [.string a.1, .string a.2.1, .int .i64 a.2.2]
theorem initC_len (a : InitT) : (initC a).length = 3 := rfl
def initZ : InitT := (ByteArray.empty, ByteArray.empty, 0)
def initN (a : InitT) : Nat := a.1.size + a.2.1.size
/-- Sizes and numbers as an argument has them. -/
def initW (a : InitT) : Prop := a.1.size ≤ maxLen ∧ a.2.1.size ≤ maxLen ∧ (Lit.int .i64 a.2.2).wf = true
def initSum (l : List InitT) : Nat := (l.map initN).sum
theorem initSum_next (l : List InitT) (j : Nat) (h : j < l.length) : initSum (l.take (j + 1)) = initSum (l.take j) + initN l[j] := by
  unfold initSum
  rw [List.take_succ_eq_append_getElem h, List.map_append, List.sum_append]
  simp
theorem info_Init : (Try.prog.info? 92).map (fun i => (i.zero, i.size, i.bytes)) = some (some (.agg #[.string ByteArray.empty, .string ByteArray.empty, .int .i64 0]), 3, 40) := by kernel_rfl

set_option maxHeartbeats 1000000 in
theorem toInit_any (f0 : ByteArray) (f1 : ByteArray) (f2 : Int) (w : World) : Calls Try.prog 101 #[.agg #[.string f0, .string f1, .int .i64 f2]] w fun e w' => e = .returned (.agg #[.string f0, .string f1, .int .i64 f2]) ∧ Below w.heap.size w w' := by
  go_enter Try.func101, Try.ntmps101
  go_wp2
  refine bodyPost_ret (v := .agg #[.string f0, .string f1, .int .i64 f2]) (by simp [results, Try.results101, go_sem]) rfl ⟨rfl, ?_⟩
  repeat (refine Below.setCell ?_ (p := ⟨_, _, none⟩) (by first | (simp; done) | (simp; omega)) _)
  repeat (refine Below.alloc ?_ (by first | (simp; done) | (simp; omega)) _)
  exact Below.refl _ _

set_option maxHeartbeats 1000000 in
theorem szInit_any (f0 : ByteArray) (f1 : ByteArray) (f2 : Int) (left : Nat) (w : World) (hl : left ≤ 1048576) (wf0 : f0.size ≤ maxLen) (wf1 : f1.size ≤ maxLen) : Calls Try.prog 100 #[.agg #[.string f0, .string f1, .int .i64 f2], .int .i64 left] w fun e w' => ((∃ r : Nat, e = .returned (.int .i64 r) ∧ r + initN (f0, f1, f2) = left) ∨ e = .returned (.int .i64 (-1))) ∧ Below w.heap.size w w' := by
  have hlI : (left : Int) ≤ 1048576 := by omega
  have hmf0 : (f0.size : Int) ≤ 9223372036854775807 := by unfold maxLen at wf0; omega
  have hmf1 : (f1.size : Int) ≤ 9223372036854775807 := by unfold maxLen at wf1; omega
  have HN : Hid (initN (f0, f1, f2) = f0.size + f1.size) := rfl
  by_cases hf0 : f0.size ≤ left
  case neg =>
    have qf0 : (left : Int) - (f0.size : Int) < 0 := by omega
    clear hf0
    go_enter Try.func100, Try.ntmps100
    go_wp2
    go_ret
    exact ⟨.inr rfl, (Below.refl _ _).alloc (Nat.le_refl _) _⟩
  by_cases hf1 : f0.size + f1.size ≤ left
  case neg =>
    have qf0 : ¬ (left : Int) - (f0.size : Int) < 0 := by omega
    have qf1 : (left : Int) - (f0.size : Int) - (f1.size : Int) < 0 := by omega
    clear hf0 hf1
    go_enter Try.func100, Try.ntmps100
    go_wp2
    go_ret
    exact ⟨.inr rfl, (Below.refl _ _).alloc (Nat.le_refl _) _⟩
  have qf0 : ¬ (left : Int) - (f0.size : Int) < 0 := by omega
  have qf1 : ¬ (left : Int) - (f0.size : Int) - (f1.size : Int) < 0 := by omega
  have HE : Hid ((left : Int) - (f0.size : Int) - (f1.size : Int) = ((left - (f0.size + f1.size) : Nat) : Int)) := by show _ = _; omega
  have HL := Lib.hid hf1
  clear hf0 hf1
  go_enter Try.func100, Try.ntmps100
  go_wp2
  go_ret
  exact ⟨.inl ⟨left - (f0.size + f1.size), by rw [← HE.out]; rfl, by rw [HN.out]; have := HL.out; omega⟩, (Below.refl _ _).alloc (Nat.le_refl _) _⟩

set_option maxHeartbeats 1000000 in
theorem eqInit_same (f0 : ByteArray) (f1 : ByteArray) (f2 : Int) (w : World) : Calls Try.prog 105 #[.agg #[.string f0, .string f1, .int .i64 f2], .agg #[.string f0, .string f1, .int .i64 f2]] w fun e w' => e = .returned (.bool true) ∧ Below w.heap.size w w' := by
  go_enter Try.func105, Try.ntmps105
  go_wp2
  go_ret
  refine ⟨rfl, ?_⟩
  repeat (refine Below.setCell ?_ (p := ⟨_, _, none⟩) (by first | (simp; done) | (simp; omega)) _)
  repeat (refine Below.alloc ?_ (by first | (simp; done) | (simp; omega)) _)
  exact Below.refl _ _

def initM (m : Nat) : InitT := (markB (m), markB (m + 1), ((m + 2 : Nat) : Int))
def initMs (k n : Nat) : List InitT := (List.range n).map (fun i => initM (k + 3 * i))
theorem initMs_len (k n : Nat) : (initMs k n).length = n := by simp [initMs]
theorem initMs_at (k n j : Nat) (h : j < (initMs k n).length) : (initMs k n)[j] = initM (k + 3 * j) := by simp [initMs]
theorem initMs_put (k j : Nat) (l : List InitT) (hj : j < l.length) : (initMs k j ++ l.drop j).set j (initM (k + 3 * j)) = initMs k (j + 1) ++ l.drop (j + 1) := by
  have h1 : (initMs k j).length = j := initMs_len k j
  rw [List.set_append, if_neg (by omega), h1, Nat.sub_self]
  rw [show initMs k (j + 1) = initMs k j ++ [initM (k + 3 * j)] by simp [initMs, List.range_succ]]
  rw [List.drop_eq_getElem_cons (by omega : j < l.length), List.set_cons_zero, List.append_assoc]
  rfl

end Go.Proofs.Ytkglgficmealnaa

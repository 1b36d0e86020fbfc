/- Disks as plain words: lists of files, operations. -/
import Derived.Test.YtepefbfmjjnamaaDkB
namespace Go.Proofs.Ytepefbfmjjnamaa
open Go.RowKit Go.My Go.Lib
set_option linter.unusedVariables false

/-- One text before another one. -/
def blt (a b : ByteArray) : Bool := Op.bytesLess a.toList b.toList
def nameB (s : ByteArray) : Bool := decide (1 ≤ s.size) && decide (s.size ≤ 100)
def nameAt (l : List FileT) (i : Nat) : ByteArray := (l.getD i fileZ).1
/-- The file at place i has a right name, behind that of the one ahead. -/
def goodAt (l : List FileT) (i : Nat) : Bool := nameB (nameAt l i) && (decide (i = 0) || !(blt (nameAt l i) (nameAt l (i - 1)) || decide (nameAt l i = nameAt l (i - 1))))
def goodTo (l : List FileT) : Nat → Bool
  | 0 => true
  | j + 1 => goodTo l j && goodAt l j
def dataSum (l : List FileT) : Nat := (l.map (·.2.size)).sum
def filesB (l : List FileT) : Bool := decide (l.length ≤ 60) && goodTo l l.length && decide (dataSum l ≤ 200000)
theorem goodTo_bad (l : List FileT) (j : Nat) (h : goodAt l j = false) : ∀ n, j < n → goodTo l n = false := by
  intro n
  induction n with
  | zero => intro h'; omega
  | succ n ih =>
    intro h'
    show (goodTo l n && goodAt l n) = false
    by_cases hj : j = n
    · rw [← hj, h, Bool.and_false]
    · rw [ih (by omega), Bool.false_and]
theorem dataSum_next (l : List FileT) (j : Nat) (h : j < l.length) : dataSum (l.take (j + 1)) = dataSum (l.take j) + l[j].2.size := by
  unfold dataSum
  rw [List.take_succ_eq_append_getElem h, List.map_append, List.sum_append]
  simp
theorem dataSum_le (l : List FileT) (j : Nat) : dataSum (l.take j) ≤ dataSum l := by
  have : dataSum l = dataSum (l.take j) + dataSum (l.drop j) := by
    unfold dataSum
    rw [← List.sum_append, ← List.map_append, List.take_append_drop]
  omega
theorem nameAt_eq (l : List FileT) (i : Nat) (h : i < l.length) : nameAt l i = l[i].1 := by
  unfold nameAt
  rw [List.getD_eq_getElem?_getD, List.getElem?_eq_getElem h]
  rfl

def idxL (l : List FileT) (n : ByteArray) : Option Nat := l.findIdx? (fun f => decide (f.1 = n))
def idxV (l : List FileT) (n : ByteArray) : Int := match idxL l n with | some j => (j : Int) | none => -1
theorem idxV_some {l : List FileT} {n : ByteArray} {j : Nat} (h : idxL l n = some j) : idxV l n = (j : Int) := by unfold idxV; rw [h]
theorem idxV_none {l : List FileT} {n : ByteArray} (h : idxL l n = none) : idxV l n = -1 := by unfold idxV; rw [h]
def dataOf (l : List FileT) (n : ByteArray) : ByteArray := match idxL l n with | some j => (l.getD j fileZ).2 | none => ByteArray.mk #[]
def putGo (n d : ByteArray) : Bool → List FileT → List FileT
  | done, [] => if done then [] else [(n, d)]
  | done, f :: l => (if !done && !blt f.1 n then [(n, d)] else []) ++ ((if f.1 = n then [] else [f]) ++ putGo n d (done || !blt f.1 n) l)
def putL (l : List FileT) (n d : ByteArray) : List FileT := putGo n d false l
def cutL (l : List FileT) (n : ByteArray) : List FileT := l.filter (fun f => decide (f.1 ≠ n))
/-- Files behind an operation; none: it finds no file. -/
def opDo (l : List FileT) (op : DOpT) : Option (List FileT) :=
  if op.1 = 1 then some (putL l op.2.1 (dataOf l op.2.1 ++ op.2.2.2))
  else if (idxL l op.2.1).isNone then none
  else if op.1 = 2 then some (putL (cutL l op.2.1) op.2.2.1 (dataOf l op.2.1))
  else some (cutL l op.2.1)
def opB (op : DOpT) : Bool :=
  decide (1 ≤ op.1) && decide (op.1 ≤ 3) && nameB op.2.1 && (if op.1 = 2 then nameB op.2.2.1 && decide (op.2.2.2 = ByteArray.mk #[]) else decide (op.2.2.1 = ByteArray.mk #[]) && (decide (op.1 = 1) || decide (op.2.2.2 = ByteArray.mk #[])))
/-- The files behind these operations, if each is right, finds its file and leaves right files. -/
def runL : List FileT → List DOpT → Option (List FileT)
  | l, [] => some l
  | l, op :: ops => match opDo l op with
    | none => none
    | some l' => if opB op && filesB l' then runL l' ops else none
def diskB (d : DiskT) : Bool := filesB d.live && filesB d.safe && decide (d.ops.length ≤ 200) && decide (runL d.safe d.ops = some d.live)

end Go.Proofs.Ytepefbfmjjnamaa

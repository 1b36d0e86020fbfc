/- Keys: the checks of both sides; AdOf. -/
import Derived.Test.YtipcficcoogbnaaRows
import Derived.Test.YtipcficcoogbnaaRegB
import Derived.WalkKit
import Derived.ProofKit
import Derived.Lib.Hide
namespace Go.Proofs.Ytipcficcoogbnaa
open Go.RowKit Go.My Go.Lib
set_option linter.unusedVariables false

theorem isKey_k (s : ByteArray) (w : World) (b : Bool) (hb : ((s.size : Int) == 32) = b) :
    Calls Try.prog 16 #[.string s] w fun e w' => e = .returned (.bool b) ∧ w = w' := by
  go_enter Try.func16, Try.ntmps16
  go_wp2
  go_ret
  exact ⟨rfl, rfl⟩
theorem l1Key_k (s : ByteArray) (w : World) (b : Bool) (hb : ((s.size : Int) == 32) = b) :
    Calls Try.prog 13 #[.string s] w fun e w' => e = .returned (.bool b) ∧ w = w' := by
  go_enter Try.func13, Try.ntmps13
  go_wp2
  go_ret
  exact ⟨rfl, rfl⟩
def strsK (l : List ByteArray) : Array Value := (l.map Value.string).toArray
theorem strsK_get (l : List ByteArray) (j : Nat) (h : j < l.length) : (strsK l)[j]? = some (.string l[j]) := by simp [strsK, h]
def keysB (l : List ByteArray) : Bool := l.all fun s => ((s.size : Int) == 32)
theorem keysB_take (l : List ByteArray) (j : Nat) (h : j < l.length) : keysB (l.take (j + 1)) = (keysB (l.take j) && ((l[j].size : Int) == 32)) := by
  unfold keysB
  rw [List.take_succ_eq_append_getElem h, List.all_append]
  simp
theorem keysB_bad (l : List ByteArray) (j : Nat) (h : j < l.length) (hb : ((l[j].size : Int) == 32) = false) : keysB l = false := by
  unfold keysB
  rw [List.all_eq_false]
  exact ⟨l[j], List.getElem_mem h, by simpa using hb⟩

def adV (a b : ByteArray) : ByteArray := if keysB [a, b] = true then a ++ b else ByteArray.mk #[]
theorem keysB2 (a b : ByteArray) : keysB [a, b] = (((a.size : Int) == 32) && ((b.size : Int) == 32)) := by simp [keysB]
end Go.Proofs.Ytipcficcoogbnaa

/- Keys: the checks of both sides; AdOf. -/
import Derived.Test.YtkglgficmealnaaRows
import Derived.Test.YtkglgficmealnaaRegB
import Derived.WalkKit
import Derived.ProofKit
import Derived.Lib.Hide
namespace Go.Proofs.Ytkglgficmealnaa
open Go.RowKit Go.My Go.Lib
set_option linter.unusedVariables false

theorem isKey_k (s : ByteArray) (w : World) (b : Bool) (hb : ((s.size : Int) == 32) = b) :
    Calls Try.prog 63 #[.string s] w fun e w' => e = .returned (.bool b) ∧ w = w' := by
  go_enter Try.func63, Try.ntmps63
  go_wp2
  go_ret
  exact ⟨rfl, rfl⟩
theorem l1Key_k (s : ByteArray) (w : World) (b : Bool) (hb : ((s.size : Int) == 32) = b) :
    Calls Try.prog 28 #[.string s] w fun e w' => e = .returned (.bool b) ∧ w = w' := by
  go_enter Try.func28, Try.ntmps28
  go_wp2
  go_ret
  exact ⟨rfl, rfl⟩
def strsK (l : List ByteArray) : Array Value := (l.map Value.string).toArray
theorem strsK_get (l : List ByteArray) (j : Nat) (h : j < l.length) : (strsK l)[j]? = some (.string l[j]) := by simp [strsK, h]
def keysB (l : List ByteArray) : Bool := l.all fun s => ((s.size : Int) == 32)
theorem keysB_take (l : List ByteArray) (j : Nat) (h : j < l.length) : keysB (l.take (j + 1)) = (keysB (l.take j) && ((l[j].size : Int) == 32)) := by
  unfold keysB
  rw [List.take_succ_eq_append_getElem h, List.all_append]
  simp
theorem keysB_bad (l : List ByteArray) (j : Nat) (h : j < l.length) (hb : ((l[j].size : Int) == 32) = false) : keysB l = false := by
  unfold keysB
  rw [List.all_eq_false]
  exact ⟨l[j], List.getElem_mem h, by simpa using hb⟩

set_option maxHeartbeats 2000000 in
theorem allKeys_k (g : Nat) (l : List ByteArray) (w : World) (h : Blk g (strsK l) 9 w) (hl : l.length ≤ 100) :
    Calls Try.prog 32 #[.slice (some ⟨g, 0, none⟩) l.length l.length] w fun e w' => e = .returned (.bool (keysB l)) ∧ w = w' := by
  have HB := Lib.hid h
  have hl1 : (l.length : Int) ≤ 100 := by omega
  clear h
  go_enter Try.func32, Try.ntmps32
  go_wp2
  go_loopw [7] (fun i wr => ∃ j : Nat, j ≤ l.length ∧ i = .int .i64 j ∧ keysB (l.take j) = true ∧ w = wr) (fun i _ => l.length - (intOf i).toNat)
  case atStart => exact ⟨0, Nat.zero_le _, rfl, rfl, rfl⟩
  case round =>
    obtain ⟨j, hj, rfl, hall, rfl⟩ := hrel
    by_cases hlt : j < l.length
    · have j0 : (0 : Int) ≤ (j : Int) := by omega
      have j1 : (j : Int) < (l.length : Int) := by omega
      have hc := HB.out.cell (strsK_get l j hlt)
      have HA := Lib.hid hall
      have HT := Lib.hid (keysB_take l j hlt)
      have HBD := Lib.hid (keysB_bad l j hlt)
      clear hall hj
      generalize l[j] = s at *
      cases hk : ((s.size : Int) == 32) with
      | true =>
        have HN : Hid (keysB (l.take (j + 1)) = true) := by show _ = _; rw [HT.out, HA.out, hk]; rfl
        have HK := Lib.hid hk
        clear hk
        go_wp2_with fail
        refine (isKey_k s _ true HK.out).mono ?_
        rintro e w' ⟨rfl, rfl⟩
        go_wp2
        go_roundw
        case rel => exact ⟨j + 1, by omega, by go_num, HN.out, by first | rfl | trivial⟩
        case measure => simp [intOf]; omega
      | false =>
        have HN := Lib.hid (HBD.out hk)
        have HK := Lib.hid hk
        clear hk
        go_wp2_with fail
        refine (isKey_k s _ false HK.out).mono ?_
        rintro e w' ⟨rfl, rfl⟩
        go_wp2
        go_ret
        exact ⟨by rw [HN.out]; rfl, rfl⟩
    · have hje : j = l.length := by omega
      have hpj : (l.length : Int) ≤ (j : Int) := by omega
      have HA : Hid (keysB l = true) := by show _ = _; rw [hje, List.take_length] at hall; exact hall
      clear hall hlt hj hje
      go_wp2
      go_ret
      exact ⟨by rw [HA.out]; rfl, rfl⟩

def adV (a b : ByteArray) : ByteArray := if keysB [a, b] = true then a ++ b else ByteArray.mk #[]
theorem keysB2 (a b : ByteArray) : keysB [a, b] = (((a.size : Int) == 32) && ((b.size : Int) == 32)) := by simp [keysB]
end Go.Proofs.Ytkglgficmealnaa

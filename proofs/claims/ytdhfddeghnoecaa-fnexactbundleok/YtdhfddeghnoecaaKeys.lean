/- Keys: the checks of both sides; AdOf. -/
import Derived.Test.YtdhfddeghnoecaaRows
import Derived.Test.YtdhfddeghnoecaaRegB
import Derived.WalkKit
import Derived.ProofKit
import Derived.Lib.Hide
namespace Go.Proofs.Ytdhfddeghnoecaa
open Go.RowKit Go.My Go.Lib
set_option linter.unusedVariables false

theorem isKey_k (s : ByteArray) (w : World) (b : Bool) (hb : ((s.size : Int) == 32) = b) :
    Calls Try.prog 43 #[.string s] w fun e w' => e = .returned (.bool b) ∧ w = w' := by
  go_enter Try.func43, Try.ntmps43
  go_wp2
  go_ret
  exact ⟨rfl, rfl⟩
theorem l1Key_k (s : ByteArray) (w : World) (b : Bool) (hb : ((s.size : Int) == 32) = b) :
    Calls Try.prog 25 #[.string s] w fun e w' => e = .returned (.bool b) ∧ w = w' := by
  go_enter Try.func25, Try.ntmps25
  go_wp2
  go_ret
  exact ⟨rfl, rfl⟩
def strsK (l : List ByteArray) : Array Value := (l.map Value.string).toArray
theorem strsK_get (l : List ByteArray) (j : Nat) (h : j < l.length) : (strsK l)[j]? = some (.string l[j]) := by simp [strsK, h]
def keysB (l : List ByteArray) : Bool := l.all fun s => ((s.size : Int) == 32)
theorem keysB_take (l : List ByteArray) (j : Nat) (h : j < l.length) : keysB (l.take (j + 1)) = (keysB (l.take j) && ((l[j].size : Int) == 32)) := by
  unfold keysB
  rw [List.take_succ_eq_append_getElem h, List.all_append]
  simp
theorem keysB_bad (l : List ByteArray) (j : Nat) (h : j < l.length) (hb : ((l[j].size : Int) == 32) = false) : keysB l = false := by
  unfold keysB
  rw [List.all_eq_false]
  exact ⟨l[j], List.getElem_mem h, by simpa using hb⟩

set_option maxHeartbeats 2000000 in
theorem allKeys_k (g : Nat) (l : List ByteArray) (w : World) (h : Blk g (strsK l) 9 w) (hl : l.length ≤ 100) :
    Calls Try.prog 26 #[.slice (some ⟨g, 0, none⟩) l.length l.length] w fun e w' => e = .returned (.bool (keysB l)) ∧ w = w' := by
  have HB := Lib.hid h
  have hl1 : (l.length : Int) ≤ 100 := by omega
  clear h
  go_enter Try.func26, Try.ntmps26
  go_wp2
  go_loopw [7] (fun i wr => ∃ j : Nat, j ≤ l.length ∧ i = .int .i64 j ∧ keysB (l.take j) = true ∧ w = wr) (fun i _ => l.length - (intOf i).toNat)
  case atStart => exact ⟨0, Nat.zero_le _, rfl, rfl, rfl⟩
  case round =>
    obtain ⟨j, hj, rfl, hall, rfl⟩ := hrel
    by_cases hlt : j < l.length
    · have j0 : (0 : Int) ≤ (j : Int) := by omega
      have j1 : (j : Int) < (l.length : Int) := by omega
      have hc := HB.out.cell (strsK_get l j hlt)
      have HA := Lib.hid hall
      have HT := Lib.hid (keysB_take l j hlt)
      have HBD := Lib.hid (keysB_bad l j hlt)
      clear hall hj
      generalize l[j] = s at *
      cases hk : ((s.size : Int) == 32) with
      | true =>
        have HN : Hid (keysB (l.take (j + 1)) = true) := by show _ = _; rw [HT.out, HA.out, hk]; rfl
        have HK := Lib.hid hk
        clear hk
        go_wp2_with fail
        refine (isKey_k s _ true HK.out).mono ?_
        rintro e w' ⟨rfl, rfl⟩
        go_wp2
        go_roundw
        case rel => exact ⟨j + 1, by omega, by go_num, HN.out, by first | rfl | trivial⟩
        case measure => simp [intOf]; omega
      | false =>
        have HN := Lib.hid (HBD.out hk)
        have HK := Lib.hid hk
        clear hk
        go_wp2_with fail
        refine (isKey_k s _ false HK.out).mono ?_
        rintro e w' ⟨rfl, rfl⟩
        go_wp2
        go_ret
        exact ⟨by rw [HN.out]; rfl, rfl⟩
    · have hje : j = l.length := by omega
      have hpj : (l.length : Int) ≤ (j : Int) := by omega
      have HA : Hid (keysB l = true) := by show _ = _; rw [hje, List.take_length] at hall; exact hall
      clear hall hlt hj hje
      go_wp2
      go_ret
      exact ⟨by rw [HA.out]; rfl, rfl⟩

def adV (a b : ByteArray) : ByteArray := if keysB [a, b] = true then a ++ b else ByteArray.mk #[]
theorem keysB2 (a b : ByteArray) : keysB [a, b] = (((a.size : Int) == 32) && ((b.size : Int) == 32)) := by simp [keysB]
set_option maxHeartbeats 2000000 in
theorem adOf_i (a b : ByteArray) (w : World) (ha : a.size ≤ 1048576) (hb : b.size ≤ 1048576) :
    Calls Try.prog 9 #[.string a, .string b] w fun e w' => e = .returned (.string (adV a b)) ∧ Below w.heap.size w w' := by
  have hc1 : ¬ 9223372036854775807 < a.size + b.size := by omega
  have HK := Lib.hid (allKeys_k w.heap.size [a, b] (w.alloc (.cells (strsK [a, b]) 9)) (heap_alloc_new w _) (by simp))
  have hB : Below w.heap.size w (w.alloc (.cells (strsK [a, b]) 9)) := (Below.refl _ _).alloc (Nat.le_refl _) _
  clear ha hb
  cases hk : keysB [a, b] with
  | true =>
    have HV : Hid (adV a b = a ++ b) := if_pos hk
    rw [hk] at HK
    clear hk
    go_enter Try.func9, Try.ntmps9
    go_wp2_with fail
    refine HK.out.mono ?_
    rintro e w' ⟨rfl, rfl⟩
    go_wp2
    go_ret
    exact ⟨by rw [HV.out]; rfl, hB⟩
  | false =>
    have HV : Hid (adV a b = ByteArray.mk #[]) := if_neg (by rw [hk]; decide)
    rw [hk] at HK
    clear hk
    go_enter Try.func9, Try.ntmps9
    go_wp2_with fail
    refine HK.out.mono ?_
    rintro e w' ⟨rfl, rfl⟩
    go_wp2
    go_ret
    exact ⟨by rw [HV.out]; rfl, hB⟩
set_option maxHeartbeats 2000000 in
theorem adOf_s (a b : ByteArray) (w : World) (ha : a.size ≤ 1048576) (hb : b.size ≤ 1048576) :
    Calls Try.prog 8 #[.string a, .string b] w fun e w' => e = .returned (.string (adV a b)) ∧ Below w.heap.size w w' := by
  have hc1 : ¬ 9223372036854775807 < a.size + b.size := by omega
  have e2 := keysB2 a b
  clear ha hb
  cases ha : ((a.size : Int) == 32) with
  | false =>
    have HV : Hid (adV a b = ByteArray.mk #[]) := if_neg (by rw [e2, ha]; simp)
    have HA := Lib.hid ha
    clear ha e2
    go_enter Try.func8, Try.ntmps8
    go_wp2_with fail
    refine (l1Key_k a _ false HA.out).mono ?_
    rintro e w' ⟨rfl, rfl⟩
    go_wp2
    go_ret
    exact ⟨by rw [HV.out]; rfl, Below.refl _ _⟩
  | true =>
    cases hb : ((b.size : Int) == 32) with
    | false =>
      have HV : Hid (adV a b = ByteArray.mk #[]) := if_neg (by rw [e2, ha, hb]; simp)
      have HA := Lib.hid ha
      have HB := Lib.hid hb
      clear ha hb e2
      go_enter Try.func8, Try.ntmps8
      go_wp2_with fail
      refine (l1Key_k a _ true HA.out).mono ?_
      rintro e w' ⟨rfl, rfl⟩
      go_wp2_with fail
      refine (l1Key_k b _ false HB.out).mono ?_
      rintro e w' ⟨rfl, rfl⟩
      go_wp2
      go_ret
      exact ⟨by rw [HV.out]; rfl, Below.refl _ _⟩
    | true =>
      have HV : Hid (adV a b = a ++ b) := if_pos (by rw [e2, ha, hb]; rfl)
      have HA := Lib.hid ha
      have HB := Lib.hid hb
      clear ha hb e2
      go_enter Try.func8, Try.ntmps8
      go_wp2_with fail
      refine (l1Key_k a _ true HA.out).mono ?_
      rintro e w' ⟨rfl, rfl⟩
      go_wp2_with fail
      refine (l1Key_k b _ true HB.out).mono ?_
      rintro e w' ⟨rfl, rfl⟩
      go_wp2
      go_ret
      exact ⟨by rw [HV.out]; rfl, Below.refl _ _⟩

end Go.Proofs.Ytdhfddeghnoecaa

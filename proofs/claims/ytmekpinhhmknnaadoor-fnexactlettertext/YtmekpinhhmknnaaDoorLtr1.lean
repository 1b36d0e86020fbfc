/- Letters: their checks, on both sides. -/
import Derived.Test.YtmekpinhhmknnaaDoorRows
import Derived.Test.YtmekpinhhmknnaaDoorRowA
namespace Go.Proofs.YtmekpinhhmknnaaDoor
open Go.RowKit Go.My Go.Lib
set_option linter.unusedVariables false

abbrev letterA (a b : Int) (s : ByteArray) : Array Value := #[.int .i64 a, .int .i64 b, .string s]
theorem lt_cells {w : World} {k : Nat} {x y z : Value} {T : TypeId} (h : w.heap[k]? = some (.cells #[x, y, z] T (0, 0))) : (w.cell? ⟨k, 0, none⟩ = some x ∧ w.cell? ⟨k, 1, none⟩ = some y ∧ w.cell? ⟨k, 2, none⟩ = some z) ∧ ∀ j, w.frozen? ⟨k, j, none⟩ = false :=
  ⟨⟨(cell_of_row w k 0 _ T (0, 0) h), (cell_of_row w k 1 _ T (0, 0) h), (cell_of_row w k 2 _ T (0, 0) h)⟩, fun j => frozen_of_row w k j _ T h⟩
def okC (c : UInt8) : Bool := decide (33 ≤ c.toNat) && decide (c.toNat ≤ 126)
def allTo (s : ByteArray) (j : Nat) : Prop := ∀ i (h : i < s.size), i < j → okC s[i] = true
def allC (s : ByteArray) : Bool := s.data.toList.all okC
def sendB (s : ByteArray) : Bool := decide (1 ≤ s.size) && decide (s.size ≤ 60) && allC s
theorem all_yes {s : ByteArray} (h : allTo s s.size) : allC s = true := by
  unfold allC
  rw [List.all_eq_true]
  intro c hc
  obtain ⟨i, hi, rfl⟩ := List.mem_iff_getElem.1 hc
  have := h i (by simpa using hi) (by simpa using hi)
  exact this
theorem all_no {s : ByteArray} {i : Nat} (h : i < s.size) (hc : okC s[i] = false) : allC s = false := by
  unfold allC
  rw [List.all_eq_false]
  exact ⟨s[i], by rw [List.mem_iff_getElem]; exact ⟨i, by simpa using h, rfl⟩, by rw [hc]; simp⟩

theorem all_next {s : ByteArray} {j : Nat} (h : allTo s j) (hj : j < s.size) (hc : okC s[j] = true) : allTo s (j + 1) := by
  intro i hi hlt
  by_cases e : i = j
  · subst e; exact hc
  · exact h i hi (by omega)

def inB (n a b : Int) : Bool := decide (a ≤ n) && decide (n ≤ b)
theorem in_yes {n a b : Int} (h1 : a ≤ n) (h2 : n ≤ b) : inB n a b = true := by unfold inB; rw [decide_eq_true h1, decide_eq_true h2]; rfl
theorem in_no1 {n a b : Int} (h1 : ¬ a ≤ n) : inB n a b = false := by unfold inB; rw [decide_eq_false h1]; rfl
theorem in_no2 {n a b : Int} (h2 : ¬ n ≤ b) : inB n a b = false := by unfold inB; rw [decide_eq_false h2, Bool.and_false]
theorem in_s (n a b : Int) (w : World) : Calls Tryd.prog 25 #[.int .i64 n, .int .i64 a, .int .i64 b] w fun e w' => e = .returned (.bool (inB n a b)) ∧ w' = w := by
  by_cases h1 : a ≤ n
  case neg =>
    have HV := Lib.hid (in_no1 (b := b) h1)
    go_enter Tryd.func25, Tryd.ntmps25
    go_wp2
    go_ret
    exact ⟨by rw [HV.out]; rfl, rfl⟩
  by_cases h2 : n ≤ b
  case neg =>
    have HV := Lib.hid (in_no2 (a := a) h2)
    go_enter Tryd.func25, Tryd.ntmps25
    go_wp2
    go_ret
    exact ⟨by rw [HV.out]; rfl, rfl⟩
  have HV := Lib.hid (in_yes h1 h2)
  go_enter Tryd.func25, Tryd.ntmps25
  go_wp2
  go_ret
  exact ⟨by rw [HV.out]; rfl, rfl⟩
theorem member_i (n : Int) (w : World) : Calls Tryd.prog 51 #[.int .i64 n] w fun e w' => e = .returned (.bool (inB n 1 4)) ∧ w' = w := by
  by_cases h1 : 1 ≤ n
  case neg =>
    have HV := Lib.hid (in_no1 (b := 4) h1)
    go_enter Tryd.func51, Tryd.ntmps51
    go_wp2
    go_ret
    exact ⟨by rw [HV.out]; rfl, rfl⟩
  by_cases h2 : n ≤ 4
  case neg =>
    have HV := Lib.hid (in_no2 (a := 1) h2)
    go_enter Tryd.func51, Tryd.ntmps51
    go_wp2
    go_ret
    exact ⟨by rw [HV.out]; rfl, rfl⟩
  have HV := Lib.hid (in_yes h1 h2)
  go_enter Tryd.func51, Tryd.ntmps51
  go_wp2
  go_ret
  exact ⟨by rw [HV.out]; rfl, rfl⟩

set_option maxHeartbeats 600000 in
theorem sendable_i (s : ByteArray) (w : World) (hs : s.size ≤ 1048576) : Calls Tryd.prog 52 #[.string s] w fun e w' => e = .returned (.bool (sendB s)) ∧ Below w.heap.size w w' := by
  have hsI : (s.size : Int) ≤ 1048576 := by omega
  by_cases h1 : 1 ≤ s.size
  case neg =>
    have c1 : (s.size : Int) < 1 := by omega
    have HS : Hid (sendB s = false) := by show _ = _; unfold sendB; rw [decide_eq_false h1]; rfl
    clear h1 hs
    go_enter Tryd.func52, Tryd.ntmps52
    go_wp2
    go_ret
    exact ⟨by rw [HS.out]; rfl, Below.refl _ _⟩
  by_cases h2 : s.size ≤ 60
  case neg =>
    have c1 : ¬ (s.size : Int) < 1 := by omega
    have c2 : (60 : Int) < (s.size : Int) := by omega
    have HS : Hid (sendB s = false) := by show _ = _; unfold sendB; rw [decide_eq_false h2, Bool.and_false]; rfl
    clear h1 hs h2
    go_enter Tryd.func52, Tryd.ntmps52
    go_wp2
    go_ret
    exact ⟨by rw [HS.out]; rfl, Below.refl _ _⟩
  have c1 : ¬ (s.size : Int) < 1 := by omega
  have c2 : ¬ (60 : Int) < (s.size : Int) := by omega
  have HS : Hid (sendB s = allC s) := by show _ = _; unfold sendB; rw [decide_eq_true h1, decide_eq_true h2]; rfl
  clear h1 hs h2
  go_enter Tryd.func52, Tryd.ntmps52
  go_wp2
  go_loopw [14] (fun i wr => ∃ j : Nat, j ≤ s.size ∧ i = .int .i64 j ∧ Hid (allTo s j) ∧ Below w.heap.size w wr) (fun i _ => s.size - (intOf i).toNat)
  case atStart => exact ⟨0, Nat.zero_le _, rfl, (fun i h hi => by omega : allTo s 0), Below.refl _ _⟩
  case round =>
    obtain ⟨j, hj, rfl, hA, hB⟩ := hrel
    by_cases hlt : j < s.size
    · have j0 : (0 : Int) ≤ (j : Int) := by omega
      have j1 : (j : Int) < (s.size : Int) := by omega
      obtain ⟨c, hc⟩ : ∃ c, s[j] = c := ⟨_, rfl⟩
      by_cases k1 : c.toNat ≤ 32
      · have q1 : ((s[j]'hlt).toNat : Int) ≤ 32 := by rw [hc]; omega
        have HN := Lib.hid (all_no hlt (by rw [hc]; unfold okC; rw [decide_eq_false (by omega)]; rfl))
        clear hc k1
        go_wp2
        go_ret
        exact ⟨by rw [HS.out, HN.out]; rfl, hB⟩
      have q1 : ¬ ((s[j]'hlt).toNat : Int) ≤ 32 := by rw [hc]; omega
      by_cases k2 : c.toNat ≤ 126
      case neg =>
        have q2 : (126 : Int) < ((s[j]'hlt).toNat : Int) := by rw [hc]; omega
        have HN := Lib.hid (all_no hlt (by rw [hc]; unfold okC; rw [decide_eq_false k2, Bool.and_false]))
        clear hc k1 k2
        go_wp2
        go_ret
        exact ⟨by rw [HS.out, HN.out]; rfl, hB⟩
      have q2 : ¬ (126 : Int) < ((s[j]'hlt).toNat : Int) := by rw [hc]; omega
      have HN : Hid (allTo s (j + 1)) := all_next hA.out hlt (by rw [hc]; unfold okC; rw [decide_eq_true (by omega), decide_eq_true k2]; rfl)
      clear hc k1 k2
      go_wp2
      go_roundw
      case rel => exact ⟨j + 1, by omega, by go_num, HN, hB⟩
      case measure => simp [intOf]; omega
    · obtain rfl : j = s.size := by omega
      have HA := Lib.hid (all_yes hA.out)
      go_wp2
      go_ret
      exact ⟨by rw [HS.out, HA.out]; rfl, hB⟩

set_option maxHeartbeats 600000 in
theorem text_s (s : ByteArray) (w : World) (hs : s.size ≤ 1048576) : Calls Tryd.prog 26 #[.string s] w fun e w' => e = .returned (.bool (sendB s)) ∧ Below w.heap.size w w' := by
  have hsI : (s.size : Int) ≤ 1048576 := by omega
  have HE : Hid (inB (s.size : Int) 1 60 = (decide (1 ≤ s.size) && decide (s.size ≤ 60))) := by
    show _ = _
    unfold inB
    by_cases h : 1 ≤ s.size
    · rw [decide_eq_true h, decide_eq_true (by omega)]
      by_cases h' : s.size ≤ 60
      · rw [decide_eq_true h', decide_eq_true (by omega)]
      · rw [decide_eq_false h', decide_eq_false (by omega)]
    · rw [decide_eq_false h, decide_eq_false (by omega)]; rfl
  have CI := Lib.hid (in_s (s.size : Int) 1 60)
  go_enter Tryd.func26, Tryd.ntmps26
  go_wp2
  go_loopw [3] (fun i wr => ∃ j : Nat, j ≤ s.size ∧ i = .int .i64 j ∧ Hid (allTo s j) ∧ Below w.heap.size w wr) (fun i _ => s.size - (intOf i).toNat)
  case atStart => exact ⟨0, Nat.zero_le _, rfl, (fun i h hi => by omega : allTo s 0), Below.refl _ _⟩
  case round =>
    obtain ⟨j, hj, rfl, hA, hB⟩ := hrel
    by_cases hlt : j < s.size
    · have j0 : (0 : Int) ≤ (j : Int) := by omega
      have j1 : (j : Int) < (s.size : Int) := by omega
      obtain ⟨c, hc⟩ : ∃ c, s[j] = c := ⟨_, rfl⟩
      by_cases k1 : c.toNat < 33
      · have q1 : ((s[j]'hlt).toNat : Int) < 33 := by rw [hc]; omega
        have HN := Lib.hid (all_no hlt (by rw [hc]; unfold okC; rw [decide_eq_false (by omega)]; rfl))
        clear hc k1
        go_wp2
        go_ret
        exact ⟨by unfold sendB; rw [HN.out, Bool.and_false]; rfl, hB⟩
      have q1 : ¬ ((s[j]'hlt).toNat : Int) < 33 := by rw [hc]; omega
      by_cases k2 : c.toNat ≤ 126
      case neg =>
        have q2 : (126 : Int) < ((s[j]'hlt).toNat : Int) := by rw [hc]; omega
        have HN := Lib.hid (all_no hlt (by rw [hc]; unfold okC; rw [decide_eq_false k2, Bool.and_false]))
        clear hc k1 k2
        go_wp2
        go_ret
        exact ⟨by unfold sendB; rw [HN.out, Bool.and_false]; rfl, hB⟩
      have q2 : ¬ (126 : Int) < ((s[j]'hlt).toNat : Int) := by rw [hc]; omega
      have HN : Hid (allTo s (j + 1)) := all_next hA.out hlt (by rw [hc]; unfold okC; rw [decide_eq_true (by omega), decide_eq_true k2]; rfl)
      clear hc k1 k2
      go_wp2
      go_roundw
      case rel => exact ⟨j + 1, by omega, by go_num, HN, hB⟩
      case measure => simp [intOf]; omega
    · obtain rfl : j = s.size := by omega
      have HA := Lib.hid (all_yes hA.out)
      go_wp2_with fail
      refine (CI.out _).mono ?_
      rintro e w2 ⟨rfl, rfl⟩
      go_wp2
      go_ret
      exact ⟨by rw [HE.out]; unfold sendB; rw [HA.out, Bool.and_true]; rfl, hB⟩

end Go.Proofs.YtmekpinhhmknnaaDoor

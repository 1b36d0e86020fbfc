/- Key chains: ChainKey at all arguments, of the program and of the specification. -/
import Derived.Test.YtabomojhbfbgbaaDoorChn4
import Derived.Test.YtabomojhbfbgbaaDoorSmall
namespace Go.Proofs.YtabomojhbfbgbaaDoor
open Go.RowKit Go.My Go.Lib
set_option linter.unusedVariables false

def ChP (k : ByteArray) (n : Int) : Prop := k.size = 32 ∧ 0 ≤ n ∧ n ≤ 1000
instance (k : ByteArray) (n : Int) : Decidable (ChP k n) := inferInstanceAs (Decidable (_ ∧ _))
def chV (k : ByteArray) (n : Int) : ByteArray := if ChP k n then nowS (keyS k n.toNat) else ⟨#[]⟩
theorem chV_yes {k : ByteArray} {n : Int} (h : ChP k n) : chV k n = nowS (keyS k n.toNat) := if_pos h
theorem chV_no {k : ByteArray} {n : Int} (h : ¬ ChP k n) : chV k n = ⟨#[]⟩ := if_neg h

set_option maxHeartbeats 2000000 in
theorem chainKey_i (k : ByteArray) (n : Int) (w : World) (hT : TabK w) (hs : k.size ≤ 9223372036854775807) :
    Calls Tryd.prog 24 #[.string k, .int .i64 n] w fun e w' => e = .returned (.string (chV k n)) ∧ Below w.heap.size w w' := by
  by_cases h1 : k.size = 32
  case neg =>
    rw [chV_no (fun c => h1 c.1)]
    have HK := Lib.hid (fun V => isKey_i k V false (decide_eq_false h1) hs)
    clear h1
    go_enter Tryd.func24, Tryd.ntmps24
    go_wp2_with fail
    refine (HK.out _).mono ?_
    rintro e w1 ⟨rfl, rfl⟩
    go_wp2
    go_ret
    exact ⟨rfl, Below.refl _ _⟩
  by_cases h2 : 0 ≤ n
  case neg =>
    rw [chV_no (fun c => h2 c.2.1)]
    have HK := Lib.hid (fun V => isKey_i k V true (decide_eq_true h1) hs)
    have h2' : n < 0 := by omega
    clear h1 h2
    go_enter Tryd.func24, Tryd.ntmps24
    go_wp2_with fail
    refine (HK.out _).mono ?_
    rintro e w1 ⟨rfl, rfl⟩
    go_wp2
    go_ret
    exact ⟨rfl, Below.refl _ _⟩
  by_cases h3 : n ≤ 1000
  case neg =>
    rw [chV_no (fun c => h3 c.2.2)]
    have HK := Lib.hid (fun V => isKey_i k V true (decide_eq_true h1) hs)
    have h3' : 1000 < n := by omega
    clear h1 h3
    go_enter Tryd.func24, Tryd.ntmps24
    go_wp2_with fail
    refine (HK.out _).mono ?_
    rintro e w1 ⟨rfl, rfl⟩
    go_wp2
    go_ret
    exact ⟨rfl, Below.refl _ _⟩
  rw [chV_yes ⟨h1, h2, h3⟩]
  obtain ⟨m, rfl⟩ : ∃ m : Nat, n = (m : Int) := ⟨n.toNat, by omega⟩
  rw [Int.toNat_natCast]
  exact chainKey_yes k m w hT h1 (by omega)

theorem l5N_c (n : Int) (w : World) (b : Bool) (hb : (decide (0 ≤ n) && decide (n ≤ 1000)) = b) :
    Calls Tryd.prog 44 #[.int .i64 n] w fun e w' => e = .returned (.bool b) ∧ w = w' := by
  go_enter Tryd.func44, Tryd.ntmps44
  go_wp2_with fail
  refine (in_any n 0 1000 _).mono ?_
  rintro e w1 ⟨rfl, rfl⟩
  rw [hb]
  go_wp2
  go_ret
  exact ⟨rfl, rfl⟩

set_option maxHeartbeats 2000000 in
theorem chainKey_s (k : ByteArray) (n : Int) (w : World) (hs : k.size ≤ 9223372036854775807) :
    Calls Tryd.prog 23 #[.string k, .int .i64 n] w fun e w' => e = .returned (.string (chV k n)) ∧ Below w.heap.size w w' := by
  by_cases h1 : k.size = 32
  case neg =>
    rw [chV_no (fun c => h1 c.1)]
    have HK := Lib.hid (fun V => isKey_s k V false (decide_eq_false h1) hs)
    clear h1
    go_enter Tryd.func23, Tryd.ntmps23
    go_wp2_with fail
    refine (HK.out _).mono ?_
    rintro e w1 ⟨rfl, rfl⟩
    go_wp2
    go_ret
    exact ⟨rfl, Below.refl _ _⟩
  have HK := Lib.hid (fun V => isKey_s k V true (decide_eq_true h1) hs)
  by_cases h2 : 0 ≤ n ∧ n ≤ 1000
  case neg =>
    rw [chV_no (fun c => h2 c.2)]
    have HN := Lib.hid (fun V => l5N_c n V false (by simp; omega))
    clear h1 h2
    go_enter Tryd.func23, Tryd.ntmps23
    go_wp2_with fail
    refine (HK.out _).mono ?_
    rintro e w1 ⟨rfl, rfl⟩
    go_wp2_with fail
    refine (HN.out _).mono ?_
    rintro e w1 ⟨rfl, rfl⟩
    go_wp2
    go_ret
    exact ⟨rfl, Below.refl _ _⟩
  rw [chV_yes ⟨h1, h2⟩]
  have HN := Lib.hid (fun V => l5N_c n V true (by simp; omega))
  obtain ⟨m, rfl⟩ : ∃ m : Nat, n = (m : Int) := ⟨n.toNat, by omega⟩
  rw [Int.toNat_natCast]
  have HM : Hid (m ≤ 1000) := by show _ ≤ _; omega
  have HS : Hid (∀ j V, Calls Tryd.prog 42 #[.string (keyS k j)] V fun e w' => e = .returned (.tuple #[.string (nextS (keyS k j)), .string (nowS (keyS k j))]) ∧ Below V.heap.size V w') := fun j V => l6Step_any (keyS k j) V (keyS_size k h1 j)
  clear h1 h2
  go_enter Tryd.func23, Tryd.ntmps23
  go_wp2_with fail
  refine (HK.out _).mono ?_
  rintro e w1 ⟨rfl, rfl⟩
  go_wp2_with fail
  refine (HN.out _).mono ?_
  rintro e w1 ⟨rfl, rfl⟩
  go_wp2_with fail
  go_loopw [0, 5] (fun f i wr => ∃ j : Nat, j ≤ m ∧ f = .string (keyS k j) ∧ i = .int .i64 j ∧ Below w.heap.size w wr) (fun _ i _ => m - (intOf i).toNat)
  case atStart => exact ⟨0, Nat.zero_le _, rfl, rfl, Below.refl _ _⟩
  case round =>
    obtain ⟨j, hj, rfl, rfl, hb⟩ := hrel
    by_cases hlt : j < m
    · have hlt' : (j : Int) < (m : Int) := by omega
      have hj1 : (j : Int) ≤ 1000 := by have := HM.out; omega
      go_wp2_with fail
      refine (HS.out j _).mono ?_
      rintro e w2 ⟨rfl, hb2⟩
      go_wp2
      go_roundw
      case rel => exact ⟨j + 1, by omega, rfl, by go_num, hb.trans (hb2.mono hb.size)⟩
      case measure => simp [intOf]; omega
    · have hje : j = m := by omega
      subst hje
      go_wp2_with fail
      refine (HS.out _ _).mono ?_
      rintro e w2 ⟨rfl, hb2⟩
      go_wp2
      go_ret
      exact ⟨rfl, hb.trans (hb2.mono hb.size)⟩

end Go.Proofs.YtabomojhbfbgbaaDoor

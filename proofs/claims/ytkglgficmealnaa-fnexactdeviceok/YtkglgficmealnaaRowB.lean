/- The marks of the exact laws, and lists of strings: compared, marked, held. -/
import Derived.Test.YtkglgficmealnaaRowA
import Derived.Test.YtkglgficmealnaaRows
import Derived.WalkKit
import Derived.ProofKit
import Derived.Lib.Hide
import Derived.Deep.QuietTactic
import Derived.BigQuiet
import Derived.Deep.MidRow
import Derived.Deep.RegionHeld3
import Derived.Deep.AppendLies
import Derived.StillTailTactics
import Derived.WalkSpells
import Derived.WalkLawsBesides
import Derived.Deep.Cut
namespace Go.Proofs.Ytkglgficmealnaa
open Go.RowKit Go.My Go.Lib
set_option linter.unusedVariables false

theorem conv_one (W : World) (n : Nat) (h : n < 256) : (convert 128 9 (.slice (some ⟨W.heap.size, 0, none⟩) 1 1)).run Try.prog (W.alloc (.cells #[.int .u8 (n : Int)] 5)) = .ok (.string (str [UInt8.ofNat n])) (W.alloc (.cells #[.int .u8 (n : Int)] 5)) := by
  refine run_convert_own (P := Try.prog) _ 128 9 5 W.heap.size 1 _ _ Try.underlying128 Try.underlying5 Try.underlying9 ?_
  have e : cellsOf [UInt8.ofNat n] = [.int .u8 (n : Int)] := by
    simp only [cellsOf, List.map_cons, List.map_nil, UInt8.toNat_ofNat', Nat.mod_eq_of_lt h]
  rw [e]
  exact World.ownsRow_lit (base := W.heap.size) (e := 5) (size := 1) W #[.int .u8 (n : Int)] 1 (Nat.le_refl _) (by unfold maxLen; omega) rfl

set_option maxRecDepth 100000 in
set_option maxHeartbeats 1000000 in
theorem markText_any (k : Nat) (w : World) (hk : k ≤ 4611686018427387904) :
    Calls Try.prog 66 #[.int .i64 k] w fun e w' => e = .returned (.string (markB k)) ∧ Below w.heap.size w w' := by
  by_cases h0 : k = 0
  · subst h0
    go_enter Try.func66, Try.ntmps66
    go_wp2
    go_ret
    exact ⟨rfl, Below.refl _ _⟩
  have hd : decide ((k : Int) ≤ 0) = false := by simp; omega
  have HM : Hid (markB k = str (109 :: digM k k)) := if_neg h0
  have HL := Lib.hid (digM_len k)
  have HK := Lib.hid hk
  go_enter Try.func66, Try.ntmps66
  clear hk
  go_wp2
  go_loopw [0, 3] (fun k' s wr => ∃ (m : Nat) (t : List UInt8), k' = .int .i64 m ∧ s = .string (str t) ∧ digM m m ++ t = digM k k ∧ m ≤ k ∧ Below w.heap.size w wr) (fun k' _ _ => (intOf k').toNat)
  case atStart => exact ⟨k, [], rfl, rfl, List.append_nil _, Nat.le_refl _, Below.refl _ _⟩
  case round =>
    obtain ⟨m, t, rfl, rfl, hdt, hmk, hb⟩ := hrel
    have hlen : (str t).size ≤ k := by rw [str_size]; have := HL.out; rw [← hdt, List.length_append] at this; omega
    have HS := Lib.hid hlen
    have HMK := Lib.hid hmk
    clear hlen hmk
    by_cases hm : m = 0
    · subst hm
      have hdt' : Hid (t = digM k k) := by show _ = _; rw [← hdt]; rfl
      have c1 : ¬ 9223372036854775807 < (ByteArray.mk #[109]).size + (str t).size := by have := HS.out; have := HK.out; show ¬ _ < 1 + _; omega
      clear hdt
      go_wp2
      go_ret
      refine ⟨?_, hb⟩
      rw [HM.out, ← hdt'.out]
      simp [str]
      rfl
    · have hm0 : (0 : Int) < (m : Int) := by omega
      have hst := digM_step m (by omega)
      have e1 : Int.tmod (m : Int) 10 = ((m % 10 : Nat) : Int) := by rw [Int.tmod_eq_emod_of_nonneg (by omega)]; omega
      have e2 : Int.tdiv (m : Int) 10 = ((m / 10 : Nat) : Int) := by rw [Int.tdiv_eq_ediv_of_nonneg (by omega)]; omega
      have HN : Hid (digM (m / 10) (m / 10) ++ (UInt8.ofNat (48 + m % 10) :: t) = digM k k) := by show _ = _; rw [← hdt, hst, List.append_assoc]; rfl
      have H10 : Hid (m % 10 < 10) := Nat.mod_lt _ (by omega)
      have HD : Hid (m / 10 ≤ k) := by have := HMK.out; show _ ≤ _; omega
      have HD2 : Hid (m / 10 < m) := by show _ < _; omega
      have cv := conv_one wr (48 + m % 10) (by have := H10.out; omega)
      rw [show ((48 + m % 10 : Nat) : Int) = 48 + ((m % 10 : Nat) : Int) by omega] at cv
      have HB : Hid (Below w.heap.size w (wr.alloc (.cells #[.int .u8 (48 + ((m % 10 : Nat) : Int))] 5))) := hb.alloc hb.size _
      have HT : Hid (str [UInt8.ofNat (48 + m % 10)] ++ str t = str (UInt8.ofNat (48 + m % 10) :: t)) := str_app _ _
      clear hst hdt
      generalize UInt8.ofNat (48 + m % 10) = ch at *
      generalize m % 10 = q at *
      generalize m / 10 = m2 at *
      have b0 : (0 : Int) ≤ (m2 : Int) := by omega
      have b1 : (m2 : Int) ≤ 4611686018427387904 := by have := HD.out; have := HK.out; omega
      have q0 : (0 : Int) ≤ (q : Int) := by omega
      have q1 : (q : Int) < 10 := by have := H10.out; omega
      have c1 : ¬ 9223372036854775807 < (str [ch]).size + (str t).size := by have := HS.out; have := HK.out; rw [str_size]; show ¬ _ < 1 + _; omega
      go_wp2
      go_roundw
      case rel => exact ⟨m2, ch :: t, rfl, by rw [← HT.out], HN.out, HD.out, HB.out⟩
      case measure => have := HD2.out; simp [intOf]; omega

theorem marks_put (k n j : Nat) (l : List ByteArray) (hl : l.length = n) (hj : j < n) : (marksL k j ++ l.drop j).set j (markB (k + j)) = marksL k (j + 1) ++ l.drop (j + 1) := by
  have h1 : (marksL k j).length = j := marksL_len k j
  rw [List.set_append, if_neg (by omega), h1, Nat.sub_self]
  rw [show marksL k (j + 1) = marksL k j ++ [markB (k + j)] by simp [marksL, List.range_succ]]
  rw [List.drop_eq_getElem_cons (by omega : j < l.length), List.set_cons_zero, List.append_assoc]
  rfl

theorem marksL_get (k n j : Nat) (h : j < (marksL k n).length) : (marksL k n)[j] = markB (k + j) := by simp [marksL]

end Go.Proofs.Ytkglgficmealnaa

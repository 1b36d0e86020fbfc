/- The marks of the exact laws, and lists of strings: compared, marked, held. -/
import Derived.Test.YtepefbfmjjnamaaRowA
import Derived.Test.YtepefbfmjjnamaaRows
import Derived.WalkKit
import Derived.ProofKit
import Derived.Lib.Hide
import Derived.Deep.QuietTactic
import Derived.BigQuiet
import Derived.Deep.MidRow
import Derived.Deep.RegionHeld3
import Derived.Deep.AppendLies
import Derived.StillTailTactics
import Derived.WalkSpells
import Derived.WalkLawsBesides
import Derived.Deep.Cut
namespace Go.Proofs.Ytepefbfmjjnamaa
open Go.RowKit Go.My Go.Lib
set_option linter.unusedVariables false

theorem conv_one (W : World) (n : Nat) (h : n < 256) : (convert 22 9 (.slice (some ⟨W.heap.size, 0, none⟩) 1 1)).run Try.prog (W.alloc (.cells #[.int .u8 (n : Int)] 5)) = .ok (.string (str [UInt8.ofNat n])) (W.alloc (.cells #[.int .u8 (n : Int)] 5)) := by
  refine run_convert_own (P := Try.prog) _ 22 9 5 W.heap.size 1 _ _ Try.underlying22 Try.underlying5 Try.underlying9 ?_
  have e : cellsOf [UInt8.ofNat n] = [.int .u8 (n : Int)] := by
    simp only [cellsOf, List.map_cons, List.map_nil, UInt8.toNat_ofNat', Nat.mod_eq_of_lt h]
  rw [e]
  exact World.ownsRow_lit (base := W.heap.size) (e := 5) (size := 1) W #[.int .u8 (n : Int)] 1 (Nat.le_refl _) (by unfold maxLen; omega) rfl

set_option maxRecDepth 100000 in
set_option maxHeartbeats 1000000 in
theorem markText_any (k : Nat) (w : World) (hk : k ≤ 4611686018427387904) :
    Calls Try.prog 93 #[.int .i64 k] w fun e w' => e = .returned (.string (markB k)) ∧ Below w.heap.size w w' := by
  by_cases h0 : k = 0
  · subst h0
    go_enter Try.func93, Try.ntmps93
    go_wp2
    go_ret
    exact ⟨rfl, Below.refl _ _⟩
  have hd : decide ((k : Int) ≤ 0) = false := by simp; omega
  have HM : Hid (markB k = str (109 :: digM k k)) := if_neg h0
  have HL := Lib.hid (digM_len k)
  have HK := Lib.hid hk
  go_enter Try.func93, Try.ntmps93
  clear hk
  go_wp2
  go_loopw [0, 3] (fun k' s wr => ∃ (m : Nat) (t : List UInt8), k' = .int .i64 m ∧ s = .string (str t) ∧ digM m m ++ t = digM k k ∧ m ≤ k ∧ Below w.heap.size w wr) (fun k' _ _ => (intOf k').toNat)
  case atStart => exact ⟨k, [], rfl, rfl, List.append_nil _, Nat.le_refl _, Below.refl _ _⟩
  case round =>
    obtain ⟨m, t, rfl, rfl, hdt, hmk, hb⟩ := hrel
    have hlen : (str t).size ≤ k := by rw [str_size]; have := HL.out; rw [← hdt, List.length_append] at this; omega
    have HS := Lib.hid hlen
    have HMK := Lib.hid hmk
    clear hlen hmk
    by_cases hm : m = 0
    · subst hm
      have hdt' : Hid (t = digM k k) := by show _ = _; rw [← hdt]; rfl
      have c1 : ¬ 9223372036854775807 < (ByteArray.mk #[109]).size + (str t).size := by have := HS.out; have := HK.out; show ¬ _ < 1 + _; omega
      clear hdt
      go_wp2
      go_ret
      refine ⟨?_, hb⟩
      rw [HM.out, ← hdt'.out]
      simp [str]
      rfl
    · have hm0 : (0 : Int) < (m : Int) := by omega
      have hst := digM_step m (by omega)
      have e1 : Int.tmod (m : Int) 10 = ((m % 10 : Nat) : Int) := by rw [Int.tmod_eq_emod_of_nonneg (by omega)]; omega
      have e2 : Int.tdiv (m : Int) 10 = ((m / 10 : Nat) : Int) := by rw [Int.tdiv_eq_ediv_of_nonneg (by omega)]; omega
      have HN : Hid (digM (m / 10) (m / 10) ++ (UInt8.ofNat (48 + m % 10) :: t) = digM k k) := by show _ = _; rw [← hdt, hst, List.append_assoc]; rfl
      have H10 : Hid (m % 10 < 10) := Nat.mod_lt _ (by omega)
      have HD : Hid (m / 10 ≤ k) := by have := HMK.out; show _ ≤ _; omega
      have HD2 : Hid (m / 10 < m) := by show _ < _; omega
      have cv := conv_one wr (48 + m % 10) (by have := H10.out; omega)
      rw [show ((48 + m % 10 : Nat) : Int) = 48 + ((m % 10 : Nat) : Int) by omega] at cv
      have HB : Hid (Below w.heap.size w (wr.alloc (.cells #[.int .u8 (48 + ((m % 10 : Nat) : Int))] 5))) := hb.alloc hb.size _
      have HT : Hid (str [UInt8.ofNat (48 + m % 10)] ++ str t = str (UInt8.ofNat (48 + m % 10) :: t)) := str_app _ _
      clear hst hdt
      generalize UInt8.ofNat (48 + m % 10) = ch at *
      generalize m % 10 = q at *
      generalize m / 10 = m2 at *
      have b0 : (0 : Int) ≤ (m2 : Int) := by omega
      have b1 : (m2 : Int) ≤ 4611686018427387904 := by have := HD.out; have := HK.out; omega
      have q0 : (0 : Int) ≤ (q : Int) := by omega
      have q1 : (q : Int) < 10 := by have := H10.out; omega
      have c1 : ¬ 9223372036854775807 < (str [ch]).size + (str t).size := by have := HS.out; have := HK.out; rw [str_size]; show ¬ _ < 1 + _; omega
      go_wp2
      go_roundw
      case rel => exact ⟨m2, ch :: t, rfl, by rw [← HT.out], HN.out, HD.out, HB.out⟩
      case measure => have := HD2.out; simp [intOf]; omega

/-- 'eqStringS' of two lists that are one. -/
theorem eqStringS_same (v1 v2 : Value) (l : List ByteArray) (w : World) (h1 : RowL 0 9 1 strC v1 l w) (h2 : RowL 0 9 1 strC v2 l w) (hl : l.length ≤ 4611686018427387904) :
    Calls Try.prog 49 #[v1, v2] w fun e w' => e = .returned (.bool true) ∧ Below w.heap.size w w' := by
  obtain ⟨p1, cap1, rfl, hm1, _, hp1⟩ := h1.open
  obtain ⟨p2, cap2, rfl, hm2, _, hp2⟩ := h2.open
  have H1 := Lib.hid h1
  have H2 := Lib.hid h2
  have hlI : (l.length : Int) ≤ 4611686018427387904 := by omega
  clear h1 h2 hm1 hm2
  go_enter Try.func49, Try.ntmps49
  go_wp2
  go_loopw [5] (fun i wr => ∃ j : Nat, j ≤ l.length ∧ i = .int .i64 j ∧ Below w.heap.size w wr) (fun i _ => l.length - (intOf i).toNat)
  case atStart => exact ⟨0, Nat.zero_le _, rfl, Below.refl _ _⟩
  case round =>
    obtain ⟨j, hj, rfl, hb⟩ := hrel
    by_cases hlt : j < l.length
    · have hne : l ≠ [] := by intro c; rw [c] at hlt; simp at hlt
      obtain ⟨g1, rfl, _, hg1⟩ := hp1.resolve_left (fun c => hne c.1)
      obtain ⟨g2, rfl, _, hg2⟩ := hp2.resolve_left (fun c => hne c.1)
      have j0 : (0 : Int) ≤ (j : Int) := by omega
      have j1 : (j : Int) < (l.length : Int) := by omega
      have c1 := (H1.out.below hb).str j hlt
      have c2 := (H2.out.below hb).str j hlt
      generalize l[j] = s at *
      go_wp2
      go_region
      all_goals
        go_wp2
        go_roundw
        case rel => exact ⟨j + 1, by omega, by go_num, hb.drew⟩
        case measure => simp [intOf]; omega
    · obtain rfl : j = l.length := by omega
      go_wp2
      go_ret
      exact ⟨rfl, hb⟩

theorem marks_put (k n j : Nat) (l : List ByteArray) (hl : l.length = n) (hj : j < n) : (marksL k j ++ l.drop j).set j (markB (k + j)) = marksL k (j + 1) ++ l.drop (j + 1) := by
  have h1 : (marksL k j).length = j := marksL_len k j
  rw [List.set_append, if_neg (by omega), h1, Nat.sub_self]
  rw [show marksL k (j + 1) = marksL k j ++ [markB (k + j)] by simp [marksL, List.range_succ]]
  rw [List.drop_eq_getElem_cons (by omega : j < l.length), List.set_cons_zero, List.append_assoc]
  rfl

/-- 'markStringS' writes the marks k, k + 1 .. and answers the next one. -/
theorem markStringS_any (v : Value) (l : List ByteArray) (k : Nat) (w : World) (h : RowL 0 9 1 strC v l w) (hl : k + l.length ≤ 4611686018427387904) :
    Calls Try.prog 50 #[v, .int .i64 k] w fun e w' => e = .returned (.int .i64 ((k + l.length : Nat) : Int)) ∧ RowL 0 9 1 strC v (marksL k l.length) w' ∧ w.grownBy w' v.ownBlock := by
  obtain ⟨p, cap, rfl, hm, _, hp⟩ := h.open
  have H := Lib.hid h
  have hlI : (k : Int) + (l.length : Int) ≤ 4611686018427387904 := by omega
  have hst : Hid (RowL 0 9 1 strC (.slice p l.length cap) (marksL k 0 ++ l.drop 0) w) := by show RowL _ _ _ _ _ _ _; rw [List.drop_zero]; exact h
  clear h hm
  go_enter Try.func50, Try.ntmps50
  go_wp2
  go_loopw [1, 5] (fun q i wr => ∃ j : Nat, j ≤ l.length ∧ i = .int .i64 j ∧ q = .int .i64 ((k + j : Nat) : Int) ∧ RowL 0 9 1 strC (.slice p l.length cap) (marksL k j ++ l.drop j) wr ∧ w.grownBy wr (Value.slice p l.length cap).ownBlock) (fun _ i _ => l.length - (intOf i).toNat)
  case atStart => exact ⟨0, Nat.zero_le _, rfl, rfl, hst.out, grw_refl _ _⟩
  case round =>
    clear hst
    obtain ⟨j, hj, rfl, rfl, hR, hG⟩ := hrel
    by_cases hlt : j < l.length
    · have hne : l ≠ [] := by intro c; rw [c] at hlt; simp at hlt
      obtain ⟨g, rfl, _, hg⟩ := hp.resolve_left (fun c => hne c.1)
      have j0 : (0 : Int) ≤ (j : Int) := by omega
      have j1 : (j : Int) < (l.length : Int) := by omega
      have hL : (marksL k j ++ l.drop j).length = l.length := by rw [List.length_append, marksL_len, List.length_drop]; omega
      have P := Lib.hid (fun (w' : World) (h' : RowL 0 9 1 strC (.slice (some ⟨g, 0, none⟩) l.length cap) (marksL k j ++ l.drop j) w') => by
        have := h'.putStr j (by omega) (markB (k + j))
        rw [marks_put k l.length j l rfl hlt] at this
        exact this)
      have HR := Lib.hid hR
      have M := Lib.hid (fun w => markText_any (k + j) w (by omega))
      have e1 : ((k + j : Nat) : Int) = (k : Int) + (j : Int) := by omega
      clear hR
      go_wp2_with fail
      refine (M.out _).mono ?_
      rintro e w1 ⟨rfl, hb1⟩
      have hR1 := HR.out.below hb1
      have hfz := hR1.frozen j
      have hce := hR1.str j (by rw [hL]; exact hlt)
      generalize (marksL k j ++ l.drop j)[j]'(by rw [hL]; exact hlt) = s0 at *
      have hG1 := grw_below hG hb1
      have PW := Lib.hid (P.out w1 hR1)
      have GW := Lib.hid (grw_set (show w.grownBy w1 (some g) from hG1) j (.string (markB (k + j))))
      clear hR1 hG1 hb1 hG
      go_wp2
      go_roundw
      case rel => exact ⟨j + 1, by omega, by go_num, by go_num, PW.out, GW.out⟩
      case measure => simp [intOf]; omega
    · obtain rfl : j = l.length := by omega
      rw [List.drop_length, List.append_nil] at hR
      go_wp2
      go_ret
      exact ⟨rfl, hR, hG⟩

theorem marksL_get (k n j : Nat) (h : j < (marksL k n).length) : (marksL k n)[j] = markB (k + j) := by simp [marksL]

set_option maxHeartbeats 1000000 in
/-- 'heldStringS' of marks k, k + 1 .. answers the next one. -/
theorem heldStringS_any (v : Value) (n k : Nat) (w : World) (h : RowL 0 9 1 strC v (marksL k n) w) (hl : k + n ≤ 4611686018427387904) :
    Calls Try.prog 51 #[v, .int .i64 k] w fun e w' => e = .returned (.int .i64 ((k + n : Nat) : Int)) ∧ Below w.heap.size w w' := by
  obtain ⟨p, cap, rfl, hm, _, hp⟩ := h.open
  rw [marksL_len] at h ⊢
  have H := Lib.hid h
  have hlI : (k : Int) + (n : Int) ≤ 4611686018427387904 := by omega
  clear h hm
  go_enter Try.func51, Try.ntmps51
  go_wp2
  go_loopw [1, 5] (fun q i wr => ∃ j : Nat, j ≤ n ∧ i = .int .i64 j ∧ q = .int .i64 ((k + j : Nat) : Int) ∧ Below w.heap.size w wr) (fun _ i _ => n - (intOf i).toNat)
  case atStart => exact ⟨0, Nat.zero_le _, rfl, rfl, Below.refl _ _⟩
  case round =>
    obtain ⟨j, hj, rfl, rfl, hB⟩ := hrel
    by_cases hlt : j < n
    · have hjl : j < (marksL k n).length := by rw [marksL_len]; exact hlt
      have hne : marksL k n ≠ [] := by intro c; rw [c] at hjl; simp at hjl
      obtain ⟨g, rfl, _, hg⟩ := hp.resolve_left (fun c => hne c.1)
      have j0 : (0 : Int) ≤ (j : Int) := by omega
      have j1 : (j : Int) < (n : Int) := by omega
      have HR := Lib.hid (H.out.below hB)
      have hce := HR.out.str j hjl
      rw [marksL_get] at hce
      have M := Lib.hid (fun w => markText_any (k + j) w (by omega))
      have e1 : ((k + j : Nat) : Int) = (k : Int) + (j : Int) := by omega
      generalize markB (k + j) = s0 at *
      clear hjl hne hg hp
      go_wp2_with fail
      go_region_held3 (fun w' => w'.cell? ⟨g, j, none⟩ = some (.string s0)) (exact hce) ((go_at_call 93; refine (M.out _).mono ?_; rintro e wq ⟨rfl, hbq⟩; have hB := below_nx hbq (by first | exact hB | exact hB.drew) (by exact hB.size); have hce := (hbq.cell (p := ⟨g, j, none⟩) (World.block_lt_of_cell? _ _ hce)).trans hce))
      all_goals
        go_wp2
        go_roundw
        case rel => exact ⟨j + 1, by omega, by go_num, by go_num, by first | exact hB | exact hB.drew⟩
        case measure => simp [intOf]; omega
    · obtain rfl : j = n := by omega
      go_wp2
      go_ret
      exact ⟨rfl, hB⟩

end Go.Proofs.Ytepefbfmjjnamaa

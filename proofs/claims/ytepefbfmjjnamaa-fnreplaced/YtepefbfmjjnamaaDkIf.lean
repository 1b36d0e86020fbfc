/- The program: lists of files compared. -/
import Derived.Test.YtepefbfmjjnamaaDkL
namespace Go.Proofs.Ytepefbfmjjnamaa
open Go.RowKit Go.My Go.Lib
set_option linter.unusedVariables false

set_option maxRecDepth 20000 in
set_option maxHeartbeats 1000000 in
theorem equal_i (v1 v2 : Value) (l1 l2 : List FileT) (w : World) (h1 : FilesAt 0 v1 l1 w) (h2 : FilesAt 0 v2 l2 w) (hl1 : l1.length ≤ 1048576) (hl2 : l2.length ≤ 1048576) :
    Calls Try.prog 96 #[v1, v2] w fun e w' => e = .returned (.bool (decide (l1 = l2))) ∧ Below w.heap.size w w' := by
  obtain ⟨p1, cap1, rfl, hm1, _, hp1⟩ := h1.open
  obtain ⟨p2, cap2, rfl, hm2, _, hp2⟩ := h2.open
  have H1 := Lib.hid h1
  have H2 := Lib.hid h2
  have hlI : (l1.length : Int) ≤ 1048576 := by omega
  have hlI2 : (l2.length : Int) ≤ 1048576 := by omega
  clear h1 h2 hm1 hm2
  by_cases hlen : l1.length = l2.length
  case neg =>
    have hq : ((l1.length : Int) != (l2.length : Int)) = true := by simp; omega
    have HF : Hid (decide (l1 = l2) = false) := decide_eq_false (fun c => hlen (by rw [c]))
    clear hlen
    go_enter Try.func96, Try.ntmps96
    go_wp2
    go_ret
    exact ⟨by rw [HF.out]; rfl, Below.refl _ _⟩
  have hq : ((l1.length : Int) != (l2.length : Int)) = false := by simp; omega
  have HLEN := Lib.hid hlen
  clear hlen
  go_enter Try.func96, Try.ntmps96
  go_wp2
  go_loopw [13] (fun i wr => ∃ j : Nat, j ≤ l1.length ∧ i = .int .i64 j ∧ l1.take j = l2.take j ∧ Below w.heap.size w wr) (fun i _ => l1.length - (intOf i).toNat)
  case atStart => exact ⟨0, Nat.zero_le _, rfl, rfl, Below.refl _ _⟩
  case round =>
    obtain ⟨j, hj, rfl, hsm, hB⟩ := hrel
    have HSM := Lib.hid hsm
    clear hsm
    by_cases hlt : j < l1.length
    · have hlt2 : j < l2.length := by have := HLEN.out; omega
      have hne : l1 ≠ [] := by intro c; rw [c] at hlt; simp at hlt
      have hne2 : l2 ≠ [] := by intro c; rw [c] at hlt2; simp at hlt2
      obtain ⟨g1, rfl, _, hg1⟩ := hp1.resolve_left (fun c => hne c.1)
      obtain ⟨g2, rfl, _, hg2⟩ := hp2.resolve_left (fun c => hne2 c.1)
      have j0 : (0 : Int) ≤ (j : Int) := by omega
      have j1 : (j : Int) < (l1.length : Int) := by omega
      have j2 : (j : Int) < (l2.length : Int) := by omega
      obtain ⟨x, hx⟩ : ∃ x, l1[j] = x := ⟨_, rfl⟩
      obtain ⟨y, hy⟩ : ∃ y, l2[j] = y := ⟨_, rfl⟩
      have hA := H1.out.below hB
      have hC := H2.out.below hB
      have a0 : wr.cell? ⟨g1, j * 2, none⟩ = some (.string x.1) := hA.at fileC_len hlt hx 0 (by omega) rfl
      have a1 : wr.cell? ⟨g1, j * 2 + 1, none⟩ = some (.string x.2) := hA.at fileC_len hlt hx 1 (by omega) rfl
      have c0 : wr.cell? ⟨g2, j * 2, none⟩ = some (.string y.1) := hC.at fileC_len hlt2 hy 0 (by omega) rfl
      have c1 : wr.cell? ⟨g2, j * 2 + 1, none⟩ = some (.string y.2) := hC.at fileC_len hlt2 hy 1 (by omega) rfl
      have HT1 := Lib.hid (List.take_succ_eq_append_getElem hlt)
      have HT2 := Lib.hid (List.take_succ_eq_append_getElem hlt2)
      rw [hx] at HT1
      rw [hy] at HT2
      have HN : Hid (x ≠ y → decide (l1 = l2) = false) := fun c => decide_eq_false (fun e => c (by subst e; rw [← hx, ← hy]))
      clear hA hC hx hy hne hne2 hp1 hp2 hg1 hg2
      by_cases e1 : x.1 = y.1
      · have q1 : (x.1.toList == y.1.toList) = true := by rw [e1]; exact beq_self_eq_true _
        by_cases e2 : x.2 = y.2
        · have q2 : (x.2.toList == y.2.toList) = true := by rw [e2]; exact beq_self_eq_true _
          have HX : Hid (l1.take (j + 1) = l2.take (j + 1)) := by show _ = _; rw [HT1.out, HT2.out, HSM.out, show x = y from Prod.ext e1 e2]
          clear e1 e2
          go_wp2_with fail
          go_quiet (fail)
          go_wp2
          go_roundw
          case rel => exact ⟨j + 1, by omega, by go_num, HX.out, below_drewN hB _⟩
          case measure => simp [intOf]; omega
        · have q2 : (x.2.toList == y.2.toList) = false := neq_lst e2
          have HF := Lib.hid (HN.out (fun c => e2 (by rw [c])))
          clear e1 e2
          go_wp2_with fail
          go_quiet (fail)
          go_wp2
          go_ret
          exact ⟨by rw [HF.out]; rfl, below_drewN hB _⟩
      · have q1 : (x.1.toList == y.1.toList) = false := neq_lst e1
        have HF := Lib.hid (HN.out (fun c => e1 (by rw [c])))
        clear e1
        go_wp2_with fail
        go_quiet (fail)
        go_wp2
        go_ret
        exact ⟨by rw [HF.out]; rfl, below_drewN hB _⟩
    · obtain rfl : j = l1.length := by omega
      have HT : Hid (decide (l1 = l2) = true) := decide_eq_true (by have := HSM.out; rw [List.take_length, HLEN.out, List.take_length] at this; exact this)
      go_wp2
      go_ret
      exact ⟨by rw [HT.out]; rfl, hB⟩

end Go.Proofs.Ytepefbfmjjnamaa

/- The specification's checks of files and of operations. -/
import Derived.Test.YtepefbfmjjnamaaDkS
import Derived.Test.YtepefbfmjjnamaaSmall
namespace Go.Proofs.Ytepefbfmjjnamaa
open Go.RowKit Go.My Go.Lib
set_option linter.unusedVariables false

theorem name_q (s : ByteArray) (W w : World) (hs : s.size ≤ 9223372036854775807) : Calls Try.prog 97 #[.string s] w fun e w' => e = .returned (.bool (nameB s)) ∧ w' = w := (name_s s w hs).mono (fun e w' h => ⟨h.1, h.2.symm⟩)

set_option maxRecDepth 20000 in
set_option maxHeartbeats 1000000 in
theorem files_s (v : Value) (l : List FileT) (w : World) (h : FilesAt 0 v l w) (hl : l.length ≤ 1048576) (hd : dataSum l ≤ 1099511627776) (hn : ∀ a ∈ l, a.1.size ≤ 1099511627776) :
    Calls Try.prog 55 #[v] w fun e w' => e = .returned (.bool (filesB l)) ∧ Below w.heap.size w w' := by
  obtain ⟨p, cap, rfl, hm, _, hp⟩ := h.open
  have H := Lib.hid h
  have hlI : (l.length : Int) ≤ 1048576 := by omega
  have HD := Lib.hid hd
  have HN := Lib.hid hn
  clear h hm hd hn
  by_cases h60 : l.length ≤ 60
  case neg =>
    have h60' : (60 : Int) < (l.length : Int) := by omega
    have HF : Hid (filesB l = false) := by show _ = _; unfold filesB; rw [decide_eq_false h60]; rfl
    clear h60
    go_enter Try.func55, Try.ntmps55
    go_wp2
    go_ret
    exact ⟨by rw [HF.out]; rfl, Below.refl _ _⟩
  have h60' : ¬ (60 : Int) < (l.length : Int) := by omega
  have HF : Hid (filesB l = (goodTo l l.length && decide (dataSum l ≤ 200000))) := by show _ = _; unfold filesB; rw [decide_eq_true h60, Bool.true_and]
  clear h60
  go_enter Try.func55, Try.ntmps55
  go_wp2
  go_loopw [3, 4] (fun s i wr => ∃ j : Nat, j ≤ l.length ∧ i = .int .i64 j ∧ s = .int .i64 (dataSum (l.take j)) ∧ goodTo l j = true ∧ Below w.heap.size w wr) (fun _ i _ => l.length - (intOf i).toNat)
  case atStart => exact ⟨0, Nat.zero_le _, rfl, rfl, rfl, Below.refl _ _⟩
  case round =>
    obtain ⟨j, hj, rfl, rfl, hgt, hB⟩ := hrel
    have HGT := Lib.hid hgt
    clear hgt
    by_cases hlt : j < l.length
    · have hne : l ≠ [] := by intro c; rw [c] at hlt; simp at hlt
      obtain ⟨g, rfl, _, hg⟩ := hp.resolve_left (fun c => hne c.1)
      have j0 : (0 : Int) ≤ (j : Int) := by omega
      have j1 : (j : Int) < (l.length : Int) := by omega
      obtain ⟨x, hx⟩ : ∃ x, l[j] = x := ⟨_, rfl⟩
      have hA := H.out.below hB
      have c0 : wr.cell? ⟨g, j * 2, none⟩ = some (.string x.1) := hA.at fileC_len hlt hx 0 (by omega) rfl
      have c1 : wr.cell? ⟨g, j * 2 + 1, none⟩ = some (.string x.2) := hA.at fileC_len hlt hx 1 (by omega) rfl
      have hxn : x.1.size ≤ 9223372036854775807 := by have := HN.out x (by rw [← hx]; exact List.getElem_mem hlt); omega
      have hnx : nameAt l j = x.1 := by rw [nameAt_eq l j hlt, hx]
      have HS : Hid (dataSum (l.take (j + 1)) = dataSum (l.take j) + x.2.size) := by have := dataSum_next l j hlt; rw [hx] at this; exact this
      have hsb : dataSum (l.take (j + 1)) ≤ 1099511627776 := Nat.le_trans (dataSum_le l (j + 1)) HD.out
      rw [HS.out] at hsb
      have NM := Lib.hid (fun w => name_q x.1 wr w hxn)
      have HBAD : Hid (goodAt l j = false → filesB l = false) := fun c => by rw [HF.out, goodTo_bad l j c l.length hlt, Bool.false_and]
      have HOK : Hid (goodAt l j = true → goodTo l (j + 1) = true) := fun c => by show (goodTo l j && goodAt l j) = true; rw [HGT.out, c]; rfl
      have HGA : Hid (goodAt l j = (nameB x.1 && (decide (j = 0) || !(blt x.1 (nameAt l (j - 1)) || decide (x.1 = nameAt l (j - 1)))))) := by show _ = _; unfold goodAt; rw [hnx]
      generalize dataSum (l.take j) = D at *
      have hDI : (D : Int) + (x.2.size : Int) ≤ 1099511627776 := by omega
      have hD0 : (0 : Int) ≤ (D : Int) := by omega
      clear hsb hnx
      cases hnb : nameB x.1 with
      | false =>
        rw [hnb] at NM HGA
        have HF0 := Lib.hid (HBAD.out (by rw [HGA.out]; rfl))
        clear hnb hA hx hne hp hg
        go_wp2_with fail
        go_quiet ((go_at_call 97; exact Calls.quiet_of_same (NM.out _)))
        go_wp2
        go_ret
        exact ⟨by rw [HF0.out]; rfl, below_drewN hB _⟩
      | true =>
        rw [hnb, Bool.true_and] at HGA
        rw [hnb] at NM
        by_cases hj0 : j = 0
        · have gz : decide (0 < j) = false := by simp; omega
          have HG2 := Lib.hid (HOK.out (by rw [HGA.out, decide_eq_true hj0]; rfl))
          have c1d : ∀ n, (wr.drewN n).cell? ⟨g, j * 2 + 1, none⟩ = some (.string x.2) := fun n => c1
          clear hnb hA hx hne hp hg hj0
          go_wp2_with fail
          go_quiet ((go_at_call 97; exact Calls.quiet_of_same (NM.out _)))
          go_wp2
          go_roundw
          case rel => exact ⟨j + 1, by omega, by go_num, by rw [HS.out]; go_num, HG2.out, below_drewN hB _⟩
          case measure => simp [intOf]; omega
        · have gz : decide (0 < j) = true := by simp; omega
          have hj1 : j - 1 < l.length := by omega
          obtain ⟨y, hy⟩ : ∃ y, l[j - 1] = y := ⟨_, rfl⟩
          have c2 : wr.cell? ⟨g, (j - 1) * 2, none⟩ = some (.string y.1) := hA.at fileC_len hj1 hy 0 (by omega) rfl
          have hny : nameAt l (j - 1) = y.1 := by rw [nameAt_eq l (j - 1) hj1, hy]
          rw [hny, decide_eq_false hj0, Bool.false_or] at HGA
          have e1 : ((j : Int) - 1).toNat = j - 1 := by omega
          have e2 : IntKind.i64.wrap ((j : Int) - 1) = (j : Int) - 1 := IntWalk.i64_in _ (by omega)
          have e3 : (0 : Int) ≤ (j : Int) - 1 := by omega
          have e4 : (j : Int) - 1 < (l.length : Int) := by omega
          obtain ⟨b, hb⟩ : ∃ b, blt x.1 y.1 = b := ⟨_, rfl⟩
          have hb' : Op.bytesLess x.1.toList y.1.toList = b := hb
          rw [hb] at HGA
          have c1d : ∀ n, (wr.drewN n).cell? ⟨g, j * 2 + 1, none⟩ = some (.string x.2) := fun n => c1
          clear hnb hA hx hy hne hp hg hj0 hny hb
          by_cases he : x.1 = y.1
          · have he' : (x.1.toList == y.1.toList) = true := by rw [he]; exact beq_self_eq_true _
            have HF0 := Lib.hid (HBAD.out (by rw [HGA.out, decide_eq_true he, Bool.or_true]; rfl))
            clear he HGA
            cases b <;>
            (go_wp2_with fail
             go_quiet ((go_at_call 97; exact Calls.quiet_of_same (NM.out _)))
             go_wp2
             go_ret
             exact ⟨by rw [HF0.out]; rfl, below_drewN hB _⟩)
          · have he' : (x.1.toList == y.1.toList) = false := neq_lst he
            rw [decide_eq_false he, Bool.or_false] at HGA
            clear he
            cases b with
            | true =>
              have HF0 := Lib.hid (HBAD.out (by rw [HGA.out]; rfl))
              clear HGA
              go_wp2_with fail
              go_quiet ((go_at_call 97; exact Calls.quiet_of_same (NM.out _)))
              go_wp2
              go_ret
              exact ⟨by rw [HF0.out]; rfl, below_drewN hB _⟩
            | false =>
              have HG2 := Lib.hid (HOK.out (by rw [HGA.out]; rfl))
              clear HGA
              go_wp2_with fail
              go_quiet ((go_at_call 97; exact Calls.quiet_of_same (NM.out _)))
              go_wp2
              go_roundw
              case rel => exact ⟨j + 1, by omega, by go_num, by rw [HS.out]; go_num, HG2.out, below_drewN hB _⟩
              case measure => simp [intOf]; omega
    · obtain rfl : j = l.length := by omega
      rw [List.take_length]
      have hDb := HD.out
      have HE : Hid (filesB l = decide (dataSum l ≤ 200000)) := by show _ = _; rw [HF.out, HGT.out, Bool.true_and]
      generalize dataSum l = D at *
      have hDI : (D : Int) ≤ 1099511627776 := by omega
      have hde : decide ((D : Int) ≤ 200000) = decide (D ≤ 200000) := decide_eq_decide.2 (by omega)
      clear hDb
      go_wp2
      go_ret
      exact ⟨by rw [HE.out, ← hde]; rfl, hB⟩

end Go.Proofs.Ytepefbfmjjnamaa

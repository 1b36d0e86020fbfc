/- The exact laws' helpers for 'DOp' and its lists. Written by py/rows.py. -/
import Derived.Test.YtepefbfmjjnamaaRowB
import Derived.Test.YtepefbfmjjnamaaRowC
namespace Go.Proofs.Ytepefbfmjjnamaa
open Go.RowKit Go.My Go.Lib
set_option linter.unusedVariables false

abbrev DOpT : Type := Int × ByteArray × ByteArray × ByteArray
def dOpC (a : DOpT) : List Value := [.int .i64 a.1, .string a.2.1, .string a.2.2.1, .string a.2.2.2]
theorem dOpC_len (a : DOpT) : (dOpC a).length = 4 := rfl
def dOpZ : DOpT := (0, ByteArray.empty, ByteArray.empty, ByteArray.empty)
def dOpN (a : DOpT) : Nat := a.2.1.size + a.2.2.1.size + a.2.2.2.size
/-- Sizes and numbers as an argument has them. -/
def dOpW (a : DOpT) : Prop := (Lit.int .i64 a.1).wf = true ∧ a.2.1.size ≤ maxLen ∧ a.2.2.1.size ≤ maxLen ∧ a.2.2.2.size ≤ maxLen
def dOpSum (l : List DOpT) : Nat := (l.map dOpN).sum
theorem dOpSum_next (l : List DOpT) (j : Nat) (h : j < l.length) : dOpSum (l.take (j + 1)) = dOpSum (l.take j) + dOpN l[j] := by
  unfold dOpSum
  rw [List.take_succ_eq_append_getElem h, List.map_append, List.sum_append]
  simp
theorem info_DOp : (Try.prog.info? 36).map (fun i => (i.zero, i.size, i.bytes)) = some (some (.agg #[.int .i64 0, .string ByteArray.empty, .string ByteArray.empty, .string ByteArray.empty]), 4, 56) := by kernel_rfl

set_option maxHeartbeats 1000000 in
theorem toDOp_any (f0 : Int) (f1 : ByteArray) (f2 : ByteArray) (f3 : ByteArray) (w : World) : Calls Try.prog 39 #[.agg #[.int .i64 f0, .string f1, .string f2, .string f3]] w fun e w' => e = .returned (.agg #[.int .i64 f0, .string f1, .string f2, .string f3]) ∧ Below w.heap.size w w' := by
  go_enter Try.func39, Try.ntmps39
  go_wp2
  refine bodyPost_ret (v := .agg #[.int .i64 f0, .string f1, .string f2, .string f3]) (by simp [results, Try.results39, go_sem]) rfl ⟨rfl, ?_⟩
  repeat (refine Below.setCell ?_ (p := ⟨_, _, none⟩) (by first | (simp; done) | (simp; omega)) _)
  repeat (refine Below.alloc ?_ (by first | (simp; done) | (simp; omega)) _)
  exact Below.refl _ _

set_option maxHeartbeats 1000000 in
theorem szDOp_any (f0 : Int) (f1 : ByteArray) (f2 : ByteArray) (f3 : ByteArray) (left : Nat) (w : World) (hl : left ≤ 1048576) (wf1 : f1.size ≤ maxLen) (wf2 : f2.size ≤ maxLen) (wf3 : f3.size ≤ maxLen) : Calls Try.prog 38 #[.agg #[.int .i64 f0, .string f1, .string f2, .string f3], .int .i64 left] w fun e w' => ((∃ r : Nat, e = .returned (.int .i64 r) ∧ r + dOpN (f0, f1, f2, f3) = left) ∨ e = .returned (.int .i64 (-1))) ∧ Below w.heap.size w w' := by
  have hlI : (left : Int) ≤ 1048576 := by omega
  have hmf1 : (f1.size : Int) ≤ 9223372036854775807 := by unfold maxLen at wf1; omega
  have hmf2 : (f2.size : Int) ≤ 9223372036854775807 := by unfold maxLen at wf2; omega
  have hmf3 : (f3.size : Int) ≤ 9223372036854775807 := by unfold maxLen at wf3; omega
  have HN : Hid (dOpN (f0, f1, f2, f3) = f1.size + f2.size + f3.size) := rfl
  by_cases hf1 : f1.size ≤ left
  case neg =>
    have qf1 : (left : Int) - (f1.size : Int) < 0 := by omega
    clear hf1
    go_enter Try.func38, Try.ntmps38
    go_wp2
    go_ret
    exact ⟨.inr rfl, (Below.refl _ _).alloc (Nat.le_refl _) _⟩
  by_cases hf2 : f1.size + f2.size ≤ left
  case neg =>
    have qf1 : ¬ (left : Int) - (f1.size : Int) < 0 := by omega
    have qf2 : (left : Int) - (f1.size : Int) - (f2.size : Int) < 0 := by omega
    clear hf1 hf2
    go_enter Try.func38, Try.ntmps38
    go_wp2
    go_ret
    exact ⟨.inr rfl, (Below.refl _ _).alloc (Nat.le_refl _) _⟩
  by_cases hf3 : f1.size + f2.size + f3.size ≤ left
  case neg =>
    have qf1 : ¬ (left : Int) - (f1.size : Int) < 0 := by omega
    have qf2 : ¬ (left : Int) - (f1.size : Int) - (f2.size : Int) < 0 := by omega
    have qf3 : (left : Int) - (f1.size : Int) - (f2.size : Int) - (f3.size : Int) < 0 := by omega
    clear hf1 hf2 hf3
    go_enter Try.func38, Try.ntmps38
    go_wp2
    go_ret
    exact ⟨.inr rfl, (Below.refl _ _).alloc (Nat.le_refl _) _⟩
  have qf1 : ¬ (left : Int) - (f1.size : Int) < 0 := by omega
  have qf2 : ¬ (left : Int) - (f1.size : Int) - (f2.size : Int) < 0 := by omega
  have qf3 : ¬ (left : Int) - (f1.size : Int) - (f2.size : Int) - (f3.size : Int) < 0 := by omega
  have HE : Hid ((left : Int) - (f1.size : Int) - (f2.size : Int) - (f3.size : Int) = ((left - (f1.size + f2.size + f3.size) : Nat) : Int)) := by show _ = _; omega
  have HL := Lib.hid hf3
  clear hf1 hf2 hf3
  go_enter Try.func38, Try.ntmps38
  go_wp2
  go_ret
  exact ⟨.inl ⟨left - (f1.size + f2.size + f3.size), by rw [← HE.out]; rfl, by rw [HN.out]; have := HL.out; omega⟩, (Below.refl _ _).alloc (Nat.le_refl _) _⟩

set_option maxHeartbeats 1000000 in
theorem eqDOp_same (f0 : Int) (f1 : ByteArray) (f2 : ByteArray) (f3 : ByteArray) (w : World) : Calls Try.prog 114 #[.agg #[.int .i64 f0, .string f1, .string f2, .string f3], .agg #[.int .i64 f0, .string f1, .string f2, .string f3]] w fun e w' => e = .returned (.bool true) ∧ Below w.heap.size w w' := by
  go_enter Try.func114, Try.ntmps114
  go_wp2
  go_ret
  refine ⟨rfl, ?_⟩
  repeat (refine Below.setCell ?_ (p := ⟨_, _, none⟩) (by first | (simp; done) | (simp; omega)) _)
  repeat (refine Below.alloc ?_ (by first | (simp; done) | (simp; omega)) _)
  exact Below.refl _ _

set_option maxHeartbeats 1000000 in
theorem toDOpS_any (v : Value) (l : List DOpT) (w : World) (h : ArgL 4 dOpC v l w) (hl : l.length ≤ 1048576) : Calls Try.prog 85 #[v] w fun e w' => ∃ v', e = .returned v' ∧ RowL w.heap.size 36 4 dOpC v' l w' ∧ Below w.heap.size w w' := by
  obtain ⟨i0, hi, hz0, hz1, hz2⟩ := info_parts info_DOp
  have H := Lib.hid h
  obtain ⟨p, cap, rfl, hlc, hcm, hp⟩ := h
  have hlI : (l.length : Int) ≤ 1048576 := by omega
  have hl0 : (0 : Int) ≤ (l.length : Int) := by omega
  clear hcm hlc
  go_enter Try.func85, Try.ntmps85
  go_wp2_with (at_make; refine wpList_make_full _ rfl _ _ 25 rfl w.heap.size 36 i0 (.agg #[.int .i64 0, .string ByteArray.empty, .string ByteArray.empty, .string ByteArray.empty]) 4 Try.underlying25 hi hz0 hz1 .i64 .i64 _ _ l.length rfl rfl rfl rfl ?c2 ?c3 ?c4 ?_)
  case c2 => rw [hz2]; omega
  case c3 => unfold maxLen; omega
  case c4 => exact Nat.le_refl _
  intro w1 hown hgrow
  have hb1 : Below w.heap.size w w1 := (Below.refl _ _).grown hgrow (Nat.le_refl _) (by simp)
  clear hgrow
  obtain ⟨Z, hZ⟩ : ∃ Z, Z = List.replicate l.length dOpZ := ⟨_, rfl⟩
  have hZl : Z.length = l.length := by rw [hZ, List.length_replicate]
  have hR0 : RowL w.heap.size 36 4 dOpC (.slice (some ⟨w.heap.size, 0, none⟩) l.length l.length) (l.take 0 ++ Z.drop 0) w1 := by
    have e := made_flat #[.int .i64 0, .string ByteArray.empty, .string ByteArray.empty, .string ByteArray.empty] dOpC dOpZ l.length rfl
    unfold RowL
    rw [List.take_zero, List.nil_append, List.drop_zero, hZl, hZ, ← e]
    exact hown
  have HZ := Lib.hid hZl
  clear hown hZ hZl
  go_wp2
  go_loopw [4] (fun i wr => ∃ j : Nat, j ≤ l.length ∧ i = .int .i64 j ∧ RowL w.heap.size 36 4 dOpC (.slice (some ⟨w.heap.size, 0, none⟩) l.length l.length) (l.take j ++ Z.drop j) wr ∧ Below w.heap.size w wr) (fun i _ => l.length - (intOf i).toNat)
  case atStart => exact ⟨0, Nat.zero_le _, rfl, hR0, hb1⟩
  case round =>
    clear hR0 hb1
    obtain ⟨j, hj, rfl, hR, hB⟩ := hrel
    by_cases hlt : j < l.length
    · have hne : l ≠ [] := by intro c; rw [c] at hlt; simp at hlt
      obtain ⟨b, o, rfl, hbl, hc⟩ := hp.resolve_left hne
      have j0 : (0 : Int) ≤ (j : Int) := by omega
      have j1 : (j : Int) < (l.length : Int) := by omega
      obtain ⟨x, hx⟩ : ∃ x, l[j] = x := ⟨_, rfl⟩
      have ht := tkp_at HZ.out j hlt
      have hln := tkp_len HZ.out j hj
      have hps := tkp_put HZ.out j hlt
      rw [hx] at hps
      have HJ : Hid (j < (l.take j ++ Z.drop j).length) := by show _ < _; rw [hln]; exact hlt
      obtain ⟨y, hy⟩ : ∃ y, (l.take j ++ Z.drop j)[j]'HJ.out = y := ⟨_, rfl⟩
      have a0 := (hB.cell (p := ⟨b, o + (j * 4 + 0), none⟩) hbl).trans (hc j hlt 0 (.int .i64 x.1) (by rw [hx]; rfl))
      rw [show o + (j * 4 + 0) = o + j * 4 from by omega] at a0
      have a1 := (hB.cell (p := ⟨b, o + (j * 4 + 1), none⟩) hbl).trans (hc j hlt 1 (.string x.2.1) (by rw [hx]; rfl))
      rw [show o + (j * 4 + 1) = o + j * 4 + 1 from by omega] at a1
      have a2 := (hB.cell (p := ⟨b, o + (j * 4 + 2), none⟩) hbl).trans (hc j hlt 2 (.string x.2.2.1) (by rw [hx]; rfl))
      rw [show o + (j * 4 + 2) = o + j * 4 + 2 from by omega] at a2
      have a3 := (hB.cell (p := ⟨b, o + (j * 4 + 3), none⟩) hbl).trans (hc j hlt 3 (.string x.2.2.2) (by rw [hx]; rfl))
      rw [show o + (j * 4 + 3) = o + j * 4 + 3 from by omega] at a3
      have HP := Lib.hid (show ∀ w', RowL w.heap.size 36 4 dOpC (.slice (some ⟨w.heap.size, 0, none⟩) l.length l.length) (l.take j ++ Z.drop j) w' → (w'.cell? ⟨w.heap.size, j * 4, none⟩ = some (.int .i64 y.1) ∧ w'.cell? ⟨w.heap.size, j * 4 + 1, none⟩ = some (.string y.2.1) ∧ w'.cell? ⟨w.heap.size, j * 4 + 2, none⟩ = some (.string y.2.2.1) ∧ w'.cell? ⟨w.heap.size, j * 4 + 3, none⟩ = some (.string y.2.2.2)) ∧ (∀ q, w'.frozen? ⟨w.heap.size, q, none⟩ = false) ∧ RowL w.heap.size 36 4 dOpC (.slice (some ⟨w.heap.size, 0, none⟩) l.length l.length) (l.take (j + 1) ++ Z.drop (j + 1)) ((((w'.setCell ⟨w.heap.size, j * 4, none⟩ (.int .i64 x.1)).setCell ⟨w.heap.size, j * 4 + 1, none⟩ (.string x.2.1)).setCell ⟨w.heap.size, j * 4 + 2, none⟩ (.string x.2.2.1)).setCell ⟨w.heap.size, j * 4 + 3, none⟩ (.string x.2.2.2)) from fun w' h' => by
        refine ⟨⟨h'.at dOpC_len HJ.out hy 0 (by omega) rfl, h'.at dOpC_len HJ.out hy 1 (by omega) rfl, h'.at dOpC_len HJ.out hy 2 (by omega) rfl, h'.at dOpC_len HJ.out hy 3 (by omega) rfl⟩, fun q => h'.frozen q, ?_⟩
        have p0 := RowL.put h' dOpC_len HJ.out (hy) 0 (by omega) (.int .i64 x.1) (b := ((x.1, y.2.1, y.2.2.1, y.2.2.2) : DOpT)) rfl
        have p1 := RowL.put p0 dOpC_len (by rw [List.length_set]; exact HJ.out) (List.getElem_set_self ..) 1 (by omega) (.string x.2.1) (b := ((x.1, x.2.1, y.2.2.1, y.2.2.2) : DOpT)) rfl
        have p2 := RowL.put p1 dOpC_len (by rw [List.length_set]; rw [List.length_set]; exact HJ.out) (List.getElem_set_self ..) 2 (by omega) (.string x.2.2.1) (b := ((x.1, x.2.1, x.2.2.1, y.2.2.2) : DOpT)) rfl
        have p3 := RowL.put p2 dOpC_len (by rw [List.length_set]; rw [List.length_set]; rw [List.length_set]; exact HJ.out) (List.getElem_set_self ..) 3 (by omega) (.string x.2.2.2) (b := ((x.1, x.2.1, x.2.2.1, x.2.2.2) : DOpT)) rfl
        rw [List.set_set, List.set_set, List.set_set] at p3
        rw [hps] at p3
        exact p3)
      have TA := Lib.hid (fun w => toDOp_any x.1 x.2.1 x.2.2.1 x.2.2.2 w)
      have HR := Lib.hid hR
      clear hR hc ht hln hps hy hx hne hp
      go_wp2_with fail
      refine (TA.out _).mono ?_
      rintro e w2 ⟨rfl, hb2⟩
      obtain ⟨⟨g0, g1, g2, g3⟩, fz, PW⟩ := HP.out w2 (HR.out.below hb2)
      have HPW := Lib.hid PW
      have z0 := fz (j * 4)
      have z1 := fz (j * 4 + 1)
      have z2 := fz (j * 4 + 2)
      have z3 := fz (j * 4 + 3)
      have HB2 := Lib.hid (hB.trans (hb2.mono hB.size))
      clear fz PW hb2 hB a0 a1 a2 a3
      go_wp2
      go_roundw
      case rel => exact ⟨j + 1, by omega, by go_num, HPW.out, ((((HB2.out.setCell (p := ⟨w.heap.size, j * 4, none⟩) (Nat.le_refl _) _).setCell (p := ⟨w.heap.size, j * 4 + 1, none⟩) (Nat.le_refl _) _).setCell (p := ⟨w.heap.size, j * 4 + 2, none⟩) (Nat.le_refl _) _).setCell (p := ⟨w.heap.size, j * 4 + 3, none⟩) (Nat.le_refl _) _)⟩
      case measure => simp [intOf]; omega
    · obtain rfl : j = l.length := by omega
      rw [List.take_length, List.drop_eq_nil_of_le (by rw [HZ.out]; exact Nat.le_refl _), List.append_nil] at hR
      go_wp2
      go_ret
      exact ⟨_, rfl, hR, hB⟩

set_option maxHeartbeats 1000000 in
theorem szDOpS_any (v : Value) (l : List DOpT) (left : Nat) (w : World) (h : ArgL 4 dOpC v l w) (hw : ∀ a ∈ l, dOpW a) (hl : left ≤ 1048576) : Calls Try.prog 83 #[v, .int .i64 left] w fun e w' => ((∃ r : Nat, e = .returned (.int .i64 r) ∧ r + l.length + dOpSum l = left) ∨ e = .returned (.int .i64 (-1))) ∧ Below w.heap.size w w' := by
  have H := Lib.hid h
  obtain ⟨p, cap, rfl, hlc, hcm, hp⟩ := h
  have hlm : (l.length : Int) ≤ 9223372036854775807 := by unfold maxLen at hcm; omega
  have hlI : (left : Int) ≤ 1048576 := by omega
  clear hcm hlc
  by_cases h0 : l.length ≤ left
  case neg =>
    have q0 : (left : Int) - (l.length : Int) < 0 := by omega
    clear h0
    go_enter Try.func83, Try.ntmps83
    go_wp2
    go_ret
    exact ⟨.inr rfl, Below.refl _ _⟩
  have q0 : ¬ (left : Int) - (l.length : Int) < 0 := by omega
  have HS : Hid ((left : Int) - (l.length : Int) = ((left - l.length : Nat) : Int)) := by show _ = _; omega
  have H0 := Lib.hid h0
  have hl20 : (l.length : Int) ≤ 1048576 := by omega
  clear h0
  go_enter Try.func83, Try.ntmps83
  go_wp2
  rw [HS.out]
  go_loopw [1, 5] (fun q i wr => ∃ j r : Nat, j ≤ l.length ∧ i = .int .i64 j ∧ q = .int .i64 r ∧ r + l.length + dOpSum (l.take j) = left ∧ Below w.heap.size w wr) (fun _ i _ => l.length - (intOf i).toNat)
  case atStart => exact ⟨0, left - l.length, Nat.zero_le _, rfl, rfl, by have := H0.out; show _ + _ + 0 = _; omega, Below.refl _ _⟩
  case round =>
    obtain ⟨j, r, hj, rfl, rfl, hr, hB⟩ := hrel
    have HR := Lib.hid hr
    clear hr
    by_cases hlt : j < l.length
    · have hne : l ≠ [] := by intro c; rw [c] at hlt; simp at hlt
      obtain ⟨b, o, rfl, hbl, hc⟩ := hp.resolve_left hne
      have j0 : (0 : Int) ≤ (j : Int) := by omega
      have j1 : (j : Int) < (l.length : Int) := by omega
      have hW := hw _ (List.getElem_mem hlt)
      obtain ⟨x, hx⟩ : ∃ x, l[j] = x := ⟨_, rfl⟩
      have HN : Hid (dOpSum (l.take (j + 1)) = dOpSum (l.take j) + dOpN (x.1, x.2.1, x.2.2.1, x.2.2.2)) := by
        have := dOpSum_next l j hlt
        rw [hx] at this
        exact this
      rw [hx] at hW
      have a0 := (hB.cell (p := ⟨b, o + (j * 4 + 0), none⟩) hbl).trans (hc j hlt 0 (.int .i64 x.1) (by rw [hx]; rfl))
      rw [show o + (j * 4 + 0) = o + j * 4 from by omega] at a0
      have a1 := (hB.cell (p := ⟨b, o + (j * 4 + 1), none⟩) hbl).trans (hc j hlt 1 (.string x.2.1) (by rw [hx]; rfl))
      rw [show o + (j * 4 + 1) = o + j * 4 + 1 from by omega] at a1
      have a2 := (hB.cell (p := ⟨b, o + (j * 4 + 2), none⟩) hbl).trans (hc j hlt 2 (.string x.2.2.1) (by rw [hx]; rfl))
      rw [show o + (j * 4 + 2) = o + j * 4 + 2 from by omega] at a2
      have a3 := (hB.cell (p := ⟨b, o + (j * 4 + 3), none⟩) hbl).trans (hc j hlt 3 (.string x.2.2.2) (by rw [hx]; rfl))
      rw [show o + (j * 4 + 3) = o + j * 4 + 3 from by omega] at a3
      have TA := Lib.hid (fun w => szDOp_any x.1 x.2.1 x.2.2.1 x.2.2.2 r w (by have := HR.out; omega) hW.2.1 hW.2.2.1 hW.2.2.2)
      clear hc hx hne hp hw hW
      go_wp2_with fail
      refine (TA.out _).mono ?_
      rintro e w2 ⟨hres, hb2⟩
      have hB2 := hB.trans (hb2.mono hB.size)
      clear hb2 hB
      rcases hres with ⟨r2, rfl, hr2⟩ | rfl
      · have q2 : ¬ (r2 : Int) < 0 := by omega
        have HR2 : Hid (r2 + l.length + dOpSum (l.take (j + 1)) = left) := by have := HR.out; have := HN.out; show _ = _; omega
        clear hr2
        go_wp2
        go_roundw
        case rel => exact ⟨j + 1, r2, by omega, by go_num, rfl, HR2.out, hB2⟩
        case measure => simp [intOf]; omega
      · go_wp2
        go_ret
        exact ⟨.inr rfl, hB2⟩
    · obtain rfl : j = l.length := by omega
      have HR3 : Hid (r + l.length + dOpSum l = left) := by have := HR.out; rw [List.take_length] at this; exact this
      go_wp2
      go_ret
      exact ⟨.inl ⟨r, rfl, HR3.out⟩, hB⟩

set_option maxHeartbeats 1000000 in
theorem eqDOpS_same (v1 v2 : Value) (l : List DOpT) (w : World) (h1 : RowL 0 36 4 dOpC v1 l w) (h2 : RowL 0 36 4 dOpC v2 l w) (hl : l.length ≤ 1048576) : Calls Try.prog 87 #[v1, v2] w fun e w' => e = .returned (.bool true) ∧ Below w.heap.size w w' := by
  obtain ⟨p1, cap1, rfl, hm1, _, hp1⟩ := h1.open
  obtain ⟨p2, cap2, rfl, hm2, _, hp2⟩ := h2.open
  have H1 := Lib.hid h1
  have H2 := Lib.hid h2
  have hlI : (l.length : Int) ≤ 1048576 := by omega
  clear h1 h2 hm1 hm2
  go_enter Try.func87, Try.ntmps87
  go_wp2
  go_loopw [5] (fun i wr => ∃ j : Nat, j ≤ l.length ∧ i = .int .i64 j ∧ Below w.heap.size w wr) (fun i _ => l.length - (intOf i).toNat)
  case atStart => exact ⟨0, Nat.zero_le _, rfl, Below.refl _ _⟩
  case round =>
    obtain ⟨j, hj, rfl, hB⟩ := hrel
    by_cases hlt : j < l.length
    · have hne : l ≠ [] := by intro c; rw [c] at hlt; simp at hlt
      obtain ⟨g1, rfl, _, hg1⟩ := hp1.resolve_left (fun c => hne c.1)
      obtain ⟨g2, rfl, _, hg2⟩ := hp2.resolve_left (fun c => hne c.1)
      have j0 : (0 : Int) ≤ (j : Int) := by omega
      have j1 : (j : Int) < (l.length : Int) := by omega
      obtain ⟨x, hx⟩ : ∃ x, l[j] = x := ⟨_, rfl⟩
      have a0 := (H1.out.below hB).at dOpC_len hlt hx 0 (by omega) (u := .int .i64 x.1) rfl
      have a1 := (H1.out.below hB).at dOpC_len hlt hx 1 (by omega) (u := .string x.2.1) rfl
      have a2 := (H1.out.below hB).at dOpC_len hlt hx 2 (by omega) (u := .string x.2.2.1) rfl
      have a3 := (H1.out.below hB).at dOpC_len hlt hx 3 (by omega) (u := .string x.2.2.2) rfl
      have b0 := (H2.out.below hB).at dOpC_len hlt hx 0 (by omega) (u := .int .i64 x.1) rfl
      have b1 := (H2.out.below hB).at dOpC_len hlt hx 1 (by omega) (u := .string x.2.1) rfl
      have b2 := (H2.out.below hB).at dOpC_len hlt hx 2 (by omega) (u := .string x.2.2.1) rfl
      have b3 := (H2.out.below hB).at dOpC_len hlt hx 3 (by omega) (u := .string x.2.2.2) rfl
      have a0' : wr.cell? ⟨g1, j * 4, none⟩ = some (.int .i64 x.1) := a0
      have b0' : wr.cell? ⟨g2, j * 4, none⟩ = some (.int .i64 x.1) := b0
      have TA := Lib.hid (fun w => eqDOp_same x.1 x.2.1 x.2.2.1 x.2.2.2 w)
      clear a0 b0 hx hne hp1 hp2 hg1 hg2
      go_wp2_with fail
      go_region_held3 (fun w' => w'.cell? ⟨g1, j * 4, none⟩ = some (.int .i64 x.1) ∧ w'.cell? ⟨g1, j * 4 + 1, none⟩ = some (.string x.2.1) ∧ w'.cell? ⟨g1, j * 4 + 2, none⟩ = some (.string x.2.2.1) ∧ w'.cell? ⟨g1, j * 4 + 3, none⟩ = some (.string x.2.2.2) ∧ w'.cell? ⟨g2, j * 4, none⟩ = some (.int .i64 x.1) ∧ w'.cell? ⟨g2, j * 4 + 1, none⟩ = some (.string x.2.1) ∧ w'.cell? ⟨g2, j * 4 + 2, none⟩ = some (.string x.2.2.1) ∧ w'.cell? ⟨g2, j * 4 + 3, none⟩ = some (.string x.2.2.2)) (exact ⟨a0', a1, a2, a3, b0', b1, b2, b3⟩) ((go_at_call 114; refine (TA.out _).mono ?_; rintro e wq ⟨rfl, hbq⟩; have hB := below_nx hbq (by first | exact hB | exact hB.drew) (by exact hB.size); have a0' := (hbq.cell (p := ⟨g1, j * 4, none⟩) (World.block_lt_of_cell? _ _ a0')).trans a0'; have a1 := (hbq.cell (p := ⟨g1, j * 4 + 1, none⟩) (World.block_lt_of_cell? _ _ a1)).trans a1; have a2 := (hbq.cell (p := ⟨g1, j * 4 + 2, none⟩) (World.block_lt_of_cell? _ _ a2)).trans a2; have a3 := (hbq.cell (p := ⟨g1, j * 4 + 3, none⟩) (World.block_lt_of_cell? _ _ a3)).trans a3; have b0' := (hbq.cell (p := ⟨g2, j * 4, none⟩) (World.block_lt_of_cell? _ _ b0')).trans b0'; have b1 := (hbq.cell (p := ⟨g2, j * 4 + 1, none⟩) (World.block_lt_of_cell? _ _ b1)).trans b1; have b2 := (hbq.cell (p := ⟨g2, j * 4 + 2, none⟩) (World.block_lt_of_cell? _ _ b2)).trans b2; have b3 := (hbq.cell (p := ⟨g2, j * 4 + 3, none⟩) (World.block_lt_of_cell? _ _ b3)).trans b3))
      all_goals
        go_wp2
        go_roundw
        case rel => exact ⟨j + 1, by omega, by go_num, by first | exact hB | exact hB.drew⟩
        case measure => simp [intOf]; omega
    · obtain rfl : j = l.length := by omega
      go_wp2
      go_ret
      exact ⟨rfl, hB⟩

def dOpM (m : Nat) : DOpT := (((m : Nat) : Int), markB (m + 1), markB (m + 2), markB (m + 3))
def dOpMs (k n : Nat) : List DOpT := (List.range n).map (fun i => dOpM (k + 4 * i))
theorem dOpMs_len (k n : Nat) : (dOpMs k n).length = n := by simp [dOpMs]
theorem dOpMs_at (k n j : Nat) (h : j < (dOpMs k n).length) : (dOpMs k n)[j] = dOpM (k + 4 * j) := by simp [dOpMs]
theorem dOpMs_put (k j : Nat) (l : List DOpT) (hj : j < l.length) : (dOpMs k j ++ l.drop j).set j (dOpM (k + 4 * j)) = dOpMs k (j + 1) ++ l.drop (j + 1) := by
  have h1 : (dOpMs k j).length = j := dOpMs_len k j
  rw [List.set_append, if_neg (by omega), h1, Nat.sub_self]
  rw [show dOpMs k (j + 1) = dOpMs k j ++ [dOpM (k + 4 * j)] by simp [dOpMs, List.range_succ]]
  rw [List.drop_eq_getElem_cons (by omega : j < l.length), List.set_cons_zero, List.append_assoc]
  rfl

set_option maxRecDepth 20000 in
set_option maxHeartbeats 1000000 in
theorem markDOpS_any (v : Value) (l : List DOpT) (k : Nat) (w : World) (h : RowL 0 36 4 dOpC v l w) (hl : k + 4 * l.length ≤ 1099511627776) : Calls Try.prog 89 #[v, .int .i64 k] w fun e w' => e = .returned (.int .i64 ((k + 4 * l.length : Nat) : Int)) ∧ RowL 0 36 4 dOpC v (dOpMs k l.length) w' ∧ w.grownBy w' v.ownBlock := by
  obtain ⟨p, cap, rfl, hm, _, hp⟩ := h.open
  have hst : Hid (RowL 0 36 4 dOpC (.slice p l.length cap) (dOpMs k 0 ++ l.drop 0) w) := by show RowL _ _ _ _ _ _ _; rw [List.drop_zero]; exact h
  have hlI : (l.length : Int) ≤ 1099511627776 := by omega
  have HL := Lib.hid hl
  clear h hm hl
  go_enter Try.func89, Try.ntmps89
  go_wp2
  go_loopw [1, 5] (fun q i wr => ∃ j : Nat, j ≤ l.length ∧ i = .int .i64 j ∧ q = .int .i64 ((k + 4 * j : Nat) : Int) ∧ RowL 0 36 4 dOpC (.slice p l.length cap) (dOpMs k j ++ l.drop j) wr ∧ w.grownBy wr (Value.slice p l.length cap).ownBlock) (fun _ i _ => l.length - (intOf i).toNat)
  case atStart => exact ⟨0, Nat.zero_le _, rfl, rfl, hst.out, grw_refl _ _⟩
  case round =>
    clear hst
    obtain ⟨j, hj, rfl, rfl, hR, hG⟩ := hrel
    by_cases hlt : j < l.length
    · have hne : l ≠ [] := by intro c; rw [c] at hlt; simp at hlt
      obtain ⟨g, rfl, _, hg⟩ := hp.resolve_left (fun c => hne c.1)
      have j0 : (0 : Int) ≤ (j : Int) := by omega
      have j1 : (j : Int) < (l.length : Int) := by omega
      have hL : (dOpMs k j ++ l.drop j).length = l.length := by rw [List.length_append, dOpMs_len, List.length_drop]; omega
      have HJ : Hid (j < (dOpMs k j ++ l.drop j).length) := by show _ < _; rw [hL]; exact hlt
      clear hL
      obtain ⟨y, hy⟩ : ∃ y, (dOpMs k j ++ l.drop j)[j]'HJ.out = y := ⟨_, rfl⟩
      have hps := dOpMs_put k j l hlt
      have HM1 : Hid (((k + 4 * (j + 1) : Nat) : Int) = ((k + 4 * j : Nat) : Int) + 4) := by show _ = _; omega
      have hmb : k + 4 * j ≤ 1099511627776 := by have := HL.out; omega
      generalize dOpMs k j ++ l.drop j = R at *
      generalize k + 4 * j = m at *
      have hmI : (m : Int) ≤ 1099511627776 := by omega
      have hm0 : (0 : Int) ≤ (m : Int) := by omega
      have hG : w.grownBy wr (some g) := hG
      have HPS := Lib.hid hps
      clear hps hne hg hp
      have P0 := Lib.hid (fun (w' : World) (h' : RowL 0 36 4 dOpC (.slice (some ⟨g, 0, none⟩) l.length cap) R w') => (And.intro (And.intro (h'.at dOpC_len (HJ.out) (hy) 0 (by omega) (u := .int .i64 y.1) rfl) (h'.frozen (j * 4))) (show RowL 0 36 4 dOpC (.slice (some ⟨g, 0, none⟩) l.length cap) (R.set j (((m : Int), y.2.1, y.2.2.1, y.2.2.2) : DOpT)) (w'.setCell ⟨g, j * 4, none⟩ (.int .i64 (m : Int))) from by have q := RowL.put h' dOpC_len (HJ.out) (hy) 0 (by omega) (.int .i64 (m : Int)) (b := (((m : Int), y.2.1, y.2.2.1, y.2.2.2) : DOpT)) rfl; first | exact q | (rw [List.set_set] at q; exact q))))
      have HR0 := Lib.hid hR
      clear hR
      obtain ⟨⟨c0, z0⟩, PW0⟩ := P0.out _ HR0.out
      have hG := grw_set hG (j * 4) (.int .i64 (m : Int))
      try simp only [Nat.add_zero] at c0 z0
      have P1 := Lib.hid (fun (w' : World) (h' : RowL 0 36 4 dOpC (.slice (some ⟨g, 0, none⟩) l.length cap) (R.set j (((m : Int), y.2.1, y.2.2.1, y.2.2.2) : DOpT)) w') => (And.intro (And.intro (h'.at dOpC_len (by rw [List.length_set]; exact HJ.out) (List.getElem_set_self ..) 1 (by omega) (u := .string y.2.1) rfl) (h'.frozen (j * 4 + 1))) (show RowL 0 36 4 dOpC (.slice (some ⟨g, 0, none⟩) l.length cap) (R.set j (((m : Int), (markB (m + 1)), y.2.2.1, y.2.2.2) : DOpT)) (w'.setCell ⟨g, j * 4 + 1, none⟩ (.string (markB (m + 1)))) from by have q := RowL.put h' dOpC_len (by rw [List.length_set]; exact HJ.out) (List.getElem_set_self ..) 1 (by omega) (.string (markB (m + 1))) (b := (((m : Int), (markB (m + 1)), y.2.2.1, y.2.2.2) : DOpT)) rfl; first | exact q | (rw [List.set_set] at q; exact q))))
      have M1 := Lib.hid (fun w => markText_any (m + 1) w (by omega))
      have HR1 := Lib.hid PW0
      clear PW0
      go_wp2_with fail
      refine (M1.out _).mono ?_
      rintro e w1 ⟨rfl, hb1⟩
      obtain ⟨⟨c1, z1⟩, PW1⟩ := P1.out _ (HR1.out.below hb1)
      have hG := grw_set (grw_below hG hb1) (j * 4 + 1) (.string (markB (m + 1)))
      clear hb1
      have P2 := Lib.hid (fun (w' : World) (h' : RowL 0 36 4 dOpC (.slice (some ⟨g, 0, none⟩) l.length cap) (R.set j (((m : Int), (markB (m + 1)), y.2.2.1, y.2.2.2) : DOpT)) w') => (And.intro (And.intro (h'.at dOpC_len (by rw [List.length_set]; exact HJ.out) (List.getElem_set_self ..) 2 (by omega) (u := .string y.2.2.1) rfl) (h'.frozen (j * 4 + 2))) (show RowL 0 36 4 dOpC (.slice (some ⟨g, 0, none⟩) l.length cap) (R.set j (((m : Int), (markB (m + 1)), (markB (m + 2)), y.2.2.2) : DOpT)) (w'.setCell ⟨g, j * 4 + 2, none⟩ (.string (markB (m + 2)))) from by have q := RowL.put h' dOpC_len (by rw [List.length_set]; exact HJ.out) (List.getElem_set_self ..) 2 (by omega) (.string (markB (m + 2))) (b := (((m : Int), (markB (m + 1)), (markB (m + 2)), y.2.2.2) : DOpT)) rfl; first | exact q | (rw [List.set_set] at q; exact q))))
      have M2 := Lib.hid (fun w => markText_any (m + 2) w (by omega))
      have HR2 := Lib.hid PW1
      clear PW1
      go_wp2_with fail
      refine (M2.out _).mono ?_
      rintro e w2 ⟨rfl, hb2⟩
      obtain ⟨⟨c2, z2⟩, PW2⟩ := P2.out _ (HR2.out.below hb2)
      have hG := grw_set (grw_below hG hb2) (j * 4 + 2) (.string (markB (m + 2)))
      clear hb2
      have P3 := Lib.hid (fun (w' : World) (h' : RowL 0 36 4 dOpC (.slice (some ⟨g, 0, none⟩) l.length cap) (R.set j (((m : Int), (markB (m + 1)), (markB (m + 2)), y.2.2.2) : DOpT)) w') => (And.intro (And.intro (h'.at dOpC_len (by rw [List.length_set]; exact HJ.out) (List.getElem_set_self ..) 3 (by omega) (u := .string y.2.2.2) rfl) (h'.frozen (j * 4 + 3))) (show RowL 0 36 4 dOpC (.slice (some ⟨g, 0, none⟩) l.length cap) (R.set j (((m : Int), (markB (m + 1)), (markB (m + 2)), (markB (m + 3))) : DOpT)) (w'.setCell ⟨g, j * 4 + 3, none⟩ (.string (markB (m + 3)))) from by have q := RowL.put h' dOpC_len (by rw [List.length_set]; exact HJ.out) (List.getElem_set_self ..) 3 (by omega) (.string (markB (m + 3))) (b := (((m : Int), (markB (m + 1)), (markB (m + 2)), (markB (m + 3))) : DOpT)) rfl; first | exact q | (rw [List.set_set] at q; exact q))))
      have M3 := Lib.hid (fun w => markText_any (m + 3) w (by omega))
      have HR3 := Lib.hid PW2
      clear PW2
      go_wp2_with fail
      refine (M3.out _).mono ?_
      rintro e w3 ⟨rfl, hb3⟩
      obtain ⟨⟨c3, z3⟩, PW3⟩ := P3.out _ (HR3.out.below hb3)
      have hG := grw_set (grw_below hG hb3) (j * 4 + 3) (.string (markB (m + 3)))
      clear hb3
      rw [show ((((m : Int), (markB (m + 1)), (markB (m + 2)), (markB (m + 3))) : DOpT)) = dOpM m from rfl, HPS.out] at PW3
      have HPW := Lib.hid PW3
      have HG := Lib.hid hG
      clear PW3 hG
      go_wp2
      go_roundw
      case rel => exact ⟨j + 1, by omega, by go_num, by rw [HM1.out]; go_num, HPW.out, HG.out⟩
      case measure => simp [intOf]; omega
    · obtain rfl : j = l.length := by omega
      rw [List.drop_length, List.append_nil] at hR
      go_wp2
      go_ret
      exact ⟨rfl, hR, hG⟩

set_option maxRecDepth 20000 in
set_option maxHeartbeats 1000000 in
theorem heldDOpS_any (v : Value) (n k : Nat) (w : World) (h : RowL 0 36 4 dOpC v (dOpMs k n) w) (hl : k + 4 * n ≤ 1099511627776) : Calls Try.prog 91 #[v, .int .i64 k] w fun e w' => e = .returned (.int .i64 ((k + 4 * n : Nat) : Int)) ∧ Below w.heap.size w w' := by
  obtain ⟨p, cap, rfl, hm, _, hp⟩ := h.open
  rw [dOpMs_len] at h ⊢
  have H := Lib.hid h
  have hlI : (n : Int) ≤ 1099511627776 := by omega
  have HL := Lib.hid hl
  clear h hm hl
  go_enter Try.func91, Try.ntmps91
  go_wp2
  go_loopw [1, 5] (fun q i wr => ∃ j : Nat, j ≤ n ∧ i = .int .i64 j ∧ q = .int .i64 ((k + 4 * j : Nat) : Int) ∧ Below w.heap.size w wr) (fun _ i _ => n - (intOf i).toNat)
  case atStart => exact ⟨0, Nat.zero_le _, rfl, rfl, Below.refl _ _⟩
  case round =>
    obtain ⟨j, hj, rfl, rfl, hB⟩ := hrel
    by_cases hlt : j < n
    · have hjl : j < (dOpMs k n).length := by rw [dOpMs_len]; exact hlt
      have hne : dOpMs k n ≠ [] := by intro c; rw [c] at hjl; simp at hjl
      obtain ⟨g, rfl, _, hg⟩ := hp.resolve_left (fun c => hne c.1)
      have j0 : (0 : Int) ≤ (j : Int) := by omega
      have j1 : (j : Int) < (n : Int) := by omega
      have hR := H.out.below hB
      have hx := dOpMs_at k n j hjl
      have HM1 : Hid (((k + 4 * (j + 1) : Nat) : Int) = ((k + 4 * j : Nat) : Int) + 4) := by show _ = _; omega
      have hmb : k + 4 * j ≤ 1099511627776 := by have := HL.out; omega
      generalize k + 4 * j = m at *
      have hmI : (m : Int) ≤ 1099511627776 := by omega
      have hm0 : (0 : Int) ≤ (m : Int) := by omega
      have c0 : wr.cell? ⟨g, j * 4, none⟩ = some (.int .i64 (m : Int)) := hR.at dOpC_len hjl hx 0 (by omega) rfl
      have c1 : wr.cell? ⟨g, j * 4 + 1, none⟩ = some (.string (markB (m + 1))) := hR.at dOpC_len hjl hx 1 (by omega) rfl
      have M1 := Lib.hid (fun w => markText_any (m + 1) w (by omega))
      have c2 : wr.cell? ⟨g, j * 4 + 2, none⟩ = some (.string (markB (m + 2))) := hR.at dOpC_len hjl hx 2 (by omega) rfl
      have M2 := Lib.hid (fun w => markText_any (m + 2) w (by omega))
      have c3 : wr.cell? ⟨g, j * 4 + 3, none⟩ = some (.string (markB (m + 3))) := hR.at dOpC_len hjl hx 3 (by omega) rfl
      have M3 := Lib.hid (fun w => markText_any (m + 3) w (by omega))
      generalize (markB (m + 1)) = s1 at *
      generalize (markB (m + 2)) = s2 at *
      generalize (markB (m + 3)) = s3 at *
      clear hmb hx hR hjl hne hg hp
      go_wp2_with fail
      go_region_held3 (fun w' => w'.cell? ⟨g, j * 4, none⟩ = some (.int .i64 (m : Int)) ∧ w'.cell? ⟨g, j * 4 + 1, none⟩ = some (.string s1) ∧ w'.cell? ⟨g, j * 4 + 2, none⟩ = some (.string s2) ∧ w'.cell? ⟨g, j * 4 + 3, none⟩ = some (.string s3)) (exact ⟨c0, c1, c2, c3⟩) ((go_at_call 93; refine (M1.out _).mono ?_; rintro e wq ⟨rfl, hbq⟩; have hB := below_nx hbq (by first | exact hB | exact hB.drew) (by exact hB.size); have c0 := (hbq.cell (p := ⟨g, j * 4, none⟩) (World.block_lt_of_cell? _ _ c0)).trans c0; have c1 := (hbq.cell (p := ⟨g, j * 4 + 1, none⟩) (World.block_lt_of_cell? _ _ c1)).trans c1; have c2 := (hbq.cell (p := ⟨g, j * 4 + 2, none⟩) (World.block_lt_of_cell? _ _ c2)).trans c2; have c3 := (hbq.cell (p := ⟨g, j * 4 + 3, none⟩) (World.block_lt_of_cell? _ _ c3)).trans c3))
      all_goals
        go_wp2_with fail
        go_region_held3 (fun w' => w'.cell? ⟨g, j * 4, none⟩ = some (.int .i64 (m : Int)) ∧ w'.cell? ⟨g, j * 4 + 1, none⟩ = some (.string s1) ∧ w'.cell? ⟨g, j * 4 + 2, none⟩ = some (.string s2) ∧ w'.cell? ⟨g, j * 4 + 3, none⟩ = some (.string s3)) (exact ⟨c0, c1, c2, c3⟩) ((go_at_call 93; refine (M2.out _).mono ?_; rintro e wq ⟨rfl, hbq⟩; have hB := below_nx hbq (by first | exact hB | exact hB.drew) (by exact hB.size); have c0 := (hbq.cell (p := ⟨g, j * 4, none⟩) (World.block_lt_of_cell? _ _ c0)).trans c0; have c1 := (hbq.cell (p := ⟨g, j * 4 + 1, none⟩) (World.block_lt_of_cell? _ _ c1)).trans c1; have c2 := (hbq.cell (p := ⟨g, j * 4 + 2, none⟩) (World.block_lt_of_cell? _ _ c2)).trans c2; have c3 := (hbq.cell (p := ⟨g, j * 4 + 3, none⟩) (World.block_lt_of_cell? _ _ c3)).trans c3))
        all_goals
          go_wp2_with fail
          go_region_held3 (fun w' => w'.cell? ⟨g, j * 4, none⟩ = some (.int .i64 (m : Int)) ∧ w'.cell? ⟨g, j * 4 + 1, none⟩ = some (.string s1) ∧ w'.cell? ⟨g, j * 4 + 2, none⟩ = some (.string s2) ∧ w'.cell? ⟨g, j * 4 + 3, none⟩ = some (.string s3)) (exact ⟨c0, c1, c2, c3⟩) ((go_at_call 93; refine (M3.out _).mono ?_; rintro e wq ⟨rfl, hbq⟩; have hB := below_nx hbq (by first | exact hB | exact hB.drew) (by exact hB.size); have c0 := (hbq.cell (p := ⟨g, j * 4, none⟩) (World.block_lt_of_cell? _ _ c0)).trans c0; have c1 := (hbq.cell (p := ⟨g, j * 4 + 1, none⟩) (World.block_lt_of_cell? _ _ c1)).trans c1; have c2 := (hbq.cell (p := ⟨g, j * 4 + 2, none⟩) (World.block_lt_of_cell? _ _ c2)).trans c2; have c3 := (hbq.cell (p := ⟨g, j * 4 + 3, none⟩) (World.block_lt_of_cell? _ _ c3)).trans c3))
          all_goals
            go_wp2
            go_roundw
            case rel => exact ⟨j + 1, by omega, by go_num, by rw [HM1.out]; go_num, by first | exact hB | exact hB.drew⟩
            case measure => simp [intOf]; omega
    · obtain rfl : j = n := by omega
      go_wp2
      go_ret
      exact ⟨rfl, hB⟩

end Go.Proofs.Ytepefbfmjjnamaa

/- The exact laws' helpers for 'Skip' and its lists. Written by py/rows.py. -/
import Derived.Test.YtkglgficmealnaaRowB
import Derived.Test.YtkglgficmealnaaRowC
namespace Go.Proofs.Ytkglgficmealnaa
open Go.RowKit Go.My Go.Lib
set_option linter.unusedVariables false

abbrev SkipT : Type := ByteArray × Int × ByteArray
def skipC (a : SkipT) : List Value := [.string a.1, .int .i64 a.2.1, .string a.2.2]
theorem skipC_len (a : SkipT) : (skipC a).length = 3 := rfl
def skipZ : SkipT := (ByteArray.empty, 0, ByteArray.empty)
def skipN (a : SkipT) : Nat := a.1.size + a.2.2.size
/-- Sizes and numbers as an argument has them. -/
def skipW (a : SkipT) : Prop := a.1.size ≤ maxLen ∧ (Lit.int .i64 a.2.1).wf = true ∧ a.2.2.size ≤ maxLen
def skipSum (l : List SkipT) : Nat := (l.map skipN).sum
theorem skipSum_next (l : List SkipT) (j : Nat) (h : j < l.length) : skipSum (l.take (j + 1)) = skipSum (l.take j) + skipN l[j] := by
  unfold skipSum
  rw [List.take_succ_eq_append_getElem h, List.map_append, List.sum_append]
  simp
theorem info_Skip : (Try.prog.info? 62).map (fun i => (i.zero, i.size, i.bytes)) = some (some (.agg #[.string ByteArray.empty, .int .i64 0, .string ByteArray.empty]), 3, 40) := by kernel_rfl

set_option maxHeartbeats 1000000 in
theorem toSkip_any (f0 : ByteArray) (f1 : Int) (f2 : ByteArray) (w : World) : Calls Try.prog 62 #[.agg #[.string f0, .int .i64 f1, .string f2]] w fun e w' => e = .returned (.agg #[.string f0, .int .i64 f1, .string f2]) ∧ Below w.heap.size w w' := by
  go_enter Try.func62, Try.ntmps62
  go_wp2
  refine bodyPost_ret (v := .agg #[.string f0, .int .i64 f1, .string f2]) (by simp [results, Try.results62, go_sem]) rfl ⟨rfl, ?_⟩
  repeat (refine Below.setCell ?_ (p := ⟨_, _, none⟩) (by first | (simp; done) | (simp; omega)) _)
  repeat (refine Below.alloc ?_ (by first | (simp; done) | (simp; omega)) _)
  exact Below.refl _ _

set_option maxHeartbeats 1000000 in
theorem szSkip_any (f0 : ByteArray) (f1 : Int) (f2 : ByteArray) (left : Nat) (w : World) (hl : left ≤ 1048576) (wf0 : f0.size ≤ maxLen) (wf2 : f2.size ≤ maxLen) : Calls Try.prog 61 #[.agg #[.string f0, .int .i64 f1, .string f2], .int .i64 left] w fun e w' => ((∃ r : Nat, e = .returned (.int .i64 r) ∧ r + skipN (f0, f1, f2) = left) ∨ e = .returned (.int .i64 (-1))) ∧ Below w.heap.size w w' := by
  have hlI : (left : Int) ≤ 1048576 := by omega
  have hmf0 : (f0.size : Int) ≤ 9223372036854775807 := by unfold maxLen at wf0; omega
  have hmf2 : (f2.size : Int) ≤ 9223372036854775807 := by unfold maxLen at wf2; omega
  have HN : Hid (skipN (f0, f1, f2) = f0.size + f2.size) := rfl
  by_cases hf0 : f0.size ≤ left
  case neg =>
    have qf0 : (left : Int) - (f0.size : Int) < 0 := by omega
    clear hf0
    go_enter Try.func61, Try.ntmps61
    go_wp2
    go_ret
    exact ⟨.inr rfl, (Below.refl _ _).alloc (Nat.le_refl _) _⟩
  by_cases hf2 : f0.size + f2.size ≤ left
  case neg =>
    have qf0 : ¬ (left : Int) - (f0.size : Int) < 0 := by omega
    have qf2 : (left : Int) - (f0.size : Int) - (f2.size : Int) < 0 := by omega
    clear hf0 hf2
    go_enter Try.func61, Try.ntmps61
    go_wp2
    go_ret
    exact ⟨.inr rfl, (Below.refl _ _).alloc (Nat.le_refl _) _⟩
  have qf0 : ¬ (left : Int) - (f0.size : Int) < 0 := by omega
  have qf2 : ¬ (left : Int) - (f0.size : Int) - (f2.size : Int) < 0 := by omega
  have HE : Hid ((left : Int) - (f0.size : Int) - (f2.size : Int) = ((left - (f0.size + f2.size) : Nat) : Int)) := by show _ = _; omega
  have HL := Lib.hid hf2
  clear hf0 hf2
  go_enter Try.func61, Try.ntmps61
  go_wp2
  go_ret
  exact ⟨.inl ⟨left - (f0.size + f2.size), by rw [← HE.out]; rfl, by rw [HN.out]; have := HL.out; omega⟩, (Below.refl _ _).alloc (Nat.le_refl _) _⟩

set_option maxHeartbeats 1000000 in
theorem eqSkip_same (f0 : ByteArray) (f1 : Int) (f2 : ByteArray) (w : World) : Calls Try.prog 65 #[.agg #[.string f0, .int .i64 f1, .string f2], .agg #[.string f0, .int .i64 f1, .string f2]] w fun e w' => e = .returned (.bool true) ∧ Below w.heap.size w w' := by
  go_enter Try.func65, Try.ntmps65
  go_wp2
  go_ret
  refine ⟨rfl, ?_⟩
  repeat (refine Below.setCell ?_ (p := ⟨_, _, none⟩) (by first | (simp; done) | (simp; omega)) _)
  repeat (refine Below.alloc ?_ (by first | (simp; done) | (simp; omega)) _)
  exact Below.refl _ _

set_option maxHeartbeats 1000000 in
theorem toSkipS_any (v : Value) (l : List SkipT) (w : World) (h : ArgL 3 skipC v l w) (hl : l.length ≤ 1048576) : Calls Try.prog 31 #[v] w fun e w' => ∃ v', e = .returned v' ∧ RowL w.heap.size 62 3 skipC v' l w' ∧ Below w.heap.size w w' := by
  obtain ⟨i0, hi, hz0, hz1, hz2⟩ := info_parts info_Skip
  have H := Lib.hid h
  obtain ⟨p, cap, rfl, hlc, hcm, hp⟩ := h
  have hlI : (l.length : Int) ≤ 1048576 := by omega
  have hl0 : (0 : Int) ≤ (l.length : Int) := by omega
  clear hcm hlc
  go_enter Try.func31, Try.ntmps31
  go_wp2_with (at_make; refine wpList_make_full _ rfl _ _ 27 rfl w.heap.size 62 i0 (.agg #[.string ByteArray.empty, .int .i64 0, .string ByteArray.empty]) 3 Try.underlying27 hi hz0 hz1 .i64 .i64 _ _ l.length rfl rfl rfl rfl ?c2 ?c3 ?c4 ?_)
  case c2 => rw [hz2]; omega
  case c3 => unfold maxLen; omega
  case c4 => exact Nat.le_refl _
  intro w1 hown hgrow
  have hb1 : Below w.heap.size w w1 := (Below.refl _ _).grown hgrow (Nat.le_refl _) (by simp)
  clear hgrow
  obtain ⟨Z, hZ⟩ : ∃ Z, Z = List.replicate l.length skipZ := ⟨_, rfl⟩
  have hZl : Z.length = l.length := by rw [hZ, List.length_replicate]
  have hR0 : RowL w.heap.size 62 3 skipC (.slice (some ⟨w.heap.size, 0, none⟩) l.length l.length) (l.take 0 ++ Z.drop 0) w1 := by
    have e := made_flat #[.string ByteArray.empty, .int .i64 0, .string ByteArray.empty] skipC skipZ l.length rfl
    unfold RowL
    rw [List.take_zero, List.nil_append, List.drop_zero, hZl, hZ, ← e]
    exact hown
  have HZ := Lib.hid hZl
  clear hown hZ hZl
  go_wp2
  go_loopw [4] (fun i wr => ∃ j : Nat, j ≤ l.length ∧ i = .int .i64 j ∧ RowL w.heap.size 62 3 skipC (.slice (some ⟨w.heap.size, 0, none⟩) l.length l.length) (l.take j ++ Z.drop j) wr ∧ Below w.heap.size w wr) (fun i _ => l.length - (intOf i).toNat)
  case atStart => exact ⟨0, Nat.zero_le _, rfl, hR0, hb1⟩
  case round =>
    clear hR0 hb1
    obtain ⟨j, hj, rfl, hR, hB⟩ := hrel
    by_cases hlt : j < l.length
    · have hne : l ≠ [] := by intro c; rw [c] at hlt; simp at hlt
      obtain ⟨b, o, rfl, hbl, hc⟩ := hp.resolve_left hne
      have j0 : (0 : Int) ≤ (j : Int) := by omega
      have j1 : (j : Int) < (l.length : Int) := by omega
      obtain ⟨x, hx⟩ : ∃ x, l[j] = x := ⟨_, rfl⟩
      have ht := tkp_at HZ.out j hlt
      have hln := tkp_len HZ.out j hj
      have hps := tkp_put HZ.out j hlt
      rw [hx] at hps
      have HJ : Hid (j < (l.take j ++ Z.drop j).length) := by show _ < _; rw [hln]; exact hlt
      obtain ⟨y, hy⟩ : ∃ y, (l.take j ++ Z.drop j)[j]'HJ.out = y := ⟨_, rfl⟩
      have a0 := (hB.cell (p := ⟨b, o + (j * 3 + 0), none⟩) hbl).trans (hc j hlt 0 (.string x.1) (by rw [hx]; rfl))
      rw [show o + (j * 3 + 0) = o + j * 3 from by omega] at a0
      have a1 := (hB.cell (p := ⟨b, o + (j * 3 + 1), none⟩) hbl).trans (hc j hlt 1 (.int .i64 x.2.1) (by rw [hx]; rfl))
      rw [show o + (j * 3 + 1) = o + j * 3 + 1 from by omega] at a1
      have a2 := (hB.cell (p := ⟨b, o + (j * 3 + 2), none⟩) hbl).trans (hc j hlt 2 (.string x.2.2) (by rw [hx]; rfl))
      rw [show o + (j * 3 + 2) = o + j * 3 + 2 from by omega] at a2
      have HP := Lib.hid (show ∀ w', RowL w.heap.size 62 3 skipC (.slice (some ⟨w.heap.size, 0, none⟩) l.length l.length) (l.take j ++ Z.drop j) w' → (w'.cell? ⟨w.heap.size, j * 3, none⟩ = some (.string y.1) ∧ w'.cell? ⟨w.heap.size, j * 3 + 1, none⟩ = some (.int .i64 y.2.1) ∧ w'.cell? ⟨w.heap.size, j * 3 + 2, none⟩ = some (.string y.2.2)) ∧ (∀ q, w'.frozen? ⟨w.heap.size, q, none⟩ = false) ∧ RowL w.heap.size 62 3 skipC (.slice (some ⟨w.heap.size, 0, none⟩) l.length l.length) (l.take (j + 1) ++ Z.drop (j + 1)) (((w'.setCell ⟨w.heap.size, j * 3, none⟩ (.string x.1)).setCell ⟨w.heap.size, j * 3 + 1, none⟩ (.int .i64 x.2.1)).setCell ⟨w.heap.size, j * 3 + 2, none⟩ (.string x.2.2)) from fun w' h' => by
        refine ⟨⟨h'.at skipC_len HJ.out hy 0 (by omega) rfl, h'.at skipC_len HJ.out hy 1 (by omega) rfl, h'.at skipC_len HJ.out hy 2 (by omega) rfl⟩, fun q => h'.frozen q, ?_⟩
        have p0 := RowL.put h' skipC_len HJ.out (hy) 0 (by omega) (.string x.1) (b := ((x.1, y.2.1, y.2.2) : SkipT)) rfl
        have p1 := RowL.put p0 skipC_len (by rw [List.length_set]; exact HJ.out) (List.getElem_set_self ..) 1 (by omega) (.int .i64 x.2.1) (b := ((x.1, x.2.1, y.2.2) : SkipT)) rfl
        have p2 := RowL.put p1 skipC_len (by rw [List.length_set]; rw [List.length_set]; exact HJ.out) (List.getElem_set_self ..) 2 (by omega) (.string x.2.2) (b := ((x.1, x.2.1, x.2.2) : SkipT)) rfl
        rw [List.set_set, List.set_set] at p2
        rw [hps] at p2
        exact p2)
      have TA := Lib.hid (fun w => toSkip_any x.1 x.2.1 x.2.2 w)
      have HR := Lib.hid hR
      clear hR hc ht hln hps hy hx hne hp
      go_wp2_with fail
      refine (TA.out _).mono ?_
      rintro e w2 ⟨rfl, hb2⟩
      obtain ⟨⟨g0, g1, g2⟩, fz, PW⟩ := HP.out w2 (HR.out.below hb2)
      have HPW := Lib.hid PW
      have z0 := fz (j * 3)
      have z1 := fz (j * 3 + 1)
      have z2 := fz (j * 3 + 2)
      have HB2 := Lib.hid (hB.trans (hb2.mono hB.size))
      clear fz PW hb2 hB a0 a1 a2
      go_wp2
      go_roundw
      case rel => exact ⟨j + 1, by omega, by go_num, HPW.out, (((HB2.out.setCell (p := ⟨w.heap.size, j * 3, none⟩) (Nat.le_refl _) _).setCell (p := ⟨w.heap.size, j * 3 + 1, none⟩) (Nat.le_refl _) _).setCell (p := ⟨w.heap.size, j * 3 + 2, none⟩) (Nat.le_refl _) _)⟩
      case measure => simp [intOf]; omega
    · obtain rfl : j = l.length := by omega
      rw [List.take_length, List.drop_eq_nil_of_le (by rw [HZ.out]; exact Nat.le_refl _), List.append_nil] at hR
      go_wp2
      go_ret
      exact ⟨_, rfl, hR, hB⟩

set_option maxHeartbeats 1000000 in
theorem szSkipS_any (v : Value) (l : List SkipT) (left : Nat) (w : World) (h : ArgL 3 skipC v l w) (hw : ∀ a ∈ l, skipW a) (hl : left ≤ 1048576) : Calls Try.prog 27 #[v, .int .i64 left] w fun e w' => ((∃ r : Nat, e = .returned (.int .i64 r) ∧ r + l.length + skipSum l = left) ∨ e = .returned (.int .i64 (-1))) ∧ Below w.heap.size w w' := by
  have H := Lib.hid h
  obtain ⟨p, cap, rfl, hlc, hcm, hp⟩ := h
  have hlm : (l.length : Int) ≤ 9223372036854775807 := by unfold maxLen at hcm; omega
  have hlI : (left : Int) ≤ 1048576 := by omega
  clear hcm hlc
  by_cases h0 : l.length ≤ left
  case neg =>
    have q0 : (left : Int) - (l.length : Int) < 0 := by omega
    clear h0
    go_enter Try.func27, Try.ntmps27
    go_wp2
    go_ret
    exact ⟨.inr rfl, Below.refl _ _⟩
  have q0 : ¬ (left : Int) - (l.length : Int) < 0 := by omega
  have HS : Hid ((left : Int) - (l.length : Int) = ((left - l.length : Nat) : Int)) := by show _ = _; omega
  have H0 := Lib.hid h0
  have hl20 : (l.length : Int) ≤ 1048576 := by omega
  clear h0
  go_enter Try.func27, Try.ntmps27
  go_wp2
  rw [HS.out]
  go_loopw [1, 5] (fun q i wr => ∃ j r : Nat, j ≤ l.length ∧ i = .int .i64 j ∧ q = .int .i64 r ∧ r + l.length + skipSum (l.take j) = left ∧ Below w.heap.size w wr) (fun _ i _ => l.length - (intOf i).toNat)
  case atStart => exact ⟨0, left - l.length, Nat.zero_le _, rfl, rfl, by have := H0.out; show _ + _ + 0 = _; omega, Below.refl _ _⟩
  case round =>
    obtain ⟨j, r, hj, rfl, rfl, hr, hB⟩ := hrel
    have HR := Lib.hid hr
    clear hr
    by_cases hlt : j < l.length
    · have hne : l ≠ [] := by intro c; rw [c] at hlt; simp at hlt
      obtain ⟨b, o, rfl, hbl, hc⟩ := hp.resolve_left hne
      have j0 : (0 : Int) ≤ (j : Int) := by omega
      have j1 : (j : Int) < (l.length : Int) := by omega
      have hW := hw _ (List.getElem_mem hlt)
      obtain ⟨x, hx⟩ : ∃ x, l[j] = x := ⟨_, rfl⟩
      have HN : Hid (skipSum (l.take (j + 1)) = skipSum (l.take j) + skipN (x.1, x.2.1, x.2.2)) := by
        have := skipSum_next l j hlt
        rw [hx] at this
        exact this
      rw [hx] at hW
      have a0 := (hB.cell (p := ⟨b, o + (j * 3 + 0), none⟩) hbl).trans (hc j hlt 0 (.string x.1) (by rw [hx]; rfl))
      rw [show o + (j * 3 + 0) = o + j * 3 from by omega] at a0
      have a1 := (hB.cell (p := ⟨b, o + (j * 3 + 1), none⟩) hbl).trans (hc j hlt 1 (.int .i64 x.2.1) (by rw [hx]; rfl))
      rw [show o + (j * 3 + 1) = o + j * 3 + 1 from by omega] at a1
      have a2 := (hB.cell (p := ⟨b, o + (j * 3 + 2), none⟩) hbl).trans (hc j hlt 2 (.string x.2.2) (by rw [hx]; rfl))
      rw [show o + (j * 3 + 2) = o + j * 3 + 2 from by omega] at a2
      have TA := Lib.hid (fun w => szSkip_any x.1 x.2.1 x.2.2 r w (by have := HR.out; omega) hW.1 hW.2.2)
      clear hc hx hne hp hw hW
      go_wp2_with fail
      refine (TA.out _).mono ?_
      rintro e w2 ⟨hres, hb2⟩
      have hB2 := hB.trans (hb2.mono hB.size)
      clear hb2 hB
      rcases hres with ⟨r2, rfl, hr2⟩ | rfl
      · have q2 : ¬ (r2 : Int) < 0 := by omega
        have HR2 : Hid (r2 + l.length + skipSum (l.take (j + 1)) = left) := by have := HR.out; have := HN.out; show _ = _; omega
        clear hr2
        go_wp2
        go_roundw
        case rel => exact ⟨j + 1, r2, by omega, by go_num, rfl, HR2.out, hB2⟩
        case measure => simp [intOf]; omega
      · go_wp2
        go_ret
        exact ⟨.inr rfl, hB2⟩
    · obtain rfl : j = l.length := by omega
      have HR3 : Hid (r + l.length + skipSum l = left) := by have := HR.out; rw [List.take_length] at this; exact this
      go_wp2
      go_ret
      exact ⟨.inl ⟨r, rfl, HR3.out⟩, hB⟩

set_option maxHeartbeats 1000000 in
theorem eqSkipS_same (v1 v2 : Value) (l : List SkipT) (w : World) (h1 : RowL 0 62 3 skipC v1 l w) (h2 : RowL 0 62 3 skipC v2 l w) (hl : l.length ≤ 1048576) : Calls Try.prog 36 #[v1, v2] w fun e w' => e = .returned (.bool true) ∧ Below w.heap.size w w' := by
  obtain ⟨p1, cap1, rfl, hm1, _, hp1⟩ := h1.open
  obtain ⟨p2, cap2, rfl, hm2, _, hp2⟩ := h2.open
  have H1 := Lib.hid h1
  have H2 := Lib.hid h2
  have hlI : (l.length : Int) ≤ 1048576 := by omega
  clear h1 h2 hm1 hm2
  go_enter Try.func36, Try.ntmps36
  go_wp2
  go_loopw [5] (fun i wr => ∃ j : Nat, j ≤ l.length ∧ i = .int .i64 j ∧ Below w.heap.size w wr) (fun i _ => l.length - (intOf i).toNat)
  case atStart => exact ⟨0, Nat.zero_le _, rfl, Below.refl _ _⟩
  case round =>
    obtain ⟨j, hj, rfl, hB⟩ := hrel
    by_cases hlt : j < l.length
    · have hne : l ≠ [] := by intro c; rw [c] at hlt; simp at hlt
      obtain ⟨g1, rfl, _, hg1⟩ := hp1.resolve_left (fun c => hne c.1)
      obtain ⟨g2, rfl, _, hg2⟩ := hp2.resolve_left (fun c => hne c.1)
      have j0 : (0 : Int) ≤ (j : Int) := by omega
      have j1 : (j : Int) < (l.length : Int) := by omega
      obtain ⟨x, hx⟩ : ∃ x, l[j] = x := ⟨_, rfl⟩
      have a0 := (H1.out.below hB).at skipC_len hlt hx 0 (by omega) (u := .string x.1) rfl
      have a1 := (H1.out.below hB).at skipC_len hlt hx 1 (by omega) (u := .int .i64 x.2.1) rfl
      have a2 := (H1.out.below hB).at skipC_len hlt hx 2 (by omega) (u := .string x.2.2) rfl
      have b0 := (H2.out.below hB).at skipC_len hlt hx 0 (by omega) (u := .string x.1) rfl
      have b1 := (H2.out.below hB).at skipC_len hlt hx 1 (by omega) (u := .int .i64 x.2.1) rfl
      have b2 := (H2.out.below hB).at skipC_len hlt hx 2 (by omega) (u := .string x.2.2) rfl
      have a0' : wr.cell? ⟨g1, j * 3, none⟩ = some (.string x.1) := a0
      have b0' : wr.cell? ⟨g2, j * 3, none⟩ = some (.string x.1) := b0
      have TA := Lib.hid (fun w => eqSkip_same x.1 x.2.1 x.2.2 w)
      clear a0 b0 hx hne hp1 hp2 hg1 hg2
      go_wp2_with fail
      go_region_held3 (fun w' => w'.cell? ⟨g1, j * 3, none⟩ = some (.string x.1) ∧ w'.cell? ⟨g1, j * 3 + 1, none⟩ = some (.int .i64 x.2.1) ∧ w'.cell? ⟨g1, j * 3 + 2, none⟩ = some (.string x.2.2) ∧ w'.cell? ⟨g2, j * 3, none⟩ = some (.string x.1) ∧ w'.cell? ⟨g2, j * 3 + 1, none⟩ = some (.int .i64 x.2.1) ∧ w'.cell? ⟨g2, j * 3 + 2, none⟩ = some (.string x.2.2)) (exact ⟨a0', a1, a2, b0', b1, b2⟩) ((go_at_call 65; refine (TA.out _).mono ?_; rintro e wq ⟨rfl, hbq⟩; have hB := below_nx hbq (by first | exact hB | exact hB.drew) (by exact hB.size); have a0' := (hbq.cell (p := ⟨g1, j * 3, none⟩) (World.block_lt_of_cell? _ _ a0')).trans a0'; have a1 := (hbq.cell (p := ⟨g1, j * 3 + 1, none⟩) (World.block_lt_of_cell? _ _ a1)).trans a1; have a2 := (hbq.cell (p := ⟨g1, j * 3 + 2, none⟩) (World.block_lt_of_cell? _ _ a2)).trans a2; have b0' := (hbq.cell (p := ⟨g2, j * 3, none⟩) (World.block_lt_of_cell? _ _ b0')).trans b0'; have b1 := (hbq.cell (p := ⟨g2, j * 3 + 1, none⟩) (World.block_lt_of_cell? _ _ b1)).trans b1; have b2 := (hbq.cell (p := ⟨g2, j * 3 + 2, none⟩) (World.block_lt_of_cell? _ _ b2)).trans b2))
      all_goals
        go_wp2
        go_roundw
        case rel => exact ⟨j + 1, by omega, by go_num, by first | exact hB | exact hB.drew⟩
        case measure => simp [intOf]; omega
    · obtain rfl : j = l.length := by omega
      go_wp2
      go_ret
      exact ⟨rfl, hB⟩

def skipM (m : Nat) : SkipT := (markB (m), ((m + 1 : Nat) : Int), markB (m + 2))
def skipMs (k n : Nat) : List SkipT := (List.range n).map (fun i => skipM (k + 3 * i))
theorem skipMs_len (k n : Nat) : (skipMs k n).length = n := by simp [skipMs]
theorem skipMs_at (k n j : Nat) (h : j < (skipMs k n).length) : (skipMs k n)[j] = skipM (k + 3 * j) := by simp [skipMs]
theorem skipMs_put (k j : Nat) (l : List SkipT) (hj : j < l.length) : (skipMs k j ++ l.drop j).set j (skipM (k + 3 * j)) = skipMs k (j + 1) ++ l.drop (j + 1) := by
  have h1 : (skipMs k j).length = j := skipMs_len k j
  rw [List.set_append, if_neg (by omega), h1, Nat.sub_self]
  rw [show skipMs k (j + 1) = skipMs k j ++ [skipM (k + 3 * j)] by simp [skipMs, List.range_succ]]
  rw [List.drop_eq_getElem_cons (by omega : j < l.length), List.set_cons_zero, List.append_assoc]
  rfl

set_option maxRecDepth 20000 in
set_option maxHeartbeats 1000000 in
theorem markSkipS_any (v : Value) (l : List SkipT) (k : Nat) (w : World) (h : RowL 0 62 3 skipC v l w) (hl : k + 3 * l.length ≤ 1099511627776) : Calls Try.prog 37 #[v, .int .i64 k] w fun e w' => e = .returned (.int .i64 ((k + 3 * l.length : Nat) : Int)) ∧ RowL 0 62 3 skipC v (skipMs k l.length) w' ∧ w.grownBy w' v.ownBlock := by
  obtain ⟨p, cap, rfl, hm, _, hp⟩ := h.open
  have hst : Hid (RowL 0 62 3 skipC (.slice p l.length cap) (skipMs k 0 ++ l.drop 0) w) := by show RowL _ _ _ _ _ _ _; rw [List.drop_zero]; exact h
  have hlI : (l.length : Int) ≤ 1099511627776 := by omega
  have HL := Lib.hid hl
  clear h hm hl
  go_enter Try.func37, Try.ntmps37
  go_wp2
  go_loopw [1, 5] (fun q i wr => ∃ j : Nat, j ≤ l.length ∧ i = .int .i64 j ∧ q = .int .i64 ((k + 3 * j : Nat) : Int) ∧ RowL 0 62 3 skipC (.slice p l.length cap) (skipMs k j ++ l.drop j) wr ∧ w.grownBy wr (Value.slice p l.length cap).ownBlock) (fun _ i _ => l.length - (intOf i).toNat)
  case atStart => exact ⟨0, Nat.zero_le _, rfl, rfl, hst.out, grw_refl _ _⟩
  case round =>
    clear hst
    obtain ⟨j, hj, rfl, rfl, hR, hG⟩ := hrel
    by_cases hlt : j < l.length
    · have hne : l ≠ [] := by intro c; rw [c] at hlt; simp at hlt
      obtain ⟨g, rfl, _, hg⟩ := hp.resolve_left (fun c => hne c.1)
      have j0 : (0 : Int) ≤ (j : Int) := by omega
      have j1 : (j : Int) < (l.length : Int) := by omega
      have hL : (skipMs k j ++ l.drop j).length = l.length := by rw [List.length_append, skipMs_len, List.length_drop]; omega
      have HJ : Hid (j < (skipMs k j ++ l.drop j).length) := by show _ < _; rw [hL]; exact hlt
      clear hL
      obtain ⟨y, hy⟩ : ∃ y, (skipMs k j ++ l.drop j)[j]'HJ.out = y := ⟨_, rfl⟩
      have hps := skipMs_put k j l hlt
      have HM1 : Hid (((k + 3 * (j + 1) : Nat) : Int) = ((k + 3 * j : Nat) : Int) + 3) := by show _ = _; omega
      have hmb : k + 3 * j ≤ 1099511627776 := by have := HL.out; omega
      generalize skipMs k j ++ l.drop j = R at *
      generalize k + 3 * j = m at *
      have hmI : (m : Int) ≤ 1099511627776 := by omega
      have hm0 : (0 : Int) ≤ (m : Int) := by omega
      have hG : w.grownBy wr (some g) := hG
      have HPS := Lib.hid hps
      clear hps hne hg hp
      have P0 := Lib.hid (fun (w' : World) (h' : RowL 0 62 3 skipC (.slice (some ⟨g, 0, none⟩) l.length cap) R w') => (And.intro (And.intro (h'.at skipC_len (HJ.out) (hy) 0 (by omega) (u := .string y.1) rfl) (h'.frozen (j * 3))) (show RowL 0 62 3 skipC (.slice (some ⟨g, 0, none⟩) l.length cap) (R.set j (((markB m), y.2.1, y.2.2) : SkipT)) (w'.setCell ⟨g, j * 3, none⟩ (.string (markB m))) from by have q := RowL.put h' skipC_len (HJ.out) (hy) 0 (by omega) (.string (markB m)) (b := (((markB m), y.2.1, y.2.2) : SkipT)) rfl; first | exact q | (rw [List.set_set] at q; exact q))))
      have M0 := Lib.hid (fun w => markText_any (m) w (by omega))
      have HR0 := Lib.hid hR
      clear hR
      go_wp2_with fail
      refine (M0.out _).mono ?_
      rintro e w0 ⟨rfl, hb0⟩
      obtain ⟨⟨c0, z0⟩, PW0⟩ := P0.out _ (HR0.out.below hb0)
      have hG := grw_set (grw_below hG hb0) (j * 3) (.string (markB m))
      clear hb0
      try simp only [Nat.add_zero] at c0 z0
      have P1 := Lib.hid (fun (w' : World) (h' : RowL 0 62 3 skipC (.slice (some ⟨g, 0, none⟩) l.length cap) (R.set j (((markB m), y.2.1, y.2.2) : SkipT)) w') => (And.intro (And.intro (h'.at skipC_len (by rw [List.length_set]; exact HJ.out) (List.getElem_set_self ..) 1 (by omega) (u := .int .i64 y.2.1) rfl) (h'.frozen (j * 3 + 1))) (show RowL 0 62 3 skipC (.slice (some ⟨g, 0, none⟩) l.length cap) (R.set j (((markB m), ((m + 1 : Nat) : Int), y.2.2) : SkipT)) (w'.setCell ⟨g, j * 3 + 1, none⟩ (.int .i64 ((m + 1 : Nat) : Int))) from by have q := RowL.put h' skipC_len (by rw [List.length_set]; exact HJ.out) (List.getElem_set_self ..) 1 (by omega) (.int .i64 ((m + 1 : Nat) : Int)) (b := (((markB m), ((m + 1 : Nat) : Int), y.2.2) : SkipT)) rfl; first | exact q | (rw [List.set_set] at q; exact q))))
      have HR1 := Lib.hid PW0
      clear PW0
      obtain ⟨⟨c1, z1⟩, PW1⟩ := P1.out _ HR1.out
      have hG := grw_set hG (j * 3 + 1) (.int .i64 ((m + 1 : Nat) : Int))
      have P2 := Lib.hid (fun (w' : World) (h' : RowL 0 62 3 skipC (.slice (some ⟨g, 0, none⟩) l.length cap) (R.set j (((markB m), ((m + 1 : Nat) : Int), y.2.2) : SkipT)) w') => (And.intro (And.intro (h'.at skipC_len (by rw [List.length_set]; exact HJ.out) (List.getElem_set_self ..) 2 (by omega) (u := .string y.2.2) rfl) (h'.frozen (j * 3 + 2))) (show RowL 0 62 3 skipC (.slice (some ⟨g, 0, none⟩) l.length cap) (R.set j (((markB m), ((m + 1 : Nat) : Int), (markB (m + 2))) : SkipT)) (w'.setCell ⟨g, j * 3 + 2, none⟩ (.string (markB (m + 2)))) from by have q := RowL.put h' skipC_len (by rw [List.length_set]; exact HJ.out) (List.getElem_set_self ..) 2 (by omega) (.string (markB (m + 2))) (b := (((markB m), ((m + 1 : Nat) : Int), (markB (m + 2))) : SkipT)) rfl; first | exact q | (rw [List.set_set] at q; exact q))))
      have M2 := Lib.hid (fun w => markText_any (m + 2) w (by omega))
      have HR2 := Lib.hid PW1
      clear PW1
      go_wp2_with fail
      refine (M2.out _).mono ?_
      rintro e w2 ⟨rfl, hb2⟩
      obtain ⟨⟨c2, z2⟩, PW2⟩ := P2.out _ (HR2.out.below hb2)
      have hG := grw_set (grw_below hG hb2) (j * 3 + 2) (.string (markB (m + 2)))
      clear hb2
      rw [show ((((markB m), ((m + 1 : Nat) : Int), (markB (m + 2))) : SkipT)) = skipM m from rfl, HPS.out] at PW2
      have HPW := Lib.hid PW2
      have HG := Lib.hid hG
      clear PW2 hG
      go_wp2
      go_roundw
      case rel => exact ⟨j + 1, by omega, by go_num, by rw [HM1.out]; go_num, HPW.out, HG.out⟩
      case measure => simp [intOf]; omega
    · obtain rfl : j = l.length := by omega
      rw [List.drop_length, List.append_nil] at hR
      go_wp2
      go_ret
      exact ⟨rfl, hR, hG⟩

set_option maxRecDepth 20000 in
set_option maxHeartbeats 1000000 in
theorem heldSkipS_any (v : Value) (n k : Nat) (w : World) (h : RowL 0 62 3 skipC v (skipMs k n) w) (hl : k + 3 * n ≤ 1099511627776) : Calls Try.prog 38 #[v, .int .i64 k] w fun e w' => e = .returned (.int .i64 ((k + 3 * n : Nat) : Int)) ∧ Below w.heap.size w w' := by
  obtain ⟨p, cap, rfl, hm, _, hp⟩ := h.open
  rw [skipMs_len] at h ⊢
  have H := Lib.hid h
  have hlI : (n : Int) ≤ 1099511627776 := by omega
  have HL := Lib.hid hl
  clear h hm hl
  go_enter Try.func38, Try.ntmps38
  go_wp2
  go_loopw [1, 5] (fun q i wr => ∃ j : Nat, j ≤ n ∧ i = .int .i64 j ∧ q = .int .i64 ((k + 3 * j : Nat) : Int) ∧ Below w.heap.size w wr) (fun _ i _ => n - (intOf i).toNat)
  case atStart => exact ⟨0, Nat.zero_le _, rfl, rfl, Below.refl _ _⟩
  case round =>
    obtain ⟨j, hj, rfl, rfl, hB⟩ := hrel
    by_cases hlt : j < n
    · have hjl : j < (skipMs k n).length := by rw [skipMs_len]; exact hlt
      have hne : skipMs k n ≠ [] := by intro c; rw [c] at hjl; simp at hjl
      obtain ⟨g, rfl, _, hg⟩ := hp.resolve_left (fun c => hne c.1)
      have j0 : (0 : Int) ≤ (j : Int) := by omega
      have j1 : (j : Int) < (n : Int) := by omega
      have hR := H.out.below hB
      have hx := skipMs_at k n j hjl
      have HM1 : Hid (((k + 3 * (j + 1) : Nat) : Int) = ((k + 3 * j : Nat) : Int) + 3) := by show _ = _; omega
      have hmb : k + 3 * j ≤ 1099511627776 := by have := HL.out; omega
      generalize k + 3 * j = m at *
      have hmI : (m : Int) ≤ 1099511627776 := by omega
      have hm0 : (0 : Int) ≤ (m : Int) := by omega
      have c0 : wr.cell? ⟨g, j * 3, none⟩ = some (.string (markB m)) := hR.at skipC_len hjl hx 0 (by omega) rfl
      have M0 := Lib.hid (fun w => markText_any (m) w (by omega))
      have c1 : wr.cell? ⟨g, j * 3 + 1, none⟩ = some (.int .i64 ((m + 1 : Nat) : Int)) := hR.at skipC_len hjl hx 1 (by omega) rfl
      have c2 : wr.cell? ⟨g, j * 3 + 2, none⟩ = some (.string (markB (m + 2))) := hR.at skipC_len hjl hx 2 (by omega) rfl
      have M2 := Lib.hid (fun w => markText_any (m + 2) w (by omega))
      generalize (markB m) = s0 at *
      generalize (markB (m + 2)) = s2 at *
      clear hmb hx hR hjl hne hg hp
      go_wp2_with fail
      go_region_held3 (fun w' => w'.cell? ⟨g, j * 3, none⟩ = some (.string s0) ∧ w'.cell? ⟨g, j * 3 + 1, none⟩ = some (.int .i64 ((m + 1 : Nat) : Int)) ∧ w'.cell? ⟨g, j * 3 + 2, none⟩ = some (.string s2)) (exact ⟨c0, c1, c2⟩) ((go_at_call 66; refine (M0.out _).mono ?_; rintro e wq ⟨rfl, hbq⟩; have hB := below_nx hbq (by first | exact hB | exact hB.drew) (by exact hB.size); have c0 := (hbq.cell (p := ⟨g, j * 3, none⟩) (World.block_lt_of_cell? _ _ c0)).trans c0; have c1 := (hbq.cell (p := ⟨g, j * 3 + 1, none⟩) (World.block_lt_of_cell? _ _ c1)).trans c1; have c2 := (hbq.cell (p := ⟨g, j * 3 + 2, none⟩) (World.block_lt_of_cell? _ _ c2)).trans c2))
      all_goals
        go_wp2_with fail
        go_region_held3 (fun w' => w'.cell? ⟨g, j * 3, none⟩ = some (.string s0) ∧ w'.cell? ⟨g, j * 3 + 1, none⟩ = some (.int .i64 ((m + 1 : Nat) : Int)) ∧ w'.cell? ⟨g, j * 3 + 2, none⟩ = some (.string s2)) (exact ⟨c0, c1, c2⟩) ((go_at_call 66; refine (M2.out _).mono ?_; rintro e wq ⟨rfl, hbq⟩; have hB := below_nx hbq (by first | exact hB | exact hB.drew) (by exact hB.size); have c0 := (hbq.cell (p := ⟨g, j * 3, none⟩) (World.block_lt_of_cell? _ _ c0)).trans c0; have c1 := (hbq.cell (p := ⟨g, j * 3 + 1, none⟩) (World.block_lt_of_cell? _ _ c1)).trans c1; have c2 := (hbq.cell (p := ⟨g, j * 3 + 2, none⟩) (World.block_lt_of_cell? _ _ c2)).trans c2))
        all_goals
          go_wp2
          go_roundw
          case rel => exact ⟨j + 1, by omega, by go_num, by rw [HM1.out]; go_num, by first | exact hB | exact hB.drew⟩
          case measure => simp [intOf]; omega
    · obtain rfl : j = n := by omega
      go_wp2
      go_ret
      exact ⟨rfl, hB⟩

end Go.Proofs.Ytkglgficmealnaa

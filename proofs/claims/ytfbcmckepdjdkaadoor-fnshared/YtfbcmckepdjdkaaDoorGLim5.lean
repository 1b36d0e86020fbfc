/- The contract of the specification's l3Full. -/
import Derived.Test.YtfbcmckepdjdkaaDoorGLim1
import Derived.Test.YtfbcmckepdjdkaaDoorGM0
namespace Go.Proofs.YtfbcmckepdjdkaaDoor
open Go.RowKit Go.My Go.Lib
set_option linter.unusedVariables false

theorem qF_bd (g : Nat → Int) (h : Low g) (i : Nat) (hi : i ≤ 10) : -20 ≤ qF g i ∧ qF g i ≤ 20 := by
  induction i with
  | zero => have := h.2 9 (by omega) (by omega); rw [show kh 9 = 16777216 from rfl] at this; unfold qF; omega
  | succ i ih =>
    have hq := ih (by omega)
    have hg : -33554532 ≤ g i ∧ g i ≤ 33554532 := by
      by_cases c : i = 0
      · subst c; exact h.1
      · have := h.2 i (by omega) (by omega); have := kh_le i; omega
    show -20 ≤ (g i + qF g i) / kw i ∧ (g i + qF g i) / kw i ≤ 20
    rcases kw_cases i with ⟨_, e, _⟩ | ⟨_, e, _⟩ <;> rw [e] <;> omega
theorem off_bd (g : Nat → Int) (h : Low g) (i : Nat) (hi : i < 10) : -33555000 ≤ offQ g i ∧ offQ g i ≤ 33555000 := by
  have hq := qF_bd g h 10 (by omega)
  unfold offQ
  by_cases c : i = 0
  · rw [if_pos c]; have := h.1; omega
  · rw [if_neg c]; have := h.2 i (by omega) hi; have := kh_le i; omega
theorem fC_bd (o : Nat → Int) (h : ∀ i, i < 10 → -33555000 ≤ o i ∧ o i ≤ 33555000) (i : Nat) (hi : i ≤ 10) : -20 ≤ fC o i ∧ fC o i ≤ 20 := by
  induction i with
  | zero => unfold fC; omega
  | succ i ih =>
    have hq := ih (by omega)
    have hg := h i (by omega)
    show -20 ≤ (o i + fC o i) / kw i ∧ (o i + fC o i) / kw i ≤ 20
    rcases kw_cases i with ⟨_, e, _⟩ | ⟨_, e, _⟩ <;> rw [e] <;> omega
/-- The row when i limbs are at their least. -/
def fS (o : Nat → Int) (i q : Nat) : Int := if q < i then fD o q else if q = i then o i + fC o i else o q
theorem fS_at (o : Nat → Int) (i : Nat) : fS o i i = o i + fC o i := by unfold fS; rw [if_neg (by omega), if_pos rfl]
theorem fS_done (o : Nat → Int) (i : Nat) : fS o (i + 1) i = fD o i := by unfold fS; rw [if_pos (by omega)]
theorem fS_high (o : Nat → Int) (i q : Nat) (h : i < q) : fS o i q = o q := by unfold fS; rw [if_neg (by omega), if_neg (by omega)]
theorem fS_keep (o : Nat → Int) (i q : Nat) (a : q ≠ i) (b : q ≠ i + 1) : fS o (i + 1) q = fS o i q := by
  unfold fS
  by_cases h : q < i
  · rw [if_pos h, if_pos (by omega)]
  · rw [if_neg h, if_neg (by omega), if_neg b, if_neg a]
theorem fS_zero (o : Nat → Int) : fS o 0 = o := by
  funext q
  unfold fS
  rw [if_neg (by omega)]
  split
  · rename_i h; subst h; show o 0 + 0 = o 0; omega
  · rfl
theorem fS_all (o : Nat → Int) : rwA .i64 10 (fS o 10) = rwA .i64 10 (fD o) := rwA_congr _ _ (fun q hq => if_pos hq)

set_option maxRecDepth 100000 in
set_option maxHeartbeats 4000000 in
theorem full_any (h : Nat → Int) (w : World) (hM : ∀ q, q < 10 → -7205759403792793600 ≤ h q ∧ h q ≤ 7205759403792793600) :
    Calls Tryd.prog 169 #[.agg (rwA .i64 10 h)] w fun e w' => e = .returned (.agg (rwA .i64 10 (fullL (crR h 20)))) ∧ Below w.heap.size w w' := by
  have HLOW := Lib.hid (carried h hM)
  have HCA := Lib.hid (fun wx => carry_any h wx hM)
  clear hM
  go_enter Tryd.func169, Tryd.ntmps169
  go_wp2_with (first
    | with_reducible refine wpList_load_row (o := ⟨some 7, _, _, _, _, _⟩) rfl 134 _ rfl w.heap.size rfl 134 (rwA .i64 10 h) (0, 0) (.array 10 2) (heap_alloc2_old w _ _) Tryd.underlying134 rfl (l10sz _) ?_
    | fail)
  refine (HCA.out _).mono ?_
  rintro e w1 ⟨rfl, hb1⟩
  have hr1 : w1.heap[w.heap.size]? = some (.cells (rwA .i64 10 h) 134 (0, 0)) := (hb1.block _ (by simp; omega)).trans (heap_alloc2_old w _ _)
  have hz1 : w1.heap[w.heap.size + 1]? = some (.cells Z10 134 (0, 0)) := (hb1.block _ (by simp)).trans (heap_alloc2_new w _ _)
  have hbb1 : Below w.heap.size w w1 := (((Below.refl _ _).alloc (Nat.le_refl _) _).alloc (by simp) _).trans (hb1.mono (by simp; omega))
  have hl1 : w.heap.size + 1 < w1.heap.size := (Array.getElem?_eq_some_iff.1 hz1).1
  have HL1 := Lib.hid hl1
  clear hb1 HCA hl1
  generalize hgg : crR h 20 = g at *
  have HGG := Lib.hid hgg
  clear hgg
  have b9 := HLOW.out.2 9 (by omega) (by omega)
  rw [show kh 9 = 16777216 from rfl] at b9
  have wq1 : IntKind.i64.wrap (19 * g 9) = 19 * g 9 := IntWalk.i64_in _ (by omega)
  have wq2 : IntKind.i64.wrap (19 * g 9 + 16777216) = 19 * g 9 + 16777216 := IntWalk.i64_in _ (by omega)
  have hq0 : (19 * g 9 + 16777216) / 33554432 = qF g 0 := rfl
  go_wp2_with (first
    | ((with_reducible refine wpList_store_row' (o := ⟨none, .store 134 _ _, _, _, _, _⟩) rfl 134 _ _ rfl w.heap.size (rwA .i64 10 g) rfl rfl 134 (rwA .i64 10 h) hr1 (l10sz _) (l10same _ _) (l10one _) ?_); intro w2 hw2 hs2 hg2; have c9 := (cell_of_row w2 w.heap.size 9 _ _ _ hw2).trans (rwA_get .i64 10 _ 9 (by omega)))
    | fail)
  have hz2 : w2.heap[w.heap.size + 1]? = some (.cells Z10 134 (0, 0)) := (hg2.block _ HL1.out (by simp)).trans hz1
  have hb2 : Below w.heap.size w w2 := hbb1.grown hg2 hbb1.size (by intro k hk; have := Option.some.inj hk; omega)
  clear hr1 hz1 hbb1 hs2 hg2 c9 wq1 wq2 hq0 b9 HL1
  go_loopw [3, 4] (fun q x wr => ∃ i : Nat, i ≤ 10 ∧ x = .int .i64 i ∧ q = .int .i64 (qF g i) ∧ wr.heap[w.heap.size]? = some (.cells (rwA .i64 10 g) 134 (0, 0)) ∧ wr.heap[w.heap.size + 1]? = some (.cells Z10 134 (0, 0)) ∧ Below w.heap.size w wr)
    (fun _ x _ => 10 - (intOf x).toNat)
  case atStart => exact ⟨0, by omega, rfl, rfl, hw2, hz2, hb2⟩
  case round =>
    clear hw2 hz2 hb2
    obtain ⟨i, hi, rfl, rfl, hw, hz, hb⟩ := hrel
    by_cases hlt : i < 10
    · have c0 := (cell_of_row wr w.heap.size i _ _ _ hw).trans (rwA_get .i64 10 _ i hlt)
      have hqb := qF_bd g HLOW.out i hi
      have hgb := HLOW.out.mid i hlt
      have i0 : (0 : Int) ≤ (i : Int) := by omega
      have i1 : (i : Int) < 10 := by omega
      have w1' : IntKind.i64.wrap (g i + qF g i) = g i + qF g i := IntWalk.i64_in _ (by omega)
      by_cases hpar : i % 2 = 0
      case pos =>
        have HBT := Lib.hid (fun wx => bits_even i wx hlt (by omega))
        have hkw : kw i = 67108864 := by unfold kw; rw [if_pos hpar]
        have hq : (g i + qF g i) / 67108864 = qF g (i + 1) := by show _ = (g i + qF g i) / kw i; rw [hkw]
        clear hkw
        generalize qF g i = Q at *
        generalize hQN : qF g (i + 1) = QN at *
        have HQN := Lib.hid hQN
        clear hQN
        go_wp2_with fail
        go_quiet ((go_at_call 170; exact Calls.quiet_of_same (HBT.out _)))
        go_wp2
        go_roundw
        case rel => exact ⟨i + 1, by omega, by go_num, by rw [HQN.out], hw, hz, ⟨hb.os, hb.tape, hb.output, hb.size, hb.block⟩⟩
        case measure => first | (simp [intOf]; omega) | simp [intOf]
      case neg =>
        have HBT := Lib.hid (fun wx => bits_odd i wx hlt (by omega))
        have hkw : kw i = 33554432 := by unfold kw; rw [if_neg (by omega)]
        have hq : (g i + qF g i) / 33554432 = qF g (i + 1) := by show _ = (g i + qF g i) / kw i; rw [hkw]
        clear hkw
        generalize qF g i = Q at *
        generalize hQN : qF g (i + 1) = QN at *
        have HQN := Lib.hid hQN
        clear hQN
        go_wp2_with fail
        go_quiet ((go_at_call 170; exact Calls.quiet_of_same (HBT.out _)))
        go_wp2
        go_roundw
        case rel => exact ⟨i + 1, by omega, by go_num, by rw [HQN.out], hw, hz, ⟨hb.os, hb.tape, hb.output, hb.size, hb.block⟩⟩
        case measure => first | (simp [intOf]; omega) | simp [intOf]
    · have hie : i = 10 := by omega
      have hpi : (10 : Int) ≤ (i : Int) := by omega
      have hqe : qF g i = qF g 10 := by rw [hie]
      rw [hqe]
      have HOB := Lib.hid (off_bd g HLOW.out)
      have HFB := Lib.hid (fC_bd (offQ g) HOB.out)
      have hqb := qF_bd g HLOW.out 10 (by omega)
      have hg0 := HLOW.out.1
      have ww1 : IntKind.i64.wrap (19 * qF g 10) = 19 * qF g 10 := IntWalk.i64_in _ (by omega)
      have ww2 : IntKind.i64.wrap (g 0 + 19 * qF g 10) = g 0 + 19 * qF g 10 := IntWalk.i64_in _ (by omega)
      have c0 := (cell_of_row wr w.heap.size 0 _ _ _ hw).trans (rwA_get .i64 10 _ 0 (by omega))
      have f0 := frozen_of_row wr w.heap.size 0 _ _ hw
      have hst := heap_setCell_same wr w.heap.size 0 _ _ (.int .i64 (g 0 + 19 * qF g 10)) hw
      rw [rwA_set .i64 10 g (offQ g) 0 (by omega) (g 0 + 19 * qF g 10) rfl (fun q _ hq => if_neg hq)] at hst
      have hz' : (wr.setCell ⟨w.heap.size, 0, none⟩ (.int .i64 (g 0 + 19 * qF g 10))).heap[w.heap.size + 1]? = _ := (heap_setCell_other wr _ _ _ (by simp)).trans hz
      have hb' := hb.setCell (p := ⟨w.heap.size, 0, none⟩) (Nat.le_refl _) (.int .i64 (g 0 + 19 * qF g 10))
      clear hie hqe hlt hi hw hz hb
      have HFL : Hid (fullL g = fD (offQ g)) := rfl
      generalize offQ g = o at *
      generalize qF g 10 = Q at *
      go_wp2
      generalize wr.setCell ⟨w.heap.size, 0, none⟩ (.int .i64 (g 0 + 19 * Q)) = w5 at *
      clear c0 f0 ww1 ww2 hg0 hqb
      go_loopw [5] (fun x wr => ∃ i : Nat, i ≤ 10 ∧ x = .int .i64 i ∧ wr.heap[w.heap.size]? = some (.cells (rwA .i64 10 (fS o i)) 134 (0, 0)) ∧ wr.heap[w.heap.size + 1]? = some (.cells Z10 134 (0, 0)) ∧ Below w.heap.size w wr)
        (fun x _ => 10 - (intOf x).toNat)
      case atStart => exact ⟨0, by omega, rfl, by rw [fS_zero]; exact hst, hz', hb'⟩
      case round =>
        clear hst hz' hb' hpi
        obtain ⟨i, hi, rfl, hw, hz, hb⟩ := hrel
        by_cases hlt : i < 10
        · have i0 : (0 : Int) ≤ (i : Int) := by omega
          have i1 : (i : Int) < 10 := by omega
          by_cases hpar : i % 2 = 0
          case pos =>
            have HBT := Lib.hid (fun wx => bits_even i wx (by omega) (by omega))
            have hkw : kw i = 67108864 := by unfold kw; rw [if_pos hpar]
            have hq : (o i + fC o i) / 67108864 = fC o (i + 1) := by show _ = (o i + fC o i) / kw i; rw [hkw]
            have bv := HOB.out i (by omega)
            have bf := HFB.out i (by omega)
            have bf1 := HFB.out (i + 1) (by omega)
            have w2 : IntKind.i64.wrap (fC o (i + 1) * 67108864) = fC o (i + 1) * 67108864 := IntWalk.i64_in _ (by omega)
            have w3 : IntKind.i64.wrap (o i + fC o i - fC o (i + 1) * 67108864) = o i + fC o i - fC o (i + 1) * 67108864 := IntWalk.i64_in _ (by omega)
            have HAT : Hid (fS o (i + 1) i = o i + fC o i - fC o (i + 1) * 67108864) := by show _ = _; rw [fS_done, fD, hkw]
            have HNT : Hid (fS o (i + 1) (i + 1) = o (i + 1) + fC o (i + 1)) := fS_at o (i + 1)
            have bn := HOB.out (i + 1) (by omega)
            have w5 : IntKind.i64.wrap (o (i + 1) + fC o (i + 1)) = o (i + 1) + fC o (i + 1) := IntWalk.i64_in _ (by omega)
            have i9 : (i : Int) < 9 := by omega
            have ne1 : ¬ i = i + 1 := by omega
            have ne2 : ¬ i + 1 = i := by omega
            have s0 : (0 : Int) ≤ (i : Int) + 1 := by omega
            have s1 : (i : Int) + 1 < 10 := by omega
            have st : ((i : Int) + 1).toNat = i + 1 := by omega
            have sw : IntKind.i64.wrap ((i : Int) + 1) = (i : Int) + 1 := IntWalk.i64_in _ (by omega)
            clear hkw
            have c0 := (cell_of_row wr w.heap.size i _ _ _ hw).trans (rwA_get .i64 10 _ i (by omega))
            rw [fS_at] at c0
            go_wp2_with fail
            go_quiet ((go_at_call 170; exact Calls.quiet_of_same (HBT.out _)))
            have hw2 : (wr.drewN nq).heap[w.heap.size]? = some (.cells (rwA .i64 10 (fS o i)) 134 (0, 0)) := hw
            have hz2 : (wr.drewN nq).heap[w.heap.size + 1]? = some (.cells Z10 134 (0, 0)) := hz
            have hb2 : Below w.heap.size w (wr.drewN nq) := ⟨hb.os, hb.tape, hb.output, hb.size, hb.block⟩
            clear hw hz hb c0
            generalize wr.drewN nq = wd at *
            have c0 := (cell_of_row wd w.heap.size i _ _ _ hw2).trans (rwA_get .i64 10 _ i (by omega))
            rw [fS_at] at c0
            have f0 := frozen_of_row wd w.heap.size i _ _ hw2
            have c1 := (cell_of_row wd w.heap.size (i + 1) _ _ _ hw2).trans (rwA_get .i64 10 _ (i + 1) (by omega))
            rw [fS_high o i (i + 1) (by omega)] at c1
            have f1 := frozen_of_row wd w.heap.size (i + 1) _ _ hw2
            have hrow := two_row (g' := fS o (i + 1)) hw2 (i := i) (j := i + 1) (by omega) (by omega) (by omega) HAT.out HNT.out (fun q a b => fS_keep o i q a b)
            have hzz : (((wd.setCell ⟨w.heap.size, i, none⟩ (.int .i64 (o i + fC o i - fC o (i + 1) * 67108864))).drew).setCell ⟨w.heap.size, i + 1, none⟩ (.int .i64 (o (i + 1) + fC o (i + 1)))).heap[w.heap.size + 1]? = some (.cells Z10 134 (0, 0)) := (heap_setCell_other _ _ _ _ (by simp)).trans ((heap_setCell_other wd _ _ _ (by simp)).trans hz2)
            have hbb := ((hb2.setCell (p := ⟨w.heap.size, i, none⟩) (Nat.le_refl _) (.int .i64 (o i + fC o i - fC o (i + 1) * 67108864))).drew).setCell (p := ⟨w.heap.size, i + 1, none⟩) (Nat.le_refl _) (.int .i64 (o (i + 1) + fC o (i + 1)))
            have HR := Lib.hid (And.intro hrow (And.intro hzz hbb))
            clear hrow hzz hbb hw2 hz2 hb2 HAT HOB HFB HNT
            go_wp2_with fail
            go_still_tail 10, (by kernel_rfl)
            still_call (HBT.out _)
            repeat still_step
            refine wpStill_nil ?_
            go_wp2
            go_roundw
            case rel => exact ⟨i + 1, by omega, by go_num, HR.out.1, HR.out.2.1, HR.out.2.2⟩
            case measure => first | (simp [intOf]; omega) | simp [intOf]
          case neg =>
            by_cases h9 : i < 9
            case pos =>
              have HBT := Lib.hid (fun wx => bits_odd i wx (by omega) (by omega))
              have hkw : kw i = 33554432 := by unfold kw; rw [if_neg (by omega)]
              have hq : (o i + fC o i) / 33554432 = fC o (i + 1) := by show _ = (o i + fC o i) / kw i; rw [hkw]
              have bv := HOB.out i (by omega)
              have bf := HFB.out i (by omega)
              have bf1 := HFB.out (i + 1) (by omega)
              have w2 : IntKind.i64.wrap (fC o (i + 1) * 33554432) = fC o (i + 1) * 33554432 := IntWalk.i64_in _ (by omega)
              have w3 : IntKind.i64.wrap (o i + fC o i - fC o (i + 1) * 33554432) = o i + fC o i - fC o (i + 1) * 33554432 := IntWalk.i64_in _ (by omega)
              have HAT : Hid (fS o (i + 1) i = o i + fC o i - fC o (i + 1) * 33554432) := by show _ = _; rw [fS_done, fD, hkw]
              have HNT : Hid (fS o (i + 1) (i + 1) = o (i + 1) + fC o (i + 1)) := fS_at o (i + 1)
              have bn := HOB.out (i + 1) (by omega)
              have w5 : IntKind.i64.wrap (o (i + 1) + fC o (i + 1)) = o (i + 1) + fC o (i + 1) := IntWalk.i64_in _ (by omega)
              have i9 : (i : Int) < 9 := by omega
              have ne1 : ¬ i = i + 1 := by omega
              have ne2 : ¬ i + 1 = i := by omega
              have s0 : (0 : Int) ≤ (i : Int) + 1 := by omega
              have s1 : (i : Int) + 1 < 10 := by omega
              have st : ((i : Int) + 1).toNat = i + 1 := by omega
              have sw : IntKind.i64.wrap ((i : Int) + 1) = (i : Int) + 1 := IntWalk.i64_in _ (by omega)
              clear hkw
              have c0 := (cell_of_row wr w.heap.size i _ _ _ hw).trans (rwA_get .i64 10 _ i (by omega))
              rw [fS_at] at c0
              go_wp2_with fail
              go_quiet ((go_at_call 170; exact Calls.quiet_of_same (HBT.out _)))
              have hw2 : (wr.drewN nq).heap[w.heap.size]? = some (.cells (rwA .i64 10 (fS o i)) 134 (0, 0)) := hw
              have hz2 : (wr.drewN nq).heap[w.heap.size + 1]? = some (.cells Z10 134 (0, 0)) := hz
              have hb2 : Below w.heap.size w (wr.drewN nq) := ⟨hb.os, hb.tape, hb.output, hb.size, hb.block⟩
              clear hw hz hb c0
              generalize wr.drewN nq = wd at *
              have c0 := (cell_of_row wd w.heap.size i _ _ _ hw2).trans (rwA_get .i64 10 _ i (by omega))
              rw [fS_at] at c0
              have f0 := frozen_of_row wd w.heap.size i _ _ hw2
              have c1 := (cell_of_row wd w.heap.size (i + 1) _ _ _ hw2).trans (rwA_get .i64 10 _ (i + 1) (by omega))
              rw [fS_high o i (i + 1) (by omega)] at c1
              have f1 := frozen_of_row wd w.heap.size (i + 1) _ _ hw2
              have hrow := two_row (g' := fS o (i + 1)) hw2 (i := i) (j := i + 1) (by omega) (by omega) (by omega) HAT.out HNT.out (fun q a b => fS_keep o i q a b)
              have hzz : (((wd.setCell ⟨w.heap.size, i, none⟩ (.int .i64 (o i + fC o i - fC o (i + 1) * 33554432))).drew).setCell ⟨w.heap.size, i + 1, none⟩ (.int .i64 (o (i + 1) + fC o (i + 1)))).heap[w.heap.size + 1]? = some (.cells Z10 134 (0, 0)) := (heap_setCell_other _ _ _ _ (by simp)).trans ((heap_setCell_other wd _ _ _ (by simp)).trans hz2)
              have hbb := ((hb2.setCell (p := ⟨w.heap.size, i, none⟩) (Nat.le_refl _) (.int .i64 (o i + fC o i - fC o (i + 1) * 33554432))).drew).setCell (p := ⟨w.heap.size, i + 1, none⟩) (Nat.le_refl _) (.int .i64 (o (i + 1) + fC o (i + 1)))
              have HR := Lib.hid (And.intro hrow (And.intro hzz hbb))
              clear hrow hzz hbb hw2 hz2 hb2 HAT HOB HFB HNT
              go_wp2_with fail
              go_still_tail 10, (by kernel_rfl)
              still_call (HBT.out _)
              repeat still_step
              refine wpStill_nil ?_
              go_wp2
              go_roundw
              case rel => exact ⟨i + 1, by omega, by go_num, HR.out.1, HR.out.2.1, HR.out.2.2⟩
              case measure => first | (simp [intOf]; omega) | simp [intOf]
            case neg =>
              have hie : i = 9 := by omega
              subst hie
              have HBT := Lib.hid (fun wx => bits_odd 9 wx (by omega) (by omega))
              have hkw : kw 9 = 33554432 := by rfl
              have hq : (o 9 + fC o 9) / 33554432 = fC o (9 + 1) := by show _ = (o 9 + fC o 9) / kw 9; rw [hkw]
              have bv := HOB.out 9 (by omega)
              have bf := HFB.out 9 (by omega)
              have bf1 := HFB.out (9 + 1) (by omega)
              have w2 : IntKind.i64.wrap (fC o (9 + 1) * 33554432) = fC o (9 + 1) * 33554432 := IntWalk.i64_in _ (by omega)
              have w3 : IntKind.i64.wrap (o 9 + fC o 9 - fC o (9 + 1) * 33554432) = o 9 + fC o 9 - fC o (9 + 1) * 33554432 := IntWalk.i64_in _ (by omega)
              have HAT : Hid (fS o (9 + 1) 9 = o 9 + fC o 9 - fC o (9 + 1) * 33554432) := by show _ = _; rw [fS_done, fD, hkw]
              clear hkw
              have c0 := (cell_of_row wr w.heap.size 9 _ _ _ hw).trans (rwA_get .i64 10 _ 9 (by omega))
              rw [fS_at] at c0
              go_wp2_with fail
              go_quiet ((go_at_call 170; exact Calls.quiet_of_same (HBT.out _)))
              have hw2 : (wr.drewN nq).heap[w.heap.size]? = some (.cells (rwA .i64 10 (fS o 9)) 134 (0, 0)) := hw
              have hz2 : (wr.drewN nq).heap[w.heap.size + 1]? = some (.cells Z10 134 (0, 0)) := hz
              have hb2 : Below w.heap.size w (wr.drewN nq) := ⟨hb.os, hb.tape, hb.output, hb.size, hb.block⟩
              clear hw hz hb c0
              generalize wr.drewN nq = wd at *
              have c0 := (cell_of_row wd w.heap.size 9 _ _ _ hw2).trans (rwA_get .i64 10 _ 9 (by omega))
              rw [fS_at] at c0
              have f0 := frozen_of_row wd w.heap.size 9 _ _ hw2
              have hrow : ((wd.setCell ⟨w.heap.size, 9, none⟩ (.int .i64 (o 9 + fC o 9 - fC o (9 + 1) * 33554432))).drew).heap[w.heap.size]? = some (.cells (rwA .i64 10 (fS o 10)) 134 (0, 0)) := by
                have e := heap_setCell_same wd w.heap.size 9 _ _ (.int .i64 (o 9 + fC o 9 - fC o (9 + 1) * 33554432)) hw2
                rw [rwA_set .i64 10 (fS o 9) (fS o 10) 9 (by omega) _ HAT.out (fun q h a => fS_keep o 9 q a (by omega))] at e
                exact e
              have hzz : ((wd.setCell ⟨w.heap.size, 9, none⟩ (.int .i64 (o 9 + fC o 9 - fC o (9 + 1) * 33554432))).drew).heap[w.heap.size + 1]? = some (.cells Z10 134 (0, 0)) := (heap_setCell_other wd _ _ _ (by simp)).trans hz2
              have hbb := (hb2.setCell (p := ⟨w.heap.size, 9, none⟩) (Nat.le_refl _) (.int .i64 (o 9 + fC o 9 - fC o (9 + 1) * 33554432))).drew
              have HR := Lib.hid (And.intro hrow (And.intro hzz hbb))
              clear hrow hzz hbb hw2 hz2 hb2 HAT HOB HFB
              go_wp2_with fail
              go_still_tail 10, (by kernel_rfl)
              still_call (HBT.out _)
              repeat still_step
              refine wpStill_nil ?_
              go_wp2
              go_roundw
              case rel => exact ⟨9 + 1, by omega, by go_num, HR.out.1, HR.out.2.1, HR.out.2.2⟩
              case measure => first | (simp [intOf]; omega) | simp [intOf]
        · have hie : i = 10 := by omega
          have hpi : (10 : Int) ≤ (i : Int) := by omega
          rw [hie, fS_all, ← HFL.out] at hw
          clear hlt hi hie
          generalize hG : fullL g = G at *
          have HG := Lib.hid hG
          clear hG
          go_wp2_with (first
            | with_reducible refine wpList_load_row (o := ⟨some 63, _, _, _, _, _⟩) rfl 134 _ rfl w.heap.size rfl 134 (rwA .i64 10 G) (0, 0) (.array 10 2) hw Tryd.underlying134 rfl (l10sz _) ?_
            | with_reducible (refine wpList_store_row (o := ⟨none, .store 134 _ _, _, _, _, _⟩) rfl 134 _ _ rfl (w.heap.size + 1) (rwA .i64 10 G) rfl rfl 134 Z10 hz (l10sz _) (z10sz _) (l10one _) ?_))
          have hrow := setRow_heap wr (w.heap.size + 1) Z10 (rwA .i64 10 G) 134 (0, 0) hz
          refine bodyPost_ret (v := .agg (rwA .i64 10 G)) ?_ rfl ⟨by rw [HGG.out, HG.out], ?_⟩
          · exact results_cell_row Tryd.results169 _ _ (w.heap.size + 1) 134 _ (0, 0) _ rfl hrow Tryd.underlying134 rfl (l10sz _)
          · exact hb.trans ⟨rfl, rfl, rfl, by simp, fun k hk => setRow_other wr (w.heap.size + 1) k _ (by omega)⟩

end Go.Proofs.YtfbcmckepdjdkaaDoor

/- The contracts of the specification's l3Bits and l3Carry. -/
import Derived.Test.YtfbcmckepdjdkaaDoorRows
import Derived.Test.YtfbcmckepdjdkaaDoorGM0
import Derived.WalkKit
import Derived.ProofKit
import Derived.Lib.Hide
import Derived.Deep.QuietTactic
import Derived.BigQuiet
import Derived.Deep.MidRow
import Derived.Deep.RegionHeld3
import Derived.Deep.AppendLies
import Derived.StillTailTactics
import Derived.WalkSpells
import Derived.WalkLawsBesides
namespace Go.Proofs.YtfbcmckepdjdkaaDoor
open Go.RowKit Go.My Go.Lib
set_option linter.unusedVariables false

theorem size_l10 : (Tryd.prog.info? 134).map (·.size) = some 10 := by kernel_rfl
theorem l10sz (f : Nat → Int) : (Tryd.prog.info? 134).map (·.size) = some (rwA .i64 10 f).size := by rw [rwA_size]; exact size_l10
theorem l10one (f : Nat → Int) : (rwA .i64 10 f).all (·.oneCell') = true := rwA_one _ _ _
theorem l10same (f g : Nat → Int) : (rwA .i64 10 f).size = (rwA .i64 10 g).size := by rw [rwA_size, rwA_size]
abbrev Z10 : Array Value := #[Value.int .i64 0, Value.int .i64 0, Value.int .i64 0, Value.int .i64 0, Value.int .i64 0, Value.int .i64 0, Value.int .i64 0, Value.int .i64 0, Value.int .i64 0, Value.int .i64 0]
theorem Z10_eq : Z10 = rwA .i64 10 (fun _ => 0) := rfl
theorem z10sz (f : Nat → Int) : Z10.size = (rwA .i64 10 f).size := by rw [rwA_size]; rfl

theorem bits_even (i : Nat) (w : World) (hi : i < 10) (h : i % 2 = 0) :
    Calls Tryd.prog 170 #[.int .i64 i] w fun e w' => e = .returned (.int .u64 26) ∧ w' = w := by
  have i0 : (0 : Int) ≤ (i : Int) := by omega
  have i1 : (i : Int) < 10 := by omega
  have im : (i : Int) % 2 = 0 := by omega
  go_enter Tryd.func170, Tryd.ntmps170
  go_wp2
  go_ret
  exact ⟨rfl, rfl⟩
theorem bits_odd (i : Nat) (w : World) (hi : i < 10) (h : i % 2 = 1) :
    Calls Tryd.prog 170 #[.int .i64 i] w fun e w' => e = .returned (.int .u64 25) ∧ w' = w := by
  have i0 : (0 : Int) ≤ (i : Int) := by omega
  have i1 : (i : Int) < 10 := by omega
  have im : (i : Int) % 2 = 1 := by omega
  go_enter Tryd.func170, Tryd.ntmps170
  go_wp2
  go_ret
  exact ⟨rfl, rfl⟩

theorem two_set (g g' : Nat → Int) (i j : Nat) (x y : Int) (hi : i < 10) (hj : j < 10) (hij : i ≠ j) (h1 : g' i = x) (h2 : g' j = y) (h3 : ∀ q, q ≠ i → q ≠ j → g' q = g q) :
    ((rwA .i64 10 g).setIfInBounds i (.int .i64 x)).setIfInBounds j (.int .i64 y) = rwA .i64 10 g' := by
  rw [rwA_set .i64 10 g (fun q => if q = i then x else g q) i hi x (if_pos rfl) (fun q _ hq => if_neg hq)]
  exact rwA_set .i64 10 _ g' j hj y h2 (fun q _ hq => by
    show g' q = if q = i then x else g q
    by_cases c : q = i
    · rw [if_pos c, c, h1]
    · rw [if_neg c, h3 q c hq])
theorem two_row {w : World} {b : Nat} {g g' : Nat → Int} {i j : Nat} {x y : Int} (h : w.heap[b]? = some (.cells (rwA .i64 10 g) 134 (0, 0))) (hi : i < 10) (hj : j < 10) (hij : i ≠ j) (h1 : g' i = x) (h2 : g' j = y) (h3 : ∀ q, q ≠ i → q ≠ j → g' q = g q) :
    (((w.setCell ⟨b, i, none⟩ (.int .i64 x)).drew).setCell ⟨b, j, none⟩ (.int .i64 y)).heap[b]? = some (.cells (rwA .i64 10 g') 134 (0, 0)) := by
  have e1 : ((w.setCell ⟨b, i, none⟩ (.int .i64 x)).drew).heap[b]? = _ := heap_setCell_same w b i _ _ (.int .i64 x) h
  have e2 := heap_setCell_same _ b j _ _ (.int .i64 y) e1
  rw [two_set g g' i j x y hi hj hij h1 h2 h3] at e2
  exact e2

set_option maxRecDepth 100000 in
set_option maxHeartbeats 4000000 in
theorem carry_any (h : Nat → Int) (w : World) (hM : ∀ q, q < 10 → -7205759403792793600 ≤ h q ∧ h q ≤ 7205759403792793600) :
    Calls Tryd.prog 191 #[.agg (rwA .i64 10 h)] w fun e w' => e = .returned (.agg (rwA .i64 10 (crR h 20))) ∧ Below w.heap.size w w' := by
  have HBD := Lib.hid (fun n hn => crR_bd h hM n hn)
  clear hM
  go_enter Tryd.func191, Tryd.ntmps191
  go_wp2
  go_loopw [3] (fun x wr => ∃ n : Nat, n ≤ 2 ∧ x = .int .i64 n ∧ wr.heap[w.heap.size]? = some (.cells (rwA .i64 10 (crR h (10 * n))) 134 (0, 0)) ∧ wr.heap[w.heap.size + 1]? = some (.cells Z10 134 (0, 0)) ∧ Below w.heap.size w wr)
    (fun x _ => 2 - (intOf x).toNat)
  case atStart => exact ⟨0, by omega, rfl, heap_alloc2_old w _ _, heap_alloc2_new w _ _, ((Below.refl _ _).alloc (Nat.le_refl _) _).alloc (by simp) _⟩
  case round =>
    obtain ⟨n, hn, rfl, hw, hz, hb⟩ := hrel
    by_cases hnl : n < 2
    · have n0 : (0 : Int) ≤ (n : Int) := by omega
      have n2 : (n : Int) < 2 := by omega
      go_wp2
      obtain ⟨wo, rfl⟩ : ∃ wo : World, wo = wr := ⟨_, rfl⟩
      go_loopw [4] (fun x wr => ∃ i : Nat, i ≤ 10 ∧ x = .int .i64 i ∧ wr.heap[w.heap.size]? = some (.cells (rwA .i64 10 (crR h (10 * n + i))) 134 (0, 0)) ∧ wr.heap[w.heap.size + 1]? = some (.cells Z10 134 (0, 0)) ∧ Below w.heap.size w wr)
        (fun x _ => 10 - (intOf x).toNat)
      case atStart => exact ⟨0, by omega, rfl, hw, hz, hb⟩
      case round =>
        clear hw hz hb
        obtain ⟨i, hi, rfl, hw, hz, hb⟩ := hrel
        by_cases hlt : i < 10
        case neg =>
          have hie : i = 10 := by omega
          subst hie
          have hq : 10 * n + 10 = 10 * (n + 1) := by omega
          rw [hq] at hw
          clear hlt hi hq
          go_wp2
          go_roundw
          case rel => exact ⟨n + 1, by omega, by go_num, hw, hz, hb⟩
          case measure => first | (simp [intOf]; omega) | simp [intOf]
        have hbd := HBD.out (10 * n + i) (by omega)
        rw [show (10 * n + i) % 10 = i by omega] at hbd
        have HNX : Hid (crR h (10 * n + (i + 1)) = crS (crR h (10 * n + i)) i) := by show crS (crR h (10 * n + i)) ((10 * n + i) % 10) = _; rw [show (10 * n + i) % 10 = i by omega]
        generalize crR h (10 * n + i) = g at *
        have bi := hbd.1 i hlt
        have bc := hbd.2
        have c0 := (cell_of_row wr w.heap.size i _ _ _ hw).trans (rwA_get .i64 10 _ i hlt)
        have f0 := frozen_of_row wr w.heap.size i _ _ hw
        have i0 : (0 : Int) ≤ (i : Int) := by omega
        have i1 : (i : Int) < 10 := by omega
        by_cases hpar : i % 2 = 0
        case pos =>
          have hkw : kw i = 67108864 := by unfold kw; rw [if_pos hpar]
          have hkh : kh i = 33554432 := by unfold kh; rw [if_pos hpar]
          have hcr : crC g i = (g i + 33554432) / 67108864 := by unfold crC; rw [hkw, hkh]
          have HBT := Lib.hid (fun wx => bits_even i wx (by omega) (by omega))
          have w1 : IntKind.i64.wrap (g i + 33554432) = g i + 33554432 := IntWalk.i64_in _ (by omega)
          have w2 : IntKind.i64.wrap (crC g i * 67108864) = crC g i * 67108864 := IntWalk.i64_in _ (by rw [hcr]; omega)
          have w3 : IntKind.i64.wrap (g i - crC g i * 67108864) = g i - crC g i * 67108864 := IntWalk.i64_in _ (by rw [hcr]; omega)
          have HAT : Hid (crS g i i = g i - crC g i * 67108864) := by show _ = _; rw [crS_at, hkw]
          have HNT : Hid (crS g i (i + 1) = g (i + 1) + crC g i) := crS_next g i (by omega)
          have HOT : Hid (∀ q, q ≠ i → q ≠ i + 1 → crS g i q = g q) := fun q a b => crS_other g i q a (by omega) (by omega)
          have bj := hbd.1 (i + 1) (by omega)
          have w5 : IntKind.i64.wrap (g (i + 1) + crC g i) = g (i + 1) + crC g i := IntWalk.i64_in _ (by omega)
          have i9 : (i : Int) < 9 := by omega
          have ne1 : ¬ i = i + 1 := by omega
          have ne2 : ¬ i + 1 = i := by omega
          have s0 : (0 : Int) ≤ (i : Int) + 1 := by omega
          have s1 : (i : Int) + 1 < 10 := by omega
          have st : ((i : Int) + 1).toNat = i + 1 := by omega
          have sw : IntKind.i64.wrap ((i : Int) + 1) = (i : Int) + 1 := IntWalk.i64_in _ (by omega)
          clear hkw hkh
          have hq : (g i + 33554432) / 67108864 = crC g i := hcr.symm
          clear hcr hbd
          go_wp2_with fail
          go_quiet ((go_at_call 170; exact Calls.quiet_of_same (HBT.out _)))
          have hw2 : (wr.drewN nq).heap[w.heap.size]? = some (.cells (rwA .i64 10 g) 134 (0, 0)) := hw
          have hz2 : (wr.drewN nq).heap[w.heap.size + 1]? = some (.cells Z10 134 (0, 0)) := hz
          have hb2 : Below w.heap.size w (wr.drewN nq) := ⟨hb.os, hb.tape, hb.output, hb.size, hb.block⟩
          clear hw hz hb c0 f0
          generalize wr.drewN nq = wd at *
          have c0 := (cell_of_row wd w.heap.size i _ _ _ hw2).trans (rwA_get .i64 10 _ i (by omega))
          have f0 := frozen_of_row wd w.heap.size i _ _ hw2
          have c1 := (cell_of_row wd w.heap.size (i + 1) _ _ _ hw2).trans (rwA_get .i64 10 _ (i + 1) (by omega))
          have f1 := frozen_of_row wd w.heap.size (i + 1) _ _ hw2
          have hrow := two_row (g' := crS g i) hw2 (i := i) (j := i + 1) (by omega) (by omega) (by omega) HAT.out HNT.out HOT.out
          have hzz : (((wd.setCell ⟨w.heap.size, i, none⟩ (.int .i64 (g i - crC g i * 67108864))).drew).setCell ⟨w.heap.size, i + 1, none⟩ (.int .i64 (g (i + 1) + crC g i))).heap[w.heap.size + 1]? = some (.cells Z10 134 (0, 0)) := (heap_setCell_other _ _ _ _ (by simp)).trans ((heap_setCell_other wd _ _ _ (by simp)).trans hz2)
          have hbb := ((hb2.setCell (p := ⟨w.heap.size, i, none⟩) (Nat.le_refl _) (.int .i64 (g i - crC g i * 67108864))).drew).setCell (p := ⟨w.heap.size, i + 1, none⟩) (Nat.le_refl _) (.int .i64 (g (i + 1) + crC g i))
          have HR := Lib.hid (And.intro hrow (And.intro hzz hbb))
          clear hrow hzz hbb hw2 hz2 hb2 HAT HNT HOT HBD
          go_wp2_with fail
          go_still_tail 10, (by kernel_rfl)
          still_call (HBT.out _)
          repeat still_step
          refine wpStill_nil ?_
          go_wp2
          go_roundw
          case rel => exact ⟨i + 1, by omega, by go_num, by rw [HNX.out]; exact HR.out.1, HR.out.2.1, HR.out.2.2⟩
          case measure => first | (simp [intOf]; omega) | simp [intOf]
        case neg =>
          by_cases h9 : i < 9
          case pos =>
            have hkw : kw i = 33554432 := by unfold kw; rw [if_neg (by omega)]
            have hkh : kh i = 16777216 := by unfold kh; rw [if_neg (by omega)]
            have hcr : crC g i = (g i + 16777216) / 33554432 := by unfold crC; rw [hkw, hkh]
            have HBT := Lib.hid (fun wx => bits_odd i wx (by omega) (by omega))
            have w1 : IntKind.i64.wrap (g i + 16777216) = g i + 16777216 := IntWalk.i64_in _ (by omega)
            have w2 : IntKind.i64.wrap (crC g i * 33554432) = crC g i * 33554432 := IntWalk.i64_in _ (by rw [hcr]; omega)
            have w3 : IntKind.i64.wrap (g i - crC g i * 33554432) = g i - crC g i * 33554432 := IntWalk.i64_in _ (by rw [hcr]; omega)
            have HAT : Hid (crS g i i = g i - crC g i * 33554432) := by show _ = _; rw [crS_at, hkw]
            have HNT : Hid (crS g i (i + 1) = g (i + 1) + crC g i) := crS_next g i (by omega)
            have HOT : Hid (∀ q, q ≠ i → q ≠ i + 1 → crS g i q = g q) := fun q a b => crS_other g i q a (by omega) (by omega)
            have bj := hbd.1 (i + 1) (by omega)
            have w5 : IntKind.i64.wrap (g (i + 1) + crC g i) = g (i + 1) + crC g i := IntWalk.i64_in _ (by omega)
            have i9 : (i : Int) < 9 := by omega
            have ne1 : ¬ i = i + 1 := by omega
            have ne2 : ¬ i + 1 = i := by omega
            have s0 : (0 : Int) ≤ (i : Int) + 1 := by omega
            have s1 : (i : Int) + 1 < 10 := by omega
            have st : ((i : Int) + 1).toNat = i + 1 := by omega
            have sw : IntKind.i64.wrap ((i : Int) + 1) = (i : Int) + 1 := IntWalk.i64_in _ (by omega)
            clear hkw hkh
            have hq : (g i + 16777216) / 33554432 = crC g i := hcr.symm
            clear hcr hbd
            go_wp2_with fail
            go_quiet ((go_at_call 170; exact Calls.quiet_of_same (HBT.out _)))
            have hw2 : (wr.drewN nq).heap[w.heap.size]? = some (.cells (rwA .i64 10 g) 134 (0, 0)) := hw
            have hz2 : (wr.drewN nq).heap[w.heap.size + 1]? = some (.cells Z10 134 (0, 0)) := hz
            have hb2 : Below w.heap.size w (wr.drewN nq) := ⟨hb.os, hb.tape, hb.output, hb.size, hb.block⟩
            clear hw hz hb c0 f0
            generalize wr.drewN nq = wd at *
            have c0 := (cell_of_row wd w.heap.size i _ _ _ hw2).trans (rwA_get .i64 10 _ i (by omega))
            have f0 := frozen_of_row wd w.heap.size i _ _ hw2
            have c1 := (cell_of_row wd w.heap.size (i + 1) _ _ _ hw2).trans (rwA_get .i64 10 _ (i + 1) (by omega))
            have f1 := frozen_of_row wd w.heap.size (i + 1) _ _ hw2
            have hrow := two_row (g' := crS g i) hw2 (i := i) (j := i + 1) (by omega) (by omega) (by omega) HAT.out HNT.out HOT.out
            have hzz : (((wd.setCell ⟨w.heap.size, i, none⟩ (.int .i64 (g i - crC g i * 33554432))).drew).setCell ⟨w.heap.size, i + 1, none⟩ (.int .i64 (g (i + 1) + crC g i))).heap[w.heap.size + 1]? = some (.cells Z10 134 (0, 0)) := (heap_setCell_other _ _ _ _ (by simp)).trans ((heap_setCell_other wd _ _ _ (by simp)).trans hz2)
            have hbb := ((hb2.setCell (p := ⟨w.heap.size, i, none⟩) (Nat.le_refl _) (.int .i64 (g i - crC g i * 33554432))).drew).setCell (p := ⟨w.heap.size, i + 1, none⟩) (Nat.le_refl _) (.int .i64 (g (i + 1) + crC g i))
            have HR := Lib.hid (And.intro hrow (And.intro hzz hbb))
            clear hrow hzz hbb hw2 hz2 hb2 HAT HNT HOT HBD
            go_wp2_with fail
            go_still_tail 10, (by kernel_rfl)
            still_call (HBT.out _)
            repeat still_step
            refine wpStill_nil ?_
            go_wp2
            go_roundw
            case rel => exact ⟨i + 1, by omega, by go_num, by rw [HNX.out]; exact HR.out.1, HR.out.2.1, HR.out.2.2⟩
            case measure => first | (simp [intOf]; omega) | simp [intOf]
          case neg =>
            have hie : i = 9 := by omega
            subst hie
            have hkw : kw 9 = 33554432 := by rfl
            have hkh : kh 9 = 16777216 := by rfl
            have hcr : crC g 9 = (g 9 + 16777216) / 33554432 := by unfold crC; rw [hkw, hkh]
            have HBT := Lib.hid (fun wx => bits_odd 9 wx (by omega) (by omega))
            have w1 : IntKind.i64.wrap (g 9 + 16777216) = g 9 + 16777216 := IntWalk.i64_in _ (by omega)
            have w2 : IntKind.i64.wrap (crC g 9 * 33554432) = crC g 9 * 33554432 := IntWalk.i64_in _ (by rw [hcr]; omega)
            have w3 : IntKind.i64.wrap (g 9 - crC g 9 * 33554432) = g 9 - crC g 9 * 33554432 := IntWalk.i64_in _ (by rw [hcr]; omega)
            have HAT : Hid (crS g 9 9 = g 9 - crC g 9 * 33554432) := by show _ = _; rw [crS_at, hkw]
            have HNT : Hid (crS g 9 0 = g 0 + 19 * crC g 9) := crS_first g
            have HOT : Hid (∀ q, q ≠ 9 → q ≠ 0 → crS g 9 q = g q) := fun q a b => crS_other g 9 q a (by omega) (by omega)
            have bj := hbd.1 0 (by omega)
            have w4 : IntKind.i64.wrap (19 * crC g 9) = 19 * crC g 9 := IntWalk.i64_in _ (by omega)
            have w5 : IntKind.i64.wrap (g 0 + 19 * crC g 9) = g 0 + 19 * crC g 9 := IntWalk.i64_in _ (by omega)
            clear hkw hkh
            have hq : (g 9 + 16777216) / 33554432 = crC g 9 := hcr.symm
            clear hcr hbd
            go_wp2_with fail
            go_quiet ((go_at_call 170; exact Calls.quiet_of_same (HBT.out _)))
            have hw2 : (wr.drewN nq).heap[w.heap.size]? = some (.cells (rwA .i64 10 g) 134 (0, 0)) := hw
            have hz2 : (wr.drewN nq).heap[w.heap.size + 1]? = some (.cells Z10 134 (0, 0)) := hz
            have hb2 : Below w.heap.size w (wr.drewN nq) := ⟨hb.os, hb.tape, hb.output, hb.size, hb.block⟩
            clear hw hz hb c0 f0
            generalize wr.drewN nq = wd at *
            have c0 := (cell_of_row wd w.heap.size 9 _ _ _ hw2).trans (rwA_get .i64 10 _ 9 (by omega))
            have f0 := frozen_of_row wd w.heap.size 9 _ _ hw2
            have c1 := (cell_of_row wd w.heap.size (0) _ _ _ hw2).trans (rwA_get .i64 10 _ (0) (by omega))
            have f1 := frozen_of_row wd w.heap.size (0) _ _ hw2
            have hrow := two_row (g' := crS g 9) hw2 (i := 9) (j := 0) (by omega) (by omega) (by omega) HAT.out HNT.out HOT.out
            have hzz : (((wd.setCell ⟨w.heap.size, 9, none⟩ (.int .i64 (g 9 - crC g 9 * 33554432))).drew).setCell ⟨w.heap.size, 0, none⟩ (.int .i64 (g 0 + 19 * crC g 9))).heap[w.heap.size + 1]? = some (.cells Z10 134 (0, 0)) := (heap_setCell_other _ _ _ _ (by simp)).trans ((heap_setCell_other wd _ _ _ (by simp)).trans hz2)
            have hbb := ((hb2.setCell (p := ⟨w.heap.size, 9, none⟩) (Nat.le_refl _) (.int .i64 (g 9 - crC g 9 * 33554432))).drew).setCell (p := ⟨w.heap.size, 0, none⟩) (Nat.le_refl _) (.int .i64 (g 0 + 19 * crC g 9))
            have HR := Lib.hid (And.intro hrow (And.intro hzz hbb))
            clear hrow hzz hbb hw2 hz2 hb2 HAT HNT HOT HBD
            go_wp2_with fail
            go_still_tail 10, (by kernel_rfl)
            still_call (HBT.out _)
            repeat still_step
            refine wpStill_nil ?_
            go_wp2
            go_roundw
            case rel => exact ⟨9 + 1, by omega, by go_num, by rw [HNX.out]; exact HR.out.1, HR.out.2.1, HR.out.2.2⟩
            case measure => first | (simp [intOf]; omega) | simp [intOf]
    · have hne : n = 2 := by omega
      have hpn : (2 : Int) ≤ (n : Int) := by omega
      subst hne
      have hw' : wr.heap[w.heap.size]? = some (.cells (rwA .i64 10 (crR h 20)) 134 (0, 0)) := hw
      clear hw hnl hn
      generalize hG : crR h 20 = G at *
      have HG := Lib.hid hG
      clear hG
      go_wp2_with (first
        | with_reducible refine wpList_load_row (o := ⟨some 52, _, _, _, _, _⟩) rfl 134 _ rfl w.heap.size rfl 134 (rwA .i64 10 G) (0, 0) (.array 10 2) hw' Tryd.underlying134 rfl (l10sz _) ?_
        | with_reducible (refine wpList_store_row (o := ⟨none, .store 134 _ _, _, _, _, _⟩) rfl 134 _ _ rfl (w.heap.size + 1) (rwA .i64 10 G) rfl rfl 134 Z10 hz (l10sz _) (z10sz _) (l10one _) ?_))
      have hrow := setRow_heap wr (w.heap.size + 1) Z10 (rwA .i64 10 G) 134 (0, 0) hz
      refine bodyPost_ret (v := .agg (rwA .i64 10 G)) ?_ rfl ⟨by rw [HG.out], ?_⟩
      · exact results_cell_row Tryd.results191 _ _ (w.heap.size + 1) 134 _ (0, 0) _ rfl hrow Tryd.underlying134 rfl (l10sz _)
      · exact hb.trans ⟨rfl, rfl, rfl, by simp, fun k hk => setRow_other wr (w.heap.size + 1) k _ (by omega)⟩

end Go.Proofs.YtfbcmckepdjdkaaDoor

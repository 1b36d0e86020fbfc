/- The contracts of the specification's l3Add and l3Sub. -/
import Derived.Test.YtfbcmckepdjdkaaDoorGLim1
import Derived.Test.YtfbcmckepdjdkaaDoorGFld3
import Derived.Test.YtfbcmckepdjdkaaDoorGM0
namespace Go.Proofs.YtfbcmckepdjdkaaDoor
open Go.RowKit Go.My Go.Lib
set_option linter.unusedVariables false

set_option maxRecDepth 100000 in
set_option maxHeartbeats 2000000 in
theorem ladd_any (a b : Nat → Int) (w : World) (ha : ∀ q, q < 10 → -4611686018427387904 ≤ a q ∧ a q ≤ 4611686018427387903) (hb : ∀ q, q < 10 → -4611686018427387903 ≤ b q ∧ b q ≤ 4611686018427387903) :
    Calls Tryd.prog 171 #[.agg (rwA .i64 10 a), .agg (rwA .i64 10 b)] w fun e w' => e = .returned (.agg (rwA .i64 10 (fun q => a q + b q))) ∧ Below w.heap.size w w' := by
  have HA := Lib.hid ha
  have HB := Lib.hid hb
  clear ha hb
  go_enter Tryd.func171, Tryd.ntmps171
  go_wp2
  go_loopw [6] (fun x wr => ∃ i : Nat, i ≤ 10 ∧ x = .int .i64 i ∧ wr.heap[w.heap.size + 1 + 1 + 1]? = some (.cells (rwA .i64 10 (upTo i (fun q => a q + b q) (fun _ => 0))) 134 (0, 0)) ∧ wr.heap[w.heap.size]? = some (.cells (rwA .i64 10 a) 134 (0, 0)) ∧ wr.heap[w.heap.size + 1]? = some (.cells (rwA .i64 10 b) 134 (0, 0)) ∧ wr.heap[w.heap.size + 1 + 1]? = some (.cells Z10 134 (0, 0)) ∧ Below w.heap.size w wr)
    (fun x _ => 10 - (intOf x).toNat)
  case atStart => exact ⟨0, by omega, rfl, by rw [upTo_zero]; exact al4_3 w _ _ _ _, al4_0 w _ _ _ _, al4_1 w _ _ _ _, al4_2 w _ _ _ _, ((((Below.refl _ _).alloc (Nat.le_refl _) _).alloc (by simp) _).alloc (by simp; omega) _).alloc (by simp; omega) _⟩
  case round =>
    obtain ⟨i, hi, rfl, ho, hra, hrb, hz, hbl⟩ := hrel
    by_cases hlt : i < 10
    · have ca := (cell_of_row wr w.heap.size i _ _ _ hra).trans (rwA_get .i64 10 _ i hlt)
      have cb := (cell_of_row wr (w.heap.size + 1) i _ _ _ hrb).trans (rwA_get .i64 10 _ i hlt)
      have co := (cell_of_row wr (w.heap.size + 1 + 1 + 1) i _ _ _ ho).trans (rwA_get .i64 10 _ i hlt)
      rw [upTo_at] at co
      have fo := frozen_of_row wr (w.heap.size + 1 + 1 + 1) i _ _ ho
      have hst := heap_setCell_same wr (w.heap.size + 1 + 1 + 1) i _ _ (.int .i64 (a i + b i)) ho
      rw [upTo_set .i64 10 i (fun q => a q + b q) (fun _ => 0) hlt] at hst
      have h1 : (wr.setCell ⟨w.heap.size + 1 + 1 + 1, i, none⟩ (.int .i64 (a i + b i))).heap[w.heap.size]? = _ := (heap_setCell_other wr _ _ _ (by simp; omega)).trans hra
      have h2 : (wr.setCell ⟨w.heap.size + 1 + 1 + 1, i, none⟩ (.int .i64 (a i + b i))).heap[w.heap.size + 1]? = _ := (heap_setCell_other wr _ _ _ (by simp)).trans hrb
      have h3 : (wr.setCell ⟨w.heap.size + 1 + 1 + 1, i, none⟩ (.int .i64 (a i + b i))).heap[w.heap.size + 1 + 1]? = _ := (heap_setCell_other wr _ _ _ (by simp)).trans hz
      have h4 := hbl.setCell (p := ⟨w.heap.size + 1 + 1 + 1, i, none⟩) (by simp; omega) (.int .i64 (a i + b i))
      have ba := HA.out i hlt
      have bb := HB.out i hlt
      have ww : IntKind.i64.wrap (a i + b i) = a i + b i := IntWalk.i64_in _ (by omega)
      have i0 : (0 : Int) ≤ (i : Int) := by omega
      have i1 : (i : Int) < 10 := by omega
      have HR := Lib.hid (And.intro hst (And.intro h1 (And.intro h2 (And.intro h3 h4))))
      clear hst h1 h2 h3 h4 ho hra hrb hz hbl
      go_wp2
      go_still_tail 9, (by kernel_rfl)
      go_wp2
      go_roundw
      case rel => exact ⟨i + 1, by omega, by go_num, HR.out.1, HR.out.2.1, HR.out.2.2.1, HR.out.2.2.2.1, HR.out.2.2.2.2.drew⟩
      case measure => first | (simp [intOf]; omega) | simp [intOf]
    · have hie : i = 10 := by omega
      have hpi : (10 : Int) ≤ (i : Int) := by omega
      rw [hie, upTo_all] at ho
      clear hlt hi
      generalize hG : (fun q => a q + b q) = G at *
      have HG := Lib.hid hG
      clear hG
      go_wp2_with (first
        | with_reducible refine wpList_load_row (o := ⟨some 21, _, _, _, _, _⟩) rfl 134 _ rfl (w.heap.size + 1 + 1 + 1) rfl 134 (rwA .i64 10 G) (0, 0) (.array 10 2) ho Tryd.underlying134 rfl (l10sz _) ?_
        | with_reducible (refine wpList_store_row (o := ⟨none, .store 134 _ _, _, _, _, _⟩) rfl 134 _ _ rfl (w.heap.size + 1 + 1) (rwA .i64 10 G) rfl rfl 134 Z10 hz (l10sz _) (z10sz _) (l10one _) ?_))
      have hrow := setRow_heap wr (w.heap.size + 1 + 1) Z10 (rwA .i64 10 G) 134 (0, 0) hz
      refine bodyPost_ret (v := .agg (rwA .i64 10 G)) ?_ rfl ⟨by rw [HG.out], ?_⟩
      · exact results_cell_row Tryd.results171 _ _ (w.heap.size + 1 + 1) 134 _ (0, 0) _ rfl hrow Tryd.underlying134 rfl (l10sz _)
      · exact hbl.trans ⟨rfl, rfl, rfl, by simp, fun k hk => setRow_other wr (w.heap.size + 1 + 1) k _ (by omega)⟩

set_option maxRecDepth 100000 in
set_option maxHeartbeats 2000000 in
theorem lsub_any (a b : Nat → Int) (w : World) (ha : ∀ q, q < 10 → -4611686018427387904 ≤ a q ∧ a q ≤ 4611686018427387903) (hb : ∀ q, q < 10 → -4611686018427387903 ≤ b q ∧ b q ≤ 4611686018427387903) :
    Calls Tryd.prog 172 #[.agg (rwA .i64 10 a), .agg (rwA .i64 10 b)] w fun e w' => e = .returned (.agg (rwA .i64 10 (fun q => a q - b q))) ∧ Below w.heap.size w w' := by
  have HA := Lib.hid ha
  have HB := Lib.hid hb
  clear ha hb
  go_enter Tryd.func172, Tryd.ntmps172
  go_wp2
  go_loopw [6] (fun x wr => ∃ i : Nat, i ≤ 10 ∧ x = .int .i64 i ∧ wr.heap[w.heap.size + 1 + 1 + 1]? = some (.cells (rwA .i64 10 (upTo i (fun q => a q - b q) (fun _ => 0))) 134 (0, 0)) ∧ wr.heap[w.heap.size]? = some (.cells (rwA .i64 10 a) 134 (0, 0)) ∧ wr.heap[w.heap.size + 1]? = some (.cells (rwA .i64 10 b) 134 (0, 0)) ∧ wr.heap[w.heap.size + 1 + 1]? = some (.cells Z10 134 (0, 0)) ∧ Below w.heap.size w wr)
    (fun x _ => 10 - (intOf x).toNat)
  case atStart => exact ⟨0, by omega, rfl, by rw [upTo_zero]; exact al4_3 w _ _ _ _, al4_0 w _ _ _ _, al4_1 w _ _ _ _, al4_2 w _ _ _ _, ((((Below.refl _ _).alloc (Nat.le_refl _) _).alloc (by simp) _).alloc (by simp; omega) _).alloc (by simp; omega) _⟩
  case round =>
    obtain ⟨i, hi, rfl, ho, hra, hrb, hz, hbl⟩ := hrel
    by_cases hlt : i < 10
    · have ca := (cell_of_row wr w.heap.size i _ _ _ hra).trans (rwA_get .i64 10 _ i hlt)
      have cb := (cell_of_row wr (w.heap.size + 1) i _ _ _ hrb).trans (rwA_get .i64 10 _ i hlt)
      have co := (cell_of_row wr (w.heap.size + 1 + 1 + 1) i _ _ _ ho).trans (rwA_get .i64 10 _ i hlt)
      rw [upTo_at] at co
      have fo := frozen_of_row wr (w.heap.size + 1 + 1 + 1) i _ _ ho
      have hst := heap_setCell_same wr (w.heap.size + 1 + 1 + 1) i _ _ (.int .i64 (a i - b i)) ho
      rw [upTo_set .i64 10 i (fun q => a q - b q) (fun _ => 0) hlt] at hst
      have h1 : (wr.setCell ⟨w.heap.size + 1 + 1 + 1, i, none⟩ (.int .i64 (a i - b i))).heap[w.heap.size]? = _ := (heap_setCell_other wr _ _ _ (by simp; omega)).trans hra
      have h2 : (wr.setCell ⟨w.heap.size + 1 + 1 + 1, i, none⟩ (.int .i64 (a i - b i))).heap[w.heap.size + 1]? = _ := (heap_setCell_other wr _ _ _ (by simp)).trans hrb
      have h3 : (wr.setCell ⟨w.heap.size + 1 + 1 + 1, i, none⟩ (.int .i64 (a i - b i))).heap[w.heap.size + 1 + 1]? = _ := (heap_setCell_other wr _ _ _ (by simp)).trans hz
      have h4 := hbl.setCell (p := ⟨w.heap.size + 1 + 1 + 1, i, none⟩) (by simp; omega) (.int .i64 (a i - b i))
      have ba := HA.out i hlt
      have bb := HB.out i hlt
      have ww : IntKind.i64.wrap (a i - b i) = a i - b i := IntWalk.i64_in _ (by omega)
      have i0 : (0 : Int) ≤ (i : Int) := by omega
      have i1 : (i : Int) < 10 := by omega
      have HR := Lib.hid (And.intro hst (And.intro h1 (And.intro h2 (And.intro h3 h4))))
      clear hst h1 h2 h3 h4 ho hra hrb hz hbl
      go_wp2
      go_still_tail 9, (by kernel_rfl)
      go_wp2
      go_roundw
      case rel => exact ⟨i + 1, by omega, by go_num, HR.out.1, HR.out.2.1, HR.out.2.2.1, HR.out.2.2.2.1, HR.out.2.2.2.2.drew⟩
      case measure => first | (simp [intOf]; omega) | simp [intOf]
    · have hie : i = 10 := by omega
      have hpi : (10 : Int) ≤ (i : Int) := by omega
      rw [hie, upTo_all] at ho
      clear hlt hi
      generalize hG : (fun q => a q - b q) = G at *
      have HG := Lib.hid hG
      clear hG
      go_wp2_with (first
        | with_reducible refine wpList_load_row (o := ⟨some 21, _, _, _, _, _⟩) rfl 134 _ rfl (w.heap.size + 1 + 1 + 1) rfl 134 (rwA .i64 10 G) (0, 0) (.array 10 2) ho Tryd.underlying134 rfl (l10sz _) ?_
        | with_reducible (refine wpList_store_row (o := ⟨none, .store 134 _ _, _, _, _, _⟩) rfl 134 _ _ rfl (w.heap.size + 1 + 1) (rwA .i64 10 G) rfl rfl 134 Z10 hz (l10sz _) (z10sz _) (l10one _) ?_))
      have hrow := setRow_heap wr (w.heap.size + 1 + 1) Z10 (rwA .i64 10 G) 134 (0, 0) hz
      refine bodyPost_ret (v := .agg (rwA .i64 10 G)) ?_ rfl ⟨by rw [HG.out], ?_⟩
      · exact results_cell_row Tryd.results172 _ _ (w.heap.size + 1 + 1) 134 _ (0, 0) _ rfl hrow Tryd.underlying134 rfl (l10sz _)
      · exact hbl.trans ⟨rfl, rfl, rfl, by simp, fun k hk => setRow_other wr (w.heap.size + 1 + 1) k _ (by omega)⟩

end Go.Proofs.YtfbcmckepdjdkaaDoor

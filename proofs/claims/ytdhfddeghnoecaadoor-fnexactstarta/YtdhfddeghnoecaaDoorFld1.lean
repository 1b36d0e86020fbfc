/- The contracts of the field's small pieces: reduced, plus, minus. -/
import Derived.Test.YtdhfddeghnoecaaDoorRows
import Derived.Test.YtdhfddeghnoecaaDoorMathG
import Derived.Test.YtdhfddeghnoecaaDoorMathS
import Derived.WalkKit
import Derived.ProofKit
import Derived.Lib.Hide
import Derived.Deep.QuietTactic
import Derived.BigQuiet
import Derived.Deep.MidRow
import Derived.Deep.RegionHeld3
import Derived.Deep.AppendLies
import Derived.StillTailTactics
import Derived.WalkSpells
import Derived.WalkLawsBesides
import Derived.Laws.Externs
namespace Go.Proofs.YtdhfddeghnoecaaDoor
open Go.RowKit Go.My Go.Lib
set_option linter.unusedVariables false

theorem size_u64 : (Tryd.prog.info? 58).map (·.size) = some 1 := by kernel_rfl
theorem size_f4 : (Tryd.prog.info? 60).map (·.size) = some 4 := by kernel_rfl
/-- The table of the prime's words. -/
def TabP (w : World) : Prop := 0 < w.heap.size ∧ ∀ i, i < 4 → w.cell? ⟨0, i, none⟩ = some (.int .u64 (lw P25n i : Int))
theorem TabP.below {w w' : World} {B : Nat} (h : TabP w) (hb : Below B w w') (hB : 0 < B) : TabP w' := ⟨Nat.lt_of_lt_of_le h.1 hb.size, fun i hi => by rw [hb.cell (p := ⟨0, i, none⟩) hB]; exact h.2 i hi⟩

theorem run_add (x y c : Nat) (hc : c ≤ 1) (w : World) :
    (callFunc 95 #[.int .u64 x, .int .u64 y, .int .u64 c]).run Tryd.prog w =
      .ok (.value (.tuple #[.int .u64 (((x + y + c) % 18446744073709551616 : Nat) : Int), .int .u64 (((x + y + c) / 18446744073709551616 : Nat) : Int)])) w := by
  rw [run_callFunc_extern Tryd.func95 (by kernel_rfl) (by kernel_rfl) (by kernel_rfl) (e := add64Entry) (by kernel_rfl), run_add64 x y c (by omega) (by omega) (by omega) (by omega)]
  simp only [Result.andThen]
  congr 5 <;> omega
def sub64E : Array Value → Sem Value := fun args => do
  let (x, y, b) ← Extern.MathBitsCarry.three "Sub64" args
  pure (Extern.MathBitsCarry.pair ((x + Extern.MathBitsCarry.m64 - y - b) % Extern.MathBitsCarry.m64) (if x < y + b then 1 else 0))
theorem run_subE (x y b : Nat) (hb : b ≤ 1) (w : World) :
    (sub64E #[.int .u64 x, .int .u64 y, .int .u64 b]).run Tryd.prog w =
      .ok (.tuple #[.int .u64 (((x + 18446744073709551616 - y - b) % 18446744073709551616 : Nat) : Int), .int .u64 ((if x < y + b then 1 else 0 : Nat) : Int)]) w := by
  have : b = 0 ∨ b = 1 := by omega
  rcases this with rfl | rfl <;> rfl
theorem run_sub (x y b : Nat) (hb : b ≤ 1) (w : World) :
    (callFunc 70 #[.int .u64 x, .int .u64 y, .int .u64 b]).run Tryd.prog w =
      .ok (.value (.tuple #[.int .u64 (((x + 18446744073709551616 - y - b) % 18446744073709551616 : Nat) : Int), .int .u64 ((if x < y + b then 1 else 0 : Nat) : Int)])) w := by
  rw [run_callFunc_extern Tryd.func70 (by kernel_rfl) (by kernel_rfl) (by kernel_rfl) (e := sub64E) (by kernel_rfl), run_subE x y b hb]
  rfl

abbrev Z4 : Array Value := #[Value.int .u64 0, Value.int .u64 0, Value.int .u64 0, Value.int .u64 0]
theorem Z4_eq : Z4 = rwA .u64 4 (fun _ => 0) := rfl
theorem al3_0 (w : World) (A B C : Obj) : (((w.alloc A).alloc B).alloc C).heap[w.heap.size]? = some A := by
  rw [Below.heap_alloc _ _ _ (by simp; omega), Below.heap_alloc _ _ _ (by simp)]; exact heap_alloc_new w A
theorem al3_1 (w : World) (A B C : Obj) : (((w.alloc A).alloc B).alloc C).heap[w.heap.size + 1]? = some B := by
  rw [Below.heap_alloc _ _ _ (by simp)]; exact heap_alloc2_new w A B
theorem al3_2 (w : World) (A B C : Obj) : (((w.alloc A).alloc B).alloc C).heap[w.heap.size + 1 + 1]? = some C := by
  have := heap_alloc_new ((w.alloc A).alloc B) C
  simpa using this
theorem fsz (f : Nat → Int) : (Tryd.prog.info? 60).map (·.size) = some (rwA .u64 4 f).size := by rw [rwA_size]; exact size_f4
theorem zsz (f : Nat → Int) : Z4.size = (rwA .u64 4 f).size := by rw [rwA_size]; rfl
theorem fszN (n : Nat) : (Tryd.prog.info? 60).map (·.size) = some (fldA n).size := fsz _
theorem zszN (n : Nat) : Z4.size = (fldA n).size := zsz _
theorem oneN (n : Nat) : (fldA n).all (·.oneCell') = true := rwA_one _ _ _
theorem fidx (f : Nat → Int) (i : Nat) (hi : i < 4) (w : World) : (Instr.index 60 (.agg (rwA .u64 4 f)) (.int .i64 (i : Int))).run Tryd.prog w = .ok (.int .u64 (f i)) w :=
  run_index_arr w 60 58 4 (rwA .u64 4 f) .i64 .u64 i _ Tryd.underlying60 Tryd.underlying58 size_u64 hi (rwA_get .u64 4 f i hi)

set_option maxHeartbeats 2000000 in
theorem reduced_any (n : Nat) (w : World) (hn : n < W256) (hp : TabP w) :
    Calls Tryd.prog 48 #[.agg (fldA n)] w fun e w' => e = .returned (.agg (fldA (redF n))) ∧ Below w.heap.size w w' := by
  have HN := Lib.hid (bSub_P n hn)
  have HRD : Hid (redF n = if n < P25n then n else n - P25n) := rfl
  have HF := Lib.hid (fun f => fsz f)
  have HX := Lib.hid (fun f i hi wx => fidx f i hi wx)
  clear hn
  unfold fldA
  go_enter Tryd.func48, Tryd.ntmps48
  go_wp2_with (first
    | with_reducible refine wpList_load_row (o := ⟨some 7, _, _, _, _, _⟩) rfl 60 _ rfl w.heap.size rfl 60 (rwA .u64 4 (fun q => (lw n q : Int))) (0, 0) (.array 4 58) (al3_0 w _ _ _) Tryd.underlying60 rfl (HF.out _) ?_)
  go_loopw [4, 8] (fun b i wr => ∃ j : Nat, j ≤ 4 ∧ i = .int .i64 j ∧ b = .int .u64 (bSub (lw n) (lw P25n) j : Int) ∧ wr.heap[w.heap.size + 1 + 1]? = some (.cells (rwA .u64 4 (upTo j (fun q => (dSub (lw n) (lw P25n) q : Int)) (fun _ => 0))) 60 (0, 0)) ∧ wr.heap[w.heap.size]? = some (.cells (rwA .u64 4 (fun q => (lw n q : Int))) 60 (0, 0)) ∧ wr.heap[w.heap.size + 1]? = some (.cells Z4 60 (0, 0)) ∧ Below w.heap.size w wr)
    (fun _ i _ => 4 - (intOf i).toNat)
  case atStart => exact ⟨0, by omega, rfl, rfl, by rw [upTo_zero]; exact al3_2 w _ _ _, al3_0 w _ _ _, al3_1 w _ _ _, (((Below.refl _ _).alloc (Nat.le_refl _) _).alloc (by simp) _).alloc (by simp; omega) _⟩
  case round =>
    obtain ⟨j, hj, rfl, rfl, hl, ha, hz, hb⟩ := hrel
    by_cases hlt : j < 4
    · have hidx := HX.out (fun q => (lw n q : Int)) j hlt
      have hkc : wr.cell? ⟨0, j, none⟩ = some (.int .u64 (lw P25n j : Int)) := (hp.below hb hp.1).2 j hlt
      have hsub := fun wx => run_sub (lw n j) (lw P25n j) (bSub (lw n) (lw P25n) j) (bSub_le _ _ _) wx
      have hcell := (cell_of_row wr (w.heap.size + 1 + 1) j _ _ _ hl).trans (rwA_get .u64 4 _ j hlt)
      rw [upTo_at] at hcell
      have hfz := frozen_of_row wr (w.heap.size + 1 + 1) j _ _ hl
      have hst := heap_setCell_same wr (w.heap.size + 1 + 1) j _ _ (.int .u64 (dSub (lw n) (lw P25n) j : Int)) hl
      rw [upTo_set .u64 4 j (fun q => (dSub (lw n) (lw P25n) q : Int)) (fun _ => 0) hlt] at hst
      have ha' : (wr.setCell ⟨w.heap.size + 1 + 1, j, none⟩ (.int .u64 (dSub (lw n) (lw P25n) j : Int))).heap[w.heap.size]? = _ := (heap_setCell_other wr _ _ _ (by simp; omega)).trans ha
      have hz' : (wr.setCell ⟨w.heap.size + 1 + 1, j, none⟩ (.int .u64 (dSub (lw n) (lw P25n) j : Int))).heap[w.heap.size + 1]? = _ := (heap_setCell_other wr _ _ _ (by simp)).trans hz
      have hb' := hb.setCell (p := ⟨w.heap.size + 1 + 1, j, none⟩) (by simp; omega) (.int .u64 (dSub (lw n) (lw P25n) j : Int))
      have hbe : bSub (lw n) (lw P25n) (j + 1) = if lw n j < lw P25n j + bSub (lw n) (lw P25n) j then 1 else 0 := rfl
      have hde : (lw n j + 18446744073709551616 - lw P25n j - bSub (lw n) (lw P25n) j) % 18446744073709551616 = dSub (lw n) (lw P25n) j := rfl
      rw [hde] at hsub
      rw [← hbe] at hsub
      have HR := Lib.hid (And.intro hst (And.intro ha' (And.intro hz' hb')))
      have j0 : (0 : Int) ≤ (j : Int) := by omega
      have j1 : (j : Int) < 4 := by omega
      clear hst ha' hz' hb' hl ha hz hb hbe hde
      generalize hD : dSub (lw n) (lw P25n) j = D at *
      generalize hB1 : bSub (lw n) (lw P25n) (j + 1) = B1 at *
      generalize bSub (lw n) (lw P25n) j = B0 at *
      have HB1 := Lib.hid hB1
      clear hD hB1
      go_wp2
      go_roundw
      case rel => exact ⟨j + 1, by omega, by go_num, by rw [HB1.out], HR.out.1, HR.out.2.1, HR.out.2.2.1, HR.out.2.2.2⟩
      case measure => simp [intOf]; omega
    · have hje : j = 4 := by omega
      have hpj : (4 : Int) ≤ (j : Int) := by omega
      rw [hje, upTo_all] at hl
      have HJ := Lib.hid hje
      have H1 := Lib.hid (fun f => rwA_one .u64 4 f)
      have HZ := Lib.hid (fun f => zsz f)
      clear hlt hj hje
      rcases HN.out with ⟨h0, h1, h2⟩ | ⟨h0, h1⟩
      · have hb0 : bSub (lw n) (lw P25n) j = 0 := by rw [HJ.out]; exact h0
        have HE := Lib.hid (fld_of (fun q _ => dSub_lt (lw n) (lw P25n) q) h2)
        have HRR : Hid (redF n = n - P25n) := if_neg (by omega)
        clear h0 h1 h2 HN
        generalize (fun q => (dSub (lw n) (lw P25n) q : Int)) = DD at *
        rw [hb0]
        go_wp2_with (first
          | with_reducible refine wpList_load_row (o := ⟨some 27, _, _, _, _, _⟩) rfl 60 _ rfl (w.heap.size + 1 + 1) rfl 60 (rwA .u64 4 DD) (0, 0) (.array 4 58) hl Tryd.underlying60 rfl (HF.out _) ?_
          | with_reducible (refine wpList_store_row (o := ⟨none, .store 60 _ _, _, _, _, _⟩) rfl 60 _ _ rfl (w.heap.size + 1) (rwA .u64 4 DD) rfl rfl 60 Z4 hz (HF.out _) (HZ.out _) (H1.out _) ?_))
        have hrow := setRow_heap wr (w.heap.size + 1) Z4 (rwA .u64 4 DD) 60 (0, 0) hz
        refine bodyPost_ret (v := .agg (rwA .u64 4 DD)) ?_ rfl ⟨by rw [HE.out, HRR.out]; rfl, ?_⟩
        · exact results_cell_row Tryd.results48 _ _ (w.heap.size + 1) 60 _ (0, 0) _ rfl hrow Tryd.underlying60 rfl (HF.out _)
        · exact hb.trans ⟨rfl, rfl, rfl, by simp, fun k hk => setRow_other wr (w.heap.size + 1) k _ (by omega)⟩
      · have hb0 : bSub (lw n) (lw P25n) j = 1 := by rw [HJ.out]; exact h0
        have HRR : Hid (redF n = n) := if_pos h1
        clear h0 h1 HN
        rw [hb0]
        go_wp2_with (first
          | with_reducible refine wpList_load_row (o := ⟨some 26, _, _, _, _, _⟩) rfl 60 _ rfl w.heap.size rfl 60 (rwA .u64 4 (fun q => (lw n q : Int))) (0, 0) (.array 4 58) ha Tryd.underlying60 rfl (HF.out _) ?_
          | with_reducible (refine wpList_store_row (o := ⟨none, .store 60 _ _, _, _, _, _⟩) rfl 60 _ _ rfl (w.heap.size + 1) (rwA .u64 4 (fun q => (lw n q : Int))) rfl rfl 60 Z4 hz (HF.out _) (HZ.out _) (H1.out _) ?_))
        have hrow := setRow_heap wr (w.heap.size + 1) Z4 (rwA .u64 4 (fun q => (lw n q : Int))) 60 (0, 0) hz
        refine bodyPost_ret (v := .agg (rwA .u64 4 (fun q => (lw n q : Int)))) ?_ rfl ⟨by rw [HRR.out], ?_⟩
        · exact results_cell_row Tryd.results48 _ _ (w.heap.size + 1) 60 _ (0, 0) _ rfl hrow Tryd.underlying60 rfl (HF.out _)
        · exact hb.trans ⟨rfl, rfl, rfl, by simp, fun k hk => setRow_other wr (w.heap.size + 1) k _ (by omega)⟩

set_option maxHeartbeats 2000000 in
theorem plus_any (a b : Nat) (w : World) (hn : a + b < W256) (hp : TabP w) :
    Calls Tryd.prog 83 #[.agg (fldA a), .agg (fldA b)] w fun e w' => e = .returned (.agg (fldA (redF (a + b)))) ∧ Below w.heap.size w w' := by
  have HE := Lib.hid (fld_of (fun q _ => sAdd_lt (lw a) (lw b) q) (cAdd_plus a b hn))
  have HF := Lib.hid (fun f => fsz f)
  have HFN := Lib.hid (fun m => fszN m)
  have HX := Lib.hid (fun f i hi wx => fidx f i hi wx)
  have HN := Lib.hid hn
  have HGA : Hid (fldA a = rwA .u64 4 (fun q => (lw a q : Int))) := rfl
  have HGB : Hid (fldA b = rwA .u64 4 (fun q => (lw b q : Int))) := rfl
  clear hn
  rw [HGA.out, HGB.out]
  go_enter Tryd.func83, Tryd.ntmps83
  go_wp2_with (first
    | with_reducible refine wpList_load_row (o := ⟨some 8, _, _, _, _, _⟩) rfl 60 _ rfl (w.heap.size + 1) rfl 60 (rwA .u64 4 (fun q => (lw b q : Int))) (0, 0) (.array 4 58) (al3_1 w _ _ _) Tryd.underlying60 rfl (HF.out _) ?_)
  go_loopw [5, 9] (fun c i wr => ∃ j : Nat, j ≤ 4 ∧ i = .int .i64 j ∧ c = .int .u64 (cAdd (lw a) (lw b) j : Int) ∧ wr.heap[w.heap.size]? = some (.cells (rwA .u64 4 (upTo j (fun q => (sAdd (lw a) (lw b) q : Int)) (fun q => (lw a q : Int)))) 60 (0, 0)) ∧ wr.heap[w.heap.size + 1 + 1]? = some (.cells Z4 60 (0, 0)) ∧ Below w.heap.size w wr)
    (fun _ i _ => 4 - (intOf i).toNat)
  case atStart => exact ⟨0, by omega, rfl, rfl, by rw [upTo_zero]; exact al3_0 w _ _ _, al3_2 w _ _ _, (((Below.refl _ _).alloc (Nat.le_refl _) _).alloc (by simp) _).alloc (by simp; omega) _⟩
  case round =>
    obtain ⟨j, hj, rfl, rfl, hl, hz, hb⟩ := hrel
    by_cases hlt : j < 4
    · have hidx := HX.out (fun q => (lw b q : Int)) j hlt
      have hadd := fun wx => run_add (lw a j) (lw b j) (cAdd (lw a) (lw b) j) (cAdd_le _ _ (lw_lt a) (lw_lt b) _) wx
      have hcell := (cell_of_row wr w.heap.size j _ _ _ hl).trans (rwA_get .u64 4 _ j hlt)
      rw [upTo_at] at hcell
      have hfz := frozen_of_row wr w.heap.size j _ _ hl
      have hst := heap_setCell_same wr w.heap.size j _ _ (.int .u64 (sAdd (lw a) (lw b) j : Int)) hl
      rw [upTo_set .u64 4 j (fun q => (sAdd (lw a) (lw b) q : Int)) (fun q => (lw a q : Int)) hlt] at hst
      have hz' : (wr.setCell ⟨w.heap.size, j, none⟩ (.int .u64 (sAdd (lw a) (lw b) j : Int))).heap[w.heap.size + 1 + 1]? = _ := (heap_setCell_other wr _ _ _ (by simp; omega)).trans hz
      have hb' := hb.setCell (p := ⟨w.heap.size, j, none⟩) (Nat.le_refl _) (.int .u64 (sAdd (lw a) (lw b) j : Int))
      have hce : (lw a j + lw b j + cAdd (lw a) (lw b) j) / 18446744073709551616 = cAdd (lw a) (lw b) (j + 1) := rfl
      have hse : (lw a j + lw b j + cAdd (lw a) (lw b) j) % 18446744073709551616 = sAdd (lw a) (lw b) j := rfl
      rw [hce, hse] at hadd
      have HR := Lib.hid (And.intro hst (And.intro hz' hb'))
      have j0 : (0 : Int) ≤ (j : Int) := by omega
      have j1 : (j : Int) < 4 := by omega
      clear hst hz' hb' hl hz hb hce hse
      generalize sAdd (lw a) (lw b) j = D at *
      generalize hB1 : cAdd (lw a) (lw b) (j + 1) = B1 at *
      generalize cAdd (lw a) (lw b) j = B0 at *
      have HB1 := Lib.hid hB1
      clear hB1
      go_wp2
      go_roundw
      case rel => exact ⟨j + 1, by omega, by go_num, by rw [HB1.out], HR.out.1, HR.out.2.1, HR.out.2.2⟩
      case measure => simp [intOf]; omega
    · have hje : j = 4 := by omega
      have hpj : (4 : Int) ≤ (j : Int) := by omega
      rw [hje, upTo_all, HE.out] at hl
      have H1N := Lib.hid (fun m => oneN m)
      have HZN := Lib.hid (fun m => zszN m)
      have HRED := Lib.hid (fun wx hx => reduced_any (a + b) wx HN.out (hp.below hx hp.1))
      clear hlt hj hje
      go_wp2_with (first
        | with_reducible refine wpList_load_row (o := ⟨some 25, _, _, _, _, _⟩) rfl 60 _ rfl w.heap.size rfl 60 (fldA (a + b)) (0, 0) (.array 4 58) hl Tryd.underlying60 rfl (HFN.out _) ?_
        | fail)
      refine (HRED.out _ hb).mono ?_
      rintro e w2 ⟨rfl, hb2⟩
      have hz2 : w2.heap[w.heap.size + 1 + 1]? = some (.cells Z4 60 (0, 0)) := by rw [hb2.block _ (Array.getElem?_eq_some_iff.1 hz).1]; exact hz
      have hbq := hb.trans (hb2.mono hb.size)
      clear hl hz hb hb2
      go_wp2_with (first
        | with_reducible (refine wpList_store_row (o := ⟨none, .store 60 _ _, _, _, _, _⟩) rfl 60 _ _ rfl (w.heap.size + 1 + 1) (fldA (redF (a + b))) rfl rfl 60 Z4 hz2 (HFN.out _) (HZN.out _) (H1N.out _) ?_))
      have hrow := setRow_heap w2 (w.heap.size + 1 + 1) Z4 (fldA (redF (a + b))) 60 (0, 0) hz2
      refine bodyPost_ret (v := .agg (fldA (redF (a + b)))) ?_ rfl ⟨rfl, ?_⟩
      · exact results_cell_row Tryd.results83 _ _ (w.heap.size + 1 + 1) 60 _ (0, 0) _ rfl hrow Tryd.underlying60 rfl (HFN.out _)
      · exact hbq.trans ⟨rfl, rfl, rfl, by simp, fun k hk => setRow_other w2 (w.heap.size + 1 + 1) k _ (by omega)⟩

set_option maxHeartbeats 2000000 in
theorem minus_any (a b : Nat) (w : World) (ha : a < P25n) (hbp : b ≤ P25n) (hp : TabP w) :
    Calls Tryd.prog 84 #[.agg (fldA a), .agg (fldA b)] w fun e w' => e = .returned (.agg (fldA (redF (a + (P25n - b))))) ∧ Below w.heap.size w w' := by
  have HE := Lib.hid (fld_of (fun q _ => dSub_lt (lw P25n) (lw b) q) (bSub_minus b hbp))
  have HF := Lib.hid (fun f => fsz f)
  have HFN := Lib.hid (fun m => fszN m)
  have HX := Lib.hid (fun f i hi wx => fidx f i hi wx)
  have HN : Hid (a + (P25n - b) < W256) := by show _ < _; unfold W256; unfold P25n at *; omega
  have HGA : Hid (fldA a = rwA .u64 4 (fun q => (lw a q : Int))) := rfl
  have HGB : Hid (fldA b = rwA .u64 4 (fun q => (lw b q : Int))) := rfl
  clear ha hbp
  rw [HGB.out]
  go_enter Tryd.func84, Tryd.ntmps84
  go_wp2_with (first
    | with_reducible refine wpList_load_row (o := ⟨some 8, _, _, _, _, _⟩) rfl 60 _ rfl (w.heap.size + 1) rfl 60 (rwA .u64 4 (fun q => (lw b q : Int))) (0, 0) (.array 4 58) (al3_1 w _ _ _) Tryd.underlying60 rfl (HF.out _) ?_)
  go_loopw [5, 9] (fun c i wr => ∃ j : Nat, j ≤ 4 ∧ i = .int .i64 j ∧ c = .int .u64 (bSub (lw P25n) (lw b) j : Int) ∧ wr.heap[w.heap.size + 1]? = some (.cells (rwA .u64 4 (upTo j (fun q => (dSub (lw P25n) (lw b) q : Int)) (fun q => (lw b q : Int)))) 60 (0, 0)) ∧ wr.heap[w.heap.size]? = some (.cells (fldA a) 60 (0, 0)) ∧ wr.heap[w.heap.size + 1 + 1]? = some (.cells Z4 60 (0, 0)) ∧ Below w.heap.size w wr)
    (fun _ i _ => 4 - (intOf i).toNat)
  case atStart => exact ⟨0, by omega, rfl, rfl, by rw [upTo_zero]; exact al3_1 w _ _ _, al3_0 w _ _ _, al3_2 w _ _ _, (((Below.refl _ _).alloc (Nat.le_refl _) _).alloc (by simp) _).alloc (by simp; omega) _⟩
  case round =>
    obtain ⟨j, hj, rfl, rfl, hl, ha, hz, hb⟩ := hrel
    by_cases hlt : j < 4
    · have hidx := HX.out (fun q => (lw b q : Int)) j hlt
      have hkc : wr.cell? ⟨0, j, none⟩ = some (.int .u64 (lw P25n j : Int)) := (hp.below hb hp.1).2 j hlt
      have hsub := fun wx => run_sub (lw P25n j) (lw b j) (bSub (lw P25n) (lw b) j) (bSub_le _ _ _) wx
      have hcell := (cell_of_row wr (w.heap.size + 1) j _ _ _ hl).trans (rwA_get .u64 4 _ j hlt)
      have hfz := frozen_of_row wr (w.heap.size + 1) j _ _ hl
      have hst := heap_setCell_same wr (w.heap.size + 1) j _ _ (.int .u64 (dSub (lw P25n) (lw b) j : Int)) hl
      rw [upTo_set .u64 4 j (fun q => (dSub (lw P25n) (lw b) q : Int)) (fun q => (lw b q : Int)) hlt] at hst
      have ha' : (wr.setCell ⟨w.heap.size + 1, j, none⟩ (.int .u64 (dSub (lw P25n) (lw b) j : Int))).heap[w.heap.size]? = _ := (heap_setCell_other wr _ _ _ (by simp)).trans ha
      have hz' : (wr.setCell ⟨w.heap.size + 1, j, none⟩ (.int .u64 (dSub (lw P25n) (lw b) j : Int))).heap[w.heap.size + 1 + 1]? = _ := (heap_setCell_other wr _ _ _ (by simp)).trans hz
      have hb' := hb.setCell (p := ⟨w.heap.size + 1, j, none⟩) (by simp) (.int .u64 (dSub (lw P25n) (lw b) j : Int))
      have hbe : bSub (lw P25n) (lw b) (j + 1) = if lw P25n j < lw b j + bSub (lw P25n) (lw b) j then 1 else 0 := rfl
      have hde : (lw P25n j + 18446744073709551616 - lw b j - bSub (lw P25n) (lw b) j) % 18446744073709551616 = dSub (lw P25n) (lw b) j := rfl
      rw [hde] at hsub
      rw [← hbe] at hsub
      have HR := Lib.hid (And.intro hst (And.intro ha' (And.intro hz' hb')))
      have j0 : (0 : Int) ≤ (j : Int) := by omega
      have j1 : (j : Int) < 4 := by omega
      clear hst ha' hz' hb' hl ha hz hb hbe hde
      generalize dSub (lw P25n) (lw b) j = D at *
      generalize hB1 : bSub (lw P25n) (lw b) (j + 1) = B1 at *
      generalize bSub (lw P25n) (lw b) j = B0 at *
      have HB1 := Lib.hid hB1
      clear hB1
      go_wp2
      go_roundw
      case rel => exact ⟨j + 1, by omega, by go_num, by rw [HB1.out], HR.out.1, HR.out.2.1, HR.out.2.2.1, HR.out.2.2.2⟩
      case measure => simp [intOf]; omega
    · have hje : j = 4 := by omega
      have hpj : (4 : Int) ≤ (j : Int) := by omega
      rw [hje, upTo_all, HE.out] at hl
      have H1N := Lib.hid (fun m => oneN m)
      have HZN := Lib.hid (fun m => zszN m)
      have HPL := Lib.hid (fun wx hx => plus_any a (P25n - b) wx HN.out (hp.below hx hp.1))
      clear hlt hj hje
      go_wp2_with (first
        | with_reducible refine wpList_load_row (o := ⟨some 25, _, _, _, _, _⟩) rfl 60 _ rfl w.heap.size rfl 60 (fldA a) (0, 0) (.array 4 58) ha Tryd.underlying60 rfl (HFN.out _) ?_
        | with_reducible refine wpList_load_row (o := ⟨some 26, _, _, _, _, _⟩) rfl 60 _ rfl (w.heap.size + 1) rfl 60 (fldA (P25n - b)) (0, 0) (.array 4 58) hl Tryd.underlying60 rfl (HFN.out _) ?_
        | fail)
      refine (HPL.out _ hb).mono ?_
      rintro e w2 ⟨rfl, hb2⟩
      have hz2 : w2.heap[w.heap.size + 1 + 1]? = some (.cells Z4 60 (0, 0)) := by rw [hb2.block _ (Array.getElem?_eq_some_iff.1 hz).1]; exact hz
      have hbq := hb.trans (hb2.mono hb.size)
      clear hl hz hb hb2
      go_wp2_with (first
        | with_reducible (refine wpList_store_row (o := ⟨none, .store 60 _ _, _, _, _, _⟩) rfl 60 _ _ rfl (w.heap.size + 1 + 1) (fldA (redF (a + (P25n - b)))) rfl rfl 60 Z4 hz2 (HFN.out _) (HZN.out _) (H1N.out _) ?_))
      have hrow := setRow_heap w2 (w.heap.size + 1 + 1) Z4 (fldA (redF (a + (P25n - b)))) 60 (0, 0) hz2
      refine bodyPost_ret (v := .agg (fldA (redF (a + (P25n - b))))) ?_ rfl ⟨rfl, ?_⟩
      · exact results_cell_row Tryd.results84 _ _ (w.heap.size + 1 + 1) 60 _ (0, 0) _ rfl hrow Tryd.underlying60 rfl (HFN.out _)
      · exact hbq.trans ⟨rfl, rfl, rfl, by simp, fun k hk => setRow_other w2 (w.heap.size + 1 + 1) k _ (by omega)⟩

end Go.Proofs.YtdhfddeghnoecaaDoor

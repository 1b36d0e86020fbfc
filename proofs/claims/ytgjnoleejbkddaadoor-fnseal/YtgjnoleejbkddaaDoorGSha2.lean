/- The contract of the program's schedule. -/
import Derived.Test.YtgjnoleejbkddaaDoorGM1
import Derived.Deep.MidRow
import Derived.StillTailTactics
import Derived.Deep.RegionHeld3
namespace Go.Proofs.YtgjnoleejbkddaaDoor
open Go.RowKit Go.My Go.Lib
set_option linter.unusedVariables false

theorem size_u8 : (Tryd.prog.info? 5).map (·.size) = some 1 := by kernel_rfl
theorem size_u32 : (Tryd.prog.info? 64).map (·.size) = some 1 := by kernel_rfl
theorem size_w64 : (Tryd.prog.info? 78).map (·.size) = some 64 := by kernel_rfl
theorem size_b64 : (Tryd.prog.info? 86).map (·.size) = some 64 := by kernel_rfl
theorem size_w8 : (Tryd.prog.info? 80).map (·.size) = some 8 := by kernel_rfl
abbrev Z64 : Array Value := #[Value.int .u32 0, Value.int .u32 0, Value.int .u32 0, Value.int .u32 0, Value.int .u32 0, Value.int .u32 0, Value.int .u32 0, Value.int .u32 0, Value.int .u32 0, Value.int .u32 0, Value.int .u32 0, Value.int .u32 0, Value.int .u32 0, Value.int .u32 0, Value.int .u32 0, Value.int .u32 0, Value.int .u32 0, Value.int .u32 0, Value.int .u32 0, Value.int .u32 0, Value.int .u32 0, Value.int .u32 0, Value.int .u32 0, Value.int .u32 0, Value.int .u32 0, Value.int .u32 0, Value.int .u32 0, Value.int .u32 0, Value.int .u32 0, Value.int .u32 0, Value.int .u32 0, Value.int .u32 0, Value.int .u32 0, Value.int .u32 0, Value.int .u32 0, Value.int .u32 0, Value.int .u32 0, Value.int .u32 0, Value.int .u32 0, Value.int .u32 0, Value.int .u32 0, Value.int .u32 0, Value.int .u32 0, Value.int .u32 0, Value.int .u32 0, Value.int .u32 0, Value.int .u32 0, Value.int .u32 0, Value.int .u32 0, Value.int .u32 0, Value.int .u32 0, Value.int .u32 0, Value.int .u32 0, Value.int .u32 0, Value.int .u32 0, Value.int .u32 0, Value.int .u32 0, Value.int .u32 0, Value.int .u32 0, Value.int .u32 0, Value.int .u32 0, Value.int .u32 0, Value.int .u32 0, Value.int .u32 0]
theorem cell_set_ne {w : World} {g i j : Nat} {v : Value} (u : Value) (h : ¬ i = j) (hc : w.cell? ⟨g, j, none⟩ = some v) : (w.setCell ⟨g, i, none⟩ u).cell? ⟨g, j, none⟩ = some v := by
  rw [World.cell?_setCell_other _ _ _ _ (by simp)]; exact hc
theorem range_below {B g o : Nat} {w w' : World} {cs : List Value} (h : w.rangeAt g o cs) (hb : Below B w w') (hg : g < B) : w'.rangeAt g o cs := fun j v hv => by rw [hb.cell (p := ⟨g, o + j, none⟩) hg]; exact h j v hv

set_option maxHeartbeats 1000000 in
set_option maxRecDepth 100000 in
theorem sched_any (g : Nat) (bk : Nat → Int) (w : World) (hbk : ∀ i, 0 ≤ bk i ∧ bk i ≤ 255) (hblk : w.rangeAt g 8 (bytesL bk)) (hg : g < w.heap.size) :
    Calls Tryd.prog 66 #[.pointer (some ⟨g, 0, none⟩)] w fun e w' => e = .returned (.agg (wordsA 64 (schW (prtW bk 64)))) ∧ Below w.heap.size w w' := by
  go_enter Tryd.func66, Tryd.ntmps66
  go_wp2_with (refine wpList_load_mid (op := ⟨some 14, _, _, _, _, _⟩) rfl 86 _ rfl g 8 rfl (bytesL bk) (.array 64 5) ?c1 Tryd.underlying86 rfl ?c2 ?_)
  case c1 => exact range_below hblk ((Below.refl _ _).alloc (Nat.le_refl _) _ |>.alloc (by simp) _) hg
  case c2 => exact size_b64
  have hz : wordsA 64 (prtW bk 0) = Z64 := by rw [wordsA_congr 64 (g := fun _ => 0) (fun q _ => by unfold prtW; rw [Nat.zero_sub, Nat.min_zero]; rfl)]; rfl
  have hidx := fun (p : Nat) (hp : p < 64) (wx : World) => run_index_arr (P := Tryd.prog) wx 86 5 64 (bytesL bk).toArray .i64 .u8 p (.int .u8 (bk p)) Tryd.underlying86 Tryd.underlying5 size_u8 hp (by simpa using bytesL_get bk p hp)
  have HI := Lib.hid hidx
  have HB := Lib.hid hbk
  clear hidx hbk hblk
  go_loopw [15] (fun i wr => ∃ p : Nat, p ≤ 64 ∧ i = .int .i64 p ∧ wr.heap[w.heap.size + 1]? = some (.cells (wordsA 64 (prtW bk p)) 78 (0, 0)) ∧ wr.heap.size = w.heap.size + 2 ∧ wr.heap[w.heap.size]? = some (.cells Z64 78 (0, 0)) ∧ Below w.heap.size w wr)
    (fun i _ => 64 - (intOf i).toNat)
  case atStart =>
    refine ⟨0, by omega, rfl, ?_, by simp, heap_alloc2_old w _ _, ((Below.refl _ _).alloc (Nat.le_refl _) _).alloc (by simp) _⟩
    rw [hz]
    exact heap_alloc2_new w _ _
  case round =>
    clear hz
    obtain ⟨p, hp, rfl, hw, hsz, hres, hb⟩ := hrel
    by_cases hlt : p < 64
    · have hidx := HI.out p hlt
      obtain ⟨hb0, hb1⟩ := HB.out p
      obtain ⟨hx0, hx1⟩ := prtW_bd bk p (p / 4)
      have hp0 : (p : Int) < 64 := by omega
      have hq0 : (0 : Int) ≤ (p : Int) / 4 := by omega
      have hq1 : (p : Int) / 4 < 64 := by omega
      have hc : wr.cell? ⟨w.heap.size + 1, p / 4, none⟩ = some (.int .u32 (prtW bk p (p / 4))) := by rw [cell_of_row wr _ (p / 4) _ _ _ hw]; exact wordsA_get 64 _ _ (by omega)
      have hf := frozen_of_row wr (w.heap.size + 1) (p / 4) _ _ hw
      have hst := heap_setCell_same wr (w.heap.size + 1) (p / 4) _ _ (.int .u32 (prtW bk (p + 1) (p / 4))) hw
      rw [wordsA_set 64 (prtW bk p) (prtW bk (p + 1)) (p / 4) (by omega) _ rfl (fun j _ hj => prtW_other bk p j hj)] at hst
      have hrs : (wr.setCell ⟨w.heap.size + 1, p / 4, none⟩ (.int .u32 (prtW bk (p + 1) (p / 4)))).heap[w.heap.size]? = some (.cells Z64 78 (0, 0)) := by rw [heap_setCell_other _ _ _ _ (by simp)]; exact hres
      have hb' := hb.setCell (p := ⟨w.heap.size + 1, p / 4, none⟩) (by simp) (.int .u32 (prtW bk (p + 1) (p / 4)))
      have HS := Lib.hid hst
      have HR := Lib.hid hrs
      have HZ := Lib.hid hsz
      rw [prtW_at] at HS HR hb'
      clear hst hrs hres hw hsz hb
      generalize prtW bk p (p / 4) = X at *
      go_wp2
      go_roundw
      case rel => exact ⟨p + 1, by omega, by go_num, HS.out, by have := HZ.out; simpa [World.setCell] using this, HR.out, hb'⟩
      case measure => simp [intOf]; omega
    · have hpe : p = 64 := by omega
      have hpp : (64 : Int) ≤ (p : Int) := by omega
      rw [hpe] at hw
      clear hpe hlt
      have hbm := prtW_bd bk 64
      generalize hM : prtW bk 64 = M at *
      have hw2 : wr.heap[w.heap.size + 1]? = some (.cells (wordsA 64 (schT M 16)) 78 (0, 0)) := by rw [hw, ← hM, schT_start]
      have HM := Lib.hid (schW_bd M hbm)
      have HME := Lib.hid hM
      clear hw hM hbm HI HB
      go_wp2
      obtain ⟨wo, rfl⟩ : ∃ wo : World, wo = wr := ⟨_, rfl⟩
      go_loopw [6] (fun i wr => ∃ i0 : Nat, 16 ≤ i0 ∧ i0 ≤ 64 ∧ i = .int .i64 i0 ∧ wr.heap[w.heap.size + 1]? = some (.cells (wordsA 64 (schT M i0)) 78 (0, 0)) ∧ wr.heap.size = w.heap.size + 2 ∧ wr.heap[w.heap.size]? = some (.cells Z64 78 (0, 0)) ∧ Below w.heap.size w wr)
        (fun i _ => 64 - (intOf i).toNat)
      case atStart => exact ⟨16, by omega, by omega, rfl, hw2, hsz, hres, hb⟩
      case round =>
        clear hw2 hsz hres hb
        obtain ⟨n, hn16, hn64, rfl, hw, hsz, hres, hb⟩ := hrel
        by_cases hlt : n < 64
        · have cell := fun q (hq : q < n) => (cell_of_row wr (w.heap.size + 1) q _ _ _ hw).trans ((wordsA_get 64 _ q (by omega)).trans (by rw [schT_lt M n q hq]))
          have c15 := cell (n - 15) (by omega)
          have c2 := cell (n - 2) (by omega)
          have c16 := cell (n - 16) (by omega)
          have c7 := cell (n - 7) (by omega)
          have hf := frozen_of_row wr (w.heap.size + 1) n _ _ hw
          have hcn : ∃ u, wr.cell? ⟨w.heap.size + 1, n, none⟩ = some u := ⟨_, (cell_of_row wr (w.heap.size + 1) n _ _ _ hw).trans (wordsA_get 64 _ n (by omega))⟩
          obtain ⟨u, hcn⟩ := hcn
          have hst := heap_setCell_same wr (w.heap.size + 1) n _ _ (.int .u32 (schW M n)) hw
          rw [schT_set M n hlt] at hst
          have hrs : (wr.setCell ⟨w.heap.size + 1, n, none⟩ (.int .u32 (schW M n))).heap[w.heap.size]? = some (.cells Z64 78 (0, 0)) := by rw [heap_setCell_other _ _ _ _ (by simp)]; exact hres
          have hb' := hb.setCell (p := ⟨w.heap.size + 1, n, none⟩) (by simp) (.int .u32 (schW M n))
          have HS := Lib.hid hst
          have HR := Lib.hid hrs
          have HZ := Lib.hid hsz
          rw [schW_hi M n hn16] at HS HR hb'
          obtain ⟨a0, a1⟩ := HM.out (n - 15)
          obtain ⟨b0, b1⟩ := HM.out (n - 2)
          obtain ⟨d0, d1⟩ := HM.out (n - 16)
          obtain ⟨e0, e1⟩ := HM.out (n - 7)
          generalize schW M (n - 15) = A at *
          generalize schW M (n - 2) = B at *
          generalize schW M (n - 16) = C at *
          generalize schW M (n - 7) = D at *
          clear cell hst hrs hres hw hsz hb
          have n15 : (0 : Int) ≤ (n : Int) - 15 := by omega
          have n2 : (0 : Int) ≤ (n : Int) - 2 := by omega
          have n16 : (0 : Int) ≤ (n : Int) - 16 := by omega
          have n7 : (0 : Int) ≤ (n : Int) - 7 := by omega
          have m15 : (n : Int) - 15 < 64 := by omega
          have m2 : (n : Int) - 2 < 64 := by omega
          have m16 : (n : Int) - 16 < 64 := by omega
          have m7 : (n : Int) - 7 < 64 := by omega
          have m0 : (n : Int) < 64 := by omega
          have t15 : ((n : Int) - 15).toNat = n - 15 := by omega
          have t2 : ((n : Int) - 2).toNat = n - 2 := by omega
          have t16 : ((n : Int) - 16).toNat = n - 16 := by omega
          have t7 : ((n : Int) - 7).toNat = n - 7 := by omega
          go_wp2
          go_quiet (fail)
          go_wp2_with fail
          refine (rot_impl' A _ 7 25 _ a0 a1 (by decide) (by decide) (by decide) (by decide)).mono ?_
          rintro e w' ⟨rfl, rfl⟩
          go_wp2_with fail
          refine (rot_impl' A _ 18 14 _ a0 a1 (by decide) (by decide) (by decide) (by decide)).mono ?_
          rintro e w' ⟨rfl, rfl⟩
          go_wp2_with fail
          refine (rot_impl' B _ 17 15 _ b0 b1 (by decide) (by decide) (by decide) (by decide)).mono ?_
          rintro e w' ⟨rfl, rfl⟩
          go_wp2_with fail
          refine (rot_impl' B _ 19 13 _ b0 b1 (by decide) (by decide) (by decide) (by decide)).mono ?_
          rintro e w' ⟨rfl, rfl⟩
          have v16 : IntKind.i64.wrap ((n : Int) - 16) = (n : Int) - 16 := IntWalk.i64_in _ (by omega)
          have v7 : IntKind.i64.wrap ((n : Int) - 7) = (n : Int) - 7 := IntWalk.i64_in _ (by omega)
          have k16 : (16 : Int) ≤ (n : Int) := by omega
          have k7 : (7 : Int) ≤ (n : Int) := by omega
          go_wp2
          have z16 : ¬ n - 16 = n := by omega
          have z7 : ¬ n - 7 = n := by omega
          have y16 : ¬ n = n - 16 := by omega
          have y7 : ¬ n = n - 7 := by omega
          go_region_held3 (fun w' => w'.cell? ⟨w.heap.size + 1, n - 16, none⟩ = some (.int .u32 C) ∧ w'.cell? ⟨w.heap.size + 1, n - 7, none⟩ = some (.int .u32 D)) (first | exact ⟨c16, c7⟩ | exact ⟨cell_set_ne _ y16 c16, cell_set_ne _ y7 c7⟩) ((fail))
          go_wp2
          go_roundw
          case rel => exact ⟨n + 1, by omega, by omega, by go_num, HS.out, by have := HZ.out; simpa [World.setCell] using this, HR.out, ⟨hb'.os, hb'.tape, hb'.output, hb'.size, hb'.block⟩⟩
          case measure => simp [intOf]; omega
        · have hne : n = 64 := by omega
          have hpn : (64 : Int) ≤ (n : Int) := by omega
          rw [hne, schT_end, ← HME.out] at hw
          clear hne hlt HME HM
          generalize hRe : schW (prtW bk 64) = R at hw
          have HRE := Lib.hid hRe
          clear hRe
          have h64 : (Tryd.prog.info? 78).map (·.size) = some (wordsA 64 R).size := by rw [wordsA_size]; exact size_w64
          have hzs : Z64.size = (wordsA 64 R).size := by rw [wordsA_size]; rfl
          have h1c := wordsA_one 64 R
          have H64 := Lib.hid h64
          have HZS := Lib.hid hzs
          have H1C := Lib.hid h1c
          clear h64 hzs h1c
          go_wp2_with (first
            | with_reducible refine wpList_load_row (o := ⟨some 74, _, _, _, _, _⟩) rfl 78 _ rfl (w.heap.size + 1) rfl 78 (wordsA 64 R) (0, 0) (.array 64 64) hw Tryd.underlying78 rfl H64.out ?_
            | with_reducible (refine wpList_store_row (o := ⟨none, .store 78 _ _, _, _, _, _⟩) rfl 78 _ _ rfl w.heap.size (wordsA 64 R) rfl rfl 78 Z64 hres H64.out HZS.out H1C.out ?_))
          have hrow := setRow_heap wr w.heap.size Z64 (wordsA 64 R) 78 (0, 0) hres
          refine bodyPost_ret (v := .agg (wordsA 64 R)) ?_ rfl ⟨by rw [HRE.out], ?_⟩
          · exact results_cell_row Tryd.results66 _ _ w.heap.size 78 _ (0, 0) _ rfl hrow Tryd.underlying78 rfl H64.out
          · exact hb.trans ⟨rfl, rfl, rfl, by simp, fun k hk => setRow_other wr w.heap.size k _ (by omega)⟩

end Go.Proofs.YtgjnoleejbkddaaDoor

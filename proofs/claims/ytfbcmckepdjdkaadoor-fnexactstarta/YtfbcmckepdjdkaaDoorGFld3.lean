/- The contract of the field's product. -/
import Derived.Test.YtfbcmckepdjdkaaDoorGM0
import Derived.Test.YtfbcmckepdjdkaaDoorGM1
namespace Go.Proofs.YtfbcmckepdjdkaaDoor
open Go.RowKit Go.My Go.Lib
set_option linter.unusedVariables false

abbrev Z8w : Array Value := #[Value.int .u64 0, Value.int .u64 0, Value.int .u64 0, Value.int .u64 0, Value.int .u64 0, Value.int .u64 0, Value.int .u64 0, Value.int .u64 0]
theorem size_f8 : (Tryd.prog.info? 205).map (·.size) = some 8 := by kernel_rfl
theorem f8sz (f : Nat → Int) : (Tryd.prog.info? 205).map (·.size) = some (rwA .u64 8 f).size := by rw [rwA_size]; exact size_f8
theorem al4_0 (w : World) (A B C D : Obj) : ((((w.alloc A).alloc B).alloc C).alloc D).heap[w.heap.size]? = some A := by
  rw [Below.heap_alloc _ _ _ (by simp; omega)]; exact al3_0 w A B C
theorem al4_1 (w : World) (A B C D : Obj) : ((((w.alloc A).alloc B).alloc C).alloc D).heap[w.heap.size + 1]? = some B := by
  rw [Below.heap_alloc _ _ _ (by simp)]; exact al3_1 w A B C
theorem al4_2 (w : World) (A B C D : Obj) : ((((w.alloc A).alloc B).alloc C).alloc D).heap[w.heap.size + 1 + 1]? = some C := by
  rw [Below.heap_alloc _ _ _ (by simp)]; exact al3_2 w A B C
theorem al4_3 (w : World) (A B C D : Obj) : ((((w.alloc A).alloc B).alloc C).alloc D).heap[w.heap.size + 1 + 1 + 1]? = some D := by
  have := heap_alloc_new (((w.alloc A).alloc B).alloc C) D
  simpa using this

theorem cell_set_blk {w : World} {a b : Addr} {v : Value} (u : Value) (h : b.block ≠ a.block) (hc : w.cell? b = some v) : (w.setCell a u).cell? b = some v := by
  rw [World.cell?_of_block (a := b) (heap_setCell_other w a b.block u h)]; exact hc

theorem orTop (c l : Nat) (hc : c ≤ 38) (hl : l < 18446744073709551616) : bits .or .u64 ((c : Int) * 2) ((l : Int) / 9223372036854775808) = ((2 * c + l / 9223372036854775808 : Nat) : Int) := by
  have e1 : (c : Int) * 2 = ((2 * c : Nat) : Int) := by omega
  have e2 : (l : Int) / 9223372036854775808 = ((l / 9223372036854775808 : Nat) : Int) := by omega
  rw [e1, e2, u64_or_nat _ _ (by omega) (by omega), nat_join 1 (2 * c) (l / 9223372036854775808) (by omega) (by omega)]
theorem notTop (l : Nat) (hl : l < 18446744073709551616) : bits .andNot .u64 (l : Int) 9223372036854775808 = ((l % 9223372036854775808 : Nat) : Int) := by
  have := u64_andNot_nat l 9223372036854775808 hl (by omega)
  rw [show 18446744073709551615 - 9223372036854775808 = 2 ^ 63 - 1 from rfl, Nat.and_two_pow_sub_one_eq_mod] at this
  exact this
theorem fld_small (n : Nat) (h : n < 18446744073709551616) : #[Value.int .u64 (n : Int), Value.int .u64 0, Value.int .u64 0, Value.int .u64 0] = fldA n := by
  have e0 : lw n 0 = n := by simp only [lw]; omega
  have e1 : lw n 1 = 0 := by simp only [lw]; omega
  have e2 : lw n 2 = 0 := by simp only [lw]; omega
  have e3 : lw n 3 = 0 := by simp only [lw]; omega
  show _ = #[Value.int .u64 (lw n 0 : Int), Value.int .u64 (lw n 1 : Int), Value.int .u64 (lw n 2 : Int), Value.int .u64 (lw n 3 : Int)]
  rw [e0, e1, e2, e3]
  rfl

theorem fld_19 (T : Nat) (h : T ≤ 77) : #[Value.int .u64 (19 * (T : Int)), Value.int .u64 0, Value.int .u64 0, Value.int .u64 0] = fldA (19 * T) := by
  have := fld_small (19 * T) (by omega)
  rw [Int.natCast_mul] at this
  exact this

set_option maxHeartbeats 4000000 in
theorem folded_any (f : Nat → Nat) (w : World) (hf : ∀ q, f q < U64) (hp : TabP w) :
    Calls Tryd.prog 195 #[.agg (rwA .u64 8 (fun q => (f q : Int)))] w fun e w' => e = .returned (.agg (fldA (V8 f % P25n))) ∧ Below w.heap.size w w' := by
  have HFN := Lib.hid (fun m => fszN m)
  have HFS := Lib.hid (fold_sum f hf)
  have HCF := Lib.hid (cF_le f hf)
  have HU := Lib.hid hf
  rw [← (fold_sum f hf).2]
  clear hf
  go_enter Tryd.func195, Tryd.ntmps195
  go_wp2
  go_loopw [4, 7] (fun c i wr => ∃ j : Nat, j ≤ 4 ∧ i = .int .i64 j ∧ c = .int .u64 (cF f j : Int) ∧ wr.heap[w.heap.size + 1 + 1]? = some (.cells (rwA .u64 4 (upTo j (fun q => (lF f q : Int)) (fun _ => 0))) 97 (0, 0)) ∧ wr.heap[w.heap.size]? = some (.cells (rwA .u64 8 (fun q => (f q : Int))) 205 (0, 0)) ∧ wr.heap[w.heap.size + 1]? = some (.cells Z4 97 (0, 0)) ∧ Below w.heap.size w wr)
    (fun _ i _ => 4 - (intOf i).toNat)
  case atStart => exact ⟨0, by omega, rfl, rfl, by rw [upTo_zero]; exact al3_2 w _ _ _, al3_0 w _ _ _, al3_1 w _ _ _, (((Below.refl _ _).alloc (Nat.le_refl _) _).alloc (by simp) _).alloc (by simp; omega) _⟩
  case round =>
    obtain ⟨j, hj, rfl, rfl, hl, ha, hz, hb⟩ := hrel
    by_cases hlt : j < 4
    · have c1 := (cell_of_row wr w.heap.size (j + 4) _ _ _ ha).trans (rwA_get .u64 8 _ (j + 4) (by omega))
      have c2 := (cell_of_row wr w.heap.size j _ _ _ ha).trans (rwA_get .u64 8 _ j (by omega))
      have hcell := (cell_of_row wr (w.heap.size + 1 + 1) j _ _ _ hl).trans (rwA_get .u64 4 _ j hlt)
      rw [upTo_at] at hcell
      have hfz := frozen_of_row wr (w.heap.size + 1 + 1) j _ _ hl
      have hst := heap_setCell_same wr (w.heap.size + 1 + 1) j _ _ (.int .u64 (lF f j : Int)) hl
      rw [upTo_set .u64 4 j (fun q => (lF f q : Int)) (fun _ => 0) hlt] at hst
      have ha' : (wr.setCell ⟨w.heap.size + 1 + 1, j, none⟩ (.int .u64 (lF f j : Int))).heap[w.heap.size]? = _ := (heap_setCell_other wr _ _ _ (by simp; omega)).trans ha
      have hz' : (wr.setCell ⟨w.heap.size + 1 + 1, j, none⟩ (.int .u64 (lF f j : Int))).heap[w.heap.size + 1]? = _ := (heap_setCell_other wr _ _ _ (by simp)).trans hz
      have hb' := hb.setCell (p := ⟨w.heap.size + 1 + 1, j, none⟩) (by simp; omega) (.int .u64 (lF f j : Int))
      have HPP := Lib.hid (fun wx => pp_any (f (j + 4)) 38 (f j) (cF f j) wx (HU.out _) (by decide) (HU.out _) (by have := HCF.out j; unfold U64; omega))
      have e1 : (f (j + 4) * 38 + f j + cF f j) / 18446744073709551616 = cF f (j + 1) := rfl
      have e2 : (f (j + 4) * 38 + f j + cF f j) % 18446744073709551616 = lF f j := rfl
      rw [e1, e2] at HPP
      have HR := Lib.hid (And.intro hst (And.intro ha' (And.intro hz' hb')))
      have j0 : (0 : Int) ≤ (j : Int) := by omega
      have j1 : (j : Int) < 4 := by omega
      have j4 : (j : Int) + 4 < 8 := by omega
      have j5 : (0 : Int) ≤ (j : Int) + 4 := by omega
      have j8 : (j : Int) < 8 := by omega
      have jt : ((j : Int) + 4).toNat = j + 4 := by omega
      have jw : IntKind.i64.wrap ((j : Int) + 4) = (j : Int) + 4 := IntWalk.i64_in _ (by omega)
      clear hst ha' hz' hb' hl ha hz hb e1 e2
      generalize lF f j = D at *
      generalize hB1 : cF f (j + 1) = B1 at *
      generalize cF f j = B0 at *
      generalize f (j + 4) = X1 at *
      generalize f j = X2 at *
      have HB1 := Lib.hid hB1
      clear hB1
      go_wp2
      go_region_held3 (fun w' => w'.cell? ⟨w.heap.size, j + 4, none⟩ = some (.int .u64 (X1 : Int)) ∧ w'.cell? ⟨w.heap.size, j, none⟩ = some (.int .u64 (X2 : Int))) (first | exact ⟨c1, c2⟩ | exact ⟨cell_set_blk _ (by simp; omega) c1, cell_set_blk _ (by simp; omega) c2⟩) ((go_at_call 194; refine (HPP.out _).mono ?_; rintro e w' ⟨rfl, rfl⟩))
      go_wp2
      go_roundw
      case rel => exact ⟨j + 1, by omega, by go_num, by rw [HB1.out], HR.out.1, HR.out.2.1, HR.out.2.2.1, HR.out.2.2.2.drew⟩
      case measure => simp [intOf]; omega
    · have hje : j = 4 := by omega
      have hpj : (4 : Int) ≤ (j : Int) := by omega
      rw [hje, upTo_all] at hl
      have H1N := Lib.hid (fun m => oneN m)
      have HZN := Lib.hid (fun m => zszN m)
      have hc4 : cF f j = cF f 4 := by rw [hje]
      rw [hc4]
      clear hlt hj hc4
      have c3 := (cell_of_row wr (w.heap.size + 1 + 1) 3 _ _ _ hl).trans (rwA_get .u64 4 _ 3 (by omega))
      have f3 := frozen_of_row wr (w.heap.size + 1 + 1) 3 _ _ hl
      have hot := orTop (cF f 4) (lF f 3) (HCF.out 4) (lF_lt f 3)
      have hnt := notTop (lF f 3) (lF_lt f 3)
      have hst := heap_setCell_same wr (w.heap.size + 1 + 1) 3 _ _ (.int .u64 ((lF f 3 % 9223372036854775808 : Nat) : Int)) hl
      rw [rwA_set .u64 4 (fun q => (lF f q : Int)) (fun q => (lowF f q : Int)) 3 (by omega) ((lF f 3 % 9223372036854775808 : Nat) : Int) rfl (fun k _ hk => by show ((lowF f k : Nat) : Int) = ((lF f k : Nat) : Int); unfold lowF; rw [if_neg hk]), fld_of (fun q _ => lowF_lt f q) rfl] at hst
      have hz' : (wr.setCell ⟨w.heap.size + 1 + 1, 3, none⟩ (.int .u64 ((lF f 3 % 9223372036854775808 : Nat) : Int))).heap[w.heap.size + 1]? = _ := (heap_setCell_other wr _ _ _ (by simp)).trans hz
      have hb' := hb.setCell (p := ⟨w.heap.size + 1 + 1, 3, none⟩) (by simp; omega) (.int .u64 ((lF f 3 % 9223372036854775808 : Nat) : Int))
      have htop : (2 * cF f 4 + lF f 3 / 9223372036854775808) = topF f := rfl
      rw [htop] at hot
      have hT := topF_le f HU.out
      have HPL := Lib.hid (fun wx hx => plus_any (V4 (lowF f)) (19 * topF f) wx HFS.out.1 (hp.below hx hp.1))
      have hmul : IntKind.u64.wrap (19 * (topF f : Int)) = ((19 * topF f : Nat) : Int) := by rw [IntKind.wrap_u64]; omega
      have HSM := Lib.hid (fld_19 (topF f) hT)
      have lb0 : (0 : Int) ≤ ((lF f 3 : Nat) : Int) := by omega
      have lb1 : ((lF f 3 : Nat) : Int) ≤ 18446744073709551615 := by have := lF_lt f 3; unfold U64 at this; omega
      have cb1 : ((cF f 4 : Nat) : Int) ≤ 38 := by have := HCF.out 4; omega
      clear hT htop hl hz hb HCF HU
      generalize hTT : topF f = T at *
      have HTT := Lib.hid hTT
      clear hTT
      generalize (lF f 3 % 9223372036854775808 : Nat) = L3 at *
      generalize lF f 3 = LF3 at *
      generalize cF f 4 = C4 at *
      go_wp2_with (first
        | with_reducible refine wpList_load_row (o := ⟨some 35, _, _, _, _, _⟩) rfl 97 _ rfl (w.heap.size + 1 + 1) rfl 97 (fldA (V4 (lowF f))) (0, 0) (.array 4 95) hst Tryd.underlying97 rfl (HFN.out _) ?_
        | fail)
      rw [HSM.out]
      refine (HPL.out _ hb').mono ?_
      rintro e w2 ⟨rfl, hb2⟩
      have hz2 : w2.heap[w.heap.size + 1]? = some (.cells Z4 97 (0, 0)) := by rw [hb2.block _ (Array.getElem?_eq_some_iff.1 hz').1]; exact hz'
      have hbq := hb'.trans (hb2.mono hb'.size)
      clear hst hz' hb' hb2
      go_wp2_with (first
        | with_reducible (refine wpList_store_row (o := ⟨none, .store 97 _ _, _, _, _, _⟩) rfl 97 _ _ rfl (w.heap.size + 1) (fldA (redF (V4 (lowF f) + 19 * T))) rfl rfl 97 Z4 hz2 (HFN.out _) (HZN.out _) (H1N.out _) ?_))
      have hrow := setRow_heap w2 (w.heap.size + 1) Z4 (fldA (redF (V4 (lowF f) + 19 * T))) 97 (0, 0) hz2
      refine bodyPost_ret (v := .agg (fldA (redF (V4 (lowF f) + 19 * T)))) ?_ rfl ⟨by rw [HTT.out], ?_⟩
      · exact results_cell_row Tryd.results195 _ _ (w.heap.size + 1) 97 _ (0, 0) _ rfl hrow Tryd.underlying97 rfl (HFN.out _)
      · exact hbq.trans ⟨rfl, rfl, rfl, by simp, fun k hk => setRow_other w2 (w.heap.size + 1) k _ (by omega)⟩

set_option maxHeartbeats 4000000 in
theorem times_any (a b : Nat) (w : World) (ha : a < W256) (hb : b < W256) (hp : TabP w) :
    Calls Tryd.prog 178 #[.agg (fldA a), .agg (fldA b)] w fun e w' => e = .returned (.agg (fldA (a * b % P25n))) ∧ Below w.heap.size w w' := by
  have HFN := Lib.hid (fun m => fszN m)
  have HF := Lib.hid (fun f => fsz f)
  have HX := Lib.hid (fun f i hi wx => fidx f i hi wx)
  have HF8 := Lib.hid (fun f => f8sz f)
  have HV := Lib.hid (times_val a b ha hb)
  have HGA : Hid (fldA a = rwA .u64 4 (fun q => (lw a q : Int))) := rfl
  have HGB : Hid (fldA b = rwA .u64 4 (fun q => (lw b q : Int))) := rfl
  have HLT := Lib.hid (rowsM_lt (lw a) (lw b) (lw_lt a) (lw_lt b))
  clear ha hb
  rw [← HV.out, HGA.out, HGB.out]
  go_enter Tryd.func178, Tryd.ntmps178
  go_wp2_with (first
    | with_reducible refine wpList_load_row (o := ⟨some 11, _, _, _, _, _⟩) rfl 97 _ rfl w.heap.size rfl 97 (rwA .u64 4 (fun q => (lw a q : Int))) (0, 0) (.array 4 95) (al4_0 w _ _ _ _) Tryd.underlying97 rfl (HF.out _) ?_)
  go_loopw [12] (fun i wr => ∃ n : Nat, n ≤ 4 ∧ i = .int .i64 n ∧ wr.heap[w.heap.size + 1 + 1 + 1]? = some (.cells (rwA .u64 8 (fun q => (rowsM (lw a) (lw b) n q : Int))) 205 (0, 0)) ∧ wr.heap[w.heap.size + 1]? = some (.cells (rwA .u64 4 (fun q => (lw b q : Int))) 97 (0, 0)) ∧ wr.heap[w.heap.size + 1 + 1]? = some (.cells Z4 97 (0, 0)) ∧ Below w.heap.size w wr)
    (fun i _ => 4 - (intOf i).toNat)
  case atStart => exact ⟨0, by omega, rfl, al4_3 w _ _ _ _, al4_1 w _ _ _ _, al4_2 w _ _ _ _, ((((Below.refl _ _).alloc (Nat.le_refl _) _).alloc (by simp) _).alloc (by simp; omega) _).alloc (by simp; omega) _⟩
  case round =>
    obtain ⟨n, hn, rfl, hw, hbb, hz, hb⟩ := hrel
    by_cases hlt : n < 4
    · have hidx := HX.out (fun q => (lw a q : Int)) n hlt
      have n0 : (0 : Int) ≤ (n : Int) := by omega
      have n4 : (n : Int) < 4 := by omega
      have HFL := Lib.hid (HLT.out n)
      have HROW : Hid (rowsM (lw a) (lw b) (n + 1) = rowM (lw b) (rowsM (lw a) (lw b) n) (lw a n) n) := rfl
      have HAN := Lib.hid (lw_lt a n)
      generalize rowsM (lw a) (lw b) n = f at *
      go_wp2_with (first
        | with_reducible refine wpList_load_row (o := ⟨some 16, _, _, _, _, _⟩) rfl 97 _ rfl (w.heap.size + 1) rfl 97 (rwA .u64 4 (fun q => (lw b q : Int))) (0, 0) (.array 4 95) hbb Tryd.underlying97 rfl (HF.out _) ?_
        | fail)
      obtain ⟨wo, rfl⟩ : ∃ wo : World, wo = wr := ⟨_, rfl⟩
      go_loopw [8, 17] (fun c i wr => ∃ j : Nat, j ≤ 4 ∧ i = .int .i64 j ∧ c = .int .u64 (cM (lw b) f (lw a n) n j : Int) ∧ wr.heap[w.heap.size + 1 + 1 + 1]? = some (.cells (rwA .u64 8 (fun q => (inM (lw b) f (lw a n) n j q : Int))) 205 (0, 0)) ∧ wr.heap[w.heap.size + 1]? = some (.cells (rwA .u64 4 (fun q => (lw b q : Int))) 97 (0, 0)) ∧ wr.heap[w.heap.size + 1 + 1]? = some (.cells Z4 97 (0, 0)) ∧ Below w.heap.size w wr)
        (fun _ i _ => 4 - (intOf i).toNat)
      case atStart => exact ⟨0, by omega, rfl, rfl, by rw [inM_zero]; exact hw, hbb, hz, hb⟩
      case round =>
        clear hw hbb hz hb hidx
        obtain ⟨j, hj, rfl, rfl, hw, hbb, hz, hb⟩ := hrel
        by_cases hjl : j < 4
        · have hidx := HX.out (fun q => (lw b q : Int)) j hjl
          have c1 := (cell_of_row wr (w.heap.size + 1 + 1 + 1) (n + j) _ _ _ hw).trans (rwA_get .u64 8 _ (n + j) (by omega))
          rw [inM_at] at c1
          have hfz := frozen_of_row wr (w.heap.size + 1 + 1 + 1) (n + j) _ _ hw
          have hst := heap_setCell_same wr (w.heap.size + 1 + 1 + 1) (n + j) _ _ (.int .u64 (rM (lw b) f (lw a n) n j : Int)) hw
          rw [inM_set (lw b) f (lw a n) n j (by omega)] at hst
          have hbb' : (wr.setCell ⟨w.heap.size + 1 + 1 + 1, n + j, none⟩ (.int .u64 (rM (lw b) f (lw a n) n j : Int))).heap[w.heap.size + 1]? = _ := (heap_setCell_other wr _ _ _ (by simp)).trans hbb
          have hz' : (wr.setCell ⟨w.heap.size + 1 + 1 + 1, n + j, none⟩ (.int .u64 (rM (lw b) f (lw a n) n j : Int))).heap[w.heap.size + 1 + 1]? = _ := (heap_setCell_other wr _ _ _ (by simp)).trans hz
          have hb' := hb.setCell (p := ⟨w.heap.size + 1 + 1 + 1, n + j, none⟩) (by simp; omega) (.int .u64 (rM (lw b) f (lw a n) n j : Int))
          have HPP := Lib.hid (fun wx => pp_any (lw a n) (lw b j) (f (n + j)) (cM (lw b) f (lw a n) n j) wx HAN.out (lw_lt b j) (HFL.out _) (cM_lt _ _ _ _ _ HAN.out (lw_lt b) HFL.out))
          have e1 : (lw a n * lw b j + f (n + j) + cM (lw b) f (lw a n) n j) / 18446744073709551616 = cM (lw b) f (lw a n) n (j + 1) := rfl
          have e2 : (lw a n * lw b j + f (n + j) + cM (lw b) f (lw a n) n j) % 18446744073709551616 = rM (lw b) f (lw a n) n j := rfl
          rw [e1, e2] at HPP
          have HR := Lib.hid (And.intro hst (And.intro hbb' (And.intro hz' hb')))
          have j0 : (0 : Int) ≤ (j : Int) := by omega
          have j1 : (j : Int) < 4 := by omega
          have s0 : (0 : Int) ≤ (n : Int) + (j : Int) := by omega
          have s1 : (n : Int) + (j : Int) < 8 := by omega
          have st : ((n : Int) + (j : Int)).toNat = n + j := by omega
          have sw : IntKind.i64.wrap ((n : Int) + (j : Int)) = (n : Int) + (j : Int) := IntWalk.i64_in _ (by omega)
          clear hst hbb' hz' hb' hw hbb hz hb e1 e2
          generalize rM (lw b) f (lw a n) n j = D at *
          generalize hB1 : cM (lw b) f (lw a n) n (j + 1) = B1 at *
          generalize cM (lw b) f (lw a n) n j = B0 at *
          generalize f (n + j) = X1 at *
          have HB1 := Lib.hid hB1
          clear hB1
          go_wp2_with fail
          refine (HPP.out _).mono ?_
          rintro e w' ⟨rfl, rfl⟩
          go_wp2
          go_roundw
          case rel => exact ⟨j + 1, by omega, by go_num, by rw [HB1.out], HR.out.1, HR.out.2.1, HR.out.2.2.1, HR.out.2.2.2⟩
          case measure => simp [intOf]; omega
        · have hje : j = 4 := by omega
          have hpj : (4 : Int) ≤ (j : Int) := by omega
          have HJ := Lib.hid hje
          rw [hje] at hw
          have hce : cM (lw b) f (lw a n) n j = cM (lw b) f (lw a n) n 4 := by rw [hje]
          rw [hce]
          have c1 := (cell_of_row wr (w.heap.size + 1 + 1 + 1) (n + 4) _ _ _ hw).trans (rwA_get .u64 8 _ (n + 4) (by omega))
          have hfz := frozen_of_row wr (w.heap.size + 1 + 1 + 1) (n + 4) _ _ hw
          have hst := heap_setCell_same wr (w.heap.size + 1 + 1 + 1) (n + 4) _ _ (.int .u64 (cM (lw b) f (lw a n) n 4 : Int)) hw
          rw [rowM_set (lw b) f (lw a n) n (by omega)] at hst
          have hbb' : (wr.setCell ⟨w.heap.size + 1 + 1 + 1, n + 4, none⟩ (.int .u64 (cM (lw b) f (lw a n) n 4 : Int))).heap[w.heap.size + 1]? = _ := (heap_setCell_other wr _ _ _ (by simp)).trans hbb
          have hz' : (wr.setCell ⟨w.heap.size + 1 + 1 + 1, n + 4, none⟩ (.int .u64 (cM (lw b) f (lw a n) n 4 : Int))).heap[w.heap.size + 1 + 1]? = _ := (heap_setCell_other wr _ _ _ (by simp)).trans hz
          have hb' := hb.setCell (p := ⟨w.heap.size + 1 + 1 + 1, n + 4, none⟩) (by simp; omega) (.int .u64 (cM (lw b) f (lw a n) n 4 : Int))
          have HR := Lib.hid (And.intro hst (And.intro hbb' (And.intro hz' hb')))
          have s0 : (0 : Int) ≤ (n : Int) + 4 := by omega
          have s1 : (n : Int) + 4 < 8 := by omega
          have st : ((n : Int) + 4).toNat = n + 4 := by omega
          have sw : IntKind.i64.wrap ((n : Int) + 4) = (n : Int) + 4 := IntWalk.i64_in _ (by omega)
          clear hst hbb' hz' hb' hw hbb hz hb hce hje hjl
          generalize cM (lw b) f (lw a n) n 4 = C4 at *
          go_wp2
          go_roundw
          case rel => exact ⟨n + 1, by omega, by go_num, by rw [HROW.out]; exact HR.out.1, HR.out.2.1, HR.out.2.2.1, HR.out.2.2.2⟩
          case measure => simp [intOf]; omega
    · have hne : n = 4 := by omega
      have hpn : (4 : Int) ≤ (n : Int) := by omega
      rw [hne] at hw
      have H1N := Lib.hid (fun m => oneN m)
      have HZN := Lib.hid (fun m => zszN m)
      have HFO := Lib.hid (fun wx hx => folded_any (rowsM (lw a) (lw b) 4) wx (HLT.out 4) (hp.below hx hp.1))
      clear hlt hn hne hbb
      generalize hM : rowsM (lw a) (lw b) 4 = M at *
      have HM := Lib.hid hM
      clear hM
      go_wp2_with (first
        | with_reducible refine wpList_load_row (o := ⟨some 43, _, _, _, _, _⟩) rfl 205 _ rfl (w.heap.size + 1 + 1 + 1) rfl 205 (rwA .u64 8 (fun q => (M q : Int))) (0, 0) (.array 8 95) hw Tryd.underlying205 rfl (HF8.out _) ?_
        | fail)
      refine (HFO.out _ hb).mono ?_
      rintro e w2 ⟨rfl, hb2⟩
      have hz2 : w2.heap[w.heap.size + 1 + 1]? = some (.cells Z4 97 (0, 0)) := by rw [hb2.block _ (Array.getElem?_eq_some_iff.1 hz).1]; exact hz
      have hbq := hb.trans (hb2.mono hb.size)
      clear hw hz hb hb2
      go_wp2_with (first
        | with_reducible (refine wpList_store_row (o := ⟨none, .store 97 _ _, _, _, _, _⟩) rfl 97 _ _ rfl (w.heap.size + 1 + 1) (fldA (V8 M % P25n)) rfl rfl 97 Z4 hz2 (HFN.out _) (HZN.out _) (H1N.out _) ?_))
      have hrow := setRow_heap w2 (w.heap.size + 1 + 1) Z4 (fldA (V8 M % P25n)) 97 (0, 0) hz2
      refine bodyPost_ret (v := .agg (fldA (V8 M % P25n))) ?_ rfl ⟨by rw [HM.out], ?_⟩
      · exact results_cell_row Tryd.results178 _ _ (w.heap.size + 1 + 1) 97 _ (0, 0) _ rfl hrow Tryd.underlying97 rfl (HFN.out _)
      · exact hbq.trans ⟨rfl, rfl, rfl, by simp, fun k hk => setRow_other w2 (w.heap.size + 1 + 1) k _ (by omega)⟩

end Go.Proofs.YtfbcmckepdjdkaaDoor

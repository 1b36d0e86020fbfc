/- The contract of the specification's l3Write. -/
import Derived.Test.YtfbcmckepdjdkaaDoorGLim4
import Derived.Test.YtfbcmckepdjdkaaDoorGLim5
namespace Go.Proofs.YtfbcmckepdjdkaaDoor
open Go.RowKit Go.My Go.Lib
set_option linter.unusedVariables false

/-- The number that ten limbs stand for. -/
def rN (h : Nat → Int) : Nat := (VL h % 57896044618658097711785492504343953926634992332820282019728792003956564819949).toNat
theorem rN_lt (h : Nat → Int) : rN h < P25n := by unfold rN P25n; omega
theorem full_rN (h : Nat → Int) (hM : ∀ q, q < 10 → -7205759403792793600 ≤ h q ∧ h q ≤ 7205759403792793600) (i : Nat) (hi : i < 10) : fullL (crR h 20) i = digZ (rN h) i := by
  have hl := carried h hM
  have hr := q_range (crR h 20) hl
  obtain ⟨k, hk⟩ := crR_mod h 20
  refine full_dig (crR h 20) hl (rN h) ?_ i hi
  unfold rN
  rw [hk] at hr ⊢
  generalize VL h = V at *
  generalize qF (crR h 20) 10 = Q at *
  omega
theorem full_row (h : Nat → Int) (hM : ∀ q, q < 10 → -7205759403792793600 ≤ h q ∧ h q ≤ 7205759403792793600) : rwA .i64 10 (fullL (crR h 20)) = rwA .i64 10 (digZ (rN h)) := rwA_congr _ _ (fun i hi => full_rN h hM i hi)
theorem info_u8v : (Tryd.prog.info? 5).map (fun i => (i.zero, i.size, i.bytes)) = some (some (.int .u8 0), 1, 1) := by kernel_rfl
theorem by_set (r A : Nat) (hA : A < 256) : (rwA .u8 32 (fun j => (byF (r % 2 ^ A) j : Int))).setIfInBounds (A / 8) (.int .u8 ((byF (r % 2 ^ (A + 1)) (A / 8) : Nat) : Int)) = rwA .u8 32 (fun j => (byF (r % 2 ^ (A + 1)) j : Int)) :=
  rwA_set _ _ _ _ (A / 8) (by omega) _ rfl (fun q _ hq => by
    show ((byF (r % 2 ^ (A + 1)) q : Nat) : Int) = ((byF (r % 2 ^ A) q : Nat) : Int)
    rw [mod_step, byF_other _ _ _ _ (Nat.mod_lt _ (Nat.pow_pos (by decide))) (Nat.mod_lt _ (by decide)) hq])
theorem by_zero : (cellsOf (List.replicate 32 0)).toArray = rwA .u8 32 (fun j => (byF 0 j : Int)) := by kernel_rfl

set_option maxRecDepth 100000 in
set_option maxHeartbeats 4000000 in
theorem write_any (h : Nat → Int) (w : World) (hM : ∀ q, q < 10 → -7205759403792793600 ≤ h q ∧ h q ≤ 7205759403792793600) :
    Calls Tryd.prog 127 #[.agg (rwA .i64 10 h)] w fun e w' => e = .returned (.string (str (leB (rN h) 32))) ∧ Below w.heap.size w w' := by
  obtain ⟨i0, hi, hz0, hz1, hz2⟩ := info_parts info_u8v
  have HFU := Lib.hid (fun wx => full_any h wx hM)
  rw [full_row h hM] at HFU
  have HRL := Lib.hid (rN_lt h)
  clear hM
  generalize rN h = r at *
  go_enter Tryd.func127, Tryd.ntmps127
  go_wp2_with (first
    | with_reducible refine wpList_load_row (o := ⟨some 7, _, _, _, _, _⟩) rfl 134 _ rfl w.heap.size rfl 134 (rwA .i64 10 h) (0, 0) (.array 10 2) (heap_alloc_new w _) Tryd.underlying134 rfl (l10sz _) ?_
    | fail)
  refine (HFU.out _).mono ?_
  rintro e w1 ⟨rfl, hb1⟩
  have hr1 : w1.heap[w.heap.size]? = some (.cells (rwA .i64 10 h) 134 (0, 0)) := (hb1.block _ (by simp)).trans (heap_alloc_new w _)
  have hbb1 : Below w.heap.size w w1 := ((Below.refl _ _).alloc (Nat.le_refl _) _).trans (hb1.mono (by simp))
  have HB1 := Lib.hid hbb1
  clear hb1 HFU hbb1
  go_wp2_with (first
    | ((with_reducible refine wpList_store_row' (o := ⟨none, .store 134 _ _, _, _, _, _⟩) rfl 134 _ _ rfl w.heap.size (rwA .i64 10 (digZ r)) rfl rfl 134 (rwA .i64 10 h) hr1 (l10sz _) (l10same _ _) (l10one _) ?_); intro w2 hw2 hs2 hg2; clear hs2)
    | (at_make; refine wpList_make_full _ rfl _ _ 39 rfl w2.heap.size 5 i0 (.int .u8 0) 1 Tryd.underlying39 hi hz0 hz1 .i64 .i64 _ _ 32 rfl rfl rfl rfl ?c2 ?c3 ?c4 ?_))
  case c2 => rw [hz2]; omega
  case c3 => unfold maxLen; omega
  case c4 => exact Nat.le_refl _
  intro w3 hown hgrow
  have hb2 : Below w.heap.size w w2 := HB1.out.grown hg2 HB1.out.size (by intro k hk; have := Option.some.inj hk; omega)
  have hl2 : w.heap.size < w2.heap.size := (Array.getElem?_eq_some_iff.1 hw2).1
  have hb23 : Below w2.heap.size w2 w3 := (Below.refl _ _).grown hgrow (Nat.le_refl _) (by simp)
  have hw3 : w3.heap[w.heap.size]? = some (.cells (rwA .i64 10 (digZ r)) 134 (0, 0)) := (hb23.block _ hl2).trans hw2
  have hb3 : Below w.heap.size w w3 := hb2.trans (hb23.mono hb2.size)
  have hrow : w3.heap[w2.heap.size]? = some (.cells (cellsOf (List.replicate 32 0)).toArray 5 (0, 0)) := by
    obtain ⟨hl, hc⟩ := hown
    rcases hc with ⟨hv, _⟩ | ⟨g, cap, cur, hv, hb, hg, h1, h2, h3, h4⟩
    · exact absurd hv (by simp)
    · obtain ⟨⟨rfl⟩, _, rfl⟩ : some (⟨w2.heap.size, 0, none⟩ : Addr) = some ⟨g, 0, none⟩ ∧ 32 = 32 ∧ 32 = cap := by simpa using hv
      rw [hg]
      rw [List.take_of_length_le (by rw [Array.length_toList, h3]; exact Nat.le_refl _)] at h4
      have e : cur = (cellsOf (List.replicate 32 0)).toArray := by
        rw [← Array.toList_inj, h4]
        have e : (madeCells #[Value.int .u8 0] 32).toList = cellsOf (List.replicate 32 0) := by rw [← fill_start]; exact toList_madeCells_one _ _
        exact e
      rw [e]
  rw [by_zero] at hrow
  have HL2 := Lib.hid (And.intro hl2 hb2.size)
  clear hown hgrow hr1 hw2 hg2 hb2 hl2 hb23 HB1
  obtain ⟨T, hT⟩ : ∃ T, T = w2.heap.size := ⟨_, rfl⟩
  rw [← hT] at hrow HL2 ⊢
  clear hT
  go_wp2
  go_loopw [4, 5] (fun p x wr => ∃ i : Nat, i ≤ 10 ∧ x = .int .i64 i ∧ p = .int .u64 (wo i : Int) ∧ wr.heap[T]? = some (.cells (rwA .u8 32 (fun j => (byF (r % 2 ^ wo i) j : Int))) 5 (0, 0)) ∧ wr.heap[w.heap.size]? = some (.cells (rwA .i64 10 (digZ r)) 134 (0, 0)) ∧ Below w.heap.size w wr)
    (fun _ x _ => 10 - (intOf x).toNat)
  case atStart => exact ⟨0, by omega, rfl, rfl, by rw [show wo 0 = 0 from rfl, Nat.pow_zero, Nat.mod_one]; exact hrow, hw3, hb3⟩
  case round =>
    clear hrow hw3 hb3
    obtain ⟨i, hi', rfl, rfl, hw, hz, hb⟩ := hrel
    by_cases hlt : i < 10
    · have i0' : (0 : Int) ≤ (i : Int) := by omega
      have i1 : (i : Int) < 10 := by omega
      go_wp2
      obtain ⟨wo', rfl⟩ : ∃ wo' : World, wo' = wr := ⟨_, rfl⟩
      go_loopw [4, 6] (fun p x wr => ∃ k : Nat, k ≤ bwn i ∧ x = .int .u64 k ∧ p = .int .u64 ((wo i + k : Nat) : Int) ∧ wr.heap[T]? = some (.cells (rwA .u8 32 (fun j => (byF (r % 2 ^ (wo i + k)) j : Int))) 5 (0, 0)) ∧ wr.heap[w.heap.size]? = some (.cells (rwA .i64 10 (digZ r)) 134 (0, 0)) ∧ Below w.heap.size w wr)
        (fun _ x _ => bwn i - (intOf x).toNat)
      case atStart => exact ⟨0, Nat.zero_le _, rfl, rfl, hw, hz, hb⟩
      case round =>
        clear hw hz hb
        obtain ⟨k, hk, rfl, rfl, hw, hz, hb⟩ := hrel
        have hb26 : bwn i ≤ 26 := by unfold bwn; omega
        have k0 : (0 : Int) ≤ (k : Int) := by omega
        go_wp2_with fail
        refine (bits_gen i _ hlt).mono ?_
        rintro e w' ⟨rfl, rfl⟩
        by_cases hkl : k < bwn i
        · have kk : (k : Int) < (bwn i : Int) := by omega
          have k26 : (k : Int) < 26 := by omega
          have hA : wo i + k < 255 := by have := wo_succ i hlt; have := wo_le (i + 1) (by omega); omega
          have hdb : dig r i / 2 ^ k % 2 = r / 2 ^ (wo i + k) % 2 := dig_bit r (wo i) k (bwn i) hkl
          obtain ⟨A, hAe⟩ : ∃ A, A = wo i + k := ⟨_, rfl⟩
          rw [← hAe] at hdb hw hA ⊢
          have A0 : (0 : Int) ≤ (A : Int) := by omega
          have A1 : (A : Int) < 255 := by omega
          have q0 : (0 : Int) ≤ (A : Int) / 8 := by omega
          have q1 : (A : Int) / 8 < 32 := by omega
          have qt : ((A : Int) / 8).toNat = A / 8 := by omega
          have rt : ((A : Int) % 8).toNat = A % 8 := by omega
          have uw1 : IntKind.u64.wrap ((A : Int) / 8) = (A : Int) / 8 := by rw [IntKind.wrap_u64]; omega
          have uw2 : IntKind.u64.wrap ((A : Int) % 8) = (A : Int) % 8 := by rw [IntKind.wrap_u64]; omega
          have r0 : (0 : Int) ≤ (A : Int) % 8 := by omega
          have r1 : (A : Int) % 8 < 8 := by omega
          have tm : (A : Int).tmod 8 = (A : Int) % 8 := Int.tmod_eq_emod_of_nonneg (by omega)
          have hB : r / 2 ^ A % 2 < 2 := Nat.mod_lt _ (by decide)
          obtain ⟨hba, hbl⟩ := byF_at (r % 2 ^ A) A (r / 2 ^ A % 2) (Nat.mod_lt _ (Nat.pow_pos (by decide))) hB
          rw [← mod_step] at hba
          have hnl := byF_lt (r % 2 ^ (A + 1)) (A / 8)
          have h2k : 2 ^ (A % 8) ≤ 128 := Nat.pow_le_pow_right (by decide) (by omega : A % 8 ≤ 7)
          have hand : bits .and .i64 (digZ r i / 2 ^ k) 1 = ((r / 2 ^ A % 2 : Nat) : Int) := by
            rw [i64_and1, ← hdb]
            have e : digZ r i / 2 ^ k = ((dig r i / 2 ^ k : Nat) : Int) := by unfold digZ; rw [Int.natCast_ediv, Int.natCast_pow]; rfl
            rw [e]
            omega
          have hor : bits .or .u8 ((byF (r % 2 ^ A) (A / 8) : Nat) : Int) (((r / 2 ^ A % 2 : Nat) : Int) * 2 ^ (A % 8)) = ((byF (r % 2 ^ (A + 1)) (A / 8) : Nat) : Int) := by
            rw [u8_or_add (A % 8) _ _ hbl (by rw [← hba]; exact hnl), ← hba]
          have hcv : IntKind.u8.wrap ((r / 2 ^ A % 2 : Nat) : Int) = ((r / 2 ^ A % 2 : Nat) : Int) := by rw [IntKind.wrap_u8]; omega
          have hwr : IntKind.u8.wrap (((r / 2 ^ A % 2 : Nat) : Int) * 2 ^ (A % 8)) = ((r / 2 ^ A % 2 : Nat) : Int) * 2 ^ (A % 8) := by
            have e : (2 : Int) ^ (A % 8) = ((2 ^ (A % 8) : Nat) : Int) := by rw [Int.natCast_pow]; rfl
            rw [IntKind.wrap_u8, e]
            generalize 2 ^ (A % 8) = c at *
            rcases (by omega : r / 2 ^ A % 2 = 0 ∨ r / 2 ^ A % 2 = 1) with d | d <;> rw [d] <;> omega
          have cc := (cell_of_row wr T (A / 8) _ _ _ hw).trans (rwA_get .u8 32 _ (A / 8) (by omega))
          have ff := frozen_of_row wr T (A / 8) _ _ hw
          have ch := (cell_of_row wr w.heap.size i _ _ _ hz).trans (rwA_get .i64 10 _ i hlt)
          have hst := heap_setCell_same wr T (A / 8) _ _ (.int .u8 ((byF (r % 2 ^ (A + 1)) (A / 8) : Nat) : Int)) hw
          rw [by_set r A (by omega)] at hst
          have hz' : (wr.setCell ⟨T, A / 8, none⟩ (.int .u8 ((byF (r % 2 ^ (A + 1)) (A / 8) : Nat) : Int))).heap[w.heap.size]? = _ := (heap_setCell_other wr _ _ _ (by have := HL2.out; show w.heap.size ≠ T; omega)).trans hz
          have hb' := hb.setCell (p := ⟨T, A / 8, none⟩) (by have := HL2.out; show w.heap.size ≤ T; omega) (.int .u8 ((byF (r % 2 ^ (A + 1)) (A / 8) : Nat) : Int))
          have HR := Lib.hid (And.intro hst (And.intro hz' hb'))
          have HAE := Lib.hid hAe
          have HKL := Lib.hid hkl
          have hdz : (0 : Int) ≤ digZ r i := by unfold digZ; omega
          clear hst hz' hb' hB hba hbl hnl h2k hdb hA hw hz hb hAe hkl hk hb26
          generalize (byF (r % 2 ^ (A + 1)) (A / 8) : Nat) = Y at *
          generalize (byF (r % 2 ^ A) (A / 8) : Nat) = X at *
          generalize (r / 2 ^ A % 2 : Nat) = B at *
          generalize digZ r i = D at *
          go_wp2
          go_still_tail 20, (by kernel_rfl)
          go_wp2
          go_roundw
          case rel => exact ⟨k + 1, by have := HKL.out; omega, by go_num, by rw [HAE.out]; go_num, by rw [← Nat.add_assoc, ← HAE.out]; exact HR.out.1, HR.out.2.1, HR.out.2.2.drew⟩
          case measure => simp [intOf]; have := HKL.out; omega
        · have hke : k = bwn i := by omega
          have kk : (bwn i : Int) ≤ (k : Int) := by omega
          have HWS : Hid (wo i + k = wo (i + 1)) := by show _ = _; rw [wo_succ i hlt, hke]
          rw [HWS.out] at hw ⊢
          clear hke hkl hk hb26
          go_wp2
          go_roundw
          case rel => exact ⟨i + 1, by omega, by go_num, rfl, hw, hz, hb⟩
          case measure => first | (simp [intOf]; omega) | simp [intOf]
    · have hie : i = 10 := by omega
      have hpi : (10 : Int) ≤ (i : Int) := by omega
      rw [hie, show wo 10 = 255 from rfl, Nat.mod_eq_of_lt (Nat.lt_trans HRL.out (by decide))] at hw
      have hwl : wr.heap[T]? = some (.cells (cellsOf (leB r 32)).toArray 5 (0, 0)) := by rw [cells_byF]; exact hw
      have hown : wr.ownsRow w.heap.size 5 1 (.slice (some ⟨T, 0, none⟩) 32 32) 32 (cellsOf (leB r 32)) :=
        ⟨by rw [cellsOf_length, leB_len], .inr ⟨T, 32, _, rfl, by have := HL2.out; omega, hwl, Nat.le_refl _, by unfold maxLen; omega, by simp [cellsOf_length, leB_len], by rw [List.take_of_length_le (by simp [cellsOf_length, leB_len])]⟩⟩
      have hcv := run_convert_own (P := Tryd.prog) wr 39 9 5 _ _ _ _ Tryd.underlying39 Tryd.underlying5 Tryd.underlying9 hown
      clear hown hwl hw hlt hi' hie
      go_wp2
      go_ret
      exact ⟨rfl, hb⟩

end Go.Proofs.YtfbcmckepdjdkaaDoor

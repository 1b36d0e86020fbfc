/- The contract of the specification's l3Read. -/
import Derived.Test.YtfbcmckepdjdkaaDoorGLim1
import Derived.Test.YtfbcmckepdjdkaaDoorGM0
namespace Go.Proofs.YtfbcmckepdjdkaaDoor
open Go.RowKit Go.My Go.Lib
set_option linter.unusedVariables false

theorem bits_gen (i : Nat) (w : World) (hi : i < 10) :
    Calls Tryd.prog 170 #[.int .i64 i] w fun e w' => e = .returned (.int .u64 (bwn i : Int)) ∧ w = w' := by
  by_cases h : i % 2 = 0
  · have e : bwn i = 26 := by unfold bwn; omega
    rw [e]
    exact (bits_even i w hi h).mono (fun _ _ h => ⟨h.1, h.2.symm⟩)
  · have e : bwn i = 25 := by unfold bwn; omega
    rw [e]
    exact (bits_odd i w hi (by omega)).mono (fun _ _ h => ⟨h.1, h.2.symm⟩)
/-- The limbs when limb i has k of its bits. -/
def rdF (n i k q : Nat) : Int := if q < i then digZ n q else if q = i then ((n / 2 ^ wo i % 2 ^ k : Nat) : Int) else 0
theorem rdF_zero (n : Nat) : rdF n 0 0 = fun _ => 0 := by
  funext q
  unfold rdF
  rw [if_neg (by omega)]
  split
  · simp [Nat.mod_one]
  · rfl
theorem rdF_next (n i : Nat) : rdF n i (bwn i) = rdF n (i + 1) 0 := by
  funext q
  unfold rdF
  by_cases h : q < i
  · rw [if_pos h, if_pos (by omega)]
  · rw [if_neg h]
    by_cases h2 : q = i
    · subst h2
      rw [if_pos rfl, if_pos (by omega)]
      rfl
    · rw [if_neg h2, if_neg (by omega)]
      split
      · simp [Nat.mod_one]
      · rfl
theorem rdF_all (n : Nat) : rwA .i64 10 (rdF n 10 0) = rwA .i64 10 (digZ n) := rwA_congr _ _ (fun q hq => if_pos hq)
theorem rdF_at (n i k : Nat) : rdF n i k i = ((n / 2 ^ wo i % 2 ^ k : Nat) : Int) := by unfold rdF; rw [if_neg (by omega), if_pos rfl]
theorem rdF_set (n i k : Nat) (hi : i < 10) : (rwA .i64 10 (rdF n i k)).setIfInBounds i (.int .i64 ((n / 2 ^ wo i % 2 ^ (k + 1) : Nat) : Int)) = rwA .i64 10 (rdF n i (k + 1)) :=
  rwA_set _ _ _ _ i hi _ (rdF_at n i (k + 1)) (fun q _ hq => by
    unfold rdF
    by_cases h : q < i
    · rw [if_pos h, if_pos h]
    · rw [if_neg h, if_neg h, if_neg hq, if_neg hq])

set_option maxRecDepth 100000 in
set_option maxHeartbeats 2000000 in
theorem read_any (s : ByteArray) (w : World) (hs : s.size = 32) :
    Calls Tryd.prog 130 #[.string s] w fun e w' => e = .returned (.agg (rwA .i64 10 (digZ (leN s.data.toList)))) ∧ Below w.heap.size w w' := by
  have HS := Lib.hid hs
  have hs1 : (s.size : Int) = 32 := by omega
  clear hs
  obtain ⟨n, hn⟩ : ∃ n, n = leN s.data.toList := ⟨_, rfl⟩
  rw [← hn]
  have HN := Lib.hid hn
  clear hn
  go_enter Tryd.func130, Tryd.ntmps130
  go_wp2
  go_loopw [4, 5] (fun p x wr => ∃ i : Nat, i ≤ 10 ∧ x = .int .i64 i ∧ p = .int .u64 (wo i : Int) ∧ wr.heap[w.heap.size + 1]? = some (.cells (rwA .i64 10 (rdF n i 0)) 134 (0, 0)) ∧ wr.heap[w.heap.size]? = some (.cells Z10 134 (0, 0)) ∧ Below w.heap.size w wr)
    (fun _ x _ => 10 - (intOf x).toNat)
  case atStart => exact ⟨0, by omega, rfl, rfl, by rw [rdF_zero]; exact heap_alloc2_new w _ _, heap_alloc2_old w _ _, ((Below.refl _ _).alloc (Nat.le_refl _) _).alloc (by simp) _⟩
  case round =>
    obtain ⟨i, hi, rfl, rfl, hw, hz, hb⟩ := hrel
    by_cases hlt : i < 10
    · have i0 : (0 : Int) ≤ (i : Int) := by omega
      have i1 : (i : Int) < 10 := by omega
      go_wp2
      obtain ⟨wo', rfl⟩ : ∃ wo' : World, wo' = wr := ⟨_, rfl⟩
      go_loopw [4, 6] (fun p x wr => ∃ k : Nat, k ≤ bwn i ∧ x = .int .u64 k ∧ p = .int .u64 ((wo i + k : Nat) : Int) ∧ wr.heap[w.heap.size + 1]? = some (.cells (rwA .i64 10 (rdF n i k)) 134 (0, 0)) ∧ wr.heap[w.heap.size]? = some (.cells Z10 134 (0, 0)) ∧ Below w.heap.size w wr)
        (fun _ x _ => bwn i - (intOf x).toNat)
      case atStart => exact ⟨0, Nat.zero_le _, rfl, rfl, hw, hz, hb⟩
      case round =>
        clear hw hz hb
        obtain ⟨k, hk, rfl, rfl, hw, hz, hb⟩ := hrel
        have hb26 : bwn i ≤ 26 := by unfold bwn; omega
        have k0 : (0 : Int) ≤ (k : Int) := by omega
        go_wp2_with fail
        refine (bits_gen i _ hlt).mono ?_
        rintro e w' ⟨rfl, rfl⟩
        by_cases hkl : k < bwn i
        · have kk : (k : Int) < (bwn i : Int) := by omega
          have k26 : (k : Int) < 26 := by omega
          have hA : wo i + k < 255 := by have := wo_succ i hlt; have := wo_le (i + 1) (by omega); omega
          obtain ⟨A, hAe⟩ : ∃ A, A = wo i + k := ⟨_, rfl⟩
          rw [← hAe]
          have A0 : (0 : Int) ≤ (A : Int) := by omega
          have A1 : (A : Int) < 255 := by omega
          have q0 : (0 : Int) ≤ (A : Int) / 8 := by omega
          have q1 : (A : Int) / 8 < 32 := by omega
          have qt : ((A : Int) / 8).toNat = A / 8 := by omega
          have rt : ((A : Int) % 8).toNat = A % 8 := by omega
          have uw1 : IntKind.u64.wrap ((A : Int) / 8) = (A : Int) / 8 := by rw [IntKind.wrap_u64]; omega
          have uw2 : IntKind.u64.wrap ((A : Int) % 8) = (A : Int) % 8 := by rw [IntKind.wrap_u64]; omega
          have r0 : (0 : Int) ≤ (A : Int) % 8 := by omega
          have r1 : (A : Int) % 8 < 8 := by omega
          have tm : (A : Int).tmod 8 = (A : Int) % 8 := Int.tmod_eq_emod_of_nonneg (by omega)
          have hj : A / 8 < s.size := by have := HS.out; omega
          have hby : (s[A / 8]'hj).toNat = n / 256 ^ (A / 8) % 256 := by rw [HN.out]; exact leN_get s.data.toList (A / 8) (by rw [len_data]; exact hj)
          have hbit : bits .and .u8 (((s[A / 8]'hj).toNat : Int) / 2 ^ (A % 8)) 1 = ((n / 2 ^ A % 2 : Nat) : Int) := by
            rw [u8_and1 _ _ (s[A / 8]'hj).toNat_lt, hby, byte_bit]
          clear hby
          have hst := heap_setCell_same wr (w.heap.size + 1) i _ _ (.int .i64 ((n / 2 ^ wo i % 2 ^ (k + 1) : Nat) : Int)) hw
          rw [rdF_set n i k hlt] at hst
          have hz' : (wr.setCell ⟨w.heap.size + 1, i, none⟩ (.int .i64 ((n / 2 ^ wo i % 2 ^ (k + 1) : Nat) : Int))).heap[w.heap.size]? = _ := (heap_setCell_other wr _ _ _ (by simp)).trans hz
          have hb' := hb.setCell (p := ⟨w.heap.size + 1, i, none⟩) (by simp) (.int .i64 ((n / 2 ^ wo i % 2 ^ (k + 1) : Nat) : Int))
          have hds := dig_step n (wo i) k
          rw [← hAe] at hds
          have hB : n / 2 ^ A % 2 < 2 := Nat.mod_lt _ (by decide)
          have hX : n / 2 ^ wo i % 2 ^ k < 2 ^ k := Nat.mod_lt _ (Nat.pow_pos (by decide))
          have h2k : 2 ^ k ≤ 67108864 := Nat.pow_le_pow_right (by decide) (by omega : k ≤ 26)
          have hor : bits .or .i64 ((n / 2 ^ wo i % 2 ^ k : Nat) : Int) (((n / 2 ^ A % 2 : Nat) : Int) * 2 ^ k) = ((n / 2 ^ wo i % 2 ^ (k + 1) : Nat) : Int) := by
            rw [i64_or k _ _ hX (by rcases (by omega : n / 2 ^ A % 2 = 0 ∨ n / 2 ^ A % 2 = 1) with c | c <;> rw [c] <;> omega), ← hds]
          have hwr : IntKind.i64.wrap (((n / 2 ^ A % 2 : Nat) : Int) * 2 ^ k) = ((n / 2 ^ A % 2 : Nat) : Int) * 2 ^ k := by
            apply IntWalk.i64_in
            have e : (2 : Int) ^ k = ((2 ^ k : Nat) : Int) := by rw [Int.natCast_pow]; rfl
            rw [e]
            rcases (by omega : n / 2 ^ A % 2 = 0 ∨ n / 2 ^ A % 2 = 1) with c | c <;> rw [c] <;> omega
          have hcv : IntKind.i64.wrap ((n / 2 ^ A % 2 : Nat) : Int) = ((n / 2 ^ A % 2 : Nat) : Int) := IntWalk.i64_in _ (by omega)
          have cc := (cell_of_row wr (w.heap.size + 1) i _ _ _ hw).trans (rwA_get .i64 10 _ i hlt)
          rw [rdF_at] at cc
          have ff := frozen_of_row wr (w.heap.size + 1) i _ _ hw
          have HR := Lib.hid (And.intro hst (And.intro hz' hb'))
          have HAE := Lib.hid hAe
          have HKL := Lib.hid hkl
          clear hst hz' hb' hds hB hX h2k hw hz hb hAe hkl hk hb26
          generalize (n / 2 ^ wo i % 2 ^ (k + 1) : Nat) = Y at *
          generalize (n / 2 ^ wo i % 2 ^ k : Nat) = X at *
          generalize (n / 2 ^ A % 2 : Nat) = B at *
          go_wp2
          go_still_tail 17, (by kernel_rfl)
          go_wp2
          go_roundw
          case rel => exact ⟨k + 1, by have := HKL.out; omega, by go_num, by rw [HAE.out]; go_num, HR.out.1, HR.out.2.1, HR.out.2.2.drew⟩
          case measure => simp [intOf]; have := HKL.out; omega
        · have hke : k = bwn i := by omega
          have kk : (bwn i : Int) ≤ (k : Int) := by omega
          rw [hke, rdF_next] at hw
          have HWS : Hid (((wo i + k : Nat) : Int) = (wo (i + 1) : Int)) := by show _ = _; rw [wo_succ i hlt, hke]
          rw [HWS.out]
          clear hke hkl hk hb26
          go_wp2
          go_roundw
          case rel => exact ⟨i + 1, by omega, by go_num, rfl, hw, hz, hb⟩
          case measure => first | (simp [intOf]; omega) | simp [intOf]
    · have hie : i = 10 := by omega
      have hpi : (10 : Int) ≤ (i : Int) := by omega
      rw [hie, rdF_all] at hw
      clear hlt hi hie
      go_wp2_with (first
        | with_reducible refine wpList_load_row (o := ⟨some 37, _, _, _, _, _⟩) rfl 134 _ rfl (w.heap.size + 1) rfl 134 (rwA .i64 10 (digZ n)) (0, 0) (.array 10 2) hw Tryd.underlying134 rfl (l10sz _) ?_
        | with_reducible (refine wpList_store_row (o := ⟨none, .store 134 _ _, _, _, _, _⟩) rfl 134 _ _ rfl w.heap.size (rwA .i64 10 (digZ n)) rfl rfl 134 Z10 hz (l10sz _) (z10sz _) (l10one _) ?_))
      have hrow := setRow_heap wr w.heap.size Z10 (rwA .i64 10 (digZ n)) 134 (0, 0) hz
      refine bodyPost_ret (v := .agg (rwA .i64 10 (digZ n))) ?_ rfl ⟨rfl, ?_⟩
      · exact results_cell_row Tryd.results130 _ _ w.heap.size 134 _ (0, 0) _ rfl hrow Tryd.underlying134 rfl (l10sz _)
      · exact hb.trans ⟨rfl, rfl, rfl, by simp, fun k hk => setRow_other wr w.heap.size k _ (by omega)⟩

end Go.Proofs.YtfbcmckepdjdkaaDoor

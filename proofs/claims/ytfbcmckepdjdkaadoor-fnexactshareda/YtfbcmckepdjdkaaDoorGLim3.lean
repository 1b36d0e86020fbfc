/- The contract of the specification's l3Mul. -/
import Derived.Test.YtfbcmckepdjdkaaDoorGLim2
namespace Go.Proofs.YtfbcmckepdjdkaaDoor
open Go.RowKit Go.My Go.Lib
set_option linter.unusedVariables false

abbrev Z20 : Array Value := #[Value.int .i64 0, Value.int .i64 0, Value.int .i64 0, Value.int .i64 0, Value.int .i64 0, Value.int .i64 0, Value.int .i64 0, Value.int .i64 0, Value.int .i64 0, Value.int .i64 0, Value.int .i64 0, Value.int .i64 0, Value.int .i64 0, Value.int .i64 0, Value.int .i64 0, Value.int .i64 0, Value.int .i64 0, Value.int .i64 0, Value.int .i64 0, Value.int .i64 0]
theorem Z20_eq : Z20 = rwA .i64 20 (fun _ => 0) := rfl
theorem Z20_tO (a b : Nat → Int) : rwA .i64 20 (tO a b 0) = Z20 := by rw [show tO a b 0 = fun _ => 0 from rfl, ← Z20_eq]
theorem z20_one : Z20.all (·.oneCell') = true := by kernel_rfl
theorem size_z20 : (Tryd.prog.info? 204).map (·.size) = some Z20.size := by kernel_rfl
theorem size_l20 : (Tryd.prog.info? 204).map (·.size) = some 20 := by kernel_rfl
/-- The odd limbs doubled, up to the j-th of them. -/
def odP (b : Nat → Int) (j q : Nat) : Int := if q % 2 = 1 ∧ q < 2 * j + 1 then 2 * b q else b q
theorem odP_zero (b : Nat → Int) : odP b 0 = b := by funext q; exact if_neg (by omega)
theorem odP_all (b : Nat → Int) : rwA .i64 10 (odP b 5) = rwA .i64 10 (od b) := rwA_congr _ _ (fun q hq => by
  unfold odP od
  by_cases h : q % 2 = 1
  · rw [if_pos ⟨h, by omega⟩, if_pos h]
  · rw [if_neg (by omega), if_neg h])
theorem odP_set (b : Nat → Int) (j : Nat) (hj : j < 5) : (rwA .i64 10 (odP b j)).setIfInBounds (2 * j + 1) (.int .i64 (2 * b (2 * j + 1))) = rwA .i64 10 (odP b (j + 1)) :=
  rwA_set _ _ _ _ _ (by omega) _ (by unfold odP; rw [if_pos (by omega)]) (fun q _ hq => by
    unfold odP
    by_cases h : q % 2 = 1 ∧ q < 2 * j + 1
    · rw [if_pos h, if_pos (by omega)]
    · rw [if_neg h, if_neg (by omega)])
theorem gr_l10 {w w2 : World} {g : Nat} (h : w.grownBy w2 (some g)) (k : Nat) (hk : k < w.heap.size) (hne : k ≠ g) : w2.heap[k]? = w.heap[k]? := h.block k hk (by simpa using hne)
/-- The five rows of the product's call. -/
def Five (w wr : World) (a b t : Nat → Int) (T : Nat) : Prop := wr.heap[w.heap.size]? = some (.cells (rwA .i64 10 a) 134 (0, 0)) ∧ wr.heap[w.heap.size + 1]? = some (.cells (rwA .i64 10 b) 134 (0, 0)) ∧ wr.heap[w.heap.size + 1 + 1]? = some (.cells Z10 134 (0, 0)) ∧ wr.heap[w.heap.size + 1 + 1 + 1]? = some (.cells (rwA .i64 10 (od b)) 134 (0, 0)) ∧ wr.heap[T]? = some (.cells (rwA .i64 20 (t)) 204 (0, 0)) ∧ Below w.heap.size w wr
theorem Five.lt {w wr : World} {a b t : Nat → Int} {T : Nat} (h : Five w wr a b t T) : T < wr.heap.size := (Array.getElem?_eq_some_iff.1 h.2.2.2.2.1).1
theorem Five.set {w wr : World} {a b t t' : Nat → Int} {T m : Nat} {x : Int} (h : Five w wr a b t T) (hT : w.heap.size + 1 + 1 + 1 < T) (hm : m < 20) (h1 : t' m = x) (h2 : ∀ q, q ≠ m → t' q = t q) : Five w ((wr.setCell ⟨T, m, none⟩ (.int .i64 x)).drew) a b t' T := by
  obtain ⟨r0, r1, r2, r3, r4, hb⟩ := h
  have e := heap_setCell_same wr T m _ _ (.int .i64 x) r4
  rw [rwA_set .i64 20 t t' m hm x h1 (fun q _ hq => h2 q hq)] at e
  exact ⟨(heap_setCell_other wr _ _ _ (by show w.heap.size ≠ T; omega)).trans r0, (heap_setCell_other wr _ _ _ (by show w.heap.size + 1 ≠ T; omega)).trans r1, (heap_setCell_other wr _ _ _ (by show w.heap.size + 1 + 1 ≠ T; omega)).trans r2, (heap_setCell_other wr _ _ _ (by show w.heap.size + 1 + 1 + 1 ≠ T; omega)).trans r3, e, (hb.setCell (p := ⟨T, m, none⟩) (by show w.heap.size ≤ T; omega) _).drew⟩

set_option maxRecDepth 100000 in
set_option maxHeartbeats 4000000 in
set_option maxRecDepth 100000 in
theorem mulL_any (a b : Nat → Int) (w : World) (ha : Mid a) (hb : Mid b) :
    Calls Tryd.prog 173 #[.agg (rwA .i64 10 a), .agg (rwA .i64 10 b)] w fun e w' => e = .returned (.agg (rwA .i64 10 (mulL a b))) ∧ Below w.heap.size w w' := by
  have HA := Lib.hid ha
  have HB := Lib.hid hb
  have HOB := Lib.hid (outM_bd a b ha hb)
  have HTQ := Lib.hid (fun q => (show -270215977642229760 ≤ tO a b 5 q ∧ tO a b 5 q ≤ 270215977642229760 from (by have := tO_bd a b ha hb 5 (by omega) q; omega)))
  clear ha hb
  go_enter Tryd.func173, Tryd.ntmps173
  go_wp2_with (first
    | with_reducible refine wpList_load_row (o := ⟨some 14, _, _, _, _, _⟩) rfl 134 _ rfl (w.heap.size + 1) rfl 134 (rwA .i64 10 b) (0, 0) (.array 10 2) (al3_1 w _ _ _) Tryd.underlying134 rfl (l10sz _) ?_
    | ((with_reducible refine wpList_store_row' (o := ⟨none, .store 134 _ _, _, _, _, _⟩) rfl 134 _ _ rfl (w.heap.size + 1 + 1 + 1) (rwA .i64 10 b) rfl rfl 134 Z10 (al4_3 w _ _ _ _) (l10sz _) (z10sz _) (l10one _) ?_); intro w1 hw1 hs1 hg1)
    | fail)
  have r0 : w1.heap[w.heap.size]? = some (.cells (rwA .i64 10 a) 134 (0, 0)) := (gr_l10 hg1 _ (by simp <;> omega) (by omega)).trans (al4_0 w _ _ _ _)
  have r1 : w1.heap[w.heap.size + 1]? = some (.cells (rwA .i64 10 b) 134 (0, 0)) := (gr_l10 hg1 _ (by simp <;> omega) (by omega)).trans (al4_1 w _ _ _ _)
  have r2 : w1.heap[w.heap.size + 1 + 1]? = some (.cells Z10 134 (0, 0)) := (gr_l10 hg1 _ (by simp <;> omega) (by omega)).trans (al4_2 w _ _ _ _)
  have hb1 : Below w.heap.size w w1 := (((((Below.refl _ _).alloc (Nat.le_refl _) _).alloc (by simp) _).alloc (by simp; omega) _).alloc (by simp; omega) _).grown hg1 (by simp; omega) (by intro k hk; have := Option.some.inj hk; omega)
  clear hs1 hg1
  go_loopw [6] (fun x wr => ∃ j : Nat, j ≤ 5 ∧ x = .int .i64 (2 * (j : Int) + 1) ∧ wr.heap[w.heap.size + 1 + 1 + 1]? = some (.cells (rwA .i64 10 (odP b j)) 134 (0, 0)) ∧ wr.heap[w.heap.size]? = some (.cells (rwA .i64 10 a) 134 (0, 0)) ∧ wr.heap[w.heap.size + 1]? = some (.cells (rwA .i64 10 b) 134 (0, 0)) ∧ wr.heap[w.heap.size + 1 + 1]? = some (.cells Z10 134 (0, 0)) ∧ Below w.heap.size w wr)
    (fun x _ => 20 - (intOf x).toNat)
  case atStart => exact ⟨0, by omega, rfl, by rw [odP_zero]; exact hw1, r0, r1, r2, hb1⟩
  case round =>
    clear hw1 r0 r1 r2 hb1
    obtain ⟨j, hj, rfl, ho, r0, r1, r2, hbl⟩ := hrel
    by_cases hlt : j < 5
    · have cb := (cell_of_row wr (w.heap.size + 1) (2 * j + 1) _ _ _ r1).trans (rwA_get .i64 10 _ (2 * j + 1) (by omega))
      have co := (cell_of_row wr (w.heap.size + 1 + 1 + 1) (2 * j + 1) _ _ _ ho).trans (rwA_get .i64 10 _ (2 * j + 1) (by omega))
      have fo := frozen_of_row wr (w.heap.size + 1 + 1 + 1) (2 * j + 1) _ _ ho
      have hst := heap_setCell_same wr (w.heap.size + 1 + 1 + 1) (2 * j + 1) _ _ (.int .i64 (2 * b (2 * j + 1))) ho
      rw [odP_set b j hlt] at hst
      have h1 : (wr.setCell ⟨w.heap.size + 1 + 1 + 1, 2 * j + 1, none⟩ (.int .i64 (2 * b (2 * j + 1)))).heap[w.heap.size]? = _ := (heap_setCell_other wr _ _ _ (by simp; omega)).trans r0
      have h2 : (wr.setCell ⟨w.heap.size + 1 + 1 + 1, 2 * j + 1, none⟩ (.int .i64 (2 * b (2 * j + 1)))).heap[w.heap.size + 1]? = _ := (heap_setCell_other wr _ _ _ (by simp)).trans r1
      have h3 : (wr.setCell ⟨w.heap.size + 1 + 1 + 1, 2 * j + 1, none⟩ (.int .i64 (2 * b (2 * j + 1)))).heap[w.heap.size + 1 + 1]? = _ := (heap_setCell_other wr _ _ _ (by simp)).trans r2
      have h4 := hbl.setCell (p := ⟨w.heap.size + 1 + 1 + 1, 2 * j + 1, none⟩) (by simp; omega) (.int .i64 (2 * b (2 * j + 1)))
      have bb := HB.out (2 * j + 1) (by omega)
      have ww : IntKind.i64.wrap (2 * b (2 * j + 1)) = 2 * b (2 * j + 1) := IntWalk.i64_in _ (by omega)
      have j0 : (0 : Int) ≤ 2 * (j : Int) + 1 := by omega
      have j1 : 2 * (j : Int) + 1 < 10 := by omega
      have jt : (2 * (j : Int) + 1).toNat = 2 * j + 1 := by omega
      have HR := Lib.hid (And.intro hst (And.intro h1 (And.intro h2 (And.intro h3 h4))))
      clear hst h1 h2 h3 h4 ho r0 r1 r2 hbl
      generalize b (2 * j + 1) = X at *
      go_wp2
      go_roundw
      case rel => exact ⟨j + 1, by omega, by go_num, HR.out.1, HR.out.2.1, HR.out.2.2.1, HR.out.2.2.2.1, HR.out.2.2.2.2⟩
      case measure => first | (simp [intOf]; omega) | simp [intOf]
    · have hje : j = 5 := by omega
      have hpj : (10 : Int) ≤ 2 * (j : Int) + 1 := by omega
      rw [hje, odP_all] at ho
      clear hlt hj hje
      obtain ⟨wA, rfl⟩ : ∃ wA : World, wA = wr := ⟨_, rfl⟩
      have hTl : w.heap.size + 1 + 1 + 1 < wA.heap.size := (Array.getElem?_eq_some_iff.1 ho).1
      go_wp2_with (first
        | ((with_reducible refine wpList_store_row' (o := ⟨none, .store 204 _ _, _, _, _, _⟩) rfl 204 _ _ rfl wA.heap.size Z20 rfl rfl 204 Z20 (heap_alloc_new wA _) size_z20 rfl z20_one ?_); intro w5 hw5 hs5 hg5; clear hs5)
        | fail)
      have keep : ∀ k, k < wA.heap.size → w5.heap[k]? = wA.heap[k]? := fun k hk => (hg5.block k (by simp; omega) (by simp; omega)).trans (Below.heap_alloc wA _ _ hk)
      have hF : Five w w5 a b (tO a b 0) wA.heap.size := ⟨(keep _ (by omega)).trans r0, (keep _ (by omega)).trans r1, (keep _ (by omega)).trans r2, (keep _ (by omega)).trans ho, by rw [Z20_tO]; exact hw5, (hbl.alloc hbl.size _).grown hg5 (by simp; have := hbl.size; omega) (by intro k hk; have := Option.some.inj hk; have := hbl.size; omega)⟩
      have HT := Lib.hid hTl
      clear r0 r1 r2 ho hbl hTl keep hw5 hg5
      go_loopw [8] (fun x wr => ∃ n : Nat, n ≤ 5 ∧ x = .int .i64 (2 * (n : Int)) ∧ Five w wr a b (tO a b n) wA.heap.size)
        (fun x _ => 20 - (intOf x).toNat)
      case atStart => exact ⟨0, by omega, rfl, hF⟩
      case round =>
        clear hF
        obtain ⟨n, hn, rfl, hF⟩ := hrel
        by_cases hlt : n < 5
        · obtain ⟨I, hI⟩ : ∃ I : Nat, I = 2 * n := ⟨_, rfl⟩
          have hIi : 2 * (n : Int) = (I : Int) := by omega
          rw [hIi]
          have cx := (cell_of_row wr w.heap.size I _ _ _ hF.1).trans (rwA_get .i64 10 _ I (by omega))
          have cy := (cell_of_row wr w.heap.size (I + 1) _ _ _ hF.1).trans (rwA_get .i64 10 _ (I + 1) (by omega))
          have I0 : (0 : Int) ≤ (I : Int) := by omega
          have I1 : (I : Int) < 10 := by omega
          have I2 : (0 : Int) ≤ (I : Int) + 1 := by omega
          have I3 : (I : Int) + 1 < 10 := by omega
          have It : ((I : Int) + 1).toNat = I + 1 := by omega
          have Iw : IntKind.i64.wrap ((I : Int) + 1) = (I : Int) + 1 := IntWalk.i64_in _ (by omega)
          have HIN := Lib.hid hI
          have HNL := Lib.hid hlt
          have HIB := Lib.hid (fun k hk q => tIn_bd a b HA.out HB.out n k hlt hk q)
          have HTN : Hid (tO a b (n + 1) = tIn (tO a b n) b (a I) (a (I + 1)) I 10) := by show _ = _; rw [hI]; rfl
          rw [← hI] at HIB
          have HXB := Lib.hid (fun k hk => xb_bd a b HA.out HB.out I k (by omega) hk)
          have HYB := Lib.hid (fun k hk => yo_bd a b HA.out HB.out (I + 1) k (by omega) hk)
          generalize tO a b n = t at *
          clear hI hIi hn hlt
          go_wp2
          obtain ⟨wo, rfl⟩ : ∃ wo : World, wo = wr := ⟨_, rfl⟩
          go_loopw [11] (fun x wr => ∃ k : Nat, k ≤ 10 ∧ x = .int .i64 k ∧ Five w wr a b (tIn t b (a I) (a (I + 1)) I k) wA.heap.size)
            (fun x _ => 10 - (intOf x).toNat)
          case atStart => exact ⟨0, by omega, rfl, by rw [tIn_zero]; exact hF⟩
          case round =>
            clear hF cx cy
            obtain ⟨k, hk, rfl, hF⟩ := hrel
            by_cases hkl : k < 10
            · have hT := HT.out
              have hIl : I < 10 := by omega
              have ct := (cell_of_row wr wA.heap.size (I + k) _ _ _ hF.2.2.2.2.1).trans (rwA_get .i64 20 _ (I + k) (by omega))
              have ft := frozen_of_row wr wA.heap.size (I + k) _ _ hF.2.2.2.2.1
              have cb := (cell_of_row wr (w.heap.size + 1) k _ _ _ hF.2.1).trans (rwA_get .i64 10 _ k hkl)
              have b1 := HIB.out k (by omega) (I + k)
              have b2 := HXB.out k hkl
              have ww1 : IntKind.i64.wrap (a I * b k) = a I * b k := IntWalk.i64_in _ (by omega)
              have ww2 : IntKind.i64.wrap (tIn t b (a I) (a (I + 1)) I k (I + k) + a I * b k) = tIn t b (a I) (a (I + 1)) I k (I + k) + a I * b k := IntWalk.i64_in _ (by omega)
              have hM := hF.set (t' := tMid t b (a I) (a (I + 1)) I k) (m := I + k) (x := tIn t b (a I) (a (I + 1)) I k (I + k) + a I * b k) hT (by omega) (if_pos rfl) (fun q hq => if_neg hq)
              have HM := Lib.hid hM
              have k0 : (0 : Int) ≤ (k : Int) := by omega
              have k1 : (k : Int) < 10 := by omega
              have s0 : (0 : Int) ≤ (I : Int) + (k : Int) := by omega
              have s1 : (I : Int) + (k : Int) < 20 := by omega
              have st : ((I : Int) + (k : Int)).toNat = I + k := by omega
              have sw : IntKind.i64.wrap ((I : Int) + (k : Int)) = (I : Int) + (k : Int) := IntWalk.i64_in _ (by omega)
              have s2 : (0 : Int) ≤ (I : Int) + 1 + (k : Int) := by omega
              have s3 : (I : Int) + 1 + (k : Int) < 20 := by omega
              have st2 : ((I : Int) + 1 + (k : Int)).toNat = I + 1 + k := by omega
              have sw2 : IntKind.i64.wrap ((I : Int) + 1 + (k : Int)) = (I : Int) + 1 + (k : Int) := IntWalk.i64_in _ (by omega)
              clear hM hF
              go_wp2
              go_still_tail 15, (by kernel_rfl)
              go_wp2
              generalize (wr.setCell ⟨wA.heap.size, I + k, none⟩ (.int .i64 (tIn t b (a I) (a (I + 1)) I k (I + k) + a I * b k))).drew = w2 at *
              clear ct ft cb b1 b2 ww1 ww2
              have hM := HM.out
              have ct := (cell_of_row w2 wA.heap.size (I + 1 + k) _ _ _ hM.2.2.2.2.1).trans (rwA_get .i64 20 _ (I + 1 + k) (by omega))
              have ft := frozen_of_row w2 wA.heap.size (I + 1 + k) _ _ hM.2.2.2.2.1
              have co := (cell_of_row w2 (w.heap.size + 1 + 1 + 1) k _ _ _ hM.2.2.2.1).trans (rwA_get .i64 10 _ k hkl)
              have b1 := HIB.out k (by omega) (I + 1 + k)
              have b2 := HYB.out k hkl
              have hmid : tMid t b (a I) (a (I + 1)) I k (I + 1 + k) = tIn t b (a I) (a (I + 1)) I k (I + 1 + k) := if_neg (by omega)
              have ww1 : IntKind.i64.wrap (a (I + 1) * od b k) = a (I + 1) * od b k := IntWalk.i64_in _ (by omega)
              have ww2 : IntKind.i64.wrap (tMid t b (a I) (a (I + 1)) I k (I + 1 + k) + a (I + 1) * od b k) = tMid t b (a I) (a (I + 1)) I k (I + 1 + k) + a (I + 1) * od b k := IntWalk.i64_in _ (by rw [hmid]; omega)
              have hN := hM.set (t' := tIn t b (a I) (a (I + 1)) I (k + 1)) (m := I + 1 + k) (x := tMid t b (a I) (a (I + 1)) I k (I + 1 + k) + a (I + 1) * od b k) hT (by omega) (by rw [tIn_succ, if_pos rfl]) (fun q hq => by rw [tIn_succ, if_neg hq])
              have HN := Lib.hid hN
              clear hN hM HM hmid
              go_still_tail 17, (by kernel_rfl)
              go_wp2
              go_roundw
              case rel => exact ⟨k + 1, by omega, by go_num, HN.out⟩
              case measure => first | (simp [intOf]; omega) | simp [intOf]
            · have hke : k = 10 := by omega
              have hpk : (10 : Int) ≤ (k : Int) := by omega
              rw [hke, ← HTN.out] at hF
              clear hkl hk hke
              have i2 : IntKind.i64.wrap ((I : Int) + 2) = (I : Int) + 2 := IntWalk.i64_in _ (by omega)
              go_wp2
              go_roundw
              case rel => exact ⟨n + 1, by have := HNL.out; omega, by have := HIN.out; go_num, hF⟩
              case measure => simp [intOf]; have := HIN.out; omega
        · have hne : n = 5 := by omega
          have hpn : (10 : Int) ≤ 2 * (n : Int) := by omega
          rw [hne] at hF
          clear hlt hn hne
          generalize hTT : tO a b 5 = t at *
          have HTT := Lib.hid hTT
          clear hTT
          have HOT := Lib.hid HOB.out
          have hTw := hF.lt
          obtain ⟨wB, rfl⟩ : ∃ wB : World, wB = wr := ⟨_, rfl⟩
          have HTB := Lib.hid hTw
          have o0 : (wB.alloc (.cells Z10 134)).heap[wB.heap.size]? = some (.cells Z10 134 (0, 0)) := heap_alloc_new wB _
          have o1 : (wB.alloc (.cells Z10 134)).heap[wA.heap.size]? = some (.cells (rwA .i64 20 t) 204 (0, 0)) := (Below.heap_alloc wB _ _ hTw).trans hF.2.2.2.2.1
          have o2 : (wB.alloc (.cells Z10 134)).heap[w.heap.size + 1 + 1]? = some (.cells Z10 134 (0, 0)) := (Below.heap_alloc wB _ _ (by have := HT.out; omega)).trans hF.2.2.1
          have o3 : Below w.heap.size w (wB.alloc (.cells Z10 134)) := hF.2.2.2.2.2.alloc hF.2.2.2.2.2.size _
          have HBS := Lib.hid hF.2.2.2.2.2.size
          clear hF hTw
          go_wp2
          go_loopw [13] (fun x wr => ∃ i : Nat, i ≤ 10 ∧ x = .int .i64 i ∧ wr.heap[wB.heap.size]? = some (.cells (rwA .i64 10 (upTo i (outM t) (fun _ => 0))) 134 (0, 0)) ∧ wr.heap[wA.heap.size]? = some (.cells (rwA .i64 20 t) 204 (0, 0)) ∧ wr.heap[w.heap.size + 1 + 1]? = some (.cells Z10 134 (0, 0)) ∧ Below w.heap.size w wr)
            (fun x _ => 10 - (intOf x).toNat)
          case atStart => exact ⟨0, by omega, rfl, by rw [upTo_zero]; exact o0, o1, o2, o3⟩
          case round =>
            clear o0 o1 o2 o3
            obtain ⟨i, hi, rfl, ho, ht, hz, hbl⟩ := hrel
            by_cases hil : i < 10
            · have ca := (cell_of_row wr wA.heap.size i _ _ _ ht).trans (rwA_get .i64 20 _ i (by omega))
              have cb := (cell_of_row wr wA.heap.size (i + 10) _ _ _ ht).trans (rwA_get .i64 20 _ (i + 10) (by omega))
              have co := (cell_of_row wr wB.heap.size i _ _ _ ho).trans (rwA_get .i64 10 _ i hil)
              have fo := frozen_of_row wr wB.heap.size i _ _ ho
              have hst := heap_setCell_same wr wB.heap.size i _ _ (.int .i64 (outM t i)) ho
              rw [upTo_set .i64 10 i (outM t) (fun _ => 0) hil] at hst
              have h1 : (wr.setCell ⟨wB.heap.size, i, none⟩ (.int .i64 (outM t i))).heap[wA.heap.size]? = _ := (heap_setCell_other wr _ _ _ (by have := HTB.out; show wA.heap.size ≠ wB.heap.size; omega)).trans ht
              have h2 : (wr.setCell ⟨wB.heap.size, i, none⟩ (.int .i64 (outM t i))).heap[w.heap.size + 1 + 1]? = _ := (heap_setCell_other wr _ _ _ (by have := HTB.out; have := HT.out; show w.heap.size + 1 + 1 ≠ wB.heap.size; omega)).trans hz
              have h3 := hbl.setCell (p := ⟨wB.heap.size, i, none⟩) (by have := HBS.out; show w.heap.size ≤ wB.heap.size; omega) (.int .i64 (outM t i))
              have b1 := HTQ.out i
              have b2 := HTQ.out (i + 10)
              have w1' : IntKind.i64.wrap (19 * t (i + 10)) = 19 * t (i + 10) := IntWalk.i64_in _ (by omega)
              have w2' : IntKind.i64.wrap (t i + 19 * t (i + 10)) = t i + 19 * t (i + 10) := IntWalk.i64_in _ (by omega)
              have hoe : t i + 19 * t (i + 10) = outM t i := rfl
              have i0 : (0 : Int) ≤ (i : Int) := by omega
              have i1 : (i : Int) < 10 := by omega
              have i2 : (i : Int) < 20 := by omega
              have j0 : (0 : Int) ≤ (i : Int) + 10 := by omega
              have j1 : (i : Int) + 10 < 20 := by omega
              have jt : ((i : Int) + 10).toNat = i + 10 := by omega
              have jw : IntKind.i64.wrap ((i : Int) + 10) = (i : Int) + 10 := IntWalk.i64_in _ (by omega)
              have HR := Lib.hid (And.intro hst (And.intro h1 (And.intro h2 h3)))
              clear hst h1 h2 h3 ho ht hz hbl
              generalize outM t i = Y at *
              go_wp2
              go_still_tail 11, (by kernel_rfl)
              go_wp2
              go_roundw
              case rel => exact ⟨i + 1, by omega, by go_num, HR.out.1, HR.out.2.1, HR.out.2.2.1, HR.out.2.2.2.drew⟩
              case measure => first | (simp [intOf]; omega) | simp [intOf]
            · have hie : i = 10 := by omega
              have hpi : (10 : Int) ≤ (i : Int) := by omega
              rw [hie, upTo_all] at ho
              clear hil hi hie ht
              have HCA := Lib.hid (fun wx => carry_any (outM t) wx (fun q _ => HOT.out q))
              have HMM : Hid (mulL a b = crR (outM t) 20) := by show _ = _; rw [← HTT.out]; rfl
              go_wp2_with (first
                | with_reducible refine wpList_load_row (o := ⟨some 89, _, _, _, _, _⟩) rfl 134 _ rfl wB.heap.size rfl 134 (rwA .i64 10 (outM t)) (0, 0) (.array 10 2) ho Tryd.underlying134 rfl (l10sz _) ?_
                | fail)
              refine (HCA.out _).mono ?_
              rintro e w7 ⟨rfl, hb7⟩
              have hz7 : w7.heap[w.heap.size + 1 + 1]? = some (.cells Z10 134 (0, 0)) := (hb7.block _ (Array.getElem?_eq_some_iff.1 hz).1).trans hz
              have hbw7 := hbl.trans (hb7.mono hbl.size)
              clear ho hz hbl hb7
              generalize hG : crR (outM t) 20 = G at *
              have HG := Lib.hid hG
              clear hG
              go_wp2_with (first
                | with_reducible (refine wpList_store_row (o := ⟨none, .store 134 _ _, _, _, _, _⟩) rfl 134 _ _ rfl (w.heap.size + 1 + 1) (rwA .i64 10 G) rfl rfl 134 Z10 hz7 (l10sz _) (z10sz _) (l10one _) ?_))
              have hrow := setRow_heap w7 (w.heap.size + 1 + 1) Z10 (rwA .i64 10 G) 134 (0, 0) hz7
              refine bodyPost_ret (v := .agg (rwA .i64 10 G)) ?_ rfl ⟨by rw [HMM.out], ?_⟩
              · exact results_cell_row Tryd.results173 _ _ (w.heap.size + 1 + 1) 134 _ (0, 0) _ rfl hrow Tryd.underlying134 rfl (l10sz _)
              · exact hbw7.trans ⟨rfl, rfl, rfl, by simp, fun k hk => setRow_other w7 (w.heap.size + 1 + 1) k _ (by omega)⟩

end Go.Proofs.YtfbcmckepdjdkaaDoor

/- The skipped keys of a list; what a list of skipped keys must be (program). -/
import Derived.Test.YtkglgficmealnaaSsB
namespace Go.Proofs.Ytkglgficmealnaa
open Go.RowKit Go.My Go.Lib
set_option linter.unusedVariables false
set_option maxRecDepth 100000

theorem kvOf_take (K : List SkipT) (j : Nat) (h : j < K.length) : kvOf (K.take (j + 1)) = kvPut (kvOf (K.take j)) (mkOf K[j]) K[j].2.2 := by
  rw [List.take_succ_eq_append_getElem h, kvOf_next]
theorem mkMap (w : World) : (Instr.makeMap 100 none).run Try.prog w = .ok (.map (some w.heap.size)) (w.alloc (.map #[] 0)) := by simp [Instr.makeMap, go_sem]
theorem bKeys (m : Nat) (w : World) : (Instr.build 103 #[(0, .map (some m))]).run Try.prog w = .ok (.agg #[.map (some m), .slice none 0 0]) w := by kernel_rfl

set_option maxHeartbeats 4000000 in
theorem newSkipped_i (u : Value) (K : List SkipT) (w : World) (h : SkipsAt 0 u K w) (hl : K.length ≤ 20) :
    Calls Try.prog 64 #[u] w fun e w' => ∃ s, e = .returned (.pointer (some ⟨s, 0, none⟩)) ∧ SkAt w.heap.size s (kvOf K) w' ∧ Below w.heap.size w w' := by
  have H := Lib.hid h
  obtain ⟨p, cap, rfl, hcm, hlc, hp⟩ := h.open
  have hlI : (K.length : Int) ≤ 20 := by omega
  have hb0 : Below w.heap.size w ((w.alloc (.map #[] 0)).alloc (.cells #[.map (some w.heap.size), .slice none 0 0] 103)) := ((Below.refl _ _).alloc (Nat.le_refl _) _).alloc (by simp) _
  have hsz : (w.alloc (.map #[] 0)).heap.size = w.heap.size + 1 := by simp
  have hS0 : SkAt w.heap.size (w.heap.size + 1) [] ((w.alloc (.map #[] 0)).alloc (.cells #[.map (some w.heap.size), .slice none 0 0] 103)) := by
    refine ⟨w.heap.size, .slice none 0 0, ?_, ⟨#[], 0, ?_, rfl⟩, .inl ⟨rfl, rfl⟩, by omega, by omega, Nat.le_refl _, List.Pairwise.nil⟩
    · have := heap_alloc_new (w.alloc (.map #[] 0)) (.cells #[.map (some w.heap.size), .slice none 0 0] 103)
      rw [hsz] at this
      exact this
    · rw [Below.heap_alloc _ _ _ (by rw [hsz]; omega)]
      exact heap_alloc_new w _
  have HS0 := Lib.hid (And.intro hS0 hb0)
  clear hS0 hb0 h hcm hlc
  go_enter Try.func64, Try.ntmps64
  have hmk := mkMap w
  have hbk := fun w' => bKeys w.heap.size w'
  go_wp2
  go_loopw [11] (fun i wr => ∃ j : Nat, j ≤ K.length ∧ i = .int .i64 j ∧ SkAt w.heap.size (w.heap.size + 1) (kvOf (K.take j)) wr ∧ Below w.heap.size w wr) (fun i _ => K.length - (intOf i).toNat)
  case atStart => exact ⟨0, Nat.zero_le _, rfl, HS0.out.1, HS0.out.2⟩
  case round =>
    obtain ⟨j, hj, rfl, hsk, hB⟩ := hrel
    by_cases hlt : j < K.length
    · have hne : K ≠ [] := by intro c; rw [c] at hlt; simp at hlt
      obtain ⟨g, rfl, _, hg⟩ := hp.resolve_left (fun c => hne c.1)
      have j0 : (0 : Int) ≤ (j : Int) := by omega
      have j1 : (j : Int) < (K.length : Int) := by omega
      obtain ⟨x, hx⟩ : ∃ x, K[j] = x := ⟨_, rfl⟩
      have hA := H.out.below hB
      have a0 : wr.cell? ⟨g, j * 3, none⟩ = some (.string x.1) := hA.at skipC_len hlt hx 0 (by omega) rfl
      have a1 : wr.cell? ⟨g, j * 3 + 1, none⟩ = some (.int .i64 x.2.1) := hA.at skipC_len hlt hx 1 (by omega) rfl
      have a2 : wr.cell? ⟨g, j * 3 + 2, none⟩ = some (.string x.2.2) := hA.at skipC_len hlt hx 2 (by omega) rfl
      have hkt := kvOf_take K j hlt
      rw [hx] at hkt
      have hle : (kvOf (K.take j)).length ≤ 19 := by
        have := (kvOf_all (K.take j)).le
        rw [List.length_take] at this
        omega
      have hal : Below wr.heap.size wr (wr.alloc (.cells #[.string x.1, .int .i64 x.2.1, .string x.2.2] 62)) := below_box wr _
      have hB2 := hB.trans (hal.mono hB.size)
      have C := Lib.hid (put_i w.heap.size (w.heap.size + 1) (kvOf (K.take j)) (mkOf x) x.2.2 _ (hsk.below hal) (Nat.le_trans hB.size hal.size) hle)
      rw [← hkt] at C
      have HB2 := Lib.hid hB2
      clear hA hx hkt hle hal hB2 hB hsk hne hp hg
      go_wp2_with fail
      refine C.out.mono ?_
      rintro e w2 ⟨rfl, hsk2, hb2⟩
      have HN := Lib.hid (And.intro hsk2 (HB2.out.trans hb2))
      clear hsk2 hb2 C a0 a1 a2
      go_wp2
      go_roundw
      case rel => exact ⟨j + 1, by omega, by go_num, HN.out.1, HN.out.2⟩
      case measure => simp [intOf]; omega
    · obtain rfl : j = K.length := by omega
      rw [List.take_length] at hsk
      go_wp2
      go_ret
      exact ⟨_, rfl, hsk, hB⟩

theorem all_take {K : List SkipT} {j : Nat} (h : j < K.length) : (K.take (j + 1)).all skipB = ((K.take j).all skipB && skipB K[j]) := by
  rw [List.take_succ_eq_append_getElem h, List.all_append]
  simp
theorem all_bad {K : List SkipT} {j : Nat} (h : j < K.length) (hb : skipB K[j] = false) : K.all skipB = false := by
  rw [List.all_eq_false]
  exact ⟨K[j], List.getElem_mem h, by rw [hb]; decide⟩
theorem skips_bad {K : List SkipT} (h : K.all skipB = false) : skipsB K = false := by unfold skipsB; rw [h, Bool.and_false, Bool.false_and]
theorem ldMapI {g m : Nat} {v : Value} {w : World} (h : BlkAt g #[.map (some m), v] 103 w) : w.cell? ⟨g, 0, none⟩ = some (.map (some m)) := h.cell (j := 0) rfl

set_option maxHeartbeats 4000000 in
theorem skipsOk_i (u : Value) (K : List SkipT) (w : World) (h : SkipsAt 0 u K w) (hm : K.length ≤ 1048576) :
    Calls Try.prog 35 #[u] w fun e w' => e = .returned (.bool (skipsB K)) ∧ Below w.heap.size w w' := by
  have H := Lib.hid h
  obtain ⟨p, cap, rfl, hcm, hlc, hp⟩ := h.open
  have hlI : (K.length : Int) ≤ 1048576 := by omega
  clear h hcm hlc
  by_cases h20 : K.length ≤ 20
  case neg =>
    have q : (20 : Int) < (K.length : Int) := by omega
    have HF : Hid (skipsB K = false) := by show _ = _; unfold skipsB; rw [decide_eq_false h20]; rfl
    clear h20
    go_enter Try.func35, Try.ntmps35
    go_wp2
    go_ret
    exact ⟨by rw [HF.out]; rfl, Below.refl _ _⟩
  have q : (K.length : Int) ≤ 20 := by omega
  go_enter Try.func35, Try.ntmps35
  go_wp2
  go_loopw [10] (fun i wr => ∃ j : Nat, j ≤ K.length ∧ i = .int .i64 j ∧ (K.take j).all skipB = true ∧ Below w.heap.size w wr) (fun i _ => K.length - (intOf i).toNat)
  case atStart => exact ⟨0, Nat.zero_le _, rfl, rfl, Below.refl _ _⟩
  case round =>
    obtain ⟨j, hj, rfl, hall, hB⟩ := hrel
    have HA := Lib.hid hall
    clear hall
    by_cases hlt : j < K.length
    · have hne : K ≠ [] := by intro c; rw [c] at hlt; simp at hlt
      obtain ⟨g, rfl, _, hg⟩ := hp.resolve_left (fun c => hne c.1)
      have j0 : (0 : Int) ≤ (j : Int) := by omega
      have j1 : (j : Int) < (K.length : Int) := by omega
      obtain ⟨x, hx⟩ : ∃ x, K[j] = x := ⟨_, rfl⟩
      have hA := H.out.below hB
      have a0 : wr.cell? ⟨g, j * 3, none⟩ = some (.string x.1) := hA.at skipC_len hlt hx 0 (by omega) rfl
      have a1 : wr.cell? ⟨g, j * 3 + 1, none⟩ = some (.int .i64 x.2.1) := hA.at skipC_len hlt hx 1 (by omega) rfl
      have a2 : wr.cell? ⟨g, j * 3 + 2, none⟩ = some (.string x.2.2) := hA.at skipC_len hlt hx 2 (by omega) rfl
      have HT : Hid ((K.take (j + 1)).all skipB = (k32 x.1 && cntB x.2.1 && k32 x.2.2)) := by show _ = _; rw [all_take hlt, HA.out, hx]; rfl
      have HBD : Hid ((k32 x.1 && cntB x.2.1 && k32 x.2.2) = false → skipsB K = false) := fun hb => skips_bad (all_bad hlt (by rw [hx]; exact hb))
      have hal : Below wr.heap.size wr (wr.alloc (.cells #[.string x.1, .int .i64 x.2.1, .string x.2.2] 62)) := below_box wr _
      have hal2 := hal.trans ((below_box _ (.cells (strsK [x.1, x.2.2]) 9)).mono hal.size)
      have HB2 := Lib.hid (hB.trans (hal2.mono hB.size))
      have hsz : (wr.alloc (.cells #[.string x.1, .int .i64 x.2.1, .string x.2.2] 62)).heap.size = wr.heap.size + 1 := by simp
      have hbx : ((wr.alloc (.cells #[.string x.1, .int .i64 x.2.1, .string x.2.2] 62)).alloc (.cells (strsK [x.1, x.2.2]) 9)).heap[wr.heap.size]? = some (.cells #[.string x.1, .int .i64 x.2.1, .string x.2.2] 62 (0, 0)) := by
        rw [Below.heap_alloc _ _ _ (by rw [hsz]; omega)]
        exact heap_alloc_new wr _
      have CK := Lib.hid (allKeys_k (wr.heap.size + 1) [x.1, x.2.2] _ (by rw [← hsz]; exact heap_alloc_new _ _) (by simp))
      have eK : keysB [x.1, x.2.2] = (k32 x.1 && k32 x.2.2) := by show (k32 x.1 && (k32 x.2.2 && true)) = _; rw [Bool.and_true]
      rw [eK] at CK
      clear hA hx hal hal2 hB hne hp hg eK
      obtain ⟨⟨x0, x1, x2⟩, _⟩ := dk_cells hbx
      go_wp2_with fail
      refine CK.out.mono ?_
      rintro e w2 ⟨rfl, rfl⟩
      cases k1 : k32 x.1 with
      | false =>
        have HF := Lib.hid (HBD.out (by rw [k1]; rfl))
        rw [Bool.false_and]
        go_wp2
        go_ret
        exact ⟨by rw [HF.out]; rfl, HB2.out⟩
      | true =>
      cases k2 : k32 x.2.2 with
      | false =>
        have HF := Lib.hid (HBD.out (by rw [k2, Bool.and_false]))
        rw [Bool.and_false]
        go_wp2
        go_ret
        exact ⟨by rw [HF.out]; rfl, HB2.out⟩
      | true =>
        rw [Bool.and_true]
        go_wp2_with fail
        refine (countOk_b x.2.1 _).mono ?_
        rintro e w3 ⟨rfl, rfl⟩
        cases k3 : cntB x.2.1 with
        | false =>
          have HF := Lib.hid (HBD.out (by rw [k3, Bool.and_false, Bool.false_and]))
          go_wp2
          go_ret
          exact ⟨by rw [HF.out]; rfl, HB2.out⟩
        | true =>
          have HT2 : Hid ((K.take (j + 1)).all skipB = true) := by show _ = _; rw [HT.out, k1, k2, k3]; rfl
          clear k1 k2 k3 x0 x1 x2 a0 a1 a2 hbx
          go_wp2
          go_roundw
          case rel => exact ⟨j + 1, by omega, by go_num, HT2.out, HB2.out⟩
          case measure => simp [intOf]; omega
    · obtain rfl : j = K.length := by omega
      have C := Lib.hid (newSkipped_i (.slice p K.length cap) K wr (H.out.below hB) h20)
      have HB := Lib.hid hB
      have HK := Lib.hid (kvOf_all K).full
      rw [List.take_length] at HA
      go_wp2_with fail
      refine C.out.mono ?_
      rintro e w2 ⟨s, rfl, hsk, hb⟩
      obtain ⟨m, v, hs, hmm, _⟩ := hsk
      have c0 := hs.cell (j := 0) rfl
      have hln := fun ty => len_map m _ w2 hmm ty
      have HB3 := Lib.hid (HB.out.trans (hb.mono HB.out.size))
      have HV : Hid ((((kvOf K).length : Int) == (K.length : Int)) = skipsB K) := by
        show _ = _
        unfold skipsB
        rw [decide_eq_true h20, HA.out, Bool.true_and, Bool.true_and]
        by_cases c : (K.map mkOf).Nodup
        · rw [decide_eq_true c, HK.out.2 c]; simp
        · rw [decide_eq_false c]
          have : ¬ (kvOf K).length = K.length := fun e => c (HK.out.1 e)
          simp; omega
      clear hb hmm
      go_wp2
      go_ret
      exact ⟨by first | rfl | (rw [HV.out]; rfl), HB3.out⟩

end Go.Proofs.Ytkglgficmealnaa

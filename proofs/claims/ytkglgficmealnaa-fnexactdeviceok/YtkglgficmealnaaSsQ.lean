/- SessionOk of the specification. -/
import Derived.Test.YtkglgficmealnaaSsD
import Derived.BigQuiet
import Derived.Deep.Cut
namespace Go.Proofs.Ytkglgficmealnaa
open Go.RowKit Go.My Go.Lib
set_option linter.unusedVariables false
set_option maxRecDepth 100000

theorem map_take {K : List SkipT} {j : Nat} (h : j < K.length) : (K.take (j + 1)).map mkOf = (K.take j).map mkOf ++ [mkOf K[j]] := by
  rw [List.take_succ_eq_append_getElem h, List.map_append]
  rfl
theorem nodup_take {K : List SkipT} {j : Nat} (h : j < K.length) (hd : ((K.take j).map mkOf).Nodup) (hno : ∀ k (hk : k < j), mkOf (K[k]'(by omega)) ≠ mkOf K[j]) : ((K.take (j + 1)).map mkOf).Nodup := by
  rw [map_take h, List.nodup_append]
  refine ⟨hd, by simp, fun a ha b hb => ?_⟩
  rw [List.mem_singleton.1 hb]
  obtain ⟨x, hx, rfl⟩ := List.mem_map.1 ha
  obtain ⟨k, hk, rfl⟩ := List.mem_iff_getElem.1 hx
  rw [List.length_take] at hk
  rw [List.getElem_take]
  exact hno k (by omega)
theorem dup_bad {K : List SkipT} {j k : Nat} (h : j < K.length) (hk : k < j) (e : mkOf (K[k]'(by omega)) = mkOf K[j]) : skipsB K = false := by
  unfold skipsB
  have : ¬ (K.map mkOf).Nodup := fun hd => by
    have h2 := List.pairwise_iff_getElem.1 hd k j (by rw [List.length_map]; omega) (by rw [List.length_map]; omega) hk
    rw [List.getElem_map, List.getElem_map] at h2
    exact h2 e
  rw [decide_eq_false this, Bool.and_false]
theorem neq_i {a b : Int} (h : ¬ a = b) : (a == b) = false := by simpa using h
theorem mk_ne1 {x y : SkipT} (h : ¬ x.1 = y.1) : mkOf x ≠ mkOf y := fun e => h (congrArg (fun z : Mk => z.1) e)
theorem mk_ne2 {x y : SkipT} (h : ¬ x.2.1 = y.2.1) : mkOf x ≠ mkOf y := fun e => h (congrArg (fun z : Mk => z.2) e)
theorem neq_b {a b : ByteArray} (h : a ≠ b) : (a.toList == b.toList) = false := by
  cases c : a.toList == b.toList with
  | false => rfl
  | true =>
    exfalso
    have e := eq_of_beq c
    rw [ByteArray.toList_eq, ByteArray.toList_eq] at e
    apply h
    obtain ⟨⟨x⟩⟩ := a
    obtain ⟨⟨y⟩⟩ := b
    rw [show x = y from e]

set_option maxHeartbeats 8000000 in
theorem sesOk_s (r o p t k : ByteArray) (n v : Int) (q : ByteArray) (m : Int) (u : Value) (K : List SkipT) (w : World) (h : SkipsAt 0 u K w) (hm : K.length ≤ 1048576) :
    Calls Try.prog 9 #[.agg (sesU r o p t k n v q m u)] w fun e w' => e = .returned (.bool (sesB r o p t k n v q m K)) ∧ Below w.heap.size w w' := by
  have hb0 : Below w.heap.size w (w.alloc (.cells (sesU r o p t k n v q m u) 29)) := below_box w _
  have hbx := heap_alloc_new w (.cells (sesU r o p t k n v q m u) 29)
  have HB0 := Lib.hid hb0
  have HK := Lib.hid h
  have HV : Hid (sesB r o p t k n v q m K = ((k32 r && (k32 o && (k32 p && true))) && noneOr t && noneOr k && noneOr q && cntB n && cntB v && cntB m && skipsB K && tailB t k q)) := rfl
  obtain ⟨pu, cu, rfl, _, _, hp⟩ := h.open
  have hlI : (K.length : Int) ≤ 1048576 := by omega
  clear h hb0
  obtain ⟨⟨c0, c1, c2, c3, c4, c5, c6, c7, c8, c9⟩, _⟩ := ses_cells hbx
  go_enter Try.func9, Try.ntmps9
  go_wp2_with fail
  refine (l1Key_b r _).mono ?_
  rintro e w2 ⟨rfl, rfl⟩
  cases n1 : k32 r with
  | false =>
    go_wp2
    go_ret
    exact ⟨by rw [HV.out, n1]; simp, HB0.out⟩
  | true =>
  go_wp2_with fail
  refine (l1Key_b o _).mono ?_
  rintro e w2 ⟨rfl, rfl⟩
  cases n2 : k32 o with
  | false =>
    go_wp2
    go_ret
    exact ⟨by rw [HV.out, n2]; simp, HB0.out⟩
  | true =>
  go_wp2_with fail
  refine (l1Key_b p _).mono ?_
  rintro e w2 ⟨rfl, rfl⟩
  cases n3 : k32 p with
  | false =>
    go_wp2
    go_ret
    exact ⟨by rw [HV.out, n3]; simp, HB0.out⟩
  | true =>
  go_wp2_with fail
  refine (l7Key_b t _).mono ?_
  rintro e w2 ⟨rfl, rfl⟩
  cases n4 : noneOr t with
  | false =>
    go_wp2
    go_ret
    exact ⟨by rw [HV.out, n4]; simp, HB0.out⟩
  | true =>
  go_wp2_with fail
  refine (l7Key_b k _).mono ?_
  rintro e w2 ⟨rfl, rfl⟩
  cases n5 : noneOr k with
  | false =>
    go_wp2
    go_ret
    exact ⟨by rw [HV.out, n5]; simp, HB0.out⟩
  | true =>
  go_wp2_with fail
  refine (l7Key_b q _).mono ?_
  rintro e w2 ⟨rfl, rfl⟩
  cases n6 : noneOr q with
  | false =>
    go_wp2
    go_ret
    exact ⟨by rw [HV.out, n6]; simp, HB0.out⟩
  | true =>
  go_wp2_with fail
  refine (l5N_b n _).mono ?_
  rintro e w2 ⟨rfl, rfl⟩
  cases n7 : cntB n with
  | false =>
    go_wp2
    go_ret
    exact ⟨by rw [HV.out, n7]; simp, HB0.out⟩
  | true =>
  go_wp2_with fail
  refine (l5N_b v _).mono ?_
  rintro e w2 ⟨rfl, rfl⟩
  cases n8 : cntB v with
  | false =>
    go_wp2
    go_ret
    exact ⟨by rw [HV.out, n8]; simp, HB0.out⟩
  | true =>
  go_wp2_with fail
  refine (l5N_b m _).mono ?_
  rintro e w2 ⟨rfl, rfl⟩
  cases n9 : cntB m with
  | false =>
    go_wp2
    go_ret
    exact ⟨by rw [HV.out, n9]; simp, HB0.out⟩
  | true =>
  have HV2 : Hid (sesB r o p t k n v q m K = (skipsB K && tailB t k q)) := by show _ = _; rw [HV.out, n1, n2, n3, n4, n5, n6, n7, n8, n9]; rfl
  clear HV n1 n2 n3 n4 n5 n6 n7 n8 n9
  have HBX := Lib.hid hbx
  clear hbx c0 c1 c2 c3 c4 c5 c6 c7 c8 c9
  go_wp2
  go_loopw [3] (fun i wr => ∃ j : Nat, j ≤ K.length ∧ i = .int .i64 j ∧ (K.take j).all skipB = true ∧ ((K.take j).map mkOf).Nodup ∧ Below (w.alloc (.cells (sesU r o p t k n v q m (.slice pu K.length cu)) 29)).heap.size (w.alloc (.cells (sesU r o p t k n v q m (.slice pu K.length cu)) 29)) wr) (fun i _ => K.length - (intOf i).toNat)
  case atStart => exact ⟨0, Nat.zero_le _, rfl, rfl, List.nodup_nil, Below.refl _ _⟩
  case round =>
    obtain ⟨j, hj, rfl, hall, hnd, hB⟩ := hrel
    have HA := Lib.hid (And.intro hall hnd)
    have hbr := (hB.block _ (Array.getElem?_eq_some_iff.1 HBX.out).1).trans HBX.out
    have HBR := Lib.hid (And.intro hB hbr)
    have HBW := Lib.hid (HB0.out.trans (hB.mono HB0.out.size))
    have HKR := Lib.hid (HK.out.below HBW.out)
    clear hall hnd hB
    obtain ⟨⟨c0, c1, c2, c3, c4, c5, c6, c7, c8, c9⟩, _⟩ := ses_cells hbr
    clear hbr
    by_cases hlt : j < K.length
    · have hne : K ≠ [] := by intro c; rw [c] at hlt; simp at hlt
      obtain ⟨g, rfl, _, hg⟩ := hp.resolve_left (fun c => hne c.1)
      have j0 : (0 : Int) ≤ (j : Int) := by omega
      have j1 : (j : Int) < (K.length : Int) := by omega
      obtain ⟨x, hx⟩ : ∃ x, K[j] = x := ⟨_, rfl⟩
      have a0 : wr.cell? ⟨g, j * 3, none⟩ = some (.string x.1) := HKR.out.at skipC_len hlt hx 0 (by omega) rfl
      have a1 : wr.cell? ⟨g, j * 3 + 1, none⟩ = some (.int .i64 x.2.1) := HKR.out.at skipC_len hlt hx 1 (by omega) rfl
      have a2 : wr.cell? ⟨g, j * 3 + 2, none⟩ = some (.string x.2.2) := HKR.out.at skipC_len hlt hx 2 (by omega) rfl
      have HT : Hid ((K.take (j + 1)).all skipB = (k32 x.1 && cntB x.2.1 && k32 x.2.2)) := by show _ = _; rw [all_take hlt, HA.out.1, hx]; rfl
      have HBD : Hid ((k32 x.1 && cntB x.2.1 && k32 x.2.2) = false → skipsB K = false) := fun hb => skips_bad (all_bad hlt (by rw [hx]; exact hb))
      have hal : Below wr.heap.size wr (wr.alloc (.cells #[.string x.1, .int .i64 x.2.1, .string x.2.2] 62)) := below_box wr _
      have HX := Lib.hid (heap_alloc_new wr (.cells #[.string x.1, .int .i64 x.2.1, .string x.2.2] 62))
      have HBR2 := Lib.hid (And.intro (HBR.out.1.trans (hal.mono HBR.out.1.size)) ((hal.block _ (Array.getElem?_eq_some_iff.1 HBR.out.2).1).trans HBR.out.2))
      have HBW2 := Lib.hid (HBW.out.trans (hal.mono HBW.out.size))
      have HKR2 := Lib.hid (HKR.out.below hal)
      have HJX := Lib.hid hx
      have HDUP := Lib.hid (fun (k' : Nat) (hk : k' < j) (e : mkOf (K[k']'(by omega)) = mkOf x) => dup_bad hlt hk (by rw [hx]; exact e))
      have HND := Lib.hid (fun (hno : ∀ k' (hk : k' < j), mkOf (K[k']'(by omega)) ≠ mkOf x) => nodup_take hlt HA.out.2 (fun k' hk => by rw [hx]; exact hno k' hk))
      clear hx hal hne
      go_upto_region 7 with (fail)
      clear a0 a1 a2 c0 c1 c2 c3 c4 c5 c6 c7 c8 c9
      generalize wr.alloc (.cells #[.string x.1, .int .i64 x.2.1, .string x.2.2] 62) = wx at HX HBR2 HBW2 HKR2 ⊢
      generalize wr.heap.size = kx at HX ⊢
      obtain ⟨⟨x0, x1, x2⟩, _⟩ := dk_cells HX.out
      go_wp2_with fail
      refine (l1Key_b x.1 _).mono ?_
      rintro e w2 ⟨rfl, rfl⟩
      cases g1 : k32 x.1 with
      | false =>
        have HF := Lib.hid (HBD.out (by rw [g1]; simp))
        go_wp2
        go_ret
        exact ⟨by rw [HV2.out, HF.out]; rfl, HBW2.out⟩
      | true =>
      go_wp2_with fail
      refine (l5N_b x.2.1 _).mono ?_
      rintro e w2 ⟨rfl, rfl⟩
      cases g2 : cntB x.2.1 with
      | false =>
        have HF := Lib.hid (HBD.out (by rw [g2]; simp))
        go_wp2
        go_ret
        exact ⟨by rw [HV2.out, HF.out]; rfl, HBW2.out⟩
      | true =>
      go_wp2_with fail
      refine (l1Key_b x.2.2 _).mono ?_
      rintro e w2 ⟨rfl, rfl⟩
      cases g3 : k32 x.2.2 with
      | false =>
        have HF := Lib.hid (HBD.out (by rw [g3]; simp))
        go_wp2
        go_ret
        exact ⟨by rw [HV2.out, HF.out]; rfl, HBW2.out⟩
      | true =>
      have HT2 : Hid ((K.take (j + 1)).all skipB = true) := by show _ = _; rw [HT.out, g1, g2, g3]; rfl
      clear g1 g2 g3 x0 x1 x2
      go_wp2
      go_loopw [5] (fun i ws => ∃ l : Nat, l ≤ j ∧ i = .int .i64 l ∧ (∀ k' (hk : k' < l) (hkj : k' < K.length), mkOf K[k'] ≠ mkOf x) ∧ Below wx.heap.size wx ws) (fun i _ => j - (intOf i).toNat)
      case atStart => exact ⟨0, Nat.zero_le _, rfl, fun k' hk => by omega, Below.refl _ _⟩
      case round =>
        obtain ⟨l, hl, rfl, hno, hb⟩ := hrel
        have HNO := Lib.hid hno
        have HB3 := Lib.hid hb
        have HBW3 := Lib.hid (HBW2.out.trans (hb.mono HBW2.out.size))
        clear hno
        by_cases hlj : l < j
        · have hlk : l < K.length := by omega
          have l0 : (0 : Int) ≤ (l : Int) := by omega
          have l1 : (l : Int) < (j : Int) := by omega
          have l2 : (l : Int) < (K.length : Int) := by omega
          obtain ⟨⟨c0, c1, c2, c3, c4, c5, c6, c7, c8, c9⟩, _⟩ := ses_cells ((hb.block _ (Array.getElem?_eq_some_iff.1 HBR2.out.2).1).trans HBR2.out.2)
          obtain ⟨⟨x0, x1, x2⟩, _⟩ := dk_cells ((hb.block _ (Array.getElem?_eq_some_iff.1 HX.out).1).trans HX.out)
          obtain ⟨y, hy⟩ : ∃ y, K[l] = y := ⟨_, rfl⟩
          have hA := HKR2.out.below hb
          have b0 := hA.at skipC_len hlk hy 0 (by omega) (u := .string y.1) rfl
          have b1 := hA.at skipC_len hlk hy 1 (by omega) (u := .int .i64 y.2.1) rfl
          rw [Nat.add_zero] at b0
          have HY := Lib.hid hy
          clear hA hy hb
          by_cases e1 : y.1 = x.1
          · have q1 : (y.1.toList == x.1.toList) = true := by rw [e1]; exact beq_self_eq_true _
            by_cases e2 : y.2.1 = x.2.1
            · have q2 : (y.2.1 == x.2.1) = true := by rw [e2]; exact beq_self_eq_true _
              have HF := Lib.hid (HDUP.out l hlj (by rw [HY.out]; exact Prod.ext e1 e2))
              clear e1 e2
              go_upto_region 12 with (fail)
              go_quiet (fail)
              go_wp2
              go_ret
              exact ⟨by rw [HV2.out, HF.out]; rfl, below_drewN HBW3.out _⟩
            · have q2 : (y.2.1 == x.2.1) = false := neq_i e2
              have HNE := Lib.hid (mk_ne2 e2)
              clear e1 e2
              go_upto_region 12 with (fail)
              go_quiet (fail)
              go_wp2
              go_roundw
              case rel => exact ⟨l + 1, by omega, by go_num, (fun k' hk hkj => by
                by_cases c : k' = l
                · subst c; rw [HY.out]; exact HNE.out
                · exact HNO.out k' (by omega) hkj), below_drewN HB3.out _⟩
              case measure => simp [intOf]; omega
          · have q1 : (y.1.toList == x.1.toList) = false := neq_b e1
            have HNE := Lib.hid (mk_ne1 e1)
            clear e1
            go_upto_region 12 with (fail)
            go_quiet (fail)
            go_wp2
            go_roundw
            case rel => exact ⟨l + 1, by omega, by go_num, (fun k' hk hkj => by
              by_cases c : k' = l
              · subst c; rw [HY.out]; exact HNE.out
              · exact HNO.out k' (by omega) hkj), below_drewN HB3.out _⟩
            case measure => simp [intOf]; omega
        · obtain rfl : l = j := by omega
          have HND2 := Lib.hid (HND.out (fun k' hk => HNO.out k' hk _))
          go_wp2
          go_roundw
          case rel => exact ⟨l + 1, by omega, by go_num, HT2.out, HND2.out, HBR2.out.1.trans (HB3.out.mono HBR2.out.1.size)⟩
          case measure => simp [intOf]; omega
    · obtain rfl : j = K.length := by omega
      have hA2 := HA.out
      rw [List.take_length] at hA2
      have HV3 : Hid (sesB r o p t k n v q m K = (decide (K.length ≤ 20) && tailB t k q)) := by
        show _ = _
        rw [HV2.out]
        unfold skipsB
        rw [hA2.1, decide_eq_true hA2.2, Bool.and_true, Bool.and_true]
      clear hA2 HV2
      by_cases h20 : K.length ≤ 20
      case neg =>
        have hd : decide ((K.length : Int) ≤ 20) = false := by simp; omega
        have HF := Lib.hid (decide_eq_false h20)
        clear h20
        go_wp2
        go_ret
        exact ⟨by rw [HV3.out, HF.out]; rfl, HBW.out⟩
      have hd : (K.length : Int) ≤ 20 := by omega
      have HV2 : Hid (sesB r o p t k n v q m K = tailB t k q) := by show _ = _; rw [HV3.out, decide_eq_true h20]; rfl
      clear h20 HV3
      by_cases ht : t.size = 0
      · obtain rfl := emptyS ht
        by_cases hk : k.size = 0
        · obtain rfl := emptyS hk
          by_cases hq : q.size = 0
          · obtain rfl := emptyS hq
            go_wp2
            go_ret
            exact ⟨by rw [HV2.out]; simp_all [tailB], HBW.out⟩
          · have eq := fullS hq
            go_wp2
            go_ret
            exact ⟨by rw [HV2.out]; simp_all [tailB], HBW.out⟩
        · have ek := fullS hk
          by_cases hq : q.size = 0
          · obtain rfl := emptyS hq
            go_wp2
            go_ret
            exact ⟨by rw [HV2.out]; simp_all [tailB], HBW.out⟩
          · have eq := fullS hq
            go_wp2
            go_ret
            exact ⟨by rw [HV2.out]; simp_all [tailB], HBW.out⟩
      · have et := fullS ht
        by_cases hk : k.size = 0
        · obtain rfl := emptyS hk
          by_cases hq : q.size = 0
          · obtain rfl := emptyS hq
            go_wp2
            go_ret
            exact ⟨by rw [HV2.out]; simp_all [tailB], HBW.out⟩
          · have eq := fullS hq
            go_wp2
            go_ret
            exact ⟨by rw [HV2.out]; simp_all [tailB], HBW.out⟩
        · have ek := fullS hk
          by_cases hq : q.size = 0
          · obtain rfl := emptyS hq
            go_wp2
            go_ret
            exact ⟨by rw [HV2.out]; simp_all [tailB], HBW.out⟩
          · have eq := fullS hq
            go_wp2
            go_ret
            exact ⟨by rw [HV2.out]; simp_all [tailB], HBW.out⟩

end Go.Proofs.Ytkglgficmealnaa

import Derived.Test.YtgjnoleejbkddaaDoorGSha4
import Derived.Test.YtgjnoleejbkddaaDoorGM1
import Derived.Lib.BufferWrite
/- The contract of the program's sum: the padding, the size, the state's words as bytes. -/
namespace Go.Proofs.YtgjnoleejbkddaaDoor
open Go.RowKit Go.My Go.Lib
set_option linter.unusedVariables false

set_option maxHeartbeats 2000000 in
set_option maxRecDepth 100000 in
theorem sum_any (g : Nat) (S : DS) (z : Nat) (w : World) (hd : DigS w g S z) (hk : TabK w) (h0 : 2 < g) (hz : z < 900000) :
    Calls Tryd.prog 87 #[.pointer (some ⟨g, 0, none⟩)] w fun e w' => e = .returned (.string (str (sumL S z))) ∧ w.grownBy w' (some g) := by
  have z1 : (z : Int) ≤ 900000 := by omega
  have z0 : (0 : Int) ≤ (z : Int) := by omega
  have HZ := Lib.hid hz
  have HD := Lib.hid hd
  have cz := (cell_of_row w g 73 _ _ _ hd.1.1).trans (dig_size _ _ _ _)
  clear hz hd
  go_enter Tryd.func87, Tryd.ntmps87
  go_wp2_with fail
  have hbe := be_impl (8 * z) 8 w (by have := HZ.out; unfold U64; omega) (by decide)
  rw [show ((8 * z : Nat) : Int) = 8 * (z : Int) by omega] at hbe
  refine hbe.mono ?_
  clear hbe
  rintro e w1 ⟨rfl, hb1⟩
  have hd1 : DigS w1 g S z := ⟨HD.out.1.below hb1 HD.out.1.lt, HD.out.2⟩
  have hk1 : TabK w1 := hk.below hb1 (by have := HD.out.1.lt; omega)
  have hgr1 : w.grownBy w1 (some g) := gr_below hb1 (Nat.le_refl _)
  generalize hSZ : beL (8 * z) 8 = SZ
  have hszl : SZ.length = 8 := by rw [← hSZ]; exact beT_len _ _ _
  have HSZ := Lib.hid hSZ
  clear hSZ hb1 cz
  go_wp2_with fail
  refine (writeD_any g S z ⟨#[128]⟩ _ hd1 hk1 h0 (by decide) (by have := HZ.out; omega)).mono ?_
  rintro e w2 ⟨rfl, hd2, hgr2'⟩
  have hgr2 := gr_trans hgr1 hgr2'
  have hk2 := hk1.grown hgr2' h0
  have hs1 : (⟨#[128]⟩ : ByteArray).data.toList = [128] := rfl
  have hs2 : (⟨#[128]⟩ : ByteArray).size = 1 := rfl
  rw [hs1, hs2] at hd2
  clear hd1 hk1 hgr1 hgr2' hs1 hs2
  obtain ⟨B, hB⟩ : ∃ B, B = str SZ := ⟨_, rfl⟩
  have hB8 : (B.size : Int) = 8 := by rw [hB, str_size, hszl]; rfl
  rw [← hB]
  have HB := Lib.hid hB
  clear hB hszl
  go_wp2_with fail
  have hst : DigS w2 g (dputs (dputs S [128]) (List.replicate 0 0)) (z + 1 + 0) := hd2
  have HU : Hid (S.u < 64) := HD.out.2
  have HT : Hid ((dputs S [128]).u = (S.u + 1) % 64) := dputs_u S [128] HD.out.2
  have HTL : Hid ((dputs S [128]).u < 64) := hd2.2
  clear hd2 HD
  generalize hTe : dputs S [128] = T at *
  have HTE := Lib.hid hTe
  clear hTe
  go_loopw [15] (fun _ wr => ∃ m : Nat, m ≤ padN S.u ∧ DigS wr g (dputs T (List.replicate m 0)) (z + 1 + m) ∧ w.grownBy wr (some g))
    (fun _ wr => match wr.cell? ⟨g, 73, none⟩ with | some (.int _ x) => z + 1 + 64 - x.toNat | _ => 0)
  case atStart => exact ⟨0, by omega, hst, hgr2⟩
  case round =>
    clear hst hgr2
    obtain ⟨m, hm, hd, hgr⟩ := hrel
    have hu : (dputs T (List.replicate m 0)).u = ((S.u + 1) % 64 + m) % 64 := by rw [dputs_u _ _ HTL.out, HT.out, List.length_replicate]
    have cu := (cell_of_row wr g 72 _ _ _ hd.1.1).trans (dig_used _ _ _ _)
    have cz := (cell_of_row wr g 73 _ _ _ hd.1.1).trans (dig_size _ _ _ _)
    by_cases hlt : m < padN S.u
    · have hne : (dputs T (List.replicate m 0)).u ≠ 56 := by rw [hu]; exact pad_u S.u m HU.out hlt
      have hne2 : ((((dputs T (List.replicate m 0)).u : Int)) != 56) = true := by simp; omega
      have hsn : dputs T (List.replicate (m + 1) 0) = dputs (dputs T (List.replicate m 0)) [0] := by rw [List.replicate_succ', dputs_append]
      have HP := Lib.hid (padN_lt S.u)
      have HSN := Lib.hid hsn
      have HM := Lib.hid (And.intro hm hlt)
      have hkr := hk.grown hgr h0
      clear hu hne hsn hm hlt
      generalize dputs T (List.replicate m 0) = R at *
      go_wp2_with fail
      refine (writeD_any g R (z + 1 + m) ⟨#[0]⟩ _ hd hkr h0 (by decide) (by have := HZ.out; have := HP.out; have := HM.out; omega)).mono ?_
      rintro e w3 ⟨rfl, hd3, hgr3⟩
      have hs1 : (⟨#[0]⟩ : ByteArray).data.toList = [0] := rfl
      have hs2 : (⟨#[0]⟩ : ByteArray).size = 1 := rfl
      rw [hs1, hs2] at hd3
      have cz3 := (cell_of_row w3 g 73 _ _ _ hd3.1.1).trans (dig_size _ _ _ _)
      go_wp2
      go_roundw
      case rel => exact ⟨m + 1, by have := HM.out; omega, by rw [HSN.out]; exact hd3, gr_trans hgr hgr3⟩
      case measure =>
        rw [cz, cz3]
        have := HP.out; have := HM.out
        show z + 1 + 64 - (((z + 1 + m + 1 : Nat) : Int)).toNat < z + 1 + 64 - (((z + 1 + m : Nat) : Int)).toNat
        omega
    · have hme : m = padN S.u := by omega
      have he : (dputs T (List.replicate m 0)).u = 56 := by rw [hu, hme]; exact pad_end S.u HU.out
      have he2 : ((dputs T (List.replicate m 0)).u : Int) = 56 := by omega
      have HME := Lib.hid hme
      have HP := Lib.hid (padN_lt S.u)
      have hkr := hk.grown hgr h0
      clear hu hlt hm hme he
      generalize hR : dputs T (List.replicate m 0) = R at *
      have HR := Lib.hid hR
      clear hR
      go_wp2_with fail
      refine (writeD_any g R (z + 1 + m) B _ hd hkr h0 (by omega) (by have := HZ.out; have := HP.out; have := HME.out; omega)).mono ?_
      rintro e w4 ⟨rfl, hd4, hgr4⟩
      have hF : dputs R B.data.toList = dputs S (padL S.u z) := by
        unfold padL
        rw [← HR.out, ← HTE.out, HME.out, HB.out, str_list, ← HSZ.out, ← dputs_append, ← dputs_append]
        simp
      have hgr5 := gr_trans hgr hgr4
      rw [hF] at hd4
      have HQ : Hid (sumL S z = outL (dputs S (padL S.u z)).st 8) := rfl
      generalize dputs S (padL S.u z) = F at *
      have hbd := hd4.1.2.1
      have hr4 := hd4.1.1
      have h8 : (Tryd.prog.info? 80).map (·.size) = some (wordsL 8 F.st).length := by rw [wordsL_len]; exact size_w8
      have H8 := Lib.hid h8
      have HIX := Lib.hid (fun (i : Nat) (hi : i < 8) (wx : World) => run_index_arr (P := Tryd.prog) wx 80 64 8 (wordsL 8 F.st).toArray .i64 .u32 i (.int .u32 (F.st i)) Tryd.underlying80 Tryd.underlying64 size_u32 hi (wordsA_get 8 F.st i hi))
      have HBD := Lib.hid hbd
      clear h8 hbd hd4 hF hgr4 hgr hd hkr he2 cu cz
      go_wp2_with (first
        | ((with_reducible refine wpList_load_mid (op := ⟨some 31, _, _, _, _, _⟩) rfl 80 _ rfl g 0 rfl (wordsL 8 F.st) (.array 8 64) ?cr Tryd.underlying80 rfl H8.out ?_)))
      case cr =>
        intro j v hv
        have hj : j < 8 := by have := (List.getElem?_eq_some_iff.1 hv).1; rw [wordsL_len] at this; exact this
        rw [cell_of_row w4 g (0 + j) _ _ _ hr4, Nat.zero_add, dig_st _ _ _ _ j hj, ← hv, wordsL_get 8 F.st j hj]
      clear hr4
      go_loopw [4, 32] (fun o i wr => ∃ n : Nat, n ≤ 8 ∧ i = .int .i64 n ∧ o = .string (str (outL F.st n)) ∧ w.grownBy wr (some g))
        (fun _ i _ => 8 - (intOf i).toNat)
      case atStart => exact ⟨0, by omega, rfl, rfl, hgr5⟩
      case round =>
        clear hgr5
        obtain ⟨n, hn, rfl, rfl, hgr⟩ := hrel
        by_cases hlt : n < 8
        · have hidx := HIX.out n hlt
          obtain ⟨a0, a1⟩ := HBD.out n
          obtain ⟨x, hx⟩ : ∃ x : Nat, F.st n = (x : Int) := ⟨(F.st n).toNat, by omega⟩
          have HS : Hid (outL F.st (n + 1) = outL F.st n ++ beL x 4) := by show outL F.st n ++ beL (F.st n).toNat 4 = _; rw [hx]; rfl
          rw [hx] at hidx a0 a1
          have n0 : (0 : Int) ≤ (n : Int) := by omega
          have n8 : (n : Int) < 8 := by omega
          have hw64 : IntKind.u64.wrap (x : Int) = (x : Int) := IntWalk.u64_in _ ⟨a0, by omega⟩
          have HXL := Lib.hid a1
          clear hx
          have hcat : ¬ 9223372036854775807 < (str (outL F.st n)).size + (str (beL x 4)).size := by rw [str_size, str_size, outL_len, show (beL x 4).length = 4 from beT_len _ _ _]; omega
          generalize outL F.st n = L at *
          go_wp2_with fail
          refine (be_impl x 4 _ (by have := HXL.out; unfold U64; omega) (by decide)).mono ?_
          rintro e w5 ⟨rfl, hb5⟩
          go_wp2
          go_roundw
          case rel => exact ⟨n + 1, by omega, by go_num, by rw [HS.out]; exact congrArg Value.string (str_app _ _), gr_trans hgr (gr_below hb5 (Nat.le_refl _))⟩
          case measure => simp [intOf]; omega
        · have hne : n = 8 := by omega
          have hpn : (8 : Int) ≤ (n : Int) := by omega
          have HNE := Lib.hid hne
          clear hne hlt hn
          go_wp2
          go_ret
          exact ⟨by rw [HQ.out, HNE.out]; rfl, hgr⟩

end Go.Proofs.YtgjnoleejbkddaaDoor

/- The contracts of newDigest and masked. -/
namespace Go.Proofs.YtgjnoleejbkddaaDoor
open Go.RowKit Go.My Go.Lib
set_option linter.unusedVariables false
set_option maxRecDepth 100000

theorem heap_setCell_same_of (w : World) (g i : Nat) (cs : Array Value) (t : TypeId) (v : Value) (hg : w.heap[g]? = some (.cells cs t (0, 0))) : (w.setCell ⟨g, i, none⟩ v).heap[g]? = some (.cells (cs.setIfInBounds i v) t (0, 0)) := Go.heap_setCell_same w g i cs t v hg
theorem new_row : some (Obj.cells ((((((((Tryd.zeroCells88.setIfInBounds 0 (Value.int .u32 1779033703)).setIfInBounds 1 (Value.int .u32 3144134277)).setIfInBounds 2 (Value.int .u32 1013904242)).setIfInBounds 3 (Value.int .u32 2773480762)).setIfInBounds 4 (Value.int .u32 1359893119)).setIfInBounds 5 (Value.int .u32 2600822924)).setIfInBounds 6 (Value.int .u32 528734635)).setIfInBounds 7 (Value.int .u32 1541459225)) 88 (0, 0)) = some (Obj.cells (digA S0.st S0.bk (S0.u : Int) ((0 : Nat) : Int)) 88 (0, 0)) := by kernel_rfl
theorem iv_bd : Bd S0.st := by
  intro q
  rcases q with _ | _ | _ | _ | _ | _ | _ | _ | q
  all_goals first | exact ⟨by decide, by decide⟩ | exact ⟨Int.le_refl 0, (by decide : (0 : Int) ≤ 4294967295)⟩

set_option maxHeartbeats 2000000 in
set_option maxRecDepth 100000 in
theorem newDigest_any (w : World) :
    Calls Tryd.prog 53 #[] w fun e w' => e = .returned (.pointer (some ⟨w.heap.size, 0, none⟩)) ∧ DigS w' w.heap.size S0 0 ∧ Below w.heap.size w w' := by
  go_enter Tryd.func53, Tryd.ntmps53
  go_wp2
  go_ret
  refine ⟨rfl, ⟨⟨(heap_alloc_new w _).trans new_row, ?_, fun q => ⟨Int.le_refl 0, (by decide : (0 : Int) ≤ 255)⟩⟩, (by decide : 0 < 64)⟩, (Below.refl _ _).alloc (Nat.le_refl _) _⟩
  exact iv_bd

theorem copied (s : ByteArray) (m : UInt8) (n : Nat) : ((cellsOf (List.replicate n 0)).toArray.toList.take 0 ++ byteCells s.data.toList ++ (cellsOf (List.replicate n 0)).toArray.toList.drop (0 + s.size)).toArray = (cellsOf (mixL (s.data.toList ++ List.replicate (n - s.data.toList.length) 0) m 0)).toArray := by
  have := len_data s
  simp [mixL, cellsOf, byteCells, this]

set_option maxHeartbeats 2000000 in
theorem masked_any (s : ByteArray) (m : UInt8) (w : World) (hs : s.size ≤ 64) :
    Calls Tryd.prog 55 #[.string s, .int .u8 m.toNat] w fun e w' => e = .returned (.string (str (maskL s.data.toList m))) ∧ Below w.heap.size w w' := by
  obtain ⟨i0, hi, hz0, hz1, hz2⟩ := info_parts info_u8b
  go_enter Tryd.func55, Tryd.ntmps55
  go_wp2_with (at_make; refine wpList_make_full _ rfl _ _ 25 rfl w.heap.size 5 i0 (.int .u8 0) 1 Tryd.underlying25 hi hz0 hz1 .i64 .i64 _ _ 64 rfl rfl rfl rfl ?c2 ?c3 ?c4 ?_)
  case c2 => rw [hz2]; omega
  case c3 => unfold maxLen; omega
  case c4 => exact Nat.le_refl _
  intro w1 hown hgrow
  have hb1 : Below w.heap.size w w1 := (Below.refl _ _).grown hgrow (Nat.le_refl _) (by simp)
  have hrow : w1.heap[w.heap.size]? = some (.cells (cellsOf (List.replicate 64 0)).toArray 5 (0, 0)) := by
    obtain ⟨hl, hc⟩ := hown
    rcases hc with ⟨hv, _⟩ | ⟨g, cap, cur, hv, hb, hg, h1, h2, h3, h4⟩
    · exact absurd hv (by simp)
    · obtain ⟨⟨rfl⟩, _, rfl⟩ : some (⟨w.heap.size, 0, none⟩ : Addr) = some ⟨g, 0, none⟩ ∧ 64 = 64 ∧ 64 = cap := by simpa using hv
      rw [hg]
      rw [List.take_of_length_le (by rw [Array.length_toList, h3]; exact Nat.le_refl _)] at h4
      have e : cur = (cellsOf (List.replicate 64 0)).toArray := by
        rw [← Array.toList_inj, h4]
        have e : (madeCells #[Value.int .u8 0] 64).toList = cellsOf (List.replicate 64 0) := by rw [← fill_start]; exact toList_madeCells_one _ _
        exact e
      rw [e]
  have hcp := run_copy_row_string (P := Tryd.prog) w1 25 9 3 5 w.heap.size 0 64 64 s _ _ Tryd.underlying25 (by rw [hi]; simpa using hz1) hrow hs (by simp [cellsOf]; omega)
  obtain ⟨K, hK⟩ : ∃ K : List UInt8, K = s.data.toList ++ List.replicate (64 - s.data.toList.length) 0 := ⟨_, rfl⟩
  have hKl : K.length = 64 := by rw [hK]; simp only [List.length_append, List.length_replicate]; have := len_data s; omega
  have hKe : ((cellsOf (List.replicate 64 0)).toArray.toList.take 0 ++ byteCells s.data.toList ++ (cellsOf (List.replicate 64 0)).toArray.toList.drop (0 + s.size)).toArray = (cellsOf (mixL K m 0)).toArray := by
    rw [hK]
    exact copied s m 64
  rw [hKe] at hcp
  have hrow2 := setRow_heap w1 w.heap.size _ (cellsOf (mixL K m 0)).toArray _ _ hrow
  have hb2 : Below w.heap.size w (w1.setRow w.heap.size (cellsOf (mixL K m 0)).toArray) := hb1.trans ⟨rfl, rfl, rfl, by simp, fun k hk => setRow_other w1 w.heap.size k _ (by omega)⟩
  have HK := Lib.hid hK
  have HKL := Lib.hid hKl
  clear hown hgrow hrow hK hKe hKl hb1
  go_wp2
  generalize (w1.setRow w.heap.size (cellsOf (mixL K m 0)).toArray) = w2 at *
  go_loopw [13] (fun i wr => ∃ j : Nat, j ≤ 64 ∧ i = .int .i64 j ∧ wr.heap[w.heap.size]? = some (.cells (cellsOf (mixL K m j)).toArray 5 (0, 0)) ∧ Below w.heap.size w wr)
    (fun i _ => 64 - (intOf i).toNat)
  case atStart => exact ⟨0, by omega, rfl, hrow2, hb2⟩
  case round =>
    clear hrow2 hb2
    obtain ⟨j, hj, rfl, hr, hb⟩ := hrel
    by_cases hlt : j < 64
    · have hjK : j < K.length := by have := HKL.out; omega
      have c0 := (cell_of_row wr w.heap.size j _ _ _ hr).trans (mixL_get K m j hjK)
      have f0 := frozen_of_row wr w.heap.size j _ _ hr
      have h2 := heap_setCell_same_of wr w.heap.size j _ _ (.int .u8 ((K[j] ^^^ m).toNat : Int)) hr
      rw [mixL_set K m j hjK, ← xor_u8] at h2
      have hb' := hb.setCell (p := ⟨w.heap.size, j, none⟩) (Nat.le_refl _) (.int .u8 (bits .xor .u8 (K[j].toNat : Int) (m.toNat : Int)))
      have HR := Lib.hid h2
      have j0 : (0 : Int) ≤ (j : Int) := by omega
      have j1 : (j : Int) < 64 := by omega
      generalize K[j] = b at *
      clear h2 hr hb
      go_wp2
      go_roundw
      case rel => exact ⟨j + 1, by omega, by go_num, HR.out, hb'⟩
      case measure => simp [intOf]; omega
    · have hje : j = 64 := by omega
      have hp : (64 : Int) ≤ (j : Int) := by omega
      have hfin : mixL K m j = maskL s.data.toList m := by rw [hje, ← HKL.out, mixL_all, HK.out]; rfl
      rw [hfin] at hr
      have hlen : (maskL s.data.toList m).length = 64 := by rw [← hfin, mixL_len]; exact HKL.out
      have hown : wr.ownsRow w.heap.size 5 1 (.slice (some ⟨w.heap.size, 0, none⟩) 64 64) 64 (cellsOf (maskL s.data.toList m)) :=
        ⟨by rw [cellsOf_length, hlen], .inr ⟨w.heap.size, 64, _, rfl, Nat.le_refl _, hr, Nat.le_refl _, by unfold maxLen; omega, by simp [cellsOf_length, hlen], by rw [List.take_of_length_le (by simp [cellsOf_length, hlen])]⟩⟩
      have hcv := run_convert_own (P := Tryd.prog) wr 25 9 5 _ _ _ _ Tryd.underlying25 Tryd.underlying5 Tryd.underlying9 hown
      clear hown hr hfin hje hlt hlen
      go_wp2
      go_ret
      exact ⟨rfl, hb⟩

end Go.Proofs.YtgjnoleejbkddaaDoor

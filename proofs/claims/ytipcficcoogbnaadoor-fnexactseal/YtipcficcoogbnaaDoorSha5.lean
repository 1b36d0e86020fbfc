/- The contract of the program's sum: the padding, the size, the state's words as bytes. -/
import Derived.Test.YtipcficcoogbnaaDoorSha4
import Derived.Test.YtipcficcoogbnaaDoorBe
namespace Go.Proofs.YtipcficcoogbnaaDoor
open Go.RowKit Go.My Go.Lib
set_option linter.unusedVariables false

set_option maxHeartbeats 2000000 in
set_option maxRecDepth 100000 in
theorem sum_any (g : Nat) (S : DS) (z : Nat) (w : World) (hd : DigS w g S z) (hk : TabK w) (h0 : 2 < g) (hz : z < 900000) :
    Calls Tryd.prog 88 #[.pointer (some ⟨g, 0, none⟩)] w fun e w' => e = .returned (.string (str (sumL S z))) ∧ w.grownBy w' (some g) := by
  have z1 : (z : Int) ≤ 900000 := by omega
  have z0 : (0 : Int) ≤ (z : Int) := by omega
  have HZ := Lib.hid hz
  have HD := Lib.hid hd
  have cz := (cell_of_row w g 73 _ _ _ hd.1.1).trans (dig_size _ _ _ _)
  clear hz hd
  go_enter Tryd.func88, Tryd.ntmps88
  go_wp2_with fail
  have hbe := be_impl (8 * z) 8 w (by have := HZ.out; unfold U64; omega) (by decide)
  rw [show ((8 * z : Nat) : Int) = 8 * (z : Int) by omega] at hbe
  refine hbe.mono ?_
  clear hbe
  rintro e w1 ⟨rfl, hb1⟩
  have hd1 : DigS w1 g S z := ⟨HD.out.1.below hb1 HD.out.1.lt, HD.out.2⟩
  have hk1 : TabK w1 := hk.below hb1 (by have := HD.out.1.lt; omega)
  have hgr1 : w.grownBy w1 (some g) := gr_below hb1 (Nat.le_refl _)
  generalize hSZ : beL (8 * z) 8 = SZ
  have hszl : SZ.length = 8 := by rw [← hSZ]; exact beT_len _ _ _
  have HSZ := Lib.hid hSZ
  clear hSZ hb1 cz
  go_wp2_with fail
  refine (writeD_any g S z ⟨#[128]⟩ _ hd1 hk1 h0 (by decide) (by have := HZ.out; omega)).mono ?_
  rintro e w2 ⟨rfl, hd2, hgr2'⟩
  have hgr2 := gr_trans hgr1 hgr2'
  have hk2 := hk1.grown hgr2' h0
  have hs1 : (⟨#[128]⟩ : ByteArray).data.toList = [128] := rfl
  have hs2 : (⟨#[128]⟩ : ByteArray).size = 1 := rfl
  rw [hs1, hs2] at hd2
  clear hd1 hk1 hgr1 hgr2' hs1 hs2
  obtain ⟨B, hB⟩ : ∃ B, B = str SZ := ⟨_, rfl⟩
  have hB8 : (B.size : Int) = 8 := by rw [hB, str_size, hszl]; rfl
  rw [← hB]
  have HB := Lib.hid hB
  clear hB hszl
  go_wp2_with fail
  have hst : DigS w2 g (dputs (dputs S [128]) (List.replicate 0 0)) (z + 1 + 0) := hd2
  have HU : Hid (S.u < 64) := HD.out.2
  have HT : Hid ((dputs S [128]).u = (S.u + 1) % 64) := dputs_u S [128] HD.out.2
  have HTL : Hid ((dputs S [128]).u < 64) := hd2.2
  clear hd2 HD
  generalize hTe : dputs S [128] = T at *
  have HTE := Lib.hid hTe
  clear hTe
  go_loopw [15] (fun _ wr => ∃ m : Nat, m ≤ padN S.u ∧ DigS wr g (dputs T (List.replicate m 0)) (z + 1 + m) ∧ w.grownBy wr (some g))
    (fun _ wr => match wr.cell? ⟨g, 73, none⟩ with | some (.int _ x) => z + 1 + 64 - x.toNat | _ => 0)
  case atStart => exact ⟨0, by omega, hst, hgr2⟩
  case round =>
    clear hst hgr2
    obtain ⟨m, hm, hd, hgr⟩ := hrel
    have hu : (dputs T (List.replicate m 0)).u = ((S.u + 1) % 64 + m) % 64 := by rw [dputs_u _ _ HTL.out, HT.out, List.length_replicate]
    have cu := (cell_of_row wr g 72 _ _ _ hd.1.1).trans (dig_used _ _ _ _)
    have cz := (cell_of_row wr g 73 _ _ _ hd.1.1).trans (dig_size _ _ _ _)
    by_cases hlt : m < padN S.u
    · have hne : (dputs T (List.replicate m 0)).u ≠ 56 := by rw [hu]; exact pad_u S.u m HU.out hlt
      have hne2 : ((((dputs T (List.replicate m 0)).u : Int)) != 56) = true := by simp; omega
      have hsn : dputs T (List.replicate (m + 1) 0) = dputs (dputs T (List.replicate m 0)) [0] := by rw [List.replicate_succ', dputs_append]
      have HP := Lib.hid (padN_lt S.u)
      have HSN := Lib.hid hsn
      have HM := Lib.hid (And.intro hm hlt)
      have hkr := hk.grown hgr h0
      clear hu hne hsn hm hlt
      generalize dputs T (List.replicate m 0) = R at *
      go_wp2_with fail
      refine (writeD_any g R (z + 1 + m) ⟨#[0]⟩ _ hd hkr h0 (by decide) (by have := HZ.out; have := HP.out; have := HM.out; omega)).mono ?_
      rintro e w3 ⟨rfl, hd3, hgr3⟩
      have hs1 : (⟨#[0]⟩ : ByteArray).data.toList = [0] := rfl
      have hs2 : (⟨#[0]⟩ : ByteArray).size = 1 := rfl
      rw [hs1, hs2] at hd3
      have cz3 := (cell_of_row w3 g 73 _ _ _ hd3.1.1).trans (dig_size _ _ _ _)
      go_wp2
      go_roundw
      case rel => exact ⟨m + 1, by have := HM.out; omega, by rw [HSN.out]; exact hd3, gr_trans hgr hgr3⟩
      case measure =>
        rw [cz, cz3]
        have := HP.out; have := HM.out
        show z + 1 + 64 - (((z + 1 + m + 1 : Nat) : Int)).toNat < z + 1 + 64 - (((z + 1 + m : Nat) : Int)).toNat
        omega
    · have hme : m = padN S.u := by omega
      have he : (dputs T (List.replicate m 0)).u = 56 := by rw [hu, hme]; exact pad_end S.u HU.out
      have he2 : ((dputs T (List.replicate m 0)).u : Int) = 56 := by omega
      have HME := Lib.hid hme
      have HP := Lib.hid (padN_lt S.u)
      have hkr := hk.grown hgr h0
      clear hu hlt hm hme he
      generalize hR : dputs T (List.replicate m 0) = R at *
      have HR := Lib.hid hR
      clear hR
      go_wp2_with fail
      refine (writeD_any g R (z + 1 + m) B _ hd hkr h0 (by omega) (by have := HZ.out; have := HP.out; have := HME.out; omega)).mono ?_
      rintro e w4 ⟨rfl, hd4, hgr4⟩
      have hF : dputs R B.data.toList = dputs S (padL S.u z) := by
        unfold padL
        rw [← HR.out, ← HTE.out, HME.out, HB.out, str_list, ← HSZ.out, ← dputs_append, ← dputs_append]
        simp
      have hgr5 := gr_trans hgr hgr4
      rw [hF] at hd4
      have HQ : Hid (sumL S z = outL (dputs S (padL S.u z)).st 8) := rfl
      generalize dputs S (padL S.u z) = F at *
      have hbd := hd4.1.2.1
      have hr4 := hd4.1.1
      have h8 : (Tryd.prog.info? 80).map (·.size) = some (wordsL 8 F.st).length := by rw [wordsL_len]; exact size_w8
      have H8 := Lib.hid h8
      have HIX := Lib.hid (fun (i : Nat) (hi : i < 8) (wx : World) => run_index_arr (P := Tryd.prog) wx 80 63 8 (wordsL 8 F.st).toArray .i64 .u32 i (.int .u32 (F.st i)) Tryd.underlying80 Tryd.underlying63 size_u32 hi (wordsA_get 8 F.st i hi))
      have HBD := Lib.hid hbd
      clear h8 hbd hd4 hF hgr4 hgr hd hkr he2 cu cz
      go_wp2_with (first
        | ((with_reducible refine wpList_load_mid (op := ⟨some 31, _, _, _, _, _⟩) rfl 80 _ rfl g 0 rfl (wordsL 8 F.st) (.array 8 63) ?cr Tryd.underlying80 rfl H8.out ?_)))
      case cr =>
        intro j v hv
        have hj : j < 8 := by have := (List.getElem?_eq_some_iff.1 hv).1; rw [wordsL_len] at this; exact this
        rw [cell_of_row w4 g (0 + j) _ _ _ hr4, Nat.zero_add, dig_st _ _ _ _ j hj, ← hv, wordsL_get 8 F.st j hj]
      clear hr4
      go_loopw [4, 32] (fun o i wr => ∃ n : Nat, n ≤ 8 ∧ i = .int .i64 n ∧ o = .string (str (outL F.st n)) ∧ w.grownBy wr (some g))
        (fun _ i _ => 8 - (intOf i).toNat)
      case atStart => exact ⟨0, by omega, rfl, rfl, hgr5⟩
      case round =>
        clear hgr5
        obtain ⟨n, hn, rfl, rfl, hgr⟩ := hrel
        by_cases hlt : n < 8
        · have hidx := HIX.out n hlt
          obtain ⟨a0, a1⟩ := HBD.out n
          obtain ⟨x, hx⟩ : ∃ x : Nat, F.st n = (x : Int) := ⟨(F.st n).toNat, by omega⟩
          have HS : Hid (outL F.st (n + 1) = outL F.st n ++ beL x 4) := by show outL F.st n ++ beL (F.st n).toNat 4 = _; rw [hx]; rfl
          rw [hx] at hidx a0 a1
          have n0 : (0 : Int) ≤ (n : Int) := by omega
          have n8 : (n : Int) < 8 := by omega
          have hw64 : IntKind.u64.wrap (x : Int) = (x : Int) := IntWalk.u64_in _ ⟨a0, by omega⟩
          have HXL := Lib.hid a1
          clear hx
          have hcat : ¬ 9223372036854775807 < (str (outL F.st n)).size + (str (beL x 4)).size := by rw [str_size, str_size, outL_len, show (beL x 4).length = 4 from beT_len _ _ _]; omega
          generalize outL F.st n = L at *
          go_wp2_with fail
          refine (be_impl x 4 _ (by have := HXL.out; unfold U64; omega) (by decide)).mono ?_
          rintro e w5 ⟨rfl, hb5⟩
          go_wp2
          go_roundw
          case rel => exact ⟨n + 1, by omega, by go_num, by rw [HS.out]; exact congrArg Value.string (str_app _ _), gr_trans hgr (gr_below hb5 (Nat.le_refl _))⟩
          case measure => simp [intOf]; omega
        · have hne : n = 8 := by omega
          have hpn : (8 : Int) ≤ (n : Int) := by omega
          have HNE := Lib.hid hne
          clear hne hlt hn
          go_wp2
          go_ret
          exact ⟨by rw [HQ.out, HNE.out]; rfl, hgr⟩

end Go.Proofs.YtipcficcoogbnaaDoor

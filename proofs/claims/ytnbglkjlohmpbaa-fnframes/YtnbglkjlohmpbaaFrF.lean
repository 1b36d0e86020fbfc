/- TakeFrames of the specification. -/
import Derived.Test.YtnbglkjlohmpbaaFrE
namespace Go.Proofs.Ytnbglkjlohmpbaa
open Go.RowKit Go.My Go.Lib
set_option linter.unusedVariables false

theorem drop_snoc (s : ByteArray) (p i : Nat) (h : p + i < s.size) : (s.data.toList.drop p).take (i + 1) = (s.data.toList.drop p).take i ++ [s[p + i]] := by
  have hl : i < (s.data.toList.drop p).length := by rw [List.length_drop, len_data]; omega
  rw [List.take_succ_eq_append_getElem hl, List.getElem_drop]
  rfl
theorem drop_all (s : ByteArray) (p : Nat) : (s.extract p (p + 4)).data.toList = (s.data.toList.drop p).take 4 := by
  rw [ByteArray.data_extract, Array.toList_extract, List.extract_eq_take_drop]
  congr 1
  omega
theorem ext_two (s : ByteArray) (p a b : Nat) (h : p + b ≤ s.size) : (s.extract p s.size).extract a b = s.extract (p + a) (p + b) := by
  rw [ByteArray.extract_extract]
  congr 1
  omega

set_option maxRecDepth 100000 in
set_option maxHeartbeats 800000 in
theorem take_s (s : ByteArray) (w : World) (hs : s.size ≤ 1048576) :
    Calls Try.prog 31 #[.string s] w fun e w' => ∃ v, e = .returned (.tuple #[v, .int .i64 (takeN s)]) ∧ RowL w.heap.size 9 1 strC v (takeR s) w' ∧ Below w.heap.size w w' := by
  obtain ⟨i0, hi, hz0, hz1, hz2⟩ := info_parts info_str
  have hs1 : (s.size : Int) ≤ 1048576 := by omega
  go_enter Try.func31, Try.ntmps31
  go_wp2
  have hR0 : RowL w.heap.size 9 1 strC (.slice (some ⟨w.heap.size, 0, none⟩) 0 0) [] (w.alloc (.cells #[] 9)) := World.ownsRow_lit w #[] 0 (Nat.le_refl _) (by unfold maxLen; omega) rfl
  have hb1 : Below w.heap.size w (w.alloc (.cells #[] 9)) := (Below.refl _ _).alloc (Nat.le_refl _) _
  go_loopw [4, 5] (fun v t wr => ∃ (l : List ByteArray) (r : ByteArray) (n p : Nat), FrAt s l r n ∧ p + r.size = s.size ∧ t = .int .i64 p ∧ RowL w.heap.size 9 1 strC v l wr ∧ Below w.heap.size w wr) (fun _ t _ => s.size - (intOf t).toNat)
  case atStart => exact ⟨[], s, s.size, 0, FrAt.start s, by omega, rfl, hR0, hb1⟩
  case round =>
    clear hR0 hb1
    rename_i wr
    obtain ⟨l, r, n, p, hF, hp, rfl, hR, hB⟩ := hrel
    have hrs : r.size + 8 * l.length ≤ s.size := hF.2.2.2.1
    have hcut := hF.2.2.2.2
    have hpe : s.size - r.size = p := by omega
    rw [hpe] at hcut
    have p0 : (0 : Int) ≤ (p : Int) := by omega
    have hr1 : (p : Int) ≤ 1048576 := by omega
    have HP := Lib.hid hp
    have HF := Lib.hid hF
    have HRS := Lib.hid hrs
    have HCUT := Lib.hid hcut
    clear hF hrs hcut hpe hp
    have HX : Hid (¬ frOk r → l = takeR s ∧ p = takeN s) := fun c => by
      obtain ⟨e1, e2⟩ := HF.out.stop c
      refine ⟨e1, ?_⟩
      unfold takeN
      rw [← e2]
      have := HP.out
      omega
    by_cases h8 : 8 ≤ r.size
    case neg =>
      have h8' : ¬ (p : Int) + 8 ≤ (s.size : Int) := by have := HP.out; omega
      have HE := Lib.hid (HX.out (fun c => h8 c.1))
      clear h8
      go_wp2
      go_ret2
      exact ⟨_, by rw [← HE.out.2]; rfl, by rw [← HE.out.1]; exact hR, hB⟩
    have h8' : (p : Int) + 8 ≤ (s.size : Int) := by have := HP.out; omega
    have H8 := Lib.hid h8
    clear h8
    go_wp2
    go_loop [6, 7] (fun x k => ∃ i : Nat, i ≤ 4 ∧ k = .int .i64 i ∧ x = .int .i64 (numOf ((s.data.toList.drop p).take i))) (fun _ k => 4 - (intOf k).toNat)
    case atStart => exact ⟨0, by omega, rfl, rfl⟩
    case round =>
      obtain ⟨i, hi4, rfl, rfl⟩ := hrel
      by_cases hlt : i < 4
      · have hps : p + i < s.size := by have := HP.out; have := H8.out; omega
        have hL : ((s.data.toList.drop p).take i).length = i := by rw [List.length_take, List.length_drop, len_data]; omega
        have hb := numOf_lt ((s.data.toList.drop p).take i)
        rw [hL] at hb
        have hb3 : (256 : Nat) ^ i ≤ 256 ^ 3 := Nat.pow_le_pow_right (by omega) (by omega)
        have HS : Hid (numOf ((s.data.toList.drop p).take (i + 1)) = numOf ((s.data.toList.drop p).take i) * 256 + (s[p + i]'hps).toNat) := by rw [drop_snoc s p i hps, numOf_snoc]; rfl
        generalize numOf ((s.data.toList.drop p).take i) = N at *
        have hN : (N : Int) ≤ 16777216 := by omega
        have hN0 : (0 : Int) ≤ (N : Int) := by omega
        have hc := (s[p + i]'hps).toNat_lt
        have i0' : (0 : Int) ≤ (i : Int) := by omega
        have i1' : (p : Int) + (i : Int) < (s.size : Int) := by omega
        have i2' : ((p : Int) + (i : Int)).toNat = p + i := by omega
        clear hb hb3 hL
        go_wp2
        go_round
        case rel => exact ⟨i + 1, by omega, by go_num, by rw [HS.out]; go_num⟩
        case measure => simp [intOf]; omega
      · obtain rfl : i = 4 := by omega
        have hN : Hid (numOf ((s.data.toList.drop p).take 4) = frN r) := by
          show _ = _
          unfold frN
          rw [HCUT.out, ext_two s p 0 4 (by have := HP.out; have := H8.out; omega), Nat.add_zero, drop_all]
        generalize numOf ((s.data.toList.drop p).take 4) = N at *
        have hN0 : (0 : Int) ≤ (N : Int) := by omega
        by_cases hN1 : N ≤ 100000
        case neg =>
          have hN1' : (100000 : Int) < (N : Int) := by omega
          have hd : decide ((100000 : Int) < (N : Int)) = true := by simp; omega
          have HE := Lib.hid (HX.out (fun c => hN1 (by rw [hN.out]; exact c.2.1)))
          clear hN1
          go_wp2_with fail
          go_quiet (fail)
          go_wp2
          go_ret2
          exact ⟨_, by rw [← HE.out.2]; rfl, by rw [← HE.out.1]; exact hR.below (below_drewN (Below.refl _ _) _), below_drewN hB _⟩
        have hN1' : ¬ (100000 : Int) < (N : Int) := by omega
        have hd : decide ((100000 : Int) < (N : Int)) = false := by simp; omega
        have hNI : (N : Int) ≤ 100000 := by omega
        by_cases hN2 : 8 + N ≤ r.size
        case neg =>
          have hN2' : (s.size : Int) < (p : Int) + 8 + (N : Int) := by have := HP.out; omega
          have hd2 : decide ((s.size : Int) < (p : Int) + 8 + (N : Int)) = true := by simp; omega
          have HE := Lib.hid (HX.out (fun c => hN2 (by rw [hN.out]; exact c.2.2.1)))
          clear hN2
          go_wp2_with fail
          go_quiet (fail)
          go_wp2
          go_ret2
          exact ⟨_, by rw [← HE.out.2]; rfl, by rw [← HE.out.1]; exact hR.below (below_drewN (Below.refl _ _) _), below_drewN hB _⟩
        have hN2' : (p : Int) + 8 + (N : Int) ≤ (s.size : Int) := by have := HP.out; omega
        have hd2 : decide ((s.size : Int) < (p : Int) + 8 + (N : Int)) = false := by simp; omega
        have hz : p + 8 + N ≤ s.size := by have := HP.out; omega
        have hH : s.extract (p + 8) (p + 8 + N) = frHd r := by
          unfold frHd
          rw [← hN.out, HCUT.out, ext_two s p 8 (8 + N) (by omega)]
          congr 1
          omega
        have h4e : s.extract (p + 4) (p + 8) = r.extract 4 8 := by rw [HCUT.out, ext_two s p 4 8 (by omega)]
        have S := Lib.hid (fun w => sum_s (s.extract (p + 8) (p + 8 + N)) w (by rw [ByteArray.size_extract]; omega))
        have HH := Lib.hid hH
        have H4E := Lib.hid h4e
        have HNp : Hid (frN r = N) := hN.out.symm
        have hT : Hid (frOk r ↔ str (leB (crcV (s.extract (p + 8) (p + 8 + N)).data.toList) 4) = s.extract (p + 4) (p + 8)) := by
          show _ ↔ _
          rw [HH.out, H4E.out]
          constructor
          · intro c; exact c.2.2.2
          · intro c; exact ⟨H8.out, by rw [HNp.out]; exact hN1, by rw [HNp.out]; exact hN2, c⟩
        clear hH h4e hN2 hN1
        have e1 : ((p : Int) + 8).toNat = p + 8 := by omega
        have e2 : ((p : Int) + 4).toNat = p + 4 := by omega
        have e3 : ((p : Int) + 8 + (N : Int)).toNat = p + 8 + N := by omega
        have o1 : (0 : Int) ≤ (p : Int) + 8 := by omega
        have o2 : (0 : Int) ≤ (p : Int) + 4 := by omega
        have o3 : (0 : Int) ≤ (p : Int) + 8 + (N : Int) := by omega
        have o4 : (p : Int) + 8 ≤ (p : Int) + 8 + (N : Int) := by omega
        have o5 : (p : Int) + 4 ≤ (p : Int) + 8 := by omega
        have x1 : IntKind.i64.wrap ((p : Int) + 8) = (p : Int) + 8 := IntWalk.i64_in _ (by omega)
        have x2 : IntKind.i64.wrap ((p : Int) + 8 + (N : Int)) = (p : Int) + 8 + (N : Int) := IntWalk.i64_in _ (by omega)
        have x3 : IntKind.i64.wrap ((p : Int) + 4) = (p : Int) + 4 := IntWalk.i64_in _ (by omega)
        generalize leB (crcV (s.extract (p + 8) (p + 8 + N)).data.toList) 4 = L4 at *
        by_cases hc : str L4 = s.extract (p + 4) (p + 8)
        · have hl : ((str L4).toList == (s.extract (p + 4) (p + 8)).toList) = true := by rw [hc]; exact beq_self_eq_true _
          have hok := hT.out.2 hc
          obtain ⟨m, hm, hF2⟩ := HF.out.next hok
          rw [← HH.out] at hF2
          have hz2 := frTl_size hok
          rw [HNp.out] at hz2
          have HF2 := Lib.hid (And.intro hF2 (show p + 8 + N + (frTl r).size = s.size by have := HP.out; omega))
          have hl20 : l.length ≤ 1048576 := by have := HRS.out; omega
          have HNX : Hid ((p : Int) + 8 + (N : Int) = ((p + 8 + N : Nat) : Int)) := by show _ = _; omega
          have HNL : Hid (s.size - (p + 8 + N) < s.size - p) := by show _ < _; omega
          clear hm hF2 hok hz2
          go_wp2_with fail
          go_region_held3 (fun w' => True) (trivial) ((go_at_call 79; (refine (S.out _).mono ?_; rintro e wq ⟨rfl, hbq⟩; have hB1 := below_nx hbq (by first | exact hB | exact hB.drew) (by exact hB.size); have hR1 := hR.below ((Below.refl wr.heap.size wr).drew.trans hbq))))
          have hR2 : wq.ownsRow w.heap.size 9 1 u4 l.length (l.flatMap strC) := hR1
          clear hR hR1
          go_wp2_with (at_builtin; refine wpList_append_lies _ rfl _ _ 48 rfl w.heap.size 9 i0 (.string ByteArray.empty) 1 16 Try.underlying48 hi hz0 hz1 hz2 rfl (by decide) u4 l.length _ rfl (hR2.alloc _) ⟨wq.heap.size, 0, none⟩ 1 1 [_] rfl rfl (World.news_of_block (cs := #[_]) (t := 9) (fr := (0, 0)) (heap_alloc_new wq _)) (by simp [Value.oneCell']) (by omega) (by unfold maxLen; omega) (by omega) (by have := hB1.size; simp; omega) (wq.heap.size + 1) (by simp) ?_; intro g cap w2 hown2 hgrow2 hat hlt2)
          have R := row_push (b := s.extract (p + 8) (p + 8 + N)) hR2 hB1 hB1.size rfl rfl hown2 hgrow2
          clear hown2 hgrow2 hR2 hB1
          rw [HNX.out]
          refine ⟨⟨l ++ [s.extract (p + 8) (p + 8 + N)], frTl r, m, p + 8 + N, HF2.out.1, HF2.out.2, rfl, R.1, R.2⟩, ?_⟩
          exact HNL.out
        · have hl : ((str L4).toList == (s.extract (p + 4) (p + 8)).toList) = false := neq_lst hc
          have HE := Lib.hid (HX.out (fun c => hc (hT.out.1 c)))
          go_wp2_with fail
          go_region_held3 (fun w' => True) (trivial) ((go_at_call 79; (refine (S.out _).mono ?_; rintro e wq ⟨rfl, hbq⟩; have hB1 := below_nx hbq (by first | exact hB | exact hB.drew) (by exact hB.size); have hR1 := hR.below ((Below.refl wr.heap.size wr).drew.trans hbq))))
          go_wp2
          try rw [Exit.noGoto_ret]
          go_ret2
          exact ⟨_, by rw [← HE.out.2]; rfl, by rw [← HE.out.1]; exact hR1, hB1⟩

end Go.Proofs.Ytnbglkjlohmpbaa

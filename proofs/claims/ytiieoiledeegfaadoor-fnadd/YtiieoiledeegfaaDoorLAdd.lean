/- Proved: for all codes FnAdd returns true: field numbers are added in whatever order, what is added can be taken off, and the program's sums and differences are the specification's (codes of more than 2^20 bytes are passed over by the law itself). The package-level tables that the code reads are tied to the program's text. No further condition. -/
import Derived.Test.YtiieoiledeegfaaDoorRows
import Derived.Test.YtiieoiledeegfaaDoorCards
import Derived.Test.YtiieoiledeegfaaDoorTie
import Derived.WalkKit
import Derived.ProofKit
import Derived.OpenShut
import Derived.ShutString
import Derived.ChangeOld
import Derived.ChangeVars
import Derived.OpenVars
import Derived.Below
import Derived.Deep.DeepHandedRow
import Derived.Lib.LaidTab
import Derived.Test.YtiieoiledeegfaaDoorDrawF
import Derived.Test.YtiieoiledeegfaaDoorAlgG
import Derived.Test.YtiieoiledeegfaaDoorCardP
namespace Go.Proofs.YtiieoiledeegfaaDoor.fnAdd
open Go.ChangeShapes Go.WideShapes Go.ChangeAt Go.RowKit Go.My
open Go.ChangeMaps (open_string shut_string)
set_option linter.unusedVariables false

theorem own : ownKnob Tryd.prog.godebug = none := by kernel_rfl
theorem laidOut : laidOutB Tryd.prog = true := by kernel_rfl
theorem row_max {w : World} {a : Option Addr} {len cap : Nat} {zs : List Int} (h : IsRow .u8 w a len cap zs) : len ≤ 9223372036854775807 := by
  rcases h with ⟨_, rfl, _⟩ | ⟨x, _, h1, h2, _⟩
  · omega
  · unfold maxLen at h2; omega

set_option maxHeartbeats 2000000 in
theorem walk (w : World) (hk : TabP w) (a0 : Option Addr) (len0 cap0 : Nat) (z0 : List Int) (w0 : IsRow .u8 w a0 len0 cap0 z0) (a1 : Option Addr) (len1 cap1 : Nat) (z1 : List Int) (w1 : IsRow .u8 w a1 len1 cap1 z1) :
    Calls Tryd.prog 3 #[.slice a0 len0 cap0, .slice a1 len1 cap1] w fun e w' => e = .returned (.bool true) ∧ Below w.heap.size w w' := by
  have hm0 := row_max w0
  have hm1 := row_max w1
  by_cases hl : len0 ≤ 1048576
  case neg =>
    have hd : decide (1048576 < (len0 : Int)) = true := by simp; omega
    go_enter Tryd.func3, Tryd.ntmps3
    go_wp2_with fail
    refine (big_any _ _ _ _ hm0).mono ?_
    rintro e w' ⟨rfl, rfl⟩
    rw [hd]
    go_wp2
    go_ret
    exact ⟨rfl, Below.refl _ _⟩
  have hd : decide (1048576 < (len0 : Int)) = false := by simp; omega
  by_cases hl1 : len1 ≤ 1048576
  case neg =>
    have hd1 : decide (1048576 < (len1 : Int)) = true := by simp; omega
    go_enter Tryd.func3, Tryd.ntmps3
    go_wp2_with fail
    refine (big_any _ _ _ _ hm0).mono ?_
    rintro e w' ⟨rfl, rfl⟩
    rw [hd]
    go_wp2_with fail
    refine (big_any _ _ _ _ hm1).mono ?_
    rintro e w' ⟨rfl, rfl⟩
    rw [hd1]
    go_wp2
    go_ret
    exact ⟨rfl, Below.refl _ _⟩
  have hd1 : decide (1048576 < (len1 : Int)) = false := by simp; omega
  have hc := code_of_row w0 hl
  have hc1 := code_of_row w1 hl1
  clear w0 w1 hl hl1
  go_enter Tryd.func3, Tryd.ntmps3
  go_wp2_with fail
  refine (big_any _ _ _ _ hm0).mono ?_
  rintro e w' ⟨rfl, rfl⟩
  rw [hd]
  go_wp2_with fail
  refine (big_any _ _ _ _ hm1).mono ?_
  rintro e w' ⟨rfl, rfl⟩
  rw [hd1]
  clear hm0 hm1 hd hd1
  go_wp2_with fail
  refine (draw_fieldAdd w.heap.size a0 len0 cap0 _ (Nat.le_refl _) hc).mono ?_
  rintro e w1 ⟨a, b, rfl, ha, hb, hb1'⟩
  have hb1 := hb1'
  clear hb1'
  go_wp2_with fail
  refine (draw_fieldOk w.heap.size a1 len1 cap1 _ hb1.size (hc1.below hb1)).mono ?_
  rintro e w2 ⟨c, rfl, hcc, hb2'⟩
  have hb2 := hb1.trans hb2'
  clear hb2' hb1
  clear hc hc1
  have HS := Lib.hid (And.intro ha (And.intro hb hcc))
  clear ha hb hcc
  obtain ⟨p, hp⟩ : ∃ p : Bool, decide (okS a) = p := ⟨_, rfl⟩
  have K1 := Lib.hid (fun w h => okI a w HS.out.1 h p hp)
  have K2 := Lib.hid (fun w => okQ a w HS.out.1 p hp)
  have HP := Lib.hid (fun w => addQ a b w HS.out.1 HS.out.2.1)
  have HD := Lib.hid (fun w => subQ a b w HS.out.1 HS.out.2.1)
  have HI := Lib.hid (fun w h => addI a b w HS.out.1 HS.out.2.1 h)
  have HJ := Lib.hid (fun w h => subI a b w HS.out.1 HS.out.2.1 h)
  clear hp
  by_cases hab : okS a ∧ okS b
  case neg =>
    obtain ⟨E, hE, hEe⟩ := opS_neg' fA hab
    rw [hE] at HP HI
    generalize opS fD a b = d at *
    clear hab hE
    go_wp2_with fail
    refine (HI.out _ (hk.below hb2 hk.1)).mono ?_
    rintro e w3 ⟨rfl, hb3'⟩
    have hb3 := hb2.trans (hb3'.mono hb2.size)
    clear hb3' hb2
    go_wp2_with fail
    refine (HJ.out _ (hk.below hb3 hk.1)).mono ?_
    rintro e w4 ⟨rfl, hb4'⟩
    have hb4 := hb3.trans (hb4'.mono hb3.size)
    clear hb4' hb3
    go_wp2_with fail
    refine (HP.out _).mono ?_
    rintro e w5 ⟨rfl, hb5'⟩
    have hb5 := hb4.trans (hb5'.mono hb4.size)
    clear hb5' hb4
    go_wp2_with fail
    refine (HD.out _).mono ?_
    rintro e w6 ⟨rfl, hb6'⟩
    have hb6 := hb5.trans (hb6'.mono hb5.size)
    clear hb6' hb5
    go_wp2_with fail
    refine (K1.out _ (hk.below hb6 hk.1)).mono ?_
    rintro e w7 ⟨rfl, hb7'⟩
    have hb7 := hb6.trans (hb7'.mono hb6.size)
    clear hb7' hb6
    go_wp2_with fail
    refine (K2.out _).mono ?_
    rintro e w8 ⟨rfl, hb8'⟩
    have hb8 := hb7.trans (hb8'.mono hb7.size)
    clear hb8' hb7
    go_wp2_with fail
    refine (HP.out _).mono ?_
    rintro e w9 ⟨rfl, hb9'⟩
    have hb9 := hb8.trans (hb9'.mono hb8.size)
    clear hb9' hb8
    go_wp2_with fail
    refine (HD.out _).mono ?_
    rintro e w10 ⟨rfl, hb10'⟩
    have hb10 := hb9.trans (hb10'.mono hb9.size)
    clear hb10' hb9
    go_wp2_with fail
    refine (K1.out _ (hk.below hb10 hk.1)).mono ?_
    rintro e w11 ⟨rfl, hb11'⟩
    have hb11 := hb10.trans (hb11'.mono hb10.size)
    clear hb11' hb10
    go_wp2_with fail
    refine (K2.out _).mono ?_
    rintro e w12 ⟨rfl, hb12'⟩
    have hb12 := hb11.trans (hb12'.mono hb11.size)
    clear hb12' hb11
    go_wp2
    go_ret
    exact ⟨rfl, hb12⟩
  obtain ⟨oa, ob⟩ := hab
  have om := opS_ok fA_lt oa ob
  have od := opS_ok fD_lt oa ob
  have sz : ∀ x : ByteArray, okS x → x.size ≤ 40 := fun x h => by rw [okS_size h]; omega
  have H1 := Lib.hid (fun w h => addI b a w HS.out.2.1 HS.out.1 h)
  have H2 := Lib.hid (fun w h => subI (opS fA a b) b w (sz _ om) HS.out.2.1 h)
  have H3 := Lib.hid (fun w h => addI (opS fD a b) b w (sz _ od) HS.out.2.1 h)
  have H4 := Lib.hid (fun w h => okI (opS fA a b) w (sz _ om) h true (decide_eq_true om))
  rw [add_comm' oa ob] at H1
  rw [addSub' oa ob] at H2
  rw [subAdd' oa ob] at H3
  have hme := okS_ne om
  by_cases oc : okS c
  case neg =>
    have H5 := Lib.hid (fun w h => okI c w HS.out.2.2 h false (decide_eq_false oc))
    generalize opS fA a b = s at *
    generalize opS fD a b = d at *
    clear oa ob om oc od sz
    go_wp2_with fail
    refine (HI.out _ (hk.below hb2 hk.1)).mono ?_
    rintro e w3 ⟨rfl, hb3'⟩
    have hb3 := hb2.trans (hb3'.mono hb2.size)
    clear hb3' hb2
    go_wp2_with fail
    refine (HJ.out _ (hk.below hb3 hk.1)).mono ?_
    rintro e w4 ⟨rfl, hb4'⟩
    have hb4 := hb3.trans (hb4'.mono hb3.size)
    clear hb4' hb3
    go_wp2_with fail
    refine (HP.out _).mono ?_
    rintro e w5 ⟨rfl, hb5'⟩
    have hb5 := hb4.trans (hb5'.mono hb4.size)
    clear hb5' hb4
    go_wp2_with fail
    refine (HD.out _).mono ?_
    rintro e w6 ⟨rfl, hb6'⟩
    have hb6 := hb5.trans (hb6'.mono hb5.size)
    clear hb6' hb5
    go_wp2_with fail
    refine (K1.out _ (hk.below hb6 hk.1)).mono ?_
    rintro e w7 ⟨rfl, hb7'⟩
    have hb7 := hb6.trans (hb7'.mono hb6.size)
    clear hb7' hb6
    go_wp2_with fail
    refine (K2.out _).mono ?_
    rintro e w8 ⟨rfl, hb8'⟩
    have hb8 := hb7.trans (hb8'.mono hb7.size)
    clear hb8' hb7
    go_wp2_with fail
    refine (H1.out _ (hk.below hb8 hk.1)).mono ?_
    rintro e w9 ⟨rfl, hb9'⟩
    have hb9 := hb8.trans (hb9'.mono hb8.size)
    clear hb9' hb8
    go_wp2_with fail
    refine (H2.out _ (hk.below hb9 hk.1)).mono ?_
    rintro e w10 ⟨rfl, hb10'⟩
    have hb10 := hb9.trans (hb10'.mono hb9.size)
    clear hb10' hb9
    go_wp2_with fail
    refine (H3.out _ (hk.below hb10 hk.1)).mono ?_
    rintro e w11 ⟨rfl, hb11'⟩
    have hb11 := hb10.trans (hb11'.mono hb10.size)
    clear hb11' hb10
    go_wp2_with fail
    refine (H4.out _ (hk.below hb11 hk.1)).mono ?_
    rintro e w12 ⟨rfl, hb12'⟩
    have hb12 := hb11.trans (hb12'.mono hb11.size)
    clear hb12' hb11
    go_wp2_with fail
    refine (H5.out _ (hk.below hb12 hk.1)).mono ?_
    rintro e w13 ⟨rfl, hb13'⟩
    have hb13 := hb12.trans (hb13'.mono hb12.size)
    clear hb13' hb12
    go_wp2
    go_ret
    exact ⟨rfl, hb13⟩
  have obc := opS_ok fA_lt ob oc
  have H5 := Lib.hid (fun w h => okI c w HS.out.2.2 h true (decide_eq_true oc))
  have H6 := Lib.hid (fun w h => addI (opS fA a b) c w (sz _ om) HS.out.2.2 h)
  have H7 := Lib.hid (fun w h => addI b c w HS.out.2.1 HS.out.2.2 h)
  have H8 := Lib.hid (fun w h => addI a (opS fA b c) w HS.out.1 (sz _ obc) h)
  rw [add_assoc' oa ob oc] at H8
  generalize opS fA a b = s at *
  generalize opS fD a b = d at *
  generalize opS fA s c = sc at *
  generalize opS fA b c = bc at *
  clear oa ob om oc obc od sz
  go_wp2_with fail
  refine (HI.out _ (hk.below hb2 hk.1)).mono ?_
  rintro e w3 ⟨rfl, hb3'⟩
  have hb3 := hb2.trans (hb3'.mono hb2.size)
  clear hb3' hb2
  go_wp2_with fail
  refine (HJ.out _ (hk.below hb3 hk.1)).mono ?_
  rintro e w4 ⟨rfl, hb4'⟩
  have hb4 := hb3.trans (hb4'.mono hb3.size)
  clear hb4' hb3
  go_wp2_with fail
  refine (HP.out _).mono ?_
  rintro e w5 ⟨rfl, hb5'⟩
  have hb5 := hb4.trans (hb5'.mono hb4.size)
  clear hb5' hb4
  go_wp2_with fail
  refine (HD.out _).mono ?_
  rintro e w6 ⟨rfl, hb6'⟩
  have hb6 := hb5.trans (hb6'.mono hb5.size)
  clear hb6' hb5
  go_wp2_with fail
  refine (K1.out _ (hk.below hb6 hk.1)).mono ?_
  rintro e w7 ⟨rfl, hb7'⟩
  have hb7 := hb6.trans (hb7'.mono hb6.size)
  clear hb7' hb6
  go_wp2_with fail
  refine (K2.out _).mono ?_
  rintro e w8 ⟨rfl, hb8'⟩
  have hb8 := hb7.trans (hb8'.mono hb7.size)
  clear hb8' hb7
  go_wp2_with fail
  refine (H1.out _ (hk.below hb8 hk.1)).mono ?_
  rintro e w9 ⟨rfl, hb9'⟩
  have hb9 := hb8.trans (hb9'.mono hb8.size)
  clear hb9' hb8
  go_wp2_with fail
  refine (H2.out _ (hk.below hb9 hk.1)).mono ?_
  rintro e w10 ⟨rfl, hb10'⟩
  have hb10 := hb9.trans (hb10'.mono hb9.size)
  clear hb10' hb9
  go_wp2_with fail
  refine (H3.out _ (hk.below hb10 hk.1)).mono ?_
  rintro e w11 ⟨rfl, hb11'⟩
  have hb11 := hb10.trans (hb11'.mono hb10.size)
  clear hb11' hb10
  go_wp2_with fail
  refine (H4.out _ (hk.below hb11 hk.1)).mono ?_
  rintro e w12 ⟨rfl, hb12'⟩
  have hb12 := hb11.trans (hb12'.mono hb11.size)
  clear hb12' hb11
  go_wp2_with fail
  refine (H5.out _ (hk.below hb12 hk.1)).mono ?_
  rintro e w13 ⟨rfl, hb13'⟩
  have hb13 := hb12.trans (hb13'.mono hb12.size)
  clear hb13' hb12
  go_wp2_with fail
  refine (H6.out _ (hk.below hb13 hk.1)).mono ?_
  rintro e w14 ⟨rfl, hb14'⟩
  have hb14 := hb13.trans (hb14'.mono hb13.size)
  clear hb14' hb13
  go_wp2_with fail
  refine (H7.out _ (hk.below hb14 hk.1)).mono ?_
  rintro e w15 ⟨rfl, hb15'⟩
  have hb15 := hb14.trans (hb15'.mono hb14.size)
  clear hb15' hb14
  go_wp2_with fail
  refine (H8.out _ (hk.below hb15 hk.1)).mono ?_
  rintro e w16 ⟨rfl, hb16'⟩
  have hb16 := hb15.trans (hb16'.mono hb15.size)
  clear hb16' hb15
  go_wp2
  go_ret
  exact ⟨rfl, hb16⟩

set_option maxRecDepth 100000 in
theorem lifted (os : Os) (started : os.Started) (H : Type) (enc : TypeId × Value → H) (F : Stop.Interp) :
    ReturnsInHanded {} Tryd.checked os 3 .any ((OpenSpec.ofChange Rows.fnAddSpec).preRow enc Tryd.prog Tryd.f3 Rows.fnAddRow.domain false Rows.fnAddRow.laid) (((OpenSpec.ofChange Rows.fnAddSpec).at F).post enc Tryd.prog Tryd.f3 false true false false) := by
  refine returnsInHanded_of_row (C := Tryd.checked) (s := OpenSpec.ofChange Rows.fnAddSpec) own started (by kernel_rfl) Tryd.func3
    (witness_row_at (enc := enc) (C := Tryd.checked) false (laidWorldP os) #[.slice none 0 0, .slice none 0 0] rfl (by kernel_rfl) (by kernel_rfl) (by kernel_rfl)
      (OpenSpec.preRow_of_B rfl 8 (by kernel_rfl) (by kernel_rfl) (laid_metP os #[.slice none 0 0, .slice none 0 0]))) ?_
  intro W base args ds gs before hval0 hW _ _ _ hL _ _
  have hval : ∀ (j : Nat) t v, Tryd.f3.params[j]? = some t → args[j]? = some v → Value.okWide Tryd.prog W .any base t v := hval0
  have hW' := hW
  obtain ⟨p, q, hA0, hV, rfl, hfz, hnd⟩ := hW
  have hA : DataW.TrodAll enc Tryd.prog W 0 (fun _ => true) true Tryd.f3.params.toList args.toList ds p := hA0
  rw [Tryd.params3] at hA hval
  obtain ⟨v0, vs0, d0, ds0, p0, q0, hargs, rfl, rfl, h0, r0⟩ := trodAll_cons hA
  obtain ⟨v1, vs1, d1, ds1, p1, q1, rfl, rfl, rfl, h1, r1⟩ := trodAll_cons r0
  obtain ⟨rfl, rfl, rfl⟩ := trodAll_nil r1
  obtain rfl : args = #[v0, v1] := by cases args; simp_all
  have hVV := hV
  obtain ⟨_, _, _, _, dv, _, rfl, _⟩ := trodVars_one hV
  obtain ⟨a0, len0, cap0, rfl⟩ := okWide_slice Tryd.underlying22 (hval 0 22 v0 rfl rfl)
  have k0 := h0
  have lt0 : ∀ x ∈ p0, x.block < W.heap.size := by obtain ⟨m, hm⟩ := k0; exact DataW.trod_lt m _ _ _ hm
  obtain ⟨z0, w0⟩ : ∃ zs, My.IsRow .u8 W a0 len0 cap0 zs := by
    obtain ⟨fuel, hf⟩ := h0
    rcases open_ints Tryd.underlying22 Tryd.underlying5 (by kernel_rfl) hf with ⟨hcs, _⟩ | ⟨x, l, c, zs, hcs, _, hl, hm, hz, _, hcell, hwz⟩
    · simp [Value.cells] at hcs
      obtain ⟨rfl, rfl, rfl⟩ := hcs
      exact ⟨[], .inl ⟨rfl, rfl, rfl, rfl⟩⟩
    · simp [Value.cells] at hcs
      obtain ⟨rfl, rfl, rfl⟩ := hcs
      exact ⟨zs, .inr ⟨_, rfl, hl, hm, by simpa using hz, hcell, hwz⟩⟩
  obtain ⟨a1, len1, cap1, rfl⟩ := okWide_slice Tryd.underlying22 (hval 1 22 v1 rfl rfl)
  have k1 := h1
  have lt1 : ∀ x ∈ p1, x.block < W.heap.size := by obtain ⟨m, hm⟩ := k1; exact DataW.trod_lt m _ _ _ hm
  obtain ⟨z1, w1⟩ : ∃ zs, My.IsRow .u8 W a1 len1 cap1 zs := by
    obtain ⟨fuel, hf⟩ := h1
    rcases open_ints Tryd.underlying22 Tryd.underlying5 (by kernel_rfl) hf with ⟨hcs, _⟩ | ⟨x, l, c, zs, hcs, _, hl, hm, hz, _, hcell, hwz⟩
    · simp [Value.cells] at hcs
      obtain ⟨rfl, rfl, rfl⟩ := hcs
      exact ⟨[], .inl ⟨rfl, rfl, rfl, rfl⟩⟩
    · simp [Value.cells] at hcs
      obtain ⟨rfl, rfl, rfl⟩ := hcs
      exact ⟨zs, .inr ⟨_, rfl, hl, hm, by simpa using hz, hcell, hwz⟩⟩
  clear hA0 hval0
  refine (walk W (tab_ofP hL) a0 len0 cap0 z0 w0 a1 len1 cap1 z1 w1).mono fun e W' ⟨he, bel⟩ => ?_
  subst he
  exact ⟨_, rfl, _, _, _, [], _, _, hW', trodAll_mk1 (shut_bool Tryd.underlying4 _), (trodAll_cons_mk (Below.trod laidOut (by kernel_rfl) (of_decide_eq_true (by kernel_rfl)) k0 bel lt0) (trodAll_cons_mk (Below.trod laidOut (by kernel_rfl) (of_decide_eq_true (by kernel_rfl)) k1 bel lt1) trodAll_mk0)), Below.trodVars laidOut bel (by kernel_rfl) hVV, bel.frame _, fun h => by cases h⟩

theorem said : Rows.FnAddSaid :=
  OpenClaim.holds_of_cond 3 Tryd.f3 rfl rfl rfl rfl rfl rfl rfl ⟨rfl, rfl, rfl, rfl, rfl⟩ rfl rfl rfl rfl rfl (by kernel_rfl) Tryd.func3 (by kernel_rfl)
    (of_decide_eq_true (by kernel_rfl)) (by unfold Func.isWrapper; first | (rw [if_pos (by decide +kernel)]; kernel_rfl) | (rw [if_neg (by decide +kernel)]; exact ⟨rfl, rfl⟩))
    (fun os started H enc _ F => by rw [OpenClaim.pre_eq_preRow]; exact lifted os started H enc F)

theorem plain (f : FuncId) (fn : Func) (hf : Tryd.pinned.checked.prog.funcNamed "loop.example/g00702/laws.FnAdd" = some f) (hfn : Tryd.pinned.checked.prog.funcs[f]? = some fn) :
    false = Tryd.pinned.checked.prog.looks [] ∧ ∀ (j : Nat) t, fn.params[j]? = some t → Tryd.pinned.checked.prog.wantsStandIn t = false := by
  obtain rfl : f = 3 := Option.some.inj ((show Tryd.prog.funcNamed "loop.example/g00702/laws.FnAdd" = some 3 by kernel_rfl).symm.trans hf) |>.symm
  obtain rfl : fn = Tryd.f3 := (Option.some.inj (Tryd.func3.symm.trans hfn)).symm
  refine ⟨by kernel_rfl, fun j t ht => ?_⟩
  rw [Tryd.params3] at ht
  have hm : t ∈ [22, 22] := by simpa using Array.mem_of_getElem? ht
  have hall : ([22, 22].all fun u => !Tryd.prog.wantsStandIn u) = true := by kernel_rfl
  exact (show Tryd.prog.wantsStandIn t = false by simpa using List.all_eq_true.1 hall t hm)

theorem proved : Rows.FnAddCardSaid :=
  Claim7.holds_tied_plain_at .later [] _ _ _ _ said (fun _ h => by cases h) (by kernel_rfl) (fun _ h => by cases h) fnAdd_row_tie rfl ⟨rfl, rfl⟩ (by kernel_rfl) rfl plain (by kernel_rfl)
end Go.Proofs.YtiieoiledeegfaaDoor.fnAdd

/- Proved: for every code FnClamped returns true: a drawn key's Clamped is the specification's, is clamped, is its own Clamped, and has the same public key, which is a field element (codes of more than 2^20 bytes are passed over by the law itself). The package-level tables that the code reads are tied to the program's text. No further condition. -/
import Derived.Test.YtcaepcfgeelojaaDoorRows
import Derived.Test.YtcaepcfgeelojaaDoorCards
import Derived.Test.YtcaepcfgeelojaaDoorTie
import Derived.WalkKit
import Derived.ProofKit
import Derived.OpenShut
import Derived.ShutString
import Derived.ChangeOld
import Derived.ChangeVars
import Derived.OpenVars
import Derived.Below
import Derived.Deep.DeepHandedRow
import Derived.Lib.LaidTab
import Derived.Test.YtcaepcfgeelojaaDoorLadZ
import Derived.Test.YtcaepcfgeelojaaDoorCardP
namespace Go.Proofs.YtcaepcfgeelojaaDoor.fnClamped
open Go.ChangeShapes Go.WideShapes Go.ChangeAt Go.RowKit Go.My
open Go.ChangeMaps (open_string shut_string)
set_option linter.unusedVariables false

theorem own : ownKnob Tryd.prog.godebug = none := by kernel_rfl
theorem laidOut : laidOutB Tryd.prog = true := by kernel_rfl
theorem clampI (k : ByteArray) (w : World) (h : k.size ≤ 40) : Calls Tryd.prog 18 #[.string k] w fun e w' => e = .returned (.string (clampV k)) ∧ Below w.heap.size w w' := clamp_i k w (by omega)
theorem clampS (k : ByteArray) (w : World) (h : k.size ≤ 40) : Calls Tryd.prog 19 #[.string k] w fun e w' => e = .returned (.string (clampV k)) ∧ Below w.heap.size w w' := clamp_s k w (by omega)
theorem clamp_bytes (k c : ByteArray) (h : k.size = 32) (hc : c = clampV k) (h0 : 0 < c.size) (h31 : 31 < c.size) : (c[0]'h0).toNat % 8 = 0 ∧ 64 ≤ (c[31]'h31).toNat ∧ (c[31]'h31).toNat < 128 := by
  have hk := len_data k
  have e : c.data.toList = clampL k.data.toList := by rw [hc, show clampV k = str (clampL k.data.toList) from if_pos h, str_list]
  have g0 : (c[0]'h0) = UInt8.ofNat (c0 (k.data.toList.getD 0 0).toNat) := by rw [← get_list c 0 h0, e, clamp_parts _ (by omega)]; rfl
  have g31 : (c[31]'h31) = UInt8.ofNat (c31 (k.data.toList.getD 31 0).toNat) := by rw [← get_list c 31 h31, e]; unfold clampL; simp [hk, h]
  rw [g0, g31, ofNat_n _ (c0_lt _ (getD_lt _ 0)), ofNat_n _ (by have := c31_lt (k.data.toList.getD 31 0).toNat; omega)]
  unfold c0 c31
  omega

set_option maxHeartbeats 4000000 in
theorem walk (w : World) (hk : TabP w) (a0 : Option Addr) (len0 cap0 : Nat) (z0 : List Int) (w0 : IsRow .u8 w a0 len0 cap0 z0) :
    Calls Tryd.prog 4 #[.slice a0 len0 cap0] w fun e w' => e = .returned (.bool true) ∧ Below w.heap.size w w' := by
  have hm0 := row_maxD w0
  by_cases hl : len0 ≤ 1048576
  case neg =>
    have hd : decide (1048576 < (len0 : Int)) = true := by simp; omega
    go_enter Tryd.func4, Tryd.ntmps4
    go_wp2_with fail
    refine (big_any _ _ _ _ hm0).mono ?_
    rintro e w' ⟨rfl, rfl⟩
    rw [hd]
    go_wp2
    go_ret
    exact ⟨rfl, Below.refl _ _⟩
  have hd : decide (1048576 < (len0 : Int)) = false := by simp; omega
  have hc := code_of_row w0 hl
  clear w0 hl
  go_enter Tryd.func4, Tryd.ntmps4
  go_wp2_with fail
  refine (big_any _ _ _ _ hm0).mono ?_
  rintro e w' ⟨rfl, rfl⟩
  rw [hd]
  clear hm0 hd
  go_wp2_with fail
  refine (draw_clamped w.heap.size a0 len0 cap0 _ (Nat.le_refl _) hc).mono ?_
  rintro e w1 ⟨a, rfl, ha, hb1'⟩
  have hb1 := hb1'
  clear hb1'
  clear hc
  have HS := Lib.hid ha
  clear ha
  have HI := Lib.hid (fun w => clampI a w HS.out)
  have HQ := Lib.hid (fun w => clampS a w HS.out)
  by_cases h32 : a.size = 32
  case neg =>
    have e0 : clampV a = str [] := if_neg h32
    have e1 := emptyE
    rw [e0] at HI HQ
    clear e0 h32
    generalize str [] = E at *
    go_wp2_with fail
    refine (HI.out _).mono ?_
    rintro e w3 ⟨rfl, hb3'⟩
    have hb3 := hb1.trans (hb3'.mono hb1.size)
    clear hb3' hb1
    go_wp2_with fail
    refine (HQ.out _).mono ?_
    rintro e w4 ⟨rfl, hb4'⟩
    have hb4 := hb3.trans (hb4'.mono hb3.size)
    clear hb4' hb3
    go_wp2_with fail
    refine (HQ.out _).mono ?_
    rintro e w5 ⟨rfl, hb5'⟩
    have hb5 := hb4.trans (hb5'.mono hb4.size)
    clear hb5' hb4
    go_wp2
    go_ret
    exact ⟨rfl, hb5⟩
  have hcs := (clampV_key a h32).1
  have HC2 := Lib.hid (fun w => clampI (clampV a) w (by rw [hcs]; omega))
  rw [clampV_twice a h32] at HC2
  have HP1 := Lib.hid (fun w h => pubI20 (clampV a) w (by rw [hcs]; omega) h)
  rw [dh_clamped a nineS h32 nine_size] at HP1
  have HP2 := Lib.hid (fun w h => pubI20 a w (by rw [h32]; omega) h)
  have HOK := Lib.hid (fun w h => okI (dhV a nineS) w (dhV_size a nineS) h true (decide_eq_true (dhV_ok h32 nine_size)))
  obtain ⟨c, ec⟩ : ∃ c, c = clampV a := ⟨_, rfl⟩
  rw [← ec] at hcs HC2 HP1 HI HQ
  have l0 : 0 < c.size := by omega
  have l31 : 31 < c.size := by omega
  obtain ⟨b0, b1, b2⟩ := clamp_bytes a c h32 ec l0 l31
  have hce : c.toList.isEmpty = false := by rw [isE, hcs]; rfl
  have hcs1 : (c.size : Int) = 32 := by omega
  have t0 : (((c[0]'l0).toNat : Int).tmod 8 == 0) = true := by rw [Int.tmod_eq_emod_of_nonneg (by omega)]; simp; omega
  have t0' : (((c[0]'l0).toNat : Int) % 8 == 0) = true := by simp; omega
  have t0'' : ((c[0]'l0).toNat : Int) % 8 = 0 := by omega
  have t1 : (64 : Int) ≤ ((c[31]'l31).toNat : Int) := by omega
  have t2 : ((c[31]'l31).toNat : Int) < 128 := by omega
  clear ec h32 hcs b0 b1 b2
  generalize dhV a nineS = d at *
  go_wp2_with fail
  refine (HI.out _).mono ?_
  rintro e w3 ⟨rfl, hb3'⟩
  have hb3 := hb1.trans (hb3'.mono hb1.size)
  clear hb3' hb1
  go_wp2_with fail
  refine (HQ.out _).mono ?_
  rintro e w4 ⟨rfl, hb4'⟩
  have hb4 := hb3.trans (hb4'.mono hb3.size)
  clear hb4' hb3
  go_wp2_with fail
  refine (HC2.out _).mono ?_
  rintro e w5 ⟨rfl, hb5'⟩
  have hb5 := hb4.trans (hb5'.mono hb4.size)
  clear hb5' hb4
  go_wp2_with fail
  refine (HP1.out _ (hk.below hb5 hk.1)).mono ?_
  rintro e w6 ⟨rfl, hb6'⟩
  have hb6 := hb5.trans (hb6'.mono hb5.size)
  clear hb6' hb5
  go_wp2_with fail
  refine (HP2.out _ (hk.below hb6 hk.1)).mono ?_
  rintro e w7 ⟨rfl, hb7'⟩
  have hb7 := hb6.trans (hb7'.mono hb6.size)
  clear hb7' hb6
  go_wp2_with fail
  refine (HP2.out _ (hk.below hb7 hk.1)).mono ?_
  rintro e w8 ⟨rfl, hb8'⟩
  have hb8 := hb7.trans (hb8'.mono hb7.size)
  clear hb8' hb7
  go_wp2_with fail
  refine (HOK.out _ (hk.below hb8 hk.1)).mono ?_
  rintro e w9 ⟨rfl, hb9'⟩
  have hb9 := hb8.trans (hb9'.mono hb8.size)
  clear hb9' hb8
  go_wp2
  go_ret
  exact ⟨rfl, hb9⟩

set_option maxRecDepth 100000 in
theorem lifted (os : Os) (started : os.Started) (H : Type) (enc : TypeId × Value → H) (F : Stop.Interp) :
    ReturnsInHanded {} Tryd.checked os 4 .any ((OpenSpec.ofChange Rows.fnClampedSpec).preRow enc Tryd.prog Tryd.f4 Rows.fnClampedRow.domain false Rows.fnClampedRow.laid) (((OpenSpec.ofChange Rows.fnClampedSpec).at F).post enc Tryd.prog Tryd.f4 false true false false) := by
  refine returnsInHanded_of_row (C := Tryd.checked) (s := OpenSpec.ofChange Rows.fnClampedSpec) own started (by kernel_rfl) Tryd.func4
    (witness_row_at (enc := enc) (C := Tryd.checked) false (laidWorldP os) #[.slice none 0 0] rfl (by kernel_rfl) (by kernel_rfl) (by kernel_rfl)
      (OpenSpec.preRow_of_B rfl 8 (by kernel_rfl) (by kernel_rfl) (laid_metP os #[.slice none 0 0]))) ?_
  intro W base args ds gs before hval0 hW _ _ _ hL _ _
  have hval : ∀ (j : Nat) t v, Tryd.f4.params[j]? = some t → args[j]? = some v → Value.okWide Tryd.prog W .any base t v := hval0
  have hW' := hW
  obtain ⟨p, q, hA0, hV, rfl, hfz, hnd⟩ := hW
  have hA : DataW.TrodAll enc Tryd.prog W 0 (fun _ => true) true Tryd.f4.params.toList args.toList ds p := hA0
  rw [Tryd.params4] at hA hval
  obtain ⟨v0, vs0, d0, ds0, p0, q0, hargs, rfl, rfl, h0, r0⟩ := trodAll_cons hA
  obtain ⟨rfl, rfl, rfl⟩ := trodAll_nil r0
  obtain rfl : args = #[v0] := by cases args; simp_all
  have hVV := hV
  obtain ⟨_, _, _, _, dv, _, rfl, _⟩ := trodVars_one hV
  obtain ⟨a0, len0, cap0, rfl⟩ := okWide_slice Tryd.underlying22 (hval 0 22 v0 rfl rfl)
  have k0 := h0
  have lt0 : ∀ x ∈ p0, x.block < W.heap.size := by obtain ⟨m, hm⟩ := k0; exact DataW.trod_lt m _ _ _ hm
  obtain ⟨z0, w0⟩ : ∃ zs, My.IsRow .u8 W a0 len0 cap0 zs := by
    obtain ⟨fuel, hf⟩ := h0
    rcases open_ints Tryd.underlying22 Tryd.underlying5 (by kernel_rfl) hf with ⟨hcs, _⟩ | ⟨x, l, c, zs, hcs, _, hl, hm, hz, _, hcell, hwz⟩
    · simp [Value.cells] at hcs
      obtain ⟨rfl, rfl, rfl⟩ := hcs
      exact ⟨[], .inl ⟨rfl, rfl, rfl, rfl⟩⟩
    · simp [Value.cells] at hcs
      obtain ⟨rfl, rfl, rfl⟩ := hcs
      exact ⟨zs, .inr ⟨_, rfl, hl, hm, by simpa using hz, hcell, hwz⟩⟩
  clear hA0 hval0
  refine (walk W (tab_ofP hL) a0 len0 cap0 z0 w0).mono fun e W' ⟨he, bel⟩ => ?_
  subst he
  exact ⟨_, rfl, _, _, _, [], _, _, hW', trodAll_mk1 (shut_bool Tryd.underlying4 _), (trodAll_cons_mk (Below.trod laidOut (by kernel_rfl) (of_decide_eq_true (by kernel_rfl)) k0 bel lt0) trodAll_mk0), Below.trodVars laidOut bel (by kernel_rfl) hVV, bel.frame _, fun h => by cases h⟩

theorem said : Rows.FnClampedSaid :=
  OpenClaim.holds_of_cond 4 Tryd.f4 rfl rfl rfl rfl rfl rfl rfl ⟨rfl, rfl, rfl, rfl, rfl⟩ rfl rfl rfl rfl rfl (by kernel_rfl) Tryd.func4 (by kernel_rfl)
    (of_decide_eq_true (by kernel_rfl)) (by unfold Func.isWrapper; first | (rw [if_pos (by decide +kernel)]; kernel_rfl) | (rw [if_neg (by decide +kernel)]; exact ⟨rfl, rfl⟩))
    (fun os started H enc _ F => by rw [OpenClaim.pre_eq_preRow]; exact lifted os started H enc F)

theorem plain (f : FuncId) (fn : Func) (hf : Tryd.pinned.checked.prog.funcNamed "loop.example/g00702/laws.FnClamped" = some f) (hfn : Tryd.pinned.checked.prog.funcs[f]? = some fn) :
    false = Tryd.pinned.checked.prog.looks [] ∧ ∀ (j : Nat) t, fn.params[j]? = some t → Tryd.pinned.checked.prog.wantsStandIn t = false := by
  obtain rfl : f = 4 := Option.some.inj ((show Tryd.prog.funcNamed "loop.example/g00702/laws.FnClamped" = some 4 by kernel_rfl).symm.trans hf) |>.symm
  obtain rfl : fn = Tryd.f4 := (Option.some.inj (Tryd.func4.symm.trans hfn)).symm
  refine ⟨by kernel_rfl, fun j t ht => ?_⟩
  rw [Tryd.params4] at ht
  have hm : t ∈ [22] := by simpa using Array.mem_of_getElem? ht
  have hall : ([22].all fun u => !Tryd.prog.wantsStandIn u) = true := by kernel_rfl
  exact (show Tryd.prog.wantsStandIn t = false by simpa using List.all_eq_true.1 hall t hm)

theorem proved : Rows.FnClampedCardSaid :=
  Claim7.holds_tied_plain_at .later [] _ _ _ _ said (fun _ h => by cases h) (by kernel_rfl) (fun _ h => by cases h) fnClamped_row_tie rfl ⟨rfl, rfl⟩ (by kernel_rfl) rfl plain (by kernel_rfl)
end Go.Proofs.YtcaepcfgeelojaaDoor.fnClamped

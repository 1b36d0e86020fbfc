/- Proved: for every code FnHkdf returns true: the program's HKDF is Extract followed by Expand, and is the specification's (codes of more than 2^20 bytes are passed over by the law itself). The package-level tables that the code reads are tied to the program's text. No further condition. -/
import Derived.Test.YtfbcmckepdjdkaaDoorRows
import Derived.Test.YtfbcmckepdjdkaaDoorCards
import Derived.Test.YtfbcmckepdjdkaaDoorTie
import Derived.WalkKit
import Derived.ProofKit
import Derived.OpenShut
import Derived.ShutString
import Derived.ChangeOld
import Derived.ChangeVars
import Derived.OpenVars
import Derived.Below
import Derived.Deep.DeepHandedRow
import Derived.Lib.LaidTab
import Derived.Test.YtfbcmckepdjdkaaDoorGDrawT
import Derived.Test.YtfbcmckepdjdkaaDoorGSha11
import Derived.Test.YtfbcmckepdjdkaaDoorGCardK
namespace Go.Proofs.YtfbcmckepdjdkaaDoor.fnHkdf
open Go.ChangeShapes Go.WideShapes Go.ChangeAt Go.RowKit Go.My
open Go.ChangeMaps (open_string shut_string)
set_option linter.unusedVariables false

theorem own : ownKnob Tryd.prog.godebug = none := by kernel_rfl
theorem laidOut : laidOutB Tryd.prog = true := by kernel_rfl
theorem row_max {w : World} {a : Option Addr} {len cap : Nat} {zs : List Int} (h : IsRow .u8 w a len cap zs) : len ≤ 9223372036854775807 := by
  rcases h with ⟨_, rfl, _⟩ | ⟨x, _, h1, h2, _⟩
  · omega
  · unfold maxLen at h2; omega
theorem isE2 (a : ByteArray) : a.toList.isEmpty = decide (a.size = 0) := by
  rw [ByteArray.toList_eq, ← len_data]
  cases a.data.toList <;> simp

set_option maxHeartbeats 4000000 in
theorem walk (w : World) (hk : TabK w) (a0 : Option Addr) (len0 cap0 : Nat) (z0 : List Int) (w0 : IsRow .u8 w a0 len0 cap0 z0) :
    Calls Tryd.prog 9 #[.slice a0 len0 cap0] w fun e w' => e = .returned (.bool true) ∧ Below w.heap.size w w' := by
  have hm0 := row_max w0
  by_cases hl : len0 ≤ 1048576
  case neg =>
    have hd : decide (1048576 < (len0 : Int)) = true := by simp; omega
    go_enter Tryd.func9, Tryd.ntmps9
    go_wp2_with fail
    refine (big_any _ _ _ _ hm0).mono ?_
    rintro e w' ⟨rfl, rfl⟩
    rw [hd]
    go_wp2
    go_ret
    exact ⟨rfl, Below.refl _ _⟩
  have hd : decide (1048576 < (len0 : Int)) = false := by simp; omega
  have hc := code_of_row w0 hl
  clear w0 hl
  go_enter Tryd.func9, Tryd.ntmps9
  go_wp2_with fail
  refine (big_any _ _ _ _ hm0).mono ?_
  rintro e w' ⟨rfl, rfl⟩
  rw [hd]
  clear hm0 hd
  go_wp2_with fail
  refine (draw_hkdf w.heap.size a0 len0 cap0 _ (Nat.le_refl _) hc).mono ?_
  rintro e w1 ⟨s, k, i, n, rfl, hs, hkk, hi, hb1'⟩
  have hb1 := hb1'
  clear hb1'
  have hc1 := hc.below hb1
  go_wp2_with fail
  refine (draw_extract w.heap.size a0 len0 cap0 _ hb1.size hc1).mono ?_
  rintro e w2 ⟨a, b, rfl, ha, hbb, hb2'⟩
  have hb2 := hb1.trans hb2'
  clear hb2' hb1
  clear hc hc1
  have HP := Lib.hid (fun w => hkdf_spec s k i n w (by omega) (by omega) (by omega))
  have HI := Lib.hid (fun w h => hkdf_impl s k i n w h)
  have HE := Lib.hid (fun w => extract_spec a b w (by omega) (by omega))
  have HF := Lib.hid (fun w h => extract_impl a b w h)
  have HG := Lib.hid (fun w h => extract_impl s k w h)
  have HX := Lib.hid (fun w h => expand_impl (str (extractV s.data.toList k.data.toList)) i n w h)
  have HV : Hid ((str (hkdfV s.data.toList k.data.toList i.data.toList n)).size ≠ 0 → str (expandV (str (extractV s.data.toList k.data.toList)).data.toList i.data.toList n) = str (hkdfV s.data.toList k.data.toList i.data.toList n)) := by
    show _ → _
    intro hne
    by_cases c : s.size ≤ 300 ∧ k.size ≤ 300
    · rw [hkdfV_yes c, str_list]
      congr 2
      exact if_pos (by rw [len_data, len_data]; exact c)
    · rw [hkdfV_no c] at hne
      exact absurd rfl hne
  generalize str (hkdfV s.data.toList k.data.toList i.data.toList n) = V at *
  generalize str (extractV a.data.toList b.data.toList) = E at *
  generalize str (extractV s.data.toList k.data.toList) = X at *
  generalize str (expandV X.data.toList i.data.toList n) = Y at *
  clear hs hkk hi ha hbb
  by_cases hz : V.size = 0
  · have hE : V.toList.isEmpty = true := by rw [isE2, decide_eq_true hz]
    clear hz
    go_wp2_with fail
    refine (HI.out _ (hk.below hb2 hk.1)).mono ?_
    rintro e w3 ⟨rfl, hb3'⟩
    have hb3 := hb2.trans (hb3'.mono hb2.size)
    clear hb3' hb2
    go_wp2_with fail
    refine (HP.out _).mono ?_
    rintro e w4 ⟨rfl, hb4'⟩
    have hb4 := hb3.trans (hb4'.mono hb3.size)
    clear hb4' hb3
    go_wp2_with fail
    refine (HF.out _ (hk.below hb4 hk.1)).mono ?_
    rintro e w5 ⟨rfl, hb5'⟩
    have hb5 := hb4.trans (hb5'.mono hb4.size)
    clear hb5' hb4
    go_wp2_with fail
    refine (HE.out _).mono ?_
    rintro e w6 ⟨rfl, hb6'⟩
    have hb6 := hb5.trans (hb6'.mono hb5.size)
    clear hb6' hb5
    go_wp2_with fail
    refine (HP.out _).mono ?_
    rintro e w7 ⟨rfl, hb7'⟩
    have hb7 := hb6.trans (hb7'.mono hb6.size)
    clear hb7' hb6
    go_wp2_with fail
    refine (HF.out _ (hk.below hb7 hk.1)).mono ?_
    rintro e w8 ⟨rfl, hb8'⟩
    have hb8 := hb7.trans (hb8'.mono hb7.size)
    clear hb8' hb7
    go_wp2_with fail
    refine (HE.out _).mono ?_
    rintro e w9 ⟨rfl, hb9'⟩
    have hb9 := hb8.trans (hb9'.mono hb8.size)
    clear hb9' hb8
    go_wp2
    go_ret
    exact ⟨rfl, hb9⟩
  · have hE : V.toList.isEmpty = false := by rw [isE2, decide_eq_false hz]
    have hY := HV.out hz
    subst hY
    clear hz
    go_wp2_with fail
    refine (HI.out _ (hk.below hb2 hk.1)).mono ?_
    rintro e w3 ⟨rfl, hb3'⟩
    have hb3 := hb2.trans (hb3'.mono hb2.size)
    clear hb3' hb2
    go_wp2_with fail
    refine (HP.out _).mono ?_
    rintro e w4 ⟨rfl, hb4'⟩
    have hb4 := hb3.trans (hb4'.mono hb3.size)
    clear hb4' hb3
    go_wp2_with fail
    refine (HF.out _ (hk.below hb4 hk.1)).mono ?_
    rintro e w5 ⟨rfl, hb5'⟩
    have hb5 := hb4.trans (hb5'.mono hb4.size)
    clear hb5' hb4
    go_wp2_with fail
    refine (HE.out _).mono ?_
    rintro e w6 ⟨rfl, hb6'⟩
    have hb6 := hb5.trans (hb6'.mono hb5.size)
    clear hb6' hb5
    go_wp2_with fail
    refine (HG.out _ (hk.below hb6 hk.1)).mono ?_
    rintro e w7 ⟨rfl, hb7'⟩
    have hb7 := hb6.trans (hb7'.mono hb6.size)
    clear hb7' hb6
    go_wp2_with fail
    refine (HX.out _ (hk.below hb7 hk.1)).mono ?_
    rintro e w8 ⟨rfl, hb8'⟩
    have hb8 := hb7.trans (hb8'.mono hb7.size)
    clear hb8' hb7
    go_wp2
    go_ret
    exact ⟨rfl, hb8⟩

set_option maxRecDepth 100000 in
theorem lifted (os : Os) (started : os.Started) (H : Type) (enc : TypeId × Value → H) (F : Stop.Interp) :
    ReturnsInHanded {} Tryd.checked os 9 .any ((OpenSpec.ofChange Rows.fnHkdfSpec).preRow enc Tryd.prog Tryd.f9 Rows.fnHkdfRow.domain false Rows.fnHkdfRow.laid) (((OpenSpec.ofChange Rows.fnHkdfSpec).at F).post enc Tryd.prog Tryd.f9 false true false false) := by
  refine returnsInHanded_of_row (C := Tryd.checked) (s := OpenSpec.ofChange Rows.fnHkdfSpec) own started (by kernel_rfl) Tryd.func9
    (witness_row_at (enc := enc) (C := Tryd.checked) false (laidWorldK os) #[.slice none 0 0] rfl (by kernel_rfl) (by kernel_rfl) (by kernel_rfl)
      (OpenSpec.preRow_of_B rfl 8 (by kernel_rfl) (by kernel_rfl) (laid_metK os #[.slice none 0 0]))) ?_
  intro W base args ds gs before hval0 hW _ _ _ hL _ _
  have hval : ∀ (j : Nat) t v, Tryd.f9.params[j]? = some t → args[j]? = some v → Value.okWide Tryd.prog W .any base t v := hval0
  have hW' := hW
  obtain ⟨p, q, hA0, hV, rfl, hfz, hnd⟩ := hW
  have hA : DataW.TrodAll enc Tryd.prog W 0 (fun _ => true) true Tryd.f9.params.toList args.toList ds p := hA0
  rw [Tryd.params9] at hA hval
  obtain ⟨v0, vs0, d0, ds0, p0, q0, hargs, rfl, rfl, h0, r0⟩ := trodAll_cons hA
  obtain ⟨rfl, rfl, rfl⟩ := trodAll_nil r0
  obtain rfl : args = #[v0] := by cases args; simp_all
  have hVV := hV
  obtain ⟨_, _, _, _, dv, _, rfl, _⟩ := trodVars_one hV
  obtain ⟨a0, len0, cap0, rfl⟩ := okWide_slice Tryd.underlying39 (hval 0 39 v0 rfl rfl)
  have k0 := h0
  have lt0 : ∀ x ∈ p0, x.block < W.heap.size := by obtain ⟨m, hm⟩ := k0; exact DataW.trod_lt m _ _ _ hm
  obtain ⟨z0, w0⟩ : ∃ zs, My.IsRow .u8 W a0 len0 cap0 zs := by
    obtain ⟨fuel, hf⟩ := h0
    rcases open_ints Tryd.underlying39 Tryd.underlying5 (by kernel_rfl) hf with ⟨hcs, _⟩ | ⟨x, l, c, zs, hcs, _, hl, hm, hz, _, hcell, hwz⟩
    · simp [Value.cells] at hcs
      obtain ⟨rfl, rfl, rfl⟩ := hcs
      exact ⟨[], .inl ⟨rfl, rfl, rfl, rfl⟩⟩
    · simp [Value.cells] at hcs
      obtain ⟨rfl, rfl, rfl⟩ := hcs
      exact ⟨zs, .inr ⟨_, rfl, hl, hm, by simpa using hz, hcell, hwz⟩⟩
  clear hA0 hval0
  refine (walk W (tab_ofK hL) a0 len0 cap0 z0 w0).mono fun e W' ⟨he, bel⟩ => ?_
  subst he
  exact ⟨_, rfl, _, _, _, [], _, _, hW', trodAll_mk1 (shut_bool Tryd.underlying4 _), (trodAll_cons_mk (Below.trod laidOut (by kernel_rfl) (of_decide_eq_true (by kernel_rfl)) k0 bel lt0) trodAll_mk0), Below.trodVars laidOut bel (by kernel_rfl) hVV, bel.frame _, fun h => by cases h⟩

theorem said : Rows.FnHkdfSaid :=
  OpenClaim.holds_of_cond 9 Tryd.f9 rfl rfl rfl rfl rfl rfl rfl ⟨rfl, rfl, rfl, rfl, rfl⟩ rfl rfl rfl rfl rfl (by kernel_rfl) Tryd.func9 (by kernel_rfl)
    (of_decide_eq_true (by kernel_rfl)) (by unfold Func.isWrapper; first | (rw [if_pos (by decide +kernel)]; kernel_rfl) | (rw [if_neg (by decide +kernel)]; exact ⟨rfl, rfl⟩))
    (fun os started H enc _ F => by rw [OpenClaim.pre_eq_preRow]; exact lifted os started H enc F)

theorem plain (f : FuncId) (fn : Func) (hf : Tryd.pinned.checked.prog.funcNamed "loop.example/g00702/laws.FnHkdf" = some f) (hfn : Tryd.pinned.checked.prog.funcs[f]? = some fn) :
    false = Tryd.pinned.checked.prog.looks [] ∧ ∀ (j : Nat) t, fn.params[j]? = some t → Tryd.pinned.checked.prog.wantsStandIn t = false := by
  obtain rfl : f = 9 := Option.some.inj ((show Tryd.prog.funcNamed "loop.example/g00702/laws.FnHkdf" = some 9 by kernel_rfl).symm.trans hf) |>.symm
  obtain rfl : fn = Tryd.f9 := (Option.some.inj (Tryd.func9.symm.trans hfn)).symm
  refine ⟨by kernel_rfl, fun j t ht => ?_⟩
  rw [Tryd.params9] at ht
  have hm : t ∈ [39] := by simpa using Array.mem_of_getElem? ht
  have hall : ([39].all fun u => !Tryd.prog.wantsStandIn u) = true := by kernel_rfl
  exact (show Tryd.prog.wantsStandIn t = false by simpa using List.all_eq_true.1 hall t hm)

theorem proved : Rows.FnHkdfCardSaid :=
  Claim7.holds_tied_plain_at .later [] _ _ _ _ said (fun _ h => by cases h) (by kernel_rfl) (fun _ h => by cases h) fnHkdf_row_tie rfl ⟨rfl, rfl⟩ (by kernel_rfl) rfl plain (by kernel_rfl)
end Go.Proofs.YtfbcmckepdjdkaaDoor.fnHkdf

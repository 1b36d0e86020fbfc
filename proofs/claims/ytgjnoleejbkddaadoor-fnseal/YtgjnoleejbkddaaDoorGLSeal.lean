/- Proved: for every code FnSeal returns true: of whatever keys, associated data and data are drawn from it, the program's Seal and OpenSeal are the specification's; what is opened and sealed again is what it was; a seal is opened with the same key and associated data, and is 32 bytes longer than the data (codes of more than 2^20 bytes are passed over by the law itself). The package-level variables that the code reads (a table, two errors) are tied to the program's text. No further condition. -/
import Derived.Test.YtgjnoleejbkddaaDoorRows
import Derived.Test.YtgjnoleejbkddaaDoorCards
import Derived.Test.YtgjnoleejbkddaaDoorTie
import Derived.WalkKit
import Derived.ProofKit
import Derived.OpenShut
import Derived.ShutString
import Derived.ChangeOld
import Derived.ChangeVars
import Derived.OpenVars
import Derived.Below
import Derived.Deep.DeepHandedRow
import Derived.Lib.LaidTab
import Derived.Test.YtgjnoleejbkddaaDoorGDrawO
import Derived.Test.YtgjnoleejbkddaaDoorGSea4
namespace Go.Proofs.YtgjnoleejbkddaaDoor.fnSeal
open Go.ChangeShapes Go.WideShapes Go.ChangeAt Go.RowKit Go.My
open Go.ChangeMaps (open_string shut_string)
set_option linter.unusedVariables false
set_option maxRecDepth 100000

theorem own : ownKnob Tryd.prog.godebug = none := by kernel_rfl
theorem laidOut : laidOutB Tryd.prog = true := by kernel_rfl
set_option maxHeartbeats 4000000 in
theorem walk (w : World) (hk : ∃ a b, TabO a b w) (a0 : Option Addr) (len0 cap0 : Nat) (z0 : List Int) (w0 : IsRow .u8 w a0 len0 cap0 z0) :
    Calls Tryd.prog 4 #[.slice a0 len0 cap0] w fun e w' => e = .returned (.bool true) ∧ Below w.heap.size w w' := by
  obtain ⟨ta, tb, hT⟩ := hk
  have hmax : len0 ≤ 9223372036854775807 := by
    rcases w0 with ⟨_, rfl, _⟩ | ⟨x, _, h1, h2, _⟩
    · omega
    · unfold maxLen at h2; omega
  by_cases hl : len0 ≤ 1048576
  case neg =>
    have hd : decide (1048576 < (len0 : Int)) = true := by simp; omega
    clear hT
    go_enter Tryd.func4, Tryd.ntmps4
    go_wp2_with fail
    refine (big_any _ _ _ _ hmax).mono ?_
    rintro e w' ⟨rfl, rfl⟩
    rw [hd]
    go_wp2
    go_ret
    exact ⟨rfl, Below.refl _ _⟩
  have hd : decide (1048576 < (len0 : Int)) = false := by simp; omega
  have hc := code_of_row w0 hl
  have HT := Lib.hid (fun w1 (h : Below w.heap.size w w1) => hT.below h)
  have HC := Lib.hid (fun w1 (h : Below w.heap.size w w1) => hc.below h)
  clear w0 hl hT
  go_enter Tryd.func4, Tryd.ntmps4
  go_wp2_with fail
  refine (big_any _ _ _ _ hmax).mono ?_
  rintro e w' ⟨rfl, rfl⟩
  rw [hd]
  clear hd hmax
  go_wp2_with fail
  refine (draw_seal w.heap.size a0 len0 cap0 _ (Nat.le_refl _) hc).mono ?_
  rintro e w1 ⟨k, ad, d, rfl, ⟨hks, has, hds⟩, hb1'⟩
  have hb1 := hb1'
  clear hb1'
  clear hc
  have hdI : (d.size : Int) ≤ 402 := by omega
  go_wp2_with fail
  refine (seal_i k ad d _ (by omega) (by omega) (by omega) (HT.out _ hb1).k).mono ?_
  rintro e w2 ⟨rfl, hb2'⟩
  have hb2 := hb1.trans (hb2'.mono hb1.size)
  clear hb2' hb1
  have SS := Lib.hid (fun w => seal_s k ad d w (by omega) (by omega) (by omega))
  have OI := Lib.hid (fun w h => openSeal_i k ad (seV k ad d) w (by omega) (by omega) (by have := seV_size k ad d; omega) ta tb h)
  have hVs := seV_size k ad d
  have FIN : Hid ((osB k ad (seV k ad d) = true ∧ osV k ad (seV k ad d) = d ∧ (seV k ad d).toList.isEmpty = false ∧ (seV k ad d).size = d.size + 32) ∨ (osB k ad (seV k ad d) = false ∧ (seV k ad d).toList.isEmpty = true)) := by
    by_cases hp : SeP k ad d
    · left
      have e := os_se k ad d hp
      have hz := seE_size k ad d hp.2.2
      rw [seV_yes hp]
      refine ⟨osB_yes e.1, e.2, ?_, hz⟩
      rw [ByteArray.toList_eq]
      cases hh : (seE k ad d).data.toList with
      | nil => have := len_data (seE k ad d); rw [hh] at this; simp at this; omega
      | cons _ _ => rfl
    · right
      rw [seV_no hp]
      exact ⟨osB_no (fun c => by have := c.1.1; have h0 : (ByteArray.mk #[]).size = 0 := rfl; omega), by rw [ByteArray.toList_eq]; rfl⟩
  generalize osB k ad (seV k ad d) = R at *
  generalize osV k ad (seV k ad d) = U at *
  generalize seV k ad d = s at *
  go_wp2_with fail
  refine (draw_openSeal w.heap.size a0 len0 cap0 _ hb2.size (HC.out _ hb2)).mono ?_
  rintro e w3 ⟨x, y, z, rfl, ⟨hxs, hys, hzs⟩, hb3'⟩
  have hb3 := hb2.trans hb3'
  clear hb3' hb2
  go_wp2_with fail
  refine (openSeal_i x y z _ (by omega) (by omega) (by omega) ta tb (HT.out _ hb3)).mono ?_
  rintro e w4 ⟨rfl, hb4'⟩
  have hb4 := hb3.trans (hb4'.mono hb3.size)
  clear hb4' hb3
  go_wp2_with fail
  refine (openSeal_s x y z _ (by omega) (by omega) (by omega)).mono ?_
  rintro e w5 ⟨rfl, hb5'⟩
  have hb5 := hb4.trans (hb5'.mono hb4.size)
  clear hb5' hb4
  have BK : Hid (osB x y z = true → seV x y (osV x y z) = z) := Lib.hid (fun e => (se_os x y z (of_decide_eq_true e)).2)
  have SI := Lib.hid (fun w h => seal_i x y (osV x y z) w (by omega) (by omega) (by have := osV_size x y z; omega) h)
  generalize osB x y z = T at *
  generalize osV x y z = A at *
  go_wp2_with fail
  refine (SS.out _).mono ?_
  rintro e w6 ⟨rfl, hb6'⟩
  have hb6 := hb5.trans (hb6'.mono hb5.size)
  clear hb6' hb5
  clear SS
  have fin : ∀ w6 : World, Below w.heap.size w w6 → Hid (Below w.heap.size w w6) := fun _ h => h
  cases T with
  | true =>
    have e := BK.out rfl
    rw [e] at SI
    clear BK e
    go_wp2_with fail
    refine (SI.out _ (HT.out _ hb6).k).mono ?_
    rintro e w7 ⟨rfl, hb7'⟩
    have hb7 := hb6.trans (hb7'.mono hb6.size)
    clear hb7' hb6
    go_wp2_with fail
    refine (OI.out _ (HT.out _ hb7)).mono ?_
    rintro e w8 ⟨rfl, hb8'⟩
    have hb8 := hb7.trans (hb8'.mono hb7.size)
    clear hb8' hb7
    rcases FIN.out with ⟨rfl, rfl, hE, hZ⟩ | ⟨rfl, hE⟩
    · have hZI : (s.size : Int) = (U.size : Int) + 32 := by omega
      have hw : IntKind.i64.wrap ((U.size : Int) + 32) = (U.size : Int) + 32 := IntWalk.i64_in _ (by omega)
      have hE2 : ¬ s.toList = [] := fun e => by rw [e] at hE; cases hE
      go_wp2
      go_ret
      exact ⟨rfl, hb8⟩
    · have hE2 : s.toList = [] := by cases h : s.toList with
        | nil => rfl
        | cons a l => rw [h] at hE; cases hE
      go_wp2
      go_ret
      exact ⟨rfl, hb8⟩
  | false =>
    clear BK SI
    go_wp2_with fail
    refine (OI.out _ (HT.out _ hb6)).mono ?_
    rintro e w8 ⟨rfl, hb8'⟩
    have hb8 := hb6.trans (hb8'.mono hb6.size)
    clear hb8' hb6
    rcases FIN.out with ⟨rfl, rfl, hE, hZ⟩ | ⟨rfl, hE⟩
    · have hZI : (s.size : Int) = (U.size : Int) + 32 := by omega
      have hw : IntKind.i64.wrap ((U.size : Int) + 32) = (U.size : Int) + 32 := IntWalk.i64_in _ (by omega)
      have hE2 : ¬ s.toList = [] := fun e => by rw [e] at hE; cases hE
      go_wp2
      go_ret
      exact ⟨rfl, hb8⟩
    · have hE2 : s.toList = [] := by cases h : s.toList with
        | nil => rfl
        | cons a l => rw [h] at hE; cases hE
      go_wp2
      go_ret
      exact ⟨rfl, hb8⟩

set_option maxRecDepth 100000 in
theorem lifted (os : Os) (started : os.Started) (H : Type) (enc : TypeId × Value → H) (F : Stop.Interp) :
    ReturnsInHanded {} Tryd.checked os 4 .any ((OpenSpec.ofChange Rows.fnSealSpec).preRow enc Tryd.prog Tryd.f4 Rows.fnSealRow.domain false Rows.fnSealRow.laid) (((OpenSpec.ofChange Rows.fnSealSpec).at F).post enc Tryd.prog Tryd.f4 false true false false) := by
  refine returnsInHanded_of_row (C := Tryd.checked) (s := OpenSpec.ofChange Rows.fnSealSpec) own started (by kernel_rfl) Tryd.func4
    (witness_row_at (enc := enc) (C := Tryd.checked) false (laidWorldO os) #[.slice none 0 0] rfl (by kernel_rfl) (by kernel_rfl) (by kernel_rfl)
      (OpenSpec.preRow_of_B rfl 8 (by kernel_rfl) (by kernel_rfl) (laid_metO os #[.slice none 0 0]))) ?_
  intro W base args ds gs before hval0 hW _ _ _ hL _ _
  have hval : ∀ (j : Nat) t v, Tryd.f4.params[j]? = some t → args[j]? = some v → Value.okWide Tryd.prog W .any base t v := hval0
  have hW' := hW
  obtain ⟨p, q, hA0, hV, rfl, hfz, hnd⟩ := hW
  have hA : DataW.TrodAll enc Tryd.prog W 0 (fun _ => true) true Tryd.f4.params.toList args.toList ds p := hA0
  rw [Tryd.params4] at hA hval
  obtain ⟨v0, vs0, d0, ds0, p0, q0, hargs, rfl, rfl, h0, r0⟩ := trodAll_cons hA
  obtain ⟨rfl, rfl, rfl⟩ := trodAll_nil r0
  obtain rfl : args = #[v0] := by cases args; simp_all
  have hVV := hV
  obtain ⟨dv, dv1, dv2, rfl⟩ := trodVars_three hV
  obtain ⟨a0, len0, cap0, rfl⟩ := okWide_slice Tryd.underlying25 (hval 0 25 v0 rfl rfl)
  have k0 := h0
  have lt0 : ∀ x ∈ p0, x.block < W.heap.size := by obtain ⟨m, hm⟩ := k0; exact DataW.trod_lt m _ _ _ hm
  obtain ⟨z0, w0⟩ : ∃ zs, My.IsRow .u8 W a0 len0 cap0 zs := by
    obtain ⟨fuel, hf⟩ := h0
    rcases open_ints Tryd.underlying25 Tryd.underlying5 (by kernel_rfl) hf with ⟨hcs, _⟩ | ⟨x, l, c, zs, hcs, _, hl, hm, hz, _, hcell, hwz⟩
    · simp [Value.cells] at hcs
      obtain ⟨rfl, rfl, rfl⟩ := hcs
      exact ⟨[], .inl ⟨rfl, rfl, rfl, rfl⟩⟩
    · simp [Value.cells] at hcs
      obtain ⟨rfl, rfl, rfl⟩ := hcs
      exact ⟨zs, .inr ⟨_, rfl, hl, hm, by simpa using hz, hcell, hwz⟩⟩
  clear hA0 hval0
  refine (walk W (tab_ofO hL) a0 len0 cap0 z0 w0).mono fun e W' ⟨he, bel⟩ => ?_
  subst he
  exact ⟨_, rfl, _, _, _, [], _, _, hW', trodAll_mk1 (shut_bool Tryd.underlying4 _), (trodAll_cons_mk (Below.trod laidOut (by kernel_rfl) (of_decide_eq_true (by kernel_rfl)) k0 bel lt0) trodAll_mk0), Below.trodVars laidOut bel (by kernel_rfl) hVV, bel.frame _, fun h => by cases h⟩

theorem said : Rows.FnSealSaid :=
  OpenClaim.holds_of_cond 4 Tryd.f4 rfl rfl rfl rfl rfl rfl rfl ⟨rfl, rfl, rfl, rfl, rfl⟩ rfl rfl rfl rfl rfl (by kernel_rfl) Tryd.func4 (by kernel_rfl)
    (of_decide_eq_true (by kernel_rfl)) (by unfold Func.isWrapper; first | (rw [if_pos (by decide +kernel)]; kernel_rfl) | (rw [if_neg (by decide +kernel)]; exact ⟨rfl, rfl⟩))
    (fun os started H enc _ F => by rw [OpenClaim.pre_eq_preRow]; exact lifted os started H enc F)

theorem plain (f : FuncId) (fn : Func) (hf : Tryd.pinned.checked.prog.funcNamed "loop.example/g00702/laws.FnSeal" = some f) (hfn : Tryd.pinned.checked.prog.funcs[f]? = some fn) :
    true = Tryd.pinned.checked.prog.looks [] ∧ ∀ (j : Nat) t, fn.params[j]? = some t → Tryd.pinned.checked.prog.wantsStandIn t = false := by
  obtain rfl : f = 4 := Option.some.inj ((show Tryd.prog.funcNamed "loop.example/g00702/laws.FnSeal" = some 4 by kernel_rfl).symm.trans hf) |>.symm
  obtain rfl : fn = Tryd.f4 := (Option.some.inj (Tryd.func4.symm.trans hfn)).symm
  refine ⟨by kernel_rfl, fun j t ht => ?_⟩
  rw [Tryd.params4] at ht
  have hm : t ∈ [25] := by simpa using Array.mem_of_getElem? ht
  have hall : ([25].all fun u => !Tryd.prog.wantsStandIn u) = true := by kernel_rfl
  exact (show Tryd.prog.wantsStandIn t = false by simpa using List.all_eq_true.1 hall t hm)

theorem proved : Rows.FnSealCardSaid :=
  Claim7.holds_tied_plain_at .later [] _ _ _ _ said (fun _ h => by cases h) (by kernel_rfl) (fun _ h => by cases h) fnSeal_row_tie rfl ⟨rfl, rfl⟩ (by kernel_rfl) rfl plain (by kernel_rfl)
end Go.Proofs.YtgjnoleejbkddaaDoor.fnSeal

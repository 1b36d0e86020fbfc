/- Proved: for every code FnChain returns true: the message key with index n of a chain is that with index n - 1 of the chain that begins with the next chain key, and the program's keys are the specification's (codes of more than 2^20 bytes are passed over by the law itself). The package-level tables that the code reads are tied to the program's text. No further condition. -/
import Derived.Test.YtabomojhbfbgbaaDoorRows
import Derived.Test.YtabomojhbfbgbaaDoorCards
import Derived.Test.YtabomojhbfbgbaaDoorTie
import Derived.WalkKit
import Derived.ProofKit
import Derived.OpenShut
import Derived.ShutString
import Derived.ChangeOld
import Derived.ChangeVars
import Derived.OpenVars
import Derived.Below
import Derived.Deep.DeepHandedRow
import Derived.Lib.LaidTab
import Derived.Test.YtabomojhbfbgbaaDoorDraw0
import Derived.Test.YtabomojhbfbgbaaDoorKey
import Derived.Test.YtabomojhbfbgbaaDoorRdW
import Derived.Test.YtabomojhbfbgbaaDoorChn5
import Derived.Test.YtabomojhbfbgbaaDoorCardK
namespace Go.Proofs.YtabomojhbfbgbaaDoor.fnChain
open Go.ChangeShapes Go.WideShapes Go.ChangeAt Go.RowKit Go.My
open Go.ChangeMaps (open_string shut_string)
set_option linter.unusedVariables false

theorem own : ownKnob Tryd.prog.godebug = none := by kernel_rfl
theorem laidOut : laidOutB Tryd.prog = true := by kernel_rfl
theorem row_max {w : World} {a : Option Addr} {len cap : Nat} {zs : List Int} (h : IsRow .u8 w a len cap zs) : len ≤ 9223372036854775807 := by
  rcases h with ⟨_, rfl, _⟩ | ⟨x, _, h1, h2, _⟩
  · omega
  · unfold maxLen at h2; omega
theorem isE2 (a : ByteArray) : a.toList.isEmpty = decide (a.size = 0) := by
  rw [ByteArray.toList_eq, ← len_data]
  cases a.data.toList <;> simp
def DrawSI (N B : Nat) (w : World) (e : Ending) (w' : World) : Prop := ∃ (s : ByteArray) (n : Int), e = .returned (.tuple #[.string s, .int .i64 n]) ∧ s.size ≤ N ∧ Below B w w'

set_option maxHeartbeats 2000000 in
theorem draw_chain (B : Nat) (a : Option Addr) (len cap : Nat) (w : World) (hB : B ≤ w.heap.size) (h : RdCode B w a len) : Calls Tryd.prog 27 #[.slice a len cap] w (DrawSI 40 B w) := by
  go_enter Tryd.func27, Tryd.ntmps27
  go_wp2_with fail
  refine (open_any B a len cap _ hB h).mono ?_
  rintro e w1 ⟨rfl, hR1, hg1⟩
  have hb1 := below_none hg1 hB
  clear hg1
  go_wp2_with fail
  refine (once_any B _ _ _ hR1 (by omega) (by omega)).mono ?_
  rintro e w2 ⟨b, rfl, hR2, hg2⟩
  have hb2 := hb1.trans (grown_below hg2 hR1.1 hR1.2.1)
  clear hb1 hg2 hR1
  cases b
  case false =>
    go_wp2_with fail
    refine (key_any B _ _ hR2).mono ?_
    rintro e w3 ⟨s, rfl, hs, hR3, hg3⟩
    have hb3 := hb2.trans (grown_below hg3 hR2.1 hR2.2.1)
    clear hb2 hg3 hR2
    go_wp2_with fail
    refine (below_any B _ _ _ hR3 (by omega) (by omega)).mono ?_
    rintro e w4 ⟨n, rfl, hn0, hn1, hR4, hg4⟩
    have hb4 := hb3.trans (grown_below hg4 hR3.1 hR3.2.1)
    clear hb3 hg4 hR3
    go_wp2
    go_ret2
    exact ⟨s, _, rfl, hs, hb4⟩
  case true =>
    go_wp2_with fail
    refine (key_any B _ _ hR2).mono ?_
    rintro e w3 ⟨s, rfl, hs, hR3, hg3⟩
    have hb3 := hb2.trans (grown_below hg3 hR2.1 hR2.2.1)
    clear hb2 hg3 hR2
    go_wp2_with fail
    refine (off_any B _ _ _ _ hR3 (by omega) (by omega) (by omega)).mono ?_
    rintro e w4 ⟨n, rfl, hn0, hR4, hg4⟩
    have hb4 := hb3.trans (grown_below hg4 hR3.1 hR3.2.1)
    clear hb3 hg4 hR3
    go_wp2
    go_ret2
    exact ⟨s, _, rfl, hs, hb4⟩

set_option maxHeartbeats 4000000 in
theorem walk (w : World) (hk : TabK w) (a0 : Option Addr) (len0 cap0 : Nat) (z0 : List Int) (w0 : IsRow .u8 w a0 len0 cap0 z0) :
    Calls Tryd.prog 8 #[.slice a0 len0 cap0] w fun e w' => e = .returned (.bool true) ∧ Below w.heap.size w w' := by
  have hm0 := row_max w0
  by_cases hl : len0 ≤ 1048576
  case neg =>
    have hd : decide (1048576 < (len0 : Int)) = true := by simp; omega
    go_enter Tryd.func8, Tryd.ntmps8
    go_wp2_with fail
    refine (big_any _ _ _ _ hm0).mono ?_
    rintro e w' ⟨rfl, rfl⟩
    rw [hd]
    go_wp2
    go_ret
    exact ⟨rfl, Below.refl _ _⟩
  have hd : decide (1048576 < (len0 : Int)) = false := by simp; omega
  have hc := code_of_row w0 hl
  clear w0 hl
  go_enter Tryd.func8, Tryd.ntmps8
  go_wp2_with fail
  refine (big_any _ _ _ _ hm0).mono ?_
  rintro e w' ⟨rfl, rfl⟩
  rw [hd]
  clear hm0 hd
  go_wp2_with fail
  refine (draw_chain w.heap.size a0 len0 cap0 _ (Nat.le_refl _) hc).mono ?_
  rintro e w1 ⟨k, n, rfl, hks, hb1'⟩
  have hb1 := hb1'
  clear hb1'
  clear hc
  have HS := Lib.hid (show k.size ≤ 9223372036854775807 by omega)
  clear hks
  have HP := Lib.hid (fun w => chainKey_s k n w HS.out)
  have HI := Lib.hid (fun w h => chainKey_i k n w h HS.out)
  have HQ := Lib.hid (fun w => step_spec k w HS.out)
  have HJ := Lib.hid (fun w h => step_impl k w h HS.out)
  have hV : (∃ x y, stepV k = .tuple #[.string x, .string y] ∧ (k.size = 32 → x = nextS k ∧ y = nowS k)) := by
    by_cases h : k.size = 32
    · exact ⟨_, _, stepV_yes k h, fun _ => ⟨rfl, rfl⟩⟩
    · exact ⟨_, _, stepV_no k h, fun c => absurd c h⟩
  obtain ⟨x, y, hxy, hx⟩ := hV
  rw [hxy] at HQ HJ
  clear hxy
  by_cases hc : ChP k n
  case neg =>
    have hE : (chV k n).toList.isEmpty = true := by rw [chV_no hc, isE2]; rfl
    generalize chV k n = E at *
    clear hc hx
    go_wp2_with fail
    refine (HI.out _ (hk.below hb1 hk.1)).mono ?_
    rintro e w2 ⟨rfl, hb2'⟩
    have hb2 := hb1.trans (hb2'.mono hb1.size)
    clear hb2' hb1
    go_wp2_with fail
    refine (HJ.out _ (hk.below hb2 hk.1)).mono ?_
    rintro e w3 ⟨rfl, hb3'⟩
    have hb3 := hb2.trans (hb3'.mono hb2.size)
    clear hb3' hb2
    go_wp2_with fail
    refine (HQ.out _).mono ?_
    rintro e w4 ⟨rfl, hb4'⟩
    have hb4 := hb3.trans (hb4'.mono hb3.size)
    clear hb4' hb3
    go_wp2_with fail
    refine (HP.out _).mono ?_
    rintro e w5 ⟨rfl, hb5'⟩
    have hb5 := hb4.trans (hb5'.mono hb4.size)
    clear hb5' hb4
    go_wp2_with fail
    refine (HP.out _).mono ?_
    rintro e w6 ⟨rfl, hb6'⟩
    have hb6 := hb5.trans (hb6'.mono hb5.size)
    clear hb6' hb5
    go_wp2
    go_ret
    exact ⟨rfl, hb6⟩
  obtain ⟨rfl, rfl⟩ := hx hc.1
  have hE : (chV k n).toList.isEmpty = false := by rw [chV_yes hc, isE2, nowS_size]; rfl
  by_cases h0 : n = 0
  · subst h0
    have hv : chV k 0 = nowS k := chV_yes hc
    rw [hv] at HI HP hE
    generalize nowS k = Y at *
    generalize nextS k = X at *
    clear hc hx hv
    go_wp2_with fail
    refine (HI.out _ (hk.below hb1 hk.1)).mono ?_
    rintro e w2 ⟨rfl, hb2'⟩
    have hb2 := hb1.trans (hb2'.mono hb1.size)
    clear hb2' hb1
    go_wp2_with fail
    refine (HJ.out _ (hk.below hb2 hk.1)).mono ?_
    rintro e w3 ⟨rfl, hb3'⟩
    have hb3 := hb2.trans (hb3'.mono hb2.size)
    clear hb3' hb2
    go_wp2_with fail
    refine (HQ.out _).mono ?_
    rintro e w4 ⟨rfl, hb4'⟩
    have hb4 := hb3.trans (hb4'.mono hb3.size)
    clear hb4' hb3
    go_wp2_with fail
    refine (HP.out _).mono ?_
    rintro e w5 ⟨rfl, hb5'⟩
    have hb5 := hb4.trans (hb5'.mono hb4.size)
    clear hb5' hb4
    go_wp2
    go_ret
    exact ⟨rfl, hb5⟩
  · have hpos : 0 < n := by have := hc.2.1; omega
    have hle := hc.2.2
    have hw : IntKind.i64.wrap (n - 1) = n - 1 := by rw [IntKind.wrap_i64]; omega
    have HN := Lib.hid (fun w h => chainKey_i (nextS k) (n - 1) w h (by rw [nextS_size]; omega))
    have hv : chV (nextS k) (n - 1) = chV k n := by
      rw [chV_yes hc, chV_yes (show ChP (nextS k) (n - 1) from ⟨nextS_size k, by omega, by omega⟩), keyS_shift]
      congr 2
      omega
    rw [hv] at HN
    generalize chV k n = V at *
    generalize nowS k = Y at *
    generalize nextS k = X at *
    have h0' : (n == 0) = false := by simpa using h0
    clear hc hx hv
    go_wp2_with fail
    refine (HI.out _ (hk.below hb1 hk.1)).mono ?_
    rintro e w2 ⟨rfl, hb2'⟩
    have hb2 := hb1.trans (hb2'.mono hb1.size)
    clear hb2' hb1
    go_wp2_with fail
    refine (HJ.out _ (hk.below hb2 hk.1)).mono ?_
    rintro e w3 ⟨rfl, hb3'⟩
    have hb3 := hb2.trans (hb3'.mono hb2.size)
    clear hb3' hb2
    go_wp2_with fail
    refine (HQ.out _).mono ?_
    rintro e w4 ⟨rfl, hb4'⟩
    have hb4 := hb3.trans (hb4'.mono hb3.size)
    clear hb4' hb3
    go_wp2_with fail
    refine (HP.out _).mono ?_
    rintro e w5 ⟨rfl, hb5'⟩
    have hb5 := hb4.trans (hb5'.mono hb4.size)
    clear hb5' hb4
    go_wp2_with fail
    refine (HN.out _ (hk.below hb5 hk.1)).mono ?_
    rintro e w6 ⟨rfl, hb6'⟩
    have hb6 := hb5.trans (hb6'.mono hb5.size)
    clear hb6' hb5
    go_wp2
    go_ret
    exact ⟨rfl, hb6⟩

set_option maxRecDepth 100000 in
theorem lifted (os : Os) (started : os.Started) (H : Type) (enc : TypeId × Value → H) (F : Stop.Interp) :
    ReturnsInHanded {} Tryd.checked os 8 .any ((OpenSpec.ofChange Rows.fnChainSpec).preRow enc Tryd.prog Tryd.f8 Rows.fnChainRow.domain false Rows.fnChainRow.laid) (((OpenSpec.ofChange Rows.fnChainSpec).at F).post enc Tryd.prog Tryd.f8 false true false false) := by
  refine returnsInHanded_of_row (C := Tryd.checked) (s := OpenSpec.ofChange Rows.fnChainSpec) own started (by kernel_rfl) Tryd.func8
    (witness_row_at (enc := enc) (C := Tryd.checked) false (laidWorldK os) #[.slice none 0 0] rfl (by kernel_rfl) (by kernel_rfl) (by kernel_rfl)
      (OpenSpec.preRow_of_B rfl 8 (by kernel_rfl) (by kernel_rfl) (laid_metK os #[.slice none 0 0]))) ?_
  intro W base args ds gs before hval0 hW _ _ _ hL _ _
  have hval : ∀ (j : Nat) t v, Tryd.f8.params[j]? = some t → args[j]? = some v → Value.okWide Tryd.prog W .any base t v := hval0
  have hW' := hW
  obtain ⟨p, q, hA0, hV, rfl, hfz, hnd⟩ := hW
  have hA : DataW.TrodAll enc Tryd.prog W 0 (fun _ => true) true Tryd.f8.params.toList args.toList ds p := hA0
  rw [Tryd.params8] at hA hval
  obtain ⟨v0, vs0, d0, ds0, p0, q0, hargs, rfl, rfl, h0, r0⟩ := trodAll_cons hA
  obtain ⟨rfl, rfl, rfl⟩ := trodAll_nil r0
  obtain rfl : args = #[v0] := by cases args; simp_all
  have hVV := hV
  obtain ⟨_, _, _, _, dv, _, rfl, _⟩ := trodVars_one hV
  obtain ⟨a0, len0, cap0, rfl⟩ := okWide_slice Tryd.underlying22 (hval 0 22 v0 rfl rfl)
  have k0 := h0
  have lt0 : ∀ x ∈ p0, x.block < W.heap.size := by obtain ⟨m, hm⟩ := k0; exact DataW.trod_lt m _ _ _ hm
  obtain ⟨z0, w0⟩ : ∃ zs, My.IsRow .u8 W a0 len0 cap0 zs := by
    obtain ⟨fuel, hf⟩ := h0
    rcases open_ints Tryd.underlying22 Tryd.underlying5 (by kernel_rfl) hf with ⟨hcs, _⟩ | ⟨x, l, c, zs, hcs, _, hl, hm, hz, _, hcell, hwz⟩
    · simp [Value.cells] at hcs
      obtain ⟨rfl, rfl, rfl⟩ := hcs
      exact ⟨[], .inl ⟨rfl, rfl, rfl, rfl⟩⟩
    · simp [Value.cells] at hcs
      obtain ⟨rfl, rfl, rfl⟩ := hcs
      exact ⟨zs, .inr ⟨_, rfl, hl, hm, by simpa using hz, hcell, hwz⟩⟩
  clear hA0 hval0
  refine (walk W (tab_ofK hL) a0 len0 cap0 z0 w0).mono fun e W' ⟨he, bel⟩ => ?_
  subst he
  exact ⟨_, rfl, _, _, _, [], _, _, hW', trodAll_mk1 (shut_bool Tryd.underlying4 _), (trodAll_cons_mk (Below.trod laidOut (by kernel_rfl) (of_decide_eq_true (by kernel_rfl)) k0 bel lt0) trodAll_mk0), Below.trodVars laidOut bel (by kernel_rfl) hVV, bel.frame _, fun h => by cases h⟩

theorem said : Rows.FnChainSaid :=
  OpenClaim.holds_of_cond 8 Tryd.f8 rfl rfl rfl rfl rfl rfl rfl ⟨rfl, rfl, rfl, rfl, rfl⟩ rfl rfl rfl rfl rfl (by kernel_rfl) Tryd.func8 (by kernel_rfl)
    (of_decide_eq_true (by kernel_rfl)) (by unfold Func.isWrapper; first | (rw [if_pos (by decide +kernel)]; kernel_rfl) | (rw [if_neg (by decide +kernel)]; exact ⟨rfl, rfl⟩))
    (fun os started H enc _ F => by rw [OpenClaim.pre_eq_preRow]; exact lifted os started H enc F)

theorem plain (f : FuncId) (fn : Func) (hf : Tryd.pinned.checked.prog.funcNamed "loop.example/g00702/laws.FnChain" = some f) (hfn : Tryd.pinned.checked.prog.funcs[f]? = some fn) :
    false = Tryd.pinned.checked.prog.looks [] ∧ ∀ (j : Nat) t, fn.params[j]? = some t → Tryd.pinned.checked.prog.wantsStandIn t = false := by
  obtain rfl : f = 8 := Option.some.inj ((show Tryd.prog.funcNamed "loop.example/g00702/laws.FnChain" = some 8 by kernel_rfl).symm.trans hf) |>.symm
  obtain rfl : fn = Tryd.f8 := (Option.some.inj (Tryd.func8.symm.trans hfn)).symm
  refine ⟨by kernel_rfl, fun j t ht => ?_⟩
  rw [Tryd.params8] at ht
  have hm : t ∈ [22] := by simpa using Array.mem_of_getElem? ht
  have hall : ([22].all fun u => !Tryd.prog.wantsStandIn u) = true := by kernel_rfl
  exact (show Tryd.prog.wantsStandIn t = false by simpa using List.all_eq_true.1 hall t hm)

theorem proved : Rows.FnChainCardSaid :=
  Claim7.holds_tied_plain_at .later [] _ _ _ _ said (fun _ h => by cases h) (by kernel_rfl) (fun _ h => by cases h) fnChain_row_tie rfl ⟨rfl, rfl⟩ (by kernel_rfl) rfl plain (by kernel_rfl)
end Go.Proofs.YtabomojhbfbgbaaDoor.fnChain

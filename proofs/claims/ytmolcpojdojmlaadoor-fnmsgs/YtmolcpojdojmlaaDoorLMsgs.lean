/- Proved: for every code FnMsgs returns true: of whatever message and bytes are drawn from it, the program's MsgBytes and ReadMsg are the specification's; a message is recovered from its bytes, what is read and encoded again is unchanged, and the bytes begin with those of its head (codes of more than 2^20 bytes are passed over by the law itself). The package-level variable that the code reads is tied to the program's text. No further condition. -/
import Derived.Test.YtmolcpojdojmlaaDoorRows
import Derived.Test.YtmolcpojdojmlaaDoorCards
import Derived.Test.YtmolcpojdojmlaaDoorTie
import Derived.WalkKit
import Derived.ProofKit
import Derived.OpenShut
import Derived.ShutString
import Derived.ChangeOld
import Derived.ChangeVars
import Derived.OpenVars
import Derived.Below
import Derived.Deep.DeepHandedRow
import Derived.Lib.LaidTab
import Derived.Test.YtmolcpojdojmlaaDoorDrawR
import Derived.Test.YtmolcpojdojmlaaDoorRdM8w
import Derived.Test.YtmolcpojdojmlaaDoorCardE
import Derived.Deep.RegionHeld3
namespace Go.Proofs.YtmolcpojdojmlaaDoor.fnMsgs
open Go.ChangeShapes Go.WideShapes Go.ChangeAt Go.RowKit Go.My
open Go.ChangeMaps (open_string shut_string)
set_option linter.unusedVariables false
set_option maxRecDepth 100000

theorem own : ownKnob Tryd.prog.godebug = none := by kernel_rfl
theorem laidOut : laidOutB Tryd.prog = true := by kernel_rfl
set_option maxHeartbeats 8000000 in
theorem walk (w : World) (hk : ∃ T v, TabE T v w) (a0 : Option Addr) (len0 cap0 : Nat) (z0 : List Int) (w0 : IsRow .u8 w a0 len0 cap0 z0) :
    Calls Tryd.prog 4 #[.slice a0 len0 cap0] w fun e w' => e = .returned (.bool true) ∧ Below w.heap.size w w' := by
  obtain ⟨ET, ev, hE⟩ := hk
  have hmax : len0 ≤ 9223372036854775807 := by
    rcases w0 with ⟨_, rfl, _⟩ | ⟨x, _, h1, h2, _⟩
    · omega
    · unfold maxLen at h2; omega
  by_cases hl : len0 ≤ 1048576
  case neg =>
    have hd : decide (1048576 < (len0 : Int)) = true := by simp; omega
    clear hE
    go_enter Tryd.func4, Tryd.ntmps4
    go_wp2_with fail
    refine (big_any _ _ _ _ hmax).mono ?_
    rintro e w' ⟨rfl, rfl⟩
    rw [hd]
    go_wp2
    go_ret
    exact ⟨rfl, Below.refl _ _⟩
  have hd : decide (1048576 < (len0 : Int)) = false := by simp; omega
  have hc := code_of_row w0 hl
  have HE := Lib.hid (fun w1 (h : Below w.heap.size w w1) => TabE.below h hE)
  have HC := Lib.hid (fun w1 (h : Below w.heap.size w w1) => (hc.below h).wide h.size)
  clear w0 hl hE
  go_enter Tryd.func4, Tryd.ntmps4
  go_wp2_with fail
  refine (big_any _ _ _ _ hmax).mono ?_
  rintro e w' ⟨rfl, rfl⟩
  rw [hd]
  clear hd hmax
  go_wp2_with fail
  refine (draw_msg w.heap.size a0 len0 cap0 _ (Nat.le_refl _) hc).mono ?_
  rintro e w1 ⟨p, a, b, x, rfl, ⟨hp, wfa, wfb, hx⟩, hb1'⟩
  have hb1 := hb1'
  clear hb1'
  clear hc
  have hbA := hb1.alloc hb1.size (.cells (msgA p a b x) 27)
  go_wp2_with fail
  refine (msgBytes_i p a b x _ (by omega) (by omega)).mono ?_
  rintro e w2 ⟨rfl, hx2⟩
  have bm := BlkAt.below hx2 (BlkAt.box w1 (msgA p a b x) 27)
  have hb2 := hbA.trans (hx2.mono (by have := hb1.size; simp <;> omega))
  clear hx2 hbA hb1
  generalize w1.heap.size = km at *
  have SB := Lib.hid (fun w => msgBytes_s p a b x w (by omega) (by omega))
  have hVs := msgV_size p a b x
  have RV := Lib.hid (rdM_msgV p a b x)
  have EMP : Hid (¬ MsgP p a b x → (msgV p a b x).toList = []) := Lib.hid (fun h => by rw [msgV_no h, ByteArray.toList_eq])
  have HH := Lib.hid (fun w => headBytes_i p a b w (by omega))
  have RB := Lib.hid (fun w h => readMsg_i (msgV p a b x) w ET ev h (by omega))
  generalize msgV p a b x = s at *
  go_wp2_with fail
  refine (draw_readMsg w2.heap.size a0 len0 cap0 w2 (Nat.le_refl _) (HC.out _ hb2)).mono ?_
  rintro e w3 ⟨t, rfl, hts, hx3⟩
  have bm := BlkAt.below hx3 bm
  have hb3 := hb2.trans (hx3.mono hb2.size)
  clear hx3 hb2
  obtain ⟨p2, a2, b2, x2, ht2⟩ := rdMA_four t
  have I3 := Lib.hid (fun w h => readMsg_i t w ET ev h (by omega))
  have S3 := Lib.hid (fun w => readMsg_s t w (by omega))
  have BK : Hid (RdMP t → msgV p2 a2 b2 x2 = t) := Lib.hid (fun h => msgV_rd h ht2)
  have HSZ : p2.size ≤ 1048576 ∧ x2.size ≤ 1048576 := by
    by_cases h : RdMP t
    · rw [rdMA_yes h] at ht2
      obtain ⟨rfl, _, _, rfl⟩ := msgA_inj ht2
      have := h.1
      exact ⟨by rw [cut_size _ _ _ (by omega)]; omega, by rw [cut_size _ _ _ (Nat.le_refl _)]; omega⟩
    · rw [rdMA_no h] at ht2
      obtain ⟨rfl, _, _, rfl⟩ := msgA_inj ht2
      exact ⟨Nat.zero_le _, Nat.zero_le _⟩
  have B2 := Lib.hid (fun w => msgBytes_i p2 a2 b2 x2 w (by omega) (by omega))
  rw [ht2] at I3 S3
  clear ht2 HSZ
  go_wp2_with fail
  refine (I3.out _ (HE.out _ hb3)).mono ?_
  rintro e w4 ⟨rfl, hx4⟩
  have bm := BlkAt.below hx4 bm
  have hb4 := hb3.trans (hx4.mono hb3.size)
  clear hx4 hb3
  go_wp2_with fail
  refine (S3.out _).mono ?_
  rintro e w5 ⟨rfl, hx5⟩
  have bm := BlkAt.below hx5 (bm.past (.cells (msgA p2 a2 b2 x2) 27))
  have bx := BlkAt.below hx5 (BlkAt.box w4 (msgA p2 a2 b2 x2) 27)
  have hb5 := (hb4.alloc hb4.size (.cells (msgA p2 a2 b2 x2) 27)).trans (hx5.mono (by have := hb4.size; simp <;> omega))
  clear hx5 hb4
  generalize w4.heap.size = kx at *
  have bm0 := bm
  have bx0 := bx
  have lm := bm.lt
  have lx := bx.lt
  have bm := bm.past (.cells (msgA p2 a2 b2 x2) 27)
  have bx := bx.past (.cells (msgA p2 a2 b2 x2) 27)
  have by0 := BlkAt.box w5 (msgA p2 a2 b2 x2) 27
  have hb5y := hb5.alloc hb5.size (.cells (msgA p2 a2 b2 x2) 27)
  have m0 := bm0.cell (j := 0) rfl
  have m1 := bm0.cell (j := 1) rfl
  have m2 := bm0.cell (j := 2) rfl
  have m3 := bm0.cell (j := 3) rfl
  have n0 := bm.cell (j := 0) rfl
  have n1 := bm.cell (j := 1) rfl
  have n2 := bm.cell (j := 2) rfl
  have n3 := bm.cell (j := 3) rfl
  go_wp2_with fail
  refine (SB.out _).mono ?_
  rintro e w6 ⟨rfl, hx6⟩
  have bm := BlkAt.below hx6 bm
  have bx := BlkAt.below hx6 bx
  have by6 := BlkAt.below hx6 by0
  have hb6 := hb5y.trans (hx6.mono (by have := hb5.size; simp <;> omega))
  clear hx6 hb5 hb5y bm0 bx0 by0 lm lx m0 m1 m2 m3 n0 n1 n2 n3 SB S3 I3
  generalize w5.heap.size = ky at *
  have c0 := bx.cell (j := 0) rfl
  have c1 := bx.cell (j := 1) rfl
  have c2 := bx.cell (j := 2) rfl
  have c3 := bx.cell (j := 3) rfl
  have d0 := by6.cell (j := 0) rfl
  have d1 := by6.cell (j := 1) rfl
  have d2 := by6.cell (j := 2) rfl
  have d3 := by6.cell (j := 3) rfl
  by_cases hR : RdMP t
  · have e := BK.out hR
    rw [e] at B2
    rw [decide_eq_true hR] at *
    clear BK e hR
    go_wp2_with fail
    refine (B2.out _).mono ?_
    rintro e w7 ⟨rfl, hx7⟩
    have bm := BlkAt.below hx7 bm
    have hb7 := hb6.trans (hx7.mono hb6.size)
    clear hx7 hb6 bx by6 c0 c1 c2 c3 d0 d1 d2 d3 B2
    by_cases hP : MsgP p a b x
    · have hR := RV.out.1.2 hP
      obtain ⟨e1, e2, e3⟩ := RV.out.2 hP
      rw [e1, decide_eq_true hR] at RB
      have h36 : 36 ≤ s.size := by have := hR.1; omega
      have h36i : (36 : Int) ≤ (s.size : Int) := by omega
      have e2x : s.extract 0 36 = headV p a b := e2
      have he : s.toList.isEmpty = false := by rw [isE', decide_eq_false e3]
      have he2 : ¬ s.toList = [] := fun e => by rw [e] at he; cases he
      clear RV e1 e3 hR hP e2 h36
      go_wp2_with fail
      refine (RB.out _ (HE.out _ hb7)).mono ?_
      rintro e w8 ⟨rfl, hx8⟩
      have bm := BlkAt.below hx8 bm
      have hb8 := hb7.trans (hx8.mono hb7.size)
      clear hx8
      have bm0 := bm
      have lm := bm.lt
      have bm := bm.past (.cells (msgA p a b x) 27)
      have bz := BlkAt.box w8 (msgA p a b x) 27
      have hb9 := hb8.alloc hb8.size (.cells (msgA p a b x) 27)
      have m0 := bm0.cell (j := 0) rfl
      have n0 := bm.cell (j := 0) rfl
      have z0 := bz.cell (j := 0) rfl
      have m1 := bm0.cell (j := 1) rfl
      have n1 := bm.cell (j := 1) rfl
      have z1 := bz.cell (j := 1) rfl
      have m2 := bm0.cell (j := 2) rfl
      have n2 := bm.cell (j := 2) rfl
      have z2 := bz.cell (j := 2) rfl
      have m3 := bm0.cell (j := 3) rfl
      have n3 := bm.cell (j := 3) rfl
      have z3 := bz.cell (j := 3) rfl
      go_wp2_with fail
      go_region_held3 (fun w' => w'.cell? ⟨km, 0, none⟩ = some (.string p) ∧ w'.cell? ⟨km, 1, none⟩ = some (.int .i64 a) ∧ w'.cell? ⟨km, 2, none⟩ = some (.int .i64 b) ∧ w'.cell? ⟨km, 3, none⟩ = some (.string x) ∧ w'.cell? ⟨w8.heap.size, 0, none⟩ = some (.string p) ∧ w'.cell? ⟨w8.heap.size, 1, none⟩ = some (.int .i64 a) ∧ w'.cell? ⟨w8.heap.size, 2, none⟩ = some (.int .i64 b) ∧ w'.cell? ⟨w8.heap.size, 3, none⟩ = some (.string x)) (first | exact ⟨n0, n1, n2, n3, z0, z1, z2, z3⟩) (first
        | (go_at_call 16; refine (HH.out _).mono ?_; rintro e wq ⟨rfl, hbq⟩; have bm := BlkAt.below hbq (by exact bm); have bz := BlkAt.below hbq (by exact bz); have hb9 := below_next hbq (by first | exact hb9 | exact hb9.drew) (by first | exact hb9.size); have n0 := bm.cell (j := 0) rfl; have n1 := bm.cell (j := 1) rfl; have n2 := bm.cell (j := 2) rfl; have n3 := bm.cell (j := 3) rfl; have z0 := bz.cell (j := 0) rfl; have z1 := bz.cell (j := 1) rfl; have z2 := bz.cell (j := 2) rfl; have z3 := bz.cell (j := 3) rfl))
      all_goals (try go_wp2)
      all_goals
        go_ret
        exact ⟨rfl, by first | exact hb9 | exact hb9.drew⟩
    · have hR : ¬ RdMP s := fun c => hP (RV.out.1.1 c)
      have hz : s.toList = [] := EMP.out hP
      have hze : s.toList.isEmpty = true := by rw [hz]; rfl
      rw [rdMA_no hR, decide_eq_false hR] at RB
      clear RV hR hP
      go_wp2_with fail
      refine (RB.out _ (HE.out _ hb7)).mono ?_
      rintro e w8 ⟨rfl, hx8⟩
      have hb8 := hb7.trans (hx8.mono hb7.size)
      have hb9 := hb8.alloc hb8.size (.cells zeroM 27)
      go_wp2_with fail
      go_big_region
      all_goals (try go_wp2)
      all_goals
        go_ret
        exact ⟨rfl, by first | exact hb9 | exact hb9.drew⟩
  · rw [decide_eq_false hR] at *
    clear BK hR B2
    by_cases hP : MsgP p a b x
    · have hR := RV.out.1.2 hP
      obtain ⟨e1, e2, e3⟩ := RV.out.2 hP
      rw [e1, decide_eq_true hR] at RB
      have h36 : 36 ≤ s.size := by have := hR.1; omega
      have h36i : (36 : Int) ≤ (s.size : Int) := by omega
      have e2x : s.extract 0 36 = headV p a b := e2
      have he : s.toList.isEmpty = false := by rw [isE', decide_eq_false e3]
      have he2 : ¬ s.toList = [] := fun e => by rw [e] at he; cases he
      clear RV e1 e3 hR hP e2 h36
      go_wp2_with fail
      refine (RB.out _ (HE.out _ hb6)).mono ?_
      rintro e w8 ⟨rfl, hx8⟩
      have bm := BlkAt.below hx8 bm
      have hb8 := hb6.trans (hx8.mono hb6.size)
      clear hx8
      have bm0 := bm
      have lm := bm.lt
      have bm := bm.past (.cells (msgA p a b x) 27)
      have bz := BlkAt.box w8 (msgA p a b x) 27
      have hb9 := hb8.alloc hb8.size (.cells (msgA p a b x) 27)
      have m0 := bm0.cell (j := 0) rfl
      have n0 := bm.cell (j := 0) rfl
      have z0 := bz.cell (j := 0) rfl
      have m1 := bm0.cell (j := 1) rfl
      have n1 := bm.cell (j := 1) rfl
      have z1 := bz.cell (j := 1) rfl
      have m2 := bm0.cell (j := 2) rfl
      have n2 := bm.cell (j := 2) rfl
      have z2 := bz.cell (j := 2) rfl
      have m3 := bm0.cell (j := 3) rfl
      have n3 := bm.cell (j := 3) rfl
      have z3 := bz.cell (j := 3) rfl
      go_wp2_with fail
      go_region_held3 (fun w' => w'.cell? ⟨km, 0, none⟩ = some (.string p) ∧ w'.cell? ⟨km, 1, none⟩ = some (.int .i64 a) ∧ w'.cell? ⟨km, 2, none⟩ = some (.int .i64 b) ∧ w'.cell? ⟨km, 3, none⟩ = some (.string x) ∧ w'.cell? ⟨w8.heap.size, 0, none⟩ = some (.string p) ∧ w'.cell? ⟨w8.heap.size, 1, none⟩ = some (.int .i64 a) ∧ w'.cell? ⟨w8.heap.size, 2, none⟩ = some (.int .i64 b) ∧ w'.cell? ⟨w8.heap.size, 3, none⟩ = some (.string x)) (first | exact ⟨n0, n1, n2, n3, z0, z1, z2, z3⟩) (first
        | (go_at_call 16; refine (HH.out _).mono ?_; rintro e wq ⟨rfl, hbq⟩; have bm := BlkAt.below hbq (by exact bm); have bz := BlkAt.below hbq (by exact bz); have hb9 := below_next hbq (by first | exact hb9 | exact hb9.drew) (by first | exact hb9.size); have n0 := bm.cell (j := 0) rfl; have n1 := bm.cell (j := 1) rfl; have n2 := bm.cell (j := 2) rfl; have n3 := bm.cell (j := 3) rfl; have z0 := bz.cell (j := 0) rfl; have z1 := bz.cell (j := 1) rfl; have z2 := bz.cell (j := 2) rfl; have z3 := bz.cell (j := 3) rfl))
      all_goals (try go_wp2)
      all_goals
        go_ret
        exact ⟨rfl, by first | exact hb9 | exact hb9.drew⟩
    · have hR : ¬ RdMP s := fun c => hP (RV.out.1.1 c)
      have hz : s.toList = [] := EMP.out hP
      have hze : s.toList.isEmpty = true := by rw [hz]; rfl
      rw [rdMA_no hR, decide_eq_false hR] at RB
      clear RV hR hP
      go_wp2_with fail
      refine (RB.out _ (HE.out _ hb6)).mono ?_
      rintro e w8 ⟨rfl, hx8⟩
      have hb8 := hb6.trans (hx8.mono hb6.size)
      have hb9 := hb8.alloc hb8.size (.cells zeroM 27)
      go_wp2_with fail
      go_big_region
      all_goals (try go_wp2)
      all_goals
        go_ret
        exact ⟨rfl, by first | exact hb9 | exact hb9.drew⟩

set_option maxRecDepth 100000 in
theorem lifted (os : Os) (started : os.Started) (H : Type) (enc : TypeId × Value → H) (F : Stop.Interp) :
    ReturnsInHanded {} Tryd.checked os 4 .any ((OpenSpec.ofChange Rows.fnMsgsSpec).preRow enc Tryd.prog Tryd.f4 Rows.fnMsgsRow.domain false Rows.fnMsgsRow.laid) (((OpenSpec.ofChange Rows.fnMsgsSpec).at F).post enc Tryd.prog Tryd.f4 false true false false) := by
  refine returnsInHanded_of_row (C := Tryd.checked) (s := OpenSpec.ofChange Rows.fnMsgsSpec) own started (by kernel_rfl) Tryd.func4
    (witness_row_at (enc := enc) (C := Tryd.checked) false (laidWorldE os) #[.slice none 0 0] rfl (by kernel_rfl) (by kernel_rfl) (by kernel_rfl)
      (OpenSpec.preRow_of_B rfl 8 (by kernel_rfl) (by kernel_rfl) (laid_metE os #[.slice none 0 0]))) ?_
  intro W base args ds gs before hval0 hW _ _ _ hL _ _
  have hval : ∀ (j : Nat) t v, Tryd.f4.params[j]? = some t → args[j]? = some v → Value.okWide Tryd.prog W .any base t v := hval0
  have hW' := hW
  obtain ⟨p, q, hA0, hV, rfl, hfz, hnd⟩ := hW
  have hA : DataW.TrodAll enc Tryd.prog W 0 (fun _ => true) true Tryd.f4.params.toList args.toList ds p := hA0
  rw [Tryd.params4] at hA hval
  obtain ⟨v0, vs0, d0, ds0, p0, q0, hargs, rfl, rfl, h0, r0⟩ := trodAll_cons hA
  obtain ⟨rfl, rfl, rfl⟩ := trodAll_nil r0
  obtain rfl : args = #[v0] := by cases args; simp_all
  have hVV := hV
  obtain ⟨_, _, _, _, dv, _, rfl, _⟩ := trodVars_one hV
  obtain ⟨a0, len0, cap0, rfl⟩ := okWide_slice Tryd.underlying34 (hval 0 34 v0 rfl rfl)
  have k0 := h0
  have lt0 : ∀ x ∈ p0, x.block < W.heap.size := by obtain ⟨m, hm⟩ := k0; exact DataW.trod_lt m _ _ _ hm
  obtain ⟨z0, w0⟩ : ∃ zs, My.IsRow .u8 W a0 len0 cap0 zs := by
    obtain ⟨fuel, hf⟩ := h0
    rcases open_ints Tryd.underlying34 Tryd.underlying5 (by kernel_rfl) hf with ⟨hcs, _⟩ | ⟨x, l, c, zs, hcs, _, hl, hm, hz, _, hcell, hwz⟩
    · simp [Value.cells] at hcs
      obtain ⟨rfl, rfl, rfl⟩ := hcs
      exact ⟨[], .inl ⟨rfl, rfl, rfl, rfl⟩⟩
    · simp [Value.cells] at hcs
      obtain ⟨rfl, rfl, rfl⟩ := hcs
      exact ⟨zs, .inr ⟨_, rfl, hl, hm, by simpa using hz, hcell, hwz⟩⟩
  clear hA0 hval0
  refine (walk W (tab_ofE hL) a0 len0 cap0 z0 w0).mono fun e W' ⟨he, bel⟩ => ?_
  subst he
  exact ⟨_, rfl, _, _, _, [], _, _, hW', trodAll_mk1 (shut_bool Tryd.underlying4 _), (trodAll_cons_mk (Below.trod laidOut (by kernel_rfl) (of_decide_eq_true (by kernel_rfl)) k0 bel lt0) trodAll_mk0), Below.trodVars laidOut bel (by kernel_rfl) hVV, bel.frame _, fun h => by cases h⟩

theorem said : Rows.FnMsgsSaid :=
  OpenClaim.holds_of_cond 4 Tryd.f4 rfl rfl rfl rfl rfl rfl rfl ⟨rfl, rfl, rfl, rfl, rfl⟩ rfl rfl rfl rfl rfl (by kernel_rfl) Tryd.func4 (by kernel_rfl)
    (of_decide_eq_true (by kernel_rfl)) (by unfold Func.isWrapper; first | (rw [if_pos (by decide +kernel)]; kernel_rfl) | (rw [if_neg (by decide +kernel)]; exact ⟨rfl, rfl⟩))
    (fun os started H enc _ F => by rw [OpenClaim.pre_eq_preRow]; exact lifted os started H enc F)

theorem plain (f : FuncId) (fn : Func) (hf : Tryd.pinned.checked.prog.funcNamed "loop.example/g00702/laws.FnMsgs" = some f) (hfn : Tryd.pinned.checked.prog.funcs[f]? = some fn) :
    false = Tryd.pinned.checked.prog.looks [] ∧ ∀ (j : Nat) t, fn.params[j]? = some t → Tryd.pinned.checked.prog.wantsStandIn t = false := by
  obtain rfl : f = 4 := Option.some.inj ((show Tryd.prog.funcNamed "loop.example/g00702/laws.FnMsgs" = some 4 by kernel_rfl).symm.trans hf) |>.symm
  obtain rfl : fn = Tryd.f4 := (Option.some.inj (Tryd.func4.symm.trans hfn)).symm
  refine ⟨by kernel_rfl, fun j t ht => ?_⟩
  rw [Tryd.params4] at ht
  have hm : t ∈ [34] := by simpa using Array.mem_of_getElem? ht
  have hall : ([34].all fun u => !Tryd.prog.wantsStandIn u) = true := by kernel_rfl
  exact (show Tryd.prog.wantsStandIn t = false by simpa using List.all_eq_true.1 hall t hm)

theorem proved : Rows.FnMsgsCardSaid :=
  Claim7.holds_tied_plain_at .later [] _ _ _ _ said (fun _ h => by cases h) (by kernel_rfl) (fun _ h => by cases h) fnMsgs_row_tie rfl ⟨rfl, rfl⟩ (by kernel_rfl) rfl plain (by kernel_rfl)
end Go.Proofs.YtmolcpojdojmlaaDoor.fnMsgs

/- Proved: for every argument FnExactDeviceOk returns true: the program finds a device right exactly where the specification does, and leaves it as it was (devices of more than 2^20 in all are passed over by the law itself). No condition. -/
import Derived.Test.YtkglgficmealnaaRows
import Derived.WalkKit
import Derived.ProofKit
import Derived.OpenShut
import Derived.ShutString
import Derived.ChangeOld
import Derived.Below
import Derived.Test.YtkglgficmealnaaMrgB
import Derived.Test.YtkglgficmealnaaRegJ
namespace Go.Proofs.Ytkglgficmealnaa.fnExactDeviceOk
open Go.ChangeShapes Go.WideShapes Go.ChangeAt Go.RowKit Go.My Go.Lib
set_option linter.unusedVariables false

theorem own : ownKnob Try.prog.godebug = none := by kernel_rfl
theorem laidOut : laidOutB Try.prog = true := by kernel_rfl
structure EqD (W1 : World) (a x : DevT) (f : Nat → Value) (L : Nat → Bool) (w : World) : Prop where
  G : Below W1.heap.size W1 w
  f0 : L 0 = true → f 0 = .agg (devC x).toArray
  f1 : L 1 = true → f 1 = .agg (devC a).toArray
  f2 : L 2 = true → ∃ y, f 2 = .agg (devC y).toArray ∧ devG y = devG a ∧ devQ 0 y w
  f3 : L 3 = true → f 3 = .bool true
  f4 : L 4 = true → f 4 = .bool false
theorem EqD.grow {W1 : World} {a x : DevT} {f : Nat → Value} {L : Nat → Bool} {w w' : World} (h : EqD W1 a x f L w) (hb : Below w.heap.size w w') : EqD W1 a x f L w' := ⟨h.G.trans (hb.mono h.G.size), h.f0, h.f1, (fun c => by obtain ⟨y, e, g, q⟩ := h.f2 c; exact ⟨y, e, g, q.below hb⟩), h.f3, h.f4⟩
theorem cfToDev (args : Array Value) (w : World) : (callFunc 19 args).run Try.prog w = .ok (.enter 19 args) w := cf_of Try.func19 (by kernel_rfl) (by kernel_rfl) args w
theorem cfEqDev (args : Array Value) (w : World) : (callFunc 21 args).run Try.prog w = .ok (.enter 21 args) w := cf_of Try.func21 (by kernel_rfl) (by kernel_rfl) args w
theorem szDI (a : DevT) : (Try.prog.info? 47).map (·.size) = some (devC a).length := by kernel_rfl
theorem szDL (a : DevT) : (Try.prog.info? 40).map (·.size) = some (devC a).length := by kernel_rfl
theorem devR {W : World} {g : Nat} {a : DevT} {T : TypeId} (h : W.heap[g]? = some (.cells (devC a).toArray T (0, 0))) : W.rangeAt g 0 (devC a) := range_of_row h (fun j v hj => by rw [Nat.zero_add]; simpa using hj)

set_option maxRecDepth 100000 in
set_option maxHeartbeats 8000000 in
theorem walk (w : World) (a : DevT) (h : devA a w) :
    Calls Try.prog 5 #[.agg (devC a).toArray] w fun e w' => e = .returned (.bool true) ∧ Below w.heap.size w w' := by
  have H := Lib.hid h
  have CZ := Lib.hid (fun W (hW : Below w.heap.size w W) => (szDevice_c a 1048576 W (H.out.below hW) (Nat.le_refl _) : Calls Try.prog 17 #[.agg (devC a).toArray, .int .i64 1048576] W _))
  have CT := Lib.hid (fun (hM : devM a) W (hW : Below w.heap.size w W) => toDevice_c a W (H.out.below hW) hM)
  obtain ⟨i, us, ik, ip, sk, sp, vo, ones, vp, peers⟩ := a
  obtain ⟨po, co, eo⟩ : ∃ po co, vo = .slice po ones.length co := by obtain ⟨p, c, e, _⟩ := h.1; exact ⟨p, c, e⟩
  obtain ⟨pp, cp, ep⟩ : ∃ po co, vp = .slice po peers.length co := by obtain ⟨p, c, e, _⟩ := h.2.2.1; exact ⟨p, c, e⟩
  subst eo ep
  show Calls _ _ #[.agg #[.int .i64 i, .int .i64 us, .string ik, .string ip, .string sk, .string sp, .slice po ones.length co, .slice pp peers.length cp]] _ _
  have hb0 : Below w.heap.size w (w.alloc (.cells #[.int .i64 i, .int .i64 us, .string ik, .string ip, .string sk, .string sp, .slice po ones.length co, .slice pp peers.length cp] 40)) := below_box w _
  have HB := Lib.hid hb0
  have HA := Lib.hid (heap_alloc_new w (.cells #[.int .i64 i, .int .i64 us, .string ik, .string ip, .string sk, .string sp, .slice po ones.length co, .slice pp peers.length cp] 40))
  clear h hb0
  go_enter Try.func5, Try.ntmps5
  go_wp2_with (first | (with_reducible refine wpList_load_row (o := ⟨some 7, _, _, _, _, _⟩) rfl 40 _ rfl w.heap.size rfl 40 #[.int .i64 i, .int .i64 us, .string ik, .string ip, .string sk, .string sp, .slice po ones.length co, .slice pp peers.length cp] (0, 0) _ HA.out Try.underlying40 rfl (szDevXL _ _ _ _ _ _ _ _) ?_) | fail)
  refine (CZ.out _ HB.out).mono ?_
  rintro e w1 ⟨hres, hb⟩
  have HA := Lib.hid ((hb.block _ (Array.getElem?_eq_some_iff.1 HA.out).1).trans HA.out)
  have HB := Lib.hid (HB.out.trans (hb.mono HB.out.size))
  clear hb
  rcases hres with ⟨s, rfl, hM⟩ | rfl
  case inr =>
    go_wp2
    go_ret
    exact ⟨rfl, HB.out⟩
  have q0 : ¬ (s : Int) < 0 := by omega
  have HM := Lib.hid hM
  have HW := Lib.hid (devW_of H.out hM)
  have CT := Lib.hid (CT.out hM)
  clear hM CZ
  obtain ⟨R, hR⟩ : ∃ R, devB ⟨i, us, ik, ip, sk, sp, .slice po ones.length co, ones, .slice pp peers.length cp, peers⟩ = R := ⟨_, rfl⟩
  have HR := Lib.hid hR
  clear hR
  have hqn : (R != R) = false := by cases R <;> rfl
  go_wp2_with (first | (with_reducible refine wpList_load_row (o := ⟨some 12, _, _, _, _, _⟩) rfl 40 _ rfl w.heap.size rfl 40 #[.int .i64 i, .int .i64 us, .string ik, .string ip, .string sk, .string sp, .slice po ones.length co, .slice pp peers.length cp] (0, 0) _ HA.out Try.underlying40 rfl (szDevXL _ _ _ _ _ _ _ _) ?_) | fail)
  refine (CT.out _ HB.out).mono ?_
  rintro e w2 ⟨a2, rfl, hg, hs, hb⟩
  have HA := Lib.hid ((hb.block _ (Array.getElem?_eq_some_iff.1 HA.out).1).trans HA.out)
  have HB := Lib.hid (HB.out.trans (hb.mono HB.out.size))
  clear hb
  have C2 := Lib.hid (deviceOk_s a2 w2 (hs.mono (Nat.zero_le _)) (devW_same hg HW.out))
  rw [devB_same hg, HR.out] at C2
  clear hs hg
  go_wp2_with fail
  refine C2.out.mono ?_
  rintro e w3 ⟨rfl, hb⟩
  have HA := Lib.hid ((hb.block _ (Array.getElem?_eq_some_iff.1 HA.out).1).trans HA.out)
  have HB := Lib.hid (HB.out.trans (hb.mono HB.out.size))
  clear hb
  clear C2
  go_wp2_with (first | (with_reducible refine wpList_load_row (o := ⟨some 15, _, _, _, _, _⟩) rfl 40 _ rfl w.heap.size rfl 40 #[.int .i64 i, .int .i64 us, .string ik, .string ip, .string sk, .string sp, .slice po ones.length co, .slice pp peers.length cp] (0, 0) _ HA.out Try.underlying40 rfl (szDevXL _ _ _ _ _ _ _ _) ?_) | fail)
  refine (CT.out _ HB.out).mono ?_
  rintro e w4 ⟨x, rfl, hg, hs, hb⟩
  have HA := Lib.hid ((hb.block _ (Array.getElem?_eq_some_iff.1 HA.out).1).trans HA.out)
  have HB := Lib.hid (HB.out.trans (hb.mono HB.out.size))
  clear hb
  have HS := Lib.hid (hs.mono (Nat.zero_le _))
  have C3 := Lib.hid (fun W (hW : Below w4.heap.size w4 W) => deviceOk_i x W (HS.out.below hW) (devW_same hg HW.out))
  rw [devB_same hg, HR.out] at C3
  have HG := Lib.hid hg
  obtain ⟨i', us', ik', ip', sk', sp', vo', ones', vp', peers'⟩ := x
  obtain ⟨po', co', eo, _⟩ := hs.1.open
  obtain ⟨pp', cp', ep, _⟩ := hs.2.1.open
  obtain rfl : vo' = .slice po' ones'.length co' := eo
  obtain rfl : vp' = .slice pp' peers'.length cp' := ep
  have hb := below_box w4 (.cells #[.int .i64 i', .int .i64 us', .string ik', .string ip', .string sk', .string sp', .slice po' ones'.length co', .slice pp' peers'.length cp'] 47)
  have HX := Lib.hid (heap_alloc_new w4 (.cells #[.int .i64 i', .int .i64 us', .string ik', .string ip', .string sk', .string sp', .slice po' ones'.length co', .slice pp' peers'.length cp'] 47))
  have HA := Lib.hid ((hb.block _ (Array.getElem?_eq_some_iff.1 HA.out).1).trans HA.out)
  have HB := Lib.hid (HB.out.trans (hb.mono HB.out.size))
  have C3 := Lib.hid (C3.out _ hb)
  have HS := Lib.hid (HS.out.below hb)
  clear hb hs hg
  rw [show devC ⟨i', us', ik', ip', sk', sp', .slice po' ones'.length co', ones', .slice pp' peers'.length cp', peers'⟩ = [.int .i64 i', .int .i64 us', .string ik', .string ip', .string sk', .string sp', .slice po' ones'.length co', .slice pp' peers'.length cp'] from rfl]
  go_upto_region 7 with (fail)
  generalize w4.alloc (.cells #[.int .i64 i', .int .i64 us', .string ik', .string ip', .string sk', .string sp', .slice po' ones'.length co', .slice pp' peers'.length cp'] 47) = w5 at HX HA HS HB C3 ⊢
  generalize w4.heap.size = kx at HX ⊢
  go_wp2_with (first | (with_reducible refine wpList_load_row (o := ⟨some 17, _, _, _, _, _⟩) rfl 47 _ rfl kx rfl 47 #[.int .i64 i', .int .i64 us', .string ik', .string ip', .string sk', .string sp', .slice po' ones'.length co', .slice pp' peers'.length cp'] (0, 0) _ HX.out Try.underlying47 rfl (szDevX _ _ _ _ _ _ _ _) ?_) | fail)
  refine C3.out.mono ?_
  rintro e w6 ⟨rfl, hb⟩
  have HA := Lib.hid ((hb.block _ (Array.getElem?_eq_some_iff.1 HA.out).1).trans HA.out)
  have HB := Lib.hid (HB.out.trans (hb.mono HB.out.size))
  have HX := Lib.hid ((hb.block _ (Array.getElem?_eq_some_iff.1 HX.out).1).trans HX.out)
  have HS := Lib.hid (HS.out.below hb)
  clear hb
  clear C3
  go_upto_region 10 with (fail)
  refine region_invL 5 [some 22, some 23, some 24, some 25, some 26] (EqD w6 ⟨i, us, ik, ip, sk, sp, .slice po ones.length co, ones, .slice pp peers.length cp, peers⟩ ⟨i', us', ik', ip', sk', sp', .slice po' ones'.length co', ones', .slice pp' peers'.length cp', peers'⟩) (by kernel_rfl) rfl (by kernel_rfl) (by kernel_rfl) (by kernel_rfl) ?_ ?_ ?_
  · exact ⟨(Below.refl _ _).drew, (fun h => by cases h), (fun h => by cases h), (fun h => by cases h), (fun h => by cases h), (fun h => by cases h)⟩
  · intro i0 o f L w1 hoi hL hI hdep
    have hi : i0 < 5 := (Array.getElem?_eq_some_iff.1 hoi).1
    have hc : i0 = 0 ∨ i0 = 1 ∨ i0 = 2 ∨ i0 = 3 ∨ i0 = 4 := by omega
    rcases hc with rfl | rfl | rfl | rfl | rfl
    · obtain rfl := Option.some.inj hoi
      refine ⟨rfl, wpLoadT rfl (at_old (by kernel_rfl)) (run_loadAt_mid w1 _ 0 47 (devC ⟨i', us', ik', ip', sk', sp', .slice po' ones'.length co', ones', .slice pp' peers'.length cp', peers'⟩) _ (devR ((hI.G.block _ (Array.getElem?_eq_some_iff.1 HX.out).1).trans HX.out)) Try.underlying47 rfl (szDI _)) ⟨_, rfl, ?_⟩⟩
      exact ⟨hI.G, fun _ => rfl, hI.f1, hI.f2, hI.f3, hI.f4⟩
    · obtain rfl := Option.some.inj hoi
      refine ⟨rfl, wpLoadT rfl (at_old (by kernel_rfl)) (run_loadAt_mid w1 _ 0 40 (devC ⟨i, us, ik, ip, sk, sp, .slice po ones.length co, ones, .slice pp peers.length cp, peers⟩) _ (devR ((hI.G.block _ (Array.getElem?_eq_some_iff.1 HA.out).1).trans HA.out)) Try.underlying40 rfl (szDL _)) ⟨_, rfl, ?_⟩⟩
      exact ⟨hI.G, hI.f0, fun _ => rfl, hI.f2, hI.f3, hI.f4⟩
    · obtain rfl := Option.some.inj hoi
      refine ⟨rfl, wpCallT rfl cfToDev (argsT1 ((at_new (by kernel_rfl) 1 (Nat.le_of_ble_eq_true rfl) rfl (by decide) (hdep 1 (dep_of (by kernel_rfl)))).trans (hI.f1 (hdep 1 (dep_of (by kernel_rfl)))))) ((CT.out _ (HB.out.trans (hI.G.mono HB.out.size))).mono ?_)⟩
      rintro e w2 ⟨y, rfl, hg, hy, hb⟩
      have hI := hI.grow hb
      exact ⟨_, rfl, _, rfl, ⟨hI.G, hI.f0, hI.f1, fun _ => ⟨y, rfl, hg, hy.mono (Nat.zero_le _)⟩, hI.f3, hI.f4⟩⟩
    · obtain rfl := Option.some.inj hoi
      obtain ⟨y, ey, hg, hy⟩ := hI.f2 (hdep 2 (dep_of (by kernel_rfl)))
      refine ⟨rfl, wpCallT rfl cfEqDev (argsT2q ((at_new (by kernel_rfl) 0 (Nat.le_of_ble_eq_true rfl) rfl (by decide) (hdep 0 (dep_of (by kernel_rfl)))).trans (hI.f0 (hdep 0 (dep_of (by kernel_rfl))))) ((at_new (by kernel_rfl) 2 (Nat.le_of_ble_eq_true rfl) rfl (by decide) (hdep 2 (dep_of (by kernel_rfl)))).trans ey)) ((eqDevice_c ⟨i', us', ik', ip', sk', sp', .slice po' ones'.length co', ones', .slice pp' peers'.length cp', peers'⟩ y w1 (HS.out.below hI.G) hy (HG.out.trans hg.symm) (devM_same HG.out HM.out)).mono ?_)⟩
      rintro e w2 ⟨rfl, hb⟩
      have hI := hI.grow hb
      exact ⟨_, rfl, _, rfl, ⟨hI.G, hI.f0, hI.f1, hI.f2, fun _ => rfl, hI.f4⟩⟩
    · obtain rfl := Option.some.inj hoi
      refine ⟨rfl, wpUnT rfl ((at_new (by kernel_rfl) 3 (Nat.le_of_ble_eq_true rfl) rfl (by decide) (hdep 3 (dep_of (by kernel_rfl)))).trans (hI.f3 (hdep 3 (dep_of (by kernel_rfl))))) (notB true w1) ⟨_, rfl, ?_⟩⟩
      exact ⟨hI.G, hI.f0, hI.f1, hI.f2, hI.f3, fun _ => rfl⟩
  intro f w7 hI
  have e4 := hI.f4 rfl
  have hb := hI.G
  clear hI
  simp only [Go.My.putL, Nat.zero_add, Nat.reduceAdd, e4, Act.put, List.setIfInBounds_toArray, List.set_cons_zero, List.set_cons_succ]
  generalize f 0 = y90 at *
  generalize f 1 = y91 at *
  generalize f 2 = y92 at *
  generalize f 3 = y93 at *
  clear e4
  have HB := Lib.hid (HB.out.trans (hb.mono HB.out.size))
  clear hb
  go_wp2
  go_ret
  exact ⟨rfl, HB.out⟩

set_option maxRecDepth 100000 in
theorem lifted (os : Os) (started : os.Started) (H : Type) (enc : TypeId × Value → H) :
    ReturnsInHanded {} Try.checked os 5 .any (Rows.fnExactDeviceOkSpec.pre6 enc Try.prog Try.f5 Rows.fnExactDeviceOkRow.domain false) (Rows.fnExactDeviceOkSpec.post enc Try.prog Try.f5 false true false false) := by
  refine returnsInHanded_of_change (C := Try.checked) own started (by kernel_rfl) Try.func5
    (ChangeSpec.witness6 (enc := enc) (C := Try.checked) false ⟨#[], #[.agg #[.int .i64 0, .int .i64 0, .string ByteArray.empty, .string ByteArray.empty, .string ByteArray.empty, .string ByteArray.empty, .slice none 0 0, .slice none 0 0]], []⟩ 8 (by kernel_rfl) (by kernel_rfl) (by kernel_rfl) (by kernel_rfl)) ?_
  intro W base args ds gs before hval0 hW hcnd _
  have hval : ∀ (j : Nat) t v, Try.f5.params[j]? = some t → args[j]? = some v → Value.okWide Try.prog W .any base t v := hval0
  have hW' := hW
  obtain ⟨p, q, hA0, hV, rfl, hfz, hnd⟩ := hW
  have hA : DataW.TrodAll enc Try.prog W 0 (fun _ => true) true Try.f5.params.toList args.toList ds p := hA0
  rw [Try.params5] at hA hval
  obtain ⟨v0, vs0, d0, ds0, p0, q0, hargs, rfl, rfl, h0, r0⟩ := trodAll_cons hA
  obtain ⟨rfl, rfl, rfl⟩ := trodAll_nil r0
  obtain rfl : args = #[v0] := by cases args; simp_all
  obtain ⟨rfl, rfl⟩ := trodVars_none hV
  have k0 := h0
  have lt0 : ∀ x ∈ p0, x.block < W.heap.size := by obtain ⟨m, hm⟩ := k0; exact DataW.trod_lt m _ _ _ hm
  obtain ⟨dv0, rfl, w0⟩ := device_open (hval 0 40 v0 rfl rfl) h0
  clear hA0 hval0
  refine (walk W dv0 w0).mono fun e W' ⟨he, bel⟩ => ?_
  subst he
  exact ⟨_, rfl, _, _, _, [], _, [], hW', trodAll_mk1 (shut_bool Try.underlying4 _), (trodAll_cons_mk (Below.trod laidOut (by kernel_rfl) (of_decide_eq_true (by kernel_rfl)) k0 bel lt0) trodAll_mk0), rfl, bel.frame _, fun h => by cases h⟩

theorem proved : Rows.FnExactDeviceOkSaid :=
  OpenClaim.holds_of_wide 5 Try.f5 rfl rfl rfl rfl rfl rfl rfl ⟨rfl, rfl, rfl, rfl, rfl⟩ rfl rfl rfl rfl rfl (by kernel_rfl) Try.func5 (by kernel_rfl)
    (of_decide_eq_true (by kernel_rfl)) (by unfold Func.isWrapper; first | (rw [if_pos (by decide +kernel)]; kernel_rfl) | (rw [if_neg (by decide +kernel)]; exact ⟨rfl, rfl⟩))
    (fun os started H enc _ => lifted os started H enc)

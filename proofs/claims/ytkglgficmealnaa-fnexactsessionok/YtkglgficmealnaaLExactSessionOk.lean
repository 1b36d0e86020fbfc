/- Proved: for every argument FnExactSessionOk returns true: the program finds a session right exactly where the specification does, and leaves it as it was (sessions of more than 2^20 in all are passed over by the law itself). No condition. -/
import Derived.Test.YtkglgficmealnaaRows
import Derived.WalkKit
import Derived.ProofKit
import Derived.OpenShut
import Derived.ShutString
import Derived.ChangeOld
import Derived.Below
import Derived.Test.YtkglgficmealnaaSsM
namespace Go.Proofs.Ytkglgficmealnaa.fnExactSessionOk
open Go.ChangeShapes Go.WideShapes Go.ChangeAt Go.RowKit Go.My Go.Lib
set_option linter.unusedVariables false

theorem own : ownKnob Try.prog.godebug = none := by kernel_rfl
theorem laidOut : laidOutB Try.prog = true := by kernel_rfl

set_option maxRecDepth 100000 in
set_option maxHeartbeats 8000000 in
theorem walk (w : World) (r o p t k : ByteArray) (n v : Int) (q : ByteArray) (m : Int) (u : Value) (K : List SkipT) (h : SesArg r o p t k n v q m u K w) :
    Calls Try.prog 3 #[.agg (sesU r o p t k n v q m u)] w fun e w' => e = .returned (.bool true) ∧ Below w.heap.size w w' := by
  have H := Lib.hid h
  have CZ := Lib.hid (fun W (hW : Below w.heap.size w W) => (szSession_any r o p t k n v q m u K 1048576 W (H.out.below hW) (Nat.le_refl _) : Calls Try.prog 8 #[.agg (sesU r o p t k n v q m u), .int .i64 1048576] W _))
  have CT := Lib.hid (fun (hK : K.length ≤ 1048576) W (hW : Below w.heap.size w W) => toSession_any r o p t k n v q m u K W (H.out.sk.below hW) hK)
  obtain ⟨pu, cu, rfl, _⟩ := h.sk
  have hb0 : Below w.heap.size w (w.alloc (.cells (sesU r o p t k n v q m (.slice pu K.length cu)) 24)) := below_box w _
  have HB := Lib.hid hb0
  have HA := Lib.hid (heap_alloc_new w (.cells (sesU r o p t k n v q m (.slice pu K.length cu)) 24))
  clear h hb0
  go_enter Try.func3, Try.ntmps3
  go_wp2_with (first | (with_reducible refine wpList_load_row (o := ⟨some 7, _, _, _, _, _⟩) rfl 24 _ rfl w.heap.size rfl 24 (sesU r o p t k n v q m (.slice pu K.length cu)) (0, 0) _ HA.out Try.underlying24 rfl (szSL r o p t k n v q m (.slice pu K.length cu)) ?_) | fail)
  refine (CZ.out _ HB.out).mono ?_
  rintro e w1 ⟨hres, hb⟩
  have HA := Lib.hid ((hb.block _ (Array.getElem?_eq_some_iff.1 HA.out).1).trans HA.out)
  have HB := Lib.hid (HB.out.trans (hb.mono HB.out.size))
  clear hb
  rcases hres with ⟨s, rfl, hK⟩ | rfl
  case inr =>
    go_wp2
    go_ret
    exact ⟨rfl, HB.out⟩
  have q0 : ¬ (s : Int) < 0 := by omega
  have HK := Lib.hid hK
  have CT := Lib.hid (CT.out hK)
  clear hK CZ
  obtain ⟨R, hR⟩ : ∃ R, sesB r o p t k n v q m K = R := ⟨_, rfl⟩
  have HR := Lib.hid hR
  clear hR
  have hqn : (R != R) = false := by cases R <;> rfl
  go_wp2_with (first | (with_reducible refine wpList_load_row (o := ⟨some 12, _, _, _, _, _⟩) rfl 24 _ rfl w.heap.size rfl 24 (sesU r o p t k n v q m (.slice pu K.length cu)) (0, 0) _ HA.out Try.underlying24 rfl (szSL r o p t k n v q m (.slice pu K.length cu)) ?_) | fail)
  refine (CT.out _ HB.out).mono ?_
  rintro e w2 ⟨u2, rfl, hs, hb⟩
  have HA := Lib.hid ((hb.block _ (Array.getElem?_eq_some_iff.1 HA.out).1).trans HA.out)
  have HB := Lib.hid (HB.out.trans (hb.mono HB.out.size))
  clear hb
  have C2 := Lib.hid (sesOk_s r o p t k n v q m u2 K w2 (hs.mono (Nat.zero_le _)) HK.out)
  rw [HR.out] at C2
  clear hs
  go_wp2_with fail
  refine C2.out.mono ?_
  rintro e w3 ⟨rfl, hb⟩
  have HA := Lib.hid ((hb.block _ (Array.getElem?_eq_some_iff.1 HA.out).1).trans HA.out)
  have HB := Lib.hid (HB.out.trans (hb.mono HB.out.size))
  clear hb
  clear C2
  go_wp2_with (first | (with_reducible refine wpList_load_row (o := ⟨some 15, _, _, _, _, _⟩) rfl 24 _ rfl w.heap.size rfl 24 (sesU r o p t k n v q m (.slice pu K.length cu)) (0, 0) _ HA.out Try.underlying24 rfl (szSL r o p t k n v q m (.slice pu K.length cu)) ?_) | fail)
  refine (CT.out _ HB.out).mono ?_
  rintro e w4 ⟨x, rfl, hs, hb⟩
  have HA := Lib.hid ((hb.block _ (Array.getElem?_eq_some_iff.1 HA.out).1).trans HA.out)
  have HB := Lib.hid (HB.out.trans (hb.mono HB.out.size))
  clear hb
  obtain ⟨px, cx, rfl, _⟩ := hs.open
  have HS := Lib.hid (hs.mono (Nat.zero_le _))
  have hb := below_box w4 (.cells (sesU r o p t k n v q m (.slice px K.length cx)) 29)
  have HX := Lib.hid (heap_alloc_new w4 (.cells (sesU r o p t k n v q m (.slice px K.length cx)) 29))
  have HA := Lib.hid ((hb.block _ (Array.getElem?_eq_some_iff.1 HA.out).1).trans HA.out)
  have HS := Lib.hid (HS.out.below hb)
  have HB := Lib.hid (HB.out.trans (hb.mono HB.out.size))
  clear hb
  clear hs
  go_upto_region 7 with (fail)
  generalize w4.alloc (.cells (sesU r o p t k n v q m (.slice px K.length cx)) 29) = w5 at HX HA HS HB ⊢
  generalize w4.heap.size = kx at HX ⊢
  have C3 := Lib.hid (sesOk_i r o p t k n v q m (.slice px K.length cx) K w5 HS.out HK.out)
  rw [HR.out] at C3
  go_wp2_with (first | (with_reducible refine wpList_load_row (o := ⟨some 17, _, _, _, _, _⟩) rfl 29 _ rfl kx rfl 29 (sesU r o p t k n v q m (.slice px K.length cx)) (0, 0) _ HX.out Try.underlying29 rfl (szSU _ _ _ _ _ _ _ _ _ _) ?_) | fail)
  refine C3.out.mono ?_
  rintro e w6 ⟨rfl, hb⟩
  have HA := Lib.hid ((hb.block _ (Array.getElem?_eq_some_iff.1 HA.out).1).trans HA.out)
  have HX := Lib.hid ((hb.block _ (Array.getElem?_eq_some_iff.1 HX.out).1).trans HX.out)
  have HS := Lib.hid (HS.out.below hb)
  have HB := Lib.hid (HB.out.trans (hb.mono HB.out.size))
  clear hb
  clear C3
  go_upto_region 10 with (fail)
  refine region_invL 5 [some 22, some 23, some 24, some 25, some 26] (EqJ w6 r o p t k n v q m (.slice pu K.length cu) (.slice px K.length cx) K) (by kernel_rfl) rfl (by kernel_rfl) (by kernel_rfl) (by kernel_rfl) ?_ ?_ ?_
  · exact ⟨(Below.refl _ _).drew, (fun h => by cases h), (fun h => by cases h), (fun h => by cases h), (fun h => by cases h), (fun h => by cases h)⟩
  · intro i o f L w1 hoi hL hI hdep
    have hi : i < 5 := (Array.getElem?_eq_some_iff.1 hoi).1
    have hc : i = 0 ∨ i = 1 ∨ i = 2 ∨ i = 3 ∨ i = 4 := by omega
    rcases hc with rfl | rfl | rfl | rfl | rfl
    · obtain rfl := Option.some.inj hoi
      refine ⟨rfl, wpLoadT rfl (at_old (by kernel_rfl)) (ldSesI ((hI.G.block _ (Array.getElem?_eq_some_iff.1 HX.out).1).trans HX.out)) ⟨_, rfl, ?_⟩⟩
      exact ⟨hI.G, fun _ => rfl, hI.f1, hI.f2, hI.f3, hI.f4⟩
    · obtain rfl := Option.some.inj hoi
      refine ⟨rfl, wpLoadT rfl (at_old (by kernel_rfl)) (ldSesL ((hI.G.block _ (Array.getElem?_eq_some_iff.1 HA.out).1).trans HA.out)) ⟨_, rfl, ?_⟩⟩
      exact ⟨hI.G, hI.f0, fun _ => rfl, hI.f2, hI.f3, hI.f4⟩
    · obtain rfl := Option.some.inj hoi
      refine ⟨rfl, wpCallT rfl cfToSession (argsT1 ((at_new (by kernel_rfl) 1 (Nat.le_of_ble_eq_true rfl) rfl (by decide) (hdep 1 (dep_of (by kernel_rfl)))).trans (hI.f1 (hdep 1 (dep_of (by kernel_rfl)))))) ((CT.out _ (HB.out.trans (hI.G.mono HB.out.size))).mono ?_)⟩
      rintro e w2 ⟨y, rfl, hy, hb⟩
      have hI := hI.grow hb
      exact ⟨_, rfl, _, rfl, ⟨hI.G, hI.f0, hI.f1, fun _ => ⟨y, rfl, hy.mono (Nat.zero_le _)⟩, hI.f3, hI.f4⟩⟩
    · obtain rfl := Option.some.inj hoi
      obtain ⟨y, ey, hy⟩ := hI.f2 (hdep 2 (dep_of (by kernel_rfl)))
      refine ⟨rfl, wpCallT rfl cfEqSession (argsT2' ((at_new (by kernel_rfl) 0 (Nat.le_of_ble_eq_true rfl) rfl (by decide) (hdep 0 (dep_of (by kernel_rfl)))).trans (hI.f0 (hdep 0 (dep_of (by kernel_rfl))))) ((at_new (by kernel_rfl) 2 (Nat.le_of_ble_eq_true rfl) rfl (by decide) (hdep 2 (dep_of (by kernel_rfl)))).trans ey)) ((eqSession_same r o p t k n v q m (.slice px K.length cx) y K w1 (HS.out.below hI.G) hy HK.out).mono ?_)⟩
      rintro e w2 ⟨rfl, hb⟩
      have hI := hI.grow hb
      exact ⟨_, rfl, _, rfl, ⟨hI.G, hI.f0, hI.f1, hI.f2, fun _ => rfl, hI.f4⟩⟩
    · obtain rfl := Option.some.inj hoi
      refine ⟨rfl, wpUnT rfl ((at_new (by kernel_rfl) 3 (Nat.le_of_ble_eq_true rfl) rfl (by decide) (hdep 3 (dep_of (by kernel_rfl)))).trans (hI.f3 (hdep 3 (dep_of (by kernel_rfl))))) (notS w1) ⟨_, rfl, ?_⟩⟩
      exact ⟨hI.G, hI.f0, hI.f1, hI.f2, hI.f3, fun _ => rfl⟩
  intro f w7 hI
  have e4 := hI.f4 rfl
  have hb := hI.G
  clear hI
  simp only [Go.My.putL, Nat.zero_add, Nat.reduceAdd, e4, Act.put, List.setIfInBounds_toArray, List.set_cons_zero, List.set_cons_succ]
  generalize f 0 = y90 at *
  generalize f 1 = y91 at *
  generalize f 2 = y92 at *
  generalize f 3 = y93 at *
  clear e4
  have HB := Lib.hid (HB.out.trans (hb.mono HB.out.size))
  clear hb
  go_wp2
  go_ret
  exact ⟨rfl, HB.out⟩

set_option maxRecDepth 100000 in
theorem lifted (os : Os) (started : os.Started) (H : Type) (enc : TypeId × Value → H) :
    ReturnsInHanded {} Try.checked os 3 .any (Rows.fnExactSessionOkSpec.pre6 enc Try.prog Try.f3 Rows.fnExactSessionOkRow.domain false) (Rows.fnExactSessionOkSpec.post enc Try.prog Try.f3 false true false false) := by
  refine returnsInHanded_of_change (C := Try.checked) own started (by kernel_rfl) Try.func3
    (ChangeSpec.witness6 (enc := enc) (C := Try.checked) false ⟨#[], #[.agg #[.string ByteArray.empty, .string ByteArray.empty, .string ByteArray.empty, .string ByteArray.empty, .string ByteArray.empty, .int .i64 0, .int .i64 0, .string ByteArray.empty, .int .i64 0, .slice none 0 0]], []⟩ 8 (by kernel_rfl) (by kernel_rfl) (by kernel_rfl) (by kernel_rfl)) ?_
  intro W base args ds gs before hval0 hW hcnd _
  have hval : ∀ (j : Nat) t v, Try.f3.params[j]? = some t → args[j]? = some v → Value.okWide Try.prog W .any base t v := hval0
  have hW' := hW
  obtain ⟨p, q, hA0, hV, rfl, hfz, hnd⟩ := hW
  have hA : DataW.TrodAll enc Try.prog W 0 (fun _ => true) true Try.f3.params.toList args.toList ds p := hA0
  rw [Try.params3] at hA hval
  obtain ⟨v0, vs0, d0, ds0, p0, q0, hargs, rfl, rfl, h0, r0⟩ := trodAll_cons hA
  obtain ⟨rfl, rfl, rfl⟩ := trodAll_nil r0
  obtain rfl : args = #[v0] := by cases args; simp_all
  obtain ⟨rfl, rfl⟩ := trodVars_none hV
  have k0 := h0
  have lt0 : ∀ x ∈ p0, x.block < W.heap.size := by obtain ⟨m, hm⟩ := k0; exact DataW.trod_lt m _ _ _ hm
  obtain ⟨sr0, so0, sp0, st0, sk0, sn0, sv0, sq0, sm0, su0, sK0, rfl, w0⟩ := session_open (hval 0 24 v0 rfl rfl) h0
  clear hA0 hval0
  refine (walk W sr0 so0 sp0 st0 sk0 sn0 sv0 sq0 sm0 su0 sK0 w0).mono fun e W' ⟨he, bel⟩ => ?_
  subst he
  exact ⟨_, rfl, _, _, _, [], _, [], hW', trodAll_mk1 (shut_bool Try.underlying4 _), (trodAll_cons_mk (Below.trod laidOut (by kernel_rfl) (of_decide_eq_true (by kernel_rfl)) k0 bel lt0) trodAll_mk0), rfl, bel.frame _, fun h => by cases h⟩

theorem proved : Rows.FnExactSessionOkSaid :=
  OpenClaim.holds_of_wide 3 Try.f3 rfl rfl rfl rfl rfl rfl rfl ⟨rfl, rfl, rfl, rfl, rfl⟩ rfl rfl rfl rfl rfl (by kernel_rfl) Try.func3 (by kernel_rfl)
    (of_decide_eq_true (by kernel_rfl)) (by unfold Func.isWrapper; first | (rw [if_pos (by decide +kernel)]; kernel_rfl) | (rw [if_neg (by decide +kernel)]; exact ⟨rfl, rfl⟩))
    (fun os started H enc _ => lifted os started H enc)
end Go.Proofs.Ytkglgficmealnaa.fnExactSessionOk

/- Proved: for every argument FnExactDo returns true: the program's Do answers as the specification's, in every field; it leaves its arguments as they were, and its answer owns its memory (arguments of more than 2^20 in all are passed over by the law itself). No condition. -/
import Derived.Test.YtepefbfmjjnamaaRows
import Derived.WalkKit
import Derived.ProofKit
import Derived.OpenShut
import Derived.ShutString
import Derived.ChangeOld
import Derived.Below
import Derived.Test.YtepefbfmjjnamaaDkR
import Derived.Test.YtepefbfmjjnamaaDkAct
import Derived.Test.YtepefbfmjjnamaaMrgA
namespace Go.Proofs.Ytepefbfmjjnamaa.fnExactDo
open Go.ChangeShapes Go.WideShapes Go.ChangeAt Go.RowKit Go.My
set_option linter.unusedVariables false

theorem own : ownKnob Try.prog.godebug = none := by kernel_rfl
theorem laidOut : laidOutB Try.prog = true := by kernel_rfl

structure InvS (W1 : World) (A O R : Value) (d D : DiskT) (v : Nat → Value) (L : Nat → Bool) (w : World) : Prop where
  G : Below W1.heap.size W1 w
  f0 : L 0 = true → v 0 = A
  f1 : L 1 = true → DkV W1.heap.size d true (v 1) w
  f2 : L 2 = true → v 2 = O
  f3 : L 3 = true → v 3 = O
  f4 : L 4 = true → TuV W1.heap.size D false R (v 4) w
  f5 : L 5 = true → TuV W1.heap.size D false R (v 5) w
  f6 : L 6 = true → DkV W1.heap.size D false (v 6) w
  f7 : L 7 = true → v 7 = R
  f8 : L 8 = true → NewV W1.heap.size (v 8) w
  f9 : L 9 = true → SetV W1.heap.size D false (v 8) w
  f10 : L 10 = true → v 10 = R
  gS : L 9 = true → L 8 = true
theorem InvS.grow {W1 : World} {A O R : Value} {d D : DiskT} {v : Nat → Value} {L : Nat → Bool} {w w' : World} (h : InvS W1 A O R d D v L w) (hb : Below w.heap.size w w') : InvS W1 A O R d D v L w' where
  G := h.G.trans (hb.mono h.G.size)
  f0 := h.f0
  f1 := fun a => (h.f1 a).below hb
  f2 := h.f2
  f3 := h.f3
  f4 := fun a => (h.f4 a).below hb
  f5 := fun a => (h.f5 a).below hb
  f6 := fun a => (h.f6 a).below hb
  f7 := h.f7
  f8 := fun a => (h.f8 a).below hb
  f9 := fun a => (h.f9 a).below hb
  f10 := h.f10
  gS := h.gS
structure InvI (W1 : World) (A O R : Value) (d D : DiskT) (v : Nat → Value) (L : Nat → Bool) (w : World) : Prop where
  G : Below W1.heap.size W1 w
  f0 : L 0 = true → v 0 = A
  f1 : L 1 = true → v 1 = O
  f2 : L 2 = true → v 2 = O
  f3 : L 3 = true → TuV W1.heap.size D true R (v 3) w
  f4 : L 4 = true → TuV W1.heap.size D true R (v 4) w
  f5 : L 5 = true → DkV W1.heap.size D true (v 5) w
  f6 : L 6 = true → v 6 = R
  f7 : L 7 = true → NewV W1.heap.size (v 7) w
  f8 : L 8 = true → SetV W1.heap.size D true (v 7) w
  f9 : L 9 = true → v 9 = R
  gS : L 8 = true → L 7 = true
theorem InvI.grow {W1 : World} {A O R : Value} {d D : DiskT} {v : Nat → Value} {L : Nat → Bool} {w w' : World} (h : InvI W1 A O R d D v L w) (hb : Below w.heap.size w w') : InvI W1 A O R d D v L w' where
  G := h.G.trans (hb.mono h.G.size)
  f0 := h.f0
  f1 := h.f1
  f2 := h.f2
  f3 := fun a => (h.f3 a).below hb
  f4 := fun a => (h.f4 a).below hb
  f5 := fun a => (h.f5 a).below hb
  f6 := h.f6
  f7 := fun a => (h.f7 a).below hb
  f8 := fun a => (h.f8 a).below hb
  f9 := h.f9
  gS := h.gS
structure InvE (W1 : World) (A O R : Value) (d D : DiskT) (v : Nat → Value) (L : Nat → Bool) (w : World) : Prop where
  G : Below W1.heap.size W1 w
  f0 : L 0 = true → v 0 = R
  f1 : L 1 = true → v 1 = A
  f2 : L 2 = true → DkV W1.heap.size d true (v 2) w
  f3 : L 3 = true → v 3 = .bool true
  f4 : L 4 = true → v 4 = .bool false
  gS : True
theorem InvE.grow {W1 : World} {A O R : Value} {d D : DiskT} {v : Nat → Value} {L : Nat → Bool} {w w' : World} (h : InvE W1 A O R d D v L w) (hb : Below w.heap.size w w') : InvE W1 A O R d D v L w' where
  G := h.G.trans (hb.mono h.G.size)
  f0 := h.f0
  f1 := h.f1
  f2 := fun a => (h.f2 a).below hb
  f3 := h.f3
  f4 := h.f4
  gS := h.gS
structure InvH (W1 : World) (A O R : Value) (d D : DiskT) (v : Nat → Value) (L : Nat → Bool) (w : World) : Prop where
  G : Below W1.heap.size W1 w
  f0 : L 0 = true → v 0 = A
  f1 : L 1 = true → DkV W1.heap.size d true (v 1) w
  f2 : L 2 = true → v 2 = O
  f3 : L 3 = true → v 3 = O
  f4 : L 4 = true → TuV W1.heap.size D true R (v 4) w
  f5 : L 5 = true → TuV W1.heap.size D true R (v 5) w
  f6 : L 6 = true → DkV W1.heap.size D true (v 6) w
  f7 : L 7 = true → v 7 = R
  f8 : L 8 = true → NewV W1.heap.size (v 8) w
  f9 : L 9 = true → SetV W1.heap.size D true (v 8) w
  f10 : L 10 = true → v 10 = R
  gS : L 9 = true → L 8 = true
theorem InvH.grow {W1 : World} {A O R : Value} {d D : DiskT} {v : Nat → Value} {L : Nat → Bool} {w w' : World} (h : InvH W1 A O R d D v L w) (hb : Below w.heap.size w w') : InvH W1 A O R d D v L w' where
  G := h.G.trans (hb.mono h.G.size)
  f0 := h.f0
  f1 := fun a => (h.f1 a).below hb
  f2 := h.f2
  f3 := h.f3
  f4 := fun a => (h.f4 a).below hb
  f5 := fun a => (h.f5 a).below hb
  f6 := fun a => (h.f6 a).below hb
  f7 := h.f7
  f8 := fun a => (h.f8 a).below hb
  f9 := fun a => (h.f9 a).below hb
  f10 := h.f10
  gS := h.gS

set_option maxRecDepth 20000 in
set_option maxHeartbeats 8000000 in
theorem walk (w : World) (v1 v2 v3 : Value) (d : DiskT) (h : DiskArg v1 v2 v3 d w) (k : Int) (n t x : ByteArray) (hw : dOpW (k, n, t, x)) :
    Calls Try.prog 8 #[.agg #[v1, v2, v3], .agg #[.int .i64 k, .string n, .string t, .string x]] w fun e w' => e = .returned (.bool true) ∧ Below w.heap.size w w' := by
  have H := Lib.hid h
  have HW0 : Hid ((Lit.int .i64 k).wf = true ∧ n.size ≤ maxLen ∧ t.size ≤ maxLen ∧ x.size ≤ maxLen) := hw
  clear hw
  have CZ := Lib.hid (fun W (hW : Below w.heap.size w W) => (szDisk_any v1 v2 v3 d 1048576 W (H.out.below hW) (Nat.le_refl _) : Calls Try.prog 35 #[.agg #[v1, v2, v3], .int .i64 1048576] W _))
  obtain ⟨⟨p1, m1, rfl, _⟩, ⟨p2, m2, rfl, _⟩, ⟨p3, m3, rfl, _⟩, _, _, _⟩ := h
  go_enter Try.func8, Try.ntmps8
  go_wp2_with fail
  refine (CZ.out _ ?_).mono ?_
  · exact ((Below.refl w.heap.size w).alloc (Nat.le_refl _) _).alloc (by simp) _
  rintro e w1 ⟨hres, hb1⟩
  obtain ⟨hB, bA, bO⟩ := boxes2 w _ _ _ hb1
  have HA := Lib.hid bA
  have HO := Lib.hid bO
  have HB := Lib.hid hB
  clear hb1 bA bO hB
  rcases hres with ⟨r, rfl, hr⟩ | rfl
  case inr =>
    go_wp2
    go_ret
    exact ⟨rfl, HB.out⟩
  have q : ¬ (r : Int) < 0 := by omega
  have hr1 : r ≤ 1048576 := by omega
  have HR1 := Lib.hid hr
  have CZ2 := Lib.hid (fun W => szDOp_any k n t x r W hr1 HW0.out.2.1 HW0.out.2.2.1 HW0.out.2.2.2)
  obtain ⟨⟨o0, o1, o2, o3⟩, _⟩ := dop_cells HO.out
  clear hr CZ
  go_wp2_with fail
  refine (CZ2.out _).mono ?_
  rintro e w2 ⟨hres, hb1⟩
  have HA := Lib.hid ((hb1.block _ (Array.getElem?_eq_some_iff.1 HA.out).1).trans HA.out)
  have HO := Lib.hid ((hb1.block _ (Array.getElem?_eq_some_iff.1 HO.out).1).trans HO.out)
  have HB := Lib.hid (HB.out.trans (hb1.mono HB.out.size))
  clear hb1 CZ2 o0 o1 o2 o3
  rcases hres with ⟨r2, rfl, hr⟩ | rfl
  case inr =>
    go_wp2
    go_ret
    exact ⟨rfl, HB.out⟩
  have q2 : ¬ (r2 : Int) < 0 := by omega
  have HF : Hid d.fit := fit_of H.out (by have := HR1.out; omega)
  have HW5 : Hid ((Lit.int .i64 k).wf = true ∧ n.size ≤ 1048576 ∧ t.size ≤ 1048576 ∧ x.size ≤ 1048576) := by
    have hz : r2 + (n.size + t.size + x.size) = r := hr
    exact ⟨HW0.out.1, by omega, by omega, by omega⟩
  have CT := Lib.hid (fun W (hW : Below w.heap.size w W) => toDisk_any _ _ _ d W (H.out.live.below hW) (H.out.safe.below hW) (H.out.ops.below hW) HF.out.small.live HF.out.small.safe HF.out.small.ops)
  have COR := Lib.hid (fun W => toDOp_any k n t x W)
  have CS := Lib.hid (fun x1 x2 x3 W (hX : DiskAt 0 x1 x2 x3 d W) => doD_s x1 x2 x3 d k n t x W hX HF.out HW5.out.1 HW5.out.2.1 HW5.out.2.2.1 HW5.out.2.2.2)
  have CI := Lib.hid (fun x1 x2 x3 W (hX : DiskAt 0 x1 x2 x3 d W) => doD_i x1 x2 x3 d k n t x W hX HF.out HW5.out.2.1 HW5.out.2.2.1 HW5.out.2.2.2)
  have HM : Hid (1 + (doD d (k, n, t, x)).many ≤ 1099511627776 ∧ 1 + d.many ≤ 1099511627776) := ⟨many_small (doD_small HF.out.small), many_small HF.out.small⟩
  have HSM : Hid (doD d (k, n, t, x)).small := doD_small HF.out.small
  generalize doD d (k, n, t, x) = Y at CS CI HM HSM
  generalize doR d (k, n, t, x) = R at CS CI
  clear hr
  go_upto_region 8 with (fail)
  have CTR := Lib.hid (fun W (hW : Below w2.heap.size w2 W) => CT.out W (HB.out.trans (hW.mono HB.out.size)))
  have CSR := Lib.hid (fun x1 x2 x3 W (hW : Below w2.heap.size w2 W) (hX : DiskAt w2.heap.size x1 x2 x3 d W) => CS.out x1 x2 x3 W (hX.mono (Nat.zero_le _)))
  refine region_invL 11 [some 27, some 28, some 29, some 30, some 31, some 26, some 32, some 33, some 6, none, some 7] (InvS w2 (.agg #[.slice p1 d.live.length m1, .slice p2 d.safe.length m2, .slice p3 d.ops.length m3]) (.agg #[.int .i64 k, .string n, .string t, .string x]) (.int .i64 R) d Y) (by kernel_rfl) rfl (by kernel_rfl) (by kernel_rfl) (by kernel_rfl) ?_ ?_ ?_
  · exact ⟨(Below.refl _ _).drew, (fun h => by cases h), (fun h => by cases h), (fun h => by cases h), (fun h => by cases h), (fun h => by cases h), (fun h => by cases h), (fun h => by cases h), (fun h => by cases h), (fun h => by cases h), (fun h => by cases h), (fun h => by cases h), (fun h => by cases h)⟩
  · intro i o v L w1 hoi hL hI hdep
    have hi : i < 11 := (Array.getElem?_eq_some_iff.1 hoi).1
    have hc : i = 0 ∨ i = 1 ∨ i = 2 ∨ i = 3 ∨ i = 4 ∨ i = 5 ∨ i = 6 ∨ i = 7 ∨ i = 8 ∨ i = 9 ∨ i = 10 := by omega
    rcases hc with rfl | rfl | rfl | rfl | rfl | rfl | rfl | rfl | rfl | rfl | rfl
    · obtain rfl := Option.some.inj hoi
      refine ⟨rfl, wpLoadT rfl (at_old (by kernel_rfl)) (ldDkL ((hI.G.block _ (Array.getElem?_eq_some_iff.1 HA.out).1).trans HA.out)) ⟨_, rfl, ?_⟩⟩
      exact ⟨hI.G, fun _ => rfl, hI.f1, hI.f2, hI.f3, hI.f4, hI.f5, hI.f6, hI.f7, hI.f8, hI.f9, hI.f10, hI.gS⟩
    · obtain rfl := Option.some.inj hoi
      refine ⟨rfl, wpCallT rfl cfToDisk (argsT1 ((at_new (by kernel_rfl) 0 (Nat.le_of_ble_eq_true rfl) rfl (by decide) (hdep 0 (dep_of (by kernel_rfl)))).trans (hI.f0 (hdep 0 (dep_of (by kernel_rfl)))))) ((CTR.out _ hI.G).mono ?_)⟩
      rintro e w2 ⟨x, y, z, rfl, g1, g2, g3, hap, hb⟩
      have hsz := hI.G.size
      have hI := hI.grow hb
      exact ⟨_, rfl, _, rfl, ⟨hI.G, hI.f0, fun _ => ⟨x, y, z, rfl, ⟨g1.mono hsz, g2.mono hsz, g3.mono hsz⟩, fun _ => hap⟩, hI.f2, hI.f3, hI.f4, hI.f5, hI.f6, hI.f7, hI.f8, hI.f9, hI.f10, hI.gS⟩⟩
    · obtain rfl := Option.some.inj hoi
      refine ⟨rfl, wpLoadT rfl (at_old (by kernel_rfl)) (ldDpL ((hI.G.block _ (Array.getElem?_eq_some_iff.1 HO.out).1).trans HO.out)) ⟨_, rfl, ?_⟩⟩
      exact ⟨hI.G, hI.f0, hI.f1, fun _ => rfl, hI.f3, hI.f4, hI.f5, hI.f6, hI.f7, hI.f8, hI.f9, hI.f10, hI.gS⟩
    · obtain rfl := Option.some.inj hoi
      refine ⟨rfl, wpCallT rfl cfToDOp (argsT1 ((at_new (by kernel_rfl) 2 (Nat.le_of_ble_eq_true rfl) rfl (by decide) (hdep 2 (dep_of (by kernel_rfl)))).trans (hI.f2 (hdep 2 (dep_of (by kernel_rfl)))))) ((COR.out _).mono ?_)⟩
      rintro e w2 ⟨rfl, hb⟩
      have hI := hI.grow hb
      exact ⟨_, rfl, _, rfl, ⟨hI.G, hI.f0, hI.f1, hI.f2, fun _ => rfl, hI.f4, hI.f5, hI.f6, hI.f7, hI.f8, hI.f9, hI.f10, hI.gS⟩⟩
    · obtain rfl := Option.some.inj hoi
      obtain ⟨x, y, z, ex, hx, _⟩ := hI.f1 (hdep 1 (dep_of (by kernel_rfl)))
      refine ⟨rfl, wpCallT rfl cfSDo (argsT2 ((at_new (by kernel_rfl) 1 (Nat.le_of_ble_eq_true rfl) rfl (by decide) (hdep 1 (dep_of (by kernel_rfl)))).trans ex) ((at_new (by kernel_rfl) 3 (Nat.le_of_ble_eq_true rfl) rfl (by decide) (hdep 3 (dep_of (by kernel_rfl)))).trans (hI.f3 (hdep 3 (dep_of (by kernel_rfl)))))) ((CSR.out x y z _ hI.G hx).mono ?_)⟩
      rintro e w2 ⟨u1, u2, u3, rfl, hD, hb⟩
      have hsz := hI.G.size
      have hI := hI.grow hb
      exact ⟨_, rfl, _, rfl, ⟨hI.G, hI.f0, hI.f1, hI.f2, hI.f3, fun _ => ⟨_, rfl, u1, u2, u3, rfl, hD.mono hsz, fun h => by cases h⟩, hI.f5, hI.f6, hI.f7, hI.f8, hI.f9, hI.f10, hI.gS⟩⟩
    · obtain rfl := Option.some.inj hoi
      refine ⟨rfl, wpMoveT rfl (at_new (by kernel_rfl) 4 (Nat.le_of_ble_eq_true rfl) rfl (by decide) (hdep 4 (dep_of (by kernel_rfl)))) ⟨_, rfl, ?_⟩⟩
      exact ⟨hI.G, hI.f0, hI.f1, hI.f2, hI.f3, hI.f4, fun _ => hI.f4 (hdep 4 (dep_of (by kernel_rfl))), hI.f6, hI.f7, hI.f8, hI.f9, hI.f10, hI.gS⟩
    · obtain rfl := Option.some.inj hoi
      obtain ⟨x, ex, hx⟩ := hI.f5 (hdep 5 (dep_of (by kernel_rfl)))
      refine ⟨rfl, wpExtT rfl ((at_new (by kernel_rfl) 5 (Nat.le_of_ble_eq_true rfl) rfl (by decide) (hdep 5 (dep_of (by kernel_rfl)))).trans ex) (ext0 _ _ _) ⟨_, rfl, ?_⟩⟩
      exact ⟨hI.G, hI.f0, hI.f1, hI.f2, hI.f3, hI.f4, hI.f5, fun _ => hx, hI.f7, hI.f8, hI.f9, hI.f10, hI.gS⟩
    · obtain rfl := Option.some.inj hoi
      obtain ⟨x, ex, hx⟩ := hI.f5 (hdep 5 (dep_of (by kernel_rfl)))
      refine ⟨rfl, wpExtT rfl ((at_new (by kernel_rfl) 5 (Nat.le_of_ble_eq_true rfl) rfl (by decide) (hdep 5 (dep_of (by kernel_rfl)))).trans ex) (ext1 _ _ _) ⟨_, rfl, ?_⟩⟩
      exact ⟨hI.G, hI.f0, hI.f1, hI.f2, hI.f3, hI.f4, hI.f5, hI.f6, fun _ => rfl, hI.f8, hI.f9, hI.f10, hI.gS⟩
    · obtain rfl := Option.some.inj hoi
      have hI2 := hI.grow ((Below.refl w1.heap.size w1).alloc (Nat.le_refl _) (.cells #[.slice none 0 0, .slice none 0 0, .slice none 0 0] 27))
      refine ⟨rfl, wpAllocT (w' := w1.alloc (.cells #[.slice none 0 0, .slice none 0 0, .slice none 0 0] 27)) rfl (nDisk w1) ⟨_, rfl, ?_⟩⟩
      have nS : L 9 = false := by cases h : L 9 with | false => rfl | true => have := hI.gS h; rw [hL] at this; cases this
      exact ⟨hI2.G, hI2.f0, hI2.f1, hI2.f2, hI2.f3, hI2.f4, hI2.f5, hI2.f6, hI2.f7, fun _ => newNew hI.G.size, (fun h => by have h : L 9 = true := h; rw [nS] at h; cases h), hI2.f10, (fun h => by have h : L 9 = true := h; rw [nS] at h; cases h)⟩
    · obtain rfl := Option.some.inj hoi
      refine ⟨rfl, wpSetDk rfl (at_new (by kernel_rfl) 8 (Nat.le_of_ble_eq_true rfl) rfl (by decide) (hdep 8 (dep_of (by kernel_rfl)))) (at_new (by kernel_rfl) 6 (Nat.le_of_ble_eq_true rfl) rfl (by decide) (hdep 6 (dep_of (by kernel_rfl)))) (hI.f8 (hdep 8 (dep_of (by kernel_rfl)))) (hI.f6 (hdep 6 (dep_of (by kernel_rfl)))) ?_⟩
      intro g cs ds hg hBg hN hS
      exact ⟨_, rfl, ⟨below_row hI.G hBg hI.G.size ds, hI.f0, fun a => (hI.f1 a).row hg, hI.f2, hI.f3, fun a => (hI.f4 a).row hg, fun a => (hI.f5 a).row hg, fun a => (hI.f6 a).row hg, hI.f7, fun _ => hN, fun _ => hS, hI.f10, fun _ => (hdep 8 (dep_of (by kernel_rfl)))⟩⟩
    · obtain rfl := Option.some.inj hoi
      refine ⟨rfl, wpAssT rfl ((at_new (by kernel_rfl) 7 (Nat.le_of_ble_eq_true rfl) rfl (by decide) (hdep 7 (dep_of (by kernel_rfl)))).trans (hI.f7 (hdep 7 (dep_of (by kernel_rfl))))) ⟨_, rfl, ?_⟩⟩
      exact ⟨hI.G, hI.f0, hI.f1, hI.f2, hI.f3, hI.f4, hI.f5, hI.f6, hI.f7, hI.f8, hI.f9, fun _ => rfl, hI.gS⟩
  intro v w3 hI
  obtain ⟨gW, s1, s2, s3, ek, hBg, hrow, hd, hap⟩ := hI.f9 rfl
  have eR := hI.f10 rfl
  have hb9 := hI.G
  clear hI
  simp only [Go.My.putL, Nat.zero_add, Nat.reduceAdd, ek, eR, Act.put, List.setIfInBounds_toArray, List.set_cons_zero, List.set_cons_succ]
  generalize v 0 = y0 at *
  generalize v 1 = y1 at *
  generalize v 2 = y2 at *
  generalize v 3 = y3 at *
  generalize v 4 = y4 at *
  generalize v 5 = y5 at *
  generalize v 6 = y6 at *
  generalize v 7 = y7 at *
  clear ek eR
  have HW := Lib.hid hrow
  have HS := Lib.hid (hd.mono HB.out.size)
  have HA := Lib.hid ((hb9.block _ (Array.getElem?_eq_some_iff.1 HA.out).1).trans HA.out)
  have HO := Lib.hid ((hb9.block _ (Array.getElem?_eq_some_iff.1 HO.out).1).trans HO.out)
  have HB := Lib.hid (HB.out.trans (hb9.mono HB.out.size))
  obtain ⟨s1, s1c, rfl, _⟩ := HS.out.live.open
  obtain ⟨s2, s2c, rfl, _⟩ := HS.out.safe.open
  obtain ⟨s3, s3c, rfl, _⟩ := HS.out.ops.open
  clear hb9 hd hap hrow hBg CTR CSR
  obtain ⟨⟨b0, b1, b2⟩, _⟩ := dk_cells HA.out
  go_wp2_with fail
  refine (CT.out _ (by exact HB.out)).mono ?_
  rintro e w4 ⟨x1, x2, x3, rfl, f1, f2, f3, ap, hb4⟩
  have hX : DiskAt _ x1 x2 x3 d w4 := ⟨f1, f2, f3⟩
  have HSZ := Lib.hid HB.out.size
  have HSX := Lib.hid (ap3 HS.out hX (Nat.le_refl _))
  have HW := Lib.hid ((hb4.block _ (Array.getElem?_eq_some_iff.1 HW.out).1).trans HW.out)
  have HA := Lib.hid ((hb4.block _ (Array.getElem?_eq_some_iff.1 HA.out).1).trans HA.out)
  have HO := Lib.hid ((hb4.block _ (Array.getElem?_eq_some_iff.1 HO.out).1).trans HO.out)
  have HS := Lib.hid (HS.out.below hb4)
  have HB := Lib.hid (HB.out.trans (hb4.mono HB.out.size))
  obtain ⟨x1, x1c, rfl, _⟩ := hX.live.open
  obtain ⟨x2, x2c, rfl, _⟩ := hX.safe.open
  obtain ⟨x3, x3c, rfl, _⟩ := hX.ops.open
  have hal : Below w4.heap.size w4 (w4.alloc (.cells #[.slice x1 d.live.length x1c, .slice x2 d.safe.length x2c, .slice x3 d.ops.length x3c] 27)) := (Below.refl _ _).alloc (Nat.le_refl _) _
  have HXB := Lib.hid (heap_alloc_new w4 (.cells #[.slice x1 d.live.length x1c, .slice x2 d.safe.length x2c, .slice x3 d.ops.length x3c] 27))
  have HX := Lib.hid ((hX.mono HSZ.out).below hal)
  have HAPX := Lib.hid ap
  have HA := Lib.hid ((hal.block _ (Array.getElem?_eq_some_iff.1 HA.out).1).trans HA.out)
  have HO := Lib.hid ((hal.block _ (Array.getElem?_eq_some_iff.1 HO.out).1).trans HO.out)
  have HW := Lib.hid ((hal.block _ (Array.getElem?_eq_some_iff.1 HW.out).1).trans HW.out)
  have HS := Lib.hid (HS.out.below hal)
  have HB := Lib.hid (HB.out.trans (hal.mono HB.out.size))
  clear f1 f2 f3 ap hb4 hX hal b0 b1 b2
  go_upto_region 10 with (fail)
  generalize w4.alloc (.cells #[.slice x1 d.live.length x1c, .slice x2 d.safe.length x2c, .slice x3 d.ops.length x3c] 27) = wx at HXB HX HS HW HB HA HO ⊢
  have CIR := Lib.hid (fun W (hW : Below wx.heap.size wx W) => CI.out _ _ _ W ((HX.out.mono (Nat.zero_le _)).below hW))
  refine region_invL 10 [some 37, some 38, some 39, some 40, some 36, some 41, some 42, some 9, none, some 10] (InvI wx (.agg #[.slice x1 d.live.length x1c, .slice x2 d.safe.length x2c, .slice x3 d.ops.length x3c]) (.agg #[.int .i64 k, .string n, .string t, .string x]) (.int .i64 R) d Y) (by kernel_rfl) rfl (by kernel_rfl) (by kernel_rfl) (by kernel_rfl) ?_ ?_ ?_
  · exact ⟨(Below.refl _ _).drew, (fun h => by cases h), (fun h => by cases h), (fun h => by cases h), (fun h => by cases h), (fun h => by cases h), (fun h => by cases h), (fun h => by cases h), (fun h => by cases h), (fun h => by cases h), (fun h => by cases h), (fun h => by cases h)⟩
  · intro i o v L w1 hoi hL hI hdep
    have hi : i < 10 := (Array.getElem?_eq_some_iff.1 hoi).1
    have hc : i = 0 ∨ i = 1 ∨ i = 2 ∨ i = 3 ∨ i = 4 ∨ i = 5 ∨ i = 6 ∨ i = 7 ∨ i = 8 ∨ i = 9 := by omega
    rcases hc with rfl | rfl | rfl | rfl | rfl | rfl | rfl | rfl | rfl | rfl
    · obtain rfl := Option.some.inj hoi
      refine ⟨rfl, wpLoadT rfl (at_old (by kernel_rfl)) (ldDkI ((hI.G.block _ (Array.getElem?_eq_some_iff.1 HXB.out).1).trans HXB.out)) ⟨_, rfl, ?_⟩⟩
      exact ⟨hI.G, fun _ => rfl, hI.f1, hI.f2, hI.f3, hI.f4, hI.f5, hI.f6, hI.f7, hI.f8, hI.f9, hI.gS⟩
    · obtain rfl := Option.some.inj hoi
      refine ⟨rfl, wpLoadT rfl (at_old (by kernel_rfl)) (ldDpL ((hI.G.block _ (Array.getElem?_eq_some_iff.1 HO.out).1).trans HO.out)) ⟨_, rfl, ?_⟩⟩
      exact ⟨hI.G, hI.f0, fun _ => rfl, hI.f2, hI.f3, hI.f4, hI.f5, hI.f6, hI.f7, hI.f8, hI.f9, hI.gS⟩
    · obtain rfl := Option.some.inj hoi
      refine ⟨rfl, wpCallT rfl cfToDOp (argsT1 ((at_new (by kernel_rfl) 1 (Nat.le_of_ble_eq_true rfl) rfl (by decide) (hdep 1 (dep_of (by kernel_rfl)))).trans (hI.f1 (hdep 1 (dep_of (by kernel_rfl)))))) ((COR.out _).mono ?_)⟩
      rintro e w2 ⟨rfl, hb⟩
      have hI := hI.grow hb
      exact ⟨_, rfl, _, rfl, ⟨hI.G, hI.f0, hI.f1, fun _ => rfl, hI.f3, hI.f4, hI.f5, hI.f6, hI.f7, hI.f8, hI.f9, hI.gS⟩⟩
    · obtain rfl := Option.some.inj hoi
      refine ⟨rfl, wpCallT rfl cfIDo (argsT2 ((at_new (by kernel_rfl) 0 (Nat.le_of_ble_eq_true rfl) rfl (by decide) (hdep 0 (dep_of (by kernel_rfl)))).trans (hI.f0 (hdep 0 (dep_of (by kernel_rfl))))) ((at_new (by kernel_rfl) 2 (Nat.le_of_ble_eq_true rfl) rfl (by decide) (hdep 2 (dep_of (by kernel_rfl)))).trans (hI.f2 (hdep 2 (dep_of (by kernel_rfl)))))) ((CIR.out _ hI.G).mono ?_)⟩
      rintro e w2 ⟨u1, u2, u3, rfl, hD, hap, hb⟩
      have hsz := hI.G.size
      have hI := hI.grow hb
      exact ⟨_, rfl, _, rfl, ⟨hI.G, hI.f0, hI.f1, hI.f2, fun _ => ⟨_, rfl, u1, u2, u3, rfl, hD.mono hsz, fun _ => hap⟩, hI.f4, hI.f5, hI.f6, hI.f7, hI.f8, hI.f9, hI.gS⟩⟩
    · obtain rfl := Option.some.inj hoi
      refine ⟨rfl, wpMoveT rfl (at_new (by kernel_rfl) 3 (Nat.le_of_ble_eq_true rfl) rfl (by decide) (hdep 3 (dep_of (by kernel_rfl)))) ⟨_, rfl, ?_⟩⟩
      exact ⟨hI.G, hI.f0, hI.f1, hI.f2, hI.f3, fun _ => hI.f3 (hdep 3 (dep_of (by kernel_rfl))), hI.f5, hI.f6, hI.f7, hI.f8, hI.f9, hI.gS⟩
    · obtain rfl := Option.some.inj hoi
      obtain ⟨x, ex, hx⟩ := hI.f4 (hdep 4 (dep_of (by kernel_rfl)))
      refine ⟨rfl, wpExtT rfl ((at_new (by kernel_rfl) 4 (Nat.le_of_ble_eq_true rfl) rfl (by decide) (hdep 4 (dep_of (by kernel_rfl)))).trans ex) (ext0 _ _ _) ⟨_, rfl, ?_⟩⟩
      exact ⟨hI.G, hI.f0, hI.f1, hI.f2, hI.f3, hI.f4, fun _ => hx, hI.f6, hI.f7, hI.f8, hI.f9, hI.gS⟩
    · obtain rfl := Option.some.inj hoi
      obtain ⟨x, ex, hx⟩ := hI.f4 (hdep 4 (dep_of (by kernel_rfl)))
      refine ⟨rfl, wpExtT rfl ((at_new (by kernel_rfl) 4 (Nat.le_of_ble_eq_true rfl) rfl (by decide) (hdep 4 (dep_of (by kernel_rfl)))).trans ex) (ext1 _ _ _) ⟨_, rfl, ?_⟩⟩
      exact ⟨hI.G, hI.f0, hI.f1, hI.f2, hI.f3, hI.f4, hI.f5, fun _ => rfl, hI.f7, hI.f8, hI.f9, hI.gS⟩
    · obtain rfl := Option.some.inj hoi
      have hI2 := hI.grow ((Below.refl w1.heap.size w1).alloc (Nat.le_refl _) (.cells #[.slice none 0 0, .slice none 0 0, .slice none 0 0] 27))
      refine ⟨rfl, wpAllocT (w' := w1.alloc (.cells #[.slice none 0 0, .slice none 0 0, .slice none 0 0] 27)) rfl (nDisk w1) ⟨_, rfl, ?_⟩⟩
      have nS : L 8 = false := by cases h : L 8 with | false => rfl | true => have := hI.gS h; rw [hL] at this; cases this
      exact ⟨hI2.G, hI2.f0, hI2.f1, hI2.f2, hI2.f3, hI2.f4, hI2.f5, hI2.f6, fun _ => newNew hI.G.size, (fun h => by have h : L 8 = true := h; rw [nS] at h; cases h), hI2.f9, (fun h => by have h : L 8 = true := h; rw [nS] at h; cases h)⟩
    · obtain rfl := Option.some.inj hoi
      refine ⟨rfl, wpSetDk rfl (at_new (by kernel_rfl) 7 (Nat.le_of_ble_eq_true rfl) rfl (by decide) (hdep 7 (dep_of (by kernel_rfl)))) (at_new (by kernel_rfl) 5 (Nat.le_of_ble_eq_true rfl) rfl (by decide) (hdep 5 (dep_of (by kernel_rfl)))) (hI.f7 (hdep 7 (dep_of (by kernel_rfl)))) (hI.f5 (hdep 5 (dep_of (by kernel_rfl)))) ?_⟩
      intro g cs ds hg hBg hN hS
      exact ⟨_, rfl, ⟨below_row hI.G hBg hI.G.size ds, hI.f0, hI.f1, hI.f2, fun a => (hI.f3 a).row hg, fun a => (hI.f4 a).row hg, fun a => (hI.f5 a).row hg, hI.f6, fun _ => hN, fun _ => hS, hI.f9, fun _ => (hdep 7 (dep_of (by kernel_rfl)))⟩⟩
    · obtain rfl := Option.some.inj hoi
      refine ⟨rfl, wpAssT rfl ((at_new (by kernel_rfl) 6 (Nat.le_of_ble_eq_true rfl) rfl (by decide) (hdep 6 (dep_of (by kernel_rfl)))).trans (hI.f6 (hdep 6 (dep_of (by kernel_rfl))))) ⟨_, rfl, ?_⟩⟩
      exact ⟨hI.G, hI.f0, hI.f1, hI.f2, hI.f3, hI.f4, hI.f5, hI.f6, hI.f7, hI.f8, fun _ => rfl, hI.gS⟩
  intro v w5 hI
  obtain ⟨gG, g1, g2, g3, ek, hBg, hrow, hd, hap⟩ := hI.f8 rfl
  have eR := hI.f9 rfl
  have hb9 := hI.G
  clear hI
  simp only [Go.My.putL, Nat.zero_add, Nat.reduceAdd, ek, eR, Act.put, List.setIfInBounds_toArray, List.set_cons_zero, List.set_cons_succ]
  generalize v 0 = y0 at *
  generalize v 1 = y1 at *
  generalize v 2 = y2 at *
  generalize v 3 = y3 at *
  generalize v 4 = y4 at *
  generalize v 5 = y5 at *
  generalize v 6 = y6 at *
  clear ek eR
  have HGB := Lib.hid hrow
  have HSG := Lib.hid (ap3 HS.out hd (Nat.le_refl _))
  have HXG := Lib.hid (ap3 HX.out hd (Nat.le_refl _))
  have HG := Lib.hid (hd.mono HB.out.size)
  have HAPG := Lib.hid (hap rfl)
  have HA := Lib.hid ((hb9.block _ (Array.getElem?_eq_some_iff.1 HA.out).1).trans HA.out)
  have HO := Lib.hid ((hb9.block _ (Array.getElem?_eq_some_iff.1 HO.out).1).trans HO.out)
  have HW := Lib.hid ((hb9.block _ (Array.getElem?_eq_some_iff.1 HW.out).1).trans HW.out)
  have HXB := Lib.hid ((hb9.block _ (Array.getElem?_eq_some_iff.1 HXB.out).1).trans HXB.out)
  have HS := Lib.hid (HS.out.below hb9)
  have HX := Lib.hid (HX.out.below hb9)
  have HB := Lib.hid (HB.out.trans (hb9.mono HB.out.size))
  obtain ⟨g1, g1c, rfl, _⟩ := HG.out.live.open
  obtain ⟨g2, g2c, rfl, _⟩ := HG.out.safe.open
  obtain ⟨g3, g3c, rfl, _⟩ := HG.out.ops.open
  clear hb9 hd hap hrow hBg CIR
  obtain ⟨⟨e0, e1, e2⟩, _⟩ := dk_cells HGB.out
  obtain ⟨⟨k0, k1, k2⟩, _⟩ := dk_cells HW.out
  go_wp2_with fail
  refine (eqDisk_same _ _ _ _ _ _ Y _ (HG.out.mono (Nat.zero_le _)) (HS.out.mono (Nat.zero_le _)) HSM.out).mono ?_
  rintro e w7 ⟨rfl, hb7⟩
  have HA := Lib.hid ((hb7.block _ (Array.getElem?_eq_some_iff.1 HA.out).1).trans HA.out)
  have HO := Lib.hid ((hb7.block _ (Array.getElem?_eq_some_iff.1 HO.out).1).trans HO.out)
  have HW := Lib.hid ((hb7.block _ (Array.getElem?_eq_some_iff.1 HW.out).1).trans HW.out)
  have HXB := Lib.hid ((hb7.block _ (Array.getElem?_eq_some_iff.1 HXB.out).1).trans HXB.out)
  have HGB := Lib.hid ((hb7.block _ (Array.getElem?_eq_some_iff.1 HGB.out).1).trans HGB.out)
  have HS := Lib.hid (HS.out.below hb7)
  have HX := Lib.hid (HX.out.below hb7)
  have HG := Lib.hid (HG.out.below hb7)
  have HB := Lib.hid (HB.out.trans (hb7.mono HB.out.size))
  clear hb7 e0 e1 e2 k0 k1 k2
  have CTR := Lib.hid (fun W (hW : Below w7.heap.size w7 W) => CT.out W (HB.out.trans (hW.mono HB.out.size)))
  have CEQ := Lib.hid (fun y1 y2 y3 W (hW : Below w7.heap.size w7 W) (hY : DiskAt w7.heap.size y1 y2 y3 d W) => eqDisk_same _ _ _ y1 y2 y3 d W ((HX.out.below hW).mono (Nat.zero_le _)) (hY.mono (Nat.zero_le _)) HF.out.small)
  go_upto_region 13 with (fail)
  refine region_invL 5 [some 52, some 53, some 54, some 55, some 56] (InvE w7 (.agg #[.slice p1 d.live.length m1, .slice p2 d.safe.length m2, .slice p3 d.ops.length m3]) (.agg #[.int .i64 k, .string n, .string t, .string x]) (.agg #[.slice x1 d.live.length x1c, .slice x2 d.safe.length x2c, .slice x3 d.ops.length x3c]) d Y) (by kernel_rfl) rfl (by kernel_rfl) (by kernel_rfl) (by kernel_rfl) ?_ ?_ ?_
  · exact ⟨(Below.refl _ _).drew, (fun h => by cases h), (fun h => by cases h), (fun h => by cases h), (fun h => by cases h), (fun h => by cases h), trivial⟩
  · intro i o v L w1 hoi hL hI hdep
    have hi : i < 5 := (Array.getElem?_eq_some_iff.1 hoi).1
    have hc : i = 0 ∨ i = 1 ∨ i = 2 ∨ i = 3 ∨ i = 4 := by omega
    rcases hc with rfl | rfl | rfl | rfl | rfl
    · obtain rfl := Option.some.inj hoi
      refine ⟨rfl, wpLoadT rfl (at_old (by kernel_rfl)) (ldDkI ((hI.G.block _ (Array.getElem?_eq_some_iff.1 HXB.out).1).trans HXB.out)) ⟨_, rfl, ?_⟩⟩
      exact ⟨hI.G, fun _ => rfl, hI.f1, hI.f2, hI.f3, hI.f4, hI.gS⟩
    · obtain rfl := Option.some.inj hoi
      refine ⟨rfl, wpLoadT rfl (at_old (by kernel_rfl)) (ldDkL ((hI.G.block _ (Array.getElem?_eq_some_iff.1 HA.out).1).trans HA.out)) ⟨_, rfl, ?_⟩⟩
      exact ⟨hI.G, hI.f0, fun _ => rfl, hI.f2, hI.f3, hI.f4, hI.gS⟩
    · obtain rfl := Option.some.inj hoi
      refine ⟨rfl, wpCallT rfl cfToDisk (argsT1 ((at_new (by kernel_rfl) 1 (Nat.le_of_ble_eq_true rfl) rfl (by decide) (hdep 1 (dep_of (by kernel_rfl)))).trans (hI.f1 (hdep 1 (dep_of (by kernel_rfl)))))) ((CTR.out _ hI.G).mono ?_)⟩
      rintro e w2 ⟨x, y, z, rfl, g1, g2, g3, hap, hb⟩
      have hsz := hI.G.size
      have hI := hI.grow hb
      exact ⟨_, rfl, _, rfl, ⟨hI.G, hI.f0, hI.f1, fun _ => ⟨x, y, z, rfl, ⟨g1.mono hsz, g2.mono hsz, g3.mono hsz⟩, fun _ => hap⟩, hI.f3, hI.f4, hI.gS⟩⟩
    · obtain rfl := Option.some.inj hoi
      obtain ⟨x, y, z, ex, hx, _⟩ := hI.f2 (hdep 2 (dep_of (by kernel_rfl)))
      refine ⟨rfl, wpCallT rfl cfEqDisk (argsT2 ((at_new (by kernel_rfl) 0 (Nat.le_of_ble_eq_true rfl) rfl (by decide) (hdep 0 (dep_of (by kernel_rfl)))).trans (hI.f0 (hdep 0 (dep_of (by kernel_rfl))))) ((at_new (by kernel_rfl) 2 (Nat.le_of_ble_eq_true rfl) rfl (by decide) (hdep 2 (dep_of (by kernel_rfl)))).trans ex)) ((CEQ.out x y z _ hI.G hx).mono ?_)⟩
      rintro e w2 ⟨rfl, hb⟩
      have hI := hI.grow hb
      exact ⟨_, rfl, _, rfl, ⟨hI.G, hI.f0, hI.f1, hI.f2, fun _ => rfl, hI.f4, hI.gS⟩⟩
    · obtain rfl := Option.some.inj hoi
      refine ⟨rfl, wpUnT rfl ((at_new (by kernel_rfl) 3 (Nat.le_of_ble_eq_true rfl) rfl (by decide) (hdep 3 (dep_of (by kernel_rfl)))).trans (hI.f3 (hdep 3 (dep_of (by kernel_rfl))))) (notT _) ⟨_, rfl, ?_⟩⟩
      exact ⟨hI.G, hI.f0, hI.f1, hI.f2, hI.f3, fun _ => rfl, hI.gS⟩
  intro v w8 hI
  have eR := hI.f4 rfl
  have hb9 := hI.G
  clear hI
  simp only [Go.My.putL, Nat.zero_add, Nat.reduceAdd, eR, Act.put, List.setIfInBounds_toArray, List.set_cons_zero, List.set_cons_succ]
  generalize v 0 = y0 at *
  generalize v 1 = y1 at *
  generalize v 2 = y2 at *
  generalize v 3 = y3 at *
  clear eR
  have HA := Lib.hid ((hb9.block _ (Array.getElem?_eq_some_iff.1 HA.out).1).trans HA.out)
  have HO := Lib.hid ((hb9.block _ (Array.getElem?_eq_some_iff.1 HO.out).1).trans HO.out)
  have HW := Lib.hid ((hb9.block _ (Array.getElem?_eq_some_iff.1 HW.out).1).trans HW.out)
  have HXB := Lib.hid ((hb9.block _ (Array.getElem?_eq_some_iff.1 HXB.out).1).trans HXB.out)
  have HGB := Lib.hid ((hb9.block _ (Array.getElem?_eq_some_iff.1 HGB.out).1).trans HGB.out)
  have HS := Lib.hid (HS.out.below hb9)
  have HX := Lib.hid (HX.out.below hb9)
  have HG := Lib.hid (HG.out.below hb9)
  have HB := Lib.hid (HB.out.trans (hb9.mono HB.out.size))
  clear hb9 CTR CEQ
  obtain ⟨K, hK⟩ : ∃ K, 1 + d.many = K := ⟨_, rfl⟩
  obtain ⟨M, hM⟩ : ∃ M, 1 + Y.many = M := ⟨_, rfl⟩
  have kk : ¬ (K : Int) < 0 := by omega
  have mm : ¬ (M : Int) < 0 := by omega
  have CMX := Lib.hid (markOne (.slice x1 d.live.length x1c) (.slice x2 d.safe.length x2c) (.slice x3 d.ops.length x3c) d K hK HAPX.out (hK ▸ HM.out.2))
  have CMG := Lib.hid (markOne (.slice g1 Y.live.length g1c) (.slice g2 Y.safe.length g2c) (.slice g3 Y.ops.length g3c) Y M hM HAPG.out (hM ▸ HM.out.1))
  have CH := Lib.hid (heldOne (.slice g1 Y.live.length g1c) (.slice g2 Y.safe.length g2c) (.slice g3 Y.ops.length g3c) Y M hM (hM ▸ HM.out.1))
  clear hK hM
  obtain ⟨⟨c0, c1, c2⟩, _⟩ := dk_cells HXB.out
  go_wp2_with fail
  refine (CMX.out _ (HX.out.mono (Nat.zero_le _))).mono ?_
  rintro e wm ⟨rfl, _, gr⟩
  have HA := Lib.hid (grow3_blk gr HX.out HA.out (by decide) (by decide))
  have HO := Lib.hid (grow3_blk gr HX.out HO.out (by decide) (by decide))
  have HW := Lib.hid (grow3_blk gr HX.out HW.out (by decide) (by decide))
  have HGB := Lib.hid (grow3_blk gr HX.out HGB.out (by decide) (by decide))
  have HS := Lib.hid (grow3_disk gr HS.out HSX.out)
  have HG := Lib.hid (grow3_disk gr HG.out HXG.out.symm)
  have HB := Lib.hid (grow3_below gr HX.out HB.out HB.out.size)
  clear gr c0 c1 c2
  obtain ⟨⟨e0, e1, e2⟩, _⟩ := dk_cells HGB.out
  obtain ⟨⟨k0, k1, k2⟩, _⟩ := dk_cells HW.out
  go_wp2_with fail
  refine (eqDisk_same _ _ _ _ _ _ Y _ (HG.out.mono (Nat.zero_le _)) (HS.out.mono (Nat.zero_le _)) HSM.out).mono ?_
  rintro e wn ⟨rfl, hb10⟩
  have HA := Lib.hid ((hb10.block _ (Array.getElem?_eq_some_iff.1 HA.out).1).trans HA.out)
  have HO := Lib.hid ((hb10.block _ (Array.getElem?_eq_some_iff.1 HO.out).1).trans HO.out)
  have HW := Lib.hid ((hb10.block _ (Array.getElem?_eq_some_iff.1 HW.out).1).trans HW.out)
  have HGB := Lib.hid ((hb10.block _ (Array.getElem?_eq_some_iff.1 HGB.out).1).trans HGB.out)
  have HS := Lib.hid (HS.out.below hb10)
  have HG := Lib.hid (HG.out.below hb10)
  have HB := Lib.hid (HB.out.trans (hb10.mono HB.out.size))
  clear hb10 e0 e1 e2 k0 k1 k2
  obtain ⟨⟨e0, e1, e2⟩, _⟩ := dk_cells HGB.out
  go_wp2_with fail
  refine (CMG.out _ (HG.out.mono (Nat.zero_le _))).mono ?_
  rintro e wo ⟨rfl, hGm, gr⟩
  have HA := Lib.hid (grow3_blk gr HG.out HA.out (by decide) (by decide))
  have HO := Lib.hid (grow3_blk gr HG.out HO.out (by decide) (by decide))
  have HW := Lib.hid (grow3_blk gr HG.out HW.out (by decide) (by decide))
  have HGB := Lib.hid (grow3_blk gr HG.out HGB.out (by decide) (by decide))
  have HS := Lib.hid (grow3_disk gr HS.out HSG.out)
  have HB := Lib.hid (grow3_below gr HG.out HB.out HB.out.size)
  have HGM := Lib.hid hGm
  clear gr hGm e0 e1 e2
  obtain ⟨⟨e0, e1, e2⟩, _⟩ := dk_cells HGB.out
  go_wp2_with fail
  refine (CH.out _ HGM.out).mono ?_
  rintro e wp ⟨rfl, hb11⟩
  have HA := Lib.hid ((hb11.block _ (Array.getElem?_eq_some_iff.1 HA.out).1).trans HA.out)
  have HO := Lib.hid ((hb11.block _ (Array.getElem?_eq_some_iff.1 HO.out).1).trans HO.out)
  have HW := Lib.hid ((hb11.block _ (Array.getElem?_eq_some_iff.1 HW.out).1).trans HW.out)
  have HGB := Lib.hid ((hb11.block _ (Array.getElem?_eq_some_iff.1 HGB.out).1).trans HGB.out)
  have HS := Lib.hid (HS.out.below hb11)
  have HGM := Lib.hid (HGM.out.below hb11)
  have HB := Lib.hid (HB.out.trans (hb11.mono HB.out.size))
  clear hb11 e0 e1 e2
  go_upto_region 27 with (fail)
  have CTR := Lib.hid (fun W (hW : Below wp.heap.size wp W) => CT.out W (HB.out.trans (hW.mono HB.out.size)))
  have CHR := Lib.hid (fun x1 x2 x3 W (hW : Below wp.heap.size wp W) (hX : DiskAt wp.heap.size x1 x2 x3 d W) => CI.out x1 x2 x3 W (hX.mono (Nat.zero_le _)))
  refine region_invL 11 [some 85, some 86, some 87, some 88, some 89, some 84, some 90, some 91, some 14, none, some 15] (InvH wp (.agg #[.slice p1 d.live.length m1, .slice p2 d.safe.length m2, .slice p3 d.ops.length m3]) (.agg #[.int .i64 k, .string n, .string t, .string x]) (.int .i64 R) d Y) (by kernel_rfl) rfl (by kernel_rfl) (by kernel_rfl) (by kernel_rfl) ?_ ?_ ?_
  · exact ⟨(Below.refl _ _).drew, (fun h => by cases h), (fun h => by cases h), (fun h => by cases h), (fun h => by cases h), (fun h => by cases h), (fun h => by cases h), (fun h => by cases h), (fun h => by cases h), (fun h => by cases h), (fun h => by cases h), (fun h => by cases h), (fun h => by cases h)⟩
  · intro i o v L w1 hoi hL hI hdep
    have hi : i < 11 := (Array.getElem?_eq_some_iff.1 hoi).1
    have hc : i = 0 ∨ i = 1 ∨ i = 2 ∨ i = 3 ∨ i = 4 ∨ i = 5 ∨ i = 6 ∨ i = 7 ∨ i = 8 ∨ i = 9 ∨ i = 10 := by omega
    rcases hc with rfl | rfl | rfl | rfl | rfl | rfl | rfl | rfl | rfl | rfl | rfl
    · obtain rfl := Option.some.inj hoi
      refine ⟨rfl, wpLoadT rfl (at_old (by kernel_rfl)) (ldDkL ((hI.G.block _ (Array.getElem?_eq_some_iff.1 HA.out).1).trans HA.out)) ⟨_, rfl, ?_⟩⟩
      exact ⟨hI.G, fun _ => rfl, hI.f1, hI.f2, hI.f3, hI.f4, hI.f5, hI.f6, hI.f7, hI.f8, hI.f9, hI.f10, hI.gS⟩
    · obtain rfl := Option.some.inj hoi
      refine ⟨rfl, wpCallT rfl cfToDisk (argsT1 ((at_new (by kernel_rfl) 0 (Nat.le_of_ble_eq_true rfl) rfl (by decide) (hdep 0 (dep_of (by kernel_rfl)))).trans (hI.f0 (hdep 0 (dep_of (by kernel_rfl)))))) ((CTR.out _ hI.G).mono ?_)⟩
      rintro e w2 ⟨x, y, z, rfl, g1, g2, g3, hap, hb⟩
      have hsz := hI.G.size
      have hI := hI.grow hb
      exact ⟨_, rfl, _, rfl, ⟨hI.G, hI.f0, fun _ => ⟨x, y, z, rfl, ⟨g1.mono hsz, g2.mono hsz, g3.mono hsz⟩, fun _ => hap⟩, hI.f2, hI.f3, hI.f4, hI.f5, hI.f6, hI.f7, hI.f8, hI.f9, hI.f10, hI.gS⟩⟩
    · obtain rfl := Option.some.inj hoi
      refine ⟨rfl, wpLoadT rfl (at_old (by kernel_rfl)) (ldDpL ((hI.G.block _ (Array.getElem?_eq_some_iff.1 HO.out).1).trans HO.out)) ⟨_, rfl, ?_⟩⟩
      exact ⟨hI.G, hI.f0, hI.f1, fun _ => rfl, hI.f3, hI.f4, hI.f5, hI.f6, hI.f7, hI.f8, hI.f9, hI.f10, hI.gS⟩
    · obtain rfl := Option.some.inj hoi
      refine ⟨rfl, wpCallT rfl cfToDOp (argsT1 ((at_new (by kernel_rfl) 2 (Nat.le_of_ble_eq_true rfl) rfl (by decide) (hdep 2 (dep_of (by kernel_rfl)))).trans (hI.f2 (hdep 2 (dep_of (by kernel_rfl)))))) ((COR.out _).mono ?_)⟩
      rintro e w2 ⟨rfl, hb⟩
      have hI := hI.grow hb
      exact ⟨_, rfl, _, rfl, ⟨hI.G, hI.f0, hI.f1, hI.f2, fun _ => rfl, hI.f4, hI.f5, hI.f6, hI.f7, hI.f8, hI.f9, hI.f10, hI.gS⟩⟩
    · obtain rfl := Option.some.inj hoi
      obtain ⟨x, y, z, ex, hx, _⟩ := hI.f1 (hdep 1 (dep_of (by kernel_rfl)))
      refine ⟨rfl, wpCallT rfl cfIDo (argsT2 ((at_new (by kernel_rfl) 1 (Nat.le_of_ble_eq_true rfl) rfl (by decide) (hdep 1 (dep_of (by kernel_rfl)))).trans ex) ((at_new (by kernel_rfl) 3 (Nat.le_of_ble_eq_true rfl) rfl (by decide) (hdep 3 (dep_of (by kernel_rfl)))).trans (hI.f3 (hdep 3 (dep_of (by kernel_rfl)))))) ((CHR.out x y z _ hI.G hx).mono ?_)⟩
      rintro e w2 ⟨u1, u2, u3, rfl, hD, hap, hb⟩
      have hsz := hI.G.size
      have hI := hI.grow hb
      exact ⟨_, rfl, _, rfl, ⟨hI.G, hI.f0, hI.f1, hI.f2, hI.f3, fun _ => ⟨_, rfl, u1, u2, u3, rfl, hD.mono hsz, fun _ => hap⟩, hI.f5, hI.f6, hI.f7, hI.f8, hI.f9, hI.f10, hI.gS⟩⟩
    · obtain rfl := Option.some.inj hoi
      refine ⟨rfl, wpMoveT rfl (at_new (by kernel_rfl) 4 (Nat.le_of_ble_eq_true rfl) rfl (by decide) (hdep 4 (dep_of (by kernel_rfl)))) ⟨_, rfl, ?_⟩⟩
      exact ⟨hI.G, hI.f0, hI.f1, hI.f2, hI.f3, hI.f4, fun _ => hI.f4 (hdep 4 (dep_of (by kernel_rfl))), hI.f6, hI.f7, hI.f8, hI.f9, hI.f10, hI.gS⟩
    · obtain rfl := Option.some.inj hoi
      obtain ⟨x, ex, hx⟩ := hI.f5 (hdep 5 (dep_of (by kernel_rfl)))
      refine ⟨rfl, wpExtT rfl ((at_new (by kernel_rfl) 5 (Nat.le_of_ble_eq_true rfl) rfl (by decide) (hdep 5 (dep_of (by kernel_rfl)))).trans ex) (ext0 _ _ _) ⟨_, rfl, ?_⟩⟩
      exact ⟨hI.G, hI.f0, hI.f1, hI.f2, hI.f3, hI.f4, hI.f5, fun _ => hx, hI.f7, hI.f8, hI.f9, hI.f10, hI.gS⟩
    · obtain rfl := Option.some.inj hoi
      obtain ⟨x, ex, hx⟩ := hI.f5 (hdep 5 (dep_of (by kernel_rfl)))
      refine ⟨rfl, wpExtT rfl ((at_new (by kernel_rfl) 5 (Nat.le_of_ble_eq_true rfl) rfl (by decide) (hdep 5 (dep_of (by kernel_rfl)))).trans ex) (ext1 _ _ _) ⟨_, rfl, ?_⟩⟩
      exact ⟨hI.G, hI.f0, hI.f1, hI.f2, hI.f3, hI.f4, hI.f5, hI.f6, fun _ => rfl, hI.f8, hI.f9, hI.f10, hI.gS⟩
    · obtain rfl := Option.some.inj hoi
      have hI2 := hI.grow ((Below.refl w1.heap.size w1).alloc (Nat.le_refl _) (.cells #[.slice none 0 0, .slice none 0 0, .slice none 0 0] 27))
      refine ⟨rfl, wpAllocT (w' := w1.alloc (.cells #[.slice none 0 0, .slice none 0 0, .slice none 0 0] 27)) rfl (nDisk w1) ⟨_, rfl, ?_⟩⟩
      have nS : L 9 = false := by cases h : L 9 with | false => rfl | true => have := hI.gS h; rw [hL] at this; cases this
      exact ⟨hI2.G, hI2.f0, hI2.f1, hI2.f2, hI2.f3, hI2.f4, hI2.f5, hI2.f6, hI2.f7, fun _ => newNew hI.G.size, (fun h => by have h : L 9 = true := h; rw [nS] at h; cases h), hI2.f10, (fun h => by have h : L 9 = true := h; rw [nS] at h; cases h)⟩
    · obtain rfl := Option.some.inj hoi
      refine ⟨rfl, wpSetDk rfl (at_new (by kernel_rfl) 8 (Nat.le_of_ble_eq_true rfl) rfl (by decide) (hdep 8 (dep_of (by kernel_rfl)))) (at_new (by kernel_rfl) 6 (Nat.le_of_ble_eq_true rfl) rfl (by decide) (hdep 6 (dep_of (by kernel_rfl)))) (hI.f8 (hdep 8 (dep_of (by kernel_rfl)))) (hI.f6 (hdep 6 (dep_of (by kernel_rfl)))) ?_⟩
      intro g cs ds hg hBg hN hS
      exact ⟨_, rfl, ⟨below_row hI.G hBg hI.G.size ds, hI.f0, fun a => (hI.f1 a).row hg, hI.f2, hI.f3, fun a => (hI.f4 a).row hg, fun a => (hI.f5 a).row hg, fun a => (hI.f6 a).row hg, hI.f7, fun _ => hN, fun _ => hS, hI.f10, fun _ => (hdep 8 (dep_of (by kernel_rfl)))⟩⟩
    · obtain rfl := Option.some.inj hoi
      refine ⟨rfl, wpAssT rfl ((at_new (by kernel_rfl) 7 (Nat.le_of_ble_eq_true rfl) rfl (by decide) (hdep 7 (dep_of (by kernel_rfl)))).trans (hI.f7 (hdep 7 (dep_of (by kernel_rfl))))) ⟨_, rfl, ?_⟩⟩
      exact ⟨hI.G, hI.f0, hI.f1, hI.f2, hI.f3, hI.f4, hI.f5, hI.f6, hI.f7, hI.f8, hI.f9, fun _ => rfl, hI.gS⟩
  intro v wr hI
  obtain ⟨gH, h1, h2, h3, ek, hBg, hrow, hd, hap⟩ := hI.f9 rfl
  have eR := hI.f10 rfl
  have hb9 := hI.G
  clear hI
  simp only [Go.My.putL, Nat.zero_add, Nat.reduceAdd, ek, eR, Act.put, List.setIfInBounds_toArray, List.set_cons_zero, List.set_cons_succ]
  generalize v 0 = y0 at *
  generalize v 1 = y1 at *
  generalize v 2 = y2 at *
  generalize v 3 = y3 at *
  generalize v 4 = y4 at *
  generalize v 5 = y5 at *
  generalize v 6 = y6 at *
  generalize v 7 = y7 at *
  clear ek eR
  have HHB := Lib.hid hrow
  have HH := Lib.hid (hd.mono (Nat.zero_le _))
  have HA := Lib.hid ((hb9.block _ (Array.getElem?_eq_some_iff.1 HA.out).1).trans HA.out)
  have HO := Lib.hid ((hb9.block _ (Array.getElem?_eq_some_iff.1 HO.out).1).trans HO.out)
  have HW := Lib.hid ((hb9.block _ (Array.getElem?_eq_some_iff.1 HW.out).1).trans HW.out)
  have HGB := Lib.hid ((hb9.block _ (Array.getElem?_eq_some_iff.1 HGB.out).1).trans HGB.out)
  have HS := Lib.hid (HS.out.below hb9)
  have HGM := Lib.hid (HGM.out.below hb9)
  have HB := Lib.hid (HB.out.trans (hb9.mono HB.out.size))
  obtain ⟨h1, h1c, rfl, _⟩ := HH.out.live.open
  obtain ⟨h2, h2c, rfl, _⟩ := HH.out.safe.open
  obtain ⟨h3, h3c, rfl, _⟩ := HH.out.ops.open
  clear hb9 hd hap hrow hBg CTR CHR
  obtain ⟨⟨e0, e1, e2⟩, _⟩ := dk_cells HHB.out
  obtain ⟨⟨k0, k1, k2⟩, _⟩ := dk_cells HW.out
  go_wp2_with fail
  refine (eqDisk_same _ _ _ _ _ _ Y _ HH.out (HS.out.mono (Nat.zero_le _)) HSM.out).mono ?_
  rintro e ws ⟨rfl, hb14⟩
  have HA := Lib.hid ((hb14.block _ (Array.getElem?_eq_some_iff.1 HA.out).1).trans HA.out)
  have HO := Lib.hid ((hb14.block _ (Array.getElem?_eq_some_iff.1 HO.out).1).trans HO.out)
  have HW := Lib.hid ((hb14.block _ (Array.getElem?_eq_some_iff.1 HW.out).1).trans HW.out)
  have HGB := Lib.hid ((hb14.block _ (Array.getElem?_eq_some_iff.1 HGB.out).1).trans HGB.out)
  have HS := Lib.hid (HS.out.below hb14)
  have HGM := Lib.hid (HGM.out.below hb14)
  have HB := Lib.hid (HB.out.trans (hb14.mono HB.out.size))
  clear hb14 e0 e1 e2 k0 k1 k2
  obtain ⟨⟨e0, e1, e2⟩, _⟩ := dk_cells HGB.out
  go_wp2_with fail
  refine (CH.out _ HGM.out).mono ?_
  rintro e wt ⟨rfl, hb15⟩
  have HB := Lib.hid (HB.out.trans (hb15.mono HB.out.size))
  clear hb15 e0 e1 e2
  go_wp2
  go_ret
  exact ⟨rfl, HB.out⟩

set_option maxRecDepth 100000 in
theorem lifted (os : Os) (started : os.Started) (H : Type) (enc : TypeId × Value → H) :
    ReturnsInHanded {} Try.checked os 8 .any (Rows.fnExactDoSpec.pre6 enc Try.prog Try.f8 Rows.fnExactDoRow.domain false) (Rows.fnExactDoSpec.post enc Try.prog Try.f8 false true false false) := by
  refine returnsInHanded_of_change (C := Try.checked) own started (by kernel_rfl) Try.func8
    (ChangeSpec.witness6 (enc := enc) (C := Try.checked) false ⟨#[], #[.agg #[.slice none 0 0, .slice none 0 0, .slice none 0 0], .agg #[.int .i64 0, .string ByteArray.empty, .string ByteArray.empty, .string ByteArray.empty]], []⟩ 8 (by kernel_rfl) (by kernel_rfl) (by kernel_rfl) (by kernel_rfl)) ?_
  intro W base args ds gs before hval0 hW hcnd _
  have hval : ∀ (j : Nat) t v, Try.f8.params[j]? = some t → args[j]? = some v → Value.okWide Try.prog W .any base t v := hval0
  have hW' := hW
  obtain ⟨p, q, hA0, hV, rfl, hfz, hnd⟩ := hW
  have hA : DataW.TrodAll enc Try.prog W 0 (fun _ => true) true Try.f8.params.toList args.toList ds p := hA0
  rw [Try.params8] at hA hval
  obtain ⟨v0, vs0, d0, ds0, p0, q0, hargs, rfl, rfl, h0, r0⟩ := trodAll_cons hA
  obtain ⟨v1, vs1, d1, ds1, p1, q1, rfl, rfl, rfl, h1, r1⟩ := trodAll_cons r0
  obtain ⟨rfl, rfl, rfl⟩ := trodAll_nil r1
  obtain rfl : args = #[v0, v1] := by cases args; simp_all
  obtain ⟨rfl, rfl⟩ := trodVars_none hV
  have k0 := h0
  have lt0 : ∀ x ∈ p0, x.block < W.heap.size := by obtain ⟨m, hm⟩ := k0; exact DataW.trod_lt m _ _ _ hm
  obtain ⟨a0, b0, c0, D0, rfl, w0⟩ := disk_open (hval 0 56 v0 rfl rfl) h0
  have k1 := h1
  have lt1 : ∀ x ∈ p1, x.block < W.heap.size := by obtain ⟨m, hm⟩ := k1; exact DataW.trod_lt m _ _ _ hm
  obtain ⟨a1, b1, c1, e1, rfl, w1⟩ := dop_open (hval 1 61 v1 rfl rfl) h1
  clear hA0 hval0
  refine (walk W a0 b0 c0 D0 w0 a1 b1 c1 e1 w1).mono fun e W' ⟨he, bel⟩ => ?_
  subst he
  exact ⟨_, rfl, _, _, _, [], _, [], hW', trodAll_mk1 (shut_bool Try.underlying4 _), (trodAll_cons_mk (Below.trod laidOut (by kernel_rfl) (of_decide_eq_true (by kernel_rfl)) k0 bel lt0) (trodAll_cons_mk (Below.trod laidOut (by kernel_rfl) (of_decide_eq_true (by kernel_rfl)) k1 bel lt1) trodAll_mk0)), rfl, bel.frame _, fun h => by cases h⟩

theorem proved : Rows.FnExactDoSaid :=
  OpenClaim.holds_of_wide 8 Try.f8 rfl rfl rfl rfl rfl rfl rfl ⟨rfl, rfl, rfl, rfl, rfl⟩ rfl rfl rfl rfl rfl (by kernel_rfl) Try.func8 (by kernel_rfl)
    (of_decide_eq_true (by kernel_rfl)) (by unfold Func.isWrapper; first | (rw [if_pos (by decide +kernel)]; kernel_rfl) | (rw [if_neg (by decide +kernel)]; exact ⟨rfl, rfl⟩))
    (fun os started H enc _ => lifted os started H enc)
end Go.Proofs.Ytepefbfmjjnamaa.fnExactDo

/- Proved: for every argument FnExactReplace returns true: the program's Replace answers as the specification's, in every field; it leaves its arguments as they were, and its answer owns its memory (arguments of more than 2^20 in all are passed over by the law itself). No condition. -/
import Derived.Test.YtepefbfmjjnamaaRows
import Derived.WalkKit
import Derived.ProofKit
import Derived.OpenShut
import Derived.ShutString
import Derived.ChangeOld
import Derived.Below
import Derived.Test.YtepefbfmjjnamaaDkR
import Derived.Test.YtepefbfmjjnamaaMrgB
namespace Go.Proofs.Ytepefbfmjjnamaa.fnExactReplace
open Go.ChangeShapes Go.WideShapes Go.ChangeAt Go.RowKit Go.My
open Go.ChangeMaps (open_string shut_string)
set_option linter.unusedVariables false

theorem own : ownKnob Try.prog.godebug = none := by kernel_rfl
theorem laidOut : laidOutB Try.prog = true := by kernel_rfl

structure InvE (W1 : World) (A N X R : Value) (d D : DiskT) (v : Nat → Value) (L : Nat → Bool) (w : World) : Prop where
  G : Below W1.heap.size W1 w
  f0 : L 0 = true → v 0 = R
  f1 : L 1 = true → v 1 = A
  f2 : L 2 = true → DkV W1.heap.size d true (v 2) w
  f3 : L 3 = true → v 3 = .bool true
  f4 : L 4 = true → v 4 = .bool false
  gS : True
theorem InvE.grow {W1 : World} {A N X R : Value} {d D : DiskT} {v : Nat → Value} {L : Nat → Bool} {w w' : World} (h : InvE W1 A N X R d D v L w) (hb : Below w.heap.size w w') : InvE W1 A N X R d D v L w' where
  G := h.G.trans (hb.mono h.G.size)
  f0 := h.f0
  f1 := h.f1
  f2 := fun a => (h.f2 a).below hb
  f3 := h.f3
  f4 := h.f4
  gS := h.gS

set_option maxRecDepth 20000 in
set_option maxHeartbeats 8000000 in
theorem walk (w : World) (v1 v2 v3 : Value) (d : DiskT) (h : DiskArg v1 v2 v3 d w) (n : ByteArray) (hn : n.size ≤ maxLen) (x : ByteArray) (hx : x.size ≤ maxLen) :
    Calls Try.prog 12 #[.agg #[v1, v2, v3], .string n, .string x] w fun e w' => e = .returned (.bool true) ∧ Below w.heap.size w w' := by
  have H := Lib.hid h
  have CZ := Lib.hid (fun W (hW : Below w.heap.size w W) => (szDisk_any v1 v2 v3 d 1048576 W (H.out.below hW) (Nat.le_refl _) : Calls Try.prog 35 #[.agg #[v1, v2, v3], .int .i64 1048576] W _))
  obtain ⟨⟨p1, m1, rfl, _⟩, ⟨p2, m2, rfl, _⟩, ⟨p3, m3, rfl, _⟩, _, _, _⟩ := h
  by_cases hn1 : n.size ≤ 1048576
  case neg =>
    have q : (1048576 : Int) < (n.size : Int) := by omega
    go_enter Try.func12, Try.ntmps12
    go_wp2
    go_ret
    exact ⟨rfl, (Below.refl _ _).alloc (Nat.le_refl _) _⟩
  have q1 : ¬ (1048576 : Int) < (n.size : Int) := by omega
  by_cases hx1 : x.size ≤ 1048576
  case neg =>
    have q : (1048576 : Int) < (x.size : Int) := by omega
    go_enter Try.func12, Try.ntmps12
    go_wp2
    go_ret
    exact ⟨rfl, (Below.refl _ _).alloc (Nat.le_refl _) _⟩
  have q2 : ¬ (1048576 : Int) < (x.size : Int) := by omega
  have HW5 := Lib.hid (And.intro hn1 hx1)
  clear hn hx hn1 hx1
  go_enter Try.func12, Try.ntmps12
  go_wp2_with fail
  refine (CZ.out _ ?_).mono ?_
  · exact (Below.refl w.heap.size w).alloc (Nat.le_refl _) _
  rintro e w1 ⟨hres, hb1⟩
  obtain ⟨hB, bA⟩ := boxes1 w _ _ hb1
  have HA := Lib.hid bA
  have HB := Lib.hid hB
  clear hb1 bA hB
  rcases hres with ⟨r, rfl, hr⟩ | rfl
  case inr =>
    go_wp2
    go_ret
    exact ⟨rfl, HB.out⟩
  have q : ¬ (r : Int) < 0 := by omega
  have HF : Hid d.fit := fit_of H.out (by omega)
  have CT := Lib.hid (fun W (hW : Below w.heap.size w W) => toDisk_any _ _ _ d W (H.out.live.below hW) (H.out.safe.below hW) (H.out.ops.below hW) HF.out.small.live HF.out.small.safe HF.out.small.ops)
  have CS := Lib.hid (fun x1 x2 x3 W (hX : DiskAt 0 x1 x2 x3 d W) => repD_s x1 x2 x3 d n x W hX HF.out HW5.out.1 HW5.out.2)
  have CI := Lib.hid (fun x1 x2 x3 W (hX : DiskAt 0 x1 x2 x3 d W) => repD_i x1 x2 x3 d n x W hX HF.out HW5.out.1 HW5.out.2)
  have HM : Hid (1 + (repD d n x).many ≤ 1099511627776 ∧ 1 + d.many ≤ 1099511627776) := ⟨many_small (repD_small HF.out.small), many_small HF.out.small⟩
  have HSM : Hid (repD d n x).small := repD_small HF.out.small
  generalize repD d n x = Y at CS CI HM HSM
  generalize repR d n x = R at CS CI
  clear hr q1 q2
  obtain ⟨⟨b0, b1, b2⟩, _⟩ := dk_cells HA.out
  go_wp2_with fail
  refine (CT.out _ (by exact HB.out)).mono ?_
  rintro e w2 ⟨u1, u2, u3, rfl, f1, f2, f3, _, hb2⟩
  have CSR := Lib.hid (CS.out u1 u2 u3 w2 ⟨f1.mono (Nat.zero_le _), f2.mono (Nat.zero_le _), f3.mono (Nat.zero_le _)⟩)
  have HA := Lib.hid ((hb2.block _ (Array.getElem?_eq_some_iff.1 HA.out).1).trans HA.out)
  have HB := Lib.hid (HB.out.trans (hb2.mono HB.out.size))
  clear f1 f2 f3 hb2 b0 b1 b2
  go_wp2_with fail
  refine CSR.out.mono ?_
  rintro e w3 ⟨s1, s2, s3, rfl, hS, hb3⟩
  have HS := Lib.hid (hS.mono HB.out.size)
  have HA := Lib.hid ((hb3.block _ (Array.getElem?_eq_some_iff.1 HA.out).1).trans HA.out)
  have HB := Lib.hid (HB.out.trans (hb3.mono HB.out.size))
  obtain ⟨s1, s1c, rfl, _⟩ := HS.out.live.open
  obtain ⟨s2, s2c, rfl, _⟩ := HS.out.safe.open
  obtain ⟨s3, s3c, rfl, _⟩ := HS.out.ops.open
  have hal : Below w3.heap.size w3 (w3.alloc (.cells #[.slice s1 Y.live.length s1c, .slice s2 Y.safe.length s2c, .slice s3 Y.ops.length s3c] 27)) := (Below.refl _ _).alloc (Nat.le_refl _) _
  have HW := Lib.hid (heap_alloc_new w3 (.cells #[.slice s1 Y.live.length s1c, .slice s2 Y.safe.length s2c, .slice s3 Y.ops.length s3c] 27))
  have HA := Lib.hid ((hal.block _ (Array.getElem?_eq_some_iff.1 HA.out).1).trans HA.out)
  have HS := Lib.hid (HS.out.below hal)
  have HB := Lib.hid (HB.out.trans (hal.mono HB.out.size))
  clear hS hb3 CSR hal
  obtain ⟨⟨b0, b1, b2⟩, _⟩ := dk_cells HA.out
  go_wp2_with fail
  refine (CT.out _ (by exact HB.out)).mono ?_
  rintro e w4 ⟨x1, x2, x3, rfl, f1, f2, f3, ap, hb4⟩
  have hX : DiskAt _ x1 x2 x3 d w4 := ⟨f1, f2, f3⟩
  have HSZ := Lib.hid HB.out.size
  have HSX := Lib.hid (ap3 HS.out hX (Nat.le_refl _))
  have HW := Lib.hid ((hb4.block _ (Array.getElem?_eq_some_iff.1 HW.out).1).trans HW.out)
  have HA := Lib.hid ((hb4.block _ (Array.getElem?_eq_some_iff.1 HA.out).1).trans HA.out)
  have HS := Lib.hid (HS.out.below hb4)
  have HB := Lib.hid (HB.out.trans (hb4.mono HB.out.size))
  obtain ⟨x1, x1c, rfl, _⟩ := hX.live.open
  obtain ⟨x2, x2c, rfl, _⟩ := hX.safe.open
  obtain ⟨x3, x3c, rfl, _⟩ := hX.ops.open
  have hal : Below w4.heap.size w4 (w4.alloc (.cells #[.slice x1 d.live.length x1c, .slice x2 d.safe.length x2c, .slice x3 d.ops.length x3c] 27)) := (Below.refl _ _).alloc (Nat.le_refl _) _
  have HXB := Lib.hid (heap_alloc_new w4 (.cells #[.slice x1 d.live.length x1c, .slice x2 d.safe.length x2c, .slice x3 d.ops.length x3c] 27))
  have HX := Lib.hid ((hX.mono HSZ.out).below hal)
  have HAPX := Lib.hid ap
  have HA := Lib.hid ((hal.block _ (Array.getElem?_eq_some_iff.1 HA.out).1).trans HA.out)
  have HW := Lib.hid ((hal.block _ (Array.getElem?_eq_some_iff.1 HW.out).1).trans HW.out)
  have HS := Lib.hid (HS.out.below hal)
  have HB := Lib.hid (HB.out.trans (hal.mono HB.out.size))
  clear f1 f2 f3 ap hb4 hX hal b0 b1 b2
  obtain ⟨⟨c0, c1, c2⟩, _⟩ := dk_cells HXB.out
  go_wp2_with fail
  refine (CI.out _ _ _ _ (HX.out.mono (Nat.zero_le _))).mono ?_
  rintro e w5 ⟨g1, g2, g3, rfl, hG, apg, hb5⟩
  have HSG := Lib.hid (ap3 HS.out hG (Nat.le_refl _))
  have HXG := Lib.hid (ap3 HX.out hG (Nat.le_refl _))
  have hGw := hG.mono HB.out.size
  have HA := Lib.hid ((hb5.block _ (Array.getElem?_eq_some_iff.1 HA.out).1).trans HA.out)
  have HW := Lib.hid ((hb5.block _ (Array.getElem?_eq_some_iff.1 HW.out).1).trans HW.out)
  have HXB := Lib.hid ((hb5.block _ (Array.getElem?_eq_some_iff.1 HXB.out).1).trans HXB.out)
  have HS := Lib.hid (HS.out.below hb5)
  have HX := Lib.hid (HX.out.below hb5)
  have HB := Lib.hid (HB.out.trans (hb5.mono HB.out.size))
  obtain ⟨g1, g1c, rfl, _⟩ := hGw.live.open
  obtain ⟨g2, g2c, rfl, _⟩ := hGw.safe.open
  obtain ⟨g3, g3c, rfl, _⟩ := hGw.ops.open
  have hal : Below w5.heap.size w5 (w5.alloc (.cells #[.slice g1 Y.live.length g1c, .slice g2 Y.safe.length g2c, .slice g3 Y.ops.length g3c] 27)) := (Below.refl _ _).alloc (Nat.le_refl _) _
  have HGB := Lib.hid (heap_alloc_new w5 (.cells #[.slice g1 Y.live.length g1c, .slice g2 Y.safe.length g2c, .slice g3 Y.ops.length g3c] 27))
  have HG := Lib.hid (hGw.below hal)
  have HAPG := Lib.hid apg
  have HA := Lib.hid ((hal.block _ (Array.getElem?_eq_some_iff.1 HA.out).1).trans HA.out)
  have HW := Lib.hid ((hal.block _ (Array.getElem?_eq_some_iff.1 HW.out).1).trans HW.out)
  have HXB := Lib.hid ((hal.block _ (Array.getElem?_eq_some_iff.1 HXB.out).1).trans HXB.out)
  have HS := Lib.hid (HS.out.below hal)
  have HX := Lib.hid (HX.out.below hal)
  have HB := Lib.hid (HB.out.trans (hal.mono HB.out.size))
  clear hG apg hb5 hGw hal c0 c1 c2
  obtain ⟨⟨e0, e1, e2⟩, _⟩ := dk_cells HGB.out
  obtain ⟨⟨k0, k1, k2⟩, _⟩ := dk_cells HW.out
  go_wp2_with fail
  refine (eqDisk_same _ _ _ _ _ _ Y _ (HG.out.mono (Nat.zero_le _)) (HS.out.mono (Nat.zero_le _)) HSM.out).mono ?_
  rintro e w7 ⟨rfl, hb7⟩
  have HA := Lib.hid ((hb7.block _ (Array.getElem?_eq_some_iff.1 HA.out).1).trans HA.out)
  have HW := Lib.hid ((hb7.block _ (Array.getElem?_eq_some_iff.1 HW.out).1).trans HW.out)
  have HXB := Lib.hid ((hb7.block _ (Array.getElem?_eq_some_iff.1 HXB.out).1).trans HXB.out)
  have HGB := Lib.hid ((hb7.block _ (Array.getElem?_eq_some_iff.1 HGB.out).1).trans HGB.out)
  have HS := Lib.hid (HS.out.below hb7)
  have HX := Lib.hid (HX.out.below hb7)
  have HG := Lib.hid (HG.out.below hb7)
  have HB := Lib.hid (HB.out.trans (hb7.mono HB.out.size))
  clear hb7 e0 e1 e2 k0 k1 k2
  have CTR := Lib.hid (fun W (hW : Below w7.heap.size w7 W) => CT.out W (HB.out.trans (hW.mono HB.out.size)))
  have CEQ := Lib.hid (fun y1 y2 y3 W (hW : Below w7.heap.size w7 W) (hY : DiskAt w7.heap.size y1 y2 y3 d W) => eqDisk_same _ _ _ y1 y2 y3 d W ((HX.out.below hW).mono (Nat.zero_le _)) (hY.mono (Nat.zero_le _)) HF.out.small)
  go_upto_region 14 with (fail)
  refine region_invL 5 [some 55, some 56, some 57, some 58, some 59] (InvE w7 (.agg #[.slice p1 d.live.length m1, .slice p2 d.safe.length m2, .slice p3 d.ops.length m3]) (.string n) (.string x) (.agg #[.slice x1 d.live.length x1c, .slice x2 d.safe.length x2c, .slice x3 d.ops.length x3c]) d Y) (by kernel_rfl) rfl (by kernel_rfl) (by kernel_rfl) (by kernel_rfl) ?_ ?_ ?_
  · exact ⟨(Below.refl _ _).drew, (fun h => by cases h), (fun h => by cases h), (fun h => by cases h), (fun h => by cases h), (fun h => by cases h), trivial⟩
  · intro i o v L w1 hoi hL hI hdep
    have hi : i < 5 := (Array.getElem?_eq_some_iff.1 hoi).1
    have hc : i = 0 ∨ i = 1 ∨ i = 2 ∨ i = 3 ∨ i = 4 := by omega
    rcases hc with rfl | rfl | rfl | rfl | rfl
    · obtain rfl := Option.some.inj hoi
      refine ⟨rfl, wpLoadT rfl (at_old (by kernel_rfl)) (ldDkI ((hI.G.block _ (Array.getElem?_eq_some_iff.1 HXB.out).1).trans HXB.out)) ⟨_, rfl, ?_⟩⟩
      exact ⟨hI.G, fun _ => rfl, hI.f1, hI.f2, hI.f3, hI.f4, hI.gS⟩
    · obtain rfl := Option.some.inj hoi
      refine ⟨rfl, wpLoadT rfl (at_old (by kernel_rfl)) (ldDkL ((hI.G.block _ (Array.getElem?_eq_some_iff.1 HA.out).1).trans HA.out)) ⟨_, rfl, ?_⟩⟩
      exact ⟨hI.G, hI.f0, fun _ => rfl, hI.f2, hI.f3, hI.f4, hI.gS⟩
    · obtain rfl := Option.some.inj hoi
      refine ⟨rfl, wpCallT rfl cfToDisk (argsT1 ((at_new (by kernel_rfl) 1 (Nat.le_of_ble_eq_true rfl) rfl (by decide) (hdep 1 (dep_of (by kernel_rfl)))).trans (hI.f1 (hdep 1 (dep_of (by kernel_rfl)))))) ((CTR.out _ hI.G).mono ?_)⟩
      rintro e w2 ⟨x, y, z, rfl, g1, g2, g3, hap, hb⟩
      have hsz := hI.G.size
      have hI := hI.grow hb
      exact ⟨_, rfl, _, rfl, ⟨hI.G, hI.f0, hI.f1, fun _ => ⟨x, y, z, rfl, ⟨g1.mono hsz, g2.mono hsz, g3.mono hsz⟩, fun _ => hap⟩, hI.f3, hI.f4, hI.gS⟩⟩
    · obtain rfl := Option.some.inj hoi
      obtain ⟨x, y, z, ex, hx, _⟩ := hI.f2 (hdep 2 (dep_of (by kernel_rfl)))
      refine ⟨rfl, wpCallT rfl cfEqDisk (argsT2 ((at_new (by kernel_rfl) 0 (Nat.le_of_ble_eq_true rfl) rfl (by decide) (hdep 0 (dep_of (by kernel_rfl)))).trans (hI.f0 (hdep 0 (dep_of (by kernel_rfl))))) ((at_new (by kernel_rfl) 2 (Nat.le_of_ble_eq_true rfl) rfl (by decide) (hdep 2 (dep_of (by kernel_rfl)))).trans ex)) ((CEQ.out x y z _ hI.G hx).mono ?_)⟩
      rintro e w2 ⟨rfl, hb⟩
      have hI := hI.grow hb
      exact ⟨_, rfl, _, rfl, ⟨hI.G, hI.f0, hI.f1, hI.f2, fun _ => rfl, hI.f4, hI.gS⟩⟩
    · obtain rfl := Option.some.inj hoi
      refine ⟨rfl, wpUnT rfl ((at_new (by kernel_rfl) 3 (Nat.le_of_ble_eq_true rfl) rfl (by decide) (hdep 3 (dep_of (by kernel_rfl)))).trans (hI.f3 (hdep 3 (dep_of (by kernel_rfl))))) (notT _) ⟨_, rfl, ?_⟩⟩
      exact ⟨hI.G, hI.f0, hI.f1, hI.f2, hI.f3, fun _ => rfl, hI.gS⟩
  intro v w8 hI
  have eR := hI.f4 rfl
  have hb9 := hI.G
  clear hI
  simp only [Go.My.putL, Nat.zero_add, Nat.reduceAdd, eR, Act.put, List.setIfInBounds_toArray, List.set_cons_zero, List.set_cons_succ]
  generalize v 0 = y0 at *
  generalize v 1 = y1 at *
  generalize v 2 = y2 at *
  generalize v 3 = y3 at *
  clear eR
  have HA := Lib.hid ((hb9.block _ (Array.getElem?_eq_some_iff.1 HA.out).1).trans HA.out)
  have HW := Lib.hid ((hb9.block _ (Array.getElem?_eq_some_iff.1 HW.out).1).trans HW.out)
  have HXB := Lib.hid ((hb9.block _ (Array.getElem?_eq_some_iff.1 HXB.out).1).trans HXB.out)
  have HGB := Lib.hid ((hb9.block _ (Array.getElem?_eq_some_iff.1 HGB.out).1).trans HGB.out)
  have HS := Lib.hid (HS.out.below hb9)
  have HX := Lib.hid (HX.out.below hb9)
  have HG := Lib.hid (HG.out.below hb9)
  have HB := Lib.hid (HB.out.trans (hb9.mono HB.out.size))
  clear hb9 CTR CEQ
  obtain ⟨K, hK⟩ : ∃ K, 1 + d.many = K := ⟨_, rfl⟩
  obtain ⟨M, hM⟩ : ∃ M, 1 + Y.many = M := ⟨_, rfl⟩
  have kk : ¬ (K : Int) < 0 := by omega
  have mm : ¬ (M : Int) < 0 := by omega
  have CMX := Lib.hid (markOne (.slice x1 d.live.length x1c) (.slice x2 d.safe.length x2c) (.slice x3 d.ops.length x3c) d K hK HAPX.out (hK ▸ HM.out.2))
  have CMG := Lib.hid (markOne (.slice g1 Y.live.length g1c) (.slice g2 Y.safe.length g2c) (.slice g3 Y.ops.length g3c) Y M hM HAPG.out (hM ▸ HM.out.1))
  have CH := Lib.hid (heldOne (.slice g1 Y.live.length g1c) (.slice g2 Y.safe.length g2c) (.slice g3 Y.ops.length g3c) Y M hM (hM ▸ HM.out.1))
  clear hK hM
  obtain ⟨⟨c0, c1, c2⟩, _⟩ := dk_cells HXB.out
  go_wp2_with fail
  refine (CMX.out _ (HX.out.mono (Nat.zero_le _))).mono ?_
  rintro e wm ⟨rfl, _, gr⟩
  have HA := Lib.hid (grow3_blk gr HX.out HA.out (by decide) (by decide))
  have HW := Lib.hid (grow3_blk gr HX.out HW.out (by decide) (by decide))
  have HGB := Lib.hid (grow3_blk gr HX.out HGB.out (by decide) (by decide))
  have HS := Lib.hid (grow3_disk gr HS.out HSX.out)
  have HG := Lib.hid (grow3_disk gr HG.out HXG.out.symm)
  have HB := Lib.hid (grow3_below gr HX.out HB.out HB.out.size)
  clear gr c0 c1 c2
  obtain ⟨⟨e0, e1, e2⟩, _⟩ := dk_cells HGB.out
  obtain ⟨⟨k0, k1, k2⟩, _⟩ := dk_cells HW.out
  go_wp2_with fail
  refine (eqDisk_same _ _ _ _ _ _ Y _ (HG.out.mono (Nat.zero_le _)) (HS.out.mono (Nat.zero_le _)) HSM.out).mono ?_
  rintro e wn ⟨rfl, hb10⟩
  have HA := Lib.hid ((hb10.block _ (Array.getElem?_eq_some_iff.1 HA.out).1).trans HA.out)
  have HW := Lib.hid ((hb10.block _ (Array.getElem?_eq_some_iff.1 HW.out).1).trans HW.out)
  have HGB := Lib.hid ((hb10.block _ (Array.getElem?_eq_some_iff.1 HGB.out).1).trans HGB.out)
  have HS := Lib.hid (HS.out.below hb10)
  have HG := Lib.hid (HG.out.below hb10)
  have HB := Lib.hid (HB.out.trans (hb10.mono HB.out.size))
  clear hb10 e0 e1 e2 k0 k1 k2
  obtain ⟨⟨e0, e1, e2⟩, _⟩ := dk_cells HGB.out
  go_wp2_with fail
  refine (CMG.out _ (HG.out.mono (Nat.zero_le _))).mono ?_
  rintro e wo ⟨rfl, hGm, gr⟩
  have HA := Lib.hid (grow3_blk gr HG.out HA.out (by decide) (by decide))
  have HW := Lib.hid (grow3_blk gr HG.out HW.out (by decide) (by decide))
  have HGB := Lib.hid (grow3_blk gr HG.out HGB.out (by decide) (by decide))
  have HS := Lib.hid (grow3_disk gr HS.out HSG.out)
  have HB := Lib.hid (grow3_below gr HG.out HB.out HB.out.size)
  have HGM := Lib.hid hGm
  clear gr hGm e0 e1 e2
  obtain ⟨⟨e0, e1, e2⟩, _⟩ := dk_cells HGB.out
  go_wp2_with fail
  refine (CH.out _ HGM.out).mono ?_
  rintro e wp ⟨rfl, hb11⟩
  have HA := Lib.hid ((hb11.block _ (Array.getElem?_eq_some_iff.1 HA.out).1).trans HA.out)
  have HW := Lib.hid ((hb11.block _ (Array.getElem?_eq_some_iff.1 HW.out).1).trans HW.out)
  have HGB := Lib.hid ((hb11.block _ (Array.getElem?_eq_some_iff.1 HGB.out).1).trans HGB.out)
  have HS := Lib.hid (HS.out.below hb11)
  have HGM := Lib.hid (HGM.out.below hb11)
  have HB := Lib.hid (HB.out.trans (hb11.mono HB.out.size))
  clear hb11 e0 e1 e2
  obtain ⟨⟨b0, b1, b2⟩, _⟩ := dk_cells HA.out
  go_wp2_with fail
  refine (CT.out _ (by exact HB.out)).mono ?_
  rintro e wq ⟨u1, u2, u3, rfl, f1, f2, f3, _, hb12⟩
  have HA := Lib.hid ((hb12.block _ (Array.getElem?_eq_some_iff.1 HA.out).1).trans HA.out)
  have HW := Lib.hid ((hb12.block _ (Array.getElem?_eq_some_iff.1 HW.out).1).trans HW.out)
  have HGB := Lib.hid ((hb12.block _ (Array.getElem?_eq_some_iff.1 HGB.out).1).trans HGB.out)
  have HS := Lib.hid (HS.out.below hb12)
  have HGM := Lib.hid (HGM.out.below hb12)
  have HB := Lib.hid (HB.out.trans (hb12.mono HB.out.size))
  have CJ := Lib.hid (CI.out u1 u2 u3 wq ⟨f1.mono (Nat.zero_le _), f2.mono (Nat.zero_le _), f3.mono (Nat.zero_le _)⟩)
  clear hb12 b0 b1 b2 f1 f2 f3
  go_wp2_with fail
  refine CJ.out.mono ?_
  rintro e wr ⟨h1, h2, h3, rfl, hH, _, hb13⟩
  have HA := Lib.hid ((hb13.block _ (Array.getElem?_eq_some_iff.1 HA.out).1).trans HA.out)
  have HW := Lib.hid ((hb13.block _ (Array.getElem?_eq_some_iff.1 HW.out).1).trans HW.out)
  have HGB := Lib.hid ((hb13.block _ (Array.getElem?_eq_some_iff.1 HGB.out).1).trans HGB.out)
  have HS := Lib.hid (HS.out.below hb13)
  have HGM := Lib.hid (HGM.out.below hb13)
  have HB := Lib.hid (HB.out.trans (hb13.mono HB.out.size))
  obtain ⟨h1, h1c, rfl, _⟩ := hH.live.open
  obtain ⟨h2, h2c, rfl, _⟩ := hH.safe.open
  obtain ⟨h3, h3c, rfl, _⟩ := hH.ops.open
  have hal : Below wr.heap.size wr (wr.alloc (.cells #[.slice h1 Y.live.length h1c, .slice h2 Y.safe.length h2c, .slice h3 Y.ops.length h3c] 27)) := (Below.refl _ _).alloc (Nat.le_refl _) _
  have HHB := Lib.hid (heap_alloc_new wr (.cells #[.slice h1 Y.live.length h1c, .slice h2 Y.safe.length h2c, .slice h3 Y.ops.length h3c] 27))
  have HH := Lib.hid ((hH.mono (Nat.zero_le _)).below hal)
  have HA := Lib.hid ((hal.block _ (Array.getElem?_eq_some_iff.1 HA.out).1).trans HA.out)
  have HW := Lib.hid ((hal.block _ (Array.getElem?_eq_some_iff.1 HW.out).1).trans HW.out)
  have HGB := Lib.hid ((hal.block _ (Array.getElem?_eq_some_iff.1 HGB.out).1).trans HGB.out)
  have HS := Lib.hid (HS.out.below hal)
  have HGM := Lib.hid (HGM.out.below hal)
  have HB := Lib.hid (HB.out.trans (hal.mono HB.out.size))
  clear hb13 hH hal CJ
  obtain ⟨⟨e0, e1, e2⟩, _⟩ := dk_cells HHB.out
  obtain ⟨⟨k0, k1, k2⟩, _⟩ := dk_cells HW.out
  go_wp2_with fail
  refine (eqDisk_same _ _ _ _ _ _ Y _ HH.out (HS.out.mono (Nat.zero_le _)) HSM.out).mono ?_
  rintro e ws ⟨rfl, hb14⟩
  have HA := Lib.hid ((hb14.block _ (Array.getElem?_eq_some_iff.1 HA.out).1).trans HA.out)
  have HW := Lib.hid ((hb14.block _ (Array.getElem?_eq_some_iff.1 HW.out).1).trans HW.out)
  have HGB := Lib.hid ((hb14.block _ (Array.getElem?_eq_some_iff.1 HGB.out).1).trans HGB.out)
  have HS := Lib.hid (HS.out.below hb14)
  have HGM := Lib.hid (HGM.out.below hb14)
  have HB := Lib.hid (HB.out.trans (hb14.mono HB.out.size))
  clear hb14 e0 e1 e2 k0 k1 k2
  obtain ⟨⟨e0, e1, e2⟩, _⟩ := dk_cells HGB.out
  go_wp2_with fail
  refine (CH.out _ HGM.out).mono ?_
  rintro e wt ⟨rfl, hb15⟩
  have HB := Lib.hid (HB.out.trans (hb15.mono HB.out.size))
  clear hb15 e0 e1 e2
  go_wp2
  go_ret
  exact ⟨rfl, HB.out⟩

set_option maxRecDepth 100000 in
theorem lifted (os : Os) (started : os.Started) (H : Type) (enc : TypeId × Value → H) :
    ReturnsInHanded {} Try.checked os 12 .any (Rows.fnExactReplaceSpec.pre6 enc Try.prog Try.f12 Rows.fnExactReplaceRow.domain false) (Rows.fnExactReplaceSpec.post enc Try.prog Try.f12 false true false false) := by
  refine returnsInHanded_of_change (C := Try.checked) own started (by kernel_rfl) Try.func12
    (ChangeSpec.witness6 (enc := enc) (C := Try.checked) false ⟨#[], #[.agg #[.slice none 0 0, .slice none 0 0, .slice none 0 0], .string ByteArray.empty, .string ByteArray.empty], []⟩ 8 (by kernel_rfl) (by kernel_rfl) (by kernel_rfl) (by kernel_rfl)) ?_
  intro W base args ds gs before hval0 hW hcnd _
  have hval : ∀ (j : Nat) t v, Try.f12.params[j]? = some t → args[j]? = some v → Value.okWide Try.prog W .any base t v := hval0
  have hW' := hW
  obtain ⟨p, q, hA0, hV, rfl, hfz, hnd⟩ := hW
  have hA : DataW.TrodAll enc Try.prog W 0 (fun _ => true) true Try.f12.params.toList args.toList ds p := hA0
  rw [Try.params12] at hA hval
  obtain ⟨v0, vs0, d0, ds0, p0, q0, hargs, rfl, rfl, h0, r0⟩ := trodAll_cons hA
  obtain ⟨v1, vs1, d1, ds1, p1, q1, rfl, rfl, rfl, h1, r1⟩ := trodAll_cons r0
  obtain ⟨v2, vs2, d2, ds2, p2, q2, rfl, rfl, rfl, h2, r2⟩ := trodAll_cons r1
  obtain ⟨rfl, rfl, rfl⟩ := trodAll_nil r2
  obtain rfl : args = #[v0, v1, v2] := by cases args; simp_all
  obtain ⟨rfl, rfl⟩ := trodVars_none hV
  have k0 := h0
  have lt0 : ∀ x ∈ p0, x.block < W.heap.size := by obtain ⟨m, hm⟩ := k0; exact DataW.trod_lt m _ _ _ hm
  obtain ⟨a0, b0, c0, D0, rfl, w0⟩ := disk_open (hval 0 56 v0 rfl rfl) h0
  obtain ⟨a1, rfl, rfl, rfl, w1⟩ := open_string Try.underlying9 (hval 1 9 v1 rfl rfl) h1
  obtain ⟨a2, rfl, rfl, rfl, w2⟩ := open_string Try.underlying9 (hval 2 9 v2 rfl rfl) h2
  clear hA0 hval0
  refine (walk W a0 b0 c0 D0 w0 a1 w1 a2 w2).mono fun e W' ⟨he, bel⟩ => ?_
  subst he
  exact ⟨_, rfl, _, _, _, [], _, [], hW', trodAll_mk1 (shut_bool Try.underlying4 _), (trodAll_cons_mk (Below.trod laidOut (by kernel_rfl) (of_decide_eq_true (by kernel_rfl)) k0 bel lt0) (trodAll_cons_mk (shut_string Try.underlying9 w1) (trodAll_cons_mk (shut_string Try.underlying9 w2) trodAll_mk0))), rfl, bel.frame _, fun h => by cases h⟩

theorem proved : Rows.FnExactReplaceSaid :=
  OpenClaim.holds_of_wide 12 Try.f12 rfl rfl rfl rfl rfl rfl rfl ⟨rfl, rfl, rfl, rfl, rfl⟩ rfl rfl rfl rfl rfl (by kernel_rfl) Try.func12 (by kernel_rfl)
    (of_decide_eq_true (by kernel_rfl)) (by unfold Func.isWrapper; first | (rw [if_pos (by decide +kernel)]; kernel_rfl) | (rw [if_neg (by decide +kernel)]; exact ⟨rfl, rfl⟩))
    (fun os started H enc _ => lifted os started H enc)
end Go.Proofs.Ytepefbfmjjnamaa.fnExactReplace

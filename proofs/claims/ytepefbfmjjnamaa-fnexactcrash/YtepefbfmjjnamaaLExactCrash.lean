/- Proved: for every argument FnExactCrash returns true: the program's Crash answers as the specification's, in every field; it leaves its arguments as they were, and its answer owns its memory (arguments of more than 2^20 in all are passed over by the law itself). No condition. -/
import Derived.Test.YtepefbfmjjnamaaRows
import Derived.WalkKit
import Derived.ProofKit
import Derived.OpenShut
import Derived.ShutString
import Derived.ChangeOld
import Derived.Below
import Derived.Test.YtepefbfmjjnamaaDkR
import Derived.Test.YtepefbfmjjnamaaMrgB
namespace Go.Proofs.Ytepefbfmjjnamaa.fnExactCrash
open Go.ChangeShapes Go.WideShapes Go.ChangeAt Go.RowKit Go.My
set_option linter.unusedVariables false

theorem own : ownKnob Try.prog.godebug = none := by kernel_rfl
theorem laidOut : laidOutB Try.prog = true := by kernel_rfl

structure InvE (W1 : World) (A R : Value) (d D : DiskT) (v : Nat → Value) (L : Nat → Bool) (w : World) : Prop where
  G : Below W1.heap.size W1 w
  f0 : L 0 = true → v 0 = R
  f1 : L 1 = true → v 1 = A
  f2 : L 2 = true → DkV W1.heap.size d true (v 2) w
  f3 : L 3 = true → v 3 = .bool true
  f4 : L 4 = true → v 4 = .bool false
  gS : True
theorem InvE.grow {W1 : World} {A R : Value} {d D : DiskT} {v : Nat → Value} {L : Nat → Bool} {w w' : World} (h : InvE W1 A R d D v L w) (hb : Below w.heap.size w w') : InvE W1 A R d D v L w' where
  G := h.G.trans (hb.mono h.G.size)
  f0 := h.f0
  f1 := h.f1
  f2 := fun a => (h.f2 a).below hb
  f3 := h.f3
  f4 := h.f4
  gS := h.gS

set_option maxRecDepth 20000 in
set_option maxHeartbeats 8000000 in
theorem walk (w : World) (v1 v2 v3 : Value) (d : DiskT) (h : DiskArg v1 v2 v3 d w) (pk : Option Addr) (nk mk : Nat) (keep : List Int) (hK : ArgL 1 numC (.slice pk nk mk) keep w) (torn : Int) (htw : (Lit.int .i64 torn).wf = true) :
    Calls Try.prog 10 #[.agg #[v1, v2, v3], .slice pk nk mk, .int .i64 torn] w fun e w' => e = .returned (.bool true) ∧ Below w.heap.size w w' := by
  have H := Lib.hid h
  have HKA := Lib.hid hK
  obtain rfl : nk = keep.length := by
    obtain ⟨p, cap, e, _⟩ := hK
    injection e
  have hkm : (keep.length : Int) ≤ 9223372036854775807 := by
    obtain ⟨p, cap, e, h1, h2, _⟩ := hK
    unfold maxLen at h2
    omega
  clear hK htw
  have CZ := Lib.hid (fun W (hW : Below w.heap.size w W) => (szDisk_any v1 v2 v3 d 1048576 W (H.out.below hW) (Nat.le_refl _) : Calls Try.prog 35 #[.agg #[v1, v2, v3], .int .i64 1048576] W _))
  obtain ⟨⟨p1, m1, rfl, _⟩, ⟨p2, m2, rfl, _⟩, ⟨p3, m3, rfl, _⟩, _, _, _⟩ := h
  by_cases hk1 : keep.length ≤ 1048576
  case neg =>
    have q : (1048576 : Int) < (keep.length : Int) := by omega
    go_enter Try.func10, Try.ntmps10
    go_wp2
    go_ret
    exact ⟨rfl, (Below.refl _ _).alloc (Nat.le_refl _) _⟩
  have q1 : ¬ (1048576 : Int) < (keep.length : Int) := by omega
  have HLK := Lib.hid hk1
  clear hk1
  go_enter Try.func10, Try.ntmps10
  go_wp2_with fail
  refine (CZ.out _ ?_).mono ?_
  · exact (Below.refl w.heap.size w).alloc (Nat.le_refl _) _
  rintro e w1 ⟨hres, hb1⟩
  obtain ⟨hB, bA⟩ := boxes1 w _ _ hb1
  have HA := Lib.hid bA
  have HB := Lib.hid hB
  clear hb1 bA hB
  rcases hres with ⟨r, rfl, hr⟩ | rfl
  case inr =>
    go_wp2
    go_ret
    exact ⟨rfl, HB.out⟩
  have q : ¬ (r : Int) < 0 := by omega
  have HF : Hid d.fit := fit_of H.out (by omega)
  have CT := Lib.hid (fun W (hW : Below w.heap.size w W) => toDisk_any _ _ _ d W (H.out.live.below hW) (H.out.safe.below hW) (H.out.ops.below hW) HF.out.small.live HF.out.small.safe HF.out.small.ops)
  have CK := Lib.hid (fun W (hW : Below w.heap.size w W) => toInt64S_any (.slice pk keep.length mk) keep W (HKA.out.below hW) HLK.out)
  have CS := Lib.hid (fun x1 x2 x3 vk W (hX : DiskAt 0 x1 x2 x3 d W) (hK : RowL 0 2 1 numC vk keep W) => crD_s x1 x2 x3 vk d keep torn W hX HF.out hK HLK.out)
  have CI := Lib.hid (fun x1 x2 x3 vk W (hX : DiskAt 0 x1 x2 x3 d W) (hK : RowL 0 2 1 numC vk keep W) => crD_i x1 x2 x3 vk d keep torn W hX HF.out hK HLK.out)
  have HM : Hid (1 + (crD d keep torn).many ≤ 1099511627776 ∧ 1 + d.many ≤ 1099511627776) := ⟨many_small (crD_small), many_small HF.out.small⟩
  have HSM : Hid (crD d keep torn).small := crD_small
  generalize crD d keep torn = Y at CS CI HM HSM
  generalize crB d keep torn = R at CS CI
  clear hr q1
  obtain ⟨⟨b0, b1, b2⟩, _⟩ := dk_cells HA.out
  go_wp2_with fail
  refine (CT.out _ (by exact HB.out)).mono ?_
  rintro e w2 ⟨u1, u2, u3, rfl, f1, f2, f3, _, hb2⟩
  have HU0 := Lib.hid (show DiskAt 0 u1 u2 u3 d w2 from ⟨f1.mono (Nat.zero_le _), f2.mono (Nat.zero_le _), f3.mono (Nat.zero_le _)⟩)
  have HA := Lib.hid ((hb2.block _ (Array.getElem?_eq_some_iff.1 HA.out).1).trans HA.out)
  have HB := Lib.hid (HB.out.trans (hb2.mono HB.out.size))
  clear f1 f2 f3 hb2 b0 b1 b2
  go_wp2_with fail
  refine (CK.out _ (by exact HB.out)).mono ?_
  rintro e w2k ⟨ku, rfl, hku, hbk⟩
  have CSR := Lib.hid (CS.out u1 u2 u3 ku w2k (HU0.out.below hbk) (hku.mono (Nat.zero_le _)))
  have HA := Lib.hid ((hbk.block _ (Array.getElem?_eq_some_iff.1 HA.out).1).trans HA.out)
  have HB := Lib.hid (HB.out.trans (hbk.mono HB.out.size))
  clear hbk hku
  go_wp2_with fail
  refine CSR.out.mono ?_
  rintro e w3 ⟨s1, s2, s3, rfl, hS, hb3⟩
  have HS := Lib.hid (hS.mono HB.out.size)
  have HA := Lib.hid ((hb3.block _ (Array.getElem?_eq_some_iff.1 HA.out).1).trans HA.out)
  have HB := Lib.hid (HB.out.trans (hb3.mono HB.out.size))
  obtain ⟨s1, s1c, rfl, _⟩ := HS.out.live.open
  obtain ⟨s2, s2c, rfl, _⟩ := HS.out.safe.open
  obtain ⟨s3, s3c, rfl, _⟩ := HS.out.ops.open
  have hal : Below w3.heap.size w3 (w3.alloc (.cells #[.slice s1 Y.live.length s1c, .slice s2 Y.safe.length s2c, .slice s3 Y.ops.length s3c] 27)) := (Below.refl _ _).alloc (Nat.le_refl _) _
  have HW := Lib.hid (heap_alloc_new w3 (.cells #[.slice s1 Y.live.length s1c, .slice s2 Y.safe.length s2c, .slice s3 Y.ops.length s3c] 27))
  have HA := Lib.hid ((hal.block _ (Array.getElem?_eq_some_iff.1 HA.out).1).trans HA.out)
  have HS := Lib.hid (HS.out.below hal)
  have HB := Lib.hid (HB.out.trans (hal.mono HB.out.size))
  clear hS hb3 CSR hal
  obtain ⟨⟨b0, b1, b2⟩, _⟩ := dk_cells HA.out
  go_wp2_with fail
  refine (CT.out _ (by exact HB.out)).mono ?_
  rintro e w4 ⟨x1, x2, x3, rfl, f1, f2, f3, ap, hb4⟩
  have hX : DiskAt _ x1 x2 x3 d w4 := ⟨f1, f2, f3⟩
  have HSZ := Lib.hid HB.out.size
  have HSX := Lib.hid (ap3 HS.out hX (Nat.le_refl _))
  have HW := Lib.hid ((hb4.block _ (Array.getElem?_eq_some_iff.1 HW.out).1).trans HW.out)
  have HA := Lib.hid ((hb4.block _ (Array.getElem?_eq_some_iff.1 HA.out).1).trans HA.out)
  have HS := Lib.hid (HS.out.below hb4)
  have HB := Lib.hid (HB.out.trans (hb4.mono HB.out.size))
  obtain ⟨x1, x1c, rfl, _⟩ := hX.live.open
  obtain ⟨x2, x2c, rfl, _⟩ := hX.safe.open
  obtain ⟨x3, x3c, rfl, _⟩ := hX.ops.open
  have hal : Below w4.heap.size w4 (w4.alloc (.cells #[.slice x1 d.live.length x1c, .slice x2 d.safe.length x2c, .slice x3 d.ops.length x3c] 27)) := (Below.refl _ _).alloc (Nat.le_refl _) _
  have HXB := Lib.hid (heap_alloc_new w4 (.cells #[.slice x1 d.live.length x1c, .slice x2 d.safe.length x2c, .slice x3 d.ops.length x3c] 27))
  have HX := Lib.hid ((hX.mono HSZ.out).below hal)
  have HAPX := Lib.hid ap
  have HA := Lib.hid ((hal.block _ (Array.getElem?_eq_some_iff.1 HA.out).1).trans HA.out)
  have HW := Lib.hid ((hal.block _ (Array.getElem?_eq_some_iff.1 HW.out).1).trans HW.out)
  have HS := Lib.hid (HS.out.below hal)
  have HB := Lib.hid (HB.out.trans (hal.mono HB.out.size))
  clear f1 f2 f3 ap hb4 hX hal b0 b1 b2
  go_wp2_with fail
  refine (CK.out _ (by exact HB.out)).mono ?_
  rintro e w4k ⟨kx, rfl, hkx, hbk⟩
  have HKX := Lib.hid (hkx.mono HB.out.size)
  have HA := Lib.hid ((hbk.block _ (Array.getElem?_eq_some_iff.1 HA.out).1).trans HA.out)
  have HW := Lib.hid ((hbk.block _ (Array.getElem?_eq_some_iff.1 HW.out).1).trans HW.out)
  have HXB := Lib.hid ((hbk.block _ (Array.getElem?_eq_some_iff.1 HXB.out).1).trans HXB.out)
  have HS := Lib.hid (HS.out.below hbk)
  have HB := Lib.hid (HB.out.trans (hbk.mono HB.out.size))
  have HX := Lib.hid (HX.out.below hbk)
  clear hbk hkx
  obtain ⟨pkx, ckx, rfl, _⟩ := HKX.out.open
  obtain ⟨⟨c0, c1, c2⟩, _⟩ := dk_cells HXB.out
  go_wp2_with fail
  refine (CI.out _ _ _ _ _ (HX.out.mono (Nat.zero_le _)) (HKX.out.mono (Nat.zero_le _))).mono ?_
  rintro e w5 ⟨g1, g2, g3, rfl, hG, apg, hb5⟩
  have HSG := Lib.hid (ap3 HS.out hG (Nat.le_refl _))
  have HXG := Lib.hid (ap3 HX.out hG (Nat.le_refl _))
  have hGw := hG.mono HB.out.size
  have HA := Lib.hid ((hb5.block _ (Array.getElem?_eq_some_iff.1 HA.out).1).trans HA.out)
  have HW := Lib.hid ((hb5.block _ (Array.getElem?_eq_some_iff.1 HW.out).1).trans HW.out)
  have HXB := Lib.hid ((hb5.block _ (Array.getElem?_eq_some_iff.1 HXB.out).1).trans HXB.out)
  have HS := Lib.hid (HS.out.below hb5)
  have HX := Lib.hid (HX.out.below hb5)
  have HKX := Lib.hid (HKX.out.below hb5)
  have HB := Lib.hid (HB.out.trans (hb5.mono HB.out.size))
  obtain ⟨g1, g1c, rfl, _⟩ := hGw.live.open
  obtain ⟨g2, g2c, rfl, _⟩ := hGw.safe.open
  obtain ⟨g3, g3c, rfl, _⟩ := hGw.ops.open
  have hal : Below w5.heap.size w5 (w5.alloc (.cells #[.slice g1 Y.live.length g1c, .slice g2 Y.safe.length g2c, .slice g3 Y.ops.length g3c] 27)) := (Below.refl _ _).alloc (Nat.le_refl _) _
  have HGB := Lib.hid (heap_alloc_new w5 (.cells #[.slice g1 Y.live.length g1c, .slice g2 Y.safe.length g2c, .slice g3 Y.ops.length g3c] 27))
  have HG := Lib.hid (hGw.below hal)
  have HAPG := Lib.hid apg
  have HA := Lib.hid ((hal.block _ (Array.getElem?_eq_some_iff.1 HA.out).1).trans HA.out)
  have HW := Lib.hid ((hal.block _ (Array.getElem?_eq_some_iff.1 HW.out).1).trans HW.out)
  have HXB := Lib.hid ((hal.block _ (Array.getElem?_eq_some_iff.1 HXB.out).1).trans HXB.out)
  have HS := Lib.hid (HS.out.below hal)
  have HX := Lib.hid (HX.out.below hal)
  have HKX := Lib.hid (HKX.out.below hal)
  have HB := Lib.hid (HB.out.trans (hal.mono HB.out.size))
  clear hG apg hb5 hGw hal c0 c1 c2
  obtain ⟨⟨e0, e1, e2⟩, _⟩ := dk_cells HGB.out
  obtain ⟨⟨k0, k1, k2⟩, _⟩ := dk_cells HW.out
  go_wp2_with fail
  refine (eqDisk_same _ _ _ _ _ _ Y _ (HG.out.mono (Nat.zero_le _)) (HS.out.mono (Nat.zero_le _)) HSM.out).mono ?_
  rintro e w7 ⟨rfl, hb7⟩
  have HA := Lib.hid ((hb7.block _ (Array.getElem?_eq_some_iff.1 HA.out).1).trans HA.out)
  have HW := Lib.hid ((hb7.block _ (Array.getElem?_eq_some_iff.1 HW.out).1).trans HW.out)
  have HXB := Lib.hid ((hb7.block _ (Array.getElem?_eq_some_iff.1 HXB.out).1).trans HXB.out)
  have HGB := Lib.hid ((hb7.block _ (Array.getElem?_eq_some_iff.1 HGB.out).1).trans HGB.out)
  have HS := Lib.hid (HS.out.below hb7)
  have HX := Lib.hid (HX.out.below hb7)
  have HG := Lib.hid (HG.out.below hb7)
  have HKX := Lib.hid (HKX.out.below hb7)
  have HB := Lib.hid (HB.out.trans (hb7.mono HB.out.size))
  clear hb7 e0 e1 e2 k0 k1 k2
  have CTR := Lib.hid (fun W (hW : Below w7.heap.size w7 W) => CT.out W (HB.out.trans (hW.mono HB.out.size)))
  have CEQ := Lib.hid (fun y1 y2 y3 W (hW : Below w7.heap.size w7 W) (hY : DiskAt w7.heap.size y1 y2 y3 d W) => eqDisk_same _ _ _ y1 y2 y3 d W ((HX.out.below hW).mono (Nat.zero_le _)) (hY.mono (Nat.zero_le _)) HF.out.small)
  go_upto_region 13 with (fail)
  refine region_invL 5 [some 56, some 57, some 58, some 59, some 60] (InvE w7 (.agg #[.slice p1 d.live.length m1, .slice p2 d.safe.length m2, .slice p3 d.ops.length m3]) (.agg #[.slice x1 d.live.length x1c, .slice x2 d.safe.length x2c, .slice x3 d.ops.length x3c]) d Y) (by kernel_rfl) rfl (by kernel_rfl) (by kernel_rfl) (by kernel_rfl) ?_ ?_ ?_
  · exact ⟨(Below.refl _ _).drew, (fun h => by cases h), (fun h => by cases h), (fun h => by cases h), (fun h => by cases h), (fun h => by cases h), trivial⟩
  · intro i o v L w1 hoi hL hI hdep
    have hi : i < 5 := (Array.getElem?_eq_some_iff.1 hoi).1
    have hc : i = 0 ∨ i = 1 ∨ i = 2 ∨ i = 3 ∨ i = 4 := by omega
    rcases hc with rfl | rfl | rfl | rfl | rfl
    · obtain rfl := Option.some.inj hoi
      refine ⟨rfl, wpLoadT rfl (at_old (by kernel_rfl)) (ldDkI ((hI.G.block _ (Array.getElem?_eq_some_iff.1 HXB.out).1).trans HXB.out)) ⟨_, rfl, ?_⟩⟩
      exact ⟨hI.G, fun _ => rfl, hI.f1, hI.f2, hI.f3, hI.f4, hI.gS⟩
    · obtain rfl := Option.some.inj hoi
      refine ⟨rfl, wpLoadT rfl (at_old (by kernel_rfl)) (ldDkL ((hI.G.block _ (Array.getElem?_eq_some_iff.1 HA.out).1).trans HA.out)) ⟨_, rfl, ?_⟩⟩
      exact ⟨hI.G, hI.f0, fun _ => rfl, hI.f2, hI.f3, hI.f4, hI.gS⟩
    · obtain rfl := Option.some.inj hoi
      refine ⟨rfl, wpCallT rfl cfToDisk (argsT1 ((at_new (by kernel_rfl) 1 (Nat.le_of_ble_eq_true rfl) rfl (by decide) (hdep 1 (dep_of (by kernel_rfl)))).trans (hI.f1 (hdep 1 (dep_of (by kernel_rfl)))))) ((CTR.out _ hI.G).mono ?_)⟩
      rintro e w2 ⟨x, y, z, rfl, g1, g2, g3, hap, hb⟩
      have hsz := hI.G.size
      have hI := hI.grow hb
      exact ⟨_, rfl, _, rfl, ⟨hI.G, hI.f0, hI.f1, fun _ => ⟨x, y, z, rfl, ⟨g1.mono hsz, g2.mono hsz, g3.mono hsz⟩, fun _ => hap⟩, hI.f3, hI.f4, hI.gS⟩⟩
    · obtain rfl := Option.some.inj hoi
      obtain ⟨x, y, z, ex, hx, _⟩ := hI.f2 (hdep 2 (dep_of (by kernel_rfl)))
      refine ⟨rfl, wpCallT rfl cfEqDisk (argsT2 ((at_new (by kernel_rfl) 0 (Nat.le_of_ble_eq_true rfl) rfl (by decide) (hdep 0 (dep_of (by kernel_rfl)))).trans (hI.f0 (hdep 0 (dep_of (by kernel_rfl))))) ((at_new (by kernel_rfl) 2 (Nat.le_of_ble_eq_true rfl) rfl (by decide) (hdep 2 (dep_of (by kernel_rfl)))).trans ex)) ((CEQ.out x y z _ hI.G hx).mono ?_)⟩
      rintro e w2 ⟨rfl, hb⟩
      have hI := hI.grow hb
      exact ⟨_, rfl, _, rfl, ⟨hI.G, hI.f0, hI.f1, hI.f2, fun _ => rfl, hI.f4, hI.gS⟩⟩
    · obtain rfl := Option.some.inj hoi
      refine ⟨rfl, wpUnT rfl ((at_new (by kernel_rfl) 3 (Nat.le_of_ble_eq_true rfl) rfl (by decide) (hdep 3 (dep_of (by kernel_rfl)))).trans (hI.f3 (hdep 3 (dep_of (by kernel_rfl))))) (notT _) ⟨_, rfl, ?_⟩⟩
      exact ⟨hI.G, hI.f0, hI.f1, hI.f2, hI.f3, fun _ => rfl, hI.gS⟩
  intro v w8 hI
  have eR := hI.f4 rfl
  have hb9 := hI.G
  clear hI
  simp only [Go.My.putL, Nat.zero_add, Nat.reduceAdd, eR, Act.put, List.setIfInBounds_toArray, List.set_cons_zero, List.set_cons_succ]
  generalize v 0 = y0 at *
  generalize v 1 = y1 at *
  generalize v 2 = y2 at *
  generalize v 3 = y3 at *
  clear eR
  have HA := Lib.hid ((hb9.block _ (Array.getElem?_eq_some_iff.1 HA.out).1).trans HA.out)
  have HW := Lib.hid ((hb9.block _ (Array.getElem?_eq_some_iff.1 HW.out).1).trans HW.out)
  have HXB := Lib.hid ((hb9.block _ (Array.getElem?_eq_some_iff.1 HXB.out).1).trans HXB.out)
  have HGB := Lib.hid ((hb9.block _ (Array.getElem?_eq_some_iff.1 HGB.out).1).trans HGB.out)
  have HS := Lib.hid (HS.out.below hb9)
  have HX := Lib.hid (HX.out.below hb9)
  have HG := Lib.hid (HG.out.below hb9)
  have HKX := Lib.hid (HKX.out.below hb9)
  have HB := Lib.hid (HB.out.trans (hb9.mono HB.out.size))
  clear hb9 CTR CEQ
  go_wp2_with fail
  refine (CK.out _ (by exact HB.out)).mono ?_
  rintro e w8k ⟨ky, rfl, hky, hbk⟩
  have HKY := Lib.hid (hky.mono (Nat.zero_le _))
  have HA := Lib.hid ((hbk.block _ (Array.getElem?_eq_some_iff.1 HA.out).1).trans HA.out)
  have HW := Lib.hid ((hbk.block _ (Array.getElem?_eq_some_iff.1 HW.out).1).trans HW.out)
  have HXB := Lib.hid ((hbk.block _ (Array.getElem?_eq_some_iff.1 HXB.out).1).trans HXB.out)
  have HGB := Lib.hid ((hbk.block _ (Array.getElem?_eq_some_iff.1 HGB.out).1).trans HGB.out)
  have HS := Lib.hid (HS.out.below hbk)
  have HX := Lib.hid (HX.out.below hbk)
  have HG := Lib.hid (HG.out.below hbk)
  have HKX := Lib.hid (HKX.out.below hbk)
  have HB := Lib.hid (HB.out.trans (hbk.mono HB.out.size))
  clear hbk hky
  go_wp2_with fail
  refine (eqInt64S_same _ _ keep _ (HKX.out.mono (Nat.zero_le _)) HKY.out (by have := HLK.out; omega)).mono ?_
  rintro e w8l ⟨rfl, hbl⟩
  have HA := Lib.hid ((hbl.block _ (Array.getElem?_eq_some_iff.1 HA.out).1).trans HA.out)
  have HW := Lib.hid ((hbl.block _ (Array.getElem?_eq_some_iff.1 HW.out).1).trans HW.out)
  have HXB := Lib.hid ((hbl.block _ (Array.getElem?_eq_some_iff.1 HXB.out).1).trans HXB.out)
  have HGB := Lib.hid ((hbl.block _ (Array.getElem?_eq_some_iff.1 HGB.out).1).trans HGB.out)
  have HS := Lib.hid (HS.out.below hbl)
  have HX := Lib.hid (HX.out.below hbl)
  have HG := Lib.hid (HG.out.below hbl)
  have HKX := Lib.hid (HKX.out.below hbl)
  have HB := Lib.hid (HB.out.trans (hbl.mono HB.out.size))
  clear hbl HKY
  obtain ⟨K, hK⟩ : ∃ K, 1 + d.many = K := ⟨_, rfl⟩
  obtain ⟨M, hM⟩ : ∃ M, 1 + Y.many = M := ⟨_, rfl⟩
  have kk : ¬ (K : Int) < 0 := by omega
  have mm : ¬ (M : Int) < 0 := by omega
  have CMX := Lib.hid (markOne (.slice x1 d.live.length x1c) (.slice x2 d.safe.length x2c) (.slice x3 d.ops.length x3c) d K hK HAPX.out (hK ▸ HM.out.2))
  have CMG := Lib.hid (markOne (.slice g1 Y.live.length g1c) (.slice g2 Y.safe.length g2c) (.slice g3 Y.ops.length g3c) Y M hM HAPG.out (hM ▸ HM.out.1))
  have CH := Lib.hid (heldOne (.slice g1 Y.live.length g1c) (.slice g2 Y.safe.length g2c) (.slice g3 Y.ops.length g3c) Y M hM (hM ▸ HM.out.1))
  have HKM : Hid (K ≤ 1099511627776) := hK ▸ HM.out.2
  clear hK hM
  obtain ⟨⟨c0, c1, c2⟩, _⟩ := dk_cells HXB.out
  go_wp2_with fail
  refine (CMX.out _ (HX.out.mono (Nat.zero_le _))).mono ?_
  rintro e wm ⟨rfl, _, gr⟩
  have HA := Lib.hid (grow3_blk gr HX.out HA.out (by decide) (by decide))
  have HW := Lib.hid (grow3_blk gr HX.out HW.out (by decide) (by decide))
  have HGB := Lib.hid (grow3_blk gr HX.out HGB.out (by decide) (by decide))
  have HS := Lib.hid (grow3_disk gr HS.out HSX.out)
  have HG := Lib.hid (grow3_disk gr HG.out HXG.out.symm)
  have HKX := Lib.hid (Grow3.row gr HKX.out (row_types HKX.out HX.out.live (by decide)) (row_types HKX.out HX.out.safe (by decide)) (row_types HKX.out HX.out.ops (by decide)))
  have HB := Lib.hid (grow3_below gr HX.out HB.out HB.out.size)
  clear gr c0 c1 c2
  have CMK := Lib.hid (markInt64S_any (.slice pkx keep.length ckx) keep K _ (HKX.out.mono (Nat.zero_le _)) (by have := HKM.out; have := HLK.out; omega))
  go_wp2_with fail
  refine CMK.out.mono ?_
  rintro e wk ⟨rfl, grk⟩
  have HA := Lib.hid ((grk.block _ (Array.getElem?_eq_some_iff.1 HA.out).1 (fun c => row_kind HKX.out HA.out (by decide) c.symm)).trans HA.out)
  have HW := Lib.hid ((grk.block _ (Array.getElem?_eq_some_iff.1 HW.out).1 (fun c => row_kind HKX.out HW.out (by decide) c.symm)).trans HW.out)
  have HGB := Lib.hid ((grk.block _ (Array.getElem?_eq_some_iff.1 HGB.out).1 (fun c => row_kind HKX.out HGB.out (by decide) c.symm)).trans HGB.out)
  have HS := Lib.hid (show DiskAt w.heap.size _ _ _ Y wk from ⟨RowL.kept HS.out.live grk (row_types HS.out.live HKX.out (by decide)), RowL.kept HS.out.safe grk (row_types HS.out.safe HKX.out (by decide)), RowL.kept HS.out.ops grk (row_types HS.out.ops HKX.out (by decide))⟩)
  have HG := Lib.hid (show DiskAt w.heap.size _ _ _ Y wk from ⟨RowL.kept HG.out.live grk (row_types HG.out.live HKX.out (by decide)), RowL.kept HG.out.safe grk (row_types HG.out.safe HKX.out (by decide)), RowL.kept HG.out.ops grk (row_types HG.out.ops HKX.out (by decide))⟩)
  have HB := Lib.hid (below_grw HB.out grk HB.out.size (fun q hq => (World.ownsRow.lt HKX.out q hq).1))
  have kk2 : ¬ ((K + keep.length : Nat) : Int) < 0 := by omega
  clear grk
  obtain ⟨⟨e0, e1, e2⟩, _⟩ := dk_cells HGB.out
  obtain ⟨⟨k0, k1, k2⟩, _⟩ := dk_cells HW.out
  go_wp2_with fail
  refine (eqDisk_same _ _ _ _ _ _ Y _ (HG.out.mono (Nat.zero_le _)) (HS.out.mono (Nat.zero_le _)) HSM.out).mono ?_
  rintro e wn ⟨rfl, hb10⟩
  have HA := Lib.hid ((hb10.block _ (Array.getElem?_eq_some_iff.1 HA.out).1).trans HA.out)
  have HW := Lib.hid ((hb10.block _ (Array.getElem?_eq_some_iff.1 HW.out).1).trans HW.out)
  have HGB := Lib.hid ((hb10.block _ (Array.getElem?_eq_some_iff.1 HGB.out).1).trans HGB.out)
  have HS := Lib.hid (HS.out.below hb10)
  have HG := Lib.hid (HG.out.below hb10)
  have HB := Lib.hid (HB.out.trans (hb10.mono HB.out.size))
  clear hb10 e0 e1 e2 k0 k1 k2
  obtain ⟨⟨e0, e1, e2⟩, _⟩ := dk_cells HGB.out
  go_wp2_with fail
  refine (CMG.out _ (HG.out.mono (Nat.zero_le _))).mono ?_
  rintro e wo ⟨rfl, hGm, gr⟩
  have HA := Lib.hid (grow3_blk gr HG.out HA.out (by decide) (by decide))
  have HW := Lib.hid (grow3_blk gr HG.out HW.out (by decide) (by decide))
  have HGB := Lib.hid (grow3_blk gr HG.out HGB.out (by decide) (by decide))
  have HS := Lib.hid (grow3_disk gr HS.out HSG.out)
  have HB := Lib.hid (grow3_below gr HG.out HB.out HB.out.size)
  have HGM := Lib.hid hGm
  clear gr hGm e0 e1 e2
  obtain ⟨⟨e0, e1, e2⟩, _⟩ := dk_cells HGB.out
  go_wp2_with fail
  refine (CH.out _ HGM.out).mono ?_
  rintro e wp ⟨rfl, hb11⟩
  have HA := Lib.hid ((hb11.block _ (Array.getElem?_eq_some_iff.1 HA.out).1).trans HA.out)
  have HW := Lib.hid ((hb11.block _ (Array.getElem?_eq_some_iff.1 HW.out).1).trans HW.out)
  have HGB := Lib.hid ((hb11.block _ (Array.getElem?_eq_some_iff.1 HGB.out).1).trans HGB.out)
  have HS := Lib.hid (HS.out.below hb11)
  have HGM := Lib.hid (HGM.out.below hb11)
  have HB := Lib.hid (HB.out.trans (hb11.mono HB.out.size))
  clear hb11 e0 e1 e2
  obtain ⟨⟨b0, b1, b2⟩, _⟩ := dk_cells HA.out
  go_wp2_with fail
  refine (CT.out _ (by exact HB.out)).mono ?_
  rintro e wq ⟨u1, u2, u3, rfl, f1, f2, f3, _, hb12⟩
  have HA := Lib.hid ((hb12.block _ (Array.getElem?_eq_some_iff.1 HA.out).1).trans HA.out)
  have HW := Lib.hid ((hb12.block _ (Array.getElem?_eq_some_iff.1 HW.out).1).trans HW.out)
  have HGB := Lib.hid ((hb12.block _ (Array.getElem?_eq_some_iff.1 HGB.out).1).trans HGB.out)
  have HS := Lib.hid (HS.out.below hb12)
  have HGM := Lib.hid (HGM.out.below hb12)
  have HB := Lib.hid (HB.out.trans (hb12.mono HB.out.size))
  have HU0 := Lib.hid (show DiskAt 0 u1 u2 u3 d wq from ⟨f1.mono (Nat.zero_le _), f2.mono (Nat.zero_le _), f3.mono (Nat.zero_le _)⟩)
  clear hb12 b0 b1 b2 f1 f2 f3
  go_wp2_with fail
  refine (CK.out _ (by exact HB.out)).mono ?_
  rintro e wqk ⟨ku, rfl, hku, hbk⟩
  have CJ := Lib.hid (CI.out u1 u2 u3 ku wqk (HU0.out.below hbk) (hku.mono (Nat.zero_le _)))
  have HA := Lib.hid ((hbk.block _ (Array.getElem?_eq_some_iff.1 HA.out).1).trans HA.out)
  have HW := Lib.hid ((hbk.block _ (Array.getElem?_eq_some_iff.1 HW.out).1).trans HW.out)
  have HGB := Lib.hid ((hbk.block _ (Array.getElem?_eq_some_iff.1 HGB.out).1).trans HGB.out)
  have HS := Lib.hid (HS.out.below hbk)
  have HGM := Lib.hid (HGM.out.below hbk)
  have HB := Lib.hid (HB.out.trans (hbk.mono HB.out.size))
  clear hbk hku
  go_wp2_with fail
  refine CJ.out.mono ?_
  rintro e wr ⟨h1, h2, h3, rfl, hH, _, hb13⟩
  have HA := Lib.hid ((hb13.block _ (Array.getElem?_eq_some_iff.1 HA.out).1).trans HA.out)
  have HW := Lib.hid ((hb13.block _ (Array.getElem?_eq_some_iff.1 HW.out).1).trans HW.out)
  have HGB := Lib.hid ((hb13.block _ (Array.getElem?_eq_some_iff.1 HGB.out).1).trans HGB.out)
  have HS := Lib.hid (HS.out.below hb13)
  have HGM := Lib.hid (HGM.out.below hb13)
  have HB := Lib.hid (HB.out.trans (hb13.mono HB.out.size))
  obtain ⟨h1, h1c, rfl, _⟩ := hH.live.open
  obtain ⟨h2, h2c, rfl, _⟩ := hH.safe.open
  obtain ⟨h3, h3c, rfl, _⟩ := hH.ops.open
  have hal : Below wr.heap.size wr (wr.alloc (.cells #[.slice h1 Y.live.length h1c, .slice h2 Y.safe.length h2c, .slice h3 Y.ops.length h3c] 27)) := (Below.refl _ _).alloc (Nat.le_refl _) _
  have HHB := Lib.hid (heap_alloc_new wr (.cells #[.slice h1 Y.live.length h1c, .slice h2 Y.safe.length h2c, .slice h3 Y.ops.length h3c] 27))
  have HH := Lib.hid ((hH.mono (Nat.zero_le _)).below hal)
  have HA := Lib.hid ((hal.block _ (Array.getElem?_eq_some_iff.1 HA.out).1).trans HA.out)
  have HW := Lib.hid ((hal.block _ (Array.getElem?_eq_some_iff.1 HW.out).1).trans HW.out)
  have HGB := Lib.hid ((hal.block _ (Array.getElem?_eq_some_iff.1 HGB.out).1).trans HGB.out)
  have HS := Lib.hid (HS.out.below hal)
  have HGM := Lib.hid (HGM.out.below hal)
  have HB := Lib.hid (HB.out.trans (hal.mono HB.out.size))
  clear hb13 hH hal CJ
  obtain ⟨⟨e0, e1, e2⟩, _⟩ := dk_cells HHB.out
  obtain ⟨⟨k0, k1, k2⟩, _⟩ := dk_cells HW.out
  go_wp2_with fail
  refine (eqDisk_same _ _ _ _ _ _ Y _ HH.out (HS.out.mono (Nat.zero_le _)) HSM.out).mono ?_
  rintro e ws ⟨rfl, hb14⟩
  have HA := Lib.hid ((hb14.block _ (Array.getElem?_eq_some_iff.1 HA.out).1).trans HA.out)
  have HW := Lib.hid ((hb14.block _ (Array.getElem?_eq_some_iff.1 HW.out).1).trans HW.out)
  have HGB := Lib.hid ((hb14.block _ (Array.getElem?_eq_some_iff.1 HGB.out).1).trans HGB.out)
  have HS := Lib.hid (HS.out.below hb14)
  have HGM := Lib.hid (HGM.out.below hb14)
  have HB := Lib.hid (HB.out.trans (hb14.mono HB.out.size))
  clear hb14 e0 e1 e2 k0 k1 k2
  obtain ⟨⟨e0, e1, e2⟩, _⟩ := dk_cells HGB.out
  go_wp2_with fail
  refine (CH.out _ HGM.out).mono ?_
  rintro e wt ⟨rfl, hb15⟩
  have HB := Lib.hid (HB.out.trans (hb15.mono HB.out.size))
  clear hb15 e0 e1 e2
  go_wp2
  go_ret
  exact ⟨rfl, HB.out⟩

set_option maxRecDepth 100000 in
theorem lifted (os : Os) (started : os.Started) (H : Type) (enc : TypeId × Value → H) :
    ReturnsInHanded {} Try.checked os 10 .any (Rows.fnExactCrashSpec.pre6 enc Try.prog Try.f10 Rows.fnExactCrashRow.domain false) (Rows.fnExactCrashSpec.post enc Try.prog Try.f10 false true false false) := by
  refine returnsInHanded_of_change (C := Try.checked) own started (by kernel_rfl) Try.func10
    (ChangeSpec.witness6 (enc := enc) (C := Try.checked) false ⟨#[], #[.agg #[.slice none 0 0, .slice none 0 0, .slice none 0 0], .slice none 0 0, .int .i64 0], []⟩ 8 (by kernel_rfl) (by kernel_rfl) (by kernel_rfl) (by kernel_rfl)) ?_
  intro W base args ds gs before hval0 hW hcnd _
  have hval : ∀ (j : Nat) t v, Try.f10.params[j]? = some t → args[j]? = some v → Value.okWide Try.prog W .any base t v := hval0
  have hW' := hW
  obtain ⟨p, q, hA0, hV, rfl, hfz, hnd⟩ := hW
  have hA : DataW.TrodAll enc Try.prog W 0 (fun _ => true) true Try.f10.params.toList args.toList ds p := hA0
  rw [Try.params10] at hA hval
  obtain ⟨v0, vs0, d0, ds0, p0, q0, hargs, rfl, rfl, h0, r0⟩ := trodAll_cons hA
  obtain ⟨v1, vs1, d1, ds1, p1, q1, rfl, rfl, rfl, h1, r1⟩ := trodAll_cons r0
  obtain ⟨v2, vs2, d2, ds2, p2, q2, rfl, rfl, rfl, h2, r2⟩ := trodAll_cons r1
  obtain ⟨rfl, rfl, rfl⟩ := trodAll_nil r2
  obtain rfl : args = #[v0, v1, v2] := by cases args; simp_all
  obtain ⟨rfl, rfl⟩ := trodVars_none hV
  have k0 := h0
  have lt0 : ∀ x ∈ p0, x.block < W.heap.size := by obtain ⟨m, hm⟩ := k0; exact DataW.trod_lt m _ _ _ hm
  obtain ⟨a0, b0, c0, D0, rfl, w0⟩ := disk_open (hval 0 56 v0 rfl rfl) h0
  obtain ⟨a1, len1, cap1, rfl⟩ := okWide_slice Try.underlying30 (hval 1 30 v1 rfl rfl)
  have k1 := h1
  have lt1 : ∀ x ∈ p1, x.block < W.heap.size := by obtain ⟨m, hm⟩ := k1; exact DataW.trod_lt m _ _ _ hm
  obtain ⟨l1, w1⟩ := keep_open h1
  obtain ⟨a2, rfl, rfl, rfl, w2⟩ := open_int Try.underlying2 (hval 2 2 v2 rfl rfl) h2
  clear hA0 hval0
  refine (walk W a0 b0 c0 D0 w0 a1 len1 cap1 l1 w1 a2 w2).mono fun e W' ⟨he, bel⟩ => ?_
  subst he
  exact ⟨_, rfl, _, _, _, [], _, [], hW', trodAll_mk1 (shut_bool Try.underlying4 _), (trodAll_cons_mk (Below.trod laidOut (by kernel_rfl) (of_decide_eq_true (by kernel_rfl)) k0 bel lt0) (trodAll_cons_mk (Below.trod laidOut (by kernel_rfl) (of_decide_eq_true (by kernel_rfl)) k1 bel lt1) (trodAll_cons_mk (shut_int Try.underlying2 w2) trodAll_mk0))), rfl, bel.frame _, fun h => by cases h⟩

theorem proved : Rows.FnExactCrashSaid :=
  OpenClaim.holds_of_wide 10 Try.f10 rfl rfl rfl rfl rfl rfl rfl ⟨rfl, rfl, rfl, rfl, rfl⟩ rfl rfl rfl rfl rfl (by kernel_rfl) Try.func10 (by kernel_rfl)
    (of_decide_eq_true (by kernel_rfl)) (by unfold Func.isWrapper; first | (rw [if_pos (by decide +kernel)]; kernel_rfl) | (rw [if_neg (by decide +kernel)]; exact ⟨rfl, rfl⟩))
    (fun os started H enc _ => lifted os started H enc)
end Go.Proofs.Ytepefbfmjjnamaa.fnExactCrash

/- Proved: for every argument FnExactSync returns true: the program's Sync answers as the specification's, in every field; it leaves the disk as it was, and its answer owns its memory (disks of more than 2^20 in all are passed over by the law itself). No condition. -/
import Derived.Test.YtepefbfmjjnamaaRows
import Derived.WalkKit
import Derived.ProofKit
import Derived.OpenShut
import Derived.ShutString
import Derived.ChangeOld
import Derived.Below
import Derived.Test.YtepefbfmjjnamaaDkR
import Derived.Test.YtepefbfmjjnamaaDkE
import Derived.Test.YtepefbfmjjnamaaDkF
namespace Go.Proofs.Ytepefbfmjjnamaa.fnExactSync
open Go.ChangeShapes Go.WideShapes Go.ChangeAt Go.RowKit Go.My
set_option linter.unusedVariables false

theorem own : ownKnob Try.prog.godebug = none := by kernel_rfl
theorem laidOut : laidOutB Try.prog = true := by kernel_rfl

set_option maxRecDepth 20000 in
set_option maxHeartbeats 1200000 in
theorem walk (w : World) (v1 v2 v3 : Value) (d : DiskT) (h : DiskArg v1 v2 v3 d w) :
    Calls Try.prog 9 #[.agg #[v1, v2, v3]] w fun e w' => e = .returned (.bool true) ∧ Below w.heap.size w w' := by
  have H := Lib.hid h
  have CZ := Lib.hid (fun W (hW : Below w.heap.size w W) => (szDisk_any v1 v2 v3 d 1048576 W (H.out.below hW) (Nat.le_refl _) : Calls Try.prog 35 #[.agg #[v1, v2, v3], .int .i64 1048576] W _))
  obtain ⟨⟨p1, m1, rfl, _⟩, ⟨p2, m2, rfl, _⟩, ⟨p3, m3, rfl, _⟩, _, _, _⟩ := h
  go_enter Try.func9, Try.ntmps9
  go_wp2_with fail
  refine (CZ.out _ ?_).mono ?_
  · exact (Below.refl w.heap.size w).alloc (Nat.le_refl _) _
  rintro e w1 ⟨hres, hb1⟩
  obtain ⟨hB, bA⟩ := boxes1 w _ _ hb1
  clear hb1
  rcases hres with ⟨r, rfl, hr⟩ | rfl
  case inr =>
    go_wp2
    go_ret
    exact ⟨rfl, hB⟩
  have q : ¬ (r : Int) < 0 := by omega
  have HF : Hid d.fit := fit_of H.out (by omega)
  have HM : Hid (1 + (syncV d).many ≤ 1099511627776 ∧ 1 + d.many ≤ 1099511627776) := by
    have hz : d.live.length + fileSum d.live + (d.safe.length + fileSum d.safe) + (d.ops.length + dOpSum d.ops) + r = 1048576 := by rw [← hr]; show _ = r + (_ + _ + (_ + _) + (_ + _)); omega
    have h1 : d.many ≤ 8000000 := by show 2 * _ + 2 * _ + 4 * _ ≤ _; omega
    have h2 : (syncV d).many ≤ 8000000 := by
      unfold syncV
      split
      · show 2 * d.live.length + 2 * d.live.length + 4 * 0 ≤ _; omega
      · show 2 * 0 + 2 * 0 + 4 * 0 ≤ _; omega
    exact ⟨by omega, by omega⟩
  have HSM : Hid (syncV d).small := by
    show (syncV d).small
    unfold syncV
    split
    · exact ⟨HF.out.small.live, HF.out.small.live, by simp⟩
    · exact ⟨by simp, by simp, by simp⟩
  clear hr
  have CT := Lib.hid (fun W (hW : Below w.heap.size w W) => toDisk_any _ _ _ d W (H.out.live.below hW) (H.out.safe.below hW) (H.out.ops.below hW) HF.out.small.live HF.out.small.safe HF.out.small.ops)
  obtain ⟨⟨b0, b1, b2⟩, _⟩ := dk_cells bA
  have HA := Lib.hid bA
  have HB := Lib.hid hB
  clear bA hB CZ
  go_wp2_with fail
  refine (CT.out _ (by exact HB.out)).mono ?_
  rintro e w2 ⟨u1, u2, u3, rfl, f1, f2, f3, _, hb2⟩
  have HB := Lib.hid (HB.out.trans (hb2.mono HB.out.size))
  have HA := Lib.hid ((hb2.block _ (Array.getElem?_eq_some_iff.1 HA.out).1).trans HA.out)
  have CS := Lib.hid (syncD_s u1 u2 u3 d w2 ⟨f1.mono (Nat.zero_le _), f2.mono (Nat.zero_le _), f3.mono (Nat.zero_le _)⟩ HF.out)
  clear f1 f2 f3 hb2 b0 b1 b2
  generalize hY : syncV d = Y at HM HSM CS
  go_wp2_with fail
  refine CS.out.mono ?_
  rintro e w3 ⟨s1, s2, s3, rfl, hS, hb3⟩
  have HB := Lib.hid (HB.out.trans (hb3.mono HB.out.size))
  have bA := (hb3.block _ (Array.getElem?_eq_some_iff.1 HA.out).1).trans HA.out
  have HS := Lib.hid hS
  obtain ⟨s1, s1c, rfl, _⟩ := hS.live.open
  obtain ⟨s2, s2c, rfl, _⟩ := hS.safe.open
  obtain ⟨s3, s3c, rfl, _⟩ := hS.ops.open
  clear hS hb3 CS
  -- the box of what is wanted
  have hal : Below w3.heap.size w3 (w3.alloc (.cells #[.slice s1 Y.live.length s1c, .slice s2 Y.safe.length s2c, .slice s3 Y.ops.length s3c] 27)) := (Below.refl _ _).alloc (Nat.le_refl _) _
  have HW := Lib.hid (heap_alloc_new w3 (.cells #[.slice s1 Y.live.length s1c, .slice s2 Y.safe.length s2c, .slice s3 Y.ops.length s3c] 27))
  have bA := (hal.block _ (Array.getElem?_eq_some_iff.1 bA).1).trans bA
  have HB := Lib.hid (HB.out.trans (hal.mono HB.out.size))
  have HS := Lib.hid (HS.out.below hal)
  obtain ⟨⟨b0, b1, b2⟩, _⟩ := dk_cells bA
  have HA := Lib.hid bA
  clear bA hal
  go_wp2_with fail
  refine (CT.out _ (by exact HB.out)).mono ?_
  rintro e w4 ⟨x1, x2, x3, rfl, f1, f2, f3, ap, hb4⟩
  have hX : DiskAt _ x1 x2 x3 d w4 := ⟨f1, f2, f3⟩
  have HSZ := Lib.hid HB.out.size
  have HSX := Lib.hid (ap3 HS.out hX (Nat.le_refl _))
  -- the end, by py/lsync.py
  have HW := Lib.hid ((hb4.block _ (Array.getElem?_eq_some_iff.1 HW.out).1).trans HW.out)
  have HA := Lib.hid ((hb4.block _ (Array.getElem?_eq_some_iff.1 HA.out).1).trans HA.out)
  have HS := Lib.hid (HS.out.below hb4)
  have HB := Lib.hid (HB.out.trans (hb4.mono HB.out.size))
  obtain ⟨x1, x1c, rfl, _⟩ := hX.live.open
  obtain ⟨x2, x2c, rfl, _⟩ := hX.safe.open
  obtain ⟨x3, x3c, rfl, _⟩ := hX.ops.open
  have hal : Below w4.heap.size w4 (w4.alloc (.cells #[.slice x1 d.live.length x1c, .slice x2 d.safe.length x2c, .slice x3 d.ops.length x3c] 27)) := (Below.refl _ _).alloc (Nat.le_refl _) _
  have HXB := Lib.hid (heap_alloc_new w4 (.cells #[.slice x1 d.live.length x1c, .slice x2 d.safe.length x2c, .slice x3 d.ops.length x3c] 27))
  have HX := Lib.hid ((hX.mono HSZ.out).below hal)
  have HAPX := Lib.hid ap
  have HA := Lib.hid ((hal.block _ (Array.getElem?_eq_some_iff.1 HA.out).1).trans HA.out)
  have HW := Lib.hid ((hal.block _ (Array.getElem?_eq_some_iff.1 HW.out).1).trans HW.out)
  have HS := Lib.hid (HS.out.below hal)
  have HB := Lib.hid (HB.out.trans (hal.mono HB.out.size))
  have CI := Lib.hid (fun u1 u2 u3 W (hU : DiskAt 0 u1 u2 u3 d W) => syncD_i u1 u2 u3 d W hU HF.out)
  rw [hY] at CI
  clear f1 f2 f3 ap hb4 hX hal b0 b1 b2 hY
  obtain ⟨⟨c0, c1, c2⟩, _⟩ := dk_cells HXB.out
  go_wp2_with fail
  refine (CI.out _ _ _ _ (HX.out.mono (Nat.zero_le _))).mono ?_
  rintro e w5 ⟨g1, g2, g3, rfl, hG, apg, hb5⟩
  have HSG := Lib.hid (ap3 HS.out hG (Nat.le_refl _))
  have HXG := Lib.hid (ap3 HX.out hG (Nat.le_refl _))
  have hGw := hG.mono HB.out.size
  have HA := Lib.hid ((hb5.block _ (Array.getElem?_eq_some_iff.1 HA.out).1).trans HA.out)
  have HW := Lib.hid ((hb5.block _ (Array.getElem?_eq_some_iff.1 HW.out).1).trans HW.out)
  have HXB := Lib.hid ((hb5.block _ (Array.getElem?_eq_some_iff.1 HXB.out).1).trans HXB.out)
  have HS := Lib.hid (HS.out.below hb5)
  have HX := Lib.hid (HX.out.below hb5)
  have HB := Lib.hid (HB.out.trans (hb5.mono HB.out.size))
  obtain ⟨g1, g1c, rfl, _⟩ := hGw.live.open
  obtain ⟨g2, g2c, rfl, _⟩ := hGw.safe.open
  obtain ⟨g3, g3c, rfl, _⟩ := hGw.ops.open
  have hal : Below w5.heap.size w5 (w5.alloc (.cells #[.slice g1 Y.live.length g1c, .slice g2 Y.safe.length g2c, .slice g3 Y.ops.length g3c] 27)) := (Below.refl _ _).alloc (Nat.le_refl _) _
  have HGB := Lib.hid (heap_alloc_new w5 (.cells #[.slice g1 Y.live.length g1c, .slice g2 Y.safe.length g2c, .slice g3 Y.ops.length g3c] 27))
  have HG := Lib.hid (hGw.below hal)
  have HAPG := Lib.hid apg
  have HA := Lib.hid ((hal.block _ (Array.getElem?_eq_some_iff.1 HA.out).1).trans HA.out)
  have HW := Lib.hid ((hal.block _ (Array.getElem?_eq_some_iff.1 HW.out).1).trans HW.out)
  have HXB := Lib.hid ((hal.block _ (Array.getElem?_eq_some_iff.1 HXB.out).1).trans HXB.out)
  have HS := Lib.hid (HS.out.below hal)
  have HX := Lib.hid (HX.out.below hal)
  have HB := Lib.hid (HB.out.trans (hal.mono HB.out.size))
  clear hG apg hb5 hGw hal c0 c1 c2
  obtain ⟨⟨e0, e1, e2⟩, _⟩ := dk_cells HGB.out
  obtain ⟨⟨k0, k1, k2⟩, _⟩ := dk_cells HW.out
  go_wp2_with fail
  refine (eqDisk_same _ _ _ _ _ _ Y _ (HG.out.mono (Nat.zero_le _)) (HS.out.mono (Nat.zero_le _)) HSM.out).mono ?_
  rintro e w7 ⟨rfl, hb7⟩
  have HA := Lib.hid ((hb7.block _ (Array.getElem?_eq_some_iff.1 HA.out).1).trans HA.out)
  have HW := Lib.hid ((hb7.block _ (Array.getElem?_eq_some_iff.1 HW.out).1).trans HW.out)
  have HXB := Lib.hid ((hb7.block _ (Array.getElem?_eq_some_iff.1 HXB.out).1).trans HXB.out)
  have HGB := Lib.hid ((hb7.block _ (Array.getElem?_eq_some_iff.1 HGB.out).1).trans HGB.out)
  have HS := Lib.hid (HS.out.below hb7)
  have HX := Lib.hid (HX.out.below hb7)
  have HG := Lib.hid (HG.out.below hb7)
  have HB := Lib.hid (HB.out.trans (hb7.mono HB.out.size))
  clear hb7 e0 e1 e2 k0 k1 k2
  obtain ⟨K, hK⟩ : ∃ K, 1 + d.many = K := ⟨_, rfl⟩
  obtain ⟨M, hM⟩ : ∃ M, 1 + Y.many = M := ⟨_, rfl⟩
  have kk : ¬ (K : Int) < 0 := by omega
  have mm : ¬ (M : Int) < 0 := by omega
  have CMX := Lib.hid (markOne (.slice x1 d.live.length x1c) (.slice x2 d.safe.length x2c) (.slice x3 d.ops.length x3c) d K hK HAPX.out (hK ▸ HM.out.2))
  have CMG := Lib.hid (markOne (.slice g1 Y.live.length g1c) (.slice g2 Y.safe.length g2c) (.slice g3 Y.ops.length g3c) Y M hM HAPG.out (hM ▸ HM.out.1))
  have CH := Lib.hid (heldOne (.slice g1 Y.live.length g1c) (.slice g2 Y.safe.length g2c) (.slice g3 Y.ops.length g3c) Y M hM (hM ▸ HM.out.1))
  clear hK hM
  have HBB := Lib.hid HB.out
  have HD5 := Lib.hid (HX.out.mono (Nat.zero_le _))
  have CT5 := Lib.hid (fun W (hW : Below w7.heap.size w7 W) => CT.out W (HBB.out.trans (hW.mono HBB.out.size)))
  have hBx : Below w7.heap.size w7 w7 := Below.refl _ _
  obtain ⟨⟨b0, b1, b2⟩, _⟩ := dk_cells HA.out
  obtain ⟨⟨c0, c1, c2⟩, _⟩ := dk_cells HXB.out
  go_wp2_with fail
  go_region_held3 (fun w' => w'.cell? ⟨w.heap.size, 0, none⟩ = some (.slice p1 d.live.length m1) ∧ w'.cell? ⟨w.heap.size, 1, none⟩ = some (.slice p2 d.safe.length m2) ∧ w'.cell? ⟨w.heap.size, 2, none⟩ = some (.slice p3 d.ops.length m3) ∧ w'.cell? ⟨w4.heap.size, 0, none⟩ = some (.slice x1 d.live.length x1c) ∧ w'.cell? ⟨w4.heap.size, 1, none⟩ = some (.slice x2 d.safe.length x2c) ∧ w'.cell? ⟨w4.heap.size, 2, none⟩ = some (.slice x3 d.ops.length x3c)) (first | exact ⟨b0, b1, b2, c0, c1, c2⟩) (first
    | (go_at_call 36; refine (CT5.out _ (by first | exact hBx | exact hBx.drew)).mono ?_; rintro e wz ⟨t1, t2, t3, rfl, g1, g2, g3, _, hbz⟩; have b0 := (hbz.cell (p := ⟨w.heap.size, 0, none⟩) (World.block_lt_of_cell? _ _ b0)).trans b0; have b1 := (hbz.cell (p := ⟨w.heap.size, 1, none⟩) (World.block_lt_of_cell? _ _ b1)).trans b1; have b2 := (hbz.cell (p := ⟨w.heap.size, 2, none⟩) (World.block_lt_of_cell? _ _ b2)).trans b2; have c0 := (hbz.cell (p := ⟨w4.heap.size, 0, none⟩) (World.block_lt_of_cell? _ _ c0)).trans c0; have c1 := (hbz.cell (p := ⟨w4.heap.size, 1, none⟩) (World.block_lt_of_cell? _ _ c1)).trans c1; have c2 := (hbz.cell (p := ⟨w4.heap.size, 2, none⟩) (World.block_lt_of_cell? _ _ c2)).trans c2; have hBx := below_nx hbz (by first | exact hBx | exact hBx.drew) (by exact hBx.size))
    | (go_at_call 37; refine (eqDisk_same _ _ _ t1 t2 t3 d _ (by first | exact HD5.out.below hBx | exact HD5.out.below hBx.drew) (by exact ⟨g1.mono (Nat.zero_le _), g2.mono (Nat.zero_le _), g3.mono (Nat.zero_le _)⟩) HF.out.small).mono ?_; rintro e wy ⟨rfl, hby⟩; have b0 := (hby.cell (p := ⟨w.heap.size, 0, none⟩) (World.block_lt_of_cell? _ _ b0)).trans b0; have b1 := (hby.cell (p := ⟨w.heap.size, 1, none⟩) (World.block_lt_of_cell? _ _ b1)).trans b1; have b2 := (hby.cell (p := ⟨w.heap.size, 2, none⟩) (World.block_lt_of_cell? _ _ b2)).trans b2; have c0 := (hby.cell (p := ⟨w4.heap.size, 0, none⟩) (World.block_lt_of_cell? _ _ c0)).trans c0; have c1 := (hby.cell (p := ⟨w4.heap.size, 1, none⟩) (World.block_lt_of_cell? _ _ c1)).trans c1; have c2 := (hby.cell (p := ⟨w4.heap.size, 2, none⟩) (World.block_lt_of_cell? _ _ c2)).trans c2; have hBx := below_nx hby (by first | exact hBx | exact hBx.drew) (by exact hBx.size)))
  all_goals
    have hb9 := hBx
    have HA := Lib.hid ((hb9.block _ (Array.getElem?_eq_some_iff.1 HA.out).1).trans HA.out)
    have HW := Lib.hid ((hb9.block _ (Array.getElem?_eq_some_iff.1 HW.out).1).trans HW.out)
    have HXB := Lib.hid ((hb9.block _ (Array.getElem?_eq_some_iff.1 HXB.out).1).trans HXB.out)
    have HGB := Lib.hid ((hb9.block _ (Array.getElem?_eq_some_iff.1 HGB.out).1).trans HGB.out)
    have HS := Lib.hid (HS.out.below hb9)
    have HX := Lib.hid (HX.out.below hb9)
    have HG := Lib.hid (HG.out.below hb9)
    have HB := Lib.hid (HB.out.trans (hb9.mono HB.out.size))
    have HBB := Lib.hid trivial
    clear b0 b1 b2 c0 c1 c2 hb9 HD5 CT5
    obtain ⟨⟨c0, c1, c2⟩, _⟩ := dk_cells HXB.out
    go_wp2_with fail
    refine (CMX.out _ (HX.out.mono (Nat.zero_le _))).mono ?_
    rintro e wm ⟨rfl, _, gr⟩
    have HA := Lib.hid (grow3_blk gr HX.out HA.out (by decide) (by decide))
    have HW := Lib.hid (grow3_blk gr HX.out HW.out (by decide) (by decide))
    have HGB := Lib.hid (grow3_blk gr HX.out HGB.out (by decide) (by decide))
    have HS := Lib.hid (grow3_disk gr HS.out HSX.out)
    have HG := Lib.hid (grow3_disk gr HG.out HXG.out.symm)
    have HB := Lib.hid (grow3_below gr HX.out HB.out HB.out.size)
    clear gr c0 c1 c2 hBx
    obtain ⟨⟨e0, e1, e2⟩, _⟩ := dk_cells HGB.out
    obtain ⟨⟨k0, k1, k2⟩, _⟩ := dk_cells HW.out
    go_wp2_with fail
    refine (eqDisk_same _ _ _ _ _ _ Y _ (HG.out.mono (Nat.zero_le _)) (HS.out.mono (Nat.zero_le _)) HSM.out).mono ?_
    rintro e wn ⟨rfl, hb10⟩
    have HA := Lib.hid ((hb10.block _ (Array.getElem?_eq_some_iff.1 HA.out).1).trans HA.out)
    have HW := Lib.hid ((hb10.block _ (Array.getElem?_eq_some_iff.1 HW.out).1).trans HW.out)
    have HGB := Lib.hid ((hb10.block _ (Array.getElem?_eq_some_iff.1 HGB.out).1).trans HGB.out)
    have HS := Lib.hid (HS.out.below hb10)
    have HG := Lib.hid (HG.out.below hb10)
    have HB := Lib.hid (HB.out.trans (hb10.mono HB.out.size))
    clear hb10 e0 e1 e2 k0 k1 k2
    obtain ⟨⟨e0, e1, e2⟩, _⟩ := dk_cells HGB.out
    go_wp2_with fail
    refine (CMG.out _ (HG.out.mono (Nat.zero_le _))).mono ?_
    rintro e wo ⟨rfl, hGm, gr⟩
    have HA := Lib.hid (grow3_blk gr HG.out HA.out (by decide) (by decide))
    have HW := Lib.hid (grow3_blk gr HG.out HW.out (by decide) (by decide))
    have HGB := Lib.hid (grow3_blk gr HG.out HGB.out (by decide) (by decide))
    have HS := Lib.hid (grow3_disk gr HS.out HSG.out)
    have HB := Lib.hid (grow3_below gr HG.out HB.out HB.out.size)
    have HGM := Lib.hid hGm
    clear gr hGm e0 e1 e2
    obtain ⟨⟨e0, e1, e2⟩, _⟩ := dk_cells HGB.out
    go_wp2_with fail
    refine (CH.out _ HGM.out).mono ?_
    rintro e wp ⟨rfl, hb11⟩
    have HA := Lib.hid ((hb11.block _ (Array.getElem?_eq_some_iff.1 HA.out).1).trans HA.out)
    have HW := Lib.hid ((hb11.block _ (Array.getElem?_eq_some_iff.1 HW.out).1).trans HW.out)
    have HGB := Lib.hid ((hb11.block _ (Array.getElem?_eq_some_iff.1 HGB.out).1).trans HGB.out)
    have HS := Lib.hid (HS.out.below hb11)
    have HGM := Lib.hid (HGM.out.below hb11)
    have HB := Lib.hid (HB.out.trans (hb11.mono HB.out.size))
    clear hb11 e0 e1 e2
    obtain ⟨⟨b0, b1, b2⟩, _⟩ := dk_cells HA.out
    go_wp2_with fail
    refine (CT.out _ (by exact HB.out)).mono ?_
    rintro e wq ⟨u1, u2, u3, rfl, f1, f2, f3, _, hb12⟩
    have HA := Lib.hid ((hb12.block _ (Array.getElem?_eq_some_iff.1 HA.out).1).trans HA.out)
    have HW := Lib.hid ((hb12.block _ (Array.getElem?_eq_some_iff.1 HW.out).1).trans HW.out)
    have HGB := Lib.hid ((hb12.block _ (Array.getElem?_eq_some_iff.1 HGB.out).1).trans HGB.out)
    have HS := Lib.hid (HS.out.below hb12)
    have HGM := Lib.hid (HGM.out.below hb12)
    have HB := Lib.hid (HB.out.trans (hb12.mono HB.out.size))
    have hU : DiskAt 0 u1 u2 u3 d wq := ⟨f1.mono (Nat.zero_le _), f2.mono (Nat.zero_le _), f3.mono (Nat.zero_le _)⟩
    have CJ := Lib.hid (CI.out u1 u2 u3 wq hU)
    clear hb12 b0 b1 b2 f1 f2 f3 hU
    go_wp2_with fail
    refine CJ.out.mono ?_
    rintro e wr ⟨h1, h2, h3, rfl, hH, _, hb13⟩
    have HA := Lib.hid ((hb13.block _ (Array.getElem?_eq_some_iff.1 HA.out).1).trans HA.out)
    have HW := Lib.hid ((hb13.block _ (Array.getElem?_eq_some_iff.1 HW.out).1).trans HW.out)
    have HGB := Lib.hid ((hb13.block _ (Array.getElem?_eq_some_iff.1 HGB.out).1).trans HGB.out)
    have HS := Lib.hid (HS.out.below hb13)
    have HGM := Lib.hid (HGM.out.below hb13)
    have HB := Lib.hid (HB.out.trans (hb13.mono HB.out.size))
    obtain ⟨h1, h1c, rfl, _⟩ := hH.live.open
    obtain ⟨h2, h2c, rfl, _⟩ := hH.safe.open
    obtain ⟨h3, h3c, rfl, _⟩ := hH.ops.open
    have hal : Below wr.heap.size wr (wr.alloc (.cells #[.slice h1 Y.live.length h1c, .slice h2 Y.safe.length h2c, .slice h3 Y.ops.length h3c] 27)) := (Below.refl _ _).alloc (Nat.le_refl _) _
    have HHB := Lib.hid (heap_alloc_new wr (.cells #[.slice h1 Y.live.length h1c, .slice h2 Y.safe.length h2c, .slice h3 Y.ops.length h3c] 27))
    have HH := Lib.hid ((hH.mono (Nat.zero_le _)).below hal)
    have HA := Lib.hid ((hal.block _ (Array.getElem?_eq_some_iff.1 HA.out).1).trans HA.out)
    have HW := Lib.hid ((hal.block _ (Array.getElem?_eq_some_iff.1 HW.out).1).trans HW.out)
    have HGB := Lib.hid ((hal.block _ (Array.getElem?_eq_some_iff.1 HGB.out).1).trans HGB.out)
    have HS := Lib.hid (HS.out.below hal)
    have HGM := Lib.hid (HGM.out.below hal)
    have HB := Lib.hid (HB.out.trans (hal.mono HB.out.size))
    clear hb13 hH hal CJ
    obtain ⟨⟨e0, e1, e2⟩, _⟩ := dk_cells HHB.out
    obtain ⟨⟨k0, k1, k2⟩, _⟩ := dk_cells HW.out
    go_wp2_with fail
    refine (eqDisk_same _ _ _ _ _ _ Y _ HH.out (HS.out.mono (Nat.zero_le _)) HSM.out).mono ?_
    rintro e ws ⟨rfl, hb14⟩
    have HA := Lib.hid ((hb14.block _ (Array.getElem?_eq_some_iff.1 HA.out).1).trans HA.out)
    have HW := Lib.hid ((hb14.block _ (Array.getElem?_eq_some_iff.1 HW.out).1).trans HW.out)
    have HGB := Lib.hid ((hb14.block _ (Array.getElem?_eq_some_iff.1 HGB.out).1).trans HGB.out)
    have HS := Lib.hid (HS.out.below hb14)
    have HGM := Lib.hid (HGM.out.below hb14)
    have HB := Lib.hid (HB.out.trans (hb14.mono HB.out.size))
    clear hb14 e0 e1 e2 k0 k1 k2
    obtain ⟨⟨e0, e1, e2⟩, _⟩ := dk_cells HGB.out
    go_wp2_with fail
    refine (CH.out _ HGM.out).mono ?_
    rintro e wt ⟨rfl, hb15⟩
    have HB := Lib.hid (HB.out.trans (hb15.mono HB.out.size))
    clear hb15 e0 e1 e2
    go_wp2
    go_ret
    exact ⟨rfl, HB.out⟩

set_option maxRecDepth 100000 in
theorem lifted (os : Os) (started : os.Started) (H : Type) (enc : TypeId × Value → H) :
    ReturnsInHanded {} Try.checked os 9 .any (Rows.fnExactSyncSpec.pre6 enc Try.prog Try.f9 Rows.fnExactSyncRow.domain false) (Rows.fnExactSyncSpec.post enc Try.prog Try.f9 false true false false) := by
  refine returnsInHanded_of_change (C := Try.checked) own started (by kernel_rfl) Try.func9
    (ChangeSpec.witness6 (enc := enc) (C := Try.checked) false ⟨#[], #[.agg #[.slice none 0 0, .slice none 0 0, .slice none 0 0]], []⟩ 8 (by kernel_rfl) (by kernel_rfl) (by kernel_rfl) (by kernel_rfl)) ?_
  intro W base args ds gs before hval0 hW hcnd _
  have hval : ∀ (j : Nat) t v, Try.f9.params[j]? = some t → args[j]? = some v → Value.okWide Try.prog W .any base t v := hval0
  have hW' := hW
  obtain ⟨p, q, hA0, hV, rfl, hfz, hnd⟩ := hW
  have hA : DataW.TrodAll enc Try.prog W 0 (fun _ => true) true Try.f9.params.toList args.toList ds p := hA0
  rw [Try.params9] at hA hval
  obtain ⟨v0, vs0, d0, ds0, p0, q0, hargs, rfl, rfl, h0, r0⟩ := trodAll_cons hA
  obtain ⟨rfl, rfl, rfl⟩ := trodAll_nil r0
  obtain rfl : args = #[v0] := by cases args; simp_all
  obtain ⟨rfl, rfl⟩ := trodVars_none hV
  have k0 := h0
  have lt0 : ∀ x ∈ p0, x.block < W.heap.size := by obtain ⟨m, hm⟩ := k0; exact DataW.trod_lt m _ _ _ hm
  obtain ⟨a0, b0, c0, D0, rfl, w0⟩ := disk_open (hval 0 56 v0 rfl rfl) h0
  clear hA0 hval0
  refine (walk W a0 b0 c0 D0 w0).mono fun e W' ⟨he, bel⟩ => ?_
  subst he
  exact ⟨_, rfl, _, _, _, [], _, [], hW', trodAll_mk1 (shut_bool Try.underlying4 _), (trodAll_cons_mk (Below.trod laidOut (by kernel_rfl) (of_decide_eq_true (by kernel_rfl)) k0 bel lt0) trodAll_mk0), rfl, bel.frame _, fun h => by cases h⟩

theorem proved : Rows.FnExactSyncSaid :=
  OpenClaim.holds_of_wide 9 Try.f9 rfl rfl rfl rfl rfl rfl rfl ⟨rfl, rfl, rfl, rfl, rfl⟩ rfl rfl rfl rfl rfl (by kernel_rfl) Try.func9 (by kernel_rfl)
    (of_decide_eq_true (by kernel_rfl)) (by unfold Func.isWrapper; first | (rw [if_pos (by decide +kernel)]; kernel_rfl) | (rw [if_neg (by decide +kernel)]; exact ⟨rfl, rfl⟩))
    (fun os started H enc _ => lifted os started H enc)
end Go.Proofs.Ytepefbfmjjnamaa.fnExactSync

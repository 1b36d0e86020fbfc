/- Proved: for every argument FnExactDiskOk returns true: the program's DiskOk answers as the specification's, and leaves the disk as it was (disks of more than 2^20 in all are passed over by the law itself). No condition. -/
import Derived.Test.YtepefbfmjjnamaaRows
import Derived.WalkKit
import Derived.ProofKit
import Derived.OpenShut
import Derived.ShutString
import Derived.ChangeOld
import Derived.Below
import Derived.Test.YtepefbfmjjnamaaDkR
import Derived.Test.YtepefbfmjjnamaaDkIk
namespace Go.Proofs.Ytepefbfmjjnamaa.fnExactDiskOk
open Go.ChangeShapes Go.WideShapes Go.ChangeAt Go.RowKit Go.My
set_option linter.unusedVariables false

theorem own : ownKnob Try.prog.godebug = none := by kernel_rfl
theorem laidOut : laidOutB Try.prog = true := by kernel_rfl

set_option maxRecDepth 20000 in
set_option maxHeartbeats 4000000 in
theorem walk (w : World) (v1 v2 v3 : Value) (d : DiskT) (h : DiskArg v1 v2 v3 d w) :
    Calls Try.prog 7 #[.agg #[v1, v2, v3]] w fun e w' => e = .returned (.bool true) ∧ Below w.heap.size w w' := by
  have H := Lib.hid h
  have CZ := Lib.hid (fun W (hW : Below w.heap.size w W) => (szDisk_any v1 v2 v3 d 1048576 W (H.out.below hW) (Nat.le_refl _) : Calls Try.prog 35 #[.agg #[v1, v2, v3], .int .i64 1048576] W _))
  obtain ⟨⟨p1, m1, rfl, _⟩, ⟨p2, m2, rfl, _⟩, ⟨p3, m3, rfl, _⟩, _, _, _⟩ := h
  go_enter Try.func7, Try.ntmps7
  go_wp2_with fail
  refine (CZ.out _ ?_).mono ?_
  · exact (Below.refl w.heap.size w).alloc (Nat.le_refl _) _
  rintro e w1 ⟨hres, hb1⟩
  obtain ⟨hB1, x1⟩ := boxes1 w _ _ hb1
  clear hb1
  rcases hres with ⟨r, rfl, hr⟩ | rfl
  case inr =>
    go_wp2
    go_ret
    exact ⟨rfl, hB1⟩
  have q : ¬ (r : Int) < 0 := by omega
  have HF : Hid d.fit := fit_of H.out (by omega)
  clear hr
  have CT := Lib.hid (fun W (hW : Below w.heap.size w W) => toDisk_any _ _ _ d W (H.out.live.below hW) (H.out.safe.below hW) (H.out.ops.below hW) HF.out.small.live HF.out.small.safe HF.out.small.ops)
  obtain ⟨⟨b0, b1, b2⟩, _⟩ := dk_cells x1
  have HX1 := Lib.hid x1
  have HB1 := Lib.hid hB1
  clear x1 hB1 CZ
  go_wp2_with fail
  refine (CT.out _ (by exact HB1.out)).mono ?_
  rintro e w2 ⟨u1, u2, u3, rfl, f1, f2, f3, _, hb2⟩
  have HB2 := Lib.hid (HB1.out.trans (hb2.mono HB1.out.size))
  have HX2 := Lib.hid ((hb2.block _ (Array.getElem?_eq_some_iff.1 HX1.out).1).trans HX1.out)
  have CS := Lib.hid (disk_s u1 u2 u3 d w2 ⟨f1.mono (Nat.zero_le _), f2.mono (Nat.zero_le _), f3.mono (Nat.zero_le _)⟩ HF.out)
  clear f1 f2 f3 hb2 b0 b1 b2 HX1 HB1
  obtain ⟨k, hk⟩ : ∃ k, diskB d = k := ⟨_, rfl⟩
  rw [hk] at CS
  have HK := Lib.hid hk
  clear hk
  go_wp2_with fail
  refine CS.out.mono ?_
  rintro e w3 ⟨rfl, hb3⟩
  have HB3 := Lib.hid (HB2.out.trans (hb3.mono HB2.out.size))
  have x3 := (hb3.block _ (Array.getElem?_eq_some_iff.1 HX2.out).1).trans HX2.out
  obtain ⟨⟨b0, b1, b2⟩, _⟩ := dk_cells x3
  have HX3 := Lib.hid x3
  clear x3 hb3 HX2 HB2 CS
  go_wp2_with fail
  refine (CT.out _ (by exact HB3.out)).mono ?_
  rintro e w4 ⟨u1, u2, u3, rfl, f1, f2, f3, _, hb4⟩
  have HD4 := Lib.hid (show DiskAt 0 u1 u2 u3 d w4 from ⟨f1.mono (Nat.zero_le _), f2.mono (Nat.zero_le _), f3.mono (Nat.zero_le _)⟩)
  obtain ⟨pu1, cu1, rfl, _⟩ := f1.open
  obtain ⟨pu2, cu2, rfl, _⟩ := f2.open
  obtain ⟨pu3, cu3, rfl, _⟩ := f3.open
  have HB4 := Lib.hid (HB3.out.trans (hb4.mono HB3.out.size))
  have HX4 := Lib.hid ((hb4.block _ (Array.getElem?_eq_some_iff.1 HX3.out).1).trans HX3.out)
  clear f1 f2 f3 hb4 b0 b1 b2 HX3 HB3
  have CI := Lib.hid (fun W (hW : Below w4.heap.size w4 W) => diskOk_i _ _ _ d W (HD4.out.below hW) HF.out)
  rw [HK.out] at CI
  go_wp2_with fail
  refine (CI.out _ ?_).mono ?_
  · exact (Below.refl w4.heap.size w4).alloc (Nat.le_refl _) _
  rintro e w5 ⟨rfl, hb5⟩
  obtain ⟨hB5, y5⟩ := boxes1 w4 _ _ hb5
  have x5 := (hB5.block _ (Array.getElem?_eq_some_iff.1 HX4.out).1).trans HX4.out
  have HBB := Lib.hid (HB4.out.trans (hB5.mono HB4.out.size))
  have HD5 := Lib.hid (HD4.out.below hB5)
  have CT5 := Lib.hid (fun W (hW : Below w5.heap.size w5 W) => CT.out W (HBB.out.trans (hW.mono HBB.out.size)))
  have hBx : Below w5.heap.size w5 w5 := Below.refl _ _
  obtain ⟨⟨b0, b1, b2⟩, _⟩ := dk_cells x5
  obtain ⟨⟨c0, c1, c2⟩, _⟩ := dk_cells y5
  clear hb5 hB5 y5 x5 CI CT HX4 HB4 HD4 q
  go_wp2_with fail
  go_region_held3 (fun w' => w'.cell? ⟨w.heap.size, 0, none⟩ = some (.slice p1 d.live.length m1) ∧ w'.cell? ⟨w.heap.size, 1, none⟩ = some (.slice p2 d.safe.length m2) ∧ w'.cell? ⟨w.heap.size, 2, none⟩ = some (.slice p3 d.ops.length m3) ∧ w'.cell? ⟨w4.heap.size, 0, none⟩ = some (.slice pu1 d.live.length cu1) ∧ w'.cell? ⟨w4.heap.size, 1, none⟩ = some (.slice pu2 d.safe.length cu2) ∧ w'.cell? ⟨w4.heap.size, 2, none⟩ = some (.slice pu3 d.ops.length cu3)) (first | exact ⟨b0, b1, b2, c0, c1, c2⟩) (first
    | (go_at_call 36; refine (CT5.out _ (by first | exact hBx | exact hBx.drew)).mono ?_; rintro e wz ⟨t1, t2, t3, rfl, g1, g2, g3, _, hbz⟩; have b0 := (hbz.cell (p := ⟨w.heap.size, 0, none⟩) (World.block_lt_of_cell? _ _ b0)).trans b0; have b1 := (hbz.cell (p := ⟨w.heap.size, 1, none⟩) (World.block_lt_of_cell? _ _ b1)).trans b1; have b2 := (hbz.cell (p := ⟨w.heap.size, 2, none⟩) (World.block_lt_of_cell? _ _ b2)).trans b2; have c0 := (hbz.cell (p := ⟨w4.heap.size, 0, none⟩) (World.block_lt_of_cell? _ _ c0)).trans c0; have c1 := (hbz.cell (p := ⟨w4.heap.size, 1, none⟩) (World.block_lt_of_cell? _ _ c1)).trans c1; have c2 := (hbz.cell (p := ⟨w4.heap.size, 2, none⟩) (World.block_lt_of_cell? _ _ c2)).trans c2; have hBx := below_nx hbz (by first | exact hBx | exact hBx.drew) (by exact hBx.size))
    | (go_at_call 37; refine (eqDisk_same _ _ _ t1 t2 t3 d _ (by first | exact HD5.out.below hBx | exact HD5.out.below hBx.drew) (by exact ⟨g1.mono (Nat.zero_le _), g2.mono (Nat.zero_le _), g3.mono (Nat.zero_le _)⟩) HF.out.small).mono ?_; rintro e wy ⟨rfl, hby⟩; have b0 := (hby.cell (p := ⟨w.heap.size, 0, none⟩) (World.block_lt_of_cell? _ _ b0)).trans b0; have b1 := (hby.cell (p := ⟨w.heap.size, 1, none⟩) (World.block_lt_of_cell? _ _ b1)).trans b1; have b2 := (hby.cell (p := ⟨w.heap.size, 2, none⟩) (World.block_lt_of_cell? _ _ b2)).trans b2; have c0 := (hby.cell (p := ⟨w4.heap.size, 0, none⟩) (World.block_lt_of_cell? _ _ c0)).trans c0; have c1 := (hby.cell (p := ⟨w4.heap.size, 1, none⟩) (World.block_lt_of_cell? _ _ c1)).trans c1; have c2 := (hby.cell (p := ⟨w4.heap.size, 2, none⟩) (World.block_lt_of_cell? _ _ c2)).trans c2; have hBx := below_nx hby (by first | exact hBx | exact hBx.drew) (by exact hBx.size)))
  all_goals
    go_wp2
    go_ret
    exact ⟨rfl, HBB.out.trans (hBx.mono HBB.out.size)⟩

set_option maxRecDepth 100000 in
theorem lifted (os : Os) (started : os.Started) (H : Type) (enc : TypeId × Value → H) :
    ReturnsInHanded {} Try.checked os 7 .any (Rows.fnExactDiskOkSpec.pre6 enc Try.prog Try.f7 Rows.fnExactDiskOkRow.domain false) (Rows.fnExactDiskOkSpec.post enc Try.prog Try.f7 false true false false) := by
  refine returnsInHanded_of_change (C := Try.checked) own started (by kernel_rfl) Try.func7
    (ChangeSpec.witness6 (enc := enc) (C := Try.checked) false ⟨#[], #[.agg #[.slice none 0 0, .slice none 0 0, .slice none 0 0]], []⟩ 8 (by kernel_rfl) (by kernel_rfl) (by kernel_rfl) (by kernel_rfl)) ?_
  intro W base args ds gs before hval0 hW hcnd _
  have hval : ∀ (j : Nat) t v, Try.f7.params[j]? = some t → args[j]? = some v → Value.okWide Try.prog W .any base t v := hval0
  have hW' := hW
  obtain ⟨p, q, hA0, hV, rfl, hfz, hnd⟩ := hW
  have hA : DataW.TrodAll enc Try.prog W 0 (fun _ => true) true Try.f7.params.toList args.toList ds p := hA0
  rw [Try.params7] at hA hval
  obtain ⟨v0, vs0, d0, ds0, p0, q0, hargs, rfl, rfl, h0, r0⟩ := trodAll_cons hA
  obtain ⟨rfl, rfl, rfl⟩ := trodAll_nil r0
  obtain rfl : args = #[v0] := by cases args; simp_all
  obtain ⟨rfl, rfl⟩ := trodVars_none hV
  have k0 := h0
  have lt0 : ∀ x ∈ p0, x.block < W.heap.size := by obtain ⟨m, hm⟩ := k0; exact DataW.trod_lt m _ _ _ hm
  obtain ⟨a0, b0, c0, D0, rfl, w0⟩ := disk_open (hval 0 56 v0 rfl rfl) h0
  clear hA0 hval0
  refine (walk W a0 b0 c0 D0 w0).mono fun e W' ⟨he, bel⟩ => ?_
  subst he
  exact ⟨_, rfl, _, _, _, [], _, [], hW', trodAll_mk1 (shut_bool Try.underlying4 _), (trodAll_cons_mk (Below.trod laidOut (by kernel_rfl) (of_decide_eq_true (by kernel_rfl)) k0 bel lt0) trodAll_mk0), rfl, bel.frame _, fun h => by cases h⟩

theorem proved : Rows.FnExactDiskOkSaid :=
  OpenClaim.holds_of_wide 7 Try.f7 rfl rfl rfl rfl rfl rfl rfl ⟨rfl, rfl, rfl, rfl, rfl⟩ rfl rfl rfl rfl rfl (by kernel_rfl) Try.func7 (by kernel_rfl)
    (of_decide_eq_true (by kernel_rfl)) (by unfold Func.isWrapper; first | (rw [if_pos (by decide +kernel)]; kernel_rfl) | (rw [if_neg (by decide +kernel)]; exact ⟨rfl, rfl⟩))
    (fun os started H enc _ => lifted os started H enc)
end Go.Proofs.Ytepefbfmjjnamaa.fnExactDiskOk

/- Proved: for every code FnEnvParts returns true: of whatever envelope, initial keys and head are drawn from it, the program's bytes are the specification's, and the bytes of an envelope end with those of its message, ahead of which lie those of its initial keys, where it has them (codes of more than 2^20 bytes are passed over by the law itself). No further condition. -/
import Derived.Test.YtmolcpojdojmlaaRows
import Derived.WalkKit
import Derived.ProofKit
import Derived.OpenShut
import Derived.ShutString
import Derived.ChangeOld
import Derived.Below
import Derived.Test.YtmolcpojdojmlaaDrawI
import Derived.Test.YtmolcpojdojmlaaPrt
import Derived.Test.YtmolcpojdojmlaaWireL
import Derived.Deep.RegionHeld3
namespace Go.Proofs.Ytmolcpojdojmlaa.fnEnvParts
open Go.ChangeShapes Go.WideShapes Go.ChangeAt Go.RowKit Go.My
open Go.ChangeMaps (open_string shut_string)
set_option linter.unusedVariables false
set_option maxRecDepth 100000

theorem own : ownKnob Try.prog.godebug = none := by kernel_rfl
theorem laidOut : laidOutB Try.prog = true := by kernel_rfl
set_option maxHeartbeats 8000000 in
theorem walk (w : World) (a0 : Option Addr) (len0 cap0 : Nat) (z0 : List Int) (w0 : IsRow .u8 w a0 len0 cap0 z0) :
    Calls Try.prog 3 #[.slice a0 len0 cap0] w fun e w' => e = .returned (.bool true) ∧ Below w.heap.size w w' := by
  have hmax : len0 ≤ 9223372036854775807 := by
    rcases w0 with ⟨_, rfl, _⟩ | ⟨x, _, h1, h2, _⟩
    · omega
    · unfold maxLen at h2; omega
  by_cases hl : len0 ≤ 1048576
  case neg =>
    have hd : decide (1048576 < (len0 : Int)) = true := by simp; omega
    go_enter Try.func3, Try.ntmps3
    go_wp2_with fail
    refine (big_any _ _ _ _ hmax).mono ?_
    rintro e w' ⟨rfl, rfl⟩
    rw [hd]
    go_wp2
    go_ret
    exact ⟨rfl, Below.refl _ _⟩
  have hd : decide (1048576 < (len0 : Int)) = false := by simp; omega
  have hc := code_of_row w0 hl
  have HC := Lib.hid (fun w1 (h : Below w.heap.size w w1) => (hc.below h).wide h.size)
  clear w0 hl
  go_enter Try.func3, Try.ntmps3
  go_wp2_with fail
  refine (big_any _ _ _ _ hmax).mono ?_
  rintro e w' ⟨rfl, rfl⟩
  rw [hd]
  clear hd hmax
  go_wp2_with fail
  refine (draw_env w.heap.size a0 len0 cap0 _ (Nat.le_refl _) hc).mono ?_
  rintro e w1 ⟨f, t0, z, p, q, o, u, a, b, x, rfl, ⟨wff, wft, hps, hqs, wfo, hus, wfa, wfb, hxs⟩, hb1'⟩
  have hb1 := hb1'
  clear hb1'
  clear hc
  have hB := hb1.alloc hb1.size (.cells (envA f t0 z p q o u a b x) 31)
  have be := BlkAt.box w1 (envA f t0 z p q o u a b x) 31
  go_wp2_with fail
  refine (draw_init _ a0 len0 cap0 _ (Nat.le_refl _) (HC.out _ hB)).mono ?_
  rintro e w2 ⟨ip, iq, io, rfl, ⟨hip, hiq, wfio⟩, hx2⟩
  have be := BlkAt.below hx2 be
  have hB := hB.trans (hx2.mono hB.size)
  clear hx2 hb1
  generalize w1.heap.size = ke at *
  have hB := hB.alloc hB.size (.cells (initA ip iq io) 25)
  have be := be.past (.cells (initA ip iq io) 25)
  have bi := BlkAt.box w2 (initA ip iq io) 25
  go_wp2_with fail
  refine (draw_head _ a0 len0 cap0 _ (Nat.le_refl _) (HC.out _ hB)).mono ?_
  rintro e w3 ⟨hp, ha, hb, rfl, ⟨hhp, wfha, wfhb⟩, hx3⟩
  have be := BlkAt.below hx3 be
  have bi := BlkAt.below hx3 bi
  have hB := hB.trans (hx3.mono hB.size)
  clear hx3
  generalize w2.heap.size = ki at *
  have be3 := be
  have le := be.lt
  have hB := hB.alloc hB.size (.cells (headA hp ha hb) 27)
  have be := be.past (.cells (headA hp ha hb) 27)
  have bi := bi.past (.cells (headA hp ha hb) 27)
  have bh := BlkAt.box w3 (headA hp ha hb) 27
  have x0 := be3.cell (j := 0) rfl
  have y0 := be.cell (j := 0) rfl
  have x1 := be3.cell (j := 1) rfl
  have y1 := be.cell (j := 1) rfl
  have x2 := be3.cell (j := 2) rfl
  have y2 := be.cell (j := 2) rfl
  have x3 := be3.cell (j := 3) rfl
  have y3 := be.cell (j := 3) rfl
  have x4 := be3.cell (j := 4) rfl
  have y4 := be.cell (j := 4) rfl
  have x5 := be3.cell (j := 5) rfl
  have y5 := be.cell (j := 5) rfl
  have x6 := be3.cell (j := 6) rfl
  have y6 := be.cell (j := 6) rfl
  have x7 := be3.cell (j := 7) rfl
  have y7 := be.cell (j := 7) rfl
  have x8 := be3.cell (j := 8) rfl
  have y8 := be.cell (j := 8) rfl
  have x9 := be3.cell (j := 9) rfl
  have y9 := be.cell (j := 9) rfl
  go_wp2_with fail
  refine (envBytes_i f t0 z p q o u a b x _ (by omega) (by omega) (by omega) (by omega)).mono ?_
  rintro e w4 ⟨rfl, hx4⟩
  have be := BlkAt.below hx4 be
  have bi := BlkAt.below hx4 bi
  have bh := BlkAt.below hx4 bh
  have hB := hB.trans (hx4.mono hB.size)
  clear hx4 be3 le x0 y0 x1 y1 x2 y2 x3 y3 x4 y4 x5 y5 x6 y6 x7 y7 x8 y8 x9 y9
  generalize w3.heap.size = kh at *
  have CE := Lib.hid (fun w => envBytes_s f t0 z p q o u a b x w (by omega) (by omega) (by omega) (by omega))
  have CI := Lib.hid (fun w => initBytes_i ip iq io w (by omega) (by omega))
  have CJ := Lib.hid (fun w => initBytes_s ip iq io w (by omega) (by omega))
  have CH := Lib.hid (fun w => headBytes_i hp ha hb w (by omega))
  have CG := Lib.hid (fun w => headBytes_s hp ha hb w (by omega))
  have DM := Lib.hid (fun w => msgBytes_i u a b x w (by omega) (by omega))
  have DI := Lib.hid (fun w => initBytes_i p q o w (by omega) (by omega))
  have hVs := envV_size f t0 z p q o u a b x
  have FIN : Hid (EnvP f t0 z p q o u a b x → (envV f t0 z p q o u a b x).size = 3 + (endB z p q o u a b x).size ∧ (envV f t0 z p q o u a b x).extract 3 (envV f t0 z p q o u a b x).size = endB z p q o u a b x ∧ msgV u a b x = msgB u a b x ∧ (z = true → initV p q o = initB p q o)) := Lib.hid (fun h => by
    have e := env_parts h
    rw [envV_yes h]
    refine ⟨e.1, e.2, msgV_yes h.2.2.2.1, fun hz => ?_⟩
    subst hz
    exact initV_yes h.2.2.2.2)
  have EMP : Hid (¬ EnvP f t0 z p q o u a b x → (envV f t0 z p q o u a b x).toList = []) := Lib.hid (fun h => by rw [envV_no h, ByteArray.toList_eq])
  have msz := Lib.hid (fun h => msgB_size (p := u) (a := a) (b := b) (s := x) h)
  have isz := Lib.hid (fun h => initB_size (p := p) (q := q) (o := o) h)
  generalize envV f t0 z p q o u a b x = V at *
  generalize initV ip iq io = IV at *
  generalize headV hp ha hb = HV at *
  have e0 := be.cell (j := 0) rfl
  have e1 := be.cell (j := 1) rfl
  have e2 := be.cell (j := 2) rfl
  have e3 := be.cell (j := 3) rfl
  have e4 := be.cell (j := 4) rfl
  have e5 := be.cell (j := 5) rfl
  have e6 := be.cell (j := 6) rfl
  have e7 := be.cell (j := 7) rfl
  have e8 := be.cell (j := 8) rfl
  have e9 := be.cell (j := 9) rfl
  have i0 := bi.cell (j := 0) rfl
  have i1 := bi.cell (j := 1) rfl
  have i2 := bi.cell (j := 2) rfl
  have h0 := bh.cell (j := 0) rfl
  have h1 := bh.cell (j := 1) rfl
  have h2 := bh.cell (j := 2) rfl
  by_cases hP : EnvP f t0 z p q o u a b x
  · obtain ⟨z1', z2', z3, z4⟩ := FIN.out hP
    have Z1 := Lib.hid z1'
    have Z2 := Lib.hid z2'
    have hms := msz.out hP.2.2.2.1
    have hne : V.toList.isEmpty = false := by rw [isE', decide_eq_false (by omega)]
    have hne2 : ¬ V.toList = [] := fun e => by rw [e] at hne; cases hne
    rw [z3] at DM
    have hI : z = true → (initB p q o).size ≤ 71 := fun hz => by subst hz; exact isz.out hP.2.2.2.2
    clear FIN EMP z3 hP z1' z2'
    go_wp2_with fail
    go_region_held3 (fun w' => w'.cell? ⟨ke, 0, none⟩ = some (.int .i64 f) ∧ w'.cell? ⟨ke, 1, none⟩ = some (.int .i64 t0) ∧ w'.cell? ⟨ke, 2, none⟩ = some (.bool z) ∧ w'.cell? ⟨ke, 3, none⟩ = some (.string p) ∧ w'.cell? ⟨ke, 4, none⟩ = some (.string q) ∧ w'.cell? ⟨ke, 5, none⟩ = some (.int .i64 o) ∧ w'.cell? ⟨ke, 6, none⟩ = some (.string u) ∧ w'.cell? ⟨ke, 7, none⟩ = some (.int .i64 a) ∧ w'.cell? ⟨ke, 8, none⟩ = some (.int .i64 b) ∧ w'.cell? ⟨ke, 9, none⟩ = some (.string x) ∧ w'.cell? ⟨ki, 0, none⟩ = some (.string ip) ∧ w'.cell? ⟨ki, 1, none⟩ = some (.string iq) ∧ w'.cell? ⟨ki, 2, none⟩ = some (.int .i64 io) ∧ w'.cell? ⟨kh, 0, none⟩ = some (.string hp) ∧ w'.cell? ⟨kh, 1, none⟩ = some (.int .i64 ha) ∧ w'.cell? ⟨kh, 2, none⟩ = some (.int .i64 hb)) (first | exact ⟨e0, e1, e2, e3, e4, e5, e6, e7, e8, e9, i0, i1, i2, h0, h1, h2⟩) (first
    | (go_at_call 11; refine (CE.out _).mono ?_; rintro e wq ⟨rfl, hbq⟩; have be := BlkAt.below hbq (by exact be); have bi := BlkAt.below hbq (by exact bi); have bh := BlkAt.below hbq (by exact bh); have hB := below_next hbq (by first | exact hB | exact hB.drew) (by first | exact hB.size); have e0 := be.cell (j := 0) rfl; have e1 := be.cell (j := 1) rfl; have e2 := be.cell (j := 2) rfl; have e3 := be.cell (j := 3) rfl; have e4 := be.cell (j := 4) rfl; have e5 := be.cell (j := 5) rfl; have e6 := be.cell (j := 6) rfl; have e7 := be.cell (j := 7) rfl; have e8 := be.cell (j := 8) rfl; have e9 := be.cell (j := 9) rfl; have i0 := bi.cell (j := 0) rfl; have i1 := bi.cell (j := 1) rfl; have i2 := bi.cell (j := 2) rfl; have h0 := bh.cell (j := 0) rfl; have h1 := bh.cell (j := 1) rfl; have h2 := bh.cell (j := 2) rfl)
    | (go_at_call 12; refine (CI.out _).mono ?_; rintro e wq ⟨rfl, hbq⟩; have be := BlkAt.below hbq (by exact be); have bi := BlkAt.below hbq (by exact bi); have bh := BlkAt.below hbq (by exact bh); have hB := below_next hbq (by first | exact hB | exact hB.drew) (by first | exact hB.size); have e0 := be.cell (j := 0) rfl; have e1 := be.cell (j := 1) rfl; have e2 := be.cell (j := 2) rfl; have e3 := be.cell (j := 3) rfl; have e4 := be.cell (j := 4) rfl; have e5 := be.cell (j := 5) rfl; have e6 := be.cell (j := 6) rfl; have e7 := be.cell (j := 7) rfl; have e8 := be.cell (j := 8) rfl; have e9 := be.cell (j := 9) rfl; have i0 := bi.cell (j := 0) rfl; have i1 := bi.cell (j := 1) rfl; have i2 := bi.cell (j := 2) rfl; have h0 := bh.cell (j := 0) rfl; have h1 := bh.cell (j := 1) rfl; have h2 := bh.cell (j := 2) rfl)
    | (go_at_call 13; refine (CJ.out _).mono ?_; rintro e wq ⟨rfl, hbq⟩; have be := BlkAt.below hbq (by exact be); have bi := BlkAt.below hbq (by exact bi); have bh := BlkAt.below hbq (by exact bh); have hB := below_next hbq (by first | exact hB | exact hB.drew) (by first | exact hB.size); have e0 := be.cell (j := 0) rfl; have e1 := be.cell (j := 1) rfl; have e2 := be.cell (j := 2) rfl; have e3 := be.cell (j := 3) rfl; have e4 := be.cell (j := 4) rfl; have e5 := be.cell (j := 5) rfl; have e6 := be.cell (j := 6) rfl; have e7 := be.cell (j := 7) rfl; have e8 := be.cell (j := 8) rfl; have e9 := be.cell (j := 9) rfl; have i0 := bi.cell (j := 0) rfl; have i1 := bi.cell (j := 1) rfl; have i2 := bi.cell (j := 2) rfl; have h0 := bh.cell (j := 0) rfl; have h1 := bh.cell (j := 1) rfl; have h2 := bh.cell (j := 2) rfl)
    | (go_at_call 14; refine (CH.out _).mono ?_; rintro e wq ⟨rfl, hbq⟩; have be := BlkAt.below hbq (by exact be); have bi := BlkAt.below hbq (by exact bi); have bh := BlkAt.below hbq (by exact bh); have hB := below_next hbq (by first | exact hB | exact hB.drew) (by first | exact hB.size); have e0 := be.cell (j := 0) rfl; have e1 := be.cell (j := 1) rfl; have e2 := be.cell (j := 2) rfl; have e3 := be.cell (j := 3) rfl; have e4 := be.cell (j := 4) rfl; have e5 := be.cell (j := 5) rfl; have e6 := be.cell (j := 6) rfl; have e7 := be.cell (j := 7) rfl; have e8 := be.cell (j := 8) rfl; have e9 := be.cell (j := 9) rfl; have i0 := bi.cell (j := 0) rfl; have i1 := bi.cell (j := 1) rfl; have i2 := bi.cell (j := 2) rfl; have h0 := bh.cell (j := 0) rfl; have h1 := bh.cell (j := 1) rfl; have h2 := bh.cell (j := 2) rfl)
    | (go_at_call 15; refine (CG.out _).mono ?_; rintro e wq ⟨rfl, hbq⟩; have be := BlkAt.below hbq (by exact be); have bi := BlkAt.below hbq (by exact bi); have bh := BlkAt.below hbq (by exact bh); have hB := below_next hbq (by first | exact hB | exact hB.drew) (by first | exact hB.size); have e0 := be.cell (j := 0) rfl; have e1 := be.cell (j := 1) rfl; have e2 := be.cell (j := 2) rfl; have e3 := be.cell (j := 3) rfl; have e4 := be.cell (j := 4) rfl; have e5 := be.cell (j := 5) rfl; have e6 := be.cell (j := 6) rfl; have e7 := be.cell (j := 7) rfl; have e8 := be.cell (j := 8) rfl; have e9 := be.cell (j := 9) rfl; have i0 := bi.cell (j := 0) rfl; have i1 := bi.cell (j := 1) rfl; have i2 := bi.cell (j := 2) rfl; have h0 := bh.cell (j := 0) rfl; have h1 := bh.cell (j := 1) rfl; have h2 := bh.cell (j := 2) rfl))
    all_goals
      clear CE CI CJ CH CG
      go_wp2_with fail
      refine (DM.out _).mono ?_
      rintro e w6 ⟨rfl, hx6⟩
      have be := BlkAt.below hx6 (by exact be)
      have hBZ := below_next hx6 (by first | exact hB | exact hB.drew) (by first | exact hB.size)
      clear hx6 e0 e1 e2 e3 e4 e5 e6 e7 e8 e9 i0 i1 i2 h0 h1 h2
      have e0 := be.cell (j := 0) rfl
      have e1 := be.cell (j := 1) rfl
      have e2 := be.cell (j := 2) rfl
      have e3 := be.cell (j := 3) rfl
      have e4 := be.cell (j := 4) rfl
      have e5 := be.cell (j := 5) rfl
      have e6 := be.cell (j := 6) rfl
      have e7 := be.cell (j := 7) rfl
      have e8 := be.cell (j := 8) rfl
      have e9 := be.cell (j := 9) rfl
      cases z with
      | false =>
        have w1 : IntKind.i64.wrap (3 + ((msgB u a b x).size : Int)) = 3 + ((msgB u a b x).size : Int) := IntWalk.i64_in _ (by omega)
        have z2 : V.extract 3 V.size = msgB u a b x := Z2.out
        have z1i : (V.size : Int) = 3 + ((msgB u a b x).size : Int) := by have z1 : V.size = 3 + (msgB u a b x).size := Z1.out; omega
        have z3i : (3 : Int) ≤ (V.size : Int) := by omega
        go_wp2
        go_ret
        exact ⟨rfl, hBZ⟩
      | true =>
        rw [z4 rfl] at DI
        have hi := hI rfl
        go_wp2_with fail
        refine (DI.out _).mono ?_
        rintro e w7 ⟨rfl, hx7⟩
        have hBY := below_next hx7 hBZ hBZ.size
        have z2 : V.extract 3 V.size = initB p q o ++ msgB u a b x := Z2.out
        have hss : ¬ 9223372036854775807 < (initB p q o).size + (msgB u a b x).size := by omega
        have w1 : IntKind.i64.wrap (3 + (((initB p q o).size : Int) + ((msgB u a b x).size : Int))) = 3 + (((initB p q o).size : Int) + ((msgB u a b x).size : Int)) := IntWalk.i64_in _ (by omega)
        have z1i : (V.size : Int) = 3 + (((initB p q o).size : Int) + ((msgB u a b x).size : Int)) := by
          have z1 : V.size = 3 + (initB p q o ++ msgB u a b x).size := Z1.out
          rw [ByteArray.size_append] at z1
          omega
        have z3i : (3 : Int) ≤ (V.size : Int) := by omega
        go_wp2
        go_ret
        exact ⟨rfl, hBY⟩
  · have hz := EMP.out hP
    have hze : V.toList.isEmpty = true := by rw [hz]; rfl
    clear FIN EMP hP DM DI
    go_wp2_with fail
    go_region_held3 (fun w' => w'.cell? ⟨ke, 0, none⟩ = some (.int .i64 f) ∧ w'.cell? ⟨ke, 1, none⟩ = some (.int .i64 t0) ∧ w'.cell? ⟨ke, 2, none⟩ = some (.bool z) ∧ w'.cell? ⟨ke, 3, none⟩ = some (.string p) ∧ w'.cell? ⟨ke, 4, none⟩ = some (.string q) ∧ w'.cell? ⟨ke, 5, none⟩ = some (.int .i64 o) ∧ w'.cell? ⟨ke, 6, none⟩ = some (.string u) ∧ w'.cell? ⟨ke, 7, none⟩ = some (.int .i64 a) ∧ w'.cell? ⟨ke, 8, none⟩ = some (.int .i64 b) ∧ w'.cell? ⟨ke, 9, none⟩ = some (.string x) ∧ w'.cell? ⟨ki, 0, none⟩ = some (.string ip) ∧ w'.cell? ⟨ki, 1, none⟩ = some (.string iq) ∧ w'.cell? ⟨ki, 2, none⟩ = some (.int .i64 io) ∧ w'.cell? ⟨kh, 0, none⟩ = some (.string hp) ∧ w'.cell? ⟨kh, 1, none⟩ = some (.int .i64 ha) ∧ w'.cell? ⟨kh, 2, none⟩ = some (.int .i64 hb)) (first | exact ⟨e0, e1, e2, e3, e4, e5, e6, e7, e8, e9, i0, i1, i2, h0, h1, h2⟩) (first
    | (go_at_call 11; refine (CE.out _).mono ?_; rintro e wq ⟨rfl, hbq⟩; have be := BlkAt.below hbq (by exact be); have bi := BlkAt.below hbq (by exact bi); have bh := BlkAt.below hbq (by exact bh); have hB := below_next hbq (by first | exact hB | exact hB.drew) (by first | exact hB.size); have e0 := be.cell (j := 0) rfl; have e1 := be.cell (j := 1) rfl; have e2 := be.cell (j := 2) rfl; have e3 := be.cell (j := 3) rfl; have e4 := be.cell (j := 4) rfl; have e5 := be.cell (j := 5) rfl; have e6 := be.cell (j := 6) rfl; have e7 := be.cell (j := 7) rfl; have e8 := be.cell (j := 8) rfl; have e9 := be.cell (j := 9) rfl; have i0 := bi.cell (j := 0) rfl; have i1 := bi.cell (j := 1) rfl; have i2 := bi.cell (j := 2) rfl; have h0 := bh.cell (j := 0) rfl; have h1 := bh.cell (j := 1) rfl; have h2 := bh.cell (j := 2) rfl)
    | (go_at_call 12; refine (CI.out _).mono ?_; rintro e wq ⟨rfl, hbq⟩; have be := BlkAt.below hbq (by exact be); have bi := BlkAt.below hbq (by exact bi); have bh := BlkAt.below hbq (by exact bh); have hB := below_next hbq (by first | exact hB | exact hB.drew) (by first | exact hB.size); have e0 := be.cell (j := 0) rfl; have e1 := be.cell (j := 1) rfl; have e2 := be.cell (j := 2) rfl; have e3 := be.cell (j := 3) rfl; have e4 := be.cell (j := 4) rfl; have e5 := be.cell (j := 5) rfl; have e6 := be.cell (j := 6) rfl; have e7 := be.cell (j := 7) rfl; have e8 := be.cell (j := 8) rfl; have e9 := be.cell (j := 9) rfl; have i0 := bi.cell (j := 0) rfl; have i1 := bi.cell (j := 1) rfl; have i2 := bi.cell (j := 2) rfl; have h0 := bh.cell (j := 0) rfl; have h1 := bh.cell (j := 1) rfl; have h2 := bh.cell (j := 2) rfl)
    | (go_at_call 13; refine (CJ.out _).mono ?_; rintro e wq ⟨rfl, hbq⟩; have be := BlkAt.below hbq (by exact be); have bi := BlkAt.below hbq (by exact bi); have bh := BlkAt.below hbq (by exact bh); have hB := below_next hbq (by first | exact hB | exact hB.drew) (by first | exact hB.size); have e0 := be.cell (j := 0) rfl; have e1 := be.cell (j := 1) rfl; have e2 := be.cell (j := 2) rfl; have e3 := be.cell (j := 3) rfl; have e4 := be.cell (j := 4) rfl; have e5 := be.cell (j := 5) rfl; have e6 := be.cell (j := 6) rfl; have e7 := be.cell (j := 7) rfl; have e8 := be.cell (j := 8) rfl; have e9 := be.cell (j := 9) rfl; have i0 := bi.cell (j := 0) rfl; have i1 := bi.cell (j := 1) rfl; have i2 := bi.cell (j := 2) rfl; have h0 := bh.cell (j := 0) rfl; have h1 := bh.cell (j := 1) rfl; have h2 := bh.cell (j := 2) rfl)
    | (go_at_call 14; refine (CH.out _).mono ?_; rintro e wq ⟨rfl, hbq⟩; have be := BlkAt.below hbq (by exact be); have bi := BlkAt.below hbq (by exact bi); have bh := BlkAt.below hbq (by exact bh); have hB := below_next hbq (by first | exact hB | exact hB.drew) (by first | exact hB.size); have e0 := be.cell (j := 0) rfl; have e1 := be.cell (j := 1) rfl; have e2 := be.cell (j := 2) rfl; have e3 := be.cell (j := 3) rfl; have e4 := be.cell (j := 4) rfl; have e5 := be.cell (j := 5) rfl; have e6 := be.cell (j := 6) rfl; have e7 := be.cell (j := 7) rfl; have e8 := be.cell (j := 8) rfl; have e9 := be.cell (j := 9) rfl; have i0 := bi.cell (j := 0) rfl; have i1 := bi.cell (j := 1) rfl; have i2 := bi.cell (j := 2) rfl; have h0 := bh.cell (j := 0) rfl; have h1 := bh.cell (j := 1) rfl; have h2 := bh.cell (j := 2) rfl)
    | (go_at_call 15; refine (CG.out _).mono ?_; rintro e wq ⟨rfl, hbq⟩; have be := BlkAt.below hbq (by exact be); have bi := BlkAt.below hbq (by exact bi); have bh := BlkAt.below hbq (by exact bh); have hB := below_next hbq (by first | exact hB | exact hB.drew) (by first | exact hB.size); have e0 := be.cell (j := 0) rfl; have e1 := be.cell (j := 1) rfl; have e2 := be.cell (j := 2) rfl; have e3 := be.cell (j := 3) rfl; have e4 := be.cell (j := 4) rfl; have e5 := be.cell (j := 5) rfl; have e6 := be.cell (j := 6) rfl; have e7 := be.cell (j := 7) rfl; have e8 := be.cell (j := 8) rfl; have e9 := be.cell (j := 9) rfl; have i0 := bi.cell (j := 0) rfl; have i1 := bi.cell (j := 1) rfl; have i2 := bi.cell (j := 2) rfl; have h0 := bh.cell (j := 0) rfl; have h1 := bh.cell (j := 1) rfl; have h2 := bh.cell (j := 2) rfl))
    all_goals
      go_wp2_with fail
      go_region_held3 (fun w' => w'.cell? ⟨ke, 0, none⟩ = some (.int .i64 f) ∧ w'.cell? ⟨ke, 1, none⟩ = some (.int .i64 t0) ∧ w'.cell? ⟨ke, 2, none⟩ = some (.bool z) ∧ w'.cell? ⟨ke, 3, none⟩ = some (.string p) ∧ w'.cell? ⟨ke, 4, none⟩ = some (.string q) ∧ w'.cell? ⟨ke, 5, none⟩ = some (.int .i64 o) ∧ w'.cell? ⟨ke, 6, none⟩ = some (.string u) ∧ w'.cell? ⟨ke, 7, none⟩ = some (.int .i64 a) ∧ w'.cell? ⟨ke, 8, none⟩ = some (.int .i64 b) ∧ w'.cell? ⟨ke, 9, none⟩ = some (.string x) ∧ w'.cell? ⟨ki, 0, none⟩ = some (.string ip) ∧ w'.cell? ⟨ki, 1, none⟩ = some (.string iq) ∧ w'.cell? ⟨ki, 2, none⟩ = some (.int .i64 io) ∧ w'.cell? ⟨kh, 0, none⟩ = some (.string hp) ∧ w'.cell? ⟨kh, 1, none⟩ = some (.int .i64 ha) ∧ w'.cell? ⟨kh, 2, none⟩ = some (.int .i64 hb)) (first | exact ⟨e0, e1, e2, e3, e4, e5, e6, e7, e8, e9, i0, i1, i2, h0, h1, h2⟩) (first
    | (go_at_call 11; refine (CE.out _).mono ?_; rintro e wq ⟨rfl, hbq⟩; have be := BlkAt.below hbq (by exact be); have bi := BlkAt.below hbq (by exact bi); have bh := BlkAt.below hbq (by exact bh); have hB := below_next hbq (by first | exact hB | exact hB.drew) (by first | exact hB.size); have e0 := be.cell (j := 0) rfl; have e1 := be.cell (j := 1) rfl; have e2 := be.cell (j := 2) rfl; have e3 := be.cell (j := 3) rfl; have e4 := be.cell (j := 4) rfl; have e5 := be.cell (j := 5) rfl; have e6 := be.cell (j := 6) rfl; have e7 := be.cell (j := 7) rfl; have e8 := be.cell (j := 8) rfl; have e9 := be.cell (j := 9) rfl; have i0 := bi.cell (j := 0) rfl; have i1 := bi.cell (j := 1) rfl; have i2 := bi.cell (j := 2) rfl; have h0 := bh.cell (j := 0) rfl; have h1 := bh.cell (j := 1) rfl; have h2 := bh.cell (j := 2) rfl)
    | (go_at_call 12; refine (CI.out _).mono ?_; rintro e wq ⟨rfl, hbq⟩; have be := BlkAt.below hbq (by exact be); have bi := BlkAt.below hbq (by exact bi); have bh := BlkAt.below hbq (by exact bh); have hB := below_next hbq (by first | exact hB | exact hB.drew) (by first | exact hB.size); have e0 := be.cell (j := 0) rfl; have e1 := be.cell (j := 1) rfl; have e2 := be.cell (j := 2) rfl; have e3 := be.cell (j := 3) rfl; have e4 := be.cell (j := 4) rfl; have e5 := be.cell (j := 5) rfl; have e6 := be.cell (j := 6) rfl; have e7 := be.cell (j := 7) rfl; have e8 := be.cell (j := 8) rfl; have e9 := be.cell (j := 9) rfl; have i0 := bi.cell (j := 0) rfl; have i1 := bi.cell (j := 1) rfl; have i2 := bi.cell (j := 2) rfl; have h0 := bh.cell (j := 0) rfl; have h1 := bh.cell (j := 1) rfl; have h2 := bh.cell (j := 2) rfl)
    | (go_at_call 13; refine (CJ.out _).mono ?_; rintro e wq ⟨rfl, hbq⟩; have be := BlkAt.below hbq (by exact be); have bi := BlkAt.below hbq (by exact bi); have bh := BlkAt.below hbq (by exact bh); have hB := below_next hbq (by first | exact hB | exact hB.drew) (by first | exact hB.size); have e0 := be.cell (j := 0) rfl; have e1 := be.cell (j := 1) rfl; have e2 := be.cell (j := 2) rfl; have e3 := be.cell (j := 3) rfl; have e4 := be.cell (j := 4) rfl; have e5 := be.cell (j := 5) rfl; have e6 := be.cell (j := 6) rfl; have e7 := be.cell (j := 7) rfl; have e8 := be.cell (j := 8) rfl; have e9 := be.cell (j := 9) rfl; have i0 := bi.cell (j := 0) rfl; have i1 := bi.cell (j := 1) rfl; have i2 := bi.cell (j := 2) rfl; have h0 := bh.cell (j := 0) rfl; have h1 := bh.cell (j := 1) rfl; have h2 := bh.cell (j := 2) rfl)
    | (go_at_call 14; refine (CH.out _).mono ?_; rintro e wq ⟨rfl, hbq⟩; have be := BlkAt.below hbq (by exact be); have bi := BlkAt.below hbq (by exact bi); have bh := BlkAt.below hbq (by exact bh); have hB := below_next hbq (by first | exact hB | exact hB.drew) (by first | exact hB.size); have e0 := be.cell (j := 0) rfl; have e1 := be.cell (j := 1) rfl; have e2 := be.cell (j := 2) rfl; have e3 := be.cell (j := 3) rfl; have e4 := be.cell (j := 4) rfl; have e5 := be.cell (j := 5) rfl; have e6 := be.cell (j := 6) rfl; have e7 := be.cell (j := 7) rfl; have e8 := be.cell (j := 8) rfl; have e9 := be.cell (j := 9) rfl; have i0 := bi.cell (j := 0) rfl; have i1 := bi.cell (j := 1) rfl; have i2 := bi.cell (j := 2) rfl; have h0 := bh.cell (j := 0) rfl; have h1 := bh.cell (j := 1) rfl; have h2 := bh.cell (j := 2) rfl)
    | (go_at_call 15; refine (CG.out _).mono ?_; rintro e wq ⟨rfl, hbq⟩; have be := BlkAt.below hbq (by exact be); have bi := BlkAt.below hbq (by exact bi); have bh := BlkAt.below hbq (by exact bh); have hB := below_next hbq (by first | exact hB | exact hB.drew) (by first | exact hB.size); have e0 := be.cell (j := 0) rfl; have e1 := be.cell (j := 1) rfl; have e2 := be.cell (j := 2) rfl; have e3 := be.cell (j := 3) rfl; have e4 := be.cell (j := 4) rfl; have e5 := be.cell (j := 5) rfl; have e6 := be.cell (j := 6) rfl; have e7 := be.cell (j := 7) rfl; have e8 := be.cell (j := 8) rfl; have e9 := be.cell (j := 9) rfl; have i0 := bi.cell (j := 0) rfl; have i1 := bi.cell (j := 1) rfl; have i2 := bi.cell (j := 2) rfl; have h0 := bh.cell (j := 0) rfl; have h1 := bh.cell (j := 1) rfl; have h2 := bh.cell (j := 2) rfl))
    all_goals (try go_wp2)
    all_goals
      go_ret
      exact ⟨rfl, by first | exact hB | exact hB.drew⟩

set_option maxRecDepth 100000 in
theorem lifted (os : Os) (started : os.Started) (H : Type) (enc : TypeId × Value → H) :
    ReturnsInHanded {} Try.checked os 3 .any (Rows.fnEnvPartsSpec.pre6 enc Try.prog Try.f3 Rows.fnEnvPartsRow.domain false) (Rows.fnEnvPartsSpec.post enc Try.prog Try.f3 false true false false) := by
  refine returnsInHanded_of_change (C := Try.checked) own started (by kernel_rfl) Try.func3
    (ChangeSpec.witness6 (enc := enc) (C := Try.checked) false ⟨#[], #[.slice none 0 0], []⟩ 8 (by kernel_rfl) (by kernel_rfl) (by kernel_rfl) (by kernel_rfl)) ?_
  intro W base args ds gs before hval0 hW hcnd _
  have hval : ∀ (j : Nat) t v, Try.f3.params[j]? = some t → args[j]? = some v → Value.okWide Try.prog W .any base t v := hval0
  have hW' := hW
  obtain ⟨p, q, hA0, hV, rfl, hfz, hnd⟩ := hW
  have hA : DataW.TrodAll enc Try.prog W 0 (fun _ => true) true Try.f3.params.toList args.toList ds p := hA0
  rw [Try.params3] at hA hval
  obtain ⟨v0, vs0, d0, ds0, p0, q0, hargs, rfl, rfl, h0, r0⟩ := trodAll_cons hA
  obtain ⟨rfl, rfl, rfl⟩ := trodAll_nil r0
  obtain rfl : args = #[v0] := by cases args; simp_all
  obtain ⟨rfl, rfl⟩ := trodVars_none hV
  obtain ⟨a0, len0, cap0, rfl⟩ := okWide_slice Try.underlying22 (hval 0 22 v0 rfl rfl)
  have k0 := h0
  have lt0 : ∀ x ∈ p0, x.block < W.heap.size := by obtain ⟨m, hm⟩ := k0; exact DataW.trod_lt m _ _ _ hm
  obtain ⟨z0, w0⟩ : ∃ zs, My.IsRow .u8 W a0 len0 cap0 zs := by
    obtain ⟨fuel, hf⟩ := h0
    rcases open_ints Try.underlying22 Try.underlying5 (by kernel_rfl) hf with ⟨hcs, _⟩ | ⟨x, l, c, zs, hcs, _, hl, hm, hz, _, hcell, hwz⟩
    · simp [Value.cells] at hcs
      obtain ⟨rfl, rfl, rfl⟩ := hcs
      exact ⟨[], .inl ⟨rfl, rfl, rfl, rfl⟩⟩
    · simp [Value.cells] at hcs
      obtain ⟨rfl, rfl, rfl⟩ := hcs
      exact ⟨zs, .inr ⟨_, rfl, hl, hm, by simpa using hz, hcell, hwz⟩⟩
  clear hA0 hval0
  refine (walk W a0 len0 cap0 z0 w0).mono fun e W' ⟨he, bel⟩ => ?_
  subst he
  exact ⟨_, rfl, _, _, _, [], _, [], hW', trodAll_mk1 (shut_bool Try.underlying4 _), (trodAll_cons_mk (Below.trod laidOut (by kernel_rfl) (of_decide_eq_true (by kernel_rfl)) k0 bel lt0) trodAll_mk0), rfl, bel.frame _, fun h => by cases h⟩

theorem proved : Rows.FnEnvPartsSaid :=
  OpenClaim.holds_of_wide 3 Try.f3 rfl rfl rfl rfl rfl rfl rfl ⟨rfl, rfl, rfl, rfl, rfl⟩ rfl rfl rfl rfl rfl (by kernel_rfl) Try.func3 (by kernel_rfl)
    (of_decide_eq_true (by kernel_rfl)) (by unfold Func.isWrapper; first | (rw [if_pos (by decide +kernel)]; kernel_rfl) | (rw [if_neg (by decide +kernel)]; exact ⟨rfl, rfl⟩))
    (fun os started H enc _ => lifted os started H enc)
end Go.Proofs.Ytmolcpojdojmlaa.fnEnvParts

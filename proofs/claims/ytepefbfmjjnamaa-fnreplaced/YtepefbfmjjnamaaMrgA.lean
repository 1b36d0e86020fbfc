/- The program: a disk's operations performed once more. -/
import Derived.Test.YtepefbfmjjnamaaDkIi
import Derived.Test.YtepefbfmjjnamaaDkX
import Derived.Test.YtepefbfmjjnamaaDkB
import Derived.Test.YtepefbfmjjnamaaDkIe
import Derived.Test.YtepefbfmjjnamaaRdW
namespace Go.Proofs.Ytepefbfmjjnamaa
open Go.RowKit Go.My Go.Lib
set_option linter.unusedVariables false

theorem results_row_u {P : Program} {fn : Func} {p u : Tmp} {ty : TypeId} (h : fn.results = #[.cell p ty, .tmp u]) (tmps : Array Value) (w : World) (g : Nat) (t : TypeId) (cs : Array Value) (fr : Nat × Nat) (d : TypeDesc)
    (hp : tmps.getD p undef = .pointer (some ⟨g, 0, none⟩)) (hg : w.heap[g]? = some (.cells cs t fr))
    (hu : P.underlying ty = some d) (hd : (match d with | .struct _ | .array _ _ => true | _ => false) = true) (hi : (P.info? ty).map (·.size) = some cs.size) :
    (results fn tmps).run P w = .ok (.tuple #[.agg cs, tmps.getD u undef]) w := by
  rw [results_cell_tmp h, hp]
  simp [asAddr, run_loadVar_row w g t ty cs fr d hg hu hd hi]
theorem set3 {w : World} {g : Nat} {x y z : Value} {T : TypeId} (h : w.heap[g]? = some (.cells #[x, y, z] T (0, 0))) (a b c : Value) : (((w.setCell ⟨g, 0, none⟩ a).setCell ⟨g, 1, none⟩ b).setCell ⟨g, 2, none⟩ c).heap[g]? = some (.cells #[a, b, c] T (0, 0)) :=
  heap_setCell_same _ g 2 _ _ c (heap_setCell_same _ g 1 _ _ b (heap_setCell_same _ g 0 _ _ a h))

theorem cell_set3 {w : World} {g h j : Nat} {v : Value} (a b c : Value) (hne : h ≠ g) (hc : w.cell? ⟨h, j, none⟩ = some v) : (((w.setCell ⟨g, 0, none⟩ a).setCell ⟨g, 1, none⟩ b).setCell ⟨g, 2, none⟩ c).cell? ⟨h, j, none⟩ = some v := by
  have k : ∀ (W : World) (i : Nat) (x : Value), (W.setCell ⟨g, i, none⟩ x).cell? ⟨h, j, none⟩ = W.cell? ⟨h, j, none⟩ := fun W i x => World.cell?_setCell_other _ _ _ _ (by intro c; injection c with c1; exact hne c1.symm)
  rw [k, k, k]; exact hc
theorem grw_set3 (w : World) (g : Nat) (a b c : Value) : w.grownBy (((w.setCell ⟨g, 0, none⟩ a).setCell ⟨g, 1, none⟩ b).setCell ⟨g, 2, none⟩ c) (some g) := grw_set (grw_set (grw_set (grw_refl _ _) _ _) _ _) _ _
/-- A list of files does not lie in a block of another kind. -/
theorem files_ne {B g : Nat} {v : Value} {l : List FileT} {w : World} {cs : Array Value} (h : FilesAt B v l w) (hg : w.heap[g]? = some (.cells cs 79 (0, 0))) : v.ownBlock = none ∨ v.ownBlock ≠ some g := by
  rcases h.2 with ⟨hv, _⟩ | ⟨q, cap, cur, hv, _, hq, _⟩
  · exact .inl (by rw [hv]; rfl)
  · refine .inr (fun e => ?_)
    rw [hv] at e
    have e1 : q = g := Option.some.inj e
    rw [e1, hg] at hq
    injection hq with hq
    injection hq with _ h2
    exact absurd h2 (by decide)

set_option maxRecDepth 20000 in
set_option maxHeartbeats 2000000 in
theorem driveOf_in (v1 v2 v3 : Value) (d : DiskT) (w : World) (h : DiskIn v1 v2 v3 d w) (hd : d.fit) :
    Calls Try.prog 54 #[.agg #[v1, v2, v3]] w fun e w' => ∃ a b c, e = .returned (.tuple #[.agg #[a, b, c], .bool (diskB d)]) ∧ (∃ p n cap, a = .slice p n cap) ∧ (∃ p n cap, b = .slice p n cap) ∧ (∃ p n cap, c = .slice p n cap) ∧ Below w.heap.size w w' ∧ (diskB d = true → FilesAt 0 a d.live w' ∧ FilesAt 0 b d.safe w' ∧ OpsAt w.heap.size c d.ops w' ∧ b = v2) := by
  have hs := hd.small
  obtain ⟨p1, cap1, rfl, _, _, hp1⟩ := h.live.open
  obtain ⟨p2, cap2, rfl, _, _, hp2⟩ := h.safe.open
  obtain ⟨p3, cap3, rfl, _, _, hp3⟩ := h.ops.open
  have CK := Lib.hid (fun W (hW : Below w.heap.size w W) => ok_i (.slice p2 d.safe.length cap2) d.safe W (h.safe.below hW) hs.safe (by have := hd.sums.2; omega) (fun a ha => by have := (hd.safe a ha).1; omega))
  have H := Lib.hid h
  have HD := Lib.hid hd
  clear h hd
  have hl3 : (d.ops.length : Int) ≤ 1048576 := by have := hs.ops; omega
  go_enter Try.func54, Try.ntmps54
  go_wp2_with fail
  refine (CK.out _ ?_).mono ?_
  · exact (((Below.refl w.heap.size w).alloc (Nat.le_refl _) _).alloc (by simp) _).alloc (by simp; omega) _
  rintro e w4 ⟨rfl, hb4⟩
  obtain ⟨hB4, x0, x1, x2, hsz4⟩ := boxes3 w _ _ _ _ hb4
  have HX := Lib.hid (And.intro x0 (And.intro x1 x2))
  have HB4 := Lib.hid hB4
  obtain ⟨⟨r0, r1, r2⟩, rf⟩ := dk_cells x1
  have rf0 := rf 0
  have rf1 := rf 1
  have rf2 := rf 2
  clear hb4 x0 x1 x2 hB4 rf
  cases c1 : filesB d.safe with
  | false =>
    have HR : Hid (diskB d = false) := by show _ = _; unfold diskB; rw [c1, Bool.and_false, Bool.false_and, Bool.false_and]
    clear c1
    go_wp2
    refine bodyPost_ret (v := .tuple #[.agg #[.slice none 0 0, .slice none 0 0, .slice none 0 0], .bool false]) (results_row_u Try.results54 _ _ (w.heap.size + 1) 79 _ (0, 0) _ rfl (set3 HX.out.2.1 _ _ _) Try.underlying79 rfl (by kernel_rfl)) rfl ⟨.slice none 0 0, .slice none 0 0, .slice none 0 0, by rw [HR.out], ⟨_, _, _, rfl⟩, ⟨_, _, _, rfl⟩, ⟨_, _, _, rfl⟩, ?_, fun c => by rw [HR.out] at c; cases c⟩
    exact ((HB4.out.setCell (by simp) _).setCell (by simp) _).setCell (by simp) _
  | true =>
    have HS := Lib.hid c1
    have HO := Lib.hid (show ∀ (j : Nat) (hj : j < d.ops.length) (l : List FileT) (W : World), filesB l = true → DrvAt (w.heap.size + 1 + 1) (w.heap.size + 1 + 1) (.slice p2 d.safe.length cap2) l (d.ops.take j) W → w.heap.size + 1 + 1 ≤ W.heap.size → _ from fun j hj l W hf hdr hsz => by
      have hx := HD.out.ops d.ops[j] (List.getElem_mem hj)
      exact do_i (w.heap.size + 1 + 1) (w.heap.size + 1 + 1) (.slice p2 d.safe.length cap2) l (d.ops.take j) d.ops[j].1 d.ops[j].2.1 d.ops[j].2.2.1 d.ops[j].2.2.2 W hdr hf (by rw [List.length_take]; have := HD.out.small.ops; omega) hx.2.1 hx.2.2.1 hx.2.2.2 hsz)
    have hD0 : DrvAt (w.heap.size + 1 + 1) (w.heap.size + 1 + 1) (.slice p2 d.safe.length cap2) d.safe (d.ops.take 0) w4 := by
      refine ⟨_, _, HX.out.2.2, Nat.le_refl _, H.out.safe.below HB4.out, RowL.nil _ _ _ _ _, ?_, (fun c => by cases c), ?_⟩
      · intro c; have := (World.ownsRow.lt H.out.safe _ c).2; omega
      · cases c : (Value.slice p2 d.safe.length cap2).ownBlock with
        | none => exact .inl rfl
        | some q => exact .inr (fun e => by cases e)
    have HDR := Lib.hid hD0
    clear c1 hD0 r0 r1 r2 rf0 rf1 rf2
    obtain ⟨⟨z0, z1, z2⟩, _⟩ := dk_cells HX.out.1
    go_wp2
    go_loopw [20] (fun i wr => ∃ (j : Nat) (l : List FileT), j ≤ d.ops.length ∧ i = .int .i64 j ∧ runL d.safe (d.ops.take j) = some l ∧ j ≤ 200 ∧ DrvAt (w.heap.size + 1 + 1) (w.heap.size + 1 + 1) (.slice p2 d.safe.length cap2) l (d.ops.take j) wr ∧ Below (w.heap.size + 1 + 1) w4 wr) (fun i _ => d.ops.length - (RowKit.intOf i).toNat)
    case atStart => exact ⟨0, d.safe, Nat.zero_le _, rfl, rfl, Nat.zero_le _, HDR.out, Below.refl _ _⟩
    case round =>
      obtain ⟨j, l, hj, rfl, hrun, h200, hdr, hbr⟩ := hrel
      have HRUN := Lib.hid hrun
      have HDRV := Lib.hid hdr
      have HBR := Lib.hid hbr
      have x0 : wr.heap[w.heap.size]? = _ := (hbr.block w.heap.size (by omega)).trans HX.out.1
      have x1 : wr.heap[w.heap.size + 1]? = _ := (hbr.block (w.heap.size + 1) (by omega)).trans HX.out.2.1
      have HX1 := Lib.hid x1
      have hBw : Below w.heap.size w wr := HB4.out.trans (hbr.mono (by omega))
      have HBW := Lib.hid hBw
      have hszr : w.heap.size + 1 + 1 + 1 ≤ wr.heap.size := by have := hbr.size; omega
      have hfl := run_files hrun HS.out
      clear hrun hdr hbr z0 z1 z2
      by_cases hlt : j < d.ops.length
      · have hne : d.ops ≠ [] := by intro c; rw [c] at hlt; simp at hlt
        obtain ⟨g, oo, rfl⟩ := hp3.resolve_left hne
        have j0 : (0 : Int) ≤ (j : Int) := by omega
        have j1 : (j : Int) < (d.ops.length : Int) := by omega
        obtain ⟨x, hx⟩ : ∃ x, d.ops[j] = x := ⟨_, rfl⟩
        have hA := H.out.ops.below hBw
        have hcc := hA.at hlt hx
        have c0 := hcc.1
        have c1 := hcc.2.1
        have c2 := hcc.2.2.1
        have c3 := hcc.2.2.2
        clear hcc
        have b0 : Below wr.heap.size wr (wr.alloc (.cells #[.int .i64 x.1, .string x.2.1, .string x.2.2.1, .string x.2.2.2] 36)) := (Below.refl _ _).alloc (Nat.le_refl _) _
        have CD := Lib.hid (HO.out j hlt l _ hfl (HDRV.out.below b0) (by have := b0.size; omega))
        have HJ := Lib.hid hlt
        rw [hx] at CD
        have HXX := Lib.hid hx
        have HB0 := Lib.hid b0
        clear hA hne hp3 b0 hx x0 x1
        obtain ⟨C, hC⟩ : ∃ C, doC l (d.ops.take j) (x.1, x.2.1, x.2.2.1, x.2.2.2) = C := ⟨_, rfl⟩
        rw [hC] at CD
        have HC := Lib.hid hC
        clear hC
        go_wp2_with fail
        refine CD.out.mono ?_
        rintro e w5 ⟨rfl, hok, hno, hb5⟩
        have HOK := Lib.hid hok
        have HB5 : Hid (Below (w.heap.size + 1 + 1) w4 w5) := HBR.out.trans ((HB0.out.mono (by omega)).trans hb5)
        clear hok hno hb5 c0 c1 c2 c3
        by_cases hz : C = 0
        · subst hz
          have hn := disk_next (d := d) HJ.out HRUN.out (by rw [HXX.out]; exact HC.out)
          have HN := Lib.hid hn
          have HT := Lib.hid (List.take_succ_eq_append_getElem HJ.out)
          clear hn
          go_wp2
          go_roundw
          case rel => exact ⟨j + 1, _, by omega, by go_num, HN.out.1, HN.out.2, by rw [HT.out, HXX.out]; exact HOK.out trivial, HB5.out⟩
          case measure => simp [RowKit.intOf]; omega
        · have hz' : (C != 0) = true := by simpa using hz
          have HR := Lib.hid (disk_stop (d := d) HJ.out HRUN.out (by rw [HXX.out]; show doC _ _ (x.1, x.2.1, x.2.2.1, x.2.2.2) ≠ 0; rw [HC.out]; exact hz))
          have y1 : w5.heap[w.heap.size + 1]? = _ := (HB5.out.block (w.heap.size + 1) (by omega)).trans HX.out.2.1
          obtain ⟨⟨r0, r1, r2⟩, rf⟩ := dk_cells y1
          have rf0 := rf 0
          have rf1 := rf 1
          have rf2 := rf 2
          have HY := Lib.hid y1
          have hBz : Below w.heap.size w w5 := HB4.out.trans (HB5.out.mono (by omega))
          have HBZ := Lib.hid hBz
          clear hz rf y1 hBz
          go_wp2
          refine bodyPost_ret (v := .tuple #[.agg #[.slice none 0 0, .slice none 0 0, .slice none 0 0], .bool false]) (results_row_u Try.results54 _ _ (w.heap.size + 1) 79 _ (0, 0) _ rfl (set3 HY.out _ _ _) Try.underlying79 rfl (by kernel_rfl)) rfl ⟨.slice none 0 0, .slice none 0 0, .slice none 0 0, by rw [HR.out], ⟨_, _, _, rfl⟩, ⟨_, _, _, rfl⟩, ⟨_, _, _, rfl⟩, ?_, fun c => by rw [HR.out] at c; cases c⟩
          exact ((HBZ.out.setCell (by simp) _).setCell (by simp) _).setCell (by simp) _
      · obtain rfl : j = d.ops.length := by omega
        obtain ⟨vl, vo, e2, _, hl, ho, _, _, _⟩ := HDRV.out
        rw [List.take_length] at ho
        have hrun := HRUN.out
        rw [List.take_length] at hrun
        have HEND := Lib.hid (disk_end HS.out hrun h200)
        have hll : l.length ≤ 1048576 := by have := (filesB_of hfl).len; omega
        have CE := Lib.hid (fun W (hW : Below wr.heap.size wr W) => equal_i vl (.slice p1 d.live.length cap1) l d.live W (hl.below hW) ((H.out.live.below HBW.out).below hW) hll HD.out.small.live)
        have HL := Lib.hid hl
        have HOP := Lib.hid ho
        obtain ⟨pl, capl, rfl, _⟩ := hl.open
        obtain ⟨po, capo, rfl, _⟩ := ho.open
        obtain ⟨⟨a0, a1, a2⟩, _⟩ := dk_cells e2
        obtain ⟨⟨q0, _, _⟩, _⟩ := dk_cells x0
        have hBx : Below wr.heap.size wr wr := Below.refl _ _
        have hltr : w.heap.size + 1 < wr.heap.size := by omega
        obtain ⟨b, hb⟩ : ∃ b, decide (l = d.live) = b := ⟨_, rfl⟩
        rw [hb] at HEND CE
        have HBL := Lib.hid hb
        clear hl ho hrun h200 hll hfl e2 x0 x1 hb hlt hBw hp1 hp2 hp3
        go_wp2_with fail
        go_region_held3 (fun w' => w'.cell? ⟨w.heap.size + 1 + 1, 0, none⟩ = some (.slice pl l.length capl) ∧ w'.cell? ⟨w.heap.size + 1 + 1, 1, none⟩ = some (.slice p2 d.safe.length cap2) ∧ w'.cell? ⟨w.heap.size + 1 + 1, 2, none⟩ = some (.slice po d.ops.length capo) ∧ w'.cell? ⟨w.heap.size, 0, none⟩ = some (.slice p1 d.live.length cap1)) (first | exact ⟨a0, a1, a2, q0⟩ | exact ⟨cell_set3 _ _ _ (by omega) a0, cell_set3 _ _ _ (by omega) a1, cell_set3 _ _ _ (by omega) a2, cell_set3 _ _ _ (by omega) q0⟩) ((go_at_call 96; refine (CE.out _ (by first | exact hBx | exact hBx.drew)).mono ?_; rintro e wz ⟨rfl, hbz⟩; have a0 := (hbz.cell (p := ⟨w.heap.size + 1 + 1, 0, none⟩) (World.block_lt_of_cell? _ _ a0)).trans a0; have a1 := (hbz.cell (p := ⟨w.heap.size + 1 + 1, 1, none⟩) (World.block_lt_of_cell? _ _ a1)).trans a1; have a2 := (hbz.cell (p := ⟨w.heap.size + 1 + 1, 2, none⟩) (World.block_lt_of_cell? _ _ a2)).trans a2; have q0 := (hbz.cell (p := ⟨w.heap.size, 0, none⟩) (World.block_lt_of_cell? _ _ q0)).trans q0; have hBx := below_nx hbz (by first | exact hBx | exact hBx.drew) (by exact hBx.size); have y1 := (hBx.block (w.heap.size + 1) hltr).trans HX1.out; have cy := dk_cells y1; have r0 := cy.1.1; have r1 := cy.1.2.1; have r2 := cy.1.2.2; have rf0 := cy.2 0; have rf1 := cy.2 1; have rf2 := cy.2 2; clear cy))
        all_goals
          go_wp2
          have gz := grw_set3 wz (w.heap.size + 1) (.slice pl l.length capl) (.slice p2 d.safe.length cap2) (.slice po d.ops.length capo)
          have hBz : Below w.heap.size w wz := HBW.out.trans (hBx.mono HBW.out.size)
          refine bodyPost_ret (v := .tuple #[.agg #[.slice pl l.length capl, .slice p2 d.safe.length cap2, .slice po d.ops.length capo], .bool b]) (results_row_u Try.results54 _ _ (w.heap.size + 1) 79 _ (0, 0) _ rfl (set3 y1 _ _ _) Try.underlying79 rfl (by kernel_rfl)) rfl ⟨.slice pl l.length capl, .slice p2 d.safe.length cap2, .slice po d.ops.length capo, by rw [HEND.out], ⟨_, _, _, rfl⟩, ⟨_, _, _, rfl⟩, ⟨_, _, _, rfl⟩, below_grw hBz gz hBz.size (fun q hq => by cases hq; omega), fun c => ?_⟩
          rw [HEND.out] at c
          have hll : l = d.live := of_decide_eq_true (HBL.out.trans c)
          have f1 : FilesAt 0 (.slice pl l.length capl) l _ := RowL.kept (HL.out.below hBx) gz (files_ne (HL.out.below hBx) y1)
          have f2 : FilesAt 0 (.slice p2 d.safe.length cap2) d.safe _ := RowL.kept (H.out.safe.below hBz) gz (files_ne (H.out.safe.below hBz) y1)
          have f3 : OpsAt (w.heap.size + 1 + 1) (.slice po d.ops.length capo) d.ops _ := RowL.kept (HOP.out.below hBx) gz (by
            cases q : (Value.slice po d.ops.length capo).ownBlock with
            | none => exact .inl rfl
            | some k => exact .inr (fun e => by have := (World.ownsRow.lt HOP.out _ q).1; have := Option.some.inj e; omega))
          refine ⟨?_, f2, f3.mono (by omega), rfl⟩
          rw [← hll]
          exact f1
theorem driveOf_i (v1 v2 v3 : Value) (d : DiskT) (w : World) (h : DiskAt 0 v1 v2 v3 d w) (hd : d.fit) :
    Calls Try.prog 54 #[.agg #[v1, v2, v3]] w fun e w' => ∃ a b c, e = .returned (.tuple #[.agg #[a, b, c], .bool (diskB d)]) ∧ (∃ p n cap, a = .slice p n cap) ∧ (∃ p n cap, b = .slice p n cap) ∧ (∃ p n cap, c = .slice p n cap) ∧ Below w.heap.size w w' ∧ (diskB d = true → FilesAt 0 a d.live w' ∧ FilesAt 0 b d.safe w' ∧ OpsAt w.heap.size c d.ops w' ∧ b = v2) :=
  driveOf_in v1 v2 v3 d w h.toIn hd

end Go.Proofs.Ytepefbfmjjnamaa

/- The program: DiskOk. -/
namespace Go.Proofs.Ytepefbfmjjnamaa
open Go.RowKit Go.My Go.Lib
set_option linter.unusedVariables false

set_option maxRecDepth 20000 in
set_option maxHeartbeats 1000000 in
theorem diskOk_in (v1 v2 v3 : Value) (d : DiskT) (w : World) (h : DiskIn v1 v2 v3 d w) (hd : d.fit) :
    Calls Try.prog 17 #[.agg #[v1, v2, v3]] w fun e w' => e = .returned (.bool (diskB d)) ∧ Below w.heap.size w w' := by
  have C := Lib.hid (fun W (hW : Below w.heap.size w W) => driveOf_in v1 v2 v3 d W (h.below hW) hd)
  obtain ⟨p1, cap1, rfl, _, _, _⟩ := h.live.open
  obtain ⟨p2, cap2, rfl, _, _, _⟩ := h.safe.open
  obtain ⟨p3, cap3, rfl, _, _, _⟩ := h.ops.open
  have hb0 : ∀ (o : Obj), Below w.heap.size w (w.alloc o) := fun o => (Below.refl _ _).alloc (Nat.le_refl _) _
  clear h hd
  go_enter Try.func17, Try.ntmps17
  go_wp2_with fail
  refine (C.out _ (by first | exact hb0 _ | exact Below.refl _ _)).mono ?_
  rintro e w2 ⟨a, b, c, rfl, ⟨pa, na, ca, rfl⟩, ⟨pb, nb, cb, rfl⟩, ⟨pc, nc, cc, rfl⟩, hb2, _⟩
  have HB : Hid (Below w.heap.size w w2) := by
    first
      | exact hb2.mono (Nat.le_refl _)
      | exact (hb0 _).trans (hb2.mono (hb0 _).size)
  clear hb2
  go_wp2
  go_ret
  exact ⟨rfl, by first | exact HB.out | exact HB.out.alloc HB.out.size _ | exact (HB.out.alloc HB.out.size _).alloc (by have := HB.out.size; simp; omega) _⟩
theorem diskOk_i (v1 v2 v3 : Value) (d : DiskT) (w : World) (h : DiskAt 0 v1 v2 v3 d w) (hd : d.fit) :
    Calls Try.prog 17 #[.agg #[v1, v2, v3]] w fun e w' => e = .returned (.bool (diskB d)) ∧ Below w.heap.size w w' :=
  diskOk_in v1 v2 v3 d w h.toIn hd

end Go.Proofs.Ytepefbfmjjnamaa

/- Marks of a disk: written, held, and what stands beside them. -/
namespace Go.My
open Go.RowKit
set_option linter.unusedVariables false
variable {α β : Type}

abbrev ApartV (v u : Value) : Prop := v.ownBlock = none ∨ v.ownBlock ≠ u.ownBlock
theorem ApartV.symm {v u : Value} (h : ApartV v u) : ApartV u v := by
  rcases h with h | h
  · cases hu : u.ownBlock with
    | none => exact .inl hu
    | some k => exact .inr (fun c => by have c1 := (hu.symm.trans c).trans h; cases c1)
  · exact .inr (fun c => h c.symm)
/-- A list lies in no block of another kind. -/
theorem row_kind {B e c g : Nat} {f : α → List Value} {v : Value} {l : List α} {w : World} {cs : Array Value} {T : TypeId} (h : RowL B e c f v l w) (hg : w.heap[g]? = some (.cells cs T (0, 0))) (hT : T ≠ e) : v.ownBlock ≠ some g := by
  rcases h.2 with ⟨hv, _⟩ | ⟨q, cap, cur, hv, _, hq, _⟩
  · rw [hv]; intro c; cases c
  · rw [hv]
    intro e1
    have e2 : q = g := Option.some.inj e1
    rw [e2, hg] at hq
    injection hq with hq
    injection hq with _ h2
    exact hT h2
theorem row_types {B B' e e' c c' : Nat} {f : α → List Value} {f' : β → List Value} {v v' : Value} {l : List α} {l' : List β} {w : World} (h : RowL B e c f v l w) (h' : RowL B' e' c' f' v' l' w) (he : e ≠ e') : ApartV v v' := by
  rcases h.2 with ⟨hv, _⟩ | ⟨q, cap, cur, hv, _, hq, _⟩
  · exact .inl (by rw [hv]; rfl)
  · refine .inr (fun c1 => ?_)
    rcases h'.2 with ⟨hv', _⟩ | ⟨q', cap', cur', hv', _, hq', _⟩
    · rw [hv, hv'] at c1; cases c1
    · rw [hv, hv'] at c1
      have e2 : q = q' := Option.some.inj c1
      rw [e2, hq'] at hq
      injection hq with hq
      injection hq with _ h2
      exact he h2.symm
/-- Three lists were written into, others made. -/
def Grow3 (v1 v2 v3 : Value) (w w' : World) : Prop := ∃ w1 w2, w.grownBy w1 v1.ownBlock ∧ w1.grownBy w2 v2.ownBlock ∧ w2.grownBy w' v3.ownBlock
theorem Grow3.row {v1 v2 v3 v : Value} {w w' : World} {B e c : Nat} {f : α → List Value} {l : List α} (hg : Grow3 v1 v2 v3 w w') (h : RowL B e c f v l w) (n1 : ApartV v v1) (n2 : ApartV v v2) (n3 : ApartV v v3) : RowL B e c f v l w' := by
  obtain ⟨w1, w2, g1, g2, g3⟩ := hg
  exact ((h.kept g1 n1).kept g2 n2).kept g3 n3
theorem Grow3.block {v1 v2 v3 : Value} {w w' : World} (hg : Grow3 v1 v2 v3 w w') (k : Nat) (hk : k < w.heap.size) (n1 : v1.ownBlock ≠ some k) (n2 : v2.ownBlock ≠ some k) (n3 : v3.ownBlock ≠ some k) : w'.heap[k]? = w.heap[k]? := by
  obtain ⟨w1, w2, g1, g2, g3⟩ := hg
  rw [g3.block k (Nat.lt_of_lt_of_le hk (Nat.le_trans g1.size g2.size)) (fun c => n3 c.symm), g2.block k (Nat.lt_of_lt_of_le hk g1.size) (fun c => n2 c.symm), g1.block k hk (fun c => n1 c.symm)]
theorem Grow3.size {v1 v2 v3 : Value} {w w' : World} (hg : Grow3 v1 v2 v3 w w') : w.heap.size ≤ w'.heap.size := by
  obtain ⟨w1, w2, g1, g2, g3⟩ := hg
  exact Nat.le_trans g1.size (Nat.le_trans g2.size g3.size)
theorem Grow3.below {v1 v2 v3 : Value} {w0 w w' : World} {B : Nat} (hg : Grow3 v1 v2 v3 w w') (h : Below B w0 w) (hs : B ≤ w.heap.size) (b1 : ∀ q, v1.ownBlock = some q → B ≤ q) (b2 : ∀ q, v2.ownBlock = some q → B ≤ q) (b3 : ∀ q, v3.ownBlock = some q → B ≤ q) : Below B w0 w' := by
  obtain ⟨w1, w2, g1, g2, g3⟩ := hg
  exact ((h.grown g1 hs b1).grown g2 (Nat.le_trans hs g1.size) b2).grown g3 (Nat.le_trans hs (Nat.le_trans g1.size g2.size)) b3

end Go.My
namespace Go.Proofs.Ytepefbfmjjnamaa
open Go.RowKit Go.My Go.Lib
set_option linter.unusedVariables false

def DiskT.marks (d : DiskT) (k : Nat) : DiskT := ⟨fileMs k d.live.length, fileMs (k + 2 * d.live.length) d.safe.length, dOpMs (k + 2 * d.live.length + 2 * d.safe.length) d.ops.length⟩
def DiskT.many (d : DiskT) : Nat := 2 * d.live.length + 2 * d.safe.length + 4 * d.ops.length

set_option maxHeartbeats 1000000 in
theorem markDisk_any (v1 v2 v3 : Value) (d : DiskT) (k : Nat) (w : World) (h : DiskAt 0 v1 v2 v3 d w) (ap : ApartV v1 v2) (hl : k + d.many ≤ 1099511627776) :
    Calls Try.prog 40 #[.agg #[v1, v2, v3], .int .i64 k] w fun e w' => e = .returned (.int .i64 ((k + d.many : Nat) : Int)) ∧ DiskAt 0 v1 v2 v3 (d.marks k) w' ∧ Grow3 v1 v2 v3 w w' := by
  have hl' : k + (2 * d.live.length + 2 * d.safe.length + 4 * d.ops.length) ≤ 1099511627776 := hl
  have t13 : ApartV v1 v3 := row_types h.live h.ops (by decide)
  have t23 : ApartV v2 v3 := row_types h.safe h.ops (by decide)
  have HE : Hid (k + 2 * d.live.length + 2 * d.safe.length + 4 * d.ops.length = k + d.many) := by show _ + _ + _ + _ = k + (_ + _ + _); omega
  have hx := heap_alloc_new w (.cells #[v1, v2, v3] 27)
  have hb0 : Below w.heap.size w (w.alloc (.cells #[v1, v2, v3] 27)) := (Below.refl _ _).alloc (Nat.le_refl _) _
  have H0 := Lib.hid (h.below hb0)
  have lt1 : ∀ q, v1.ownBlock = some q → q < w.heap.size := fun q hq => (World.ownsRow.lt h.live q hq).2
  have lt2 : ∀ q, v2.ownBlock = some q → q < w.heap.size := fun q hq => (World.ownsRow.lt h.safe q hq).2
  have G0 := Lib.hid (grw_of_below hb0 v1.ownBlock)
  have hs0 : (w.alloc (.cells #[v1, v2, v3] 27)).heap.size = w.heap.size + 1 := by simp
  have HQ := Lib.hid (And.intro ap (And.intro t13 (And.intro t23 (And.intro lt1 lt2))))
  obtain ⟨⟨b0, b1, b2⟩, _⟩ := dk_cells hx
  have HX := Lib.hid (And.intro hx hs0)
  clear h hb0 ap t13 t23 lt1 lt2 hx hl hs0
  go_enter Try.func40, Try.ntmps40
  go_wp2_with fail
  refine (markFileS_any v1 d.live k _ H0.out.live (by omega)).mono ?_
  rintro e w1 ⟨rfl, r1, g1⟩
  have x1 := (g1.block w.heap.size (by rw [HX.out.2]; omega) (fun c => by have := HQ.out.2.2.2.1 w.heap.size c.symm; omega)).trans HX.out.1
  have s1 := H0.out.safe.kept g1 HQ.out.1.symm
  have o1 := H0.out.ops.kept g1 HQ.out.2.1.symm
  obtain ⟨K1, hK1⟩ : ∃ K1, k + 2 * d.live.length = K1 := ⟨_, rfl⟩
  rw [hK1]
  have hsz1 : w.heap.size < w1.heap.size := (Array.getElem?_eq_some_iff.1 x1).1
  clear b0 b1 b2
  obtain ⟨⟨b0, b1, b2⟩, _⟩ := dk_cells x1
  have HX1 := Lib.hid x1
  clear x1
  go_wp2_with fail
  refine (markFileS_any v2 d.safe K1 _ s1 (by omega)).mono ?_
  rintro e w2 ⟨rfl, r2, g2⟩
  have x2 := (g2.block w.heap.size hsz1 (fun c => by have := HQ.out.2.2.2.2 w.heap.size c.symm; omega)).trans HX1.out
  have r1 := r1.kept g2 HQ.out.1
  have o1 := o1.kept g2 HQ.out.2.2.1.symm
  obtain ⟨K2, hK2⟩ : ∃ K2, K1 + 2 * d.safe.length = K2 := ⟨_, rfl⟩
  rw [hK2]
  clear b0 b1 b2
  obtain ⟨⟨b0, b1, b2⟩, _⟩ := dk_cells x2
  clear x2 s1
  go_wp2_with fail
  refine (markDOpS_any v3 d.ops K2 _ o1 (by omega)).mono ?_
  rintro e w3 ⟨rfl, r3, g3⟩
  have r1 := r1.kept g3 HQ.out.2.1
  have r2 := r2.kept g3 HQ.out.2.2.1
  obtain ⟨K3, hK3⟩ : ∃ K3, K2 + 4 * d.ops.length = K3 := ⟨_, rfl⟩
  rw [hK3]
  clear b0 b1 b2 o1
  have HF : Hid (K3 = k + d.many) := by show _ = _; rw [← HE.out, ← hK3, ← hK2, ← hK1]
  have HD : Hid (DiskAt 0 v1 v2 v3 (d.marks k) w3) := by
    refine ⟨r1, ?_, ?_⟩
    · show FilesAt 0 v2 (fileMs (k + 2 * d.live.length) d.safe.length) w3
      rw [hK1]; exact r2
    · show OpsAt 0 v3 (dOpMs (k + 2 * d.live.length + 2 * d.safe.length) d.ops.length) w3
      rw [hK1, hK2]; exact r3
  have HG : Hid (Grow3 v1 v2 v3 w w3) := ⟨w1, w2, grw_trans G0.out g1, g2, g3⟩
  clear r1 r2 r3 g1 g2 g3 hK1 hK2 hK3
  go_wp2
  go_ret
  exact ⟨by rw [HF.out]; rfl, HD.out, HG.out⟩

set_option maxHeartbeats 1000000 in
theorem heldDisk_any (v1 v2 v3 : Value) (d : DiskT) (k : Nat) (w : World) (h : DiskAt 0 v1 v2 v3 (d.marks k) w) (hl : k + d.many ≤ 1099511627776) :
    Calls Try.prog 41 #[.agg #[v1, v2, v3], .int .i64 k] w fun e w' => e = .returned (.int .i64 ((k + d.many : Nat) : Int)) ∧ Below w.heap.size w w' := by
  have hl' : k + (2 * d.live.length + 2 * d.safe.length + 4 * d.ops.length) ≤ 1099511627776 := hl
  have HE : Hid (k + 2 * d.live.length + 2 * d.safe.length + 4 * d.ops.length = k + d.many) := by show _ + _ + _ + _ = k + (_ + _ + _); omega
  have hx := heap_alloc_new w (.cells #[v1, v2, v3] 27)
  have hB : Below w.heap.size w (w.alloc (.cells #[v1, v2, v3] 27)) := (Below.refl _ _).alloc (Nat.le_refl _) _
  have r1 : FilesAt 0 v1 (fileMs k d.live.length) w := h.live
  have r2 : FilesAt 0 v2 (fileMs (k + 2 * d.live.length) d.safe.length) w := h.safe
  have r3 : OpsAt 0 v3 (dOpMs (k + 2 * d.live.length + 2 * d.safe.length) d.ops.length) w := h.ops
  obtain ⟨K1, hK1⟩ : ∃ K1, k + 2 * d.live.length = K1 := ⟨_, rfl⟩
  obtain ⟨K2, hK2⟩ : ∃ K2, K1 + 2 * d.safe.length = K2 := ⟨_, rfl⟩
  obtain ⟨K3, hK3⟩ : ∃ K3, K2 + 4 * d.ops.length = K3 := ⟨_, rfl⟩
  have HF : Hid (K3 = k + d.many) := by show _ = _; rw [← HE.out, ← hK3, ← hK2, ← hK1]
  have C1 := Lib.hid (fun W (hW : Below w.heap.size w W) => heldFileS_any v1 d.live.length k W (r1.below hW) (by omega))
  have C2 := Lib.hid (fun W (hW : Below w.heap.size w W) => heldFileS_any v2 d.safe.length (k + 2 * d.live.length) W (r2.below hW) (by omega))
  have C3 := Lib.hid (fun W (hW : Below w.heap.size w W) => heldDOpS_any v3 d.ops.length (k + 2 * d.live.length + 2 * d.safe.length) W (r3.below hW) (by omega))
  rw [hK1] at C1 C2 C3
  rw [hK2] at C2 C3
  rw [hK3] at C3
  have q1 : ¬ (K1 : Int) < 0 := by omega
  have q2 : ¬ (K2 : Int) < 0 := by omega
  have q3 : ¬ (K3 : Int) < 0 := by omega
  obtain ⟨⟨b0, b1, b2⟩, _⟩ := dk_cells hx
  have HX := Lib.hid hx
  clear h hl hl' r1 r2 r3 hK1 hK2 hK3 HE hx
  go_enter Try.func41, Try.ntmps41
  go_wp2_with fail
  refine (C1.out _ hB).mono ?_
  rintro e w1 ⟨rfl, hb1⟩
  have x1 := (hb1.block _ (Array.getElem?_eq_some_iff.1 HX.out).1).trans HX.out
  have hB := hB.trans (hb1.mono hB.size)
  clear b0 b1 b2 hb1
  obtain ⟨⟨b0, b1, b2⟩, _⟩ := dk_cells x1
  have HX1 := Lib.hid x1
  clear x1
  go_wp2_with fail
  refine (C2.out _ hB).mono ?_
  rintro e w2 ⟨rfl, hb2⟩
  have x2 := (hb2.block _ (Array.getElem?_eq_some_iff.1 HX1.out).1).trans HX1.out
  have hB := hB.trans (hb2.mono hB.size)
  clear b0 b1 b2 hb2
  obtain ⟨⟨b0, b1, b2⟩, _⟩ := dk_cells x2
  clear x2
  go_wp2_with fail
  refine (C3.out _ hB).mono ?_
  rintro e w3 ⟨rfl, hb3⟩
  have hB := hB.trans (hb3.mono hB.size)
  clear b0 b1 b2 hb3
  go_wp2
  go_ret
  exact ⟨by rw [HF.out]; rfl, hB⟩

end Go.Proofs.Ytepefbfmjjnamaa

/- The program: a drive's disk; Sync. -/
namespace Go.Proofs.Ytepefbfmjjnamaa
open Go.RowKit Go.My Go.Lib
set_option linter.unusedVariables false

theorem rowK {α : Type} {B e c g : Nat} {f : α → List Value} {v : Value} {l : List α} {w : World} {cs : Array Value} {T : TypeId} (h : RowL B e c f v l w) (hg : w.heap[g]? = some (.cells cs T (0, 0))) (hT : T ≠ e) : v.ownBlock = none ∨ v.ownBlock ≠ some g := .inr (row_kind h hg hT)

set_option maxRecDepth 20000 in
set_option maxHeartbeats 2000000 in
theorem diskOf_i (g : Nat) (v1 v2 v3 : Value) (d : DiskT) (w : World) (hg : w.heap[g]? = some (.cells #[v1, v2, v3] 79 (0, 0))) (h : DiskAt 0 v1 v2 v3 d w) (hl : d.small) :
    Calls Try.prog 60 #[.pointer (some ⟨g, 0, none⟩)] w fun e w' => ∃ u1 u2 u3, e = .returned (.agg #[u1, u2, u3]) ∧ DiskAt w.heap.size u1 u2 u3 d w' ∧ ApartV u1 u2 ∧ Below w.heap.size w w' := by
  have CF := Lib.hid (fun v l W (hW : FilesAt 0 v l W ∧ l.length ≤ 1048576) => copyF_i v l W hW.1 hW.2)
  have CO := Lib.hid (fun v l W (hW : OpsAt 0 v l W ∧ l.length ≤ 1048576) => copyO_i v l W hW.1 hW.2)
  have HL := Lib.hid hl
  have hglt : g < w.heap.size := (Array.getElem?_eq_some_iff.1 hg).1
  have hx := heap_alloc_new w (.cells #[.slice none 0 0, .slice none 0 0, .slice none 0 0] 27)
  have hB0 : Below w.heap.size w (w.alloc (.cells #[.slice none 0 0, .slice none 0 0, .slice none 0 0] 27)) := (Below.refl _ _).alloc (Nat.le_refl _) _
  have hs0 : (w.alloc (.cells #[.slice none 0 0, .slice none 0 0, .slice none 0 0] 27)).heap.size = w.heap.size + 1 := by simp
  have h0 := h.below hB0
  have k1 : FilesAt 0 v1 d.live _ := h0.live
  have k2 : FilesAt 0 v2 d.safe _ := h0.safe
  have k3 : OpsAt 0 v3 d.ops _ := h0.ops
  obtain ⟨p1, m1, rfl, _⟩ := h.live.open
  obtain ⟨p2, m2, rfl, _⟩ := h.safe.open
  obtain ⟨p3, m3, rfl, _⟩ := h.ops.open
  have hg0 := (hB0.block g hglt).trans hg
  obtain ⟨⟨b0, b1, b2⟩, _⟩ := dk_cells hg0
  obtain ⟨⟨r0, r1, r2⟩, rf⟩ := dk_cells hx
  have rf0 := rf 0
  have rf1 := rf 1
  have rf2 := rf 2
  have HX := Lib.hid (And.intro hx hs0)
  have HB0 := Lib.hid hB0
  clear h hl hg h0 hx hB0 rf hg0
  obtain ⟨W0, hW0⟩ : ∃ W0, w.alloc (.cells #[.slice none 0 0, .slice none 0 0, .slice none 0 0] 27) = W0 := ⟨_, rfl⟩
  have hBx : Below (w.heap.size + 1) (w.alloc (.cells #[.slice none 0 0, .slice none 0 0, .slice none 0 0] 27)) (w.alloc (.cells #[.slice none 0 0, .slice none 0 0, .slice none 0 0] 27)) := Below.refl _ _
  clear hW0 W0 hs0
  go_enter Try.func60, Try.ntmps60
  go_wp2_with fail
  go_region_held3 (fun w' => w'.cell? ⟨g, 0, none⟩ = some (.slice p1 d.live.length m1) ∧ w'.cell? ⟨g, 1, none⟩ = some (.slice p2 d.safe.length m2) ∧ w'.cell? ⟨g, 2, none⟩ = some (.slice p3 d.ops.length m3)) (first | exact ⟨b0, b1, b2⟩ | exact ⟨cell_set3 _ _ _ (by omega) b0, cell_set3 _ _ _ (by omega) b1, cell_set3 _ _ _ (by omega) b2⟩) (first
    | (go_at_call 103; refine (CF.out _ _ _ (by first | exact ⟨k1, HL.out.live⟩ | exact ⟨k1.below (Below.refl _ _).drew, HL.out.live⟩)).mono ?_; rintro e wz ⟨u1, rfl, f1, hbz⟩; obtain ⟨q1, n1, rfl, _⟩ := f1.open; have hBy := hBx; have b0 := (hbz.cell (p := ⟨g, 0, none⟩) (World.block_lt_of_cell? _ _ b0)).trans b0; have b1 := (hbz.cell (p := ⟨g, 1, none⟩) (World.block_lt_of_cell? _ _ b1)).trans b1; have b2 := (hbz.cell (p := ⟨g, 2, none⟩) (World.block_lt_of_cell? _ _ b2)).trans b2; have hBx := below_nx hbz (by first | exact hBx | exact hBx.drew) (by exact Nat.le_trans (Nat.le_of_eq HX.out.2.symm) hBx.size); have y1 := (hBx.block w.heap.size (Nat.lt_succ_self _)).trans HX.out.1; have cy := dk_cells y1; have r0 := cy.1.1; have r1 := cy.1.2.1; have r2 := cy.1.2.2; have rf0 := cy.2 0; have rf1 := cy.2 1; have rf2 := cy.2 2; clear cy; have k2 := (by first | exact RowL.below k2 hbz | exact RowL.below (RowL.below k2 (Below.refl _ _).drew) hbz); have k3 := (by first | exact RowL.below k3 hbz | exact RowL.below (RowL.below k3 (Below.refl _ _).drew) hbz); have f1 : FilesAt w.heap.size _ d.live wz := f1.mono (by have h1 := hBy.size; have h2 := HX.out.2; first | omega | (show w.heap.size ≤ (World.alloc w _).heap.size; omega)))
    | (go_at_call 103; refine (CF.out _ _ _ (by first | exact ⟨k2, HL.out.safe⟩ | exact ⟨k2.below (Below.refl _ _).drew, HL.out.safe⟩)).mono ?_; rintro e wz ⟨u2, rfl, f2, hbz⟩; obtain ⟨q2, n2, rfl, _⟩ := f2.open; have ap := row_apart f1 f2 (Nat.le_refl _); have hBy := hBx; have b0 := (hbz.cell (p := ⟨g, 0, none⟩) (World.block_lt_of_cell? _ _ b0)).trans b0; have b1 := (hbz.cell (p := ⟨g, 1, none⟩) (World.block_lt_of_cell? _ _ b1)).trans b1; have b2 := (hbz.cell (p := ⟨g, 2, none⟩) (World.block_lt_of_cell? _ _ b2)).trans b2; have hBx := below_nx hbz (by first | exact hBx | exact hBx.drew) (by exact Nat.le_trans (Nat.le_of_eq HX.out.2.symm) hBx.size); have y1 := (hBx.block w.heap.size (Nat.lt_succ_self _)).trans HX.out.1; have cy := dk_cells y1; have r0 := cy.1.1; have r1 := cy.1.2.1; have r2 := cy.1.2.2; have rf0 := cy.2 0; have rf1 := cy.2 1; have rf2 := cy.2 2; clear cy; have k3 := (by first | exact RowL.below k3 hbz | exact RowL.below (RowL.below k3 (Below.refl _ _).drew) hbz); have f1 := (by first | exact RowL.below f1 hbz | exact RowL.below (RowL.below f1 (Below.refl _ _).drew) hbz); have f2 : FilesAt w.heap.size _ d.safe wz := f2.mono (by have h1 := hBy.size; have h2 := HX.out.2; first | omega | (show w.heap.size ≤ (World.alloc w _).heap.size; omega)))
    | (go_at_call 104; refine (CO.out _ _ _ (by first | exact ⟨k3, HL.out.ops⟩ | exact ⟨k3.below (Below.refl _ _).drew, HL.out.ops⟩)).mono ?_; rintro e wz ⟨u3, rfl, f3, hbz⟩; obtain ⟨q3, n3, rfl, _⟩ := f3.open; have hBy := hBx; have b0 := (hbz.cell (p := ⟨g, 0, none⟩) (World.block_lt_of_cell? _ _ b0)).trans b0; have b1 := (hbz.cell (p := ⟨g, 1, none⟩) (World.block_lt_of_cell? _ _ b1)).trans b1; have b2 := (hbz.cell (p := ⟨g, 2, none⟩) (World.block_lt_of_cell? _ _ b2)).trans b2; have hBx := below_nx hbz (by first | exact hBx | exact hBx.drew) (by exact Nat.le_trans (Nat.le_of_eq HX.out.2.symm) hBx.size); have y1 := (hBx.block w.heap.size (Nat.lt_succ_self _)).trans HX.out.1; have cy := dk_cells y1; have r0 := cy.1.1; have r1 := cy.1.2.1; have r2 := cy.1.2.2; have rf0 := cy.2 0; have rf1 := cy.2 1; have rf2 := cy.2 2; clear cy; have f1 := (by first | exact RowL.below f1 hbz | exact RowL.below (RowL.below f1 (Below.refl _ _).drew) hbz); have f2 := (by first | exact RowL.below f2 hbz | exact RowL.below (RowL.below f2 (Below.refl _ _).drew) hbz); have f3 : OpsAt w.heap.size _ d.ops wz := f3.mono (by have h1 := hBy.size; have h2 := HX.out.2; first | omega | (show w.heap.size ≤ (World.alloc w _).heap.size; omega))))
  all_goals
    go_wp2
    have gz := grw_set3 wz w.heap.size (.slice q1 d.live.length n1) (.slice q2 d.safe.length n2) (.slice q3 d.ops.length n3)
    have hBz : Below w.heap.size w wz := HB0.out.trans (hBx.mono (Nat.le_succ _))
    refine bodyPost_ret (v := .agg #[.slice q1 d.live.length n1, .slice q2 d.safe.length n2, .slice q3 d.ops.length n3]) (results_cell_row Try.results60 _ _ w.heap.size 27 _ (0, 0) _ rfl (set3 y1 _ _ _) Try.underlying27 rfl (by kernel_rfl)) rfl ⟨_, _, _, rfl, ⟨RowL.kept f1 gz (rowK f1 y1 (by decide)), RowL.kept f2 gz (rowK f2 y1 (by decide)), RowL.kept f3 gz (rowK f3 y1 (by decide))⟩, ap, below_grw hBz gz hBz.size (fun q hq => by cases hq; exact Nat.le_refl _)⟩

set_option maxHeartbeats 1000000 in
theorem sync_i (g n m : Nat) (p : Option Addr) (v2 v3 : Value) (w : World) (hg : w.heap[g]? = some (.cells #[.slice p n m, v2, v3] 79 (0, 0))) :
    Calls Try.prog 61 #[.pointer (some ⟨g, 0, none⟩)] w fun e w' => e = .returned (.tuple #[]) ∧ w'.heap[g]? = some (.cells #[.slice p n m, .slice p n m, .slice none 0 0] 79 (0, 0)) ∧ w.grownBy w' (some g) := by
  obtain ⟨⟨b0, b1, b2⟩, bf⟩ := dk_cells hg
  have bf1 := bf 1
  have bf2 := bf 2
  have HG := Lib.hid hg
  clear hg bf
  go_enter Try.func61, Try.ntmps61
  go_wp2
  go_end0
  exact ⟨rfl, heap_setCell_same _ g 2 _ _ _ (heap_setCell_same _ g 1 _ _ _ HG.out), grw_set (grw_set (grw_refl _ _) _ _) _ _⟩

def syncV (d : DiskT) : DiskT := if diskB d then ⟨d.live, d.live, []⟩ else ⟨[], [], []⟩
theorem syncV_yes {d : DiskT} (h : diskB d = true) : syncV d = ⟨d.live, d.live, []⟩ := by unfold syncV; rw [h]; rfl
theorem syncV_no {d : DiskT} (h : diskB d = false) : syncV d = ⟨[], [], []⟩ := by unfold syncV; rw [h]; rfl
theorem nilDisk (B : Nat) (w : World) : DiskAt B (.slice none 0 0) (.slice none 0 0) (.slice none 0 0) ⟨[], [], []⟩ w := ⟨RowL.nil _ _ _ _ _, RowL.nil _ _ _ _ _, RowL.nil _ _ _ _ _⟩

set_option maxRecDepth 20000 in
set_option maxHeartbeats 2000000 in
theorem syncD_in (v1 v2 v3 : Value) (d : DiskT) (w : World) (h : DiskIn v1 v2 v3 d w) (hd : d.fit) :
    Calls Try.prog 20 #[.agg #[v1, v2, v3]] w fun e w' => ∃ u1 u2 u3, e = .returned (.agg #[u1, u2, u3]) ∧ DiskAt w.heap.size u1 u2 u3 (syncV d) w' ∧ ApartV u1 u2 ∧ Below w.heap.size w w' := by
  have C := Lib.hid (fun W (hW : Below w.heap.size w W) => driveOf_in v1 v2 v3 d W (h.below hW) hd)
  have HL := Lib.hid hd.small
  obtain ⟨p1, m1, rfl, _, _, _⟩ := h.live.open
  obtain ⟨p2, m2, rfl, _, _, _⟩ := h.safe.open
  obtain ⟨p3, m3, rfl, _, _, _⟩ := h.ops.open
  clear h hd
  go_enter Try.func20, Try.ntmps20
  go_wp2_with fail
  refine (C.out _ ?_).mono ?_
  · exact ((Below.refl _ _).alloc (Nat.le_refl _) _).alloc (by simp) _
  rintro e w2 ⟨a, b, c, rfl, ⟨pa, na, ca, rfl⟩, ⟨pb, nb, cb, rfl⟩, ⟨pc, nc, cc, rfl⟩, hb2, hf⟩
  obtain ⟨hB2, _, xR⟩ := boxes2 w _ _ _ hb2
  have HB2 := Lib.hid hB2
  have hlt2 : w.heap.size + 1 < w2.heap.size := (Array.getElem?_eq_some_iff.1 xR).1
  have hb3 : Below w2.heap.size w2 (w2.alloc (.cells #[.slice pa na ca, .slice pb nb cb, .slice pc nc cc] 79)) := (Below.refl _ _).alloc (Nat.le_refl _) _
  have hs3 : (w2.alloc (.cells #[.slice pa na ca, .slice pb nb cb, .slice pc nc cc] 79)).heap.size = w2.heap.size + 1 := by simp
  have yR := (hb3.block _ hlt2).trans xR
  have HB3 := Lib.hid hb3
  have HYR := Lib.hid (And.intro yR hs3)
  have HXR := Lib.hid xR
  clear hb2 C hB2 hb3 hs3 xR
  cases hk : diskB d with
  | false =>
    have HV := Lib.hid (syncV_no hk)
    clear hk hf
    obtain ⟨⟨r0, r1, r2⟩, rf⟩ := dk_cells HXR.out
    have rf0 := rf 0
    have rf1 := rf 1
    have rf2 := rf 2
    clear yR rf
    go_wp2
    have gz := grw_set3 w2 (w.heap.size + 1) (.slice none 0 0) (.slice none 0 0) (.slice none 0 0)
    have hBz := below_grw HB2.out gz HB2.out.size (fun q hq => by cases hq; omega)
    have hAl := (Below.refl _ ((((w2.setCell ⟨w.heap.size + 1, 0, none⟩ (.slice none 0 0)).setCell ⟨w.heap.size + 1, 1, none⟩ (.slice none 0 0)).setCell ⟨w.heap.size + 1, 2, none⟩ (.slice none 0 0)))).alloc (Nat.le_refl _) (.cells #[.slice pa na ca, .slice pb nb cb, .slice pc nc cc] 79)
    have hfin := (hAl.block (w.heap.size + 1) (Nat.lt_of_lt_of_le hlt2 gz.size)).trans (set3 HXR.out (.slice none 0 0) (.slice none 0 0) (.slice none 0 0))
    refine bodyPost_ret (v := .agg #[.slice none 0 0, .slice none 0 0, .slice none 0 0]) (results_cell_row Try.results20 _ _ (w.heap.size + 1) 27 _ (0, 0) _ rfl hfin Try.underlying27 rfl (by kernel_rfl)) rfl ⟨_, _, _, rfl, by rw [HV.out]; exact nilDisk _ _, .inl rfl, hBz.trans (hAl.mono hBz.size)⟩
  | true =>
    have HV := Lib.hid (syncV_yes hk)
    have f1 := (hf hk).1
    have HF := Lib.hid f1
    clear hk hf f1
    go_wp2_with fail
    refine (sync_i w2.heap.size na ca pa _ _ _ (heap_alloc_new w2 _)).mono ?_
    rintro e w3 ⟨rfl, hg3, gr3⟩
    have f1 := RowL.kept (HF.out.below HB3.out) gr3 (rowK (HF.out.below HB3.out) (heap_alloc_new w2 _) (by decide))
    have zR := (gr3.block (w.heap.size + 1) (by rw [HYR.out.2]; omega) (fun c => by have := Option.some.inj c; omega)).trans HYR.out.1
    have hB3 : Below w.heap.size w w3 := (HB2.out.trans (HB3.out.mono HB2.out.size)).grown gr3 (by rw [HYR.out.2]; omega) (fun q hq => by have := Option.some.inj hq; omega)
    have HB3' := Lib.hid hB3
    have C2 := Lib.hid (diskOf_i w2.heap.size _ _ _ ⟨d.live, d.live, []⟩ w3 hg3 ⟨f1, f1, RowL.nil _ _ _ _ _⟩ ⟨HL.out.live, HL.out.live, by simp⟩)
    have HZ := Lib.hid zR
    clear f1 gr3 hg3 zR hB3 yR
    go_wp2_with fail
    refine C2.out.mono ?_
    rintro e w4 ⟨u1, u2, u3, rfl, hD, ap, hb4⟩
    obtain ⟨q1, n1, rfl, _⟩ := hD.live.open
    obtain ⟨q2, n2, rfl, _⟩ := hD.safe.open
    obtain ⟨q3, n3, rfl, _⟩ := hD.ops.open
    have yR := (hb4.block (w.heap.size + 1) (Array.getElem?_eq_some_iff.1 HZ.out).1).trans HZ.out
    have hB4 := HB3'.out.trans (hb4.mono HB3'.out.size)
    have HD := Lib.hid (hD.mono HB3'.out.size)
    have HY := Lib.hid yR
    have HB4 := Lib.hid hB4
    have HA := Lib.hid ap
    obtain ⟨⟨r0, r1, r2⟩, rf⟩ := dk_cells yR
    have rf0 := rf 0
    have rf1 := rf 1
    have rf2 := rf 2
    clear hD ap hb4 hB4 yR rf
    go_wp2
    refine bodyPost_ret (v := .agg #[.slice q1 d.live.length n1, .slice q2 d.live.length n2, .slice q3 0 n3]) (results_cell_row Try.results20 _ _ (w.heap.size + 1) 27 _ (0, 0) _ rfl (set3 HY.out _ _ _) Try.underlying27 rfl (by kernel_rfl)) rfl ⟨_, _, _, rfl, by rw [HV.out]; exact ⟨RowL.kept HD.out.live (grw_set3 _ _ _ _ _) (rowK HD.out.live HY.out (by decide)), RowL.kept HD.out.safe (grw_set3 _ _ _ _ _) (rowK HD.out.safe HY.out (by decide)), RowL.kept HD.out.ops (grw_set3 _ _ _ _ _) (rowK HD.out.ops HY.out (by decide))⟩, HA.out, below_grw HB4.out (grw_set3 _ _ _ _ _) HB4.out.size (fun q hq => by cases hq; omega)⟩
theorem syncD_i (v1 v2 v3 : Value) (d : DiskT) (w : World) (h : DiskAt 0 v1 v2 v3 d w) (hd : d.fit) :
    Calls Try.prog 20 #[.agg #[v1, v2, v3]] w fun e w' => ∃ u1 u2 u3, e = .returned (.agg #[u1, u2, u3]) ∧ DiskAt w.heap.size u1 u2 u3 (syncV d) w' ∧ ApartV u1 u2 ∧ Below w.heap.size w w' :=
  syncD_in v1 v2 v3 d w h.toIn hd

end Go.Proofs.Ytepefbfmjjnamaa

/- Disks as arguments of a law: three slices of structs, opened. -/
namespace Go.My
open Go.RowKit Go.ChangeShapes Go.WideShapes
set_option linter.unusedVariables false

theorem add_none (b o k : Nat) : (⟨b, o, none⟩ : Addr).add k = ⟨b, o + k, none⟩ := by
  unfold Addr.add
  by_cases h : k = 0
  · subst h; rfl
  · rw [if_neg h]
/-- A slice of structs that came in, opened. -/
theorem argL_open {H : Type} {enc : TypeId × Value → H} {P : Program} {w : World} {sp : Nat → Bool} {held : Bool} {α : Type} [Inhabited α] {t e : TypeId} {c : Nat} {f : α → List Value} {W : α → Prop} {fuel : Nat} {cs : List Value} {x : DataW H × List MemPlace}
    (ht : P.underlying t = some (.slice e)) (hc : P.cellsOf e = c) (hc0 : 0 < c) (hf : ∀ a, (f a).length = c) (hel : ∀ n cs x, DataW.trod enc P w 0 sp held n e cs = some x → ∃ a, cs = f a ∧ W a)
    (h : DataW.trod enc P w 0 sp held fuel t cs = some x) : ∃ v l, cs = [v] ∧ ArgL c f v l w ∧ ∀ a ∈ l, W a := by
  rcases Deep.open_slice ht h with ⟨rfl, _⟩ | ⟨a, len, cap, m, n, D, Pl, rfl, _, hl, hm, hmm, _, hx⟩
  · exact ⟨_, [], rfl, ⟨none, 0, rfl, Nat.le_refl _, Nat.zero_le _, .inl rfl⟩, fun _ h => by cases h⟩
  have hlm : len ≤ m := by rw [hmm]; split <;> omega
  have each : ∀ i, i < len → ∃ y : α, W y ∧ w.cells? 0 (a.add (i * c)) c = some (f y) := by
    intro i hi
    obtain ⟨cs', h1, h2⟩ := hx i (by omega)
    obtain ⟨y, rfl, hy⟩ := hel _ _ _ h2
    exact ⟨y, hy, by rw [hc] at h1; exact h1⟩
  obtain ⟨Y, hY⟩ := Deep.choose_lt each
  refine ⟨_, (List.range len).map Y, rfl, ⟨some a, cap, by rw [List.length_map, List.length_range], by rw [List.length_map, List.length_range]; exact hl, hm, ?_⟩, ?_⟩
  · by_cases h0 : len = 0
    · left; rw [h0]; rfl
    right
    have key : ∀ i, i < len → ∀ j u, (f (Y i))[j]? = some u → w.cell? (a.add (i * c + j)) = some u := by
      intro i hi j u hu
      obtain ⟨_, hlen, hcell⟩ := World.cells?_some (hY i hi).2
      have hj : j < c := by have := (List.getElem?_eq_some_iff.1 hu).1; rw [hf] at this; exact this
      rw [← Deep.add_add, hcell j hj, hu]
    obtain ⟨b, o, s⟩ := a
    have k0 : w.cell? ⟨b, o, s⟩ = some ((f (Y 0))[0]'(by rw [hf]; exact hc0)) := by
      have := key 0 (by omega) 0 _ (List.getElem?_eq_getElem (by rw [hf]; exact hc0))
      rw [Nat.zero_mul] at this
      exact this
    have hs : s = none := by
      cases s with
      | none => rfl
      | some q =>
        exfalso
        unfold World.cell? at k0
        split at k0
        · simp at k0
        · cases k0
    subst hs
    refine ⟨b, o, rfl, World.block_lt_of_cell? _ _ k0, fun i hi j u hu => ?_⟩
    rw [List.length_map, List.length_range] at hi
    rw [List.getElem_map, List.getElem_range] at hu
    have := key i hi j u hu
    rw [add_none] at this
    exact this
  · intro y hy
    obtain ⟨i, hi, rfl⟩ := List.mem_map.1 hy
    exact (hY i (List.mem_range.1 hi)).1

end Go.My
namespace Go.Proofs.Ytepefbfmjjnamaa
open Go.RowKit Go.My Go.Lib Go.ChangeShapes Go.WideShapes
set_option linter.unusedVariables false
set_option maxRecDepth 100000

theorem dk_cells_s : Try.prog.cellsOf 9 = 1 := by kernel_rfl
theorem dk_cells_i : Try.prog.cellsOf 2 = 1 := by kernel_rfl
theorem dk_cells_file : Try.prog.cellsOf 130 = 2 := by kernel_rfl
theorem dk_cells_dop : Try.prog.cellsOf 61 = 4 := by kernel_rfl
theorem dk_cells_files : Try.prog.cellsOf 53 = 1 := by kernel_rfl
theorem dk_cells_dops : Try.prog.cellsOf 54 = 1 := by kernel_rfl
theorem dk_cells_disk : Try.prog.cellsOf 56 = 3 := by kernel_rfl

theorem file_open {H : Type} {enc : TypeId × Value → H} {w : World} {base : Nat} {sp : Nat → Bool} {held : Bool} {fuel : Nat} {cs : List Value} {x : DataW H × List MemPlace} (h : DataW.trod enc Try.prog w base sp held fuel 130 cs = some x) :
    ∃ a : FileT, cs = fileC a ∧ fileW a := by
  obtain ⟨xs, n, _, hx, hl, hn, hf⟩ := DataW.trod_struct Try.underlying130 h
  rw [dk_cells_file] at hl
  match cs, hl with
  | [c0, c1], _ =>
  match xs, hn with
  | [y0, y1], _ =>
    have h0 : DataW.trod enc Try.prog w base sp held n 9 (List.take (Try.prog.cellsOf 9) (List.drop 0 [c0, c1])) = some y0 := by have := hf 0 _ rfl; exact this
    rw [dk_cells_s] at h0
    have g0 : DataW.trod enc Try.prog w base sp held n 9 [c0] = some y0 := h0
    obtain ⟨p, e0, _, wp⟩ := DataW.trod_string Try.underlying9 g0
    have h1 : DataW.trod enc Try.prog w base sp held n 9 (List.take (Try.prog.cellsOf 9) (List.drop 1 [c0, c1])) = some y1 := by have := hf 1 _ rfl; exact this
    rw [dk_cells_s] at h1
    have g1 : DataW.trod enc Try.prog w base sp held n 9 [c1] = some y1 := h1
    obtain ⟨q, e1, _, wq⟩ := DataW.trod_string Try.underlying9 g1
    simp only [List.cons.injEq, and_true] at e0 e1
    obtain rfl := e0
    obtain rfl := e1
    exact ⟨(p, q), rfl, wp, wq⟩
theorem dOp_open {H : Type} {enc : TypeId × Value → H} {w : World} {base : Nat} {sp : Nat → Bool} {held : Bool} {fuel : Nat} {cs : List Value} {x : DataW H × List MemPlace} (h : DataW.trod enc Try.prog w base sp held fuel 61 cs = some x) :
    ∃ a : DOpT, cs = dOpC a ∧ dOpW a := by
  obtain ⟨xs, n, _, hx, hl, hn, hf⟩ := DataW.trod_struct Try.underlying61 h
  rw [dk_cells_dop] at hl
  match cs, hl with
  | [c0, c1, c2, c3], _ =>
  match xs, hn with
  | [y0, y1, y2, y3], _ =>
    have h0 : DataW.trod enc Try.prog w base sp held n 2 (List.take (Try.prog.cellsOf 2) (List.drop 0 [c0, c1, c2, c3])) = some y0 := by have := hf 0 _ rfl; exact this
    rw [dk_cells_i] at h0
    have g0 : DataW.trod enc Try.prog w base sp held n 2 [c0] = some y0 := h0
    obtain ⟨k, e0, _, wk⟩ := DataW.trod_int Try.underlying2 g0
    have h1 : DataW.trod enc Try.prog w base sp held n 9 (List.take (Try.prog.cellsOf 9) (List.drop 1 [c0, c1, c2, c3])) = some y1 := by have := hf 1 _ rfl; exact this
    rw [dk_cells_s] at h1
    have g1 : DataW.trod enc Try.prog w base sp held n 9 [c1] = some y1 := h1
    obtain ⟨p, e1, _, wp⟩ := DataW.trod_string Try.underlying9 g1
    have h2 : DataW.trod enc Try.prog w base sp held n 9 (List.take (Try.prog.cellsOf 9) (List.drop 2 [c0, c1, c2, c3])) = some y2 := by have := hf 2 _ rfl; exact this
    rw [dk_cells_s] at h2
    have g2 : DataW.trod enc Try.prog w base sp held n 9 [c2] = some y2 := h2
    obtain ⟨q, e2, _, wq⟩ := DataW.trod_string Try.underlying9 g2
    have h3 : DataW.trod enc Try.prog w base sp held n 9 (List.take (Try.prog.cellsOf 9) (List.drop 3 [c0, c1, c2, c3])) = some y3 := by have := hf 3 _ rfl; exact this
    rw [dk_cells_s] at h3
    have g3 : DataW.trod enc Try.prog w base sp held n 9 [c3] = some y3 := h3
    obtain ⟨r, e3, _, wr⟩ := DataW.trod_string Try.underlying9 g3
    simp only [List.cons.injEq, and_true] at e0 e1 e2 e3
    obtain rfl := e0
    obtain rfl := e1
    obtain rfl := e2
    obtain rfl := e3
    exact ⟨(k, p, q, r), rfl, wk, wp, wq, wr⟩
theorem disk_open {H : Type} {enc : TypeId × Value → H} {w : World} {sp : Nat → Bool} {held : Bool} {r : Reach} {b0 : Nat} {v : Value} {d : DataW H} {ps : List MemPlace} (hv : Value.okWide Try.prog w r b0 56 v) (h : DataW.Trod enc Try.prog w 0 sp held 56 v d ps) :
    ∃ v1 v2 v3 D, v = .agg #[v1, v2, v3] ∧ DiskArg v1 v2 v3 D w := by
  obtain ⟨cs, rfl, _⟩ := okWide_struct Try.underlying56 hv
  obtain ⟨fuel, hf0⟩ := h
  obtain ⟨l⟩ := cs
  simp only [Value.cells] at hf0
  obtain ⟨xs, n, _, hx, hl, hn, hf⟩ := DataW.trod_struct Try.underlying56 hf0
  rw [dk_cells_disk] at hl
  match l, hl with
  | [c0, c1, c2], _ =>
  match xs, hn with
  | [y0, y1, y2], _ =>
    have h0 : DataW.trod enc Try.prog w 0 sp held n 53 (List.take (Try.prog.cellsOf 53) (List.drop 0 [c0, c1, c2])) = some y0 := by have := hf 0 _ rfl; exact this
    rw [dk_cells_files] at h0
    have g0 : DataW.trod enc Try.prog w 0 sp held n 53 [c0] = some y0 := h0
    obtain ⟨v1, l1, e0, a1, w1⟩ := argL_open (f := fileC) Try.underlying53 dk_cells_file (by decide) fileC_len (fun n cs x h => file_open h) g0
    have h1 : DataW.trod enc Try.prog w 0 sp held n 53 (List.take (Try.prog.cellsOf 53) (List.drop 1 [c0, c1, c2])) = some y1 := by have := hf 1 _ rfl; exact this
    rw [dk_cells_files] at h1
    have g1 : DataW.trod enc Try.prog w 0 sp held n 53 [c1] = some y1 := h1
    obtain ⟨v2, l2, e1, a2, w2⟩ := argL_open (f := fileC) Try.underlying53 dk_cells_file (by decide) fileC_len (fun n cs x h => file_open h) g1
    have h2 : DataW.trod enc Try.prog w 0 sp held n 54 (List.take (Try.prog.cellsOf 54) (List.drop 2 [c0, c1, c2])) = some y2 := by have := hf 2 _ rfl; exact this
    rw [dk_cells_dops] at h2
    have g2 : DataW.trod enc Try.prog w 0 sp held n 54 [c2] = some y2 := h2
    obtain ⟨v3, l3, e2, a3, w3⟩ := argL_open (f := dOpC) Try.underlying54 dk_cells_dop (by decide) dOpC_len (fun n cs x h => dOp_open h) g2
    simp only [List.cons.injEq, and_true] at e0 e1 e2
    obtain rfl := e0
    obtain rfl := e1
    obtain rfl := e2
    exact ⟨c0, c1, c2, ⟨l1, l2, l3⟩, rfl, a1, a2, a3, w1, w2, w3⟩

theorem mem_le_sum (l : List Nat) (a : Nat) (h : a ∈ l) : a ≤ l.sum := by
  induction l with
  | nil => cases h
  | cons b l ih =>
    rw [List.sum_cons]
    rcases List.mem_cons.1 h with rfl | h
    · omega
    · have := ih h; omega
theorem dataSum_fileSum (l : List FileT) : dataSum l ≤ fileSum l := by
  induction l with
  | nil => exact Nat.le_refl _
  | cons a l ih =>
    show a.2.size + dataSum l ≤ (a.1.size + a.2.size) + fileSum l
    omega
/-- What a law's size lets through is short enough for all. -/
theorem fit_of {v1 v2 v3 : Value} {d : DiskT} {w : World} (h : DiskArg v1 v2 v3 d w) (hs : d.sz ≤ 1048576) : d.fit := by
  have hs' : d.live.length + fileSum d.live + (d.safe.length + fileSum d.safe) + (d.ops.length + dOpSum d.ops) ≤ 1048576 := hs
  have f : ∀ l : List FileT, ∀ a ∈ l, a.1.size + a.2.size ≤ fileSum l := fun l a ha => mem_le_sum _ _ (List.mem_map.2 ⟨a, ha, rfl⟩)
  have g : ∀ a ∈ d.ops, a.2.1.size + a.2.2.1.size + a.2.2.2.size ≤ dOpSum d.ops := fun a ha => mem_le_sum _ _ (List.mem_map.2 ⟨a, ha, rfl⟩)
  refine ⟨⟨by omega, by omega, by omega⟩, fun a ha => ?_, fun a ha => ?_, fun a ha => ?_, ?_⟩
  · have := f _ a ha; omega
  · have := f _ a ha; omega
  · have := g a ha; exact ⟨(h.wo a ha).1, by omega, by omega, by omega⟩
  · have := dataSum_fileSum d.live; have := dataSum_fileSum d.safe; omega
theorem DiskArg.below {v1 v2 v3 : Value} {d : DiskT} {w w' : World} (h : DiskArg v1 v2 v3 d w) (hb : Below w.heap.size w w') : DiskArg v1 v2 v3 d w' := ⟨h.live.below hb, h.safe.below hb, h.ops.below hb, h.wl, h.ws, h.wo⟩

end Go.Proofs.Ytepefbfmjjnamaa

/- ReadFile, of the program and of the specification. -/
namespace Go.Proofs.Ytepefbfmjjnamaa
open Go.RowKit Go.My Go.Lib
set_option linter.unusedVariables false

def rdS (d : DiskT) (n : ByteArray) : ByteArray := if diskB d then dataOf d.live n else ByteArray.mk #[]
def rdB (d : DiskT) (n : ByteArray) : Bool := diskB d && (idxL d.live n).isSome
theorem diskB_live {d : DiskT} (h : diskB d = true) : filesB d.live = true := by
  unfold diskB at h
  simp only [Bool.and_eq_true] at h
  exact h.1.1.1

set_option maxRecDepth 20000 in
set_option maxHeartbeats 2000000 in
theorem readFile_in (v1 v2 v3 : Value) (d : DiskT) (n : ByteArray) (w : World) (h : DiskIn v1 v2 v3 d w) (hd : d.fit) :
    Calls Try.prog 25 #[.agg #[v1, v2, v3], .string n] w fun e w' => e = .returned (.tuple #[.string (rdS d n), .bool (rdB d n)]) ∧ Below w.heap.size w w' := by
  have C := Lib.hid (fun W (hW : Below w.heap.size w W) => driveOf_in v1 v2 v3 d W (h.below hW) hd)
  obtain ⟨p1, m1, rfl, _, _, _⟩ := h.live.open
  obtain ⟨p2, m2, rfl, _, _, _⟩ := h.safe.open
  obtain ⟨p3, m3, rfl, _, _, _⟩ := h.ops.open
  have HD := Lib.hid hd
  clear h hd
  go_enter Try.func25, Try.ntmps25
  go_wp2_with fail
  refine (C.out _ ?_).mono ?_
  · exact (Below.refl _ _).alloc (Nat.le_refl _) _
  rintro e w2 ⟨a, b, c, rfl, ⟨pa, na, ca, rfl⟩, ⟨pb, nb, cb, rfl⟩, ⟨pc, nc, cc, rfl⟩, hb2, hf⟩
  have HB : Hid (Below w.heap.size w w2) := ((Below.refl w.heap.size w).alloc (Nat.le_refl _) _).trans (hb2.mono (by simp))
  clear hb2 C
  cases hk : diskB d with
  | false =>
    have HS : Hid (rdS d n = ByteArray.mk #[]) := by show _ = _; unfold rdS; rw [hk]; rfl
    have HT : Hid (rdB d n = false) := by show _ = _; unfold rdB; rw [hk]; rfl
    clear hk hf
    go_wp2
    go_ret2
    exact ⟨by rw [HS.out, HT.out]; rfl, HB.out.alloc HB.out.size _⟩
  | true =>
    have HS : Hid (rdS d n = dataOf d.live n) := by show _ = _; unfold rdS; rw [hk]; rfl
    have HT : Hid (rdB d n = (idxL d.live n).isSome) := by show _ = _; unfold rdB; rw [hk]; rfl
    have hl := sorted_of (diskB_live hk)
    have f1 := (hf hk).1
    have hBA : Below w2.heap.size w2 (w2.alloc (.cells #[.slice pa na ca, .slice pb nb cb, .slice pc nc cc] 79)) := (Below.refl _ _).alloc (Nat.le_refl _) _
    have CR := Lib.hid (fun W (hW : Below w2.heap.size w2 W) => read_i (.slice pa na ca) d.live n W (f1.below hW) HD.out.small.live hl)
    have CH := Lib.hid (fun W (hW : Below w2.heap.size w2 W) => has_i (.slice pa na ca) d.live n W (f1.below hW) HD.out.small.live hl)
    obtain ⟨R, hR⟩ : ∃ R, dataOf d.live n = R := ⟨_, rfl⟩
    obtain ⟨Q, hQ⟩ : ∃ Q, (idxL d.live n).isSome = Q := ⟨_, rfl⟩
    rw [hR] at HS CR
    rw [hQ] at HT CH
    have hx : (w2.alloc (.cells #[.slice pa na ca, .slice pb nb cb, .slice pc nc cc] 79)).heap[w2.heap.size]? = some _ := heap_alloc_new w2 _
    obtain ⟨⟨b0, _, _⟩, _⟩ := dk_cells hx
    have hBx : Below w2.heap.size w2 (w2.alloc (.cells #[.slice pa na ca, .slice pb nb cb, .slice pc nc cc] 79)) := hBA
    clear hk hf hl f1 hR hQ hx hBA
    go_wp2_with fail
    go_region_held3 (fun w' => w'.cell? ⟨w2.heap.size, 0, none⟩ = some (.slice pa na ca)) (first | exact b0) (first
      | (go_at_call 67; refine (CR.out _ (by first | exact hBx | exact hBx.drew)).mono ?_; rintro e wz ⟨rfl, hbz⟩; have b0 := (hbz.cell (p := ⟨w2.heap.size, 0, none⟩) (World.block_lt_of_cell? _ _ b0)).trans b0; have hBx := below_nx hbz (by first | exact hBx | exact hBx.drew) (by exact hBx.size))
      | (go_at_call 68; refine (CH.out _ (by first | exact hBx | exact hBx.drew)).mono ?_; rintro e wz ⟨rfl, hbz⟩; have b0 := (hbz.cell (p := ⟨w2.heap.size, 0, none⟩) (World.block_lt_of_cell? _ _ b0)).trans b0; have hBx := below_nx hbz (by first | exact hBx | exact hBx.drew) (by exact hBx.size)))
    all_goals
      go_wp2
      go_ret2
      exact ⟨by rw [HS.out, HT.out]; rfl, HB.out.trans (hBx.mono HB.out.size)⟩
theorem readFile_i (v1 v2 v3 : Value) (d : DiskT) (n : ByteArray) (w : World) (h : DiskAt 0 v1 v2 v3 d w) (hd : d.fit) :
    Calls Try.prog 25 #[.agg #[v1, v2, v3], .string n] w fun e w' => e = .returned (.tuple #[.string (rdS d n), .bool (rdB d n)]) ∧ Below w.heap.size w w' :=
  readFile_in v1 v2 v3 d n w h.toIn hd

set_option maxRecDepth 20000 in
set_option maxHeartbeats 2000000 in
theorem readFile_sn (v1 v2 v3 : Value) (d : DiskT) (n : ByteArray) (w : World) (h : DiskIn v1 v2 v3 d w) (hd : d.fit) :
    Calls Try.prog 47 #[.agg #[v1, v2, v3], .string n] w fun e w' => e = .returned (.tuple #[.string (rdS d n), .bool (rdB d n)]) ∧ Below w.heap.size w w' := by
  have C := Lib.hid (fun W (hW : Below w.heap.size w W) => disk_sn v1 v2 v3 d W (h.below hW) hd)
  have CA := Lib.hid (fun W (hW : Below w.heap.size w W) => at_s v1 d.live n W (h.live.below hW) hd.small.live)
  have H := Lib.hid h
  have hlI : (d.live.length : Int) ≤ 1048576 := by have := hd.small.live; omega
  obtain ⟨p1, m1, rfl, _, _, hp1⟩ := h.live.open
  obtain ⟨p2, m2, rfl, _, _, _⟩ := h.safe.open
  obtain ⟨p3, m3, rfl, _, _, _⟩ := h.ops.open
  clear h hd
  go_enter Try.func47, Try.ntmps47
  go_wp2_with fail
  refine (C.out _ ?_).mono ?_
  · exact (Below.refl _ _).alloc (Nat.le_refl _) _
  rintro e w2 ⟨rfl, hb2⟩
  obtain ⟨hB2, x2⟩ := boxes1 w _ _ hb2
  have HB := Lib.hid hB2
  obtain ⟨⟨b0, b1, b2⟩, _⟩ := dk_cells x2
  clear hb2 C
  cases hk : diskB d with
  | false =>
    have HS : Hid (rdS d n = ByteArray.mk #[]) := by show _ = _; unfold rdS; rw [hk]; rfl
    have HT : Hid (rdB d n = false) := by show _ = _; unfold rdB; rw [hk]; rfl
    clear hk x2 hB2
    go_wp2
    go_ret2
    exact ⟨by rw [HS.out, HT.out]; rfl, HB.out⟩
  | true =>
    have HX := Lib.hid x2
    have HS : Hid (rdS d n = dataOf d.live n) := by show _ = _; unfold rdS; rw [hk]; rfl
    have HT : Hid (rdB d n = (idxL d.live n).isSome) := by show _ = _; unfold rdB; rw [hk]; rfl
    clear hk x2 hB2
    go_wp2_with fail
    refine (CA.out _ (by exact HB.out)).mono ?_
    rintro e w3 ⟨rfl, hb3⟩
    have HB3 := Lib.hid (HB.out.trans (hb3.mono HB.out.size))
    have x3 := (hb3.block _ (Array.getElem?_eq_some_iff.1 HX.out).1).trans HX.out
    obtain ⟨⟨b0, b1, b2⟩, _⟩ := dk_cells x3
    clear hb3 x3
    cases hi : idxL d.live n with
    | none =>
      have HV := Lib.hid (idxV_none hi)
      have HW := Lib.hid (dataOf_none hi)
      have HI := Lib.hid hi
      rw [HV.out]
      clear hi
      go_wp2
      go_ret2
      exact ⟨by rw [HS.out, HT.out, HW.out, HI.out]; rfl, HB3.out⟩
    | some j =>
      have hj := idx_lt hi
      have HV := Lib.hid (idxV_some hi)
      have hdo := dataOf_some hi
      obtain ⟨x, hx⟩ : ∃ x, d.live[j] = x := ⟨_, rfl⟩
      rw [hx] at hdo
      have hne : d.live ≠ [] := by intro c; rw [c] at hj; simp at hj
      obtain ⟨g, rfl, _, hg⟩ := hp1.resolve_left (fun c => hne c.1)
      have j0 : (0 : Int) ≤ (j : Int) := by omega
      have j1 : (j : Int) < (d.live.length : Int) := by omega
      have k1 : w3.cell? ⟨g, j * 2 + 1, none⟩ = some (.string x.2) := (H.out.live.below HB3.out).at fileC_len hj hx 1 (by omega) rfl
      have HDO := Lib.hid hdo
      have HI := Lib.hid hi
      rw [HV.out]
      clear hi hdo hx hne hp1 hg
      go_wp2
      go_ret2
      exact ⟨by rw [HS.out, HT.out, HDO.out, HI.out]; rfl, HB3.out⟩
theorem readFile_s (v1 v2 v3 : Value) (d : DiskT) (n : ByteArray) (w : World) (h : DiskAt 0 v1 v2 v3 d w) (hd : d.fit) :
    Calls Try.prog 47 #[.agg #[v1, v2, v3], .string n] w fun e w' => e = .returned (.tuple #[.string (rdS d n), .bool (rdB d n)]) ∧ Below w.heap.size w w' :=
  readFile_sn v1 v2 v3 d n w h.toIn hd

end Go.Proofs.Ytepefbfmjjnamaa

/- The program: Do. -/
namespace Go.Proofs.Ytepefbfmjjnamaa
open Go.RowKit Go.My Go.Lib
set_option linter.unusedVariables false

theorem dop_cells {w : World} {k : Nat} {x y z u : Value} {T : TypeId} (h : w.heap[k]? = some (.cells #[x, y, z, u] T (0, 0))) : (w.cell? ⟨k, 0, none⟩ = some x ∧ w.cell? ⟨k, 1, none⟩ = some y ∧ w.cell? ⟨k, 2, none⟩ = some z ∧ w.cell? ⟨k, 3, none⟩ = some u) ∧ ∀ j, w.frozen? ⟨k, j, none⟩ = false :=
  ⟨⟨cell_of_row w k 0 _ _ (0, 0) h, cell_of_row w k 1 _ _ (0, 0) h, cell_of_row w k 2 _ _ (0, 0) h, cell_of_row w k 3 _ _ (0, 0) h⟩, fun j => frozen_of_row w k j _ _ h⟩
/-- The disk behind an operation, and the answer. -/
def doD (d : DiskT) (op : DOpT) : DiskT := if diskB d then ⟨doL d.live d.ops op, d.safe, doO d.live d.ops op⟩ else ⟨[], [], []⟩
def doR (d : DiskT) (op : DOpT) : Int := if diskB d then doC d.live d.ops op else 1
theorem doD_yes {d : DiskT} {op : DOpT} (h : diskB d = true) : doD d op = ⟨doL d.live d.ops op, d.safe, doO d.live d.ops op⟩ := by unfold doD; rw [if_pos h]
theorem doD_no {d : DiskT} {op : DOpT} (h : diskB d = false) : doD d op = ⟨[], [], []⟩ := by unfold doD; rw [if_neg (by rw [h]; decide)]
theorem doR_yes {d : DiskT} {op : DOpT} (h : diskB d = true) : doR d op = doC d.live d.ops op := by unfold doR; rw [if_pos h]
theorem doR_no {d : DiskT} {op : DOpT} (h : diskB d = false) : doR d op = 1 := by unfold doR; rw [if_neg (by rw [h]; decide)]
theorem diskB_ops {d : DiskT} (h : diskB d = true) : d.ops.length ≤ 200 := by
  unfold diskB at h
  rw [Bool.and_eq_true, Bool.and_eq_true, Bool.and_eq_true] at h
  exact of_decide_eq_true h.1.2
theorem doL_ok (l : List FileT) (ops : List DOpT) (op : DOpT) (h : filesB l = true) : filesB (doL l ops op) = true := by
  unfold doL
  by_cases c : doC l ops op = 0
  · rw [if_pos c]
    have c2 := ((doC_zero l ops op).1 c).2
    exact run_files c2 h
  · rw [if_neg c]; exact h
theorem doO_len (l : List FileT) (ops : List DOpT) (op : DOpT) (h : ops.length ≤ 200) : (doO l ops op).length ≤ 200 := by
  unfold doO
  by_cases c : doC l ops op = 0
  · rw [if_pos c, List.length_append]
    have c2 := ((doC_zero l ops op).1 c).1
    show _ + 1 ≤ _
    omega
  · rw [if_neg c]; exact h
theorem doD_small {d : DiskT} {op : DOpT} (hd : d.small) : (doD d op).small := by
  cases h : diskB d with
  | false => rw [doD_no h]; exact ⟨by simp, by simp, by simp⟩
  | true =>
    rw [doD_yes h]
    have h1 := (filesB_of (doL_ok d.live d.ops op (diskB_live h))).len
    have h2 := doO_len d.live d.ops op (diskB_ops h)
    exact ⟨by show (doL d.live d.ops op).length ≤ _; omega, hd.safe, by show (doO d.live d.ops op).length ≤ _; omega⟩

set_option maxRecDepth 20000 in
set_option maxHeartbeats 2000000 in
theorem doD_in (v1 v2 v3 : Value) (d : DiskT) (k : Int) (n t x : ByteArray) (w : World) (h : DiskIn v1 v2 v3 d w) (hd : d.fit) (hn : n.size ≤ 1048576) (ht : t.size ≤ 1048576) (hx : x.size ≤ 1048576) :
    Calls Try.prog 23 #[.agg #[v1, v2, v3], .agg #[.int .i64 k, .string n, .string t, .string x]] w fun e w' => ∃ u1 u2 u3, e = .returned (.tuple #[.agg #[u1, u2, u3], .int .i64 (doR d (k, n, t, x))]) ∧ DiskAt w.heap.size u1 u2 u3 (doD d (k, n, t, x)) w' ∧ ApartV u1 u2 ∧ Below w.heap.size w w' := by
  have C := Lib.hid (fun W (hW : Below w.heap.size w W) => driveOf_in v1 v2 v3 d W (h.below hW) hd)
  have HL := Lib.hid hd.small
  have HSM := Lib.hid (doD_small (op := (k, n, t, x)) hd.small)
  have HSF := Lib.hid h.safe
  have HN := Lib.hid (And.intro hn (And.intro ht hx))
  obtain ⟨p1, m1, rfl, _, _, _⟩ := h.live.open
  obtain ⟨p2, m2, rfl, _, _, _⟩ := h.safe.open
  obtain ⟨p3, m3, rfl, _, _, _⟩ := h.ops.open
  clear h hd hn ht hx
  go_enter Try.func23, Try.ntmps23
  go_wp2_with fail
  refine (C.out _ ?_).mono ?_
  · exact (((Below.refl _ _).alloc (Nat.le_refl _) _).alloc (by simp) _).alloc (by simp; omega) _
  rintro e w2 ⟨a, b, c, rfl, ⟨pa, na, ca, rfl⟩, ⟨pb, nb, cb, rfl⟩, ⟨pc, nc, cc, rfl⟩, hb2, hf⟩
  obtain ⟨hB2, xA, xO, xR, hsz2⟩ := boxes3 w _ _ _ _ hb2
  have HB2 := Lib.hid hB2
  have hlt2 : w.heap.size + 1 + 1 < w2.heap.size := (Array.getElem?_eq_some_iff.1 xR).1
  have hb3 : Below w2.heap.size w2 (w2.alloc (.cells #[.slice pa na ca, .slice pb nb cb, .slice pc nc cc] 79)) := (Below.refl _ _).alloc (Nat.le_refl _) _
  have hs3 : (w2.alloc (.cells #[.slice pa na ca, .slice pb nb cb, .slice pc nc cc] 79)).heap.size = w2.heap.size + 1 := by simp
  have yR := (hb3.block _ hlt2).trans xR
  have yO := (hb3.block _ (Array.getElem?_eq_some_iff.1 xO).1).trans xO
  have HB3 := Lib.hid hb3
  have HYR := Lib.hid (And.intro yR hs3)
  have HXR := Lib.hid xR
  have HYO := Lib.hid yO
  clear hb2 C hB2 hb3 hs3 xR xA xO hsz2
  cases hk : diskB d with
  | false =>
    have HV := Lib.hid (doD_no (op := (k, n, t, x)) hk)
    have HR := Lib.hid (doR_no (op := (k, n, t, x)) hk)
    clear hk hf
    obtain ⟨⟨r0, r1, r2⟩, rf⟩ := dk_cells HXR.out
    have rf0 := rf 0
    have rf1 := rf 1
    have rf2 := rf 2
    clear yR rf yO
    go_wp2
    have gz := grw_set3 w2 (w.heap.size + 1 + 1) (.slice none 0 0) (.slice none 0 0) (.slice none 0 0)
    have hBz := below_grw HB2.out gz HB2.out.size (fun q hq => by cases hq; omega)
    have hAl := (Below.refl _ ((((w2.setCell ⟨w.heap.size + 1 + 1, 0, none⟩ (.slice none 0 0)).setCell ⟨w.heap.size + 1 + 1, 1, none⟩ (.slice none 0 0)).setCell ⟨w.heap.size + 1 + 1, 2, none⟩ (.slice none 0 0)))).alloc (Nat.le_refl _) (.cells #[.slice pa na ca, .slice pb nb cb, .slice pc nc cc] 79)
    have hfin := (hAl.block (w.heap.size + 1 + 1) (Nat.lt_of_lt_of_le hlt2 gz.size)).trans (set3 HXR.out (.slice none 0 0) (.slice none 0 0) (.slice none 0 0))
    refine bodyPost_ret (v := .tuple #[.agg #[.slice none 0 0, .slice none 0 0, .slice none 0 0], .int .i64 1]) (results_row_u Try.results23 _ _ (w.heap.size + 1 + 1) 27 _ (0, 0) _ rfl hfin Try.underlying27 rfl (by kernel_rfl)) rfl ⟨_, _, _, by rw [HR.out], by rw [HV.out]; exact nilDisk _ _, .inl rfl, hBz.trans (hAl.mono hBz.size)⟩
  | true =>
    have HV := Lib.hid (doD_yes (op := (k, n, t, x)) hk)
    have HR := Lib.hid (doR_yes (op := (k, n, t, x)) hk)
    have HLV := Lib.hid (diskB_live hk)
    obtain ⟨f1, f2, f3, hb⟩ := hf hk
    injection hb with hb1 hb2 hb3
    subst hb1 hb2 hb3
    have hs0 : (((w.alloc (.cells #[.slice p1 d.live.length m1, .slice pb d.safe.length cb, .slice p3 d.ops.length m3] 27)).alloc (.cells #[.int .i64 k, .string n, .string t, .string x] 36)).alloc (.cells #[.slice none 0 0, .slice none 0 0, .slice none 0 0] 27)).heap.size = w.heap.size + 1 + 1 + 1 := by simp
    rw [hs0] at f3
    have hlt3 : w.heap.size + 1 + 1 + 1 ≤ w2.heap.size := hlt2
    have F1 := f1.below HB3.out
    have F3 := f3.below HB3.out
    have xD := heap_alloc_new w2 (.cells #[.slice pa na ca, .slice pb d.safe.length cb, .slice pc nc cc] 79)
    have hdr : DrvAt (w.heap.size + 1 + 1 + 1) w2.heap.size (.slice pb d.safe.length cb) d.live d.ops (w2.alloc (.cells #[.slice pa na ca, .slice pb d.safe.length cb, .slice pc nc cc] 79)) := by
      refine ⟨_, _, xD, hlt3, F1, F3, row_kind F1 xD (by decide), row_kind F3 xD (by decide), row_types F1 F3 (by decide)⟩
    have CD := Lib.hid (do_i (w.heap.size + 1 + 1 + 1) w2.heap.size (.slice pb d.safe.length cb) d.live d.ops k n t x _ hdr HLV.out HL.out.ops HN.out.1 HN.out.2.1 HN.out.2.2 (by rw [HYR.out.2]; omega))
    rw [HV.out] at HSM
    have HUP : Hid (doL d.live d.ops (k, n, t, x) = (if doC d.live d.ops (k, n, t, x) = 0 then aftL d.live (k, n, t, x) else d.live) ∧ doO d.live d.ops (k, n, t, x) = (if doC d.live d.ops (k, n, t, x) = 0 then d.ops ++ [(k, n, t, x)] else d.ops)) := ⟨rfl, rfl⟩
    obtain ⟨⟨o0, o1, o2, o3⟩, _⟩ := dop_cells yO
    generalize doC d.live d.ops (k, n, t, x) = R at CD HR HUP
    generalize doL d.live d.ops (k, n, t, x) = L at HV HUP HSM
    generalize doO d.live d.ops (k, n, t, x) = O at HV HUP HSM
    clear hf hk f1 f2 f3 F1 F3 xD hdr hs0 yR yO
    go_wp2_with fail
    refine CD.out.mono ?_
    rintro e w3 ⟨rfl, hok, hno, hb4⟩
    have hD3 : DrvAt (w.heap.size + 1 + 1 + 1) w2.heap.size (.slice pb d.safe.length cb) L O w3 := by
      by_cases c : R = 0
      · rw [HUP.out.1, HUP.out.2, if_pos c, if_pos c]; exact hok c
      · rw [HUP.out.1, HUP.out.2, if_neg c, if_neg c]; exact hno c
    have hB3 : Below w.heap.size w w3 := (HB2.out.trans (HB3.out.mono HB2.out.size)).trans (hb4.mono (by omega))
    have zR := (hb4.block (w.heap.size + 1 + 1) (by omega)).trans HYR.out.1
    obtain ⟨vl, vo, hg3, _, F1, F3, _, _, _⟩ := hD3
    have C2 := Lib.hid (diskOf_i w2.heap.size _ _ _ ⟨L, d.safe, O⟩ w3 hg3 ⟨F1, HSF.out.below hB3, F3.mono (Nat.zero_le _)⟩ HSM.out)
    have HB3' := Lib.hid hB3
    have HZ := Lib.hid zR
    clear F1 F3 hok hno hb4 hg3 hB3 zR CD o0 o1 o2 o3
    go_wp2_with fail
    refine C2.out.mono ?_
    rintro e w4 ⟨u1, u2, u3, rfl, hD, ap, hb4⟩
    obtain ⟨q1, n1, rfl, _⟩ := hD.live.open
    obtain ⟨q2, n2, rfl, _⟩ := hD.safe.open
    obtain ⟨q3, n3, rfl, _⟩ := hD.ops.open
    have yR := (hb4.block (w.heap.size + 1 + 1) (Array.getElem?_eq_some_iff.1 HZ.out).1).trans HZ.out
    have hB4 := HB3'.out.trans (hb4.mono HB3'.out.size)
    have HD := Lib.hid (hD.mono HB3'.out.size)
    have HY := Lib.hid yR
    have HB4 := Lib.hid hB4
    have HA := Lib.hid ap
    obtain ⟨⟨r0, r1, r2⟩, rf⟩ := dk_cells yR
    have rf0 := rf 0
    have rf1 := rf 1
    have rf2 := rf 2
    clear hD ap hb4 hB4 yR rf
    go_wp2
    refine bodyPost_ret (v := .tuple #[.agg #[.slice q1 L.length n1, .slice q2 d.safe.length n2, .slice q3 O.length n3], .int .i64 R]) (results_row_u Try.results23 _ _ (w.heap.size + 1 + 1) 27 _ (0, 0) _ rfl (set3 HY.out _ _ _) Try.underlying27 rfl (by kernel_rfl)) rfl ⟨_, _, _, by rw [HR.out], by rw [HV.out]; exact ⟨RowL.kept HD.out.live (grw_set3 _ _ _ _ _) (rowK HD.out.live HY.out (by decide)), RowL.kept HD.out.safe (grw_set3 _ _ _ _ _) (rowK HD.out.safe HY.out (by decide)), RowL.kept HD.out.ops (grw_set3 _ _ _ _ _) (rowK HD.out.ops HY.out (by decide))⟩, HA.out, below_grw HB4.out (grw_set3 _ _ _ _ _) HB4.out.size (fun q hq => by cases hq; omega)⟩
theorem doD_i (v1 v2 v3 : Value) (d : DiskT) (k : Int) (n t x : ByteArray) (w : World) (h : DiskAt 0 v1 v2 v3 d w) (hd : d.fit) (hn : n.size ≤ 1048576) (ht : t.size ≤ 1048576) (hx : x.size ≤ 1048576) :
    Calls Try.prog 23 #[.agg #[v1, v2, v3], .agg #[.int .i64 k, .string n, .string t, .string x]] w fun e w' => ∃ u1 u2 u3, e = .returned (.tuple #[.agg #[u1, u2, u3], .int .i64 (doR d (k, n, t, x))]) ∧ DiskAt w.heap.size u1 u2 u3 (doD d (k, n, t, x)) w' ∧ ApartV u1 u2 ∧ Below w.heap.size w w' :=
  doD_in v1 v2 v3 d k n t x w h.toIn hd hn ht hx

end Go.Proofs.Ytepefbfmjjnamaa

/- The program: the operations by which a file is replaced. -/
namespace Go.Proofs.Ytepefbfmjjnamaa
open Go.RowKit Go.My Go.Lib
set_option linter.unusedVariables false

abbrev dotNew : ByteArray := ⟨#[46, 110, 101, 119]⟩
theorem dotNew_size : dotNew.size = 4 := rfl
def rmO (l : List FileT) (n : ByteArray) : List DOpT := if (idxL l n).isSome then [(3, n, ByteArray.mk #[], ByteArray.mk #[])] else []
def writeO (l : List FileT) (n x : ByteArray) : List DOpT := rmO l n ++ [(1, n, ByteArray.mk #[], x)]
def renO (n : ByteArray) : DOpT := (2, n ++ dotNew, n, ByteArray.mk #[])
def repO (l : List FileT) (n x : ByteArray) : List DOpT := writeO l (n ++ dotNew) x ++ [renO n]

set_option maxRecDepth 20000 in
set_option maxHeartbeats 2000000 in
theorem renaming_i (n : ByteArray) (w : World) (hn : n.size ≤ 1048576) :
    Calls Try.prog 73 #[.string n] w fun e w' => e = .returned (.agg #[.int .i64 2, .string (n ++ dotNew), .string n, .string (ByteArray.mk #[])]) ∧ Below w.heap.size w w' := by
  have hs : ¬ maxLen < n.size + dotNew.size := by rw [dotNew_size]; unfold maxLen; omega
  go_enter Try.func73, Try.ntmps73
  go_wp2
  refine bodyPost_ret (v := .agg #[.int .i64 2, .string (n ++ dotNew), .string n, .string (ByteArray.mk #[])]) (results_cell_row Try.results73 _ _ w.heap.size 36 _ (0, 0) _ rfl (heap_alloc_new w _) Try.underlying36 rfl (by kernel_rfl)) rfl ⟨rfl, ?_⟩
  exact (Below.refl _ _).alloc (Nat.le_refl _) _

set_option maxRecDepth 20000 in
set_option maxHeartbeats 2000000 in
theorem writing_i (v : Value) (l : List FileT) (n x : ByteArray) (w : World) (h : FilesAt 0 v l w) (hl : l.length ≤ 1048576) (hs : Sorted l) :
    Calls Try.prog 72 #[v, .string n, .string x] w fun e w' => ∃ u, e = .returned u ∧ OpsAt w.heap.size u (writeO l n x) w' ∧ Below w.heap.size w w' := by
  have C := Lib.hid (has_i v l n w h hl hs)
  obtain ⟨i0, hi, hz0, hz1, hz2⟩ := info_parts info_DOp
  have HF : Hid (writeO l n x = (if (idxL l n).isSome = true then [(3, n, ByteArray.mk #[], ByteArray.mk #[])] else []) ++ [(1, n, ByteArray.mk #[], x)]) := rfl
  obtain ⟨p, cap, rfl, _⟩ := h.open
  clear h hs
  generalize (idxL l n).isSome = b at C HF
  generalize writeO l n x = WO at HF ⊢
  go_enter Try.func72, Try.ntmps72
  go_wp2_with fail
  refine C.out.mono ?_
  rintro e w2 ⟨rfl, hB2⟩
  have HB2 := Lib.hid hB2
  have hs2 := hB2.size
  clear hB2
  cases b with
  | false =>
    have HR : Hid (WO = [] ++ [(1, n, ByteArray.mk #[], x)]) := by rw [HF.out]; rfl
    have hR : w2.ownsRow w.heap.size 36 4 (.slice none 0 0) ([] : List DOpT).length (([] : List DOpT).flatMap dOpC) := World.ownsRow_nil w2 _ _ _
    go_wp2_with (at_builtin; refine wpList_append_lies _ rfl _ _ 25 rfl w.heap.size 36 i0 (.agg #[.int .i64 0, .string ByteArray.empty, .string ByteArray.empty, .string ByteArray.empty]) 4 56 Try.underlying25 hi hz0 hz1 hz2 rfl (by decide) (.slice none 0 0) 0 _ rfl (hR.alloc _) ⟨w2.heap.size, 0, none⟩ 1 1 [_, _, _, _] rfl rfl (World.news_of_block (cs := #[_, _, _, _]) (t := 36) (fr := (0, 0)) (heap_alloc_new w2 _)) (by simp [Value.oneCell']) (by omega) (by unfold maxLen; omega) (by omega) (by simp; omega) (w2.heap.size + 1) (by simp) ?_; intro g2 cap2 w7 hown2 hgrow2 hat hlt2)
    have R := row_push (b := (1, n, ByteArray.mk #[], x)) hR HB2.out hs2 rfl rfl hown2 hgrow2
    go_ret
    exact ⟨_, rfl, by rw [HR.out]; exact R.1, R.2⟩
  | true =>
    have HR : Hid (WO = [(3, n, ByteArray.mk #[], ByteArray.mk #[])] ++ [(1, n, ByteArray.mk #[], x)]) := by rw [HF.out]; rfl
    have hR : w2.ownsRow w.heap.size 36 4 (.slice none 0 0) ([] : List DOpT).length (([] : List DOpT).flatMap dOpC) := World.ownsRow_nil w2 _ _ _
    go_upto_region 4 with (at_builtin; refine wpList_append_lies _ rfl _ _ 25 rfl w.heap.size 36 i0 (.agg #[.int .i64 0, .string ByteArray.empty, .string ByteArray.empty, .string ByteArray.empty]) 4 56 Try.underlying25 hi hz0 hz1 hz2 rfl (by decide) (.slice none 0 0) 0 _ rfl (hR.alloc _) ⟨w2.heap.size, 0, none⟩ 1 1 [_, _, _, _] rfl rfl (World.news_of_block (cs := #[_, _, _, _]) (t := 36) (fr := (0, 0)) (heap_alloc_new w2 _)) (by simp [Value.oneCell']) (by omega) (by unfold maxLen; omega) (by omega) (by simp; omega) (w2.heap.size + 1) (by simp) ?_; intro g2 cap2 w3 hown2 hgrow2 hat hlt2)
    have R := row_push (b := (3, n, ByteArray.mk #[], ByteArray.mk #[])) hR HB2.out hs2 rfl rfl hown2 hgrow2
    have hR3 : w3.ownsRow w.heap.size 36 4 (.slice (some ⟨g2, 0, none⟩) 1 cap2) ([(3, n, ByteArray.mk #[], ByteArray.mk #[])] : List DOpT).length (([(3, n, ByteArray.mk #[], ByteArray.mk #[])] : List DOpT).flatMap dOpC) := R.1
    have HB3 := Lib.hid R.2
    have hs3 := R.2.size
    clear R hown2 hgrow2 hat hlt2 hR hs2
    go_wp2_with (at_builtin; refine wpList_append_lies _ rfl _ _ 25 rfl w.heap.size 36 i0 (.agg #[.int .i64 0, .string ByteArray.empty, .string ByteArray.empty, .string ByteArray.empty]) 4 56 Try.underlying25 hi hz0 hz1 hz2 rfl (by decide) (.slice (some ⟨g2, 0, none⟩) 1 cap2) 1 _ rfl (hR3.alloc _) ⟨w3.heap.size, 0, none⟩ 1 1 [_, _, _, _] rfl rfl (World.news_of_block (cs := #[_, _, _, _]) (t := 36) (fr := (0, 0)) (heap_alloc_new w3 _)) (by simp [Value.oneCell']) (by omega) (by unfold maxLen; omega) (by omega) (by simp; omega) (w3.heap.size + 1) (by simp) ?_; intro g4 cap4 w7 hown2 hgrow2 hat hlt2)
    have R := row_push (b := (1, n, ByteArray.mk #[], x)) hR3 HB3.out hs3 rfl rfl hown2 hgrow2
    go_ret
    exact ⟨_, rfl, by rw [HR.out]; exact R.1, R.2⟩

end Go.Proofs.Ytepefbfmjjnamaa

/- The program: all operations of a list, or none. -/
namespace Go.Proofs.Ytepefbfmjjnamaa
open Go.RowKit Go.My Go.Lib
set_option linter.unusedVariables false

def allC : List FileT → List DOpT → List DOpT → Int
  | _, _, [] => 0
  | l, ops, op :: r => if doC l ops op = 0 then allC (aftL l op) (ops ++ [op]) r else doC l ops op
def allL (l : List FileT) (ops : List DOpT) : List FileT := ops.foldl aftL l
theorem allC_go {l : List FileT} {ops list : List DOpT} {j : Nat} (hj : j < list.length) (h : doC l ops list[j] = 0) : allC l ops (list.drop j) = allC (aftL l list[j]) (ops ++ [list[j]]) (list.drop (j + 1)) := by
  rw [List.drop_eq_getElem_cons hj]
  show (if doC l ops list[j] = 0 then _ else _) = _
  rw [if_pos h]
theorem allC_bad {l : List FileT} {ops list : List DOpT} {j : Nat} (hj : j < list.length) (h : doC l ops list[j] ≠ 0) : allC l ops (list.drop j) = doC l ops list[j] := by
  rw [List.drop_eq_getElem_cons hj]
  show (if doC l ops list[j] = 0 then _ else _) = _
  rw [if_neg h]
theorem allL_go (l : List FileT) {list : List DOpT} {j : Nat} (hj : j < list.length) : allL l (list.take (j + 1)) = aftL (allL l (list.take j)) list[j] := by
  rw [List.take_succ_eq_append_getElem hj]
  unfold allL
  rw [List.foldl_append]
  rfl
theorem doC_ok {l : List FileT} {ops : List DOpT} {op : DOpT} (h : doC l ops op = 0) : filesB (aftL l op) = true ∧ ops.length < 200 := by
  unfold doC at h
  cases c1 : opB op <;> cases c2 : findB l op <;> cases c4 : filesB (aftL l op) <;> by_cases c3 : 200 ≤ ops.length <;> simp [c1, c2, c3, c4] at h ⊢ <;> omega
theorem DrvRow.below {B dv : Nat} {vl vs vo : Value} {l : List FileT} {ops : List DOpT} {w w' : World} (h : DrvRow B dv vl vs vo l ops w) (hb : Below w.heap.size w w') : DrvRow B dv vl vs vo l ops w' := by
  obtain ⟨h1, h2, h3, h4, h5, h6, h7⟩ := h
  exact ⟨(hb.block dv (Array.getElem?_eq_some_iff.1 h1).1).trans h1, h2, h3.below hb, h4.below hb, h5, h6, h7⟩
theorem own_block {B e size n : Nat} {v : Value} {xs : List Value} {w w' : World} (h : w.ownsRow B e size v n xs) (hb : ∀ g, v.ownBlock = some g → w'.heap[g]? = w.heap[g]?) : w'.ownsRow B e size v n xs := by
  refine ⟨h.1, ?_⟩
  rcases h.2 with h0 | ⟨g, cap, cur, rfl, h1, h2, h3, h4, h5, h6⟩
  · exact .inl h0
  · exact .inr ⟨g, cap, cur, rfl, h1, (hb g rfl).trans h2, h3, h4, h5, h6⟩
/-- What stands at a round: the drive, the elder lists, the box of the drive as it was. -/
structure AllJ (B dv : Nat) (vl0 vs vo0 vL : Value) (l0 : List FileT) (ops0 list : List DOpT) (j : Nat) (w wr : World) : Prop where
  row : ∃ vl vo, DrvRow B dv vl vs vo (allL l0 (list.take j)) (ops0 ++ list.take j) wr ∧ ∀ q, vo.ownBlock = some q → vo0.ownBlock = some q ∨ w.heap.size ≤ q
  files : FilesAt 0 vl0 l0 wr
  ops : OpsAt B vo0 ops0 wr
  arg : OpsAt 0 vL list wr
  box : wr.heap[w.heap.size]? = some (.cells #[vl0, vs, vo0] 79 (0, 0))
  bel : Below B w wr
theorem AllJ.below {B dv : Nat} {vl0 vs vo0 vL : Value} {l0 : List FileT} {ops0 list : List DOpT} {j : Nat} {w wr wz : World} (h : AllJ B dv vl0 vs vo0 vL l0 ops0 list j w wr) (hb : Below wr.heap.size wr wz) (hB : B ≤ w.heap.size) : AllJ B dv vl0 vs vo0 vL l0 ops0 list j w wz := by
  obtain ⟨⟨vl, vo, h1, h2⟩, h3, h4, h5, h6, h7⟩ := h
  exact ⟨⟨vl, vo, h1.below hb, h2⟩, h3.below hb, h4.below hb, h5.below hb, (hb.block _ (Array.getElem?_eq_some_iff.1 h6).1).trans h6, h7.trans (hb.mono (Nat.le_trans hB h7.size))⟩
/-- The next round, if the operation is done. -/
theorem AllJ.next {B dv : Nat} {vl0 vs vo0 vL vl vo : Value} {l0 : List FileT} {ops0 list : List DOpT} {j : Nat} {w wr wz : World} (h : AllJ B dv vl0 vs vo0 vL l0 ops0 list j w wr) (hB : B ≤ w.heap.size) (hdv : dv < w.heap.size) (hL : vL.ownBlock = none ∨ vL.ownBlock ≠ vo0.ownBlock) (hLw : ∀ g, vL.ownBlock = some g → g < w.heap.size)
    (hj : j < list.length) (hr : DrvRow B dv vl vs vo (allL l0 (list.take j)) (ops0 ++ list.take j) wr) (hvo : ∀ q, vo.ownBlock = some q → vo0.ownBlock = some q ∨ w.heap.size ≤ q)
    (hn : ∃ vl' vo', DrvRow B dv vl' vs vo' (aftL (allL l0 (list.take j)) list[j]) (ops0 ++ list.take j ++ [list[j]]) wz ∧ ∀ q, vo'.ownBlock = some q → vo.ownBlock = some q ∨ wr.heap.size ≤ q) (hb : Below B wr wz) (hk : Kd dv vo (ops0 ++ list.take j).length wr wz) : AllJ B dv vl0 vs vo0 vL l0 ops0 list (j + 1) w wz := by
  obtain ⟨vl', vo', g1, g2⟩ := hn
  have hsz : w.heap.size ≤ wr.heap.size := h.bel.size
  refine ⟨⟨vl', vo', ?_, fun q hq => ?_⟩, ?_, ?_, ?_, ?_, h.bel.trans hb⟩
  · rw [allL_go l0 hj, List.take_succ_eq_append_getElem hj, ← List.append_assoc]
    exact g1
  · rcases g2 q hq with h1 | h1
    · exact hvo q h1
    · exact .inr (by omega)
  · refine own_block h.files (fun g hg => hk.1 g (World.ownsRow.lt h.files g hg).2 (fun c => row_kind h.files hr.1 (by decide) (by rw [hg, c])) (fun c => ?_))
    rcases row_types h.files hr.2.2.2.1 (by decide) with h1 | h1
    · rw [h1] at hg; cases hg
    · exact h1 (hg.trans c.symm)
  · by_cases c : vo0.ownBlock = vo.ownBlock
    · exact hk.2 _ _ _ _ c (by rw [List.length_append]; omega) h.ops
    · refine own_block h.ops (fun g hg => hk.1 g (World.ownsRow.lt h.ops g hg).2 (fun c => row_kind h.ops hr.1 (by decide) (by rw [hg, c])) (fun c2 => c (hg.trans c2.symm)))
  · refine own_block h.arg (fun g hg => hk.1 g (World.ownsRow.lt h.arg g hg).2 (fun c => row_kind h.arg hr.1 (by decide) (by rw [hg, c])) (fun c => ?_))
    rcases hvo g c with h1 | h1
    · rcases hL with h2 | h2
      · rw [h2] at hg; cases hg
      · exact h2 (hg.trans h1.symm)
    · have := hLw g hg; omega
  · rw [hk.1 w.heap.size (Array.getElem?_eq_some_iff.1 h.box).1 (by omega) (fun c => row_kind hr.2.2.2.1 h.box (by decide) c)]
    exact h.box

set_option maxRecDepth 20000 in
set_option maxHeartbeats 2000000 in
theorem doAll_i (B dv n2 c2 : Nat) (p2 : Option Addr) (vl0 vo0 vL : Value) (l0 : List FileT) (ops0 list : List DOpT) (w : World) (h : DrvRow B dv vl0 (.slice p2 n2 c2) vo0 l0 ops0 w) (hf : filesB l0 = true) (ho : ops0.length ≤ 200) (hBw : B ≤ w.heap.size) (hA : OpsAt 0 vL list w) (hlen : list.length ≤ 200) (hL : vL.ownBlock = none ∨ vL.ownBlock ≠ vo0.ownBlock)
    (hx : ∀ a ∈ list, a.2.1.size ≤ 1048580 ∧ a.2.2.1.size ≤ 1048580 ∧ a.2.2.2.size ≤ 1048576) :
    Calls Try.prog 71 #[.pointer (some ⟨dv, 0, none⟩), vL] w fun e w' => e = .returned (.int .i64 (allC l0 ops0 list)) ∧ (allC l0 ops0 list = 0 → DrvAt B dv (.slice p2 n2 c2) (allL l0 list) (ops0 ++ list) w') ∧ (allC l0 ops0 list ≠ 0 → DrvAt B dv (.slice p2 n2 c2) l0 ops0 w') ∧ Below B w w' := by
  have hdlt : dv < w.heap.size := (Array.getElem?_eq_some_iff.1 h.1).1
  have hB1 : Below w.heap.size w (w.alloc (.cells #[vl0, .slice p2 n2 c2, vo0] 79)) := (Below.refl _ _).alloc (Nat.le_refl _) _
  have HJ0 : AllJ B dv vl0 (.slice p2 n2 c2) vo0 vL l0 ops0 list 0 w (w.alloc (.cells #[vl0, .slice p2 n2 c2, vo0] 79)) :=
    ⟨⟨vl0, vo0, by simpa [allL] using h.below hB1, fun q hq => .inl hq⟩, h.2.2.1.below hB1, h.2.2.2.1.below hB1, hA.below hB1, heap_alloc_new w _, hB1.mono hBw⟩
  have HJ := Lib.hid HJ0
  have HR := Lib.hid h
  have HLW := Lib.hid (fun g (hg : vL.ownBlock = some g) => (World.ownsRow.lt hA g hg).2)
  obtain ⟨pl, capl, rfl, _⟩ := h.2.2.1.open
  obtain ⟨po, capo, rfl, _⟩ := h.2.2.2.1.open
  obtain ⟨pL, capL, rfl, _, _, hpL⟩ := hA.open
  have hLI : (list.length : Int) ≤ 200 := by omega
  obtain ⟨⟨b0, b1, b2⟩, _⟩ := dk_cells h.1
  clear HJ0 hB1 h hA
  go_enter Try.func71, Try.ntmps71
  go_wp2
  clear b0 b1 b2
  have HO := Lib.hid (show ∀ (j : Nat) (hj : j < list.length) (vl vo : Value) (W : World), filesB (allL l0 (list.take j)) = true → (ops0 ++ list.take j).length ≤ 200 → DrvRow B dv vl (.slice p2 n2 c2) vo (allL l0 (list.take j)) (ops0 ++ list.take j) W → B ≤ W.heap.size → Calls Try.prog 65 #[.pointer (some ⟨dv, 0, none⟩), .agg #[.int .i64 list[j].1, .string list[j].2.1, .string list[j].2.2.1, .string list[j].2.2.2]] W fun e w' => ∃ C : Int, doC (allL l0 (list.take j)) (ops0 ++ list.take j) list[j] = C ∧ e = .returned (.int .i64 C) ∧ (C = 0 → (∃ vl' vo', DrvRow B dv vl' (.slice p2 n2 c2) vo' (aftL (allL l0 (list.take j)) list[j]) (ops0 ++ list.take j ++ [list[j]]) w' ∧ ∀ q, vo'.ownBlock = some q → vo.ownBlock = some q ∨ W.heap.size ≤ q) ∧ Below B W w' ∧ Kd dv vo (ops0 ++ list.take j).length W w') ∧ (C ≠ 0 → Below W.heap.size W w') from fun j hj vl vo W hf h200 hr hB => by
    have hxx := hx list[j] (List.getElem_mem hj)
    by_cases c : doC (allL l0 (list.take j)) (ops0 ++ list.take j) list[j] = 0
    · refine (do_goodk B dv vl _ vo _ _ list[j].1 list[j].2.1 list[j].2.2.1 list[j].2.2.2 W hr hf (by omega) hxx.1 hxx.2.1 hxx.2.2 c hB).mono ?_
      rintro e w' ⟨rfl, h1, h2, h3⟩
      exact ⟨0, c, rfl, fun _ => ⟨h1, h2, h3⟩, fun c => absurd rfl c⟩
    · refine (do_bad B dv _ _ _ list[j].1 list[j].2.1 list[j].2.2.1 list[j].2.2.2 W ⟨vl, vo, hr⟩ hf (by omega) hxx.1 hxx.2.1 hxx.2.2 c).mono ?_
      rintro e w' ⟨rfl, h1⟩
      exact ⟨_, rfl, rfl, fun e => absurd e c, fun _ => h1⟩)
  have HI := Lib.hid (And.intro hf (And.intro ho (And.intro hlen (And.intro hL hx))))
  have HD := Lib.hid (And.intro hBw hdlt)
  clear hf ho hlen hL hx hBw hdlt HR
  go_loopw [14] (fun i wr => ∃ (j : Nat), j ≤ list.length ∧ i = .int .i64 j ∧ filesB (allL l0 (list.take j)) = true ∧ allC l0 ops0 list = allC (allL l0 (list.take j)) (ops0 ++ list.take j) (list.drop j) ∧ (ops0 ++ list.take j).length ≤ 200 ∧ AllJ B dv (.slice pl l0.length capl) (.slice p2 n2 c2) (.slice po ops0.length capo) (.slice pL list.length capL) l0 ops0 list j w wr) (fun i _ => list.length - (RowKit.intOf i).toNat)
  case atStart => exact ⟨0, Nat.zero_le _, rfl, HI.out.1, by simp [allL], by simpa using HI.out.2.1, HJ.out⟩
  case round =>
    obtain ⟨j, hj, rfl, hfl, hC, h200, hJ⟩ := hrel
    have HJ := Lib.hid hJ
    have HC := Lib.hid hC
    have HF := Lib.hid (And.intro hfl h200)
    clear hJ hC hfl h200
    by_cases hlt : j < list.length
    · have hne : list ≠ [] := by intro c; rw [c] at hlt; simp at hlt
      obtain ⟨g, rfl, _, hg⟩ := hpL.resolve_left (fun c => hne c.1)
      have j0 : (0 : Int) ≤ (j : Int) := by omega
      have j1 : (j : Int) < (list.length : Int) := by omega
      have hA := HJ.out.arg
      obtain ⟨x, hx⟩ : ∃ x, list[j] = x := ⟨_, rfl⟩
      have c0 : wr.cell? ⟨g, j * 4, none⟩ = some (.int .i64 x.1) := hA.at dOpC_len hlt hx 0 (by omega) rfl
      have c1 : wr.cell? ⟨g, j * 4 + 1, none⟩ = some (.string x.2.1) := hA.at dOpC_len hlt hx 1 (by omega) rfl
      have c2 : wr.cell? ⟨g, j * 4 + 2, none⟩ = some (.string x.2.2.1) := hA.at dOpC_len hlt hx 2 (by omega) rfl
      have c3 : wr.cell? ⟨g, j * 4 + 3, none⟩ = some (.string x.2.2.2) := hA.at dOpC_len hlt hx 3 (by omega) rfl
      have b0 : Below wr.heap.size wr (wr.alloc (.cells #[.int .i64 x.1, .string x.2.1, .string x.2.2.1, .string x.2.2.2] 36)) := (Below.refl _ _).alloc (Nat.le_refl _) _
      have HJB := Lib.hid (HJ.out.below b0 HD.out.1)
      obtain ⟨vl, vo, hr, hvo⟩ := HJB.out.row
      have CD := Lib.hid (HO.out j hlt vl vo _ HF.out.1 HF.out.2 hr (by have := HJ.out.bel.size; have := HD.out.1; simp; omega))
      have HROW := Lib.hid (And.intro hr hvo)
      have HLT := Lib.hid hlt
      have HXX := Lib.hid hx
      rw [hx] at CD
      clear hA hne hpL hg b0 hx hr hvo
      go_wp2_with fail
      refine CD.out.mono ?_
      rintro e w5 ⟨C, hdo, rfl, hgo, hbad⟩
      have HDO := Lib.hid hdo
      have HGO := Lib.hid hgo
      have HBAD := Lib.hid hbad
      clear hdo hgo hbad c0 c1 c2 c3
      by_cases hz : C = 0
      · subst hz
        obtain ⟨h1, h2, h3⟩ := HGO.out rfl
        have hN := HJB.out.next HD.out.1 HD.out.2 HI.out.2.2.2.1 HLW.out HLT.out HROW.out.1 HROW.out.2 (by rw [HXX.out]; exact h1) h2 h3
        have hdz : doC (allL l0 (list.take j)) (ops0 ++ list.take j) (list[j]'(HLT.out)) = 0 := by rw [HXX.out]; exact HDO.out
        have HN := Lib.hid (And.intro hN hdz)
        clear h1 h2 h3 hN hdz
        go_wp2
        go_roundw
        case rel =>
          refine ⟨j + 1, by omega, by go_num, ?_, ?_, ?_, HN.out.1⟩
          · rw [allL_go l0 HLT.out]; exact (doC_ok HN.out.2).1
          · rw [HC.out, allC_go HLT.out HN.out.2, allL_go l0 HLT.out, List.take_succ_eq_append_getElem HLT.out, ← List.append_assoc]
          · rw [List.take_succ_eq_append_getElem HLT.out, ← List.append_assoc, List.length_append]; have := (doC_ok HN.out.2).2; simp only [List.length_singleton]; omega
        case measure => simp [RowKit.intOf]; omega
      · have hz' : (C != 0) = true := by simpa using hz
        have HJ5 := Lib.hid (HJB.out.below (HBAD.out hz) HD.out.1)
        have hnz : doC (allL l0 (list.take j)) (ops0 ++ list.take j) (list[j]'(HLT.out)) ≠ 0 := by rw [HXX.out, HDO.out]; exact hz
        have HCC : Hid (allC l0 ops0 list = C) := by show _ = _; rw [HC.out, allC_bad HLT.out hnz, HXX.out]; exact HDO.out
        clear hnz
        obtain ⟨vl5, vo5, hr5, hvo5⟩ := HJ5.out.row
        obtain ⟨⟨a0, a1, a2⟩, af⟩ := dk_cells hr5.1
        have f0 := af 0
        have f1 := af 1
        have f2 := af 2
        obtain ⟨⟨b0, b1, b2⟩, _⟩ := dk_cells HJ5.out.box
        have HR5 := Lib.hid hr5
        have HNZ := Lib.hid hz
        clear hr5 hvo5 af hz
        go_wp2
        go_ret
        have gz := grw_set3 w5 dv (.slice pl l0.length capl) (.slice p2 n2 c2) (.slice po ops0.length capo)
        have hB5 := HJ5.out.bel
        refine ⟨by rw [HCC.out]; rfl, fun c => absurd (HCC.out.symm.trans c) HNZ.out, fun _ => ⟨_, _, set3 HR5.out.1 _ _ _, HR5.out.2.1, RowL.kept HJ5.out.files gz (rowK HJ5.out.files HR5.out.1 (by decide)), RowL.kept HJ5.out.ops gz (rowK HJ5.out.ops HR5.out.1 (by decide)), row_kind HJ5.out.files HR5.out.1 (by decide), row_kind HJ5.out.ops HR5.out.1 (by decide), row_types HJ5.out.files HJ5.out.ops (by decide)⟩, ?_⟩
        exact below_grw hB5 gz (by have := hB5.size; have := HD.out.1; omega) (fun q hq => by cases hq; exact HR5.out.2.1)
    · obtain rfl : j = list.length := by omega
      have HJ' := HJ.out
      have hC := HC.out
      obtain ⟨vl, vo, hr, _⟩ := HJ'.row
      rw [List.take_length] at hr hC
      rw [List.drop_length] at hC
      have HR5 := Lib.hid hr
      have HCC : Hid (allC l0 ops0 list = 0) := hC
      clear HJ' hC hr hlt
      go_wp2
      go_ret
      exact ⟨by rw [HCC.out]; rfl, fun _ => ⟨vl, vo, HR5.out⟩, fun c => absurd HCC.out c, HJ.out.bel⟩

end Go.Proofs.Ytepefbfmjjnamaa

/- The program: Replace. -/
namespace Go.Proofs.Ytepefbfmjjnamaa
open Go.RowKit Go.My Go.Lib
set_option linter.unusedVariables false

theorem all_ok {l : List FileT} {ops list : List DOpT} (h : allC l ops list = 0) (hl : filesB l = true) (ho : ops.length ≤ 200) : filesB (allL l list) = true ∧ (ops ++ list).length ≤ 200 := by
  induction list generalizing l ops with
  | nil => exact ⟨hl, by simpa using ho⟩
  | cons op r ih =>
    have h : (if doC l ops op = 0 then allC (aftL l op) (ops ++ [op]) r else doC l ops op) = 0 := h
    by_cases c : doC l ops op = 0
    · rw [if_pos c] at h
      have hk := doC_ok c
      have := ih h hk.1 (by rw [List.length_append]; simp; omega)
      rw [List.append_assoc] at this
      exact this
    · rw [if_neg c] at h; exact absurd h c
def allD (d : DiskT) (list : List DOpT) : DiskT := if allC d.live d.ops list = 0 then ⟨allL d.live list, d.safe, d.ops ++ list⟩ else d
def repD (d : DiskT) (n x : ByteArray) : DiskT := if diskB d then allD d (repO d.live n x) else ⟨[], [], []⟩
def repR (d : DiskT) (n x : ByteArray) : Int := if diskB d then allC d.live d.ops (repO d.live n x) else 1
theorem repD_yes {d : DiskT} {n x : ByteArray} (h : diskB d = true) : repD d n x = allD d (repO d.live n x) := by unfold repD; rw [if_pos h]
theorem repD_no {d : DiskT} {n x : ByteArray} (h : diskB d = false) : repD d n x = ⟨[], [], []⟩ := by unfold repD; rw [if_neg (by rw [h]; decide)]
theorem repR_yes {d : DiskT} {n x : ByteArray} (h : diskB d = true) : repR d n x = allC d.live d.ops (repO d.live n x) := by unfold repR; rw [if_pos h]
theorem repR_no {d : DiskT} {n x : ByteArray} (h : diskB d = false) : repR d n x = 1 := by unfold repR; rw [if_neg (by rw [h]; decide)]
theorem allD_small {d : DiskT} {list : List DOpT} (hl : filesB d.live = true) (ho : d.ops.length ≤ 200) (hs : d.small) : (allD d list).small := by
  unfold allD
  by_cases c : allC d.live d.ops list = 0
  · rw [if_pos c]
    have := all_ok c hl ho
    exact ⟨by have := (filesB_of this.1).len; show (allL d.live list).length ≤ _; omega, hs.safe, by show (d.ops ++ list).length ≤ _; omega⟩
  · rw [if_neg c]; exact hs
theorem repD_small {d : DiskT} {n x : ByteArray} (hs : d.small) : (repD d n x).small := by
  cases c : diskB d with
  | false => rw [repD_no c]; exact ⟨by simp, by simp, by simp⟩
  | true => rw [repD_yes c]; exact allD_small (diskB_live c) (diskB_ops c) hs
theorem repO_len (l : List FileT) (n x : ByteArray) : (repO l n x).length ≤ 3 := by
  unfold repO writeO rmO
  split <;> simp
theorem repO_small {l : List FileT} {n x : ByteArray} (hn : n.size ≤ 1048576) (hx : x.size ≤ 1048576) : ∀ a ∈ repO l n x, a.2.1.size ≤ 1048580 ∧ a.2.2.1.size ≤ 1048580 ∧ a.2.2.2.size ≤ 1048576 := by
  have hs : (n ++ dotNew).size = n.size + 4 := by rw [ByteArray.size_append]; rfl
  have h0 : (ByteArray.mk #[]).size = 0 := rfl
  intro a ha
  unfold repO writeO rmO renO at ha
  simp only [List.mem_append, List.mem_singleton] at ha
  rcases ha with (ha | rfl) | rfl
  · split at ha
    · simp only [List.mem_singleton] at ha
      subst ha
      refine ⟨?_, ?_, ?_⟩ <;> dsimp only <;> omega
    · cases ha
  · refine ⟨?_, ?_, ?_⟩ <;> dsimp only <;> omega
  · refine ⟨?_, ?_, ?_⟩ <;> dsimp only <;> omega

set_option maxRecDepth 20000 in
set_option maxHeartbeats 4000000 in
theorem repD_in (v1 v2 v3 : Value) (d : DiskT) (n x : ByteArray) (w : World) (h : DiskIn v1 v2 v3 d w) (hd : d.fit) (hn : n.size ≤ 1048576) (hx : x.size ≤ 1048576) :
    Calls Try.prog 27 #[.agg #[v1, v2, v3], .string n, .string x] w fun e w' => ∃ u1 u2 u3, e = .returned (.tuple #[.agg #[u1, u2, u3], .int .i64 (repR d n x)]) ∧ DiskAt w.heap.size u1 u2 u3 (repD d n x) w' ∧ ApartV u1 u2 ∧ Below w.heap.size w w' := by
  have C := Lib.hid (fun W (hW : Below w.heap.size w W) => driveOf_in v1 v2 v3 d W (h.below hW) hd)
  have HL := Lib.hid hd.small
  have HSM := Lib.hid (repD_small (n := n) (x := x) hd.small)
  have HSF := Lib.hid h.safe
  have HN := Lib.hid (And.intro hn hx)
  obtain ⟨i0, hi, hz0, hz1, hz2⟩ := info_parts info_DOp
  have hs : ¬ maxLen < n.size + dotNew.size := by rw [dotNew_size]; unfold maxLen; omega
  obtain ⟨p1, m1, rfl, _, _, _⟩ := h.live.open
  obtain ⟨p2, m2, rfl, _, _, _⟩ := h.safe.open
  obtain ⟨p3, m3, rfl, _, _, _⟩ := h.ops.open
  clear h hd hn hx
  go_enter Try.func27, Try.ntmps27
  go_wp2_with fail
  refine (C.out _ ?_).mono ?_
  · exact ((Below.refl _ _).alloc (Nat.le_refl _) _).alloc (by simp) _
  rintro e w2 ⟨a, b, c, rfl, ⟨pa, na, ca, rfl⟩, ⟨pb, nb, cb, rfl⟩, ⟨pc, nc, cc, rfl⟩, hb2, hf⟩
  obtain ⟨hB2, xA, xR⟩ := boxes2 w _ _ _ hb2
  have HB2 := Lib.hid hB2
  have hlt2 : w.heap.size + 1 < w2.heap.size := (Array.getElem?_eq_some_iff.1 xR).1
  have hb3 : Below w2.heap.size w2 (w2.alloc (.cells #[.slice pa na ca, .slice pb nb cb, .slice pc nc cc] 79)) := (Below.refl _ _).alloc (Nat.le_refl _) _
  have hs3 : (w2.alloc (.cells #[.slice pa na ca, .slice pb nb cb, .slice pc nc cc] 79)).heap.size = w2.heap.size + 1 := by simp
  have yR := (hb3.block _ hlt2).trans xR
  have HB3 := Lib.hid hb3
  have HYR := Lib.hid (And.intro yR hs3)
  have HXR := Lib.hid xR
  clear hb2 C hB2 hb3 hs3 xR xA
  cases hk : diskB d with
  | false =>
    have HV := Lib.hid (repD_no (n := n) (x := x) hk)
    have HR := Lib.hid (repR_no (n := n) (x := x) hk)
    clear hk hf
    obtain ⟨⟨r0, r1, r2⟩, rf⟩ := dk_cells HXR.out
    have rf0 := rf 0
    have rf1 := rf 1
    have rf2 := rf 2
    clear yR rf
    go_wp2
    have gz := grw_set3 w2 (w.heap.size + 1) (.slice none 0 0) (.slice none 0 0) (.slice none 0 0)
    have hBz := below_grw HB2.out gz HB2.out.size (fun q hq => by cases hq; omega)
    have hAl := (Below.refl _ ((((w2.setCell ⟨w.heap.size + 1, 0, none⟩ (.slice none 0 0)).setCell ⟨w.heap.size + 1, 1, none⟩ (.slice none 0 0)).setCell ⟨w.heap.size + 1, 2, none⟩ (.slice none 0 0)))).alloc (Nat.le_refl _) (.cells #[.slice pa na ca, .slice pb nb cb, .slice pc nc cc] 79)
    have hfin := (hAl.block (w.heap.size + 1) (Nat.lt_of_lt_of_le hlt2 gz.size)).trans (set3 HXR.out (.slice none 0 0) (.slice none 0 0) (.slice none 0 0))
    refine bodyPost_ret (v := .tuple #[.agg #[.slice none 0 0, .slice none 0 0, .slice none 0 0], .int .i64 1]) (results_row_u Try.results27 _ _ (w.heap.size + 1) 27 _ (0, 0) _ rfl hfin Try.underlying27 rfl (by kernel_rfl)) rfl ⟨_, _, _, by rw [HR.out], by rw [HV.out]; exact nilDisk _ _, .inl rfl, hBz.trans (hAl.mono hBz.size)⟩
  | true =>
    have HV := Lib.hid (repD_yes (n := n) (x := x) hk)
    have HR := Lib.hid (repR_yes (n := n) (x := x) hk)
    have HLV := Lib.hid (And.intro (diskB_live hk) (diskB_ops hk))
    obtain ⟨f1, f2, f3, hb⟩ := hf hk
    injection hb with hb1 hb2 hb3
    subst hb1 hb2 hb3
    have hs0 : ((w.alloc (.cells #[.slice p1 d.live.length m1, .slice pb d.safe.length cb, .slice p3 d.ops.length m3] 27)).alloc (.cells #[.slice none 0 0, .slice none 0 0, .slice none 0 0] 27)).heap.size = w.heap.size + 1 + 1 := by simp
    rw [hs0] at f3
    have hlt3 : w.heap.size + 1 + 1 ≤ w2.heap.size := hlt2
    have F1 := f1.below HB3.out
    have F3 := f3.below HB3.out
    have xD := heap_alloc_new w2 (.cells #[.slice pa na ca, .slice pb d.safe.length cb, .slice pc nc cc] 79)
    have hdr : DrvRow (w.heap.size + 1 + 1) w2.heap.size (.slice pa na ca) (.slice pb d.safe.length cb) (.slice pc nc cc) d.live d.ops (w2.alloc (.cells #[.slice pa na ca, .slice pb d.safe.length cb, .slice pc nc cc] 79)) :=
      ⟨xD, hlt3, F1, F3, row_kind F1 xD (by decide), row_kind F3 xD (by decide), row_types F1 F3 (by decide)⟩
    have CW := Lib.hid (writing_i (.slice pa na ca) d.live (n ++ dotNew) x _ F1 HL.out.live (sorted_of HLV.out.1))
    have HDR := Lib.hid hdr
    have HSZ := Lib.hid (And.intro HYR.out.2 hlt3)
    obtain ⟨⟨d0, d1, d2⟩, _⟩ := dk_cells xD
    rw [HV.out] at HSM
    have HUP : Hid (allD d (repO d.live n x) = (if allC d.live d.ops (repO d.live n x) = 0 then ⟨allL d.live (repO d.live n x), d.safe, d.ops ++ repO d.live n x⟩ else d) ∧ repO d.live n x = writeO d.live (n ++ dotNew) x ++ [renO n]) := ⟨rfl, rfl⟩
    clear hf hk f1 f2 f3 F1 F3 xD hdr hs0 yR hlt3
    go_upto_region 4 with (fail)
    generalize w2.alloc (.cells #[.slice pa na ca, .slice pb d.safe.length cb, .slice pc nc cc] 79) = W3 at CW HDR HSZ HYR HB3 d0 d1 d2 ⊢
    go_wp2_with fail
    refine CW.out.mono ?_
    rintro e w4 ⟨u, rfl, hu, hb4⟩
    obtain ⟨pu, cu, rfl, _⟩ := hu.open
    have CR := Lib.hid (renaming_i n w4 HN.out.1)
    have HU := Lib.hid hu
    have HB4 := Lib.hid hb4
    clear hu hb4 CW d0 d1 d2
    go_wp2_with fail
    refine CR.out.mono ?_
    rintro e w5 ⟨rfl, hb5⟩
    have hR5 : w5.ownsRow W3.heap.size 36 4 (.slice pu (writeO d.live (n ++ dotNew) x).length cu) (writeO d.live (n ++ dotNew) x).length ((writeO d.live (n ++ dotNew) x).flatMap dOpC) := HU.out.below hb5
    have hB5 := HB4.out.trans (hb5.mono HB4.out.size)
    have hB5s := hB5.size
    have HB5 := Lib.hid hB5
    have hwl : (writeO d.live (n ++ dotNew) x).length ≤ 3 := by have := repO_len d.live n x; unfold repO at this; rw [List.length_append] at this; omega
    generalize hWO : writeO d.live (n ++ dotNew) x = WO at hR5 HUP hwl
    go_wp2_with (at_builtin; refine wpList_append_lies _ rfl _ _ 25 rfl W3.heap.size 36 i0 (.agg #[.int .i64 0, .string ByteArray.empty, .string ByteArray.empty, .string ByteArray.empty]) 4 56 Try.underlying25 hi hz0 hz1 hz2 rfl (by decide) (.slice pu WO.length cu) WO.length _ rfl (hR5.alloc _) ⟨w5.heap.size, 0, none⟩ 1 1 [_, _, _, _] rfl rfl (World.news_of_block (cs := #[_, _, _, _]) (t := 36) (fr := (0, 0)) (heap_alloc_new w5 _)) (by simp [Value.oneCell']) (by omega) (by unfold maxLen; omega) (by omega) (by simp; omega) (w5.heap.size + 1) (by simp) ?_; intro g6 cap6 w6 hown6 hgrow6 hat hlt6)
    have R := row_push (b := renO n) hR5 HB5.out hB5s rfl rfl hown6 hgrow6
    have hA6 : OpsAt W3.heap.size (.slice (some ⟨g6, 0, none⟩) (WO.length + 1) cap6) (repO d.live n x) w6 := by rw [HUP.out.2]; exact R.1
    have hvo := HDR.out.2.2.2.1
    have CD := Lib.hid (doAll_i (w.heap.size + 1 + 1) w2.heap.size d.safe.length cb pb (.slice pa na ca) (.slice pc nc cc) (.slice (some ⟨g6, 0, none⟩) (WO.length + 1) cap6) d.live d.ops (repO d.live n x) w6 (HDR.out.below R.2) HLV.out.1 HLV.out.2 (by have := R.2.size; have := HSZ.out; omega) (hA6.mono (Nat.zero_le _)) (by have := repO_len d.live n x; omega) (ApartV.symm (row_apart hvo hA6 (Nat.le_refl _))) (repO_small HN.out.1 HN.out.2))
    have HB6 := Lib.hid R.2
    clear R hA6 hvo hown6 hgrow6 hat hR5 hB5 hB5s CR
    generalize repO d.live n x = RO at CD HUP HV HR HSM
    generalize allC d.live d.ops RO = CC at CD HUP HR
    go_wp2_with fail
    refine CD.out.mono ?_
    rintro e w7 ⟨rfl, hok, hno, hb7⟩
    obtain ⟨L, hL⟩ : ∃ L, (allD d RO).live = L := ⟨_, rfl⟩
    obtain ⟨O, hO⟩ : ∃ O, (allD d RO).ops = O := ⟨_, rfl⟩
    have hSF : (allD d RO).safe = d.safe := by rw [HUP.out.1]; split <;> rfl
    have hAD : allD d RO = ⟨L, d.safe, O⟩ := by rw [← hL, ← hO, ← hSF]
    have hD3 : DrvAt (w.heap.size + 1 + 1) w2.heap.size (.slice pb d.safe.length cb) L O w7 := by
      rw [← hL, ← hO, HUP.out.1]
      by_cases c : CC = 0
      · rw [if_pos c]; exact hok c
      · rw [if_neg c]; exact hno c
    rw [hAD] at HSM HV
    have hB7 : Below w.heap.size w w7 := ((HB2.out.trans (HB3.out.mono HB2.out.size)).trans (HB6.out.mono (by have := HSZ.out; omega))).trans (hb7.mono (by omega))
    have zR := (hb7.block (w.heap.size + 1) (by omega)).trans ((HB6.out.block (w.heap.size + 1) (by have := HSZ.out; omega)).trans HYR.out.1)
    obtain ⟨vl, vo, hg3, _, F1, F3, _, _, _⟩ := hD3
    have C2 := Lib.hid (diskOf_i w2.heap.size _ _ _ ⟨L, d.safe, O⟩ w7 hg3 ⟨F1, HSF.out.below hB7, F3.mono (Nat.zero_le _)⟩ HSM.out)
    have HB3' := Lib.hid hB7
    have HZ := Lib.hid zR
    clear F1 F3 hok hno hb7 hg3 hB7 zR CD hL hO hSF hAD HUP
    go_wp2_with fail
    refine C2.out.mono ?_
    rintro e w8 ⟨u1, u2, u3, rfl, hD, ap, hb8⟩
    obtain ⟨q1, n1, rfl, _⟩ := hD.live.open
    obtain ⟨q2, n2, rfl, _⟩ := hD.safe.open
    obtain ⟨q3, n3, rfl, _⟩ := hD.ops.open
    have yR := (hb8.block (w.heap.size + 1) (Array.getElem?_eq_some_iff.1 HZ.out).1).trans HZ.out
    have hB4 := HB3'.out.trans (hb8.mono HB3'.out.size)
    have HD := Lib.hid (hD.mono HB3'.out.size)
    have HY := Lib.hid yR
    have HB8 := Lib.hid hB4
    have HA := Lib.hid ap
    obtain ⟨⟨r0, r1, r2⟩, rf⟩ := dk_cells yR
    have rf0 := rf 0
    have rf1 := rf 1
    have rf2 := rf 2
    clear hD ap hb8 hB4 yR rf
    go_wp2
    refine bodyPost_ret (v := .tuple #[.agg #[.slice q1 L.length n1, .slice q2 d.safe.length n2, .slice q3 O.length n3], .int .i64 CC]) (results_row_u Try.results27 _ _ (w.heap.size + 1) 27 _ (0, 0) _ rfl (set3 HY.out _ _ _) Try.underlying27 rfl (by kernel_rfl)) rfl ⟨_, _, _, by rw [HR.out], by rw [HV.out]; exact ⟨RowL.kept HD.out.live (grw_set3 _ _ _ _ _) (rowK HD.out.live HY.out (by decide)), RowL.kept HD.out.safe (grw_set3 _ _ _ _ _) (rowK HD.out.safe HY.out (by decide)), RowL.kept HD.out.ops (grw_set3 _ _ _ _ _) (rowK HD.out.ops HY.out (by decide))⟩, HA.out, below_grw HB8.out (grw_set3 _ _ _ _ _) HB8.out.size (fun q hq => by cases hq; omega)⟩
theorem repD_i (v1 v2 v3 : Value) (d : DiskT) (n x : ByteArray) (w : World) (h : DiskAt 0 v1 v2 v3 d w) (hd : d.fit) (hn : n.size ≤ 1048576) (hx : x.size ≤ 1048576) :
    Calls Try.prog 27 #[.agg #[v1, v2, v3], .string n, .string x] w fun e w' => ∃ u1 u2 u3, e = .returned (.tuple #[.agg #[u1, u2, u3], .int .i64 (repR d n x)]) ∧ DiskAt w.heap.size u1 u2 u3 (repD d n x) w' ∧ ApartV u1 u2 ∧ Below w.heap.size w w' :=
  repD_in v1 v2 v3 d n x w h.toIn hd hn hx

end Go.Proofs.Ytepefbfmjjnamaa

/- What a loss of power leaves: pure. -/
namespace Go.Proofs.Ytepefbfmjjnamaa
open Go.RowKit Go.My Go.Lib
set_option linter.unusedVariables false

/-- The indexes go up, and each is that of an operation. -/
def idxB (last : Int) : List Int → Nat → Bool
  | [], _ => true
  | i :: r, n => decide (last < i) && decide (i < (n : Int)) && idxB i r n
def lastAt (keep : List Int) : Nat → Int
  | 0 => -1
  | j + 1 => keep.getD j 0
theorem idx_from (keep : List Int) (n : Nat) : ∀ (k j : Nat), j + k = keep.length → (idxB (lastAt keep j) (keep.drop j) n = true ↔ ∀ i, j ≤ i → i < keep.length → lastAt keep i < keep.getD i 0 ∧ keep.getD i 0 < (n : Int)) := by
  intro k
  induction k with
  | zero =>
    intro j hj
    rw [List.drop_eq_nil_of_le (by omega)]
    exact ⟨fun _ i h1 h2 => by omega, fun _ => rfl⟩
  | succ k ih =>
    intro j hj
    have hlt : j < keep.length := by omega
    rw [List.drop_eq_getElem_cons hlt]
    have hg : keep.getD j 0 = keep[j] := by rw [List.getD_eq_getElem?_getD, List.getElem?_eq_getElem hlt]; rfl
    have hih := ih (j + 1) (by omega)
    have hl : lastAt keep (j + 1) = keep[j] := hg
    rw [hl] at hih
    unfold idxB
    rw [Bool.and_eq_true, Bool.and_eq_true, hih, decide_eq_true_iff, decide_eq_true_iff]
    constructor
    · rintro ⟨⟨h1, h2⟩, h3⟩ i hi hi2
      by_cases c : i = j
      · subst c; rw [hg]; exact ⟨h1, h2⟩
      · exact h3 i (by omega) hi2
    · intro h
      have h0 := h j (Nat.le_refl _) hlt
      rw [hg] at h0
      exact ⟨h0, fun i hi hi2 => h i (by omega) hi2⟩
theorem idx_all (keep : List Int) (n : Nat) : idxB (-1) keep n = true ↔ ∀ i, i < keep.length → lastAt keep i < keep.getD i 0 ∧ keep.getD i 0 < (n : Int) := by
  have := idx_from keep n keep.length 0 (by omega)
  rw [List.drop_zero] at this
  exact this.trans ⟨fun h i hi => h i (Nat.zero_le _) hi, fun h i _ hi => h i hi⟩
theorem idx_bad {keep : List Int} {n j : Nat} (hj : j < keep.length) (h : ¬ (lastAt keep j < keep.getD j 0 ∧ keep.getD j 0 < (n : Int))) : idxB (-1) keep n = false := by
  cases c : idxB (-1) keep n with
  | false => rfl
  | true => exact absurd ((idx_all keep n).1 c j hj) h
theorem last_ge {keep : List Int} {n : Nat} : ∀ j, (∀ i, i < j → lastAt keep i < keep.getD i 0 ∧ keep.getD i 0 < (n : Int)) → -1 ≤ lastAt keep j
  | 0, _ => Int.le_refl _
  | j + 1, h => by
    have := last_ge j (fun i hi => h i (by omega))
    have := (h j (by omega)).1
    show -1 ≤ keep.getD j 0
    omega
theorem keep_nat {keep : List Int} {n : Nat} (h : idxB (-1) keep n = true) {j : Nat} (hj : j < keep.length) : ∃ q : Nat, keep.getD j 0 = (q : Int) ∧ q < n := by
  have hh := (idx_all keep n).1 h
  have h1 := last_ge (n := n) j (fun i hi => hh i (by omega))
  have h2 := hh j hj
  exact ⟨(keep.getD j 0).toNat, by omega, by omega⟩
theorem keep_ge {keep : List Int} {n : Nat} (h : idxB (-1) keep n = true) : ∀ j, j < keep.length → (j : Int) ≤ keep.getD j 0
  | 0, hj => by
    have := ((idx_all keep n).1 h 0 hj).1
    have e : lastAt keep 0 = -1 := rfl
    omega
  | j + 1, hj => by
    have h1 := keep_ge h j (by omega)
    have h2 := ((idx_all keep n).1 h (j + 1) hj).1
    have e : lastAt keep (j + 1) = keep.getD j 0 := rfl
    omega
theorem keep_len {keep : List Int} {n : Nat} (h : idxB (-1) keep n = true) : keep.length ≤ n := by
  by_cases c : keep.length = 0
  · omega
  · have h1 := keep_ge h (keep.length - 1) (by omega)
    have h2 := ((idx_all keep n).1 h (keep.length - 1) (by omega)).2
    omega
/-- An operation whose data is torn. -/
def tearO (torn : Nat) (op : DOpT) : DOpT := (op.1, op.2.1, op.2.2.1, op.2.2.2.extract 0 (min torn op.2.2.2.size))
def keptO (ops : List DOpT) (keep : List Int) (torn j : Nat) : DOpT :=
  if j + 1 = keep.length then tearO torn (ops.getD (keep.getD j 0).toNat dOpZ) else ops.getD (keep.getD j 0).toNat dOpZ
def crF (l : List FileT) (op : DOpT) : List FileT := if findB l op then aftL l op else l
def crL (d : DiskT) (keep : List Int) (torn : Nat) : Nat → List FileT
  | 0 => d.safe
  | j + 1 => crF (crL d keep torn j) (keptO d.ops keep torn j)
def crB (d : DiskT) (keep : List Int) (torn : Int) : Bool := diskB d && decide (0 ≤ torn) && idxB (-1) keep d.ops.length && filesB (crL d keep torn.toNat keep.length)
def crD (d : DiskT) (keep : List Int) (torn : Int) : DiskT := if crB d keep torn then ⟨crL d keep torn.toNat keep.length, crL d keep torn.toNat keep.length, []⟩ else ⟨[], [], []⟩
theorem crD_no {d : DiskT} {keep : List Int} {torn : Int} (h : crB d keep torn = false) : crD d keep torn = ⟨[], [], []⟩ := by unfold crD; rw [if_neg (by rw [h]; decide)]
theorem crD_yes {d : DiskT} {keep : List Int} {torn : Int} (h : crB d keep torn = true) : crD d keep torn = ⟨crL d keep torn.toNat keep.length, crL d keep torn.toNat keep.length, []⟩ := by unfold crD; rw [if_pos h]
theorem opDo_crF {l l' : List FileT} {op : DOpT} {b : Bool} (h : opDo l op = if b then some l' else none) (hl : b = false → l' = l) : l' = crF l op := by
  rw [opDo_aft] at h
  unfold crF
  cases c : findB l op with
  | true =>
    rw [c, if_pos rfl] at h
    cases b with
    | true => rw [if_pos rfl]; exact (Option.some.inj h).symm
    | false => cases h
  | false =>
    rw [c, if_neg (by decide)] at h
    cases b with
    | true => cases h
    | false => rw [if_neg (by decide)]; exact hl rfl

/-- Sizes along the way. -/
theorem cut_data (l : List FileT) (n : ByteArray) : dataSum (cutL l n) + (dataOf l n).size ≤ dataSum l := by
  induction l with
  | nil => show 0 + (ByteArray.mk #[]).size ≤ 0; decide
  | cons a l ih =>
    by_cases c : a.1 = n
    · have h1 : cutL (a :: l) n = cutL l n := by unfold cutL; rw [List.filter_cons_of_neg (by simpa using c)]
      have h2 : dataOf (a :: l) n = a.2 := by unfold dataOf idxL; rw [List.findIdx?_cons, decide_eq_true c]; rfl
      rw [h1, h2, dataSum_cons]
      have := cut_sum l n
      omega
    · have h1 : cutL (a :: l) n = a :: cutL l n := by unfold cutL; rw [List.filter_cons_of_pos (by simpa using c)]
      have h2 : dataOf (a :: l) n = dataOf l n := by
        unfold dataOf idxL
        rw [List.findIdx?_cons, decide_eq_false c]
        cases List.findIdx? (fun f : FileT => decide (f.1 = n)) l <;> rfl
      rw [h1, h2, dataSum_cons, dataSum_cons]
      omega
theorem put_data (n x : ByteArray) : ∀ (l : List FileT) (done : Bool), dataSum (putGo n x done l) + (dataOf l n).size ≤ dataSum l + (if done then 0 else x.size)
  | [], done => by
    cases done with
    | true => show 0 + (ByteArray.mk #[]).size ≤ 0 + 0; decide
    | false => show (x.size + 0) + (ByteArray.mk #[]).size ≤ 0 + x.size; have : (ByteArray.mk #[]).size = 0 := rfl; omega
  | a :: l, done => by
    have h2 : (dataOf (a :: l) n).size ≤ (if a.1 = n then a.2.size else (dataOf l n).size) := by
      by_cases c : a.1 = n
      · have : dataOf (a :: l) n = a.2 := by unfold dataOf idxL; rw [List.findIdx?_cons, decide_eq_true c]; rfl
        rw [this, if_pos c]; exact Nat.le_refl _
      · have : dataOf (a :: l) n = dataOf l n := by
          unfold dataOf idxL
          rw [List.findIdx?_cons, decide_eq_false c]
          cases List.findIdx? (fun f : FileT => decide (f.1 = n)) l <;> rfl
        rw [this, if_neg c]; exact Nat.le_refl _
    have ih := put_data n x l (done || !blt a.1 n)
    show dataSum ((if !done && !blt a.1 n then [(n, x)] else []) ++ ((if a.1 = n then [] else [a]) ++ putGo n x (done || !blt a.1 n) l)) + _ ≤ _
    rw [dataSum_app, dataSum_app, dataSum_cons]
    have e1 : dataSum [(n, x)] = x.size := by rw [dataSum_cons]; rfl
    have e2 : dataSum [a] = a.2.size := by rw [dataSum_cons]; rfl
    have e0 : dataSum ([] : List FileT) = 0 := rfl
    by_cases c : a.1 = n
    · rw [if_pos c] at h2 ⊢
      cases done <;> cases hb : blt a.1 n <;> simp [hb] at ih ⊢ <;> omega
    · rw [if_neg c] at h2 ⊢
      cases done <;> cases hb : blt a.1 n <;> simp [hb] at ih ⊢ <;> omega

theorem putGo_sorted (n x : ByteArray) : ∀ l : List FileT, l.Pairwise (fun a b => blt a.1 b.1 = true) → (putGo n x false l).Pairwise (fun a b => blt a.1 b.1 = true)
  | [], _ => by show [(n, x)].Pairwise _; exact List.pairwise_singleton _ _
  | f :: l, h => by
    obtain ⟨h1, h2⟩ := List.pairwise_cons.1 h
    cases hb : blt f.1 n with
    | true =>
      have hne : f.1 ≠ n := by intro e; rw [e, blt_irr] at hb; cases hb
      have e : putGo n x false (f :: l) = f :: putGo n x false l := by
        show (if !false && !blt f.1 n then [(n, x)] else []) ++ ((if f.1 = n then [] else [f]) ++ putGo n x (false || !blt f.1 n) l) = _
        rw [hb, if_neg hne]; rfl
      rw [e]
      refine List.pairwise_cons.2 ⟨fun a ha => ?_, putGo_sorted n x l h2⟩
      rcases putGo_mem n x l false a ha with rfl | ha
      · exact hb
      · exact h1 a ha
    | false =>
      have e : putGo n x false (f :: l) = (n, x) :: ((if f.1 = n then [] else [f]) ++ cutL l n) := by
        show (if !false && !blt f.1 n then [(n, x)] else []) ++ ((if f.1 = n then [] else [f]) ++ putGo n x (false || !blt f.1 n) l) = _
        rw [hb, ← put_done n x l]; rfl
      rw [e]
      by_cases c : f.1 = n
      · rw [if_pos c, List.nil_append]
        refine List.pairwise_cons.2 ⟨fun a ha => ?_, h2.filter _⟩
        rw [← c]
        exact h1 a (cut_mem ha)
      · rw [if_neg c]
        have hnf : blt n f.1 = true := by
          rcases blt_tri f.1 n with h | h | h
          · rw [hb] at h; cases h
          · exact absurd h c
          · exact h
        refine List.pairwise_cons.2 ⟨fun a ha => ?_, List.pairwise_cons.2 ⟨fun a ha => h1 a (cut_mem ha), h2.filter _⟩⟩
        rcases List.mem_cons.1 ha with rfl | ha
        · exact hnf
        · exact blt_trans hnf (h1 a (cut_mem ha))
theorem aft_sorted {l : List FileT} (op : DOpT) (h : Sorted l) : Sorted (aftL l op) := by
  unfold aftL
  split
  · exact sorted_pair.2 (putGo_sorted _ _ _ (sorted_pair.1 h))
  · split
    · exact sorted_pair.2 (putGo_sorted _ _ _ (sorted_pair.1 (cut_sorted _ h)))
    · exact cut_sorted _ h
theorem aft_len (l : List FileT) (op : DOpT) : (aftL l op).length ≤ l.length + 1 := by
  unfold aftL
  split
  · have := putGo_len op.2.1 (dataOf l op.2.1 ++ op.2.2.2) l false; show (putGo _ _ _ _).length ≤ _; simp at this; omega
  · split
    · have := putGo_len op.2.2.1 (dataOf l op.2.1) (cutL l op.2.1) false; have := cut_len l op.2.1; show (putGo _ _ _ _).length ≤ _; simp at *; omega
    · have := cut_len l op.2.1; omega
theorem aft_data (l : List FileT) (op : DOpT) : dataSum (aftL l op) ≤ dataSum l + op.2.2.2.size := by
  unfold aftL
  split
  · have := put_data op.2.1 (dataOf l op.2.1 ++ op.2.2.2) l false
    rw [if_neg (by decide), ByteArray.size_append] at this
    show dataSum (putGo _ _ _ _) ≤ _
    omega
  · split
    · have h1 := put_data op.2.2.1 (dataOf l op.2.1) (cutL l op.2.1) false
      have h2 := cut_data l op.2.1
      rw [if_neg (by decide)] at h1
      show dataSum (putGo _ _ _ _) ≤ _
      omega
    · have := cut_data l op.2.1; omega
theorem aft_names {l : List FileT} {op : DOpT} {a : FileT} (ha : a ∈ aftL l op) (h : ∀ a ∈ l, a.1.size ≤ 1048576) (hn : op.2.1.size ≤ 1048576) (ht : op.2.2.1.size ≤ 1048576) : a.1.size ≤ 1048576 := by
  unfold aftL at ha
  split at ha
  · rcases putGo_mem _ _ _ _ a ha with rfl | ha
    · exact hn
    · exact h a ha
  · split at ha
    · rcases putGo_mem _ _ _ _ a ha with rfl | ha
      · exact ht
      · exact h a (cut_mem ha)
    · exact h a (cut_mem ha)
/-- Files on the way through a loss of power: in order, and not too many. -/
structure Mid (j : Nat) (l : List FileT) : Prop where
  srt : Sorted l
  len : l.length ≤ 60 + j
  sum : dataSum l ≤ 200000 + j * 1048576
  nam : ∀ a ∈ l, a.1.size ≤ 1048576
theorem mid_next {j : Nat} {l : List FileT} {op : DOpT} (h : Mid j l) (ho : op.2.1.size ≤ 1048576 ∧ op.2.2.1.size ≤ 1048576 ∧ op.2.2.2.size ≤ 1048576) : Mid (j + 1) (crF l op) := by
  unfold crF
  split
  · exact ⟨aft_sorted op h.srt, by have := aft_len l op; have := h.len; omega, by have := aft_data l op; have := h.sum; omega, fun a ha => aft_names ha h.nam ho.1 ho.2.1⟩
  · have h2 : 200000 + (j + 1) * 1048576 = (200000 + j * 1048576) + 1048576 := by rw [Nat.succ_mul, Nat.add_assoc]
    exact ⟨h.srt, by have := h.len; omega, by rw [h2]; exact Nat.le_add_right_of_le h.sum, h.nam⟩
theorem mid_zero {l : List FileT} (h : filesB l = true) : Mid 0 l := by
  have hF := filesB_of h
  exact ⟨sorted_of h, hF.len, by have := hF.sum; omega, fun a ha => by have := hF.names a ha; omega⟩
theorem kept_small {d : DiskT} (hd : d.fit) (keep : List Int) (torn j : Nat) : (keptO d.ops keep torn j).2.1.size ≤ 1048576 ∧ (keptO d.ops keep torn j).2.2.1.size ≤ 1048576 ∧ (keptO d.ops keep torn j).2.2.2.size ≤ 1048576 := by
  have hz : dOpZ.2.1.size ≤ 1048576 ∧ dOpZ.2.2.1.size ≤ 1048576 ∧ dOpZ.2.2.2.size ≤ 1048576 := by
    have e : dOpZ.2.1.size = 0 ∧ dOpZ.2.2.1.size = 0 ∧ dOpZ.2.2.2.size = 0 := ⟨rfl, rfl, rfl⟩
    omega
  have hg : ∀ q, (d.ops.getD q dOpZ).2.1.size ≤ 1048576 ∧ (d.ops.getD q dOpZ).2.2.1.size ≤ 1048576 ∧ (d.ops.getD q dOpZ).2.2.2.size ≤ 1048576 := fun q => by
    by_cases c : q < d.ops.length
    · have e : d.ops.getD q dOpZ = d.ops[q] := by rw [List.getD_eq_getElem?_getD, List.getElem?_eq_getElem c]; rfl
      rw [e]
      exact (hd.ops _ (List.getElem_mem c)).2
    · have e : d.ops.getD q dOpZ = dOpZ := by rw [List.getD_eq_getElem?_getD, List.getElem?_eq_none (by omega)]; rfl
      rw [e]; exact hz
  have h := hg (keep.getD j 0).toNat
  unfold keptO
  split
  · refine ⟨h.1, h.2.1, ?_⟩
    show ((d.ops.getD (keep.getD j 0).toNat dOpZ).2.2.2.extract 0 _).size ≤ _
    rw [ByteArray.size_extract]
    have := h.2.2
    omega
  · exact h
theorem mid_all {d : DiskT} (hd : d.fit) (hs : filesB d.safe = true) (keep : List Int) (torn : Nat) : ∀ j, Mid j (crL d keep torn j)
  | 0 => mid_zero hs
  | j + 1 => mid_next (mid_all hd hs keep torn j) (kept_small hd keep torn j)
/-- The operations of a right disk have the right form. -/
theorem run_form : ∀ {ops : List DOpT} {l l' : List FileT}, runL l ops = some l' → ∀ a ∈ ops, opB a = true
  | [], _, _, _ => fun a ha => by cases ha
  | op :: ops, l, l', h => by
    rw [runL_kons] at h
    cases c : opDo l op with
    | none => rw [c] at h; cases h
    | some l2 =>
      rw [c] at h
      have h : (if opB op && filesB l2 then runL l2 ops else none) = some l' := h
      by_cases c2 : (opB op && filesB l2) = true
      · rw [if_pos c2] at h
        rw [Bool.and_eq_true] at c2
        intro a ha
        rcases List.mem_cons.1 ha with rfl | ha
        · exact c2.1
        · exact run_form h a ha
      · rw [if_neg c2] at h; cases h
theorem disk_forms {d : DiskT} (h : diskB d = true) : ∀ a ∈ d.ops, opB a = true := by
  unfold diskB at h
  simp only [Bool.and_eq_true, decide_eq_true_eq] at h
  exact run_form h.2
theorem form_data {op : DOpT} (h : opB op = true) (hk : op.1 ≠ 1) : op.2.2.2.size = 0 := by
  unfold opB at h
  simp only [Bool.and_eq_true, decide_eq_true_eq] at h
  have h2 := h.2
  by_cases c : op.1 = 2
  · rw [if_pos c] at h2
    simp only [Bool.and_eq_true, decide_eq_true_eq] at h2
    rw [h2.2]; rfl
  · rw [if_neg c] at h2
    simp only [Bool.and_eq_true, Bool.or_eq_true, decide_eq_true_eq] at h2
    rcases h2.2 with h3 | h3
    · exact absurd h3 hk
    · rw [h3]; rfl
theorem tear_same {torn : Nat} {op : DOpT} (h : op.2.2.2.size ≤ torn) : tearO torn op = op := by
  unfold tearO
  rw [Nat.min_eq_right h]
  have : op.2.2.2.extract 0 op.2.2.2.size = op.2.2.2 := by simp
  rw [this]

end Go.Proofs.Ytepefbfmjjnamaa

/- Draws: sizes, small texts, operations on disks. -/
namespace Go.Proofs.Ytepefbfmjjnamaa
open Go.RowKit Go.My Go.Lib
set_option linter.unusedVariables false

theorem grown_setN {w w' : World} {r : Option Nat} (h : w.grownBy w' r) (k j : Nat) (v : Value) (hk : w.heap.size ≤ k) : w.grownBy (w'.setCell ⟨k, j, none⟩ v) r :=
  ⟨h.os, h.tape, h.output, by simpa using h.size, fun i hi hr => (heap_setCell_other w' ⟨k, j, none⟩ i v (by show i ≠ k; omega)).trans (h.block i hi hr)⟩
theorem rd_setN {B g : Nat} {w : World} (h : Rd B w g) (k j : Nat) (v : Value) (hk : k ≠ g) (hB : B ≤ k) : Rd B (w.setCell ⟨k, j, none⟩ v) g :=
  h.kept (r := some k) ⟨rfl, rfl, rfl, by simp, fun i hi hr => heap_setCell_other w ⟨k, j, none⟩ i v (fun e => hr (by rw [e]))⟩ (fun e => hk (Option.some.inj e)) (fun q hq => by rw [← Option.some.inj hq]; exact hB)
theorem three {n : Int} (h0 : 0 ≤ n) (h1 : n < 3) : n = 0 ∨ n = 1 ∨ n = 2 := by omega
theorem five {n : Int} (h0 : 0 ≤ n) (h1 : n < 5) : n = 0 ∨ n = 1 ∨ n = 2 ∨ n = 3 ∨ n = 4 := by omega
def DrawnSize (m : Int) (B g : Nat) (w : World) (e : Ending) (w' : World) : Prop := ∃ n : Int, e = .returned (.int .i64 n) ∧ 1 ≤ n ∧ n ≤ m ∧ Rd B w' g ∧ w.grownBy w' (some g)

set_option maxHeartbeats 1000000 in
theorem size_any (B g : Nat) (w : World) (h : Rd B w g) : Calls Try.prog 94 #[.pointer (some ⟨g, 0, none⟩), .int .i64 3, .int .i64 10] w (DrawnSize 10 B g w) := by
  have HR := Lib.hid h
  obtain ⟨_, _, a, len, cap, p, hh, hp, hc⟩ := h
  have hl : (len : Int) ≤ 1048576 := by have := hc.1; omega
  obtain ⟨c0, c1, _, _⟩ := cell_of_two hh
  clear hc hh hp
  have hq0 : (0 : Int) ≤ (len : Int) / 3 := by omega
  have hq1 : (len : Int) / 3 ≤ 1048576 := by omega
  by_cases hb : 10 < (1 + (len : Int) / 3)
  · go_enter Try.func94, Try.ntmps94
    go_wp2_with (go_at_call 63; refine (below_any B g _ w HR.out (by omega) (by omega)).mono ?_; rintro e w1 ⟨x, rfl, hx0, hx1, hR1, hg1⟩)
    go_ret
    exact ⟨_, rfl, by omega, by omega, hR1, hg1⟩
  · go_enter Try.func94, Try.ntmps94
    go_wp2_with (go_at_call 63; refine (below_any B g _ w HR.out (by omega) (by omega)).mono ?_; rintro e w1 ⟨x, rfl, hx0, hx1, hR1, hg1⟩)
    go_ret
    exact ⟨_, rfl, by omega, by omega, hR1, hg1⟩

set_option maxHeartbeats 1000000 in
theorem small_any (B g : Nat) (w : World) (h : Rd B w g) : Calls Try.prog 70 #[.pointer (some ⟨g, 0, none⟩)] w (DrawnStr 3 B g w) := by
  have hlt : g < w.heap.size := h.lt
  go_enter Try.func70, Try.ntmps70
  go_wp2_with fail
  refine (below_any B g _ _ (h.kept (World.grownBy_alloc w _ none) (by simp) (by simp)) (by omega) (by omega)).mono ?_
  rintro e w2 ⟨x, rfl, hx0, hx1, hR2, hg2⟩
  have hblk := (hg2.block w.heap.size (by simp) (by simp; omega)).trans (heap_alloc_new w _)
  have hc := fun j => cell_of_row w2 w.heap.size j _ _ _ hblk
  have R := grown_trans (World.grownBy_alloc w _ (some g)) hg2
  clear hg2 hblk h
  rcases five hx0 hx1 with rfl | rfl | rfl | rfl | rfl
  · have c := hc 0
    simp at c
    clear hc
    go_wp2
    go_ret
    exact ⟨_, rfl, by decide, hR2, R⟩
  · have c := hc 1
    simp at c
    clear hc
    go_wp2
    go_ret
    exact ⟨_, rfl, by decide, hR2, R⟩
  · have c := hc 2
    simp at c
    clear hc
    go_wp2
    go_ret
    exact ⟨_, rfl, by decide, hR2, R⟩
  · have c := hc 3
    simp at c
    clear hc
    go_wp2
    go_ret
    exact ⟨_, rfl, by decide, hR2, R⟩
  · have c := hc 4
    simp at c
    clear hc
    go_wp2
    go_ret
    exact ⟨_, rfl, by decide, hR2, R⟩

theorem set4 {w : World} {g : Nat} {x y z u : Value} {T : TypeId} (h : w.heap[g]? = some (.cells #[x, y, z, u] T (0, 0))) (a b c d : Value) : ((((w.setCell ⟨g, 0, none⟩ a).setCell ⟨g, 1, none⟩ b).setCell ⟨g, 2, none⟩ c).setCell ⟨g, 3, none⟩ d).heap[g]? = some (.cells #[a, b, c, d] T (0, 0)) :=
  heap_setCell_same _ g 3 _ _ d (heap_setCell_same _ g 2 _ _ c (heap_setCell_same _ g 1 _ _ b (heap_setCell_same _ g 0 _ _ a h)))
/-- Bounds of a drawn operation. -/
def opW (op : DOpT) : Prop := (Lit.int .i64 op.1).wf = true ∧ op.2.1.size ≤ 8 ∧ op.2.2.1.size ≤ 8 ∧ op.2.2.2.size ≤ 8
theorem opW_mk {k : Int} {n t x : ByteArray} (hk : (Lit.int .i64 k).wf = true) (hn : n.size ≤ 8) (ht : t.size ≤ 8) (hx : x.size ≤ 8) : opW (k, n, t, x) := ⟨hk, hn, ht, hx⟩
def DrawnOp (B g : Nat) (w : World) (e : Ending) (w' : World) : Prop := ∃ k n t x, e = .returned (.agg #[.int .i64 k, .string n, .string t, .string x]) ∧ opW (k, n, t, x) ∧ Rd B w' g ∧ w.grownBy w' (some g)

set_option maxRecDepth 20000 in
set_option maxHeartbeats 4000000 in
theorem dop_any (B g : Nat) (w : World) (h : Rd B w g) : Calls Try.prog 62 #[.pointer (some ⟨g, 0, none⟩)] w (DrawnOp B g w) := by
  have hlt : g < w.heap.size := h.lt
  have hBw : B ≤ w.heap.size := h.2.1
  go_enter Try.func62, Try.ntmps62
  go_wp2_with fail
  refine (below_any B g _ _ ((h.alloc _).alloc _) (by omega) (by omega)).mono ?_
  rintro e w2 ⟨x, rfl, hx0, hx1, hR2, hg2⟩
  have hblk : w2.heap[w.heap.size + 1]? = some (.cells #[.string ⟨#[108, 111, 103]⟩, .string ⟨#[98, 97, 115, 101]⟩, .string ⟨#[98, 97, 115, 101, 46, 110, 101, 119]⟩, .string ⟨#[98]⟩] 9 (0, 0)) := by
    rw [hg2.block (w.heap.size + 1) (by simp) (by simp; omega)]
    have := heap_alloc_new (w.alloc (.cells #[.int .i64 0, .string (ByteArray.mk #[]), .string (ByteArray.mk #[]), .string (ByteArray.mk #[])] 36)) (.cells #[.string ⟨#[108, 111, 103]⟩, .string ⟨#[98, 97, 115, 101]⟩, .string ⟨#[98, 97, 115, 101, 46, 110, 101, 119]⟩, .string ⟨#[98]⟩] 9)
    rw [World.size_alloc] at this
    exact this
  have hres := (hg2.block w.heap.size (by simp; omega) (by simp; omega)).trans ((((Below.refl (w.alloc _).heap.size (w.alloc _)).alloc (Nat.le_refl _) _).block w.heap.size (by simp)).trans (heap_alloc_new w _))
  have hc := fun j => cell_of_row w2 (w.heap.size + 1) j _ _ _ hblk
  have R := grown_trans (World.grownBy_alloc w _ (some g)) (grown_trans (World.grownBy_alloc (w.alloc _) _ (some g)) hg2)
  have HX := Lib.hid (And.intro hres R)
  clear hg2 hblk h hres R
  obtain ⟨N, hN, hNs⟩ : ∃ N : ByteArray, w2.cell? ⟨w.heap.size + 1, x.toNat, none⟩ = some (.string N) ∧ N.size ≤ 8 := by
    rcases four hx0 hx1 with rfl | rfl | rfl | rfl
    · have c := hc 0
      simp at c
      exact ⟨_, c, by decide⟩
    · have c := hc 1
      simp at c
      exact ⟨_, c, by decide⟩
    · have c := hc 2
      simp at c
      exact ⟨_, c, by decide⟩
    · have c := hc 3
      simp at c
      exact ⟨_, c, by decide⟩
  have hx4 : x < 4 := hx1
  clear hc hx1
  go_wp2_with fail
  refine (below_any B g _ _ hR2 (by omega) (by omega)).mono ?_
  rintro e w3 ⟨y, rfl, hy0, hy1, hR3, hg3⟩
  have hres := (hg3.block w.heap.size (Array.getElem?_eq_some_iff.1 HX.out.1).1 (by intro c; have := Option.some.inj c; omega)).trans HX.out.1
  have HY := Lib.hid (And.intro hres (grown_trans HX.out.2 hg3))
  clear hres hg3 hN hR2
  by_cases y0 : y = 0
  · subst y0
    go_wp2_with fail
    refine (below_any B g _ _ (hR3.alloc _) (by omega) (by omega)).mono ?_
    rintro e w4 ⟨z, rfl, hz0, hz1, hR4, hg4⟩
    have hblk := (hg4.block w3.heap.size (by simp) (by have := hR3.lt; simp; omega)).trans (heap_alloc_new w3 _)
    have hc := fun j => cell_of_row w4 w3.heap.size j _ _ _ hblk
    have hres := (hg4.block w.heap.size (by have := (Array.getElem?_eq_some_iff.1 HY.out.1).1; simp; omega) (by simp; omega)).trans (((Below.refl w3.heap.size w3).alloc (Nat.le_refl _) _).block w.heap.size (Array.getElem?_eq_some_iff.1 HY.out.1).1 |>.trans HY.out.1)
    have HZ := Lib.hid (And.intro hres (grown_trans HY.out.2 (grown_trans (World.grownBy_alloc w3 _ (some g)) hg4)))
    obtain ⟨M, hM, hMs⟩ : ∃ M : ByteArray, w4.cell? ⟨w3.heap.size, z.toNat, none⟩ = some (.string M) ∧ M.size ≤ 8 := by
      rcases three hz0 hz1 with rfl | rfl | rfl
      · have c := hc 0
        simp at c
        exact ⟨_, c, by decide⟩
      · have c := hc 1
        simp at c
        exact ⟨_, c, by decide⟩
      · have c := hc 2
        simp at c
        exact ⟨_, c, by decide⟩
    have hz3 : z < 3 := hz1
    obtain ⟨⟨r0, r1, r2, r3⟩, rf⟩ := dop_cells hres
    have rf0 := rf 0
    have rf1 := rf 1
    have rf2 := rf 2
    have rf3 := rf 3
    clear hc hz1 hblk hres hg4 hR3 rf
    go_wp2
    refine bodyPost_ret (v := .agg #[.int .i64 2, .string N, .string M, .string (ByteArray.mk #[])]) (results_cell_row Try.results62 _ _ w.heap.size 36 _ (0, 0) _ rfl (set4 HZ.out.1 _ _ _ _) Try.underlying36 rfl (by kernel_rfl)) rfl ⟨_, _, _, _, rfl, opW_mk (by decide) hNs hMs (by decide), ?_, ?_⟩
    · exact rd_setN (rd_setN (rd_setN (rd_setN hR4 _ _ _ (by omega) hBw) _ _ _ (by omega) hBw) _ _ _ (by omega) hBw) _ _ _ (by omega) hBw
    · exact grown_setN (grown_setN (grown_setN (grown_setN HZ.out.2 _ _ _ (Nat.le_refl _)) _ _ _ (Nat.le_refl _)) _ _ _ (Nat.le_refl _)) _ _ _ (Nat.le_refl _)
  have y0' : (y == 0) = false := by simpa using y0
  by_cases y1 : y = 1
  · subst y1
    obtain ⟨⟨r0, r1, r2, r3⟩, rf⟩ := dop_cells HY.out.1
    have rf0 := rf 0
    have rf1 := rf 1
    have rf2 := rf 2
    have rf3 := rf 3
    clear rf
    go_wp2
    refine bodyPost_ret (v := .agg #[.int .i64 3, .string N, .string (ByteArray.mk #[]), .string (ByteArray.mk #[])]) (results_cell_row Try.results62 _ _ w.heap.size 36 _ (0, 0) _ rfl (set4 HY.out.1 _ _ _ _) Try.underlying36 rfl (by kernel_rfl)) rfl ⟨_, _, _, _, rfl, opW_mk (by decide) hNs (by decide) (by decide), ?_, ?_⟩
    · exact rd_setN (rd_setN (rd_setN (rd_setN hR3 _ _ _ (by omega) hBw) _ _ _ (by omega) hBw) _ _ _ (by omega) hBw) _ _ _ (by omega) hBw
    · exact grown_setN (grown_setN (grown_setN (grown_setN HY.out.2 _ _ _ (Nat.le_refl _)) _ _ _ (Nat.le_refl _)) _ _ _ (Nat.le_refl _)) _ _ _ (Nat.le_refl _)
  have y1' : (y == 1) = false := by simpa using y1
  go_wp2_with fail
  refine (small_any B g _ hR3).mono ?_
  rintro e w4 ⟨s, rfl, hss, hR4, hg4⟩
  have hres := (hg4.block w.heap.size (Array.getElem?_eq_some_iff.1 HY.out.1).1 (by intro c; have := Option.some.inj c; omega)).trans HY.out.1
  have HZ := Lib.hid (And.intro hres (grown_trans HY.out.2 hg4))
  obtain ⟨⟨r0, r1, r2, r3⟩, rf⟩ := dop_cells hres
  have rf0 := rf 0
  have rf1 := rf 1
  have rf2 := rf 2
  have rf3 := rf 3
  clear hres hg4 hR3 rf
  go_wp2
  refine bodyPost_ret (v := .agg #[.int .i64 1, .string N, .string (ByteArray.mk #[]), .string s]) (results_cell_row Try.results62 _ _ w.heap.size 36 _ (0, 0) _ rfl (set4 HZ.out.1 _ _ _ _) Try.underlying36 rfl (by kernel_rfl)) rfl ⟨_, _, _, _, rfl, opW_mk (by decide) hNs (by decide) (by omega), ?_, ?_⟩
  · exact rd_setN (rd_setN (rd_setN (rd_setN hR4 _ _ _ (by omega) hBw) _ _ _ (by omega) hBw) _ _ _ (by omega) hBw) _ _ _ (by omega) hBw
  · exact grown_setN (grown_setN (grown_setN (grown_setN HZ.out.2 _ _ _ (Nat.le_refl _)) _ _ _ (Nat.le_refl _)) _ _ _ (Nat.le_refl _)) _ _ _ (Nat.le_refl _)

end Go.Proofs.Ytepefbfmjjnamaa

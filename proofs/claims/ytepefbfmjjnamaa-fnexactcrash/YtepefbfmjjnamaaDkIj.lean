/- The program: a disk's operations performed once more. -/
import Derived.Test.YtepefbfmjjnamaaDkIi
import Derived.Test.YtepefbfmjjnamaaDkX
namespace Go.Proofs.Ytepefbfmjjnamaa
open Go.RowKit Go.My Go.Lib
set_option linter.unusedVariables false

theorem results_row_u {P : Program} {fn : Func} {p u : Tmp} {ty : TypeId} (h : fn.results = #[.cell p ty, .tmp u]) (tmps : Array Value) (w : World) (g : Nat) (t : TypeId) (cs : Array Value) (fr : Nat × Nat) (d : TypeDesc)
    (hp : tmps.getD p undef = .pointer (some ⟨g, 0, none⟩)) (hg : w.heap[g]? = some (.cells cs t fr))
    (hu : P.underlying ty = some d) (hd : (match d with | .struct _ | .array _ _ => true | _ => false) = true) (hi : (P.info? ty).map (·.size) = some cs.size) :
    (results fn tmps).run P w = .ok (.tuple #[.agg cs, tmps.getD u undef]) w := by
  rw [results_cell_tmp h, hp]
  simp [asAddr, run_loadVar_row w g t ty cs fr d hg hu hd hi]
theorem set3 {w : World} {g : Nat} {x y z : Value} {T : TypeId} (h : w.heap[g]? = some (.cells #[x, y, z] T (0, 0))) (a b c : Value) : (((w.setCell ⟨g, 0, none⟩ a).setCell ⟨g, 1, none⟩ b).setCell ⟨g, 2, none⟩ c).heap[g]? = some (.cells #[a, b, c] T (0, 0)) :=
  heap_setCell_same _ g 2 _ _ c (heap_setCell_same _ g 1 _ _ b (heap_setCell_same _ g 0 _ _ a h))

theorem cell_set3 {w : World} {g h j : Nat} {v : Value} (a b c : Value) (hne : h ≠ g) (hc : w.cell? ⟨h, j, none⟩ = some v) : (((w.setCell ⟨g, 0, none⟩ a).setCell ⟨g, 1, none⟩ b).setCell ⟨g, 2, none⟩ c).cell? ⟨h, j, none⟩ = some v := by
  have k : ∀ (W : World) (i : Nat) (x : Value), (W.setCell ⟨g, i, none⟩ x).cell? ⟨h, j, none⟩ = W.cell? ⟨h, j, none⟩ := fun W i x => World.cell?_setCell_other _ _ _ _ (by intro c; injection c with c1; exact hne c1.symm)
  rw [k, k, k]; exact hc
theorem grw_set3 (w : World) (g : Nat) (a b c : Value) : w.grownBy (((w.setCell ⟨g, 0, none⟩ a).setCell ⟨g, 1, none⟩ b).setCell ⟨g, 2, none⟩ c) (some g) := grw_set (grw_set (grw_set (grw_refl _ _) _ _) _ _) _ _
/-- A list of files does not lie in a block of another kind. -/
theorem files_ne {B g : Nat} {v : Value} {l : List FileT} {w : World} {cs : Array Value} (h : FilesAt B v l w) (hg : w.heap[g]? = some (.cells cs 79 (0, 0))) : v.ownBlock = none ∨ v.ownBlock ≠ some g := by
  rcases h.2 with ⟨hv, _⟩ | ⟨q, cap, cur, hv, _, hq, _⟩
  · exact .inl (by rw [hv]; rfl)
  · refine .inr (fun e => ?_)
    rw [hv] at e
    have e1 : q = g := Option.some.inj e
    rw [e1, hg] at hq
    injection hq with hq
    injection hq with _ h2
    exact absurd h2 (by decide)

set_option maxRecDepth 20000 in
set_option maxHeartbeats 2000000 in
theorem driveOf_i (v1 v2 v3 : Value) (d : DiskT) (w : World) (h : DiskAt 0 v1 v2 v3 d w) (hd : d.fit) :
    Calls Try.prog 54 #[.agg #[v1, v2, v3]] w fun e w' => ∃ a b c, e = .returned (.tuple #[.agg #[a, b, c], .bool (diskB d)]) ∧ (∃ p n cap, a = .slice p n cap) ∧ (∃ p n cap, b = .slice p n cap) ∧ (∃ p n cap, c = .slice p n cap) ∧ Below w.heap.size w w' ∧ (diskB d = true → FilesAt 0 a d.live w' ∧ FilesAt 0 b d.safe w' ∧ OpsAt w.heap.size c d.ops w' ∧ b = v2) := by
  have hs := hd.small
  obtain ⟨p1, cap1, rfl, _, _, hp1⟩ := h.live.open
  obtain ⟨p2, cap2, rfl, _, _, hp2⟩ := h.safe.open
  obtain ⟨p3, cap3, rfl, _, _, hp3⟩ := h.ops.open
  have CK := Lib.hid (fun W (hW : Below w.heap.size w W) => ok_i (.slice p2 d.safe.length cap2) d.safe W (h.safe.below hW) hs.safe (by have := hd.sums.2; omega) (fun a ha => by have := (hd.safe a ha).1; omega))
  have H := Lib.hid h
  have HD := Lib.hid hd
  clear h hd
  have hl3 : (d.ops.length : Int) ≤ 1048576 := by have := hs.ops; omega
  go_enter Try.func54, Try.ntmps54
  go_wp2_with fail
  refine (CK.out _ ?_).mono ?_
  · exact (((Below.refl w.heap.size w).alloc (Nat.le_refl _) _).alloc (by simp) _).alloc (by simp; omega) _
  rintro e w4 ⟨rfl, hb4⟩
  obtain ⟨hB4, x0, x1, x2, hsz4⟩ := boxes3 w _ _ _ _ hb4
  have HX := Lib.hid (And.intro x0 (And.intro x1 x2))
  have HB4 := Lib.hid hB4
  obtain ⟨⟨r0, r1, r2⟩, rf⟩ := dk_cells x1
  have rf0 := rf 0
  have rf1 := rf 1
  have rf2 := rf 2
  clear hb4 x0 x1 x2 hB4 rf
  cases c1 : filesB d.safe with
  | false =>
    have HR : Hid (diskB d = false) := by show _ = _; unfold diskB; rw [c1, Bool.and_false, Bool.false_and, Bool.false_and]
    clear c1
    go_wp2
    refine bodyPost_ret (v := .tuple #[.agg #[.slice none 0 0, .slice none 0 0, .slice none 0 0], .bool false]) (results_row_u Try.results54 _ _ (w.heap.size + 1) 79 _ (0, 0) _ rfl (set3 HX.out.2.1 _ _ _) Try.underlying79 rfl (by kernel_rfl)) rfl ⟨.slice none 0 0, .slice none 0 0, .slice none 0 0, by rw [HR.out], ⟨_, _, _, rfl⟩, ⟨_, _, _, rfl⟩, ⟨_, _, _, rfl⟩, ?_, fun c => by rw [HR.out] at c; cases c⟩
    exact ((HB4.out.setCell (by simp) _).setCell (by simp) _).setCell (by simp) _
  | true =>
    have HS := Lib.hid c1
    have HO := Lib.hid (show ∀ (j : Nat) (hj : j < d.ops.length) (l : List FileT) (W : World), filesB l = true → DrvAt (w.heap.size + 1 + 1) (w.heap.size + 1 + 1) (.slice p2 d.safe.length cap2) l (d.ops.take j) W → w.heap.size + 1 + 1 ≤ W.heap.size → _ from fun j hj l W hf hdr hsz => by
      have hx := HD.out.ops d.ops[j] (List.getElem_mem hj)
      exact do_i (w.heap.size + 1 + 1) (w.heap.size + 1 + 1) (.slice p2 d.safe.length cap2) l (d.ops.take j) d.ops[j].1 d.ops[j].2.1 d.ops[j].2.2.1 d.ops[j].2.2.2 W hdr hf (by rw [List.length_take]; have := HD.out.small.ops; omega) hx.2.1 hx.2.2.1 hx.2.2.2 hsz)
    have hD0 : DrvAt (w.heap.size + 1 + 1) (w.heap.size + 1 + 1) (.slice p2 d.safe.length cap2) d.safe (d.ops.take 0) w4 := by
      refine ⟨_, _, HX.out.2.2, Nat.le_refl _, H.out.safe.below HB4.out, RowL.nil _ _ _ _ _, ?_, (fun c => by cases c), ?_⟩
      · intro c; have := (World.ownsRow.lt H.out.safe _ c).2; omega
      · cases c : (Value.slice p2 d.safe.length cap2).ownBlock with
        | none => exact .inl rfl
        | some q => exact .inr (fun e => by cases e)
    have HDR := Lib.hid hD0
    clear c1 hD0 r0 r1 r2 rf0 rf1 rf2
    obtain ⟨⟨z0, z1, z2⟩, _⟩ := dk_cells HX.out.1
    go_wp2
    go_loopw [20] (fun i wr => ∃ (j : Nat) (l : List FileT), j ≤ d.ops.length ∧ i = .int .i64 j ∧ runL d.safe (d.ops.take j) = some l ∧ j ≤ 200 ∧ DrvAt (w.heap.size + 1 + 1) (w.heap.size + 1 + 1) (.slice p2 d.safe.length cap2) l (d.ops.take j) wr ∧ Below (w.heap.size + 1 + 1) w4 wr) (fun i _ => d.ops.length - (RowKit.intOf i).toNat)
    case atStart => exact ⟨0, d.safe, Nat.zero_le _, rfl, rfl, Nat.zero_le _, HDR.out, Below.refl _ _⟩
    case round =>
      obtain ⟨j, l, hj, rfl, hrun, h200, hdr, hbr⟩ := hrel
      have HRUN := Lib.hid hrun
      have HDRV := Lib.hid hdr
      have HBR := Lib.hid hbr
      have x0 : wr.heap[w.heap.size]? = _ := (hbr.block w.heap.size (by omega)).trans HX.out.1
      have x1 : wr.heap[w.heap.size + 1]? = _ := (hbr.block (w.heap.size + 1) (by omega)).trans HX.out.2.1
      have HX1 := Lib.hid x1
      have hBw : Below w.heap.size w wr := HB4.out.trans (hbr.mono (by omega))
      have HBW := Lib.hid hBw
      have hszr : w.heap.size + 1 + 1 + 1 ≤ wr.heap.size := by have := hbr.size; omega
      have hfl := run_files hrun HS.out
      clear hrun hdr hbr z0 z1 z2
      by_cases hlt : j < d.ops.length
      · have hne : d.ops ≠ [] := by intro c; rw [c] at hlt; simp at hlt
        obtain ⟨g, rfl, _, hg⟩ := hp3.resolve_left (fun c => hne c.1)
        have j0 : (0 : Int) ≤ (j : Int) := by omega
        have j1 : (j : Int) < (d.ops.length : Int) := by omega
        obtain ⟨x, hx⟩ : ∃ x, d.ops[j] = x := ⟨_, rfl⟩
        have hA := H.out.ops.below hBw
        have c0 : wr.cell? ⟨g, j * 4, none⟩ = some (.int .i64 x.1) := hA.at dOpC_len hlt hx 0 (by omega) rfl
        have c1 : wr.cell? ⟨g, j * 4 + 1, none⟩ = some (.string x.2.1) := hA.at dOpC_len hlt hx 1 (by omega) rfl
        have c2 : wr.cell? ⟨g, j * 4 + 2, none⟩ = some (.string x.2.2.1) := hA.at dOpC_len hlt hx 2 (by omega) rfl
        have c3 : wr.cell? ⟨g, j * 4 + 3, none⟩ = some (.string x.2.2.2) := hA.at dOpC_len hlt hx 3 (by omega) rfl
        have b0 : Below wr.heap.size wr (wr.alloc (.cells #[.int .i64 x.1, .string x.2.1, .string x.2.2.1, .string x.2.2.2] 36)) := (Below.refl _ _).alloc (Nat.le_refl _) _
        have CD := Lib.hid (HO.out j hlt l _ hfl (HDRV.out.below b0) (by have := b0.size; omega))
        have HJ := Lib.hid hlt
        rw [hx] at CD
        have HXX := Lib.hid hx
        have HB0 := Lib.hid b0
        clear hA hne hp3 hg b0 hx x0 x1
        obtain ⟨C, hC⟩ : ∃ C, doC l (d.ops.take j) (x.1, x.2.1, x.2.2.1, x.2.2.2) = C := ⟨_, rfl⟩
        rw [hC] at CD
        have HC := Lib.hid hC
        clear hC
        go_wp2_with fail
        refine CD.out.mono ?_
        rintro e w5 ⟨rfl, hok, hno, hb5⟩
        have HOK := Lib.hid hok
        have HB5 : Hid (Below (w.heap.size + 1 + 1) w4 w5) := HBR.out.trans ((HB0.out.mono (by omega)).trans hb5)
        clear hok hno hb5 c0 c1 c2 c3
        by_cases hz : C = 0
        · subst hz
          have hn := disk_next (d := d) HJ.out HRUN.out (by rw [HXX.out]; exact HC.out)
          have HN := Lib.hid hn
          have HT := Lib.hid (List.take_succ_eq_append_getElem HJ.out)
          clear hn
          go_wp2
          go_roundw
          case rel => exact ⟨j + 1, _, by omega, by go_num, HN.out.1, HN.out.2, by rw [HT.out, HXX.out]; exact HOK.out trivial, HB5.out⟩
          case measure => simp [RowKit.intOf]; omega
        · have hz' : (C != 0) = true := by simpa using hz
          have HR := Lib.hid (disk_stop (d := d) HJ.out HRUN.out (by rw [HXX.out]; show doC _ _ (x.1, x.2.1, x.2.2.1, x.2.2.2) ≠ 0; rw [HC.out]; exact hz))
          have y1 : w5.heap[w.heap.size + 1]? = _ := (HB5.out.block (w.heap.size + 1) (by omega)).trans HX.out.2.1
          obtain ⟨⟨r0, r1, r2⟩, rf⟩ := dk_cells y1
          have rf0 := rf 0
          have rf1 := rf 1
          have rf2 := rf 2
          have HY := Lib.hid y1
          have hBz : Below w.heap.size w w5 := HB4.out.trans (HB5.out.mono (by omega))
          have HBZ := Lib.hid hBz
          clear hz rf y1 hBz
          go_wp2
          refine bodyPost_ret (v := .tuple #[.agg #[.slice none 0 0, .slice none 0 0, .slice none 0 0], .bool false]) (results_row_u Try.results54 _ _ (w.heap.size + 1) 79 _ (0, 0) _ rfl (set3 HY.out _ _ _) Try.underlying79 rfl (by kernel_rfl)) rfl ⟨.slice none 0 0, .slice none 0 0, .slice none 0 0, by rw [HR.out], ⟨_, _, _, rfl⟩, ⟨_, _, _, rfl⟩, ⟨_, _, _, rfl⟩, ?_, fun c => by rw [HR.out] at c; cases c⟩
          exact ((HBZ.out.setCell (by simp) _).setCell (by simp) _).setCell (by simp) _
      · obtain rfl : j = d.ops.length := by omega
        obtain ⟨vl, vo, e2, _, hl, ho, _, _, _⟩ := HDRV.out
        rw [List.take_length] at ho
        have hrun := HRUN.out
        rw [List.take_length] at hrun
        have HEND := Lib.hid (disk_end HS.out hrun h200)
        have hll : l.length ≤ 1048576 := by have := (filesB_of hfl).len; omega
        have CE := Lib.hid (fun W (hW : Below wr.heap.size wr W) => equal_i vl (.slice p1 d.live.length cap1) l d.live W (hl.below hW) ((H.out.live.below HBW.out).below hW) hll HD.out.small.live)
        have HL := Lib.hid hl
        have HOP := Lib.hid ho
        obtain ⟨pl, capl, rfl, _⟩ := hl.open
        obtain ⟨po, capo, rfl, _⟩ := ho.open
        obtain ⟨⟨a0, a1, a2⟩, _⟩ := dk_cells e2
        obtain ⟨⟨q0, _, _⟩, _⟩ := dk_cells x0
        have hBx : Below wr.heap.size wr wr := Below.refl _ _
        have hltr : w.heap.size + 1 < wr.heap.size := by omega
        obtain ⟨b, hb⟩ : ∃ b, decide (l = d.live) = b := ⟨_, rfl⟩
        rw [hb] at HEND CE
        have HBL := Lib.hid hb
        clear hl ho hrun h200 hll hfl e2 x0 x1 hb hlt hBw hp1 hp2 hp3
        go_wp2_with fail
        go_region_held3 (fun w' => w'.cell? ⟨w.heap.size + 1 + 1, 0, none⟩ = some (.slice pl l.length capl) ∧ w'.cell? ⟨w.heap.size + 1 + 1, 1, none⟩ = some (.slice p2 d.safe.length cap2) ∧ w'.cell? ⟨w.heap.size + 1 + 1, 2, none⟩ = some (.slice po d.ops.length capo) ∧ w'.cell? ⟨w.heap.size, 0, none⟩ = some (.slice p1 d.live.length cap1)) (first | exact ⟨a0, a1, a2, q0⟩ | exact ⟨cell_set3 _ _ _ (by omega) a0, cell_set3 _ _ _ (by omega) a1, cell_set3 _ _ _ (by omega) a2, cell_set3 _ _ _ (by omega) q0⟩) ((go_at_call 96; refine (CE.out _ (by first | exact hBx | exact hBx.drew)).mono ?_; rintro e wz ⟨rfl, hbz⟩; have a0 := (hbz.cell (p := ⟨w.heap.size + 1 + 1, 0, none⟩) (World.block_lt_of_cell? _ _ a0)).trans a0; have a1 := (hbz.cell (p := ⟨w.heap.size + 1 + 1, 1, none⟩) (World.block_lt_of_cell? _ _ a1)).trans a1; have a2 := (hbz.cell (p := ⟨w.heap.size + 1 + 1, 2, none⟩) (World.block_lt_of_cell? _ _ a2)).trans a2; have q0 := (hbz.cell (p := ⟨w.heap.size, 0, none⟩) (World.block_lt_of_cell? _ _ q0)).trans q0; have hBx := below_nx hbz (by first | exact hBx | exact hBx.drew) (by exact hBx.size); have y1 := (hBx.block (w.heap.size + 1) hltr).trans HX1.out; have cy := dk_cells y1; have r0 := cy.1.1; have r1 := cy.1.2.1; have r2 := cy.1.2.2; have rf0 := cy.2 0; have rf1 := cy.2 1; have rf2 := cy.2 2; clear cy))
        all_goals
          go_wp2
          have gz := grw_set3 wz (w.heap.size + 1) (.slice pl l.length capl) (.slice p2 d.safe.length cap2) (.slice po d.ops.length capo)
          have hBz : Below w.heap.size w wz := HBW.out.trans (hBx.mono HBW.out.size)
          refine bodyPost_ret (v := .tuple #[.agg #[.slice pl l.length capl, .slice p2 d.safe.length cap2, .slice po d.ops.length capo], .bool b]) (results_row_u Try.results54 _ _ (w.heap.size + 1) 79 _ (0, 0) _ rfl (set3 y1 _ _ _) Try.underlying79 rfl (by kernel_rfl)) rfl ⟨.slice pl l.length capl, .slice p2 d.safe.length cap2, .slice po d.ops.length capo, by rw [HEND.out], ⟨_, _, _, rfl⟩, ⟨_, _, _, rfl⟩, ⟨_, _, _, rfl⟩, below_grw hBz gz hBz.size (fun q hq => by cases hq; omega), fun c => ?_⟩
          rw [HEND.out] at c
          have hll : l = d.live := of_decide_eq_true (HBL.out.trans c)
          have f1 : FilesAt 0 (.slice pl l.length capl) l _ := RowL.kept (HL.out.below hBx) gz (files_ne (HL.out.below hBx) y1)
          have f2 : FilesAt 0 (.slice p2 d.safe.length cap2) d.safe _ := RowL.kept (H.out.safe.below hBz) gz (files_ne (H.out.safe.below hBz) y1)
          have f3 : OpsAt (w.heap.size + 1 + 1) (.slice po d.ops.length capo) d.ops _ := RowL.kept (HOP.out.below hBx) gz (by
            cases q : (Value.slice po d.ops.length capo).ownBlock with
            | none => exact .inl rfl
            | some k => exact .inr (fun e => by have := (World.ownsRow.lt HOP.out _ q).1; have := Option.some.inj e; omega))
          refine ⟨?_, f2, f3.mono (by omega), rfl⟩
          rw [← hll]
          exact f1

end Go.Proofs.Ytepefbfmjjnamaa

/- The program: a drive's disk; Sync. -/
import Derived.Test.YtepefbfmjjnamaaDkIk
import Derived.Test.YtepefbfmjjnamaaDkN
namespace Go.Proofs.Ytepefbfmjjnamaa
open Go.RowKit Go.My Go.Lib
set_option linter.unusedVariables false

theorem rowK {α : Type} {B e c g : Nat} {f : α → List Value} {v : Value} {l : List α} {w : World} {cs : Array Value} {T : TypeId} (h : RowL B e c f v l w) (hg : w.heap[g]? = some (.cells cs T (0, 0))) (hT : T ≠ e) : v.ownBlock = none ∨ v.ownBlock ≠ some g := .inr (row_kind h hg hT)

set_option maxRecDepth 20000 in
set_option maxHeartbeats 2000000 in
theorem diskOf_i (g : Nat) (v1 v2 v3 : Value) (d : DiskT) (w : World) (hg : w.heap[g]? = some (.cells #[v1, v2, v3] 79 (0, 0))) (h : DiskAt 0 v1 v2 v3 d w) (hl : d.small) :
    Calls Try.prog 60 #[.pointer (some ⟨g, 0, none⟩)] w fun e w' => ∃ u1 u2 u3, e = .returned (.agg #[u1, u2, u3]) ∧ DiskAt w.heap.size u1 u2 u3 d w' ∧ ApartV u1 u2 ∧ Below w.heap.size w w' := by
  have CF := Lib.hid (fun v l W (hW : FilesAt 0 v l W ∧ l.length ≤ 1048576) => copyF_i v l W hW.1 hW.2)
  have CO := Lib.hid (fun v l W (hW : OpsAt 0 v l W ∧ l.length ≤ 1048576) => copyO_i v l W hW.1 hW.2)
  have HL := Lib.hid hl
  have hglt : g < w.heap.size := (Array.getElem?_eq_some_iff.1 hg).1
  have hx := heap_alloc_new w (.cells #[.slice none 0 0, .slice none 0 0, .slice none 0 0] 27)
  have hB0 : Below w.heap.size w (w.alloc (.cells #[.slice none 0 0, .slice none 0 0, .slice none 0 0] 27)) := (Below.refl _ _).alloc (Nat.le_refl _) _
  have hs0 : (w.alloc (.cells #[.slice none 0 0, .slice none 0 0, .slice none 0 0] 27)).heap.size = w.heap.size + 1 := by simp
  have h0 := h.below hB0
  have k1 : FilesAt 0 v1 d.live _ := h0.live
  have k2 : FilesAt 0 v2 d.safe _ := h0.safe
  have k3 : OpsAt 0 v3 d.ops _ := h0.ops
  obtain ⟨p1, m1, rfl, _⟩ := h.live.open
  obtain ⟨p2, m2, rfl, _⟩ := h.safe.open
  obtain ⟨p3, m3, rfl, _⟩ := h.ops.open
  have hg0 := (hB0.block g hglt).trans hg
  obtain ⟨⟨b0, b1, b2⟩, _⟩ := dk_cells hg0
  obtain ⟨⟨r0, r1, r2⟩, rf⟩ := dk_cells hx
  have rf0 := rf 0
  have rf1 := rf 1
  have rf2 := rf 2
  have HX := Lib.hid (And.intro hx hs0)
  have HB0 := Lib.hid hB0
  clear h hl hg h0 hx hB0 rf hg0
  obtain ⟨W0, hW0⟩ : ∃ W0, w.alloc (.cells #[.slice none 0 0, .slice none 0 0, .slice none 0 0] 27) = W0 := ⟨_, rfl⟩
  have hBx : Below (w.heap.size + 1) (w.alloc (.cells #[.slice none 0 0, .slice none 0 0, .slice none 0 0] 27)) (w.alloc (.cells #[.slice none 0 0, .slice none 0 0, .slice none 0 0] 27)) := Below.refl _ _
  clear hW0 W0 hs0
  go_enter Try.func60, Try.ntmps60
  go_wp2_with fail
  go_region_held3 (fun w' => w'.cell? ⟨g, 0, none⟩ = some (.slice p1 d.live.length m1) ∧ w'.cell? ⟨g, 1, none⟩ = some (.slice p2 d.safe.length m2) ∧ w'.cell? ⟨g, 2, none⟩ = some (.slice p3 d.ops.length m3)) (first | exact ⟨b0, b1, b2⟩ | exact ⟨cell_set3 _ _ _ (by omega) b0, cell_set3 _ _ _ (by omega) b1, cell_set3 _ _ _ (by omega) b2⟩) (first
    | (go_at_call 103; refine (CF.out _ _ _ (by first | exact ⟨k1, HL.out.live⟩ | exact ⟨k1.below (Below.refl _ _).drew, HL.out.live⟩)).mono ?_; rintro e wz ⟨u1, rfl, f1, hbz⟩; obtain ⟨q1, n1, rfl, _⟩ := f1.open; have hBy := hBx; have b0 := (hbz.cell (p := ⟨g, 0, none⟩) (World.block_lt_of_cell? _ _ b0)).trans b0; have b1 := (hbz.cell (p := ⟨g, 1, none⟩) (World.block_lt_of_cell? _ _ b1)).trans b1; have b2 := (hbz.cell (p := ⟨g, 2, none⟩) (World.block_lt_of_cell? _ _ b2)).trans b2; have hBx := below_nx hbz (by first | exact hBx | exact hBx.drew) (by exact Nat.le_trans (Nat.le_of_eq HX.out.2.symm) hBx.size); have y1 := (hBx.block w.heap.size (Nat.lt_succ_self _)).trans HX.out.1; have cy := dk_cells y1; have r0 := cy.1.1; have r1 := cy.1.2.1; have r2 := cy.1.2.2; have rf0 := cy.2 0; have rf1 := cy.2 1; have rf2 := cy.2 2; clear cy; have k2 := (by first | exact RowL.below k2 hbz | exact RowL.below (RowL.below k2 (Below.refl _ _).drew) hbz); have k3 := (by first | exact RowL.below k3 hbz | exact RowL.below (RowL.below k3 (Below.refl _ _).drew) hbz); have f1 : FilesAt w.heap.size _ d.live wz := f1.mono (by have h1 := hBy.size; have h2 := HX.out.2; first | omega | (show w.heap.size ≤ (World.alloc w _).heap.size; omega)))
    | (go_at_call 103; refine (CF.out _ _ _ (by first | exact ⟨k2, HL.out.safe⟩ | exact ⟨k2.below (Below.refl _ _).drew, HL.out.safe⟩)).mono ?_; rintro e wz ⟨u2, rfl, f2, hbz⟩; obtain ⟨q2, n2, rfl, _⟩ := f2.open; have ap := row_apart f1 f2 (Nat.le_refl _); have hBy := hBx; have b0 := (hbz.cell (p := ⟨g, 0, none⟩) (World.block_lt_of_cell? _ _ b0)).trans b0; have b1 := (hbz.cell (p := ⟨g, 1, none⟩) (World.block_lt_of_cell? _ _ b1)).trans b1; have b2 := (hbz.cell (p := ⟨g, 2, none⟩) (World.block_lt_of_cell? _ _ b2)).trans b2; have hBx := below_nx hbz (by first | exact hBx | exact hBx.drew) (by exact Nat.le_trans (Nat.le_of_eq HX.out.2.symm) hBx.size); have y1 := (hBx.block w.heap.size (Nat.lt_succ_self _)).trans HX.out.1; have cy := dk_cells y1; have r0 := cy.1.1; have r1 := cy.1.2.1; have r2 := cy.1.2.2; have rf0 := cy.2 0; have rf1 := cy.2 1; have rf2 := cy.2 2; clear cy; have k3 := (by first | exact RowL.below k3 hbz | exact RowL.below (RowL.below k3 (Below.refl _ _).drew) hbz); have f1 := (by first | exact RowL.below f1 hbz | exact RowL.below (RowL.below f1 (Below.refl _ _).drew) hbz); have f2 : FilesAt w.heap.size _ d.safe wz := f2.mono (by have h1 := hBy.size; have h2 := HX.out.2; first | omega | (show w.heap.size ≤ (World.alloc w _).heap.size; omega)))
    | (go_at_call 104; refine (CO.out _ _ _ (by first | exact ⟨k3, HL.out.ops⟩ | exact ⟨k3.below (Below.refl _ _).drew, HL.out.ops⟩)).mono ?_; rintro e wz ⟨u3, rfl, f3, hbz⟩; obtain ⟨q3, n3, rfl, _⟩ := f3.open; have hBy := hBx; have b0 := (hbz.cell (p := ⟨g, 0, none⟩) (World.block_lt_of_cell? _ _ b0)).trans b0; have b1 := (hbz.cell (p := ⟨g, 1, none⟩) (World.block_lt_of_cell? _ _ b1)).trans b1; have b2 := (hbz.cell (p := ⟨g, 2, none⟩) (World.block_lt_of_cell? _ _ b2)).trans b2; have hBx := below_nx hbz (by first | exact hBx | exact hBx.drew) (by exact Nat.le_trans (Nat.le_of_eq HX.out.2.symm) hBx.size); have y1 := (hBx.block w.heap.size (Nat.lt_succ_self _)).trans HX.out.1; have cy := dk_cells y1; have r0 := cy.1.1; have r1 := cy.1.2.1; have r2 := cy.1.2.2; have rf0 := cy.2 0; have rf1 := cy.2 1; have rf2 := cy.2 2; clear cy; have f1 := (by first | exact RowL.below f1 hbz | exact RowL.below (RowL.below f1 (Below.refl _ _).drew) hbz); have f2 := (by first | exact RowL.below f2 hbz | exact RowL.below (RowL.below f2 (Below.refl _ _).drew) hbz); have f3 : OpsAt w.heap.size _ d.ops wz := f3.mono (by have h1 := hBy.size; have h2 := HX.out.2; first | omega | (show w.heap.size ≤ (World.alloc w _).heap.size; omega))))
  all_goals
    go_wp2
    have gz := grw_set3 wz w.heap.size (.slice q1 d.live.length n1) (.slice q2 d.safe.length n2) (.slice q3 d.ops.length n3)
    have hBz : Below w.heap.size w wz := HB0.out.trans (hBx.mono (Nat.le_succ _))
    refine bodyPost_ret (v := .agg #[.slice q1 d.live.length n1, .slice q2 d.safe.length n2, .slice q3 d.ops.length n3]) (results_cell_row Try.results60 _ _ w.heap.size 27 _ (0, 0) _ rfl (set3 y1 _ _ _) Try.underlying27 rfl (by kernel_rfl)) rfl ⟨_, _, _, rfl, ⟨RowL.kept f1 gz (rowK f1 y1 (by decide)), RowL.kept f2 gz (rowK f2 y1 (by decide)), RowL.kept f3 gz (rowK f3 y1 (by decide))⟩, ap, below_grw hBz gz hBz.size (fun q hq => by cases hq; exact Nat.le_refl _)⟩

set_option maxHeartbeats 1000000 in
theorem sync_i (g n m : Nat) (p : Option Addr) (v2 v3 : Value) (w : World) (hg : w.heap[g]? = some (.cells #[.slice p n m, v2, v3] 79 (0, 0))) :
    Calls Try.prog 61 #[.pointer (some ⟨g, 0, none⟩)] w fun e w' => e = .returned (.tuple #[]) ∧ w'.heap[g]? = some (.cells #[.slice p n m, .slice p n m, .slice none 0 0] 79 (0, 0)) ∧ w.grownBy w' (some g) := by
  obtain ⟨⟨b0, b1, b2⟩, bf⟩ := dk_cells hg
  have bf1 := bf 1
  have bf2 := bf 2
  have HG := Lib.hid hg
  clear hg bf
  go_enter Try.func61, Try.ntmps61
  go_wp2
  go_end0
  exact ⟨rfl, heap_setCell_same _ g 2 _ _ _ (heap_setCell_same _ g 1 _ _ _ HG.out), grw_set (grw_set (grw_refl _ _) _ _) _ _⟩

def syncV (d : DiskT) : DiskT := if diskB d then ⟨d.live, d.live, []⟩ else ⟨[], [], []⟩
theorem syncV_yes {d : DiskT} (h : diskB d = true) : syncV d = ⟨d.live, d.live, []⟩ := by unfold syncV; rw [h]; rfl
theorem syncV_no {d : DiskT} (h : diskB d = false) : syncV d = ⟨[], [], []⟩ := by unfold syncV; rw [h]; rfl
theorem nilDisk (B : Nat) (w : World) : DiskAt B (.slice none 0 0) (.slice none 0 0) (.slice none 0 0) ⟨[], [], []⟩ w := ⟨RowL.nil _ _ _ _ _, RowL.nil _ _ _ _ _, RowL.nil _ _ _ _ _⟩

set_option maxRecDepth 20000 in
set_option maxHeartbeats 2000000 in
theorem syncD_i (v1 v2 v3 : Value) (d : DiskT) (w : World) (h : DiskAt 0 v1 v2 v3 d w) (hd : d.fit) :
    Calls Try.prog 20 #[.agg #[v1, v2, v3]] w fun e w' => ∃ u1 u2 u3, e = .returned (.agg #[u1, u2, u3]) ∧ DiskAt w.heap.size u1 u2 u3 (syncV d) w' ∧ ApartV u1 u2 ∧ Below w.heap.size w w' := by
  have C := Lib.hid (fun W (hW : Below w.heap.size w W) => driveOf_i v1 v2 v3 d W (h.below hW) hd)
  have HL := Lib.hid hd.small
  obtain ⟨p1, m1, rfl, _, _, _⟩ := h.live.open
  obtain ⟨p2, m2, rfl, _, _, _⟩ := h.safe.open
  obtain ⟨p3, m3, rfl, _, _, _⟩ := h.ops.open
  clear h hd
  go_enter Try.func20, Try.ntmps20
  go_wp2_with fail
  refine (C.out _ ?_).mono ?_
  · exact ((Below.refl _ _).alloc (Nat.le_refl _) _).alloc (by simp) _
  rintro e w2 ⟨a, b, c, rfl, ⟨pa, na, ca, rfl⟩, ⟨pb, nb, cb, rfl⟩, ⟨pc, nc, cc, rfl⟩, hb2, hf⟩
  obtain ⟨hB2, _, xR⟩ := boxes2 w _ _ _ hb2
  have HB2 := Lib.hid hB2
  have hlt2 : w.heap.size + 1 < w2.heap.size := (Array.getElem?_eq_some_iff.1 xR).1
  have hb3 : Below w2.heap.size w2 (w2.alloc (.cells #[.slice pa na ca, .slice pb nb cb, .slice pc nc cc] 79)) := (Below.refl _ _).alloc (Nat.le_refl _) _
  have hs3 : (w2.alloc (.cells #[.slice pa na ca, .slice pb nb cb, .slice pc nc cc] 79)).heap.size = w2.heap.size + 1 := by simp
  have yR := (hb3.block _ hlt2).trans xR
  have HB3 := Lib.hid hb3
  have HYR := Lib.hid (And.intro yR hs3)
  have HXR := Lib.hid xR
  clear hb2 C hB2 hb3 hs3 xR
  cases hk : diskB d with
  | false =>
    have HV := Lib.hid (syncV_no hk)
    clear hk hf
    obtain ⟨⟨r0, r1, r2⟩, rf⟩ := dk_cells HXR.out
    have rf0 := rf 0
    have rf1 := rf 1
    have rf2 := rf 2
    clear yR rf
    go_wp2
    have gz := grw_set3 w2 (w.heap.size + 1) (.slice none 0 0) (.slice none 0 0) (.slice none 0 0)
    have hBz := below_grw HB2.out gz HB2.out.size (fun q hq => by cases hq; omega)
    have hAl := (Below.refl _ ((((w2.setCell ⟨w.heap.size + 1, 0, none⟩ (.slice none 0 0)).setCell ⟨w.heap.size + 1, 1, none⟩ (.slice none 0 0)).setCell ⟨w.heap.size + 1, 2, none⟩ (.slice none 0 0)))).alloc (Nat.le_refl _) (.cells #[.slice pa na ca, .slice pb nb cb, .slice pc nc cc] 79)
    have hfin := (hAl.block (w.heap.size + 1) (Nat.lt_of_lt_of_le hlt2 gz.size)).trans (set3 HXR.out (.slice none 0 0) (.slice none 0 0) (.slice none 0 0))
    refine bodyPost_ret (v := .agg #[.slice none 0 0, .slice none 0 0, .slice none 0 0]) (results_cell_row Try.results20 _ _ (w.heap.size + 1) 27 _ (0, 0) _ rfl hfin Try.underlying27 rfl (by kernel_rfl)) rfl ⟨_, _, _, rfl, by rw [HV.out]; exact nilDisk _ _, .inl rfl, hBz.trans (hAl.mono hBz.size)⟩
  | true =>
    have HV := Lib.hid (syncV_yes hk)
    have f1 := (hf hk).1
    have HF := Lib.hid f1
    clear hk hf f1
    go_wp2_with fail
    refine (sync_i w2.heap.size na ca pa _ _ _ (heap_alloc_new w2 _)).mono ?_
    rintro e w3 ⟨rfl, hg3, gr3⟩
    have f1 := RowL.kept (HF.out.below HB3.out) gr3 (rowK (HF.out.below HB3.out) (heap_alloc_new w2 _) (by decide))
    have zR := (gr3.block (w.heap.size + 1) (by rw [HYR.out.2]; omega) (fun c => by have := Option.some.inj c; omega)).trans HYR.out.1
    have hB3 : Below w.heap.size w w3 := (HB2.out.trans (HB3.out.mono HB2.out.size)).grown gr3 (by rw [HYR.out.2]; omega) (fun q hq => by have := Option.some.inj hq; omega)
    have HB3' := Lib.hid hB3
    have C2 := Lib.hid (diskOf_i w2.heap.size _ _ _ ⟨d.live, d.live, []⟩ w3 hg3 ⟨f1, f1, RowL.nil _ _ _ _ _⟩ ⟨HL.out.live, HL.out.live, by simp⟩)
    have HZ := Lib.hid zR
    clear f1 gr3 hg3 zR hB3 yR
    go_wp2_with fail
    refine C2.out.mono ?_
    rintro e w4 ⟨u1, u2, u3, rfl, hD, ap, hb4⟩
    obtain ⟨q1, n1, rfl, _⟩ := hD.live.open
    obtain ⟨q2, n2, rfl, _⟩ := hD.safe.open
    obtain ⟨q3, n3, rfl, _⟩ := hD.ops.open
    have yR := (hb4.block (w.heap.size + 1) (Array.getElem?_eq_some_iff.1 HZ.out).1).trans HZ.out
    have hB4 := HB3'.out.trans (hb4.mono HB3'.out.size)
    have HD := Lib.hid (hD.mono HB3'.out.size)
    have HY := Lib.hid yR
    have HB4 := Lib.hid hB4
    have HA := Lib.hid ap
    obtain ⟨⟨r0, r1, r2⟩, rf⟩ := dk_cells yR
    have rf0 := rf 0
    have rf1 := rf 1
    have rf2 := rf 2
    clear hD ap hb4 hB4 yR rf
    go_wp2
    refine bodyPost_ret (v := .agg #[.slice q1 d.live.length n1, .slice q2 d.live.length n2, .slice q3 0 n3]) (results_cell_row Try.results20 _ _ (w.heap.size + 1) 27 _ (0, 0) _ rfl (set3 HY.out _ _ _) Try.underlying27 rfl (by kernel_rfl)) rfl ⟨_, _, _, rfl, by rw [HV.out]; exact ⟨RowL.kept HD.out.live (grw_set3 _ _ _ _ _) (rowK HD.out.live HY.out (by decide)), RowL.kept HD.out.safe (grw_set3 _ _ _ _ _) (rowK HD.out.safe HY.out (by decide)), RowL.kept HD.out.ops (grw_set3 _ _ _ _ _) (rowK HD.out.ops HY.out (by decide))⟩, HA.out, below_grw HB4.out (grw_set3 _ _ _ _ _) HB4.out.size (fun q hq => by cases hq; omega)⟩

end Go.Proofs.Ytepefbfmjjnamaa

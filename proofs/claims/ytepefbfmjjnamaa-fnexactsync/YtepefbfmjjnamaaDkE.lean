/- Sync of the specification, of a disk without files. -/
import Derived.Test.YtepefbfmjjnamaaDkD
import Derived.Test.YtepefbfmjjnamaaDkX
import Derived.Deep.Cut
import Derived.Deep.Upon
namespace Go.Proofs.Ytepefbfmjjnamaa
open Go.RowKit Go.My Go.Lib
set_option linter.unusedVariables false

theorem emptyAt {B g : Nat} {w : World} (h : w.heap[g]? = some (.cells #[] 88 (0, 0))) (hB : B ≤ g) : FilesAt B (.slice (some ⟨g, 0, none⟩) 0 0) [] w :=
  ⟨rfl, .inr ⟨g, 0, #[], rfl, hB, h, Nat.le_refl _, Nat.zero_le _, rfl, rfl⟩⟩
theorem cell_alD {w : World} {p : Addr} {v : Value} {o : Obj} (h : w.cell? p = some v) : (w.alloc o).cell? p = some v :=
  (((Below.refl w.heap.size w).alloc (Nat.le_refl _) o).cell (World.block_lt_of_cell? _ _ h)).trans h
/-- Nothing is appended: an operation of a region. -/
theorem step_appE {w : World} {ops : Array Oper} {o : Oper} {a : Act} {K : Act → World → Prop} {Q : Exit → Act → World → Prop} {E : Prop} {p q : Tmp} (hgd : o.guard = none)
    (ho : o.op = .call { callee := .builtin .append, args := #[.tmp p, .tmp q], argTypes := #[24, 24] }) (ao : Option Addr) (hs : a.eval (.tmp p) = .slice ao 0 0) (ax : Option Addr) (m : Nat) (hx : a.eval (.tmp q) = .slice ax 0 m)
    (h : K (a.put o.dst (.slice ao 0 0)) w) : if Region.wanted o (yielded ops a.tmps) = true then Oper.wp Try.prog o a w K Q else E := by
  have hw : Region.wanted o (yielded ops a.tmps) = true := by simp [Region.wanted, hgd]
  rw [if_pos hw]
  obtain ⟨i0, hi, hz0, hz1, hz2⟩ := info_parts info_File
  have src : Src Try.prog i0.size 24 (.slice ax 0 m) 0 [] w := by
    refine ⟨.inl ⟨_, Try.underlying24⟩, fun w' => ?_, ?_, ?_, by simp, fun u hu => by cases hu⟩
    · simp [Builtin.lenOf, go_sem]
    · cases ax <;> simp [Builtin.firstCells, go_sem]
    · cases ax <;> simp [Builtin.firstCells, go_sem]
  have hrun := run_append_nothing (P := Try.prog) w 24 24 o.type 88 i0 Try.underlying24 hi ao 0 0 (Nat.le_refl _) (.slice ax 0 m) src
  unfold Oper.wp
  simp [execOp, ho, resolve, invoke, builtin, hs, hx, hrun, Result.andThen]
  exact h
theorem cell_dr {w : World} {p : Addr} {v : Value} (h : w.cell? p = some v) : w.drew.cell? p = some v := h
set_option maxRecDepth 20000 in
set_option maxHeartbeats 1500000 in
theorem syncE_s (v1 v2 v3 : Value) (d : DiskT) (w : World) (h : DiskAt 0 v1 v2 v3 d w) (hd : d.fit) (hn : d.live = []) :
    Calls Try.prog 42 #[.agg #[v1, v2, v3]] w fun e w' => ∃ u1 u2 u3, e = .returned (.agg #[u1, u2, u3]) ∧ DiskAt w.heap.size u1 u2 u3 (syncV d) w' ∧ Below w.heap.size w w' := by
  have C := Lib.hid (fun W (hW : Below w.heap.size w W) => disk_s v1 v2 v3 d W (h.below hW) hd)
  have HL := Lib.hid hd.small
  have H := Lib.hid h
  obtain ⟨p1, m1, rfl, _, _, _⟩ := h.live.open
  have HN := Lib.hid hn
  clear hn
  obtain ⟨p2, m2, rfl, _, _, _⟩ := h.safe.open
  obtain ⟨p3, m3, rfl, _, _, _⟩ := h.ops.open
  clear h hd
  go_enter Try.func42, Try.ntmps42
  go_wp2_with fail
  refine (C.out _ ?_).mono ?_
  · exact ((Below.refl _ _).alloc (Nat.le_refl _) _).alloc (by simp) _
  rintro e w2 ⟨rfl, hb2⟩
  obtain ⟨hB2, xA, xR⟩ := boxes2 w _ _ _ hb2
  have HB2 := Lib.hid hB2
  have HXR := Lib.hid (And.intro xA xR)
  have hlt2 : w.heap.size + 1 < w2.heap.size := (Array.getElem?_eq_some_iff.1 xR).1
  obtain ⟨⟨r0, r1, r2⟩, rf⟩ := dk_cells xR
  obtain ⟨⟨b0, b1, b2⟩, _⟩ := dk_cells xA
  have rf0 := rf 0
  have rf1 := rf 1
  have rf2 := rf 2
  clear hb2 C hB2 xA xR rf
  cases hk : diskB d with
  | false =>
    have HV := Lib.hid (syncV_no hk)
    clear hk
    go_wp2
    have gz := grw_set3 w2 (w.heap.size + 1) (.slice none 0 0) (.slice none 0 0) (.slice none 0 0)
    refine bodyPost_ret (v := .agg #[.slice none 0 0, .slice none 0 0, .slice none 0 0]) (results_cell_row Try.results42 _ _ (w.heap.size + 1) 27 _ (0, 0) _ rfl (set3 HXR.out.2 (.slice none 0 0) (.slice none 0 0) (.slice none 0 0)) Try.underlying27 rfl (by kernel_rfl)) rfl ⟨_, _, _, rfl, by rw [HV.out]; exact nilDisk _ _, below_grw HB2.out gz HB2.out.size (fun q hq => by cases hq; omega)⟩
  | true =>
    have HV := Lib.hid (syncV_yes hk)
    clear hk
    have hn0 : d.live.length = 0 := by rw [HN.out]; rfl
    rw [hn0] at b0 ⊢
    clear hn0
    have hb3 : Below w2.heap.size w2 ((w2.alloc (.cells #[] 88)).alloc (.cells #[] 88)) := ((Below.refl _ _).alloc (Nat.le_refl _) _).alloc (by simp) _
    have xX := (hb3.block (w.heap.size + 1) hlt2).trans HXR.out.2
    have cy := dk_cells xX
    have s0 := cy.1.1
    have s1 := cy.1.2.1
    have s2 := cy.1.2.2
    have sf0 := cy.2 0
    have sf1 := cy.2 1
    have sf2 := cy.2 2
    have HXX := Lib.hid (And.intro hb3 xX)
    clear cy xX hb3 r0 r1 r2 rf0 rf1 rf2
    go_upto_region 3 with (fail)
    go_region_held3 (fun w' => w'.cell? ⟨w.heap.size, 0, none⟩ = some (.slice p1 0 m1)) (repeat (first | with_reducible exact b0 | with_reducible refine cell_alD ?_ | with_reducible refine cell_dr ?_ | with_reducible refine cell_set3 _ _ _ (by omega) ?_)) (first
      | (apply step_appE (p := 7) (q := 9) (ax := p1) (m := m1); (case ho => rfl); (case hgd => rfl); (case hs => rfl); (case hx => rfl))
      | (apply step_appE (p := 11) (q := 13) (ax := p1) (m := m1); (case ho => rfl); (case hgd => rfl); (case hs => rfl); (case hx => rfl)))
    all_goals
      go_wp2
      have g1 : ((w2.alloc (.cells #[] 88)).alloc (.cells #[] 88)).heap[w2.heap.size]? = some (.cells #[] 88 (0, 0)) := (((Below.refl (w2.alloc (.cells #[] 88)).heap.size (w2.alloc (.cells #[] 88))).alloc (Nat.le_refl _) (.cells #[] 88)).block w2.heap.size (by simp)).trans (heap_alloc_new w2 _)
      have g2 : ((w2.alloc (.cells #[] 88)).alloc (.cells #[] 88)).heap[w2.heap.size + 1]? = some (.cells #[] 88 (0, 0)) := by
        have h9 := heap_alloc_new (w2.alloc (.cells #[] 88)) (.cells #[] 88)
        have e9 : (w2.alloc (.cells #[] 88)).heap.size = w2.heap.size + 1 := by simp
        rw [e9] at h9
        exact h9
      have hBX := HB2.out.trans (HXX.out.1.mono HB2.out.size)
      have hw2 := HB2.out.size
      have hXR := HXX.out.2
      generalize (w2.alloc (.cells #[] 88)).alloc (.cells #[] 88) = X at g1 g2 hBX hXR ⊢
      have hz : ∀ a b : Value, ((((X.setCell ⟨w.heap.size + 1, 0, none⟩ a).setCell ⟨w.heap.size + 1, 1, none⟩ b).setCell ⟨w.heap.size + 1, 2, none⟩ (.slice none 0 0)).drew).heap[w.heap.size + 1]? = some (.cells #[a, b, .slice none 0 0] 27 (0, 0)) := fun a b => set3 hXR a b _
      have hq : ∀ a b : Value, Below w.heap.size w ((((X.setCell ⟨w.heap.size + 1, 0, none⟩ a).setCell ⟨w.heap.size + 1, 1, none⟩ b).setCell ⟨w.heap.size + 1, 2, none⟩ (.slice none 0 0)).drew) := fun a b => (below_grw hBX (grw_set3 _ _ _ _ _) hBX.size (fun q hq => by cases hq; omega)).drew
      have hr : ∀ (a b v : Value), FilesAt w.heap.size v [] X → FilesAt w.heap.size v [] ((((X.setCell ⟨w.heap.size + 1, 0, none⟩ a).setCell ⟨w.heap.size + 1, 1, none⟩ b).setCell ⟨w.heap.size + 1, 2, none⟩ (.slice none 0 0)).drew) := fun a b v h => (RowL.kept h (grw_set3 _ _ _ _ _) (rowK h hXR (by decide))).below (Below.refl _ _).drew
      refine bodyPost_ret (results_cell_row Try.results42 _ _ (w.heap.size + 1) 27 _ (0, 0) _ rfl (hz _ _) Try.underlying27 rfl (by kernel_rfl)) rfl ⟨_, _, _, rfl, ?_, hq _ _⟩
      rw [HV.out, HN.out]
      refine ⟨hr _ _ _ ?_, hr _ _ _ ?_, RowL.nil _ _ _ _ _⟩
      · first
          | exact emptyAt g1 (by omega)
          | exact emptyAt g2 (by omega)
      · first
          | exact emptyAt g1 (by omega)
          | exact emptyAt g2 (by omega)

theorem syncD_s (v1 v2 v3 : Value) (d : DiskT) (w : World) (h : DiskAt 0 v1 v2 v3 d w) (hd : d.fit) :
    Calls Try.prog 42 #[.agg #[v1, v2, v3]] w fun e w' => ∃ u1 u2 u3, e = .returned (.agg #[u1, u2, u3]) ∧ DiskAt w.heap.size u1 u2 u3 (syncV d) w' ∧ Below w.heap.size w w' := by
  by_cases hn : d.live = []
  · exact syncE_s v1 v2 v3 d w h hd hn
  · exact syncN_s v1 v2 v3 d w h hd hn

end Go.Proofs.Ytepefbfmjjnamaa

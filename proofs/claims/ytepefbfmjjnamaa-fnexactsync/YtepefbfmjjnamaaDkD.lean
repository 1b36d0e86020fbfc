/- Sync of the specification. -/
import Derived.Test.YtepefbfmjjnamaaDkC
import Derived.Test.YtepefbfmjjnamaaDkX
import Derived.Deep.RegionLawGrows
import Derived.Deep.Cut
namespace Go.Proofs.Ytepefbfmjjnamaa
open Go.RowKit Go.My Go.Lib
set_option linter.unusedVariables false

/-- A list of files is appended to an empty slice: an operation of a region. -/
theorem step_appF {w : World} {ops : Array Oper} {o : Oper} {a : Act} {K : Act → World → Prop} {Q : Exit → Act → World → Prop} {E : Prop} {p q : Tmp} (hgd : o.guard = none)
    (ho : o.op = .call { callee := .builtin .append, args := #[.tmp p, .tmp q], argTypes := #[24, 24] }) (ao : Addr) (hs : a.eval (.tmp p) = .slice (some ao) 0 0) (v : Value) (l : List FileT) (hx : a.eval (.tmp q) = v) (hv : FilesAt 0 v l w) (hl : l ≠ []) (hl2 : l.length ≤ 1048576)
    (h : ∀ q2 n2 w', FilesAt w.heap.size (.slice q2 l.length n2) l w' → Below w.heap.size w w' → K (a.put o.dst (.slice q2 l.length n2)) w') :
    if Region.wanted o (yielded ops a.tmps) = true then Oper.wp Try.prog o a w K Q else E := by
  obtain ⟨i0, hi, hz0, hz1, hz2⟩ := info_parts info_File
  obtain ⟨pv, cap, rfl, _, _, hp⟩ := hv.open
  obtain ⟨g, rfl, _, _⟩ := hp.resolve_left (fun c => hl c.1)
  have h0 : 0 < l.length := List.length_pos_iff.2 hl
  refine step_append_grows hgd (.tmp p) (.tmp q) 24 ho 88 i0 (.agg #[.string ByteArray.empty, .string ByteArray.empty]) 2 32 Try.underlying24 hi hz0 hz1 hz2 rfl (by decide) (some ao) 0 0 [] hs (fun c => by cases c) rfl (fun b _ j u hu => by simp at hu) ⟨g, 0, none⟩ l.length cap (l.flatMap fileC) hx (by rw [flat_len fileC_len]) (World.ownsRow.cells hv (g := g) rfl) (flat_one l) (by omega) (by unfold maxLen; omega) (by omega) ?_
  intro v' w' hown hgrow
  have hr : FilesAt w.heap.size v' l w' := by
    have := hown
    rw [Nat.zero_add] at this
    exact this
  obtain ⟨q2, n2, rfl, _⟩ := hr.open
  exact h q2 n2 w' hr ((Below.refl _ _).grown hgrow (Nat.le_refl _) (fun q hq => by cases hq))

theorem cell_alN {w : World} {p : Addr} {v : Value} {o : Obj} (h : w.cell? p = some v) : (w.alloc o).cell? p = some v :=
  (((Below.refl w.heap.size w).alloc (Nat.le_refl _) o).cell (World.block_lt_of_cell? _ _ h)).trans h

set_option maxRecDepth 20000 in
set_option maxHeartbeats 4000000 in
theorem syncN_s (v1 v2 v3 : Value) (d : DiskT) (w : World) (h : DiskAt 0 v1 v2 v3 d w) (hd : d.fit) (hn : d.live ≠ []) :
    Calls Try.prog 42 #[.agg #[v1, v2, v3]] w fun e w' => ∃ u1 u2 u3, e = .returned (.agg #[u1, u2, u3]) ∧ DiskAt w.heap.size u1 u2 u3 (syncV d) w' ∧ Below w.heap.size w w' := by
  have C := Lib.hid (fun W (hW : Below w.heap.size w W) => disk_s v1 v2 v3 d W (h.below hW) hd)
  have HL := Lib.hid hd.small
  have H := Lib.hid h
  obtain ⟨p1, m1, rfl, _, _, _⟩ := h.live.open
  obtain ⟨p2, m2, rfl, _, _, _⟩ := h.safe.open
  obtain ⟨p3, m3, rfl, _, _, _⟩ := h.ops.open
  clear h hd
  go_enter Try.func42, Try.ntmps42
  go_wp2_with fail
  refine (C.out _ ?_).mono ?_
  · exact ((Below.refl _ _).alloc (Nat.le_refl _) _).alloc (by simp) _
  rintro e w2 ⟨rfl, hb2⟩
  obtain ⟨hB2, xA, xR⟩ := boxes2 w _ _ _ hb2
  have HB2 := Lib.hid hB2
  have HXR := Lib.hid (And.intro xA xR)
  have hlt2 : w.heap.size + 1 < w2.heap.size := (Array.getElem?_eq_some_iff.1 xR).1
  obtain ⟨⟨r0, r1, r2⟩, rf⟩ := dk_cells xR
  obtain ⟨⟨b0, b1, b2⟩, _⟩ := dk_cells xA
  have rf0 := rf 0
  have rf1 := rf 1
  have rf2 := rf 2
  clear hb2 C hB2 xA xR rf
  cases hk : diskB d with
  | false =>
    have HV := Lib.hid (syncV_no hk)
    clear hk
    go_wp2
    have gz := grw_set3 w2 (w.heap.size + 1) (.slice none 0 0) (.slice none 0 0) (.slice none 0 0)
    refine bodyPost_ret (v := .agg #[.slice none 0 0, .slice none 0 0, .slice none 0 0]) (results_cell_row Try.results42 _ _ (w.heap.size + 1) 27 _ (0, 0) _ rfl (set3 HXR.out.2 (.slice none 0 0) (.slice none 0 0) (.slice none 0 0)) Try.underlying27 rfl (by kernel_rfl)) rfl ⟨_, _, _, rfl, by rw [HV.out]; exact nilDisk _ _, below_grw HB2.out gz HB2.out.size (fun q hq => by cases hq; omega)⟩
  | true =>
    have HV := Lib.hid (syncV_yes hk)
    clear hk
    have k1 := H.out.live.below HB2.out
    have hBx : Below w2.heap.size w2 w2 := Below.refl _ _
    have HN := Lib.hid hn
    clear hn
    go_upto_region 3 with (fail)
    go_region_held3 (fun w' => w'.cell? ⟨w.heap.size, 0, none⟩ = some (.slice p1 d.live.length m1)) (first | exact b0 | exact cell_alN (by assumption) | exact cell_set3 _ _ _ (by omega) b0) (first
      | (apply step_appF (p := 7) (q := 9) (v := .slice p1 d.live.length m1) (l := d.live); (case ho => rfl); (case hgd => rfl); (case hs => rfl); (case hx => rfl); (case hl => exact HN.out); (case hl2 => exact HL.out.live); (case hv => exact RowL.below k1 (by repeat (first | exact Below.refl _ _ | refine Below.drew ?_ | refine Below.alloc ?_ (by first | exact Nat.le_refl _ | (simp; done) | (simp; omega)) _))); intro q1 n1 wz f1 hbz; have f1 : FilesAt w.heap.size (.slice q1 d.live.length n1) d.live wz := f1.mono (by have h1 := HB2.out.size; have h2 := hBx.size; first | omega | (simp; omega)); have hbq : Below w2.heap.size w2 wz := Below.trans (by repeat (first | exact hBx | refine Below.drew ?_ | refine Below.alloc ?_ (by have := hBx.size; first | omega | (simp; done) | (simp; omega)) _)) (hbz.mono (by have := hBx.size; first | omega | (simp; done) | (simp; omega))); have hBx := hbq; have k1 := RowL.below (H.out.live.below HB2.out) hbq; have xA := (hbq.block w.heap.size (by omega)).trans HXR.out.1; have xR := (hbq.block (w.heap.size + 1) hlt2).trans HXR.out.2; have b0 := (dk_cells xA).1.1; have cy := dk_cells xR; have r0 := cy.1.1; have r1 := cy.1.2.1; have r2 := cy.1.2.2; have rf0 := cy.2 0; have rf1 := cy.2 1; have rf2 := cy.2 2; clear cy xA hbq)
      | (apply step_appF (p := 11) (q := 13) (v := .slice p1 d.live.length m1) (l := d.live); (case ho => rfl); (case hgd => rfl); (case hs => rfl); (case hx => rfl); (case hl => exact HN.out); (case hl2 => exact HL.out.live); (case hv => exact RowL.below k1 (by repeat (first | exact Below.refl _ _ | refine Below.drew ?_ | refine Below.alloc ?_ (by first | exact Nat.le_refl _ | (simp; done) | (simp; omega)) _))); intro q2 n2 wz f2 hbz; have f2 : FilesAt w.heap.size (.slice q2 d.live.length n2) d.live wz := f2.mono (by have h1 := HB2.out.size; have h2 := hBx.size; first | omega | (simp; omega)); have f1 := RowL.below f1 (by exact Below.trans (by repeat (first | exact Below.refl _ _ | refine Below.drew ?_ | refine Below.alloc ?_ (by first | exact Nat.le_refl _ | (simp; done) | (simp; omega)) _)) (hbz.mono (by first | exact Nat.le_refl _ | (simp; done) | (simp; omega)))); have hbq : Below w2.heap.size w2 wz := Below.trans (by repeat (first | exact hBx | refine Below.drew ?_ | refine Below.alloc ?_ (by have := hBx.size; first | omega | (simp; done) | (simp; omega)) _)) (hbz.mono (by have := hBx.size; first | omega | (simp; done) | (simp; omega))); have hBx := hbq; have k1 := RowL.below (H.out.live.below HB2.out) hbq; have xA := (hbq.block w.heap.size (by omega)).trans HXR.out.1; have xR := (hbq.block (w.heap.size + 1) hlt2).trans HXR.out.2; have b0 := (dk_cells xA).1.1; have cy := dk_cells xR; have r0 := cy.1.1; have r1 := cy.1.2.1; have r2 := cy.1.2.2; have rf0 := cy.2 0; have rf1 := cy.2 1; have rf2 := cy.2 2; clear cy xA hbq))
    all_goals
      go_wp2
      have gz := grw_set3 wz (w.heap.size + 1) (.slice q1 d.live.length n1) (.slice q2 d.live.length n2) (.slice none 0 0)
      have hBz : Below w.heap.size w wz := HB2.out.trans (hBx.mono HB2.out.size)
      refine bodyPost_ret (v := .agg #[.slice q1 d.live.length n1, .slice q2 d.live.length n2, .slice none 0 0]) (results_cell_row Try.results42 _ _ (w.heap.size + 1) 27 _ (0, 0) _ rfl (set3 xR _ _ _) Try.underlying27 rfl (by kernel_rfl)) rfl ⟨_, _, _, rfl, by rw [HV.out]; exact ⟨RowL.kept f1 gz (rowK f1 xR (by decide)), RowL.kept f2 gz (rowK f2 xR (by decide)), RowL.nil _ _ _ _ _⟩, below_grw hBz gz hBz.size (fun q hq => by cases hq; omega)⟩

end Go.Proofs.Ytepefbfmjjnamaa

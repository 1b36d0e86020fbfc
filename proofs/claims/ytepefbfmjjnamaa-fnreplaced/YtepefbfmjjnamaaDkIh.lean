/- The program: an operation on a drive that is done. -/
import Derived.Test.YtepefbfmjjnamaaDkIg
import Derived.Test.YtepefbfmjjnamaaDkHa
namespace Go.Proofs.Ytepefbfmjjnamaa
open Go.RowKit Go.My Go.Lib
set_option linter.unusedVariables false

theorem own_below {B e size n : Nat} {v : Value} {xs : List Value} {w w' : World} (h : w.ownsRow B e size v n xs) (hb : Below w.heap.size w w') : w'.ownsRow B e size v n xs :=
  World.ownsRow.kept (row := none) h ⟨hb.os, hb.tape, hb.output, hb.size, fun k hk _ => hb.block k hk⟩ (by cases v.ownBlock <;> simp)
/-- What an operation leaves as it was: every block but the drive's own and that of its operations; of these what the elder lists hold. -/
def Kd (dv : Nat) (vo : Value) (n : Nat) (w w' : World) : Prop := (∀ k, k < w.heap.size → k ≠ dv → vo.ownBlock ≠ some k → w'.heap[k]? = w.heap[k]?) ∧ Eld 36 4 vo.ownBlock n w w'
set_option maxRecDepth 20000 in
set_option maxHeartbeats 2000000 in
theorem do_goodk (B dv : Nat) (vl vs vo : Value) (l : List FileT) (ops : List DOpT) (k : Int) (n t d : ByteArray) (w : World) (h : DrvRow B dv vl vs vo l ops w) (hf : filesB l = true) (ho : ops.length ≤ 1048576) (hn : n.size ≤ 1048580) (ht : t.size ≤ 1048580) (hd : d.size ≤ 1048576) (hc : doC l ops (k, n, t, d) = 0) (hBw : B ≤ w.heap.size) :
    Calls Try.prog 65 #[.pointer (some ⟨dv, 0, none⟩), .agg #[.int .i64 k, .string n, .string t, .string d]] w fun e w' => e = .returned (.int .i64 0) ∧ (∃ vl' vo', DrvRow B dv vl' vs vo' (aftL l (k, n, t, d)) (ops ++ [(k, n, t, d)]) w' ∧ ∀ q, vo'.ownBlock = some q → vo.ownBlock = some q ∨ w.heap.size ≤ q) ∧ Below B w w' ∧ Kd dv vo ops.length w w' := by
  obtain ⟨h1, hBd, h3, h4, h5, h6, h7⟩ := h
  have hFB := filesB_of hf
  have hl : l.length ≤ 1048576 := by have := hFB.len; omega
  have hs : Sorted l := sorted_of hf
  have hdlt : dv < w.heap.size := (Array.getElem?_eq_some_iff.1 h1).1
  have hB : Below w.heap.size w (w.alloc (.cells #[.int .i64 k, .string n, .string t, .string d] 36)) := (Below.refl _ _).alloc (Nat.le_refl _) _
  have CO := Lib.hid (fun W => opOk_i k n t d W (by omega) (by omega))
  have CF := Lib.hid (fun W (hW : Below w.heap.size w W) => finds_i vl l k n t d W (h3.below hW) hl hs)
  have HCC : Hid (doC l ops (k, n, t, d) = (if opB (k, n, t, d) = false then 2 else if findB l (k, n, t, d) = false then 3 else if 200 ≤ ops.length then 4 else if filesB (aftL l (k, n, t, d)) = false then 4 else 0)) := rfl
  have D0 := Lib.hid (fun W (hW : Below w.heap.size w W) => show W.cell? ⟨dv, 0, none⟩ = some vl from cell_of_row W dv 0 _ _ (0, 0) ((hW.block dv hdlt).trans h1))
  have D2 := Lib.hid (fun W (hW : Below w.heap.size w W) => show W.cell? ⟨dv, 2, none⟩ = some vo from cell_of_row W dv 2 _ _ (0, 0) ((hW.block dv hdlt).trans h1))
  obtain ⟨p, cap, rfl, _⟩ := h3.open
  obtain ⟨po, capo, rfl, _⟩ := h4.open
  have hc' := hc
  unfold doC at hc'
  have c1 : opB (k, n, t, d) = true := by cases c : opB (k, n, t, d) with
    | true => rfl
    | false => rw [if_pos c] at hc'; omega
  rw [if_neg (by rw [c1]; decide)] at hc'
  have c2 : findB l (k, n, t, d) = true := by cases c : findB l (k, n, t, d) with
    | true => rfl
    | false => rw [if_pos c] at hc'; omega
  rw [if_neg (by rw [c2]; decide)] at hc'
  by_cases c3 : 200 ≤ ops.length
  · rw [if_pos c3] at hc'; omega
  rw [if_neg c3] at hc'
  have c4 : filesB (aftL l (k, n, t, d)) = true := by cases c : filesB (aftL l (k, n, t, d)) with
    | true => rfl
    | false => rw [if_pos c] at hc'; omega
  have c3' : ¬ (200 : Int) ≤ (ops.length : Int) := by omega
  have hoI : (ops.length : Int) < 200 := by omega
  rw [c1] at CO
  rw [c2] at CF
  have HSM := Lib.hid (opDo_small hFB (show opDo l (k, n, t, d) = some (aftL l (k, n, t, d)) by rw [opDo_aft, if_pos c2]) hn ht hd)
  have CA := Lib.hid (fun W (hW : Below w.heap.size w W) => after_i _ l k n t d W (h3.below hW) hl hs (by omega) (by have := dataOf_le l n; have := hFB.sum; omega))
  have CK := Lib.hid (fun u W (hW : FilesAt 0 u (aftL l (k, n, t, d)) W) => ok_i u (aftL l (k, n, t, d)) W hW (by have := HSM.out.1; omega) (by have := HSM.out.2.1; omega) (fun a ha => by have := HSM.out.2.2 a ha; omega))
  rw [c4] at CK
  generalize aftL l (k, n, t, d) = A at *
  have H4 := Lib.hid h4
  have H1 := Lib.hid h1
  have H6 := Lib.hid h6
  have HBD := Lib.hid (And.intro hBd hBw)
  clear h3 h4 h7 hf c1 c2 c4 hc hc' HCC hn ht hd hl hFB hs h5 h6 h1 hBd hBw ho
  go_enter Try.func65, Try.ntmps65
  go_wp2_with fail
  refine (CO.out _).mono ?_
  rintro e w2 ⟨rfl, hb2⟩
  obtain ⟨hB2, bx2⟩ := boxes1 w _ _ hb2
  have b0 : w2.cell? ⟨w.heap.size, 0, none⟩ = some (.int .i64 k) := cell_of_row w2 _ 0 _ _ (0, 0) bx2
  have b1 : w2.cell? ⟨w.heap.size, 1, none⟩ = some (.string n) := cell_of_row w2 _ 1 _ _ (0, 0) bx2
  have b2 : w2.cell? ⟨w.heap.size, 2, none⟩ = some (.string t) := cell_of_row w2 _ 2 _ _ (0, 0) bx2
  have b3 : w2.cell? ⟨w.heap.size, 3, none⟩ = some (.string d) := cell_of_row w2 _ 3 _ _ (0, 0) bx2
  have d0 := D0.out w2 hB2
  have hBx : Below w.heap.size w w2 := hB2
  clear hb2 hB
  have HX := Lib.hid bx2
  clear bx2
  go_wp2_with fail
  go_region_held3 (fun w' => w'.cell? ⟨w.heap.size, 0, none⟩ = some (.int .i64 k) ∧ w'.cell? ⟨w.heap.size, 1, none⟩ = some (.string n) ∧ w'.cell? ⟨w.heap.size, 2, none⟩ = some (.string t) ∧ w'.cell? ⟨w.heap.size, 3, none⟩ = some (.string d) ∧ w'.cell? ⟨dv, 0, none⟩ = some (.slice p l.length cap)) (exact ⟨b0, b1, b2, b3, d0⟩) ((go_at_call 101; refine (CF.out _ (by first | exact hBx | exact hBx.drew)).mono ?_; rintro e w3 ⟨rfl, hb3⟩; have b0 := (hb3.cell (p := ⟨w.heap.size, 0, none⟩) (World.block_lt_of_cell? _ _ b0)).trans b0; have b1 := (hb3.cell (p := ⟨w.heap.size, 1, none⟩) (World.block_lt_of_cell? _ _ b1)).trans b1; have b2 := (hb3.cell (p := ⟨w.heap.size, 2, none⟩) (World.block_lt_of_cell? _ _ b2)).trans b2; have b3 := (hb3.cell (p := ⟨w.heap.size, 3, none⟩) (World.block_lt_of_cell? _ _ b3)).trans b3; have d0 := (hb3.cell (p := ⟨dv, 0, none⟩) (World.block_lt_of_cell? _ _ d0)).trans d0; have hBx := below_nx hb3 (by first | exact hBx | exact hBx.drew) (by exact hBx.size)))
  have d2 := D2.out _ (by first | exact hBx | exact hBx.drew)
  go_wp2_with fail
  go_region_held3 (fun w' => w'.cell? ⟨w.heap.size, 0, none⟩ = some (.int .i64 k) ∧ w'.cell? ⟨w.heap.size, 1, none⟩ = some (.string n) ∧ w'.cell? ⟨w.heap.size, 2, none⟩ = some (.string t) ∧ w'.cell? ⟨w.heap.size, 3, none⟩ = some (.string d) ∧ w'.cell? ⟨dv, 0, none⟩ = some (.slice p l.length cap)) (exact ⟨b0, b1, b2, b3, d0⟩) ((go_at_call 102; refine (CA.out _ (by first | exact hBx | exact hBx.drew)).mono ?_; rintro e w4 ⟨u, rfl, hr, hb3⟩; have b0 := (hb3.cell (p := ⟨w.heap.size, 0, none⟩) (World.block_lt_of_cell? _ _ b0)).trans b0; have b1 := (hb3.cell (p := ⟨w.heap.size, 1, none⟩) (World.block_lt_of_cell? _ _ b1)).trans b1; have b2 := (hb3.cell (p := ⟨w.heap.size, 2, none⟩) (World.block_lt_of_cell? _ _ b2)).trans b2; have b3 := (hb3.cell (p := ⟨w.heap.size, 3, none⟩) (World.block_lt_of_cell? _ _ b3)).trans b3; have d0 := (hb3.cell (p := ⟨dv, 0, none⟩) (World.block_lt_of_cell? _ _ d0)).trans d0; have hr0 := hr.mono (show w.heap.size ≤ _ from by exact hBx.size); have hBx := below_nx hb3 (by first | exact hBx | exact hBx.drew) (by exact hBx.size)))
  have d2 := D2.out _ (by first | exact hBx | exact hBx.drew)
  go_wp2_with fail
  refine (CK.out _ _ (by exact hr0.mono (Nat.zero_le _))).mono ?_
  rintro e w5 ⟨rfl, hb5⟩
  have hB5 := below_nx hb5 (by first | exact hBx | exact hBx.drew) (by exact hBx.size)
  have hr5 := hr0.below hb5
  have hrB := hr
  obtain ⟨pu, capu, rfl, _⟩ := hr5.open
  have hdlt5 : dv < w.heap.size := hdlt
  have e5 : w5.heap[dv]? = some (.cells #[.slice p l.length cap, vs, .slice po ops.length capo] 79 (0, 0)) := (hB5.block dv hdlt).trans H1.out
  have d0 := D0.out w5 hB5
  have f0 : w5.frozen? ⟨dv, 0, none⟩ = false := frozen_of_row w5 dv 0 _ _ e5
  have HO5 := Lib.hid (H4.out.below hB5)
  obtain ⟨W6, hW6⟩ : ∃ W6, W6 = w5.setCell ⟨dv, 0, none⟩ (.slice pu A.length capu) := ⟨_, rfl⟩
  have e6 : W6.heap[dv]? = some (.cells #[.slice pu A.length capu, vs, .slice po ops.length capo] 79 (0, 0)) := by rw [hW6]; exact heap_setCell_same w5 dv 0 _ _ _ e5
  have g6 : w5.grownBy W6 (some dv) := by rw [hW6]; exact grw_set (grw_refl _ _) _ _
  have HO6 : Hid (OpsAt B (.slice po ops.length capo) ops W6) := RowL.kept HO5.out g6 (by
    cases c : (Value.slice po ops.length capo).ownBlock with
    | none => exact .inl rfl
    | some q => exact .inr (fun e => H6.out (by rw [c]; exact e)))
  have lift : ∀ j v, w4.cell? ⟨w.heap.size, j, none⟩ = some v → W6.cell? ⟨w.heap.size, j, none⟩ = some v := fun j v hc => by
    have c5 := (hb5.cell (p := ⟨w.heap.size, j, none⟩) (World.block_lt_of_cell? _ _ hc)).trans hc
    rw [hW6, World.cell?_setCell_other _ _ _ _ (by intro c; injection c with c1; omega)]
    exact c5
  have B0 := lift _ _ b0
  have B1 := lift _ _ b1
  have B2 := lift _ _ b2
  have B3 := lift _ _ b3
  have d2' : W6.cell? ⟨dv, 2, none⟩ = some (.slice po ops.length capo) := cell_of_row W6 dv 2 _ _ (0, 0) e6
  have f2 : W6.frozen? ⟨dv, 2, none⟩ = false := frozen_of_row W6 dv 2 _ _ e6
  obtain ⟨i0, hi, hz0, hz1, hz2⟩ := info_parts info_DOp
  have hR6 : W6.ownsRow B 36 4 (.slice po ops.length capo) ops.length (ops.flatMap dOpC) := HO6.out
  have hB6 : B ≤ W6.heap.size := by have := HBD.out.2; have := hB5.size; have := g6.size; omega
  have hdlt6 : dv < W6.heap.size := (Array.getElem?_eq_some_iff.1 e6).1
  have hne6 : (Value.slice po ops.length capo).ownBlock ≠ some dv := H6.out
  have HB5 := Lib.hid hB5
  have HR5 := Lib.hid hr5
  have HG6 := Lib.hid g6
  have FIN := Lib.hid (show ∀ (w7 : World) (g2 cap2 : Nat), w7.ownsRow B 36 4 (.slice (some ⟨g2, 0, none⟩) (ops.length + 1) cap2) (ops.length + 1) (ops.flatMap dOpC ++ [.int .i64 k, .string n, .string t, .string d]) → ((W6.alloc (.cells #[.int .i64 k, .string n, .string t, .string d] 36)).drew).grownBy w7 (Value.slice po ops.length capo).ownBlock → ((Value.slice po ops.length capo).ownBlock = some g2 ∨ g2 = W6.heap.size + 1) → w7.heap[dv]? = some (.cells #[.slice pu A.length capu, vs, .slice po ops.length capo] 79 (0, 0)) → Eld 36 4 (Value.slice po ops.length capo).ownBlock ops.length ((W6.alloc (.cells #[.int .i64 k, .string n, .string t, .string d] 36)).drew) w7 →
      (∃ vl' vo', DrvRow B dv vl' vs vo' A (ops ++ [(k, n, t, d)]) (w7.setCell ⟨dv, 2, none⟩ (.slice (some ⟨g2, 0, none⟩) (ops.length + 1) cap2)) ∧ ∀ q, vo'.ownBlock = some q → (Value.slice po ops.length capo).ownBlock = some q ∨ w.heap.size ≤ q) ∧ Below B w (w7.setCell ⟨dv, 2, none⟩ (.slice (some ⟨g2, 0, none⟩) (ops.length + 1) cap2)) ∧ Kd dv (.slice po ops.length capo) ops.length w (w7.setCell ⟨dv, 2, none⟩ (.slice (some ⟨g2, 0, none⟩) (ops.length + 1) cap2)) from fun w7 g2 cap2 hown hgr hat e7 hel => by
    have s5 : w.heap.size ≤ w5.heap.size := HB5.out.size
    have s6 : w5.heap.size ≤ W6.heap.size := HG6.out.size
    have hvo : ∀ q, (Value.slice po ops.length capo).ownBlock = some q → B ≤ q ∧ q < w.heap.size := fun q hq => World.ownsRow.lt H4.out q hq
    have hvl : ∀ q, (Value.slice pu A.length capu).ownBlock = some q → w.heap.size ≤ q ∧ q < w5.heap.size := fun q hq => World.ownsRow.lt HR5.out q hq
    have hg2 : g2 ≠ dv := by
      rcases hat with hh | hh
      · intro c; exact hne6 (by rw [hh, c])
      · omega
    have hvld : (Value.slice pu A.length capu).ownBlock = none ∨ (Value.slice pu A.length capu).ownBlock ≠ some dv := by
      cases c : (Value.slice pu A.length capu).ownBlock with
      | none => exact .inl rfl
      | some q => exact .inr (fun e => by have := (hvl q c).1; have := Option.some.inj e; omega)
    have hvlo : (Value.slice pu A.length capu).ownBlock = none ∨ (Value.slice pu A.length capu).ownBlock ≠ (Value.slice po ops.length capo).ownBlock := by
      cases c : (Value.slice pu A.length capu).ownBlock with
      | none => exact .inl rfl
      | some q => exact .inr (fun e => by have := (hvl q c).1; have := (hvo q e.symm).2; omega)
    have f6 : FilesAt w.heap.size (.slice pu A.length capu) A W6 := RowL.kept HR5.out HG6.out hvld
    have b6 := (Below.refl W6.heap.size W6).alloc (Nat.le_refl _) (.cells #[.int .i64 k, .string n, .string t, .string d] 36)
    have gA : W6.grownBy w7 (Value.slice po ops.length capo).ownBlock := grw_trans (grw_drew (grw_of_below b6 _)) hgr
    have f7 : FilesAt w.heap.size (.slice pu A.length capu) A w7 := RowL.kept f6 gA hvlo
    have gZ : w7.grownBy (w7.setCell ⟨dv, 2, none⟩ (.slice (some ⟨g2, 0, none⟩) (ops.length + 1) cap2)) (some dv) := grw_set (grw_refl _ _) _ _
    have f8 := RowL.kept f7 gZ hvld
    have o7 : OpsAt B (.slice (some ⟨g2, 0, none⟩) (ops.length + 1) cap2) (ops ++ [(k, n, t, d)]) w7 := by
      show World.ownsRow _ _ _ _ _ _ _
      rw [List.flatMap_append, List.length_append]
      simpa [dOpC] using hown
    have o8 : OpsAt B (.slice (some ⟨g2, 0, none⟩) (ops.length + 1) cap2) (ops ++ [(k, n, t, d)]) _ := RowL.kept o7 gZ (.inr (fun e => hg2 (Option.some.inj e)))
    refine ⟨⟨_, _, ⟨heap_setCell_same w7 dv 2 _ _ _ e7, HBD.out.1, f8.mono (Nat.zero_le _), o8, ?_, fun e => hg2 (Option.some.inj e), ?_⟩, ?_⟩, ?_, ?_, ?_⟩
    · rcases hvld with hh | hh
      · rw [hh]; intro c; cases c
      · exact hh
    · cases c : (Value.slice pu A.length capu).ownBlock with
      | none => exact .inl rfl
      | some q =>
        refine .inr (fun e => ?_)
        have h1 := hvl q c
        have h2 : q = g2 := Option.some.inj e
        rcases hat with hh | hh
        · have := (hvo g2 hh).2; omega
        · omega
    · intro q hq
      have hq : g2 = q := Option.some.inj hq
      subst hq
      rcases hat with hh | hh
      · exact .inl hh
      · exact .inr (by omega)
    · have bB : Below B w w5 := HB5.out.mono HBD.out.2
      have bB6 : Below B w W6 := below_grw bB HG6.out (by have := HBD.out.2; omega) (fun q hq => by cases hq; exact HBD.out.1)
      have bB7 : Below B w w7 := below_grw bB6 gA hB6 (fun q hq => (hvo q hq).1)
      exact below_grw bB7 gZ (by have := gA.size; omega) (fun q hq => by cases hq; exact HBD.out.1)
    · intro k hk h1 h2
      rw [gZ.block k (by have := gA.size; omega) (fun c => h1 (Option.some.inj c)), gA.block k (by omega) (fun c => h2 c.symm), HG6.out.block k (by omega) (fun c => h1 (Option.some.inj c)), HB5.out.block k hk]
    · intro B0 v0 n0 xs0 hv0 hn0 h0
      have nd : v0.ownBlock = none ∨ v0.ownBlock ≠ some dv := .inr (fun c => hne6 (hv0.symm.trans c))
      have k1 := own_below h0 HB5.out
      have k2 := World.ownsRow.kept k1 HG6.out nd
      have k3 := World.ownsRow.kept k2 (grw_drew (grw_of_below b6 none)) (by cases v0.ownBlock <;> simp)
      exact World.ownsRow.kept (hel B0 v0 n0 xs0 hv0 hn0 k3) gZ nd)
  clear hr0 hrB lift b0 b1 b2 b3
  go_wp2_with fail
  rw [← hW6]
  clear hW6 d0 d2 f0 e5
  have mixed : (Try.prog).follows .mixedOrders = true := by kernel_rfl
  have E7 := Lib.hid (show ∀ w7 : World, ((W6.alloc (.cells #[.int .i64 k, .string n, .string t, .string d] 36)).drew).grownBy w7 (Value.slice po ops.length capo).ownBlock → w7.heap[dv]? = some (.cells #[.slice pu A.length capu, vs, .slice po ops.length capo] 79 (0, 0)) from fun w7 hg7 => by
    have b := (Below.refl W6.heap.size W6).alloc (Nat.le_refl _) (.cells #[.int .i64 k, .string n, .string t, .string d] 36)
    rw [hg7.block dv (by show dv < (W6.alloc _).heap.size; simp; omega) (Ne.symm hne6)]
    exact (b.block dv hdlt6).trans e6)
  go_region_law (refine step_append_eld _ (by rfl) _ _ _ (by rfl) B 36 i0 (.agg #[.int .i64 0, .string ByteArray.empty, .string ByteArray.empty, .string ByteArray.empty]) 4 56 Try.underlying25 hi hz0 hz1 hz2 rfl (by decide) (.slice po ops.length capo) ops.length _ (by rfl) ((hR6.alloc _).drew) ⟨W6.heap.size, 0, none⟩ 1 1 [_, _, _, _] (by rfl) (by rfl) (World.news_of_block (cs := #[_, _, _, _]) (t := 36) (fr := (0, 0)) (heap_alloc_new W6 _)) (by simp [Value.oneCell']) (by omega) (by unfold maxLen; omega) (by omega) (by simp; omega) (W6.heap.size + 1) (by simp) ?_; intro g2 cap2 w7 hown2 hgrow2 hat hlt2 hel2; have e7 := E7.out _ hgrow2; have d27 : w7.cell? ⟨dv, 2, none⟩ = some (.slice po ops.length capo) := cell_of_row w7 dv 2 _ _ (0, 0) e7; have f27 : w7.frozen? ⟨dv, 2, none⟩ = false := frozen_of_row w7 dv 2 _ _ e7)
  all_goals
    have hFIN := FIN.out w7 g2 cap2 hown2 hgrow2 hat e7 hel2
    go_wp2
    go_ret
    exact ⟨rfl, hFIN⟩

theorem do_good (B dv : Nat) (vs : Value) (l : List FileT) (ops : List DOpT) (k : Int) (n t d : ByteArray) (w : World) (h : DrvAt B dv vs l ops w) (hf : filesB l = true) (ho : ops.length ≤ 1048576) (hn : n.size ≤ 1048580) (ht : t.size ≤ 1048580) (hd : d.size ≤ 1048576) (hc : doC l ops (k, n, t, d) = 0) (hBw : B ≤ w.heap.size) :
    Calls Try.prog 65 #[.pointer (some ⟨dv, 0, none⟩), .agg #[.int .i64 k, .string n, .string t, .string d]] w fun e w' => e = .returned (.int .i64 0) ∧ DrvAt B dv vs (aftL l (k, n, t, d)) (ops ++ [(k, n, t, d)]) w' ∧ Below B w w' := by
  obtain ⟨vl, vo, hr⟩ := h
  refine (do_goodk B dv vl vs vo l ops k n t d w hr hf ho hn ht hd hc hBw).mono ?_
  rintro e w' ⟨rfl, ⟨vl', vo', h1, _⟩, h2, _⟩
  exact ⟨rfl, ⟨vl', vo', h1⟩, h2⟩

end Go.Proofs.Ytepefbfmjjnamaa

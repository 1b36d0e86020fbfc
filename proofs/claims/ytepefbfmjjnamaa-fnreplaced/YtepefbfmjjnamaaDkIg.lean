/- The program: an operation on a drive. -/
import Derived.Test.YtepefbfmjjnamaaDkIe
import Derived.Test.YtepefbfmjjnamaaDkIf
namespace Go.Proofs.Ytepefbfmjjnamaa
open Go.RowKit Go.My Go.Lib
set_option linter.unusedVariables false

/-- A drive: the files that are read, those that are safe, the operations since. -/
def DrvRow (B dv : Nat) (vl vs vo : Value) (l : List FileT) (ops : List DOpT) (w : World) : Prop :=
  w.heap[dv]? = some (.cells #[vl, vs, vo] 79 (0, 0)) ∧ B ≤ dv ∧ FilesAt 0 vl l w ∧ OpsAt B vo ops w ∧ vl.ownBlock ≠ some dv ∧ vo.ownBlock ≠ some dv ∧ (vl.ownBlock = none ∨ vl.ownBlock ≠ vo.ownBlock)
def DrvAt (B dv : Nat) (vs : Value) (l : List FileT) (ops : List DOpT) (w : World) : Prop :=
  ∃ vl vo, w.heap[dv]? = some (.cells #[vl, vs, vo] 79 (0, 0)) ∧ B ≤ dv ∧ FilesAt 0 vl l w ∧ OpsAt B vo ops w ∧ vl.ownBlock ≠ some dv ∧ vo.ownBlock ≠ some dv ∧ (vl.ownBlock = none ∨ vl.ownBlock ≠ vo.ownBlock)
theorem DrvAt.below {B dv : Nat} {vs : Value} {l : List FileT} {ops : List DOpT} {w w' : World} (h : DrvAt B dv vs l ops w) (hb : Below w.heap.size w w') : DrvAt B dv vs l ops w' := by
  obtain ⟨vl, vo, h1, h2, h3, h4, h5, h6, h7⟩ := h
  exact ⟨vl, vo, (hb.block dv (Array.getElem?_eq_some_iff.1 h1).1).trans h1, h2, h3.below hb, h4.below hb, h5, h6, h7⟩
/-- The answer of an operation. -/
def doC (l : List FileT) (ops : List DOpT) (op : DOpT) : Int :=
  if opB op = false then 2 else if findB l op = false then 3 else if 200 ≤ ops.length then 4 else if filesB (aftL l op) = false then 4 else 0
def doL (l : List FileT) (ops : List DOpT) (op : DOpT) : List FileT := if doC l ops op = 0 then aftL l op else l
def doO (l : List FileT) (ops : List DOpT) (op : DOpT) : List DOpT := if doC l ops op = 0 then ops ++ [op] else ops

set_option maxRecDepth 20000 in
set_option maxHeartbeats 2000000 in
theorem do_bad (B dv : Nat) (vs : Value) (l : List FileT) (ops : List DOpT) (k : Int) (n t d : ByteArray) (w : World) (h : DrvAt B dv vs l ops w) (hf : filesB l = true) (ho : ops.length ≤ 1048576) (hn : n.size ≤ 1048580) (ht : t.size ≤ 1048580) (hd : d.size ≤ 1048576) (hc : doC l ops (k, n, t, d) ≠ 0) :
    Calls Try.prog 65 #[.pointer (some ⟨dv, 0, none⟩), .agg #[.int .i64 k, .string n, .string t, .string d]] w fun e w' => e = .returned (.int .i64 (doC l ops (k, n, t, d))) ∧ Below w.heap.size w w' := by
  obtain ⟨vl, vo, h1, hBd, h3, h4, h5, h6, h7⟩ := h
  have hFB := filesB_of hf
  have hl : l.length ≤ 1048576 := by have := hFB.len; omega
  have hs : Sorted l := sorted_of hf
  have hdlt : dv < w.heap.size := (Array.getElem?_eq_some_iff.1 h1).1
  have hB : Below w.heap.size w (w.alloc (.cells #[.int .i64 k, .string n, .string t, .string d] 36)) := (Below.refl _ _).alloc (Nat.le_refl _) _
  have CO := Lib.hid (fun W => opOk_i k n t d W (by omega) (by omega))
  have CF := Lib.hid (fun W (hW : Below w.heap.size w W) => finds_i vl l k n t d W (h3.below hW) hl hs)
  have HC : Hid (doC l ops (k, n, t, d) = (if opB (k, n, t, d) = false then 2 else if findB l (k, n, t, d) = false then 3 else if 200 ≤ ops.length then 4 else if filesB (aftL l (k, n, t, d)) = false then 4 else 0)) := rfl
  have D0 := Lib.hid (fun W (hW : Below w.heap.size w W) => show W.cell? ⟨dv, 0, none⟩ = some vl from cell_of_row W dv 0 _ _ (0, 0) ((hW.block dv hdlt).trans h1))
  have D2 := Lib.hid (fun W (hW : Below w.heap.size w W) => show W.cell? ⟨dv, 2, none⟩ = some vo from cell_of_row W dv 2 _ _ (0, 0) ((hW.block dv hdlt).trans h1))
  obtain ⟨p, cap, rfl, _⟩ := h3.open
  obtain ⟨po, capo, rfl, _⟩ := h4.open
  generalize hDC : doC l ops (k, n, t, d) = C at *
  cases c1 : opB (k, n, t, d) with
  | false =>
    have HR : Hid (C = 2) := by show _ = _; rw [HC.out, if_pos c1]
    rw [c1] at CO
    clear h3 h4 h7 hf c1 hc hDC
    go_enter Try.func65, Try.ntmps65
    go_wp2_with fail
    refine (CO.out _).mono ?_
    rintro e w2 ⟨rfl, hb2⟩
    have hB2 := below_nx hb2 hB hB.size
    go_wp2
    go_ret
    exact ⟨by rw [HR.out]; rfl, hB2⟩
  | true =>
    rw [c1] at CO
    have HC2 : Hid (C = (if findB l (k, n, t, d) = false then 3 else if 200 ≤ ops.length then 4 else if filesB (aftL l (k, n, t, d)) = false then 4 else 0)) := by show _ = _; rw [HC.out, if_neg (by rw [c1]; decide)]
    have HSM := Lib.hid (show ∀ l', opDo l (k, n, t, d) = some l' → l'.length ≤ 61 ∧ dataSum l' ≤ 2000000 ∧ ∀ a ∈ l', a.1.size ≤ 1048580 from fun l' hh => opDo_small hFB hh hn ht hd)
    have CA := Lib.hid (fun W (hW : Below w.heap.size w W) => after_i _ l k n t d W (h3.below hW) hl hs (by omega) (by have := dataOf_le l n; have := hFB.sum; omega))
    have HOA := Lib.hid (opDo_aft l (k, n, t, d))
    have HC3 := Lib.hid hc
    clear h3 h4 h7 hf c1 hc hDC hn ht hd hl hFB hs h5 h6 HC
    go_enter Try.func65, Try.ntmps65
    go_wp2_with fail
    refine (CO.out _).mono ?_
    rintro e w2 ⟨rfl, hb2⟩
    obtain ⟨hB2, bx2⟩ := boxes1 w _ _ hb2
    have b0 : w2.cell? ⟨w.heap.size, 0, none⟩ = some (.int .i64 k) := cell_of_row w2 _ 0 _ _ (0, 0) bx2
    have b1 : w2.cell? ⟨w.heap.size, 1, none⟩ = some (.string n) := cell_of_row w2 _ 1 _ _ (0, 0) bx2
    have b2 : w2.cell? ⟨w.heap.size, 2, none⟩ = some (.string t) := cell_of_row w2 _ 2 _ _ (0, 0) bx2
    have b3 : w2.cell? ⟨w.heap.size, 3, none⟩ = some (.string d) := cell_of_row w2 _ 3 _ _ (0, 0) bx2
    have d0 := D0.out w2 hB2
    have hBx : Below w.heap.size w w2 := hB2
    clear hb2 hB
    have HX := Lib.hid bx2
    clear bx2
    go_wp2_with fail
    go_region_held3 (fun w' => w'.cell? ⟨w.heap.size, 0, none⟩ = some (.int .i64 k) ∧ w'.cell? ⟨w.heap.size, 1, none⟩ = some (.string n) ∧ w'.cell? ⟨w.heap.size, 2, none⟩ = some (.string t) ∧ w'.cell? ⟨w.heap.size, 3, none⟩ = some (.string d) ∧ w'.cell? ⟨dv, 0, none⟩ = some (.slice p l.length cap)) (exact ⟨b0, b1, b2, b3, d0⟩) ((go_at_call 101; refine (CF.out _ (by first | exact hBx | exact hBx.drew)).mono ?_; rintro e w3 ⟨rfl, hb3⟩; have b0 := (hb3.cell (p := ⟨w.heap.size, 0, none⟩) (World.block_lt_of_cell? _ _ b0)).trans b0; have b1 := (hb3.cell (p := ⟨w.heap.size, 1, none⟩) (World.block_lt_of_cell? _ _ b1)).trans b1; have b2 := (hb3.cell (p := ⟨w.heap.size, 2, none⟩) (World.block_lt_of_cell? _ _ b2)).trans b2; have b3 := (hb3.cell (p := ⟨w.heap.size, 3, none⟩) (World.block_lt_of_cell? _ _ b3)).trans b3; have d0 := (hb3.cell (p := ⟨dv, 0, none⟩) (World.block_lt_of_cell? _ _ d0)).trans d0; have hBx := below_nx hb3 (by first | exact hBx | exact hBx.drew) (by exact hBx.size)))
    cases c2 : findB l (k, n, t, d) with
    | false =>
      have HR : Hid (C = 3) := by show _ = _; rw [HC2.out, if_pos c2]
      clear c2 b0 b1 b2 b3 d0
      go_wp2
      go_ret
      exact ⟨by rw [HR.out]; rfl, by first | exact hBx | exact hBx.drew⟩
    | true =>
      rw [if_neg (by rw [c2]; decide)] at HC2
      have d2 : _ = some (Value.slice po ops.length capo) := D2.out _ (by first | exact hBx | exact hBx.drew)
      have hoI : (ops.length : Int) ≤ 1048576 := by omega
      by_cases c3 : 200 ≤ ops.length
      · have c3' : (200 : Int) ≤ (ops.length : Int) := by omega
        have HR : Hid (C = 4) := by show _ = _; rw [HC2.out, if_pos c3]
        clear c2 c3 b0 b1 b2 b3 d0
        go_wp2
        go_ret
        exact ⟨by rw [HR.out]; rfl, by first | exact hBx | exact hBx.drew⟩
      · have c3' : ¬ (200 : Int) ≤ (ops.length : Int) := by omega
        rw [if_neg c3] at HC2
        rw [c2] at HOA
        have HS2 := Lib.hid (HSM.out _ HOA.out)
        have c4 : filesB (aftL l (k, n, t, d)) = false := by
          cases c : filesB (aftL l (k, n, t, d)) with
          | false => rfl
          | true => exact absurd (by rw [HC2.out, if_neg (by rw [c]; decide)]) HC3.out
        have HR : Hid (C = 4) := by show _ = _; rw [HC2.out, if_pos c4]
        have CK := Lib.hid (fun u W (hW : FilesAt 0 u (aftL l (k, n, t, d)) W) => ok_i u (aftL l (k, n, t, d)) W hW (by have := HS2.out.1; omega) (by have := HS2.out.2.1; omega) (fun a ha => by have := HS2.out.2.2 a ha; omega))
        rw [c4] at CK
        generalize aftL l (k, n, t, d) = A at *
        clear c2 c3 c4
        go_wp2_with fail
        go_region_held3 (fun w' => w'.cell? ⟨w.heap.size, 0, none⟩ = some (.int .i64 k) ∧ w'.cell? ⟨w.heap.size, 1, none⟩ = some (.string n) ∧ w'.cell? ⟨w.heap.size, 2, none⟩ = some (.string t) ∧ w'.cell? ⟨w.heap.size, 3, none⟩ = some (.string d) ∧ w'.cell? ⟨dv, 0, none⟩ = some (.slice p l.length cap)) (exact ⟨b0, b1, b2, b3, d0⟩) ((go_at_call 102; refine (CA.out _ (by first | exact hBx | exact hBx.drew)).mono ?_; rintro e w4 ⟨u, rfl, hr, hb3⟩; have b0 := (hb3.cell (p := ⟨w.heap.size, 0, none⟩) (World.block_lt_of_cell? _ _ b0)).trans b0; have b1 := (hb3.cell (p := ⟨w.heap.size, 1, none⟩) (World.block_lt_of_cell? _ _ b1)).trans b1; have b2 := (hb3.cell (p := ⟨w.heap.size, 2, none⟩) (World.block_lt_of_cell? _ _ b2)).trans b2; have b3 := (hb3.cell (p := ⟨w.heap.size, 3, none⟩) (World.block_lt_of_cell? _ _ b3)).trans b3; have d0 := (hb3.cell (p := ⟨dv, 0, none⟩) (World.block_lt_of_cell? _ _ d0)).trans d0; have hr0 := hr.mono (Nat.zero_le _); have hBx := below_nx hb3 (by first | exact hBx | exact hBx.drew) (by exact hBx.size)))
        clear b0 b1 b2 b3 d0 d2
        go_wp2_with fail
        refine (CK.out _ _ (by exact hr0)).mono ?_
        rintro e w5 ⟨rfl, hb5⟩
        have hB5 := below_nx hb5 (by first | exact hBx | exact hBx.drew) (by exact hBx.size)
        go_wp2
        go_ret
        exact ⟨by rw [HR.out]; rfl, hB5⟩

end Go.Proofs.Ytepefbfmjjnamaa

/- The program: the files behind an operation. -/
import Derived.Test.YtepefbfmjjnamaaDkId
namespace Go.Proofs.Ytepefbfmjjnamaa
open Go.RowKit Go.My Go.Lib
set_option linter.unusedVariables false

theorem sorted_pair {l : List FileT} : Sorted l ↔ l.Pairwise (fun a b => blt a.1 b.1 = true) := by
  rw [List.pairwise_iff_getElem]
  exact ⟨fun h i j hi hj hij => h i j hi hj hij, fun h i j hi hj hij => h i j hi hj hij⟩
theorem cut_sorted {l : List FileT} (n : ByteArray) (h : Sorted l) : Sorted (cutL l n) := sorted_pair.2 ((sorted_pair.1 h).filter _)
theorem cut_len (l : List FileT) (n : ByteArray) : (cutL l n).length ≤ l.length := List.length_filter_le _ _

/-- The files behind an operation that finds its file. -/
def aftL (l : List FileT) (op : DOpT) : List FileT :=
  if op.1 = 1 then putL l op.2.1 (dataOf l op.2.1 ++ op.2.2.2) else if op.1 = 2 then putL (cutL l op.2.1) op.2.2.1 (dataOf l op.2.1) else cutL l op.2.1
def findB (l : List FileT) (op : DOpT) : Bool := decide (op.1 = 1) || (idxL l op.2.1).isSome
theorem opDo_aft (l : List FileT) (op : DOpT) : opDo l op = if findB l op then some (aftL l op) else none := by
  unfold opDo aftL findB
  by_cases h : op.1 = 1
  · simp [h]
  · by_cases h2 : op.1 = 2
    · cases idxL l op.2.1 <;> simp [h2]
    · cases idxL l op.2.1 <;> simp [h, h2]

set_option maxRecDepth 20000 in
set_option maxHeartbeats 1000000 in
theorem finds_i (v : Value) (l : List FileT) (k : Int) (n t d : ByteArray) (w : World) (h : FilesAt 0 v l w) (hl : l.length ≤ 1048576) (hs : Sorted l) :
    Calls Try.prog 101 #[v, .agg #[.int .i64 k, .string n, .string t, .string d]] w fun e w' => e = .returned (.bool (findB l (k, n, t, d))) ∧ Below w.heap.size w w' := by
  have hB : Below w.heap.size w (w.alloc (.cells #[.int .i64 k, .string n, .string t, .string d] 36)) := (Below.refl _ _).alloc (Nat.le_refl _) _
  have HF : Hid (findB l (k, n, t, d) = (decide (k = 1) || (idxL l n).isSome)) := rfl
  have CH := Lib.hid (fun W (hW : Below w.heap.size w W) => has_i v l n W (h.below hW) hl hs)
  obtain ⟨p, cap, rfl, _⟩ := h.open
  clear h hl hs
  generalize (idxL l n).isSome = I at *
  by_cases hk : k = 1
  · subst hk
    have HR : Hid (findB l (1, n, t, d) = true) := HF.out
    go_enter Try.func101, Try.ntmps101
    go_wp2
    go_ret
    exact ⟨by rw [HR.out]; rfl, hB⟩
  · have hk' : (k == 1) = false := by simpa using hk
    have HR : Hid (findB l (k, n, t, d) = I) := by show _ = _; rw [HF.out, decide_eq_false hk, Bool.false_or]
    clear hk
    go_enter Try.func101, Try.ntmps101
    go_wp2_with fail
    refine (CH.out _ (by exact hB)).mono ?_
    rintro e w2 ⟨rfl, hb2⟩
    have hB2 := below_nx hb2 hB hB.size
    clear hb2
    go_wp2
    go_ret
    exact ⟨by rw [HR.out]; rfl, hB2⟩

set_option maxRecDepth 20000 in
set_option maxHeartbeats 2000000 in
theorem after_i (v : Value) (l : List FileT) (k : Int) (n t d : ByteArray) (w : World) (h : FilesAt 0 v l w) (hl : l.length ≤ 1048576) (hs : Sorted l) (hd : d.size ≤ 1099511627776) (hD : (dataOf l n).size ≤ 1099511627776) :
    Calls Try.prog 102 #[v, .agg #[.int .i64 k, .string n, .string t, .string d]] w fun e w' => ∃ v', e = .returned v' ∧ FilesAt w.heap.size v' (aftL l (k, n, t, d)) w' ∧ Below w.heap.size w w' := by
  have hB : Below w.heap.size w (w.alloc (.cells #[.int .i64 k, .string n, .string t, .string d] 36)) := (Below.refl _ _).alloc (Nat.le_refl _) _
  have HF : Hid (aftL l (k, n, t, d) = (if k = 1 then putL l n (dataOf l n ++ d) else if k = 2 then putL (cutL l n) t (dataOf l n) else cutL l n)) := rfl
  have CR := Lib.hid (fun W (hW : Below w.heap.size w W) => read_i v l n W (h.below hW) hl hs)
  have CW := Lib.hid (fun W x (hW : Below w.heap.size w W) => with_i v l n x W (h.below hW) hl hs)
  have CO := Lib.hid (fun W (hW : Below w.heap.size w W) => without_i v l n W (h.below hW) hl hs)
  have CT := Lib.hid (fun u x W (hW : FilesAt 0 u (cutL l n) W) => with_i u (cutL l n) t x W hW (Nat.le_trans (cut_len l n) hl) (cut_sorted n hs))
  obtain ⟨p, cap, rfl, _⟩ := h.open
  clear h hl hs
  have b1 : (w.alloc (.cells #[.int .i64 k, .string n, .string t, .string d] 36)).cell? ⟨w.heap.size, 1, none⟩ = some (.string n) := by simp [go_sem]
  have b2 : (w.alloc (.cells #[.int .i64 k, .string n, .string t, .string d] 36)).cell? ⟨w.heap.size, 2, none⟩ = some (.string t) := by simp [go_sem]
  have b3 : (w.alloc (.cells #[.int .i64 k, .string n, .string t, .string d] 36)).cell? ⟨w.heap.size, 3, none⟩ = some (.string d) := by simp [go_sem]
  have hcs : ¬ 9223372036854775807 < (dataOf l n).size + d.size := by omega
  generalize dataOf l n = DT at *
  clear hd hD
  by_cases hk : k = 1
  · subst hk
    have HR : Hid (aftL l (1, n, t, d) = putL l n (DT ++ d)) := HF.out
    go_enter Try.func102, Try.ntmps102
    go_wp2_with fail
    go_region_held3 (fun w' => w'.cell? ⟨w.heap.size, 1, none⟩ = some (.string n) ∧ w'.cell? ⟨w.heap.size, 3, none⟩ = some (.string d)) (exact ⟨b1, b3⟩) (first
      | (go_at_call 67; refine (CR.out _ (by first | exact hB | exact hB.drew)).mono ?_; rintro e wa ⟨rfl, hba⟩; have b1 := (hba.cell (p := ⟨w.heap.size, 1, none⟩) (World.block_lt_of_cell? _ _ b1)).trans b1; have b3 := (hba.cell (p := ⟨w.heap.size, 3, none⟩) (World.block_lt_of_cell? _ _ b3)).trans b3; have hB := below_nx hba (by first | exact hB | exact hB.drew) (by exact hB.size))
      | (go_at_call 116; refine (CW.out _ _ (by first | exact hB | exact hB.drew)).mono ?_; rintro e wb ⟨u, rfl, hr, hbb⟩; have b1 := (hbb.cell (p := ⟨w.heap.size, 1, none⟩) (World.block_lt_of_cell? _ _ b1)).trans b1; have b3 := (hbb.cell (p := ⟨w.heap.size, 3, none⟩) (World.block_lt_of_cell? _ _ b3)).trans b3; have hr5 := hr.mono (show w.heap.size ≤ _ from by exact hB.size); have hB := below_nx hbb (by first | exact hB | exact hB.drew) (by exact hB.size)))
    all_goals
      go_wp2
      go_ret
      exact ⟨u, rfl, by rw [HR.out]; exact hr5, hB⟩
  · have hk' : (k == 1) = false := by simpa using hk
    rw [if_neg hk] at HF
    clear hk
    by_cases hk2 : k = 2
    · subst hk2
      have HR : Hid (aftL l (2, n, t, d) = putL (cutL l n) t DT) := HF.out
      go_enter Try.func102, Try.ntmps102
      go_wp2_with fail
      go_region_held3 (fun w' => w'.cell? ⟨w.heap.size, 1, none⟩ = some (.string n) ∧ w'.cell? ⟨w.heap.size, 2, none⟩ = some (.string t)) (exact ⟨b1, b2⟩) (first
        | (go_at_call 67; refine (CR.out _ (by first | exact hB | exact hB.drew)).mono ?_; rintro e wa ⟨rfl, hba⟩; have b1 := (hba.cell (p := ⟨w.heap.size, 1, none⟩) (World.block_lt_of_cell? _ _ b1)).trans b1; have b2 := (hba.cell (p := ⟨w.heap.size, 2, none⟩) (World.block_lt_of_cell? _ _ b2)).trans b2; (try have hrw := hrw.below hba); have hB := below_nx hba (by first | exact hB | exact hB.drew) (by exact hB.size))
        | (go_at_call 117; refine (CO.out _ (by first | exact hB | exact hB.drew)).mono ?_; rintro e wc ⟨u, rfl, hro, hbc⟩; have b1 := (hbc.cell (p := ⟨w.heap.size, 1, none⟩) (World.block_lt_of_cell? _ _ b1)).trans b1; have b2 := (hbc.cell (p := ⟨w.heap.size, 2, none⟩) (World.block_lt_of_cell? _ _ b2)).trans b2; have hrw := hro.mono (Nat.zero_le _); have hB := below_nx hbc (by first | exact hB | exact hB.drew) (by exact hB.size))
        | (go_at_call 116; refine (CT.out _ _ _ (by exact hrw)).mono ?_; rintro e wb ⟨u2, rfl, hr, hbb⟩; have b1 := (hbb.cell (p := ⟨w.heap.size, 1, none⟩) (World.block_lt_of_cell? _ _ b1)).trans b1; have b2 := (hbb.cell (p := ⟨w.heap.size, 2, none⟩) (World.block_lt_of_cell? _ _ b2)).trans b2; have hr5 := hr.mono (show w.heap.size ≤ _ from by exact hB.size); have hB := below_nx hbb (by first | exact hB | exact hB.drew) (by exact hB.size)))
      all_goals
        go_wp2
        go_ret
        exact ⟨u2, rfl, by rw [HR.out]; exact hr5, hB⟩
    · have hk2' : (k == 2) = false := by simpa using hk2
      rw [if_neg hk2] at HF
      clear hk2
      go_enter Try.func102, Try.ntmps102
      go_wp2_with fail
      refine (CO.out _ (by exact hB)).mono ?_
      rintro e w2 ⟨u, rfl, hr, hb2⟩
      have hr5 := hr.mono (show w.heap.size ≤ _ from by exact hB.size)
      have hB2 := below_nx hb2 hB hB.size
      clear hr hb2 b1 b2 b3
      go_wp2
      go_ret
      exact ⟨u, rfl, by rw [HF.out]; exact hr5, hB2⟩

end Go.Proofs.Ytepefbfmjjnamaa

/- The program: a file struck from a list. -/
import Derived.Test.YtepefbfmjjnamaaDkL
namespace Go.Proofs.Ytepefbfmjjnamaa
open Go.RowKit Go.My Go.Lib
set_option linter.unusedVariables false

/-- The block that holds a captured name. -/
structure NmAt (kb : Nat) (n : ByteArray) (w : World) : Prop where
  lt : kb < w.heap.size
  cell : w.cell? ⟨kb, 0, none⟩ = some (.string n)
theorem NmAt.below {kb : Nat} {n : ByteArray} {w w' : World} (h : NmAt kb n w) (hb : Below w.heap.size w w') : NmAt kb n w' :=
  ⟨Nat.lt_of_lt_of_le h.lt hb.size, by rw [hb.cell (p := ⟨kb, 0, none⟩) h.lt]; exact h.cell⟩
theorem NmAt.grown {kb g : Nat} {n : ByteArray} {w w' : World} (h : NmAt kb n w) (hg : w.grownBy w' (some g)) (hk : kb ≠ g) : NmAt kb n w' :=
  ⟨Nat.lt_of_lt_of_le h.lt hg.size, by rw [World.cell?_of_block (w := w) (a := ⟨kb, 0, none⟩) (hg.block kb h.lt (fun e => hk (Option.some.inj e)))]; exact h.cell⟩
theorem eq_lst (a b : ByteArray) : (a.toList == b.toList) = decide (a = b) := by
  by_cases h : a = b
  · rw [h, decide_eq_true rfl]; exact beq_self_eq_true _
  · rw [neq_lst h, decide_eq_false h]

set_option maxRecDepth 20000 in
theorem wc_i (kb : Nat) (x n : ByteArray) (y : ByteArray) (w : World) (h : NmAt kb n w) :
    Calls Try.prog 124 #[.agg #[.string x, .string y], .pointer (some ⟨kb, 0, none⟩)] w fun e w' => e = .returned (.bool (decide (x = n))) ∧ Below w.heap.size w w' := by
  have hb0 : Below w.heap.size w (w.alloc (.cells #[.string x, .string y] 88)) := (boxes1 w _ _ (Below.refl _ _)).1
  have c0 := (h.below hb0).cell
  have he := eq_lst x n
  generalize decide (x = n) = R at *
  have hlt := h.lt
  go_enter Try.func124, Try.ntmps124
  go_wp2
  go_ret
  exact ⟨rfl, hb0⟩

/-- No file of this name, or the first one stands there. -/
def idxR (l : List FileT) (n : ByteArray) (r : Int) : Prop := (r = -1 ∧ idxL l n = none) ∨ ∃ j : Nat, r = (j : Int) ∧ idxL l n = some j
theorem idxL_none' {l : List FileT} {n : ByteArray} (h : ∀ q (hq : q < l.length), l[q].1 ≠ n) : idxL l n = none := by
  unfold idxL
  rw [List.findIdx?_eq_none_iff]
  intro f hf
  obtain ⟨q, hq, rfl⟩ := List.mem_iff_getElem.1 hf
  simp [h q hq]
theorem idxL_some' {l : List FileT} {n : ByteArray} {j : Nat} (hj : j < l.length) (hx : l[j].1 = n) (h : ∀ q (hq : q < l.length), q < j → l[q].1 ≠ n) : idxL l n = some j := by
  unfold idxL
  rw [List.findIdx?_eq_some_iff_getElem]
  exact ⟨hj, by simp [hx], fun q hq => by simp [h q (by omega) hq]⟩

set_option maxRecDepth 20000 in
set_option maxHeartbeats 1000000 in
theorem indexF_i (B : Nat) (v : Value) (l : List FileT) (kb : Nat) (n : ByteArray) (w : World) (h : FilesAt B v l w) (hl : l.length ≤ 1048576) (hk : NmAt kb n w) :
    Calls Try.prog 128 #[v, .func (.func 124) #[] #[.pointer (some ⟨kb, 0, none⟩)]] w fun e w' => ∃ r : Int, e = .returned (.int .i64 r) ∧ idxR l n r ∧ Below w.heap.size w w' := by
  obtain ⟨p, cap, rfl, hm, _, hp⟩ := h.open
  have H := Lib.hid h
  have HK := Lib.hid hk
  have hlI : (l.length : Int) ≤ 1048576 := by omega
  clear h hm hk
  go_enter Try.func128, Try.ntmps128
  go_wp2
  go_loopw [8] (fun i wr => ∃ j : Nat, j ≤ l.length ∧ i = .int .i64 j ∧ (∀ q (hq : q < l.length), q < j → l[q].1 ≠ n) ∧ Below w.heap.size w wr) (fun i _ => l.length - (intOf i).toNat)
  case atStart => exact ⟨0, Nat.zero_le _, rfl, fun q _ c => by omega, Below.refl _ _⟩
  case round =>
    obtain ⟨j, hj, rfl, hno, hB⟩ := hrel
    have HNO := Lib.hid hno
    clear hno
    by_cases hlt : j < l.length
    case neg =>
      obtain rfl : j = l.length := by omega
      have HR : Hid (idxR l n (-1)) := .inl ⟨rfl, idxL_none' (fun q hq => HNO.out q hq hq)⟩
      go_wp2
      go_ret
      exact ⟨_, rfl, HR.out, hB⟩
    have hne : l ≠ [] := by intro c; rw [c] at hlt; simp at hlt
    obtain ⟨g, rfl, _, hg⟩ := hp.resolve_left (fun c => hne c.1)
    have j0 : (0 : Int) ≤ (j : Int) := by omega
    have j1 : (j : Int) < (l.length : Int) := by omega
    obtain ⟨x, hx⟩ : ∃ x, l[j] = x := ⟨_, rfl⟩
    have hA := H.out.below hB
    have c0 : wr.cell? ⟨g, j * 2, none⟩ = some (.string x.1) := hA.at fileC_len hlt hx 0 (by omega) rfl
    have c1 : wr.cell? ⟨g, j * 2 + 1, none⟩ = some (.string x.2) := hA.at fileC_len hlt hx 1 (by omega) rfl
    have CL := Lib.hid (wc_i kb x.1 n x.2 wr (HK.out.below hB))
    have HY : Hid (x.1 = n → idxR l n (j : Int)) := fun c => .inr ⟨j, rfl, idxL_some' hlt (by rw [hx]; exact c) HNO.out⟩
    have HN : Hid (x.1 ≠ n → ∀ q (hq : q < l.length), q < j + 1 → l[q].1 ≠ n) := fun c q hq hqj => by
      by_cases e : q = j
      · subst e; rw [hx]; exact c
      · exact HNO.out q hq (by omega)
    clear hA hx hne hp hg
    go_wp2_with fail
    refine CL.out.mono ?_
    rintro e w2 ⟨rfl, hb2⟩
    have hB2 := hB.trans (hb2.mono hB.size)
    clear hb2 hB c0 c1
    by_cases he : x.1 = n
    · have HR := Lib.hid (HY.out he)
      rw [decide_eq_true he]
      clear he
      go_wp2
      go_ret
      exact ⟨_, rfl, HR.out, hB2⟩
    · have HR := Lib.hid (HN.out he)
      rw [decide_eq_false he]
      clear he
      go_wp2
      go_roundw
      case rel => exact ⟨j + 1, by omega, by go_num, HR.out, hB2⟩
      case measure => simp [intOf]; omega

end Go.Proofs.Ytepefbfmjjnamaa

/- The specification's ReadMsg. -/
import Derived.Test.YtmekpinhhmknnaaDoorRdM3
import Derived.StillTailTactics
namespace Go.Proofs.YtmekpinhhmknnaaDoor
open Go.RowKit Go.My Go.Lib
set_option linter.unusedVariables false

theorem neq_list {a b : ByteArray} (h : a ≠ b) : (a.toList == b.toList) = false := by
  refine beq_eq_false_iff_ne.2 (fun e => h ?_)
  rw [ByteArray.toList_eq, ByteArray.toList_eq] at e
  rw [← str_of a, ← str_of b, e]
theorem nb_cut (s : ByteArray) (i : Nat) (h : i + 2 ≤ s.size) : nb (numOf (cut s i (i + 2)).data.toList : Nat) 2 = cut s i (i + 2) := by
  have hz := cut_size s i (i + 2) h
  have h2 : (cut s i (i + 2)).size = 2 := by omega
  have := numB_numOf (cut s i (i + 2)) (by omega) (by omega)
  rw [h2] at this
  exact this
theorem cut_cat (s : ByteArray) {i j k : Nat} (h1 : i ≤ j) (h2 : j ≤ k) : cut s i j ++ cut s j k = cut s i k := by
  unfold cut
  rw [ByteArray.extract_append_extract, Nat.min_eq_left h1, Nat.max_eq_right h2]
theorem headB_cut (s : ByteArray) (h : 36 ≤ s.size) : headB (cut s 0 32) (numOf (cut s 32 34).data.toList : Nat) (numOf (cut s 34 36).data.toList : Nat) = cut s 0 36 := by
  unfold headB
  rw [nb_cut s 32 (by omega), nb_cut s 34 (by omega), cut_cat s (by omega) (by omega), cut_cat s (by omega) (by omega)]
theorem nb_inj {n m : Nat} (hn : n < 65536) (hm : m < 65536) (h : nb (n : Int) 2 = nb (m : Int) 2) : n = m := by
  unfold nb at h
  have h1 := congrArg (fun x : ByteArray => numOf x.data.toList) h
  simp only [str_list] at h1
  rw [numB_yes ⟨by omega, by omega, by omega, by simp; omega⟩, numB_yes ⟨by omega, by omega, by omega, by simp; omega⟩] at h1
  simp only [Int.toNat_natCast] at h1
  have e2 : (2 : Int).toNat = 2 := rfl
  rw [e2, numOf_beL, numOf_beL] at h1
  omega
theorem msgB_cut (s : ByteArray) (h : 38 ≤ s.size) (hx : (cut s 38 s.size).size ≤ 432) :
    msgB (cut s 0 32) (numOf (cut s 32 34).data.toList : Nat) (numOf (cut s 34 36).data.toList : Nat) (cut s 38 s.size) = s ↔ numOf (cut s 36 38).data.toList = s.size - 38 := by
  have hz := cut_size s 38 s.size (Nat.le_refl _)
  have hall : cut s 0 36 ++ cut s 36 38 ++ cut s 38 s.size = s := by rw [cut_cat s (by omega) (by omega), cut_cat s (by omega) h, cut_all]
  unfold msgB
  rw [headB_cut s (by omega), hz]
  constructor
  · intro e
    have e2 := e.trans hall.symm
    rw [ByteArray.append_left_inj, ByteArray.append_right_inj] at e2
    have hlt := num2_lt s 36 (by omega)
    exact (nb_inj (by omega) hlt (e2.trans (nb_cut s 36 (by omega)).symm)).symm
  · intro e
    rw [← e, nb_cut s 36 (by omega)]
    exact hall
theorem msgV_cut (s : ByteArray) (h : 38 ≤ s.size) :
    msgV (cut s 0 32) (numOf (cut s 32 34).data.toList : Nat) (numOf (cut s 34 36).data.toList : Nat) (cut s 38 s.size) = s ↔ RdMP s := by
  by_cases hm : MsgP (cut s 0 32) (numOf (cut s 32 34).data.toList : Nat) (numOf (cut s 34 36).data.toList : Nat) (cut s 38 s.size)
  · rw [msgV_yes hm, msgB_cut s h hm.2.2]
    exact ⟨fun e => ⟨h, e, hm⟩, fun c => c.2.1⟩
  · rw [msgV_no hm]
    constructor
    · intro e
      have := congrArg ByteArray.size e
      have h0 : (ByteArray.mk #[]).size = 0 := rfl
      omega
    · intro c
      exact absurd c.2.2 hm

end Go.Proofs.YtmekpinhhmknnaaDoor

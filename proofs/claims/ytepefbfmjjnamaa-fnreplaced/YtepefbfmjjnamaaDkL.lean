/- The program's check of an operation. -/
import Derived.Test.YtepefbfmjjnamaaDkK
import Derived.Test.YtepefbfmjjnamaaDkU
namespace Go.Proofs.Ytepefbfmjjnamaa
open Go.RowKit Go.My Go.Lib
set_option linter.unusedVariables false

set_option maxRecDepth 20000 in
set_option maxHeartbeats 1000000 in
theorem opOk_i (k : Int) (n t d : ByteArray) (w : World) (hn : n.size ≤ 9223372036854775807) (ht : t.size ≤ 9223372036854775807) :
    Calls Try.prog 107 #[.agg #[.int .i64 k, .string n, .string t, .string d]] w fun e w' => e = .returned (.bool (opB (k, n, t, d))) ∧ Below w.heap.size w w' := by
  have HO : Hid (opB (k, n, t, d) = (((decide (1 ≤ k) && decide (k ≤ 3)) && nameB n) && (if k = 2 then nameB t && decide (d = ByteArray.mk #[]) else decide (t = ByteArray.mk #[]) && (decide (k = 1) || decide (d = ByteArray.mk #[]))))) := rfl
  have hb0 : Below w.heap.size w (w.alloc (.cells #[.int .i64 k, .string n, .string t, .string d] 36)) := (boxes1 w _ _ (Below.refl _ _)).1
  have NN := Lib.hid (fun w => name_i n w hn)
  have NT := Lib.hid (fun w => name_i t w ht)
  clear hn ht
  obtain ⟨b, hb⟩ : ∃ b, nameB n = b := ⟨_, rfl⟩
  obtain ⟨c, hc⟩ : ∃ c, nameB t = c := ⟨_, rfl⟩
  rw [hb] at HO NN
  rw [hc] at HO NT
  clear hb hc
  by_cases hk : k = 1 ∨ k = 2 ∨ k = 3
  case neg =>
    have h1 : (k == 1) = false := by simp; omega
    have h2 : (k == 2) = false := by simp; omega
    have h3 : (k == 3) = false := by simp; omega
    have HR : Hid (opB (k, n, t, d) = false) := by
      show _ = _
      rw [HO.out]
      have : (decide (1 ≤ k) && decide (k ≤ 3)) = false := by rw [Bool.and_eq_false_iff]; simp; omega
      rw [this]; rfl
    clear hk
    go_enter Try.func107, Try.ntmps107
    go_wp2
    go_ret
    exact ⟨by rw [HR.out]; rfl, hb0⟩
  rcases hk with rfl | rfl | rfl
  · by_cases hte : t = ByteArray.mk #[]
    · have he := empty_yes hte
      have HR : Hid (opB (1, n, t, d) = b) := by show _ = _; rw [HO.out, decide_eq_true hte]; cases b <;> rfl
      clear hte HO
      cases b <;>
      (go_enter Try.func107, Try.ntmps107
       go_wp2_with (go_at_call_of 115 n; refine (NN.out _).mono ?_; rintro e w' ⟨rfl, rfl⟩)
       go_ret
       exact ⟨by rw [HR.out]; rfl, hb0⟩)
    · have he := empty_no hte
      have HR : Hid (opB (1, n, t, d) = false) := by show _ = _; rw [HO.out, decide_eq_false hte]; cases b <;> rfl
      clear hte HO
      cases b <;>
      (go_enter Try.func107, Try.ntmps107
       go_wp2_with (go_at_call_of 115 n; refine (NN.out _).mono ?_; rintro e w' ⟨rfl, rfl⟩)
       go_ret
       exact ⟨by rw [HR.out]; rfl, hb0⟩)
  · by_cases hte : d = ByteArray.mk #[]
    · have he := empty_yes hte
      have HR : Hid (opB (2, n, t, d) = (b && c)) := by show _ = _; rw [HO.out, decide_eq_true hte]; cases b <;> cases c <;> rfl
      clear hte HO
      cases b <;> cases c <;>
      (go_enter Try.func107, Try.ntmps107
       go_wp2_with (first | (go_at_call_of 115 n; refine (NN.out _).mono ?_; rintro e w' ⟨rfl, rfl⟩) | (go_at_call_of 115 t; refine (NT.out _).mono ?_; rintro e w' ⟨rfl, rfl⟩))
       go_ret
       exact ⟨by rw [HR.out]; rfl, hb0⟩)
    · have he := empty_no hte
      have HR : Hid (opB (2, n, t, d) = false) := by show _ = _; rw [HO.out, decide_eq_false hte]; cases b <;> cases c <;> rfl
      clear hte HO
      cases b <;> cases c <;>
      (go_enter Try.func107, Try.ntmps107
       go_wp2_with (first | (go_at_call_of 115 n; refine (NN.out _).mono ?_; rintro e w' ⟨rfl, rfl⟩) | (go_at_call_of 115 t; refine (NT.out _).mono ?_; rintro e w' ⟨rfl, rfl⟩))
       go_ret
       exact ⟨by rw [HR.out]; rfl, hb0⟩)
  · by_cases hte : t = ByteArray.mk #[]
    case neg =>
      have he := empty_no hte
      have HR : Hid (opB (3, n, t, d) = false) := by show _ = _; rw [HO.out, decide_eq_false hte]; cases b <;> rfl
      clear hte HO
      cases b <;>
      (go_enter Try.func107, Try.ntmps107
       go_wp2_with (go_at_call_of 115 n; refine (NN.out _).mono ?_; rintro e w' ⟨rfl, rfl⟩)
       go_ret
       exact ⟨by rw [HR.out]; rfl, hb0⟩)
    have he := empty_yes hte
    by_cases hde : d = ByteArray.mk #[]
    · have hf := empty_yes hde
      have HR : Hid (opB (3, n, t, d) = b) := by show _ = _; rw [HO.out, decide_eq_true hte, decide_eq_true hde]; cases b <;> rfl
      clear hte hde HO
      cases b <;>
      (go_enter Try.func107, Try.ntmps107
       go_wp2_with (go_at_call_of 115 n; refine (NN.out _).mono ?_; rintro e w' ⟨rfl, rfl⟩)
       go_ret
       exact ⟨by rw [HR.out]; rfl, hb0⟩)
    · have hf := empty_no hde
      have HR : Hid (opB (3, n, t, d) = false) := by show _ = _; rw [HO.out, decide_eq_true hte, decide_eq_false hde]; cases b <;> rfl
      clear hte hde HO
      cases b <;>
      (go_enter Try.func107, Try.ntmps107
       go_wp2_with (go_at_call_of 115 n; refine (NN.out _).mono ?_; rintro e w' ⟨rfl, rfl⟩)
       go_ret
       exact ⟨by rw [HR.out]; rfl, hb0⟩)

end Go.Proofs.Ytepefbfmjjnamaa

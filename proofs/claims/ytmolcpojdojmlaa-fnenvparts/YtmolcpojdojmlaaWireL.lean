/- The laws' own copies of heads, Inits and messages, and their counts of bytes. -/
import Derived.Test.YtmolcpojdojmlaaWire3
namespace Go.Proofs.Ytmolcpojdojmlaa
open Go.RowKit Go.My Go.Lib
set_option linter.unusedVariables false

set_option maxHeartbeats 2000000 in
theorem headBytes_s (p : ByteArray) (a b : Int) (w : World) (hp : p.size ≤ 9223372036854775807) :
    Calls Try.prog 15 #[.agg (headA p a b)] w fun e w' => e = .returned (.string (headV p a b)) ∧ Below w.heap.size w w' := by
  have hb0 := below_box w (.cells (headA p a b) 27)
  by_cases h : HeadP p a b
  case neg =>
    have HV := Lib.hid (headV_no h)
    have H1 := Lib.hid (fun w => headOk_s p a b w false (decide_eq_false h) hp)
    clear h
    go_enter Try.func15, Try.ntmps15
    go_wp2_with fail
    refine (H1.out _).mono ?_
    rintro e w1 ⟨rfl, hb1⟩
    go_wp2
    go_ret
    exact ⟨by rw [HV.out]; rfl, hb0.trans (hb1.mono hb0.size)⟩
  have HV := Lib.hid (headV_yes h)
  have H1 := Lib.hid (fun w => headOk_s p a b w true (decide_eq_true h) hp)
  have H2 := Lib.hid (fun w => l5HeadBytes_any p a b w h)
  clear h
  go_enter Try.func15, Try.ntmps15
  go_wp2_with fail
  refine (H1.out _).mono ?_
  rintro e w1 ⟨rfl, hb1⟩
  have hS : HeadAt w.heap.size p a b w1 := HeadAt.below hb1 ⟨by simp, by simp [go_sem], by simp [go_sem], by simp [go_sem]⟩
  have hB : Below w.heap.size w w1 := hb0.trans (hb1.mono hb0.size)
  clear hb1 hb0
  have c0 := hS.2.1
  have c1 := hS.2.2.1
  have c2 := hS.2.2.2
  go_wp2_with fail
  refine (H2.out _).mono ?_
  rintro e w2 ⟨rfl, hb2⟩
  go_wp2
  go_ret
  exact ⟨by rw [HV.out]; rfl, hB.trans (hb2.mono hB.size)⟩

end Go.Proofs.Ytmolcpojdojmlaa

/- The program: a list without a file. -/
import Derived.Test.YtepefbfmjjnamaaDkY
namespace Go.Proofs.Ytepefbfmjjnamaa
open Go.RowKit Go.My Go.Lib
set_option linter.unusedVariables false

set_option maxRecDepth 20000 in
set_option maxHeartbeats 1000000 in
theorem without_i (v : Value) (l : List FileT) (n : ByteArray) (w : World) (h : FilesAt 0 v l w) (hl : l.length ≤ 1048576) (hs : Sorted l) :
    Calls Try.prog 117 #[v, .string n] w fun e w' => ∃ v', e = .returned v' ∧ FilesAt w.heap.size v' (cutL l n) w' ∧ Below w.heap.size w w' := by
  have hb0 : Below w.heap.size w (w.alloc (.cells #[.string n] 9)) := (boxes1 w _ _ (Below.refl _ _)).1
  have HN : Hid (NmAt w.heap.size n (w.alloc (.cells #[.string n] 9))) := ⟨by simp, by simp [go_sem]⟩
  have HS0 : Hid ((w.alloc (.cells #[.string n] 9)).heap.size = w.heap.size + 1) := by show _ = _; simp
  have HC := Lib.hid (copyF_i v l _ (h.below hb0) hl)
  have HS := Lib.hid hs
  clear hs
  obtain ⟨p, cap, rfl, hm, hcap, hp⟩ := h.open
  clear h hm hcap hp
  go_enter Try.func117, Try.ntmps117
  go_wp2_with fail
  refine HC.out.mono ?_
  rintro e w2 ⟨v2, rfl, h2, hb2⟩
  have hne : v2.ownBlock ≠ some w.heap.size := by
    intro c
    have := (World.ownsRow.lt h2 _ c).1
    rw [HS0.out] at this
    omega
  have HD := Lib.hid (deleteF_i _ v2 l w.heap.size n w2 h2 hl (HN.out.below hb2) hne HS.out)
  have H2 := Lib.hid h2
  have hb02 : Below w.heap.size w w2 := hb0.trans (hb2.mono (by rw [HS0.out]; omega))
  have HB2 := Lib.hid hb02
  obtain ⟨p2, cap2, rfl, _⟩ := h2.open
  clear h2 hne hl
  go_wp2_with fail
  refine HD.out.mono ?_
  rintro e w3 ⟨v3, rfl, h3, hg3⟩
  have HB3 : Hid (Below w.heap.size w w3) := HB2.out.grown hg3 HB2.out.size (fun k hk => by
    have := (World.ownsRow.lt H2.out k hk).1
    rw [HS0.out] at this
    omega)
  have H3 : Hid (FilesAt w.heap.size v3 (cutL l n) w3) := RowL.mono h3 (by rw [HS0.out]; omega)
  clear hg3
  obtain ⟨p3, cap3, rfl, _⟩ := h3.open
  clear h3
  go_wp2
  go_ret
  exact ⟨_, rfl, H3.out, HB3.out⟩

end Go.Proofs.Ytepefbfmjjnamaa

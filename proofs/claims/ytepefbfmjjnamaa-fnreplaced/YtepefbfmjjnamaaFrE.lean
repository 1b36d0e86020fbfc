/- TakeFrames of the program. -/
import Derived.Test.YtepefbfmjjnamaaFrC
import Derived.Test.YtepefbfmjjnamaaFrD
import Derived.Test.YtepefbfmjjnamaaRowB
import Derived.WalkMore
namespace Go.Proofs.Ytepefbfmjjnamaa
open Go.RowKit Go.My Go.Lib
set_option linter.unusedVariables false

def takeR (s : ByteArray) : List ByteArray := (takeF s.size s).1
def takeN (s : ByteArray) : Nat := s.size - (takeF s.size s).2.size
def sizeV : Value → Nat | .string t => t.size | _ => 0
theorem info_str : (Try.prog.info? 9).map (fun i => (i.zero, i.size, i.bytes)) = some (some (.string ByteArray.empty), 1, 16) := by kernel_rfl

theorem below_drewN {B : Nat} {a w : World} (h : Below B a w) (n : Nat) : Below B a (w.drewN n) := ⟨h.os, h.tape, h.output, h.size, h.block⟩
theorem neq_lst {a b : ByteArray} (h : a ≠ b) : (a.toList == b.toList) = false := by
  rw [beq_eq_false_iff_ne]
  intro c
  apply h
  rw [ByteArray.toList_eq, ByteArray.toList_eq] at c
  cases a; cases b
  congr 1
  exact Array.toList_inj.1 c

set_option maxRecDepth 100000 in
set_option maxHeartbeats 600000 in
theorem take_i (s : ByteArray) (w : World) (hs : s.size ≤ 1048576) :
    Calls Try.prog 30 #[.string s] w fun e w' => ∃ v, e = .returned (.tuple #[v, .int .i64 (takeN s)]) ∧ RowL w.heap.size 9 1 strC v (takeR s) w' ∧ Below w.heap.size w w' := by
  obtain ⟨i0, hi, hz0, hz1, hz2⟩ := info_parts info_str
  have hs1 : (s.size : Int) ≤ 1048576 := by omega
  go_enter Try.func30, Try.ntmps30
  go_wp2
  go_step3
  go_wp2
  go_step3
  go_wp2
  go_loopw [4, 5] (fun v t wr => ∃ (l : List ByteArray) (r : ByteArray) (n : Nat), FrAt s l r n ∧ t = .string r ∧ RowL w.heap.size 9 1 strC v l wr ∧ Below w.heap.size w wr) (fun _ t _ => sizeV t)
  case atStart => exact ⟨[], s, s.size, FrAt.start s, rfl, RowL.nil _ _ _ _ _, Below.refl _ _⟩
  case round =>
    rename_i v t wr
    obtain ⟨l, r, n, hF, rfl, hR, hB⟩ := hrel
    have hrs : r.size + 8 * l.length ≤ s.size := hF.2.2.2.1
    have hr1 : (r.size : Int) ≤ 1048576 := by omega
    have HF := Lib.hid hF
    have HRS := Lib.hid hrs
    clear hF hrs
    have HX : Hid (¬ frOk r → l = takeR s ∧ (s.size : Int) - (r.size : Int) = ((takeN s : Nat) : Int)) := fun c => by
      obtain ⟨e1, e2⟩ := HF.out.stop c
      refine ⟨e1, ?_⟩
      unfold takeN
      rw [← e2]
      have := HRS.out
      omega
    by_cases h8 : 8 ≤ r.size
    case neg =>
      have h8' : ¬ (8 : Int) ≤ (r.size : Int) := by omega
      have HE := Lib.hid (HX.out (fun c => h8 c.1))
      clear h8
      go_wp2
      go_ret2
      exact ⟨_, by rw [← HE.out.2]; rfl, by rw [← HE.out.1]; exact hR, hB⟩
    have h8I : (8 : Int) ≤ (r.size : Int) := by omega
    have h4I : (4 : Int) ≤ (r.size : Int) := by omega
    have BN := Lib.hid (fun w => bnum_impl (r.extract 0 4) w (by rw [ByteArray.size_extract]; omega) (by rw [ByteArray.size_extract]; omega))
    have hN : Hid (numOf (r.extract 0 4).data.toList = frN r) := rfl
    generalize numOf (r.extract 0 4).data.toList = N at *
    go_wp2_with fail
    refine (BN.out _).mono ?_
    rintro e w1 ⟨rfl, rfl⟩
    go_wp2_with fail
    go_region
    by_cases hN1 : N ≤ 100000
    case neg =>
      have hN1' : (100000 : Int) < (N : Int) := by omega
      have HE := Lib.hid (HX.out (fun c => hN1 (by rw [hN.out]; exact c.2.1)))
      clear hN1
      go_wp2
      try rw [Exit.noGoto_ret]
      go_ret2
      exact ⟨_, by rw [← HE.out.2]; rfl, by rw [← HE.out.1]; exact hR.below ((Below.refl _ _).drew), hB.drew⟩
    have hN1' : ¬ (100000 : Int) < (N : Int) := by omega
    by_cases hN2 : 8 + N ≤ r.size
    case neg =>
      have hN2' : r.size - 8 < N := by omega
      have HE := Lib.hid (HX.out (fun c => hN2 (by rw [hN.out]; exact c.2.2.1)))
      clear hN2
      go_wp2
      go_ret2
      exact ⟨_, by rw [← HE.out.2]; rfl, by rw [← HE.out.1]; exact hR.below ((Below.refl _ _).drew), hB.drew⟩
    have hN2' : ¬ r.size - 8 < N := by omega
    have hN0 : (0 : Int) ≤ (N : Int) := by omega
    have hN3 : N ≤ r.size - 8 := by omega
    have hcut : (r.extract 8 r.size).extract 0 N = frHd r := by
      have hN' := hN.out
      unfold frHd
      rw [← hN', ByteArray.extract_extract]
      congr 1
      omega
    have S := Lib.hid (fun w => sum_i ((r.extract 8 r.size).extract 0 N) w (by rw [hcut]; unfold frHd; rw [ByteArray.size_extract]; omega))
    have HCUT := Lib.hid hcut
    clear hcut
    go_wp2_with fail
    refine (S.out _).mono ?_
    rintro e w1 ⟨rfl, hb1⟩
    rw [HCUT.out]
    have hB1 := hB.trans ((Below.refl wr.heap.size wr).drew.trans hb1 |>.mono hB.size)
    have hfr : ∀ P : Prop, P → P := fun _ h => h
    have hT : Hid (frOk r ↔ str (leB (crcV (frHd r).data.toList) 4) = r.extract 4 8) := by
      have e : frHd r = r.extract 8 (8 + frN r) := rfl
      rw [e, ← hN.out]
      constructor
      · intro c; have := c.2.2.2; rw [← hN.out] at this; exact this
      · intro c; exact ⟨h8, by rw [← hN.out]; exact hN1, by rw [← hN.out]; exact hN2, by rw [← hN.out]; exact c⟩
    clear hfr
    generalize hH : frHd r = H at *
    have HH := Lib.hid hH
    clear hH
    generalize leB (crcV H.data.toList) 4 = L4 at *
    by_cases hc : str L4 = r.extract 4 8
    · have hl : ((str L4).toList == (r.extract 4 8).toList) = true := by rw [hc]; exact beq_self_eq_true _
      obtain ⟨m, hm, hF2⟩ := HF.out.next (hT.out.2 hc)
      rw [HH.out] at hF2
      have HF2 := Lib.hid hF2
      have hR1 : w1.ownsRow w.heap.size 9 1 u4 l.length (l.flatMap strC) := hR.below ((Below.refl _ _).drew.trans hb1)
      have hl20 : l.length ≤ 1048576 := by have := HRS.out; omega
      clear hm hF2 hR
      go_wp2_with (at_builtin; refine wpList_append_lies _ rfl _ _ 48 rfl w.heap.size 9 i0 (.string ByteArray.empty) 1 16 Try.underlying48 hi hz0 hz1 hz2 rfl (by decide) u4 l.length _ rfl (hR1.alloc _) ⟨w1.heap.size, 0, none⟩ 1 1 [_] rfl rfl (World.news_of_block (cs := #[_]) (t := 9) (fr := (0, 0)) (heap_alloc_new w1 _)) (by simp [Value.oneCell']) (by omega) (by unfold maxLen; omega) (by omega) (by have := hB1.size; simp; omega) (w1.heap.size + 1) (by simp) ?_; intro g cap w2 hown2 hgrow2 hat hlt2)
      have H8 := Lib.hid (frTl_size (hT.out.2 hc))
      have HTL : Hid ((r.extract 8 r.size).extract N (r.size - 8) = frTl r) := by
        show _ = _
        unfold frTl
        rw [← hN.out, ByteArray.extract_extract]
        congr 1
        omega
      have R := row_push (b := H) hR1 hB1 hB1.size rfl (show [Value.string ((r.extract 8 r.size).extract 0 N)] = strC H by rw [HCUT.out]; rfl) hown2 hgrow2
      clear hown2 hgrow2 hR1 hB1
      rw [HTL.out]
      refine ⟨⟨l ++ [H], frTl r, m, HF2.out, rfl, R.1, R.2⟩, ?_⟩
      show (frTl r).size < r.size
      have := H8.out
      omega
    · have hR3 := Lib.hid (hR.below ((Below.refl wr.heap.size wr).drew.trans hb1))
      have hl : ((str L4).toList == (r.extract 4 8).toList) = false := neq_lst hc
      have HE := Lib.hid (HX.out (fun c => hc (hT.out.1 c)))
      go_wp2
      try rw [Exit.noGoto_ret]
      go_ret2
      exact ⟨_, by rw [← HE.out.2]; rfl, by rw [← HE.out.1]; exact hR3.out, hB1⟩

end Go.Proofs.Ytepefbfmjjnamaa

/- The contract of the specification's l2Be: words of four bytes, the highest first. -/
import Derived.Test.YtgjnoleejbkddaaDoorGM1
import Derived.Deep.RegionHeld3
import Derived.Deep.AppendLies
import Derived.StillTailTactics
namespace Go.Proofs.YtgjnoleejbkddaaDoor
open Go.RowKit Go.My Go.Lib
set_option linter.unusedVariables false

theorem info_u32 : (Tryd.prog.info? 64).map (fun i => (i.zero, i.size, i.bytes)) = some (some (.int .u32 0), 1, 4) := by kernel_rfl

def or4 (a b c d : Int) : Int := bits .or .u32 (bits .or .u32 (bits .or .u32 (IntKind.u32.wrap (IntKind.u32.wrap a * 16777216)) (IntKind.u32.wrap (IntKind.u32.wrap b * 65536))) (IntKind.u32.wrap (IntKind.u32.wrap c * 256))) (IntKind.u32.wrap d)
/-- The word at place j of a text. -/
def wAt (l : List UInt8) (j : Nat) : Int := or4 ((l.getD (4 * j) 0).toNat : Int) ((l.getD (4 * j + 1) 0).toNat : Int) ((l.getD (4 * j + 2) 0).toNat : Int) ((l.getD (4 * j + 3) 0).toNat : Int)
theorem getD_at (s : ByteArray) (p : Nat) (h : p < s.size) : s.data.toList.getD p 0 = s[p] := by
  have h' : p < s.data.toList.length := by rw [len_data]; exact h
  rw [List.getD_eq_getElem?_getD, List.getElem?_eq_getElem h']
  rfl
theorem wAt_at (s : ByteArray) (k p : Nat) (hp : p = 4 * k) (h : p + 3 < s.size) : wAt s.data.toList k = or4 ((s[p]).toNat : Int) ((s[p + 1]).toNat : Int) ((s[p + 2]).toNat : Int) ((s[p + 3]).toNat : Int) := by
  subst hp
  unfold wAt
  rw [getD_at s _ (by omega), getD_at s _ (by omega), getD_at s _ (by omega), getD_at s _ (by omega)]
theorem wordsL_snoc (k : Nat) (f : Nat → Int) : wordsL (k + 1) f = wordsL k f ++ [.int .u32 (f k)] := by simp [wordsL, List.range_succ]
theorem be_step {w wr w2 : World} {s : ByteArray} {k p : Nat} (hp : p = 4 * k) (h : p + 3 < s.size) {v v' : Value} {o : Obj} (hown : wr.ownsRow w.heap.size 64 1 v k (wordsL k (wAt s.data.toList))) (hb : Below w.heap.size w wr)
    (hown2 : w2.ownsRow w.heap.size 64 1 v' (k + 1) (wordsL k (wAt s.data.toList) ++ [.int .u32 (or4 ((s[p]).toNat : Int) ((s[p + 1]).toNat : Int) ((s[p + 2]).toNat : Int) ((s[p + 3]).toNat : Int))])) (hgrow : (wr.alloc o).drew.grownBy w2 v.ownBlock) :
    w2.ownsRow w.heap.size 64 1 v' (k + 1) (wordsL (k + 1) (wAt s.data.toList)) ∧ Below w.heap.size w w2 := by
  constructor
  · rw [wordsL_snoc, wAt_at s k p hp h]; exact hown2
  · refine ((hb.alloc hb.size _).drew).grown hgrow (by have := hb.size; simp; omega) ?_
    intro j hj
    exact (hown.lt j hj).1

set_option maxHeartbeats 2000000 in
theorem l2Be_spec (s : ByteArray) (N : Nat) (w : World) (hs : s.size = 4 * N) (hN : N ≤ 64) :
    Calls Tryd.prog 56 #[.string s] w fun e w' => ∃ v, e = .returned v ∧ w'.ownsRow w.heap.size 64 1 v N (wordsL N (wAt s.data.toList)) ∧ Below w.heap.size w w' := by
  obtain ⟨i0, hi, hz0, hz1, hz2⟩ := info_parts info_u32
  have hs1 : (s.size : Int) ≤ 256 := by omega
  have HS := Lib.hid (And.intro hs hN)
  clear hs hN
  go_enter Tryd.func56, Tryd.ntmps56
  go_wp2
  have hown : (w.alloc (.cells #[] 64)).ownsRow w.heap.size 64 1 (.slice (some ⟨w.heap.size, 0, none⟩) 0 0) 0 [] := World.ownsRow_lit w #[] 0 (Nat.le_refl _) (by unfold maxLen; omega) rfl
  have hb1 : Below w.heap.size w (w.alloc (.cells #[] 64)) := (Below.refl _ _).alloc (Nat.le_refl _) _
  go_loopw [3, 4] (fun v i wr => ∃ k p : Nat, k ≤ N ∧ p = 4 * k ∧ i = .int .i64 p ∧ wr.ownsRow w.heap.size 64 1 v k (wordsL k (wAt s.data.toList)) ∧ Below w.heap.size w wr)
    (fun _ i _ => 4 * N - (intOf i).toNat)
  case atStart => exact ⟨0, 0, Nat.zero_le _, rfl, rfl, hown, hb1⟩
  case round =>
    clear hown hb1
    obtain ⟨k, p, hk, hp, rfl, hown, hb⟩ := hrel
    have HP := Lib.hid hp
    by_cases hlt : k < N
    · have p0 : (0 : Int) ≤ (p : Int) := by omega
      have p4 : (p : Int) + 4 ≤ (s.size : Int) := by have := HS.out; omega
      have p3 : (p : Int) + 3 < (s.size : Int) := by omega
      have p2 : (p : Int) + 2 < (s.size : Int) := by omega
      have p1 : (p : Int) + 1 < (s.size : Int) := by omega
      have pp : (p : Int) < (s.size : Int) := by omega
      clear hp
      go_wp2
      have v1 : IntKind.i64.wrap ((p : Int) + 1) = (p : Int) + 1 := IntWalk.i64_in _ (by omega)
      have v2 : IntKind.i64.wrap ((p : Int) + 2) = (p : Int) + 2 := IntWalk.i64_in _ (by omega)
      have v3 : IntKind.i64.wrap ((p : Int) + 3) = (p : Int) + 3 := IntWalk.i64_in _ (by omega)
      have q1 : (0 : Int) ≤ (p : Int) + 1 := by omega
      have q2 : (0 : Int) ≤ (p : Int) + 2 := by omega
      have q3 : (0 : Int) ≤ (p : Int) + 3 := by omega
      have t1 : ((p : Int) + 1).toNat = p + 1 := by omega
      have t2 : ((p : Int) + 2).toNat = p + 2 := by omega
      have t3 : ((p : Int) + 3).toNat = p + 3 := by omega
      go_region_held3 (fun w' => True) (trivial) ((refine step_append_lies _ (by rfl) _ _ _ (by rfl) w.heap.size 64 i0 _ 1 4 Tryd.underlying63 hi hz0 hz1 hz2 rfl (by omega) u3 k _ (by rfl) ((hown.alloc _).drew) ⟨wr.heap.size, 0, none⟩ 1 1 [_] (by rfl) (by rfl) (World.news_of_block (cs := #[_]) (t := 64) (fr := (0, 0)) (heap_alloc_new wr _)) (by simp [Value.oneCell']) (by omega) (by have := HS.out; unfold maxLen; omega) (by have := HS.out; omega) (by have := hb.size; simp; omega) (wr.heap.size + 1) (by simp) ?_; intro g cap w2 hown2 hgrow2 hat hlt2))
      all_goals
        have R := be_step HP.out (by omega) hown hb hown2 hgrow2
        clear hown2 hgrow2 hown hat hlt2
        go_wp2
        go_roundw
        case rel => exact ⟨k + 1, p + 4, by omega, by have := HP.out; omega, by go_num, R.1, R.2⟩
        case measure => simp [intOf]; have := HP.out; omega
    · have hke : k = N := by omega
      have p4 : (s.size : Int) < (p : Int) + 4 := by have := HS.out; have := HP.out; omega
      have p5 : (p : Int) ≤ 256 := by have := HS.out; have := HP.out; omega
      have p50 : (0 : Int) ≤ (p : Int) := by omega
      have p4n : ¬ (p : Int) + 4 ≤ (s.size : Int) := by omega
      have HKE := Lib.hid hke
      clear hp hlt hk hke
      go_wp2
      go_ret
      exact ⟨_, rfl, by rw [← HKE.out]; exact hown, hb⟩

end Go.Proofs.YtgjnoleejbkddaaDoor

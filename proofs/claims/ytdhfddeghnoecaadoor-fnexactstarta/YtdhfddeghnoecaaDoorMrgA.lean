/- The contracts of the small pieces of SHA-256: turning a word, the program's and the specification's. -/
import Derived.Test.YtdhfddeghnoecaaDoorRows
import Derived.Test.YtdhfddeghnoecaaDoorMathS
import Derived.WalkKit
import Derived.ProofKit
import Derived.Lib.Hide
import Derived.Deep.QuietTactic
import Derived.BigQuiet
import Derived.WalkSpells
import Derived.WalkLawsBesides
import Derived.Deep.RegionHeld3
import Derived.Deep.AppendLies
import Derived.StillTailTactics
import Derived.Deep.MidRow
namespace Go.Proofs.YtdhfddeghnoecaaDoor
open Go.RowKit Go.My Go.Lib
set_option linter.unusedVariables false

theorem rot_spec (x : Int) (k : Nat) (w : World) (h0 : 0 ≤ x) (h1 : x ≤ 4294967295) (hr : 1 ≤ k) (hr2 : k ≤ 31) :
    Calls Tryd.prog 100 #[.int .u32 x, .int .i64 k] w fun e w' => e = .returned (.int .u32 (rot x k)) ∧ w = w' := by
  have hi1 : (1 : Int) ≤ k := by omega
  have hi2 : (k : Int) ≤ 31 := by omega
  go_enter Tryd.func100, Tryd.ntmps100
  go_wp2
  go_ret
  exact ⟨rfl, rfl⟩

theorem rot_impl (x : Int) (r k : Nat) (w : World) (h0 : 0 ≤ x) (h1 : x ≤ 4294967295) (hr : 1 ≤ k) (hr2 : k ≤ 31) (hrk : r + k = 32) :
    Calls Tryd.prog 105 #[.int .u32 x, .int .i64 (-(r : Int))] w fun e w' => e = .returned (.int .u32 (rot x k)) ∧ w = w' := by
  have hi1 : (1 : Int) ≤ k := by omega
  have hi2 : (k : Int) ≤ 31 := by omega
  have he := mask31 r k hr hr2 hrk
  go_enter Tryd.func105, Tryd.ntmps105
  go_wp2
  go_ret
  exact ⟨rfl, rfl⟩

theorem rot_impl' (x n : Int) (r k : Nat) (w : World) (h0 : 0 ≤ x) (h1 : x ≤ 4294967295) (hn : n = -(r : Int)) (hr : 1 ≤ k) (hr2 : k ≤ 31) (hrk : r + k = 32) :
    Calls Tryd.prog 105 #[.int .u32 x, .int .i64 n] w fun e w' => e = .returned (.int .u32 (rot x k)) ∧ w = w' := by
  subst hn
  exact rot_impl x r k w h0 h1 hr hr2 hrk

theorem turned_any (x : Int) (w : World) (h0 : 0 ≤ x) (h1 : x ≤ 4294967295) (i j k i' j' k' : Nat) (hi : 1 ≤ i' ∧ i' ≤ 31 ∧ i + i' = 32) (hj : 1 ≤ j' ∧ j' ≤ 31 ∧ j + j' = 32) (hk : 1 ≤ k' ∧ k' ≤ 31 ∧ k + k' = 32) :
    Calls Tryd.prog 104 #[.int .u32 x, .int .i64 i, .int .i64 j, .int .i64 k] w fun e w' => e = .returned (.int .u32 (xor32 (xor32 (rot x i') (rot x j')) (rot x k'))) ∧ w = w' := by
  have hi1 : (i : Int) ≤ 31 := by omega
  have hj1 : (j : Int) ≤ 31 := by omega
  have hk1 : (k : Int) ≤ 31 := by omega
  have HI := Lib.hid hi
  have HJ := Lib.hid hj
  have HK := Lib.hid hk
  clear hi hj hk
  go_enter Tryd.func104, Tryd.ntmps104
  go_wp2_with fail
  refine (rot_impl x i i' _ h0 h1 HI.out.1 HI.out.2.1 HI.out.2.2).mono ?_
  rintro e w' ⟨rfl, rfl⟩
  go_wp2_with fail
  refine (rot_impl x j j' _ h0 h1 HJ.out.1 HJ.out.2.1 HJ.out.2.2).mono ?_
  rintro e w' ⟨rfl, rfl⟩
  go_wp2_with fail
  refine (rot_impl x k k' _ h0 h1 HK.out.1 HK.out.2.1 HK.out.2.2).mono ?_
  rintro e w' ⟨rfl, rfl⟩
  go_wp2
  go_ret
  exact ⟨rfl, rfl⟩

end Go.Proofs.YtdhfddeghnoecaaDoor

/- The contract of the specification's l2Be: words of four bytes, the highest first. -/
namespace Go.Proofs.YtdhfddeghnoecaaDoor
open Go.RowKit Go.My Go.Lib
set_option linter.unusedVariables false

theorem info_u32 : (Tryd.prog.info? 119).map (fun i => (i.zero, i.size, i.bytes)) = some (some (.int .u32 0), 1, 4) := by kernel_rfl

def or4 (a b c d : Int) : Int := bits .or .u32 (bits .or .u32 (bits .or .u32 (IntKind.u32.wrap (IntKind.u32.wrap a * 16777216)) (IntKind.u32.wrap (IntKind.u32.wrap b * 65536))) (IntKind.u32.wrap (IntKind.u32.wrap c * 256))) (IntKind.u32.wrap d)
/-- The word at place j of a text. -/
def wAt (l : List UInt8) (j : Nat) : Int := or4 ((l.getD (4 * j) 0).toNat : Int) ((l.getD (4 * j + 1) 0).toNat : Int) ((l.getD (4 * j + 2) 0).toNat : Int) ((l.getD (4 * j + 3) 0).toNat : Int)
theorem getD_at (s : ByteArray) (p : Nat) (h : p < s.size) : s.data.toList.getD p 0 = s[p] := by
  have h' : p < s.data.toList.length := by rw [len_data]; exact h
  rw [List.getD_eq_getElem?_getD, List.getElem?_eq_getElem h']
  rfl
theorem wAt_at (s : ByteArray) (k p : Nat) (hp : p = 4 * k) (h : p + 3 < s.size) : wAt s.data.toList k = or4 ((s[p]).toNat : Int) ((s[p + 1]).toNat : Int) ((s[p + 2]).toNat : Int) ((s[p + 3]).toNat : Int) := by
  subst hp
  unfold wAt
  rw [getD_at s _ (by omega), getD_at s _ (by omega), getD_at s _ (by omega), getD_at s _ (by omega)]
theorem wordsL_snoc (k : Nat) (f : Nat → Int) : wordsL (k + 1) f = wordsL k f ++ [.int .u32 (f k)] := by simp [wordsL, List.range_succ]
theorem be_step {w wr w2 : World} {s : ByteArray} {k p : Nat} (hp : p = 4 * k) (h : p + 3 < s.size) {v v' : Value} {o : Obj} (hown : wr.ownsRow w.heap.size 119 1 v k (wordsL k (wAt s.data.toList))) (hb : Below w.heap.size w wr)
    (hown2 : w2.ownsRow w.heap.size 119 1 v' (k + 1) (wordsL k (wAt s.data.toList) ++ [.int .u32 (or4 ((s[p]).toNat : Int) ((s[p + 1]).toNat : Int) ((s[p + 2]).toNat : Int) ((s[p + 3]).toNat : Int))])) (hgrow : (wr.alloc o).drew.grownBy w2 v.ownBlock) :
    w2.ownsRow w.heap.size 119 1 v' (k + 1) (wordsL (k + 1) (wAt s.data.toList)) ∧ Below w.heap.size w w2 := by
  constructor
  · rw [wordsL_snoc, wAt_at s k p hp h]; exact hown2
  · refine ((hb.alloc hb.size _).drew).grown hgrow (by have := hb.size; simp; omega) ?_
    intro j hj
    exact (hown.lt j hj).1

set_option maxHeartbeats 2000000 in
theorem l2Be_spec (s : ByteArray) (N : Nat) (w : World) (hs : s.size = 4 * N) (hN : N ≤ 64) :
    Calls Tryd.prog 99 #[.string s] w fun e w' => ∃ v, e = .returned v ∧ w'.ownsRow w.heap.size 119 1 v N (wordsL N (wAt s.data.toList)) ∧ Below w.heap.size w w' := by
  obtain ⟨i0, hi, hz0, hz1, hz2⟩ := info_parts info_u32
  have hs1 : (s.size : Int) ≤ 256 := by omega
  have HS := Lib.hid (And.intro hs hN)
  clear hs hN
  go_enter Tryd.func99, Tryd.ntmps99
  go_wp2
  have hown : (w.alloc (.cells #[] 119)).ownsRow w.heap.size 119 1 (.slice (some ⟨w.heap.size, 0, none⟩) 0 0) 0 [] := World.ownsRow_lit w #[] 0 (Nat.le_refl _) (by unfold maxLen; omega) rfl
  have hb1 : Below w.heap.size w (w.alloc (.cells #[] 119)) := (Below.refl _ _).alloc (Nat.le_refl _) _
  go_loopw [3, 4] (fun v i wr => ∃ k p : Nat, k ≤ N ∧ p = 4 * k ∧ i = .int .i64 p ∧ wr.ownsRow w.heap.size 119 1 v k (wordsL k (wAt s.data.toList)) ∧ Below w.heap.size w wr)
    (fun _ i _ => 4 * N - (intOf i).toNat)
  case atStart => exact ⟨0, 0, Nat.zero_le _, rfl, rfl, hown, hb1⟩
  case round =>
    clear hown hb1
    obtain ⟨k, p, hk, hp, rfl, hown, hb⟩ := hrel
    have HP := Lib.hid hp
    by_cases hlt : k < N
    · have p0 : (0 : Int) ≤ (p : Int) := by omega
      have p4 : (p : Int) + 4 ≤ (s.size : Int) := by have := HS.out; omega
      have p3 : (p : Int) + 3 < (s.size : Int) := by omega
      have p2 : (p : Int) + 2 < (s.size : Int) := by omega
      have p1 : (p : Int) + 1 < (s.size : Int) := by omega
      have pp : (p : Int) < (s.size : Int) := by omega
      clear hp
      go_wp2
      have v1 : IntKind.i64.wrap ((p : Int) + 1) = (p : Int) + 1 := IntWalk.i64_in _ (by omega)
      have v2 : IntKind.i64.wrap ((p : Int) + 2) = (p : Int) + 2 := IntWalk.i64_in _ (by omega)
      have v3 : IntKind.i64.wrap ((p : Int) + 3) = (p : Int) + 3 := IntWalk.i64_in _ (by omega)
      have q1 : (0 : Int) ≤ (p : Int) + 1 := by omega
      have q2 : (0 : Int) ≤ (p : Int) + 2 := by omega
      have q3 : (0 : Int) ≤ (p : Int) + 3 := by omega
      have t1 : ((p : Int) + 1).toNat = p + 1 := by omega
      have t2 : ((p : Int) + 2).toNat = p + 2 := by omega
      have t3 : ((p : Int) + 3).toNat = p + 3 := by omega
      go_region_held3 (fun w' => True) (trivial) ((refine step_append_lies _ (by rfl) _ _ _ (by rfl) w.heap.size 119 i0 _ 1 4 Tryd.underlying117 hi hz0 hz1 hz2 rfl (by omega) u3 k _ (by rfl) ((hown.alloc _).drew) ⟨wr.heap.size, 0, none⟩ 1 1 [_] (by rfl) (by rfl) (World.news_of_block (cs := #[_]) (t := 119) (fr := (0, 0)) (heap_alloc_new wr _)) (by simp [Value.oneCell']) (by omega) (by have := HS.out; unfold maxLen; omega) (by have := HS.out; omega) (by have := hb.size; simp; omega) (wr.heap.size + 1) (by simp) ?_; intro g cap w2 hown2 hgrow2 hat hlt2))
      all_goals
        have R := be_step HP.out (by omega) hown hb hown2 hgrow2
        clear hown2 hgrow2 hown hat hlt2
        go_wp2
        go_roundw
        case rel => exact ⟨k + 1, p + 4, by omega, by have := HP.out; omega, by go_num, R.1, R.2⟩
        case measure => simp [intOf]; have := HP.out; omega
    · have hke : k = N := by omega
      have p4 : (s.size : Int) < (p : Int) + 4 := by have := HS.out; have := HP.out; omega
      have p5 : (p : Int) ≤ 256 := by have := HS.out; have := HP.out; omega
      have p50 : (0 : Int) ≤ (p : Int) := by omega
      have p4n : ¬ (p : Int) + 4 ≤ (s.size : Int) := by omega
      have HKE := Lib.hid hke
      clear hp hlt hk hke
      go_wp2
      go_ret
      exact ⟨_, rfl, by rw [← HKE.out]; exact hown, hb⟩

end Go.Proofs.YtdhfddeghnoecaaDoor

/- The contract of the specification's l2K. -/
namespace Go.Proofs.YtdhfddeghnoecaaDoor
open Go.RowKit Go.My Go.Lib
set_option linter.unusedVariables false

def ksL : List UInt8 := [66, 138, 47, 152, 113, 55, 68, 145, 181, 192, 251, 207, 233, 181, 219, 165, 57, 86, 194, 91, 89, 241, 17, 241, 146, 63, 130, 164, 171, 28, 94, 213, 216, 7, 170, 152, 18, 131, 91, 1, 36, 49, 133, 190, 85, 12, 125, 195, 114, 190, 93, 116, 128, 222, 177, 254, 155, 220, 6, 167, 193, 155, 241, 116, 228, 155, 105, 193, 239, 190, 71, 134, 15, 193, 157, 198, 36, 12, 161, 204, 45, 233, 44, 111, 74, 116, 132, 170, 92, 176, 169, 220, 118, 249, 136, 218, 152, 62, 81, 82, 168, 49, 198, 109, 176, 3, 39, 200, 191, 89, 127, 199, 198, 224, 11, 243, 213, 167, 145, 71, 6, 202, 99, 81, 20, 41, 41, 103, 39, 183, 10, 133, 46, 27, 33, 56, 77, 44, 109, 252, 83, 56, 13, 19, 101, 10, 115, 84, 118, 106, 10, 187, 129, 194, 201, 46, 146, 114, 44, 133, 162, 191, 232, 161, 168, 26, 102, 75, 194, 75, 139, 112, 199, 108, 81, 163, 209, 146, 232, 25, 214, 153, 6, 36, 244, 14, 53, 133, 16, 106, 160, 112, 25, 164, 193, 22, 30, 55, 108, 8, 39, 72, 119, 76, 52, 176, 188, 181, 57, 28, 12, 179, 78, 216, 170, 74, 91, 156, 202, 79, 104, 46, 111, 243, 116, 143, 130, 238, 120, 165, 99, 111, 132, 200, 120, 20, 140, 199, 2, 8, 144, 190, 255, 250, 164, 80, 108, 235, 190, 249, 163, 247, 198, 113, 120, 242]
theorem ks_key : ∀ j : Fin 64, bits .or .u32 (bits .or .u32 (bits .or .u32 (((ksL.getD (4 * j.val) 0).toNat : Int) % 4294967296 * 16777216 % 4294967296) (((ksL.getD (4 * j.val + 1) 0).toNat : Int) % 4294967296 * 65536 % 4294967296)) (((ksL.getD (4 * j.val + 2) 0).toNat : Int) % 4294967296 * 256 % 4294967296)) (((ksL.getD (4 * j.val + 3) 0).toNat : Int) % 4294967296) = kW j.val := by decide +kernel

set_option maxHeartbeats 2000000 in
set_option maxRecDepth 100000 in
theorem l2K_spec (i : Nat) (w : World) (hi : i < 64) :
    Calls Tryd.prog 101 #[.int .i64 i] w fun e w' => e = .returned (.int .u32 (kW i)) ∧ ∃ m, w' = w.drewN m := by
  have i0 : (0 : Int) ≤ 4 * (i : Int) := by omega
  have i1 : 4 * (i : Int) < 256 := by omega
  have i2 : 4 * (i : Int) + 1 < 256 := by omega
  have i3 : 4 * (i : Int) + 2 < 256 := by omega
  have i4 : 4 * (i : Int) + 3 < 256 := by omega
  go_enter Tryd.func101, Tryd.ntmps101
  have v0 : IntKind.i64.wrap (4 * (i : Int)) = 4 * (i : Int) := IntWalk.i64_in _ (by omega)
  have v1 : IntKind.i64.wrap (4 * (i : Int) + 1) = 4 * (i : Int) + 1 := IntWalk.i64_in _ (by omega)
  have v2 : IntKind.i64.wrap (4 * (i : Int) + 2) = 4 * (i : Int) + 2 := IntWalk.i64_in _ (by omega)
  have v3 : IntKind.i64.wrap (4 * (i : Int) + 3) = 4 * (i : Int) + 3 := IntWalk.i64_in _ (by omega)
  have j1 : (0 : Int) ≤ 4 * (i : Int) + 1 := by omega
  have j2 : (0 : Int) ≤ 4 * (i : Int) + 2 := by omega
  have j3 : (0 : Int) ≤ 4 * (i : Int) + 3 := by omega
  have t0 : (4 * (i : Int)).toNat = 4 * i := by omega
  have t1 : (4 * (i : Int) + 1).toNat = 4 * i + 1 := by omega
  have t2 : (4 * (i : Int) + 2).toNat = 4 * i + 2 := by omega
  have t3 : (4 * (i : Int) + 3).toNat = 4 * i + 3 := by omega
  go_wp2_with fail
  go_quiet (fail)
  go_wp2
  go_ret
  refine ⟨congrArg (fun x => Ending.returned (Value.int .u32 x)) ?_, _, rfl⟩
  rw [← getD_at _ (4 * i), ← getD_at _ (4 * i + 1), ← getD_at _ (4 * i + 2), ← getD_at _ (4 * i + 3)]
  exact ks_key ⟨i, hi⟩

end Go.Proofs.YtdhfddeghnoecaaDoor

/- The contract of the program's schedule. -/
namespace Go.Proofs.YtdhfddeghnoecaaDoor
open Go.RowKit Go.My Go.Lib
set_option linter.unusedVariables false

theorem size_u8 : (Tryd.prog.info? 5).map (·.size) = some 1 := by kernel_rfl
theorem size_u32 : (Tryd.prog.info? 119).map (·.size) = some 1 := by kernel_rfl
theorem size_w64 : (Tryd.prog.info? 120).map (·.size) = some 64 := by kernel_rfl
theorem size_b64 : (Tryd.prog.info? 124).map (·.size) = some 64 := by kernel_rfl
theorem size_w8 : (Tryd.prog.info? 122).map (·.size) = some 8 := by kernel_rfl
abbrev Z64 : Array Value := #[Value.int .u32 0, Value.int .u32 0, Value.int .u32 0, Value.int .u32 0, Value.int .u32 0, Value.int .u32 0, Value.int .u32 0, Value.int .u32 0, Value.int .u32 0, Value.int .u32 0, Value.int .u32 0, Value.int .u32 0, Value.int .u32 0, Value.int .u32 0, Value.int .u32 0, Value.int .u32 0, Value.int .u32 0, Value.int .u32 0, Value.int .u32 0, Value.int .u32 0, Value.int .u32 0, Value.int .u32 0, Value.int .u32 0, Value.int .u32 0, Value.int .u32 0, Value.int .u32 0, Value.int .u32 0, Value.int .u32 0, Value.int .u32 0, Value.int .u32 0, Value.int .u32 0, Value.int .u32 0, Value.int .u32 0, Value.int .u32 0, Value.int .u32 0, Value.int .u32 0, Value.int .u32 0, Value.int .u32 0, Value.int .u32 0, Value.int .u32 0, Value.int .u32 0, Value.int .u32 0, Value.int .u32 0, Value.int .u32 0, Value.int .u32 0, Value.int .u32 0, Value.int .u32 0, Value.int .u32 0, Value.int .u32 0, Value.int .u32 0, Value.int .u32 0, Value.int .u32 0, Value.int .u32 0, Value.int .u32 0, Value.int .u32 0, Value.int .u32 0, Value.int .u32 0, Value.int .u32 0, Value.int .u32 0, Value.int .u32 0, Value.int .u32 0, Value.int .u32 0, Value.int .u32 0, Value.int .u32 0]
theorem cell_set_ne {w : World} {g i j : Nat} {v : Value} (u : Value) (h : ¬ i = j) (hc : w.cell? ⟨g, j, none⟩ = some v) : (w.setCell ⟨g, i, none⟩ u).cell? ⟨g, j, none⟩ = some v := by
  rw [World.cell?_setCell_other _ _ _ _ (by simp [h])]; exact hc
theorem range_below {B g o : Nat} {w w' : World} {cs : List Value} (h : w.rangeAt g o cs) (hb : Below B w w') (hg : g < B) : w'.rangeAt g o cs := fun j v hv => by rw [hb.cell (p := ⟨g, o + j, none⟩) hg]; exact h j v hv

set_option maxHeartbeats 1000000 in
set_option maxRecDepth 100000 in
theorem sched_any (g : Nat) (bk : Nat → Int) (w : World) (hbk : ∀ i, 0 ≤ bk i ∧ bk i ≤ 255) (hblk : w.rangeAt g 8 (bytesL bk)) (hg : g < w.heap.size) :
    Calls Tryd.prog 103 #[.pointer (some ⟨g, 0, none⟩)] w fun e w' => e = .returned (.agg (wordsA 64 (schW (prtW bk 64)))) ∧ Below w.heap.size w w' := by
  go_enter Tryd.func103, Tryd.ntmps103
  go_wp2_with (refine wpList_load_mid (op := ⟨some 14, _, _, _, _, _⟩) rfl 124 _ rfl g 8 rfl (bytesL bk) (.array 64 5) ?c1 Tryd.underlying124 rfl ?c2 ?_)
  case c1 => exact range_below hblk ((Below.refl _ _).alloc (Nat.le_refl _) _ |>.alloc (by simp) _) hg
  case c2 => exact size_b64
  have hz : wordsA 64 (prtW bk 0) = Z64 := by rw [wordsA_congr 64 (g := fun _ => 0) (fun q _ => by unfold prtW; rw [Nat.zero_sub, Nat.min_zero]; rfl)]; rfl
  have hidx := fun (p : Nat) (hp : p < 64) (wx : World) => run_index_arr (P := Tryd.prog) wx 124 5 64 (bytesL bk).toArray .i64 .u8 p (.int .u8 (bk p)) Tryd.underlying124 Tryd.underlying5 size_u8 hp (by simpa using bytesL_get bk p hp)
  have HI := Lib.hid hidx
  have HB := Lib.hid hbk
  clear hidx hbk hblk
  go_loopw [15] (fun i wr => ∃ p : Nat, p ≤ 64 ∧ i = .int .i64 p ∧ wr.heap[w.heap.size + 1]? = some (.cells (wordsA 64 (prtW bk p)) 120 (0, 0)) ∧ wr.heap.size = w.heap.size + 2 ∧ wr.heap[w.heap.size]? = some (.cells Z64 120 (0, 0)) ∧ Below w.heap.size w wr)
    (fun i _ => 64 - (intOf i).toNat)
  case atStart =>
    refine ⟨0, by omega, rfl, ?_, by simp, heap_alloc2_old w _ _, ((Below.refl _ _).alloc (Nat.le_refl _) _).alloc (by simp) _⟩
    rw [hz]
    exact heap_alloc2_new w _ _
  case round =>
    clear hz
    obtain ⟨p, hp, rfl, hw, hsz, hres, hb⟩ := hrel
    by_cases hlt : p < 64
    · have hidx := HI.out p hlt
      obtain ⟨hb0, hb1⟩ := HB.out p
      obtain ⟨hx0, hx1⟩ := prtW_bd bk p (p / 4)
      have hp0 : (p : Int) < 64 := by omega
      have hq0 : (0 : Int) ≤ (p : Int) / 4 := by omega
      have hq1 : (p : Int) / 4 < 64 := by omega
      have hc : wr.cell? ⟨w.heap.size + 1, p / 4, none⟩ = some (.int .u32 (prtW bk p (p / 4))) := by rw [cell_of_row wr _ (p / 4) _ _ _ hw]; exact wordsA_get 64 _ _ (by omega)
      have hf := frozen_of_row wr (w.heap.size + 1) (p / 4) _ _ hw
      have hst := heap_setCell_same wr (w.heap.size + 1) (p / 4) _ _ (.int .u32 (prtW bk (p + 1) (p / 4))) hw
      rw [wordsA_set 64 (prtW bk p) (prtW bk (p + 1)) (p / 4) (by omega) _ rfl (fun j _ hj => prtW_other bk p j hj)] at hst
      have hrs : (wr.setCell ⟨w.heap.size + 1, p / 4, none⟩ (.int .u32 (prtW bk (p + 1) (p / 4)))).heap[w.heap.size]? = some (.cells Z64 120 (0, 0)) := by rw [heap_setCell_other _ _ _ _ (by simp)]; exact hres
      have hb' := hb.setCell (p := ⟨w.heap.size + 1, p / 4, none⟩) (by simp) (.int .u32 (prtW bk (p + 1) (p / 4)))
      have HS := Lib.hid hst
      have HR := Lib.hid hrs
      have HZ := Lib.hid hsz
      rw [prtW_at] at HS HR hb'
      clear hst hrs hres hw hsz hb
      generalize prtW bk p (p / 4) = X at *
      go_wp2
      go_roundw
      case rel => exact ⟨p + 1, by omega, by go_num, HS.out, by have := HZ.out; simpa [World.setCell] using this, HR.out, hb'⟩
      case measure => simp [intOf]; omega
    · have hpe : p = 64 := by omega
      have hpp : (64 : Int) ≤ (p : Int) := by omega
      rw [hpe] at hw
      clear hpe hlt
      have hbm := prtW_bd bk 64
      generalize hM : prtW bk 64 = M at *
      have hw2 : wr.heap[w.heap.size + 1]? = some (.cells (wordsA 64 (schT M 16)) 120 (0, 0)) := by rw [hw, ← hM, schT_start]
      have HM := Lib.hid (schW_bd M hbm)
      have HME := Lib.hid hM
      clear hw hM hbm HI HB
      go_wp2
      obtain ⟨wo, rfl⟩ : ∃ wo : World, wo = wr := ⟨_, rfl⟩
      go_loopw [6] (fun i wr => ∃ i0 : Nat, 16 ≤ i0 ∧ i0 ≤ 64 ∧ i = .int .i64 i0 ∧ wr.heap[w.heap.size + 1]? = some (.cells (wordsA 64 (schT M i0)) 120 (0, 0)) ∧ wr.heap.size = w.heap.size + 2 ∧ wr.heap[w.heap.size]? = some (.cells Z64 120 (0, 0)) ∧ Below w.heap.size w wr)
        (fun i _ => 64 - (intOf i).toNat)
      case atStart => exact ⟨16, by omega, by omega, rfl, hw2, hsz, hres, hb⟩
      case round =>
        clear hw2 hsz hres hb
        obtain ⟨n, hn16, hn64, rfl, hw, hsz, hres, hb⟩ := hrel
        by_cases hlt : n < 64
        · have cell := fun q (hq : q < n) => (cell_of_row wr (w.heap.size + 1) q _ _ _ hw).trans ((wordsA_get 64 _ q (by omega)).trans (by rw [schT_lt M n q hq]))
          have c15 := cell (n - 15) (by omega)
          have c2 := cell (n - 2) (by omega)
          have c16 := cell (n - 16) (by omega)
          have c7 := cell (n - 7) (by omega)
          have hf := frozen_of_row wr (w.heap.size + 1) n _ _ hw
          have hcn : ∃ u, wr.cell? ⟨w.heap.size + 1, n, none⟩ = some u := ⟨_, (cell_of_row wr (w.heap.size + 1) n _ _ _ hw).trans (wordsA_get 64 _ n (by omega))⟩
          obtain ⟨u, hcn⟩ := hcn
          have hst := heap_setCell_same wr (w.heap.size + 1) n _ _ (.int .u32 (schW M n)) hw
          rw [schT_set M n hlt] at hst
          have hrs : (wr.setCell ⟨w.heap.size + 1, n, none⟩ (.int .u32 (schW M n))).heap[w.heap.size]? = some (.cells Z64 120 (0, 0)) := by rw [heap_setCell_other _ _ _ _ (by simp)]; exact hres
          have hb' := hb.setCell (p := ⟨w.heap.size + 1, n, none⟩) (by simp) (.int .u32 (schW M n))
          have HS := Lib.hid hst
          have HR := Lib.hid hrs
          have HZ := Lib.hid hsz
          rw [schW_hi M n hn16] at HS HR hb'
          obtain ⟨a0, a1⟩ := HM.out (n - 15)
          obtain ⟨b0, b1⟩ := HM.out (n - 2)
          obtain ⟨d0, d1⟩ := HM.out (n - 16)
          obtain ⟨e0, e1⟩ := HM.out (n - 7)
          generalize schW M (n - 15) = A at *
          generalize schW M (n - 2) = B at *
          generalize schW M (n - 16) = C at *
          generalize schW M (n - 7) = D at *
          clear cell hst hrs hres hw hsz hb
          have n15 : (0 : Int) ≤ (n : Int) - 15 := by omega
          have n2 : (0 : Int) ≤ (n : Int) - 2 := by omega
          have n16 : (0 : Int) ≤ (n : Int) - 16 := by omega
          have n7 : (0 : Int) ≤ (n : Int) - 7 := by omega
          have m15 : (n : Int) - 15 < 64 := by omega
          have m2 : (n : Int) - 2 < 64 := by omega
          have m16 : (n : Int) - 16 < 64 := by omega
          have m7 : (n : Int) - 7 < 64 := by omega
          have m0 : (n : Int) < 64 := by omega
          have t15 : ((n : Int) - 15).toNat = n - 15 := by omega
          have t2 : ((n : Int) - 2).toNat = n - 2 := by omega
          have t16 : ((n : Int) - 16).toNat = n - 16 := by omega
          have t7 : ((n : Int) - 7).toNat = n - 7 := by omega
          go_wp2
          go_quiet (fail)
          go_wp2_with fail
          refine (rot_impl' A _ 7 25 _ a0 a1 (by decide) (by decide) (by decide) (by decide)).mono ?_
          rintro e w' ⟨rfl, rfl⟩
          go_wp2_with fail
          refine (rot_impl' A _ 18 14 _ a0 a1 (by decide) (by decide) (by decide) (by decide)).mono ?_
          rintro e w' ⟨rfl, rfl⟩
          go_wp2_with fail
          refine (rot_impl' B _ 17 15 _ b0 b1 (by decide) (by decide) (by decide) (by decide)).mono ?_
          rintro e w' ⟨rfl, rfl⟩
          go_wp2_with fail
          refine (rot_impl' B _ 19 13 _ b0 b1 (by decide) (by decide) (by decide) (by decide)).mono ?_
          rintro e w' ⟨rfl, rfl⟩
          have v16 : IntKind.i64.wrap ((n : Int) - 16) = (n : Int) - 16 := IntWalk.i64_in _ (by omega)
          have v7 : IntKind.i64.wrap ((n : Int) - 7) = (n : Int) - 7 := IntWalk.i64_in _ (by omega)
          have k16 : (16 : Int) ≤ (n : Int) := by omega
          have k7 : (7 : Int) ≤ (n : Int) := by omega
          go_wp2
          have z16 : ¬ n - 16 = n := by omega
          have z7 : ¬ n - 7 = n := by omega
          have y16 : ¬ n = n - 16 := by omega
          have y7 : ¬ n = n - 7 := by omega
          go_region_held3 (fun w' => w'.cell? ⟨w.heap.size + 1, n - 16, none⟩ = some (.int .u32 C) ∧ w'.cell? ⟨w.heap.size + 1, n - 7, none⟩ = some (.int .u32 D)) (first | exact ⟨c16, c7⟩ | exact ⟨cell_set_ne _ y16 c16, cell_set_ne _ y7 c7⟩) ((fail))
          go_wp2
          go_roundw
          case rel => exact ⟨n + 1, by omega, by omega, by go_num, HS.out, by have := HZ.out; simpa [World.setCell] using this, HR.out, ⟨hb'.os, hb'.tape, hb'.output, hb'.size, hb'.block⟩⟩
          case measure => simp [intOf]; omega
        · have hne : n = 64 := by omega
          have hpn : (64 : Int) ≤ (n : Int) := by omega
          rw [hne, schT_end, ← HME.out] at hw
          clear hne hlt HME HM
          generalize hRe : schW (prtW bk 64) = R at hw
          have HRE := Lib.hid hRe
          clear hRe
          have h64 : (Tryd.prog.info? 120).map (·.size) = some (wordsA 64 R).size := by rw [wordsA_size]; exact size_w64
          have hzs : Z64.size = (wordsA 64 R).size := by rw [wordsA_size]; rfl
          have h1c := wordsA_one 64 R
          have H64 := Lib.hid h64
          have HZS := Lib.hid hzs
          have H1C := Lib.hid h1c
          clear h64 hzs h1c
          go_wp2_with (first
            | with_reducible refine wpList_load_row (o := ⟨some 74, _, _, _, _, _⟩) rfl 120 _ rfl (w.heap.size + 1) rfl 120 (wordsA 64 R) (0, 0) (.array 64 119) hw Tryd.underlying120 rfl H64.out ?_
            | with_reducible (refine wpList_store_row (o := ⟨none, .store 120 _ _, _, _, _, _⟩) rfl 120 _ _ rfl w.heap.size (wordsA 64 R) rfl rfl 120 Z64 hres H64.out HZS.out H1C.out ?_))
          have hrow := setRow_heap wr w.heap.size Z64 (wordsA 64 R) 120 (0, 0) hres
          refine bodyPost_ret (v := .agg (wordsA 64 R)) ?_ rfl ⟨by rw [HRE.out], ?_⟩
          · exact results_cell_row Tryd.results103 _ _ w.heap.size 120 _ (0, 0) _ rfl hrow Tryd.underlying120 rfl H64.out
          · exact hb.trans ⟨rfl, rfl, rfl, by simp, fun k hk => setRow_other wr w.heap.size k _ (by omega)⟩

end Go.Proofs.YtdhfddeghnoecaaDoor

/- A digest as a value: what is written to it byte by byte. -/
namespace Go.Proofs.YtdhfddeghnoecaaDoor
open Go.RowKit Go.My Go.Lib
set_option linter.unusedVariables false

/-- The state's words, the block's bytes, how many of them are filled. -/
structure DS where
  st : Nat → Int
  bk : Nat → Int
  u : Nat
def bput (bk : Nat → Int) (u : Nat) (b : Int) : Nat → Int := fun j => if j = u then b else bk j
def dstep (S : DS) (b : UInt8) : DS :=
  if S.u + 1 = 64 then ⟨compF S.st (schW (prtW (bput S.bk S.u b.toNat) 64)), bput S.bk S.u b.toNat, 0⟩ else ⟨S.st, bput S.bk S.u b.toNat, S.u + 1⟩
def dputs (S : DS) (l : List UInt8) : DS := l.foldl dstep S
theorem dputs_nil (S : DS) : dputs S [] = S := rfl
theorem dputs_snoc (S : DS) (l : List UInt8) (b : UInt8) : dputs S (l ++ [b]) = dstep (dputs S l) b := by simp [dputs]
theorem dputs_append (S : DS) (a b : List UInt8) : dputs S (a ++ b) = dputs (dputs S a) b := by simp [dputs]
theorem dstep_lt (S : DS) (b : UInt8) (h : S.u < 64) : (dstep S b).u < 64 := by
  unfold dstep
  by_cases h2 : S.u + 1 = 64
  · rw [if_pos h2]; exact (by decide : 0 < 64)
  · rw [if_neg h2]; show S.u + 1 < 64; omega
theorem dputs_lt (S : DS) (l : List UInt8) (h : S.u < 64) : (dputs S l).u < 64 := by
  unfold dputs
  induction l generalizing S with
  | nil => exact h
  | cons b l ih => exact ih (dstep S b) (dstep_lt S b h)
theorem dstep_mix (S : DS) (b : UInt8) (h : S.u + 1 = 64) : dstep S b = ⟨compF S.st (schW (prtW (bput S.bk S.u b.toNat) 64)), bput S.bk S.u b.toNat, 0⟩ := if_pos h
theorem dstep_put (S : DS) (b : UInt8) (h : ¬ S.u + 1 = 64) : dstep S b = ⟨S.st, bput S.bk S.u b.toNat, S.u + 1⟩ := if_neg h
theorem bput_bd (bk : Nat → Int) (u : Nat) (b : UInt8) (h : ∀ q, 0 ≤ bk q ∧ bk q ≤ 255) (q : Nat) : 0 ≤ bput bk u (b.toNat : Int) q ∧ bput bk u (b.toNat : Int) q ≤ 255 := by
  unfold bput
  by_cases e : q = u
  · rw [if_pos e]; have := b.toNat_lt; omega
  · rw [if_neg e]; exact h q

theorem dstep_u (S : DS) (b : UInt8) (h : S.u < 64) : (dstep S b).u = (S.u + 1) % 64 := by
  unfold dstep
  by_cases h2 : S.u + 1 = 64
  · rw [if_pos h2]; show 0 = _; omega
  · rw [if_neg h2]; show S.u + 1 = _; omega
theorem dputs_u (S : DS) (l : List UInt8) (h : S.u < 64) : (dputs S l).u = (S.u + l.length) % 64 := by
  unfold dputs
  induction l generalizing S with
  | nil => simp; omega
  | cons b l ih =>
    rw [List.foldl_cons, ih (dstep S b) (dstep_lt S b h), dstep_u S b h, List.length_cons]
    omega
/-- How many zeros the padding holds, when u bytes of the block are filled. -/
def padN (u : Nat) : Nat := (119 - u) % 64
/-- The padding of a text of z bytes, of which u lie in the last block. -/
def padL (u z : Nat) : List UInt8 := 128 :: List.replicate (padN u) 0 ++ beL (8 * z) 8
def outL (st : Nat → Int) : Nat → List UInt8
  | 0 => []
  | n + 1 => outL st n ++ beL (st n).toNat 4
theorem outL_len (st : Nat → Int) (n : Nat) : (outL st n).length = 4 * n := by
  induction n with
  | zero => rfl
  | succ n ih => rw [outL, List.length_append, ih, show (beL (st n).toNat 4).length = 4 from beT_len _ _ _]; omega
/-- What sum gives. -/
def sumL (S : DS) (z : Nat) : List UInt8 := outL (dputs S (padL S.u z)).st 8
theorem padN_lt (u : Nat) : padN u < 64 := by unfold padN; omega
theorem pad_u (u m : Nat) (hu : u < 64) (hm : m < padN u) : ((u + 1) % 64 + m) % 64 ≠ 56 := by unfold padN at hm; omega
theorem pad_end (u : Nat) (hu : u < 64) : ((u + 1) % 64 + padN u) % 64 = 56 := by unfold padN; omega

def iv : List Int := [1779033703, 3144134277, 1013904242, 2773480762, 1359893119, 2600822924, 528734635, 1541459225]
/-- A new digest. -/
def S0 : DS := ⟨fun q => iv.getD q 0, fun _ => 0, 0⟩
/-- A key laid out to a block, each byte under the mask. -/
def maskL (l : List UInt8) (m : UInt8) : List UInt8 := (l ++ List.replicate (64 - l.length) 0).map (· ^^^ m)

def mixL (K : List UInt8) (m : UInt8) (j : Nat) : List UInt8 := (K.take j).map (· ^^^ m) ++ K.drop j
theorem mixL_len (K : List UInt8) (m : UInt8) (j : Nat) : (mixL K m j).length = K.length := by simp [mixL]; omega
theorem mixL_get (K : List UInt8) (m : UInt8) (j : Nat) (h : j < K.length) : (cellsOf (mixL K m j)).toArray[j]? = some (.int .u8 ((K[j]).toNat : Int)) := by
  have hl : ((K.take j).map (· ^^^ m)).length = j := by simp; omega
  rw [List.getElem?_toArray, cellsOf, List.getElem?_map, mixL, List.getElem?_append_right (by omega), hl, Nat.sub_self, List.getElem?_drop, Nat.add_zero, List.getElem?_eq_getElem h]
  rfl
theorem mixL_set (K : List UInt8) (m : UInt8) (j : Nat) (h : j < K.length) : (cellsOf (mixL K m j)).toArray.setIfInBounds j (.int .u8 ((K[j] ^^^ m).toNat : Int)) = (cellsOf (mixL K m (j + 1))).toArray := by
  rw [List.setIfInBounds_toArray]
  congr 1
  have hl : ((K.take j).map (· ^^^ m)).length = j := by simp; omega
  have e : K.drop j = K[j] :: K.drop (j + 1) := List.drop_eq_getElem_cons h
  rw [cellsOf, cellsOf, mixL, mixL, e, List.map_append, List.map_append, List.set_append_right _ _ (by rw [List.length_map, hl]; exact Nat.le_refl _), List.length_map, hl, Nat.sub_self, List.map_cons, List.set_cons_zero, List.take_succ_eq_append_getElem h, List.map_append, List.map_append]
  simp
theorem mixL_all (K : List UInt8) (m : UInt8) : mixL K m K.length = K.map (· ^^^ m) := by simp [mixL]

def catL (ps : List ByteArray) : List UInt8 := ps.flatMap (·.data.toList)
theorem catL_snoc (ps : List ByteArray) (n : Nat) (h : n < ps.length) : catL (ps.take (n + 1)) = catL (ps.take n) ++ ps[n].data.toList := by
  rw [List.take_succ_eq_append_getElem h]
  unfold catL
  rw [List.flatMap_append, List.flatMap_singleton]
theorem catL_len (ps : List ByteArray) (B : Nat) (h : ∀ q ∈ ps, q.size ≤ B) : (catL ps).length ≤ ps.length * B := by
  induction ps with
  | nil => simp [catL]
  | cons a l ih =>
    have h1 := ih (fun q hq => h q (List.mem_cons_of_mem _ hq))
    have h2 := h a List.mem_cons_self
    have e : catL (a :: l) = a.data.toList ++ catL l := by simp [catL]
    rw [e, List.length_append, List.length_cons, Nat.add_mul, Nat.one_mul, len_data]
    omega

theorem maskL_len (l : List UInt8) (m : UInt8) (h : l.length ≤ 64) : (maskL l m).length = 64 := by
  unfold maskL
  rw [List.length_map, List.length_append, List.length_replicate]
  omega
def keyL (k : List UInt8) : List UInt8 := if k.length ≤ 64 then k else sumL (dputs S0 k) k.length
theorem sumL_len (S : DS) (z : Nat) : (sumL S z).length = 32 := outL_len _ 8
theorem keyL_len (k : List UInt8) : (keyL k).length ≤ 64 := by
  unfold keyL
  by_cases h : k.length ≤ 64
  · rw [if_pos h]; exact h
  · rw [if_neg h, sumL_len]; omega
theorem catL_one (s : ByteArray) : catL [s] = s.data.toList := by simp [catL]

end Go.Proofs.YtdhfddeghnoecaaDoor

/- The contracts of the specification's l2With and l2K. -/
namespace Go.Proofs.YtdhfddeghnoecaaDoor
open Go.RowKit Go.My Go.Lib
set_option linter.unusedVariables false

theorem info_u8w : (Tryd.prog.info? 5).map (fun i => (i.zero, i.size, i.bytes)) = some (some (.int .u8 0), 1, 1) := by kernel_rfl

set_option maxHeartbeats 2000000 in
theorem l2With_spec (s : ByteArray) (m : UInt8) (w : World) (hs : s.size ≤ 64) :
    Calls Tryd.prog 78 #[.string s, .int .u8 m.toNat] w fun e w' => e = .returned (.string (str (s.data.toList.map (· ^^^ m)))) ∧ Below w.heap.size w w' := by
  obtain ⟨i0, hi, hz0, hz1, hz2⟩ := info_parts info_u8w
  have hs1 : (s.size : Int) ≤ 64 := by omega
  go_enter Tryd.func78, Tryd.ntmps78
  go_wp2
  have hown : (w.alloc (.cells #[] 5)).ownsRow w.heap.size 5 1 (.slice (some ⟨w.heap.size, 0, none⟩) 0 0) 0 [] := World.ownsRow_lit w #[] 0 (Nat.le_refl _) (by unfold maxLen; omega) rfl
  have hb1 : Below w.heap.size w (w.alloc (.cells #[] 5)) := (Below.refl _ _).alloc (Nat.le_refl _) _
  go_loopw [5, 6] (fun v i wr => ∃ k : Nat, k ≤ s.size ∧ i = .int .i64 k ∧ wr.ownsRow w.heap.size 5 1 v k (cellsOf ((s.data.toList.take k).map (· ^^^ m))) ∧ Below w.heap.size w wr)
    (fun _ i _ => s.size - (intOf i).toNat)
  case atStart => exact ⟨0, Nat.zero_le _, rfl, hown, hb1⟩
  case round =>
    clear hown hb1
    obtain ⟨k, hk, rfl, hown, hb⟩ := hrel
    by_cases hlt : k < s.size
    · have k0 : (0 : Int) ≤ (k : Int) := by omega
      have k1 : (k : Int) < (s.size : Int) := by omega
      have hx := xor_u8 (s[k]) m
      go_wp2_with (at_builtin; refine wpList_append_lies _ rfl _ _ 70 rfl w.heap.size 5 i0 (.int .u8 0) 1 1 Tryd.underlying70 hi hz0 hz1 hz2 rfl (by decide) u5 k _ rfl (hown.alloc _) ⟨wr.heap.size, 0, none⟩ 1 1 [_] rfl rfl (World.news_of_block (cs := #[_]) (t := 5) (fr := (0, 0)) (heap_alloc_new wr _)) (by simp [Value.oneCell']) (by omega) (by unfold maxLen; omega) (by omega) (by have := hb.size; simp; omega) (wr.heap.size + 1) (by simp) ?_; intro g cap w2 hown2 hgrow2 hat hlt2)
      have R := append_step (news := [s[k] ^^^ m]) hown (hb.alloc hb.size _) hown2 hgrow2
      rw [show List.map (· ^^^ m) (s.data.toList.take k) ++ [s[k] ^^^ m] = (s.data.toList.take (k + 1)).map (· ^^^ m) by rw [take_snoc s k hlt, List.map_append]; rfl] at R
      clear hown hown2 hgrow2
      go_roundw
      case rel => exact ⟨k + 1, by omega, by go_num, R.1, R.2⟩
      case measure => simp [intOf]; omega
    · obtain rfl : k = s.size := by omega
      rw [take_all] at hown
      have hcv := run_convert_own (P := Tryd.prog) wr 70 9 5 _ _ _ _ Tryd.underlying70 Tryd.underlying5 Tryd.underlying9 hown
      clear hown
      go_wp2
      go_ret
      exact ⟨rfl, hb⟩

end Go.Proofs.YtdhfddeghnoecaaDoor

/- The contract of the specification's l2Pad. -/
namespace Go.Proofs.YtdhfddeghnoecaaDoor
open Go.RowKit Go.My Go.Lib
set_option linter.unusedVariables false

/-- The text with its padding, as the specification lays it. -/
def padT (l : List UInt8) : List UInt8 := l ++ [128] ++ List.replicate (padN (l.length % 64)) 0 ++ [0, 0, 0, 0] ++ beL (8 * l.length) 4

set_option maxHeartbeats 2000000 in
theorem l2Pad_spec (s : ByteArray) (w : World) (hs : s.size ≤ 10000) :
    Calls Tryd.prog 89 #[.string s] w fun e w' => e = .returned (.string (str (padT s.data.toList))) ∧ Below w.heap.size w w' := by
  have hs1 : (s.size : Int) ≤ 10000 := by omega
  have HS := Lib.hid hs
  have hc1 : ¬ 9223372036854775807 < s.size + 1 := by omega
  clear hs
  go_enter Tryd.func89, Tryd.ntmps89
  go_wp2_with fail
  have h128 : s ++ (⟨#[128]⟩ : ByteArray) = str (s.data.toList ++ [128] ++ List.replicate 0 0) := by
    have : s = str s.data.toList := (str_of s).symm
    conv => lhs; rw [this]
    rw [show (⟨#[128]⟩ : ByteArray) = str [128] from rfl, str_app]
    simp
  rw [h128]
  clear h128 hc1
  have HP := Lib.hid (padN_lt (s.size % 64))
  go_loopw [3] (fun o wr => ∃ m : Nat, m ≤ padN (s.size % 64) ∧ o = .string (str (s.data.toList ++ [128] ++ List.replicate m 0)) ∧ wr = w)
    (fun o _ => match o with | .string t => s.size + 65 - t.size | _ => 0)
  case atStart => exact ⟨0, Nat.zero_le _, rfl, rfl⟩
  case round =>
    obtain ⟨m, hm, rfl, rfl⟩ := hrel
    have hsz : (str (s.data.toList ++ [128] ++ List.replicate m 0)).size = s.size + 1 + m := by
      rw [str_size]; simp only [List.length_append, List.length_replicate, List.length_singleton]; rw [len_data]
    by_cases hlt : m < padN (s.size % 64)
    · have hne := pad_u (s.size % 64) m (Nat.mod_lt _ (by decide)) hlt
      have hn2 : (((str (s.data.toList ++ [128] ++ List.replicate m 0)).size : Int) % 64 != 56) = true := by
        rw [hsz]; simp; omega
      have hsn : str (s.data.toList ++ [128] ++ List.replicate m 0) ++ (⟨#[0]⟩ : ByteArray) = str (s.data.toList ++ [128] ++ List.replicate (m + 1) 0) := by
        rw [show (⟨#[0]⟩ : ByteArray) = str [0] from rfl, str_app, List.replicate_succ', List.append_assoc]
      have HSN := Lib.hid hsn
      have HSZ := Lib.hid hsz
      have HM := Lib.hid (And.intro hm hlt)
      have hcat : ¬ 9223372036854775807 < (str (s.data.toList ++ [128] ++ List.replicate m 0)).size + 1 := by rw [hsz]; have := HS.out; have := HP.out; omega
      have b0 : (0 : Int) ≤ ((str (s.data.toList ++ [128] ++ List.replicate m 0)).size : Int) := by omega
      clear hne hsn hsz hm hlt
      generalize str (s.data.toList ++ [128] ++ List.replicate m 0) = B at *
      go_wp2
      go_roundw
      case rel => exact ⟨m + 1, by have := HM.out; omega, by rw [HSN.out], trivial⟩
      case measure =>
        rw [HSN.out]
        show s.size + 65 - (str (s.data.toList ++ [128] ++ List.replicate (m + 1) 0)).size < s.size + 65 - B.size
        rw [HSZ.out, str_size]
        simp only [List.length_append, List.length_replicate, List.length_singleton]
        rw [len_data]
        have := HP.out; have := HM.out
        omega
    · have hme : m = padN (s.size % 64) := by omega
      have he := pad_end (s.size % 64) (Nat.mod_lt _ (by decide))
      have hn2 : (((str (s.data.toList ++ [128] ++ List.replicate m 0)).size : Int) % 64 != 56) = false := by
        rw [hsz, hme]; simp; omega
      have hcat : ¬ 9223372036854775807 < (str (s.data.toList ++ [128] ++ List.replicate m 0)).size + 4 := by rw [hsz]; have := HS.out; have := HP.out; omega
      have HME := Lib.hid hme
      have HSZ := Lib.hid hsz
      have b0 : (0 : Int) ≤ ((str (s.data.toList ++ [128] ++ List.replicate m 0)).size : Int) := by omega
      have s0 : (0 : Int) ≤ (s.size : Int) := by omega
      clear hlt hm hme he hsz
      generalize hB : str (s.data.toList ++ [128] ++ List.replicate m 0) = B at *
      have HB := Lib.hid hB
      clear hB
      have hn1 : s.size ≤ 10000 := HS.out
      have e0 := beAt_val (8 * s.size) 4 0
      have e1 := beAt_val (8 * s.size) 4 1
      have e2 := beAt_val (8 * s.size) 4 2
      have e3 := beAt_val (8 * s.size) 4 3
      have hce : #[Value.int .u8 (8 * (s.size : Int) / 16777216), .int .u8 (8 * (s.size : Int) / 65536), .int .u8 (8 * (s.size : Int) / 256 % 256), .int .u8 (8 * (s.size : Int) % 256)] = (cellsOf (beL (8 * s.size) 4)).toArray := by
        have hb : beL (8 * s.size) 4 = [beAt (8 * s.size) 4 0, beAt (8 * s.size) 4 1, beAt (8 * s.size) 4 2, beAt (8 * s.size) 4 3] := rfl
        rw [hb]
        simp only [cellsOf, List.map_cons, List.map_nil, e0, e1, e2, e3]
        congr 1
        simp
        omega
      have hown : (wr.alloc (.cells #[Value.int .u8 (8 * (s.size : Int) / 16777216), .int .u8 (8 * (s.size : Int) / 65536), .int .u8 (8 * (s.size : Int) / 256 % 256), .int .u8 (8 * (s.size : Int) % 256)] 5)).ownsRow wr.heap.size 5 1 (.slice (some ⟨wr.heap.size, 0, none⟩) 4 4) 4 (cellsOf (beL (8 * s.size) 4)) := by
        rw [hce]
        exact World.ownsRow_lit wr (cellsOf (beL (8 * s.size) 4)).toArray 4 (Nat.le_refl _) (by unfold maxLen; omega) rfl
      have hcv := run_convert_own (P := Tryd.prog) _ 70 9 5 _ _ _ _ Tryd.underlying70 Tryd.underlying5 Tryd.underlying9 hown
      have HF : Hid (B ++ (⟨#[0, 0, 0, 0]⟩ : ByteArray) ++ str (beL (8 * s.size) 4) = str (padT s.data.toList)) := by
        show B ++ (⟨#[0, 0, 0, 0]⟩ : ByteArray) ++ str (beL (8 * s.size) 4) = str (padT s.data.toList)
        rw [← HB.out, show (⟨#[0, 0, 0, 0]⟩ : ByteArray) = str [0, 0, 0, 0] from rfl, str_app, str_app, HME.out]
        unfold padT
        rw [len_data]
      have hl4 : (str (beL (8 * s.size) 4)).size = 4 := by rw [str_size]; exact beT_len _ _ _
      have hcat2 : ¬ 9223372036854775807 < (B ++ (⟨#[0, 0, 0, 0]⟩ : ByteArray)).size + (str (beL (8 * s.size) 4)).size := by
        rw [hl4, ByteArray.size_append, HSZ.out]
        have := HP.out; have := HME.out
        show ¬ 9223372036854775807 < s.size + 1 + m + 4 + 4
        omega
      have hcat3 : ¬ 9223372036854775807 < B.size + 4 + (str (beL (8 * s.size) 4)).size := by
        rw [hl4, HSZ.out]
        have := HP.out; have := HME.out
        omega
      clear e0 e1 e2 e3 hce hown hn1 hl4
      generalize str (beL (8 * s.size) 4) = C at *
      go_wp2
      go_ret
      exact ⟨by rw [← HF.out]; rfl, (Below.refl _ _).alloc (Nat.le_refl _) _⟩

end Go.Proofs.YtdhfddeghnoecaaDoor

/- Words out of bytes: the program's, filled byte by byte, and the specification's, laid together, are one. -/
namespace Go.Proofs.YtdhfddeghnoecaaDoor
open Go.RowKit Go.My Go.Lib
set_option linter.unusedVariables false

theorem or_u32 (k x y : Nat) (hx : x % 2 ^ k = 0) (hy : y < 2 ^ k) (h : x + y < 4294967296) : bits .or .u32 (x : Int) (y : Int) = ((x + y : Nat) : Int) := by
  have o : ∀ a : Nat, a < 4294967296 → (BitVec.ofInt 32 (a : Int)).toNat = a := fun a ha => by rw [BitVec.ofInt_natCast, BitVec.toNat_ofNat]; exact Nat.mod_eq_of_lt (by omega)
  show IntKind.u32.wrap ((BitVec.ofInt 32 (x : Int) ||| BitVec.ofInt 32 (y : Int)).toNat : Int) = _
  rw [BitVec.toNat_or, o x (by omega), o y (by omega), nat_join k x y hx hy, IntKind.wrap_u32]
  omega

/-- Four bytes as a number. -/
def num4 (a b c d : Nat) : Nat := a * 16777216 + b * 65536 + c * 256 + d
theorem or4_num (a b c d : Nat) (ha : a < 256) (hb : b < 256) (hc : c < 256) (hd : d < 256) :
    bits .or .u32 (bits .or .u32 (bits .or .u32 (IntKind.u32.wrap (IntKind.u32.wrap (a : Int) * 16777216)) (IntKind.u32.wrap (IntKind.u32.wrap (b : Int) * 65536))) (IntKind.u32.wrap (IntKind.u32.wrap (c : Int) * 256))) (IntKind.u32.wrap (d : Int)) = (num4 a b c d : Int) := by
  have wr : ∀ x : Int, IntKind.u32.wrap x = x % 4294967296 := fun x => IntKind.wrap_u32 x
  simp only [wr]
  rw [show (a : Int) % 4294967296 * 16777216 % 4294967296 = ((a * 16777216 : Nat) : Int) by omega, show (b : Int) % 4294967296 * 65536 % 4294967296 = ((b * 65536 : Nat) : Int) by omega, show (c : Int) % 4294967296 * 256 % 4294967296 = ((c * 256 : Nat) : Int) by omega, show (d : Int) % 4294967296 = (d : Int) by omega]
  rw [or_u32 24 _ _ (by omega) (by omega) (by omega), or_u32 16 _ _ (by omega) (by omega) (by omega), or_u32 8 _ _ (by omega) (by omega) (by omega)]
  rfl
theorem fillW_num (bk : Nat → Int) (q : Nat) (a b c d : Nat) (h0 : bk (4 * q) = a) (h1 : bk (4 * q + 1) = b) (h2 : bk (4 * q + 2) = c) (h3 : bk (4 * q + 3) = d) (ha : a < 256) (hb : b < 256) (hc : c < 256) (hd : d < 256) : fillW bk q 4 = (num4 a b c d : Int) := by
  have f1 : fillW bk q 1 = ((0 + a : Nat) : Int) := by
    show bits .or .u32 (0 * 256 % 4294967296) (bk (4 * q + 0)) = _
    rw [Nat.add_zero, h0]; exact or_u32 8 0 a rfl (by omega) (by omega)
  have f2 : fillW bk q 2 = ((a * 256 + b : Nat) : Int) := by
    show bits .or .u32 (fillW bk q 1 * 256 % 4294967296) (bk (4 * q + 1)) = _
    rw [f1, h1, show ((0 + a : Nat) : Int) * 256 % 4294967296 = ((a * 256 : Nat) : Int) by omega]; exact or_u32 8 _ _ (by omega) (by omega) (by omega)
  have f3 : fillW bk q 3 = (((a * 256 + b) * 256 + c : Nat) : Int) := by
    show bits .or .u32 (fillW bk q 2 * 256 % 4294967296) (bk (4 * q + 2)) = _
    rw [f2, h2, show ((a * 256 + b : Nat) : Int) * 256 % 4294967296 = (((a * 256 + b) * 256 : Nat) : Int) by omega]; exact or_u32 8 _ _ (by omega) (by omega) (by omega)
  show bits .or .u32 (fillW bk q 3 * 256 % 4294967296) (bk (4 * q + 3)) = _
  rw [f3, h3, show (((a * 256 + b) * 256 + c : Nat) : Int) * 256 % 4294967296 = ((((a * 256 + b) * 256 + c) * 256 : Nat) : Int) by omega, or_u32 8 _ _ (by omega) (by omega) (by omega)]
  unfold num4
  omega

theorem schW_congr (m m' : Nat → Int) (h : ∀ q, q < 16 → m q = m' q) (i : Nat) : schW m i = schW m' i := by
  induction i using Nat.strongRecOn with
  | ind i ih =>
    by_cases hi : i < 16
    · rw [schW_lo _ _ hi, schW_lo _ _ hi, h i hi]
    · rw [schW_hi m i (by omega), schW_hi m' i (by omega), ih (i - 16) (by omega), ih (i - 15) (by omega), ih (i - 7) (by omega), ih (i - 2) (by omega)]

/-- A block's bytes, as the digest holds them. -/
def blkF (l : List UInt8) : Nat → Int := fun j => ((l.getD j 0).toNat : Int)

/-- A block of 64 bytes goes into a digest whose block is empty. -/
theorem dputs_part (S : DS) (hu : S.u = 0) (l : List UInt8) (n : Nat) (hn : n ≤ l.length) (h64 : n < 64) : (dputs S (l.take n)).st = S.st ∧ (dputs S (l.take n)).u = n ∧ ∀ j, j < n → (dputs S (l.take n)).bk j = blkF l j := by
  induction n with
  | zero => exact ⟨rfl, hu, fun j hj => absurd hj (Nat.not_lt_zero j)⟩
  | succ n ih =>
    obtain ⟨h1, h2, h3⟩ := ih (by omega) (by omega)
    have hb : n < l.length := by omega
    rw [List.take_succ_eq_append_getElem hb, dputs_snoc, dstep_put _ _ (by rw [h2]; omega)]
    refine ⟨h1, by show (dputs S (l.take n)).u + 1 = n + 1; rw [h2], ?_⟩
    intro j hj
    show bput (dputs S (l.take n)).bk (dputs S (l.take n)).u (l[n].toNat : Int) j = _
    unfold bput
    rw [h2]
    by_cases e : j = n
    · rw [if_pos e, e]; unfold blkF; rw [List.getD_eq_getElem?_getD, List.getElem?_eq_getElem hb]; rfl
    · rw [if_neg e, h3 j (by omega)]
theorem dputs_block (S : DS) (hu : S.u = 0) (l : List UInt8) (hl : l.length = 64) : (dputs S l).u = 0 ∧ (dputs S l).st = compF S.st (schW (prtW (blkF l) 64)) := by
  obtain ⟨h1, h2, h3⟩ := dputs_part S hu l 63 (by omega) (by omega)
  have hb : 63 < l.length := by omega
  have e : dputs S l = dstep (dputs S (l.take 63)) l[63] := by
    rw [← dputs_snoc, ← List.take_succ_eq_append_getElem hb, List.take_of_length_le (by omega)]
  rw [e, dstep_mix _ _ (by rw [h2])]
  refine ⟨rfl, ?_⟩
  show compF (dputs S (l.take 63)).st _ = _
  rw [h1]
  congr 1
  funext i
  apply schW_congr
  intro q hq
  unfold prtW
  rw [show min 4 (64 - 4 * q) = 4 by omega]
  have hk : ∀ j, j < 64 → bput (dputs S (l.take 63)).bk (dputs S (l.take 63)).u (l[63].toNat : Int) j = blkF l j := by
    intro j hj
    unfold bput
    rw [h2]
    by_cases e : j = 63
    · rw [if_pos e, e]; unfold blkF; rw [List.getD_eq_getElem?_getD, List.getElem?_eq_getElem hb]; rfl
    · rw [if_neg e, h3 j (by omega)]
  simp only [fillW, Nat.add_zero]
  rw [hk (4 * q) (by omega), hk (4 * q + 1) (by omega), hk (4 * q + 2) (by omega), hk (4 * q + 3) (by omega)]

end Go.Proofs.YtdhfddeghnoecaaDoor

/- The specification's hash and the program's digest are one. -/
namespace Go.Proofs.YtdhfddeghnoecaaDoor
open Go.RowKit Go.My Go.Lib
set_option linter.unusedVariables false

theorem wAt_num (l : List UInt8) (j : Nat) : wAt l j = (num4 (l.getD (4 * j) 0).toNat (l.getD (4 * j + 1) 0).toNat (l.getD (4 * j + 2) 0).toNat (l.getD (4 * j + 3) 0).toNat : Int) :=
  or4_num _ _ _ _ (UInt8.toNat_lt _) (UInt8.toNat_lt _) (UInt8.toNat_lt _) (UInt8.toNat_lt _)
theorem prt_wAt (l : List UInt8) (q : Nat) (h : q < 16) : prtW (blkF l) 64 q = wAt l q := by
  unfold prtW
  rw [show min 4 (64 - 4 * q) = 4 by omega, wAt_num]
  exact fillW_num _ q _ _ _ _ rfl rfl rfl rfl (UInt8.toNat_lt _) (UInt8.toNat_lt _) (UInt8.toNat_lt _) (UInt8.toNat_lt _)
theorem be4 (n : Nat) : beL n 4 = [beAt n 4 0, beAt n 4 1, beAt n 4 2, beAt n 4 3] := rfl
theorem outL_get (f : Nat → Int) (n q : Nat) (hq : q < n) (r : Nat) (hr : r < 4) : (outL f n).getD (4 * q + r) 0 = (beL (f q).toNat 4).getD r 0 := by
  induction n with
  | zero => omega
  | succ n ih =>
    have hl := outL_len f n
    have hb : (beL (f n).toNat 4).length = 4 := beT_len _ _ _
    rw [outL, List.getD_eq_getElem?_getD]
    by_cases h : q < n
    · rw [List.getElem?_append_left (by omega), ← List.getD_eq_getElem?_getD]; exact ih h
    · have e : q = n := by omega
      subst e
      rw [List.getElem?_append_right (by omega), hl, show 4 * q + r - 4 * q = r by omega, ← List.getD_eq_getElem?_getD]
theorem wAt_out (f : Nat → Int) (h : Bd f) (n q : Nat) (hq : q < n) : wAt (outL f n) q = f q := by
  rw [wAt_num]
  have g0 := outL_get f n q hq 0 (by omega)
  rw [Nat.add_zero] at g0
  rw [g0, outL_get f n q hq 1 (by omega), outL_get f n q hq 2 (by omega), outL_get f n q hq 3 (by omega), be4]
  have e0 := beAt_val (f q).toNat 4 0
  have e1 := beAt_val (f q).toNat 4 1
  have e2 := beAt_val (f q).toNat 4 2
  have e3 := beAt_val (f q).toNat 4 3
  obtain ⟨b0, b1⟩ := h q
  simp only [List.getD_cons_zero, List.getD_cons_succ]
  unfold num4
  simp at e0 e1 e2 e3
  omega
theorem rndF_congr (v v' : Nat → Int) (k x : Int) (h : ∀ q, q < 8 → v q = v' q) (q : Nat) (hq : q < 8) : rndF v k x q = rndF v' k x q := by
  have a := h 0 (by omega)
  have b := h 1 (by omega)
  have c := h 2 (by omega)
  have d := h 3 (by omega)
  have e := h 4 (by omega)
  have f := h 5 (by omega)
  have g := h 6 (by omega)
  have i := h 7 (by omega)
  rcases q with _ | _ | _ | _ | _ | _ | _ | _ | q
  · simp only [rndF, oneW, twoW, a, b, c, d, e, f, g, i]
  · exact a
  · exact b
  · exact c
  · simp only [rndF, oneW, twoW, a, b, c, d, e, f, g, i]
  · exact e
  · exact f
  · exact g
  · omega
theorem roundsF_congr (v v' W W' : Nat → Int) (h : ∀ q, q < 8 → v q = v' q) (hw : ∀ i, i < 64 → W i = W' i) (n : Nat) (hn : n ≤ 64) (q : Nat) (hq : q < 8) : roundsF v W n q = roundsF v' W' n q := by
  induction n generalizing q with
  | zero => exact h q hq
  | succ n ih =>
    show rndF (roundsF v W n) (kW n) (W n) q = rndF (roundsF v' W' n) (kW n) (W' n) q
    rw [hw n (by omega)]
    exact rndF_congr _ _ _ _ (fun q hq => ih (by omega) q hq) q hq
theorem outL_congr (f g : Nat → Int) (n : Nat) (h : ∀ q, q < n → f q = g q) : outL f n = outL g n := by
  induction n with
  | zero => rfl
  | succ n ih => rw [outL, outL, ih (fun q hq => h q (by omega)), h n (by omega)]
/-- One step of the specification. -/
def stepL (st bk : List UInt8) : List UInt8 := outL (compF (wAt st) (schW (wAt bk))) 8
theorem step_eq (st bk : Nat → Int) (l : List UInt8) (h : Bd st) : outL (compF st (schW (prtW (blkF l) 64))) 8 = stepL (outL st 8) l := by
  apply outL_congr
  intro q hq
  have hs : ∀ q, q < 8 → st q = wAt (outL st 8) q := fun q hq => (wAt_out st h 8 q hq).symm
  show add32 (st q) (roundsF st (schW (prtW (blkF l) 64)) 64 q) = add32 (wAt (outL st 8) q) (roundsF (wAt (outL st 8)) (schW (wAt l)) 64 q)
  rw [← hs q hq, roundsF_congr st (wAt (outL st 8)) _ (schW (wAt l)) hs (fun i _ => schW_congr _ _ (fun q hq => prt_wAt l q hq) i) 64 (by omega) q hq]
def firstL : List UInt8 := [106, 9, 230, 103, 187, 103, 174, 133, 60, 110, 243, 114, 165, 79, 245, 58, 81, 14, 82, 127, 155, 5, 104, 140, 31, 131, 217, 171, 91, 224, 205, 25]
theorem first_eq : outL S0.st 8 = firstL := by decide +kernel
/-- The specification's state after n blocks. -/
def stN (P : List UInt8) : Nat → List UInt8
  | 0 => firstL
  | n + 1 => stepL (stN P n) ((P.drop (64 * n)).take 64)
theorem S0_bd : Bd S0.st := by
  intro q
  rcases q with _ | _ | _ | _ | _ | _ | _ | _ | q
  all_goals first | exact ⟨by decide, by decide⟩ | exact ⟨Int.le_refl 0, (by decide : (0 : Int) ≤ 4294967295)⟩
theorem stN_eq (P : List UInt8) (n : Nat) (h : 64 * n ≤ P.length) : stN P n = outL (dputs S0 (P.take (64 * n))).st 8 ∧ (dputs S0 (P.take (64 * n))).u = 0 ∧ Bd (dputs S0 (P.take (64 * n))).st := by
  induction n with
  | zero => exact ⟨first_eq.symm, rfl, S0_bd⟩
  | succ n ih =>
    obtain ⟨h1, h2, h3⟩ := ih (by omega)
    have hb : ((P.drop (64 * n)).take 64).length = 64 := by rw [List.length_take, List.length_drop]; omega
    have e : P.take (64 * (n + 1)) = P.take (64 * n) ++ (P.drop (64 * n)).take 64 := by rw [← List.take_add]; congr 1
    obtain ⟨b1, b2⟩ := dputs_block (dputs S0 (P.take (64 * n))) h2 _ hb
    rw [e, dputs_append]
    refine ⟨?_, b1, ?_⟩
    · show stepL (stN P n) _ = _
      rw [h1, b2, step_eq _ (fun _ => 0) _ h3]
    · rw [b2]; exact compF_bd _ _
/-- The specification's hash. -/
def shaL (l : List UInt8) : List UInt8 := stN (padT l) ((padT l).length / 64)
theorem be8 (n : Nat) (h : n < 536870912) : beL (8 * n) 8 = [0, 0, 0, 0] ++ beL (8 * n) 4 := by
  have hb : ∀ j, j < 8 → beAt (8 * n) 8 j = (if j < 4 then 0 else beAt (8 * n) 4 (j - 4)) := by
    intro j hj
    have e := beAt_val (8 * n) 8 j
    apply UInt8.toNat_inj.1
    by_cases h4 : j < 4
    · rw [if_pos h4]
      have : (8 * n) / 2 ^ (8 * (8 - 1 - j)) = 0 := Nat.div_eq_of_lt (Nat.lt_of_lt_of_le (by omega : 8 * n < 2 ^ 32) (Nat.pow_le_pow_right (by decide) (by omega)))
      have e' : ((8 * n : Nat) : Int) / 2 ^ (8 * (8 - 1 - j)) = 0 := by rw [show (2 : Int) ^ (8 * (8 - 1 - j)) = ((2 ^ (8 * (8 - 1 - j)) : Nat) : Int) by simp, ← Int.natCast_ediv, this]; rfl
      rw [e'] at e
      have z : (0 : UInt8).toNat = 0 := rfl
      omega
    · rw [if_neg h4]
      have e4 := beAt_val (8 * n) 4 (j - 4)
      rw [show 8 - 1 - j = 4 - 1 - (j - 4) by omega] at e
      omega
  have l8 : beL (8 * n) 8 = [beAt (8 * n) 8 0, beAt (8 * n) 8 1, beAt (8 * n) 8 2, beAt (8 * n) 8 3, beAt (8 * n) 8 4, beAt (8 * n) 8 5, beAt (8 * n) 8 6, beAt (8 * n) 8 7] := rfl
  rw [l8, be4, hb 0 (by omega), hb 1 (by omega), hb 2 (by omega), hb 3 (by omega), hb 4 (by omega), hb 5 (by omega), hb 6 (by omega), hb 7 (by omega)]
  rfl
theorem padT_eq (l : List UInt8) (h : l.length < 536870912) : padT l = l ++ padL (l.length % 64) l.length := by
  unfold padT padL
  rw [be8 _ h]
  simp
theorem padT_len (l : List UInt8) : (padT l).length % 64 = 0 := by
  unfold padT
  simp only [List.length_append, List.length_replicate, List.length_cons, List.length_nil]
  rw [show (beL (8 * l.length) 4).length = 4 from beT_len _ _ _]
  unfold padN
  omega
theorem sha_eq (l : List UInt8) (h : l.length < 536870912) : sumL (dputs S0 l) l.length = shaL l := by
  have hd : 64 * ((padT l).length / 64) = (padT l).length := by have := padT_len l; omega
  obtain ⟨h1, _, _⟩ := stN_eq (padT l) ((padT l).length / 64) (by omega)
  unfold shaL
  rw [h1, hd, List.take_length, padT_eq l h, dputs_append]
  unfold sumL
  rw [dputs_u S0 l (by decide)]
  rw [show S0.u = 0 from rfl, Nat.zero_add]

end Go.Proofs.YtdhfddeghnoecaaDoor

/- The contract of the specification's l2Step: one block. -/
namespace Go.Proofs.YtdhfddeghnoecaaDoor
open Go.RowKit Go.My Go.Lib
set_option linter.unusedVariables false

theorem own_cells {w : World} {base n : Nat} {e : TypeId} {v : Value} {xs : List Value} (hn : 0 < n) (h : w.ownsRow base e 1 v n xs) : ∃ g cap, v = .slice (some ⟨g, 0, none⟩) n cap ∧ base ≤ g ∧ g < w.heap.size ∧ ∀ q, q < n → w.cell? ⟨g, q, none⟩ = xs[q]? := by
  obtain ⟨hl, hc⟩ := h
  rcases hc with ⟨_, h0⟩ | ⟨g, cap, cur, hv, hb, hg, h1, h2, h3, h4⟩
  · omega
  · refine ⟨g, cap, hv, hb, (Array.getElem?_eq_some_iff.1 hg).1, fun q hq => ?_⟩
    rw [cell_of_row w g q _ _ _ hg, ← h4, List.getElem?_take, if_pos (by omega), Array.getElem?_toList]
theorem wAt_bd (l : List UInt8) (q : Nat) : 0 ≤ wAt l q ∧ wAt l q ≤ 4294967295 := by
  rw [wAt_num]
  have a := UInt8.toNat_lt (l.getD (4 * q) 0)
  have b := UInt8.toNat_lt (l.getD (4 * q + 1) 0)
  have c := UInt8.toNat_lt (l.getD (4 * q + 2) 0)
  have d := UInt8.toNat_lt (l.getD (4 * q + 3) 0)
  unfold num4
  omega
def cpyF (H : Nat → Int) (i q : Nat) : Int := if q < i then H q else 0
theorem cpyF_set (H : Nat → Int) (i : Nat) (h : i < 8) : (wordsA 8 (cpyF H i)).setIfInBounds i (.int .u32 (H i)) = wordsA 8 (cpyF H (i + 1)) :=
  wordsA_set 8 _ _ i h _ (if_pos (by omega)) (fun j _ hj => by
    unfold cpyF
    by_cases h : j < i
    · rw [if_pos h, if_pos (by omega)]
    · rw [if_neg h, if_neg (by omega)])
theorem cpyF_end (H : Nat → Int) : wordsA 8 (cpyF H 8) = wordsA 8 H := wordsA_congr 8 (fun q hq => if_pos hq)
def shF (V : Nat → Int) (k q : Nat) : Int := if k < q then V (q - 1) else V q
theorem shF_start (V : Nat → Int) : wordsA 8 (shF V 7) = wordsA 8 V := wordsA_congr 8 (fun q hq => if_neg (by omega))
theorem shF_at (V : Nat → Int) (k : Nat) (h : 0 < k) : shF V k (k - 1) = V (k - 1) := if_neg (by omega)
theorem shF_set (V : Nat → Int) (k : Nat) (h0 : 0 < k) (h : k < 8) : (wordsA 8 (shF V k)).setIfInBounds k (.int .u32 (V (k - 1))) = wordsA 8 (shF V (k - 1)) :=
  wordsA_set 8 _ _ k h _ (if_pos (by omega)) (fun j _ hj => by
    unfold shF
    by_cases h : k < j
    · rw [if_pos h, if_pos (by omega)]
    · rw [if_neg h, if_neg (by omega)])
theorem rnd_row (V : Nat → Int) (k x : Int) : ((wordsA 8 (shF V 0)).setIfInBounds 4 (.int .u32 (add32 (V 3) (oneW V k x)))).setIfInBounds 0 (.int .u32 (add32 (oneW V k x) (twoW V))) = wordsA 8 (rndF V k x) := by
  rw [wordsA8, wordsA8]
  simp only [List.setIfInBounds_toArray, List.set]
  rfl
theorem info_u8s : (Tryd.prog.info? 5).map (fun i => (i.zero, i.size, i.bytes)) = some (some (.int .u8 0), 1, 1) := by kernel_rfl
theorem out_step (F : Nat → Int) (t N : Nat) (h : F t = N) (hN : N ≤ 4294967295) : cellsOf (outL F t) ++ [.int .u8 ((N : Int) / 16777216), .int .u8 ((N : Int) / 65536 % 256), .int .u8 ((N : Int) / 256 % 256), .int .u8 ((N : Int) % 256)] = cellsOf (outL F (t + 1)) := by
  rw [outL, cellsOf_append, h, Int.toNat_natCast, be4]
  congr 1
  have e0 := beAt_val N 4 0
  have e1 := beAt_val N 4 1
  have e2 := beAt_val N 4 2
  have e3 := beAt_val N 4 3
  simp only [cellsOf, List.map_cons, List.map_nil, e0, e1, e2, e3]
  simp
  omega
theorem z64_one : Z64.all (·.oneCell') = true := by kernel_rfl
theorem z64_size : (Tryd.prog.info? 120).map (·.size) = some Z64.size := size_w64

set_option maxHeartbeats 2000000 in
set_option maxRecDepth 100000 in
theorem l2Step_spec (st bk : ByteArray) (w : World) (h1 : st.size = 32) (h2 : bk.size = 64) :
    Calls Tryd.prog 90 #[.string st, .string bk] w fun e w' => e = .returned (.string (str (stepL st.data.toList bk.data.toList))) ∧ Below w.heap.size w w' := by
  obtain ⟨i0, hi, hz0, hz1, hz2⟩ := info_parts info_u8s
  go_enter Tryd.func90, Tryd.ntmps90
  go_wp2_with fail
  refine (l2Be_spec st 8 _ h1 (by decide)).mono ?_
  rintro e w1 ⟨v1, rfl, ho1, hb1⟩
  go_wp2_with fail
  refine (l2Be_spec bk 16 _ h2 (by decide)).mono ?_
  rintro e w2 ⟨v2, rfl, ho2, hb2⟩
  go_wp2_with (first
    | ((with_reducible refine wpList_store_row' (o := ⟨none, .store 120 _ _, _, _, _, _⟩) rfl 120 _ _ rfl w2.heap.size Z64 rfl rfl 120 Z64 (heap_alloc_new w2 _) z64_size rfl z64_one ?_); intro w3 hw3 hs3' hg3'))
  have hs3 : w3.heap.size = w2.heap.size + 1 := (by simpa using hs3')
  have hb3 : Below w2.heap.size w2 w3 := ((Below.refl _ _).alloc (Nat.le_refl _) _).grown hg3' (by simp) (by simp)
  clear hs3' hg3'
  obtain ⟨g1, cap1, rfl, hg1, hr1, hc1⟩ := own_cells (by decide) ho1
  obtain ⟨g2, cap2, rfl, hg2, hr2, hc2⟩ := own_cells (by decide) ho2
  have HC2 := Lib.hid (fun (wr : World) (hb : Below w2.heap.size w2 wr) (q : Nat) (hq : q < 16) => (show wr.cell? ⟨g2, q, none⟩ = some (.int .u32 (wAt bk.data.toList q)) from by rw [hb.cell (p := ⟨g2, q, none⟩) hr2, hc2 q hq, wordsL_get 16 _ q hq]))
  have hbm : ∀ q, 0 ≤ wAt bk.data.toList q ∧ wAt bk.data.toList q ≤ 4294967295 := wAt_bd _
  have HME : Hid (∀ q, wAt bk.data.toList q = wAt bk.data.toList q) := fun _ => rfl
  clear hc2 HME
  generalize hMe : wAt bk.data.toList = M at *
  have HME := Lib.hid hMe
  have HM := Lib.hid (schW_bd M hbm)
  have HBM := Lib.hid hbm
  clear hMe hbm ho1 ho2
  have hst0 : w3.heap[w2.heap.size]? = some (.cells (wordsA 64 (schT M 0)) 120 (0, 0)) := hw3
  clear hw3
  go_loopw [8] (fun i wr => ∃ n : Nat, n ≤ 64 ∧ i = .int .i64 n ∧ wr.heap[w2.heap.size]? = some (.cells (wordsA 64 (schT M n)) 120 (0, 0)) ∧ wr.heap.size = w2.heap.size + 1 ∧ Below w2.heap.size w2 wr)
    (fun i _ => 64 - (intOf i).toNat)
  case atStart => exact ⟨0, by omega, rfl, hst0, hs3, hb3⟩
  case round =>
    clear hst0 hs3 hb3
    obtain ⟨n, hn64, rfl, hw, hsz, hb⟩ := hrel
    by_cases hlt : n < 64
    · have m0 : (n : Int) < 64 := by omega
      have n0 : (0 : Int) ≤ (n : Int) := by omega
      have hf := frozen_of_row wr w2.heap.size n _ _ hw
      have hcn : ∃ u, wr.cell? ⟨w2.heap.size, n, none⟩ = some u := ⟨_, (cell_of_row wr w2.heap.size n _ _ _ hw).trans (wordsA_get 64 _ n (by omega))⟩
      obtain ⟨u, hcn⟩ := hcn
      have hst := heap_setCell_same wr w2.heap.size n _ _ (.int .u32 (schW M n)) hw
      rw [schT_set M n hlt] at hst
      have hb' := hb.setCell (p := ⟨w2.heap.size, n, none⟩) (Nat.le_refl _) (.int .u32 (schW M n))
      have HS := Lib.hid hst
      have HZ := Lib.hid hsz
      by_cases hn16 : n < 16
      · have m16 : (n : Int) < 16 := by omega
        have c0 := HC2.out wr hb n hn16
        rw [schW_lo M n hn16] at HS hb'
        clear hst hsz hw hb
        go_wp2
        go_roundw
        case rel => exact ⟨n + 1, by omega, by go_num, HS.out, by have := HZ.out; simpa [World.setCell] using this, hb'⟩
        case measure => simp [intOf]; omega
      · have cell := fun q (hq : q < n) => (cell_of_row wr w2.heap.size q _ _ _ hw).trans ((wordsA_get 64 _ q (by omega)).trans (by rw [schT_lt M n q hq]))
        have c15 := cell (n - 15) (by omega)
        have c2 := cell (n - 2) (by omega)
        have c16 := cell (n - 16) (by omega)
        have c7 := cell (n - 7) (by omega)
        rw [schW_hi M n (by omega)] at HS hb'
        obtain ⟨a0, a1⟩ := HM.out (n - 15)
        obtain ⟨b0, b1⟩ := HM.out (n - 2)
        obtain ⟨d0, d1⟩ := HM.out (n - 16)
        obtain ⟨e0, e1⟩ := HM.out (n - 7)
        generalize schW M (n - 15) = A at *
        generalize schW M (n - 2) = B at *
        generalize schW M (n - 16) = C at *
        generalize schW M (n - 7) = D at *
        clear cell hst hsz hw hb
        have k16 : (16 : Int) ≤ (n : Int) := by omega
        have k7 : (7 : Int) ≤ (n : Int) := by omega
        have n15 : (0 : Int) ≤ (n : Int) - 15 := by omega
        have n2 : (0 : Int) ≤ (n : Int) - 2 := by omega
        have n16 : (0 : Int) ≤ (n : Int) - 16 := by omega
        have n7 : (0 : Int) ≤ (n : Int) - 7 := by omega
        have m15 : (n : Int) - 15 < 64 := by omega
        have m2 : (n : Int) - 2 < 64 := by omega
        have m16 : (n : Int) - 16 < 64 := by omega
        have m7 : (n : Int) - 7 < 64 := by omega
        have t15 : ((n : Int) - 15).toNat = n - 15 := by omega
        have t2 : ((n : Int) - 2).toNat = n - 2 := by omega
        have t16 : ((n : Int) - 16).toNat = n - 16 := by omega
        have t7 : ((n : Int) - 7).toNat = n - 7 := by omega
        go_wp2_with fail
        refine (rot_spec A 25 _ a0 a1 (by decide) (by decide)).mono ?_
        rintro e w' ⟨rfl, rfl⟩
        go_wp2_with fail
        refine (rot_spec A 14 _ a0 a1 (by decide) (by decide)).mono ?_
        rintro e w' ⟨rfl, rfl⟩
        go_wp2_with fail
        refine (rot_spec B 15 _ b0 b1 (by decide) (by decide)).mono ?_
        rintro e w' ⟨rfl, rfl⟩
        go_wp2_with fail
        refine (rot_spec B 13 _ b0 b1 (by decide) (by decide)).mono ?_
        rintro e w' ⟨rfl, rfl⟩
        have v16 : IntKind.i64.wrap ((n : Int) - 16) = (n : Int) - 16 := IntWalk.i64_in _ (by omega)
        have v7 : IntKind.i64.wrap ((n : Int) - 7) = (n : Int) - 7 := IntWalk.i64_in _ (by omega)
        go_wp2
        have y16 : ¬ n = n - 16 := by omega
        have y7 : ¬ n = n - 7 := by omega
        go_region_held3 (fun w' => w'.cell? ⟨w2.heap.size, n - 16, none⟩ = some (.int .u32 C) ∧ w'.cell? ⟨w2.heap.size, n - 7, none⟩ = some (.int .u32 D)) (first | exact ⟨c16, c7⟩ | exact ⟨cell_set_ne _ y16 c16, cell_set_ne _ y7 c7⟩) ((fail))
        go_wp2
        go_roundw
        case rel => exact ⟨n + 1, by omega, by go_num, HS.out, by have := HZ.out; simpa [World.setCell] using this, ⟨hb'.os, hb'.tape, hb'.output, hb'.size, hb'.block⟩⟩
        case measure => simp [intOf]; omega
    · have hne : n = 64 := by omega
      have hpn : (64 : Int) ≤ (n : Int) := by omega
      rw [hne, schT_end] at hw
      have HW := Lib.hid hw
      have HZ := Lib.hid hsz
      have HB := Lib.hid hb
      have hcw : Hid (∀ q, q < 64 → wr.cell? ⟨w2.heap.size, q, none⟩ = some (.int .u32 (schW M q))) := fun q hq => (cell_of_row wr w2.heap.size q _ _ _ hw).trans (wordsA_get 64 _ q hq)
      have hwb := HM.out
      generalize hWe : schW M = W at *
      have HWE := Lib.hid hWe
      clear hWe
      have HM := Lib.hid hwb
      clear hne hlt hn64 hw hsz hb hwb
      go_wp2_with fail
      obtain ⟨wo, rfl⟩ : ∃ wo : World, wo = wr := ⟨_, rfl⟩
      have hst1 : (wo.alloc (.cells #[Value.int .u32 0, .int .u32 0, .int .u32 0, .int .u32 0, .int .u32 0, .int .u32 0, .int .u32 0, .int .u32 0] 122)).heap[wo.heap.size]? = some (.cells (wordsA 8 (cpyF (wAt st.data.toList) 0)) 122 (0, 0)) := heap_alloc_new wo _
      have hb1' : Below wo.heap.size wo (wo.alloc (.cells #[Value.int .u32 0, .int .u32 0, .int .u32 0, .int .u32 0, .int .u32 0, .int .u32 0, .int .u32 0, .int .u32 0] 122)) := (Below.refl _ _).alloc (Nat.le_refl _) _
      have hz1' : (wo.alloc (.cells #[Value.int .u32 0, .int .u32 0, .int .u32 0, .int .u32 0, .int .u32 0, .int .u32 0, .int .u32 0, .int .u32 0] 122)).heap.size = wo.heap.size + 1 := by simp
      have HC1 := Lib.hid (fun (wx : World) (hbx : Below wo.heap.size wo wx) (q : Nat) (hq : q < 8) => (show wx.cell? ⟨g1, q, none⟩ = some (.int .u32 (wAt st.data.toList q)) from by
        have hb2' : Below w1.heap.size w1 wo := hb2.trans ⟨HB.out.os, HB.out.tape, HB.out.output, HB.out.size, fun k hk => HB.out.block k (Nat.lt_of_lt_of_le hk hb2.size)⟩
        have hl : g1 < wo.heap.size := Nat.lt_of_lt_of_le hr1 hb2'.size
        rw [hbx.cell (p := ⟨g1, q, none⟩) hl, hb2'.cell (p := ⟨g1, q, none⟩) hr1, hc1 q hq, wordsL_get 8 _ q hq]))
      have hbh := wAt_bd st.data.toList
      clear hc1
      generalize hHe : wAt st.data.toList = H at *
      have HHE := Lib.hid hHe
      have HBH := Lib.hid hbh
      clear hHe hbh
      go_loopw [14] (fun i wr => ∃ j : Nat, j ≤ 8 ∧ i = .int .i64 j ∧ wr.heap[wo.heap.size]? = some (.cells (wordsA 8 (cpyF H j)) 122 (0, 0)) ∧ wr.heap.size = wo.heap.size + 1 ∧ Below wo.heap.size wo wr)
        (fun i _ => 8 - (intOf i).toNat)
      case atStart => exact ⟨0, by omega, rfl, hst1, hz1', hb1'⟩
      case round =>
        clear hst1 hz1' hb1'
        obtain ⟨j, hj8, rfl, hv, hsz, hb⟩ := hrel
        by_cases hlt : j < 8
        · have j0 : (0 : Int) ≤ (j : Int) := by omega
          have j8 : (j : Int) < 8 := by omega
          have c0 := HC1.out wr hb j hlt
          have hf := frozen_of_row wr wo.heap.size j _ _ hv
          have hcn : ∃ u, wr.cell? ⟨wo.heap.size, j, none⟩ = some u := ⟨_, (cell_of_row wr wo.heap.size j _ _ _ hv).trans (wordsA_get 8 _ j hlt)⟩
          obtain ⟨u, hcn⟩ := hcn
          have hst := heap_setCell_same wr wo.heap.size j _ _ (.int .u32 (H j)) hv
          rw [cpyF_set H j hlt] at hst
          have hb' := hb.setCell (p := ⟨wo.heap.size, j, none⟩) (Nat.le_refl _) (.int .u32 (H j))
          have HS := Lib.hid hst
          have HZ2 := Lib.hid hsz
          clear hst hsz hv hb
          go_wp2
          go_roundw
          case rel => exact ⟨j + 1, by omega, by go_num, HS.out, by have := HZ2.out; simpa [World.setCell] using this, hb'⟩
          case measure => simp [intOf]; omega
        · have hje : j = 8 := by omega
          have hpj : (8 : Int) ≤ (j : Int) := by omega
          rw [hje, cpyF_end] at hv
          clear hje hlt hj8
          go_wp2_with fail
          have HBR := Lib.hid (roundsF_bd H W HBH.out)
          have hst2 : wr.heap[wo.heap.size]? = some (.cells (wordsA 8 (roundsF H W 0)) 122 (0, 0)) := hv
          have HMW := Lib.hid HM.out
          clear hv
          obtain ⟨wp, rfl⟩ : ∃ wp : World, wp = wr := ⟨_, rfl⟩
          go_loopw [15] (fun i wr => ∃ n3 : Nat, n3 ≤ 64 ∧ i = .int .i64 n3 ∧ wr.heap[wo.heap.size]? = some (.cells (wordsA 8 (roundsF H W n3)) 122 (0, 0)) ∧ wr.heap.size = wo.heap.size + 1 ∧ Below wo.heap.size wo wr)
            (fun i _ => 64 - (intOf i).toNat)
          case atStart => exact ⟨0, by omega, rfl, hst2, hsz, hb⟩
          case round =>
            clear hst2 hsz hb
            obtain ⟨n3, hn3, rfl, hv, hsz, hb⟩ := hrel
            by_cases hlt : n3 < 64
            · have p0 : (0 : Int) ≤ (n3 : Int) := by omega
              have p64 : (n3 : Int) < 64 := by omega
              have hwo : w2.heap.size < wo.heap.size := by have := HZ.out; omega
              have cw : wr.cell? ⟨w2.heap.size, n3, none⟩ = some (.int .u32 (W n3)) := by rw [hb.cell (p := ⟨w2.heap.size, n3, none⟩) hwo]; exact hcw.out n3 hlt
              have cell := fun q (hq : q < 8) => (cell_of_row wr wo.heap.size q _ _ _ hv).trans (wordsA_get 8 _ q hq)
              have c0 := cell 0 (by omega)
              have c1 := cell 1 (by omega)
              have c2 := cell 2 (by omega)
              have c4 := cell 4 (by omega)
              have c5 := cell 5 (by omega)
              have c6 := cell 6 (by omega)
              have c7 := cell 7 (by omega)
              obtain ⟨x0, x1⟩ := HMW.out n3
              obtain ⟨y0, y1⟩ := kW_bd n3
              have hbn := HBR.out n3
              obtain ⟨a0, a1⟩ := hbn 0
              obtain ⟨e0, e1⟩ := hbn 4
              have HR : Hid (roundsF H W (n3 + 1) = rndF (roundsF H W n3) (kW n3) (W n3)) := rfl
              generalize hV : roundsF H W n3 = V at *
              have HV := Lib.hid hv
              have HZ3 := Lib.hid hsz
              have HB3 := Lib.hid hb
              clear cell hV hbn hv hsz hb
              have CK := Lib.hid (fun (wx : World) => l2K_spec n3 wx hlt)
              go_wp2_with fail
              refine (rot_spec (V 4) 26 _ e0 e1 (by decide) (by decide)).mono ?_
              rintro e w' ⟨rfl, rfl⟩
              go_wp2_with fail
              refine (rot_spec (V 4) 21 _ e0 e1 (by decide) (by decide)).mono ?_
              rintro e w' ⟨rfl, rfl⟩
              go_wp2_with fail
              refine (rot_spec (V 4) 7 _ e0 e1 (by decide) (by decide)).mono ?_
              rintro e w' ⟨rfl, rfl⟩
              go_wp2_with fail
              go_quiet ((go_at_call 101; exact Calls.quiet_of (CK.out _)))
              go_wp2_with fail
              refine (rot_spec (V 0) 30 _ a0 a1 (by decide) (by decide)).mono ?_
              rintro e w' ⟨rfl, rfl⟩
              go_wp2_with fail
              refine (rot_spec (V 0) 19 _ a0 a1 (by decide) (by decide)).mono ?_
              rintro e w' ⟨rfl, rfl⟩
              go_wp2_with fail
              refine (rot_spec (V 0) 10 _ a0 a1 (by decide) (by decide)).mono ?_
              rintro e w' ⟨rfl, rfl⟩
              go_wp2_with fail
              have h1 := one_flat V (kW n3) (W n3)
              have h2 := two_flat V
              simp only [sumE, chW, sumA, majW, xor32, and32, not32] at h1 h2
              rw [← h1, ← h2]
              have ob : 0 ≤ oneW V (kW n3) (W n3) ∧ oneW V (kW n3) (W n3) ≤ 4294967295 := add32_bd _ _
              have tb : 0 ≤ twoW V ∧ twoW V ≤ 4294967295 := add32_bd _ _
              obtain ⟨o0, o1⟩ := ob
              obtain ⟨q0, q1⟩ := tb
              have HRR := Lib.hid (rnd_row V (kW n3) (W n3))
              generalize oneW V (kW n3) (W n3) = ONE at *
              generalize twoW V = TWO at *
              clear h1 h2
              have hsx : (wr.drewN nq).heap[wo.heap.size]? = some (.cells (wordsA 8 (shF V 7)) 122 (0, 0)) := by rw [shF_start]; exact HV.out
              have hzx : (wr.drewN nq).heap.size = wo.heap.size + 1 := HZ3.out
              have hbx : Below wo.heap.size wo (wr.drewN nq) := ⟨HB3.out.os, HB3.out.tape, HB3.out.output, HB3.out.size, HB3.out.block⟩
              generalize wr.drewN nq = wq at *
              go_loopw [22] (fun i wr => ∃ k : Nat, k ≤ 7 ∧ i = .int .i64 k ∧ wr.heap[wo.heap.size]? = some (.cells (wordsA 8 (shF V k)) 122 (0, 0)) ∧ wr.heap.size = wo.heap.size + 1 ∧ Below wo.heap.size wo wr)
                (fun i _ => (intOf i).toNat)
              case atStart => exact ⟨7, by omega, rfl, hsx, hzx, hbx⟩
              case round =>
                clear hsx hzx hbx
                obtain ⟨k, hk, rfl, hv, hsz, hb⟩ := hrel
                by_cases hk0 : 0 < k
                · have k0 : (0 : Int) < (k : Int) := by omega
                  have k7 : (k : Int) ≤ 7 := by omega
                  have k8 : (k : Int) < 8 := by omega
                  have l0 : (0 : Int) ≤ (k : Int) - 1 := by omega
                  have l8 : (k : Int) - 1 < 8 := by omega
                  have tk : ((k : Int) - 1).toNat = k - 1 := by omega
                  have cc := (cell_of_row wr wo.heap.size (k - 1) _ _ _ hv).trans (wordsA_get 8 _ (k - 1) (by omega))
                  rw [shF_at V k hk0] at cc
                  have hf := frozen_of_row wr wo.heap.size k _ _ hv
                  have hcn : ∃ u, wr.cell? ⟨wo.heap.size, k, none⟩ = some u := ⟨_, (cell_of_row wr wo.heap.size k _ _ _ hv).trans (wordsA_get 8 _ k (by omega))⟩
                  obtain ⟨u, hcn⟩ := hcn
                  have hst := heap_setCell_same wr wo.heap.size k _ _ (.int .u32 (V (k - 1))) hv
                  rw [shF_set V k hk0 (by omega)] at hst
                  have hb' := hb.setCell (p := ⟨wo.heap.size, k, none⟩) (Nat.le_refl _) (.int .u32 (V (k - 1)))
                  have HS := Lib.hid hst
                  have HZ4 := Lib.hid hsz
                  generalize V (k - 1) = X at *
                  clear hst hsz hv hb
                  go_wp2
                  go_roundw
                  case rel => exact ⟨k - 1, by omega, by rw [show (k : Int) - 1 = ((k - 1 : Nat) : Int) by omega], HS.out, by have := HZ4.out; simpa [World.setCell] using this, hb'⟩
                  case measure => simp [intOf]; omega
                · have hke : k = 0 := by omega
                  have hpk : (k : Int) ≤ 0 := by omega
                  rw [hke] at hv
                  have cc := (cell_of_row wr wo.heap.size 4 _ _ _ hv).trans (wordsA_get 8 _ 4 (by omega))
                  have c00 := (cell_of_row wr wo.heap.size 0 _ _ _ hv).trans (wordsA_get 8 _ 0 (by omega))
                  have hf := frozen_of_row wr wo.heap.size 4 _ _ hv
                  have hf0 := frozen_of_row wr wo.heap.size 0 _ _ hv
                  rw [show shF V 0 4 = V 3 from rfl] at cc
                  obtain ⟨r0, r1⟩ := HBR.out n3 3
                  have HV4 := Lib.hid hv
                  have HZ4 := Lib.hid hsz
                  have HB4 := Lib.hid hb
                  clear hke hk hk0 hv hsz hb
                  go_wp2
                  go_roundw
                  case rel =>
                    refine ⟨n3 + 1, by omega, by go_num, ?_, by have := HZ4.out; simpa [World.setCell] using this, (HB4.out.setCell (Nat.le_refl _) _).setCell (Nat.le_refl _) _⟩
                    have s1 := heap_setCell_same wr wo.heap.size 4 _ _ (.int .u32 ((V 3 + ONE) % 4294967296)) HV4.out
                    have s2 := heap_setCell_same _ wo.heap.size 0 _ _ (.int .u32 ((ONE + TWO) % 4294967296)) s1
                    rw [s2, HR.out, ← HRR.out, add32_mod, add32_mod]
                  case measure => simp [intOf]; omega
            · have hne3 : n3 = 64 := by omega
              have hp3 : (64 : Int) ≤ (n3 : Int) := by omega
              rw [hne3] at hv
              have HV := Lib.hid hv
              have HZ3 := Lib.hid hsz
              have HB3 := Lib.hid hb
              clear hne3 hlt hn3 hv hsz hb
              go_wp2_with fail
              obtain ⟨wx, rfl⟩ : ∃ wx : World, wx = wr := ⟨_, rfl⟩
              have hown : (wx.alloc (.cells #[] 5)).ownsRow wx.heap.size 5 1 (.slice (some ⟨wx.heap.size, 0, none⟩) 0 0) (4 * 0) (cellsOf (outL (compF H W) 0)) := World.ownsRow_lit wx #[] 0 (Nat.le_refl _) (by unfold maxLen; omega) rfl
              have hbz : Below wx.heap.size wx (wx.alloc (.cells #[] 5)) := (Below.refl _ _).alloc (Nat.le_refl _) _
              have HCH := Lib.hid (fun (wy : World) (hby : Below wx.heap.size wx wy) (q : Nat) (hq : q < 8) => (show wy.cell? ⟨g1, q, none⟩ = some (.int .u32 (H q)) from HC1.out wy (HB3.out.trans ⟨hby.os, hby.tape, hby.output, hby.size, fun k hk => hby.block k (Nat.lt_of_lt_of_le hk HB3.out.size)⟩) q hq))
              have HCV := Lib.hid (fun (wy : World) (hby : Below wx.heap.size wx wy) (q : Nat) (hq : q < 8) => (show wy.cell? ⟨wo.heap.size, q, none⟩ = some (.int .u32 (roundsF H W 64 q)) from by
                have hl : wo.heap.size < wx.heap.size := by have := HZ3.out; omega
                rw [hby.cell (p := ⟨wo.heap.size, q, none⟩) hl]
                exact (cell_of_row wx wo.heap.size q _ _ _ HV.out).trans (wordsA_get 8 _ q hq)))
              go_loopw [23, 24] (fun v i wr => ∃ t : Nat, t ≤ 8 ∧ i = .int .i64 t ∧ wr.ownsRow wx.heap.size 5 1 v (4 * t) (cellsOf (outL (compF H W) t)) ∧ Below wx.heap.size wx wr)
                (fun _ i _ => 8 - (intOf i).toNat)
              case atStart => exact ⟨0, by omega, rfl, hown, hbz⟩
              case round =>
                clear hown hbz
                obtain ⟨t, ht, rfl, hown, hby⟩ := hrel
                by_cases hlt : t < 8
                · have t0 : (0 : Int) ≤ (t : Int) := by omega
                  have t8 : (t : Int) < 8 := by omega
                  have ch := HCH.out wr hby t hlt
                  have cv := HCV.out wr hby t hlt
                  obtain ⟨f0, f1⟩ := compF_bd H W t
                  obtain ⟨N, hN⟩ : ∃ N : Nat, compF H W t = (N : Int) := ⟨(compF H W t).toNat, by omega⟩
                  have hw1 : IntKind.u32.wrap (H t + roundsF H W 64 t) = (N : Int) := hN
                  have hw2 : (H t + roundsF H W 64 t) % 4294967296 = (N : Int) := by rw [← add32_mod]; exact hN
                  rw [hN] at f0 f1
                  have HST := Lib.hid (out_step (compF H W) t N hN (by omega))
                  clear hN
                  generalize roundsF H W 64 t = RT at *
                  generalize H t = HT at *
                  go_wp2_with fail
                  go_quiet (fail)
                  have hownz : (wr.drewN nq).ownsRow wx.heap.size 5 1 u23 (4 * t) (cellsOf (outL (compF H W) t)) := hown
                  have hbyz : Below wx.heap.size wx (wr.drewN nq) := ⟨hby.os, hby.tape, hby.output, hby.size, hby.block⟩
                  generalize wr.drewN nq = wz at *
                  clear hown hby ch cv
                  go_wp2_with (at_builtin; refine wpList_append_lies _ rfl _ _ 70 rfl wx.heap.size 5 i0 (.int .u8 0) 1 1 Tryd.underlying70 hi hz0 hz1 hz2 rfl (by decide) u23 (4 * t) _ rfl (hownz.alloc _) ⟨wz.heap.size, 0, none⟩ 4 4 [_, _, _, _] rfl rfl (World.news_of_block (cs := #[_, _, _, _]) (t := 5) (fr := (0, 0)) (heap_alloc_new wz _)) (by simp [Value.oneCell']) (by omega) (by unfold maxLen; omega) (by omega) (by have := hbyz.size; simp; omega) (wz.heap.size + 1) (by simp) ?_; intro g cap w2x hown2 hgrow2 hat hlt2)
                  rw [HST.out] at hown2
                  have hbq : Below wx.heap.size wx w2x := (hbyz.alloc hbyz.size _).grown hgrow2 (by have := hbyz.size; simp; omega) (fun j hj => (hownz.lt j hj).1)
                  clear hgrow2 hownz
                  go_roundw
                  case rel => exact ⟨t + 1, by omega, by go_num, hown2, hbq⟩
                  case measure => simp [intOf]; omega
                · have hte : t = 8 := by omega
                  have hpt : (8 : Int) ≤ (t : Int) := by omega
                  rw [hte] at hown
                  have hcv := run_convert_own (P := Tryd.prog) wr 70 9 5 _ _ _ _ Tryd.underlying70 Tryd.underlying5 Tryd.underlying9 hown
                  clear hown hte hlt ht
                  have HF : Hid (outL (compF H W) 8 = stepL st.data.toList bk.data.toList) := by show outL (compF H W) 8 = _; unfold stepL; rw [HHE.out, HME.out, HWE.out]
                  go_wp2
                  go_ret
                  refine ⟨by rw [← HF.out]; rfl, ?_⟩
                  have e1 : Below w.heap.size w w2 := hb1.trans ⟨hb2.os, hb2.tape, hb2.output, hb2.size, fun k hk => hb2.block k (Nat.lt_of_lt_of_le hk hb1.size)⟩
                  have e2 : Below w.heap.size w wo := e1.trans ⟨HB.out.os, HB.out.tape, HB.out.output, HB.out.size, fun k hk => HB.out.block k (Nat.lt_of_lt_of_le hk e1.size)⟩
                  have e3 : Below w.heap.size w wx := e2.trans ⟨HB3.out.os, HB3.out.tape, HB3.out.output, HB3.out.size, fun k hk => HB3.out.block k (Nat.lt_of_lt_of_le hk e2.size)⟩
                  exact e3.trans ⟨hby.os, hby.tape, hby.output, hby.size, fun k hk => hby.block k (Nat.lt_of_lt_of_le hk e3.size)⟩

end Go.Proofs.YtdhfddeghnoecaaDoor

/- The contract of the specification's l2Sha. -/
namespace Go.Proofs.YtdhfddeghnoecaaDoor
open Go.RowKit Go.My Go.Lib
set_option linter.unusedVariables false

theorem stN_len (P : List UInt8) (n : Nat) : (stN P n).length = 32 := by
  cases n with
  | zero => rfl
  | succ n => exact outL_len _ 8

theorem extract_list (B : ByteArray) (p k : Nat) : (B.extract p (p + k)).data.toList = (B.data.toList.drop p).take k := by
  rw [ByteArray.data_extract, Array.toList_extract, List.extract_eq_take_drop]
  congr 1
  omega

set_option maxHeartbeats 2000000 in
theorem l2Sha_spec (s : ByteArray) (w : World) (hs : s.size ≤ 10000) :
    Calls Tryd.prog 77 #[.string s] w fun e w' => e = .returned (.string (str (shaL s.data.toList))) ∧ Below w.heap.size w w' := by
  have HS := Lib.hid hs
  clear hs
  go_enter Tryd.func77, Tryd.ntmps77
  go_wp2_with fail
  refine (l2Pad_spec s _ HS.out).mono ?_
  rintro e w1 ⟨rfl, hb1⟩
  go_wp2_with fail
  have hpl : (padT s.data.toList).length ≤ 20000 := by
    unfold padT
    simp only [List.length_append, List.length_replicate, List.length_cons, List.length_nil]
    rw [show (beL (8 * s.data.toList.length) 4).length = 4 from beT_len _ _ _, len_data]
    have := HS.out; have := padN_lt (s.size % 64)
    omega
  have hpm := padT_len s.data.toList
  have HF : Hid (shaL s.data.toList = stN (padT s.data.toList) ((padT s.data.toList).length / 64)) := rfl
  generalize padT s.data.toList = P at *
  have hBl : (str P).data.toList = P := str_list P
  have hBs : (str P).size = P.length := str_size P
  have HP := Lib.hid (And.intro hpl (And.intro hpm (And.intro hBl hBs)))
  have hp1 : ((str P).size : Int) ≤ 20000 := by omega
  clear hpl hpm hBl hBs
  generalize str P = B at *
  have hf0 : (⟨#[106, 9, 230, 103, 187, 103, 174, 133, 60, 110, 243, 114, 165, 79, 245, 58, 81, 14, 82, 127, 155, 5, 104, 140, 31, 131, 217, 171, 91, 224, 205, 25]⟩ : ByteArray) = str (stN P 0) := rfl
  rw [hf0]
  clear hf0
  go_loopw [4, 5] (fun v i wr => ∃ n p : Nat, p = 64 * n ∧ p ≤ B.size ∧ i = .int .i64 p ∧ v = .string (str (stN P n)) ∧ Below w.heap.size w wr)
    (fun _ i _ => B.size - (intOf i).toNat)
  case atStart => exact ⟨0, 0, rfl, Nat.zero_le _, rfl, rfl, hb1⟩
  case round =>
    clear hb1
    obtain ⟨n, p, hp, hpb, rfl, rfl, hb⟩ := hrel
    have HPN := Lib.hid (And.intro hp hpb)
    clear hp hpb
    by_cases hlt : p < B.size
    · have p0 : (0 : Int) ≤ (p : Int) := by omega
      have p1 : (p : Int) < (B.size : Int) := by omega
      have p64 : (p : Int) + 64 ≤ (B.size : Int) := by have := HP.out; have := HPN.out; omega
      have p65 : (0 : Int) ≤ (p : Int) + 64 := by omega
      have p66 : (p : Int) ≤ (p : Int) + 64 := by omega
      clear hlt
      have hex : (B.extract p (p + 64)).data.toList = (P.drop (64 * n)).take 64 := by
        rw [← HP.out.2.2.1, ← HPN.out.1]
        exact extract_list B p 64
      have hes : (B.extract p (p + 64)).size = 64 := by
        rw [ByteArray.size_extract]; omega
      have HE := Lib.hid (And.intro hex hes)
      clear hex hes
      go_wp2_with fail
      refine (l2Step_spec (str (stN P n)) _ _ (by rw [str_size]; exact stN_len P n) ?he).mono ?_
      case he => first | exact HE.out.2 | (rw [ByteArray.size_extract]; omega)
      rintro e w3 ⟨rfl, hb3⟩
      have hbq : Below w.heap.size w w3 := hb.trans ⟨hb3.os, hb3.tape, hb3.output, hb3.size, fun k hk => hb3.block k (Nat.lt_of_lt_of_le hk hb.size)⟩
      have hex : (B.extract p (p + 64)).data.toList = (P.drop (64 * n)).take 64 := by
        rw [← HP.out.2.2.1, ← HPN.out.1]
        exact extract_list B p 64
      rw [hex, str_list]
      clear hex hb hb3
      have hsn : stepL (stN P n) ((P.drop (64 * n)).take 64) = stN P (n + 1) := rfl
      rw [hsn]
      go_wp2
      go_roundw
      case rel => exact ⟨n + 1, p + 64, by have := HPN.out; omega, by omega, by go_num, rfl, hbq⟩
      case measure => simp [intOf]; omega
    · have hq : (B.size : Int) ≤ (p : Int) := by omega
      clear hlt
      go_wp2
      go_ret
      refine ⟨?_, hb⟩
      have := HP.out; have := HPN.out
      rw [HF.out, show P.length / 64 = n by omega]
      rfl

end Go.Proofs.YtdhfddeghnoecaaDoor

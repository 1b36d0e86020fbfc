/- The contracts of XorOf, the program's and the specification's. -/
import Derived.Test.YtgjnoleejbkddaaDoorRows
import Derived.Test.YtgjnoleejbkddaaDoorGM0
import Derived.WalkKit
import Derived.ProofKit
import Derived.Deep.RegionHeld3
import Derived.Deep.AppendLies
import Derived.StillTailTactics
import Derived.WalkSpells
import Derived.WalkLawsBesides
namespace Go.Proofs.YtgjnoleejbkddaaDoor
open Go.RowKit Go.My
set_option linter.unusedVariables false

theorem info_u8x : (Tryd.prog.info? 5).map (fun i => (i.zero, i.size, i.bytes)) = some (some (.int .u8 0), 1, 1) := by kernel_rfl

/-- One round: a byte more is owned. -/
theorem xor_step {w wr w2 : World} {a b : ByteArray} {k : Nat} (ha : k < a.size) (hb' : k < b.size) {v v' : Value} {o : Obj} (hown : wr.ownsRow w.heap.size 5 1 v k (cellsOf (List.zipWith (· ^^^ ·) (a.data.toList.take k) (b.data.toList.take k)))) (hb : Below w.heap.size w wr)
    (hown2 : w2.ownsRow w.heap.size 5 1 v' (k + 1) (cellsOf (List.zipWith (· ^^^ ·) (a.data.toList.take k) (b.data.toList.take k)) ++ [.int .u8 ((a[k] ^^^ b[k]).toNat : Int)]))
    (hgrow : (wr.alloc o).drew.grownBy w2 v.ownBlock) :
    w2.ownsRow w.heap.size 5 1 v' (k + 1) (cellsOf (List.zipWith (· ^^^ ·) (a.data.toList.take (k + 1)) (b.data.toList.take (k + 1)))) ∧ Below w.heap.size w w2 := by
  constructor
  · rw [zip_snoc a b k ha hb', cellsOf_append]
    exact hown2
  · refine ((hb.alloc hb.size _).drew).grown hgrow (by have := hb.size; simp; omega) ?_
    intro j hj
    exact (hown.lt j hj).1

set_option maxHeartbeats 400000 in
theorem xorOf_spec (a b : ByteArray) (w : World) (ha : a.size ≤ 1048576) (hb : b.size ≤ 1048576) :
    Calls Tryd.prog 34 #[.string a, .string b] w fun e w' => e = .returned (.string (str (xorL a.data.toList b.data.toList))) ∧ Below w.heap.size w w' := by
  obtain ⟨i0, hi, hz0, hz1, hz2⟩ := info_parts info_u8x
  by_cases hab : a.size = b.size
  · have hN : (a.size : Int) ≤ 1048576 := by omega
    have hne : ((a.size : Int) != (b.size : Int)) = false := by simp [hab]
    go_enter Tryd.func34, Tryd.ntmps34
    go_wp2
    have hown : (w.alloc (.cells #[] 5)).ownsRow w.heap.size 5 1 (.slice (some ⟨w.heap.size, 0, none⟩) 0 0) 0 [] := World.ownsRow_lit w #[] 0 (Nat.le_refl _) (by unfold maxLen; omega) rfl
    have hb1 : Below w.heap.size w (w.alloc (.cells #[] 5)) := (Below.refl _ _).alloc (Nat.le_refl _) _
    have HE : Hid (a.size = b.size) := hab
    clear hab
    go_loopw [5, 6] (fun v i wr => ∃ k : Nat, k ≤ a.size ∧ i = .int .i64 k ∧ wr.ownsRow w.heap.size 5 1 v k (cellsOf (List.zipWith (· ^^^ ·) (a.data.toList.take k) (b.data.toList.take k))) ∧ Below w.heap.size w wr)
      (fun _ i _ => a.size - (intOf i).toNat)
    case atStart => exact ⟨0, Nat.zero_le _, rfl, hown, hb1⟩
    case round =>
      obtain ⟨k, hk, rfl, hown, hb⟩ := hrel
      by_cases hlt : k < a.size
      · have hltb : k < b.size := by have := HE.out; omega
        have hk0 : (0 : Int) ≤ (k : Int) := Int.natCast_nonneg _
        have hk1 : (k : Int) < (a.size : Int) := by omega
        have hk2 : (k : Int) < (b.size : Int) := by omega
        have hx := xor_u8 a[k] b[k]
        go_wp2
        go_region_held3 (fun w' => True) (trivial) ((refine step_append_lies _ (by rfl) _ _ _ (by rfl) w.heap.size 5 i0 _ 1 1 Tryd.underlying25 hi hz0 hz1 hz2 rfl (by omega) u5 k _ (by rfl) ((hown.alloc _).drew) ⟨wr.heap.size, 0, none⟩ 1 1 [_] (by rfl) (by rfl) (World.news_of_block (cs := #[_]) (t := 5) (fr := (0, 0)) (heap_alloc_new wr _)) (by simp [Value.oneCell']) (by omega) (by unfold maxLen; omega) (by omega) (by have := hb.size; simp; omega) (wr.heap.size + 1) (by simp) ?_; intro g cap w2 hown2 hgrow2 hat hlt2))
        all_goals
          have R := xor_step hlt hltb hown hb hown2 hgrow2
          clear hown2 hgrow2 hown hx
          go_wp2
          go_roundw
          case rel => exact ⟨k + 1, by omega, by go_num, R.1, R.2⟩
          case measure => simp [intOf]; omega
      · obtain rfl : k = a.size := by omega
        rw [take_all, HE.out, take_all, ← xorL_eq (by rw [len_data, len_data]; exact HE.out)] at hown
        have hcv := run_convert_own (P := Tryd.prog) wr 25 9 5 _ _ _ _ Tryd.underlying25 Tryd.underlying5 Tryd.underlying9 hown
        clear hown
        go_wp2
        go_ret
        exact ⟨rfl, hb⟩
  · have hne : ((a.size : Int) != (b.size : Int)) = true := by simp; omega
    go_enter Tryd.func34, Tryd.ntmps34
    go_wp2
    go_ret
    exact ⟨by rw [xorL_ne (by rw [len_data, len_data]; exact hab)]; rfl, Below.refl _ _⟩

def zipT (a b : ByteArray) (k : Nat) : List UInt8 := List.zipWith (· ^^^ ·) (a.data.toList.take k) (b.data.toList.take k)
theorem zipT_len (a b : ByteArray) (k : Nat) (ha : k ≤ a.size) (hb : k ≤ b.size) : (zipT a b k).length = k := by
  unfold zipT; rw [List.length_zipWith, List.length_take, List.length_take, len_data, len_data]; omega
theorem xor_store {w wr : World} {a b : ByteArray} {k : Nat} (ha : k < a.size) (hb' : k < b.size) {g : Nat} (hg : w.heap.size ≤ g)
    (hown : wr.ownsRow w.heap.size 5 1 (.slice (some ⟨g, 0, none⟩) a.size a.size) a.size (cellsOf (zipT a b k ++ List.replicate (a.size - (zipT a b k).length) 0))) (hb : Below w.heap.size w wr) :
    (wr.setCell ⟨g, k, none⟩ (.int .u8 ((a[k] ^^^ b[k]).toNat : Int))).ownsRow w.heap.size 5 1 (.slice (some ⟨g, 0, none⟩) a.size a.size) a.size (cellsOf (zipT a b (k + 1) ++ List.replicate (a.size - (zipT a b (k + 1)).length) 0)) ∧
    Below w.heap.size w (wr.setCell ⟨g, k, none⟩ (.int .u8 ((a[k] ^^^ b[k]).toNat : Int))) := by
  have h := (hown.stored k (.int .u8 ((a[k] ^^^ b[k]).toNat : Int))).1
  have hl := zipT_len a b k (by omega) (by omega)
  have hf := fill_set (zipT a b k) (a[k] ^^^ b[k]) a.size (by omega)
  rw [hl] at hf h
  rw [hf] at h
  have hz : zipT a b (k + 1) = zipT a b k ++ [a[k] ^^^ b[k]] := zip_snoc a b k ha hb'
  rw [hz]
  exact ⟨h, hb.setCell (by exact hg) _⟩

set_option maxHeartbeats 400000 in
theorem xorOf_impl (a b : ByteArray) (w : World) (ha : a.size ≤ 1048576) (hb : b.size ≤ 1048576) :
    Calls Tryd.prog 39 #[.string a, .string b] w fun e w' => e = .returned (.string (str (xorL a.data.toList b.data.toList))) ∧ Below w.heap.size w w' := by
  obtain ⟨i0, hi, hz0, hz1, hz2⟩ := info_parts info_u8x
  by_cases hab : a.size = b.size
  · have hN : (a.size : Int) ≤ 1048576 := by omega
    have hne : ((a.size : Int) != (b.size : Int)) = false := by simp [hab]
    have HE : Hid (a.size = b.size) := hab
    clear hab
    go_enter Tryd.func39, Tryd.ntmps39
    go_wp2_with (at_make; refine wpList_make_full _ rfl _ _ 25 rfl w.heap.size 5 i0 (.int .u8 0) 1 Tryd.underlying25 hi hz0 hz1 .i64 .i64 _ _ a.size rfl rfl rfl rfl ?c2 ?c3 ?c4 ?_)
    case c2 => rw [hz2]; omega
    case c3 => unfold maxLen; omega
    case c4 => exact Nat.le_refl _
    intro w1 hown hgrow
    have hb1 : Below w.heap.size w w1 := (Below.refl _ _).grown hgrow (Nat.le_refl _) (by simp)
    have hg1 : w.heap.size ≤ w.heap.size := Nat.le_refl _
    clear hgrow
    have ho : w1.ownsRow w.heap.size 5 1 (.slice (some ⟨w.heap.size, 0, none⟩) a.size a.size) a.size (cellsOf (zipT a b 0 ++ List.replicate (a.size - (zipT a b 0).length) 0)) := by
      have e : (madeCells #[Value.int .u8 0] a.size).toList = cellsOf (List.replicate a.size 0) := by rw [← fill_start]; exact toList_madeCells_one _ _
      rw [e] at hown
      exact hown
    clear hown
    go_wp2
    go_loopw [6, 17] (fun _ i wr => ∃ k : Nat, k ≤ a.size ∧ i = .int .i64 k ∧ wr.ownsRow w.heap.size 5 1 (.slice (some ⟨w.heap.size, 0, none⟩) a.size a.size) a.size (cellsOf (zipT a b k ++ List.replicate (a.size - (zipT a b k).length) 0)) ∧ Below w.heap.size w wr)
      (fun _ i _ => a.size - (intOf i).toNat)
    case atStart => exact ⟨0, Nat.zero_le _, rfl, ho, hb1⟩
    case round =>
      obtain ⟨k, hk, rfl, hown, hb⟩ := hrel
      by_cases hlt : k < a.size
      · have hltb : k < b.size := by have := HE.out; omega
        have hk0 : (0 : Int) ≤ (k : Int) := Int.natCast_nonneg _
        have hk1 : (k : Int) < (a.size : Int) := by omega
        have hk2 : (k : Int) < (b.size : Int) := by omega
        have hx := xor_u8 a[k] b[k]
        have hcell : ∃ u, wr.cell? ⟨w.heap.size, k, none⟩ = some u := by
          rw [hown.cellAt k (by omega)]
          have hll : k < (cellsOf (zipT a b k ++ List.replicate (a.size - (zipT a b k).length) 0)).length := by rw [cellsOf_length, List.length_append, List.length_replicate, zipT_len a b k (by omega) (by omega)]; omega
          exact ⟨_, List.getElem?_eq_getElem hll⟩
        obtain ⟨u, hcell⟩ := hcell
        have hfz := hown.frozenAt k
        have R := xor_store hlt hltb hg1 hown hb
        clear hown
        go_wp2
        go_still_tail 10, (by kernel_rfl)
        go_wp2
        go_roundw
        case rel => exact ⟨k + 1, by omega, by go_num, R.1, R.2.drew⟩
        case measure => simp [intOf]; omega
      · obtain rfl : k = a.size := by omega
        have hl := zipT_len a b a.size (Nat.le_refl _) (by have := HE.out; omega)
        rw [hl] at hown
        have e : zipT a b a.size ++ List.replicate (a.size - a.size) 0 = xorL a.data.toList b.data.toList := by
          rw [Nat.sub_self, List.replicate_zero, List.append_nil, zipT, take_all, HE.out, take_all, ← xorL_eq (by rw [len_data, len_data]; exact HE.out)]
        rw [e] at hown
        have hcv := run_convert_own (P := Tryd.prog) wr 25 9 5 _ _ _ _ Tryd.underlying25 Tryd.underlying5 Tryd.underlying9 hown
        clear hown hl e
        go_wp2
        go_ret
        exact ⟨rfl, hb⟩
  · have hne : ((a.size : Int) != (b.size : Int)) = true := by simp; omega
    go_enter Tryd.func39, Tryd.ntmps39
    go_wp2
    go_ret
    exact ⟨by rw [xorL_ne (by rw [len_data, len_data]; exact hab)]; rfl, Below.refl _ _⟩

end Go.Proofs.YtgjnoleejbkddaaDoor

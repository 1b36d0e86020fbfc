/- The contracts of newDigest and masked. -/
import Derived.Test.YtipcficcoogbnaaDoorSha5
import Derived.Lib.BufferWrite
namespace Go.Proofs.YtipcficcoogbnaaDoor
open Go.RowKit Go.My Go.Lib
set_option linter.unusedVariables false
set_option maxRecDepth 100000

theorem heap_setCell_same_of (w : World) (g i : Nat) (cs : Array Value) (t : TypeId) (v : Value) (hg : w.heap[g]? = some (.cells cs t (0, 0))) : (w.setCell ⟨g, i, none⟩ v).heap[g]? = some (.cells (cs.setIfInBounds i v) t (0, 0)) := Go.heap_setCell_same w g i cs t v hg
theorem new_row : some (Obj.cells ((((((((Tryd.zeroCells83.setIfInBounds 0 (Value.int .u32 1779033703)).setIfInBounds 1 (Value.int .u32 3144134277)).setIfInBounds 2 (Value.int .u32 1013904242)).setIfInBounds 3 (Value.int .u32 2773480762)).setIfInBounds 4 (Value.int .u32 1359893119)).setIfInBounds 5 (Value.int .u32 2600822924)).setIfInBounds 6 (Value.int .u32 528734635)).setIfInBounds 7 (Value.int .u32 1541459225)) 83 (0, 0)) = some (Obj.cells (digA S0.st S0.bk (S0.u : Int) ((0 : Nat) : Int)) 83 (0, 0)) := by kernel_rfl
theorem iv_bd : Bd S0.st := by
  intro q
  rcases q with _ | _ | _ | _ | _ | _ | _ | _ | q
  all_goals first | exact ⟨by decide, by decide⟩ | exact ⟨Int.le_refl 0, (by decide : (0 : Int) ≤ 4294967295)⟩

set_option maxHeartbeats 2000000 in
set_option maxRecDepth 100000 in
theorem newDigest_any (w : World) :
    Calls Tryd.prog 50 #[] w fun e w' => e = .returned (.pointer (some ⟨w.heap.size, 0, none⟩)) ∧ DigS w' w.heap.size S0 0 ∧ Below w.heap.size w w' := by
  go_enter Tryd.func50, Tryd.ntmps50
  go_wp2
  go_ret
  refine ⟨rfl, ⟨⟨(heap_alloc_new w _).trans new_row, ?_, fun q => ⟨Int.le_refl 0, (by decide : (0 : Int) ≤ 255)⟩⟩, (by decide : 0 < 64)⟩, (Below.refl _ _).alloc (Nat.le_refl _) _⟩
  exact iv_bd

theorem copied (s : ByteArray) (m : UInt8) (n : Nat) : ((cellsOf (List.replicate n 0)).toArray.toList.take 0 ++ byteCells s.data.toList ++ (cellsOf (List.replicate n 0)).toArray.toList.drop (0 + s.size)).toArray = (cellsOf (mixL (s.data.toList ++ List.replicate (n - s.data.toList.length) 0) m 0)).toArray := by
  have := len_data s
  simp [mixL, cellsOf, byteCells, this]

set_option maxHeartbeats 2000000 in
theorem masked_any (s : ByteArray) (m : UInt8) (w : World) (hs : s.size ≤ 64) :
    Calls Tryd.prog 52 #[.string s, .int .u8 m.toNat] w fun e w' => e = .returned (.string (str (maskL s.data.toList m))) ∧ Below w.heap.size w w' := by
  obtain ⟨i0, hi, hz0, hz1, hz2⟩ := info_parts info_u8b
  go_enter Tryd.func52, Tryd.ntmps52
  go_wp2_with (at_make; refine wpList_make_full _ rfl _ _ 24 rfl w.heap.size 5 i0 (.int .u8 0) 1 Tryd.underlying24 hi hz0 hz1 .i64 .i64 _ _ 64 rfl rfl rfl rfl ?c2 ?c3 ?c4 ?_)
  case c2 => rw [hz2]; omega
  case c3 => unfold maxLen; omega
  case c4 => exact Nat.le_refl _
  intro w1 hown hgrow
  have hb1 : Below w.heap.size w w1 := (Below.refl _ _).grown hgrow (Nat.le_refl _) (by simp)
  have hrow : w1.heap[w.heap.size]? = some (.cells (cellsOf (List.replicate 64 0)).toArray 5 (0, 0)) := by
    obtain ⟨hl, hc⟩ := hown
    rcases hc with ⟨hv, _⟩ | ⟨g, cap, cur, hv, hb, hg, h1, h2, h3, h4⟩
    · exact absurd hv (by simp)
    · obtain ⟨⟨rfl⟩, _, rfl⟩ : some (⟨w.heap.size, 0, none⟩ : Addr) = some ⟨g, 0, none⟩ ∧ 64 = 64 ∧ 64 = cap := by simpa using hv
      rw [hg]
      rw [List.take_of_length_le (by rw [Array.length_toList, h3]; exact Nat.le_refl _)] at h4
      have e : cur = (cellsOf (List.replicate 64 0)).toArray := by
        rw [← Array.toList_inj, h4]
        have e : (madeCells #[Value.int .u8 0] 64).toList = cellsOf (List.replicate 64 0) := by rw [← fill_start]; exact toList_madeCells_one _ _
        exact e
      rw [e]
  have hcp := run_copy_row_string (P := Tryd.prog) w1 24 9 3 5 w.heap.size 0 64 64 s _ _ Tryd.underlying24 (by rw [hi]; simpa using hz1) hrow hs (by simp [cellsOf]; omega)
  obtain ⟨K, hK⟩ : ∃ K : List UInt8, K = s.data.toList ++ List.replicate (64 - s.data.toList.length) 0 := ⟨_, rfl⟩
  have hKl : K.length = 64 := by rw [hK]; simp only [List.length_append, List.length_replicate]; have := len_data s; omega
  have hKe : ((cellsOf (List.replicate 64 0)).toArray.toList.take 0 ++ byteCells s.data.toList ++ (cellsOf (List.replicate 64 0)).toArray.toList.drop (0 + s.size)).toArray = (cellsOf (mixL K m 0)).toArray := by
    rw [hK]
    exact copied s m 64
  rw [hKe] at hcp
  have hrow2 := setRow_heap w1 w.heap.size _ (cellsOf (mixL K m 0)).toArray _ _ hrow
  have hb2 : Below w.heap.size w (w1.setRow w.heap.size (cellsOf (mixL K m 0)).toArray) := hb1.trans ⟨rfl, rfl, rfl, by simp, fun k hk => setRow_other w1 w.heap.size k _ (by omega)⟩
  have HK := Lib.hid hK
  have HKL := Lib.hid hKl
  clear hown hgrow hrow hK hKe hKl hb1
  go_wp2
  generalize (w1.setRow w.heap.size (cellsOf (mixL K m 0)).toArray) = w2 at *
  go_loopw [13] (fun i wr => ∃ j : Nat, j ≤ 64 ∧ i = .int .i64 j ∧ wr.heap[w.heap.size]? = some (.cells (cellsOf (mixL K m j)).toArray 5 (0, 0)) ∧ Below w.heap.size w wr)
    (fun i _ => 64 - (intOf i).toNat)
  case atStart => exact ⟨0, by omega, rfl, hrow2, hb2⟩
  case round =>
    clear hrow2 hb2
    obtain ⟨j, hj, rfl, hr, hb⟩ := hrel
    by_cases hlt : j < 64
    · have hjK : j < K.length := by have := HKL.out; omega
      have c0 := (cell_of_row wr w.heap.size j _ _ _ hr).trans (mixL_get K m j hjK)
      have f0 := frozen_of_row wr w.heap.size j _ _ hr
      have h2 := heap_setCell_same_of wr w.heap.size j _ _ (.int .u8 ((K[j] ^^^ m).toNat : Int)) hr
      rw [mixL_set K m j hjK, ← xor_u8] at h2
      have hb' := hb.setCell (p := ⟨w.heap.size, j, none⟩) (Nat.le_refl _) (.int .u8 (bits .xor .u8 (K[j].toNat : Int) (m.toNat : Int)))
      have HR := Lib.hid h2
      have j0 : (0 : Int) ≤ (j : Int) := by omega
      have j1 : (j : Int) < 64 := by omega
      generalize K[j] = b at *
      clear h2 hr hb
      go_wp2
      go_roundw
      case rel => exact ⟨j + 1, by omega, by go_num, HR.out, hb'⟩
      case measure => simp [intOf]; omega
    · have hje : j = 64 := by omega
      have hp : (64 : Int) ≤ (j : Int) := by omega
      have hfin : mixL K m j = maskL s.data.toList m := by rw [hje, ← HKL.out, mixL_all, HK.out]; rfl
      rw [hfin] at hr
      have hlen : (maskL s.data.toList m).length = 64 := by rw [← hfin, mixL_len]; exact HKL.out
      have hown : wr.ownsRow w.heap.size 5 1 (.slice (some ⟨w.heap.size, 0, none⟩) 64 64) 64 (cellsOf (maskL s.data.toList m)) :=
        ⟨by rw [cellsOf_length, hlen], .inr ⟨w.heap.size, 64, _, rfl, Nat.le_refl _, hr, Nat.le_refl _, by unfold maxLen; omega, by simp [cellsOf_length, hlen], by rw [List.take_of_length_le (by simp [cellsOf_length, hlen])]⟩⟩
      have hcv := run_convert_own (P := Tryd.prog) wr 24 9 5 _ _ _ _ Tryd.underlying24 Tryd.underlying5 Tryd.underlying9 hown
      clear hown hr hfin hje hlt hlen
      go_wp2
      go_ret
      exact ⟨rfl, hb⟩

end Go.Proofs.YtipcficcoogbnaaDoor

/- The text of a letter, of the program. -/
import Derived.Test.YtmekpinhhmknnaaDoorLtr2
namespace Go.Proofs.YtmekpinhhmknnaaDoor
open Go.Shelf Go.RowKit Go.My Go.Lib
set_option linter.unusedVariables false

theorem cell_al {w : World} {p : Addr} {v : Value} {o : Obj} (h : w.cell? p = some v) : (w.alloc o).cell? p = some v :=
  (((Below.refl w.heap.size w).alloc (Nat.le_refl _) o).cell (World.block_lt_of_cell? _ _ h)).trans h

set_option maxRecDepth 20000 in
set_option maxHeartbeats 1000000 in
theorem letterOk_i (a b : Int) (s : ByteArray) (w : World) (hs : s.size ≤ 1048576) :
    Calls Tryd.prog 29 #[.agg (letterA a b s)] w fun e w' => e = .returned (.bool (letB a b s)) ∧ Below w.heap.size w w' := by
  have CI := Lib.hid member_i
  have CT := Lib.hid (fun w => sendable_i s w hs)
  have HB : Hid (letB a b s = (inB a 1 4 && inB b 1 4 && sendB s)) := rfl
  have H0 : Hid (Below w.heap.size w (w.alloc (.cells (letterA a b s) 26))) := (Below.refl _ _).alloc (Nat.le_refl _) _
  clear hs
  cases ha : inB a 1 4 with
  | false =>
    rw [ha] at HB
    go_enter Tryd.func29, Tryd.ntmps29
    go_wp2_with (first | (go_at_call 51; refine (CI.out _ _).mono ?_; rintro e w2 ⟨rfl, rfl⟩))
    go_ret
    exact ⟨by rw [HB.out]; rfl, H0.out⟩
  | true =>
    rw [ha] at HB
    cases hb : inB b 1 4 with
    | false =>
      rw [hb] at HB
      go_enter Tryd.func29, Tryd.ntmps29
      go_wp2_with (first | (go_at_call 51; refine (CI.out _ _).mono ?_; rintro e w2 ⟨rfl, rfl⟩))
      go_ret
      exact ⟨by rw [HB.out]; rfl, H0.out⟩
    | true =>
      rw [hb] at HB
      go_enter Tryd.func29, Tryd.ntmps29
      go_wp2_with (first
        | (go_at_call 51; refine (CI.out _ _).mono ?_; rintro e w2 ⟨rfl, rfl⟩)
        | (go_at_call 52; refine (CT.out _).mono ?_; rintro e w3 ⟨rfl, hb3⟩))
      go_ret
      exact ⟨by rw [HB.out]; rfl, H0.out.trans (hb3.mono H0.out.size)⟩

set_option maxRecDepth 20000 in
set_option maxHeartbeats 1000000 in
theorem words_i (a b : Int) (s : ByteArray) (w : World) (ht : TabD w) (ho : LetOk a b s) :
    Calls Tryd.prog 30 #[.agg (letterA a b s)] w fun e w' => ∃ k, e = .returned (.slice (some ⟨k, 0, none⟩) 3 3) ∧ w'.heap[k]? = some (.cells #[.string (decV a), .string (decV b), .string s] 9 (0, 0)) ∧ Below w.heap.size w w' := by
  have HR : Hid ((1 ≤ a ∧ a ≤ 4) ∧ (1 ≤ b ∧ b ≤ 4)) := ⟨⟨ho.a1, ho.a4⟩, ho.b1, ho.b4⟩
  have H0 : Hid (Below w.heap.size w (w.alloc (.cells (letterA a b s) 26))) := (Below.refl _ _).alloc (Nat.le_refl _) _
  have DD := Lib.hid (fun (n : Int) (h : 1 ≤ n ∧ n ≤ 4) W (hW : Below w.heap.size w W) => decimal_i n (by omega) (by omega) W (ht.below hW))
  have hx := heap_alloc_new w (.cells (letterA a b s) 26)
  obtain ⟨⟨c0, c1, c2⟩, _⟩ := lt_cells hx
  have hBx : Below w.heap.size w (w.alloc (.cells (letterA a b s) 26)) := H0.out
  clear hx ho ht
  go_enter Tryd.func30, Tryd.ntmps30
  go_upto_region 1 with (fail)
  go_region_held3 (fun w' => w'.cell? ⟨w.heap.size, 0, none⟩ = some (.int .i64 a) ∧ w'.cell? ⟨w.heap.size, 1, none⟩ = some (.int .i64 b) ∧ w'.cell? ⟨w.heap.size, 2, none⟩ = some (.string s)) (first | exact ⟨c0, c1, c2⟩ | exact ⟨cell_al c0, cell_al c1, cell_al c2⟩) (first
    | (go_at_call 53; refine (DD.out _ (by first | exact HR.out.1 | exact HR.out.2) _ (by first | exact hBx | exact hBx.drew)).mono ?_; rintro e wz ⟨rfl, hbz⟩; have c0 := (hbz.cell (p := ⟨w.heap.size, 0, none⟩) (World.block_lt_of_cell? _ _ c0)).trans c0; have c1 := (hbz.cell (p := ⟨w.heap.size, 1, none⟩) (World.block_lt_of_cell? _ _ c1)).trans c1; have c2 := (hbz.cell (p := ⟨w.heap.size, 2, none⟩) (World.block_lt_of_cell? _ _ c2)).trans c2; have hBx := below_nx hbz (by first | exact hBx | exact hBx.drew) (by exact hBx.size)))
  all_goals
    go_wp2
    go_ret
    exact ⟨_, rfl, heap_alloc_new _ _, hBx.alloc hBx.size _⟩

/-- The words of a letter, joined. -/
theorem joined (a b : Int) (s : ByteArray) : (⟨(Go.Lib.join ([decV a, decV b, s].map (·.data.toList)) spc.data.toList).toArray⟩ : ByteArray) = letT a b s := by
  unfold letT
  apply ByteArray.ext
  rw [ByteArray.data_append, ByteArray.data_append, ByteArray.data_append, ByteArray.data_append]
  apply Array.toList_inj.1
  simp [Go.Lib.join, List.intercalate]
theorem joined_len {a b : Int} {s : ByteArray} (ho : LetOk a b s) : (Go.Lib.join ([decV a, decV b, s].map (·.data.toList)) spc.data.toList).length ≤ 140737488355328 := by
  have la := decV_len (n := a) (by have := ho.a1; omega) (by have := ho.a4; omega)
  have lb := decV_len (n := b) (by have := ho.b1; omega) (by have := ho.b4; omega)
  have ls := ho.s0
  have e : (Go.Lib.join ([decV a, decV b, s].map (·.data.toList)) spc.data.toList).length = (letT a b s).size := by rw [← joined]; simp [ByteArray.size]
  rw [e]
  unfold letT
  rw [ByteArray.size_append, ByteArray.size_append, ByteArray.size_append, ByteArray.size_append]
  show _ + 1 + _ + 1 + _ ≤ _
  omega

set_option maxRecDepth 20000 in
set_option maxHeartbeats 1000000 in
theorem written_i (a b : Int) (s : ByteArray) (w : World) (ht : TabD w) (hs : s.size ≤ 1048576) :
    Calls Tryd.prog 28 #[.agg (letterA a b s), .func (.func 29) #[] #[], .func (.func 30) #[] #[]] w fun e w' => e = .returned (.string (letV a b s)) ∧ Below w.heap.size w w' := by
  have CO := Lib.hid (fun W => letterOk_i a b s W hs)
  have H0 : Hid (Below w.heap.size w (w.alloc (.cells (letterA a b s) 26))) := (Below.refl _ _).alloc (Nat.le_refl _) _
  have HX := Lib.hid (heap_alloc_new w (.cells (letterA a b s) 26))
  have HT := Lib.hid ht
  clear ht hs
  cases hl : letB a b s with
  | false =>
    have HV := Lib.hid (letV_no hl)
    go_enter Tryd.func28, Tryd.ntmps28
    go_wp2_with fail
    refine (CO.out _).mono ?_
    rintro e w2 ⟨rfl, hb2⟩
    go_wp2
    go_ret
    exact ⟨by rw [HV.out]; rfl, H0.out.trans (hb2.mono H0.out.size)⟩
  | true =>
    have HV := Lib.hid (letV_yes hl)
    have HO := Lib.hid (letOk_of hl)
    go_enter Tryd.func28, Tryd.ntmps28
    go_wp2_with fail
    refine (CO.out _).mono ?_
    rintro e w2 ⟨rfl, hb2⟩
    have H2 := Lib.hid (H0.out.trans (hb2.mono H0.out.size))
    have x2 := (hb2.block _ (Array.getElem?_eq_some_iff.1 HX.out).1).trans HX.out
    obtain ⟨⟨c0, c1, c2⟩, _⟩ := lt_cells x2
    clear hb2 x2
    go_wp2_with fail
    refine (words_i a b s _ (HT.out.below H2.out) HO.out).mono ?_
    rintro e w3 ⟨k, rfl, hk, hb3⟩
    have H3 := Lib.hid (H2.out.trans (hb3.mono H2.out.size))
    have HJ := Lib.hid (Any.strings_Join lays156 Builder_Extra_156 k 0 3 [decV a, decV b, s] spc w3 (fun j x hx => by
      rw [Nat.zero_add]
      rw [cell_of_row w3 k j _ _ _ hk]
      have e : ([decV a, decV b, s].map Value.string)[j]? = some (Value.string x) := by rw [List.getElem?_map, hx]; rfl
      rw [← e]
      simp) (Array.getElem?_eq_some_iff.1 hk).1 (by show 3 ≤ _; omega) (Nat.le_refl _) (joined_len HO.out))
    rw [joined] at HJ
    clear hb3 hk c0 c1 c2
    go_wp2_with fail
    refine HJ.out.mono ?_
    rintro e w4 ⟨rfl, hb4⟩
    go_wp2
    go_ret
    exact ⟨by rw [HV.out]; rfl, H3.out.trans (hb4.mono H3.out.size)⟩

set_option maxHeartbeats 600000 in
theorem letter_i (a b : Int) (s : ByteArray) (w : World) (ht : TabD w) (hs : s.size ≤ 1048576) :
    Calls Tryd.prog 11 #[.agg (letterA a b s)] w fun e w' => e = .returned (.string (letV a b s)) ∧ Below w.heap.size w w' := by
  have H0 : Hid (Below w.heap.size w (w.alloc (.cells (letterA a b s) 26))) := (Below.refl _ _).alloc (Nat.le_refl _) _
  have CW := Lib.hid (written_i a b s _ (ht.below H0.out) hs)
  clear ht hs
  go_enter Tryd.func11, Tryd.ntmps11
  go_wp2_with fail
  refine CW.out.mono ?_
  rintro e w2 ⟨rfl, hb2⟩
  go_wp2
  go_ret
  exact ⟨rfl, H0.out.trans (hb2.mono H0.out.size)⟩

end Go.Proofs.YtmekpinhhmknnaaDoor

/- The text of a letter, on both sides. -/
import Derived.Test.YtmekpinhhmknnaaDoorLtr1
import Derived.Test.YtmekpinhhmknnaaDoorDecS
import Derived.Deep.RegionHeld3
import Derived.Deep.Cut
import Derived.Shelf.Strings.OnBuilder
namespace Go.Proofs.YtmekpinhhmknnaaDoor
open Go.Shelf Go.RowKit Go.My Go.Lib
set_option linter.unusedVariables false

def lays156_ren : Go.Shelf.Ren := ⟨fun | 156 => 50 | 165 => 68 | 166 => 69 | 169 => 70 | 240 => 84 | 241 => 85 | 276 => 100 | 277 => 101 | n => n, fun | 31 => 70 | 9 => 9 | 3 => 3 | 4 => 4 | 0 => 0 | 20 => 20 | 72 => 106 | 76 => 108 | 70 => 104 | 37 => 51 | 75 => 95 | 127 => 118 | 164 => 131 | 5 => 5 | 80 => 79 | n => n, fun | n => n⟩
theorem lays156 : Go.Proofs.Lays.n156 Tryd.prog lays156_ren := {
  mixed := by kernel_rfl
  f156 := Tryd.func50.trans (congrArg some (by kernel_rfl))
  f165 := Tryd.func68.trans (congrArg some (by kernel_rfl))
  f166 := Tryd.func69.trans (congrArg some (by kernel_rfl))
  f169 := Tryd.func70.trans (congrArg some (by kernel_rfl))
  f240 := Tryd.func84.trans (congrArg some (by kernel_rfl))
  f241 := Tryd.func85.trans (congrArg some (by kernel_rfl))
  f276 := Tryd.func100.trans (congrArg some (by kernel_rfl))
  f277 := Tryd.func101.trans (congrArg some (by kernel_rfl))
  t0 := Tryd.underlying0
  a0 := Tryd.isAgg0
  z0 := Tryd.sizeOf0
  v0 := Tryd.zeroValue0
  t3 := Tryd.underlying3
  a3 := Tryd.isAgg3
  z3 := Tryd.sizeOf3
  v3 := Tryd.zeroValue3
  t4 := Tryd.underlying4
  a4 := Tryd.isAgg4
  z4 := Tryd.sizeOf4
  v4 := Tryd.zeroValue4
  t9 := Tryd.underlying9
  a9 := Tryd.isAgg9
  z9 := Tryd.sizeOf9
  v9 := Tryd.zeroValue9
  t20 := Tryd.underlying20
  a20 := Tryd.isAgg20
  z20 := Tryd.sizeOf20
  v20 := Tryd.zeroValue20
  t31 := Tryd.underlying70
  a31 := Tryd.isAgg70
  z31 := Tryd.sizeOf70
  v31 := Tryd.zeroValue70
  t37 := Tryd.underlying51
  a37 := Tryd.isAgg51
  z37 := Tryd.sizeOf51
  v37 := Tryd.zeroValue51
  t70 := Tryd.underlying104
  a70 := Tryd.isAgg104
  z70 := Tryd.sizeOf104
  v70 := Tryd.zeroValue104
  t72 := Tryd.underlying106
  a72 := Tryd.isAgg106
  z72 := Tryd.sizeOf106
  v72 := Tryd.zeroValue106
  t75 := Tryd.underlying95
  a75 := Tryd.isAgg95
  z75 := Tryd.sizeOf95
  v75 := Tryd.zeroValue95
  t76 := Tryd.underlying108
  a76 := Tryd.isAgg108
  z76 := Tryd.sizeOf108
  v76 := Tryd.zeroValue108
  t127 := Tryd.underlying118
  a127 := Tryd.isAgg118
  z127 := Tryd.sizeOf118
  v127 := Tryd.zeroValue118
  t164 := Tryd.underlying131
  a164 := Tryd.isAgg131
  z164 := Tryd.sizeOf131
  v164 := Tryd.zeroValue131 }
theorem Builder_Extra_156 : Builder.Extra Tryd.prog lays156_ren := {
  sizeBuilder := by kernel_rfl
  liesBuilder := by kernel_rfl
  t5 := Tryd.underlying5
  a5 := Tryd.isAgg5
  z5 := Tryd.sizeOf5
  v5 := Tryd.zeroValue5
  infoByte := by kernel_rfl
  cellsByte := by kernel_rfl
  sizeByte := by kernel_rfl
  neB5 := by decide }

def letB (a b : Int) (s : ByteArray) : Bool := inB a 1 4 && inB b 1 4 && sendB s
abbrev spc : ByteArray := { data := #[32] }
def letT (a b : Int) (s : ByteArray) : ByteArray := decV a ++ spc ++ decV b ++ spc ++ s
def letV (a b : Int) (s : ByteArray) : ByteArray := if letB a b s then letT a b s else { data := #[] }
theorem letV_no {a b : Int} {s : ByteArray} (h : letB a b s = false) : letV a b s = { data := #[] } := by unfold letV; rw [h]; rfl
theorem letV_yes {a b : Int} {s : ByteArray} (h : letB a b s = true) : letV a b s = letT a b s := by unfold letV; rw [h]; rfl
structure LetOk (a b : Int) (s : ByteArray) : Prop where
  a1 : 1 ≤ a
  a4 : a ≤ 4
  b1 : 1 ≤ b
  b4 : b ≤ 4
  s0 : s.size ≤ 60
theorem letOk_of {a b : Int} {s : ByteArray} (h : letB a b s = true) : LetOk a b s := by
  unfold letB inB sendB at h
  simp only [Bool.and_eq_true, decide_eq_true_eq] at h
  exact ⟨h.1.1.1, h.1.1.2, h.1.2.1, h.1.2.2, h.2.1.2⟩

set_option maxRecDepth 20000 in
set_option maxHeartbeats 1000000 in
theorem letter_s (a b : Int) (s : ByteArray) (w : World) (hs : s.size ≤ 1048576) :
    Calls Tryd.prog 9 #[.agg (letterA a b s)] w fun e w' => e = .returned (.string (letV a b s)) ∧ Below w.heap.size w w' := by
  have CI := Lib.hid (fun n => in_s n 1 4)
  have CT := Lib.hid (fun w => text_s s w hs)
  have HB : Hid (letB a b s = (inB a 1 4 && inB b 1 4 && sendB s)) := rfl
  have hx := heap_alloc_new w (.cells (letterA a b s) 26)
  obtain ⟨⟨b0, b1, b2⟩, _⟩ := lt_cells hx
  have hb0 : Below w.heap.size w (w.alloc (.cells (letterA a b s) 26)) := (Below.refl _ _).alloc (Nat.le_refl _) _
  have HX := Lib.hid hx
  have H0 := Lib.hid hb0
  clear hx hs hb0
  cases ha : inB a 1 4 with
  | false =>
    rw [ha] at HB
    have HV := Lib.hid (letV_no (a := a) (b := b) (s := s) (by rw [HB.out]; rfl))
    go_enter Tryd.func9, Tryd.ntmps9
    go_wp2_with (first | (go_at_call 25; refine (CI.out _ _).mono ?_; rintro e w2 ⟨rfl, rfl⟩))
    go_ret
    exact ⟨by rw [HV.out]; rfl, H0.out⟩
  | true =>
    rw [ha] at HB
    cases hb : inB b 1 4 with
    | false =>
      rw [hb] at HB
      have HV := Lib.hid (letV_no (a := a) (b := b) (s := s) (by rw [HB.out]; rfl))
      go_enter Tryd.func9, Tryd.ntmps9
      go_wp2_with (first | (go_at_call 25; refine (CI.out _ _).mono ?_; rintro e w2 ⟨rfl, rfl⟩))
      go_ret
      exact ⟨by rw [HV.out]; rfl, H0.out⟩
    | true =>
      rw [hb] at HB
      cases hc : sendB s with
      | false =>
        rw [hc] at HB
        have HV := Lib.hid (letV_no (a := a) (b := b) (s := s) (by rw [HB.out]; rfl))
        go_enter Tryd.func9, Tryd.ntmps9
        go_wp2_with (first
          | (go_at_call 25; refine (CI.out _ _).mono ?_; rintro e w2 ⟨rfl, rfl⟩)
          | (go_at_call 26; refine (CT.out _).mono ?_; rintro e w3 ⟨rfl, hb3⟩))
        go_ret
        exact ⟨by rw [HV.out]; rfl, H0.out.trans (hb3.mono H0.out.size)⟩
      | true =>
        rw [hc] at HB
        have hlt : letB a b s = true := by rw [HB.out]; rfl
        have HV := Lib.hid (letV_yes hlt)
        have HO := Lib.hid (letOk_of hlt)
        have HR : Hid ((1 ≤ a ∧ a ≤ 4) ∧ (1 ≤ b ∧ b ≤ 4)) := ⟨⟨HO.out.a1, HO.out.a4⟩, HO.out.b1, HO.out.b4⟩
        have DD := Lib.hid (fun (n : Int) (h : 1 ≤ n ∧ n ≤ 4) w => dec_s n (by omega) (by omega) w)
        have la : ((decV a).size : Int) ≤ 21 := by have := decV_len (n := a) (by have := HO.out.a1; omega) (by have := HO.out.a4; omega); omega
        have lb : ((decV b).size : Int) ≤ 21 := by have := decV_len (n := b) (by have := HO.out.b1; omega) (by have := HO.out.b4; omega); omega
        have ls : (s.size : Int) ≤ 60 := by have := HO.out.s0; omega
        have HT : Hid (letV a b s = decV a ++ spc ++ decV b ++ spc ++ s) := HV.out
        clear hlt
        clear HV
        go_enter Tryd.func9, Tryd.ntmps9
        go_upto_region 3 with (first
          | (go_at_call 25; refine (CI.out _ _).mono ?_; rintro e w2 ⟨rfl, rfl⟩)
          | (go_at_call 26; refine (CT.out _).mono ?_; rintro e w3 ⟨rfl, hb3⟩))
        have x3 := (hb3.block _ (Array.getElem?_eq_some_iff.1 HX.out).1).trans HX.out
        have H3 := Lib.hid (H0.out.trans (hb3.mono H0.out.size))
        obtain ⟨⟨c0, c1, c2⟩, _⟩ := lt_cells x3
        have f1 : ¬ 9223372036854775807 < (decV a).size + 1 := by omega
        have g2 : ¬ 9223372036854775807 < (decV a).size + 1 + (decV b).size := by omega
        have g3 : ¬ 9223372036854775807 < (decV a).size + 1 + (decV b).size + 1 := by omega
        have g4 : ¬ 9223372036854775807 < (decV a).size + 1 + (decV b).size + 1 + s.size := by omega
        have f2 : ¬ 9223372036854775807 < (decV a ++ spc).size + (decV b).size := by rw [ByteArray.size_append]; show ¬ _ < _ + 1 + _; omega
        have f3 : ¬ 9223372036854775807 < (decV a ++ spc ++ decV b).size + 1 := by rw [ByteArray.size_append, ByteArray.size_append]; show ¬ _ < _ + 1 + _ + 1; omega
        have f4 : ¬ 9223372036854775807 < (decV a ++ spc ++ decV b ++ spc).size + s.size := by rw [ByteArray.size_append, ByteArray.size_append, ByteArray.size_append]; show ¬ _ < _ + 1 + _ + 1 + _; omega
        have hBx : Below w3.heap.size w3 w3 := Below.refl _ _
        clear x3 hb3 b0 b1 b2
        go_region_held3 (fun w' => w'.cell? ⟨w.heap.size, 0, none⟩ = some (.int .i64 a) ∧ w'.cell? ⟨w.heap.size, 1, none⟩ = some (.int .i64 b) ∧ w'.cell? ⟨w.heap.size, 2, none⟩ = some (.string s)) (first | exact ⟨c0, c1, c2⟩) (first
          | (go_at_call 27; (refine (DD.out _ (by first | exact HR.out.1 | exact HR.out.2) _).mono ?_); rintro e wz ⟨rfl, hbz⟩; have c0 := (hbz.cell (p := ⟨w.heap.size, 0, none⟩) (World.block_lt_of_cell? _ _ c0)).trans c0; have c1 := (hbz.cell (p := ⟨w.heap.size, 1, none⟩) (World.block_lt_of_cell? _ _ c1)).trans c1; have c2 := (hbz.cell (p := ⟨w.heap.size, 2, none⟩) (World.block_lt_of_cell? _ _ c2)).trans c2; have hBx := below_nx hbz (by first | exact hBx | exact hBx.drew) (by exact hBx.size)))
        all_goals
          go_wp2
          go_ret
          exact ⟨by rw [HT.out]; rfl, H3.out.trans (hBx.mono H3.out.size)⟩

end Go.Proofs.YtmekpinhhmknnaaDoor

/- LetterPart of the program. -/
import Derived.Test.YtmekpinhhmknnaaDoorPrlI
import Derived.Shelf.Strings.OnBuilder
namespace Go.Proofs.YtmekpinhhmknnaaDoor
open Go.Shelf Go.RowKit Go.My Go.Lib
set_option linter.unusedVariables false

def lays156_ren : Go.Shelf.Ren := ⟨fun | 156 => 50 | 165 => 68 | 166 => 69 | 169 => 70 | 240 => 84 | 241 => 85 | 276 => 100 | 277 => 101 | n => n, fun | 31 => 70 | 9 => 9 | 3 => 3 | 4 => 4 | 0 => 0 | 20 => 20 | 72 => 106 | 76 => 108 | 70 => 104 | 37 => 51 | 75 => 95 | 127 => 118 | 164 => 131 | 5 => 5 | 80 => 79 | n => n, fun | n => n⟩
theorem lays156 : Go.Proofs.Lays.n156 Tryd.prog lays156_ren := {
  mixed := by kernel_rfl
  f156 := Tryd.func50.trans (congrArg some (by kernel_rfl))
  f165 := Tryd.func68.trans (congrArg some (by kernel_rfl))
  f166 := Tryd.func69.trans (congrArg some (by kernel_rfl))
  f169 := Tryd.func70.trans (congrArg some (by kernel_rfl))
  f240 := Tryd.func84.trans (congrArg some (by kernel_rfl))
  f241 := Tryd.func85.trans (congrArg some (by kernel_rfl))
  f276 := Tryd.func100.trans (congrArg some (by kernel_rfl))
  f277 := Tryd.func101.trans (congrArg some (by kernel_rfl))
  t0 := Tryd.underlying0
  a0 := Tryd.isAgg0
  z0 := Tryd.sizeOf0
  v0 := Tryd.zeroValue0
  t3 := Tryd.underlying3
  a3 := Tryd.isAgg3
  z3 := Tryd.sizeOf3
  v3 := Tryd.zeroValue3
  t4 := Tryd.underlying4
  a4 := Tryd.isAgg4
  z4 := Tryd.sizeOf4
  v4 := Tryd.zeroValue4
  t9 := Tryd.underlying9
  a9 := Tryd.isAgg9
  z9 := Tryd.sizeOf9
  v9 := Tryd.zeroValue9
  t20 := Tryd.underlying20
  a20 := Tryd.isAgg20
  z20 := Tryd.sizeOf20
  v20 := Tryd.zeroValue20
  t31 := Tryd.underlying70
  a31 := Tryd.isAgg70
  z31 := Tryd.sizeOf70
  v31 := Tryd.zeroValue70
  t37 := Tryd.underlying51
  a37 := Tryd.isAgg51
  z37 := Tryd.sizeOf51
  v37 := Tryd.zeroValue51
  t70 := Tryd.underlying104
  a70 := Tryd.isAgg104
  z70 := Tryd.sizeOf104
  v70 := Tryd.zeroValue104
  t72 := Tryd.underlying106
  a72 := Tryd.isAgg106
  z72 := Tryd.sizeOf106
  v72 := Tryd.zeroValue106
  t75 := Tryd.underlying95
  a75 := Tryd.isAgg95
  z75 := Tryd.sizeOf95
  v75 := Tryd.zeroValue95
  t76 := Tryd.underlying108
  a76 := Tryd.isAgg108
  z76 := Tryd.sizeOf108
  v76 := Tryd.zeroValue108
  t127 := Tryd.underlying118
  a127 := Tryd.isAgg118
  z127 := Tryd.sizeOf118
  v127 := Tryd.zeroValue118
  t164 := Tryd.underlying131
  a164 := Tryd.isAgg131
  z164 := Tryd.sizeOf131
  v164 := Tryd.zeroValue131 }
theorem Builder_Extra_156 : Builder.Extra Tryd.prog lays156_ren := {
  sizeBuilder := by kernel_rfl
  liesBuilder := by kernel_rfl
  t5 := Tryd.underlying5
  a5 := Tryd.isAgg5
  z5 := Tryd.sizeOf5
  v5 := Tryd.zeroValue5
  infoByte := by kernel_rfl
  cellsByte := by kernel_rfl
  sizeByte := by kernel_rfl
  neB5 := by decide }

theorem partJ (f t : Int) (z : Bool) (o a b n : Int) : (⟨(Go.Lib.join ((partL f t z o a b n).map (·.data.toList)) sp1.data.toList).toArray⟩ : ByteArray) = partT f t z o a b n := by
  cases z with
  | true =>
    show (⟨(Go.Lib.join ([decV f ++ gtr ++ decV t, inw, decV o, decV a, decV b, decV n].map (·.data.toList)) sp1.data.toList).toArray⟩ : ByteArray) = decV f ++ gtr ++ decV t ++ ini ++ decV o ++ sp1 ++ decV a ++ sp1 ++ decV b ++ sp1 ++ decV n
    apply ByteArray.ext
    simp only [ByteArray.data_append]
    apply Array.toList_inj.1
    simp [Go.Lib.join, List.intercalate]
  | false =>
    show (⟨(Go.Lib.join ([decV f ++ gtr ++ decV t, decV a, decV b, decV n].map (·.data.toList)) sp1.data.toList).toArray⟩ : ByteArray) = decV f ++ gtr ++ decV t ++ sp1 ++ decV a ++ sp1 ++ decV b ++ sp1 ++ decV n
    apply ByteArray.ext
    simp only [ByteArray.data_append]
    apply Array.toList_inj.1
    simp [Go.Lib.join, List.intercalate]
theorem partT_len {f t : Int} {z : Bool} {o a b : Int} {s : ByteArray} (hb : BdE f t o a b s) : (partT f t z o a b s.size).size ≤ 1000 := by
  have lf : (decV f).size ≤ 21 := decV_len hb.f.1 hb.f.2
  have lt : (decV t).size ≤ 21 := decV_len hb.t.1 hb.t.2
  have lo : (decV o).size ≤ 21 := decV_len hb.o.1 hb.o.2
  have la : (decV a).size ≤ 21 := decV_len hb.a.1 hb.a.2
  have lb : (decV b).size ≤ 21 := decV_len hb.b.1 hb.b.2
  have ls : (decV (s.size : Int)).size ≤ 21 := decV_len hb.s.1 hb.s.2
  unfold partT
  cases z with
  | true =>
    rw [if_pos rfl]
    simp only [ByteArray.size_append, gtr_size, ini_size, spc_size]
    omega
  | false =>
    rw [if_neg (by simp)]
    simp only [ByteArray.size_append, gtr_size, spc_size]
    omega
theorem partL_len (f t : Int) (z : Bool) (o a b n : Int) : (partL f t z o a b n).length ≤ 6 := by cases z <;> simp [partL]

set_option maxRecDepth 20000 in
set_option maxHeartbeats 2000000 in
theorem writtenE_i (f t : Int) (z : Bool) (p q : ByteArray) (o : Int) (u : ByteArray) (a b : Int) (s : ByteArray) (w : World) (ht : TabD w) (hb : BdE f t o a b s) (hp : p.size ≤ 9223372036854775807) (hq : q.size ≤ 9223372036854775807) (hu : u.size ≤ 9223372036854775807) (hs : s.size ≤ 9223372036854775807) :
    Calls Tryd.prog 36 #[.agg (envA f t z p q o u a b s), .func (.func 37) #[] #[], .func (.func 38) #[] #[]] w fun e w' => e = .returned (.string (partV f t z p q o u a b s)) ∧ Below w.heap.size w w' := by
  have H0 := Lib.hid (below_box w (.cells (envA f t z p q o u a b s) 44))
  have HX := Lib.hid (BlkAt.box w (envA f t z p q o u a b s) 44)
  have HT := Lib.hid ht
  have HB := Lib.hid hb
  clear ht hb
  by_cases hE : EnvP f t z p q o u a b s
  case neg =>
    have CO := Lib.hid (fun w => envOk_i f t z p q o u a b s w false (decide_eq_false hE) hp hq hu hs)
    have HV := Lib.hid (partV_no hE)
    clear hE hp hq hu hs
    go_enter Tryd.func36, Tryd.ntmps36
    go_wp2_with fail
    refine (CO.out _).mono ?_
    rintro e w2 ⟨rfl, hb2⟩
    go_wp2
    go_ret
    exact ⟨by rw [HV.out]; rfl, H0.out.trans (hb2.mono H0.out.size)⟩
  have CO := Lib.hid (fun w => envOk_i f t z p q o u a b s w true (decide_eq_true hE) hp hq hu hs)
  have HV := Lib.hid (partV_yes hE)
  clear hE hp hq hu hs
  go_enter Tryd.func36, Tryd.ntmps36
  go_wp2_with fail
  refine (CO.out _).mono ?_
  rintro e w2 ⟨rfl, hb2⟩
  have H2 := Lib.hid (H0.out.trans (hb2.mono H0.out.size))
  have x2 := BlkAt.below hb2 HX.out
  have c0 := x2.cell (j := 0) (v := .int .i64 f) rfl
  have c1 := x2.cell (j := 1) (v := .int .i64 t) rfl
  have c2 := x2.cell (j := 2) (v := .bool z) rfl
  have c3 := x2.cell (j := 3) (v := .string p) rfl
  have c4 := x2.cell (j := 4) (v := .string q) rfl
  have c5 := x2.cell (j := 5) (v := .int .i64 o) rfl
  have c6 := x2.cell (j := 6) (v := .string u) rfl
  have c7 := x2.cell (j := 7) (v := .int .i64 a) rfl
  have c8 := x2.cell (j := 8) (v := .int .i64 b) rfl
  have c9 := x2.cell (j := 9) (v := .string s) rfl
  clear hb2 x2
  go_wp2_with fail
  refine (envWords_i f t z p q o u a b s _ (HT.out.below H2.out) HB.out).mono ?_
  rintro e w3 ⟨g, cap, rfl, hR, hb3⟩
  have H3 := Lib.hid (H2.out.trans (hb3.mono H2.out.size))
  have hlen := partL_len f t z o a b s.size
  have hJ := partJ f t z o a b s.size
  have hZ := partT_len (z := z) HB.out
  generalize partL f t z o a b (s.size : Int) = L at *
  have hcap : L.length ≤ cap := by
    rcases hR.2 with ⟨hv, h0⟩ | ⟨g', cap', cur, hv, _, _, hc, _⟩
    · cases hv
    · cases hv; exact hc
  have hlt := (World.ownsRow.lt hR g rfl).2
  have HJ := Lib.hid (Any.strings_Join lays156 Builder_Extra_156 g 0 cap L sp1 w3 (fun j x hx => by
    rw [Nat.zero_add, hR.cellAt j (by have := (List.getElem?_eq_some_iff.1 hx).1; omega), List.getElem?_map, hx]
    rfl) hlt (by omega) hcap (by
      have e : (Go.Lib.join (L.map (·.data.toList)) sp1.data.toList).length = (partT f t z o a b s.size).size := by
        rw [← hJ]
        show _ = (List.toArray _).size
        rw [List.size_toArray]
      rw [e]
      omega))
  rw [hJ] at HJ
  clear hb3 hR c0 c1 c2 c3 c4 c5 c6 c7 c8 c9 hJ hlen hcap hlt hZ
  go_wp2_with fail
  refine HJ.out.mono ?_
  rintro e w4 ⟨rfl, hb4⟩
  go_wp2
  go_ret
  exact ⟨by rw [HV.out]; rfl, H3.out.trans (hb4.mono H3.out.size)⟩

set_option maxHeartbeats 600000 in
theorem part_i (f t : Int) (z : Bool) (p q : ByteArray) (o : Int) (u : ByteArray) (a b : Int) (s : ByteArray) (w : World) (ht : TabD w) (hb : BdE f t o a b s) (hp : p.size ≤ 9223372036854775807) (hq : q.size ≤ 9223372036854775807) (hu : u.size ≤ 9223372036854775807) (hs : s.size ≤ 9223372036854775807) :
    Calls Tryd.prog 15 #[.agg (envA f t z p q o u a b s)] w fun e w' => e = .returned (.string (partV f t z p q o u a b s)) ∧ Below w.heap.size w w' := by
  have H0 := Lib.hid (below_box w (.cells (envA f t z p q o u a b s) 44))
  have CW := Lib.hid (writtenE_i f t z p q o u a b s _ (ht.below H0.out) hb hp hq hu hs)
  clear ht hb hp hq hu hs
  go_enter Tryd.func15, Tryd.ntmps15
  go_wp2_with fail
  refine CW.out.mono ?_
  rintro e w2 ⟨rfl, hb2⟩
  go_wp2
  go_ret
  exact ⟨rfl, H0.out.trans (hb2.mono H0.out.size)⟩

end Go.Proofs.YtmekpinhhmknnaaDoor

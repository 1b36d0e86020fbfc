/- wordsOfEnv of the program. Written by py/prl.py. -/
import Derived.Test.YtmekpinhhmknnaaDoorPrl1
import Derived.Test.YtmekpinhhmknnaaDoorRowA
import Derived.Deep.AppendLies
import Derived.Deep.RegionHeld3
namespace Go.Proofs.YtmekpinhhmknnaaDoor
open Go.RowKit Go.My Go.Lib
set_option linter.unusedVariables false

theorem info_strP : (Tryd.prog.info? 9).map (fun i => (i.zero, i.size, i.bytes)) = some (some (.string ByteArray.empty), 1, 16) := by kernel_rfl
theorem glEnv_0_0 (g : Nat) (w : World) : (Instr.fieldAt 44 (.pointer (some ⟨g, 0, none⟩)) 0).run Tryd.prog w = .ok (.pointer (some ⟨g, 0, none⟩)) w := by kernel_rfl
theorem glEnv_0_1 (g : Nat) (w : World) : (Instr.fieldAt 44 (.pointer (some ⟨g, 0, none⟩)) 1).run Tryd.prog w = .ok (.pointer (some ⟨g, 1, none⟩)) w := by kernel_rfl
theorem cfDecI (args : Array Value) (w : World) : (callFunc 53 args).run Tryd.prog w = .ok (.enter 53 args) w := cf_of Tryd.func53 (by kernel_rfl) (by kernel_rfl) args w
theorem own_below {w w' : World} {B : Nat} {e : TypeId} {c n : Nat} {v : Value} {xs : List Value} (h : w.ownsRow B e c v n xs) (hb : Below w.heap.size w w') : w'.ownsRow B e c v n xs :=
  h.kept (grw_of_below hb none) (by cases v.ownBlock <;> simp)
theorem own_drew {w : World} {B : Nat} {e : TypeId} {c n : Nat} {v : Value} {xs : List Value} (h : w.ownsRow B e c v n xs) : w.drew.ownsRow B e c v n xs := h
theorem cell_alP {w : World} {p : Addr} {v : Value} {o : Obj} (h : w.cell? p = some v) : (w.alloc o).cell? p = some v :=
  (((Below.refl w.heap.size w).alloc (Nat.le_refl _) o).cell (World.block_lt_of_cell? _ _ h)).trans h
theorem cell_grw {w w' : World} {k j : Nat} {v : Value} {r : Option Nat} (hg : w.grownBy w' r) (h : w.cell? ⟨k, j, none⟩ = some v) (hne : some k ≠ r) : w'.cell? ⟨k, j, none⟩ = some v := by
  have hb := hg.block k (World.block_lt_of_cell? _ _ h) hne
  unfold World.cell? at h ⊢
  simp only [hb]
  exact h
theorem step_app3 {i0 : TypeInfo} (hi : Tryd.prog.info? 9 = some i0) (hz0 : i0.zero = some (.string ByteArray.empty)) (hz1 : i0.size = 1) (hz2 : i0.bytes = 16) {w : World} {ops : Array Oper} {o : Oper} {a : Act} {K : Act → World → Prop} {Q : Exit → Act → World → Prop} {E : Prop} {p q : Tmp} (hgd : o.guard = none)
    (ho : o.op = .call { callee := .builtin .append, args := #[.tmp p, .tmp q], argTypes := #[70, 70] }) (B g0 : Nat) (v : Value) (n : Nat) (xs : List Value) (hs : a.eval (.tmp p) = v) (hown : w.ownsRow B 9 1 v n xs) (y1 y2 y3 : ByteArray)
    (hx : a.eval (.tmp q) = .slice (some ⟨g0, 0, none⟩) 3 3) (hb : w.heap[g0]? = some (.cells #[.string y1, .string y2, .string y3] 9 (0, 0))) (hn : n ≤ 100) (hB : B ≤ w.heap.size)
    (h : ∀ g cap w', w'.ownsRow B 9 1 (.slice (some ⟨g, 0, none⟩) (n + 3) cap) (n + 3) (xs ++ [.string y1, .string y2, .string y3]) → w.grownBy w' v.ownBlock → (v.ownBlock = some g ∨ g = w.heap.size) → g < w'.heap.size → K (a.put o.dst (.slice (some ⟨g, 0, none⟩) (n + 3) cap)) w') :
    if Region.wanted o (yielded ops a.tmps) = true then Oper.wp Tryd.prog o a w K Q else E :=
  step_append_lies w hgd (.tmp p) (.tmp q) 70 ho B 9 i0 (.string ByteArray.empty) 1 16 Tryd.underlying70 hi hz0 hz1 hz2 rfl (by decide) v n xs hs hown ⟨g0, 0, none⟩ 3 3 [.string y1, .string y2, .string y3] hx rfl (World.news_of_block hb) (by simp [Value.oneCell']) (by omega) (by unfold maxLen; omega) (by omega) hB w.heap.size rfl h
/-- The words of an envelope's text. -/
def partL (f t : Int) (z : Bool) (o a b n : Int) : List ByteArray := if z = true then [decV f ++ gtr ++ decV t, inw, decV o, decV a, decV b, decV n] else [decV f ++ gtr ++ decV t, decV a, decV b, decV n]

set_option maxRecDepth 20000 in
set_option maxHeartbeats 4000000 in
theorem envWords_i (f t : Int) (z : Bool) (p q : ByteArray) (o : Int) (u : ByteArray) (a b : Int) (s : ByteArray) (w : World) (hk0 : TabD w) (hb : BdE f t o a b s) :
    Calls Tryd.prog 38 #[.agg (envA f t z p q o u a b s)] w fun e w' => ∃ g cap, e = .returned (.slice (some ⟨g, 0, none⟩) (partL f t z o a b s.size).length cap) ∧ w'.ownsRow (w.heap.size + 1) 9 1 (.slice (some ⟨g, 0, none⟩) (partL f t z o a b s.size).length cap) (partL f t z o a b s.size).length ((partL f t z o a b s.size).map Value.string) ∧ Below w.heap.size w w' := by
  obtain ⟨i0, hi, hz0, hz1, hz2⟩ := info_parts info_strP
  have HT := Lib.hid hk0
  have hB := below_box w (.cells (envA f t z p q o u a b s) 44)
  have hS := BlkAt.box w (envA f t z p q o u a b s) 44
  have hT := hk0.below hB
  have lf : (decV f).size ≤ 21 := decV_len hb.f.1 hb.f.2
  have lt : (decV t).size ≤ 21 := decV_len hb.t.1 hb.t.2
  have lo : (decV o).size ≤ 21 := decV_len hb.o.1 hb.o.2
  have la : (decV a).size ≤ 21 := decV_len hb.a.1 hb.a.2
  have lb : (decV b).size ≤ 21 := decV_len hb.b.1 hb.b.2
  have ls : (decV (s.size : Int)).size ≤ 21 := decV_len hb.s.1 hb.s.2
  clear hk0
  cases z with
  | true =>
    go_enter Tryd.func38, Tryd.ntmps38
    go_upto_region 1 with (fail)
    refine region_rest 8 (kdAt [.val (.pointer (some ⟨w.heap.size, 0, none⟩)), .val (.int .i64 f), .val (.string (decV f)), .val (.string ((decV f) ++ gtr)), .val (.pointer (some ⟨w.heap.size, 1, none⟩)), .val (.int .i64 t), .val (.string (decV t)), .val (.string (((decV f) ++ gtr) ++ (decV t)))]) [some 5, some 6, some 7, some 8, some 9, some 10, some 11, some 12] (by kernel_rfl) (by decide) (by kernel_rfl) (by kernel_rfl) (by kernel_rfl) (by kernel_rfl) (by kernel_rfl) _ (fun a w h => anyStep (n := 1) (i := 8) (by kernel_rfl) rfl (fun a w h => anyStep (n := 0) (i := 9) (by kernel_rfl) rfl (fun a w h => anyEnd (by kernel_rfl) h) h) h) ?_ ?_
    · repeat refine allS ?_ ?_
      · exact all0
      · exact stepField (.pointer (some ⟨w.heap.size, 0, none⟩)) rfl rfl rfl rfl (src_old (by kernel_rfl) rfl) (fun w => glEnv_0_0 _ w)
      · exact stepLoad (.pointer (some ⟨w.heap.size, 0, none⟩)) rfl rfl rfl rfl (src_new 0 (by decide) rfl rfl (by kernel_rfl)) (fun w hk => ldI ((BlkAt.below (hk.below (nh0 rfl)) hS).cell rfl))
      · exact stepCall (ks := [6]) [.int .i64 f] rfl rfl rfl rfl cfDecI rfl (src1 (src_new 1 (by decide) rfl rfl (by kernel_rfl))) (fun w hk => decimal_i f hb.f.1 hb.f.2 w (hT.below (hk.below (nh0 rfl))))
      · exact stepBinRP rfl rfl rfl rfl (src_new 2 (by decide) rfl rfl (by kernel_rfl)) (fun w => strAdd (decV f) gtr _ _ (by simp only [gtr_size]; omega) w)
      · exact stepField (.pointer (some ⟨w.heap.size, 0, none⟩)) rfl rfl rfl rfl (src_old (by kernel_rfl) rfl) (fun w => glEnv_0_1 _ w)
      · exact stepLoad (.pointer (some ⟨w.heap.size, 1, none⟩)) rfl rfl rfl rfl (src_new 4 (by decide) rfl rfl (by kernel_rfl)) (fun w hk => ldI ((BlkAt.below (hk.below (nh0 rfl)) hS).cell rfl))
      · exact stepCall (ks := [10]) [.int .i64 t] rfl rfl rfl rfl cfDecI rfl (src1 (src_new 5 (by decide) rfl rfl (by kernel_rfl))) (fun w hk => decimal_i t hb.t.1 hb.t.2 w (hT.below (hk.below (nh0 rfl))))
      · exact stepBin rfl rfl rfl rfl (src_new 3 (by decide) rfl rfl (by kernel_rfl)) (src_new 6 (by decide) rfl rfl (by kernel_rfl)) (fun w => strAdd ((decV f) ++ gtr) (decV t) _ _ (by simp only [ByteArray.size_append, gtr_size]; omega) w)
    intro vv x1 hok hk
    replace hk := hk.all
    have v0 := okVal hok (j := 0) rfl rfl
    have v1 := okVal hok (j := 1) rfl rfl
    have v2 := okVal hok (j := 2) rfl rfl
    have v3 := okVal hok (j := 3) rfl rfl
    have v4 := okVal hok (j := 4) rfl rfl
    have v5 := okVal hok (j := 5) rfl rfl
    have v6 := okVal hok (j := 6) rfl rfl
    have v7 := okVal hok (j := 7) rfl rfl
    clear hok
    simp only [putL, Nat.zero_add, Nat.reduceAdd, v0, v1, v2, v3, v4, v5, v6, v7, Act.put, List.setIfInBounds_toArray, List.set_cons_zero, List.set_cons_succ]
    clear v0 v1 v2 v3 v4 v5 v6 v7
    replace hS := BlkAt.below (hk.below (nh0 rfl)) hS
    replace hB := hB.trans ((hk.below (nh0 rfl)).mono hB.size)
    clear hk
    have hlt0 : w.heap.size < x1.heap.size := hS.lt
    have hR : (x1.alloc (.cells #[.string (((decV f) ++ gtr) ++ (decV t))] 9)).ownsRow (w.heap.size + 1) 9 1 (.slice (some ⟨x1.heap.size, 0, none⟩) 1 1) 1 [.string (((decV f) ++ gtr) ++ (decV t))] := World.ownsRow_lit x1 #[.string (((decV f) ++ gtr) ++ (decV t))] 1 (by omega) (by unfold maxLen; omega) rfl
    replace hB : Below w.heap.size w (x1.alloc (.cells #[.string (((decV f) ++ gtr) ++ (decV t))] 9)) := hB.alloc hB.size _
    replace hS := hS.past (.cells #[.string (((decV f) ++ gtr) ++ (decV t))] 9)
    have c2 := hS.cell (j := 2) (v := .bool true) rfl
    have c5 := hS.cell (j := 5) (v := .int .i64 o) rfl
    have c6 := hS.cell (j := 6) (v := .string u) rfl
    have c7 := hS.cell (j := 7) (v := .int .i64 a) rfl
    have c8 := hS.cell (j := 8) (v := .int .i64 b) rfl
    go_wp2_with fail
    refine (decimal_i o hb.o.1 hb.o.2 _ (HT.out.below hB)).mono ?_
    rintro e y3 ⟨rfl, hb3⟩
    replace hR := own_below hR hb3
    replace hB := hB.trans (hb3.mono hB.size)
    replace hS := BlkAt.below hb3 hS
    have hlt3 : w.heap.size < y3.heap.size := hS.lt
    clear hb3 c2 c5 c6 c7 c8
    go_upto_region 4 with (at_builtin; refine wpList_append_lies _ rfl _ _ 70 rfl (w.heap.size + 1) 9 i0 (.string ByteArray.empty) 1 16 Tryd.underlying70 hi hz0 hz1 hz2 rfl (by decide) (.slice (some ⟨x1.heap.size, 0, none⟩) 1 1) 1 _ rfl (hR.alloc _) ⟨y3.heap.size, 0, none⟩ 2 2 [_, _] rfl rfl (World.news_of_block (cs := #[_, _]) (t := 9) (fr := (0, 0)) (heap_alloc_new y3 _)) (by simp [Value.oneCell']) (by omega) (by unfold maxLen; omega) (by omega) (by have := hB.size; have := hlt0; simp; omega) (y3.heap.size + 1) (by simp) ?_; intro g4 cap4 y4 hown hgrow hat hltg)
    replace hB : Below w.heap.size w y4 := (hB.alloc hB.size _).grown hgrow (by have := hB.size; simp; omega) (fun j hj => Nat.le_of_succ_le (World.ownsRow.lt hR j hj).1)
    replace hS : BlkAt w.heap.size (envA f t true p q o u a b s) 44 y4 := (hgrow.block w.heap.size (by simp; omega) (by intro c; have c1 : some w.heap.size = some x1.heap.size := c; have := Option.some.inj c1; omega)).trans (hS.past _)
    replace hR := hown
    have hg4 : g4 < y4.heap.size := hltg
    clear hown hgrow hat hltg
    have c6 := hS.cell (j := 6) (v := .string u) rfl
    have c7 := hS.cell (j := 7) (v := .int .i64 a) rfl
    have c8 := hS.cell (j := 8) (v := .int .i64 b) rfl
    go_upto_region 5 with (fail)
    replace hB : Below w.heap.size w (y4.alloc (.cells #[.string u, .int .i64 a, .int .i64 b] 40)) := hB.alloc hB.size _
    have hT := HT.out.below hB
    have hH : BlkAt (y4.heap.size) #[.string u, .int .i64 a, .int .i64 b] 40 (y4.alloc (.cells #[.string u, .int .i64 a, .int .i64 b] 40)) := BlkAt.box y4 _ _
    replace hS := hS.past (.cells #[.string u, .int .i64 a, .int .i64 b] 40)
    replace hR := hR.alloc (.cells #[.string u, .int .i64 a, .int .i64 b] 40)
    clear c6 c7 c8
    have k1 := hH.cell (j := 1) (v := .int .i64 a) rfl
    have k2 := hH.cell (j := 2) (v := .int .i64 b) rfl
    have k9 := hS.cell (j := 9) (v := .string s) rfl
    clear hH hS hT
    have CD := Lib.hid (fun (n : Int) (h : WfN n) W (hW : Below w.heap.size w W) => decimal_i n h.1 h.2 W (HT.out.below hW))
    go_region_held3 (fun w' => w'.cell? ⟨y4.heap.size, 1, none⟩ = some (.int .i64 a) ∧ w'.cell? ⟨y4.heap.size, 2, none⟩ = some (.int .i64 b) ∧ w'.cell? ⟨w.heap.size, 9, none⟩ = some (.string s)) (first | exact ⟨k1, k2, k9⟩ | exact ⟨cell_alP k1, cell_alP k2, cell_alP k9⟩) (first
      | (go_at_call 53; refine (CD.out _ (by first | exact hb.a | exact hb.b | exact hb.s) _ (by first | exact hB | exact hB.drew)).mono ?_; rintro e wz ⟨rfl, hbz⟩; have k1 := (hbz.cell (p := ⟨y4.heap.size, 1, none⟩) (World.block_lt_of_cell? _ _ k1)).trans k1; have k2 := (hbz.cell (p := ⟨y4.heap.size, 2, none⟩) (World.block_lt_of_cell? _ _ k2)).trans k2; have k9 := (hbz.cell (p := ⟨w.heap.size, 9, none⟩) (World.block_lt_of_cell? _ _ k9)).trans k9; have hR := (by first | exact own_below hR hbz | exact own_below (own_drew hR) hbz); have hB := below_nx hbz (by first | exact hB | exact hB.drew) (by exact hB.size))
      | (apply step_app3 (p := 26) (q := 38) (B := w.heap.size + 1) (g0 := wz.heap.size) (v := (.slice (some ⟨g4, 0, none⟩) 3 cap4)) (n := 3) (y1 := decV a) (y2 := decV b) (y3 := decV (s.size : Int)) hi hz0 hz1 hz2; (case hown => exact hR.alloc _); (case hgd => rfl); (case ho => rfl); (case hs => rfl); (case hx => rfl); (case hb => exact heap_alloc_new wz _); (case hn => omega); (case hB => (have := hB.size; simp; omega)); intro g6 cap6 y6 hown hgrow hat hltg; have k1 := (cell_grw hgrow (cell_alP k1) (by intro c; have c1 : y4.heap.size = g4 := Option.some.inj c; have c2 : w.heap.size + 1 ≤ g4 := (World.ownsRow.lt hR _ rfl).1; omega)); have k2 := (cell_grw hgrow (cell_alP k2) (by intro c; have c1 : y4.heap.size = g4 := Option.some.inj c; have c2 : w.heap.size + 1 ≤ g4 := (World.ownsRow.lt hR _ rfl).1; omega)); have k9 := (cell_grw hgrow (cell_alP k9) (by intro c; have c1 : w.heap.size = g4 := Option.some.inj c; have c2 : w.heap.size + 1 ≤ g4 := (World.ownsRow.lt hR _ rfl).1; omega))))
    all_goals
      go_wp2
      go_ret
      exact ⟨g6, cap6, rfl, hown, (hB.alloc hB.size _).grown hgrow (by have := hB.size; simp; omega) (fun j hj => Nat.le_of_succ_le (World.ownsRow.lt hR j hj).1)⟩
  | false =>
    go_enter Tryd.func38, Tryd.ntmps38
    go_upto_region 1 with (fail)
    refine region_rest 8 (kdAt [.val (.pointer (some ⟨w.heap.size, 0, none⟩)), .val (.int .i64 f), .val (.string (decV f)), .val (.string ((decV f) ++ gtr)), .val (.pointer (some ⟨w.heap.size, 1, none⟩)), .val (.int .i64 t), .val (.string (decV t)), .val (.string (((decV f) ++ gtr) ++ (decV t)))]) [some 5, some 6, some 7, some 8, some 9, some 10, some 11, some 12] (by kernel_rfl) (by decide) (by kernel_rfl) (by kernel_rfl) (by kernel_rfl) (by kernel_rfl) (by kernel_rfl) _ (fun a w h => anyStep (n := 1) (i := 8) (by kernel_rfl) rfl (fun a w h => anyStep (n := 0) (i := 9) (by kernel_rfl) rfl (fun a w h => anyEnd (by kernel_rfl) h) h) h) ?_ ?_
    · repeat refine allS ?_ ?_
      · exact all0
      · exact stepField (.pointer (some ⟨w.heap.size, 0, none⟩)) rfl rfl rfl rfl (src_old (by kernel_rfl) rfl) (fun w => glEnv_0_0 _ w)
      · exact stepLoad (.pointer (some ⟨w.heap.size, 0, none⟩)) rfl rfl rfl rfl (src_new 0 (by decide) rfl rfl (by kernel_rfl)) (fun w hk => ldI ((BlkAt.below (hk.below (nh0 rfl)) hS).cell rfl))
      · exact stepCall (ks := [6]) [.int .i64 f] rfl rfl rfl rfl cfDecI rfl (src1 (src_new 1 (by decide) rfl rfl (by kernel_rfl))) (fun w hk => decimal_i f hb.f.1 hb.f.2 w (hT.below (hk.below (nh0 rfl))))
      · exact stepBinRP rfl rfl rfl rfl (src_new 2 (by decide) rfl rfl (by kernel_rfl)) (fun w => strAdd (decV f) gtr _ _ (by simp only [gtr_size]; omega) w)
      · exact stepField (.pointer (some ⟨w.heap.size, 0, none⟩)) rfl rfl rfl rfl (src_old (by kernel_rfl) rfl) (fun w => glEnv_0_1 _ w)
      · exact stepLoad (.pointer (some ⟨w.heap.size, 1, none⟩)) rfl rfl rfl rfl (src_new 4 (by decide) rfl rfl (by kernel_rfl)) (fun w hk => ldI ((BlkAt.below (hk.below (nh0 rfl)) hS).cell rfl))
      · exact stepCall (ks := [10]) [.int .i64 t] rfl rfl rfl rfl cfDecI rfl (src1 (src_new 5 (by decide) rfl rfl (by kernel_rfl))) (fun w hk => decimal_i t hb.t.1 hb.t.2 w (hT.below (hk.below (nh0 rfl))))
      · exact stepBin rfl rfl rfl rfl (src_new 3 (by decide) rfl rfl (by kernel_rfl)) (src_new 6 (by decide) rfl rfl (by kernel_rfl)) (fun w => strAdd ((decV f) ++ gtr) (decV t) _ _ (by simp only [ByteArray.size_append, gtr_size]; omega) w)
    intro vv x1 hok hk
    replace hk := hk.all
    have v0 := okVal hok (j := 0) rfl rfl
    have v1 := okVal hok (j := 1) rfl rfl
    have v2 := okVal hok (j := 2) rfl rfl
    have v3 := okVal hok (j := 3) rfl rfl
    have v4 := okVal hok (j := 4) rfl rfl
    have v5 := okVal hok (j := 5) rfl rfl
    have v6 := okVal hok (j := 6) rfl rfl
    have v7 := okVal hok (j := 7) rfl rfl
    clear hok
    simp only [putL, Nat.zero_add, Nat.reduceAdd, v0, v1, v2, v3, v4, v5, v6, v7, Act.put, List.setIfInBounds_toArray, List.set_cons_zero, List.set_cons_succ]
    clear v0 v1 v2 v3 v4 v5 v6 v7
    replace hS := BlkAt.below (hk.below (nh0 rfl)) hS
    replace hB := hB.trans ((hk.below (nh0 rfl)).mono hB.size)
    clear hk
    have hlt0 : w.heap.size < x1.heap.size := hS.lt
    have hR : (x1.alloc (.cells #[.string (((decV f) ++ gtr) ++ (decV t))] 9)).ownsRow (w.heap.size + 1) 9 1 (.slice (some ⟨x1.heap.size, 0, none⟩) 1 1) 1 [.string (((decV f) ++ gtr) ++ (decV t))] := World.ownsRow_lit x1 #[.string (((decV f) ++ gtr) ++ (decV t))] 1 (by omega) (by unfold maxLen; omega) rfl
    replace hB : Below w.heap.size w (x1.alloc (.cells #[.string (((decV f) ++ gtr) ++ (decV t))] 9)) := hB.alloc hB.size _
    replace hS := hS.past (.cells #[.string (((decV f) ++ gtr) ++ (decV t))] 9)
    have c2 := hS.cell (j := 2) (v := .bool false) rfl
    have c6 := hS.cell (j := 6) (v := .string u) rfl
    have c7 := hS.cell (j := 7) (v := .int .i64 a) rfl
    have c8 := hS.cell (j := 8) (v := .int .i64 b) rfl
    go_upto_region 5 with (fail)
    replace hB : Below w.heap.size w ((x1.alloc (.cells #[.string (((decV f) ++ gtr) ++ (decV t))] 9)).alloc (.cells #[.string u, .int .i64 a, .int .i64 b] 40)) := hB.alloc hB.size _
    have hT := HT.out.below hB
    have hH : BlkAt (x1.heap.size + 1) #[.string u, .int .i64 a, .int .i64 b] 40 ((x1.alloc (.cells #[.string (((decV f) ++ gtr) ++ (decV t))] 9)).alloc (.cells #[.string u, .int .i64 a, .int .i64 b] 40)) := by have := BlkAt.box (x1.alloc (.cells #[.string (((decV f) ++ gtr) ++ (decV t))] 9)) #[.string u, .int .i64 a, .int .i64 b] 40; simpa using this
    replace hS := hS.past (.cells #[.string u, .int .i64 a, .int .i64 b] 40)
    replace hR := hR.alloc (.cells #[.string u, .int .i64 a, .int .i64 b] 40)
    clear c6 c7 c8 c2
    have k1 := hH.cell (j := 1) (v := .int .i64 a) rfl
    have k2 := hH.cell (j := 2) (v := .int .i64 b) rfl
    have k9 := hS.cell (j := 9) (v := .string s) rfl
    clear hH hS hT
    have CD := Lib.hid (fun (n : Int) (h : WfN n) W (hW : Below w.heap.size w W) => decimal_i n h.1 h.2 W (HT.out.below hW))
    go_region_held3 (fun w' => w'.cell? ⟨x1.heap.size + 1, 1, none⟩ = some (.int .i64 a) ∧ w'.cell? ⟨x1.heap.size + 1, 2, none⟩ = some (.int .i64 b) ∧ w'.cell? ⟨w.heap.size, 9, none⟩ = some (.string s)) (first | exact ⟨k1, k2, k9⟩ | exact ⟨cell_alP k1, cell_alP k2, cell_alP k9⟩) (first
      | (go_at_call 53; refine (CD.out _ (by first | exact hb.a | exact hb.b | exact hb.s) _ (by first | exact hB | exact hB.drew)).mono ?_; rintro e wz ⟨rfl, hbz⟩; have k1 := (hbz.cell (p := ⟨x1.heap.size + 1, 1, none⟩) (World.block_lt_of_cell? _ _ k1)).trans k1; have k2 := (hbz.cell (p := ⟨x1.heap.size + 1, 2, none⟩) (World.block_lt_of_cell? _ _ k2)).trans k2; have k9 := (hbz.cell (p := ⟨w.heap.size, 9, none⟩) (World.block_lt_of_cell? _ _ k9)).trans k9; have hR := (by first | exact own_below hR hbz | exact own_below (own_drew hR) hbz); have hB := below_nx hbz (by first | exact hB | exact hB.drew) (by exact hB.size))
      | (apply step_app3 (p := 26) (q := 38) (B := w.heap.size + 1) (g0 := wz.heap.size) (v := (.slice (some ⟨x1.heap.size, 0, none⟩) 1 1)) (n := 1) (y1 := decV a) (y2 := decV b) (y3 := decV (s.size : Int)) hi hz0 hz1 hz2; (case hown => exact hR.alloc _); (case hgd => rfl); (case ho => rfl); (case hs => rfl); (case hx => rfl); (case hb => exact heap_alloc_new wz _); (case hn => omega); (case hB => (have := hB.size; simp; omega)); intro g6 cap6 y6 hown hgrow hat hltg; have k1 := (cell_grw hgrow (cell_alP k1) (by intro c; have c1 : x1.heap.size + 1 = x1.heap.size := Option.some.inj c; have c2 : w.heap.size + 1 ≤ x1.heap.size := (World.ownsRow.lt hR _ rfl).1; omega)); have k2 := (cell_grw hgrow (cell_alP k2) (by intro c; have c1 : x1.heap.size + 1 = x1.heap.size := Option.some.inj c; have c2 : w.heap.size + 1 ≤ x1.heap.size := (World.ownsRow.lt hR _ rfl).1; omega)); have k9 := (cell_grw hgrow (cell_alP k9) (by intro c; have c1 : w.heap.size = x1.heap.size := Option.some.inj c; have c2 : w.heap.size + 1 ≤ x1.heap.size := (World.ownsRow.lt hR _ rfl).1; omega))))
    all_goals
      go_wp2
      go_ret
      exact ⟨g6, cap6, rfl, hown, (hB.alloc hB.size _).grown hgrow (by have := hB.size; simp; omega) (fun j hj => Nat.le_of_succ_le (World.ownsRow.lt hR j hj).1)⟩

end Go.Proofs.YtmekpinhhmknnaaDoor

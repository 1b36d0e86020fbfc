/- The exact laws' helpers for sessions: to, sz, eq, mark; a session as an argument. -/
import Derived.Test.YtkglgficmealnaaSsA
import Derived.Test.YtkglgficmealnaaArgl
import Derived.Test.YtkglgficmealnaaMathS
namespace Go.Proofs.Ytkglgficmealnaa
open Go.RowKit Go.My Go.Lib Go.ChangeShapes Go.WideShapes
set_option linter.unusedVariables false
set_option maxRecDepth 100000

abbrev sesZu : Array Value := (sesU (ByteArray.mk #[]) (ByteArray.mk #[]) (ByteArray.mk #[]) (ByteArray.mk #[]) (ByteArray.mk #[]) 0 0 (ByteArray.mk #[]) 0 (.slice none 0 0))
theorem szSU (r o p t k : ByteArray) (n v : Int) (q : ByteArray) (m : Int) (u : Value) : (Try.prog.info? 29).map (·.size) = some (sesU r o p t k n v q m u).size := by kernel_rfl
theorem sesUone (r o p t k : ByteArray) (n v : Int) (q : ByteArray) (m : Int) (p1 : Option Addr) (n1 c1 : Nat) : (sesU r o p t k n v q m (.slice p1 n1 c1)).all (·.oneCell') = true := by kernel_rfl
set_option maxHeartbeats 4000000 in
theorem toSession_any (r o p t k : ByteArray) (n v : Int) (q : ByteArray) (m : Int) (u : Value) (K : List SkipT) (w : World) (h : ArgL 3 skipC u K w) (hl : K.length ≤ 1048576) :
    Calls Try.prog 10 #[.agg (sesU r o p t k n v q m u)] w fun e w' => ∃ u', e = .returned (.agg (sesU r o p t k n v q m u')) ∧ SkipsAt w.heap.size u' K w' ∧ Below w.heap.size w w' := by
  have H := Lib.hid h
  have C := Lib.hid (fun W (hW : Below w.heap.size w W) => toSkipS_any u K W (H.out.below hW) hl)
  obtain ⟨pu, cu, rfl, _⟩ := h
  obtain ⟨hB9, _, hr9, ho9, _⟩ := boxes3 w (.cells (sesU r o p t k n v q m (.slice pu K.length cu)) 24) (.cells sesZu 29) (.cells (sesU r o p t k n v q m (.slice none 0 0)) 29) _ (Below.refl _ _)
  clear H
  have HR := Lib.hid (And.intro ho9 (And.intro hr9 hB9))
  clear ho9 hr9 hB9
  go_enter Try.func10, Try.ntmps10
  go_wp2_with fail
  refine (C.out _ (by exact HR.out.2.2)).mono ?_
  rintro e w4 ⟨u', rfl, hsk, hb⟩
  have ho := (hb.block _ (Array.getElem?_eq_some_iff.1 HR.out.1).1).trans HR.out.1
  have hr := (hb.block _ (Array.getElem?_eq_some_iff.1 HR.out.2.1).1).trans HR.out.2.1
  have hB := HR.out.2.2.trans (hb.mono HR.out.2.2.size)
  have hlow : w.heap.size + 1 + 1 + 1 ≤ _ := (Array.getElem?_eq_some_iff.1 HR.out.1).1
  have hsk2 : SkipsAt (w.heap.size + 1 + 1 + 1) u' K w4 := hsk.mono hlow
  obtain ⟨p1, cap1, rfl, _, _, _⟩ := hsk2.open
  have HS := Lib.hid (And.intro ho (And.intro hr (And.intro hB hsk2)))
  clear hsk hsk2 hb hB HR C hlow
  obtain ⟨⟨o0, o1, o2, o3, o4, o5, o6, o7, o8, o9⟩, of⟩ := ses_cells ho
  have of9 := of 9
  clear of ho hr
  go_upto_region 12 with (fail)
  clear o0 o1 o2 o3 o4 o5 o6 o7 o8 o9 of9
  have HX := Lib.hid (And.intro (show (w4.setCell ⟨w.heap.size + 1 + 1, 9, none⟩ (.slice p1 K.length cap1)).heap[w.heap.size + 1 + 1]? = some (.cells (sesU r o p t k n v q m (.slice p1 K.length cap1)) 29 (0, 0)) from heap_setCell_same w4 (w.heap.size + 1 + 1) 9 _ _ (.slice p1 K.length cap1) HS.out.1) (And.intro ((heap_setCell_other w4 ⟨w.heap.size + 1 + 1, 9, none⟩ (w.heap.size + 1) (.slice p1 K.length cap1) (by simp)).trans HS.out.2.1) (And.intro (HS.out.2.2.1.setCell (p := ⟨w.heap.size + 1 + 1, 9, none⟩) (by show w.heap.size ≤ w.heap.size + 1 + 1; omega) (.slice p1 K.length cap1)) (row_cell HS.out.2.2.2 (Nat.lt_succ_self _) 9 (.slice p1 K.length cap1)))))
  generalize w4.setCell ⟨w.heap.size + 1 + 1, 9, none⟩ (.slice p1 K.length cap1) = w5 at HX ⊢
  go_wp2_with (first
    | (with_reducible refine wpList_load_row (o := ⟨some 35, _, _, _, _, _⟩) rfl 29 _ rfl (w.heap.size + 1 + 1) rfl 29 (sesU r o p t k n v q m (.slice p1 K.length cap1)) (0, 0) _ HX.out.1 Try.underlying29 rfl (szSU r o p t k n v q m (.slice p1 K.length cap1)) ?_)
    | ((with_reducible refine wpList_store_row' (o := ⟨none, .store 29 _ _, _, _, _, _⟩) rfl 29 _ _ rfl (w.heap.size + 1) (sesU r o p t k n v q m (.slice p1 K.length cap1)) rfl rfl 29 sesZu HX.out.2.1 (szSU r o p t k n v q m (.slice p1 K.length cap1)) rfl (sesUone r o p t k n v q m p1 K.length cap1) ?_); intro w6 hw6 hsw6 hgw6)
    | fail)
  refine bodyPost_ret (v := .agg (sesU r o p t k n v q m (.slice p1 K.length cap1))) (results_cell_row Try.results10 _ _ (w.heap.size + 1) 29 _ (0, 0) _ rfl hw6 Try.underlying29 rfl (szSU r o p t k n v q m (.slice p1 K.length cap1))) rfl ⟨_, rfl, ?_, ?_⟩
  · exact (RowL.kept HX.out.2.2.2 hgw6 (row_ne HX.out.2.2.2 (by omega))).mono (by omega)
  · exact HX.out.2.2.1.grown hgw6 HX.out.2.2.1.size (fun k hk => by have := Option.some.inj hk; omega)

/-- A session as an argument has it. -/
structure SesArg (r o p t k : ByteArray) (n v : Int) (q : ByteArray) (m : Int) (u : Value) (K : List SkipT) (w : World) : Prop where
  sk : ArgL 3 skipC u K w
  wk : ∀ a ∈ K, skipW a
  z : r.size ≤ maxLen ∧ o.size ≤ maxLen ∧ p.size ≤ maxLen ∧ t.size ≤ maxLen ∧ k.size ≤ maxLen ∧ q.size ≤ maxLen
theorem SesArg.below {r o p t k : ByteArray} {n v : Int} {q : ByteArray} {m : Int} {u : Value} {K : List SkipT} {w w' : World} (h : SesArg r o p t k n v q m u K w) (hb : Below w.heap.size w w') : SesArg r o p t k n v q m u K w' := ⟨h.sk.below hb, h.wk, h.z⟩

set_option maxHeartbeats 4000000 in
theorem szSession_any (r o p t k : ByteArray) (n v : Int) (q : ByteArray) (m : Int) (u : Value) (K : List SkipT) (left : Nat) (w : World) (h : SesArg r o p t k n v q m u K w) (hl : left ≤ 1048576) :
    Calls Try.prog 8 #[.agg (sesU r o p t k n v q m u), .int .i64 left] w fun e w' => ((∃ s : Nat, e = .returned (.int .i64 s) ∧ K.length ≤ left ∧ s ≤ left) ∨ e = .returned (.int .i64 (-1))) ∧ Below w.heap.size w w' := by
  have hlI : (left : Int) ≤ 1048576 := by omega
  obtain ⟨zr, zo, zp, zt, zk, zq⟩ := h.z
  have hmr : (r.size : Int) ≤ 9223372036854775807 := by unfold maxLen at zr; omega
  have hmo : (o.size : Int) ≤ 9223372036854775807 := by unfold maxLen at zo; omega
  have hmp : (p.size : Int) ≤ 9223372036854775807 := by unfold maxLen at zp; omega
  have hmt : (t.size : Int) ≤ 9223372036854775807 := by unfold maxLen at zt; omega
  have hmk : (k.size : Int) ≤ 9223372036854775807 := by unfold maxLen at zk; omega
  have hmq : (q.size : Int) ≤ 9223372036854775807 := by unfold maxLen at zq; omega
  have H := Lib.hid h
  have hb0 : Below w.heap.size w (w.alloc (.cells (sesU r o p t k n v q m u) 24)) := below_box w _
  have HB := Lib.hid hb0
  clear h zr zo zp zt zk zq hb0
  by_cases hr : r.size ≤ left
  case neg =>
    have qr : (left : Int) - (r.size : Int) < 0 := by omega
    clear hr
    go_enter Try.func8, Try.ntmps8
    go_wp2
    go_ret
    exact ⟨.inr rfl, HB.out⟩
  by_cases ho : r.size + o.size ≤ left
  case neg =>
    have qr : ¬ (left : Int) - (r.size : Int) < 0 := by omega
    have qo : (left : Int) - (r.size : Int) - (o.size : Int) < 0 := by omega
    clear hr ho
    go_enter Try.func8, Try.ntmps8
    go_wp2
    go_ret
    exact ⟨.inr rfl, HB.out⟩
  by_cases hp : r.size + o.size + p.size ≤ left
  case neg =>
    have qr : ¬ (left : Int) - (r.size : Int) < 0 := by omega
    have qo : ¬ (left : Int) - (r.size : Int) - (o.size : Int) < 0 := by omega
    have qp : (left : Int) - (r.size : Int) - (o.size : Int) - (p.size : Int) < 0 := by omega
    clear hr ho hp
    go_enter Try.func8, Try.ntmps8
    go_wp2
    go_ret
    exact ⟨.inr rfl, HB.out⟩
  by_cases ht : r.size + o.size + p.size + t.size ≤ left
  case neg =>
    have qr : ¬ (left : Int) - (r.size : Int) < 0 := by omega
    have qo : ¬ (left : Int) - (r.size : Int) - (o.size : Int) < 0 := by omega
    have qp : ¬ (left : Int) - (r.size : Int) - (o.size : Int) - (p.size : Int) < 0 := by omega
    have qt : (left : Int) - (r.size : Int) - (o.size : Int) - (p.size : Int) - (t.size : Int) < 0 := by omega
    clear hr ho hp ht
    go_enter Try.func8, Try.ntmps8
    go_wp2
    go_ret
    exact ⟨.inr rfl, HB.out⟩
  by_cases hk : r.size + o.size + p.size + t.size + k.size ≤ left
  case neg =>
    have qr : ¬ (left : Int) - (r.size : Int) < 0 := by omega
    have qo : ¬ (left : Int) - (r.size : Int) - (o.size : Int) < 0 := by omega
    have qp : ¬ (left : Int) - (r.size : Int) - (o.size : Int) - (p.size : Int) < 0 := by omega
    have qt : ¬ (left : Int) - (r.size : Int) - (o.size : Int) - (p.size : Int) - (t.size : Int) < 0 := by omega
    have qk : (left : Int) - (r.size : Int) - (o.size : Int) - (p.size : Int) - (t.size : Int) - (k.size : Int) < 0 := by omega
    clear hr ho hp ht hk
    go_enter Try.func8, Try.ntmps8
    go_wp2
    go_ret
    exact ⟨.inr rfl, HB.out⟩
  by_cases hq : r.size + o.size + p.size + t.size + k.size + q.size ≤ left
  case neg =>
    have qr : ¬ (left : Int) - (r.size : Int) < 0 := by omega
    have qo : ¬ (left : Int) - (r.size : Int) - (o.size : Int) < 0 := by omega
    have qp : ¬ (left : Int) - (r.size : Int) - (o.size : Int) - (p.size : Int) < 0 := by omega
    have qt : ¬ (left : Int) - (r.size : Int) - (o.size : Int) - (p.size : Int) - (t.size : Int) < 0 := by omega
    have qk : ¬ (left : Int) - (r.size : Int) - (o.size : Int) - (p.size : Int) - (t.size : Int) - (k.size : Int) < 0 := by omega
    have qq : (left : Int) - (r.size : Int) - (o.size : Int) - (p.size : Int) - (t.size : Int) - (k.size : Int) - (q.size : Int) < 0 := by omega
    clear hr ho hp ht hk hq
    go_enter Try.func8, Try.ntmps8
    go_wp2
    go_ret
    exact ⟨.inr rfl, HB.out⟩
  have qr : ¬ (left : Int) - (r.size : Int) < 0 := by omega
  have qo : ¬ (left : Int) - (r.size : Int) - (o.size : Int) < 0 := by omega
  have qp : ¬ (left : Int) - (r.size : Int) - (o.size : Int) - (p.size : Int) < 0 := by omega
  have qt : ¬ (left : Int) - (r.size : Int) - (o.size : Int) - (p.size : Int) - (t.size : Int) < 0 := by omega
  have qk : ¬ (left : Int) - (r.size : Int) - (o.size : Int) - (p.size : Int) - (t.size : Int) - (k.size : Int) < 0 := by omega
  have qq : ¬ (left : Int) - (r.size : Int) - (o.size : Int) - (p.size : Int) - (t.size : Int) - (k.size : Int) - (q.size : Int) < 0 := by omega
  have HE : Hid ((left : Int) - (r.size : Int) - (o.size : Int) - (p.size : Int) - (t.size : Int) - (k.size : Int) - (q.size : Int) = ((left - (r.size + o.size + p.size + t.size + k.size + q.size) : Nat) : Int)) := by show _ = _; omega
  have C := Lib.hid (fun W (hW : Below w.heap.size w W) => szSkipS_any u K (left - (r.size + o.size + p.size + t.size + k.size + q.size)) W (H.out.sk.below hW) H.out.wk (by omega))
  clear hr ho hp ht hk hq
  go_enter Try.func8, Try.ntmps8
  go_wp2_with fail
  rw [HE.out]
  refine (C.out _ (by exact HB.out)).mono ?_
  rintro e w2 ⟨hres, hb⟩
  have hB := HB.out.trans (hb.mono HB.out.size)
  clear hb
  rcases hres with ⟨s, rfl, hs⟩ | rfl
  · have qs : ¬ (s : Int) < 0 := by omega
    have HK : Hid (K.length ≤ left ∧ s ≤ left) := by show _ ∧ _; omega
    clear hs
    go_wp2
    go_ret
    exact ⟨.inl ⟨s, rfl, HK.out.1, HK.out.2⟩, hB⟩
  · go_wp2
    go_ret
    exact ⟨.inr rfl, hB⟩

set_option maxHeartbeats 4000000 in
theorem eqSession_same (r o p t k : ByteArray) (n v : Int) (q : ByteArray) (m : Int) (u1 u2 : Value) (K : List SkipT) (w : World) (h1 : SkipsAt 0 u1 K w) (h2 : SkipsAt 0 u2 K w) (hl : K.length ≤ 1048576) :
    Calls Try.prog 12 #[.agg (sesU r o p t k n v q m u1), .agg (sesU r o p t k n v q m u2)] w fun e w' => e = .returned (.bool true) ∧ Below w.heap.size w w' := by
  have C := Lib.hid (fun W (hW : Below w.heap.size w W) => eqSkipS_same u1 u2 K W (h1.below hW) (h2.below hW) hl)
  have hb0 : Below w.heap.size w ((w.alloc (.cells (sesU r o p t k n v q m u1) 29)).alloc (.cells (sesU r o p t k n v q m u2) 29)) := ((Below.refl _ _).alloc (Nat.le_refl _) _).alloc (by simp) _
  have HB := Lib.hid hb0
  clear h1 h2 hb0
  go_enter Try.func12, Try.ntmps12
  go_wp2_with fail
  refine (C.out _ (by exact HB.out)).mono ?_
  rintro e w2 ⟨rfl, hb⟩
  have hB := HB.out.trans (hb.mono HB.out.size)
  clear hb
  go_wp2
  go_ret
  exact ⟨rfl, hB⟩

theorem ss_cells_s : Try.prog.cellsOf 9 = 1 := by kernel_rfl
theorem ss_cells_i : Try.prog.cellsOf 2 = 1 := by kernel_rfl
theorem ss_cells_skip : Try.prog.cellsOf 97 = 3 := by kernel_rfl
theorem ss_cells_skips : Try.prog.cellsOf 22 = 1 := by kernel_rfl
theorem ss_cells_ses : Try.prog.cellsOf 24 = 10 := by kernel_rfl
theorem skip_open {H : Type} {enc : TypeId × Value → H} {w : World} {base : Nat} {sp : Nat → Bool} {held : Bool} {fuel : Nat} {cs : List Value} {x : DataW H × List MemPlace} (h : DataW.trod enc Try.prog w base sp held fuel 97 cs = some x) :
    ∃ a : SkipT, cs = skipC a ∧ skipW a := by
  obtain ⟨xs, n, _, hx, hl, hn, hf⟩ := DataW.trod_struct Try.underlying97 h
  rw [ss_cells_skip] at hl
  match cs, hl with
  | [c0, c1, c2], _ =>
  match xs, hn with
  | [y0, y1, y2], _ =>
    have h0 : DataW.trod enc Try.prog w base sp held n 9 (List.take (Try.prog.cellsOf 9) (List.drop 0 [c0, c1, c2])) = some y0 := by have := hf 0 _ rfl; exact this
    rw [ss_cells_s] at h0
    have g0 : DataW.trod enc Try.prog w base sp held n 9 [c0] = some y0 := h0
    obtain ⟨a, e0, _, wa⟩ := DataW.trod_string Try.underlying9 g0
    have h1 : DataW.trod enc Try.prog w base sp held n 2 (List.take (Try.prog.cellsOf 2) (List.drop 1 [c0, c1, c2])) = some y1 := by have := hf 1 _ rfl; exact this
    rw [ss_cells_i] at h1
    have g1 : DataW.trod enc Try.prog w base sp held n 2 [c1] = some y1 := h1
    obtain ⟨b, e1, _, wb⟩ := DataW.trod_int Try.underlying2 g1
    have h2 : DataW.trod enc Try.prog w base sp held n 9 (List.take (Try.prog.cellsOf 9) (List.drop 2 [c0, c1, c2])) = some y2 := by have := hf 2 _ rfl; exact this
    rw [ss_cells_s] at h2
    have g2 : DataW.trod enc Try.prog w base sp held n 9 [c2] = some y2 := h2
    obtain ⟨c, e2, _, wc⟩ := DataW.trod_string Try.underlying9 g2
    simp only [List.cons.injEq, and_true] at e0 e1 e2
    obtain rfl := e0
    obtain rfl := e1
    obtain rfl := e2
    exact ⟨(a, b, c), rfl, wa, wb, wc⟩
theorem session_open {H : Type} {enc : TypeId × Value → H} {w : World} {sp : Nat → Bool} {held : Bool} {rc : Reach} {b0 : Nat} {vv : Value} {d : DataW H} {ps : List MemPlace} (hv : Value.okWide Try.prog w rc b0 24 vv) (h : DataW.Trod enc Try.prog w 0 sp held 24 vv d ps) :
    ∃ r o p t k n v q m u K, vv = .agg (sesU r o p t k n v q m u) ∧ SesArg r o p t k n v q m u K w := by
  obtain ⟨cs, rfl, _⟩ := okWide_struct Try.underlying24 hv
  obtain ⟨fuel, hf0⟩ := h
  obtain ⟨l⟩ := cs
  simp only [Value.cells] at hf0
  obtain ⟨xs, nn, _, hx, hl, hn, hf⟩ := DataW.trod_struct Try.underlying24 hf0
  rw [ss_cells_ses] at hl
  match l, hl with
  | [c0, c1, c2, c3, c4, c5, c6, c7, c8, c9], _ =>
  match xs, hn with
  | [y0, y1, y2, y3, y4, y5, y6, y7, y8, y9], _ =>
    have h0 : DataW.trod enc Try.prog w 0 sp held nn 9 (List.take (Try.prog.cellsOf 9) (List.drop 0 [c0, c1, c2, c3, c4, c5, c6, c7, c8, c9])) = some y0 := by have := hf 0 _ rfl; exact this
    rw [ss_cells_s] at h0
    have g0 : DataW.trod enc Try.prog w 0 sp held nn 9 [c0] = some y0 := h0
    obtain ⟨r, e0, _, wr⟩ := DataW.trod_string Try.underlying9 g0
    have h1 : DataW.trod enc Try.prog w 0 sp held nn 9 (List.take (Try.prog.cellsOf 9) (List.drop 1 [c0, c1, c2, c3, c4, c5, c6, c7, c8, c9])) = some y1 := by have := hf 1 _ rfl; exact this
    rw [ss_cells_s] at h1
    have g1 : DataW.trod enc Try.prog w 0 sp held nn 9 [c1] = some y1 := h1
    obtain ⟨o, e1, _, wo⟩ := DataW.trod_string Try.underlying9 g1
    have h2 : DataW.trod enc Try.prog w 0 sp held nn 9 (List.take (Try.prog.cellsOf 9) (List.drop 2 [c0, c1, c2, c3, c4, c5, c6, c7, c8, c9])) = some y2 := by have := hf 2 _ rfl; exact this
    rw [ss_cells_s] at h2
    have g2 : DataW.trod enc Try.prog w 0 sp held nn 9 [c2] = some y2 := h2
    obtain ⟨p, e2, _, wp⟩ := DataW.trod_string Try.underlying9 g2
    have h3 : DataW.trod enc Try.prog w 0 sp held nn 9 (List.take (Try.prog.cellsOf 9) (List.drop 3 [c0, c1, c2, c3, c4, c5, c6, c7, c8, c9])) = some y3 := by have := hf 3 _ rfl; exact this
    rw [ss_cells_s] at h3
    have g3 : DataW.trod enc Try.prog w 0 sp held nn 9 [c3] = some y3 := h3
    obtain ⟨t, e3, _, wt⟩ := DataW.trod_string Try.underlying9 g3
    have h4 : DataW.trod enc Try.prog w 0 sp held nn 9 (List.take (Try.prog.cellsOf 9) (List.drop 4 [c0, c1, c2, c3, c4, c5, c6, c7, c8, c9])) = some y4 := by have := hf 4 _ rfl; exact this
    rw [ss_cells_s] at h4
    have g4 : DataW.trod enc Try.prog w 0 sp held nn 9 [c4] = some y4 := h4
    obtain ⟨k, e4, _, wk⟩ := DataW.trod_string Try.underlying9 g4
    have h5 : DataW.trod enc Try.prog w 0 sp held nn 2 (List.take (Try.prog.cellsOf 2) (List.drop 5 [c0, c1, c2, c3, c4, c5, c6, c7, c8, c9])) = some y5 := by have := hf 5 _ rfl; exact this
    rw [ss_cells_i] at h5
    have g5 : DataW.trod enc Try.prog w 0 sp held nn 2 [c5] = some y5 := h5
    obtain ⟨n, e5, _, wn⟩ := DataW.trod_int Try.underlying2 g5
    have h6 : DataW.trod enc Try.prog w 0 sp held nn 2 (List.take (Try.prog.cellsOf 2) (List.drop 6 [c0, c1, c2, c3, c4, c5, c6, c7, c8, c9])) = some y6 := by have := hf 6 _ rfl; exact this
    rw [ss_cells_i] at h6
    have g6 : DataW.trod enc Try.prog w 0 sp held nn 2 [c6] = some y6 := h6
    obtain ⟨v, e6, _, wv⟩ := DataW.trod_int Try.underlying2 g6
    have h7 : DataW.trod enc Try.prog w 0 sp held nn 9 (List.take (Try.prog.cellsOf 9) (List.drop 7 [c0, c1, c2, c3, c4, c5, c6, c7, c8, c9])) = some y7 := by have := hf 7 _ rfl; exact this
    rw [ss_cells_s] at h7
    have g7 : DataW.trod enc Try.prog w 0 sp held nn 9 [c7] = some y7 := h7
    obtain ⟨q, e7, _, wq⟩ := DataW.trod_string Try.underlying9 g7
    have h8 : DataW.trod enc Try.prog w 0 sp held nn 2 (List.take (Try.prog.cellsOf 2) (List.drop 8 [c0, c1, c2, c3, c4, c5, c6, c7, c8, c9])) = some y8 := by have := hf 8 _ rfl; exact this
    rw [ss_cells_i] at h8
    have g8 : DataW.trod enc Try.prog w 0 sp held nn 2 [c8] = some y8 := h8
    obtain ⟨m, e8, _, wm⟩ := DataW.trod_int Try.underlying2 g8
    have h9 : DataW.trod enc Try.prog w 0 sp held nn 22 (List.take (Try.prog.cellsOf 22) (List.drop 9 [c0, c1, c2, c3, c4, c5, c6, c7, c8, c9])) = some y9 := by have := hf 9 _ rfl; exact this
    rw [ss_cells_skips] at h9
    have g9 : DataW.trod enc Try.prog w 0 sp held nn 22 [c9] = some y9 := h9
    obtain ⟨u, K, e9, aK, wK⟩ := argL_open (f := skipC) Try.underlying22 ss_cells_skip (by decide) skipC_len (fun n cs x h => skip_open h) g9
    simp only [List.cons.injEq, and_true] at e0 e1 e2 e3 e4 e5 e6 e7 e8 e9
    obtain rfl := e0
    obtain rfl := e1
    obtain rfl := e2
    obtain rfl := e3
    obtain rfl := e4
    obtain rfl := e5
    obtain rfl := e6
    obtain rfl := e7
    obtain rfl := e8
    obtain rfl := e9
    exact ⟨r, o, p, t, k, n, v, q, m, _, K, rfl, aK, wK, wr, wo, wp, wt, wk, wq⟩

end Go.Proofs.Ytkglgficmealnaa

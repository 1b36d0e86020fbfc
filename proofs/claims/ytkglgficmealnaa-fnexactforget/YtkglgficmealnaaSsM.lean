/- Marks of sessions; Forget of both sides. -/
import Derived.Test.YtkglgficmealnaaSsL
import Derived.Test.YtkglgficmealnaaSsQ
import Derived.Test.YtkglgficmealnaaRegJ
namespace Go.Proofs.Ytkglgficmealnaa
open Go.RowKit Go.My Go.Lib
set_option linter.unusedVariables false
set_option maxRecDepth 100000

theorem szSL (r o p t k : ByteArray) (n v : Int) (q : ByteArray) (m : Int) (u : Value) : (Try.prog.info? 24).map (·.size) = some (sesU r o p t k n v q m u).size := by kernel_rfl
theorem ldSesI {g : Nat} {r o p t k : ByteArray} {n v : Int} {q : ByteArray} {m : Int} {u : Value} {w : World} (h : w.heap[g]? = some (.cells (sesU r o p t k n v q m u) 29 (0, 0))) : (Instr.loadAt 29 (.pointer (some ⟨g, 0, none⟩))).run Try.prog w = .ok (.agg (sesU r o p t k n v q m u)) w := by
  obtain ⟨⟨c0, c1, c2, c3, c4, c5, c6, c7, c8, c9⟩, _⟩ := ses_cells h
  simp [Instr.loadAt, go_sem, c0, c1, c2, c3, c4, c5, c6, c7, c8, c9]
theorem ldSesL {g : Nat} {r o p t k : ByteArray} {n v : Int} {q : ByteArray} {m : Int} {u : Value} {w : World} (h : w.heap[g]? = some (.cells (sesU r o p t k n v q m u) 24 (0, 0))) : (Instr.loadAt 24 (.pointer (some ⟨g, 0, none⟩))).run Try.prog w = .ok (.agg (sesU r o p t k n v q m u)) w := by
  obtain ⟨⟨c0, c1, c2, c3, c4, c5, c6, c7, c8, c9⟩, _⟩ := ses_cells h
  simp [Instr.loadAt, go_sem, c0, c1, c2, c3, c4, c5, c6, c7, c8, c9]
set_option maxHeartbeats 1000000 in
theorem markSession_any (r o p t k : ByteArray) (n v : Int) (q : ByteArray) (m : Int) (u : Value) (K : List SkipT) (j : Nat) (w : World) (h : SkipsAt 0 u K w) (hl : j + 3 * K.length ≤ 1099511627776) :
    Calls Try.prog 15 #[.agg (sesU r o p t k n v q m u), .int .i64 j] w fun e w' => e = .returned (.int .i64 ((j + 3 * K.length : Nat) : Int)) ∧ SkipsAt 0 u (skipMs j K.length) w' ∧ w.grownBy w' u.ownBlock := by
  have C := Lib.hid (markSkipS_any u K j _ (h.below (below_box w (.cells (sesU r o p t k n v q m u) 29))) hl)
  have HG := Lib.hid (World.grownBy_alloc w (.cells (sesU r o p t k n v q m u) 29) u.ownBlock)
  clear h
  go_enter Try.func15, Try.ntmps15
  go_wp2_with fail
  refine C.out.mono ?_
  rintro e w' ⟨rfl, h1, h2⟩
  have HN := Lib.hid (And.intro h1 (grw_trans HG.out h2))
  clear h1 h2 C
  go_wp2
  go_ret
  exact ⟨rfl, HN.out.1, HN.out.2⟩
set_option maxHeartbeats 1000000 in
theorem heldSession_any (r o p t k : ByteArray) (n v : Int) (q : ByteArray) (m : Int) (u : Value) (c j : Nat) (w : World) (h : SkipsAt 0 u (skipMs j c) w) (hl : j + 3 * c ≤ 1099511627776) :
    Calls Try.prog 16 #[.agg (sesU r o p t k n v q m u), .int .i64 j] w fun e w' => e = .returned (.int .i64 ((j + 3 * c : Nat) : Int)) ∧ Below w.heap.size w w' := by
  have C := Lib.hid (heldSkipS_any u c j _ (h.below (below_box w (.cells (sesU r o p t k n v q m u) 29))) hl)
  have HB := Lib.hid (below_box w (.cells (sesU r o p t k n v q m u) 29))
  have q0 : ¬ (((j + 3 * c : Nat) : Int) < 0) := by omega
  obtain ⟨R, hR⟩ : ∃ R : Int, ((j + 3 * c : Nat) : Int) = R := ⟨_, rfl⟩
  rw [hR] at C q0 ⊢
  clear h hR
  go_enter Try.func16, Try.ntmps16
  go_wp2_with fail
  refine C.out.mono ?_
  rintro e w' ⟨rfl, h1⟩
  have HN := Lib.hid (HB.out.trans (h1.mono HB.out.size))
  clear h1 C
  go_wp2
  go_ret
  exact ⟨rfl, HN.out⟩

/-- A session that has forgotten. -/
def fgV (b : Bool) (r o p t k : ByteArray) (n v : Int) (q : ByteArray) (m : Int) : Array Value := if b then sesU r o p t k n v q m (.slice none 0 0) else sesZu
theorem fgV_is (b : Bool) (r o p t k : ByteArray) (n v : Int) (q : ByteArray) (m : Int) : ∃ r' o' p' t' k' n' v' q' m', fgV b r o p t k n v q m = sesU r' o' p' t' k' n' v' q' m' (.slice none 0 0) := by
  cases b with
  | true => exact ⟨_, _, _, _, _, _, _, _, _, rfl⟩
  | false => exact ⟨_, _, _, _, _, _, _, _, _, rfl⟩
theorem eqNil (r o p t k : ByteArray) (n v : Int) (q : ByteArray) (m : Int) (w : World) : Calls Try.prog 12 #[.agg (sesU r o p t k n v q m (.slice none 0 0)), .agg (sesU r o p t k n v q m (.slice none 0 0))] w fun e w' => e = .returned (.bool true) ∧ Below w.heap.size w w' :=
  eqSession_same r o p t k n v q m _ _ [] w (RowL.nil _ _ _ _ _) (RowL.nil _ _ _ _ _) (Nat.zero_le _)
theorem markNil (r o p t k : ByteArray) (n v : Int) (q : ByteArray) (m : Int) (w : World) : Calls Try.prog 15 #[.agg (sesU r o p t k n v q m (.slice none 0 0)), .int .i64 1] w fun e w' => e = .returned (.int .i64 1) ∧ Below w.heap.size w w' := by
  refine (markSession_any r o p t k n v q m (.slice none 0 0) [] 1 w (RowL.nil _ _ _ _ _) (by decide)).mono ?_
  rintro e w' ⟨rfl, _, hg⟩
  exact ⟨rfl, (Below.refl _ _).grown hg (Nat.le_refl _) (fun k hk => by cases hk)⟩
theorem heldNil (r o p t k : ByteArray) (n v : Int) (q : ByteArray) (m : Int) (w : World) : Calls Try.prog 16 #[.agg (sesU r o p t k n v q m (.slice none 0 0)), .int .i64 1] w fun e w' => e = .returned (.int .i64 1) ∧ Below w.heap.size w w' := by
  refine (heldSession_any r o p t k n v q m (.slice none 0 0) 0 1 w (RowL.nil _ _ _ _ _) (by decide)).mono ?_
  rintro e w' ⟨rfl, hb⟩
  exact ⟨rfl, hb⟩
theorem row_kindS {α : Type} {B e c g : Nat} {f : α → List Value} {v : Value} {l : List α} {w : World} {cs : Array Value} {T : TypeId} (h : RowL B e c f v l w) (hg : w.heap[g]? = some (.cells cs T (0, 0))) (hT : T ≠ e) : v.ownBlock ≠ some g := by
  intro c2
  rcases h.2 with ⟨hv, _⟩ | ⟨q, cap, cur, hv, _, hq, _⟩
  · rw [hv] at c2; cases c2
  · rw [hv] at c2
    have e2 : q = g := Option.some.inj c2
    subst e2
    rw [hq] at hg
    injection hg with hg
    injection hg with _ h3
    exact hT h3.symm
theorem row_low {α : Type} {B e c : Nat} {f : α → List Value} {v : Value} {l : List α} {w : World} (h : RowL B e c f v l w) : ∀ q, v.ownBlock = some q → B ≤ q := by
  intro q hq
  rcases h.2 with ⟨hv, _⟩ | ⟨g, cap, cur, hv, hB, _⟩
  · rw [hv] at hq; cases hq
  · rw [hv] at hq
    have e2 : g = q := Option.some.inj hq
    rw [← e2]; exact hB
theorem bSesZ (w : World) : (Instr.build 29 #[]).run Try.prog w = .ok (.agg sesZu) w := by kernel_rfl

set_option maxHeartbeats 4000000 in
theorem forget_i (r o p t k : ByteArray) (n v : Int) (q : ByteArray) (m : Int) (u : Value) (K : List SkipT) (w : World) (h : SkipsAt 0 u K w) (hm : K.length ≤ 1048576) :
    Calls Try.prog 14 #[.agg (sesU r o p t k n v q m u)] w fun e w' => e = .returned (.agg (fgV (sesB r o p t k n v q m K) r o p t k n v q m)) ∧ Below w.heap.size w w' := by
  obtain ⟨hB0, hx0, hr0⟩ := boxes2 w (.cells (sesU r o p t k n v q m u) 29) (.cells sesZu 29) _ (Below.refl _ _)
  have C := Lib.hid (sesOk_i r o p t k n v q m u K _ (h.below hB0) hm)
  obtain ⟨pu, cu, rfl, _⟩ := h.open
  have HX := Lib.hid (And.intro hx0 (And.intro hr0 hB0))
  clear h hB0 hx0 hr0
  obtain ⟨R, hR⟩ : ∃ R, sesB r o p t k n v q m K = R := ⟨_, rfl⟩
  rw [hR] at C ⊢
  clear hR
  go_enter Try.func14, Try.ntmps14
  go_wp2_with (first | (with_reducible refine wpList_load_row (o := ⟨some 3, _, _, _, _, _⟩) rfl 29 _ rfl w.heap.size rfl 29 (sesU r o p t k n v q m (.slice pu K.length cu)) (0, 0) _ HX.out.1 Try.underlying29 rfl (szSU r o p t k n v q m (.slice pu K.length cu)) ?_) | fail)
  refine C.out.mono ?_
  rintro e w1 ⟨rfl, hb⟩
  have HX := Lib.hid (And.intro ((hb.block _ (Array.getElem?_eq_some_iff.1 HX.out.1).1).trans HX.out.1) (And.intro ((hb.block _ (Array.getElem?_eq_some_iff.1 HX.out.2.1).1).trans HX.out.2.1) (HX.out.2.2.trans (hb.mono HX.out.2.2.size))))
  clear hb C
  cases R with
  | false =>
    have hbz := fun w' => bSesZ w'
    go_wp2_with (first | ((with_reducible refine wpList_store_row' (o := ⟨none, .store 29 _ _, _, _, _, _⟩) rfl 29 _ _ rfl (w.heap.size + 1) sesZu rfl rfl 29 sesZu HX.out.2.1 (szSU _ _ _ _ _ _ _ _ _ _) rfl (sesUone _ _ _ _ _ _ _ _ _ none 0 0) ?_); intro w6 hw6 hsw6 hgw6) | fail)
    refine bodyPost_ret (v := .agg sesZu) (results_cell_row Try.results14 _ _ (w.heap.size + 1) 29 _ (0, 0) _ rfl hw6 Try.underlying29 rfl (szSU _ _ _ _ _ _ _ _ _ _)) rfl ⟨rfl, ?_⟩
    exact HX.out.2.2.grown hgw6 HX.out.2.2.size (fun k hk => by have := Option.some.inj hk; omega)
  | true =>
    obtain ⟨⟨c0, c1, c2, c3, c4, c5, c6, c7, c8, c9⟩, cf⟩ := ses_cells HX.out.1
    have cf9 := cf 9
    clear cf
    go_upto_region 4 with (fail)
    clear c0 c1 c2 c3 c4 c5 c6 c7 c8 c9 cf9
    have HY := Lib.hid (And.intro (show (w1.setCell ⟨w.heap.size, 9, none⟩ (.slice none 0 0)).heap[w.heap.size]? = some (.cells (sesU r o p t k n v q m (.slice none 0 0)) 29 (0, 0)) from heap_setCell_same w1 w.heap.size 9 _ _ (.slice none 0 0) HX.out.1) (And.intro ((heap_setCell_other w1 ⟨w.heap.size, 9, none⟩ (w.heap.size + 1) (.slice none 0 0) (by simp)).trans HX.out.2.1) (HX.out.2.2.setCell (p := ⟨w.heap.size, 9, none⟩) (Nat.le_refl _) (.slice none 0 0))))
    generalize w1.setCell ⟨w.heap.size, 9, none⟩ (.slice none 0 0) = w5 at HY ⊢
    go_wp2_with (first
      | (with_reducible refine wpList_load_row (o := ⟨some 8, _, _, _, _, _⟩) rfl 29 _ rfl w.heap.size rfl 29 (sesU r o p t k n v q m (.slice none 0 0)) (0, 0) _ HY.out.1 Try.underlying29 rfl (szSU r o p t k n v q m (.slice none 0 0)) ?_)
      | ((with_reducible refine wpList_store_row' (o := ⟨none, .store 29 _ _, _, _, _, _⟩) rfl 29 _ _ rfl (w.heap.size + 1) (sesU r o p t k n v q m (.slice none 0 0)) rfl rfl 29 sesZu HY.out.2.1 (szSU r o p t k n v q m (.slice none 0 0)) rfl (sesUone r o p t k n v q m none 0 0) ?_); intro w6 hw6 hsw6 hgw6)
      | fail)
    refine bodyPost_ret (v := .agg (sesU r o p t k n v q m (.slice none 0 0))) (results_cell_row Try.results14 _ _ (w.heap.size + 1) 29 _ (0, 0) _ rfl hw6 Try.underlying29 rfl (szSU _ _ _ _ _ _ _ _ _ _)) rfl ⟨rfl, ?_⟩
    exact HY.out.2.2.grown hgw6 HY.out.2.2.size (fun k hk => by have := Option.some.inj hk; omega)

set_option maxHeartbeats 4000000 in
theorem forget_s (r o p t k : ByteArray) (n v : Int) (q : ByteArray) (m : Int) (u : Value) (K : List SkipT) (w : World) (h : SkipsAt 0 u K w) (hm : K.length ≤ 1048576) :
    Calls Try.prog 13 #[.agg (sesU r o p t k n v q m u)] w fun e w' => e = .returned (.agg (fgV (sesB r o p t k n v q m K) r o p t k n v q m)) ∧ Below w.heap.size w w' := by
  obtain ⟨hB0, hx0, hr0⟩ := boxes2 w (.cells (sesU r o p t k n v q m u) 29) (.cells sesZu 29) _ (Below.refl _ _)
  have C := Lib.hid (sesOk_s r o p t k n v q m u K _ (h.below hB0) hm)
  obtain ⟨pu, cu, rfl, _⟩ := h.open
  have HX := Lib.hid (And.intro hx0 (And.intro hr0 hB0))
  clear h hB0 hx0 hr0
  obtain ⟨R, hR⟩ : ∃ R, sesB r o p t k n v q m K = R := ⟨_, rfl⟩
  rw [hR] at C ⊢
  clear hR
  go_enter Try.func13, Try.ntmps13
  go_wp2_with (first | (with_reducible refine wpList_load_row (o := ⟨some 3, _, _, _, _, _⟩) rfl 29 _ rfl w.heap.size rfl 29 (sesU r o p t k n v q m (.slice pu K.length cu)) (0, 0) _ HX.out.1 Try.underlying29 rfl (szSU r o p t k n v q m (.slice pu K.length cu)) ?_) | fail)
  refine C.out.mono ?_
  rintro e w1 ⟨rfl, hb⟩
  have HX := Lib.hid (And.intro ((hb.block _ (Array.getElem?_eq_some_iff.1 HX.out.1).1).trans HX.out.1) (And.intro ((hb.block _ (Array.getElem?_eq_some_iff.1 HX.out.2.1).1).trans HX.out.2.1) (HX.out.2.2.trans (hb.mono HX.out.2.2.size))))
  clear hb C
  cases R with
  | false =>
    have hbz := fun w' => bSesZ w'
    go_wp2_with (first | ((with_reducible refine wpList_store_row' (o := ⟨none, .store 29 _ _, _, _, _, _⟩) rfl 29 _ _ rfl (w.heap.size + 1) sesZu rfl rfl 29 sesZu HX.out.2.1 (szSU _ _ _ _ _ _ _ _ _ _) rfl (sesUone _ _ _ _ _ _ _ _ _ none 0 0) ?_); intro w6 hw6 hsw6 hgw6) | fail)
    refine bodyPost_ret (v := .agg sesZu) (results_cell_row Try.results13 _ _ (w.heap.size + 1) 29 _ (0, 0) _ rfl hw6 Try.underlying29 rfl (szSU _ _ _ _ _ _ _ _ _ _)) rfl ⟨rfl, ?_⟩
    exact HX.out.2.2.grown hgw6 HX.out.2.2.size (fun k hk => by have := Option.some.inj hk; omega)
  | true =>
    obtain ⟨⟨c0, c1, c2, c3, c4, c5, c6, c7, c8, c9⟩, cf⟩ := ses_cells HX.out.1
    have cf9 := cf 9
    clear cf
    go_upto_region 4 with (fail)
    clear c0 c1 c2 c3 c4 c5 c6 c7 c8 c9 cf9
    have HY := Lib.hid (And.intro (show (w1.setCell ⟨w.heap.size, 9, none⟩ (.slice none 0 0)).heap[w.heap.size]? = some (.cells (sesU r o p t k n v q m (.slice none 0 0)) 29 (0, 0)) from heap_setCell_same w1 w.heap.size 9 _ _ (.slice none 0 0) HX.out.1) (And.intro ((heap_setCell_other w1 ⟨w.heap.size, 9, none⟩ (w.heap.size + 1) (.slice none 0 0) (by simp)).trans HX.out.2.1) (HX.out.2.2.setCell (p := ⟨w.heap.size, 9, none⟩) (Nat.le_refl _) (.slice none 0 0))))
    generalize w1.setCell ⟨w.heap.size, 9, none⟩ (.slice none 0 0) = w5 at HY ⊢
    go_wp2_with (first
      | (with_reducible refine wpList_load_row (o := ⟨some 8, _, _, _, _, _⟩) rfl 29 _ rfl w.heap.size rfl 29 (sesU r o p t k n v q m (.slice none 0 0)) (0, 0) _ HY.out.1 Try.underlying29 rfl (szSU r o p t k n v q m (.slice none 0 0)) ?_)
      | ((with_reducible refine wpList_store_row' (o := ⟨none, .store 29 _ _, _, _, _, _⟩) rfl 29 _ _ rfl (w.heap.size + 1) (sesU r o p t k n v q m (.slice none 0 0)) rfl rfl 29 sesZu HY.out.2.1 (szSU r o p t k n v q m (.slice none 0 0)) rfl (sesUone r o p t k n v q m none 0 0) ?_); intro w6 hw6 hsw6 hgw6)
      | fail)
    refine bodyPost_ret (v := .agg (sesU r o p t k n v q m (.slice none 0 0))) (results_cell_row Try.results13 _ _ (w.heap.size + 1) 29 _ (0, 0) _ rfl hw6 Try.underlying29 rfl (szSU _ _ _ _ _ _ _ _ _ _)) rfl ⟨rfl, ?_⟩
    exact HY.out.2.2.grown hgw6 HY.out.2.2.size (fun k hk => by have := Option.some.inj hk; omega)

/-- The argument is compared with what it was. -/
structure EqJ (W1 : World) (r o p t k : ByteArray) (n v : Int) (q : ByteArray) (m : Int) (u x : Value) (K : List SkipT) (f : Nat → Value) (L : Nat → Bool) (w : World) : Prop where
  G : Below W1.heap.size W1 w
  f0 : L 0 = true → f 0 = .agg (sesU r o p t k n v q m x)
  f1 : L 1 = true → f 1 = .agg (sesU r o p t k n v q m u)
  f2 : L 2 = true → ∃ y, f 2 = .agg (sesU r o p t k n v q m y) ∧ SkipsAt 0 y K w
  f3 : L 3 = true → f 3 = .bool true
  f4 : L 4 = true → f 4 = .bool false
theorem EqJ.grow {W1 : World} {r o p t k : ByteArray} {n v : Int} {q : ByteArray} {m : Int} {u x : Value} {K : List SkipT} {f : Nat → Value} {L : Nat → Bool} {w w' : World} (h : EqJ W1 r o p t k n v q m u x K f L w) (hb : Below w.heap.size w w') : EqJ W1 r o p t k n v q m u x K f L w' :=
  ⟨h.G.trans (hb.mono h.G.size), h.f0, h.f1, (fun a => by obtain ⟨y, e, hy⟩ := h.f2 a; exact ⟨y, e, hy.below hb⟩), h.f3, h.f4⟩
theorem notS (w : World) : (Op.unary .not (.bool true)).run Try.prog w = .ok (.bool false) w := by kernel_rfl
theorem cfToSession (args : Array Value) (w : World) : (callFunc 10 args).run Try.prog w = .ok (.enter 10 args) w := cf_of Try.func10 (by kernel_rfl) (by kernel_rfl) args w
theorem cfEqSession (args : Array Value) (w : World) : (callFunc 12 args).run Try.prog w = .ok (.enter 12 args) w := cf_of Try.func12 (by kernel_rfl) (by kernel_rfl) args w
theorem argsT2' {a : Act} {k l : Tmp} {y z : Value} (h : a.eval (.tmp k) = y) (h2 : a.eval (.tmp l) = z) : #[Operand.tmp k, .tmp l].map a.eval = #[y, z] := by simp only [List.map_toArray, List.map_cons, List.map_nil, h, h2]

end Go.Proofs.Ytkglgficmealnaa

/- What is drawn of a message: bounds alone. -/
import Derived.Test.YtmekpinhhmknnaaDoorDrawM
import Derived.Deep.Cut
import Derived.Laws.Rows
namespace Go.Proofs.YtmekpinhhmknnaaDoor
open Go.RowKit Go.My Go.Lib
set_option linter.unusedVariables false
set_option maxRecDepth 100000

abbrev made32 : Obj := .cells (madeCells #[.int .u8 0] 32) 5 (0, 0)
theorem conv_madeK (k : Nat) (w' : World) (n : Nat) (hn : n ≤ 1048576) (h : w'.heap[k]? = some (.cells (madeCells #[.int .u8 0] n) 5 (0, 0))) :
    (convert 51 9 (.slice (some ⟨k, 0, none⟩) n n)).run Tryd.prog w' = .ok (.string (str (List.replicate n 0))) w' := by
  refine run_convert_own (P := Tryd.prog) w' 51 9 5 k n _ _ Tryd.underlying51 Tryd.underlying5 Tryd.underlying9 ?_
  have hs : (madeCells #[Value.int .u8 0] n).size = n := by rw [← Array.length_toList, toList_madeCells_one, List.length_replicate]
  refine ⟨by rw [cellsOf_length, List.length_replicate]; omega, .inr ⟨k, n, _, rfl, Nat.le_refl _, h, Nat.le_refl _, by unfold maxLen; omega, by rw [hs]; omega, ?_⟩⟩
  rw [toList_madeCells_one, ← fill_start]
  exact List.take_of_length_le (by rw [List.length_replicate]; omega)
theorem cfHead (args : Array Value) (w : World) : (callFunc 98 args).run Tryd.prog w = .ok (.enter 98 args) w := cf_of Tryd.func98 (by kernel_rfl) (by kernel_rfl) args w
theorem cfBytes (args : Array Value) (w : World) : (callFunc 99 args).run Tryd.prog w = .ok (.enter 99 args) w := cf_of Tryd.func99 (by kernel_rfl) (by kernel_rfl) args w
abbrev MsgB4 (p : ByteArray) (a b : Int) (s : ByteArray) : Prop := p.size ≤ 40 ∧ wfI a ∧ wfI b ∧ s.size ≤ 52
structure InvM (B g : Nat) (w00 : World) (v : Nat → Value) (L : Nat → Bool) (w : World) : Prop where
  R : Rd B w g
  G : w00.grownBy w (some g)
  v0 : L 0 = true → v 0 = .pointer (some ⟨g, 0, none⟩)
  v1 : L 1 = true → ∃ p a b, v 1 = .agg (headA p a b) ∧ p.size ≤ 40 ∧ wfI a ∧ wfI b
  v2 : L 2 = true → v 2 = .pointer (some ⟨g, 0, none⟩)
  v3 : L 3 = true → ∃ s : ByteArray, v 3 = .string s ∧ s.size ≤ 20
  v4 : L 4 = true → L 5 = false → ∃ k, v 4 = .slice (some ⟨k, 0, none⟩) 32 32 ∧ k ≠ g ∧ w.heap[k]? = some made32
  v5 : L 5 = true → ∃ s : ByteArray, v 5 = .string s ∧ s.size ≤ 32
  v6 : L 6 = true → L 5 = true ∧ ∃ s : ByteArray, v 6 = .string s ∧ s.size ≤ 52
  v7 : L 7 = true → L 6 = true ∧ ∃ p a b s, v 7 = .agg (msgA p a b s) ∧ MsgB4 p a b s
  v8 : L 8 = true → ∃ k cs, v 8 = .pointer (some ⟨k, 0, none⟩) ∧ k ≠ g ∧ w00.heap.size ≤ k ∧ cs.size = 4 ∧ w.heap[k]? = some (.cells cs 42 (0, 0)) ∧ (L 9 = true → ∃ p a b s, cs = msgA p a b s ∧ MsgB4 p a b s)
  v9 : L 9 = true → L 8 = true
/-- The world grows, the reader's block turned on. -/
theorem InvM.grow {B g : Nat} {w00 : World} {v : Nat → Value} {L : Nat → Bool} {w w' : World} (h : InvM B g w00 v L w) (hR : Rd B w' g) (hg : w.grownBy w' (some g)) : InvM B g w00 v L w' where
  R := hR
  G := grown_trans h.G hg
  v0 := h.v0
  v1 := h.v1
  v2 := h.v2
  v3 := h.v3
  v4 := fun a b => by
    obtain ⟨k, e, hk, hb⟩ := h.v4 a b
    exact ⟨k, e, hk, (hg.block k (Array.getElem?_eq_some_iff.1 hb).1 (fun c => hk (Option.some.inj c))).trans hb⟩
  v5 := h.v5
  v6 := h.v6
  v7 := h.v7
  v8 := fun a => by
    obtain ⟨k, cs, e, hk, h0, hz, hb, hc⟩ := h.v8 a
    exact ⟨k, cs, e, hk, h0, hz, (hg.block k (Array.getElem?_eq_some_iff.1 hb).1 (fun c => hk (Option.some.inj c))).trans hb, hc⟩
  v9 := h.v9
theorem grown_new {u V W : World} {r : Option Nat} {k : Nat} (h : u.grownBy V r) (hg : V.grownBy W (some k)) (hk : u.heap.size ≤ k) : u.grownBy W r :=
  ⟨hg.os.trans h.os, hg.tape.trans h.tape, hg.output.trans h.output, Nat.le_trans h.size hg.size, fun i hi hr => (hg.block i (Nat.lt_of_lt_of_le hi h.size) (fun e => by have := Option.some.inj e; omega)).trans (h.block i hi hr)⟩
theorem BlkAt.hN {k : Nat} {cs : Array Value} {T : TypeId} {W : World} (h : BlkAt k cs T W) : W.heap[k]? = some (.cells cs T (0, 0)) := h
theorem msgSz (p : ByteArray) (a b : Int) (s : ByteArray) : (Tryd.prog.info? 42).map (·.size) = some (msgA p a b s).size := by kernel_rfl
theorem msgOne (p : ByteArray) (a b : Int) (s : ByteArray) : (msgA p a b s).all (·.oneCell') = true := by kernel_rfl
theorem bMsg2 (p : ByteArray) (a b : Int) (s : ByteArray) (w : World) : (Instr.build 42 #[(0, .agg (headA p a b)), (1, .string s)]).run Tryd.prog w = .ok (.agg (msgA p a b s)) w := by kernel_rfl
theorem nMsg (w : World) : (Instr.alloc 42 true (.tuple #[])).run Tryd.prog w = .ok (.pointer (some ⟨w.heap.size, 0, none⟩)) (w.alloc (.cells #[.string ⟨#[]⟩, .int .i64 0, .int .i64 0, .string ⟨#[]⟩] 42)) := by simp [Instr.alloc, go_sem]

theorem addS (a b : ByteArray) (k l : Operand) (h : a.size + b.size ≤ 1000000) (w : World) : (do eqGuard .add 9 k l (.string a) (.string b); binOp .add 9 (.string a) (.string b) : Sem Value).run Tryd.prog w = .ok (.string (a ++ b)) w := by
  have h' : ¬ 9223372036854775807 < a.size + b.size := by omega
  simp [eqGuard, binOp, go_sem, h']

set_option maxHeartbeats 4000000 in
theorem msg_any (B g : Nat) (w : World) (h : Rd B w g) : Calls Tryd.prog 82 #[.pointer (some ⟨g, 0, none⟩)] w (DrawnMsg B g w) := by
  go_enter Tryd.func82, Tryd.ntmps82
  have hlt := h.lt
  have hB0 : B ≤ w.heap.size := h.2.1
  have hBw : B ≤ (w.alloc (.cells #[.string ⟨#[]⟩, .int .i64 0, .int .i64 0, .string ⟨#[]⟩] 42)).heap.size := by simp; omega
  go_upto_region 1 with (fail)
  refine region_invL 10 [some 4, some 5, some 6, some 7, some 8, some 9, some 10, some 11, some 3, none] (InvM B g (w.alloc (.cells #[.string ⟨#[]⟩, .int .i64 0, .int .i64 0, .string ⟨#[]⟩] 42))) (by kernel_rfl) rfl (by kernel_rfl) (by kernel_rfl) (by kernel_rfl) ?_ ?_ ?_
  · exact ⟨h.alloc _, ⟨rfl, rfl, rfl, Nat.le_refl _, fun _ _ _ => rfl⟩, (fun h => by cases h), (fun h => by cases h), (fun h => by cases h), (fun h => by cases h), (fun h _ => by cases h), (fun h => by cases h), (fun h => by cases h), (fun h => by cases h), (fun h => by cases h), (fun h => by cases h)⟩
  · intro i o v L w1 hoi hL hI hdep
    have hi : i < 10 := (Array.getElem?_eq_some_iff.1 hoi).1
    have hc : i = 0 ∨ i = 1 ∨ i = 2 ∨ i = 3 ∨ i = 4 ∨ i = 5 ∨ i = 6 ∨ i = 7 ∨ i = 8 ∨ i = 9 := by omega
    rcases hc with rfl | rfl | rfl | rfl | rfl | rfl | rfl | rfl | rfl | rfl
    · obtain rfl := Option.some.inj hoi
      refine ⟨rfl, wpMoveT rfl (at_old (by kernel_rfl)) ⟨_, rfl, ?_⟩⟩
      exact ⟨hI.R, hI.G, fun _ => rfl, hI.v1, hI.v2, hI.v3, hI.v4, hI.v5, hI.v6, hI.v7, hI.v8, hI.v9⟩
    · obtain rfl := Option.some.inj hoi
      refine ⟨rfl, wpCallT rfl cfHead (argsT1 ((at_new (by kernel_rfl) 0 (Nat.le_of_ble_eq_true rfl) rfl (by decide) (hdep 0 (dep_of (by kernel_rfl)))).trans (hI.v0 (hdep 0 (dep_of (by kernel_rfl)))))) ((head_any B g _ hI.R).mono ?_)⟩
      rintro e w2 ⟨p, a, b, rfl, hb, hR, hg⟩
      have hI := hI.grow hR hg
      exact ⟨_, rfl, _, rfl, ⟨hI.R, hI.G, hI.v0, fun _ => ⟨p, a, b, rfl, hb⟩, hI.v2, hI.v3, hI.v4, hI.v5, hI.v6, hI.v7, hI.v8, hI.v9⟩⟩
    · obtain rfl := Option.some.inj hoi
      refine ⟨rfl, wpMoveT rfl (at_old (by kernel_rfl)) ⟨_, rfl, ?_⟩⟩
      exact ⟨hI.R, hI.G, hI.v0, hI.v1, fun _ => rfl, hI.v3, hI.v4, hI.v5, hI.v6, hI.v7, hI.v8, hI.v9⟩
    · obtain rfl := Option.some.inj hoi
      refine ⟨rfl, wpCallT rfl cfBytes (argsT1c ((at_new (by kernel_rfl) 2 (Nat.le_of_ble_eq_true rfl) rfl (by decide) (hdep 2 (dep_of (by kernel_rfl)))).trans (hI.v2 (hdep 2 (dep_of (by kernel_rfl)))))) ((bytes_any B g 20 _ hI.R (by omega)).mono ?_)⟩
      rintro e w2 ⟨s, rfl, hb, hR, hg⟩
      have hI := hI.grow hR hg
      exact ⟨_, rfl, _, rfl, ⟨hI.R, hI.G, hI.v0, hI.v1, hI.v2, fun _ => ⟨s, rfl, hb⟩, hI.v4, hI.v5, hI.v6, hI.v7, hI.v8, hI.v9⟩⟩
    · obtain rfl := Option.some.inj hoi
      have hI2 := hI.grow (hI.R.alloc made32) (World.grownBy_alloc w1 made32 _)
      have hlt := hI.R.lt
      refine ⟨rfl, wpMakeT (w' := w1.alloc made32) rfl (Go.run_make_row' (P := Tryd.prog) 51 5 (.int .u8 0) 1 Tryd.underlying51 info_u8t rfl .i64 .i64 32 (by omega) (by omega) w1) ⟨_, rfl, ?_⟩⟩
      exact ⟨hI2.R, hI2.G, hI2.v0, hI2.v1, hI2.v2, hI2.v3, fun _ _ => ⟨w1.heap.size, rfl, by omega, heap_alloc_new w1 _⟩, hI2.v5, hI2.v6, hI2.v7, hI2.v8, hI2.v9⟩
    · obtain rfl := Option.some.inj hoi
      obtain ⟨k, ek, hk, hb⟩ := hI.v4 (hdep 4 (dep_of (by kernel_rfl))) hL
      refine ⟨rfl, wpConvT rfl ((at_new (by kernel_rfl) 4 (Nat.le_of_ble_eq_true rfl) rfl (by decide) (hdep 4 (dep_of (by kernel_rfl)))).trans ek) (conv_madeK k w1 32 (by omega) hb) ⟨_, rfl, ?_⟩⟩
      exact ⟨hI.R, hI.G, hI.v0, hI.v1, hI.v2, hI.v3, (fun _ h => by cases h), fun _ => ⟨_, rfl, by rw [str_size, List.length_replicate]; omega⟩, fun h => ⟨rfl, (hI.v6 h).2⟩, hI.v7, hI.v8, hI.v9⟩
    · obtain rfl := Option.some.inj hoi
      obtain ⟨s, es, hs⟩ := hI.v3 (hdep 3 (dep_of (by kernel_rfl)))
      obtain ⟨z, ez, hz⟩ := hI.v5 (hdep 5 (dep_of (by kernel_rfl)))
      refine ⟨rfl, wpBinT rfl ((at_new (by kernel_rfl) 3 (Nat.le_of_ble_eq_true rfl) rfl (by decide) (hdep 3 (dep_of (by kernel_rfl)))).trans es) ((at_new (by kernel_rfl) 5 (Nat.le_of_ble_eq_true rfl) rfl (by decide) (hdep 5 (dep_of (by kernel_rfl)))).trans ez) (addS s z _ _ (by omega) w1) ⟨_, rfl, ?_⟩⟩
      exact ⟨hI.R, hI.G, hI.v0, hI.v1, hI.v2, hI.v3, hI.v4, hI.v5, fun _ => ⟨(hdep 5 (dep_of (by kernel_rfl))), _, rfl, by rw [ByteArray.size_append]; omega⟩, fun h => ⟨rfl, (hI.v7 h).2⟩, hI.v8, hI.v9⟩
    · obtain rfl := Option.some.inj hoi
      obtain ⟨p, a, b, eh, hh⟩ := hI.v1 (hdep 1 (dep_of (by kernel_rfl)))
      obtain ⟨_, s, es, hs⟩ := hI.v6 (hdep 6 (dep_of (by kernel_rfl)))
      refine ⟨rfl, wpBuildT rfl ((at_new (by kernel_rfl) 1 (Nat.le_of_ble_eq_true rfl) rfl (by decide) (hdep 1 (dep_of (by kernel_rfl)))).trans eh) ((at_new (by kernel_rfl) 6 (Nat.le_of_ble_eq_true rfl) rfl (by decide) (hdep 6 (dep_of (by kernel_rfl)))).trans es) (bMsg2 p a b s w1) ⟨_, rfl, ?_⟩⟩
      exact ⟨hI.R, hI.G, hI.v0, hI.v1, hI.v2, hI.v3, hI.v4, hI.v5, hI.v6, fun _ => ⟨(hdep 6 (dep_of (by kernel_rfl))), p, a, b, s, rfl, hh.1, hh.2.1, hh.2.2, hs⟩, hI.v8, hI.v9⟩
    · obtain rfl := Option.some.inj hoi
      have hI2 := hI.grow (hI.R.alloc (.cells #[.string ⟨#[]⟩, .int .i64 0, .int .i64 0, .string ⟨#[]⟩] 42)) (World.grownBy_alloc w1 _ _)
      have hlt := hI.R.lt
      have hsz := hI.G.size
      have n9 : L 9 = false := by cases h : L 9 with | false => rfl | true => have := hI.v9 h; rw [hL] at this; cases this
      refine ⟨rfl, wpAllocT (w' := w1.alloc (.cells #[.string ⟨#[]⟩, .int .i64 0, .int .i64 0, .string ⟨#[]⟩] 42)) rfl (nMsg w1) ⟨_, rfl, ?_⟩⟩
      exact ⟨hI2.R, hI2.G, hI2.v0, hI2.v1, hI2.v2, hI2.v3, hI2.v4, hI2.v5, hI2.v6, hI2.v7, fun _ => ⟨w1.heap.size, #[.string ⟨#[]⟩, .int .i64 0, .int .i64 0, .string ⟨#[]⟩], rfl, by omega, hsz, rfl, heap_alloc_new w1 _, (fun h => by have h : L 9 = true := h; rw [n9] at h; cases h)⟩, (fun h => by have h : L 9 = true := h; rw [n9] at h; cases h)⟩
    · obtain rfl := Option.some.inj hoi
      obtain ⟨k, cs, ek, hk, h0, hz, hb, _⟩ := hI.v8 (hdep 8 (dep_of (by kernel_rfl)))
      obtain ⟨l6, p, a, b, s, em, hm⟩ := hI.v7 (hdep 7 (dep_of (by kernel_rfl)))
      have l5 := (hI.v6 l6).1
      refine ⟨rfl, wpStoreT rfl ((at_new (by kernel_rfl) 8 (Nat.le_of_ble_eq_true rfl) rfl (by decide) (hdep 8 (dep_of (by kernel_rfl)))).trans ek) ((at_new (by kernel_rfl) 7 (Nat.le_of_ble_eq_true rfl) rfl (by decide) (hdep 7 (dep_of (by kernel_rfl)))).trans em) hb (msgSz p a b s) hz (msgOne p a b s) ⟨_, rfl, ?_⟩⟩
      have hg : w1.grownBy (w1.setRow k (msgA p a b s)) (some k) := ⟨rfl, rfl, rfl, by simp, fun q _ hq => setRow_other w1 k q _ (fun e => hq (by rw [e]))⟩
      have hR := hI.R.kept hg (fun e => hk (Option.some.inj e)) (fun q hq => by have := Option.some.inj hq; have := hBw; omega)
      have hG : (w.alloc (.cells #[.string ⟨#[]⟩, .int .i64 0, .int .i64 0, .string ⟨#[]⟩] 42)).grownBy (w1.setRow k (msgA p a b s)) (some g) := ⟨hI.G.os, hI.G.tape, hI.G.output, by have := hI.G.size; simpa using this, fun q hq hn => (setRow_other w1 k q _ (by omega)).trans (hI.G.block q hq hn)⟩
      exact ⟨hR, hG, hI.v0, hI.v1, hI.v2, hI.v3, (fun _ h => by have h : L 5 = false := h; rw [l5] at h; cases h), hI.v5, hI.v6, hI.v7, fun _ => ⟨k, msgA p a b s, ek, hk, h0, rfl, setRow_heap w1 k cs _ _ (0, 0) hb, fun _ => ⟨p, a, b, s, rfl, hm⟩⟩, fun _ => (hdep 8 (dep_of (by kernel_rfl)))⟩
  intro v x1 hI
  obtain ⟨k, cs, ek, ko, hk0, _, hb, hc⟩ := hI.v8 rfl
  obtain ⟨p, a, b, s, rfl, hp, wa0, wb, hs⟩ := hc rfl
  have hR := hI.R
  have hG := grown_trans (World.grownBy_alloc w _ _) hI.G
  have o : BlkAt k (msgA p a b s) 42 x1 := hb
  have kq : w.heap.size ≠ g := by omega
  have q : BlkAt w.heap.size #[.string ⟨#[]⟩, .int .i64 0, .int .i64 0, .string ⟨#[]⟩] 42 x1 := BlkAt.grown hI.G kq (BlkAt.box w #[.string ⟨#[]⟩, .int .i64 0, .int .i64 0, .string ⟨#[]⟩] 42)
  have hk1 : w.heap.size + 1 ≤ k := by simpa using hk0
  have hqk : w.heap.size ≠ k := by omega
  have hqk2 : k ≠ w.heap.size := by omega
  have hkw : w.heap.size ≤ k := by omega
  have hkB : B ≤ k := by omega
  clear hI hc hb hk0 hk1
  simp only [putL, Nat.zero_add, Nat.reduceAdd, ek, Act.put, List.setIfInBounds_toArray, List.set_cons_zero, List.set_cons_succ]
  generalize v 0 = y0 at *
  generalize v 1 = y1 at *
  generalize v 2 = y2 at *
  generalize v 3 = y3 at *
  generalize v 4 = y4 at *
  generalize v 5 = y5 at *
  generalize v 6 = y6 at *
  generalize v 7 = y7 at *
  clear ek
  go_wp2_with fail
  refine (below_any B g 24 _ hR (by omega) (by omega)).mono ?_
  rintro e w4 ⟨n, rfl, hn0, hn1, hR, hg⟩
  have hG := grown_trans hG hg
  have q := q.grown hg kq
  have o := o.grown hg ko
  clear hg
  by_cases n0 : n = 0
  · subst n0
    go_wp2_with fail
    refine (bytes_any B g 33 _ hR (by omega)).mono ?_
    rintro e w5 ⟨y, rfl, hy, hR, hg⟩
    have hG := grown_trans hG hg
    have q := q.grown hg kq
    have o := o.grown hg ko
    clear hg
    have c3 := o.cell (j := 3) rfl
    have f3 := o.froz (j := 3)
    have oX : BlkAt k (msgA p a b y) 42 _ := o.set 3 (.string y)
    have qX := q.other (l := k) 3 (.string y) hqk
    have hRX := hR.setNew k 3 (.string y) ko hkB
    have hGX := grown_setNew hG k 3 (.string y) hkw
    go_wp2_with (first
      | (with_reducible refine wpList_load_row (o := ⟨some 27, _, _, _, _, _⟩) rfl 42 _ rfl k rfl 42 (msgA p a b y) (0, 0) _ oX.hN Tryd.underlying42 rfl (msgSz p a b y) ?_)
      | ((with_reducible refine wpList_store_row' (o := ⟨none, .store 42 _ _, _, _, _, _⟩) rfl 42 _ _ rfl w.heap.size (msgA p a b y) rfl rfl 42 #[.string ⟨#[]⟩, .int .i64 0, .int .i64 0, .string ⟨#[]⟩] qX.hN (msgSz p a b y) rfl (msgOne p a b y) ?_); intro wa hwa hsa hga)
      | fail)
    have qa : BlkAt w.heap.size (msgA p a b y) 42 wa := hwa
    have d0 := qa.cell (j := 0) rfl
    have d1 := qa.cell (j := 1) rfl
    have d2 := qa.cell (j := 2) rfl
    have d3 := qa.cell (j := 3) rfl
    refine bodyPost_ret (v := .agg (msgA p a b y)) (by simp [results, Tryd.results82, go_sem, d0, d1, d2, d3]) rfl ?_
    exact ⟨_, _, _, _, rfl, ⟨hp, wa0, wb, by omega⟩, hRX.kept hga (fun e => kq (Option.some.inj e)) (fun j hj => by have := Option.some.inj hj; omega), grown_new hGX hga (Nat.le_refl _)⟩
  have e0 : (n == 0) = false := by simpa using n0
  by_cases n1 : n = 1
  · subst n1
    go_wp2_with fail
    refine (below_any B g 3 _ hR (by omega) (by omega)).mono ?_
    rintro e w5 ⟨m, rfl, hm0, hm1, hR, hg⟩
    have hG := grown_trans hG hg
    have q := q.grown hg kq
    have o := o.grown hg ko
    clear hg
    obtain ⟨r, rfl⟩ : ∃ r : Nat, m = (r : Int) := ⟨m.toNat, by omega⟩
    have hr : r < 3 := by omega
    have hri : (r : Int) < 3 := by omega
    have hww : IntKind.i64.wrap (431 + (r : Int)) = 431 + (r : Int) := IntWalk.i64_in _ (by omega)
    have hmk := fun W => Go.run_make_row' (P := Tryd.prog) 51 5 (.int .u8 0) 1 Tryd.underlying51 info_u8t rfl .i64 .i64 (431 + r) (by omega) (by omega) W
    simp only [show ((431 + r : Nat) : Int) = 431 + (r : Int) by omega] at hmk
    have hcv := conv_madeK w5.heap.size (w5.alloc (.cells (madeCells #[.int .u8 0] (431 + r)) 5)) (431 + r) (by omega) (heap_alloc_new w5 _)
    have hz : (str (List.replicate (431 + r) 0)).size ≤ 433 := by rw [str_size, List.length_replicate]; omega
    generalize str (List.replicate (431 + r) 0) = z at *
    have c3 := o.cell (j := 3) rfl
    have f3 := o.froz (j := 3)
    have lo := o.lt
    have oX : BlkAt k (msgA p a b z) 42 ((w5.setCell ⟨k, 3, none⟩ (.string z)).alloc (.cells (madeCells #[.int .u8 0] (431 + r)) 5)) := BlkAt.past (o.set 3 (.string z)) _
    have qX := BlkAt.past (q.other (l := k) 3 (.string z) hqk) (.cells (madeCells #[.int .u8 0] (431 + r)) 5)
    have hRX := (hR.setNew k 3 (.string z) ko hkB).alloc (.cells (madeCells #[.int .u8 0] (431 + r)) 5)
    have hGX := grown_alloc (grown_setNew hG k 3 (.string z) hkw) (.cells (madeCells #[.int .u8 0] (431 + r)) 5)
    go_wp2_with (first
      | (with_reducible refine wpList_load_row (o := ⟨some 27, _, _, _, _, _⟩) rfl 42 _ rfl k rfl 42 (msgA p a b z) (0, 0) _ oX.hN Tryd.underlying42 rfl (msgSz p a b z) ?_)
      | ((with_reducible refine wpList_store_row' (o := ⟨none, .store 42 _ _, _, _, _, _⟩) rfl 42 _ _ rfl w.heap.size (msgA p a b z) rfl rfl 42 #[.string ⟨#[]⟩, .int .i64 0, .int .i64 0, .string ⟨#[]⟩] qX.hN (msgSz p a b z) rfl (msgOne p a b z) ?_); intro wa hwa hsa hga)
      | fail)
    have qa : BlkAt w.heap.size (msgA p a b z) 42 wa := hwa
    have d0 := qa.cell (j := 0) rfl
    have d1 := qa.cell (j := 1) rfl
    have d2 := qa.cell (j := 2) rfl
    have d3 := qa.cell (j := 3) rfl
    refine bodyPost_ret (v := .agg (msgA p a b z)) (by simp [results, Tryd.results82, go_sem, d0, d1, d2, d3]) rfl ?_
    exact ⟨_, _, _, _, rfl, ⟨hp, wa0, wb, hz⟩, hRX.kept hga (fun e => kq (Option.some.inj e)) (fun j hj => by have := Option.some.inj hj; omega), grown_new hGX hga (Nat.le_refl _)⟩
  have e1 : (n == 1) = false := by simpa using n1
  have oX := o
  have qX := q
  have hRX := hR
  have hGX := hG
  go_wp2_with (first
    | (with_reducible refine wpList_load_row (o := ⟨some 27, _, _, _, _, _⟩) rfl 42 _ rfl k rfl 42 (msgA p a b s) (0, 0) _ oX.hN Tryd.underlying42 rfl (msgSz p a b s) ?_)
    | ((with_reducible refine wpList_store_row' (o := ⟨none, .store 42 _ _, _, _, _, _⟩) rfl 42 _ _ rfl w.heap.size (msgA p a b s) rfl rfl 42 #[.string ⟨#[]⟩, .int .i64 0, .int .i64 0, .string ⟨#[]⟩] qX.hN (msgSz p a b s) rfl (msgOne p a b s) ?_); intro wa hwa hsa hga)
    | fail)
  have qa : BlkAt w.heap.size (msgA p a b s) 42 wa := hwa
  have d0 := qa.cell (j := 0) rfl
  have d1 := qa.cell (j := 1) rfl
  have d2 := qa.cell (j := 2) rfl
  have d3 := qa.cell (j := 3) rfl
  refine bodyPost_ret (v := .agg (msgA p a b s)) (by simp [results, Tryd.results82, go_sem, d0, d1, d2, d3]) rfl ?_
  exact ⟨_, _, _, _, rfl, ⟨hp, wa0, wb, by omega⟩, hRX.kept hga (fun e => kq (Option.some.inj e)) (fun j hj => by have := Option.some.inj hj; omega), grown_new hGX hga (Nat.le_refl _)⟩

end Go.Proofs.YtmekpinhhmknnaaDoor

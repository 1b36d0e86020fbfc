/- What is drawn of heads, messages and envelopes: bounds alone. -/
import Derived.Test.YtmekpinhhmknnaaDoorRdW
import Derived.Test.YtmekpinhhmknnaaDoorKey
import Derived.Test.YtmekpinhhmknnaaDoorText
import Derived.Test.YtmekpinhhmknnaaDoorHurt
import Derived.Test.YtmekpinhhmknnaaDoorDraw0
import Derived.Test.YtmekpinhhmknnaaDoorWireE
import Derived.Test.YtmekpinhhmknnaaDoorWireL
import Derived.Test.YtmekpinhhmknnaaDoorRegI
namespace Go.Proofs.YtmekpinhhmknnaaDoor
open Go.RowKit Go.My Go.Lib
set_option linter.unusedVariables false
set_option maxRecDepth 100000

theorem grown_setNew {w w' : World} {r : Option Nat} (h : w.grownBy w' r) (k j : Nat) (v : Value) (hk : w.heap.size ≤ k) : w.grownBy (w'.setCell ⟨k, j, none⟩ v) r :=
  ⟨h.os, h.tape, h.output, by simpa using h.size, fun i hi hr => (heap_setCell_other w' ⟨k, j, none⟩ i v (by show i ≠ k; omega)).trans (h.block i hi hr)⟩
theorem grown_alloc {w w' : World} {r : Option Nat} (h : w.grownBy w' r) (o : Obj) : w.grownBy (w'.alloc o) r :=
  ⟨h.os, h.tape, h.output, Nat.le_trans h.size (by simp), fun i hi hr => by
    have hs := h.size
    have : (w'.alloc o).heap[i]? = w'.heap[i]? := by
      show (w'.heap.push o)[i]? = _
      rw [Array.getElem?_push_lt (by omega)]
      rw [Array.getElem?_eq_getElem (by omega)]
    exact this.trans (h.block i hi hr)⟩
theorem Rd.setNew {B g : Nat} {w : World} (h : Rd B w g) (k j : Nat) (v : Value) (hk : k ≠ g) (hB : B ≤ k) : Rd B (w.setCell ⟨k, j, none⟩ v) g :=
  h.kept (r := some k) ⟨rfl, rfl, rfl, by simp, fun i hi hr => heap_setCell_other w ⟨k, j, none⟩ i v (fun e => hr (by rw [e]))⟩ (fun e => hk (Option.some.inj e)) (fun q hq => by rw [← Option.some.inj hq]; exact hB)
theorem BlkAt.grown {k g : Nat} {cs : Array Value} {T : TypeId} {V W : World} (hg : V.grownBy W (some g)) (hk : k ≠ g) (h : BlkAt k cs T V) : BlkAt k cs T W := (hg.block k h.lt (fun e => hk (Option.some.inj e))).trans h
def wfI (n : Int) : Prop := (Lit.int .i64 n).wf = true
theorem wfI_nat (n : Nat) (h : n ≤ 1000000) : wfI (n : Int) := wf_i64 _ (by omega) (by omega)
theorem wfI_mid {n : Int} (h0 : 0 ≤ n) (h : n ≤ 1000000) : wfI n := wf_i64 _ (by omega) (by omega)
def DrawnHead (B g : Nat) (w : World) (e : Ending) (w' : World) : Prop := ∃ (p : ByteArray) (a b : Int), e = .returned (.agg (headA p a b)) ∧ (p.size ≤ 40 ∧ wfI a ∧ wfI b) ∧ Rd B w' g ∧ w.grownBy w' (some g)
def DrawnMsg (B g : Nat) (w : World) (e : Ending) (w' : World) : Prop := ∃ (p : ByteArray) (a b : Int) (x : ByteArray), e = .returned (.agg (msgA p a b x)) ∧ (p.size ≤ 40 ∧ wfI a ∧ wfI b ∧ x.size ≤ 433) ∧ Rd B w' g ∧ w.grownBy w' (some g)
def DrawnEnv (B g : Nat) (w : World) (e : Ending) (w' : World) : Prop := ∃ (f t : Int) (z : Bool) (p q : ByteArray) (o : Int) (u : ByteArray) (a b : Int) (x : ByteArray), e = .returned (.agg (envA f t z p q o u a b x)) ∧ (wfI f ∧ wfI t ∧ p.size ≤ 40 ∧ q.size ≤ 40 ∧ wfI o ∧ u.size ≤ 40 ∧ wfI a ∧ wfI b ∧ x.size ≤ 433) ∧ Rd B w' g ∧ w.grownBy w' (some g)
theorem below_alloc (w : World) (o : Obj) : w.grownBy (w.alloc o) none := World.grownBy_alloc w o none

set_option maxHeartbeats 4000000 in
theorem head_any (B g : Nat) (w : World) (h : Rd B w g) : Calls Tryd.prog 98 #[.pointer (some ⟨g, 0, none⟩)] w (DrawnHead B g w) := by
  go_enter Tryd.func98, Tryd.ntmps98
  go_wp2_with fail
  have hlt := h.lt
  have hR := h.alloc (.cells #[.string ⟨#[]⟩, .int .i64 0, .int .i64 0] 40)
  have hG : w.grownBy (w.alloc (.cells #[.string ⟨#[]⟩, .int .i64 0, .int .i64 0] 40)) (some g) := World.grownBy_alloc w _ _
  have q := BlkAt.box w #[.string ⟨#[]⟩, .int .i64 0, .int .i64 0] 40
  have kq : w.heap.size ≠ g := by omega
  refine (key_any B g _ hR).mono ?_
  rintro e w1 ⟨p, rfl, hp, hR, hg⟩
  have hG := grown_trans hG hg
  have q := q.grown hg kq
  clear hg
  go_wp2_with fail
  refine (below_any B g 5 _ hR (by omega) (by omega)).mono ?_
  rintro e w2 ⟨a, rfl, ha0, ha1, hR, hg⟩
  have hG := grown_trans hG hg
  have q := q.grown hg kq
  clear hg
  go_wp2_with fail
  refine (below_any B g 9 _ hR (by omega) (by omega)).mono ?_
  rintro e w3 ⟨b, rfl, hb0, hb1, hR, hg⟩
  have hG := grown_trans hG hg
  have q := q.grown hg kq
  clear hg
  have hl3 := hR.lt
  have hs3 := hG.size
  have hB3 := hR.2.1
  go_wp2_with fail
  have hlq := q.lt
  have hqk : w.heap.size ≠ w3.heap.size := by omega
  have hqk2 : w3.heap.size ≠ w.heap.size := by omega
  clear hlq
  have o := BlkAt.box w3 (headA p a b) 40
  have q := q.past (.cells (headA p a b) 40)
  have hR := hR.alloc (.cells (headA p a b) 40)
  have hG := grown_alloc hG (.cells (headA p a b) 40)
  have ko : w3.heap.size ≠ g := by omega
  refine (below_any B g 16 _ hR (by omega) (by omega)).mono ?_
  rintro e w4 ⟨n, rfl, hn0, hn1, hR, hg⟩
  have hG := grown_trans hG hg
  have q := q.grown hg kq
  have o := o.grown hg ko
  clear hg
  have wa : wfI a := wfI_mid ha0 (by omega)
  have wb : wfI b := wfI_mid hb0 (by omega)
  clear ha0 ha1 hb0 hb1
  generalize w3.heap.size = k at *
  have hq0 : B ≤ w.heap.size := h.2.1
  have hk0 : w.heap.size ≤ k := hs3
  have hkB : B ≤ k := Nat.le_trans hq0 hk0
  by_cases n0 : n = 0
  · subst n0
    go_wp2_with fail
    refine (off_any B g 0 1000 _ hR (by omega) (by omega) (by omega)).mono ?_
    rintro e w5 ⟨y, rfl, hy, hR, hg⟩
    have hG := grown_trans hG hg
    have q := q.grown hg kq
    have o := o.grown hg ko
    clear hg
    have c1 := o.cell (j := 1) rfl
    have f1 := o.froz (j := 1)
    have c0 := o.cell (j := 0) rfl
    have c2 := o.cell (j := 2) rfl
    have d0 := q.cell (j := 0) rfl
    have d1 := q.cell (j := 1) rfl
    have d2 := q.cell (j := 2) rfl
    have g0 := q.froz (j := 0)
    have g1 := q.froz (j := 1)
    have g2 := q.froz (j := 2)
    go_wp2
    refine bodyPost_ret (v := .agg (headA p y b)) (by simp [results, Tryd.results98, go_sem, *]) rfl ?_
    refine ⟨_, _, _, rfl, ⟨hp, hy, wb⟩, ?_, ?_⟩
    · exact (((hR.setNew k 1 _ ko hkB).setNew _ 0 _ kq hq0).setNew _ 1 _ kq hq0).setNew _ 2 _ kq hq0
    · exact grown_setNew (grown_setNew (grown_setNew (grown_setNew hG k 1 _ hk0) _ 0 _ (Nat.le_refl _)) _ 1 _ (Nat.le_refl _)) _ 2 _ (Nat.le_refl _)
  have e0 : (n == 0) = false := by simpa using n0
  by_cases n1 : n = 1
  · subst n1
    go_wp2_with fail
    refine (off_any B g 0 1000 _ hR (by omega) (by omega) (by omega)).mono ?_
    rintro e w5 ⟨y, rfl, hy, hR, hg⟩
    have hG := grown_trans hG hg
    have q := q.grown hg kq
    have o := o.grown hg ko
    clear hg
    have c1 := o.cell (j := 1) rfl
    have f2 := o.froz (j := 2)
    have c0 := o.cell (j := 0) rfl
    have c2 := o.cell (j := 2) rfl
    have d0 := q.cell (j := 0) rfl
    have d1 := q.cell (j := 1) rfl
    have d2 := q.cell (j := 2) rfl
    have g0 := q.froz (j := 0)
    have g1 := q.froz (j := 1)
    have g2 := q.froz (j := 2)
    go_wp2
    refine bodyPost_ret (v := .agg (headA p a y)) (by simp [results, Tryd.results98, go_sem, *]) rfl ?_
    refine ⟨_, _, _, rfl, ⟨hp, wa, hy⟩, ?_, ?_⟩
    · exact (((hR.setNew k 2 _ ko hkB).setNew _ 0 _ kq hq0).setNew _ 1 _ kq hq0).setNew _ 2 _ kq hq0
    · exact grown_setNew (grown_setNew (grown_setNew (grown_setNew hG k 2 _ hk0) _ 0 _ (Nat.le_refl _)) _ 1 _ (Nat.le_refl _)) _ 2 _ (Nat.le_refl _)
  have e1 : (n == 1) = false := by simpa using n1
  have c0 := o.cell (j := 0) rfl
  have d0 := q.cell (j := 0) rfl
  have f0 := q.froz (j := 0)
  have c1 := o.cell (j := 1) rfl
  have d1 := q.cell (j := 1) rfl
  have f1 := q.froz (j := 1)
  have c2 := o.cell (j := 2) rfl
  have d2 := q.cell (j := 2) rfl
  have f2 := q.froz (j := 2)
  go_wp2
  refine bodyPost_ret (v := .agg (headA p a b)) (by simp [results, Tryd.results98, go_sem, *]) rfl ?_
  refine ⟨_, _, _, rfl, ⟨hp, wa, wb⟩, ?_, ?_⟩
  · exact ((hR.setNew _ 0 _ kq hq0).setNew _ 1 _ kq hq0).setNew _ 2 _ kq hq0
  · exact grown_setNew (grown_setNew (grown_setNew hG _ 0 _ (Nat.le_refl _)) _ 1 _ (Nat.le_refl _)) _ 2 _ (Nat.le_refl _)

end Go.Proofs.YtmekpinhhmknnaaDoor

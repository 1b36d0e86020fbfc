/- The contracts of the reader of draws (l1Rd): whatever is drawn lies in its range; only the reader's own block turns. -/
import Derived.Test.YtepefbfmjjnamaaRows
import Derived.Test.YtepefbfmjjnamaaMath1
import Derived.WalkKit
import Derived.ProofKit
import Derived.Lib.Hide
import Derived.Deep.AppendLies
import Derived.Deep.QuietTactic
import Derived.BigQuiet
import Derived.WalkSpells
import Derived.WalkLawsBesides
namespace Go.Proofs.Ytepefbfmjjnamaa
open Go.RowKit Go.My Go.Lib
set_option linter.unusedVariables false

theorem info_u8r : (Try.prog.info? 5).map (fun i => (i.zero, i.size, i.bytes)) = some (some (.int .u8 0), 1, 1) := by kernel_rfl

theorem grown_trans {a b c : World} {r : Option Nat} (h : a.grownBy b r) (k : b.grownBy c r) : a.grownBy c r :=
  ⟨k.os.trans h.os, k.tape.trans h.tape, k.output.trans h.output, Nat.le_trans h.size k.size, fun i hi hne => (k.block i (Nat.lt_of_lt_of_le hi h.size) hne).trans (h.block i hi hne)⟩
theorem grown_below {B g : Nat} {a b : World} (h : a.grownBy b (some g)) (hg : B ≤ g) (hB : B ≤ a.heap.size) : Below B a b :=
  ⟨h.os, h.tape, h.output, h.size, fun k hk => h.block k (by omega) (fun c => by have := Option.some.inj c; omega)⟩

/-- The code's bytes, below block B. -/
def RdCode (B : Nat) (w : World) (a : Option Addr) (len : Nat) : Prop :=
  len ≤ 1048576 ∧ (len = 0 ∨ ∃ b off, a = some ⟨b, off, none⟩ ∧ b < B ∧ ∀ i, i < len → ∃ n : Int, 0 ≤ n ∧ n ≤ 255 ∧ w.cell? ⟨b, off + i, none⟩ = some (.int .u8 n))
/-- Block g is a reader of such a code. -/
def Rd (B : Nat) (w : World) (g : Nat) : Prop :=
  B ≤ g ∧ B ≤ w.heap.size ∧ ∃ a len cap p, w.heap[g]? = some (.cells #[.slice a len cap, .int .i64 (p : Nat)] 112 (0, 0)) ∧ p ≤ len ∧ RdCode B w a len
theorem RdCode.below {B : Nat} {w w' : World} {a : Option Addr} {len : Nat} (h : RdCode B w a len) (hb : Below B w w') : RdCode B w' a len := by
  obtain ⟨h1, h2⟩ := h
  refine ⟨h1, ?_⟩
  rcases h2 with h2 | ⟨b, off, ha, hbb, hc⟩
  · exact .inl h2
  · refine .inr ⟨b, off, ha, hbb, fun i hi => ?_⟩
    obtain ⟨n, h0, h1, hn⟩ := hc i hi
    exact ⟨n, h0, h1, by rw [hb.cell (p := ⟨b, off + i, none⟩) hbb]; exact hn⟩
/-- What leaves the reader's block alone leaves the reader. -/
theorem Rd.kept {B g : Nat} {w w' : World} {r : Option Nat} (h : Rd B w g) (hg : w.grownBy w' r) (hr : r ≠ some g) (hr2 : ∀ k, r = some k → B ≤ k) : Rd B w' g := by
  obtain ⟨hB, hBs, a, len, cap, p, hh, hp, hc⟩ := h
  have hlt : g < w.heap.size := (Array.getElem?_eq_some_iff.1 hh).1
  have hbel : Below B w w' := ⟨hg.os, hg.tape, hg.output, hg.size, fun k hk => hg.block k (by omega) (fun c => by have := hr2 k c.symm; omega)⟩
  exact ⟨hB, Nat.le_trans hBs hg.size, a, len, cap, p, by rw [hg.block g hlt (fun c => hr c.symm)]; exact hh, hp, hc.below hbel⟩

theorem Rd.alloc {B g : Nat} {w : World} (h : Rd B w g) (o : Obj) : Rd B (w.alloc o) g := h.kept (World.grownBy_alloc w o none) (by simp) (by simp)
theorem Rd.drew {B g : Nat} {w : World} (h : Rd B w g) : Rd B w.drew g := h
theorem Rd.lt {B g : Nat} {w : World} (h : Rd B w g) : g < w.heap.size := by obtain ⟨_, _, a, len, cap, p, hh, _⟩ := h; exact (Array.getElem?_eq_some_iff.1 hh).1
theorem grown_drew {a b : World} {r : Option Nat} (h : a.grownBy b r) : a.grownBy b.drew r := ⟨h.os, h.tape, h.output, h.size, h.block⟩
theorem drew_grown {a b : World} {r : Option Nat} (h : a.drew.grownBy b r) : a.grownBy b r := ⟨h.os, h.tape, h.output, h.size, h.block⟩

/-- A byte has been read: the reader stands one further. -/
theorem Rd.turned {B g : Nat} {w : World} {a : Option Addr} {len cap p : Nat} (h : Rd B w g) (hp : p < len) (hh : w.heap[g]? = some (.cells #[.slice a len cap, .int .i64 (p : Nat)] 112 (0, 0))) :
    Rd B (w.setCell ⟨g, 1, none⟩ (.int .i64 ((p : Int) + 1))) g ∧ w.grownBy (w.setCell ⟨g, 1, none⟩ (.int .i64 ((p : Int) + 1))) (some g) := by
  obtain ⟨hB, hBs, a', len', cap', p', hh', hp', hc⟩ := h
  rw [hh] at hh'
  simp at hh'
  obtain ⟨⟨rfl, rfl, rfl⟩, hpp⟩ := hh'
  obtain rfl : p = p' := by omega
  have hg : w.grownBy (w.setCell ⟨g, 1, none⟩ (.int .i64 ((p : Int) + 1))) (some g) := ⟨rfl, rfl, rfl, by simp [World.setCell], fun k hk hne => Below.heap_setCell _ _ _ _ (fun c => hne (by rw [c]))⟩
  refine ⟨⟨hB, Nat.le_trans hBs hg.size, a, len, cap, p + 1, ?_, hp, hc.below (grown_below hg hB hBs)⟩, hg⟩
  have := heap_setCell_same w g 1 #[.slice a len cap, .int .i64 (p : Nat)] 112 (.int .i64 ((p : Int) + 1)) hh
  rw [this]
  simp

/-- A number in 0 .. N - 1 comes back; the reader's block alone has turned. -/
def Drawn (N : Int) (B g : Nat) (w : World) (e : Ending) (w' : World) : Prop :=
  ∃ n : Int, e = .returned (.int .i64 n) ∧ 0 ≤ n ∧ n < N ∧ Rd B w' g ∧ w.grownBy w' (some g)

theorem cell_of_two {w : World} {g : Nat} {x y : Value} {T : TypeId} (h : w.heap[g]? = some (.cells #[x, y] T (0, 0))) : w.cell? ⟨g, 0, none⟩ = some x ∧ w.cell? ⟨g, 1, none⟩ = some y ∧ w.frozen? ⟨g, 0, none⟩ = false ∧ w.frozen? ⟨g, 1, none⟩ = false := by
  refine ⟨?_, ?_, ?_, ?_⟩ <;> simp [World.cell?, World.frozen?, h]

set_option maxHeartbeats 1000000 in
theorem next_any (B g : Nat) (w : World) (h : Rd B w g) : Calls Try.prog 105 #[.pointer (some ⟨g, 0, none⟩)] w (Drawn 256 B g w) := by
  have hR := h
  obtain ⟨hB, hBs, a, len, cap, p, hh, hp, hlen, hc⟩ := h
  obtain ⟨c0, c1, f0, f1⟩ := cell_of_two hh
  by_cases hpl : p < len
  · rcases hc with hc | ⟨b, off, rfl, hbB, hc⟩
    · omega
    obtain ⟨n, hn0, hn1, hn⟩ := hc p hpl
    have hpl' : (p : Int) < (len : Int) := by omega
    have hlen' : (len : Int) ≤ 1048576 := by omega
    have hp0 : (0 : Int) ≤ (p : Int) := by omega
    have hbg : b ≠ g := by omega
    have R := hR.turned hpl hh
    clear hh hR
    go_enter Try.func105, Try.ntmps105
    go_wp2
    go_quiet (fail)
    go_wp2
    go_quiet (fail)
    go_wp2
    go_ret
    exact ⟨n, rfl, hn0, by omega, R.1, ⟨R.2.os, R.2.tape, R.2.output, R.2.size, R.2.block⟩⟩
  · have hpl' : (len : Int) ≤ (p : Int) := by omega
    go_enter Try.func105, Try.ntmps105
    go_wp2
    go_quiet (fail)
    go_wp2
    go_ret
    exact ⟨0, rfl, by omega, by omega, hR, ⟨rfl, rfl, rfl, Nat.le_refl _, fun _ _ _ => rfl⟩⟩

set_option maxHeartbeats 1000000 in
theorem below_any (B g : Nat) (n : Int) (w : World) (h : Rd B w g) (h1 : 1 ≤ n) (h2 : n ≤ 1048577) : Calls Try.prog 63 #[.pointer (some ⟨g, 0, none⟩), .int .i64 n] w (Drawn n B g w) := by
  by_cases hn1 : n ≤ 1
  · go_enter Try.func63, Try.ntmps63
    go_wp2
    go_ret
    exact ⟨0, rfl, by omega, by omega, h, World.grownBy.refl _ _⟩
  have hne : (n == 0) = false := by simp; omega
  by_cases hn2 : n ≤ 256
  · go_enter Try.func63, Try.ntmps63
    go_wp2_with fail
    refine (next_any B g _ h).mono ?_
    rintro e w1 ⟨x, rfl, hx0, hx1, hR1, hg1⟩
    go_wp2
    go_ret
    exact ⟨_, rfl, Int.emod_nonneg _ (by omega), Int.emod_lt_of_pos _ (by omega), hR1, hg1⟩
  · go_enter Try.func63, Try.ntmps63
    go_wp2_with fail
    refine (next_any B g _ h).mono ?_
    rintro e w1 ⟨x, rfl, hx0, hx1, hR1, hg1⟩
    go_wp2_with fail
    refine (next_any B g _ hR1).mono ?_
    rintro e w2 ⟨y, rfl, hy0, hy1, hR2, hg2⟩
    go_wp2
    go_ret
    exact ⟨_, rfl, Int.emod_nonneg _ (by omega), Int.emod_lt_of_pos _ (by omega), hR2, grown_trans hg1 hg2⟩

def DrawnBool (B g : Nat) (w : World) (e : Ending) (w' : World) : Prop := ∃ b : Bool, e = .returned (.bool b) ∧ Rd B w' g ∧ w.grownBy w' (some g)
theorem once_any (B g : Nat) (n : Int) (w : World) (h : Rd B w g) (h1 : 1 ≤ n) (h2 : n ≤ 1048577) : Calls Try.prog 69 #[.pointer (some ⟨g, 0, none⟩), .int .i64 n] w (DrawnBool B g w) := by
  go_enter Try.func69, Try.ntmps69
  go_wp2_with fail
  refine (below_any B g n _ h h1 h2).mono ?_
  rintro e w1 ⟨x, rfl, hx0, hx1, hR1, hg1⟩
  go_wp2
  go_ret
  exact ⟨_, rfl, hR1, hg1⟩

def DrawnStr (N : Nat) (B g : Nat) (w : World) (e : Ending) (w' : World) : Prop := ∃ s : ByteArray, e = .returned (.string s) ∧ s.size ≤ N ∧ Rd B w' g ∧ w.grownBy w' (some g)

/-- An append to a row of the call's own keeps the reader and turns nothing that was there but its block. -/
theorem Rd.append {B g : Nat} {w wr w2 : World} {o : Obj} {v : Value} {e n : Nat} {xs : List Value} {B2 : Nat} (hgr : w.grownBy wr (some g)) (hw : w.heap.size = B2) (hown : wr.ownsRow B2 e 1 v n xs) (hR : Rd B wr g) (hg : g < B2) (hgrow : (wr.alloc o).grownBy w2 v.ownBlock) : Rd B w2 g ∧ w.grownBy w2 (some g) := by
  have hB : B ≤ g := hR.1
  have ha := hR.kept (World.grownBy_alloc wr o none) (by simp) (by simp)
  refine ⟨ha.kept hgrow ?_ ?_, ?_⟩
  · intro c
    have := (hown.lt g c).1
    omega
  · intro k hk
    have := (hown.lt k hk).1
    omega
  · have h1 : w.grownBy (wr.alloc o) (some g) := grown_trans hgr (World.grownBy_alloc wr o _)
    refine ⟨hgrow.os.trans h1.os, hgrow.tape.trans h1.tape, hgrow.output.trans h1.output, Nat.le_trans h1.size hgrow.size, fun k hk hne => ?_⟩
    rw [hgrow.block k (Nat.lt_of_lt_of_le hk h1.size) (fun c => by have := (hown.lt k c.symm).1; omega), h1.block k hk hne]

set_option maxHeartbeats 1000000 in
theorem bytes_any (B g : Nat) (N : Nat) (w : World) (h : Rd B w g) (hN : N ≤ 100000) : Calls Try.prog 81 #[.pointer (some ⟨g, 0, none⟩), .int .i64 N] w (DrawnStr N B g w) := by
  obtain ⟨i0, hi, hz0, hz1, hz2⟩ := info_parts info_u8r
  have hN1 : (N : Int) ≤ 100000 := by omega
  have hg : g < w.heap.size := by obtain ⟨_, _, a, len, cap, p, hh, _⟩ := h; exact (Array.getElem?_eq_some_iff.1 hh).1
  go_enter Try.func81, Try.ntmps81
  go_wp2_with fail
  have hown : (w.alloc (.cells #[] 5)).ownsRow w.heap.size 5 1 (.slice (some ⟨w.heap.size, 0, none⟩) 0 0) 0 (cellsOf []) := World.ownsRow_lit w #[] 0 (Nat.le_refl _) (by unfold maxLen; omega) rfl
  refine (below_any B g _ _ (h.kept (World.grownBy_alloc w _ none) (by simp) (by simp)) (by omega) (by omega)).mono ?_
  rintro e w1 ⟨x, rfl, hx0, hx1, hR1, hg1⟩
  obtain ⟨X, rfl⟩ : ∃ X : Nat, x = X := ⟨x.toNat, by omega⟩
  have hg1' : w.grownBy w1 (some g) := grown_trans (World.grownBy_alloc w _ _) hg1
  have hown1 : w1.ownsRow w.heap.size 5 1 (.slice (some ⟨w.heap.size, 0, none⟩) 0 0) 0 (cellsOf []) := hown.kept hg1 (.inr (by simp [Value.ownBlock]; omega))
  clear hown hg1
  go_wp2
  go_loopw [5, 7] (fun v i wr => ∃ k : Nat, ∃ l : List UInt8, k ≤ X ∧ i = .int .i64 k ∧ wr.ownsRow w.heap.size 5 1 v k (cellsOf l) ∧ Rd B wr g ∧ w.grownBy wr (some g))
    (fun _ i _ => X - (intOf i).toNat)
  case atStart => exact ⟨0, [], Nat.zero_le _, rfl, hown1, hR1, hg1'⟩
  case round =>
    clear hown1 hR1 hg1'
    obtain ⟨k, l, hk, rfl, hown, hR, hgr⟩ := hrel
    by_cases hlt : k < X
    · have hk0 : (k : Int) < (X : Int) := by omega
      go_wp2_with fail
      refine (below_any B g _ _ hR (by omega) (by omega)).mono ?_
      rintro e w2 ⟨y, rfl, hy0, hy1, hR2, hg2⟩
      have hown2 : w2.ownsRow w.heap.size 5 1 u5 k (cellsOf l) := hown.kept hg2 (.inr (fun c => by have := (hown.lt g c).1; omega))
      have hgr2 := grown_trans hgr hg2
      clear hown hR hgr hg2
      go_wp2_with (at_builtin; refine wpList_append_lies _ rfl _ _ 22 rfl w.heap.size 5 i0 (.int .u8 0) 1 1 Try.underlying22 hi hz0 hz1 hz2 rfl (by decide) u5 k _ rfl (hown2.alloc _) ⟨w2.heap.size, 0, none⟩ 1 1 [_] rfl rfl (World.news_of_block (cs := #[_]) (t := 5) (fr := (0, 0)) (heap_alloc_new w2 _)) (by simp [Value.oneCell']) (by omega) (by unfold maxLen; omega) (by omega) (by have := hgr2.size; simp; omega) (w2.heap.size + 1) (by simp) ?_; intro g3 cap w3 hown3 hgrow3 hat hlt3)
      rw [byte_snoc l y hy0 hy1] at hown3
      have R := Rd.append hgr2 rfl hown2 hR2 hg hgrow3
      clear hown2 hgrow3 hR2 hgr2
      go_roundw
      case rel => exact ⟨k + 1, _, by omega, by go_num, hown3, R.1, R.2⟩
      case measure => simp [intOf]; omega
    · obtain rfl : k = X := by omega
      have hcv := run_convert_own (P := Try.prog) wr 22 9 5 _ _ _ _ Try.underlying22 Try.underlying5 Try.underlying9 hown
      have hl : l.length = k := by have := hown.1; rw [cellsOf_length] at this; omega
      have HL := Lib.hid hl
      clear hown hl
      go_wp2
      go_ret
      exact ⟨str l, rfl, by rw [str_size, HL.out]; omega, hR, hgr⟩

/-- A new reader. -/
theorem open_any (B : Nat) (a : Option Addr) (len cap : Nat) (w : World) (hB : B ≤ w.heap.size) (h : RdCode B w a len) :
    Calls Try.prog 52 #[.slice a len cap] w fun e w' => e = .returned (.pointer (some ⟨w.heap.size, 0, none⟩)) ∧ Rd B w' w.heap.size ∧ w.grownBy w' none := by
  go_enter Try.func52, Try.ntmps52
  go_wp2
  go_ret
  refine ⟨rfl, ⟨hB, by simp; omega, a, len, cap, 0, heap_alloc_new w _, Nat.zero_le _, h.below ((Below.refl _ _).alloc hB _)⟩, World.grownBy_alloc w _ _⟩

/-- Every case of a small range. -/
theorem four {n : Int} (h0 : 0 ≤ n) (h1 : n < 4) : n = 0 ∨ n = 1 ∨ n = 2 ∨ n = 3 := by omega

end Go.Proofs.Ytepefbfmjjnamaa

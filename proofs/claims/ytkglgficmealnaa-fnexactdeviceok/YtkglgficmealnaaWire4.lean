/- What an envelope is: by the program and by the specification. -/
import Derived.Test.YtkglgficmealnaaWire3
import Derived.Laws.Rows
namespace Go.Proofs.Ytkglgficmealnaa
open Go.RowKit Go.My Go.Lib
set_option linter.unusedVariables false

abbrev envA (f t : Int) (z : Bool) (p q : ByteArray) (o : Int) (u : ByteArray) (a b : Int) (s : ByteArray) : Array Value := #[.int .i64 f, .int .i64 t, .bool z, .string p, .string q, .int .i64 o, .string u, .int .i64 a, .int .i64 b, .string s]
def BlkAt (k : Nat) (cs : Array Value) (T : TypeId) (W : World) : Prop := W.heap[k]? = some (.cells cs T (0, 0))
theorem BlkAt.lt {k : Nat} {cs : Array Value} {T : TypeId} {W : World} (h : BlkAt k cs T W) : k < W.heap.size := (Array.getElem?_eq_some_iff.1 h).1
theorem BlkAt.below {k : Nat} {cs : Array Value} {T : TypeId} {V W : World} (hb : Below V.heap.size V W) (h : BlkAt k cs T V) : BlkAt k cs T W := (hb.block k h.lt).trans h
theorem BlkAt.cell {k j : Nat} {cs : Array Value} {T : TypeId} {W : World} {v : Value} (h : BlkAt k cs T W) (hj : cs[j]? = some v) : W.cell? ⟨k, j, none⟩ = some v := (cell_of_row W k j cs T (0, 0) h).trans hj
theorem BlkAt.froz {k j : Nat} {cs : Array Value} {T : TypeId} {W : World} (h : BlkAt k cs T W) : W.frozen? ⟨k, j, none⟩ = false := frozen_of_row W k j cs T h
theorem BlkAt.set {k : Nat} {cs : Array Value} {T : TypeId} {W : World} (h : BlkAt k cs T W) (j : Nat) (v : Value) : BlkAt k (cs.setIfInBounds j v) T (W.setCell ⟨k, j, none⟩ v) := heap_setCell_same W k j cs T v h
theorem BlkAt.other {k l : Nat} {cs : Array Value} {T : TypeId} {W : World} (h : BlkAt k cs T W) (j : Nat) (v : Value) (hk : k ≠ l) : BlkAt k cs T (W.setCell ⟨l, j, none⟩ v) := (heap_setCell_other W ⟨l, j, none⟩ k v hk).trans h
theorem BlkAt.box (w : World) (cs : Array Value) (T : TypeId) : BlkAt w.heap.size cs T (w.alloc (.cells cs T)) := heap_alloc_new w _
theorem BlkAt.past {k : Nat} {cs : Array Value} {T : TypeId} {W : World} (h : BlkAt k cs T W) (o : Obj) : BlkAt k cs T (W.alloc o) := BlkAt.below (below_box W o) h

theorem idOk_i (n : Int) (w : World) (r : Bool) (hr : decide (1 ≤ n ∧ n ≤ 9) = r) :
    Calls Try.prog 49 #[.int .i64 n] w fun e w' => e = .returned (.bool r) ∧ w = w' := by
  by_cases h : 1 ≤ n
  · have HV := Lib.hid (show decide (n ≤ 9) = r by rw [← hr]; exact decide_eq_decide.2 (by omega))
    clear hr
    go_enter Try.func49, Try.ntmps49
    go_wp2
    go_ret
    exact ⟨by rw [← HV.out]; rfl, rfl⟩
  · have HV := Lib.hid (show false = r by rw [← hr]; exact (decide_eq_false (by omega)).symm)
    clear hr
    go_enter Try.func49, Try.ntmps49
    go_wp2
    go_ret
    exact ⟨by rw [← HV.out]; rfl, rfl⟩

def InitZ (p q : ByteArray) (a : Int) : Prop := p.toList = [] ∧ q.toList = [] ∧ a = 0
instance (p q : ByteArray) (a : Int) : Decidable (InitZ p q a) := inferInstanceAs (Decidable (_ ∧ _))
def HasP (z : Bool) (p q : ByteArray) (a : Int) : Prop := if z = true then InitP p q a else InitZ p q a
instance (z : Bool) (p q : ByteArray) (a : Int) : Decidable (HasP z p q a) := by unfold HasP; exact inferInstance
theorem hasP_t (p q : ByteArray) (a : Int) : decide (HasP true p q a) = decide (InitP p q a) := decide_eq_decide.2 (by unfold HasP; simp)
theorem hasP_f (p q : ByteArray) (a : Int) : decide (HasP false p q a) = decide (InitZ p q a) := decide_eq_decide.2 (by unfold HasP; simp)

set_option maxHeartbeats 2000000 in
theorem hasOk_i (z : Bool) (p q : ByteArray) (a : Int) (w : World) (r : Bool) (hr : decide (HasP z p q a) = r) (hp : p.size ≤ 9223372036854775807) (hq : q.size ≤ 9223372036854775807) :
    Calls Try.prog 94 #[.bool z, .agg (initA p q a)] w fun e w' => e = .returned (.bool r) ∧ Below w.heap.size w w' := by
  have hb0 := below_box w (.cells (initA p q a) 92)
  cases z
  case true =>
    have H1 := Lib.hid (fun w => initOk_i p q a w r (by rw [← hr]; exact decide_eq_decide.2 (by unfold HasP; simp)) hp hq)
    clear hr
    go_enter Try.func94, Try.ntmps94
    go_wp2_with fail
    refine (H1.out _).mono ?_
    rintro e w1 ⟨rfl, hb1⟩
    go_wp2
    go_ret
    exact ⟨rfl, hb0.trans (hb1.mono hb0.size)⟩
  case false =>
    rw [hasP_f] at hr
    by_cases h1 : p.toList = []
    case neg =>
      rw [decide_eq_false (p := InitZ p q a) (fun c => h1 c.1)] at hr
      subst hr
      go_enter Try.func94, Try.ntmps94
      go_wp2
      go_ret
      exact ⟨rfl, hb0⟩
    by_cases h2 : q.toList = []
    case neg =>
      rw [decide_eq_false (p := InitZ p q a) (fun c => h2 c.2.1)] at hr
      subst hr
      go_enter Try.func94, Try.ntmps94
      go_wp2
      go_ret
      exact ⟨rfl, hb0⟩
    by_cases h3 : a = 0
    case neg =>
      rw [decide_eq_false (p := InitZ p q a) (fun c => h3 c.2.2)] at hr
      subst hr
      go_enter Try.func94, Try.ntmps94
      go_wp2
      go_ret
      exact ⟨rfl, hb0⟩
    rw [decide_eq_true (p := InitZ p q a) ⟨h1, h2, h3⟩] at hr
    subst hr
    subst h3
    go_enter Try.func94, Try.ntmps94
    go_wp2
    go_ret
    exact ⟨rfl, hb0⟩


def IdP (n : Int) : Prop := 1 ≤ n ∧ n ≤ 9
instance (n : Int) : Decidable (IdP n) := inferInstanceAs (Decidable (_ ∧ _))
def EnvP (f t : Int) (z : Bool) (p q : ByteArray) (o : Int) (u : ByteArray) (a b : Int) (s : ByteArray) : Prop := IdP f ∧ IdP t ∧ f ≠ t ∧ MsgP u a b s ∧ HasP z p q o
instance (f t : Int) (z : Bool) (p q : ByteArray) (o : Int) (u : ByteArray) (a b : Int) (s : ByteArray) : Decidable (EnvP f t z p q o u a b s) := inferInstanceAs (Decidable (_ ∧ _))
theorem idIn (n : Int) : (decide (1 ≤ n) && decide (n ≤ 9)) = decide (IdP n) := by rw [← Bool.decide_and]; rfl

end Go.Proofs.Ytkglgficmealnaa

/- ChaCha20's state: a word a place. Nothing of the program is named. -/
import Derived.Test.YtipcficcoogbnaaMathG
import Derived.Test.YtipcficcoogbnaaMathS
import Derived.Test.YtipcficcoogbnaaRegB
namespace Go.My
open Go.RowKit
set_option linter.unusedVariables false

def updF (f : Nat → Int) (i : Nat) (v : Int) : Nat → Int := fun k => if k = i then v else f k
theorem updF_at (f : Nat → Int) (i : Nat) (v : Int) : updF f i v i = v := if_pos rfl
theorem updF_ne {f : Nat → Int} {i k : Nat} {v : Int} (h : k ≠ i) : updF f i v k = f k := if_neg h
theorem updF_two (f : Nat → Int) (i : Nat) (v x : Int) : updF (updF f i v) i x = updF f i x := by
  funext k
  by_cases h : k = i
  · rw [h, updF_at, updF_at]
  · rw [updF_ne h, updF_ne h, updF_ne h]
theorem rwA_upd (k : IntKind) (n : Nat) (f : Nat → Int) (i : Nat) (v : Int) (hi : i < n) : (rwA k n f).setIfInBounds i (.int k v) = rwA k n (updF f i v) :=
  rwA_set k n f _ i hi v (updF_at f i v) (fun j _ h => updF_ne h)
/-- A place added to another, a third turned by it. -/
def mixF (f : Nat → Int) (t s u r : Nat) : Nat → Int := updF (updF f t (add32 (f t) (f s))) u (rot (xor32 (f u) (add32 (f t) (f s))) r)
def quartF (f : Nat → Int) (a b c d : Nat) : Nat → Int := mixF (mixF (mixF (mixF f a b d 16) c d b 12) a b d 8) c d b 7
theorem updF_bd {f : Nat → Int} (h : Bd f) (i : Nat) (v : Int) (hv : 0 ≤ v ∧ v ≤ 4294967295) : Bd (updF f i v) := by
  intro q
  by_cases c : q = i
  · rw [c, updF_at]; exact hv
  · rw [updF_ne c]; exact h q
theorem mixF_bd {f : Nat → Int} (h : Bd f) (t s u r : Nat) : Bd (mixF f t s u r) := updF_bd (updF_bd h t _ (add32_bd _ _)) u _ (rot_bd _ _)
theorem quartF_bd {f : Nat → Int} (h : Bd f) (a b c d : Nat) : Bd (quartF f a b c d) := mixF_bd (mixF_bd (mixF_bd (mixF_bd h _ _ _ _) _ _ _ _) _ _ _ _) _ _ _ _
/-- The first half of a double round up to column n; the second half up to diagonal n. -/
def colF (f : Nat → Int) : Nat → Nat → Int
  | 0 => f
  | n + 1 => quartF (colF f n) n (4 + n) (8 + n) (12 + n)
def diaF (f : Nat → Int) : Nat → Nat → Int
  | 0 => f
  | n + 1 => quartF (diaF f n) n (4 + (n + 1) % 4) (8 + (n + 2) % 4) (12 + (n + 3) % 4)
def dblF (f : Nat → Int) : Nat → Int := diaF (colF f 4) 4
def dblN (f : Nat → Int) : Nat → Nat → Int
  | 0 => f
  | n + 1 => dblF (dblN f n)
theorem colF_bd {f : Nat → Int} (h : Bd f) : ∀ n, Bd (colF f n)
  | 0 => h
  | n + 1 => quartF_bd (colF_bd h n) _ _ _ _
theorem diaF_bd {f : Nat → Int} (h : Bd f) : ∀ n, Bd (diaF f n)
  | 0 => h
  | n + 1 => quartF_bd (diaF_bd h n) _ _ _ _
theorem dblF_bd {f : Nat → Int} (h : Bd f) : Bd (dblF f) := diaF_bd (colF_bd h 4) 4
theorem dblN_bd {f : Nat → Int} (h : Bd f) : ∀ n, Bd (dblN f n)
  | 0 => h
  | n + 1 => dblF_bd (dblN_bd h n)
theorem Blk.u32 {g j : Nat} {f : Nat → Int} {T : TypeId} {W : World} (h : Blk g (rwA .u32 16 f) T W) (hj : j < 16) : W.cell? ⟨g, j, none⟩ = some (.int .u32 (f j)) := h.cell (rwA_get .u32 16 f j hj)
theorem Blk.u32v {g j : Nat} {f : Nat → Int} {T : TypeId} {W : World} {x : Int} (h : Blk g (rwA .u32 16 f) T W) (hj : j < 16) (hx : f j = x) : W.cell? ⟨g, j, none⟩ = some (.int .u32 x) := by rw [← hx]; exact h.u32 hj
theorem Blk.put32 {g j : Nat} {f : Nat → Int} {T : TypeId} {W : World} (h : Blk g (rwA .u32 16 f) T W) (hj : j < 16) (v : Int) : Blk g (rwA .u32 16 (updF f j v)) T (W.setCell ⟨g, j, none⟩ (.int .u32 v)) := by
  have := h.set j (.int .u32 v)
  rw [rwA_upd .u32 16 f j v hj] at this
  exact this
theorem grown_put (w : World) (g j : Nat) (v : Value) : w.grownBy (w.setCell ⟨g, j, none⟩ v) (some g) := ⟨rfl, rfl, rfl, by simp [World.setCell], fun k hk hne => Below.heap_setCell _ _ _ _ (fun c => hne (by rw [c]))⟩
theorem gr_trans2 {a b c : World} {r : Option Nat} (h : a.grownBy b r) (k : b.grownBy c r) : a.grownBy c r :=
  ⟨k.os.trans h.os, k.tape.trans h.tape, k.output.trans h.output, Nat.le_trans h.size k.size, fun i hi hne => (k.block i (Nat.lt_of_lt_of_le hi h.size) hne).trans (h.block i hi hne)⟩
theorem gr_drew2 {a b : World} {r : Option Nat} (h : a.grownBy b r) : a.grownBy b.drew r := ⟨h.os, h.tape, h.output, h.size, h.block⟩

end Go.My

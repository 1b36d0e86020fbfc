/- What an envelope is: by the program and by the specification. -/
import Derived.Test.YtmekpinhhmknnaaDoorWire3
import Derived.Laws.Rows
namespace Go.Proofs.YtmekpinhhmknnaaDoor
open Go.RowKit Go.My Go.Lib
set_option linter.unusedVariables false

abbrev envA (f t : Int) (z : Bool) (p q : ByteArray) (o : Int) (u : ByteArray) (a b : Int) (s : ByteArray) : Array Value := #[.int .i64 f, .int .i64 t, .bool z, .string p, .string q, .int .i64 o, .string u, .int .i64 a, .int .i64 b, .string s]
def BlkAt (k : Nat) (cs : Array Value) (T : TypeId) (W : World) : Prop := W.heap[k]? = some (.cells cs T (0, 0))
theorem BlkAt.lt {k : Nat} {cs : Array Value} {T : TypeId} {W : World} (h : BlkAt k cs T W) : k < W.heap.size := (Array.getElem?_eq_some_iff.1 h).1
theorem BlkAt.below {k : Nat} {cs : Array Value} {T : TypeId} {V W : World} (hb : Below V.heap.size V W) (h : BlkAt k cs T V) : BlkAt k cs T W := (hb.block k h.lt).trans h
theorem BlkAt.cell {k j : Nat} {cs : Array Value} {T : TypeId} {W : World} {v : Value} (h : BlkAt k cs T W) (hj : cs[j]? = some v) : W.cell? ⟨k, j, none⟩ = some v := (cell_of_row W k j cs T (0, 0) h).trans hj
theorem BlkAt.froz {k j : Nat} {cs : Array Value} {T : TypeId} {W : World} (h : BlkAt k cs T W) : W.frozen? ⟨k, j, none⟩ = false := frozen_of_row W k j cs T h
theorem BlkAt.set {k : Nat} {cs : Array Value} {T : TypeId} {W : World} (h : BlkAt k cs T W) (j : Nat) (v : Value) : BlkAt k (cs.setIfInBounds j v) T (W.setCell ⟨k, j, none⟩ v) := heap_setCell_same W k j cs T v h
theorem BlkAt.other {k l : Nat} {cs : Array Value} {T : TypeId} {W : World} (h : BlkAt k cs T W) (j : Nat) (v : Value) (hk : k ≠ l) : BlkAt k cs T (W.setCell ⟨l, j, none⟩ v) := (heap_setCell_other W ⟨l, j, none⟩ k v hk).trans h
theorem BlkAt.box (w : World) (cs : Array Value) (T : TypeId) : BlkAt w.heap.size cs T (w.alloc (.cells cs T)) := heap_alloc_new w _
theorem BlkAt.past {k : Nat} {cs : Array Value} {T : TypeId} {W : World} (h : BlkAt k cs T W) (o : Obj) : BlkAt k cs T (W.alloc o) := BlkAt.below (below_box W o) h

theorem idOk_i (n : Int) (w : World) (r : Bool) (hr : decide (1 ≤ n ∧ n ≤ 9) = r) :
    Calls Tryd.prog 58 #[.int .i64 n] w fun e w' => e = .returned (.bool r) ∧ w = w' := by
  by_cases h : 1 ≤ n
  · have HV := Lib.hid (show decide (n ≤ 9) = r by rw [← hr]; exact decide_eq_decide.2 (by omega))
    clear hr
    go_enter Tryd.func58, Tryd.ntmps58
    go_wp2
    go_ret
    exact ⟨by rw [← HV.out]; rfl, rfl⟩
  · have HV := Lib.hid (show false = r by rw [← hr]; exact (decide_eq_false (by omega)).symm)
    clear hr
    go_enter Tryd.func58, Tryd.ntmps58
    go_wp2
    go_ret
    exact ⟨by rw [← HV.out]; rfl, rfl⟩

def InitZ (p q : ByteArray) (a : Int) : Prop := p.toList = [] ∧ q.toList = [] ∧ a = 0
instance (p q : ByteArray) (a : Int) : Decidable (InitZ p q a) := inferInstanceAs (Decidable (_ ∧ _))
def HasP (z : Bool) (p q : ByteArray) (a : Int) : Prop := if z = true then InitP p q a else InitZ p q a
instance (z : Bool) (p q : ByteArray) (a : Int) : Decidable (HasP z p q a) := by unfold HasP; exact inferInstance
theorem hasP_t (p q : ByteArray) (a : Int) : decide (HasP true p q a) = decide (InitP p q a) := decide_eq_decide.2 (by unfold HasP; simp)
theorem hasP_f (p q : ByteArray) (a : Int) : decide (HasP false p q a) = decide (InitZ p q a) := decide_eq_decide.2 (by unfold HasP; simp)

set_option maxHeartbeats 2000000 in
theorem hasOk_i (z : Bool) (p q : ByteArray) (a : Int) (w : World) (r : Bool) (hr : decide (HasP z p q a) = r) (hp : p.size ≤ 9223372036854775807) (hq : q.size ≤ 9223372036854775807) :
    Calls Tryd.prog 60 #[.bool z, .agg (initA p q a)] w fun e w' => e = .returned (.bool r) ∧ Below w.heap.size w w' := by
  have hb0 := below_box w (.cells (initA p q a) 39)
  cases z
  case true =>
    have H1 := Lib.hid (fun w => initOk_i p q a w r (by rw [← hr]; exact decide_eq_decide.2 (by unfold HasP; simp)) hp hq)
    clear hr
    go_enter Tryd.func60, Tryd.ntmps60
    go_wp2_with fail
    refine (H1.out _).mono ?_
    rintro e w1 ⟨rfl, hb1⟩
    go_wp2
    go_ret
    exact ⟨rfl, hb0.trans (hb1.mono hb0.size)⟩
  case false =>
    rw [hasP_f] at hr
    by_cases h1 : p.toList = []
    case neg =>
      rw [decide_eq_false (p := InitZ p q a) (fun c => h1 c.1)] at hr
      subst hr
      go_enter Tryd.func60, Tryd.ntmps60
      go_wp2
      go_ret
      exact ⟨rfl, hb0⟩
    by_cases h2 : q.toList = []
    case neg =>
      rw [decide_eq_false (p := InitZ p q a) (fun c => h2 c.2.1)] at hr
      subst hr
      go_enter Tryd.func60, Tryd.ntmps60
      go_wp2
      go_ret
      exact ⟨rfl, hb0⟩
    by_cases h3 : a = 0
    case neg =>
      rw [decide_eq_false (p := InitZ p q a) (fun c => h3 c.2.2)] at hr
      subst hr
      go_enter Tryd.func60, Tryd.ntmps60
      go_wp2
      go_ret
      exact ⟨rfl, hb0⟩
    rw [decide_eq_true (p := InitZ p q a) ⟨h1, h2, h3⟩] at hr
    subst hr
    subst h3
    go_enter Tryd.func60, Tryd.ntmps60
    go_wp2
    go_ret
    exact ⟨rfl, hb0⟩


def IdP (n : Int) : Prop := 1 ≤ n ∧ n ≤ 9
instance (n : Int) : Decidable (IdP n) := inferInstanceAs (Decidable (_ ∧ _))
def EnvP (f t : Int) (z : Bool) (p q : ByteArray) (o : Int) (u : ByteArray) (a b : Int) (s : ByteArray) : Prop := IdP f ∧ IdP t ∧ f ≠ t ∧ MsgP u a b s ∧ HasP z p q o
instance (f t : Int) (z : Bool) (p q : ByteArray) (o : Int) (u : ByteArray) (a b : Int) (s : ByteArray) : Decidable (EnvP f t z p q o u a b s) := inferInstanceAs (Decidable (_ ∧ _))
theorem idIn (n : Int) : (decide (1 ≤ n) && decide (n ≤ 9)) = decide (IdP n) := by rw [← Bool.decide_and]; rfl

set_option maxHeartbeats 4000000 in
theorem envOk_i (f t : Int) (z : Bool) (p q : ByteArray) (o : Int) (u : ByteArray) (a b : Int) (s : ByteArray) (w : World) (r : Bool) (hr : decide (EnvP f t z p q o u a b s) = r) (hp : p.size ≤ 9223372036854775807) (hq : q.size ≤ 9223372036854775807) (hu : u.size ≤ 9223372036854775807) (hs : s.size ≤ 9223372036854775807) :
    Calls Tryd.prog 37 #[.agg (envA f t z p q o u a b s)] w fun e w' => e = .returned (.bool r) ∧ Below w.heap.size w w' := by
  have hb0 := below_box w (.cells (envA f t z p q o u a b s) 44)
  by_cases h1 : IdP f
  case neg =>
    rw [decide_eq_false (p := EnvP f t z p q o u a b s) (fun c => h1 c.1)] at hr
    subst hr
    have H1 := Lib.hid (fun w => idOk_i f w false (decide_eq_false h1))
    clear h1
    go_enter Tryd.func37, Tryd.ntmps37
    go_wp2_with fail
    refine (H1.out _).mono ?_
    rintro e w1 ⟨rfl, rfl⟩
    go_wp2
    go_ret
    exact ⟨rfl, hb0⟩
  have H1 := Lib.hid (fun w => idOk_i f w true (decide_eq_true h1))
  by_cases h2 : IdP t
  case neg =>
    rw [decide_eq_false (p := EnvP f t z p q o u a b s) (fun c => h2 c.2.1)] at hr
    subst hr
    have H2 := Lib.hid (fun w => idOk_i t w false (decide_eq_false h2))
    clear h1 h2
    go_enter Tryd.func37, Tryd.ntmps37
    go_wp2_with fail
    refine (H1.out _).mono ?_
    rintro e w1 ⟨rfl, rfl⟩
    go_wp2_with fail
    refine (H2.out _).mono ?_
    rintro e w1 ⟨rfl, rfl⟩
    go_wp2
    go_ret
    exact ⟨rfl, hb0⟩
  have H2 := Lib.hid (fun w => idOk_i t w true (decide_eq_true h2))
  by_cases h3 : f = t
  case pos =>
    rw [decide_eq_false (p := EnvP f t z p q o u a b s) (fun c => c.2.2.1 h3)] at hr
    subst hr
    clear h1 h2
    subst h3
    go_enter Tryd.func37, Tryd.ntmps37
    go_wp2_with fail
    refine (H1.out _).mono ?_
    rintro e w1 ⟨rfl, rfl⟩
    go_wp2_with fail
    refine (H2.out _).mono ?_
    rintro e w1 ⟨rfl, rfl⟩
    go_wp2
    go_ret
    exact ⟨rfl, hb0⟩
  have h3' : (f != t) = true := by simp [h3]
  have hS := BlkAt.box w (envA f t z p q o u a b s) 44
  by_cases h4 : MsgP u a b s
  case neg =>
    rw [decide_eq_false (p := EnvP f t z p q o u a b s) (fun c => h4 c.2.2.2.1)] at hr
    subst hr
    have H4 := Lib.hid (fun w => msgOk_i u a b s w false (decide_eq_false h4) hu hs)
    clear h1 h2 h4
    go_enter Tryd.func37, Tryd.ntmps37
    go_wp2_with fail
    refine (H1.out _).mono ?_
    rintro e w1 ⟨rfl, rfl⟩
    go_wp2_with fail
    refine (H2.out _).mono ?_
    rintro e w1 ⟨rfl, rfl⟩
    go_wp2_with fail
    refine (H4.out _).mono ?_
    rintro e w2 ⟨rfl, hb2⟩
    go_wp2
    go_ret
    exact ⟨rfl, hb0.trans (hb2.mono hb0.size)⟩
  have H4 := Lib.hid (fun w => msgOk_i u a b s w true (decide_eq_true h4) hu hs)
  have H5 := Lib.hid (fun w => hasOk_i z p q o w r (by rw [← hr]; exact decide_eq_decide.2 ⟨fun c => ⟨h1, h2, h3, h4, c⟩, fun c => c.2.2.2.2⟩) hp hq)
  clear h1 h2 h4 hr
  go_enter Tryd.func37, Tryd.ntmps37
  go_wp2_with fail
  refine (H1.out _).mono ?_
  rintro e w1 ⟨rfl, rfl⟩
  go_wp2_with fail
  refine (H2.out _).mono ?_
  rintro e w1 ⟨rfl, rfl⟩
  go_wp2_with fail
  refine (H4.out _).mono ?_
  rintro e w2 ⟨rfl, hb2⟩
  have hS := BlkAt.below hb2 hS
  have c0 := hS.cell (j := 0) rfl
  have c1 := hS.cell (j := 1) rfl
  have c2 := hS.cell (j := 2) rfl
  have c3 := hS.cell (j := 3) rfl
  have c4 := hS.cell (j := 4) rfl
  have c5 := hS.cell (j := 5) rfl
  have c6 := hS.cell (j := 6) rfl
  have c7 := hS.cell (j := 7) rfl
  have c8 := hS.cell (j := 8) rfl
  have c9 := hS.cell (j := 9) rfl
  go_wp2_with fail
  refine (H5.out _).mono ?_
  rintro e w3 ⟨rfl, hb3⟩
  go_wp2
  go_ret
  exact ⟨rfl, (hb0.trans (hb2.mono hb0.size)).trans (hb3.mono (Nat.le_trans hb0.size hb2.size))⟩

set_option maxHeartbeats 4000000 in
theorem envOk_s (f t : Int) (z : Bool) (p q : ByteArray) (o : Int) (u : ByteArray) (a b : Int) (s : ByteArray) (w : World) (r : Bool) (hr : decide (EnvP f t z p q o u a b s) = r) (hp : p.size ≤ 9223372036854775807) (hq : q.size ≤ 9223372036854775807) (hu : u.size ≤ 9223372036854775807) (hs : s.size ≤ 9223372036854775807) :
    Calls Tryd.prog 33 #[.agg (envA f t z p q o u a b s)] w fun e w' => e = .returned (.bool r) ∧ Below w.heap.size w w' := by
  have hb0 := below_box w (.cells (envA f t z p q o u a b s) 44)
  by_cases h1 : IdP f
  case neg =>
    rw [decide_eq_false (p := EnvP f t z p q o u a b s) (fun c => h1 c.1)] at hr
    subst hr
    have H1 := Lib.hid (fun w => l1In_r f 1 9 w false ((idIn f).trans (decide_eq_false h1)))
    clear h1
    go_enter Tryd.func33, Tryd.ntmps33
    go_wp2_with fail
    refine (H1.out _).mono ?_
    rintro e w1 ⟨rfl, rfl⟩
    go_wp2
    go_ret
    exact ⟨rfl, hb0⟩
  have H1 := Lib.hid (fun w => l1In_r f 1 9 w true ((idIn f).trans (decide_eq_true h1)))
  by_cases h2 : IdP t
  case neg =>
    rw [decide_eq_false (p := EnvP f t z p q o u a b s) (fun c => h2 c.2.1)] at hr
    subst hr
    have H2 := Lib.hid (fun w => l1In_r t 1 9 w false ((idIn t).trans (decide_eq_false h2)))
    clear h1 h2
    go_enter Tryd.func33, Tryd.ntmps33
    go_wp2_with fail
    refine (H1.out _).mono ?_
    rintro e w1 ⟨rfl, rfl⟩
    go_wp2_with fail
    refine (H2.out _).mono ?_
    rintro e w1 ⟨rfl, rfl⟩
    go_wp2
    go_ret
    exact ⟨rfl, hb0⟩
  have H2 := Lib.hid (fun w => l1In_r t 1 9 w true ((idIn t).trans (decide_eq_true h2)))
  by_cases h3 : f = t
  case pos =>
    rw [decide_eq_false (p := EnvP f t z p q o u a b s) (fun c => c.2.2.1 h3)] at hr
    subst hr
    clear h1 h2
    subst h3
    go_enter Tryd.func33, Tryd.ntmps33
    go_wp2_with fail
    refine (H1.out _).mono ?_
    rintro e w1 ⟨rfl, rfl⟩
    go_wp2_with fail
    refine (H2.out _).mono ?_
    rintro e w1 ⟨rfl, rfl⟩
    go_wp2
    go_ret
    exact ⟨rfl, hb0⟩
  have h3' : (f == t) = false := by simp [h3]
  have hS := BlkAt.box w (envA f t z p q o u a b s) 44
  by_cases h4 : MsgP u a b s
  case neg =>
    rw [decide_eq_false (p := EnvP f t z p q o u a b s) (fun c => h4 c.2.2.2.1)] at hr
    subst hr
    have H4 := Lib.hid (fun w => msgOk_s u a b s w false (decide_eq_false h4) hu hs)
    clear h1 h2 h4
    go_enter Tryd.func33, Tryd.ntmps33
    go_wp2_with fail
    refine (H1.out _).mono ?_
    rintro e w1 ⟨rfl, rfl⟩
    go_wp2_with fail
    refine (H2.out _).mono ?_
    rintro e w1 ⟨rfl, rfl⟩
    go_wp2_with fail
    refine (H4.out _).mono ?_
    rintro e w2 ⟨rfl, hb2⟩
    go_wp2
    go_ret
    exact ⟨rfl, hb0.trans (hb2.mono hb0.size)⟩
  have H4 := Lib.hid (fun w => msgOk_s u a b s w true (decide_eq_true h4) hu hs)
  have hr : decide (HasP z p q o) = r := by rw [← hr]; exact decide_eq_decide.2 ⟨fun c => ⟨h1, h2, h3, h4, c⟩, fun c => c.2.2.2.2⟩
  clear h1 h2 h4
  cases z
  case true =>
    rw [hasP_t] at hr
    have H5 := Lib.hid (fun w => initOk_s p q o w r hr hp hq)
    clear hr
    go_enter Tryd.func33, Tryd.ntmps33
    go_wp2_with fail
    refine (H1.out _).mono ?_
    rintro e w1 ⟨rfl, rfl⟩
    go_wp2_with fail
    refine (H2.out _).mono ?_
    rintro e w1 ⟨rfl, rfl⟩
    go_wp2_with fail
    refine (H4.out _).mono ?_
    rintro e w2 ⟨rfl, hb2⟩
    have hS := BlkAt.below hb2 hS
    have c0 := hS.cell (j := 0) rfl
    have c1 := hS.cell (j := 1) rfl
    have c2 := hS.cell (j := 2) rfl
    have c3 := hS.cell (j := 3) rfl
    have c4 := hS.cell (j := 4) rfl
    have c5 := hS.cell (j := 5) rfl
    have c6 := hS.cell (j := 6) rfl
    have c7 := hS.cell (j := 7) rfl
    have c8 := hS.cell (j := 8) rfl
    have c9 := hS.cell (j := 9) rfl
    go_wp2_with fail
    refine (H5.out _).mono ?_
    rintro e w3 ⟨rfl, hb3⟩
    have hS := BlkAt.below hb3 hS
    clear c0 c1 c2 c3 c4 c5 c6 c7 c8 c9
    have c0 := hS.cell (j := 0) rfl
    have c1 := hS.cell (j := 1) rfl
    have c2 := hS.cell (j := 2) rfl
    have c3 := hS.cell (j := 3) rfl
    have c4 := hS.cell (j := 4) rfl
    have c5 := hS.cell (j := 5) rfl
    have c6 := hS.cell (j := 6) rfl
    have c7 := hS.cell (j := 7) rfl
    have c8 := hS.cell (j := 8) rfl
    have c9 := hS.cell (j := 9) rfl
    cases r
    · go_wp2
      go_ret
      exact ⟨rfl, (hb0.trans (hb2.mono hb0.size)).trans (hb3.mono (Nat.le_trans hb0.size hb2.size))⟩
    · go_wp2
      go_ret
      exact ⟨rfl, (hb0.trans (hb2.mono hb0.size)).trans (hb3.mono (Nat.le_trans hb0.size hb2.size))⟩
  case false =>
    rw [hasP_f] at hr
    by_cases k1 : p.toList = []
    case neg =>
      rw [decide_eq_false (p := InitZ p q o) (fun c => k1 c.1)] at hr
      subst hr
      go_enter Tryd.func33, Tryd.ntmps33
      go_wp2_with fail
      refine (H1.out _).mono ?_
      rintro e w1 ⟨rfl, rfl⟩
      go_wp2_with fail
      refine (H2.out _).mono ?_
      rintro e w1 ⟨rfl, rfl⟩
      go_wp2_with fail
      refine (H4.out _).mono ?_
      rintro e w2 ⟨rfl, hb2⟩
      have hS := BlkAt.below hb2 hS
      have c0 := hS.cell (j := 0) rfl
      have c1 := hS.cell (j := 1) rfl
      have c2 := hS.cell (j := 2) rfl
      have c3 := hS.cell (j := 3) rfl
      have c4 := hS.cell (j := 4) rfl
      have c5 := hS.cell (j := 5) rfl
      have c6 := hS.cell (j := 6) rfl
      have c7 := hS.cell (j := 7) rfl
      have c8 := hS.cell (j := 8) rfl
      have c9 := hS.cell (j := 9) rfl
      go_wp2
      go_ret
      exact ⟨rfl, hb0.trans (hb2.mono hb0.size)⟩
    by_cases k2 : q.toList = []
    case neg =>
      rw [decide_eq_false (p := InitZ p q o) (fun c => k2 c.2.1)] at hr
      subst hr
      go_enter Tryd.func33, Tryd.ntmps33
      go_wp2_with fail
      refine (H1.out _).mono ?_
      rintro e w1 ⟨rfl, rfl⟩
      go_wp2_with fail
      refine (H2.out _).mono ?_
      rintro e w1 ⟨rfl, rfl⟩
      go_wp2_with fail
      refine (H4.out _).mono ?_
      rintro e w2 ⟨rfl, hb2⟩
      have hS := BlkAt.below hb2 hS
      have c0 := hS.cell (j := 0) rfl
      have c1 := hS.cell (j := 1) rfl
      have c2 := hS.cell (j := 2) rfl
      have c3 := hS.cell (j := 3) rfl
      have c4 := hS.cell (j := 4) rfl
      have c5 := hS.cell (j := 5) rfl
      have c6 := hS.cell (j := 6) rfl
      have c7 := hS.cell (j := 7) rfl
      have c8 := hS.cell (j := 8) rfl
      have c9 := hS.cell (j := 9) rfl
      go_wp2
      go_ret
      exact ⟨rfl, hb0.trans (hb2.mono hb0.size)⟩
    by_cases k3 : o = 0
    case neg =>
      rw [decide_eq_false (p := InitZ p q o) (fun c => k3 c.2.2)] at hr
      subst hr
      go_enter Tryd.func33, Tryd.ntmps33
      go_wp2_with fail
      refine (H1.out _).mono ?_
      rintro e w1 ⟨rfl, rfl⟩
      go_wp2_with fail
      refine (H2.out _).mono ?_
      rintro e w1 ⟨rfl, rfl⟩
      go_wp2_with fail
      refine (H4.out _).mono ?_
      rintro e w2 ⟨rfl, hb2⟩
      have hS := BlkAt.below hb2 hS
      have c0 := hS.cell (j := 0) rfl
      have c1 := hS.cell (j := 1) rfl
      have c2 := hS.cell (j := 2) rfl
      have c3 := hS.cell (j := 3) rfl
      have c4 := hS.cell (j := 4) rfl
      have c5 := hS.cell (j := 5) rfl
      have c6 := hS.cell (j := 6) rfl
      have c7 := hS.cell (j := 7) rfl
      have c8 := hS.cell (j := 8) rfl
      have c9 := hS.cell (j := 9) rfl
      go_wp2
      go_ret
      exact ⟨rfl, hb0.trans (hb2.mono hb0.size)⟩
    rw [decide_eq_true (p := InitZ p q o) ⟨k1, k2, k3⟩] at hr
    subst hr
    subst k3
    go_enter Tryd.func33, Tryd.ntmps33
    go_wp2_with fail
    refine (H1.out _).mono ?_
    rintro e w1 ⟨rfl, rfl⟩
    go_wp2_with fail
    refine (H2.out _).mono ?_
    rintro e w1 ⟨rfl, rfl⟩
    go_wp2_with fail
    refine (H4.out _).mono ?_
    rintro e w2 ⟨rfl, hb2⟩
    have hS := BlkAt.below hb2 hS
    have c0 := hS.cell (j := 0) rfl
    have c1 := hS.cell (j := 1) rfl
    have c2 := hS.cell (j := 2) rfl
    have c3 := hS.cell (j := 3) rfl
    have c4 := hS.cell (j := 4) rfl
    have c5 := hS.cell (j := 5) rfl
    have c6 := hS.cell (j := 6) rfl
    have c7 := hS.cell (j := 7) rfl
    have c8 := hS.cell (j := 8) rfl
    have c9 := hS.cell (j := 9) rfl
    go_wp2
    go_ret
    exact ⟨rfl, hb0.trans (hb2.mono hb0.size)⟩

end Go.Proofs.YtmekpinhhmknnaaDoor

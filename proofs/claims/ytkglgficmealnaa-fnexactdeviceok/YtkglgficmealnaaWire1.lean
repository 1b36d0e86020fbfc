/- Heads, messages and Inits: what is valid, by the program and by the specification; the laws' own copies of them. -/
import Derived.Test.YtkglgficmealnaaNumA
import Derived.Test.YtkglgficmealnaaBe
import Derived.Test.YtkglgficmealnaaSmall
import Derived.Laws.ResultCell
import Derived.Deep.RegionHeld3
namespace Go.Proofs.Ytkglgficmealnaa
open Go.RowKit Go.My Go.Lib
set_option linter.unusedVariables false

theorem key_dec (s : ByteArray) : ((s.size : Int) == 32) = decide (s.size = 32) := by
  by_cases h : s.size = 32
  · rw [h]; rfl
  · rw [decide_eq_false h]; exact beq_eq_false_iff_ne.2 (by omega)
theorem isKey_i (s : ByteArray) (w : World) (b : Bool) (hb : decide (s.size = 32) = b) (hs : s.size ≤ 9223372036854775807) :
    Calls Try.prog 63 #[.string s] w fun e w' => e = .returned (.bool b) ∧ w = w' := by
  subst hb
  have hd := key_dec s
  go_enter Try.func63, Try.ntmps63
  go_wp2
  go_ret
  exact ⟨rfl, rfl⟩
theorem isKey_s (s : ByteArray) (w : World) (b : Bool) (hb : decide (s.size = 32) = b) (hs : s.size ≤ 9223372036854775807) :
    Calls Try.prog 28 #[.string s] w fun e w' => e = .returned (.bool b) ∧ w = w' := by
  subst hb
  have hd := key_dec s
  go_enter Try.func28, Try.ntmps28
  go_wp2
  go_ret
  exact ⟨rfl, rfl⟩
theorem l1In_r (n lo hi : Int) (w : World) (b : Bool) (hb : (decide (lo ≤ n) && decide (n ≤ hi)) = b) :
    Calls Try.prog 43 #[.int .i64 n, .int .i64 lo, .int .i64 hi] w fun e w' => e = .returned (.bool b) ∧ w = w' := hb ▸ in_any n lo hi w
theorem l5N_r (n : Int) (w : World) (b : Bool) (hb : (decide (0 ≤ n) && decide (n ≤ 1000)) = b) :
    Calls Try.prog 30 #[.int .i64 n] w fun e w' => e = .returned (.bool b) ∧ w = w' := by
  go_enter Try.func30, Try.ntmps30
  go_wp2_with fail
  refine (l1In_r n 0 1000 _ b hb).mono ?_
  rintro e w1 ⟨rfl, rfl⟩
  go_wp2
  go_ret
  exact ⟨rfl, rfl⟩

def HeadP (p : ByteArray) (a b : Int) : Prop := p.size = 32 ∧ 0 ≤ a ∧ a ≤ 1000 ∧ 0 ≤ b ∧ b < 1000
instance (p : ByteArray) (a b : Int) : Decidable (HeadP p a b) := inferInstanceAs (Decidable (_ ∧ _))
def InitP (p q : ByteArray) (a : Int) : Prop := p.size = 32 ∧ q.size = 32 ∧ 0 ≤ a ∧ a ≤ 999
instance (p q : ByteArray) (a : Int) : Decidable (InitP p q a) := inferInstanceAs (Decidable (_ ∧ _))
abbrev headA (p : ByteArray) (a b : Int) : Array Value := #[.string p, .int .i64 a, .int .i64 b]
abbrev initA (p q : ByteArray) (a : Int) : Array Value := #[.string p, .string q, .int .i64 a]
abbrev msgA (p : ByteArray) (a b : Int) (s : ByteArray) : Array Value := #[.string p, .int .i64 a, .int .i64 b, .string s]

def MsgP (p : ByteArray) (a b : Int) (s : ByteArray) : Prop := HeadP p a b ∧ 32 ≤ s.size ∧ s.size ≤ 432
instance (p : ByteArray) (a b : Int) (s : ByteArray) : Decidable (MsgP p a b s) := inferInstanceAs (Decidable (_ ∧ _))
theorem below_box (w : World) (o : Obj) : Below w.heap.size w (w.alloc o) := (Below.refl _ _).alloc (Nat.le_refl _) _

set_option maxHeartbeats 2000000 in
theorem initOk_i (p q : ByteArray) (a : Int) (w : World) (r : Bool) (hr : decide (InitP p q a) = r) (hp : p.size ≤ 9223372036854775807) (hq : q.size ≤ 9223372036854775807) :
    Calls Try.prog 103 #[.agg (initA p q a)] w fun e w' => e = .returned (.bool r) ∧ Below w.heap.size w w' := by
  subst hr
  have hb0 := below_box w (.cells (initA p q a) 92)
  by_cases h1 : p.size = 32
  case neg =>
    have HV := Lib.hid (decide_eq_false (p := InitP p q a) (fun c => h1 c.1))
    go_enter Try.func103, Try.ntmps103
    go_wp2_with fail
    refine (isKey_i p _ _ (decide_eq_false h1) hp).mono ?_
    rintro e w1 ⟨rfl, rfl⟩
    clear h1
    go_wp2
    go_ret
    exact ⟨by rw [HV.out]; rfl, hb0⟩
  by_cases h2 : q.size = 32
  case neg =>
    have HV := Lib.hid (decide_eq_false (p := InitP p q a) (fun c => h2 c.2.1))
    go_enter Try.func103, Try.ntmps103
    go_wp2_with fail
    refine (isKey_i p _ _ (decide_eq_true h1) hp).mono ?_
    rintro e w1 ⟨rfl, rfl⟩
    go_wp2_with fail
    refine (isKey_i q _ _ (decide_eq_false h2) hq).mono ?_
    rintro e w1 ⟨rfl, rfl⟩
    clear h1 h2
    go_wp2
    go_ret
    exact ⟨by rw [HV.out]; rfl, hb0⟩
  by_cases h3 : 0 ≤ a
  case neg =>
    have HV := Lib.hid (decide_eq_false (p := InitP p q a) (fun c => h3 c.2.2.1))
    go_enter Try.func103, Try.ntmps103
    go_wp2_with fail
    refine (isKey_i p _ _ (decide_eq_true h1) hp).mono ?_
    rintro e w1 ⟨rfl, rfl⟩
    go_wp2_with fail
    refine (isKey_i q _ _ (decide_eq_true h2) hq).mono ?_
    rintro e w1 ⟨rfl, rfl⟩
    clear h1 h2
    go_wp2
    go_ret
    exact ⟨by rw [HV.out]; rfl, hb0⟩
  have HV := Lib.hid (show decide (a ≤ 999) = decide (InitP p q a) from decide_eq_decide.2 (by unfold InitP; simp [h1, h2, h3]))
  go_enter Try.func103, Try.ntmps103
  go_wp2_with fail
  refine (isKey_i p _ _ (decide_eq_true h1) hp).mono ?_
  rintro e w1 ⟨rfl, rfl⟩
  go_wp2_with fail
  refine (isKey_i q _ _ (decide_eq_true h2) hq).mono ?_
  rintro e w1 ⟨rfl, rfl⟩
  clear h1 h2
  go_wp2
  go_ret
  exact ⟨by rw [← HV.out]; rfl, hb0⟩

set_option maxHeartbeats 2000000 in
theorem initOk_s (p q : ByteArray) (a : Int) (w : World) (r : Bool) (hr : decide (InitP p q a) = r) (hp : p.size ≤ 9223372036854775807) (hq : q.size ≤ 9223372036854775807) :
    Calls Try.prog 83 #[.agg (initA p q a)] w fun e w' => e = .returned (.bool r) ∧ Below w.heap.size w w' := by
  subst hr
  have hb0 := below_box w (.cells (initA p q a) 92)
  by_cases h1 : p.size = 32
  case neg =>
    have HV := Lib.hid (decide_eq_false (p := InitP p q a) (fun c => h1 c.1))
    go_enter Try.func83, Try.ntmps83
    go_wp2_with fail
    refine (isKey_s p _ _ (decide_eq_false h1) hp).mono ?_
    rintro e w1 ⟨rfl, rfl⟩
    clear h1
    go_wp2
    go_ret
    exact ⟨by rw [HV.out]; rfl, hb0⟩
  by_cases h2 : q.size = 32
  case neg =>
    have HV := Lib.hid (decide_eq_false (p := InitP p q a) (fun c => h2 c.2.1))
    go_enter Try.func83, Try.ntmps83
    go_wp2_with fail
    refine (isKey_s p _ _ (decide_eq_true h1) hp).mono ?_
    rintro e w1 ⟨rfl, rfl⟩
    go_wp2_with fail
    refine (isKey_s q _ _ (decide_eq_false h2) hq).mono ?_
    rintro e w1 ⟨rfl, rfl⟩
    clear h1 h2
    go_wp2
    go_ret
    exact ⟨by rw [HV.out]; rfl, hb0⟩
  have HR := Lib.hid (show (decide (0 ≤ a) && decide (a ≤ 999)) = decide (InitP p q a) by rw [← Bool.decide_and]; exact decide_eq_decide.2 (by unfold InitP; simp [h1, h2]))
  have H3 := Lib.hid (fun w => l1In_r a 0 999 w _ HR.out)
  clear HR
  go_enter Try.func83, Try.ntmps83
  go_wp2_with fail
  refine (isKey_s p _ _ (decide_eq_true h1) hp).mono ?_
  rintro e w1 ⟨rfl, rfl⟩
  go_wp2_with fail
  refine (isKey_s q _ _ (decide_eq_true h2) hq).mono ?_
  rintro e w1 ⟨rfl, rfl⟩
  clear h1 h2
  go_wp2_with fail
  refine (H3.out _).mono ?_
  rintro e w1 ⟨rfl, rfl⟩
  go_wp2
  go_ret
  exact ⟨rfl, hb0⟩

/-- What is left of l bytes behind n more: -1 if there are not so many. -/
def szS (l : Int) (n : Nat) : Int := if l - n < 0 then -1 else l - n
theorem szS_no {l : Int} {n : Nat} (h : l - n < 0) : szS l n = -1 := if_pos h
theorem szS_yes {l : Int} {n : Nat} (h : ¬ l - n < 0) : szS l n = l - n := if_neg h
theorem wrap_in {x : Int} (h0 : -9223372036854775808 ≤ x) (h1 : x ≤ 9223372036854775807) : IntKind.i64.wrap x = x := by rw [IntKind.wrap_i64]; omega

end Go.Proofs.Ytkglgficmealnaa

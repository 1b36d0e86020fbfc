/- Heads, messages and Inits: what is valid, by the program and by the specification; the laws' own copies of them. -/
import Derived.Test.YtmekpinhhmknnaaDoorNumA
import Derived.Test.YtmekpinhhmknnaaDoorBe
import Derived.Test.YtmekpinhhmknnaaDoorSmall
import Derived.Laws.ResultCell
import Derived.Deep.RegionHeld3
namespace Go.Proofs.YtmekpinhhmknnaaDoor
open Go.RowKit Go.My Go.Lib
set_option linter.unusedVariables false

theorem key_dec (s : ByteArray) : ((s.size : Int) == 32) = decide (s.size = 32) := by
  by_cases h : s.size = 32
  · rw [h]; rfl
  · rw [decide_eq_false h]; exact beq_eq_false_iff_ne.2 (by omega)
theorem isKey_i (s : ByteArray) (w : World) (b : Bool) (hb : decide (s.size = 32) = b) (hs : s.size ≤ 9223372036854775807) :
    Calls Tryd.prog 88 #[.string s] w fun e w' => e = .returned (.bool b) ∧ w = w' := by
  subst hb
  have hd := key_dec s
  go_enter Tryd.func88, Tryd.ntmps88
  go_wp2
  go_ret
  exact ⟨rfl, rfl⟩
theorem isKey_s (s : ByteArray) (w : World) (b : Bool) (hb : decide (s.size = 32) = b) (hs : s.size ≤ 9223372036854775807) :
    Calls Tryd.prog 73 #[.string s] w fun e w' => e = .returned (.bool b) ∧ w = w' := by
  subst hb
  have hd := key_dec s
  go_enter Tryd.func73, Tryd.ntmps73
  go_wp2
  go_ret
  exact ⟨rfl, rfl⟩
theorem l1In_r (n lo hi : Int) (w : World) (b : Bool) (hb : (decide (lo ≤ n) && decide (n ≤ hi)) = b) :
    Calls Tryd.prog 25 #[.int .i64 n, .int .i64 lo, .int .i64 hi] w fun e w' => e = .returned (.bool b) ∧ w = w' := hb ▸ in_any n lo hi w
theorem l5N_r (n : Int) (w : World) (b : Bool) (hb : (decide (0 ≤ n) && decide (n ≤ 1000)) = b) :
    Calls Tryd.prog 87 #[.int .i64 n] w fun e w' => e = .returned (.bool b) ∧ w = w' := by
  go_enter Tryd.func87, Tryd.ntmps87
  go_wp2_with fail
  refine (l1In_r n 0 1000 _ b hb).mono ?_
  rintro e w1 ⟨rfl, rfl⟩
  go_wp2
  go_ret
  exact ⟨rfl, rfl⟩

def HeadP (p : ByteArray) (a b : Int) : Prop := p.size = 32 ∧ 0 ≤ a ∧ a ≤ 1000 ∧ 0 ≤ b ∧ b < 1000
instance (p : ByteArray) (a b : Int) : Decidable (HeadP p a b) := inferInstanceAs (Decidable (_ ∧ _))
def InitP (p q : ByteArray) (a : Int) : Prop := p.size = 32 ∧ q.size = 32 ∧ 0 ≤ a ∧ a ≤ 999
instance (p q : ByteArray) (a : Int) : Decidable (InitP p q a) := inferInstanceAs (Decidable (_ ∧ _))
abbrev headA (p : ByteArray) (a b : Int) : Array Value := #[.string p, .int .i64 a, .int .i64 b]
abbrev initA (p q : ByteArray) (a : Int) : Array Value := #[.string p, .string q, .int .i64 a]
abbrev msgA (p : ByteArray) (a b : Int) (s : ByteArray) : Array Value := #[.string p, .int .i64 a, .int .i64 b, .string s]

set_option maxHeartbeats 2000000 in
theorem headOk_i (p : ByteArray) (a b : Int) (w : World) (r : Bool) (hr : decide (HeadP p a b) = r) (hs : p.size ≤ 9223372036854775807) :
    Calls Tryd.prog 74 #[.agg (headA p a b)] w fun e w' => e = .returned (.bool r) ∧ Below w.heap.size w w' := by
  subst hr
  by_cases h1 : p.size = 32
  case neg =>
    have HV := Lib.hid (decide_eq_false (p := HeadP p a b) (fun c => h1 c.1))
    go_enter Tryd.func74, Tryd.ntmps74
    go_wp2_with fail
    refine (isKey_i p _ _ (decide_eq_false h1) hs).mono ?_
    rintro e w1 ⟨rfl, rfl⟩
    clear h1
    go_wp2
    go_ret
    exact ⟨by rw [HV.out]; first | rfl | (simp; omega), (Below.refl _ _).alloc (Nat.le_refl _) _⟩
  by_cases h2 : 0 ≤ a
  case neg =>
    have HV := Lib.hid (decide_eq_false (p := HeadP p a b) (fun c => h2 c.2.1))
    go_enter Tryd.func74, Tryd.ntmps74
    go_wp2_with fail
    refine (isKey_i p _ _ (decide_eq_true h1) hs).mono ?_
    rintro e w1 ⟨rfl, rfl⟩
    clear h1
    go_wp2
    go_ret
    exact ⟨by rw [HV.out]; first | rfl | (simp; omega), (Below.refl _ _).alloc (Nat.le_refl _) _⟩
  by_cases h3 : a ≤ 1000
  case neg =>
    have HV := Lib.hid (decide_eq_false (p := HeadP p a b) (fun c => h3 c.2.2.1))
    go_enter Tryd.func74, Tryd.ntmps74
    go_wp2_with fail
    refine (isKey_i p _ _ (decide_eq_true h1) hs).mono ?_
    rintro e w1 ⟨rfl, rfl⟩
    clear h1
    go_wp2
    go_ret
    exact ⟨by rw [HV.out]; first | rfl | (simp; omega), (Below.refl _ _).alloc (Nat.le_refl _) _⟩
  by_cases h4 : 0 ≤ b
  case neg =>
    have HV := Lib.hid (decide_eq_false (p := HeadP p a b) (fun c => h4 c.2.2.2.1))
    go_enter Tryd.func74, Tryd.ntmps74
    go_wp2_with fail
    refine (isKey_i p _ _ (decide_eq_true h1) hs).mono ?_
    rintro e w1 ⟨rfl, rfl⟩
    clear h1
    go_wp2
    go_ret
    exact ⟨by rw [HV.out]; first | rfl | (simp; omega), (Below.refl _ _).alloc (Nat.le_refl _) _⟩
  by_cases h5 : b < 1000
  case neg =>
    have HV := Lib.hid (decide_eq_false (p := HeadP p a b) (fun c => h5 c.2.2.2.2))
    go_enter Tryd.func74, Tryd.ntmps74
    go_wp2_with fail
    refine (isKey_i p _ _ (decide_eq_true h1) hs).mono ?_
    rintro e w1 ⟨rfl, rfl⟩
    clear h1
    go_wp2
    go_ret
    exact ⟨by rw [HV.out]; first | rfl | (simp; omega), (Below.refl _ _).alloc (Nat.le_refl _) _⟩
  have HV := Lib.hid (decide_eq_true (p := HeadP p a b) ⟨h1, h2, h3, h4, h5⟩)
  go_enter Tryd.func74, Tryd.ntmps74
  go_wp2_with fail
  refine (isKey_i p _ _ (decide_eq_true h1) hs).mono ?_
  rintro e w1 ⟨rfl, rfl⟩
  clear h1
  go_wp2
  go_ret
  exact ⟨by rw [HV.out]; first | rfl | (simp; omega), (Below.refl _ _).alloc (Nat.le_refl _) _⟩

set_option maxHeartbeats 2000000 in
theorem headOk_s (p : ByteArray) (a b : Int) (w : World) (r : Bool) (hr : decide (HeadP p a b) = r) (hs : p.size ≤ 9223372036854775807) :
    Calls Tryd.prog 72 #[.agg (headA p a b)] w fun e w' => e = .returned (.bool r) ∧ Below w.heap.size w w' := by
  subst hr
  by_cases h1 : p.size = 32
  case neg =>
    have HV := Lib.hid (decide_eq_false (p := HeadP p a b) (fun c => h1 c.1))
    go_enter Tryd.func72, Tryd.ntmps72
    go_wp2_with fail
    refine (isKey_s p _ _ (decide_eq_false h1) hs).mono ?_
    rintro e w1 ⟨rfl, rfl⟩
    clear h1
    go_wp2
    go_ret
    exact ⟨by rw [HV.out]; first | rfl | (simp; omega), (Below.refl _ _).alloc (Nat.le_refl _) _⟩
  by_cases h2 : 0 ≤ a ∧ a ≤ 1000
  case neg =>
    have HV := Lib.hid (decide_eq_false (p := HeadP p a b) (fun c => h2 ⟨c.2.1, c.2.2.1⟩))
    have hd : (decide (0 ≤ a) && decide (a ≤ 1000)) = false := by simp; omega
    have H2 := Lib.hid (fun w => l5N_r a w false hd)
    go_enter Tryd.func72, Tryd.ntmps72
    go_wp2_with fail
    refine (isKey_s p _ _ (decide_eq_true h1) hs).mono ?_
    rintro e w1 ⟨rfl, rfl⟩
    clear h1 h2 hd
    go_wp2_with fail
    refine (H2.out _).mono ?_
    rintro e w1 ⟨rfl, rfl⟩
    go_wp2
    go_ret
    exact ⟨by rw [HV.out]; first | rfl | (simp; omega), (Below.refl _ _).alloc (Nat.le_refl _) _⟩
  have hd2 : (decide (0 ≤ a) && decide (a ≤ 1000)) = true := by simp; omega
  have HR := Lib.hid (show (decide (0 ≤ b) && decide (b ≤ 999)) = decide (HeadP p a b) by rw [← Bool.decide_and]; exact decide_eq_decide.2 (by unfold HeadP; omega))
  have H2 := Lib.hid (fun w => l5N_r a w true hd2)
  have H3 := Lib.hid (fun w => l1In_r b 0 999 w _ HR.out)
  go_enter Tryd.func72, Tryd.ntmps72
  go_wp2_with fail
  refine (isKey_s p _ _ (decide_eq_true h1) hs).mono ?_
  rintro e w1 ⟨rfl, rfl⟩
  clear h1 h2 hd2
  go_wp2_with fail
  refine (H2.out _).mono ?_
  rintro e w1 ⟨rfl, rfl⟩
  go_wp2_with fail
  refine (H3.out _).mono ?_
  rintro e w1 ⟨rfl, rfl⟩
  go_wp2
  go_ret
  exact ⟨rfl, (Below.refl _ _).alloc (Nat.le_refl _) _⟩

def MsgP (p : ByteArray) (a b : Int) (s : ByteArray) : Prop := HeadP p a b ∧ 32 ≤ s.size ∧ s.size ≤ 432
instance (p : ByteArray) (a b : Int) (s : ByteArray) : Decidable (MsgP p a b s) := inferInstanceAs (Decidable (_ ∧ _))
theorem below_box (w : World) (o : Obj) : Below w.heap.size w (w.alloc o) := (Below.refl _ _).alloc (Nat.le_refl _) _

set_option maxHeartbeats 2000000 in
theorem msgOk_i (p : ByteArray) (a b : Int) (s : ByteArray) (w : World) (r : Bool) (hr : decide (MsgP p a b s) = r) (hp : p.size ≤ 9223372036854775807) (hs : s.size ≤ 9223372036854775807) :
    Calls Tryd.prog 59 #[.agg (msgA p a b s)] w fun e w' => e = .returned (.bool r) ∧ Below w.heap.size w w' := by
  subst hr
  have hb0 := below_box w (.cells (msgA p a b s) 42)
  by_cases h1 : HeadP p a b
  case neg =>
    have HV := Lib.hid (decide_eq_false (p := MsgP p a b s) (fun c => h1 c.1))
    have H1 := Lib.hid (fun w => headOk_i p a b w false (decide_eq_false h1) hp)
    clear h1
    go_enter Tryd.func59, Tryd.ntmps59
    go_wp2_with fail
    refine (H1.out _).mono ?_
    rintro e w1 ⟨rfl, hb1⟩
    go_wp2
    go_ret
    exact ⟨by rw [HV.out]; rfl, hb0.trans (hb1.mono hb0.size)⟩
  have H1 := Lib.hid (fun w => headOk_i p a b w true (decide_eq_true h1) hp)
  have HR : Hid (decide (MsgP p a b s) = decide (32 ≤ s.size ∧ s.size ≤ 432)) := decide_eq_decide.2 (by unfold MsgP; simp [h1])
  clear h1
  by_cases h2 : 32 ≤ s.size
  case neg =>
    have h2' : ¬ (32 : Int) ≤ (s.size : Int) := by omega
    have HV := Lib.hid (HR.out.trans (decide_eq_false (p := 32 ≤ s.size ∧ s.size ≤ 432) (fun c => h2 c.1)))
    clear h2
    go_enter Tryd.func59, Tryd.ntmps59
    go_wp2_with fail
    refine (H1.out _).mono ?_
    rintro e w1 ⟨rfl, hb1⟩
    have c3 : w1.cell? ⟨w.heap.size, 3, none⟩ = some (.string s) := (hb1.cell (p := ⟨w.heap.size, 3, none⟩) (by simp)).trans (by simp [go_sem])
    go_wp2
    go_ret
    exact ⟨by rw [HV.out]; rfl, hb0.trans (hb1.mono hb0.size)⟩
  have h2' : (32 : Int) ≤ (s.size : Int) := by omega
  have HV := Lib.hid ((show decide ((s.size : Int) ≤ 432) = decide (32 ≤ s.size ∧ s.size ≤ 432) from decide_eq_decide.2 (by omega)).trans HR.out.symm)
  clear h2
  go_enter Tryd.func59, Tryd.ntmps59
  go_wp2_with fail
  refine (H1.out _).mono ?_
  rintro e w1 ⟨rfl, hb1⟩
  have c3 : w1.cell? ⟨w.heap.size, 3, none⟩ = some (.string s) := (hb1.cell (p := ⟨w.heap.size, 3, none⟩) (by simp)).trans (by simp [go_sem])
  go_wp2
  go_ret
  exact ⟨by rw [← HV.out]; rfl, hb0.trans (hb1.mono hb0.size)⟩

set_option maxHeartbeats 2000000 in
theorem msgOk_s (p : ByteArray) (a b : Int) (s : ByteArray) (w : World) (r : Bool) (hr : decide (MsgP p a b s) = r) (hp : p.size ≤ 9223372036854775807) (hs : s.size ≤ 9223372036854775807) :
    Calls Tryd.prog 55 #[.agg (msgA p a b s)] w fun e w' => e = .returned (.bool r) ∧ Below w.heap.size w w' := by
  subst hr
  have hb0 := below_box w (.cells (msgA p a b s) 42)
  by_cases h1 : HeadP p a b
  case neg =>
    have HV := Lib.hid (decide_eq_false (p := MsgP p a b s) (fun c => h1 c.1))
    have H1 := Lib.hid (fun w => headOk_s p a b w false (decide_eq_false h1) hp)
    clear h1
    go_enter Tryd.func55, Tryd.ntmps55
    go_wp2_with fail
    refine (H1.out _).mono ?_
    rintro e w1 ⟨rfl, hb1⟩
    go_wp2
    go_ret
    exact ⟨by rw [HV.out]; rfl, hb0.trans (hb1.mono hb0.size)⟩
  have H1 := Lib.hid (fun w => headOk_s p a b w true (decide_eq_true h1) hp)
  have HR : Hid ((decide ((32 : Int) ≤ (s.size : Int)) && decide ((s.size : Int) ≤ 432)) = decide (MsgP p a b s)) := by
    refine Lib.hid ?_
    rw [← Bool.decide_and]
    exact decide_eq_decide.2 (by unfold MsgP; simp [h1]; omega)
  have H2 := Lib.hid (fun w => l1In_r (s.size : Int) 32 432 w _ HR.out)
  clear h1 HR
  go_enter Tryd.func55, Tryd.ntmps55
  go_wp2_with fail
  refine (H1.out _).mono ?_
  rintro e w1 ⟨rfl, hb1⟩
  have c3 : w1.cell? ⟨w.heap.size, 3, none⟩ = some (.string s) := (hb1.cell (p := ⟨w.heap.size, 3, none⟩) (by simp)).trans (by simp [go_sem])
  go_wp2_with fail
  refine (H2.out _).mono ?_
  rintro e w2 ⟨rfl, rfl⟩
  go_wp2
  go_ret
  exact ⟨rfl, hb0.trans (hb1.mono hb0.size)⟩

set_option maxHeartbeats 2000000 in
theorem initOk_i (p q : ByteArray) (a : Int) (w : World) (r : Bool) (hr : decide (InitP p q a) = r) (hp : p.size ≤ 9223372036854775807) (hq : q.size ≤ 9223372036854775807) :
    Calls Tryd.prog 75 #[.agg (initA p q a)] w fun e w' => e = .returned (.bool r) ∧ Below w.heap.size w w' := by
  subst hr
  have hb0 := below_box w (.cells (initA p q a) 39)
  by_cases h1 : p.size = 32
  case neg =>
    have HV := Lib.hid (decide_eq_false (p := InitP p q a) (fun c => h1 c.1))
    go_enter Tryd.func75, Tryd.ntmps75
    go_wp2_with fail
    refine (isKey_i p _ _ (decide_eq_false h1) hp).mono ?_
    rintro e w1 ⟨rfl, rfl⟩
    clear h1
    go_wp2
    go_ret
    exact ⟨by rw [HV.out]; rfl, hb0⟩
  by_cases h2 : q.size = 32
  case neg =>
    have HV := Lib.hid (decide_eq_false (p := InitP p q a) (fun c => h2 c.2.1))
    go_enter Tryd.func75, Tryd.ntmps75
    go_wp2_with fail
    refine (isKey_i p _ _ (decide_eq_true h1) hp).mono ?_
    rintro e w1 ⟨rfl, rfl⟩
    go_wp2_with fail
    refine (isKey_i q _ _ (decide_eq_false h2) hq).mono ?_
    rintro e w1 ⟨rfl, rfl⟩
    clear h1 h2
    go_wp2
    go_ret
    exact ⟨by rw [HV.out]; rfl, hb0⟩
  by_cases h3 : 0 ≤ a
  case neg =>
    have HV := Lib.hid (decide_eq_false (p := InitP p q a) (fun c => h3 c.2.2.1))
    go_enter Tryd.func75, Tryd.ntmps75
    go_wp2_with fail
    refine (isKey_i p _ _ (decide_eq_true h1) hp).mono ?_
    rintro e w1 ⟨rfl, rfl⟩
    go_wp2_with fail
    refine (isKey_i q _ _ (decide_eq_true h2) hq).mono ?_
    rintro e w1 ⟨rfl, rfl⟩
    clear h1 h2
    go_wp2
    go_ret
    exact ⟨by rw [HV.out]; rfl, hb0⟩
  have HV := Lib.hid (show decide (a ≤ 999) = decide (InitP p q a) from decide_eq_decide.2 (by unfold InitP; simp [h1, h2, h3]))
  go_enter Tryd.func75, Tryd.ntmps75
  go_wp2_with fail
  refine (isKey_i p _ _ (decide_eq_true h1) hp).mono ?_
  rintro e w1 ⟨rfl, rfl⟩
  go_wp2_with fail
  refine (isKey_i q _ _ (decide_eq_true h2) hq).mono ?_
  rintro e w1 ⟨rfl, rfl⟩
  clear h1 h2
  go_wp2
  go_ret
  exact ⟨by rw [← HV.out]; rfl, hb0⟩

set_option maxHeartbeats 2000000 in
theorem initOk_s (p q : ByteArray) (a : Int) (w : World) (r : Bool) (hr : decide (InitP p q a) = r) (hp : p.size ≤ 9223372036854775807) (hq : q.size ≤ 9223372036854775807) :
    Calls Tryd.prog 56 #[.agg (initA p q a)] w fun e w' => e = .returned (.bool r) ∧ Below w.heap.size w w' := by
  subst hr
  have hb0 := below_box w (.cells (initA p q a) 39)
  by_cases h1 : p.size = 32
  case neg =>
    have HV := Lib.hid (decide_eq_false (p := InitP p q a) (fun c => h1 c.1))
    go_enter Tryd.func56, Tryd.ntmps56
    go_wp2_with fail
    refine (isKey_s p _ _ (decide_eq_false h1) hp).mono ?_
    rintro e w1 ⟨rfl, rfl⟩
    clear h1
    go_wp2
    go_ret
    exact ⟨by rw [HV.out]; rfl, hb0⟩
  by_cases h2 : q.size = 32
  case neg =>
    have HV := Lib.hid (decide_eq_false (p := InitP p q a) (fun c => h2 c.2.1))
    go_enter Tryd.func56, Tryd.ntmps56
    go_wp2_with fail
    refine (isKey_s p _ _ (decide_eq_true h1) hp).mono ?_
    rintro e w1 ⟨rfl, rfl⟩
    go_wp2_with fail
    refine (isKey_s q _ _ (decide_eq_false h2) hq).mono ?_
    rintro e w1 ⟨rfl, rfl⟩
    clear h1 h2
    go_wp2
    go_ret
    exact ⟨by rw [HV.out]; rfl, hb0⟩
  have HR := Lib.hid (show (decide (0 ≤ a) && decide (a ≤ 999)) = decide (InitP p q a) by rw [← Bool.decide_and]; exact decide_eq_decide.2 (by unfold InitP; simp [h1, h2]))
  have H3 := Lib.hid (fun w => l1In_r a 0 999 w _ HR.out)
  clear HR
  go_enter Tryd.func56, Tryd.ntmps56
  go_wp2_with fail
  refine (isKey_s p _ _ (decide_eq_true h1) hp).mono ?_
  rintro e w1 ⟨rfl, rfl⟩
  go_wp2_with fail
  refine (isKey_s q _ _ (decide_eq_true h2) hq).mono ?_
  rintro e w1 ⟨rfl, rfl⟩
  clear h1 h2
  go_wp2_with fail
  refine (H3.out _).mono ?_
  rintro e w1 ⟨rfl, rfl⟩
  go_wp2
  go_ret
  exact ⟨rfl, hb0⟩

/-- What is left of l bytes behind n more: -1 if there are not so many. -/
def szS (l : Int) (n : Nat) : Int := if l - n < 0 then -1 else l - n
theorem szS_no {l : Int} {n : Nat} (h : l - n < 0) : szS l n = -1 := if_pos h
theorem szS_yes {l : Int} {n : Nat} (h : ¬ l - n < 0) : szS l n = l - n := if_neg h
theorem wrap_in {x : Int} (h0 : -9223372036854775808 ≤ x) (h1 : x ≤ 9223372036854775807) : IntKind.i64.wrap x = x := by rw [IntKind.wrap_i64]; omega

end Go.Proofs.YtmekpinhhmknnaaDoor

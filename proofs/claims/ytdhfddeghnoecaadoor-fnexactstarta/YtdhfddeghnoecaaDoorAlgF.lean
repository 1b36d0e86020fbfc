/- The field's operations on strings: the laws of a ring. -/
import Derived.Test.YtdhfddeghnoecaaDoorLim8
namespace Go.Proofs.YtdhfddeghnoecaaDoor
open Go.RowKit Go.My Go.Lib
set_option linter.unusedVariables false

def okS (a : ByteArray) : Prop := fldOk a.data.toList
instance (a : ByteArray) : Decidable (okS a) := inferInstanceAs (Decidable (fldOk _))
def nS (a : ByteArray) : Nat := leN a.data.toList
def opS (f : Nat → Nat → Nat) (a b : ByteArray) : ByteArray := str (opV f a.data.toList b.data.toList)
def fM (x y : Nat) : Nat := x * y % P25n
def fA (x y : Nat) : Nat := (x + y) % P25n
def fD (x y : Nat) : Nat := (x + (P25n - y)) % P25n
theorem fM_lt (x y : Nat) : fM x y < P25n := Nat.mod_lt _ (by decide)
theorem fA_lt (x y : Nat) : fA x y < P25n := Nat.mod_lt _ (by decide)
theorem fD_lt (x y : Nat) : fD x y < P25n := Nat.mod_lt _ (by decide)
theorem opS_pos (f : Nat → Nat → Nat) {a b : ByteArray} (ha : okS a) (hb : okS b) : opS f a b = str (leB (f (nS a) (nS b)) 32) := by
  unfold opS opV nS
  rw [if_pos (show fldOk a.data.toList ∧ fldOk b.data.toList from ⟨ha, hb⟩)]
theorem opS_neg (f : Nat → Nat → Nat) {a b : ByteArray} (h : ¬ (okS a ∧ okS b)) : opS f a b = str [] := by
  unfold opS opV
  rw [if_neg (show ¬ (fldOk a.data.toList ∧ fldOk b.data.toList) from h)]
theorem leS_n (n : Nat) (h : n < P25n) : nS (str (leB n 32)) = n := by
  unfold nS
  rw [str_list, leN_leB _ _ (Nat.lt_trans h (by decide))]
theorem leS_ok (n : Nat) (h : n < P25n) : okS (str (leB n 32)) := by
  refine ⟨by rw [str_list, leB_len], ?_⟩
  have := leS_n n h
  unfold nS at this
  rw [this]
  exact h
theorem opS_ok {f : Nat → Nat → Nat} (hf : ∀ x y, f x y < P25n) {a b : ByteArray} (ha : okS a) (hb : okS b) : okS (opS f a b) := by rw [opS_pos f ha hb]; exact leS_ok _ (hf _ _)
theorem opS_n {f : Nat → Nat → Nat} (hf : ∀ x y, f x y < P25n) {a b : ByteArray} (ha : okS a) (hb : okS b) : nS (opS f a b) = f (nS a) (nS b) := by rw [opS_pos f ha hb]; exact leS_n _ (hf _ _)
theorem opS_eq {f g : Nat → Nat → Nat} {a b c d : ByteArray} (ha : okS a) (hb : okS b) (hc : okS c) (hd : okS d) (h : f (nS a) (nS b) = g (nS c) (nS d)) : opS f a b = opS g c d := by rw [opS_pos f ha hb, opS_pos g hc hd, h]
theorem okS_size {a : ByteArray} (h : okS a) : a.size = 32 := by rw [← len_data]; exact h.1
theorem okS_eq {a b : ByteArray} (ha : okS a) (hb : okS b) (h : nS a = nS b) : a = b := by
  have e1 := leB_leN a.data.toList
  have e2 := leB_leN b.data.toList
  rw [ha.1] at e1
  rw [hb.1] at e2
  unfold nS at h
  rw [← str_of a, ← str_of b, ← e1, ← e2, h]
theorem mul_comm' {a b : ByteArray} (ha : okS a) (hb : okS b) : opS fM b a = opS fM a b := opS_eq hb ha ha hb (by unfold fM; rw [Nat.mul_comm])
theorem add_comm' {a b : ByteArray} (ha : okS a) (hb : okS b) : opS fA b a = opS fA a b := opS_eq hb ha ha hb (by unfold fA; rw [Nat.add_comm])
theorem mul_assoc' {a b c : ByteArray} (ha : okS a) (hb : okS b) (hc : okS c) : opS fM a (opS fM b c) = opS fM (opS fM a b) c :=
  opS_eq ha (opS_ok fM_lt hb hc) (opS_ok fM_lt ha hb) hc (by rw [opS_n fM_lt hb hc, opS_n fM_lt ha hb]; unfold fM; simp only [Nat.mul_mod_mod, Nat.mod_mul_mod, Nat.mul_assoc])
theorem add_assoc' {a b c : ByteArray} (ha : okS a) (hb : okS b) (hc : okS c) : opS fA a (opS fA b c) = opS fA (opS fA a b) c :=
  opS_eq ha (opS_ok fA_lt hb hc) (opS_ok fA_lt ha hb) hc (by rw [opS_n fA_lt hb hc, opS_n fA_lt ha hb]; unfold fA; simp only [Nat.add_mod_mod, Nat.mod_add_mod, Nat.add_assoc])
theorem mul_add' {a b c : ByteArray} (ha : okS a) (hb : okS b) (hc : okS c) : opS fM a (opS fA b c) = opS fA (opS fM a b) (opS fM a c) :=
  opS_eq ha (opS_ok fA_lt hb hc) (opS_ok fM_lt ha hb) (opS_ok fM_lt ha hc) (by rw [opS_n fA_lt hb hc, opS_n fM_lt ha hb, opS_n fM_lt ha hc]; unfold fM fA; simp only [Nat.mul_mod_mod, Nat.add_mod_mod, Nat.mod_add_mod, Nat.mul_add])
theorem addSub' {a b : ByteArray} (ha : okS a) (hb : okS b) : opS fD (opS fA a b) b = a := by
  refine okS_eq (opS_ok fD_lt (opS_ok fA_lt ha hb) hb) ha ?_
  rw [opS_n fD_lt (opS_ok fA_lt ha hb) hb, opS_n fA_lt ha hb]
  have h1 : nS a < P25n := ha.2
  have h2 : nS b < P25n := hb.2
  unfold fD fA P25n at *
  omega
theorem subAdd' {a b : ByteArray} (ha : okS a) (hb : okS b) : opS fA (opS fD a b) b = a := by
  refine okS_eq (opS_ok fA_lt (opS_ok fD_lt ha hb) hb) ha ?_
  rw [opS_n fA_lt (opS_ok fD_lt ha hb) hb, opS_n fD_lt ha hb]
  have h1 : nS a < P25n := ha.2
  have h2 : nS b < P25n := hb.2
  unfold fD fA P25n at *
  omega
theorem isE (a : ByteArray) : a.toList.isEmpty = decide (a.size = 0) := by
  rw [ByteArray.toList_eq, ← len_data]
  cases a.data.toList <;> simp
theorem opS_neg' (f : Nat → Nat → Nat) {a b : ByteArray} (h : ¬ (okS a ∧ okS b)) : ∃ E : ByteArray, opS f a b = E ∧ E.toList.isEmpty = true := ⟨_, opS_neg f h, by rw [isE]; rfl⟩
theorem okS_ne {a : ByteArray} (h : okS a) : a.toList.isEmpty = false := by rw [isE, okS_size h]; rfl

end Go.Proofs.YtdhfddeghnoecaaDoor

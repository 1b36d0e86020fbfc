import Derived.Test.YtfbcmckepdjdkaaDoorGLim8
import Derived.Test.YtfbcmckepdjdkaaDoorGM1
/- The field's operations on strings: the laws of a ring. -/
namespace Go.Proofs.YtfbcmckepdjdkaaDoor
open Go.RowKit Go.My Go.Lib
set_option linter.unusedVariables false

def okS (a : ByteArray) : Prop := fldOk a.data.toList
instance (a : ByteArray) : Decidable (okS a) := inferInstanceAs (Decidable (fldOk _))
def nS (a : ByteArray) : Nat := leN a.data.toList
def opS (f : Nat → Nat → Nat) (a b : ByteArray) : ByteArray := str (opV f a.data.toList b.data.toList)
def fM (x y : Nat) : Nat := x * y % P25n
def fA (x y : Nat) : Nat := (x + y) % P25n
def fD (x y : Nat) : Nat := (x + (P25n - y)) % P25n
theorem fM_lt (x y : Nat) : fM x y < P25n := Nat.mod_lt _ (by decide)
theorem fA_lt (x y : Nat) : fA x y < P25n := Nat.mod_lt _ (by decide)
theorem fD_lt (x y : Nat) : fD x y < P25n := Nat.mod_lt _ (by decide)
theorem opS_pos (f : Nat → Nat → Nat) {a b : ByteArray} (ha : okS a) (hb : okS b) : opS f a b = str (leB (f (nS a) (nS b)) 32) := by
  unfold opS opV nS
  rw [if_pos (show fldOk a.data.toList ∧ fldOk b.data.toList from ⟨ha, hb⟩)]
theorem opS_neg (f : Nat → Nat → Nat) {a b : ByteArray} (h : ¬ (okS a ∧ okS b)) : opS f a b = str [] := by
  unfold opS opV
  rw [if_neg (show ¬ (fldOk a.data.toList ∧ fldOk b.data.toList) from h)]
theorem leS_n (n : Nat) (h : n < P25n) : nS (str (leB n 32)) = n := by
  unfold nS
  rw [str_list, leN_leB _ _ (Nat.lt_trans h (by decide))]
theorem leS_ok (n : Nat) (h : n < P25n) : okS (str (leB n 32)) := by
  refine ⟨by rw [str_list, leB_len], ?_⟩
  have := leS_n n h
  unfold nS at this
  rw [this]
  exact h
theorem opS_ok {f : Nat → Nat → Nat} (hf : ∀ x y, f x y < P25n) {a b : ByteArray} (ha : okS a) (hb : okS b) : okS (opS f a b) := by rw [opS_pos f ha hb]; exact leS_ok _ (hf _ _)
theorem opS_n {f : Nat → Nat → Nat} (hf : ∀ x y, f x y < P25n) {a b : ByteArray} (ha : okS a) (hb : okS b) : nS (opS f a b) = f (nS a) (nS b) := by rw [opS_pos f ha hb]; exact leS_n _ (hf _ _)
theorem opS_eq {f g : Nat → Nat → Nat} {a b c d : ByteArray} (ha : okS a) (hb : okS b) (hc : okS c) (hd : okS d) (h : f (nS a) (nS b) = g (nS c) (nS d)) : opS f a b = opS g c d := by rw [opS_pos f ha hb, opS_pos g hc hd, h]
theorem okS_size {a : ByteArray} (h : okS a) : a.size = 32 := by rw [← len_data]; exact h.1
theorem okS_eq {a b : ByteArray} (ha : okS a) (hb : okS b) (h : nS a = nS b) : a = b := by
  have e1 := leB_leN a.data.toList
  have e2 := leB_leN b.data.toList
  rw [ha.1] at e1
  rw [hb.1] at e2
  unfold nS at h
  rw [← str_of a, ← str_of b, ← e1, ← e2, h]
theorem mul_comm' {a b : ByteArray} (ha : okS a) (hb : okS b) : opS fM b a = opS fM a b := opS_eq hb ha ha hb (by unfold fM; rw [Nat.mul_comm])
theorem add_comm' {a b : ByteArray} (ha : okS a) (hb : okS b) : opS fA b a = opS fA a b := opS_eq hb ha ha hb (by unfold fA; rw [Nat.add_comm])
theorem mul_assoc' {a b c : ByteArray} (ha : okS a) (hb : okS b) (hc : okS c) : opS fM a (opS fM b c) = opS fM (opS fM a b) c :=
  opS_eq ha (opS_ok fM_lt hb hc) (opS_ok fM_lt ha hb) hc (by rw [opS_n fM_lt hb hc, opS_n fM_lt ha hb]; unfold fM; simp only [Nat.mul_mod_mod, Nat.mod_mul_mod, Nat.mul_assoc])
theorem add_assoc' {a b c : ByteArray} (ha : okS a) (hb : okS b) (hc : okS c) : opS fA a (opS fA b c) = opS fA (opS fA a b) c :=
  opS_eq ha (opS_ok fA_lt hb hc) (opS_ok fA_lt ha hb) hc (by rw [opS_n fA_lt hb hc, opS_n fA_lt ha hb]; unfold fA; simp only [Nat.add_mod_mod, Nat.mod_add_mod, Nat.add_assoc])
theorem mul_add' {a b c : ByteArray} (ha : okS a) (hb : okS b) (hc : okS c) : opS fM a (opS fA b c) = opS fA (opS fM a b) (opS fM a c) :=
  opS_eq ha (opS_ok fA_lt hb hc) (opS_ok fM_lt ha hb) (opS_ok fM_lt ha hc) (by rw [opS_n fA_lt hb hc, opS_n fM_lt ha hb, opS_n fM_lt ha hc]; unfold fM fA; simp only [Nat.mul_mod_mod, Nat.add_mod_mod, Nat.mod_add_mod, Nat.mul_add])
theorem addSub' {a b : ByteArray} (ha : okS a) (hb : okS b) : opS fD (opS fA a b) b = a := by
  refine okS_eq (opS_ok fD_lt (opS_ok fA_lt ha hb) hb) ha ?_
  rw [opS_n fD_lt (opS_ok fA_lt ha hb) hb, opS_n fA_lt ha hb]
  have h1 : nS a < P25n := ha.2
  have h2 : nS b < P25n := hb.2
  unfold fD fA P25n at *
  omega
theorem subAdd' {a b : ByteArray} (ha : okS a) (hb : okS b) : opS fA (opS fD a b) b = a := by
  refine okS_eq (opS_ok fA_lt (opS_ok fD_lt ha hb) hb) ha ?_
  rw [opS_n fA_lt (opS_ok fD_lt ha hb) hb, opS_n fD_lt ha hb]
  have h1 : nS a < P25n := ha.2
  have h2 : nS b < P25n := hb.2
  unfold fD fA P25n at *
  omega
theorem isE (a : ByteArray) : a.toList.isEmpty = decide (a.size = 0) := by
  rw [ByteArray.toList_eq, ← len_data]
  cases a.data.toList <;> simp
theorem opS_neg' (f : Nat → Nat → Nat) {a b : ByteArray} (h : ¬ (okS a ∧ okS b)) : ∃ E : ByteArray, opS f a b = E ∧ E.toList.isEmpty = true := ⟨_, opS_neg f h, by rw [isE]; rfl⟩
theorem okS_ne {a : ByteArray} (h : okS a) : a.toList.isEmpty = false := by rw [isE, okS_size h]; rfl

end Go.Proofs.YtfbcmckepdjdkaaDoor

/- The specification's FieldOk on strings that were drawn. -/
namespace Go.Proofs.YtfbcmckepdjdkaaDoor
open Go.RowKit Go.My Go.Lib
set_option linter.unusedVariables false

end Go.Proofs.YtfbcmckepdjdkaaDoor

/- The field's nought, opposites. -/
namespace Go.Proofs.YtfbcmckepdjdkaaDoor
open Go.RowKit Go.My Go.Lib
set_option linter.unusedVariables false

theorem zeroS_eq : str (List.replicate 32 0) = str (leB 0 32) := by rw [show leB 0 32 = List.replicate 32 0 by decide +kernel]
theorem zeroS_ok : okS (str (List.replicate 32 0)) := by rw [zeroS_eq]; exact leS_ok 0 (by decide)
theorem zeroS_n : nS (str (List.replicate 32 0)) = 0 := by rw [zeroS_eq]; exact leS_n 0 (by decide)
theorem opp_mul (p x y : Nat) (hx : x ≤ p) (hy : y ≤ p) : (p - x) * (p - y) % p = x * y % p := by
  obtain ⟨x', hx'⟩ : ∃ x', p = x + x' := ⟨p - x, by omega⟩
  obtain ⟨y', hy'⟩ : ∃ y', p = y + y' := ⟨p - y, by omega⟩
  have e1 : p - x = x' := by omega
  have e2 : p - y = y' := by omega
  rw [e1, e2]
  have h1 : x' * y' + p * y = x * y + p * x' := by
    have a1 : p * y = x * y + x' * y := by rw [hx', Nat.add_mul]
    have a2 : p * x' = y * x' + y' * x' := by rw [hy', Nat.add_mul]
    rw [a1, a2, Nat.mul_comm y x', Nat.mul_comm y' x']
    omega
  have h2 := congrArg (· % p) h1
  simp only [Nat.add_mul_mod_self_left] at h2
  exact h2
theorem sub_opp {Z a b : ByteArray} (oz : okS Z) (nz : nS Z = 0) (oa : okS a) (ob : okS b) : opS fD Z (opS fD a b) = opS fD b a := by
  refine opS_eq oz (opS_ok fD_lt oa ob) ob oa ?_
  rw [opS_n fD_lt oa ob, nz]
  have h1 : nS a < P25n := oa.2
  have h2 : nS b < P25n := ob.2
  unfold fD P25n at *
  omega
theorem sub_self' {Z a : ByteArray} (oz : okS Z) (nz : nS Z = 0) (oa : okS a) : opS fD a a = Z := by
  refine okS_eq (opS_ok fD_lt oa oa) oz ?_
  rw [opS_n fD_lt oa oa, nz]
  have h1 : nS a < P25n := oa.2
  unfold fD P25n at *
  omega
theorem mul_opp {Z a b : ByteArray} (oz : okS Z) (nz : nS Z = 0) (oa : okS a) (ob : okS b) : opS fM (opS fD Z a) (opS fD Z b) = opS fM a b := by
  refine opS_eq (opS_ok fD_lt oz oa) (opS_ok fD_lt oz ob) oa ob ?_
  rw [opS_n fD_lt oz oa, opS_n fD_lt oz ob, nz]
  unfold fM fD
  rw [Nat.zero_add, Nat.zero_add, Nat.mul_mod_mod, Nat.mod_mul_mod]
  exact opp_mul _ _ _ (Nat.le_of_lt oa.2) (Nat.le_of_lt ob.2)

end Go.Proofs.YtfbcmckepdjdkaaDoor

/- The field's inverse on strings. -/
namespace Go.Proofs.YtfbcmckepdjdkaaDoor
open Go.RowKit Go.My Go.Lib
set_option linter.unusedVariables false

def invS (a : ByteArray) : ByteArray := str (invV a.data.toList)
def oneS : ByteArray := str (leB 1 32)
theorem oneS_ok : okS oneS := leS_ok 1 (by decide)
theorem oneS_n : nS oneS = 1 := leS_n 1 (by decide)
theorem P25_eq : P25n = P25 := by decide
theorem E25_succ : E25 + 1 = P25 - 1 := by decide
theorem fermatE (x : Nat) (h : x % P25n ≠ 0) : x ^ E25 * x % P25n = 1 := by
  rw [← Nat.pow_succ, Nat.succ_eq_add_one, E25_succ, P25_eq]
  rw [P25_eq] at h
  exact fermat1 P25 x primP h
theorem invS_pos {a : ByteArray} (h : okS a) : invS a = str (leB (nS a ^ E25 % P25n) 32) := by
  unfold invS invV nS
  rw [if_pos (show fldOk a.data.toList from h)]
theorem invS_neg {a : ByteArray} (h : ¬ okS a) : ∃ E : ByteArray, invS a = E ∧ E.toList.isEmpty = true := by
  refine ⟨str [], ?_, by rw [isE]; rfl⟩
  unfold invS invV
  rw [if_neg (show ¬ fldOk a.data.toList from h)]
theorem modPp_lt (x : Nat) : x % P25n < P25n := Nat.mod_lt _ (by decide)
theorem invS_ok {a : ByteArray} (h : okS a) : okS (invS a) := by rw [invS_pos h]; exact leS_ok _ (modPp_lt _)
theorem invS_n {a : ByteArray} (h : okS a) : nS (invS a) = nS a ^ E25 % P25n := by rw [invS_pos h]; exact leS_n _ (modPp_lt _)
theorem powE_zero : (0 : Nat) ^ E25 % P25n = 0 := by
  rw [Nat.zero_pow (by decide : 0 < E25)]
  decide
theorem inv_zero {a Z : ByteArray} (oz : okS Z) (nz : nS Z = 0) (h : a = Z) : invS a = Z := by
  subst h
  refine okS_eq (invS_ok oz) oz ?_
  rw [invS_n oz, nz, powE_zero]
theorem mul_inv' {a Z : ByteArray} (oz : okS Z) (nz : nS Z = 0) (oa : okS a) (h : a ≠ Z) : opS fM a (invS a) = oneS := by
  have hn : nS a ≠ 0 := fun e => h (okS_eq oa oz (e.trans nz.symm))
  refine okS_eq (opS_ok fM_lt oa (invS_ok oa)) oneS_ok ?_
  rw [opS_n fM_lt oa (invS_ok oa), invS_n oa, oneS_n]
  unfold fM
  rw [Nat.mul_mod_mod, Nat.mul_comm]
  refine fermatE _ ?_
  rw [Nat.mod_eq_of_lt (show nS a < P25n from oa.2)]
  exact hn
theorem inv_twice (x v : Nat) (hx : x < P25n) (h : v * x % P25n = 1) (hE : v ^ E25 * v % P25n = 1) : v ^ E25 % P25n = x := by
  generalize v ^ E25 = u at *
  have h1 : u * v * x % P25n = x := by rw [Nat.mul_mod, hE, Nat.one_mul, Nat.mod_mod, Nat.mod_eq_of_lt hx]
  have h2 : u * v * x % P25n = u % P25n := by rw [Nat.mul_assoc, Nat.mul_mod, h, Nat.mul_one, Nat.mod_mod]
  rw [← h2, h1]
theorem inv_inv' {a Z : ByteArray} (oz : okS Z) (nz : nS Z = 0) (oa : okS a) (h : a ≠ Z) : invS (invS a) = a := by
  have hn : nS a ≠ 0 := fun e => h (okS_eq oa oz (e.trans nz.symm))
  refine okS_eq (invS_ok (invS_ok oa)) oa ?_
  have hm := congrArg nS (mul_inv' oz nz oa h)
  rw [opS_n fM_lt oa (invS_ok oa), oneS_n] at hm
  unfold fM at hm
  rw [Nat.mul_comm] at hm
  rw [invS_n (invS_ok oa)]
  refine inv_twice _ _ oa.2 hm (fermatE _ ?_)
  intro e
  rw [Nat.mul_mod, e, Nat.zero_mul] at hm
  exact absurd hm (by decide)
theorem mul_one' {a : ByteArray} (oa : okS a) : opS fM a oneS = a := by
  refine okS_eq (opS_ok fM_lt oa oneS_ok) oa ?_
  rw [opS_n fM_lt oa oneS_ok, oneS_n]
  unfold fM
  rw [Nat.mul_one, Nat.mod_eq_of_lt (show nS a < P25n from oa.2)]
theorem add_zero' {a Z : ByteArray} (oz : okS Z) (nz : nS Z = 0) (oa : okS a) : opS fA a Z = a := by
  refine okS_eq (opS_ok fA_lt oa oz) oa ?_
  rw [opS_n fA_lt oa oz, nz]
  unfold fA
  rw [Nat.add_zero, Nat.mod_eq_of_lt (show nS a < P25n from oa.2)]
end Go.Proofs.YtfbcmckepdjdkaaDoor

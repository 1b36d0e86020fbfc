/- What is drawn of bytes of messages and envelopes: bounds alone. -/
import Derived.Test.YtmolcpojdojmlaaDrawB
import Derived.Test.YtmolcpojdojmlaaRdM9
namespace Go.Proofs.Ytmolcpojdojmlaa
open Go.RowKit Go.My Go.Lib
set_option linter.unusedVariables false
set_option maxRecDepth 100000

theorem Rd.pastB {B g : Nat} {w w' : World} (h : Rd B w g) (hb : Below w.heap.size w w') : Rd B w' g := h.kept (r := none) ⟨hb.os, hb.tape, hb.output, hb.size, fun k hk _ => hb.block k hk⟩ (by simp) (by simp)
theorem RdCode.wide {B C : Nat} {w : World} {a : Option Addr} {len : Nat} (h : RdCode B w a len) (hc : B ≤ C) : RdCode C w a len := by
  obtain ⟨h1, h2⟩ := h
  refine ⟨h1, ?_⟩
  rcases h2 with h2 | ⟨b, off, e, hb, hx⟩
  · exact .inl h2
  · exact .inr ⟨b, off, e, by omega, hx⟩
theorem envSizes {s : ByteArray} (h : RdEP s) {f t : Int} {z : Bool} {p q : ByteArray} {o : Int} {u : ByteArray} {a b : Int} {x : ByteArray} (e : rdEA s = envA f t z p q o u a b x) (hs : s.size ≤ 1048576) : p.size ≤ 1048576 ∧ q.size ≤ 1048576 ∧ u.size ≤ 1048576 ∧ x.size ≤ 1048576 := by
  have key : ∀ {k : Nat} {z : Bool} {p q : ByteArray} {o : Int}, EnvK s z p q o (cut s k s.size) → p.size ≤ 1048576 → q.size ≤ 1048576 → p.size ≤ 1048576 ∧ q.size ≤ 1048576 ∧ (cut (cut s k s.size) 0 32).size ≤ 1048576 ∧ (cut (cut s k s.size) 38 (cut s k s.size).size).size ≤ 1048576 := fun {k z p q o} hk h1 h2 => by
    have hz := cut_size s k s.size (Nat.le_refl _)
    have := hk.1.1
    exact ⟨h1, h2, by rw [cut_size _ _ _ (by omega)]; omega, by rw [cut_size _ _ _ (Nat.le_refl _)]; omega⟩
  rcases h with d | d
  · rw [rdEA_F d] at e
    obtain ⟨_, _, _, rfl, rfl, _, rfl, _, _, rfl⟩ := envA_inj e
    exact key d.2.2 (Nat.zero_le _) (Nat.zero_le _)
  · rw [rdEA_T d] at e
    obtain ⟨_, _, _, rfl, rfl, _, rfl, _, _, rfl⟩ := envA_inj e
    have := d.1
    exact key d.2.2 (by rw [cut_size _ _ _ (by omega)]; omega) (by rw [cut_size _ _ _ (by omega)]; omega)
theorem msgV_size (p : ByteArray) (a b : Int) (x : ByteArray) : (msgV p a b x).size ≤ 485 := by
  by_cases h : MsgP p a b x
  · rw [msgV_yes h]; exact msgB_size h
  · rw [msgV_no h]; exact Nat.zero_le _
theorem envV_size (f t : Int) (z : Bool) (p q : ByteArray) (o : Int) (u : ByteArray) (a b : Int) (x : ByteArray) : (envV f t z p q o u a b x).size ≤ 600 := by
  by_cases h : EnvP f t z p q o u a b x
  · rw [envV_yes h]
    have h1 := msgB_size h.2.2.2.1
    have h2 := nb_size f 1 (by omega)
    have h3 := nb_size t 1 (by omega)
    have h4 : (hasB z p q o).size ≤ 72 := by
      cases z with
      | false => exact (by decide : 1 ≤ 72)
      | true =>
        have := initB_size (p := p) (q := q) (o := o) h.2.2.2.2
        show (ByteArray.mk #[1] ++ initB p q o).size ≤ 72
        rw [ByteArray.size_append, sz1]
        omega
    unfold envB
    rw [ByteArray.size_append, ByteArray.size_append, ByteArray.size_append]
    omega
  · rw [envV_no h]; exact Nat.zero_le _

end Go.Proofs.Ytmolcpojdojmlaa

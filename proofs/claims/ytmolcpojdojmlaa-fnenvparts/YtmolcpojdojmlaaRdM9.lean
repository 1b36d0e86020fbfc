/- What is read of a message's bytes, and of an envelope's, is the message, the envelope. -/
import Derived.Test.YtmolcpojdojmlaaRdM8
namespace Go.Proofs.Ytmolcpojdojmlaa
open Go.RowKit Go.My Go.Lib
set_option linter.unusedVariables false

theorem nb_list2 {n : Int} (h0 : 0 ≤ n) (h1 : n < 65536) : (nb n 2).data.toList = beL n.toNat 2 := by
  unfold nb
  rw [str_list, numB_yes ⟨by omega, by omega, h0, by simp; omega⟩]
  rfl
theorem nb_list1 {n : Int} (h0 : 0 ≤ n) (h1 : n < 256) : (nb n 1).data.toList = beL n.toNat 1 := by
  unfold nb
  rw [str_list, numB_yes ⟨by omega, by omega, h0, by simp; omega⟩]
  rfl
theorem nb_size2 {n : Int} (h0 : 0 ≤ n) (h1 : n < 65536) : (nb n 2).size = 2 := by rw [← len_data, nb_list2 h0 h1, beL_len]
theorem nb_size1 {n : Int} (h0 : 0 ≤ n) (h1 : n < 256) : (nb n 1).size = 1 := by rw [← len_data, nb_list1 h0 h1, beL_len]
theorem nb_num2 {n : Int} (h0 : 0 ≤ n) (h1 : n < 65536) : ((numOf (nb n 2).data.toList : Nat) : Int) = n := by
  rw [nb_list2 h0 h1, numOf_beL]
  have : n.toNat % 256 ^ 2 = n.toNat := Nat.mod_eq_of_lt (by omega)
  omega
theorem nb_num1 {n : Int} (h0 : 0 ≤ n) (h1 : n < 256) : ((numOf (nb n 1).data.toList : Nat) : Int) = n := by
  rw [nb_list1 h0 h1, numOf_beL]
  have : n.toNat % 256 ^ 1 = n.toNat := Nat.mod_eq_of_lt (by omega)
  omega
theorem cut_left (a b : ByteArray) {i j : Nat} (h : j ≤ a.size) : cut (a ++ b) i j = cut a i j := by
  unfold cut
  rw [ByteArray.extract_append, ByteArray.extract_eq_empty_iff.2 (show min (j - a.size) b.size ≤ i - a.size by omega), ByteArray.append_empty]
theorem cut_right (a b : ByteArray) {i j : Nat} (h : a.size ≤ i) : cut (a ++ b) i j = cut b (i - a.size) (j - a.size) := by
  unfold cut
  rw [ByteArray.extract_append, ByteArray.extract_eq_empty_iff.2 (show min j a.size ≤ i by omega), ByteArray.empty_append]
theorem cut_whole (a : ByteArray) {n : Nat} (h : a.size = n) : cut a 0 n = a := by rw [← h]; exact cut_all a

theorem headB_is {p : ByteArray} {a b : Int} (h : HeadP p a b) : (headB p a b).size = 36 ∧ cut (headB p a b) 0 32 = p ∧ cut (headB p a b) 32 34 = nb a 2 ∧ cut (headB p a b) 34 36 = nb b 2 := by
  obtain ⟨hp, a0, a1, b0, b1⟩ := h
  have sa := nb_size2 a0 (by omega)
  have sb := nb_size2 b0 (show b < 65536 by omega)
  have s1 : (p ++ nb a 2).size = 34 := by rw [ByteArray.size_append]; omega
  unfold headB
  refine ⟨by rw [ByteArray.size_append]; omega, ?_, ?_, ?_⟩
  · rw [cut_left _ _ (by omega), cut_left _ _ (by omega), cut_whole p hp]
  · rw [cut_left _ _ (by omega), cut_right _ _ (by omega), hp, cut_whole _ sa]
  · rw [cut_right _ _ (by omega), s1, cut_whole _ sb]
theorem msgB_is {p : ByteArray} {a b : Int} {x : ByteArray} (h : MsgP p a b x) : (msgB p a b x).size = 38 + x.size ∧ cut (msgB p a b x) 0 32 = p ∧ cut (msgB p a b x) 32 34 = nb a 2 ∧ cut (msgB p a b x) 34 36 = nb b 2 ∧ cut (msgB p a b x) 36 38 = nb x.size 2 ∧ cut (msgB p a b x) 38 (msgB p a b x).size = x ∧ cut (msgB p a b x) 0 36 = headB p a b := by
  obtain ⟨hh, hx0, hx1⟩ := h
  obtain ⟨s0, e0, e1, e2⟩ := headB_is hh
  have sx := nb_size2 (n := (x.size : Int)) (by omega) (by omega)
  have s1 : (headB p a b ++ nb x.size 2).size = 38 := by rw [ByteArray.size_append]; omega
  have s2 : (msgB p a b x).size = 38 + x.size := by unfold msgB; rw [ByteArray.size_append]; omega
  rw [s2]
  unfold msgB
  refine ⟨rfl, ?_, ?_, ?_, ?_, ?_, ?_⟩
  · rw [cut_left _ _ (by omega), cut_left _ _ (by omega), e0]
  · rw [cut_left _ _ (by omega), cut_left _ _ (by omega), e1]
  · rw [cut_left _ _ (by omega), cut_left _ _ (by omega), e2]
  · rw [cut_left _ _ (by omega), cut_right _ _ (by omega), s0, cut_whole _ sx]
  · rw [cut_right _ _ (by omega), s1]
    exact cut_whole x (by omega)
  · rw [cut_left _ _ (by omega), cut_left _ _ (by omega), cut_whole _ s0]
theorem rdM_msgB {p : ByteArray} {a b : Int} {x : ByteArray} (h : MsgP p a b x) : RdMP (msgB p a b x) ∧ rdMA (msgB p a b x) = msgA p a b x := by
  obtain ⟨sz, e0, e1, e2, e3, e4, _⟩ := msgB_is h
  obtain ⟨⟨hp, a0, a1, b0, b1⟩, hx0, hx1⟩ := id h
  have na := nb_num2 a0 (by omega)
  have nb' := nb_num2 b0 (show b < 65536 by omega)
  have nx := nb_num2 (n := (x.size : Int)) (by omega) (by omega)
  have hR : RdMP (msgB p a b x) := by
    refine ⟨by omega, by rw [e3, sz]; omega, ?_⟩
    rw [e0, e1, e2, e4, na, nb']
    exact h
  refine ⟨hR, ?_⟩
  rw [rdMA_yes hR, e0, e1, e2, e4, na, nb']
theorem rdM_msgV (p : ByteArray) (a b : Int) (x : ByteArray) : (RdMP (msgV p a b x) ↔ MsgP p a b x) ∧ (MsgP p a b x → rdMA (msgV p a b x) = msgA p a b x ∧ cut (msgV p a b x) 0 36 = headV p a b ∧ (msgV p a b x).size ≠ 0) := by
  by_cases h : MsgP p a b x
  · rw [msgV_yes h, headV_yes h.1]
    have sz := (msgB_is h).1
    exact ⟨⟨fun _ => h, fun _ => (rdM_msgB h).1⟩, fun _ => ⟨(rdM_msgB h).2, (msgB_is h).2.2.2.2.2.2, by omega⟩⟩
  · rw [msgV_no h]
    refine ⟨⟨fun c => ?_, fun c => absurd c h⟩, fun c => absurd c h⟩
    have := c.1
    have h0 : (ByteArray.mk #[]).size = 0 := rfl
    omega
theorem msgV_rd {t : ByteArray} (h : RdMP t) {p : ByteArray} {a b : Int} {x : ByteArray} (e : rdMA t = msgA p a b x) : msgV p a b x = t := by
  rw [rdMA_yes h] at e
  obtain ⟨rfl, rfl, rfl, rfl⟩ := msgA_inj e
  exact (msgV_cut t h.1).2 h

/-! ### Envelopes -/
theorem envA_inj {f t : Int} {z : Bool} {p q : ByteArray} {o : Int} {u : ByteArray} {a b : Int} {x : ByteArray} {f' t' : Int} {z' : Bool} {p' q' : ByteArray} {o' : Int} {u' : ByteArray} {a' b' : Int} {x' : ByteArray}
    (h : envA f t z p q o u a b x = envA f' t' z' p' q' o' u' a' b' x') : f = f' ∧ t = t' ∧ z = z' ∧ p = p' ∧ q = q' ∧ o = o' ∧ u = u' ∧ a = a' ∧ b = b' ∧ x = x' := by
  simp [envA] at h
  exact h
theorem empty_of {p : ByteArray} (h : p.toList = []) : p = ByteArray.mk #[] := by
  rw [ByteArray.toList_eq] at h
  rw [← str_of p, h]
  rfl
theorem rdE_envB {f t : Int} {z : Bool} {p q : ByteArray} {o : Int} {u : ByteArray} {a b : Int} {x : ByteArray} (h : EnvP f t z p q o u a b x) :
    RdEP (envB f t z p q o u a b x) ∧ rdEA (envB f t z p q o u a b x) = envA f t z p q o u a b x ∧ 3 ≤ (envB f t z p q o u a b x).size := by
  obtain ⟨⟨f0, f1⟩, ⟨t0, t1⟩, hne, hm, hz⟩ := id h
  have sf := nb_size1 (n := f) (by omega) (by omega)
  have st := nb_size1 (n := t) (by omega) (by omega)
  have nf := nb_num1 (n := f) (by omega) (by omega)
  have nt := nb_num1 (n := t) (by omega) (by omega)
  have s2 : (nb f 1 ++ nb t 1).size = 2 := by rw [ByteArray.size_append]; omega
  obtain ⟨sm, m0, m1, m2, m3, m4, _⟩ := msgB_is hm
  have hR := rdM_msgB hm
  obtain ⟨hp', a0, a1, b0, b1⟩ := hm.1
  have na := nb_num2 a0 (by omega)
  have nb' := nb_num2 b0 (show b < 65536 by omega)
  cases z with
  | false =>
    obtain ⟨hp, hq, rfl⟩ : InitZ p q o := hz
    obtain rfl := empty_of hp
    obtain rfl := empty_of hq
    have eB : envB f t false (ByteArray.mk #[]) (ByteArray.mk #[]) 0 u a b x = nb f 1 ++ nb t 1 ++ (ByteArray.mk #[0]) ++ msgB u a b x := rfl
    have s3 : (nb f 1 ++ nb t 1 ++ ByteArray.mk #[0]).size = 3 := by rw [ByteArray.size_append]; have : (ByteArray.mk #[0]).size = 1 := rfl; omega
    have sz : (envB f t false (ByteArray.mk #[]) (ByteArray.mk #[]) 0 u a b x).size = 3 + (msgB u a b x).size := by rw [eB, ByteArray.size_append, s3]
    have c0 : cut (envB f t false (ByteArray.mk #[]) (ByteArray.mk #[]) 0 u a b x) 0 1 = nb f 1 := by rw [eB, cut_left _ _ (by omega), cut_left _ _ (by omega), cut_left _ _ (by omega), cut_whole _ sf]
    have c1 : cut (envB f t false (ByteArray.mk #[]) (ByteArray.mk #[]) 0 u a b x) 1 2 = nb t 1 := by rw [eB, cut_left _ _ (by omega), cut_left _ _ (by omega), cut_right _ _ (by omega), sf, cut_whole _ st]
    have c2 : cut (envB f t false (ByteArray.mk #[]) (ByteArray.mk #[]) 0 u a b x) 2 3 = ByteArray.mk #[0] := by rw [eB, cut_left _ _ (by omega), cut_right _ _ (by omega), s2]; exact cut_whole _ rfl
    have c3 : cut (envB f t false (ByteArray.mk #[]) (ByteArray.mk #[]) 0 u a b x) 3 (envB f t false (ByteArray.mk #[]) (ByteArray.mk #[]) 0 u a b x).size = msgB u a b x := by rw [sz, eB, cut_right _ _ (by omega), s3]; exact cut_whole _ (by omega)
    have hF : RdEF (envB f t false (ByteArray.mk #[]) (ByteArray.mk #[]) 0 u a b x) := by
      refine ⟨by omega, by unfold nE; rw [c2]; rfl, ?_⟩
      unfold EnvK fE tE
      rw [c3, c0, c1, nf, nt, m0, m1, m2, m4, na, nb']
      exact ⟨hR.1, h⟩
    refine ⟨.inl hF, ?_, by omega⟩
    rw [rdEA_F hF]
    unfold envKA fE tE
    rw [c3, c0, c1, nf, nt, m0, m1, m2, m4, na, nb']
  | true =>
    obtain ⟨hp, hq, o0, o1⟩ : InitP p q o := hz
    have so := nb_size2 o0 (show o < 65536 by omega)
    have no := nb_num2 o0 (show o < 65536 by omega)
    have e1 : (ByteArray.mk #[1]).size = 1 := rfl
    have sI : (initB p q o).size = 66 := by unfold initB; rw [ByteArray.size_append, ByteArray.size_append]; omega
    have i0 : cut (initB p q o) 0 32 = p := by unfold initB; rw [cut_left _ _ (by rw [ByteArray.size_append]; omega), cut_left _ _ (by omega), cut_whole _ hp]
    have i1 : cut (initB p q o) 32 64 = q := by unfold initB; rw [cut_left _ _ (by rw [ByteArray.size_append]; omega), cut_right _ _ (by omega), hp, cut_whole _ hq]
    have i2 : cut (initB p q o) 64 66 = nb o 2 := by unfold initB; rw [cut_right _ _ (by rw [ByteArray.size_append]; omega), ByteArray.size_append, hp, hq, cut_whole _ so]
    have eB : envB f t true p q o u a b x = nb f 1 ++ nb t 1 ++ (ByteArray.mk #[1] ++ initB p q o) ++ msgB u a b x := rfl
    have sH : (ByteArray.mk #[1] ++ initB p q o).size = 67 := by rw [ByteArray.size_append]; omega
    have s3 : (nb f 1 ++ nb t 1 ++ (ByteArray.mk #[1] ++ initB p q o)).size = 69 := by rw [ByteArray.size_append]; omega
    have sz : (envB f t true p q o u a b x).size = 69 + (msgB u a b x).size := by rw [eB, ByteArray.size_append, s3]
    have c0 : cut (envB f t true p q o u a b x) 0 1 = nb f 1 := by rw [eB, cut_left _ _ (by omega), cut_left _ _ (by omega), cut_left _ _ (by omega), cut_whole _ sf]
    have c1 : cut (envB f t true p q o u a b x) 1 2 = nb t 1 := by rw [eB, cut_left _ _ (by omega), cut_left _ _ (by omega), cut_right _ _ (by omega), sf, cut_whole _ st]
    have c2 : cut (envB f t true p q o u a b x) 2 3 = ByteArray.mk #[1] := by rw [eB, cut_left _ _ (by omega), cut_right _ _ (by omega), s2, cut_left _ _ (by rw [e1]; omega)]; exact cut_whole _ rfl
    have c3 : cut (envB f t true p q o u a b x) 3 35 = p := by rw [eB, cut_left _ _ (by omega), cut_right _ _ (by omega), s2, cut_right _ _ (by rw [e1]; omega), e1]; exact i0
    have c4 : cut (envB f t true p q o u a b x) 35 67 = q := by rw [eB, cut_left _ _ (by omega), cut_right _ _ (by omega), s2, cut_right _ _ (by rw [e1]; omega), e1]; exact i1
    have c5 : cut (envB f t true p q o u a b x) 67 69 = nb o 2 := by rw [eB, cut_left _ _ (by omega), cut_right _ _ (by omega), s2, cut_right _ _ (by rw [e1]; omega), e1]; exact i2
    have c6 : cut (envB f t true p q o u a b x) 69 (envB f t true p q o u a b x).size = msgB u a b x := by rw [sz, eB, cut_right _ _ (by omega), s3]; exact cut_whole _ (by omega)
    have hF : RdET (envB f t true p q o u a b x) := by
      refine ⟨by omega, by unfold nE; rw [c2]; rfl, ?_⟩
      unfold EnvK fE tE
      rw [c6, c0, c1, c3, c4, c5, nf, nt, no, m0, m1, m2, m4, na, nb']
      exact ⟨hR.1, h⟩
    refine ⟨.inr hF, ?_, by omega⟩
    rw [rdEA_T hF]
    unfold envKA fE tE
    rw [c6, c0, c1, c3, c4, c5, nf, nt, no, m0, m1, m2, m4, na, nb']
theorem rdE_envV (f t : Int) (z : Bool) (p q : ByteArray) (o : Int) (u : ByteArray) (a b : Int) (x : ByteArray) :
    (RdEP (envV f t z p q o u a b x) ↔ EnvP f t z p q o u a b x) ∧ (EnvP f t z p q o u a b x → rdEA (envV f t z p q o u a b x) = envA f t z p q o u a b x ∧ (envV f t z p q o u a b x).size ≠ 0) := by
  by_cases h : EnvP f t z p q o u a b x
  · rw [envV_yes h]
    have e := rdE_envB h
    exact ⟨⟨fun _ => h, fun _ => e.1⟩, fun _ => ⟨e.2.1, by omega⟩⟩
  · rw [envV_no h]
    refine ⟨⟨fun c => ?_, fun c => absurd c h⟩, fun c => absurd c h⟩
    have h0 : (ByteArray.mk #[]).size = 0 := rfl
    rcases c with d | d
    · have := d.1; omega
    · have := d.1; omega
theorem envV_rd {s : ByteArray} (h : RdEP s) {f t : Int} {z : Bool} {p q : ByteArray} {o : Int} {u : ByteArray} {a b : Int} {x : ByteArray} (e : rdEA s = envA f t z p q o u a b x) : envV f t z p q o u a b x = s := by
  rcases h with d | d
  · rw [rdEA_F d] at e
    obtain ⟨rfl, rfl, rfl, rfl, rfl, rfl, rfl, rfl, rfl, rfl⟩ := envA_inj e
    exact (envV_F s (rdEF_size d) _ _ _ _ (rdMA_yes d.2.2.1)).2 d
  · rw [rdEA_T d] at e
    obtain ⟨rfl, rfl, rfl, rfl, rfl, rfl, rfl, rfl, rfl, rfl⟩ := envA_inj e
    exact (envV_T s (rdET_size d) d.2.1 _ _ _ _ (rdMA_yes d.2.2.1)).2 d

end Go.Proofs.Ytmolcpojdojmlaa

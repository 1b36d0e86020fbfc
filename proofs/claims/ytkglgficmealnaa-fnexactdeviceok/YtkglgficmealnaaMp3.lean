/- A mark deleted from the list of marks. -/
import Derived.Test.YtkglgficmealnaaMp2
namespace Go.Proofs.Ytkglgficmealnaa
open Go.RowKit Go.My Go.Lib
set_option linter.unusedVariables false
set_option maxRecDepth 100000

theorem OrdAt.froz {g cap : Nat} {L : List Mk} {w : World} (h : OrdAt g cap L w) (j : Nat) : w.frozen? ⟨g, j, none⟩ = false := by
  obtain ⟨cur, h1, _⟩ := h
  exact frozen_of_row w g j cur _ h1
/-- A mark is stored at place i. -/
theorem OrdAt.set {g cap : Nat} {L : List Mk} {w : World} (h : OrdAt g cap L w) (i : Nat) (k : Mk) (hi : i < L.length) : OrdAt g cap (L.set i k) ((w.setCell ⟨g, 2 * i, none⟩ (.string k.1)).setCell ⟨g, 2 * i + 1, none⟩ (.int .i64 k.2)) := by
  obtain ⟨cur, h1, h2, h3, h4, h5⟩ := h
  have e1 := heap_setCell_same w g (2 * i) cur _ (.string k.1) h1
  have e2 := heap_setCell_same _ g (2 * i + 1) _ _ (.int .i64 k.2) e1
  refine ⟨_, e2, by simp [h2], by simpa using h3, ⟨by rw [List.length_set]; exact h4.1, h4.2⟩, fun q x hq => ?_⟩
  by_cases c : q = i
  · subst c
    rw [List.getElem?_set_self hi] at hq
    obtain rfl := Option.some.inj hq
    constructor
    · rw [Array.getElem?_setIfInBounds_ne (by omega), Array.getElem?_setIfInBounds_self_of_lt (by omega)]
    · rw [Array.getElem?_setIfInBounds_self_of_lt (by simp; omega)]
  · rw [List.getElem?_set_ne (fun e => c e.symm)] at hq
    have := h5 q x hq
    constructor
    · rw [Array.getElem?_setIfInBounds_ne (by omega), Array.getElem?_setIfInBounds_ne (by omega)]; exact this.1
    · rw [Array.getElem?_setIfInBounds_ne (by omega), Array.getElem?_setIfInBounds_ne (by omega)]; exact this.2
theorem OrdAt.grown {g cap k : Nat} {L : List Mk} {w w' : World} (h : OrdAt g cap L w) (hg : w.grownBy w' (some k)) (hk : g ≠ k) : OrdAt g cap L w' := by
  have hl := h.lt
  obtain ⟨cur, h1, h2⟩ := h
  exact ⟨cur, (hg.block g hl (fun e => hk (Option.some.inj e))).trans h1, h2⟩
/-- The first m of E, the rest of L. -/
def shL (L E : List Mk) (m : Nat) : List Mk := E.take m ++ L.drop m
theorem shL_len {L E : List Mk} {m : Nat} (h : m ≤ E.length) (hl : m ≤ L.length) : (shL L E m).length = L.length := by unfold shL; rw [List.length_append, List.length_take, List.length_drop]; omega
theorem shL_at {L E : List Mk} {m q : Nat} (h : m ≤ E.length) (hq : m ≤ q) : (shL L E m)[q]? = L[q]? := by
  unfold shL
  rw [List.getElem?_append_right (by rw [List.length_take]; omega), List.length_take, List.getElem?_drop]
  congr 1
  omega
theorem shL_lo {L E : List Mk} {m q : Nat} (h : m ≤ E.length) (hq : q < m) : (shL L E m)[q]? = E[q]? := by
  unfold shL
  rw [List.getElem?_append_left (by rw [List.length_take]; omega), List.getElem?_take_of_lt hq]
theorem shL_set {L E : List Mk} {m : Nat} {k : Mk} (h : m < E.length) (hl : E.length ≤ L.length) (hk : E[m]? = some k) : (shL L E m).set m k = shL L E (m + 1) := by
  have hm : (E.take m).length = m := by rw [List.length_take]; omega
  unfold shL
  rw [List.set_append_right _ _ (by omega), hm, Nat.sub_self]
  have e1 : L.drop m = L[m]'(by omega) :: L.drop (m + 1) := (List.getElem_cons_drop (by omega)).symm
  rw [e1, List.set_cons_zero]
  have e2 : E.take (m + 1) = E.take m ++ [k] := by
    rw [List.take_add_one, hk]
    rfl
  rw [e2, List.append_assoc]
  rfl
theorem OrdAt.sub {g cap : Nat} {L E : List Mk} {w : World} (h : OrdAt g cap L w) (hE : ∀ (i : Nat) (k : Mk), E[i]? = some k → L[i]? = some k) (hl : E.length ≤ cap) : OrdAt g cap E w := by
  obtain ⟨cur, h1, h2, h3, h4, h5⟩ := h
  have hEl : E.length ≤ L.length := by
    refine Nat.le_of_not_lt (fun c => ?_)
    have := hE L.length _ (List.getElem?_eq_getElem c)
    rw [List.getElem?_eq_none (Nat.le_refl _)] at this
    cases this
  exact ⟨cur, h1, h2, hl, ⟨Nat.le_trans hEl h4.1, h4.2⟩, fun i k hi => h5 i k (hE i k hi)⟩

/-- The marks but b: where it stands at j, the list without that place. -/
theorem erase_is {L : List Mk} {b : Mk} {j : Nat} (hd : L.Nodup) (hj : L[j]? = some b) : L.filter (fun x => decide (x ≠ b)) = L.eraseIdx j := by
  have hjl : j < L.length := (List.getElem?_eq_some_iff.1 hj).1
  have hk := (List.getElem?_eq_some_iff.1 hj).2
  rw [List.eraseIdx_eq_take_drop_succ]
  have split : L = L.take j ++ b :: L.drop (j + 1) := by rw [← hk, List.getElem_cons_drop hjl, List.take_append_drop]
  rw [split] at hd
  obtain ⟨_, h3, h4⟩ := List.pairwise_append.1 hd
  obtain ⟨h5, _⟩ := List.pairwise_cons.1 h3
  conv => lhs; rw [split]
  rw [List.filter_append, List.filter_cons_of_neg (by simp), List.filter_eq_self.2 (fun x hx => decide_eq_true (h4 x hx b (by simp))), List.filter_eq_self.2 (fun x hx => decide_eq_true (Ne.symm (h5 x hx)))]

theorem clr1 (g o c : Nat) (x y : Value) (w : World) (c0 : w.cell? ⟨g, o, none⟩ = some x) (c1 : w.cell? ⟨g, o + 1, none⟩ = some y) (f0 : w.frozen? ⟨g, o, none⟩ = false) (f1 : w.frozen? ⟨g, o + 1, none⟩ = false) (ty : TypeId) :
    (Builtin.clear_ #[101] ty #[.slice (some ⟨g, o, none⟩) 1 c]).run Try.prog w = .ok (.tuple #[]) ((w.setCell ⟨g, o, none⟩ (.string ⟨#[]⟩)).setCell ⟨g, o + 1, none⟩ (.int .i64 0)) := by
  have hz : (zeroValue 127).run Try.prog w = .ok (.agg #[.string ⟨#[]⟩, .int .i64 0]) w := by simp [go_sem]
  have hzc : (Builtin.zeroCells #[Value.string ⟨#[]⟩, Value.int .i64 0] 1).toList = [Value.string ⟨#[]⟩, Value.int .i64 0] := by kernel_rfl
  simp [Builtin.clear_, run_underlying Try.underlying101, hz, hzc, storeCells, go_sem, c0, c1, f0, f1]
theorem BlkAt.grM {k g : Nat} {cs : Array Value} {T : TypeId} {V W : World} (hg : V.grownBy W (some g)) (hk : k ≠ g) (h : BlkAt k cs T V) : BlkAt k cs T W := (hg.block k h.lt (fun e => hk (Option.some.inj e))).trans h
theorem shL_start {L E : List Mk} {j : Nat} (hE : L.eraseIdx j = E) (hj : j < L.length) : shL L E j = L := by
  unfold shL
  rw [← hE, List.eraseIdx_eq_take_drop_succ, List.take_append_of_le_length (by rw [List.length_take]; omega), List.take_take, Nat.min_self, List.take_append_drop]
theorem grown_of_belowM {w w' : World} {r : Option Nat} (h : Below w.heap.size w w') : w.grownBy w' r := ⟨h.os, h.tape, h.output, h.size, fun k hk _ => h.block k hk⟩
theorem grown_tr {a b c : World} {r : Option Nat} (h : a.grownBy b r) (k : b.grownBy c r) : a.grownBy c r :=
  ⟨k.os.trans h.os, k.tape.trans h.tape, k.output.trans h.output, Nat.le_trans h.size k.size, fun i hi hr => (k.block i (Nat.lt_of_lt_of_le hi h.size) hr).trans (h.block i hi hr)⟩
theorem grown_set {w : World} (g j : Nat) (v : Value) : w.grownBy (w.setCell ⟨g, j, none⟩ v) (some g) := ⟨rfl, rfl, rfl, by simp, fun i _ hr => heap_setCell_other w ⟨g, j, none⟩ i v (fun e => hr (by rw [e]))⟩

set_option maxHeartbeats 1000000 in
theorem delete_none (g cap : Nat) (L : List Mk) (kb : Nat) (b : Mk) (w : World) (hO : OrdAt g cap L w) (hK : BlkAt kb (mkC b) 127 w) (hd : L.Nodup) (hne : kb ≠ g) (hno : ∀ q : Nat, L[q]? ≠ some b) :
    Calls Try.prog 98 #[.slice (some ⟨g, 0, none⟩) L.length cap, .func (.func 99) #[] #[.pointer (some ⟨kb, 0, none⟩)]] w fun e w' => e = .returned (.slice (some ⟨g, 0, none⟩) L.length cap) ∧ OrdAt g cap L w' ∧ w.grownBy w' (some g) := by
  go_enter Try.func98, Try.ntmps98
  go_wp2_with fail
  refine (index_i g cap L kb b w hO hK).mono ?_
  rintro e w1 ⟨r, rfl, hr, hb1⟩
  rcases hr with ⟨rfl, _⟩ | ⟨j, rfl, hj, _⟩
  case inr => exact absurd hj (hno j)
  go_wp2
  go_ret
  exact ⟨rfl, hO.below hb1, grown_of_belowM hb1⟩

set_option maxHeartbeats 4000000 in
theorem delete_at (g cap : Nat) (L : List Mk) (kb : Nat) (b : Mk) (w : World) (hO : OrdAt g cap L w) (hK : BlkAt kb (mkC b) 127 w) (hd : L.Nodup) (hne : kb ≠ g) (E : List Mk) (j : Nat) (hj : L[j]? = some b) (hE : L.eraseIdx j = E) :
    Calls Try.prog 98 #[.slice (some ⟨g, 0, none⟩) L.length cap, .func (.func 99) #[] #[.pointer (some ⟨kb, 0, none⟩)]] w fun e w' =>
      e = .returned (.slice (some ⟨g, 0, none⟩) E.length cap) ∧ OrdAt g cap E w' ∧ w.grownBy w' (some g) := by
  have hlc : L.length ≤ cap ∧ L.length ≤ 1000000 ∧ cap ≤ maxLen := by obtain ⟨_, _, _, h, h', _⟩ := hO; exact ⟨h, h'⟩
  have hlI : (L.length : Int) ≤ 1000000 := by omega
  have hjl : j < L.length := (List.getElem?_eq_some_iff.1 hj).1
  have hEl : E.length = L.length - 1 := by rw [← hE, List.length_eraseIdx_of_lt hjl]
  have hEat : ∀ q, j ≤ q → E[q]? = L[q + 1]? := fun q hq => by rw [← hE, List.getElem?_eraseIdx_of_ge hq]
  have hnb : ∀ q, j < q → ∀ k, L[q]? = some k → k ≠ b := fun q hq k hk e => by
    subst e
    have := (List.getElem?_inj hjl hd).1 (hj.trans hk.symm)
    omega
  have hst := shL_start hE hjl
  go_enter Try.func98, Try.ntmps98
  go_wp2_with fail
  refine (index_i g cap L kb b w hO hK).mono ?_
  rintro e w1 ⟨r, rfl, hr, hb1⟩
  rcases hr with ⟨rfl, hno⟩ | ⟨j', rfl, hj', _⟩
  case inl => exact absurd hj (hno j)
  obtain rfl : j = j' := (List.getElem?_inj hjl hd).1 (hj.trans hj'.symm)
  have g0 : w.grownBy w1 (some g) := grown_of_belowM hb1
  have hO1 := hO.below hb1
  have hw1 : IntKind.i64.wrap ((j : Int) + 1) = (j : Int) + 1 := IntWalk.i64_in _ (by omega)
  have hj1 : ¬ (j : Int) = -1 := by omega
  have hj2 : ((j : Int) == -1) = false := by simp <;> omega
  go_wp2
  go_loopw [5, 6] (fun i q wr => ∃ m : Nat, j ≤ m ∧ m + 1 ≤ L.length ∧ i = .int .i64 m ∧ q = .int .i64 ((m : Int) + 1) ∧ OrdAt g cap (shL L E m) wr ∧ w.grownBy wr (some g)) (fun _ q _ => L.length - (intOf q).toNat)
  case atStart => exact ⟨j, by omega, by omega, rfl, by first | rfl | go_num, by rw [hst]; exact hO1, g0⟩
  case round =>
    obtain ⟨m, hm, hml, rfl, rfl, hOm, gm⟩ := hrel
    have hlen := shL_len (L := L) (E := E) (m := m) (by omega) (by omega)
    by_cases hlt : m + 1 < L.length
    case neg =>
      have HM : Hid (m + 1 = L.length) := by show _ = _; omega
      have nlt : decide ((m : Int) + 1 < (L.length : Int)) = false := by simp; omega
      have nlt2 : (m : Int) + 1 = (L.length : Int) := by omega
      have hx : ∃ k, (shL L E m)[m]? = some k := ⟨L[m]'(by omega), by rw [shL_at (by omega) (Nat.le_refl _), List.getElem?_eq_getElem (by omega)]⟩
      obtain ⟨k, hk⟩ := hx
      have hc := hOm.cells hk
      have c0 := hc.1
      have c1 := hc.2
      have f0 := hOm.froz (2 * m)
      have f1 := hOm.froz (2 * m + 1)
      have m1 : (m : Int) ≤ (L.length : Int) := by omega
      have m2 : (0 : Int) ≤ (m : Int) := by omega
      have m3 : L.length - m = 1 := by omega
      have m4 : (m : Int) ≤ (cap : Int) := by omega
      have m5 : m ≤ L.length := by omega
      have m6 : m ≤ cap := by omega
      have e2 : m * 2 = 2 * m := Nat.mul_comm _ _
      have hcl := clr1 g (2 * m) (cap - m) _ _ _ c0 c1 f0 f1 0
      clear nlt2 hlt hml
      go_wp2
      have hEm : E.length = m := by have := HM.out; omega
      have hmS : m < (shL L E m).length := by rw [hlen]; have := HM.out; omega
      go_ret
      refine ⟨by rw [hEm]; rfl, (hOm.set m ((⟨#[]⟩, 0) : Mk) hmS).sub (fun i k hi => ?_) (by omega), grown_tr gm (grown_tr (grown_set g (2 * m) _) (grown_set g (2 * m + 1) _))⟩
      have hil : i < E.length := (List.getElem?_eq_some_iff.1 hi).1
      rw [List.getElem?_set_ne (by omega), shL_lo (by omega) (by omega)]
      exact hi
    have hltI : (m : Int) + 1 < (L.length : Int) := by omega
    obtain ⟨k, hk⟩ : ∃ k, L[m + 1]? = some k := ⟨L[m + 1], List.getElem?_eq_getElem hlt⟩
    obtain ⟨y, hy⟩ : ∃ y, (shL L E m)[m]? = some y := ⟨L[m]'(by omega), by rw [shL_at (by omega) (Nat.le_refl _), List.getElem?_eq_getElem (by omega)]⟩
    have hkb := hnb (m + 1) (by omega) k hk
    have hks : (shL L E m)[m + 1]? = some k := by rw [shL_at (by omega) (by omega)]; exact hk
    have hc := hOm.cells hks
    have hcy := hOm.cells hy
    have c0 := hc.1
    have c1 := hc.2
    have d0 := hcy.1
    have d1 := hcy.2
    have f0 := hOm.froz (2 * m)
    have f1 := hOm.froz (2 * m + 1)
    have hgl := hOm.lt
    have hKm : BlkAt kb (mkC b) 127 _ := BlkAt.grM gm hne hK
    have n1 : ((m : Int) + 1).toNat = m + 1 := by omega
    have n2 : (0 : Int) ≤ (m : Int) + 1 := by omega
    have n3 : (m : Int) < (L.length : Int) := by omega
    have e2 : m * 2 = 2 * m := Nat.mul_comm _ _
    have e3 : (m + 1) * 2 = 2 * (m + 1) := Nat.mul_comm _ _
    have hw2 : IntKind.i64.wrap ((m : Int) + 1 + 1) = (m : Int) + 1 + 1 := IntWalk.i64_in _ (by omega)
    have hw3 : IntKind.i64.wrap ((m : Int) + 1) = (m : Int) + 1 := IntWalk.i64_in _ (by omega)
    obtain ⟨p, n⟩ := k
    simp only at c0 c1
    go_wp2_with fail
    refine (same_clo kb (p, n) b _ (hKm.past _)).mono ?_
    rintro e w2 ⟨rfl, hb2⟩
    rw [decide_eq_false hkb]
    have hb3 : Below _ _ w2 := (below_box _ (.cells #[.string p, .int .i64 n] 127)).trans (hb2.mono (by simp))
    have hO2 := hOm.below hb3
    have bv := BlkAt.below hb2 (BlkAt.box _ #[.string p, .int .i64 n] 127)
    clear c0 c1 d0 d1 f0 f1 hc hcy
    have v0 := bv.cell (j := 0) rfl
    have v1 := bv.cell (j := 1) rfl
    have hcy := hO2.cells hy
    have d0 := hcy.1
    have d1 := hcy.2
    have f0 := hO2.froz (2 * m)
    have f1 := hO2.froz (2 * m + 1)
    have hEm : E[m]? = some (p, n) := by rw [hEat m hm]; exact hk
    have hmE : m < E.length := (List.getElem?_eq_some_iff.1 hEm).1
    go_wp2
    go_round
    case rel =>
      refine ⟨m + 1, by omega, by omega, by go_num, by go_num, ?_, grown_tr gm (grown_tr (grown_of_belowM hb3) (grown_tr (grown_set g (2 * m) _) (grown_set g (2 * m + 1) _)))⟩
      have := hO2.set m ((p, n) : Mk) (by rw [hlen]; omega)
      rw [shL_set hmE (by omega) hEm] at this
      exact this
    case measure => simp [intOf]; omega

theorem delete_i (g cap : Nat) (L : List Mk) (kb : Nat) (b : Mk) (w : World) (hO : OrdAt g cap L w) (hK : BlkAt kb (mkC b) 127 w) (hd : L.Nodup) (hne : kb ≠ g) :
    Calls Try.prog 98 #[.slice (some ⟨g, 0, none⟩) L.length cap, .func (.func 99) #[] #[.pointer (some ⟨kb, 0, none⟩)]] w fun e w' =>
      e = .returned (.slice (some ⟨g, 0, none⟩) (L.filter (fun x => decide (x ≠ b))).length cap) ∧ OrdAt g cap (L.filter (fun x => decide (x ≠ b))) w' ∧ w.grownBy w' (some g) := by
  by_cases hm : ∃ j : Nat, L[j]? = some b
  · obtain ⟨j, hj⟩ := hm
    rw [erase_is hd hj]
    exact delete_at g cap L kb b w hO hK hd hne _ j hj rfl
  · have hno : ∀ q : Nat, L[q]? ≠ some b := fun q c => hm ⟨q, c⟩
    have e0 : L.filter (fun x => decide (x ≠ b)) = L := List.filter_eq_self.2 (fun x hx => decide_eq_true (fun e => by
      obtain ⟨q, hq, hx⟩ := List.getElem_of_mem hx
      exact hno q (by rw [List.getElem?_eq_getElem hq, hx, e])))
    rw [e0]
    exact delete_none g cap L kb b w hO hK hd hne hno

end Go.Proofs.Ytkglgficmealnaa

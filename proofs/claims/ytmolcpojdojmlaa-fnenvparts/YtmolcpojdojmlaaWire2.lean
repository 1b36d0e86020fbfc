/- The bytes of heads, Inits and messages, by the program and by the specification. -/
import Derived.Test.YtmolcpojdojmlaaWire1
import Derived.Test.YtmolcpojdojmlaaMath4
namespace Go.Proofs.Ytmolcpojdojmlaa
open Go.RowKit Go.My Go.Lib
set_option linter.unusedVariables false

theorem wf_mid (n : Int) (h0 : 0 ≤ n) (h1 : n ≤ 1000000) : (Lit.int .i64 n).wf = true := by
  simp [Lit.wf, IntKind.min, IntKind.max, IntKind.signed, IntKind.bits]
  omega
def nb (n k : Int) : ByteArray := str (numB n k)
theorem nb_i (n k : Int) (w : World) (hn : 0 ≤ n ∧ n ≤ 1000000) (hk : 0 ≤ k ∧ k ≤ 7) :
    Calls Try.prog 32 #[.int .i64 n, .int .i64 k] w fun e w' => e = .returned (.string (nb n k)) ∧ Below w.heap.size w w' :=
  num_impl n k w (wf_mid n (by omega) (by omega)) (wf_mid k (by omega) (by omega))
theorem nb_s (n : Int) (k : Nat) (w : World) (hn : 0 ≤ n) (hk : 1 ≤ k ∧ k ≤ 7) (hb : n < 2 ^ (8 * k)) (hm : n ≤ 1000000) :
    Calls Try.prog 34 #[.int .i64 n, .int .i64 k] w fun e w' => e = .returned (.string (nb n k)) ∧ Below w.heap.size w w' := by
  have h := be_spec n k w (wf_mid n (by omega) (by omega)) (by omega)
  have e1 : IntKind.u64.wrap n = n := by rw [IntKind.wrap_u64]; omega
  have e2 : numB n (k : Int) = beL n.toNat k := by
    have := numB_yes (n := n) (k := (k : Int)) ⟨by omega, by omega, hn, by rw [Int.toNat_natCast]; exact hb⟩
    rw [Int.toNat_natCast] at this
    exact this
  rw [e1, ← e2] at h
  exact h

/-- The cells of a head (at a message's first three as well). -/
def HeadAt (k : Nat) (p : ByteArray) (a b : Int) (W : World) : Prop :=
  k < W.heap.size ∧ W.cell? ⟨k, 0, none⟩ = some (.string p) ∧ W.cell? ⟨k, 1, none⟩ = some (.int .i64 a) ∧ W.cell? ⟨k, 2, none⟩ = some (.int .i64 b)
theorem HeadAt.below {k : Nat} {p : ByteArray} {a b : Int} {V W : World} (hb : Below V.heap.size V W) (h : HeadAt k p a b V) : HeadAt k p a b W :=
  ⟨Nat.lt_of_lt_of_le h.1 hb.size, (hb.cell (p := ⟨k, 0, none⟩) h.1).trans h.2.1, (hb.cell (p := ⟨k, 1, none⟩) h.1).trans h.2.2.1, (hb.cell (p := ⟨k, 2, none⟩) h.1).trans h.2.2.2⟩

theorem below_next {B : Nat} {w V W : World} (hb : Below V.heap.size V W) (h : Below B w V) (hs : B ≤ V.heap.size) : Below B w W := h.trans (hb.mono hs)
theorem nb_size (n k : Int) (hk : 0 ≤ k ∧ k ≤ 7) : (nb n k).size ≤ 7 := by
  unfold nb
  rw [str_size]
  rcases numB_cases n k with h | ⟨h, _⟩
  · rw [h]; exact Nat.zero_le _
  · rw [h]; omega
theorem cat_ok {x y : ByteArray} (h : x.size + y.size ≤ 1000000) : ¬ 9223372036854775807 < x.size + y.size := by omega
theorem cat_size (x y : ByteArray) : (x ++ y).size = x.size + y.size := ByteArray.size_append
def headB (p : ByteArray) (a b : Int) : ByteArray := p ++ nb a 2 ++ nb b 2
def headV (p : ByteArray) (a b : Int) : ByteArray := if HeadP p a b then headB p a b else ⟨#[]⟩
theorem headV_yes {p : ByteArray} {a b : Int} (h : HeadP p a b) : headV p a b = headB p a b := if_pos h
theorem headV_no {p : ByteArray} {a b : Int} (h : ¬ HeadP p a b) : headV p a b = ⟨#[]⟩ := if_neg h

set_option maxHeartbeats 2000000 in
theorem headBytes_i (p : ByteArray) (a b : Int) (w : World) (hp : p.size ≤ 9223372036854775807) :
    Calls Try.prog 14 #[.agg (headA p a b)] w fun e w' => e = .returned (.string (headV p a b)) ∧ Below w.heap.size w w' := by
  have hb0 := below_box w (.cells (headA p a b) 27)
  by_cases h : HeadP p a b
  case neg =>
    have HV := Lib.hid (headV_no h)
    have H1 := Lib.hid (fun w => headOk_i p a b w false (decide_eq_false h) hp)
    clear h
    go_enter Try.func14, Try.ntmps14
    go_wp2_with fail
    refine (H1.out _).mono ?_
    rintro e w1 ⟨rfl, hb1⟩
    go_wp2
    go_ret
    exact ⟨by rw [HV.out]; rfl, hb0.trans (hb1.mono hb0.size)⟩
  have HV := Lib.hid (headV_yes h)
  have H1 := Lib.hid (fun w => headOk_i p a b w true (decide_eq_true h) hp)
  have HN := Lib.hid (show (∀ w, Calls Try.prog 32 #[.int .i64 a, .int .i64 2] w fun e w' => e = .returned (.string (nb a 2)) ∧ Below w.heap.size w w') ∧ (∀ w, Calls Try.prog 32 #[.int .i64 b, .int .i64 2] w fun e w' => e = .returned (.string (nb b 2)) ∧ Below w.heap.size w w') from
    ⟨fun w => nb_i a 2 w (by unfold HeadP at h; omega) (by omega), fun w => nb_i b 2 w (by unfold HeadP at h; omega) (by omega)⟩)
  have n1 := nb_size a 2 (by omega)
  have n2 := nb_size b 2 (by omega)
  have hc1 : ¬ 9223372036854775807 < p.size + (nb a 2).size := cat_ok (by unfold HeadP at h; omega)
  have hc2 : ¬ 9223372036854775807 < (p ++ nb a 2).size + (nb b 2).size := cat_ok (by rw [cat_size]; unfold HeadP at h; omega)
  have hc3 : ¬ 9223372036854775807 < p.size + (nb a 2).size + (nb b 2).size := by rw [cat_size] at hc2; exact hc2
  have HB : Hid (headB p a b = p ++ nb a 2 ++ nb b 2) := rfl
  clear h n1 n2
  generalize nb a 2 = X at *
  generalize nb b 2 = Y at *
  go_enter Try.func14, Try.ntmps14
  go_wp2_with fail
  refine (H1.out _).mono ?_
  rintro e w1 ⟨rfl, hb1⟩
  have hS : HeadAt w.heap.size p a b w1 := HeadAt.below hb1 ⟨by simp, by simp [go_sem], by simp [go_sem], by simp [go_sem]⟩
  have hB : Below w.heap.size w w1 := hb0.trans (hb1.mono hb0.size)
  clear hb1 hb0
  have c0 := hS.2.1
  have c1 := hS.2.2.1
  have c2 := hS.2.2.2
  go_wp2_with fail
  go_region_held3 (fun w' => w'.cell? ⟨w.heap.size, 0, none⟩ = some (.string p) ∧ w'.cell? ⟨w.heap.size, 1, none⟩ = some (.int .i64 a) ∧ w'.cell? ⟨w.heap.size, 2, none⟩ = some (.int .i64 b)) (exact ⟨hS.2.1, hS.2.2.1, hS.2.2.2⟩) (first
    | (go_at_call_of 32 a; refine (HN.out.1 _).mono ?_; rintro e wq ⟨rfl, hbq⟩; have hS := HeadAt.below hbq (by exact hS); have hB := below_next hbq (by first | exact hB | exact hB.drew) (by first | exact hB.size | (have := hS.1; omega)); have c0 := hS.2.1; have c1 := hS.2.2.1; have c2 := hS.2.2.2)
    | (go_at_call_of 32 b; refine (HN.out.2 _).mono ?_; rintro e wq ⟨rfl, hbq⟩; have hS := HeadAt.below hbq (by exact hS); have hB := below_next hbq (by first | exact hB | exact hB.drew) (by first | exact hB.size | (have := hS.1; omega)); have c0 := hS.2.1; have c1 := hS.2.2.1; have c2 := hS.2.2.2))
  go_wp2
  go_ret
  exact ⟨by rw [HV.out, HB.out]; rfl, by first | exact hB | exact hB.drew⟩

set_option maxHeartbeats 2000000 in
theorem l5HeadBytes_any (p : ByteArray) (a b : Int) (w : World) (h : HeadP p a b) :
    Calls Try.prog 40 #[.agg (headA p a b)] w fun e w' => e = .returned (.string (headB p a b)) ∧ Below w.heap.size w w' := by
  have hB := below_box w (.cells (headA p a b) 27)
  have HN := Lib.hid (show (∀ w, Calls Try.prog 34 #[.int .i64 a, .int .i64 2] w fun e w' => e = .returned (.string (nb a 2)) ∧ Below w.heap.size w w') ∧ (∀ w, Calls Try.prog 34 #[.int .i64 b, .int .i64 2] w fun e w' => e = .returned (.string (nb b 2)) ∧ Below w.heap.size w w') from
    ⟨fun w => nb_s a 2 w (by unfold HeadP at h; omega) (by omega) (by unfold HeadP at h; simp; omega) (by unfold HeadP at h; omega), fun w => nb_s b 2 w (by unfold HeadP at h; omega) (by omega) (by unfold HeadP at h; simp; omega) (by unfold HeadP at h; omega)⟩)
  have n1 := nb_size a 2 (by omega)
  have n2 := nb_size b 2 (by omega)
  have hc1 : ¬ 9223372036854775807 < p.size + (nb a 2).size := cat_ok (by unfold HeadP at h; omega)
  have hc2 : ¬ 9223372036854775807 < (p ++ nb a 2).size + (nb b 2).size := cat_ok (by rw [cat_size]; unfold HeadP at h; omega)
  have hc3 : ¬ 9223372036854775807 < p.size + (nb a 2).size + (nb b 2).size := by rw [cat_size] at hc2; exact hc2
  have HB : Hid (headB p a b = p ++ nb a 2 ++ nb b 2) := rfl
  have hS : HeadAt w.heap.size p a b (w.alloc (.cells (headA p a b) 27)) := ⟨by simp, by simp [go_sem], by simp [go_sem], by simp [go_sem]⟩
  clear h n1 n2
  generalize nb a 2 = X at *
  generalize nb b 2 = Y at *
  go_enter Try.func40, Try.ntmps40
  go_wp2_with fail
  generalize w.alloc (.cells (headA p a b) 27) = w1 at *
  have c0 := hS.2.1
  have c1 := hS.2.2.1
  have c2 := hS.2.2.2
  go_region_held3 (fun w' => w'.cell? ⟨w.heap.size, 0, none⟩ = some (.string p) ∧ w'.cell? ⟨w.heap.size, 1, none⟩ = some (.int .i64 a) ∧ w'.cell? ⟨w.heap.size, 2, none⟩ = some (.int .i64 b)) (exact ⟨hS.2.1, hS.2.2.1, hS.2.2.2⟩) (first
    | (go_at_call_of 34 a; refine (HN.out.1 _).mono ?_; rintro e wq ⟨rfl, hbq⟩; have hS := HeadAt.below hbq (by exact hS); have hB := below_next hbq (by first | exact hB | exact hB.drew) (by first | exact hB.size | (have := hS.1; omega)); have c0 := hS.2.1; have c1 := hS.2.2.1; have c2 := hS.2.2.2)
    | (go_at_call_of 34 b; refine (HN.out.2 _).mono ?_; rintro e wq ⟨rfl, hbq⟩; have hS := HeadAt.below hbq (by exact hS); have hB := below_next hbq (by first | exact hB | exact hB.drew) (by first | exact hB.size | (have := hS.1; omega)); have c0 := hS.2.1; have c1 := hS.2.2.1; have c2 := hS.2.2.2))
  go_wp2
  go_ret
  exact ⟨by rw [HB.out]; rfl, by first | exact hB | exact hB.drew⟩

end Go.Proofs.Ytmolcpojdojmlaa

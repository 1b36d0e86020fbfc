/- The list of marks in memory; the search in it. -/
import Derived.Test.YtkglgficmealnaaMp1
namespace Go.Proofs.Ytkglgficmealnaa
open Go.RowKit Go.My Go.Lib
set_option linter.unusedVariables false
set_option maxRecDepth 100000

theorem eqlMk (a b : Mk) (w : World) : (binOp .eql 127 (mkV a) (mkV b)).run Try.prog w = .ok (.bool (decide (a = b))) w := by
  simp only [binOp]
  simp [eqMk]
abbrev mkC (k : Mk) : Array Value := #[.string k.1, .int .i64 k.2]
set_option maxHeartbeats 1000000 in
theorem same_clo (kb : Nat) (a b : Mk) (w : World) (h : BlkAt kb (mkC b) 127 w) :
    Calls Try.prog 99 #[mkV a, .pointer (some ⟨kb, 0, none⟩)] w fun e w' => e = .returned (.bool (decide (a = b))) ∧ Below w.heap.size w w' := by
  obtain ⟨p, n⟩ := a
  obtain ⟨q, m⟩ := b
  have lt := h.lt
  have h1 := h.past (.cells #[.string p, .int .i64 n] 127)
  have c0 := h.cell (j := 0) rfl
  have c1 := h.cell (j := 1) rfl
  have d0 := h1.cell (j := 0) rfl
  have d1 := h1.cell (j := 1) rfl
  have he := eqlMk (p, n) (q, m)
  generalize decide (((p, n) : Mk) = (q, m)) = R at *
  go_enter Try.func99, Try.ntmps99
  go_wp2
  go_ret
  exact ⟨rfl, below_box w _⟩
/-- Block g holds these marks, and has room for so many. -/
def OrdAt (g cap : Nat) (L : List Mk) (w : World) : Prop := ∃ cur : Array Value, w.heap[g]? = some (.cells cur 127 (0, 0)) ∧ cur.size = 2 * cap ∧ L.length ≤ cap ∧ (L.length ≤ 1000000 ∧ cap ≤ maxLen) ∧ ∀ i (k : Mk), L[i]? = some k → cur[2 * i]? = some (.string k.1) ∧ cur[2 * i + 1]? = some (.int .i64 k.2)
theorem OrdAt.lt {g cap : Nat} {L : List Mk} {w : World} (h : OrdAt g cap L w) : g < w.heap.size := by obtain ⟨_, h, _⟩ := h; exact (Array.getElem?_eq_some_iff.1 h).1
theorem OrdAt.below {g cap : Nat} {L : List Mk} {w w' : World} (h : OrdAt g cap L w) (hb : Below w.heap.size w w') : OrdAt g cap L w' := by
  have hl := h.lt
  obtain ⟨cur, h1, h2⟩ := h
  exact ⟨cur, (hb.block g hl).trans h1, h2⟩
theorem OrdAt.cells {g cap : Nat} {L : List Mk} {w : World} (h : OrdAt g cap L w) {i : Nat} {k : Mk} (hi : L[i]? = some k) : w.cell? ⟨g, 2 * i, none⟩ = some (.string k.1) ∧ w.cell? ⟨g, 2 * i + 1, none⟩ = some (.int .i64 k.2) := by
  obtain ⟨cur, h1, _, _, _, h5⟩ := h
  exact ⟨(cell_of_row w g (2 * i) cur _ (0, 0) h1).trans (h5 i k hi).1, (cell_of_row w g (2 * i + 1) cur _ (0, 0) h1).trans (h5 i k hi).2⟩
def cloV (kb : Nat) : Value := .func (.func 99) #[] #[.pointer (some ⟨kb, 0, none⟩)]
set_option maxHeartbeats 2000000 in
theorem index_i (g cap : Nat) (L : List Mk) (kb : Nat) (b : Mk) (w : World) (hO : OrdAt g cap L w) (hK : BlkAt kb (mkC b) 127 w) :
    Calls Try.prog 106 #[.slice (some ⟨g, 0, none⟩) L.length cap, .func (.func 99) #[] #[.pointer (some ⟨kb, 0, none⟩)]] w fun e w' =>
      ∃ r : Int, e = .returned (.int .i64 r) ∧ ((r = -1 ∧ ∀ q : Nat, L[q]? ≠ some b) ∨ ∃ j : Nat, r = (j : Int) ∧ L[j]? = some b ∧ ∀ q, q < j → L[q]? ≠ some b) ∧ Below w.heap.size w w' := by
  have hlc : L.length ≤ 1000000 := by obtain ⟨_, _, _, h, h', _⟩ := hO; exact h'.1
  have hlI : (L.length : Int) ≤ 1000000 := by omega
  go_enter Try.func106, Try.ntmps106
  go_wp2
  go_loopw [8] (fun i wr => ∃ j : Nat, j ≤ L.length ∧ i = .int .i64 j ∧ (∀ q, q < j → L[q]? ≠ some b) ∧ Below w.heap.size w wr) (fun i _ => L.length - (intOf i).toNat)
  case atStart => exact ⟨0, by omega, rfl, fun q hq => by omega, Below.refl _ _⟩
  case round =>
    obtain ⟨j, hj, rfl, hno, hB⟩ := hrel
    by_cases hlt : j < L.length
    case neg =>
      obtain rfl : j = L.length := by omega
      go_wp2
      go_ret
      exact ⟨_, rfl, .inl ⟨rfl, fun q => by
        by_cases hq : q < L.length
        · exact hno q hq
        · rw [List.getElem?_eq_none (by omega)]; simp⟩, hB⟩
    have hltI : (j : Int) < (L.length : Int) := by omega
    obtain ⟨k, hk⟩ : ∃ k, L[j]? = some k := ⟨L[j], List.getElem?_eq_getElem hlt⟩
    have hO1 := hO.below hB
    have hK1 := BlkAt.below hB hK
    have hc := hO1.cells hk
    have c0 := hc.1
    have c1 := hc.2
    have e2 : j * 2 = 2 * j := Nat.mul_comm _ _
    have C := Lib.hid (same_clo kb k b _ hK1)
    obtain ⟨p, n⟩ := k
    simp only at c0 c1
    go_wp2_with fail
    refine C.out.mono ?_
    rintro e w2 ⟨rfl, hb2⟩
    have hB2 := hB.trans (hb2.mono hB.size)
    have hw1 : IntKind.i64.wrap ((j : Int) + 1) = (j : Int) + 1 := IntWalk.i64_in _ (by omega)
    by_cases heq : ((p, n) : Mk) = b
    · rw [decide_eq_true heq]
      clear c0 c1 hc
      go_wp2
      go_ret
      exact ⟨_, rfl, .inr ⟨j, rfl, by rw [hk, heq], hno⟩, hB2⟩
    · rw [decide_eq_false heq]
      clear c0 c1 hc
      go_wp2
      go_round
      case rel => exact ⟨j + 1, by omega, by go_num, fun q hq => by
        by_cases c : q = j
        · subst c; rw [hk]; exact fun e => heq (Option.some.inj e)
        · exact hno q (by omega), hB2⟩
      case measure => simp [intOf]; omega

end Go.Proofs.Ytkglgficmealnaa

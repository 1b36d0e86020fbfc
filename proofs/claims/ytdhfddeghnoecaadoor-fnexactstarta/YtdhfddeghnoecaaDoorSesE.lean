/- The laws' own helpers on sessions without skipped keys. -/
import Derived.Test.YtdhfddeghnoecaaDoorStB1
namespace Go.Proofs.YtdhfddeghnoecaaDoor
open Go.RowKit Go.My Go.Lib
set_option linter.unusedVariables false

theorem eqSkipS_nil (w : World) : Calls Tryd.prog 28 #[.slice none 0 0, .slice none 0 0] w fun e w' => e = .returned (.bool true) ∧ w = w' := by
  go_enter Tryd.func28, Tryd.ntmps28
  go_wp2
  go_loopw [5] (fun i wr => i = .int .i64 0 ∧ w = wr) (fun _ _ => 0)
  case atStart => exact ⟨rfl, rfl⟩
  case round =>
    obtain ⟨rfl, rfl⟩ := hrel
    go_wp2
    go_ret
    exact ⟨rfl, rfl⟩
theorem markSkipS_nil (k : Int) (w : World) : Calls Tryd.prog 29 #[.slice none 0 0, .int .i64 k] w fun e w' => e = .returned (.int .i64 k) ∧ w = w' := by
  go_enter Tryd.func29, Tryd.ntmps29
  go_wp2
  go_loopw [1, 5] (fun q i wr => q = .int .i64 k ∧ i = .int .i64 0 ∧ w = wr) (fun _ _ _ => 0)
  case atStart => exact ⟨rfl, rfl, rfl⟩
  case round =>
    obtain ⟨rfl, rfl, rfl⟩ := hrel
    go_wp2
    go_ret
    exact ⟨rfl, rfl⟩
theorem heldSkipS_nil (k : Int) (w : World) : Calls Tryd.prog 30 #[.slice none 0 0, .int .i64 k] w fun e w' => e = .returned (.int .i64 k) ∧ w = w' := by
  go_enter Tryd.func30, Tryd.ntmps30
  go_wp2
  go_loopw [1, 5] (fun q i wr => q = .int .i64 k ∧ i = .int .i64 0 ∧ w = wr) (fun _ _ _ => 0)
  case atStart => exact ⟨rfl, rfl, rfl⟩
  case round =>
    obtain ⟨rfl, rfl, rfl⟩ := hrel
    go_wp2
    go_ret
    exact ⟨rfl, rfl⟩
theorem markSes (r o p t s : ByteArray) (n v : Int) (q : ByteArray) (m : Int) (k : Int) (w : World) : Calls Tryd.prog 10 #[.agg (sesA r o p t s n v q m), .int .i64 k] w fun e w' => e = .returned (.int .i64 k) ∧ Below w.heap.size w w' := by
  go_enter Tryd.func10, Tryd.ntmps10
  go_wp2_with fail
  refine (markSkipS_nil k _).mono ?_
  rintro e w' ⟨rfl, rfl⟩
  go_wp2
  go_ret
  exact ⟨rfl, (Below.refl _ _).alloc (Nat.le_refl _) _⟩
theorem heldSes (r o p t s : ByteArray) (n v : Int) (q : ByteArray) (m : Int) (k : Int) (hk : 0 ≤ k) (w : World) : Calls Tryd.prog 11 #[.agg (sesA r o p t s n v q m), .int .i64 k] w fun e w' => e = .returned (.int .i64 k) ∧ Below w.heap.size w w' := by
  go_enter Tryd.func11, Tryd.ntmps11
  go_wp2_with fail
  refine (heldSkipS_nil k _).mono ?_
  rintro e w' ⟨rfl, rfl⟩
  go_wp2
  go_ret
  exact ⟨rfl, (Below.refl _ _).alloc (Nat.le_refl _) _⟩
theorem eqSes (r o p t s : ByteArray) (n v : Int) (q : ByteArray) (m : Int) (w : World) : Calls Tryd.prog 9 #[.agg (sesA r o p t s n v q m), .agg (sesA r o p t s n v q m)] w fun e w' => e = .returned (.bool true) ∧ Below w.heap.size w w' := by
  go_enter Tryd.func9, Tryd.ntmps9
  go_wp2_with fail
  refine (eqSkipS_nil _).mono ?_
  rintro e w' ⟨rfl, rfl⟩
  go_wp2
  go_ret
  exact ⟨rfl, ((Below.refl _ _).alloc (Nat.le_refl _) _).alloc (by simp) _⟩
/-- A session without skipped keys. -/
def IsSes (A : Array Value) : Prop := ∃ r o p t s n v q m, A = sesA r o p t s n v q m
theorem IsSes.sz {A : Array Value} (h : IsSes A) : (Tryd.prog.info? 24).map (·.size) = some A.size := by obtain ⟨r, o, p, t, s, n, v, q, m, rfl⟩ := h; exact szS
theorem IsSes.one {A : Array Value} (h : IsSes A) : A.all (·.oneCell') = true := by obtain ⟨r, o, p, t, s, n, v, q, m, rfl⟩ := h; exact sesOne _ _ _ _ _ _ _ _ _
theorem IsSes.zs {A : Array Value} (h : IsSes A) : sesZ.size = A.size := by obtain ⟨r, o, p, t, s, n, v, q, m, rfl⟩ := h; rfl
theorem IsSes.mark {A : Array Value} (h : IsSes A) (k : Int) (w : World) : Calls Tryd.prog 10 #[.agg A, .int .i64 k] w fun e w' => e = .returned (.int .i64 k) ∧ Below w.heap.size w w' := by obtain ⟨r, o, p, t, s, n, v, q, m, rfl⟩ := h; exact markSes _ _ _ _ _ _ _ _ _ k w
theorem IsSes.held {A : Array Value} (h : IsSes A) (k : Int) (hk : 0 ≤ k) (w : World) : Calls Tryd.prog 11 #[.agg A, .int .i64 k] w fun e w' => e = .returned (.int .i64 k) ∧ Below w.heap.size w w' := by obtain ⟨r, o, p, t, s, n, v, q, m, rfl⟩ := h; exact heldSes _ _ _ _ _ _ _ _ _ k hk w
theorem IsSes.eq {A : Array Value} (h : IsSes A) (w : World) : Calls Tryd.prog 9 #[.agg A, .agg A] w fun e w' => e = .returned (.bool true) ∧ Below w.heap.size w w' := by obtain ⟨r, o, p, t, s, n, v, q, m, rfl⟩ := h; exact eqSes _ _ _ _ _ _ _ _ _ w
theorem stB_is (r o : ByteArray) : IsSes (stB r o) := by
  unfold stB
  split
  · exact ⟨_, _, _, _, _, _, _, _, _, rfl⟩
  · exact ⟨_, _, _, _, _, _, _, _, _, rfl⟩

end Go.Proofs.YtdhfddeghnoecaaDoor

/- Key chains: the iterator over the steps. -/
import Derived.Test.YtabomojhbfbgbaaDoorChn1
import Derived.RangeFuncNested
import Derived.RangeFuncBound
import Derived.RangeFuncCalls
import Derived.RangeFuncLeaves
import Derived.RangeFuncFrom
import Derived.Shelf.Abstract
import Derived.Shelf.RegionOpen
import Derived.WalkKit
import Derived.OwnWalkIn
import Derived.TacticsInMore
import Derived.LoopNIn
import Derived.LoopIn
namespace Go.Proofs.YtabomojhbfbgbaaDoor
open Go.RowKit Go.My Go.Lib Go.Shelf
set_option linter.unusedVariables false
attribute [local go_sem] Oper.semAt_some

def keyS (k : ByteArray) : Nat → ByteArray
  | 0 => k
  | j + 1 => nextS (keyS k j)
theorem keyS_size (k : ByteArray) (h : k.size = 32) (j : Nat) : (keyS k j).size = 32 := by
  cases j with
  | zero => exact h
  | succ j => exact nextS_size _
theorem keyS_shift (k : ByteArray) (j : Nat) : keyS (nextS k) j = keyS k (j + 1) := by
  induction j with
  | zero => rfl
  | succ j ih => rw [keyS, ih]; rfl
def stepsOf (k : ByteArray) (n : Nat) : List (ByteArray × ByteArray) := (List.range n).map fun j => (nextS (keyS k j), nowS (keyS k j))
theorem stepsOf_succ (k : ByteArray) (n : Nat) : stepsOf k (n + 1) = stepsOf k n ++ [(nextS (keyS k n), nowS (keyS k n))] := by simp [stepsOf, List.range_succ]
theorem stepsOf_len (k : ByteArray) (n : Nat) : (stepsOf k n).length = n := by simp [stepsOf]

set_option maxRecDepth 100000 in
set_option maxHeartbeats 4000000 in
theorem chain1_in (n : Nat) (hn : 1 ≤ n) (l bk bs n₀ : Nat) (k : ByteArray) (hk : k.size = 32) (N : Nat) (hN : N ≤ 1001) (J Jx : List (ByteArray × ByteArray) → World → Prop)
    (hY : ∀ pre x W, J pre W → pre.length < N → YieldAt Fence.wide (n - 1) Tryd.prog l #[.string x.1, .string x.2] W fun e W' =>
      (e = .returned (.bool true) ∧ J (pre ++ [x]) W' ∧ Below n₀ W W') ∨ (e = .returned (.bool false) ∧ Jx (pre ++ [x]) W'))
    (W : World) (hJ : AbidesFrom W.heap.size J) (hbk : W.cell? ⟨bk, 0, none⟩ = some (.string k)) (hbs : W.cell? ⟨bs, 0, none⟩ = some (.int .i64 N)) (hT : TabK W) (hTn : 0 < n₀) (hn0 : n₀ ≤ W.heap.size) (h0 : J [] W) :
    CallsIn Fence.wide n Tryd.prog 58 #[.func (.yield l) #[] #[], .pointer (some ⟨bk, 0, none⟩), .pointer (some ⟨bs, 0, none⟩)] W fun e W' => (∃ v, e = .returned v) ∧
      ((∃ ys, ys = stepsOf k N ∧ J ys W') ∨ (∃ pre, True ∧ Jx pre W')) := by
  refine callsIn_of_wp Tryd.func58 rfl trivial ?_ rfl
  simp only [Tryd.ntmps58, List.size_toArray, List.length_cons, List.length_nil, Nat.reduceAdd, Nat.reduceSub, Array.replicate_succ, Array.replicate_zero, List.push_toArray, List.append_toArray, List.nil_append, List.cons_append]
  gi_wp2
  gi_loopw [4, 9] (fun f i wr => ∃ j : Nat, j ≤ N ∧ f = .string (keyS k j) ∧ i = .int .i64 j ∧ J (stepsOf k j) wr ∧ Below n₀ W wr)
    (fun _ i _ => N - (intOf i).toNat)
  case atStart => exact ⟨0, Nat.zero_le _, rfl, rfl, h0, Below.refl _ _⟩
  case round =>
    obtain ⟨j, hj, rfl, rfl, hJs, hnx⟩ := hrel
    by_cases hlt : j < N
    · have hsz := keyS_size k hk j
      have HST : ∀ V, TabK V → Calls Tryd.prog 22 #[.string (keyS k j)] V fun e w' => e = .returned (.tuple #[.string (nextS (keyS k j)), .string (nowS (keyS k j))]) ∧ Below V.heap.size V w' := fun V hV => stepV_yes _ hsz ▸ step_impl (keyS k j) V hV (by omega)
      have hTr : TabK wr := hT.below hnx hTn
      have hlt' : (j : Int) < (N : Int) := by omega
      have hj1 : (j : Int) ≤ 1001 := by omega
      have hlen : (stepsOf k j).length < N := by rw [stepsOf_len]; exact hlt
      have hJA : ∀ V, Below wr.heap.size wr V → J (stepsOf k j) V := fun V hV => hJ _ _ _ none hJs ⟨hV.os, hV.tape, hV.output, hV.size, fun q hq _ => hV.block q hq⟩ (fun r e => by cases e)
      gi_wp2_with (refine ⟨trivial, ?_⟩; gi_at_call 22; refine (callsIn_wide.2 (HST _ hTr)).mono ?_; rintro e w2 ⟨rfl, hb2⟩; obtain ⟨fn, tmps, assign, body, hy, hR⟩ := hY _ (nextS (keyS k j), nowS (keyS k j)) w2 (hJA w2 hb2) hlen; dsimp only at hy)
      refine hR.mono ?_
      rintro e W3 (⟨rfl, hJ3, hk3⟩ | ⟨rfl, hJx3⟩)
      · gi_wp2
        go_roundw
        case rel => exact ⟨j + 1, by omega, rfl, by simp, by rw [stepsOf_succ]; exact hJ3, (hnx.trans (hb2.mono (Nat.le_trans hn0 hnx.size))).trans hk3⟩
        case measure => simp [intOf]; omega
      · gi_wp2
        refine bodyPost_ret (results_none rfl _ _ _) rfl ?_
        exact ⟨⟨_, rfl⟩, .inr ⟨_, trivial, hJx3⟩⟩
    · obtain rfl : j = N := by omega
      gi_wp2
      go_end0
      exact ⟨⟨_, rfl⟩, .inl ⟨_, rfl, hJs⟩⟩

theorem chain_stops (n : Nat) (hn : 1 ≤ n) (bk bs n₀ : Nat) (k : ByteArray) (hk : k.size = 32) (N : Nat) (hN : N ≤ 1001) (w : World) (hbk : bk < w.heap.size) (hbs : bs < w.heap.size) (hn₀ : n₀ ≤ w.heap.size) (hTn : 0 < n₀)
    (ck : w.cell? ⟨bk, 0, none⟩ = some (.string k)) (cs : w.cell? ⟨bs, 0, none⟩ = some (.int .i64 N)) (hT : TabK w) :
    SeqStopsK Fence.wide n Tryd.prog 58 #[.pointer (some ⟨bk, 0, none⟩), .pointer (some ⟨bs, 0, none⟩)] (fun x : ByteArray × ByteArray => #[Value.string x.1, Value.string x.2]) (Below n₀) (fun ys => ys = stepsOf k N) (fun _ => True) N w := fun l J Jx W hW hJ _ hY h0 =>
  chain1_in n hn l bk bs n₀ k hk N hN J Jx hY W hJ ((hW.cell (p := ⟨bk, 0, none⟩) hbk).trans ck) ((hW.cell (p := ⟨bs, 0, none⟩) hbs).trans cs) (hT.below hW (Nat.lt_of_lt_of_le hTn hn₀)) hTn (Nat.le_trans hn₀ hW.size) h0

end Go.Proofs.YtabomojhbfbgbaaDoor

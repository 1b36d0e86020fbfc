/- Key chains: ChainKey, of the program and of the specification. -/
import Derived.Test.YtabomojhbfbgbaaDoorChn3
namespace Go.Proofs.YtabomojhbfbgbaaDoor
open Go.RowKit Go.My Go.Lib Go.Shelf
set_option linter.unusedVariables false
attribute [local go_sem] Oper.semAt_some

def lastNow (l : List (ByteArray × ByteArray)) : ByteArray := (l.getLast?.map (·.2)).getD ⟨#[]⟩
theorem lastNow_snoc (l : List (ByteArray × ByteArray)) (x : ByteArray × ByteArray) : lastNow (l ++ [x]) = x.2 := by simp [lastNow]

theorem chain_any (k : ByteArray) (n : Int) (w : World) :
    Calls Tryd.prog 45 #[.string k, .int .i64 n] w fun e w' => e = .returned (.func (.func 58) #[] #[.pointer (some ⟨w.heap.size, 0, none⟩), .pointer (some ⟨w.heap.size + 1, 0, none⟩)]) ∧ w' = (w.alloc (.cells #[.string k] 9)).alloc (.cells #[.int .i64 n] 2) := by
  have hmf : ∀ (fn : Fn) (first cap : Array Value) (w : World), (Instr.makeFunc fn first cap).run Tryd.prog w = .ok (.func fn first cap) w := fun _ _ _ _ => rfl
  go_enter Tryd.func45, Tryd.ntmps45
  go_wp2
  go_ret
  exact ⟨rfl, rfl⟩

set_option maxRecDepth 100000 in
set_option maxHeartbeats 4000000 in
theorem chainKey_yes (k : ByteArray) (n : Nat) (w : World) (hT : TabK w) (hk : k.size = 32) (hn : n ≤ 1000) :
    Calls Tryd.prog 24 #[.string k, .int .i64 n] w fun e w' => e = .returned (.string (nowS (keyS k n))) ∧ Below w.heap.size w w' := by
  refine (callsIn_wide (n := 3)).1 ?_
  have HK := Lib.hid (fun V => isKey_i k V true (decide_eq_true hk) (by omega))
  have hn0 : (0 : Int) ≤ (n : Int) := by omega
  have hn1 : (n : Int) ≤ 1000 := by omega
  refine callsIn_of_wp_marks Tryd.func24 rfl trivial ?_ rfl
  simp only [Tryd.ntmps24, List.size_toArray, List.length_cons, List.length_nil, Nat.reduceAdd, Nat.reduceSub, Array.replicate_succ, Array.replicate_zero, List.push_toArray, List.append_toArray, List.nil_append, List.cons_append]
  gi_wp2_with (first
    | (refine ⟨trivial, ?_⟩; gi_at_call 43; refine (callsIn_wide.2 (HK.out _)).mono ?_; rintro e w2 ⟨rfl, rfl⟩)
    | (refine ⟨trivial, ?_⟩; gi_at_call 45; refine (callsIn_wide.2 (chain_any _ _ _)).mono ?_; rintro e w2 ⟨rfl, rfl⟩))
  obtain ⟨W0, hW0⟩ : ∃ W0, ((w.alloc (.cells #[.string ⟨#[]⟩] 9)).alloc (.cells #[.string k] 9)).alloc (.cells #[.int .i64 ((n : Int) + 1)] 2) = W0 := ⟨_, rfl⟩
  have hsz : W0.heap.size = w.heap.size + 1 + 1 + 1 := by rw [← hW0]; simp
  have hB0 : Below w.heap.size w W0 := by rw [← hW0]; exact (((Below.refl _ w).alloc (Nat.le_refl _) _).alloc (by simp) _).alloc (by simp; omega) _
  have cf : W0.cell? ⟨w.heap.size, 0, none⟩ = some (.string ⟨#[]⟩) := by rw [← hW0]; simp [go_sem]
  have ff : W0.frozen? ⟨w.heap.size, 0, none⟩ = false := by rw [← hW0]; simp [go_sem]
  have ck : W0.cell? ⟨w.heap.size + 1, 0, none⟩ = some (.string k) := by rw [← hW0]; simp [go_sem]
  have cn : W0.cell? ⟨w.heap.size + 1 + 1, 0, none⟩ = some (.int .i64 ((n + 1 : Nat) : Int)) := by rw [← hW0, show ((n + 1 : Nat) : Int) = (n : Int) + 1 by omega]; simp [go_sem]
  have hT0 := hT.below hB0 hT.1
  rw [hW0]
  clear hW0
  refine wpIn_rangeFunc_ownF rfl (by omega) (gf := 58) (lb := #[.pointer (some ⟨w.heap.size + 1, 0, none⟩), .pointer (some ⟨w.heap.size + 1 + 1, 0, none⟩)]) rfl trivial (enters_of Tryd.func58 (by kernel_rfl) rfl)
    (chain_stops 2 (by omega) (w.heap.size + 1) (w.heap.size + 1 + 1) w.heap.size k hk (n + 1) (by omega) W0 (by omega) (by omega) (by omega) hT.1 ck cn hT0) belowK_t (belowK_b (by omega)) (Below.refl _ _) (fun _ => rfl)
    (fun pre W => (W.cell? ⟨w.heap.size, 0, none⟩ = some (.string (lastNow pre)) ∧ W.frozen? ⟨w.heap.size, 0, none⟩ = false) ∧ Below w.heap.size w W)
    (fun _ _ _ => False)
    (OwnFrom.and (Own.from (fun s A B row hs hg hr => ⟨cell_kept hs.1 hg hr, (frozen_kept hs.1 hg hr).trans hs.2⟩) _) (ownFrom_below (Nat.le_refl _) (by omega)))
    (fun _ _ _ _ _ hs _ _ => hs)
    ⟨⟨cf, ff⟩, hB0⟩
    (fun x => { tmps := #[Value.string k, Value.int IntKind.i64 ↑n, undef, undef, Value.string { data := #[] },
          Value.pointer (some { block := w.heap.size, off := 0 }), undef, Value.string x.2, Value.string k, Value.bool true,
          Value.bool false, Value.bool false, Value.int IntKind.i64 ↑n, Value.bool (decide ((n : Int) < 0)),
          Value.bool (decide ((n : Int) < 0)), Value.bool (decide ((n : Int) < 0)), Value.int IntKind.i64 ↑n,
          Value.bool (decide (1000 < (n : Int))), Value.bool (decide ((n : Int) < 0) || decide (1000 < (n : Int))), Value.string k,
          Value.int IntKind.i64 ↑n, Value.int IntKind.i64 (↑n + 1),
          Value.func (Fn.func 58) #[]
            #[Value.pointer (some { block := w.heap.size + 1, off := 0 }),
              Value.pointer (some { block := w.heap.size + 1 + 1, off := 0 })],
          Value.string x.1, Value.string x.2, undef, undef], defers := [] }) ?assign ?body ?done ?stop
  case assign =>
    intro l x W K hK
    gi_wp2
    exact hK
  case body =>
    rintro l pre x W ⟨⟨hc, hf⟩, hB⟩ _
    gi_wp2
    exact ⟨KeepsOthers.setCell _ _ _, (Below.refl w.heap.size W).setCell (p := ⟨w.heap.size, 0, none⟩) (Nat.le_refl _) _, ⟨by rw [lastNow_snoc]; exact World.cell?_setCell_same' _ _ _ (by rw [hc]; rfl), by rw [World.frozen?_setCell]; exact hf⟩, hB.setCell (p := ⟨w.heap.size, 0, none⟩) (Nat.le_refl _) _⟩
  case done =>
    rintro D ys W hD rfl ⟨⟨hc, hf⟩, hB⟩ hK
    rw [stepsOf_succ, lastNow_snoc] at hc
    gi_wp2
    refine ⟨by simp, .inl ⟨_, _, rfl, run_takeDeferred hK, ?_⟩⟩
    refine ⟨_, results_tmp rfl _ _ _, rfl, ?_⟩
    exact hB.trans (belowK_b (w := w) (Nat.le_refl _) W D _ _ (by omega) hK rfl rfl)
  case stop =>
    rintro D c pre W _ _ h _
    exact h.elim

end Go.Proofs.YtabomojhbfbgbaaDoor

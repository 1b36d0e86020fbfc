/- Regions whose last operations come in their order; sums of strings and loads of strings within regions. -/
import Derived.Test.YtkglgficmealnaaRegB
import Derived.Test.YtkglgficmealnaaRows
namespace Go.My
open Go.RowKit
set_option linter.unusedVariables false
section
variable {P : Program} {Q : Exit → Act → World → Prop} {ops : Array Oper} {m : Nat} {a0 : Act} {w0 : World} {D : Nat → Kd} {i : Nat} {o : Oper}
theorem anyStep {n i : Nat} {L : Array Bool} {rest : List Oper} {a : Act} {w : World} (hr : Region.ready .any ops L = [i]) (ho : ops[i]? = some o) (hK : ∀ a w, wpList P ops Q rest a w → wpAny P .any ops Q n (L.setIfInBounds i true) a w) (h : wpList P ops Q (o :: rest) a w) : wpAny P .any ops Q (n + 1) L a w := by
  refine ⟨fun h => by (rw [hr] at h; cases h), fun j hj => ?_⟩
  rw [hr] at hj
  obtain rfl := List.mem_singleton.1 hj
  unfold wpOp
  simp only [ho]
  unfold wpList at h
  by_cases c : Region.wanted o (yielded ops a.tmps) = true
  · rw [if_pos c] at h ⊢
    rcases h with h | h
    · exact .inl (Oper.wp_mono hK h)
    · exact .inr h
  · rw [if_neg c] at h ⊢
    exact hK _ _ h
theorem anyEnd {L : Array Bool} {a : Act} {w : World} (hr : Region.ready .any ops L = []) (h : wpList P ops Q [] a w) : wpAny P .any ops Q 0 L a w := ⟨hr, h⟩
theorem region_rest {id : Nat} (m : Nat) (D : Nat → Kd) (ds : List (Option Tmp)) (hm : P.follows .mixedOrders = true) (hmn : m ≤ ops.size) (hds : (List.range m).map (dstOf ops) = ds) (hd : apartB ops m = true) (hord : orderB ops = true) (htail : tailB ops m = true) (hsz : dstB ops a0.tmps.size = true)
    (rest : List Oper) (hT : ∀ a w, wpList P ops Q rest a w → wpAny P .any ops Q (ops.size - m) (listedTo ops.size m) a w)
    (hs : ∀ i, i < m → StepOk P Q ops m a0 w0 D i)
    (hK : ∀ v w, OkAll w0.heap.size D v (fun j => decide (j < m)) w → Kept (HitBy D (fun j => decide (j < m))) w0 w → wpList P ops Q rest (putL ds v 0 a0) w) :
    (Code.region id ops true).wp P Q a0 w0 := by
  refine region_fun m D hm hmn hd hord htail hsz hs fun v w ho hb => ?_
  have := hK v w ho hb
  rw [← hds, ← putAll_list v a0 m m (Nat.le_refl _)] at this
  exact hT _ _ this
theorem stepBin {x y z : Value} {bop : BinOp} {T U : TypeId} {k l : Tmp} (hoi : ops[i]? = some o) (hg : o.guard = none) (hD : D i = .val z) (hop : o.op = .binOp bop T (.tmp k) (.tmp l) U) (hk : Src ops m a0 D o k x) (hl : Src ops m a0 D o l y)
    (hr : ∀ w, (do eqGuard bop T (.tmp k) (.tmp l) x y; binOp bop T x y : Sem Value).run P w = .ok z w) : StepOk P Q ops m a0 w0 D i := by
  refine stepRun [(k, x), (l, y)] hoi hg hD (srcN2 hk hl) fun a w ha hb => ?_
  have h1 : a.eval (.tmp k) = x := ha (k, x) (by simp)
  have h2 : a.eval (.tmp l) = y := ha (l, y) (by simp)
  unfold execOp
  simp only [hop]
  simp only [h1, h2]
  rw [Sem.run_bind, hr w]
  rfl
end
end Go.My
namespace Go.Proofs.Ytkglgficmealnaa
open Go.RowKit Go.My
theorem strAdd (a b : ByteArray) (k l : Operand) (h : ¬ 9223372036854775807 < a.size + b.size) (w : World) : (do eqGuard .add 9 k l (.string a) (.string b); binOp .add 9 (.string a) (.string b) : Sem Value).run Try.prog w = .ok (.string (a ++ b)) w := by
  simp [eqGuard, binOp, go_sem, h]
theorem ldStr {g j : Nat} {s : ByteArray} {w : World} (h : w.cell? ⟨g, j, none⟩ = some (.string s)) : (Instr.loadAt 9 (.pointer (some ⟨g, j, none⟩))).run Try.prog w = .ok (.string s) w := by
  simp [Instr.loadAt, go_sem, h]
end Go.Proofs.Ytkglgficmealnaa

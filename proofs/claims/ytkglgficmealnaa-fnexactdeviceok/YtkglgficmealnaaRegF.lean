/- More pieces of regions in whatever order: constants among the operands. Nothing of the program is named. -/
import Derived.Test.YtkglgficmealnaaRegB
import Derived.Test.YtkglgficmealnaaRegC
namespace Go.My
open Go.RowKit
set_option linter.unusedVariables false
section
variable {P : Program} {Q : Exit → Act → World → Prop} {ops : Array Oper} {m : Nat} {a0 : Act} {w0 : World} {D : Nat → Kd} {i : Nat} {o : Oper}
theorem srcF1 {C : Tmp → Value → Prop} {k : Tmp} {y : Value} (h : C k y) : ∀ p ∈ [(k, y)], C p.1 p.2 := fun p hp => by rw [List.mem_singleton.1 hp]; exact h
theorem srcF3 {C : Tmp → Value → Prop} {k l m : Tmp} {y z u : Value} (h : C k y) (h2 : C l z) (h3 : C m u) : ∀ p ∈ [(k, y), (l, z), (m, u)], C p.1 p.2 := fun p hp => by
  rcases List.mem_cons.1 hp with e | e
  · rw [e]; exact h
  · rcases List.mem_cons.1 e with e | e
    · rw [e]; exact h2
    · rw [List.mem_singleton.1 e]; exact h3
theorem stepIndexK {x c z : Value} {T : TypeId} {k : Tmp} (hoi : ops[i]? = some o) (hg : o.guard = none) (hD : D i = .val z) (hop : o.op = .index T (.tmp k) (.const c)) (hk : Src ops m a0 D o k x)
    (hr : ∀ w, (Instr.index T x c).run P w = .ok z w) : StepOk P Q ops m a0 w0 D i := by
  refine stepRun [(k, x)] hoi hg hD (srcF1 hk) fun a w ha hb => ?_
  have h1 : a.eval (.tmp k) = x := ha (k, x) (by simp)
  have h2 : a.eval (.const c) = c := rfl
  unfold execOp
  simp only [hop]
  simp only [h1, h2, Sem.run_bind, hr w, Result.andThen_ok, Sem.run_pure]
theorem stepConvK {x y : Value} {T U : TypeId} {k : Tmp} (hoi : ops[i]? = some o) (hg : o.guard = none) (hD : D i = .val x) (hop : o.op = .convert T U (.tmp k)) (hk : Src ops m a0 D o k y)
    (hl : ∀ w, (convert T U y).run P w = .ok x w) : StepOk P Q ops m a0 w0 D i := by
  refine stepRun [(k, y)] hoi hg hD (srcF1 hk) fun a w ha hb => ?_
  have := ha (k, y) (by simp)
  unfold execOp
  simp only [hop]
  simp only [this, Sem.run_bind, hl w, Result.andThen_ok, Sem.run_pure]
theorem stepBinK {c y z : Value} {bop : BinOp} {T U : TypeId} {l : Tmp} (hoi : ops[i]? = some o) (hg : o.guard = none) (hD : D i = .val z) (hop : o.op = .binOp bop T (.tmp l) (.const c) U) (hl : Src ops m a0 D o l y)
    (hr : ∀ w, (do eqGuard bop T (.tmp l) (.const c) y c; binOp bop T y c : Sem Value).run P w = .ok z w) : StepOk P Q ops m a0 w0 D i := by
  refine stepRun [(l, y)] hoi hg hD (srcF1 hl) fun a w ha hb => ?_
  have h2 : a.eval (.tmp l) = y := ha (l, y) (by simp)
  unfold execOp
  simp only [hop]
  simp only [h2]
  rw [Sem.run_bind]
  have := hr w
  simp only [Act.eval] at this ⊢
  rw [this]
  rfl
end
end Go.My

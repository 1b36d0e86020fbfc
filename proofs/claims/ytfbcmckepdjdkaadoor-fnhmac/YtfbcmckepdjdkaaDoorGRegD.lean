/- Further pieces of regions: conversions, equal strings. -/
import Derived.Test.YtfbcmckepdjdkaaDoorGRegC
namespace Go.My
open Go.RowKit
set_option linter.unusedVariables false
section
variable {P : Program} {Q : Exit → Act → World → Prop} {ops : Array Oper} {m : Nat} {a0 : Act} {w0 : World} {D : Nat → Kd} {i : Nat} {o : Oper}
theorem stepConv {x : Value} {T U : TypeId} {k : Tmp} (y : Value) (hoi : ops[i]? = some o) (hg : o.guard = none) (hD : D i = .val x) (hop : o.op = .convert T U (.tmp k)) (hk : Src ops m a0 D o k y)
    (hl : ∀ w, Kept (Hits D) w0 w → (convert T U y).run P w = .ok x w) : StepOk P Q ops m a0 w0 D i := by
  refine stepRun [(k, y)] hoi hg hD (fun p hp => by rw [List.mem_singleton.1 hp]; exact hk) fun a w ha hb => ?_
  have := ha (k, y) (by simp)
  unfold execOp
  simp only [hop]
  simp only [this, Sem.run_bind, hl w hb, Result.andThen_ok, Sem.run_pure]
end
end Go.My
namespace Go.Proofs.YtfbcmckepdjdkaaDoor
open Go.RowKit Go.My
theorem strSame (a : ByteArray) (k l : Operand) (w : World) : (do eqGuard .eql 9 k l (.string a) (.string a); binOp .eql 9 (.string a) (.string a) : Sem Value).run Tryd.prog w = .ok (.bool true) w := by
  simp [eqGuard, binOp, Op.stringOp, go_sem]
end Go.Proofs.YtfbcmckepdjdkaaDoor

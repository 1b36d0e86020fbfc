/- Further pieces of regions: nil checks, elements' addresses, words of 32 bits. -/
import Derived.Test.YtkglgficmealnaaRegC
import Derived.Test.YtkglgficmealnaaMathS
import Derived.WalkKit
import Derived.ProofKit
namespace Go.My
open Go.RowKit
set_option linter.unusedVariables false
section
variable {P : Program} {Q : Exit → Act → World → Prop} {ops : Array Oper} {m : Nat} {a0 : Act} {w0 : World} {D : Nat → Kd} {i : Nat} {o : Oper}
theorem stepNil {p : Addr} {k : Tmp} (hoi : ops[i]? = some o) (hg : o.guard = none) (hD : D i = .val (.pointer (some p))) (hop : o.op = .nilCheck (.tmp k)) (hk : Src ops m a0 D o k (.pointer (some p))) : StepOk P Q ops m a0 w0 D i := by
  refine stepRun [(k, .pointer (some p))] hoi hg hD (fun q hq => by rw [List.mem_singleton.1 hq]; exact hk) fun a w ha hb => ?_
  have := ha (k, .pointer (some p)) (by simp)
  unfold execOp
  simp only [hop]
  simp only [this, Sem.run_pure]
theorem stepIdx {x y z : Value} {T : TypeId} {k l : Tmp} (hoi : ops[i]? = some o) (hg : o.guard = none) (hD : D i = .val z) (hop : o.op = .indexAddr T (.tmp k) (.tmp l)) (hk : Src ops m a0 D o k x) (hl : Src ops m a0 D o l y)
    (hr : ∀ w, (Instr.indexAt T x y).run P w = .ok z w) : StepOk P Q ops m a0 w0 D i := by
  refine stepRun [(k, x), (l, y)] hoi hg hD (srcN2 hk hl) fun a w ha hb => ?_
  have h1 : a.eval (.tmp k) = x := ha (k, x) (by simp)
  have h2 : a.eval (.tmp l) = y := ha (l, y) (by simp)
  unfold execOp
  simp only [hop]
  simp only [h1, h2, Sem.run_bind, hr w, Result.andThen_ok, Sem.run_pure]
theorem stepBinL {c y z : Value} {bop : BinOp} {T U : TypeId} {l : Tmp} (hoi : ops[i]? = some o) (hg : o.guard = none) (hD : D i = .val z) (hop : o.op = .binOp bop T (.const c) (.tmp l) U) (hl : Src ops m a0 D o l y)
    (hr : ∀ w, (do eqGuard bop T (.const c) (.tmp l) c y; binOp bop T c y : Sem Value).run P w = .ok z w) : StepOk P Q ops m a0 w0 D i := by
  refine stepRun [(l, y)] hoi hg hD (srcN1 hl) fun a w ha hb => ?_
  have h2 : a.eval (.tmp l) = y := ha (l, y) (by simp)
  unfold execOp
  simp only [hop]
  simp only [h2]
  rw [Sem.run_bind]
  have := hr w
  simp only [Act.eval] at this ⊢
  rw [this]
  rfl
end
end Go.My
namespace Go.Proofs.Ytkglgficmealnaa
open Go.RowKit Go.My
set_option linter.unusedVariables false
theorem ldW {g j : Nat} {x : Int} {w : World} (h : w.cell? ⟨g, j, none⟩ = some (.int .u32 x)) : (Instr.loadAt 163 (.pointer (some ⟨g, j, none⟩))).run Try.prog w = .ok (.int .u32 x) w := by
  simp [Instr.loadAt, go_sem, h]
theorem addW (a b : Int) (k l : Operand) (w : World) : (do eqGuard .add 163 k l (.int .u32 a) (.int .u32 b); binOp .add 163 (.int .u32 a) (.int .u32 b) : Sem Value).run Try.prog w = .ok (.int .u32 (add32 a b)) w := by
  simp [eqGuard, binOp, go_sem, add32]
theorem xorW (a b : Int) (k l : Operand) (w : World) : (do eqGuard .xor 163 k l (.int .u32 a) (.int .u32 b); binOp .xor 163 (.int .u32 a) (.int .u32 b) : Sem Value).run Try.prog w = .ok (.int .u32 (xor32 a b)) w := by
  simp [eqGuard, binOp, go_sem, xor32]
theorem orW (a b : Int) (k l : Operand) (w : World) : (do eqGuard .or 163 k l (.int .u32 a) (.int .u32 b); binOp .or 163 (.int .u32 a) (.int .u32 b) : Sem Value).run Try.prog w = .ok (.int .u32 (bits .or .u32 a b)) w := by
  simp [eqGuard, binOp, go_sem]
theorem subI (r : Nat) (h : r ≤ 32) (k l : Operand) (w : World) : (do eqGuard .sub 3 k l (.int .i64 32) (.int .i64 r); binOp .sub 3 (.int .i64 32) (.int .i64 r) : Sem Value).run Try.prog w = .ok (.int .i64 (32 - r : Nat)) w := by
  have : IntKind.i64.wrap (32 - (r : Int)) = ((32 - r : Nat) : Int) := by rw [IntKind.wrap_i64]; omega
  simp [eqGuard, binOp, go_sem, this]
theorem shlW (x : Int) (r : Nat) (h0 : 0 ≤ x) (h1 : x ≤ 4294967295) (hr : r ≤ 31) (k l : Operand) (w : World) : (do eqGuard .shl 163 k l (.int .u32 x) (.int .i64 r); binOp .shl 163 (.int .u32 x) (.int .i64 r) : Sem Value).run Try.prog w = .ok (.int .u32 (x * 2 ^ r % 4294967296)) w := by
  simp [eqGuard, binOp, go_sem]
  exact IntKind.wrap_u32 _
theorem shrW (x : Int) (r : Nat) (h0 : 0 ≤ x) (h1 : x ≤ 4294967295) (hr : r ≤ 31) (k l : Operand) (w : World) : (do eqGuard .shr 163 k l (.int .u32 x) (.int .i64 r); binOp .shr 163 (.int .u32 x) (.int .i64 r) : Sem Value).run Try.prog w = .ok (.int .u32 (x / 2 ^ r)) w := by
  simp [eqGuard, binOp, go_sem]
end Go.Proofs.Ytkglgficmealnaa

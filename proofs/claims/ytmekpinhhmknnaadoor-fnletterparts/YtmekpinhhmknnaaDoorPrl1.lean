/- The text of an envelope: its parts. -/
import Derived.Test.YtmekpinhhmknnaaDoorDecS
import Derived.Test.YtmekpinhhmknnaaDoorWire4
import Derived.Test.YtmekpinhhmknnaaDoorRegC
import Derived.Deep.Cut
namespace Go.My
open Go.RowKit
set_option linter.unusedVariables false
section
variable {P : Program} {Q : Exit → Act → World → Prop} {ops : Array Oper} {m : Nat} {a0 : Act} {w0 : World} {D : Nat → Kd} {i : Nat} {o : Oper}
theorem stepLenP {s : ByteArray} {T : TypeId} {k : Tmp} (hoi : ops[i]? = some o) (hg : o.guard = none) (hD : D i = .val (.int .i64 s.size)) (hop : o.op = .call { callee := .builtin .len, args := #[.tmp k], argTypes := #[T] }) (hk : Src ops m a0 D o k (.string s))
    (hT : P.underlying T = some .string) : StepOk P Q ops m a0 w0 D i := by
  refine stepRun [(k, .string s)] hoi hg hD (srcN1 hk) fun a w ha hb => ?_
  have h1 : a.eval (.tmp k) = .string s := ha (k, .string s) (by simp)
  unfold execOp
  simp only [hop]
  have h2 : a.tmps[k]?.getD undef = .string s := by simpa [Act.eval] using h1
  simp [resolve, invoke, go_sem]
  rw [h2]
  simp [Builtin.len_, go_sem, run_underlying hT]
theorem stepBinRP {c y z : Value} {bop : BinOp} {T U : TypeId} {l : Tmp} (hoi : ops[i]? = some o) (hg : o.guard = none) (hD : D i = .val z) (hop : o.op = .binOp bop T (.tmp l) (.const c) U) (hl : Src ops m a0 D o l y)
    (hr : ∀ w, (do eqGuard bop T (.tmp l) (.const c) y c; binOp bop T y c : Sem Value).run P w = .ok z w) : StepOk P Q ops m a0 w0 D i := by
  refine stepRun [(l, y)] hoi hg hD (srcN1 hl) fun a w ha hb => ?_
  have h2 : a.eval (.tmp l) = y := ha (l, y) (by simp)
  unfold execOp
  simp only [hop]
  simp only [h2]
  rw [Sem.run_bind]
  have := hr w
  simp only [Act.eval] at this ⊢
  rw [this]
  rfl
end
end Go.My
namespace Go.Proofs.YtmekpinhhmknnaaDoor
open Go.RowKit Go.My Go.Lib
set_option linter.unusedVariables false

theorem ldI {g j : Nat} {n : Int} {w : World} (h : w.cell? ⟨g, j, none⟩ = some (.int .i64 n)) : (Instr.loadAt 2 (.pointer (some ⟨g, j, none⟩))).run Tryd.prog w = .ok (.int .i64 n) w := by
  simp [Instr.loadAt, go_sem, h]
abbrev gtr : ByteArray := { data := #[62] }
abbrev sp1 : ByteArray := { data := #[32] }
abbrev ini : ByteArray := { data := #[32, 105, 110, 105, 116, 32] }
abbrev inw : ByteArray := { data := #[105, 110, 105, 116] }
theorem gtr_size : gtr.size = 1 := rfl
theorem ini_size : ini.size = 6 := rfl
theorem spc_size : sp1.size = 1 := rfl
abbrev WfN (n : Int) : Prop := -9223372036854775808 ≤ n ∧ n ≤ 9223372036854775807
structure BdE (f t o a b : Int) (s : ByteArray) : Prop where
  f : WfN f
  t : WfN t
  o : WfN o
  a : WfN a
  b : WfN b
  s : WfN (s.size : Int)
def partT (f t : Int) (z : Bool) (o a b n : Int) : ByteArray := (if z = true then decV f ++ gtr ++ decV t ++ ini ++ decV o else decV f ++ gtr ++ decV t) ++ sp1 ++ decV a ++ sp1 ++ decV b ++ sp1 ++ decV n
def partV (f t : Int) (z : Bool) (p q : ByteArray) (o : Int) (u : ByteArray) (a b : Int) (s : ByteArray) : ByteArray := if EnvP f t z p q o u a b s then partT f t z o a b s.size else ByteArray.mk #[]
theorem partV_yes {f t : Int} {z : Bool} {p q : ByteArray} {o : Int} {u : ByteArray} {a b : Int} {s : ByteArray} (h : EnvP f t z p q o u a b s) : partV f t z p q o u a b s = partT f t z o a b s.size := if_pos h
theorem partV_no {f t : Int} {z : Bool} {p q : ByteArray} {o : Int} {u : ByteArray} {a b : Int} {s : ByteArray} (h : ¬ EnvP f t z p q o u a b s) : partV f t z p q o u a b s = ByteArray.mk #[] := if_neg h

end Go.Proofs.YtmekpinhhmknnaaDoor

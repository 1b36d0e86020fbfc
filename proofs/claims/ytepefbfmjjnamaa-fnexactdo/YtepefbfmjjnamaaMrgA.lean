/- Disks beside one another: what stands when one is marked. -/
import Derived.Test.YtepefbfmjjnamaaDkN
import Derived.Test.YtepefbfmjjnamaaDkH
import Derived.Test.YtepefbfmjjnamaaDkR
namespace Go.Proofs.Ytepefbfmjjnamaa
open Go.RowKit Go.My Go.Lib
set_option linter.unusedVariables false

structure Ap3 (s1 s2 s3 g1 g2 g3 : Value) : Prop where
  a11 : ApartV s1 g1
  a12 : ApartV s1 g2
  a13 : ApartV s1 g3
  a21 : ApartV s2 g1
  a22 : ApartV s2 g2
  a23 : ApartV s2 g3
  a31 : ApartV s3 g1
  a32 : ApartV s3 g2
  a33 : ApartV s3 g3
theorem Ap3.symm {s1 s2 s3 g1 g2 g3 : Value} (h : Ap3 s1 s2 s3 g1 g2 g3) : Ap3 g1 g2 g3 s1 s2 s3 :=
  ⟨h.a11.symm, h.a21.symm, h.a31.symm, h.a12.symm, h.a22.symm, h.a32.symm, h.a13.symm, h.a23.symm, h.a33.symm⟩
theorem ap3 {B C : Nat} {s1 s2 s3 g1 g2 g3 : Value} {d d' : DiskT} {w w' : World} (hS : DiskAt B s1 s2 s3 d w) (hG : DiskAt C g1 g2 g3 d' w') (hC : w.heap.size ≤ C) : Ap3 s1 s2 s3 g1 g2 g3 :=
  ⟨row_apart hS.live hG.live hC, row_apart hS.live hG.safe hC, row_apart hS.live hG.ops hC, row_apart hS.safe hG.live hC, row_apart hS.safe hG.safe hC, row_apart hS.safe hG.ops hC, row_apart hS.ops hG.live hC, row_apart hS.ops hG.safe hC, row_apart hS.ops hG.ops hC⟩
theorem grow3_disk {x1 x2 x3 s1 s2 s3 : Value} {w w' : World} {B : Nat} {d : DiskT} (hg : Grow3 x1 x2 x3 w w') (h : DiskAt B s1 s2 s3 d w) (a : Ap3 s1 s2 s3 x1 x2 x3) : DiskAt B s1 s2 s3 d w' :=
  ⟨hg.row h.live a.a11 a.a12 a.a13, hg.row h.safe a.a21 a.a22 a.a23, hg.row h.ops a.a31 a.a32 a.a33⟩
theorem grow3_blk {x1 x2 x3 : Value} {w w' : World} {B k : Nat} {d : DiskT} {cs : Array Value} {T : TypeId} (hg : Grow3 x1 x2 x3 w w') (h : DiskAt B x1 x2 x3 d w) (hb : w.heap[k]? = some (.cells cs T (0, 0))) (h1 : T ≠ 88) (h2 : T ≠ 36) : w'.heap[k]? = some (.cells cs T (0, 0)) :=
  (hg.block k (Array.getElem?_eq_some_iff.1 hb).1 (row_kind h.live hb h1) (row_kind h.safe hb h1) (row_kind h.ops hb h2)).trans hb
theorem grow3_below {x1 x2 x3 : Value} {w0 w w' : World} {B : Nat} {d : DiskT} (hg : Grow3 x1 x2 x3 w w') (h : DiskAt B x1 x2 x3 d w) (hb : Below B w0 w) (hs : B ≤ w.heap.size) : Below B w0 w' :=
  hg.below hb hs (fun q hq => (World.ownsRow.lt h.live q hq).1) (fun q hq => (World.ownsRow.lt h.safe q hq).1) (fun q hq => (World.ownsRow.lt h.ops q hq).1)

theorem markOne (v1 v2 v3 : Value) (d : DiskT) (K : Nat) (hK : 1 + d.many = K) (ap : ApartV v1 v2) (hl : K ≤ 1099511627776) (w : World) (h : DiskAt 0 v1 v2 v3 d w) :
    Calls Try.prog 40 #[.agg #[v1, v2, v3], .int .i64 1] w fun e w' => e = .returned (.int .i64 (K : Int)) ∧ DiskAt 0 v1 v2 v3 (d.marks 1) w' ∧ Grow3 v1 v2 v3 w w' := by
  subst hK
  exact markDisk_any v1 v2 v3 d 1 w h ap hl
theorem heldOne (v1 v2 v3 : Value) (d : DiskT) (K : Nat) (hK : 1 + d.many = K) (hl : K ≤ 1099511627776) (w : World) (h : DiskAt 0 v1 v2 v3 (d.marks 1) w) :
    Calls Try.prog 41 #[.agg #[v1, v2, v3], .int .i64 1] w fun e w' => e = .returned (.int .i64 (K : Int)) ∧ Below w.heap.size w w' := by
  subst hK
  exact heldDisk_any v1 v2 v3 d 1 w h hl

end Go.Proofs.Ytepefbfmjjnamaa

/- The laws over disks: values of a region that are disks, alone or with an answer; a new variable of a disk. -/
namespace Go.Proofs.Ytepefbfmjjnamaa
open Go.RowKit Go.My Go.Lib Go.ChangeShapes Go.WideShapes
set_option linter.unusedVariables false

theorem many_small {d : DiskT} (h : d.small) : 1 + d.many ≤ 1099511627776 := by
  have h1 := h.live
  have h2 := h.safe
  have h3 := h.ops
  show 1 + (2 * d.live.length + 2 * d.safe.length + 4 * d.ops.length) ≤ _
  omega
def DkV (B : Nat) (d : DiskT) (ap : Bool) (u : Value) (w : World) : Prop := ∃ x y z, u = .agg #[x, y, z] ∧ DiskAt B x y z d w ∧ (ap = true → ApartV x y)
def TuV (B : Nat) (d : DiskT) (ap : Bool) (R u : Value) (w : World) : Prop := ∃ x, u = .tuple #[x, R] ∧ DkV B d ap x w
def NewV (B : Nat) (u : Value) (w : World) : Prop := ∃ g cs, u = .pointer (some ⟨g, 0, none⟩) ∧ B ≤ g ∧ cs.size = 3 ∧ w.heap[g]? = some (.cells cs 27 (0, 0))
def SetV (B : Nat) (d : DiskT) (ap : Bool) (u : Value) (w : World) : Prop := ∃ g x y z, u = .pointer (some ⟨g, 0, none⟩) ∧ B ≤ g ∧ w.heap[g]? = some (.cells #[x, y, z] 27 (0, 0)) ∧ DiskAt B x y z d w ∧ (ap = true → ApartV x y)
theorem DkV.below {B : Nat} {d : DiskT} {ap : Bool} {u : Value} {w w' : World} (h : DkV B d ap u w) (hb : Below w.heap.size w w') : DkV B d ap u w' := by
  obtain ⟨x, y, z, e, hd, ha⟩ := h
  exact ⟨x, y, z, e, hd.below hb, ha⟩
theorem TuV.below {B : Nat} {d : DiskT} {ap : Bool} {R u : Value} {w w' : World} (h : TuV B d ap R u w) (hb : Below w.heap.size w w') : TuV B d ap R u w' := by
  obtain ⟨x, e, hd⟩ := h
  exact ⟨x, e, hd.below hb⟩
theorem NewV.below {B : Nat} {u : Value} {w w' : World} (h : NewV B u w) (hb : Below w.heap.size w w') : NewV B u w' := by
  obtain ⟨g, cs, e, hB, hc, hg⟩ := h
  exact ⟨g, cs, e, hB, hc, (hb.block g (Array.getElem?_eq_some_iff.1 hg).1).trans hg⟩
theorem SetV.below {B : Nat} {d : DiskT} {ap : Bool} {u : Value} {w w' : World} (h : SetV B d ap u w) (hb : Below w.heap.size w w') : SetV B d ap u w' := by
  obtain ⟨g, x, y, z, e, hB, hg, hd, ha⟩ := h
  exact ⟨g, x, y, z, e, hB, (hb.block g (Array.getElem?_eq_some_iff.1 hg).1).trans hg, hd.below hb, ha⟩
theorem disk_row {B g : Nat} {x y z : Value} {d : DiskT} {w : World} {cs ds : Array Value} (h : DiskAt B x y z d w) (hg : w.heap[g]? = some (.cells cs 27 (0, 0))) : DiskAt B x y z d (w.setRow g ds) :=
  ⟨RowL.kept h.live (grw_setRow (grw_refl _ _) _) (rowK h.live hg (by decide)), RowL.kept h.safe (grw_setRow (grw_refl _ _) _) (rowK h.safe hg (by decide)), RowL.kept h.ops (grw_setRow (grw_refl _ _) _) (rowK h.ops hg (by decide))⟩
theorem DkV.row {B g : Nat} {d : DiskT} {ap : Bool} {u : Value} {w : World} {cs ds : Array Value} (h : DkV B d ap u w) (hg : w.heap[g]? = some (.cells cs 27 (0, 0))) : DkV B d ap u (w.setRow g ds) := by
  obtain ⟨x, y, z, e, hd, ha⟩ := h
  exact ⟨x, y, z, e, disk_row hd hg, ha⟩
theorem TuV.row {B g : Nat} {d : DiskT} {ap : Bool} {R u : Value} {w : World} {cs ds : Array Value} (h : TuV B d ap R u w) (hg : w.heap[g]? = some (.cells cs 27 (0, 0))) : TuV B d ap R u (w.setRow g ds) := by
  obtain ⟨x, e, hd⟩ := h
  exact ⟨x, e, hd.row hg⟩
theorem below_row {B g : Nat} {w0 w : World} (h : Below B w0 w) (hg : B ≤ g) (hs : B ≤ w.heap.size) (ds : Array Value) : Below B w0 (w.setRow g ds) :=
  below_grw h (grw_setRow (grw_refl w (some g)) ds) hs (fun q hq => by have := Option.some.inj hq; omega)
/-- The store of a disk into a new variable. -/
theorem wpSetDk {Q : Exit → Act → World → Prop} {o : Oper} {a : Act} {w : World} {K : Act → World → Prop} {p q : Tmp} {B : Nat} {d : DiskT} {ap : Bool} {u x : Value} (hop : o.op = .store 27 (.tmp p) (.tmp q)) (h1 : a.eval (.tmp p) = u) (h2 : a.eval (.tmp q) = x) (hn : NewV B u w) (hd : DkV B d ap x w)
    (hK : ∀ g cs ds, w.heap[g]? = some (.cells cs 27 (0, 0)) → B ≤ g → NewV B u (w.setRow g ds) → SetV B d ap u (w.setRow g ds) → K (a.put o.dst undef) (w.setRow g ds)) : o.wp Try.prog a w K Q := by
  obtain ⟨g, cs, rfl, hB, hc, hg⟩ := hn
  obtain ⟨x1, x2, x3, rfl, hD, ha⟩ := hd
  have hone : (#[x1, x2, x3] : Array Value).all (·.oneCell') = true := by
    obtain ⟨_, _, rfl, _⟩ := hD.live.open
    obtain ⟨_, _, rfl, _⟩ := hD.safe.open
    obtain ⟨_, _, rfl, _⟩ := hD.ops.open
    simp [Value.oneCell']
  refine wpStoreT hop h1 h2 hg (diskSz x1 x2 x3) hc hone (hK g cs #[x1, x2, x3] hg hB ⟨g, _, rfl, hB, rfl, setRow_heap w g cs _ _ (0, 0) hg⟩ ⟨g, x1, x2, x3, rfl, hB, setRow_heap w g cs _ _ (0, 0) hg, disk_row hD hg, ha⟩)
theorem wpExtT {P : Program} {Q : Exit → Act → World → Prop} {o : Oper} {a : Act} {w : World} {K : Act → World → Prop} {k : Tmp} {i : Nat} {x y : Value} (hop : o.op = .extract (.tmp k) i) (he : a.eval (.tmp k) = y) (hr : (Instr.extract y i).run P w = .ok x w) (hK : K (a.put o.dst x) w) : o.wp P a w K Q :=
  wpVal (x := x) (w' := w) (by unfold execOp; simp only [hop]; simp only [he, Sem.run_bind, hr, Result.andThen_ok, Sem.run_pure]) hK
theorem wpAssT {P : Program} {Q : Exit → Act → World → Prop} {o : Oper} {a : Act} {w : World} {K : Act → World → Prop} {k : Tmp} {y : Value} (hop : o.op = .assign (.tmp k)) (he : a.eval (.tmp k) = y) (hK : K (a.put o.dst y) w) : o.wp P a w K Q :=
  wpVal (x := y) (w' := w) (by unfold execOp; simp only [hop]; simp only [he, Sem.run_pure]) hK
theorem ext0 (x R : Value) (w : World) : (Instr.extract (.tuple #[x, R]) 0).run Try.prog w = .ok x w := by simp [Instr.extract, go_sem]
theorem ext1 (x R : Value) (w : World) : (Instr.extract (.tuple #[x, R]) 1).run Try.prog w = .ok R w := by simp [Instr.extract, go_sem]
theorem nDisk (w : World) : (Instr.alloc 27 true (.tuple #[])).run Try.prog w = .ok (.pointer (some ⟨w.heap.size, 0, none⟩)) (w.alloc (.cells #[.slice none 0 0, .slice none 0 0, .slice none 0 0] 27)) := by simp [Instr.alloc, go_sem]
theorem newNew {B : Nat} {w : World} (hB : B ≤ w.heap.size) : NewV B (.pointer (some ⟨w.heap.size, 0, none⟩)) (w.alloc (.cells #[.slice none 0 0, .slice none 0 0, .slice none 0 0] 27)) := ⟨_, _, rfl, hB, rfl, heap_alloc_new w _⟩
theorem ldDkL {g : Nat} {x y z : Value} {w : World} (h : w.heap[g]? = some (.cells #[x, y, z] 56 (0, 0))) : (Instr.loadAt 56 (.pointer (some ⟨g, 0, none⟩))).run Try.prog w = .ok (.agg #[x, y, z]) w := by
  obtain ⟨⟨c0, c1, c2⟩, _⟩ := dk_cells h
  simp [Instr.loadAt, go_sem, c0, c1, c2]
theorem ldDkI {g : Nat} {x y z : Value} {w : World} (h : w.heap[g]? = some (.cells #[x, y, z] 27 (0, 0))) : (Instr.loadAt 27 (.pointer (some ⟨g, 0, none⟩))).run Try.prog w = .ok (.agg #[x, y, z]) w := by
  obtain ⟨⟨c0, c1, c2⟩, _⟩ := dk_cells h
  simp [Instr.loadAt, go_sem, c0, c1, c2]
theorem ldDpL {g : Nat} {x y z u : Value} {w : World} (h : w.heap[g]? = some (.cells #[x, y, z, u] 61 (0, 0))) : (Instr.loadAt 61 (.pointer (some ⟨g, 0, none⟩))).run Try.prog w = .ok (.agg #[x, y, z, u]) w := by
  obtain ⟨⟨c0, c1, c2, c3⟩, _⟩ := dop_cells h
  simp [Instr.loadAt, go_sem, c0, c1, c2, c3]
theorem argsT2 {a : Act} {k l : Tmp} {y z : Value} (h : a.eval (.tmp k) = y) (h2 : a.eval (.tmp l) = z) : #[Operand.tmp k, .tmp l].map a.eval = #[y, z] := by simp only [List.map_toArray, List.map_cons, List.map_nil, h, h2]
theorem argsT3 {a : Act} {k l m : Tmp} {y z u : Value} (h : a.eval (.tmp k) = y) (h2 : a.eval (.tmp l) = z) (h3 : a.eval (.tmp m) = u) : #[Operand.tmp k, .tmp l, .tmp m].map a.eval = #[y, z, u] := by simp only [List.map_toArray, List.map_cons, List.map_nil, h, h2, h3]
theorem cfToDisk (args : Array Value) (w : World) : (callFunc 36 args).run Try.prog w = .ok (.enter 36 args) w := cf_of Try.func36 (by kernel_rfl) (by kernel_rfl) args w
theorem cfToDOp (args : Array Value) (w : World) : (callFunc 39 args).run Try.prog w = .ok (.enter 39 args) w := cf_of Try.func39 (by kernel_rfl) (by kernel_rfl) args w
theorem cfSDo (args : Array Value) (w : World) : (callFunc 24 args).run Try.prog w = .ok (.enter 24 args) w := cf_of Try.func24 (by kernel_rfl) (by kernel_rfl) args w
theorem cfIDo (args : Array Value) (w : World) : (callFunc 23 args).run Try.prog w = .ok (.enter 23 args) w := cf_of Try.func23 (by kernel_rfl) (by kernel_rfl) args w
theorem cfSReplace (args : Array Value) (w : World) : (callFunc 28 args).run Try.prog w = .ok (.enter 28 args) w := cf_of Try.func28 (by kernel_rfl) (by kernel_rfl) args w
theorem cfIReplace (args : Array Value) (w : World) : (callFunc 27 args).run Try.prog w = .ok (.enter 27 args) w := cf_of Try.func27 (by kernel_rfl) (by kernel_rfl) args w
theorem cfSCrash (args : Array Value) (w : World) : (callFunc 43 args).run Try.prog w = .ok (.enter 43 args) w := cf_of Try.func43 (by kernel_rfl) (by kernel_rfl) args w
theorem cfICrash (args : Array Value) (w : World) : (callFunc 19 args).run Try.prog w = .ok (.enter 19 args) w := cf_of Try.func19 (by kernel_rfl) (by kernel_rfl) args w
set_option maxRecDepth 100000 in
/-- An operation that came in as an argument. -/
theorem dop_open {H : Type} {enc : TypeId × Value → H} {w : World} {sp : Nat → Bool} {held : Bool} {r : Reach} {b0 : Nat} {v : Value} {d : DataW H} {ps : List MemPlace} (hv : Value.okWide Try.prog w r b0 61 v) (h : DataW.Trod enc Try.prog w 0 sp held 61 v d ps) :
    ∃ k n t x, v = .agg #[.int .i64 k, .string n, .string t, .string x] ∧ dOpW (k, n, t, x) := by
  obtain ⟨cs, rfl, _⟩ := okWide_struct Try.underlying61 hv
  obtain ⟨fuel, hf0⟩ := h
  obtain ⟨l⟩ := cs
  simp only [Value.cells] at hf0
  obtain ⟨a, rfl, wa⟩ := dOp_open hf0
  exact ⟨a.1, a.2.1, a.2.2.1, a.2.2.2, rfl, wa⟩

end Go.Proofs.Ytepefbfmjjnamaa

/- The laws over disks: further operations of a drawn region. -/
namespace Go.Proofs.Ytepefbfmjjnamaa
open Go.RowKit Go.My Go.Lib Go.ChangeShapes Go.WideShapes
set_option linter.unusedVariables false

theorem wpUnT {P : Program} {Q : Exit → Act → World → Prop} {o : Oper} {a : Act} {w : World} {K : Act → World → Prop} {op : UnOp} {T : TypeId} {k : Tmp} {x y : Value} (hop : o.op = .unOp op T (.tmp k)) (he : a.eval (.tmp k) = y) (hr : (Op.unary op y).run P w = .ok x w) (hK : K (a.put o.dst x) w) : o.wp P a w K Q :=
  wpVal (x := x) (w' := w) (by unfold execOp; simp only [hop]; simp only [he, Sem.run_bind, hr, Result.andThen_ok, Sem.run_pure]) hK
theorem notT {P : Program} (w : World) : (Op.unary .not (.bool true)).run P w = .ok (.bool false) w := by simp [Op.unary, go_sem]
theorem cfEqDisk (args : Array Value) (w : World) : (callFunc 37 args).run Try.prog w = .ok (.enter 37 args) w := cf_of Try.func37 (by kernel_rfl) (by kernel_rfl) args w

end Go.Proofs.Ytepefbfmjjnamaa

/- The laws over disks: further operations of a drawn region. -/
import Derived.Test.YtepefbfmjjnamaaMrgB
import Derived.Test.YtepefbfmjjnamaaRegJ
import Derived.Test.YtepefbfmjjnamaaDkBi
import Derived.Test.YtepefbfmjjnamaaMrgA
import Derived.Test.YtepefbfmjjnamaaRowB
import Derived.Test.YtepefbfmjjnamaaRowC
import Derived.Test.YtepefbfmjjnamaaRd
namespace Go.Proofs.Ytepefbfmjjnamaa
open Go.RowKit Go.My Go.Lib Go.ChangeShapes Go.WideShapes
set_option linter.unusedVariables false

theorem wpUnT {P : Program} {Q : Exit → Act → World → Prop} {o : Oper} {a : Act} {w : World} {K : Act → World → Prop} {op : UnOp} {T : TypeId} {k : Tmp} {x y : Value} (hop : o.op = .unOp op T (.tmp k)) (he : a.eval (.tmp k) = y) (hr : (Op.unary op y).run P w = .ok x w) (hK : K (a.put o.dst x) w) : o.wp P a w K Q :=
  wpVal (x := x) (w' := w) (by unfold execOp; simp only [hop]; simp only [he, Sem.run_bind, hr, Result.andThen_ok, Sem.run_pure]) hK
theorem notT {P : Program} (w : World) : (Op.unary .not (.bool true)).run P w = .ok (.bool false) w := by simp [Op.unary, go_sem]
theorem cfEqDisk (args : Array Value) (w : World) : (callFunc 37 args).run Try.prog w = .ok (.enter 37 args) w := cf_of Try.func37 (by kernel_rfl) (by kernel_rfl) args w

end Go.Proofs.Ytepefbfmjjnamaa

/- Draws: a disk and an operation (DrawDo). -/
namespace Go.Proofs.Ytepefbfmjjnamaa
open Go.RowKit Go.My Go.Lib
set_option linter.unusedVariables false

theorem results_row2' {P : Program} {fn : Func} {p q : Tmp} {ty tz : TypeId} (h : fn.results = #[.cell p ty, .cell q tz]) (tmps : Array Value) (w : World) (g k : Nat) (cs ds : Array Value) (fr : Nat × Nat) (d e : TypeDesc)
    (hp : tmps.getD p undef = .pointer (some ⟨g, 0, none⟩)) (hq : tmps.getD q undef = .pointer (some ⟨k, 0, none⟩)) (hg : w.heap[g]? = some (.cells cs ty fr)) (hk : w.heap[k]? = some (.cells ds tz fr))
    (hu : P.underlying ty = some d) (hd : d.isRow = true) (hu2 : P.underlying tz = some e) (hd2 : e.isRow = true) (hi : (P.info? ty).map (·.size) = some cs.size) (hi2 : (P.info? tz).map (·.size) = some ds.size) : (results fn tmps).run P w = .ok (.tuple #[.agg cs, .agg ds]) w := by
  have h1 := run_loadVar_row (P := P) w g ty ty cs fr d hg hu (by cases d <;> first | rfl | exact hd) hi
  have h2 := run_loadVar_row (P := P) w k tz tz ds fr e hk hu2 (by cases e <;> first | rfl | exact hd2) hi2
  unfold results
  rw [h]
  have hp' : tmps[p]?.getD undef = .pointer (some ⟨g, 0, none⟩) := by simpa using hp
  have hq' : tmps[q]?.getD undef = .pointer (some ⟨k, 0, none⟩) := by simpa using hq
  simp [hp', hq', asAddr, h1, h2]
theorem dopSz (x y z u : Value) : (Try.prog.info? 36).map (·.size) = some (#[x, y, z, u] : Array Value).size := by kernel_rfl
theorem ldDpI {g : Nat} {x y z u : Value} {w : World} (h : w.heap[g]? = some (.cells #[x, y, z, u] 36 (0, 0))) : (Instr.loadAt 36 (.pointer (some ⟨g, 0, none⟩))).run Try.prog w = .ok (.agg #[x, y, z, u]) w := by
  obtain ⟨⟨c0, c1, c2, c3⟩, _⟩ := dop_cells h
  simp [Instr.loadAt, go_sem, c0, c1, c2, c3]
theorem rd_neT {B g q : Nat} {w : World} {cs : Array Value} {T : TypeId} (hR : Rd B w g) (hq : w.heap[q]? = some (.cells cs T (0, 0))) (hT : T ≠ 112) : q ≠ g := by
  obtain ⟨a, len, cap, p, hh⟩ := rd_block hR
  intro c
  subst c
  rw [hh] at hq
  injection hq with hq
  injection hq with _ h2
  exact hT h2.symm
/-- Operations whose block is an operation's own variable: what is stored there is theirs. -/
theorem OpsIn.over {v : Value} {l : List DOpT} {w w' : World} {q : Nat} {a0 a1 a2 a3 : Value} {op : DOpT} (h : OpsIn v l w) (hq : w.heap[q]? = some (.cells #[a0, a1, a2, a3] 36 (0, 0))) (hg : w.grownBy w' (some q)) (hq' : w'.heap[q]? = some (.cells #[.int .i64 op.1, .string op.2.1, .string op.2.2.1, .string op.2.2.2] 36 (0, 0))) : ∃ l', OpsIn v l' w' ∧ l'.length = l.length ∧ ∀ a ∈ l', a ∈ l ∨ a = op := by
  obtain ⟨p, cap, hv, h1, h2, h3⟩ := h
  rcases h3 with h3 | ⟨b, o, cs, hp, hh, hc⟩
  · exact ⟨l, ⟨p, cap, hv, h1, h2, .inl h3⟩, rfl, fun a ha => .inl ha⟩
  · by_cases e : b = q
    · subst e
      have lim : ∀ i (hi : i < l.length), o + (i * 4 + 3) < 4 := fun i hi => by
        have hcc := hc i hi 3 _ rfl
        unfold World.cell? at hcc
        rw [hq] at hcc
        by_cases c : o + (i * 4 + 3) < 4
        · exact c
        · exfalso
          have e2 : (#[a0, a1, a2, a3] : Array Value)[o + (i * 4 + 3)]? = none := Array.getElem?_eq_none (by simp; omega)
          simp [e2] at hcc
      cases l with
      | nil => exact ⟨[], ⟨p, cap, hv, h1, h2, .inl rfl⟩, rfl, fun a ha => .inl ha⟩
      | cons a l =>
        have o0 : o = 0 := by have := lim 0 (by simp); omega
        have l0 : l = [] := by
          cases l with
          | nil => rfl
          | cons a2 l => have := lim 1 (by simp); omega
        subst o0 l0
        obtain ⟨⟨c0, c1, c2, c3⟩, _⟩ := dop_cells hq'
        refine ⟨[op], ⟨p, cap, hv, h1, h2, .inr ⟨b, 0, _, hp, hq', fun i hi j u hu => ?_⟩⟩, rfl, fun a ha => .inr (List.mem_singleton.1 ha)⟩
        have i0 : i = 0 := by have : i < 1 := hi; omega
        subst i0
        have hu : (dOpC op)[j]? = some u := hu
        have hj : j < 4 := (List.getElem?_eq_some_iff.1 hu).1
        have hj4 : j = 0 ∨ j = 1 ∨ j = 2 ∨ j = 3 := by omega
        rcases hj4 with rfl | rfl | rfl | rfl
        · rw [← Option.some.inj hu]; exact c0
        · rw [← Option.some.inj hu]; exact c1
        · rw [← Option.some.inj hu]; exact c2
        · rw [← Option.some.inj hu]; exact c3
    · have hb := hg.block b (Array.getElem?_eq_some_iff.1 hh).1 (fun c => e (Option.some.inj c))
      refine ⟨l, ⟨p, cap, hv, h1, h2, .inr ⟨b, o, cs, hp, hb.trans hh, fun i hi j u hu => ?_⟩⟩, rfl, fun a ha => .inl ha⟩
      have hcc := hc i hi j u hu
      unfold World.cell? at hcc ⊢
      simp only [hb]
      exact hcc
theorem DiskIn.over {q : Nat} {x y z a0 a1 a2 a3 : Value} {d : DiskT} {op : DOpT} {w w' : World} (h : DiskIn x y z d w) (hf : d.fit) (hop : opW op) (hq : w.heap[q]? = some (.cells #[a0, a1, a2, a3] 36 (0, 0))) (hg : w.grownBy w' (some q)) (hq' : w'.heap[q]? = some (.cells #[.int .i64 op.1, .string op.2.1, .string op.2.2.1, .string op.2.2.2] 36 (0, 0))) : ∃ d', DiskT.fit d' ∧ DiskIn x y z d' w' := by
  obtain ⟨l', hl, hn, hm⟩ := h.ops.over hq hg hq'
  refine ⟨⟨d.live, d.safe, l'⟩, ⟨⟨hf.small.live, hf.small.safe, by show l'.length ≤ _; rw [hn]; exact hf.small.ops⟩, hf.live, hf.safe, fun a ha => ?_, hf.sums⟩, RowL.kept h.live hg (rowK h.live hq (by decide)), RowL.kept h.safe hg (rowK h.safe hq (by decide)), hl⟩
  rcases hm a ha with ha | rfl
  · exact hf.ops a ha
  · exact ⟨hop.1, Nat.le_trans hop.2.1 (by decide), Nat.le_trans hop.2.2.1 (by decide), Nat.le_trans hop.2.2.2 (by decide)⟩

/-- What stands between two steps of the draw. -/
structure DoJ (B g r k5 k6 : Nat) (d : DiskT) (y1 y2 y3 : Value) (k : Int) (n t x : ByteArray) (w0 w : World) : Prop where
  fit : d.fit
  opw : opW (k, n, t, x)
  box5 : w.heap[k5]? = some (.cells #[y1, y2, y3] 27 (0, 0))
  box6 : w.heap[k6]? = some (.cells #[.int .i64 k, .string n, .string t, .string x] 36 (0, 0))
  disk : DiskIn y1 y2 y3 d w
  rd : Rd B w g
  bel : Below B w0 w
  r0 : w.heap[r]? = some (.cells #[.slice none 0 0, .slice none 0 0, .slice none 0 0] 27 (0, 0))
  r1 : w.heap[r + 1]? = some (.cells #[.int .i64 0, .string (ByteArray.mk #[]), .string (ByteArray.mk #[]), .string (ByteArray.mk #[])] 36 (0, 0))
  h5 : k5 ≠ r ∧ B ≤ k5
  h6 : k6 ≠ r + 1 ∧ B ≤ k6
  hr : B ≤ r
section
variable {B g r k5 k6 : Nat} {d : DiskT} {y1 y2 y3 : Value} {k : Int} {n t x : ByteArray} {w0 w wz : World}
theorem DoJ.below (h : DoJ B g r k5 k6 d y1 y2 y3 k n t x w0 w) (hb : Below w.heap.size w wz) : DoJ B g r k5 k6 d y1 y2 y3 k n t x w0 wz :=
  ⟨h.fit, h.opw, (hb.block _ (Array.getElem?_eq_some_iff.1 h.box5).1).trans h.box5, (hb.block _ (Array.getElem?_eq_some_iff.1 h.box6).1).trans h.box6, h.disk.below hb, h.rd.kept (grw_of_below hb none) (by simp) (by simp), h.bel.trans (hb.mono h.rd.2.1), (hb.block _ (Array.getElem?_eq_some_iff.1 h.r0).1).trans h.r0, (hb.block _ (Array.getElem?_eq_some_iff.1 h.r1).1).trans h.r1, h.h5, h.h6, h.hr⟩
theorem DoJ.read (h : DoJ B g r k5 k6 d y1 y2 y3 k n t x w0 w) (hR : Rd B wz g) (hg : w.grownBy wz (some g)) : DoJ B g r k5 k6 d y1 y2 y3 k n t x w0 wz :=
  ⟨h.fit, h.opw, (hg.block _ (Array.getElem?_eq_some_iff.1 h.box5).1 (fun c => rd_neT h.rd h.box5 (by decide) (Option.some.inj c))).trans h.box5, (hg.block _ (Array.getElem?_eq_some_iff.1 h.box6).1 (fun c => rd_neT h.rd h.box6 (by decide) (Option.some.inj c))).trans h.box6, h.disk.read h.rd hg, hR, below_grw h.bel hg h.rd.2.1 (fun q hq => by rw [← Option.some.inj hq]; exact h.rd.1), (hg.block _ (Array.getElem?_eq_some_iff.1 h.r0).1 (fun c => rd_neT h.rd h.r0 (by decide) (Option.some.inj c))).trans h.r0, (hg.block _ (Array.getElem?_eq_some_iff.1 h.r1).1 (fun c => rd_neT h.rd h.r1 (by decide) (Option.some.inj c))).trans h.r1, h.h5, h.h6, h.hr⟩
theorem blk_two {w : World} {p q : Nat} {cs ds : Array Value} {T U : TypeId} (h : w.heap[p]? = some (.cells cs T (0, 0))) (h2 : w.heap[q]? = some (.cells ds U (0, 0))) (hT : T ≠ U) : p ≠ q := by
  intro c
  subst c
  rw [h] at h2
  injection h2 with h2
  injection h2 with _ h3
  exact hT h3
/-- Another disk into the box. -/
theorem DoJ.put5 {e : DiskT} {u1 u2 u3 : Value} (h : DoJ B g r k5 k6 d y1 y2 y3 k n t x w0 w) (hE : e.fit) (hu : DiskIn u1 u2 u3 e w) :
    DoJ B g r k5 k6 e u1 u2 u3 k n t x w0 (((w.setCell ⟨k5, 0, none⟩ u1).setCell ⟨k5, 1, none⟩ u2).setCell ⟨k5, 2, none⟩ u3) := by
  have gz := grw_set3 w k5 u1 u2 u3
  obtain ⟨s1, s2, s3⟩ := h.disk.sl
  exact ⟨hE, h.opw, set3 h.box5 _ _ _, (gz.block _ (Array.getElem?_eq_some_iff.1 h.box6).1 (fun c => blk_two h.box5 h.box6 (by decide) (Option.some.inj c).symm)).trans h.box6, hu.row h.box5 s1 s2 s3 gz, h.rd.kept gz (fun c => rd_neT h.rd h.box5 (by decide) (Option.some.inj c)) (fun k hk => by have := Option.some.inj hk; have := h.h5.2; omega), below_grw h.bel gz h.rd.2.1 (fun q hq => by rw [← Option.some.inj hq]; exact h.h5.2), (gz.block _ (Array.getElem?_eq_some_iff.1 h.r0).1 (fun c => h.h5.1 (Option.some.inj c).symm)).trans h.r0, (gz.block _ (Array.getElem?_eq_some_iff.1 h.r1).1 (fun c => blk_two h.box5 h.r1 (by decide) (Option.some.inj c).symm)).trans h.r1, h.h5, h.h6, h.hr⟩
/-- A field of the operation. -/
theorem DoJ.put6 {k' : Int} {n' t' x' : ByteArray} {j : Nat} {u : Value} (h : DoJ B g r k5 k6 d y1 y2 y3 k n t x w0 w) (hop : opW (k', n', t', x')) (hrow : (w.setCell ⟨k6, j, none⟩ u).heap[k6]? = some (.cells #[.int .i64 k', .string n', .string t', .string x'] 36 (0, 0))) :
    ∃ d', DoJ B g r k5 k6 d' y1 y2 y3 k' n' t' x' w0 (w.setCell ⟨k6, j, none⟩ u) := by
  have gz := grw_set (grw_refl w (some k6)) j u
  obtain ⟨d', hf, hd⟩ := h.disk.over (op := (k', n', t', x')) h.fit hop h.box6 gz hrow
  exact ⟨d', hf, hop, (gz.block _ (Array.getElem?_eq_some_iff.1 h.box5).1 (fun c => blk_two h.box5 h.box6 (by decide) (Option.some.inj c))).trans h.box5, hrow, hd, h.rd.kept gz (fun c => rd_neT h.rd h.box6 (by decide) (Option.some.inj c)) (fun k hk => by have := Option.some.inj hk; have := h.h6.2; omega), below_grw h.bel gz h.rd.2.1 (fun q hq => by rw [← Option.some.inj hq]; exact h.h6.2), (gz.block _ (Array.getElem?_eq_some_iff.1 h.r0).1 (fun c => blk_two h.r0 h.box6 (by decide) (Option.some.inj c))).trans h.r0, (gz.block _ (Array.getElem?_eq_some_iff.1 h.r1).1 (fun c => h.h6.1 (Option.some.inj c).symm)).trans h.r1, h.h5, h.h6, h.hr⟩
end
/-- The test of the loop. -/
structure GrD (W1 : World) (B g k5 : Nat) (i : Nat) (p3 : Option Addr) (n3 m3 : Nat) (v : Nat → Value) (L : Nat → Bool) (w : World) : Prop where
  G : W1.grownBy w (some g)
  R : Rd B w g
  f0 : L 0 = true → v 0 = .int .i64 (i : Int)
  f1 : L 1 = true → v 1 = .bool true
  f2 : L 2 = true → v 2 = .bool true
  f3 : L 3 = true → v 3 = .pointer (some ⟨k5, 2, none⟩)
  f4 : L 4 = true → v 4 = .slice p3 n3 m3
  f5 : L 5 = true → v 5 = .int .i64 (n3 : Int)
  f6 : L 6 = true → v 6 = .pointer (some ⟨g, 0, none⟩)
  f7 : L 7 = true → ∃ z : Int, v 7 = .int .i64 z
  f8 : L 8 = true → ∃ z : Int, v 8 = .int .i64 z
  f9 : L 9 = true → ∃ b : Bool, v 9 = .bool b
  f10 : L 10 = true → ∃ b : Bool, v 10 = .bool b
theorem GrD.read {W1 : World} {B g k5 : Nat} {i : Nat} {p3 : Option Addr} {n3 m3 : Nat} {v : Nat → Value} {L : Nat → Bool} {w w' : World} (h : GrD W1 B g k5 i p3 n3 m3 v L w) (hR : Rd B w' g) (hg : w.grownBy w' (some g)) : GrD W1 B g k5 i p3 n3 m3 v L w' :=
  ⟨grw_trans h.G hg, hR, h.f0, h.f1, h.f2, h.f3, h.f4, h.f5, h.f6, h.f7, h.f8, h.f9, h.f10⟩
theorem lt200 (i : Int) (w : World) : (do eqGuard .lss 3 (.tmp 31) (.const (.int .i64 200)) (.int .i64 i) (.int .i64 200); binOp .lss 3 (.int .i64 i) (.int .i64 200) : Sem Value).run Try.prog w = .ok (.bool (decide (i < 200))) w := by kernel_rfl
theorem ltII (i j : Int) (w : World) : (do eqGuard .lss 3 (.tmp 36) (.tmp 39) (.int .i64 i) (.int .i64 j); binOp .lss 3 (.int .i64 i) (.int .i64 j) : Sem Value).run Try.prog w = .ok (.bool (decide (i < j))) w := by kernel_rfl
theorem add199 (j : Int) (w : World) : ∃ z : Int, (do eqGuard .add 3 (.const (.int .i64 199)) (.tmp 38) (.int .i64 199) (.int .i64 j); binOp .add 3 (.int .i64 199) (.int .i64 j) : Sem Value).run Try.prog w = .ok (.int .i64 z) w := ⟨_, rfl⟩
theorem cfBelow (args : Array Value) (w : World) : (callFunc 63 args).run Try.prog w = .ok (.enter 63 args) w := cf_of Try.func63 (by kernel_rfl) (by kernel_rfl) args w
theorem fdK2 (q : Nat) (w : World) : (Instr.fieldAt 27 (.pointer (some ⟨q, 0, none⟩)) 2).run Try.prog w = .ok (.pointer (some ⟨q, 2, none⟩)) w := by simp [Instr.fieldAt, go_sem]
theorem ldOps {q : Nat} {x y : Value} {p : Option Addr} {n m : Nat} {w : World} (h : w.heap[q]? = some (.cells #[x, y, .slice p n m] 27 (0, 0))) : (Instr.loadAt 25 (.pointer (some ⟨q, 2, none⟩))).run Try.prog w = .ok (.slice p n m) w := by
  obtain ⟨⟨_, _, c2⟩, _⟩ := dk_cells h
  simp [Instr.loadAt, go_sem, c2]

/-- The last region: both answers are stored. -/
structure FiD (W1 : World) (B r k5 k6 : Nat) (y1 y2 y3 : Value) (k : Int) (n t x : ByteArray) (v : Nat → Value) (L : Nat → Bool) (w : World) : Prop where
  G : Below B W1 w
  b5 : w.heap[k5]? = some (.cells #[y1, y2, y3] 27 (0, 0))
  b6 : w.heap[k6]? = some (.cells #[.int .i64 k, .string n, .string t, .string x] 36 (0, 0))
  D : ∃ d, DiskT.fit d ∧ DiskIn y1 y2 y3 d w
  f0 : L 0 = true → v 0 = .agg #[y1, y2, y3]
  f1 : L 1 = true → v 1 = .agg #[.int .i64 k, .string n, .string t, .string x]
  o2 : L 2 = false → w.heap[r]? = some (.cells #[.slice none 0 0, .slice none 0 0, .slice none 0 0] 27 (0, 0))
  f2 : L 2 = true → w.heap[r]? = some (.cells #[y1, y2, y3] 27 (0, 0))
  o3 : L 3 = false → w.heap[r + 1]? = some (.cells #[.int .i64 0, .string (ByteArray.mk #[]), .string (ByteArray.mk #[]), .string (ByteArray.mk #[])] 36 (0, 0))
  f3 : L 3 = true → w.heap[r + 1]? = some (.cells #[.int .i64 k, .string n, .string t, .string x] 36 (0, 0))
def DrawnDo (B : Nat) (w : World) (e : Ending) (w' : World) : Prop := ∃ u1 u2 u3 d k n t x, e = .returned (.tuple #[.agg #[u1, u2, u3], .agg #[.int .i64 k, .string n, .string t, .string x]]) ∧ DiskT.fit d ∧ DiskIn u1 u2 u3 d w' ∧ opW (k, n, t, x) ∧ Below B w w'

set_option maxRecDepth 20000 in
set_option maxHeartbeats 8000000 in
theorem draw_do (B : Nat) (a : Option Addr) (len cap : Nat) (w : World) (hB : B ≤ w.heap.size) (h : RdCode B w a len) : Calls Try.prog 22 #[.slice a len cap] w (DrawnDo B w) := by
  have hb0 : Below B w ((w.alloc (.cells #[.slice none 0 0, .slice none 0 0, .slice none 0 0] 27)).alloc (.cells #[.int .i64 0, .string (ByteArray.mk #[]), .string (ByteArray.mk #[]), .string (ByteArray.mk #[])] 36)) := ((Below.refl _ _).alloc hB _).alloc (by simp; omega) _
  obtain ⟨_, x1, x2⟩ := boxes2 w (.cells #[.slice none 0 0, .slice none 0 0, .slice none 0 0] 27) (.cells #[.int .i64 0, .string (ByteArray.mk #[]), .string (ByteArray.mk #[]), .string (ByteArray.mk #[])] 36) _ (Below.refl _ _)
  have hsz : ((w.alloc (.cells #[.slice none 0 0, .slice none 0 0, .slice none 0 0] 27)).alloc (.cells #[.int .i64 0, .string (ByteArray.mk #[]), .string (ByteArray.mk #[]), .string (ByteArray.mk #[])] 36)).heap.size = w.heap.size + 2 := by simp
  go_enter Try.func22, Try.ntmps22
  go_wp2_with fail
  refine (open_any B a len cap _ (by rw [hsz]; omega) (h.below hb0)).mono ?_
  rintro e w1 ⟨rfl, hR1, hg1⟩
  have h1 : Below B w w1 := hb0.grown hg1 (by rw [hsz]; omega) (fun q hq => by cases hq)
  have y0 := (hg1.block w.heap.size (by rw [hsz]; omega) (by simp)).trans x1
  have y1 := (hg1.block (w.heap.size + 1) (by rw [hsz]; omega) (by simp)).trans x2
  rw [hsz] at hR1 ⊢
  clear hb0 x1 x2 hsz hg1 h
  obtain ⟨r, hr⟩ : ∃ r, w.heap.size = r := ⟨_, rfl⟩
  rw [hr] at y0 y1 hR1 ⊢
  have hBr : B ≤ r := by omega
  go_wp2_with fail
  refine (disk_any B _ _ hR1).mono ?_
  rintro e w2 ⟨u1, u2, u3, d, rfl, hf, hd, hR2, hg2⟩
  have h2 : Below B w w2 := h1.trans (grown_below hg2 hR1.1 hR1.2.1)
  have y0 := (hg2.block r (Array.getElem?_eq_some_iff.1 y0).1 (fun c => by have := Option.some.inj c; omega)).trans y0
  have y1 := (hg2.block (r + 1) (Array.getElem?_eq_some_iff.1 y1).1 (fun c => by have := Option.some.inj c; omega)).trans y1
  have hs2 := (Array.getElem?_eq_some_iff.1 y1).1
  obtain ⟨⟨q1, n1, c1, rfl⟩, ⟨q2, n2, c2, rfl⟩, ⟨q3, n3, c3, rfl⟩⟩ := hd.sl
  have hal : Below w2.heap.size w2 (w2.alloc (.cells #[.slice q1 n1 c1, .slice q2 n2 c2, .slice q3 n3 c3] 27)) := (Below.refl _ _).alloc (Nat.le_refl _) _
  have H5 := Lib.hid (heap_alloc_new w2 (.cells #[.slice q1 n1 c1, .slice q2 n2 c2, .slice q3 n3 c3] 27))
  have HD := Lib.hid (hd.below hal)
  have HR := Lib.hid (show Rd B _ _ from hR2.kept (grw_of_below hal none) (by simp) (by simp))
  have HY := Lib.hid (And.intro ((hal.block _ (Array.getElem?_eq_some_iff.1 y0).1).trans y0) (And.intro ((hal.block _ (Array.getElem?_eq_some_iff.1 y1).1).trans y1) (h2.trans (hal.mono hR2.2.1))))
  have HFT := Lib.hid hf
  clear hd hf hal y0 y1 h1 h2 hg2 hR1 hR2
  go_upto_region 3 with (fail)
  generalize w2.alloc (.cells #[.slice q1 n1 c1, .slice q2 n2 c2, .slice q3 n3 c3] 27) = w3 at H5 HD HR HY ⊢
  have hk5 : B ≤ w2.heap.size ∧ w2.heap.size ≠ r := ⟨by omega, by omega⟩
  generalize w2.heap.size = k5 at H5 hk5 hs2 ⊢
  go_wp2_with fail
  refine (dop_any B _ _ HR.out).mono ?_
  rintro e w4 ⟨k, n, t, x, rfl, hop, hR4, hg4⟩
  have b5 := (hg4.block k5 (Array.getElem?_eq_some_iff.1 H5.out).1 (fun c => rd_neT HR.out H5.out (by decide) (Option.some.inj c))).trans H5.out
  have y0 := (hg4.block r (Array.getElem?_eq_some_iff.1 HY.out.1).1 (fun c => rd_neT HR.out HY.out.1 (by decide) (Option.some.inj c))).trans HY.out.1
  have y1 := (hg4.block (r + 1) (Array.getElem?_eq_some_iff.1 HY.out.2.1).1 (fun c => rd_neT HR.out HY.out.2.1 (by decide) (Option.some.inj c))).trans HY.out.2.1
  have h4 := below_grw HY.out.2.2 hg4 HR.out.2.1 (fun q hq => by rw [← Option.some.inj hq]; exact HR.out.1)
  have hd := HD.out.read HR.out hg4
  have hal : Below w4.heap.size w4 (w4.alloc (.cells #[.int .i64 k, .string n, .string t, .string x] 36)) := (Below.refl _ _).alloc (Nat.le_refl _) _
  have hs4 := (Array.getElem?_eq_some_iff.1 y1).1
  have HJ : Hid (DoJ B (r + 2) r k5 w4.heap.size d (.slice q1 n1 c1) (.slice q2 n2 c2) (.slice q3 n3 c3) k n t x w (w4.alloc (.cells #[.int .i64 k, .string n, .string t, .string x] 36))) :=
    ⟨HFT.out, hop, (hal.block _ (Array.getElem?_eq_some_iff.1 b5).1).trans b5, heap_alloc_new w4 _, hd.below hal, hR4.kept (grw_of_below hal none) (by simp) (by simp), h4.trans (hal.mono hR4.2.1), (hal.block _ (Array.getElem?_eq_some_iff.1 y0).1).trans y0, (hal.block _ (Array.getElem?_eq_some_iff.1 y1).1).trans y1, ⟨hk5.2, hk5.1⟩, ⟨by omega, by omega⟩, hBr⟩
  clear hal hd h4 y0 y1 b5 hop hR4 hg4 HFT HY HR HD H5 hs2 hk5
  go_upto_region 4 with (fail)
  generalize w4.alloc (.cells #[.int .i64 k, .string n, .string t, .string x] 36) = w5 at HJ ⊢
  generalize w4.heap.size = k6 at HJ hs4 ⊢
  clear hs4
  go_wp2_with fail
  refine (below_any B _ _ _ HJ.out.rd (by omega) (by omega)).mono ?_
  rintro e WX ⟨z, rfl, hz0, hz1, hR, hg⟩
  have HJ := Lib.hid (HJ.out.read hR hg)
  clear hR hg
  by_cases z0 : z = 0
  · subst z0
    go_wp2_with fail
    refine (off_any B _ 1 3 _ HJ.out.rd (by omega) (by omega) (by omega)).mono ?_
    rintro e wo ⟨c, rfl, hc, hR, hg⟩
    have HJ := Lib.hid (HJ.out.read hR hg)
    clear hR hg
    obtain ⟨d2, hJ2⟩ := HJ.out.put6 (k' := c) (n' := n) (t' := t) (x' := x) (j := 0) (u := .int .i64 c) ⟨hc, HJ.out.opw.2⟩ (heap_setCell_same wo k6 0 _ _ _ HJ.out.box6)
    have HJ2 := Lib.hid hJ2
    clear hJ2
    obtain ⟨⟨o0, o1, o2, o3⟩, oF⟩ := dop_cells HJ.out.box6
    have of0 := oF 0
    have of1 := oF 1
    have of2 := oF 2
    clear oF
    go_upto_region 7 with (fail)
    clear o0 o1 o2 o3 of0 of1 of2
    clear HJ
    generalize wo.setCell ⟨k6, 0, none⟩ (.int .i64 c) = WX at HJ2 ⊢
    have HJ := Lib.hid HJ2.out
    clear HJ2
    have HONE := Lib.hid (show (#[.slice q1 n1 c1, .slice q2 n2 c2, .slice q3 n3 c3] : Array Value).all (·.oneCell') = true by simp [Value.oneCell'])
    go_upto_region 18 with (fail)
    refine region_invL 4 [some 53, some 54, none, none] (FiD WX B r k5 k6 (.slice q1 n1 c1) (.slice q2 n2 c2) (.slice q3 n3 c3) c n t x) (by kernel_rfl) rfl (by kernel_rfl) (by kernel_rfl) (by kernel_rfl) ?_ ?_ ?_
    · exact ⟨(Below.refl _ _).drew, HJ.out.box5, HJ.out.box6, ⟨_, HJ.out.fit, HJ.out.disk.below (Below.refl _ _).drew⟩, (fun h => by cases h), (fun h => by cases h), (fun _ => HJ.out.r0), (fun h => by cases h), (fun _ => HJ.out.r1), (fun h => by cases h)⟩
    · intro i o v L w1 hoi hL hI hdep
      have hi : i < 4 := (Array.getElem?_eq_some_iff.1 hoi).1
      have hc : i = 0 ∨ i = 1 ∨ i = 2 ∨ i = 3 := by omega
      rcases hc with rfl | rfl | rfl | rfl
      · obtain rfl := Option.some.inj hoi
        refine ⟨rfl, wpLoadT rfl (at_old (by kernel_rfl)) (ldDkI hI.b5) ⟨_, rfl, ?_⟩⟩
        exact ⟨hI.G, hI.b5, hI.b6, hI.D, fun _ => rfl, hI.f1, hI.o2, hI.f2, hI.o3, hI.f3⟩
      · obtain rfl := Option.some.inj hoi
        refine ⟨rfl, wpLoadT rfl (at_old (by kernel_rfl)) (ldDpI hI.b6) ⟨_, rfl, ?_⟩⟩
        exact ⟨hI.G, hI.b5, hI.b6, hI.D, hI.f0, fun _ => rfl, hI.o2, hI.f2, hI.o3, hI.f3⟩
      · obtain rfl := Option.some.inj hoi
        have gz := grw_setRow (grw_refl w1 (some r)) #[.slice q1 n1 c1, .slice q2 n2 c2, .slice q3 n3 c3]
        have hq := hI.o2 hL
        obtain ⟨dz, hdf, hdz⟩ := hI.D
        refine ⟨rfl, wpStoreT rfl (at_old (by kernel_rfl)) ((at_new (by kernel_rfl) 0 (Nat.le_of_ble_eq_true rfl) rfl (by decide) (hdep 0 (dep_of (by kernel_rfl)))).trans (hI.f0 (hdep 0 (dep_of (by kernel_rfl))))) hq (diskSz _ _ _) rfl HONE.out ?_⟩
        exact ⟨_, rfl, ⟨below_grw hI.G gz (Nat.le_trans HJ.out.hr (Nat.le_of_lt (Array.getElem?_eq_some_iff.1 hq).1)) (fun q hq => by rw [← Option.some.inj hq]; exact HJ.out.hr), (gz.block _ (Array.getElem?_eq_some_iff.1 hI.b5).1 (fun c => HJ.out.h5.1 (Option.some.inj c))).trans hI.b5, (gz.block _ (Array.getElem?_eq_some_iff.1 hI.b6).1 (fun c => blk_two hq hI.b6 (by decide) (Option.some.inj c).symm)).trans hI.b6, ⟨dz, hdf, hdz.row hq ⟨_, _, _, rfl⟩ ⟨_, _, _, rfl⟩ ⟨_, _, _, rfl⟩ gz⟩, hI.f0, hI.f1, (fun h => by cases h), fun _ => setRow_heap w1 r _ _ _ (0, 0) hq, (fun h => (gz.block _ (Array.getElem?_eq_some_iff.1 (hI.o3 h)).1 (fun c => by have := Option.some.inj c; omega)).trans (hI.o3 h)), (fun h => (gz.block _ (Array.getElem?_eq_some_iff.1 (hI.f3 h)).1 (fun c => by have := Option.some.inj c; omega)).trans (hI.f3 h))⟩⟩
      · obtain rfl := Option.some.inj hoi
        have gz := grw_setRow (grw_refl w1 (some (r + 1))) #[.int .i64 c, .string n, .string t, .string x]
        have hq := hI.o3 hL
        have hq2 := setRow_heap w1 (r + 1) _ #[.int .i64 c, .string n, .string t, .string x] 36 (0, 0) hq
        obtain ⟨dz, hdf, hdz⟩ := hI.D
        refine ⟨rfl, wpStoreT rfl (at_old (by kernel_rfl)) ((at_new (by kernel_rfl) 1 (Nat.le_of_ble_eq_true rfl) rfl (by decide) (hdep 1 (dep_of (by kernel_rfl)))).trans (hI.f1 (hdep 1 (dep_of (by kernel_rfl))))) hq (dopSz _ _ _ _) rfl (by simp [Value.oneCell']) ?_⟩
        exact ⟨_, rfl, ⟨below_grw hI.G gz (Nat.le_trans HJ.out.hr (Nat.le_trans (Nat.le_succ _) (Nat.le_of_lt (Array.getElem?_eq_some_iff.1 hq).1))) (fun q hq => by rw [← Option.some.inj hq]; exact Nat.le_trans HJ.out.hr (Nat.le_succ _)), (gz.block _ (Array.getElem?_eq_some_iff.1 hI.b5).1 (fun c => blk_two hI.b5 hq (by decide) (Option.some.inj c))).trans hI.b5, (gz.block _ (Array.getElem?_eq_some_iff.1 hI.b6).1 (fun c => HJ.out.h6.1 (Option.some.inj c))).trans hI.b6, hdz.over (op := (c, n, t, x)) hdf HJ.out.opw hq gz hq2, hI.f0, hI.f1, (fun h => (gz.block _ (Array.getElem?_eq_some_iff.1 (hI.o2 h)).1 (fun c => by have := Option.some.inj c; omega)).trans (hI.o2 h)), (fun h => (gz.block _ (Array.getElem?_eq_some_iff.1 (hI.f2 h)).1 (fun c => by have := Option.some.inj c; omega)).trans (hI.f2 h)), (fun h => by cases h), fun _ => hq2⟩⟩
    intro v wf hI
    obtain ⟨dz, hdf, hdz⟩ := hI.D
    have HF := Lib.hid (And.intro (hI.f2 rfl) (And.intro (hI.f3 rfl) (And.intro hdf (And.intro hdz (HJ.out.bel.trans hI.G)))))
    clear hI hdf hdz
    simp only [Go.My.putL, Nat.zero_add, Act.put, List.setIfInBounds_toArray, List.set_cons_zero, List.set_cons_succ]
    generalize v 0 = y20 at *
    generalize v 1 = y21 at *
    go_wp2
    refine bodyPost_ret (v := .tuple #[.agg #[.slice q1 n1 c1, .slice q2 n2 c2, .slice q3 n3 c3], .agg #[.int .i64 c, .string n, .string t, .string x]]) (results_row2' Try.results22 _ _ r (r + 1) _ _ (0, 0) _ _ rfl rfl HF.out.1 HF.out.2.1 Try.underlying27 rfl Try.underlying36 rfl (by kernel_rfl) (by kernel_rfl)) rfl ?_
    exact ⟨_, _, _, _, _, _, _, _, rfl, HF.out.2.2.1, HF.out.2.2.2.1, HJ.out.opw, HF.out.2.2.2.2⟩
  have z0' : (z == 0) = false := by simpa using z0
  by_cases z1 : z = 1
  · subst z1
    obtain ⟨d2, hJ2⟩ := HJ.out.put6 (k' := k) (n' := ByteArray.mk #[]) (t' := t) (x' := x) (j := 1) (u := .string (ByteArray.mk #[])) ⟨HJ.out.opw.1, Nat.zero_le _, HJ.out.opw.2.2⟩ (heap_setCell_same WX k6 1 _ _ _ HJ.out.box6)
    have HJ2 := Lib.hid hJ2
    clear hJ2
    obtain ⟨⟨o0, o1, o2, o3⟩, oF⟩ := dop_cells HJ.out.box6
    have of0 := oF 0
    have of1 := oF 1
    have of2 := oF 2
    clear oF
    go_upto_region 9 with (fail)
    clear o0 o1 o2 o3 of0 of1 of2
    clear HJ
    generalize WX.setCell ⟨k6, 1, none⟩ (.string (ByteArray.mk #[])) = WX at HJ2 ⊢
    have HJ := Lib.hid HJ2.out
    clear HJ2
    have HONE := Lib.hid (show (#[.slice q1 n1 c1, .slice q2 n2 c2, .slice q3 n3 c3] : Array Value).all (·.oneCell') = true by simp [Value.oneCell'])
    go_upto_region 18 with (fail)
    refine region_invL 4 [some 53, some 54, none, none] (FiD WX B r k5 k6 (.slice q1 n1 c1) (.slice q2 n2 c2) (.slice q3 n3 c3) k (ByteArray.mk #[]) t x) (by kernel_rfl) rfl (by kernel_rfl) (by kernel_rfl) (by kernel_rfl) ?_ ?_ ?_
    · exact ⟨(Below.refl _ _).drew, HJ.out.box5, HJ.out.box6, ⟨_, HJ.out.fit, HJ.out.disk.below (Below.refl _ _).drew⟩, (fun h => by cases h), (fun h => by cases h), (fun _ => HJ.out.r0), (fun h => by cases h), (fun _ => HJ.out.r1), (fun h => by cases h)⟩
    · intro i o v L w1 hoi hL hI hdep
      have hi : i < 4 := (Array.getElem?_eq_some_iff.1 hoi).1
      have hc : i = 0 ∨ i = 1 ∨ i = 2 ∨ i = 3 := by omega
      rcases hc with rfl | rfl | rfl | rfl
      · obtain rfl := Option.some.inj hoi
        refine ⟨rfl, wpLoadT rfl (at_old (by kernel_rfl)) (ldDkI hI.b5) ⟨_, rfl, ?_⟩⟩
        exact ⟨hI.G, hI.b5, hI.b6, hI.D, fun _ => rfl, hI.f1, hI.o2, hI.f2, hI.o3, hI.f3⟩
      · obtain rfl := Option.some.inj hoi
        refine ⟨rfl, wpLoadT rfl (at_old (by kernel_rfl)) (ldDpI hI.b6) ⟨_, rfl, ?_⟩⟩
        exact ⟨hI.G, hI.b5, hI.b6, hI.D, hI.f0, fun _ => rfl, hI.o2, hI.f2, hI.o3, hI.f3⟩
      · obtain rfl := Option.some.inj hoi
        have gz := grw_setRow (grw_refl w1 (some r)) #[.slice q1 n1 c1, .slice q2 n2 c2, .slice q3 n3 c3]
        have hq := hI.o2 hL
        obtain ⟨dz, hdf, hdz⟩ := hI.D
        refine ⟨rfl, wpStoreT rfl (at_old (by kernel_rfl)) ((at_new (by kernel_rfl) 0 (Nat.le_of_ble_eq_true rfl) rfl (by decide) (hdep 0 (dep_of (by kernel_rfl)))).trans (hI.f0 (hdep 0 (dep_of (by kernel_rfl))))) hq (diskSz _ _ _) rfl HONE.out ?_⟩
        exact ⟨_, rfl, ⟨below_grw hI.G gz (Nat.le_trans HJ.out.hr (Nat.le_of_lt (Array.getElem?_eq_some_iff.1 hq).1)) (fun q hq => by rw [← Option.some.inj hq]; exact HJ.out.hr), (gz.block _ (Array.getElem?_eq_some_iff.1 hI.b5).1 (fun c => HJ.out.h5.1 (Option.some.inj c))).trans hI.b5, (gz.block _ (Array.getElem?_eq_some_iff.1 hI.b6).1 (fun c => blk_two hq hI.b6 (by decide) (Option.some.inj c).symm)).trans hI.b6, ⟨dz, hdf, hdz.row hq ⟨_, _, _, rfl⟩ ⟨_, _, _, rfl⟩ ⟨_, _, _, rfl⟩ gz⟩, hI.f0, hI.f1, (fun h => by cases h), fun _ => setRow_heap w1 r _ _ _ (0, 0) hq, (fun h => (gz.block _ (Array.getElem?_eq_some_iff.1 (hI.o3 h)).1 (fun c => by have := Option.some.inj c; omega)).trans (hI.o3 h)), (fun h => (gz.block _ (Array.getElem?_eq_some_iff.1 (hI.f3 h)).1 (fun c => by have := Option.some.inj c; omega)).trans (hI.f3 h))⟩⟩
      · obtain rfl := Option.some.inj hoi
        have gz := grw_setRow (grw_refl w1 (some (r + 1))) #[.int .i64 k, .string (ByteArray.mk #[]), .string t, .string x]
        have hq := hI.o3 hL
        have hq2 := setRow_heap w1 (r + 1) _ #[.int .i64 k, .string (ByteArray.mk #[]), .string t, .string x] 36 (0, 0) hq
        obtain ⟨dz, hdf, hdz⟩ := hI.D
        refine ⟨rfl, wpStoreT rfl (at_old (by kernel_rfl)) ((at_new (by kernel_rfl) 1 (Nat.le_of_ble_eq_true rfl) rfl (by decide) (hdep 1 (dep_of (by kernel_rfl)))).trans (hI.f1 (hdep 1 (dep_of (by kernel_rfl))))) hq (dopSz _ _ _ _) rfl (by simp [Value.oneCell']) ?_⟩
        exact ⟨_, rfl, ⟨below_grw hI.G gz (Nat.le_trans HJ.out.hr (Nat.le_trans (Nat.le_succ _) (Nat.le_of_lt (Array.getElem?_eq_some_iff.1 hq).1))) (fun q hq => by rw [← Option.some.inj hq]; exact Nat.le_trans HJ.out.hr (Nat.le_succ _)), (gz.block _ (Array.getElem?_eq_some_iff.1 hI.b5).1 (fun c => blk_two hI.b5 hq (by decide) (Option.some.inj c))).trans hI.b5, (gz.block _ (Array.getElem?_eq_some_iff.1 hI.b6).1 (fun c => HJ.out.h6.1 (Option.some.inj c))).trans hI.b6, hdz.over (op := (k, ByteArray.mk #[], t, x)) hdf HJ.out.opw hq gz hq2, hI.f0, hI.f1, (fun h => (gz.block _ (Array.getElem?_eq_some_iff.1 (hI.o2 h)).1 (fun c => by have := Option.some.inj c; omega)).trans (hI.o2 h)), (fun h => (gz.block _ (Array.getElem?_eq_some_iff.1 (hI.f2 h)).1 (fun c => by have := Option.some.inj c; omega)).trans (hI.f2 h)), (fun h => by cases h), fun _ => hq2⟩⟩
    intro v wf hI
    obtain ⟨dz, hdf, hdz⟩ := hI.D
    have HF := Lib.hid (And.intro (hI.f2 rfl) (And.intro (hI.f3 rfl) (And.intro hdf (And.intro hdz (HJ.out.bel.trans hI.G)))))
    clear hI hdf hdz
    simp only [Go.My.putL, Nat.zero_add, Act.put, List.setIfInBounds_toArray, List.set_cons_zero, List.set_cons_succ]
    generalize v 0 = y20 at *
    generalize v 1 = y21 at *
    go_wp2
    refine bodyPost_ret (v := .tuple #[.agg #[.slice q1 n1 c1, .slice q2 n2 c2, .slice q3 n3 c3], .agg #[.int .i64 k, .string (ByteArray.mk #[]), .string t, .string x]]) (results_row2' Try.results22 _ _ r (r + 1) _ _ (0, 0) _ _ rfl rfl HF.out.1 HF.out.2.1 Try.underlying27 rfl Try.underlying36 rfl (by kernel_rfl) (by kernel_rfl)) rfl ?_
    exact ⟨_, _, _, _, _, _, _, _, rfl, HF.out.2.2.1, HF.out.2.2.2.1, HJ.out.opw, HF.out.2.2.2.2⟩
  have z1' : (z == 1) = false := by simpa using z1
  by_cases z2 : z = 2
  · subst z2
    obtain ⟨d2, hJ2⟩ := HJ.out.put6 (k' := k) (n' := n) (t' := ByteArray.mk #[120]) (x' := x) (j := 2) (u := .string (ByteArray.mk #[120])) ⟨HJ.out.opw.1, HJ.out.opw.2.1, (show (ByteArray.mk #[120]).size ≤ 8 by decide), HJ.out.opw.2.2.2⟩ (heap_setCell_same WX k6 2 _ _ _ HJ.out.box6)
    have HJ2 := Lib.hid hJ2
    clear hJ2
    obtain ⟨⟨o0, o1, o2, o3⟩, oF⟩ := dop_cells HJ.out.box6
    have of0 := oF 0
    have of1 := oF 1
    have of2 := oF 2
    clear oF
    go_upto_region 11 with (fail)
    clear o0 o1 o2 o3 of0 of1 of2
    clear HJ
    generalize WX.setCell ⟨k6, 2, none⟩ (.string (ByteArray.mk #[120])) = WX at HJ2 ⊢
    have HJ := Lib.hid HJ2.out
    clear HJ2
    have HONE := Lib.hid (show (#[.slice q1 n1 c1, .slice q2 n2 c2, .slice q3 n3 c3] : Array Value).all (·.oneCell') = true by simp [Value.oneCell'])
    go_upto_region 18 with (fail)
    refine region_invL 4 [some 53, some 54, none, none] (FiD WX B r k5 k6 (.slice q1 n1 c1) (.slice q2 n2 c2) (.slice q3 n3 c3) k n (ByteArray.mk #[120]) x) (by kernel_rfl) rfl (by kernel_rfl) (by kernel_rfl) (by kernel_rfl) ?_ ?_ ?_
    · exact ⟨(Below.refl _ _).drew, HJ.out.box5, HJ.out.box6, ⟨_, HJ.out.fit, HJ.out.disk.below (Below.refl _ _).drew⟩, (fun h => by cases h), (fun h => by cases h), (fun _ => HJ.out.r0), (fun h => by cases h), (fun _ => HJ.out.r1), (fun h => by cases h)⟩
    · intro i o v L w1 hoi hL hI hdep
      have hi : i < 4 := (Array.getElem?_eq_some_iff.1 hoi).1
      have hc : i = 0 ∨ i = 1 ∨ i = 2 ∨ i = 3 := by omega
      rcases hc with rfl | rfl | rfl | rfl
      · obtain rfl := Option.some.inj hoi
        refine ⟨rfl, wpLoadT rfl (at_old (by kernel_rfl)) (ldDkI hI.b5) ⟨_, rfl, ?_⟩⟩
        exact ⟨hI.G, hI.b5, hI.b6, hI.D, fun _ => rfl, hI.f1, hI.o2, hI.f2, hI.o3, hI.f3⟩
      · obtain rfl := Option.some.inj hoi
        refine ⟨rfl, wpLoadT rfl (at_old (by kernel_rfl)) (ldDpI hI.b6) ⟨_, rfl, ?_⟩⟩
        exact ⟨hI.G, hI.b5, hI.b6, hI.D, hI.f0, fun _ => rfl, hI.o2, hI.f2, hI.o3, hI.f3⟩
      · obtain rfl := Option.some.inj hoi
        have gz := grw_setRow (grw_refl w1 (some r)) #[.slice q1 n1 c1, .slice q2 n2 c2, .slice q3 n3 c3]
        have hq := hI.o2 hL
        obtain ⟨dz, hdf, hdz⟩ := hI.D
        refine ⟨rfl, wpStoreT rfl (at_old (by kernel_rfl)) ((at_new (by kernel_rfl) 0 (Nat.le_of_ble_eq_true rfl) rfl (by decide) (hdep 0 (dep_of (by kernel_rfl)))).trans (hI.f0 (hdep 0 (dep_of (by kernel_rfl))))) hq (diskSz _ _ _) rfl HONE.out ?_⟩
        exact ⟨_, rfl, ⟨below_grw hI.G gz (Nat.le_trans HJ.out.hr (Nat.le_of_lt (Array.getElem?_eq_some_iff.1 hq).1)) (fun q hq => by rw [← Option.some.inj hq]; exact HJ.out.hr), (gz.block _ (Array.getElem?_eq_some_iff.1 hI.b5).1 (fun c => HJ.out.h5.1 (Option.some.inj c))).trans hI.b5, (gz.block _ (Array.getElem?_eq_some_iff.1 hI.b6).1 (fun c => blk_two hq hI.b6 (by decide) (Option.some.inj c).symm)).trans hI.b6, ⟨dz, hdf, hdz.row hq ⟨_, _, _, rfl⟩ ⟨_, _, _, rfl⟩ ⟨_, _, _, rfl⟩ gz⟩, hI.f0, hI.f1, (fun h => by cases h), fun _ => setRow_heap w1 r _ _ _ (0, 0) hq, (fun h => (gz.block _ (Array.getElem?_eq_some_iff.1 (hI.o3 h)).1 (fun c => by have := Option.some.inj c; omega)).trans (hI.o3 h)), (fun h => (gz.block _ (Array.getElem?_eq_some_iff.1 (hI.f3 h)).1 (fun c => by have := Option.some.inj c; omega)).trans (hI.f3 h))⟩⟩
      · obtain rfl := Option.some.inj hoi
        have gz := grw_setRow (grw_refl w1 (some (r + 1))) #[.int .i64 k, .string n, .string (ByteArray.mk #[120]), .string x]
        have hq := hI.o3 hL
        have hq2 := setRow_heap w1 (r + 1) _ #[.int .i64 k, .string n, .string (ByteArray.mk #[120]), .string x] 36 (0, 0) hq
        obtain ⟨dz, hdf, hdz⟩ := hI.D
        refine ⟨rfl, wpStoreT rfl (at_old (by kernel_rfl)) ((at_new (by kernel_rfl) 1 (Nat.le_of_ble_eq_true rfl) rfl (by decide) (hdep 1 (dep_of (by kernel_rfl)))).trans (hI.f1 (hdep 1 (dep_of (by kernel_rfl))))) hq (dopSz _ _ _ _) rfl (by simp [Value.oneCell']) ?_⟩
        exact ⟨_, rfl, ⟨below_grw hI.G gz (Nat.le_trans HJ.out.hr (Nat.le_trans (Nat.le_succ _) (Nat.le_of_lt (Array.getElem?_eq_some_iff.1 hq).1))) (fun q hq => by rw [← Option.some.inj hq]; exact Nat.le_trans HJ.out.hr (Nat.le_succ _)), (gz.block _ (Array.getElem?_eq_some_iff.1 hI.b5).1 (fun c => blk_two hI.b5 hq (by decide) (Option.some.inj c))).trans hI.b5, (gz.block _ (Array.getElem?_eq_some_iff.1 hI.b6).1 (fun c => HJ.out.h6.1 (Option.some.inj c))).trans hI.b6, hdz.over (op := (k, n, ByteArray.mk #[120], x)) hdf HJ.out.opw hq gz hq2, hI.f0, hI.f1, (fun h => (gz.block _ (Array.getElem?_eq_some_iff.1 (hI.o2 h)).1 (fun c => by have := Option.some.inj c; omega)).trans (hI.o2 h)), (fun h => (gz.block _ (Array.getElem?_eq_some_iff.1 (hI.f2 h)).1 (fun c => by have := Option.some.inj c; omega)).trans (hI.f2 h)), (fun h => by cases h), fun _ => hq2⟩⟩
    intro v wf hI
    obtain ⟨dz, hdf, hdz⟩ := hI.D
    have HF := Lib.hid (And.intro (hI.f2 rfl) (And.intro (hI.f3 rfl) (And.intro hdf (And.intro hdz (HJ.out.bel.trans hI.G)))))
    clear hI hdf hdz
    simp only [Go.My.putL, Nat.zero_add, Act.put, List.setIfInBounds_toArray, List.set_cons_zero, List.set_cons_succ]
    generalize v 0 = y20 at *
    generalize v 1 = y21 at *
    go_wp2
    refine bodyPost_ret (v := .tuple #[.agg #[.slice q1 n1 c1, .slice q2 n2 c2, .slice q3 n3 c3], .agg #[.int .i64 k, .string n, .string (ByteArray.mk #[120]), .string x]]) (results_row2' Try.results22 _ _ r (r + 1) _ _ (0, 0) _ _ rfl rfl HF.out.1 HF.out.2.1 Try.underlying27 rfl Try.underlying36 rfl (by kernel_rfl) (by kernel_rfl)) rfl ?_
    exact ⟨_, _, _, _, _, _, _, _, rfl, HF.out.2.2.1, HF.out.2.2.2.1, HJ.out.opw, HF.out.2.2.2.2⟩
  have z2' : (z == 2) = false := by simpa using z2
  by_cases z3 : z = 3
  · subst z3
    go_wp2
    go_loopw [7] (fun i wr => ∃ (m : Nat) (d : DiskT) (y1 y2 y3 : Value), i = .int .i64 (m : Int) ∧ m ≤ 200 ∧ DoJ B (r + 2) r k5 k6 d y1 y2 y3 k n t x w wr) (fun i _ => 200 - (RowKit.intOf i).toNat)
    case atStart => exact ⟨0, _, _, _, _, rfl, Nat.zero_le _, HJ.out⟩
    case round =>
      clear HJ
      obtain ⟨m, d, y1, y2, y3, rfl, hm, hJ⟩ := hrel
      have HJ := Lib.hid hJ
      clear hJ
      obtain ⟨⟨q1, n1, c1, rfl⟩, ⟨q2, n2, c2, rfl⟩, ⟨q3, n3, c3, rfl⟩⟩ := HJ.out.disk.sl
      by_cases hlt : m < 200
      · have hd : decide ((m : Int) < 200) = true := by simp; omega
        go_upto_region 13 with (fail)
        refine region_invLG 11 [some 31, some 32, some 33, some 34, some 35, some 36, some 37, some 38, some 39, some 40, some 41] (GrD wr B (r + 2) k5 m q3 n3 c3) (by kernel_rfl) rfl (by kernel_rfl) (by kernel_rfl) (by kernel_rfl) ?_ ?_ ?_
        · exact ⟨grw_of_below (Below.refl _ _).drew _, HJ.out.rd, (fun h => by cases h), (fun h => by cases h), (fun h => by cases h), (fun h => by cases h), (fun h => by cases h), (fun h => by cases h), (fun h => by cases h), (fun h => by cases h), (fun h => by cases h), (fun h => by cases h), (fun h => by cases h)⟩
        · intro i o v L w1 hoi hL hI hdep
          have hi : i < 11 := (Array.getElem?_eq_some_iff.1 hoi).1
          have hc : i = 0 ∨ i = 1 ∨ i = 2 ∨ i = 3 ∨ i = 4 ∨ i = 5 ∨ i = 6 ∨ i = 7 ∨ i = 8 ∨ i = 9 ∨ i = 10 := by omega
          rcases hc with rfl | rfl | rfl | rfl | rfl | rfl | rfl | rfl | rfl | rfl | rfl
          · obtain rfl := Option.some.inj hoi
            refine ⟨wanted_free rfl, wpMoveT rfl (at_old (by kernel_rfl)) ⟨_, rfl, ?_⟩⟩
            exact ⟨hI.G, hI.R, fun _ => rfl, hI.f1, hI.f2, hI.f3, hI.f4, hI.f5, hI.f6, hI.f7, hI.f8, hI.f9, hI.f10⟩
          · obtain rfl := Option.some.inj hoi
            refine ⟨wanted_free rfl, wpBinKT rfl ((at_new (by kernel_rfl) 0 (Nat.le_of_ble_eq_true rfl) rfl (by decide) (hdep 0 (dep_of (by kernel_rfl)))).trans (hI.f0 (hdep 0 (dep_of (by kernel_rfl))))) (lt200 _ w1) ⟨_, rfl, ?_⟩⟩
            exact ⟨hI.G, hI.R, hI.f0, fun _ => congrArg Value.bool hd, hI.f2, hI.f3, hI.f4, hI.f5, hI.f6, hI.f7, hI.f8, hI.f9, hI.f10⟩
          · obtain rfl := Option.some.inj hoi
            refine ⟨wanted_free rfl, wpMoveT rfl ((at_new (by kernel_rfl) 1 (Nat.le_of_ble_eq_true rfl) rfl (by decide) (hdep 1 (dep_of (by kernel_rfl)))).trans (hI.f1 (hdep 1 (dep_of (by kernel_rfl))))) ⟨_, rfl, ?_⟩⟩
            exact ⟨hI.G, hI.R, hI.f0, hI.f1, fun _ => rfl, hI.f3, hI.f4, hI.f5, hI.f6, hI.f7, hI.f8, hI.f9, hI.f10⟩
          · obtain rfl := Option.some.inj hoi
            refine ⟨(wanted_at (k := 33) (by kernel_rfl) 2 rfl (Nat.le_of_ble_eq_true rfl) rfl (by decide) (hdep 2 (dep_of (by kernel_rfl))) (hI.f2 (hdep 2 (dep_of (by kernel_rfl))))), wpFieldT rfl (at_old (by kernel_rfl)) (fdK2 _ w1) ⟨_, rfl, ?_⟩⟩
            exact ⟨hI.G, hI.R, hI.f0, hI.f1, hI.f2, fun _ => rfl, hI.f4, hI.f5, hI.f6, hI.f7, hI.f8, hI.f9, hI.f10⟩
          · obtain rfl := Option.some.inj hoi
            refine ⟨(wanted_at (k := 33) (by kernel_rfl) 2 rfl (Nat.le_of_ble_eq_true rfl) rfl (by decide) (hdep 2 (dep_of (by kernel_rfl))) (hI.f2 (hdep 2 (dep_of (by kernel_rfl))))), wpLoadT rfl ((at_new (by kernel_rfl) 3 (Nat.le_of_ble_eq_true rfl) rfl (by decide) (hdep 3 (dep_of (by kernel_rfl)))).trans (hI.f3 (hdep 3 (dep_of (by kernel_rfl))))) (ldOps ((hI.G.block _ (Array.getElem?_eq_some_iff.1 HJ.out.box5).1 (fun c => rd_neT HJ.out.rd HJ.out.box5 (by decide) (Option.some.inj c))).trans HJ.out.box5)) ⟨_, rfl, ?_⟩⟩
            exact ⟨hI.G, hI.R, hI.f0, hI.f1, hI.f2, hI.f3, fun _ => rfl, hI.f5, hI.f6, hI.f7, hI.f8, hI.f9, hI.f10⟩
          · obtain rfl := Option.some.inj hoi
            refine ⟨(wanted_at (k := 33) (by kernel_rfl) 2 rfl (Nat.le_of_ble_eq_true rfl) rfl (by decide) (hdep 2 (dep_of (by kernel_rfl))) (hI.f2 (hdep 2 (dep_of (by kernel_rfl))))), wpLenT rfl ((at_new (by kernel_rfl) 4 (Nat.le_of_ble_eq_true rfl) rfl (by decide) (hdep 4 (dep_of (by kernel_rfl)))).trans (hI.f4 (hdep 4 (dep_of (by kernel_rfl))))) Try.underlying25 ⟨_, rfl, ?_⟩⟩
            exact ⟨hI.G, hI.R, hI.f0, hI.f1, hI.f2, hI.f3, hI.f4, fun _ => rfl, hI.f6, hI.f7, hI.f8, hI.f9, hI.f10⟩
          · obtain rfl := Option.some.inj hoi
            refine ⟨(wanted_at (k := 33) (by kernel_rfl) 2 rfl (Nat.le_of_ble_eq_true rfl) rfl (by decide) (hdep 2 (dep_of (by kernel_rfl))) (hI.f2 (hdep 2 (dep_of (by kernel_rfl))))), wpMoveT rfl (at_old (by kernel_rfl)) ⟨_, rfl, ?_⟩⟩
            exact ⟨hI.G, hI.R, hI.f0, hI.f1, hI.f2, hI.f3, hI.f4, hI.f5, fun _ => rfl, hI.f7, hI.f8, hI.f9, hI.f10⟩
          · obtain rfl := Option.some.inj hoi
            refine ⟨(wanted_at (k := 33) (by kernel_rfl) 2 rfl (Nat.le_of_ble_eq_true rfl) rfl (by decide) (hdep 2 (dep_of (by kernel_rfl))) (hI.f2 (hdep 2 (dep_of (by kernel_rfl))))), wpCallT rfl cfBelow (argsT1c ((at_new (by kernel_rfl) 6 (Nat.le_of_ble_eq_true rfl) rfl (by decide) (hdep 6 (dep_of (by kernel_rfl)))).trans (hI.f6 (hdep 6 (dep_of (by kernel_rfl)))))) ((below_any B _ 2 _ hI.R (by omega) (by omega)).mono ?_)⟩
            rintro e w2 ⟨x, rfl, hx0, hx1, hR2, hg2⟩
            have hI := hI.read hR2 hg2
            exact ⟨_, rfl, _, rfl, ⟨hI.G, hI.R, hI.f0, hI.f1, hI.f2, hI.f3, hI.f4, hI.f5, hI.f6, fun _ => ⟨x, rfl⟩, hI.f8, hI.f9, hI.f10⟩⟩
          · obtain rfl := Option.some.inj hoi
            obtain ⟨z, ez⟩ := hI.f7 (hdep 7 (dep_of (by kernel_rfl)))
            obtain ⟨y, ey⟩ := add199 z w1
            refine ⟨(wanted_at (k := 33) (by kernel_rfl) 2 rfl (Nat.le_of_ble_eq_true rfl) rfl (by decide) (hdep 2 (dep_of (by kernel_rfl))) (hI.f2 (hdep 2 (dep_of (by kernel_rfl))))), wpKBinT rfl ((at_new (by kernel_rfl) 7 (Nat.le_of_ble_eq_true rfl) rfl (by decide) (hdep 7 (dep_of (by kernel_rfl)))).trans ez) ey ⟨_, rfl, ?_⟩⟩
            exact ⟨hI.G, hI.R, hI.f0, hI.f1, hI.f2, hI.f3, hI.f4, hI.f5, hI.f6, hI.f7, fun _ => ⟨y, rfl⟩, hI.f9, hI.f10⟩
          · obtain rfl := Option.some.inj hoi
            obtain ⟨z, ez⟩ := hI.f8 (hdep 8 (dep_of (by kernel_rfl)))
            refine ⟨(wanted_at (k := 33) (by kernel_rfl) 2 rfl (Nat.le_of_ble_eq_true rfl) rfl (by decide) (hdep 2 (dep_of (by kernel_rfl))) (hI.f2 (hdep 2 (dep_of (by kernel_rfl))))), wpBinT rfl ((at_new (by kernel_rfl) 5 (Nat.le_of_ble_eq_true rfl) rfl (by decide) (hdep 5 (dep_of (by kernel_rfl)))).trans (hI.f5 (hdep 5 (dep_of (by kernel_rfl))))) ((at_new (by kernel_rfl) 8 (Nat.le_of_ble_eq_true rfl) rfl (by decide) (hdep 8 (dep_of (by kernel_rfl)))).trans ez) (ltII _ z w1) ⟨_, rfl, ?_⟩⟩
            exact ⟨hI.G, hI.R, hI.f0, hI.f1, hI.f2, hI.f3, hI.f4, hI.f5, hI.f6, hI.f7, hI.f8, fun _ => ⟨_, rfl⟩, hI.f10⟩
          · obtain rfl := Option.some.inj hoi
            obtain ⟨b, eb⟩ := hI.f9 (hdep 9 (dep_of (by kernel_rfl)))
            refine ⟨wanted_free rfl, wpPickT rfl ((at_new (by kernel_rfl) 2 (Nat.le_of_ble_eq_true rfl) rfl (by decide) (hdep 2 (dep_of (by kernel_rfl)))).trans (hI.f2 (hdep 2 (dep_of (by kernel_rfl))))) ((at_new (by kernel_rfl) 9 (Nat.le_of_ble_eq_true rfl) rfl (by decide) (hdep 9 (dep_of (by kernel_rfl)))).trans eb) ⟨_, rfl, ?_⟩⟩
            exact ⟨hI.G, hI.R, hI.f0, hI.f1, hI.f2, hI.f3, hI.f4, hI.f5, hI.f6, hI.f7, hI.f8, hI.f9, fun _ => ⟨b, rfl⟩⟩
        intro v wx hI
        obtain ⟨b, eb⟩ := hI.f10 rfl
        have HJ := Lib.hid (HJ.out.read hI.R hI.G)
        clear hI
        simp only [Go.My.putL, Nat.zero_add, Nat.reduceAdd, eb, Act.put, List.setIfInBounds_toArray, List.set_cons_zero, List.set_cons_succ]
        generalize v 0 = y30 at *
        generalize v 1 = y31 at *
        generalize v 2 = y32 at *
        generalize v 3 = y33 at *
        generalize v 4 = y34 at *
        generalize v 5 = y35 at *
        generalize v 6 = y36 at *
        generalize v 7 = y37 at *
        generalize v 8 = y38 at *
        generalize v 9 = y39 at *
        clear eb
        cases b with
        | true =>
          have hm0 : (m : Int) < 200 := by omega
          have em : ((m + 1 : Nat) : Int) = (m : Int) + 1 := by omega
          obtain ⟨⟨b0, b1, b2⟩, _⟩ := dk_cells HJ.out.box5
          have CD := Lib.hid (doD_sn (.slice q1 n1 c1) (.slice q2 n2 c2) (.slice q3 n3 c3) d 1 ⟨#[98]⟩ (ByteArray.mk #[]) (ByteArray.mk #[]) wx HJ.out.disk HJ.out.fit (by decide) (by decide) (by decide) (by decide))
          have hfd : (doD d (1, ⟨#[98]⟩, ByteArray.mk #[], ByteArray.mk #[])).fit := fit_doD HJ.out.fit ⟨by decide, by decide, by decide, by decide⟩
          go_wp2_with fail
          refine CD.out.mono ?_
          rintro e wy ⟨u1, u2, u3, rfl, hU, hb⟩
          have HJ := Lib.hid (HJ.out.below hb)
          obtain ⟨p4, m4, rfl, _⟩ := hU.live.open
          obtain ⟨p5, m5, rfl, _⟩ := hU.safe.open
          obtain ⟨p6, m6, rfl, _⟩ := hU.ops.open
          generalize doD d (1, ⟨#[98]⟩, ByteArray.mk #[], ByteArray.mk #[]) = d2 at hfd hU ⊢
          generalize doR d (1, ⟨#[98]⟩, ByteArray.mk #[], ByteArray.mk #[]) = cc
          have hal : Below wy.heap.size wy (wy.alloc (.cells #[.slice p4 d2.live.length m4, .slice p5 d2.safe.length m5, .slice p6 d2.ops.length m6] 27)) := (Below.refl _ _).alloc (Nat.le_refl _) _
          have HJ := Lib.hid (HJ.out.below hal)
          have HU := Lib.hid (hU.toIn.below hal)
          have HX := Lib.hid (heap_alloc_new wy (.cells #[.slice p4 d2.live.length m4, .slice p5 d2.safe.length m5, .slice p6 d2.ops.length m6] 27))
          clear hal hU hb b0 b1 b2 CD
          go_upto_region 16 with (fail)
          generalize wy.alloc (.cells #[.slice p4 d2.live.length m4, .slice p5 d2.safe.length m5, .slice p6 d2.ops.length m6] 27) = wz at HJ HU HX ⊢
          generalize wy.heap.size = k8 at HX ⊢
          by_cases hc : cc = 0
          · subst hc
            have HJ2 := Lib.hid (HJ.out.put5 hfd HU.out)
            obtain ⟨⟨a0, a1, a2⟩, _⟩ := dk_cells HX.out
            obtain ⟨⟨b0, b1, b2⟩, bf⟩ := dk_cells HJ.out.box5
            have bf0 := bf 0
            have bf1 := bf 1
            have bf2 := bf 2
            clear bf
            go_wp2
            go_roundw
            case rel => exact ⟨m + 1, _, _, _, _, by go_num, by omega, HJ2.out⟩
            case measure => simp [RowKit.intOf]; omega
          · have hc' : (cc == 0) = false := by simpa using hc
            go_wp2
            go_roundw
            case rel => exact ⟨m + 1, _, _, _, _, by go_num, by omega, HJ.out⟩
            case measure => simp [RowKit.intOf]; omega
        | false =>
          generalize wx = WX at HJ ⊢
          have HONE := Lib.hid (show (#[.slice q1 n1 c1, .slice q2 n2 c2, .slice q3 n3 c3] : Array Value).all (·.oneCell') = true by simp [Value.oneCell'])
          go_upto_region 18 with (fail)
          refine region_invL 4 [some 53, some 54, none, none] (FiD WX B r k5 k6 (.slice q1 n1 c1) (.slice q2 n2 c2) (.slice q3 n3 c3) k n t x) (by kernel_rfl) rfl (by kernel_rfl) (by kernel_rfl) (by kernel_rfl) ?_ ?_ ?_
          · exact ⟨(Below.refl _ _).drew, HJ.out.box5, HJ.out.box6, ⟨_, HJ.out.fit, HJ.out.disk.below (Below.refl _ _).drew⟩, (fun h => by cases h), (fun h => by cases h), (fun _ => HJ.out.r0), (fun h => by cases h), (fun _ => HJ.out.r1), (fun h => by cases h)⟩
          · intro i o v L w1 hoi hL hI hdep
            have hi : i < 4 := (Array.getElem?_eq_some_iff.1 hoi).1
            have hc : i = 0 ∨ i = 1 ∨ i = 2 ∨ i = 3 := by omega
            rcases hc with rfl | rfl | rfl | rfl
            · obtain rfl := Option.some.inj hoi
              refine ⟨rfl, wpLoadT rfl (at_old (by kernel_rfl)) (ldDkI hI.b5) ⟨_, rfl, ?_⟩⟩
              exact ⟨hI.G, hI.b5, hI.b6, hI.D, fun _ => rfl, hI.f1, hI.o2, hI.f2, hI.o3, hI.f3⟩
            · obtain rfl := Option.some.inj hoi
              refine ⟨rfl, wpLoadT rfl (at_old (by kernel_rfl)) (ldDpI hI.b6) ⟨_, rfl, ?_⟩⟩
              exact ⟨hI.G, hI.b5, hI.b6, hI.D, hI.f0, fun _ => rfl, hI.o2, hI.f2, hI.o3, hI.f3⟩
            · obtain rfl := Option.some.inj hoi
              have gz := grw_setRow (grw_refl w1 (some r)) #[.slice q1 n1 c1, .slice q2 n2 c2, .slice q3 n3 c3]
              have hq := hI.o2 hL
              obtain ⟨dz, hdf, hdz⟩ := hI.D
              refine ⟨rfl, wpStoreT rfl (at_old (by kernel_rfl)) ((at_new (by kernel_rfl) 0 (Nat.le_of_ble_eq_true rfl) rfl (by decide) (hdep 0 (dep_of (by kernel_rfl)))).trans (hI.f0 (hdep 0 (dep_of (by kernel_rfl))))) hq (diskSz _ _ _) rfl HONE.out ?_⟩
              exact ⟨_, rfl, ⟨below_grw hI.G gz (Nat.le_trans HJ.out.hr (Nat.le_of_lt (Array.getElem?_eq_some_iff.1 hq).1)) (fun q hq => by rw [← Option.some.inj hq]; exact HJ.out.hr), (gz.block _ (Array.getElem?_eq_some_iff.1 hI.b5).1 (fun c => HJ.out.h5.1 (Option.some.inj c))).trans hI.b5, (gz.block _ (Array.getElem?_eq_some_iff.1 hI.b6).1 (fun c => blk_two hq hI.b6 (by decide) (Option.some.inj c).symm)).trans hI.b6, ⟨dz, hdf, hdz.row hq ⟨_, _, _, rfl⟩ ⟨_, _, _, rfl⟩ ⟨_, _, _, rfl⟩ gz⟩, hI.f0, hI.f1, (fun h => by cases h), fun _ => setRow_heap w1 r _ _ _ (0, 0) hq, (fun h => (gz.block _ (Array.getElem?_eq_some_iff.1 (hI.o3 h)).1 (fun c => by have := Option.some.inj c; omega)).trans (hI.o3 h)), (fun h => (gz.block _ (Array.getElem?_eq_some_iff.1 (hI.f3 h)).1 (fun c => by have := Option.some.inj c; omega)).trans (hI.f3 h))⟩⟩
            · obtain rfl := Option.some.inj hoi
              have gz := grw_setRow (grw_refl w1 (some (r + 1))) #[.int .i64 k, .string n, .string t, .string x]
              have hq := hI.o3 hL
              have hq2 := setRow_heap w1 (r + 1) _ #[.int .i64 k, .string n, .string t, .string x] 36 (0, 0) hq
              obtain ⟨dz, hdf, hdz⟩ := hI.D
              refine ⟨rfl, wpStoreT rfl (at_old (by kernel_rfl)) ((at_new (by kernel_rfl) 1 (Nat.le_of_ble_eq_true rfl) rfl (by decide) (hdep 1 (dep_of (by kernel_rfl)))).trans (hI.f1 (hdep 1 (dep_of (by kernel_rfl))))) hq (dopSz _ _ _ _) rfl (by simp [Value.oneCell']) ?_⟩
              exact ⟨_, rfl, ⟨below_grw hI.G gz (Nat.le_trans HJ.out.hr (Nat.le_trans (Nat.le_succ _) (Nat.le_of_lt (Array.getElem?_eq_some_iff.1 hq).1))) (fun q hq => by rw [← Option.some.inj hq]; exact Nat.le_trans HJ.out.hr (Nat.le_succ _)), (gz.block _ (Array.getElem?_eq_some_iff.1 hI.b5).1 (fun c => blk_two hI.b5 hq (by decide) (Option.some.inj c))).trans hI.b5, (gz.block _ (Array.getElem?_eq_some_iff.1 hI.b6).1 (fun c => HJ.out.h6.1 (Option.some.inj c))).trans hI.b6, hdz.over (op := (k, n, t, x)) hdf HJ.out.opw hq gz hq2, hI.f0, hI.f1, (fun h => (gz.block _ (Array.getElem?_eq_some_iff.1 (hI.o2 h)).1 (fun c => by have := Option.some.inj c; omega)).trans (hI.o2 h)), (fun h => (gz.block _ (Array.getElem?_eq_some_iff.1 (hI.f2 h)).1 (fun c => by have := Option.some.inj c; omega)).trans (hI.f2 h)), (fun h => by cases h), fun _ => hq2⟩⟩
          intro v wf hI
          obtain ⟨dz, hdf, hdz⟩ := hI.D
          have HF := Lib.hid (And.intro (hI.f2 rfl) (And.intro (hI.f3 rfl) (And.intro hdf (And.intro hdz (HJ.out.bel.trans hI.G)))))
          clear hI hdf hdz
          simp only [Go.My.putL, Nat.zero_add, Act.put, List.setIfInBounds_toArray, List.set_cons_zero, List.set_cons_succ]
          generalize v 0 = y20 at *
          generalize v 1 = y21 at *
          go_wp2
          refine bodyPost_ret (v := .tuple #[.agg #[.slice q1 n1 c1, .slice q2 n2 c2, .slice q3 n3 c3], .agg #[.int .i64 k, .string n, .string t, .string x]]) (results_row2' Try.results22 _ _ r (r + 1) _ _ (0, 0) _ _ rfl rfl HF.out.1 HF.out.2.1 Try.underlying27 rfl Try.underlying36 rfl (by kernel_rfl) (by kernel_rfl)) rfl ?_
          exact ⟨_, _, _, _, _, _, _, _, rfl, HF.out.2.2.1, HF.out.2.2.2.1, HJ.out.opw, HF.out.2.2.2.2⟩
      · have hd : decide ((m : Int) < 200) = false := by simp; omega
        go_upto_region 13 with (fail)
        go_quiet (fail)
        have HJ := Lib.hid (HJ.out.below (below_drewN (Below.refl _ _) nq))
        generalize wr.drewN nq = WX at HJ ⊢
        have HONE := Lib.hid (show (#[.slice q1 n1 c1, .slice q2 n2 c2, .slice q3 n3 c3] : Array Value).all (·.oneCell') = true by simp [Value.oneCell'])
        go_upto_region 18 with (fail)
        refine region_invL 4 [some 53, some 54, none, none] (FiD WX B r k5 k6 (.slice q1 n1 c1) (.slice q2 n2 c2) (.slice q3 n3 c3) k n t x) (by kernel_rfl) rfl (by kernel_rfl) (by kernel_rfl) (by kernel_rfl) ?_ ?_ ?_
        · exact ⟨(Below.refl _ _).drew, HJ.out.box5, HJ.out.box6, ⟨_, HJ.out.fit, HJ.out.disk.below (Below.refl _ _).drew⟩, (fun h => by cases h), (fun h => by cases h), (fun _ => HJ.out.r0), (fun h => by cases h), (fun _ => HJ.out.r1), (fun h => by cases h)⟩
        · intro i o v L w1 hoi hL hI hdep
          have hi : i < 4 := (Array.getElem?_eq_some_iff.1 hoi).1
          have hc : i = 0 ∨ i = 1 ∨ i = 2 ∨ i = 3 := by omega
          rcases hc with rfl | rfl | rfl | rfl
          · obtain rfl := Option.some.inj hoi
            refine ⟨rfl, wpLoadT rfl (at_old (by kernel_rfl)) (ldDkI hI.b5) ⟨_, rfl, ?_⟩⟩
            exact ⟨hI.G, hI.b5, hI.b6, hI.D, fun _ => rfl, hI.f1, hI.o2, hI.f2, hI.o3, hI.f3⟩
          · obtain rfl := Option.some.inj hoi
            refine ⟨rfl, wpLoadT rfl (at_old (by kernel_rfl)) (ldDpI hI.b6) ⟨_, rfl, ?_⟩⟩
            exact ⟨hI.G, hI.b5, hI.b6, hI.D, hI.f0, fun _ => rfl, hI.o2, hI.f2, hI.o3, hI.f3⟩
          · obtain rfl := Option.some.inj hoi
            have gz := grw_setRow (grw_refl w1 (some r)) #[.slice q1 n1 c1, .slice q2 n2 c2, .slice q3 n3 c3]
            have hq := hI.o2 hL
            obtain ⟨dz, hdf, hdz⟩ := hI.D
            refine ⟨rfl, wpStoreT rfl (at_old (by kernel_rfl)) ((at_new (by kernel_rfl) 0 (Nat.le_of_ble_eq_true rfl) rfl (by decide) (hdep 0 (dep_of (by kernel_rfl)))).trans (hI.f0 (hdep 0 (dep_of (by kernel_rfl))))) hq (diskSz _ _ _) rfl HONE.out ?_⟩
            exact ⟨_, rfl, ⟨below_grw hI.G gz (Nat.le_trans HJ.out.hr (Nat.le_of_lt (Array.getElem?_eq_some_iff.1 hq).1)) (fun q hq => by rw [← Option.some.inj hq]; exact HJ.out.hr), (gz.block _ (Array.getElem?_eq_some_iff.1 hI.b5).1 (fun c => HJ.out.h5.1 (Option.some.inj c))).trans hI.b5, (gz.block _ (Array.getElem?_eq_some_iff.1 hI.b6).1 (fun c => blk_two hq hI.b6 (by decide) (Option.some.inj c).symm)).trans hI.b6, ⟨dz, hdf, hdz.row hq ⟨_, _, _, rfl⟩ ⟨_, _, _, rfl⟩ ⟨_, _, _, rfl⟩ gz⟩, hI.f0, hI.f1, (fun h => by cases h), fun _ => setRow_heap w1 r _ _ _ (0, 0) hq, (fun h => (gz.block _ (Array.getElem?_eq_some_iff.1 (hI.o3 h)).1 (fun c => by have := Option.some.inj c; omega)).trans (hI.o3 h)), (fun h => (gz.block _ (Array.getElem?_eq_some_iff.1 (hI.f3 h)).1 (fun c => by have := Option.some.inj c; omega)).trans (hI.f3 h))⟩⟩
          · obtain rfl := Option.some.inj hoi
            have gz := grw_setRow (grw_refl w1 (some (r + 1))) #[.int .i64 k, .string n, .string t, .string x]
            have hq := hI.o3 hL
            have hq2 := setRow_heap w1 (r + 1) _ #[.int .i64 k, .string n, .string t, .string x] 36 (0, 0) hq
            obtain ⟨dz, hdf, hdz⟩ := hI.D
            refine ⟨rfl, wpStoreT rfl (at_old (by kernel_rfl)) ((at_new (by kernel_rfl) 1 (Nat.le_of_ble_eq_true rfl) rfl (by decide) (hdep 1 (dep_of (by kernel_rfl)))).trans (hI.f1 (hdep 1 (dep_of (by kernel_rfl))))) hq (dopSz _ _ _ _) rfl (by simp [Value.oneCell']) ?_⟩
            exact ⟨_, rfl, ⟨below_grw hI.G gz (Nat.le_trans HJ.out.hr (Nat.le_trans (Nat.le_succ _) (Nat.le_of_lt (Array.getElem?_eq_some_iff.1 hq).1))) (fun q hq => by rw [← Option.some.inj hq]; exact Nat.le_trans HJ.out.hr (Nat.le_succ _)), (gz.block _ (Array.getElem?_eq_some_iff.1 hI.b5).1 (fun c => blk_two hI.b5 hq (by decide) (Option.some.inj c))).trans hI.b5, (gz.block _ (Array.getElem?_eq_some_iff.1 hI.b6).1 (fun c => HJ.out.h6.1 (Option.some.inj c))).trans hI.b6, hdz.over (op := (k, n, t, x)) hdf HJ.out.opw hq gz hq2, hI.f0, hI.f1, (fun h => (gz.block _ (Array.getElem?_eq_some_iff.1 (hI.o2 h)).1 (fun c => by have := Option.some.inj c; omega)).trans (hI.o2 h)), (fun h => (gz.block _ (Array.getElem?_eq_some_iff.1 (hI.f2 h)).1 (fun c => by have := Option.some.inj c; omega)).trans (hI.f2 h)), (fun h => by cases h), fun _ => hq2⟩⟩
        intro v wf hI
        obtain ⟨dz, hdf, hdz⟩ := hI.D
        have HF := Lib.hid (And.intro (hI.f2 rfl) (And.intro (hI.f3 rfl) (And.intro hdf (And.intro hdz (HJ.out.bel.trans hI.G)))))
        clear hI hdf hdz
        simp only [Go.My.putL, Nat.zero_add, Act.put, List.setIfInBounds_toArray, List.set_cons_zero, List.set_cons_succ]
        generalize v 0 = y20 at *
        generalize v 1 = y21 at *
        go_wp2
        refine bodyPost_ret (v := .tuple #[.agg #[.slice q1 n1 c1, .slice q2 n2 c2, .slice q3 n3 c3], .agg #[.int .i64 k, .string n, .string t, .string x]]) (results_row2' Try.results22 _ _ r (r + 1) _ _ (0, 0) _ _ rfl rfl HF.out.1 HF.out.2.1 Try.underlying27 rfl Try.underlying36 rfl (by kernel_rfl) (by kernel_rfl)) rfl ?_
        exact ⟨_, _, _, _, _, _, _, _, rfl, HF.out.2.2.1, HF.out.2.2.2.1, HJ.out.opw, HF.out.2.2.2.2⟩
  have z3' : (z == 3) = false := by simpa using z3
  have HONE := Lib.hid (show (#[.slice q1 n1 c1, .slice q2 n2 c2, .slice q3 n3 c3] : Array Value).all (·.oneCell') = true by simp [Value.oneCell'])
  go_upto_region 18 with (fail)
  refine region_invL 4 [some 53, some 54, none, none] (FiD WX B r k5 k6 (.slice q1 n1 c1) (.slice q2 n2 c2) (.slice q3 n3 c3) k n t x) (by kernel_rfl) rfl (by kernel_rfl) (by kernel_rfl) (by kernel_rfl) ?_ ?_ ?_
  · exact ⟨(Below.refl _ _).drew, HJ.out.box5, HJ.out.box6, ⟨_, HJ.out.fit, HJ.out.disk.below (Below.refl _ _).drew⟩, (fun h => by cases h), (fun h => by cases h), (fun _ => HJ.out.r0), (fun h => by cases h), (fun _ => HJ.out.r1), (fun h => by cases h)⟩
  · intro i o v L w1 hoi hL hI hdep
    have hi : i < 4 := (Array.getElem?_eq_some_iff.1 hoi).1
    have hc : i = 0 ∨ i = 1 ∨ i = 2 ∨ i = 3 := by omega
    rcases hc with rfl | rfl | rfl | rfl
    · obtain rfl := Option.some.inj hoi
      refine ⟨rfl, wpLoadT rfl (at_old (by kernel_rfl)) (ldDkI hI.b5) ⟨_, rfl, ?_⟩⟩
      exact ⟨hI.G, hI.b5, hI.b6, hI.D, fun _ => rfl, hI.f1, hI.o2, hI.f2, hI.o3, hI.f3⟩
    · obtain rfl := Option.some.inj hoi
      refine ⟨rfl, wpLoadT rfl (at_old (by kernel_rfl)) (ldDpI hI.b6) ⟨_, rfl, ?_⟩⟩
      exact ⟨hI.G, hI.b5, hI.b6, hI.D, hI.f0, fun _ => rfl, hI.o2, hI.f2, hI.o3, hI.f3⟩
    · obtain rfl := Option.some.inj hoi
      have gz := grw_setRow (grw_refl w1 (some r)) #[.slice q1 n1 c1, .slice q2 n2 c2, .slice q3 n3 c3]
      have hq := hI.o2 hL
      obtain ⟨dz, hdf, hdz⟩ := hI.D
      refine ⟨rfl, wpStoreT rfl (at_old (by kernel_rfl)) ((at_new (by kernel_rfl) 0 (Nat.le_of_ble_eq_true rfl) rfl (by decide) (hdep 0 (dep_of (by kernel_rfl)))).trans (hI.f0 (hdep 0 (dep_of (by kernel_rfl))))) hq (diskSz _ _ _) rfl HONE.out ?_⟩
      exact ⟨_, rfl, ⟨below_grw hI.G gz (Nat.le_trans HJ.out.hr (Nat.le_of_lt (Array.getElem?_eq_some_iff.1 hq).1)) (fun q hq => by rw [← Option.some.inj hq]; exact HJ.out.hr), (gz.block _ (Array.getElem?_eq_some_iff.1 hI.b5).1 (fun c => HJ.out.h5.1 (Option.some.inj c))).trans hI.b5, (gz.block _ (Array.getElem?_eq_some_iff.1 hI.b6).1 (fun c => blk_two hq hI.b6 (by decide) (Option.some.inj c).symm)).trans hI.b6, ⟨dz, hdf, hdz.row hq ⟨_, _, _, rfl⟩ ⟨_, _, _, rfl⟩ ⟨_, _, _, rfl⟩ gz⟩, hI.f0, hI.f1, (fun h => by cases h), fun _ => setRow_heap w1 r _ _ _ (0, 0) hq, (fun h => (gz.block _ (Array.getElem?_eq_some_iff.1 (hI.o3 h)).1 (fun c => by have := Option.some.inj c; omega)).trans (hI.o3 h)), (fun h => (gz.block _ (Array.getElem?_eq_some_iff.1 (hI.f3 h)).1 (fun c => by have := Option.some.inj c; omega)).trans (hI.f3 h))⟩⟩
    · obtain rfl := Option.some.inj hoi
      have gz := grw_setRow (grw_refl w1 (some (r + 1))) #[.int .i64 k, .string n, .string t, .string x]
      have hq := hI.o3 hL
      have hq2 := setRow_heap w1 (r + 1) _ #[.int .i64 k, .string n, .string t, .string x] 36 (0, 0) hq
      obtain ⟨dz, hdf, hdz⟩ := hI.D
      refine ⟨rfl, wpStoreT rfl (at_old (by kernel_rfl)) ((at_new (by kernel_rfl) 1 (Nat.le_of_ble_eq_true rfl) rfl (by decide) (hdep 1 (dep_of (by kernel_rfl)))).trans (hI.f1 (hdep 1 (dep_of (by kernel_rfl))))) hq (dopSz _ _ _ _) rfl (by simp [Value.oneCell']) ?_⟩
      exact ⟨_, rfl, ⟨below_grw hI.G gz (Nat.le_trans HJ.out.hr (Nat.le_trans (Nat.le_succ _) (Nat.le_of_lt (Array.getElem?_eq_some_iff.1 hq).1))) (fun q hq => by rw [← Option.some.inj hq]; exact Nat.le_trans HJ.out.hr (Nat.le_succ _)), (gz.block _ (Array.getElem?_eq_some_iff.1 hI.b5).1 (fun c => blk_two hI.b5 hq (by decide) (Option.some.inj c))).trans hI.b5, (gz.block _ (Array.getElem?_eq_some_iff.1 hI.b6).1 (fun c => HJ.out.h6.1 (Option.some.inj c))).trans hI.b6, hdz.over (op := (k, n, t, x)) hdf HJ.out.opw hq gz hq2, hI.f0, hI.f1, (fun h => (gz.block _ (Array.getElem?_eq_some_iff.1 (hI.o2 h)).1 (fun c => by have := Option.some.inj c; omega)).trans (hI.o2 h)), (fun h => (gz.block _ (Array.getElem?_eq_some_iff.1 (hI.f2 h)).1 (fun c => by have := Option.some.inj c; omega)).trans (hI.f2 h)), (fun h => by cases h), fun _ => hq2⟩⟩
  intro v wf hI
  obtain ⟨dz, hdf, hdz⟩ := hI.D
  have HF := Lib.hid (And.intro (hI.f2 rfl) (And.intro (hI.f3 rfl) (And.intro hdf (And.intro hdz (HJ.out.bel.trans hI.G)))))
  clear hI hdf hdz
  simp only [Go.My.putL, Nat.zero_add, Act.put, List.setIfInBounds_toArray, List.set_cons_zero, List.set_cons_succ]
  generalize v 0 = y20 at *
  generalize v 1 = y21 at *
  go_wp2
  refine bodyPost_ret (v := .tuple #[.agg #[.slice q1 n1 c1, .slice q2 n2 c2, .slice q3 n3 c3], .agg #[.int .i64 k, .string n, .string t, .string x]]) (results_row2' Try.results22 _ _ r (r + 1) _ _ (0, 0) _ _ rfl rfl HF.out.1 HF.out.2.1 Try.underlying27 rfl Try.underlying36 rfl (by kernel_rfl) (by kernel_rfl)) rfl ?_
  exact ⟨_, _, _, _, _, _, _, _, rfl, HF.out.2.2.1, HF.out.2.2.2.1, HJ.out.opw, HF.out.2.2.2.2⟩

end Go.Proofs.Ytepefbfmjjnamaa

/- Draws: a disk, a name and data (DrawReplace). -/
namespace Go.Proofs.Ytepefbfmjjnamaa
open Go.RowKit Go.My Go.Lib
set_option linter.unusedVariables false

theorem results_row_uu {P : Program} {fn : Func} {p u v : Tmp} {ty : TypeId} (h : fn.results = #[.cell p ty, .tmp u, .tmp v]) (tmps : Array Value) (w : World) (g : Nat) (cs : Array Value) (fr : Nat × Nat) (d : TypeDesc)
    (hp : tmps.getD p undef = .pointer (some ⟨g, 0, none⟩)) (hg : w.heap[g]? = some (.cells cs ty fr))
    (hu : P.underlying ty = some d) (hd : d.isRow = true) (hi : (P.info? ty).map (·.size) = some cs.size) (x y : Value) (hx : tmps.getD u undef = x) (hy : tmps.getD v undef = y) :
    (results fn tmps).run P w = .ok (.tuple #[.agg cs, x, y]) w := by
  have h1 := run_loadVar_row (P := P) w g ty ty cs fr d hg hu (by cases d <;> first | rfl | exact hd) hi
  unfold results
  rw [h]
  have hp' : tmps[p]?.getD undef = .pointer (some ⟨g, 0, none⟩) := by simpa using hp
  have hx' : tmps[u]?.getD undef = x := by simpa using hx
  have hy' : tmps[v]?.getD undef = y := by simpa using hy
  simp [hp', hx', hy', asAddr, h1]
theorem cfSmall (args : Array Value) (w : World) : (callFunc 70 args).run Try.prog w = .ok (.enter 70 args) w := cf_of Try.func70 (by kernel_rfl) (by kernel_rfl) args w
/-- What stands between two steps of the draw. -/
structure RpJ (B g r k5 : Nat) (d : DiskT) (y1 y2 y3 : Value) (w0 w : World) : Prop where
  fit : d.fit
  box5 : w.heap[k5]? = some (.cells #[y1, y2, y3] 27 (0, 0))
  disk : DiskIn y1 y2 y3 d w
  rd : Rd B w g
  bel : Below B w0 w
  r0 : w.heap[r]? = some (.cells #[.slice none 0 0, .slice none 0 0, .slice none 0 0] 27 (0, 0))
  h5 : k5 ≠ r ∧ B ≤ k5
  hr : B ≤ r
section
variable {B g r k5 : Nat} {d : DiskT} {y1 y2 y3 : Value} {w0 w wz : World}
theorem RpJ.below (h : RpJ B g r k5 d y1 y2 y3 w0 w) (hb : Below w.heap.size w wz) : RpJ B g r k5 d y1 y2 y3 w0 wz :=
  ⟨h.fit, (hb.block _ (Array.getElem?_eq_some_iff.1 h.box5).1).trans h.box5, h.disk.below hb, h.rd.kept (grw_of_below hb none) (by simp) (by simp), h.bel.trans (hb.mono h.rd.2.1), (hb.block _ (Array.getElem?_eq_some_iff.1 h.r0).1).trans h.r0, h.h5, h.hr⟩
theorem RpJ.read (h : RpJ B g r k5 d y1 y2 y3 w0 w) (hR : Rd B wz g) (hg : w.grownBy wz (some g)) : RpJ B g r k5 d y1 y2 y3 w0 wz :=
  ⟨h.fit, (hg.block _ (Array.getElem?_eq_some_iff.1 h.box5).1 (fun c => rd_neT h.rd h.box5 (by decide) (Option.some.inj c))).trans h.box5, h.disk.read h.rd hg, hR, below_grw h.bel hg h.rd.2.1 (fun q hq => by rw [← Option.some.inj hq]; exact h.rd.1), (hg.block _ (Array.getElem?_eq_some_iff.1 h.r0).1 (fun c => rd_neT h.rd h.r0 (by decide) (Option.some.inj c))).trans h.r0, h.h5, h.hr⟩
end
/-- The last region. -/
structure FiR (W1 : World) (B g r k5 : Nat) (d : DiskT) (y1 y2 y3 : Value) (n : ByteArray) (v : Nat → Value) (L : Nat → Bool) (w : World) : Prop where
  G : Below B W1 w
  R : Rd B w g
  b5 : w.heap[k5]? = some (.cells #[y1, y2, y3] 27 (0, 0))
  D : DiskIn y1 y2 y3 d w
  f0 : L 0 = true → v 0 = .agg #[y1, y2, y3]
  f1 : L 1 = true → v 1 = .string n
  f2 : L 2 = true → v 2 = .pointer (some ⟨g, 0, none⟩)
  f3 : L 3 = true → ∃ s : ByteArray, v 3 = .string s ∧ s.size ≤ 3
  o4 : L 4 = false → w.heap[r]? = some (.cells #[.slice none 0 0, .slice none 0 0, .slice none 0 0] 27 (0, 0))
  f4 : L 4 = true → w.heap[r]? = some (.cells #[y1, y2, y3] 27 (0, 0))
  f5 : L 5 = true → v 5 = .string n
  f6 : L 6 = true → ∃ s : ByteArray, v 6 = .string s ∧ s.size ≤ 3
theorem FiR.read {W1 : World} {B g r k5 : Nat} {d : DiskT} {y1 y2 y3 : Value} {n : ByteArray} {v : Nat → Value} {L : Nat → Bool} {w w' : World} (h : FiR W1 B g r k5 d y1 y2 y3 n v L w) (hR : Rd B w' g) (hg : w.grownBy w' (some g)) : FiR W1 B g r k5 d y1 y2 y3 n v L w' :=
  ⟨below_grw h.G hg h.R.2.1 (fun q hq => by rw [← Option.some.inj hq]; exact h.R.1), hR, (hg.block _ (Array.getElem?_eq_some_iff.1 h.b5).1 (fun c => rd_neT h.R h.b5 (by decide) (Option.some.inj c))).trans h.b5, h.D.read h.R hg, h.f0, h.f1, h.f2, h.f3, (fun q => (hg.block _ (Array.getElem?_eq_some_iff.1 (h.o4 q)).1 (fun c => rd_neT h.R (h.o4 q) (by decide) (Option.some.inj c))).trans (h.o4 q)), (fun q => (hg.block _ (Array.getElem?_eq_some_iff.1 (h.f4 q)).1 (fun c => rd_neT h.R (h.f4 q) (by decide) (Option.some.inj c))).trans (h.f4 q)), h.f5, h.f6⟩
def DrawnRep (B : Nat) (w : World) (e : Ending) (w' : World) : Prop := ∃ u1 u2 u3 d n x, e = .returned (.tuple #[.agg #[u1, u2, u3], .string n, .string x]) ∧ DiskT.fit d ∧ DiskIn u1 u2 u3 d w' ∧ n.size ≤ 98 ∧ x.size ≤ 3 ∧ Below B w w'

set_option maxRecDepth 20000 in
set_option maxHeartbeats 8000000 in
theorem draw_rep (B : Nat) (a : Option Addr) (len cap : Nat) (w : World) (hB : B ≤ w.heap.size) (h : RdCode B w a len) : Calls Try.prog 26 #[.slice a len cap] w (DrawnRep B w) := by
  have hb0 : Below B w (w.alloc (.cells #[.slice none 0 0, .slice none 0 0, .slice none 0 0] 27)) := (Below.refl _ _).alloc hB _
  have x1 := heap_alloc_new w (.cells #[.slice none 0 0, .slice none 0 0, .slice none 0 0] 27)
  have hsz : (w.alloc (.cells #[.slice none 0 0, .slice none 0 0, .slice none 0 0] 27)).heap.size = w.heap.size + 1 := by simp
  go_enter Try.func26, Try.ntmps26
  go_wp2_with fail
  refine (open_any B a len cap _ (by rw [hsz]; omega) (h.below hb0)).mono ?_
  rintro e w1 ⟨rfl, hR1, hg1⟩
  have h1 : Below B w w1 := hb0.grown hg1 (by rw [hsz]; omega) (fun q hq => by cases hq)
  have y0 := (hg1.block w.heap.size (by rw [hsz]; omega) (by simp)).trans x1
  rw [hsz] at hR1 ⊢
  clear hb0 x1 hsz hg1 h
  obtain ⟨r, hr⟩ : ∃ r, w.heap.size = r := ⟨_, rfl⟩
  rw [hr] at y0 hR1 ⊢
  have hBr : B ≤ r := by omega
  go_wp2_with fail
  refine (disk_any B _ _ hR1).mono ?_
  rintro e w2 ⟨u1, u2, u3, d, rfl, hf, hd, hR2, hg2⟩
  have h2 : Below B w w2 := h1.trans (grown_below hg2 hR1.1 hR1.2.1)
  have y0 := (hg2.block r (Array.getElem?_eq_some_iff.1 y0).1 (fun c => by have := Option.some.inj c; omega)).trans y0
  have hs2 := (Array.getElem?_eq_some_iff.1 y0).1
  obtain ⟨⟨q1, n1, c1, rfl⟩, ⟨q2, n2, c2, rfl⟩, ⟨q3, n3, c3, rfl⟩⟩ := hd.sl
  have hal : Below w2.heap.size w2 (w2.alloc (.cells #[.slice q1 n1 c1, .slice q2 n2 c2, .slice q3 n3 c3] 27)) := (Below.refl _ _).alloc (Nat.le_refl _) _
  have HJ : Hid (RpJ B (r + 1) r w2.heap.size d (.slice q1 n1 c1) (.slice q2 n2 c2) (.slice q3 n3 c3) w (w2.alloc (.cells #[.slice q1 n1 c1, .slice q2 n2 c2, .slice q3 n3 c3] 27))) :=
    ⟨hf, heap_alloc_new w2 _, hd.below hal, hR2.kept (grw_of_below hal none) (by simp) (by simp), h2.trans (hal.mono hR2.2.1), (hal.block _ (Array.getElem?_eq_some_iff.1 y0).1).trans y0, ⟨by omega, by omega⟩, hBr⟩
  clear hd hf hal y0 h1 h2 hg2 hR1 hR2
  go_upto_region 3 with (fail)
  generalize w2.alloc (.cells #[.slice q1 n1 c1, .slice q2 n2 c2, .slice q3 n3 c3] 27) = w3 at HJ ⊢
  generalize w2.heap.size = k5 at HJ hs2 ⊢
  clear hs2
  have hal : Below w3.heap.size w3 (w3.alloc (.cells #[.string ⟨#[98, 97, 115, 101]⟩, .string ⟨#[108, 111, 103]⟩, .string ⟨#[98, 97, 115, 101]⟩, .string (ByteArray.mk #[])] 9)) := (Below.refl _ _).alloc (Nat.le_refl _) _
  have hblk := heap_alloc_new w3 (.cells #[.string ⟨#[98, 97, 115, 101]⟩, .string ⟨#[108, 111, 103]⟩, .string ⟨#[98, 97, 115, 101]⟩, .string (ByteArray.mk #[])] 9)
  have HJ := Lib.hid (HJ.out.below hal)
  go_wp2_with fail
  refine (below_any B _ _ _ HJ.out.rd (by omega) (by omega)).mono ?_
  rintro e w4 ⟨x, rfl, hx0, hx1, hR, hg⟩
  have hblk := (hg.block w3.heap.size (by simp) (fun c => rd_neT HJ.out.rd hblk (by decide) (Option.some.inj c))).trans hblk
  have HJ := Lib.hid (HJ.out.read hR hg)
  have hcc := fun j => cell_of_row w4 w3.heap.size j _ _ _ hblk
  clear hR hg hal hblk
  obtain ⟨N, hN, hNs⟩ : ∃ N : ByteArray, w4.cell? ⟨w3.heap.size, x.toNat, none⟩ = some (.string N) ∧ N.size ≤ 98 := by
    rcases four hx0 hx1 with rfl | rfl | rfl | rfl
    · have c := hcc 0
      simp at c
      exact ⟨_, c, by decide⟩
    · have c := hcc 1
      simp at c
      exact ⟨_, c, by decide⟩
    · have c := hcc 2
      simp at c
      exact ⟨_, c, by decide⟩
    · have c := hcc 3
      simp at c
      exact ⟨_, c, by decide⟩
  have hx4 : x < 4 := hx1
  clear hcc hx1
  go_wp2_with fail
  refine (once_any B _ _ _ HJ.out.rd (by omega) (by omega)).mono ?_
  rintro e w5 ⟨b, rfl, hR, hg⟩
  have HJ := Lib.hid (HJ.out.read hR hg)
  clear hR hg hN hx0 hx4
  cases b with
  | true =>
    go_wp2_with fail
    refine (below_any B _ _ _ HJ.out.rd (by omega) (by omega)).mono ?_
    rintro e wx ⟨z, rfl, hz0, hz1, hR, hg⟩
    have HJ := Lib.hid (HJ.out.read hR hg)
    clear hR hg
    obtain ⟨k, hk⟩ : ∃ k : Nat, (95 : Int) + z = (k : Int) := ⟨(95 + z).toNat, by omega⟩
    have hk2 : k ≤ 98 := by omega
    have hk0 : (0 : Int) ≤ (k : Int) := by omega
    have hk1 : (k : Int) ≤ 98 := by omega
    obtain ⟨i0, hi, hz0', hz1', hz2'⟩ := info_parts info_u8r
    go_wp2_with (at_make; refine wpList_make_full _ rfl _ _ 22 rfl wx.heap.size 5 i0 (.int .u8 0) 1 Try.underlying22 hi hz0' hz1' .i64 .i64 _ _ k rfl rfl rfl rfl ?c2 ?c3 ?c4 ?_)
    case c2 => rw [hz2']; omega
    case c3 => unfold maxLen; omega
    case c4 => exact Nat.le_refl _
    intro wm hown hgrow
    have hb1 : Below wx.heap.size wx wm := (Below.refl _ _).grown hgrow (Nat.le_refl _) (by simp)
    have HJ := Lib.hid (HJ.out.below hb1)
    have ho : wm.ownsRow wx.heap.size 5 1 (.slice (some ⟨wx.heap.size, 0, none⟩) k k) k (cellsOf (List.replicate k 0)) := by
      have e : (madeCells #[Value.int .u8 0] k).toList = cellsOf (List.replicate k 0) := by rw [toList_madeCells_one]; simp [cellsOf]
      rw [e] at hown
      exact hown
    have hcv := run_convert_own (P := Try.prog) wm 22 9 5 _ _ _ _ Try.underlying22 Try.underlying5 Try.underlying9 ho
    have HS : Hid ((str (List.replicate k 0)).size = k) := by show _ = _; simp [str, ByteArray.size]
    generalize str (List.replicate k 0) = S at hcv HS
    have hNs : S.size ≤ 98 := by rw [HS.out]; exact hk2
    go_upto_region 6 with (fail)
    clear hcv hown hgrow hb1 ho
    generalize wm = WX at HJ ⊢
    have HONE := Lib.hid (show (#[.slice q1 n1 c1, .slice q2 n2 c2, .slice q3 n3 c3] : Array Value).all (·.oneCell') = true by simp [Value.oneCell'])
    skip
    refine region_invL 7 [some 24, some 25, some 26, some 27, none, some 3, some 4] (FiR WX B (r + 1) r k5 d (.slice q1 n1 c1) (.slice q2 n2 c2) (.slice q3 n3 c3) S) (by kernel_rfl) rfl (by kernel_rfl) (by kernel_rfl) (by kernel_rfl) ?_ ?_ ?_
    · exact ⟨(Below.refl _ _).drew, HJ.out.rd, HJ.out.box5, HJ.out.disk.below (Below.refl _ _).drew, (fun h => by cases h), (fun h => by cases h), (fun h => by cases h), (fun h => by cases h), (fun _ => HJ.out.r0), (fun h => by cases h), (fun h => by cases h), (fun h => by cases h)⟩
    · intro i o v L w1 hoi hL hI hdep
      have hi : i < 7 := (Array.getElem?_eq_some_iff.1 hoi).1
      have hc : i = 0 ∨ i = 1 ∨ i = 2 ∨ i = 3 ∨ i = 4 ∨ i = 5 ∨ i = 6 := by omega
      rcases hc with rfl | rfl | rfl | rfl | rfl | rfl | rfl
      · obtain rfl := Option.some.inj hoi
        refine ⟨rfl, wpLoadT rfl (at_old (by kernel_rfl)) (ldDkI hI.b5) ⟨_, rfl, ?_⟩⟩
        exact ⟨hI.G, hI.R, hI.b5, hI.D, fun _ => rfl, hI.f1, hI.f2, hI.f3, hI.o4, hI.f4, hI.f5, hI.f6⟩
      · obtain rfl := Option.some.inj hoi
        refine ⟨rfl, wpMoveT rfl (at_old (by kernel_rfl)) ⟨_, rfl, ?_⟩⟩
        exact ⟨hI.G, hI.R, hI.b5, hI.D, hI.f0, fun _ => rfl, hI.f2, hI.f3, hI.o4, hI.f4, hI.f5, hI.f6⟩
      · obtain rfl := Option.some.inj hoi
        refine ⟨rfl, wpMoveT rfl (at_old (by kernel_rfl)) ⟨_, rfl, ?_⟩⟩
        exact ⟨hI.G, hI.R, hI.b5, hI.D, hI.f0, hI.f1, fun _ => rfl, hI.f3, hI.o4, hI.f4, hI.f5, hI.f6⟩
      · obtain rfl := Option.some.inj hoi
        refine ⟨rfl, wpCallT rfl cfSmall (argsT1 ((at_new (by kernel_rfl) 2 (Nat.le_of_ble_eq_true rfl) rfl (by decide) (hdep 2 (dep_of (by kernel_rfl)))).trans (hI.f2 (hdep 2 (dep_of (by kernel_rfl)))))) ((small_any B _ _ hI.R).mono ?_)⟩
        rintro e w2 ⟨s, rfl, hs, hR2, hg2⟩
        have hI := hI.read hR2 hg2
        exact ⟨_, rfl, _, rfl, ⟨hI.G, hI.R, hI.b5, hI.D, hI.f0, hI.f1, hI.f2, fun _ => ⟨s, rfl, hs⟩, hI.o4, hI.f4, hI.f5, hI.f6⟩⟩
      · obtain rfl := Option.some.inj hoi
        have gz := grw_setRow (grw_refl w1 (some r)) #[.slice q1 n1 c1, .slice q2 n2 c2, .slice q3 n3 c3]
        have hq := hI.o4 hL
        refine ⟨rfl, wpStoreT rfl (at_old (by kernel_rfl)) ((at_new (by kernel_rfl) 0 (Nat.le_of_ble_eq_true rfl) rfl (by decide) (hdep 0 (dep_of (by kernel_rfl)))).trans (hI.f0 (hdep 0 (dep_of (by kernel_rfl))))) hq (diskSz _ _ _) rfl HONE.out ?_⟩
        exact ⟨_, rfl, ⟨below_grw hI.G gz hI.R.2.1 (fun q hq => by rw [← Option.some.inj hq]; exact HJ.out.hr), hI.R.kept gz (fun c => rd_neT hI.R hq (by decide) (Option.some.inj c)) (fun k hk => by rw [← Option.some.inj hk]; exact HJ.out.hr), (gz.block _ (Array.getElem?_eq_some_iff.1 hI.b5).1 (fun c => HJ.out.h5.1 (Option.some.inj c))).trans hI.b5, hI.D.row hq ⟨_, _, _, rfl⟩ ⟨_, _, _, rfl⟩ ⟨_, _, _, rfl⟩ gz, hI.f0, hI.f1, hI.f2, hI.f3, (fun h => by cases h), fun _ => setRow_heap w1 r _ _ _ (0, 0) hq, hI.f5, hI.f6⟩⟩
      · obtain rfl := Option.some.inj hoi
        refine ⟨rfl, wpAssT rfl ((at_new (by kernel_rfl) 1 (Nat.le_of_ble_eq_true rfl) rfl (by decide) (hdep 1 (dep_of (by kernel_rfl)))).trans (hI.f1 (hdep 1 (dep_of (by kernel_rfl))))) ⟨_, rfl, ?_⟩⟩
        exact ⟨hI.G, hI.R, hI.b5, hI.D, hI.f0, hI.f1, hI.f2, hI.f3, hI.o4, hI.f4, fun _ => rfl, hI.f6⟩
      · obtain rfl := Option.some.inj hoi
        obtain ⟨s, es, hs⟩ := hI.f3 (hdep 3 (dep_of (by kernel_rfl)))
        refine ⟨rfl, wpAssT rfl ((at_new (by kernel_rfl) 3 (Nat.le_of_ble_eq_true rfl) rfl (by decide) (hdep 3 (dep_of (by kernel_rfl)))).trans es) ⟨_, rfl, ?_⟩⟩
        exact ⟨hI.G, hI.R, hI.b5, hI.D, hI.f0, hI.f1, hI.f2, hI.f3, hI.o4, hI.f4, hI.f5, fun _ => ⟨s, rfl, hs⟩⟩
    intro v wf hI
    have e5 := hI.f5 rfl
    obtain ⟨s, e6, hs⟩ := hI.f6 rfl
    have HF := Lib.hid (And.intro (hI.f4 rfl) (And.intro hI.D (HJ.out.bel.trans hI.G)))
    clear hI
    simp only [Go.My.putL, Nat.zero_add, Nat.reduceAdd, e5, e6, Act.put, List.setIfInBounds_toArray, List.set_cons_zero, List.set_cons_succ]
    generalize v 0 = y20 at *
    generalize v 1 = y21 at *
    generalize v 2 = y22 at *
    generalize v 3 = y23 at *
    clear e5 e6
    go_wp2
    refine bodyPost_ret (v := .tuple #[.agg #[.slice q1 n1 c1, .slice q2 n2 c2, .slice q3 n3 c3], .string S, .string s]) (results_row_uu Try.results26 _ _ r _ (0, 0) _ rfl HF.out.1 Try.underlying27 rfl (by kernel_rfl) _ _ rfl rfl) rfl ?_
    exact ⟨_, _, _, _, _, _, rfl, HJ.out.fit, HF.out.2.1, hNs, hs, HF.out.2.2⟩
  | false =>
    generalize w5 = WX at HJ ⊢
    have HONE := Lib.hid (show (#[.slice q1 n1 c1, .slice q2 n2 c2, .slice q3 n3 c3] : Array Value).all (·.oneCell') = true by simp [Value.oneCell'])
    go_upto_region 6 with (fail)
    refine region_invL 7 [some 24, some 25, some 26, some 27, none, some 3, some 4] (FiR WX B (r + 1) r k5 d (.slice q1 n1 c1) (.slice q2 n2 c2) (.slice q3 n3 c3) N) (by kernel_rfl) rfl (by kernel_rfl) (by kernel_rfl) (by kernel_rfl) ?_ ?_ ?_
    · exact ⟨(Below.refl _ _).drew, HJ.out.rd, HJ.out.box5, HJ.out.disk.below (Below.refl _ _).drew, (fun h => by cases h), (fun h => by cases h), (fun h => by cases h), (fun h => by cases h), (fun _ => HJ.out.r0), (fun h => by cases h), (fun h => by cases h), (fun h => by cases h)⟩
    · intro i o v L w1 hoi hL hI hdep
      have hi : i < 7 := (Array.getElem?_eq_some_iff.1 hoi).1
      have hc : i = 0 ∨ i = 1 ∨ i = 2 ∨ i = 3 ∨ i = 4 ∨ i = 5 ∨ i = 6 := by omega
      rcases hc with rfl | rfl | rfl | rfl | rfl | rfl | rfl
      · obtain rfl := Option.some.inj hoi
        refine ⟨rfl, wpLoadT rfl (at_old (by kernel_rfl)) (ldDkI hI.b5) ⟨_, rfl, ?_⟩⟩
        exact ⟨hI.G, hI.R, hI.b5, hI.D, fun _ => rfl, hI.f1, hI.f2, hI.f3, hI.o4, hI.f4, hI.f5, hI.f6⟩
      · obtain rfl := Option.some.inj hoi
        refine ⟨rfl, wpMoveT rfl (at_old (by kernel_rfl)) ⟨_, rfl, ?_⟩⟩
        exact ⟨hI.G, hI.R, hI.b5, hI.D, hI.f0, fun _ => rfl, hI.f2, hI.f3, hI.o4, hI.f4, hI.f5, hI.f6⟩
      · obtain rfl := Option.some.inj hoi
        refine ⟨rfl, wpMoveT rfl (at_old (by kernel_rfl)) ⟨_, rfl, ?_⟩⟩
        exact ⟨hI.G, hI.R, hI.b5, hI.D, hI.f0, hI.f1, fun _ => rfl, hI.f3, hI.o4, hI.f4, hI.f5, hI.f6⟩
      · obtain rfl := Option.some.inj hoi
        refine ⟨rfl, wpCallT rfl cfSmall (argsT1 ((at_new (by kernel_rfl) 2 (Nat.le_of_ble_eq_true rfl) rfl (by decide) (hdep 2 (dep_of (by kernel_rfl)))).trans (hI.f2 (hdep 2 (dep_of (by kernel_rfl)))))) ((small_any B _ _ hI.R).mono ?_)⟩
        rintro e w2 ⟨s, rfl, hs, hR2, hg2⟩
        have hI := hI.read hR2 hg2
        exact ⟨_, rfl, _, rfl, ⟨hI.G, hI.R, hI.b5, hI.D, hI.f0, hI.f1, hI.f2, fun _ => ⟨s, rfl, hs⟩, hI.o4, hI.f4, hI.f5, hI.f6⟩⟩
      · obtain rfl := Option.some.inj hoi
        have gz := grw_setRow (grw_refl w1 (some r)) #[.slice q1 n1 c1, .slice q2 n2 c2, .slice q3 n3 c3]
        have hq := hI.o4 hL
        refine ⟨rfl, wpStoreT rfl (at_old (by kernel_rfl)) ((at_new (by kernel_rfl) 0 (Nat.le_of_ble_eq_true rfl) rfl (by decide) (hdep 0 (dep_of (by kernel_rfl)))).trans (hI.f0 (hdep 0 (dep_of (by kernel_rfl))))) hq (diskSz _ _ _) rfl HONE.out ?_⟩
        exact ⟨_, rfl, ⟨below_grw hI.G gz hI.R.2.1 (fun q hq => by rw [← Option.some.inj hq]; exact HJ.out.hr), hI.R.kept gz (fun c => rd_neT hI.R hq (by decide) (Option.some.inj c)) (fun k hk => by rw [← Option.some.inj hk]; exact HJ.out.hr), (gz.block _ (Array.getElem?_eq_some_iff.1 hI.b5).1 (fun c => HJ.out.h5.1 (Option.some.inj c))).trans hI.b5, hI.D.row hq ⟨_, _, _, rfl⟩ ⟨_, _, _, rfl⟩ ⟨_, _, _, rfl⟩ gz, hI.f0, hI.f1, hI.f2, hI.f3, (fun h => by cases h), fun _ => setRow_heap w1 r _ _ _ (0, 0) hq, hI.f5, hI.f6⟩⟩
      · obtain rfl := Option.some.inj hoi
        refine ⟨rfl, wpAssT rfl ((at_new (by kernel_rfl) 1 (Nat.le_of_ble_eq_true rfl) rfl (by decide) (hdep 1 (dep_of (by kernel_rfl)))).trans (hI.f1 (hdep 1 (dep_of (by kernel_rfl))))) ⟨_, rfl, ?_⟩⟩
        exact ⟨hI.G, hI.R, hI.b5, hI.D, hI.f0, hI.f1, hI.f2, hI.f3, hI.o4, hI.f4, fun _ => rfl, hI.f6⟩
      · obtain rfl := Option.some.inj hoi
        obtain ⟨s, es, hs⟩ := hI.f3 (hdep 3 (dep_of (by kernel_rfl)))
        refine ⟨rfl, wpAssT rfl ((at_new (by kernel_rfl) 3 (Nat.le_of_ble_eq_true rfl) rfl (by decide) (hdep 3 (dep_of (by kernel_rfl)))).trans es) ⟨_, rfl, ?_⟩⟩
        exact ⟨hI.G, hI.R, hI.b5, hI.D, hI.f0, hI.f1, hI.f2, hI.f3, hI.o4, hI.f4, hI.f5, fun _ => ⟨s, rfl, hs⟩⟩
    intro v wf hI
    have e5 := hI.f5 rfl
    obtain ⟨s, e6, hs⟩ := hI.f6 rfl
    have HF := Lib.hid (And.intro (hI.f4 rfl) (And.intro hI.D (HJ.out.bel.trans hI.G)))
    clear hI
    simp only [Go.My.putL, Nat.zero_add, Nat.reduceAdd, e5, e6, Act.put, List.setIfInBounds_toArray, List.set_cons_zero, List.set_cons_succ]
    generalize v 0 = y20 at *
    generalize v 1 = y21 at *
    generalize v 2 = y22 at *
    generalize v 3 = y23 at *
    clear e5 e6
    go_wp2
    refine bodyPost_ret (v := .tuple #[.agg #[.slice q1 n1 c1, .slice q2 n2 c2, .slice q3 n3 c3], .string N, .string s]) (results_row_uu Try.results26 _ _ r _ (0, 0) _ rfl HF.out.1 Try.underlying27 rfl (by kernel_rfl) _ _ rfl rfl) rfl ?_
    exact ⟨_, _, _, _, _, _, rfl, HJ.out.fit, HF.out.2.1, hNs, hs, HF.out.2.2⟩

end Go.Proofs.Ytepefbfmjjnamaa

/- What is read behind an operation: pure. -/
namespace Go.Proofs.Ytepefbfmjjnamaa
open Go.RowKit Go.My Go.Lib
set_option linter.unusedVariables false

theorem idx_cons (a : FileT) (l : List FileT) (n : ByteArray) : (idxL (a :: l) n).isSome = (decide (a.1 = n) || (idxL l n).isSome) := by
  unfold idxL
  rw [List.findIdx?_cons]
  by_cases c : a.1 = n
  · rw [decide_eq_true c]; rfl
  · rw [decide_eq_false c]
    cases List.findIdx? (fun f : FileT => decide (f.1 = n)) l <;> rfl
theorem data_cons (a : FileT) (l : List FileT) (n : ByteArray) : dataOf (a :: l) n = if a.1 = n then a.2 else dataOf l n := by
  by_cases c : a.1 = n
  · rw [if_pos c]; unfold dataOf idxL; rw [List.findIdx?_cons, decide_eq_true c]; rfl
  · rw [if_neg c]
    unfold dataOf idxL
    rw [List.findIdx?_cons, decide_eq_false c]
    cases List.findIdx? (fun f : FileT => decide (f.1 = n)) l <;> rfl
theorem cut_idx (n m : ByteArray) : ∀ l : List FileT, (idxL (cutL l n) m).isSome = (decide (m ≠ n) && (idxL l m).isSome)
  | [] => by show false = _; rw [show (idxL [] m).isSome = false from rfl, Bool.and_false]
  | a :: l => by
    have ih := cut_idx n m l
    by_cases c : a.1 = n
    · have h1 : cutL (a :: l) n = cutL l n := by unfold cutL; rw [List.filter_cons_of_neg (by simpa using c)]
      rw [h1, ih, idx_cons]
      by_cases d : m = n
      · subst d; simp
      · rw [decide_eq_false (show ¬ a.1 = m from fun e => d (e.symm.trans c)), Bool.false_or]
    · have h1 : cutL (a :: l) n = a :: cutL l n := by unfold cutL; rw [List.filter_cons_of_pos (by simpa using c)]
      rw [h1, idx_cons, ih, idx_cons]
      by_cases d : m = n
      · subst d; simp [c]
      · simp [d]
theorem putGo_idx (n x m : ByteArray) : ∀ (l : List FileT), (idxL (putGo n x false l) m).isSome = (decide (m = n) || (idxL l m).isSome) ∧ dataOf (putGo n x false l) n = x
  | [] => by
    constructor
    · show (idxL [(n, x)] m).isSome = _
      rw [idx_cons]
      by_cases d : m = n
      · subst d; simp
      · simp [d, Ne.symm d]
    · show dataOf [(n, x)] n = x
      rw [data_cons, if_pos rfl]
  | f :: l => by
    have ih := putGo_idx n x m l
    cases hb : blt f.1 n with
    | true =>
      have hne : f.1 ≠ n := by intro e; rw [e, blt_irr] at hb; cases hb
      have e : putGo n x false (f :: l) = f :: putGo n x false l := by
        show (if !false && !blt f.1 n then [(n, x)] else []) ++ ((if f.1 = n then [] else [f]) ++ putGo n x (false || !blt f.1 n) l) = _
        rw [hb, if_neg hne]; rfl
      rw [e]
      refine ⟨?_, by rw [data_cons, if_neg hne]; exact ih.2⟩
      rw [idx_cons, ih.1, idx_cons]
      cases decide (f.1 = m) <;> cases decide (m = n) <;> rfl
    | false =>
      have e : putGo n x false (f :: l) = (n, x) :: ((if f.1 = n then [] else [f]) ++ cutL l n) := by
        show (if !false && !blt f.1 n then [(n, x)] else []) ++ ((if f.1 = n then [] else [f]) ++ putGo n x (false || !blt f.1 n) l) = _
        rw [hb, ← put_done n x l]; rfl
      rw [e]
      refine ⟨?_, by rw [data_cons, if_pos rfl]⟩
      by_cases d : m = n
      · subst d; rw [idx_cons]; simp
      · rw [idx_cons, show decide ((n, x).1 = m) = false from decide_eq_false (fun c => d c.symm), Bool.false_or, decide_eq_false d, Bool.false_or, idx_cons]
        by_cases c : f.1 = n
        · rw [if_pos c, List.nil_append, cut_idx, decide_eq_false (show ¬ f.1 = m from fun e => d (e.symm.trans c))]
          simp [d]
        · rw [if_neg c, List.singleton_append, idx_cons, cut_idx]
          simp [d]
theorem put_idx (l : List FileT) (n x m : ByteArray) : (idxL (putL l n x) m).isSome = (decide (m = n) || (idxL l m).isSome) := (putGo_idx n x m l).1
theorem put_data_of (l : List FileT) (n x : ByteArray) : dataOf (putL l n x) n = x := (putGo_idx n x n l).2
/-- What is seen behind an operation that is done. -/
theorem seen_append {d : DiskT} {op : DOpT} (h : doC d.live d.ops op = 0) (hk : op.1 = 1) : (idxL (aftL d.live op) op.2.1).isSome = true ∧ dataOf (aftL d.live op) op.2.1 = dataOf d.live op.2.1 ++ op.2.2.2 := by
  unfold aftL
  rw [if_pos hk]
  exact ⟨by rw [put_idx]; simp, put_data_of _ _ _⟩
theorem seen_rename {d : DiskT} {op : DOpT} (h : doC d.live d.ops op = 0) (hk : op.1 = 2) : (idxL (aftL d.live op) op.2.2.1).isSome = true ∧ dataOf (aftL d.live op) op.2.2.1 = dataOf d.live op.2.1 ∧ (idxL (aftL d.live op) op.2.1).isSome = decide (op.2.2.1 = op.2.1) := by
  unfold aftL
  rw [if_neg (by omega), if_pos hk]
  refine ⟨by rw [put_idx]; simp, put_data_of _ _ _, ?_⟩
  rw [put_idx, cut_idx]
  by_cases c : op.2.1 = op.2.2.1
  · rw [decide_eq_true c, decide_eq_true c.symm]; rfl
  · have e : decide (op.2.2.1 = op.2.1) = false := decide_eq_false (fun e => c e.symm)
    rw [e, decide_eq_false c]
    simp
theorem seen_remove {d : DiskT} {op : DOpT} (h1 : op.1 ≠ 1) (h2 : op.1 ≠ 2) : (idxL (aftL d.live op) op.2.1).isSome = false := by
  unfold aftL
  rw [if_neg h1, if_neg h2, cut_idx]
  simp
theorem done_ok {d : DiskT} {op : DOpT} (hk : diskB d = true) (h : doC d.live d.ops op = 0) : diskB (doD d op) = true := by
  have h1 := doC_ok h
  have h2 := (doC_zero d.live d.ops op).1 h
  rw [doD_yes hk]
  have hl : doL d.live d.ops op = aftL d.live op := by unfold doL; rw [if_pos h]
  have ho : doO d.live d.ops op = d.ops ++ [op] := by unfold doO; rw [if_pos h]
  rw [hl, ho]
  unfold diskB at hk ⊢
  simp only [Bool.and_eq_true, decide_eq_true_eq] at hk ⊢
  refine ⟨⟨⟨h1.1, hk.1.1.2⟩, by rw [List.length_append, List.length_singleton]; omega⟩, ?_⟩
  rw [run_app, hk.2]
  exact h2.2

end Go.Proofs.Ytepefbfmjjnamaa

/- What a loss of power leaves of a file that is replaced: pure. -/
namespace Go.Proofs.Ytepefbfmjjnamaa
open Go.RowKit Go.My Go.Lib
set_option linter.unusedVariables false

theorem ok_synced {l : List FileT} (h : filesB l = true) : diskB ⟨l, l, []⟩ = true := by
  unfold diskB
  simp [h, runL]
theorem sync_is (d : DiskT) : ∃ l, syncV d = ⟨l, l, []⟩ ∧ filesB l = true := by
  cases c : diskB d with
  | true => exact ⟨d.live, syncV_yes c, diskB_live c⟩
  | false => exact ⟨[], syncV_no c, rfl⟩
theorem nameAt_map (l : List FileT) (i : Nat) : nameAt l i = (l.map (·.1)).getD i fileZ.1 := by
  unfold nameAt
  rw [List.getD_eq_getElem?_getD, List.getD_eq_getElem?_getD, List.getElem?_map]
  cases l[i]? <;> rfl
theorem goodTo_map {l l' : List FileT} (h : l.map (·.1) = l'.map (·.1)) : ∀ k, goodTo l k = goodTo l' k
  | 0 => rfl
  | k + 1 => by
    show (goodTo l k && goodAt l k) = (goodTo l' k && goodAt l' k)
    rw [goodTo_map h k]
    unfold goodAt
    rw [nameAt_map, nameAt_map, nameAt_map, nameAt_map, h]
theorem put_map (m y y' : ByteArray) : ∀ (l : List FileT) (b : Bool), (putGo m y b l).map (·.1) = (putGo m y' b l).map (·.1) ∧ dataSum (putGo m y b l) + (if b then 0 else y'.size) = dataSum (putGo m y' b l) + (if b then 0 else y.size)
  | [], b => by
    cases b with
    | true => exact ⟨rfl, rfl⟩
    | false =>
      refine ⟨rfl, ?_⟩
      show (y.size + 0) + y'.size = (y'.size + 0) + y.size
      omega
  | f :: l, b => by
    have ih := put_map m y y' l (b || !blt f.1 m)
    show ((if !b && !blt f.1 m then [(m, y)] else []) ++ ((if f.1 = m then [] else [f]) ++ putGo m y (b || !blt f.1 m) l)).map _ = ((if !b && !blt f.1 m then [(m, y')] else []) ++ ((if f.1 = m then [] else [f]) ++ putGo m y' (b || !blt f.1 m) l)).map _ ∧ dataSum ((if !b && !blt f.1 m then [(m, y)] else []) ++ ((if f.1 = m then [] else [f]) ++ putGo m y (b || !blt f.1 m) l)) + _ = dataSum ((if !b && !blt f.1 m then [(m, y')] else []) ++ ((if f.1 = m then [] else [f]) ++ putGo m y' (b || !blt f.1 m) l)) + _
    have e1 : dataSum [(m, y)] = y.size := by rw [dataSum_cons]; rfl
    have e2 : dataSum [(m, y')] = y'.size := by rw [dataSum_cons]; rfl
    have e0 : dataSum ([] : List FileT) = 0 := rfl
    constructor
    · rw [List.map_append, List.map_append, List.map_append, List.map_append, ih.1]
      cases b <;> cases blt f.1 m <;> rfl
    · have h2 := ih.2
      simp only [dataSum_app]
      cases b <;> cases hb : blt f.1 m <;> simp [hb, e0, e1, e2] at h2 ⊢ <;> omega
theorem files_put {l : List FileT} {m y y' : ByteArray} (h : filesB (putL l m y) = true) (hs : y'.size ≤ y.size) : filesB (putL l m y') = true := by
  have hm := put_map m y y' l false
  have h1 : (putL l m y).map (·.1) = (putL l m y').map (·.1) := hm.1
  have h2 : dataSum (putL l m y) + y'.size = dataSum (putL l m y') + y.size := hm.2
  have hl : (putL l m y).length = (putL l m y').length := by have := congrArg List.length h1; simpa using this
  unfold filesB at h ⊢
  simp only [Bool.and_eq_true, decide_eq_true_eq] at h ⊢
  refine ⟨⟨by omega, ?_⟩, by omega⟩
  rw [← goodTo_map h1, ← hl]
  exact h.1.2
theorem data_other (m y k : ByteArray) (hk : m ≠ k) : ∀ (l : List FileT) (b : Bool), dataOf (putGo m y b l) k = dataOf l k
  | [], b => by
    cases b with
    | true => rfl
    | false => show dataOf [(m, y)] k = _; rw [data_cons, if_neg hk]
  | f :: l, b => by
    have ih := data_other m y k hk l (b || !blt f.1 m)
    show dataOf ((if !b && !blt f.1 m then [(m, y)] else []) ++ ((if f.1 = m then [] else [f]) ++ putGo m y (b || !blt f.1 m) l)) k = _
    have h2 : dataOf ((if f.1 = m then [] else [f]) ++ putGo m y (b || !blt f.1 m) l) k = dataOf (f :: l) k := by
      by_cases c : f.1 = m
      · rw [if_pos c, List.nil_append, ih, data_cons, if_neg (fun e => hk (c.symm.trans e))]
      · rw [if_neg c, List.singleton_append, data_cons, data_cons, ih]
    split
    · rw [List.singleton_append, data_cons, if_neg hk, h2]
    · rw [List.nil_append, h2]
theorem new_ne (n : ByteArray) : n ++ dotNew ≠ n := by
  intro e
  have := congrArg ByteArray.size e
  rw [ByteArray.size_append, dotNew_size] at this
  omega
theorem data_none {l : List FileT} {n : ByteArray} (h : (idxL l n).isSome = false) : dataOf l n = ByteArray.mk #[] := by
  unfold dataOf
  cases c : idxL l n with
  | none => rfl
  | some j => rw [c] at h; cases h
/-- The operations by which a file is replaced that has no other beside it. -/
theorem rep_two {L : List FileT} {n x : ByteArray} (h : (idxL L (n ++ dotNew)).isSome = false) : repO L n x = [(1, n ++ dotNew, ByteArray.mk #[], x), renO n] := by
  unfold repO writeO rmO
  rw [h]
  rfl
structure RepF (L L2 : List FileT) (n x : ByteArray) : Prop where
  ops : repO L n x = [(1, n ++ dotNew, ByteArray.mk #[], x), renO n]
  all : allL L [(1, n ++ dotNew, ByteArray.mk #[], x), renO n] = L2
  f1 : filesB (putL L (n ++ dotNew) (ByteArray.mk #[] ++ x)) = true
  f2 : filesB L2 = true
  ok : diskB ⟨L2, L, [(1, n ++ dotNew, ByteArray.mk #[], x), renO n]⟩ = true
  there : (idxL L2 n).isSome = true
  data : dataOf L2 n = x
  way : aftL (aftL L (1, n ++ dotNew, ByteArray.mk #[], x)) (renO n) = L2
  new : (idxL (aftL L (1, n ++ dotNew, ByteArray.mk #[], x)) (n ++ dotNew)).isSome = true
  one : aftL L (1, n ++ dotNew, ByteArray.mk #[], x) = putL L (n ++ dotNew) (ByteArray.mk #[] ++ x)
theorem rep_facts {L : List FileT} {n x : ByteArray} (hL : filesB L = true) (h : (idxL L (n ++ dotNew)).isSome = false) (hc : allC L [] (repO L n x) = 0) : ∃ L2, RepF L L2 n x := by
  have eo := rep_two (x := x) h
  rw [eo] at hc
  have hc : (if doC L [] (1, n ++ dotNew, ByteArray.mk #[], x) = 0 then (if doC (aftL L (1, n ++ dotNew, ByteArray.mk #[], x)) [(1, n ++ dotNew, ByteArray.mk #[], x)] (renO n) = 0 then (0 : Int) else doC (aftL L (1, n ++ dotNew, ByteArray.mk #[], x)) [(1, n ++ dotNew, ByteArray.mk #[], x)] (renO n)) else doC L [] (1, n ++ dotNew, ByteArray.mk #[], x)) = 0 := hc
  have c1 : doC L [] (1, n ++ dotNew, ByteArray.mk #[], x) = 0 := by
    by_cases c : doC L [] (1, n ++ dotNew, ByteArray.mk #[], x) = 0
    · exact c
    · rw [if_neg c] at hc; exact hc
  rw [if_pos c1] at hc
  have c2 : doC (aftL L (1, n ++ dotNew, ByteArray.mk #[], x)) [(1, n ++ dotNew, ByteArray.mk #[], x)] (renO n) = 0 := by
    by_cases c : doC (aftL L (1, n ++ dotNew, ByteArray.mk #[], x)) [(1, n ++ dotNew, ByteArray.mk #[], x)] (renO n) = 0
    · exact c
    · rw [if_neg c] at hc; exact hc
  have s1 := seen_append (d := ⟨L, [], []⟩) (op := (1, n ++ dotNew, ByteArray.mk #[], x)) c1 rfl
  have s2 := seen_rename (d := ⟨aftL L (1, n ++ dotNew, ByteArray.mk #[], x), [], [(1, n ++ dotNew, ByteArray.mk #[], x)]⟩) (op := renO n) c2 rfl
  have e1 : aftL L (1, n ++ dotNew, ByteArray.mk #[], x) = putL L (n ++ dotNew) (ByteArray.mk #[] ++ x) := by
    unfold aftL
    rw [if_pos rfl, show dataOf L (n ++ dotNew) = ByteArray.mk #[] from data_none h]
  have k1 := doC_ok c1
  have k2 := doC_ok c2
  have r1 := ((doC_zero _ _ _).1 c1).2
  have r2 := ((doC_zero _ _ _).1 c2).2
  have hd : dataOf (aftL L (1, n ++ dotNew, ByteArray.mk #[], x)) (n ++ dotNew) = x := by
    have := s1.2
    rw [show dataOf L (n ++ dotNew) = ByteArray.mk #[] from data_none h] at this
    rw [this]
    exact ByteArray.empty_append
  refine ⟨_, eo, rfl, by rw [← e1]; exact k1.1, k2.1, ?_, s2.1, s2.2.1.trans hd, rfl, s1.1, e1⟩
  unfold diskB
  simp only [Bool.and_eq_true, decide_eq_true_eq]
  refine ⟨⟨⟨k2.1, hL⟩, by show 2 ≤ 200; omega⟩, ?_⟩
  show runL L ([(1, n ++ dotNew, ByteArray.mk #[], x)] ++ [renO n]) = _
  rw [run_app, r1]
  exact r2
/-- Which operations may be kept. -/
def kp : Nat → List (List Int)
  | 0 => [[]]
  | j + 1 => kp j ++ (kp j).map (· ++ [(j : Int)])
theorem kp_same {j : Nat} {K : List Int} (h : K ∈ kp j) : K ∈ kp (j + 1) := List.mem_append.2 (.inl h)
theorem kp_more {j : Nat} {K : List Int} (h : K ∈ kp j) : K ++ [(j : Int)] ∈ kp (j + 1) := List.mem_append.2 (.inr (List.mem_map.2 ⟨K, h, rfl⟩))
theorem kp_two {K : List Int} (h : K ∈ kp 2) : K = [] ∨ K = [0] ∨ K = [1] ∨ K = [0, 1] := by
  have h : K ∈ [[], [(0 : Int)], [1], [0, 1]] := h
  simpa using h
theorem kp_len : ∀ {j : Nat} {K : List Int}, K ∈ kp j → K.length ≤ j
  | 0, K, h => by rw [List.mem_singleton.1 h]; exact Nat.zero_le _
  | j + 1, K, h => by
    rcases List.mem_append.1 h with h | h
    · have := kp_len h; omega
    · obtain ⟨K', hK, rfl⟩ := List.mem_map.1 h
      have := kp_len hK
      rw [List.length_append]
      show _ + 1 ≤ _
      omega
/-- What is left of it. -/
theorem rep_left {L L2 : List FileT} {n x : ByteArray} (hL : filesB L = true) (h : (idxL L (n ++ dotNew)).isSome = false) (R : RepF L L2 n x) {K : List Int} (hK : K ∈ kp 2) (T : Int) (hT : 0 ≤ T) :
    ∃ M, crB ⟨L2, L, [(1, n ++ dotNew, ByteArray.mk #[], x), renO n]⟩ K T = true ∧ crD ⟨L2, L, [(1, n ++ dotNew, ByteArray.mk #[], x), renO n]⟩ K T = ⟨M, M, []⟩ ∧ filesB M = true ∧ (((idxL M n).isSome = (idxL L n).isSome ∧ dataOf M n = dataOf L n) ∨ ((idxL M n).isSome = true ∧ dataOf M n = x)) := by
  have tr : tearO T.toNat (renO n) = renO n := tear_same (by show (ByteArray.mk #[]).size ≤ _; exact Nat.zero_le _)
  have go : ∀ M, crL ⟨L2, L, [(1, n ++ dotNew, ByteArray.mk #[], x), renO n]⟩ K T.toNat K.length = M → idxB (-1) K 2 = true → filesB M = true → crB ⟨L2, L, [(1, n ++ dotNew, ByteArray.mk #[], x), renO n]⟩ K T = true ∧ crD ⟨L2, L, [(1, n ++ dotNew, ByteArray.mk #[], x), renO n]⟩ K T = ⟨M, M, []⟩ ∧ filesB M = true := by
    intro M hM hI hF
    have hc : crB ⟨L2, L, [(1, n ++ dotNew, ByteArray.mk #[], x), renO n]⟩ K T = true := by
      unfold crB
      rw [R.ok, decide_eq_true hT, show ([(1, n ++ dotNew, ByteArray.mk #[], x), renO n] : List DOpT).length = 2 from rfl, hI, hM, hF]
      rfl
    exact ⟨hc, by rw [crD_yes hc, hM], hF⟩
  rcases kp_two hK with rfl | rfl | rfl | rfl
  · obtain ⟨a, b, c⟩ := go L rfl rfl hL
    exact ⟨L, a, b, c, .inl ⟨rfl, rfl⟩⟩
  · have e : crL ⟨L2, L, [(1, n ++ dotNew, ByteArray.mk #[], x), renO n]⟩ [0] T.toNat 1 = putL L (n ++ dotNew) (ByteArray.mk #[] ++ x.extract 0 (min T.toNat x.size)) := by
      show crF L (tearO T.toNat (1, n ++ dotNew, ByteArray.mk #[], x)) = _
      unfold crF
      rw [if_pos (by rfl)]
      show aftL L (1, n ++ dotNew, ByteArray.mk #[], x.extract 0 (min T.toNat x.size)) = _
      unfold aftL
      rw [if_pos rfl, show dataOf L (n ++ dotNew) = ByteArray.mk #[] from data_none h]
    have hf : filesB (putL L (n ++ dotNew) (ByteArray.mk #[] ++ x.extract 0 (min T.toNat x.size))) = true := files_put R.f1 (by rw [ByteArray.size_append, ByteArray.size_append, ByteArray.size_extract]; omega)
    obtain ⟨a, b, c⟩ := go _ e rfl hf
    refine ⟨_, a, b, c, .inl ⟨?_, data_other _ _ _ (new_ne n) L false⟩⟩
    rw [put_idx, decide_eq_false (fun c => new_ne n c.symm), Bool.false_or]
  · have e : crL ⟨L2, L, [(1, n ++ dotNew, ByteArray.mk #[], x), renO n]⟩ [1] T.toNat 1 = L := by
      show crF L (tearO T.toNat (renO n)) = _
      rw [tr]
      unfold crF findB
      rw [show (idxL L (renO n).2.1).isSome = false from h]
      rfl
    obtain ⟨a, b, c⟩ := go _ e rfl hL
    exact ⟨L, a, b, c, .inl ⟨rfl, rfl⟩⟩
  · have e : crL ⟨L2, L, [(1, n ++ dotNew, ByteArray.mk #[], x), renO n]⟩ [0, 1] T.toNat 2 = L2 := by
      show crF (crF L (1, n ++ dotNew, ByteArray.mk #[], x)) (tearO T.toNat (renO n)) = _
      rw [tr, show crF L (1, n ++ dotNew, ByteArray.mk #[], x) = aftL L (1, n ++ dotNew, ByteArray.mk #[], x) from by unfold crF; rw [if_pos (by rfl)]]
      unfold crF findB
      rw [show (idxL (aftL L (1, n ++ dotNew, ByteArray.mk #[], x)) (renO n).2.1).isSome = true from R.new]
      rw [if_pos (by simp)]
      exact R.way
    obtain ⟨a, b, c⟩ := go _ e rfl R.f2
    exact ⟨L2, a, b, c, .inr ⟨R.there, R.data⟩⟩

end Go.Proofs.Ytepefbfmjjnamaa

/- The specification: Replace. -/
namespace Go.Proofs.Ytepefbfmjjnamaa
open Go.RowKit Go.My Go.Lib
set_option linter.unusedVariables false

theorem all_step {d : DiskT} {op : DOpT} {r : List DOpT} (h : doC d.live d.ops op = 0) : allC d.live d.ops (op :: r) = allC (actD d op).live (actD d op).ops r ∧ (allC (actD d op).live (actD d op).ops r = 0 → allD d (op :: r) = allD (actD d op) r) := by
  have e := actD_yes h
  have h1 : allC d.live d.ops (op :: r) = allC (actD d op).live (actD d op).ops r := by
    show (if doC d.live d.ops op = 0 then _ else _) = _
    rw [if_pos h, e]
  refine ⟨h1, fun h0 => ?_⟩
  unfold allD
  rw [h1, if_pos h0, if_pos h0, e]
  unfold allL
  rw [List.foldl_cons, List.append_assoc]
  rfl
theorem all_stop {d : DiskT} {op : DOpT} {r : List DOpT} (h : doC d.live d.ops op ≠ 0) : allC d.live d.ops (op :: r) = doC d.live d.ops op := by
  show (if doC d.live d.ops op = 0 then _ else _) = _
  rw [if_neg h]
theorem allD_nil (d : DiskT) : allD d [] = d := by
  unfold allD
  rw [if_pos (show allC d.live d.ops [] = 0 from rfl)]
  show DiskT.mk d.live d.safe (d.ops ++ []) = d
  rw [List.append_nil]
theorem allD_bad {d : DiskT} {list : List DOpT} (h : allC d.live d.ops list ≠ 0) : allD d list = d := by unfold allD; rw [if_neg h]
theorem act_keeps {d : DiskT} {op : DOpT} (h : doC d.live d.ops op = 0) (hs : d.small) : filesB (actD d op).live = true ∧ (actD d op).ops.length ≤ 200 ∧ (actD d op).small := by
  have hk := doC_ok h
  rw [actD_yes h]
  have h2 : (d.ops ++ [op]).length ≤ 200 := by rw [List.length_append, List.length_singleton]; omega
  exact ⟨hk.1, h2, ⟨by have := (filesB_of hk.1).len; show (aftL d.live op).length ≤ _; omega, hs.safe, by show (d.ops ++ [op]).length ≤ _; omega⟩⟩
/-- What stands between two acts: the boxes, the disk so far, what is left to do. -/
structure RepJ (p1 p2 p3 : Value) (d E : DiskT) (RO r : List DOpT) (kN : Nat) (a1 a2 a3 : Value) (w W : World) : Prop where
  xA : W.heap[w.heap.size]? = some (.cells #[p1, p2, p3] 27 (0, 0))
  xR : W.heap[w.heap.size + 1]? = some (.cells #[.slice none 0 0, .slice none 0 0, .slice none 0 0] 27 (0, 0))
  xN : W.heap[kN]? = some (.cells #[a1, a2, a3] 27 (0, 0))
  at_ : DiskIn a1 a2 a3 E W
  bel : Below w.heap.size w W
  ok : filesB E.live = true ∧ E.ops.length ≤ 200 ∧ E.small
  all : allC d.live d.ops RO = allC E.live E.ops r ∧ (allC E.live E.ops r = 0 → allD d RO = allD E r)
theorem RepJ.below {p1 p2 p3 a1 a2 a3 : Value} {d E : DiskT} {RO r : List DOpT} {kN : Nat} {w W W' : World} (h : RepJ p1 p2 p3 d E RO r kN a1 a2 a3 w W) (hb : Below W.heap.size W W') : RepJ p1 p2 p3 d E RO r kN a1 a2 a3 w W' :=
  ⟨(hb.block _ (Array.getElem?_eq_some_iff.1 h.xA).1).trans h.xA, (hb.block _ (Array.getElem?_eq_some_iff.1 h.xR).1).trans h.xR, (hb.block _ (Array.getElem?_eq_some_iff.1 h.xN).1).trans h.xN, h.at_.below hb, h.bel.trans (hb.mono h.bel.size), h.ok, h.all⟩
theorem RepJ.next {p1 p2 p3 a1 a2 a3 u1 u2 u3 : Value} {d E : DiskT} {RO r : List DOpT} {op : DOpT} {kN B : Nat} {w W : World} (h : RepJ p1 p2 p3 d E RO (op :: r) kN a1 a2 a3 w W) (hk : w.heap.size + 1 < kN) (hc : doC E.live E.ops op = 0) (hu : DiskAt B u1 u2 u3 (actD E op) W) :
    RepJ p1 p2 p3 d (actD E op) RO r kN u1 u2 u3 w (((W.setCell ⟨kN, 0, none⟩ u1).setCell ⟨kN, 1, none⟩ u2).setCell ⟨kN, 2, none⟩ u3) := by
  have gz := grw_set3 W kN u1 u2 u3
  have hs := all_step (r := r) hc
  refine ⟨?_, ?_, set3 h.xN _ _ _, ?_, below_grw h.bel gz h.bel.size (fun q hq => by cases hq; omega), act_keeps hc h.ok.2.2, h.all.1.trans hs.1, fun h0 => (h.all.2 (hs.1.trans h0)).trans (hs.2 h0)⟩
  · rw [gz.block _ (Array.getElem?_eq_some_iff.1 h.xA).1 (fun c => by have := Option.some.inj c; omega)]; exact h.xA
  · rw [gz.block _ (Array.getElem?_eq_some_iff.1 h.xR).1 (fun c => by have := Option.some.inj c; omega)]; exact h.xR
  · exact DiskAt.toIn (B := 0) ⟨(RowL.kept hu.live gz (rowK hu.live h.xN (by decide))).mono (Nat.zero_le _), (RowL.kept hu.safe gz (rowK hu.safe h.xN (by decide))).mono (Nat.zero_le _), (RowL.kept hu.ops gz (rowK hu.ops h.xN (by decide))).mono (Nat.zero_le _)⟩
/-- Behind an act that is refused: the boxes alone. -/
theorem RepJ.stop {p1 p2 p3 a1 a2 a3 u1 u2 u3 : Value} {d E : DiskT} {RO r : List DOpT} {op : DOpT} {kN : Nat} {w W : World} (h : RepJ p1 p2 p3 d E RO (op :: r) kN a1 a2 a3 w W) (hk : w.heap.size + 1 < kN) :
    (((W.setCell ⟨kN, 0, none⟩ u1).setCell ⟨kN, 1, none⟩ u2).setCell ⟨kN, 2, none⟩ u3).heap[w.heap.size]? = some (.cells #[p1, p2, p3] 27 (0, 0)) ∧ (((W.setCell ⟨kN, 0, none⟩ u1).setCell ⟨kN, 1, none⟩ u2).setCell ⟨kN, 2, none⟩ u3).heap[w.heap.size + 1]? = some (.cells #[.slice none 0 0, .slice none 0 0, .slice none 0 0] 27 (0, 0)) ∧ Below w.heap.size w (((W.setCell ⟨kN, 0, none⟩ u1).setCell ⟨kN, 1, none⟩ u2).setCell ⟨kN, 2, none⟩ u3) := by
  have gz := grw_set3 W kN u1 u2 u3
  refine ⟨?_, ?_, below_grw h.bel gz h.bel.size (fun q hq => by cases hq; omega)⟩
  · rw [gz.block _ (Array.getElem?_eq_some_iff.1 h.xA).1 (fun c => by have := Option.some.inj c; omega)]; exact h.xA
  · rw [gz.block _ (Array.getElem?_eq_some_iff.1 h.xR).1 (fun c => by have := Option.some.inj c; omega)]; exact h.xR

set_option maxRecDepth 20000 in
set_option maxHeartbeats 8000000 in
theorem repD_sn (v1 v2 v3 : Value) (d : DiskT) (n x : ByteArray) (w : World) (h : DiskIn v1 v2 v3 d w) (hd : d.fit) (hn : n.size ≤ 1048576) (hx : x.size ≤ 1048576) :
    Calls Try.prog 28 #[.agg #[v1, v2, v3], .string n, .string x] w fun e w' => ∃ u1 u2 u3, e = .returned (.tuple #[.agg #[u1, u2, u3], .int .i64 (repR d n x)]) ∧ DiskAt w.heap.size u1 u2 u3 (repD d n x) w' ∧ Below w.heap.size w w' := by
  have C := Lib.hid (fun W (hW : Below w.heap.size w W) => disk_sn v1 v2 v3 d W (h.below hW) hd)
  have CP := Lib.hid (fun W (hW : Below w.heap.size w W) => copy_sn v1 v2 v3 d W (h.below hW) hd.small)
  have CI := Lib.hid (fun W (hW : Below w.heap.size w W) => at_s v1 d.live (n ++ dotNew) W (h.live.below hW) hd.small.live)
  have HS := Lib.hid (And.intro hd.small h)
  have HNX : Hid ((n ++ dotNew).size ≤ 1048580 ∧ n.size ≤ 1048576 ∧ x.size ≤ 1048576) := ⟨by rw [ByteArray.size_append]; show n.size + 4 ≤ _; omega, hn, hx⟩
  have hs : ¬ maxLen < n.size + dotNew.size := by rw [dotNew_size]; unfold maxLen; omega
  obtain ⟨p1, m1, rfl, _, _, _⟩ := h.live.open
  obtain ⟨p2, m2, rfl, _, _, _⟩ := h.safe.open
  obtain ⟨p3, m3, rfl, _, _, _⟩ := h.ops.open
  clear h hd hn hx
  go_enter Try.func28, Try.ntmps28
  go_wp2_with fail
  refine (C.out _ ?_).mono ?_
  · exact ((Below.refl _ _).alloc (Nat.le_refl _) _).alloc (by simp) _
  rintro e w2 ⟨rfl, hb2⟩
  obtain ⟨hB2, xA, xR⟩ := boxes2 w _ _ _ hb2
  have hlt2 : w.heap.size + 1 < w2.heap.size := (Array.getElem?_eq_some_iff.1 xR).1
  have HB2 := Lib.hid hB2
  have HXA := Lib.hid xA
  have HXR := Lib.hid xR
  obtain ⟨⟨r0, r1, r2⟩, rf⟩ := dk_cells xR
  obtain ⟨⟨b0, b1, b2⟩, _⟩ := dk_cells xA
  have rf0 := rf 0
  have rf1 := rf 1
  have rf2 := rf 2
  clear hb2 C hB2 xA xR rf
  cases hk : diskB d with
  | false =>
    have HV := Lib.hid (repD_no (n := n) (x := x) hk)
    have HR := Lib.hid (repR_no (n := n) (x := x) hk)
    clear hk
    go_wp2
    have gz := grw_set3 w2 (w.heap.size + 1) (.slice none 0 0) (.slice none 0 0) (.slice none 0 0)
    refine bodyPost_ret (v := .tuple #[.agg #[.slice none 0 0, .slice none 0 0, .slice none 0 0], .int .i64 1]) (results_row_u Try.results28 _ _ (w.heap.size + 1) 27 _ (0, 0) _ rfl (set3 HXR.out (.slice none 0 0) (.slice none 0 0) (.slice none 0 0)) Try.underlying27 rfl (by kernel_rfl)) rfl ⟨_, _, _, by rw [HR.out], by rw [HV.out]; exact nilDisk _ _, below_grw HB2.out gz HB2.out.size (fun q hq => by cases hq; omega)⟩
  | true =>
    have HV := Lib.hid (repD_yes (n := n) (x := x) hk)
    have HR := Lib.hid (repR_yes (n := n) (x := x) hk)
    have HRO : Hid (repO d.live n x = (if (idxL d.live (n ++ dotNew)).isSome = true then [(3, n ++ dotNew, ByteArray.mk #[], ByteArray.mk #[])] else []) ++ [(1, n ++ dotNew, ByteArray.mk #[], x)] ++ [(2, n ++ dotNew, n, ByteArray.mk #[])]) := rfl
    have hal : Below w2.heap.size w2 (w2.alloc (.cells #[.slice p1 d.live.length m1, .slice p2 d.safe.length m2, .slice p3 d.ops.length m3] 27)) := (Below.refl _ _).alloc (Nat.le_refl _) _
    have hB3 := HB2.out.trans (hal.mono HB2.out.size)
    have HJ : Hid (RepJ (.slice p1 d.live.length m1) (.slice p2 d.safe.length m2) (.slice p3 d.ops.length m3) d d (repO d.live n x) (repO d.live n x) w2.heap.size (.slice p1 d.live.length m1) (.slice p2 d.safe.length m2) (.slice p3 d.ops.length m3) w (w2.alloc (.cells #[.slice p1 d.live.length m1, .slice p2 d.safe.length m2, .slice p3 d.ops.length m3] 27))) :=
      ⟨(hal.block _ (Array.getElem?_eq_some_iff.1 HXA.out).1).trans HXA.out, (hal.block _ (Array.getElem?_eq_some_iff.1 HXR.out).1).trans HXR.out, heap_alloc_new w2 _, HS.out.2.below hB3, hB3, ⟨diskB_live hk, diskB_ops hk, HS.out.1⟩, rfl, fun _ => rfl⟩
    generalize repO d.live n x = RO at HV HR HRO HJ
    have HKN := Lib.hid hlt2
    clear hal hB3 hk rf0 rf1 rf2 r0 r1 r2
    go_upto_region 4 with (fail)
    generalize w2.alloc (.cells #[.slice p1 d.live.length m1, .slice p2 d.safe.length m2, .slice p3 d.ops.length m3] 27) = W0 at HJ ⊢
    obtain ⟨kN, hkN⟩ : ∃ k, w2.heap.size = k := ⟨_, rfl⟩
    rw [hkN] at HJ HKN ⊢
    clear hkN hlt2 HXA HXR HB2 b0 b1 b2
    obtain ⟨⟨b0, b1, b2⟩, _⟩ := dk_cells HJ.out.xA
    go_wp2_with fail
    refine (CI.out _ HJ.out.bel).mono ?_
    rintro e W1 ⟨rfl, hb1⟩
    have HJ := Lib.hid (HJ.out.below hb1)
    clear hb1 CI b0 b1 b2
    cases hi : idxL d.live (n ++ dotNew) with
    | none =>
      have HI := Lib.hid (idxV_none hi)
      have hro : RO = [(1, n ++ dotNew, ByteArray.mk #[], x), (2, n ++ dotNew, n, ByteArray.mk #[])] := by rw [HRO.out, hi]; rfl
      subst hro
      rw [HI.out]
      clear hi HI HRO
      go_upto_region 9 with (fail)
      have CA := Lib.hid (act_sn _ _ _ d 1 (n ++ dotNew) (ByteArray.mk #[]) x _ HJ.out.at_ HJ.out.ok.1 HJ.out.ok.2.1 HJ.out.ok.2.2 (by decide) HNX.out.1 (by decide) HNX.out.2.2)
      obtain ⟨C1, hC1⟩ : ∃ c, doC d.live d.ops (1, n ++ dotNew, ByteArray.mk #[], x) = c := ⟨_, rfl⟩
      rw [hC1] at CA
      have HCC := Lib.hid hC1
      obtain ⟨⟨b0, b1, b2⟩, _⟩ := dk_cells HJ.out.xN
      clear hC1
      go_wp2_with fail
      refine CA.out.mono ?_
      rintro e V1 ⟨u1, u2, u3, rfl, hu, hb⟩
      have HJ := Lib.hid (HJ.out.below hb)
      have HU := Lib.hid hu
      obtain ⟨q1, n1, rfl, _⟩ := hu.live.open
      obtain ⟨q2, n2, rfl, _⟩ := hu.safe.open
      obtain ⟨q3, n3, rfl, _⟩ := hu.ops.open
      clear b0 b1 b2 hb hu CA
      obtain ⟨⟨b0, b1, b2⟩, bf⟩ := dk_cells HJ.out.xN
      have bf0 := bf 0
      have bf1 := bf 1
      have bf2 := bf 2
      clear bf
      by_cases hz : C1 = 0
      case neg =>
        have HNZ := Lib.hid hz
        have hz' : (C1 == 0) = false := by simpa using hz
        have hz2 : (C1 != 0) = true := by simpa using hz
        have HC := Lib.hid <| HJ.out.all.1.trans ((all_stop (by rw [HCC.out]; exact hz)).trans HCC.out)
        have HX := Lib.hid (HJ.out.stop (u1 := .slice q1 (actD d (1, n ++ dotNew, ByteArray.mk #[], x)).live.length n1) (u2 := .slice q2 (actD d (1, n ++ dotNew, ByteArray.mk #[], x)).safe.length n2) (u3 := .slice q3 (actD d (1, n ++ dotNew, ByteArray.mk #[], x)).ops.length n3) HKN.out)
        clear hz
        go_upto_region 10 with (fail)
        generalize (((V1.setCell ⟨kN, 0, none⟩ (.slice q1 (actD d (1, n ++ dotNew, ByteArray.mk #[], x)).live.length n1)).setCell ⟨kN, 1, none⟩ (.slice q2 (actD d (1, n ++ dotNew, ByteArray.mk #[], x)).safe.length n2)).setCell ⟨kN, 2, none⟩ (.slice q3 (actD d (1, n ++ dotNew, ByteArray.mk #[], x)).ops.length n3)) = wx at HX ⊢
        clear b0 b1 b2 bf0 bf1 bf2
        have HVV : Hid (repD d n x = d) := by show _ = _; rw [HV.out]; exact allD_bad (by rw [HC.out]; exact HNZ.out)
        have HRR : Hid (repR d n x = C1) := HR.out.trans HC.out
        obtain ⟨⟨b0, b1, b2⟩, _⟩ := dk_cells HX.out.1
        go_wp2_with fail
        refine (CP.out _ HX.out.2.2).mono ?_
        rintro e wz ⟨u1, u2, u3, rfl, hD, hbz⟩
        obtain ⟨q1, n1, rfl, _⟩ := hD.live.open
        obtain ⟨q2, n2, rfl, _⟩ := hD.safe.open
        obtain ⟨q3, n3, rfl, _⟩ := hD.ops.open
        have yR := (hbz.block (w.heap.size + 1) (Array.getElem?_eq_some_iff.1 HX.out.2.1).1).trans HX.out.2.1
        have hBz := HX.out.2.2.trans (hbz.mono HX.out.2.2.size)
        have HD := Lib.hid (hD.mono HX.out.2.2.size)
        have HY := Lib.hid yR
        have HBZ := Lib.hid hBz
        clear b0 b1 b2
        obtain ⟨⟨r0, r1, r2⟩, rf⟩ := dk_cells yR
        have rf0 := rf 0
        have rf1 := rf 1
        have rf2 := rf 2
        clear hD hbz hBz yR rf
        go_wp2
        refine bodyPost_ret (v := .tuple #[.agg #[.slice q1 d.live.length n1, .slice q2 d.safe.length n2, .slice q3 d.ops.length n3], .int .i64 C1]) (results_row_u Try.results28 _ _ (w.heap.size + 1) 27 _ (0, 0) _ rfl (set3 HY.out _ _ _) Try.underlying27 rfl (by kernel_rfl)) rfl ⟨_, _, _, by rw [HRR.out], by rw [HVV.out]; exact ⟨RowL.kept HD.out.live (grw_set3 _ _ _ _ _) (rowK HD.out.live HY.out (by decide)), RowL.kept HD.out.safe (grw_set3 _ _ _ _ _) (rowK HD.out.safe HY.out (by decide)), RowL.kept HD.out.ops (grw_set3 _ _ _ _ _) (rowK HD.out.ops HY.out (by decide))⟩, below_grw HBZ.out (grw_set3 _ _ _ _ _) HBZ.out.size (fun q hq => by cases hq; omega)⟩
      case pos =>
        subst hz
        have HJ := Lib.hid (HJ.out.next HKN.out HCC.out HU.out)
        go_upto_region 10 with (fail)
        clear b0 b1 b2 bf0 bf1 bf2 HU HCC
        generalize (((V1.setCell ⟨kN, 0, none⟩ (.slice q1 (actD d (1, n ++ dotNew, ByteArray.mk #[], x)).live.length n1)).setCell ⟨kN, 1, none⟩ (.slice q2 (actD d (1, n ++ dotNew, ByteArray.mk #[], x)).safe.length n2)).setCell ⟨kN, 2, none⟩ (.slice q3 (actD d (1, n ++ dotNew, ByteArray.mk #[], x)).ops.length n3)) = wx1 at HJ ⊢
        generalize actD d (1, n ++ dotNew, ByteArray.mk #[], x) = E1 at HJ ⊢
        have CA := Lib.hid (act_sn _ _ _ E1 2 (n ++ dotNew) n (ByteArray.mk #[]) _ HJ.out.at_ HJ.out.ok.1 HJ.out.ok.2.1 HJ.out.ok.2.2 (by decide) HNX.out.1 (Nat.le_trans HNX.out.2.1 (by decide)) (by decide))
        obtain ⟨C2, hC2⟩ : ∃ c, doC E1.live E1.ops (2, n ++ dotNew, n, ByteArray.mk #[]) = c := ⟨_, rfl⟩
        rw [hC2] at CA
        have HCC := Lib.hid hC2
        obtain ⟨⟨b0, b1, b2⟩, _⟩ := dk_cells HJ.out.xN
        clear hC2
        go_wp2_with fail
        refine CA.out.mono ?_
        rintro e V2 ⟨u1, u2, u3, rfl, hu, hb⟩
        have HJ := Lib.hid (HJ.out.below hb)
        have HU := Lib.hid hu
        obtain ⟨q1, n1, rfl, _⟩ := hu.live.open
        obtain ⟨q2, n2, rfl, _⟩ := hu.safe.open
        obtain ⟨q3, n3, rfl, _⟩ := hu.ops.open
        clear b0 b1 b2 hb hu CA
        obtain ⟨⟨b0, b1, b2⟩, bf⟩ := dk_cells HJ.out.xN
        have bf0 := bf 0
        have bf1 := bf 1
        have bf2 := bf 2
        clear bf
        by_cases hz : C2 = 0
        case neg =>
          have HNZ := Lib.hid hz
          have hz' : (C2 == 0) = false := by simpa using hz
          have hz2 : (C2 != 0) = true := by simpa using hz
          have HC := Lib.hid <| HJ.out.all.1.trans ((all_stop (by rw [HCC.out]; exact hz)).trans HCC.out)
          have HX := Lib.hid (HJ.out.stop (u1 := .slice q1 (actD E1 (2, n ++ dotNew, n, ByteArray.mk #[])).live.length n1) (u2 := .slice q2 (actD E1 (2, n ++ dotNew, n, ByteArray.mk #[])).safe.length n2) (u3 := .slice q3 (actD E1 (2, n ++ dotNew, n, ByteArray.mk #[])).ops.length n3) HKN.out)
          clear hz
          go_upto_region 12 with (fail)
          generalize (((V2.setCell ⟨kN, 0, none⟩ (.slice q1 (actD E1 (2, n ++ dotNew, n, ByteArray.mk #[])).live.length n1)).setCell ⟨kN, 1, none⟩ (.slice q2 (actD E1 (2, n ++ dotNew, n, ByteArray.mk #[])).safe.length n2)).setCell ⟨kN, 2, none⟩ (.slice q3 (actD E1 (2, n ++ dotNew, n, ByteArray.mk #[])).ops.length n3)) = wx at HX ⊢
          clear b0 b1 b2 bf0 bf1 bf2
          have HVV : Hid (repD d n x = d) := by show _ = _; rw [HV.out]; exact allD_bad (by rw [HC.out]; exact HNZ.out)
          have HRR : Hid (repR d n x = C2) := HR.out.trans HC.out
          obtain ⟨⟨b0, b1, b2⟩, _⟩ := dk_cells HX.out.1
          go_wp2_with fail
          refine (CP.out _ HX.out.2.2).mono ?_
          rintro e wz ⟨u1, u2, u3, rfl, hD, hbz⟩
          obtain ⟨q1, n1, rfl, _⟩ := hD.live.open
          obtain ⟨q2, n2, rfl, _⟩ := hD.safe.open
          obtain ⟨q3, n3, rfl, _⟩ := hD.ops.open
          have yR := (hbz.block (w.heap.size + 1) (Array.getElem?_eq_some_iff.1 HX.out.2.1).1).trans HX.out.2.1
          have hBz := HX.out.2.2.trans (hbz.mono HX.out.2.2.size)
          have HD := Lib.hid (hD.mono HX.out.2.2.size)
          have HY := Lib.hid yR
          have HBZ := Lib.hid hBz
          clear b0 b1 b2
          obtain ⟨⟨r0, r1, r2⟩, rf⟩ := dk_cells yR
          have rf0 := rf 0
          have rf1 := rf 1
          have rf2 := rf 2
          clear hD hbz hBz yR rf
          go_wp2
          refine bodyPost_ret (v := .tuple #[.agg #[.slice q1 d.live.length n1, .slice q2 d.safe.length n2, .slice q3 d.ops.length n3], .int .i64 C2]) (results_row_u Try.results28 _ _ (w.heap.size + 1) 27 _ (0, 0) _ rfl (set3 HY.out _ _ _) Try.underlying27 rfl (by kernel_rfl)) rfl ⟨_, _, _, by rw [HRR.out], by rw [HVV.out]; exact ⟨RowL.kept HD.out.live (grw_set3 _ _ _ _ _) (rowK HD.out.live HY.out (by decide)), RowL.kept HD.out.safe (grw_set3 _ _ _ _ _) (rowK HD.out.safe HY.out (by decide)), RowL.kept HD.out.ops (grw_set3 _ _ _ _ _) (rowK HD.out.ops HY.out (by decide))⟩, below_grw HBZ.out (grw_set3 _ _ _ _ _) HBZ.out.size (fun q hq => by cases hq; omega)⟩
        case pos =>
          subst hz
          have HJ := Lib.hid (HJ.out.next HKN.out HCC.out HU.out)
          go_upto_region 12 with (fail)
          clear b0 b1 b2 bf0 bf1 bf2 HU HCC
          generalize (((V2.setCell ⟨kN, 0, none⟩ (.slice q1 (actD E1 (2, n ++ dotNew, n, ByteArray.mk #[])).live.length n1)).setCell ⟨kN, 1, none⟩ (.slice q2 (actD E1 (2, n ++ dotNew, n, ByteArray.mk #[])).safe.length n2)).setCell ⟨kN, 2, none⟩ (.slice q3 (actD E1 (2, n ++ dotNew, n, ByteArray.mk #[])).ops.length n3)) = wx2 at HJ ⊢
          generalize actD E1 (2, n ++ dotNew, n, ByteArray.mk #[]) = E2 at HJ ⊢
          have HVV : Hid (repD d n x = E2) := by show _ = _; rw [HV.out, HJ.out.all.2 rfl]; exact allD_nil _
          have HRR : Hid (repR d n x = 0) := HR.out.trans HJ.out.all.1
          have HSZ := Lib.hid HJ.out.bel.size
          have CE := Lib.hid (copy_sn _ _ _ E2 _ HJ.out.at_ HJ.out.ok.2.2)
          obtain ⟨⟨b0, b1, b2⟩, _⟩ := dk_cells HJ.out.xN
          go_wp2_with fail
          refine CE.out.mono ?_
          rintro e wz ⟨u1, u2, u3, rfl, hD, hbz⟩
          obtain ⟨q1, n1, rfl, _⟩ := hD.live.open
          obtain ⟨q2, n2, rfl, _⟩ := hD.safe.open
          obtain ⟨q3, n3, rfl, _⟩ := hD.ops.open
          have HJ := Lib.hid (HJ.out.below hbz)
          have HD := Lib.hid (hD.mono HSZ.out)
          clear b0 b1 b2
          obtain ⟨⟨r0, r1, r2⟩, rf⟩ := dk_cells HJ.out.xR
          have rf0 := rf 0
          have rf1 := rf 1
          have rf2 := rf 2
          clear hD hbz rf
          go_wp2
          refine bodyPost_ret (v := .tuple #[.agg #[.slice q1 E2.live.length n1, .slice q2 E2.safe.length n2, .slice q3 E2.ops.length n3], .int .i64 0]) (results_row_u Try.results28 _ _ (w.heap.size + 1) 27 _ (0, 0) _ rfl (set3 HJ.out.xR _ _ _) Try.underlying27 rfl (by kernel_rfl)) rfl ⟨_, _, _, by rw [HRR.out], by rw [HVV.out]; exact ⟨RowL.kept HD.out.live (grw_set3 _ _ _ _ _) (rowK HD.out.live HJ.out.xR (by decide)), RowL.kept HD.out.safe (grw_set3 _ _ _ _ _) (rowK HD.out.safe HJ.out.xR (by decide)), RowL.kept HD.out.ops (grw_set3 _ _ _ _ _) (rowK HD.out.ops HJ.out.xR (by decide))⟩, below_grw HJ.out.bel (grw_set3 _ _ _ _ _) HJ.out.bel.size (fun q hq => by cases hq; omega)⟩
    | some ji =>
      have HI := Lib.hid (idxV_some hi)
      have hro : RO = [(3, n ++ dotNew, ByteArray.mk #[], ByteArray.mk #[]), (1, n ++ dotNew, ByteArray.mk #[], x), (2, n ++ dotNew, n, ByteArray.mk #[])] := by rw [HRO.out, hi]; rfl
      subst hro
      rw [HI.out]
      have hji : (0 : Int) ≤ (ji : Int) := by omega
      clear hi HI HRO
      go_upto_region 7 with (fail)
      have CA := Lib.hid (act_sn _ _ _ d 3 (n ++ dotNew) (ByteArray.mk #[]) (ByteArray.mk #[]) _ HJ.out.at_ HJ.out.ok.1 HJ.out.ok.2.1 HJ.out.ok.2.2 (by decide) HNX.out.1 (by decide) (by decide))
      obtain ⟨C1, hC1⟩ : ∃ c, doC d.live d.ops (3, n ++ dotNew, ByteArray.mk #[], ByteArray.mk #[]) = c := ⟨_, rfl⟩
      rw [hC1] at CA
      have HCC := Lib.hid hC1
      obtain ⟨⟨b0, b1, b2⟩, _⟩ := dk_cells HJ.out.xN
      clear hC1
      go_wp2_with fail
      refine CA.out.mono ?_
      rintro e V1 ⟨u1, u2, u3, rfl, hu, hb⟩
      have HJ := Lib.hid (HJ.out.below hb)
      have HU := Lib.hid hu
      obtain ⟨q1, n1, rfl, _⟩ := hu.live.open
      obtain ⟨q2, n2, rfl, _⟩ := hu.safe.open
      obtain ⟨q3, n3, rfl, _⟩ := hu.ops.open
      clear b0 b1 b2 hb hu CA
      obtain ⟨⟨b0, b1, b2⟩, bf⟩ := dk_cells HJ.out.xN
      have bf0 := bf 0
      have bf1 := bf 1
      have bf2 := bf 2
      clear bf
      by_cases hz : C1 = 0
      case neg =>
        have HNZ := Lib.hid hz
        have hz' : (C1 == 0) = false := by simpa using hz
        have hz2 : (C1 != 0) = true := by simpa using hz
        have HC := Lib.hid <| HJ.out.all.1.trans ((all_stop (by rw [HCC.out]; exact hz)).trans HCC.out)
        have HX := Lib.hid (HJ.out.stop (u1 := .slice q1 (actD d (3, n ++ dotNew, ByteArray.mk #[], ByteArray.mk #[])).live.length n1) (u2 := .slice q2 (actD d (3, n ++ dotNew, ByteArray.mk #[], ByteArray.mk #[])).safe.length n2) (u3 := .slice q3 (actD d (3, n ++ dotNew, ByteArray.mk #[], ByteArray.mk #[])).ops.length n3) HKN.out)
        clear hz
        go_upto_region 8 with (fail)
        generalize (((V1.setCell ⟨kN, 0, none⟩ (.slice q1 (actD d (3, n ++ dotNew, ByteArray.mk #[], ByteArray.mk #[])).live.length n1)).setCell ⟨kN, 1, none⟩ (.slice q2 (actD d (3, n ++ dotNew, ByteArray.mk #[], ByteArray.mk #[])).safe.length n2)).setCell ⟨kN, 2, none⟩ (.slice q3 (actD d (3, n ++ dotNew, ByteArray.mk #[], ByteArray.mk #[])).ops.length n3)) = wx at HX ⊢
        clear b0 b1 b2 bf0 bf1 bf2
        have HVV : Hid (repD d n x = d) := by show _ = _; rw [HV.out]; exact allD_bad (by rw [HC.out]; exact HNZ.out)
        have HRR : Hid (repR d n x = C1) := HR.out.trans HC.out
        obtain ⟨⟨b0, b1, b2⟩, _⟩ := dk_cells HX.out.1
        go_wp2_with fail
        refine (CP.out _ HX.out.2.2).mono ?_
        rintro e wz ⟨u1, u2, u3, rfl, hD, hbz⟩
        obtain ⟨q1, n1, rfl, _⟩ := hD.live.open
        obtain ⟨q2, n2, rfl, _⟩ := hD.safe.open
        obtain ⟨q3, n3, rfl, _⟩ := hD.ops.open
        have yR := (hbz.block (w.heap.size + 1) (Array.getElem?_eq_some_iff.1 HX.out.2.1).1).trans HX.out.2.1
        have hBz := HX.out.2.2.trans (hbz.mono HX.out.2.2.size)
        have HD := Lib.hid (hD.mono HX.out.2.2.size)
        have HY := Lib.hid yR
        have HBZ := Lib.hid hBz
        clear b0 b1 b2
        obtain ⟨⟨r0, r1, r2⟩, rf⟩ := dk_cells yR
        have rf0 := rf 0
        have rf1 := rf 1
        have rf2 := rf 2
        clear hD hbz hBz yR rf
        go_wp2
        refine bodyPost_ret (v := .tuple #[.agg #[.slice q1 d.live.length n1, .slice q2 d.safe.length n2, .slice q3 d.ops.length n3], .int .i64 C1]) (results_row_u Try.results28 _ _ (w.heap.size + 1) 27 _ (0, 0) _ rfl (set3 HY.out _ _ _) Try.underlying27 rfl (by kernel_rfl)) rfl ⟨_, _, _, by rw [HRR.out], by rw [HVV.out]; exact ⟨RowL.kept HD.out.live (grw_set3 _ _ _ _ _) (rowK HD.out.live HY.out (by decide)), RowL.kept HD.out.safe (grw_set3 _ _ _ _ _) (rowK HD.out.safe HY.out (by decide)), RowL.kept HD.out.ops (grw_set3 _ _ _ _ _) (rowK HD.out.ops HY.out (by decide))⟩, below_grw HBZ.out (grw_set3 _ _ _ _ _) HBZ.out.size (fun q hq => by cases hq; omega)⟩
      case pos =>
        subst hz
        have HJ := Lib.hid (HJ.out.next HKN.out HCC.out HU.out)
        go_upto_region 8 with (fail)
        clear b0 b1 b2 bf0 bf1 bf2 HU HCC
        generalize (((V1.setCell ⟨kN, 0, none⟩ (.slice q1 (actD d (3, n ++ dotNew, ByteArray.mk #[], ByteArray.mk #[])).live.length n1)).setCell ⟨kN, 1, none⟩ (.slice q2 (actD d (3, n ++ dotNew, ByteArray.mk #[], ByteArray.mk #[])).safe.length n2)).setCell ⟨kN, 2, none⟩ (.slice q3 (actD d (3, n ++ dotNew, ByteArray.mk #[], ByteArray.mk #[])).ops.length n3)) = wx1 at HJ ⊢
        generalize actD d (3, n ++ dotNew, ByteArray.mk #[], ByteArray.mk #[]) = E1 at HJ ⊢
        go_upto_region 9 with (fail)
        have CA := Lib.hid (act_sn _ _ _ E1 1 (n ++ dotNew) (ByteArray.mk #[]) x _ HJ.out.at_ HJ.out.ok.1 HJ.out.ok.2.1 HJ.out.ok.2.2 (by decide) HNX.out.1 (by decide) HNX.out.2.2)
        obtain ⟨C2, hC2⟩ : ∃ c, doC E1.live E1.ops (1, n ++ dotNew, ByteArray.mk #[], x) = c := ⟨_, rfl⟩
        rw [hC2] at CA
        have HCC := Lib.hid hC2
        obtain ⟨⟨b0, b1, b2⟩, _⟩ := dk_cells HJ.out.xN
        clear hC2
        go_wp2_with fail
        refine CA.out.mono ?_
        rintro e V2 ⟨u1, u2, u3, rfl, hu, hb⟩
        have HJ := Lib.hid (HJ.out.below hb)
        have HU := Lib.hid hu
        obtain ⟨q1, n1, rfl, _⟩ := hu.live.open
        obtain ⟨q2, n2, rfl, _⟩ := hu.safe.open
        obtain ⟨q3, n3, rfl, _⟩ := hu.ops.open
        clear b0 b1 b2 hb hu CA
        obtain ⟨⟨b0, b1, b2⟩, bf⟩ := dk_cells HJ.out.xN
        have bf0 := bf 0
        have bf1 := bf 1
        have bf2 := bf 2
        clear bf
        by_cases hz : C2 = 0
        case neg =>
          have HNZ := Lib.hid hz
          have hz' : (C2 == 0) = false := by simpa using hz
          have hz2 : (C2 != 0) = true := by simpa using hz
          have HC := Lib.hid <| HJ.out.all.1.trans ((all_stop (by rw [HCC.out]; exact hz)).trans HCC.out)
          have HX := Lib.hid (HJ.out.stop (u1 := .slice q1 (actD E1 (1, n ++ dotNew, ByteArray.mk #[], x)).live.length n1) (u2 := .slice q2 (actD E1 (1, n ++ dotNew, ByteArray.mk #[], x)).safe.length n2) (u3 := .slice q3 (actD E1 (1, n ++ dotNew, ByteArray.mk #[], x)).ops.length n3) HKN.out)
          clear hz
          go_upto_region 10 with (fail)
          generalize (((V2.setCell ⟨kN, 0, none⟩ (.slice q1 (actD E1 (1, n ++ dotNew, ByteArray.mk #[], x)).live.length n1)).setCell ⟨kN, 1, none⟩ (.slice q2 (actD E1 (1, n ++ dotNew, ByteArray.mk #[], x)).safe.length n2)).setCell ⟨kN, 2, none⟩ (.slice q3 (actD E1 (1, n ++ dotNew, ByteArray.mk #[], x)).ops.length n3)) = wx at HX ⊢
          clear b0 b1 b2 bf0 bf1 bf2
          have HVV : Hid (repD d n x = d) := by show _ = _; rw [HV.out]; exact allD_bad (by rw [HC.out]; exact HNZ.out)
          have HRR : Hid (repR d n x = C2) := HR.out.trans HC.out
          obtain ⟨⟨b0, b1, b2⟩, _⟩ := dk_cells HX.out.1
          go_wp2_with fail
          refine (CP.out _ HX.out.2.2).mono ?_
          rintro e wz ⟨u1, u2, u3, rfl, hD, hbz⟩
          obtain ⟨q1, n1, rfl, _⟩ := hD.live.open
          obtain ⟨q2, n2, rfl, _⟩ := hD.safe.open
          obtain ⟨q3, n3, rfl, _⟩ := hD.ops.open
          have yR := (hbz.block (w.heap.size + 1) (Array.getElem?_eq_some_iff.1 HX.out.2.1).1).trans HX.out.2.1
          have hBz := HX.out.2.2.trans (hbz.mono HX.out.2.2.size)
          have HD := Lib.hid (hD.mono HX.out.2.2.size)
          have HY := Lib.hid yR
          have HBZ := Lib.hid hBz
          clear b0 b1 b2
          obtain ⟨⟨r0, r1, r2⟩, rf⟩ := dk_cells yR
          have rf0 := rf 0
          have rf1 := rf 1
          have rf2 := rf 2
          clear hD hbz hBz yR rf
          go_wp2
          refine bodyPost_ret (v := .tuple #[.agg #[.slice q1 d.live.length n1, .slice q2 d.safe.length n2, .slice q3 d.ops.length n3], .int .i64 C2]) (results_row_u Try.results28 _ _ (w.heap.size + 1) 27 _ (0, 0) _ rfl (set3 HY.out _ _ _) Try.underlying27 rfl (by kernel_rfl)) rfl ⟨_, _, _, by rw [HRR.out], by rw [HVV.out]; exact ⟨RowL.kept HD.out.live (grw_set3 _ _ _ _ _) (rowK HD.out.live HY.out (by decide)), RowL.kept HD.out.safe (grw_set3 _ _ _ _ _) (rowK HD.out.safe HY.out (by decide)), RowL.kept HD.out.ops (grw_set3 _ _ _ _ _) (rowK HD.out.ops HY.out (by decide))⟩, below_grw HBZ.out (grw_set3 _ _ _ _ _) HBZ.out.size (fun q hq => by cases hq; omega)⟩
        case pos =>
          subst hz
          have HJ := Lib.hid (HJ.out.next HKN.out HCC.out HU.out)
          go_upto_region 10 with (fail)
          clear b0 b1 b2 bf0 bf1 bf2 HU HCC
          generalize (((V2.setCell ⟨kN, 0, none⟩ (.slice q1 (actD E1 (1, n ++ dotNew, ByteArray.mk #[], x)).live.length n1)).setCell ⟨kN, 1, none⟩ (.slice q2 (actD E1 (1, n ++ dotNew, ByteArray.mk #[], x)).safe.length n2)).setCell ⟨kN, 2, none⟩ (.slice q3 (actD E1 (1, n ++ dotNew, ByteArray.mk #[], x)).ops.length n3)) = wx2 at HJ ⊢
          generalize actD E1 (1, n ++ dotNew, ByteArray.mk #[], x) = E2 at HJ ⊢
          have CA := Lib.hid (act_sn _ _ _ E2 2 (n ++ dotNew) n (ByteArray.mk #[]) _ HJ.out.at_ HJ.out.ok.1 HJ.out.ok.2.1 HJ.out.ok.2.2 (by decide) HNX.out.1 (Nat.le_trans HNX.out.2.1 (by decide)) (by decide))
          obtain ⟨C3, hC3⟩ : ∃ c, doC E2.live E2.ops (2, n ++ dotNew, n, ByteArray.mk #[]) = c := ⟨_, rfl⟩
          rw [hC3] at CA
          have HCC := Lib.hid hC3
          obtain ⟨⟨b0, b1, b2⟩, _⟩ := dk_cells HJ.out.xN
          clear hC3
          go_wp2_with fail
          refine CA.out.mono ?_
          rintro e V3 ⟨u1, u2, u3, rfl, hu, hb⟩
          have HJ := Lib.hid (HJ.out.below hb)
          have HU := Lib.hid hu
          obtain ⟨q1, n1, rfl, _⟩ := hu.live.open
          obtain ⟨q2, n2, rfl, _⟩ := hu.safe.open
          obtain ⟨q3, n3, rfl, _⟩ := hu.ops.open
          clear b0 b1 b2 hb hu CA
          obtain ⟨⟨b0, b1, b2⟩, bf⟩ := dk_cells HJ.out.xN
          have bf0 := bf 0
          have bf1 := bf 1
          have bf2 := bf 2
          clear bf
          by_cases hz : C3 = 0
          case neg =>
            have HNZ := Lib.hid hz
            have hz' : (C3 == 0) = false := by simpa using hz
            have hz2 : (C3 != 0) = true := by simpa using hz
            have HC := Lib.hid <| HJ.out.all.1.trans ((all_stop (by rw [HCC.out]; exact hz)).trans HCC.out)
            have HX := Lib.hid (HJ.out.stop (u1 := .slice q1 (actD E2 (2, n ++ dotNew, n, ByteArray.mk #[])).live.length n1) (u2 := .slice q2 (actD E2 (2, n ++ dotNew, n, ByteArray.mk #[])).safe.length n2) (u3 := .slice q3 (actD E2 (2, n ++ dotNew, n, ByteArray.mk #[])).ops.length n3) HKN.out)
            clear hz
            go_upto_region 12 with (fail)
            generalize (((V3.setCell ⟨kN, 0, none⟩ (.slice q1 (actD E2 (2, n ++ dotNew, n, ByteArray.mk #[])).live.length n1)).setCell ⟨kN, 1, none⟩ (.slice q2 (actD E2 (2, n ++ dotNew, n, ByteArray.mk #[])).safe.length n2)).setCell ⟨kN, 2, none⟩ (.slice q3 (actD E2 (2, n ++ dotNew, n, ByteArray.mk #[])).ops.length n3)) = wx at HX ⊢
            clear b0 b1 b2 bf0 bf1 bf2
            have HVV : Hid (repD d n x = d) := by show _ = _; rw [HV.out]; exact allD_bad (by rw [HC.out]; exact HNZ.out)
            have HRR : Hid (repR d n x = C3) := HR.out.trans HC.out
            obtain ⟨⟨b0, b1, b2⟩, _⟩ := dk_cells HX.out.1
            go_wp2_with fail
            refine (CP.out _ HX.out.2.2).mono ?_
            rintro e wz ⟨u1, u2, u3, rfl, hD, hbz⟩
            obtain ⟨q1, n1, rfl, _⟩ := hD.live.open
            obtain ⟨q2, n2, rfl, _⟩ := hD.safe.open
            obtain ⟨q3, n3, rfl, _⟩ := hD.ops.open
            have yR := (hbz.block (w.heap.size + 1) (Array.getElem?_eq_some_iff.1 HX.out.2.1).1).trans HX.out.2.1
            have hBz := HX.out.2.2.trans (hbz.mono HX.out.2.2.size)
            have HD := Lib.hid (hD.mono HX.out.2.2.size)
            have HY := Lib.hid yR
            have HBZ := Lib.hid hBz
            clear b0 b1 b2
            obtain ⟨⟨r0, r1, r2⟩, rf⟩ := dk_cells yR
            have rf0 := rf 0
            have rf1 := rf 1
            have rf2 := rf 2
            clear hD hbz hBz yR rf
            go_wp2
            refine bodyPost_ret (v := .tuple #[.agg #[.slice q1 d.live.length n1, .slice q2 d.safe.length n2, .slice q3 d.ops.length n3], .int .i64 C3]) (results_row_u Try.results28 _ _ (w.heap.size + 1) 27 _ (0, 0) _ rfl (set3 HY.out _ _ _) Try.underlying27 rfl (by kernel_rfl)) rfl ⟨_, _, _, by rw [HRR.out], by rw [HVV.out]; exact ⟨RowL.kept HD.out.live (grw_set3 _ _ _ _ _) (rowK HD.out.live HY.out (by decide)), RowL.kept HD.out.safe (grw_set3 _ _ _ _ _) (rowK HD.out.safe HY.out (by decide)), RowL.kept HD.out.ops (grw_set3 _ _ _ _ _) (rowK HD.out.ops HY.out (by decide))⟩, below_grw HBZ.out (grw_set3 _ _ _ _ _) HBZ.out.size (fun q hq => by cases hq; omega)⟩
          case pos =>
            subst hz
            have HJ := Lib.hid (HJ.out.next HKN.out HCC.out HU.out)
            go_upto_region 12 with (fail)
            clear b0 b1 b2 bf0 bf1 bf2 HU HCC
            generalize (((V3.setCell ⟨kN, 0, none⟩ (.slice q1 (actD E2 (2, n ++ dotNew, n, ByteArray.mk #[])).live.length n1)).setCell ⟨kN, 1, none⟩ (.slice q2 (actD E2 (2, n ++ dotNew, n, ByteArray.mk #[])).safe.length n2)).setCell ⟨kN, 2, none⟩ (.slice q3 (actD E2 (2, n ++ dotNew, n, ByteArray.mk #[])).ops.length n3)) = wx3 at HJ ⊢
            generalize actD E2 (2, n ++ dotNew, n, ByteArray.mk #[]) = E3 at HJ ⊢
            have HVV : Hid (repD d n x = E3) := by show _ = _; rw [HV.out, HJ.out.all.2 rfl]; exact allD_nil _
            have HRR : Hid (repR d n x = 0) := HR.out.trans HJ.out.all.1
            have HSZ := Lib.hid HJ.out.bel.size
            have CE := Lib.hid (copy_sn _ _ _ E3 _ HJ.out.at_ HJ.out.ok.2.2)
            obtain ⟨⟨b0, b1, b2⟩, _⟩ := dk_cells HJ.out.xN
            go_wp2_with fail
            refine CE.out.mono ?_
            rintro e wz ⟨u1, u2, u3, rfl, hD, hbz⟩
            obtain ⟨q1, n1, rfl, _⟩ := hD.live.open
            obtain ⟨q2, n2, rfl, _⟩ := hD.safe.open
            obtain ⟨q3, n3, rfl, _⟩ := hD.ops.open
            have HJ := Lib.hid (HJ.out.below hbz)
            have HD := Lib.hid (hD.mono HSZ.out)
            clear b0 b1 b2
            obtain ⟨⟨r0, r1, r2⟩, rf⟩ := dk_cells HJ.out.xR
            have rf0 := rf 0
            have rf1 := rf 1
            have rf2 := rf 2
            clear hD hbz rf
            go_wp2
            refine bodyPost_ret (v := .tuple #[.agg #[.slice q1 E3.live.length n1, .slice q2 E3.safe.length n2, .slice q3 E3.ops.length n3], .int .i64 0]) (results_row_u Try.results28 _ _ (w.heap.size + 1) 27 _ (0, 0) _ rfl (set3 HJ.out.xR _ _ _) Try.underlying27 rfl (by kernel_rfl)) rfl ⟨_, _, _, by rw [HRR.out], by rw [HVV.out]; exact ⟨RowL.kept HD.out.live (grw_set3 _ _ _ _ _) (rowK HD.out.live HJ.out.xR (by decide)), RowL.kept HD.out.safe (grw_set3 _ _ _ _ _) (rowK HD.out.safe HJ.out.xR (by decide)), RowL.kept HD.out.ops (grw_set3 _ _ _ _ _) (rowK HD.out.ops HJ.out.xR (by decide))⟩, below_grw HJ.out.bel (grw_set3 _ _ _ _ _) HJ.out.bel.size (fun q hq => by cases hq; omega)⟩
theorem repD_s (v1 v2 v3 : Value) (d : DiskT) (n x : ByteArray) (w : World) (h : DiskAt 0 v1 v2 v3 d w) (hd : d.fit) (hn : n.size ≤ 1048576) (hx : x.size ≤ 1048576) :
    Calls Try.prog 28 #[.agg #[v1, v2, v3], .string n, .string x] w fun e w' => ∃ u1 u2 u3, e = .returned (.tuple #[.agg #[u1, u2, u3], .int .i64 (repR d n x)]) ∧ DiskAt w.heap.size u1 u2 u3 (repD d n x) w' ∧ Below w.heap.size w w' :=
  repD_sn v1 v2 v3 d n x w h.toIn hd hn hx

end Go.Proofs.Ytepefbfmjjnamaa

/- The exact laws' helpers for lists of numbers of 64 bits. -/
namespace Go.Proofs.Ytepefbfmjjnamaa
open Go.RowKit Go.My Go.Lib
set_option linter.unusedVariables false

def numC (a : Int) : List Value := [.int .i64 a]
theorem numC_len (a : Int) : (numC a).length = 1 := rfl
theorem rowl_num {B e g cap n : Nat} {l : List Int} {w : World} (h : RowL B e 1 numC (.slice (some ⟨g, 0, none⟩) n cap) l w) (i : Nat) (hi : i < l.length) : w.cell? ⟨g, i, none⟩ = some (.int .i64 l[i]) := by
  have := h.cell numC_len i hi 0 (by omega) (.int .i64 l[i]) rfl
  simpa using this
theorem rowl_putNum {B e g cap n : Nat} {l : List Int} {w : World} (h : RowL B e 1 numC (.slice (some ⟨g, 0, none⟩) n cap) l w) (i : Nat) (hi : i < l.length) (b : Int) : RowL B e 1 numC (.slice (some ⟨g, 0, none⟩) n cap) (l.set i b) (w.setCell ⟨g, i, none⟩ (.int .i64 b)) := by
  have := h.set numC_len i hi 0 (by omega) (.int .i64 b) b rfl
  simpa using this
theorem info_I64 : (Try.prog.info? 2).map (fun i => (i.zero, i.size, i.bytes)) = some (some (.int .i64 0), 1, 8) := by kernel_rfl

set_option maxHeartbeats 1000000 in
theorem toInt64S_any (v : Value) (l : List Int) (w : World) (h : ArgL 1 numC v l w) (hl : l.length ≤ 1048576) : Calls Try.prog 44 #[v] w fun e w' => ∃ v', e = .returned v' ∧ RowL w.heap.size 2 1 numC v' l w' ∧ Below w.heap.size w w' := by
  obtain ⟨i0, hi, hz0, hz1, hz2⟩ := info_parts info_I64
  have H := Lib.hid h
  obtain ⟨p, cap, rfl, hlc, hcm, hp⟩ := h
  have hlI : (l.length : Int) ≤ 1048576 := by omega
  have hl0 : (0 : Int) ≤ (l.length : Int) := by omega
  clear hcm hlc
  go_enter Try.func44, Try.ntmps44
  go_wp2_with (at_make; refine wpList_make_full _ rfl _ _ 30 rfl w.heap.size 2 i0 (.int .i64 0) 1 Try.underlying30 hi hz0 hz1 .i64 .i64 _ _ l.length rfl rfl rfl rfl ?c2 ?c3 ?c4 ?_)
  case c2 => rw [hz2]; omega
  case c3 => unfold maxLen; omega
  case c4 => exact Nat.le_refl _
  intro w1 hown hgrow
  have hb1 : Below w.heap.size w w1 := (Below.refl _ _).grown hgrow (Nat.le_refl _) (by simp)
  clear hgrow
  obtain ⟨Z, hZ⟩ : ∃ Z, Z = List.replicate l.length (0 : Int) := ⟨_, rfl⟩
  have hZl : Z.length = l.length := by rw [hZ, List.length_replicate]
  have hR0 : RowL w.heap.size 2 1 numC (.slice (some ⟨w.heap.size, 0, none⟩) l.length l.length) (l.take 0 ++ Z.drop 0) w1 := by
    have e := made_flat #[.int .i64 0] numC 0 l.length rfl
    rw [show l.length * (#[Value.int .i64 0] : Array Value).size = l.length from Nat.mul_one _] at e
    unfold RowL
    rw [List.take_zero, List.nil_append, List.drop_zero, hZl, hZ, ← e]
    exact hown
  have HZ := Lib.hid hZl
  clear hown hZ hZl
  go_wp2
  go_loopw [4] (fun i wr => ∃ j : Nat, j ≤ l.length ∧ i = .int .i64 j ∧ RowL w.heap.size 2 1 numC (.slice (some ⟨w.heap.size, 0, none⟩) l.length l.length) (l.take j ++ Z.drop j) wr ∧ Below w.heap.size w wr) (fun i _ => l.length - (RowKit.intOf i).toNat)
  case atStart => exact ⟨0, Nat.zero_le _, rfl, hR0, hb1⟩
  case round =>
    clear hR0 hb1
    obtain ⟨j, hj, rfl, hR, hB⟩ := hrel
    by_cases hlt : j < l.length
    · have hne : l ≠ [] := by intro c; rw [c] at hlt; simp at hlt
      obtain ⟨b, o, rfl, hbl, hc⟩ := hp.resolve_left hne
      have j0 : (0 : Int) ≤ (j : Int) := by omega
      have j1 : (j : Int) < (l.length : Int) := by omega
      have hln := tkp_len HZ.out j hj
      have hps := tkp_put HZ.out j hlt
      have a0 := (hB.cell (p := ⟨b, o + (j * 1 + 0), none⟩) hbl).trans (hc j hlt 0 (.int .i64 l[j]) rfl)
      rw [show o + (j * 1 + 0) = o + j from by omega] at a0
      have PW := Lib.hid (rowl_putNum hR j (by rw [hln]; exact hlt) l[j])
      rw [hps] at PW
      have z0 := hR.frozen j
      have c0 := rowl_num hR j (by rw [hln]; exact hlt)
      generalize (l.take j ++ Z.drop j)[j]'(by rw [hln]; exact hlt) = y0 at *
      generalize l[j] = x at *
      have HB2 := Lib.hid hB
      clear hR hc hln hps hne hp hB
      go_wp2
      go_roundw
      case rel => exact ⟨j + 1, by omega, by go_num, PW.out, HB2.out.setCell (p := ⟨w.heap.size, j, none⟩) (Nat.le_refl _) _⟩
      case measure => simp [RowKit.intOf]; omega
    · obtain rfl : j = l.length := by omega
      rw [List.take_length, List.drop_eq_nil_of_le (by rw [HZ.out]; exact Nat.le_refl _), List.append_nil] at hR
      go_wp2
      go_ret
      exact ⟨_, rfl, hR, hB⟩

set_option maxHeartbeats 1000000 in
theorem eqInt64S_same (v1 v2 : Value) (l : List Int) (w : World) (h1 : RowL 0 2 1 numC v1 l w) (h2 : RowL 0 2 1 numC v2 l w) (hl : l.length ≤ 4611686018427387904) :
    Calls Try.prog 45 #[v1, v2] w fun e w' => e = .returned (.bool true) ∧ Below w.heap.size w w' := by
  obtain ⟨p1, cap1, rfl, hm1, _, hp1⟩ := h1.open
  obtain ⟨p2, cap2, rfl, hm2, _, hp2⟩ := h2.open
  have H1 := Lib.hid h1
  have H2 := Lib.hid h2
  have hlI : (l.length : Int) ≤ 4611686018427387904 := by omega
  clear h1 h2 hm1 hm2
  go_enter Try.func45, Try.ntmps45
  go_wp2
  go_loopw [5] (fun i wr => ∃ j : Nat, j ≤ l.length ∧ i = .int .i64 j ∧ Below w.heap.size w wr) (fun i _ => l.length - (RowKit.intOf i).toNat)
  case atStart => exact ⟨0, Nat.zero_le _, rfl, Below.refl _ _⟩
  case round =>
    obtain ⟨j, hj, rfl, hb⟩ := hrel
    by_cases hlt : j < l.length
    · have hne : l ≠ [] := by intro c; rw [c] at hlt; simp at hlt
      obtain ⟨g1, rfl, _, hg1⟩ := hp1.resolve_left (fun c => hne c.1)
      obtain ⟨g2, rfl, _, hg2⟩ := hp2.resolve_left (fun c => hne c.1)
      have j0 : (0 : Int) ≤ (j : Int) := by omega
      have j1 : (j : Int) < (l.length : Int) := by omega
      have c1 := rowl_num (H1.out.below hb) j hlt
      have c2 := rowl_num (H2.out.below hb) j hlt
      generalize l[j] = s at *
      go_wp2
      go_region
      all_goals
        go_wp2
        go_roundw
        case rel => exact ⟨j + 1, by omega, by go_num, hb.drew⟩
        case measure => simp [RowKit.intOf]; omega
    · obtain rfl : j = l.length := by omega
      go_wp2
      go_ret
      exact ⟨rfl, hb⟩

set_option maxHeartbeats 1000000 in
/-- 'markInt64S' writes into the list and answers the next mark. -/
theorem markInt64S_any (v : Value) (l : List Int) (k : Nat) (w : World) (h : RowL 0 2 1 numC v l w) (hl : k + l.length ≤ 4611686018427387904) :
    Calls Try.prog 46 #[v, .int .i64 k] w fun e w' => e = .returned (.int .i64 ((k + l.length : Nat) : Int)) ∧ w.grownBy w' v.ownBlock := by
  obtain ⟨p, cap, rfl, hm, _, hp⟩ := h.open
  have H := Lib.hid h
  have hlI : (k : Int) + (l.length : Int) ≤ 4611686018427387904 := by omega
  clear h hm
  go_enter Try.func46, Try.ntmps46
  go_wp2
  go_loopw [1, 5] (fun q i wr => ∃ (j : Nat) (m : List Int), j ≤ l.length ∧ m.length = l.length ∧ i = .int .i64 j ∧ q = .int .i64 ((k + j : Nat) : Int) ∧ RowL 0 2 1 numC (.slice p l.length cap) m wr ∧ w.grownBy wr (Value.slice p l.length cap).ownBlock) (fun _ i _ => l.length - (RowKit.intOf i).toNat)
  case atStart => exact ⟨0, l, Nat.zero_le _, rfl, rfl, rfl, H.out, grw_refl _ _⟩
  case round =>
    obtain ⟨j, m, hj, hml, rfl, rfl, hR, hG⟩ := hrel
    by_cases hlt : j < l.length
    · have hne : l ≠ [] := by intro c; rw [c] at hlt; simp at hlt
      obtain ⟨g, rfl, _, hg⟩ := hp.resolve_left (fun c => hne c.1)
      have j0 : (0 : Int) ≤ (j : Int) := by omega
      have j1 : (j : Int) < (l.length : Int) := by omega
      have hjm : j < m.length := by omega
      have e1 : ((k + j : Nat) : Int) = (k : Int) + (j : Int) := by omega
      have PW := Lib.hid (rowl_putNum hR j hjm ((k + j : Nat) : Int))
      have ML := Lib.hid (show (m.set j ((k + j : Nat) : Int)).length = l.length by rw [List.length_set]; exact hml)
      have hfz := hR.frozen j
      have hce := rowl_num hR j hjm
      generalize m[j] = s0 at *
      have GW := Lib.hid (grw_set (show w.grownBy wr (some g) from hG) j (.int .i64 ((k + j : Nat) : Int)))
      clear hR hG hml hjm hne hp hg
      go_wp2
      go_roundw
      case rel => exact ⟨j + 1, _, by omega, ML.out, by go_num, by go_num, PW.out, GW.out⟩
      case measure => simp [RowKit.intOf]; omega
    · obtain rfl : j = l.length := by omega
      go_wp2
      go_ret
      exact ⟨rfl, hG⟩

end Go.Proofs.Ytepefbfmjjnamaa

/- The program: a loss of power. -/
namespace Go.Proofs.Ytepefbfmjjnamaa
open Go.RowKit Go.My Go.Lib
set_option linter.unusedVariables false

set_option maxRecDepth 20000 in
set_option maxHeartbeats 2000000 in
theorem indexesOk_i (v : Value) (keep : List Int) (n : Nat) (w : World) (h : RowL 0 2 1 numC v keep w) (hl : keep.length ≤ 1048576) (hn : n ≤ 1048576) :
    Calls Try.prog 100 #[v, .int .i64 (n : Int)] w fun e w' => e = .returned (.bool (idxB (-1) keep n)) ∧ Below w.heap.size w w' := by
  obtain ⟨p, cap, rfl, hm, _, hp⟩ := h.open
  have H := Lib.hid h
  have hlI : (keep.length : Int) ≤ 1048576 := by omega
  clear h hm
  go_enter Try.func100, Try.ntmps100
  go_wp2
  go_loopw [5, 10] (fun q i wr => ∃ j : Nat, j ≤ keep.length ∧ i = .int .i64 j ∧ q = .int .i64 (lastAt keep j) ∧ (∀ i, i < j → lastAt keep i < keep.getD i 0 ∧ keep.getD i 0 < (n : Int)) ∧ Below w.heap.size w wr) (fun _ i _ => keep.length - (RowKit.intOf i).toNat)
  case atStart => exact ⟨0, Nat.zero_le _, rfl, rfl, fun i hi => by omega, Below.refl _ _⟩
  case round =>
    obtain ⟨j, hj, rfl, rfl, hall, hB⟩ := hrel
    by_cases hlt : j < keep.length
    · have hne : keep ≠ [] := by intro c; rw [c] at hlt; simp at hlt
      obtain ⟨g, rfl, _, hg⟩ := hp.resolve_left (fun c => hne c.1)
      have j0 : (0 : Int) ≤ (j : Int) := by omega
      have j1 : (j : Int) < (keep.length : Int) := by omega
      have c0 := rowl_num (H.out.below hB) j hlt
      have HG : Hid (keep.getD j 0 = keep[j]) := by show _ = _; rw [List.getD_eq_getElem?_getD, List.getElem?_eq_getElem hlt]; rfl
      have HALL := Lib.hid hall
      have HBAD := Lib.hid (fun h => idx_bad (n := n) hlt h)
      have HNX : Hid (lastAt keep (j + 1) = keep[j]) := HG.out
      rw [HG.out] at HBAD
      clear hall hne hp hg
      obtain ⟨x, hx⟩ : ∃ x, keep[j] = x := ⟨_, rfl⟩
      obtain ⟨y, hy⟩ : ∃ y, lastAt keep j = y := ⟨_, rfl⟩
      rw [hx] at HG HBAD HNX c0
      rw [hy] at HBAD ⊢
      have HY := Lib.hid hy
      clear hx hy
      by_cases q1 : x ≤ y
      · have HR := Lib.hid (HBAD.out (by omega))
        go_wp2
        go_ret
        exact ⟨by rw [HR.out]; rfl, hB⟩
      by_cases q2 : x ≥ (n : Int)
      · have HR := Lib.hid (HBAD.out (by omega))
        go_wp2
        go_ret
        exact ⟨by rw [HR.out]; rfl, hB⟩
      have HQ : Hid (y < x ∧ x < (n : Int)) := ⟨by omega, by omega⟩
      go_wp2
      go_roundw
      case rel =>
        refine ⟨j + 1, by omega, by go_num, by rw [HNX.out], fun i hi => ?_, hB⟩
        by_cases c : i = j
        · subst c; rw [HG.out, HY.out]; exact HQ.out
        · exact HALL.out i (by omega)
      case measure => simp [RowKit.intOf]; omega
    · obtain rfl : j = keep.length := by omega
      have HR := Lib.hid ((idx_all keep n).2 hall)
      go_wp2
      go_ret
      exact ⟨by rw [HR.out]; rfl, hB⟩

theorem keptO_in {d : DiskT} {keep : List Int} {T j q : Nat} (hk : keep.getD j 0 = (q : Int)) (hq : q < d.ops.length) : keptO d.ops keep T j = if j + 1 = keep.length then tearO T d.ops[q] else d.ops[q] := by
  unfold keptO
  rw [hk, show ((q : Int)).toNat = q from rfl]
  have e : d.ops.getD q dOpZ = d.ops[q] := by rw [List.getD_eq_getElem?_getD, List.getElem?_eq_getElem hq]; rfl
  rw [e]

set_option maxRecDepth 20000 in
set_option maxHeartbeats 4000000 in
theorem crash_i (dv : Nat) (v1 v2 v3 vk : Value) (d : DiskT) (keep : List Int) (torn : Int) (w : World) (hdv : w.heap[dv]? = some (.cells #[v1, v2, v3] 79 (0, 0))) (h : DiskAt 0 v1 v2 v3 d w) (hd : d.fit) (hk : diskB d = true) (hK : RowL 0 2 1 numC vk keep w) (hlen : keep.length ≤ 1048576) :
    Calls Try.prog 59 #[.pointer (some ⟨dv, 0, none⟩), vk, .int .i64 torn] w fun e w' => e = .returned (.bool (crB d keep torn)) ∧ (crB d keep torn = true → ∃ u, w'.heap[dv]? = some (.cells #[u, u, .slice none 0 0] 79 (0, 0)) ∧ FilesAt 0 u (crL d keep torn.toNat keep.length) w') ∧ w.grownBy w' (some dv) := by
  have HC : Hid (crB d keep torn = (true && decide (0 ≤ torn) && idxB (-1) keep d.ops.length && filesB (crL d keep torn.toNat keep.length))) := by show _ = _; unfold crB; rw [hk]
  have h200 := diskB_ops hk
  have hfs : filesB d.safe = true := by
    unfold diskB at hk
    simp only [Bool.and_eq_true, decide_eq_true_eq] at hk
    exact hk.1.1.2
  have CX := Lib.hid (fun W (hW : Below w.heap.size w W) => indexesOk_i vk keep d.ops.length W (hK.below hW) hlen (by omega))
  have H := Lib.hid (And.intro hdv (And.intro h (And.intro hd hK)))
  have hoI : (d.ops.length : Int) ≤ 200 := by omega
  have hkI : (keep.length : Int) ≤ 1048576 := by omega
  have hdlt : dv < w.heap.size := (Array.getElem?_eq_some_iff.1 hdv).1
  obtain ⟨p1, m1, rfl, _, _, _⟩ := h.live.open
  obtain ⟨p2, m2, rfl, _, _, _⟩ := h.safe.open
  obtain ⟨p3, m3, rfl, _, _, hp3⟩ := h.ops.open
  obtain ⟨pk, mk, rfl, _, _, hpk⟩ := hK.open
  obtain ⟨⟨d0, d1, d2⟩, _⟩ := dk_cells hdv
  clear hdv h hK
  by_cases ht : torn < 0
  · have HR : Hid (crB d keep torn = false) := by show _ = _; rw [HC.out, decide_eq_false (by omega)]; rfl
    clear hk HC CX hd
    go_enter Try.func59, Try.ntmps59
    go_wp2
    go_ret
    exact ⟨by rw [HR.out]; rfl, fun c => (by rw [HR.out] at c; cases c), grw_refl _ _⟩
  obtain ⟨T, rfl⟩ : ∃ T : Nat, torn = (T : Int) := ⟨torn.toNat, by omega⟩
  rw [decide_eq_true (by omega), show ((T : Int)).toNat = T from rfl] at HC
  have HM := Lib.hid (mid_all hd hfs keep T)
  have HKS := Lib.hid (kept_small hd keep T)
  have HKN := Lib.hid (fun h j hj => keep_nat (keep := keep) (n := d.ops.length) h (j := j) hj)
  have HKI := Lib.hid (fun j q hk hq => keptO_in (d := d) (keep := keep) (T := T) (j := j) (q := q) hk hq)
  have HK2 := Lib.hid (fun h => keep_len (keep := keep) (n := d.ops.length) h)
  obtain ⟨I, hI⟩ : ∃ I, idxB (-1) keep d.ops.length = I := ⟨_, rfl⟩
  rw [hI] at HC CX HKN HK2
  show Calls _ _ _ _ (fun e w' => e = .returned (.bool (crB d keep (T : Int))) ∧ (crB d keep (T : Int) = true → ∃ u, w'.heap[dv]? = some (.cells #[u, u, .slice none 0 0] 79 (0, 0)) ∧ FilesAt 0 u (crL d keep T keep.length) w') ∧ w.grownBy w' (some dv))
  generalize crB d keep (T : Int) = R at HC ⊢
  clear hk hd hI
  go_enter Try.func59, Try.ntmps59
  go_wp2_with fail
  refine (CX.out _ (Below.refl _ _)).mono ?_
  rintro e w1 ⟨rfl, hB1⟩
  have HB1 := Lib.hid hB1
  cases I with
  | false =>
    have HR : Hid (R = false) := by show _ = _; rw [HC.out]; rfl
    clear hB1 d0 d1 d2
    go_wp2
    go_ret
    exact ⟨by rw [HR.out]; rfl, fun c => (by rw [HR.out] at c; cases c), grw_of_below HB1.out _⟩
  | true =>
    have HR : Hid (R = filesB (crL d keep T keep.length)) := HC.out
    have HKS2 : Hid (keep.length ≤ 200) := Nat.le_trans (HK2.out (by simp)) h200
    clear HC CX d0 d1 d2
    obtain ⟨⟨d0, d1, d2⟩, _⟩ := dk_cells ((hB1.block dv hdlt).trans H.out.1)
    clear hB1
    go_upto_region 5 with (fail)
    clear d0 d1 d2
    go_loopw [7, 29] (fun f i wr => ∃ j : Nat, j ≤ keep.length ∧ i = .int .i64 j ∧ FilesAt 0 f (crL d keep T j) wr ∧ Below w.heap.size w wr) (fun _ i _ => keep.length - (RowKit.intOf i).toNat)
    case atStart => exact ⟨0, Nat.zero_le _, rfl, H.out.2.1.safe.below HB1.out, HB1.out⟩
    case round =>
      obtain ⟨j, hj, rfl, hF, hB⟩ := hrel
      have HMJ := Lib.hid (HM.out j)
      have HF := Lib.hid hF
      have HB := Lib.hid hB
      obtain ⟨pf, cf, rfl, _⟩ := hF.open
      obtain ⟨⟨d0, d1, d2⟩, _⟩ := dk_cells ((hB.block dv hdlt).trans H.out.1)
      by_cases hlt : j < keep.length
      · have hne : keep ≠ [] := by intro c; rw [c] at hlt; simp at hlt
        obtain ⟨gk, rfl, _, hgk⟩ := hpk.resolve_left (fun c => hne c.1)
        have j0 : (0 : Int) ≤ (j : Int) := by omega
        have j1 : (j : Int) < (keep.length : Int) := by omega
        obtain ⟨q, hq, hqn⟩ := HKN.out (by simp) j hlt
        have ck := rowl_num (H.out.2.2.2.below hB) j hlt
        have hG : keep[j] = (q : Int) := by rw [← hq, List.getD_eq_getElem?_getD, List.getElem?_eq_getElem hlt]; rfl
        rw [hG] at ck
        have hne2 : d.ops ≠ [] := by intro c; rw [c] at hqn; simp at hqn
        obtain ⟨go, rfl, _, hgo⟩ := hp3.resolve_left (fun c => hne2 (by first | exact c.1 | exact c))
        have q0 : (0 : Int) ≤ (q : Int) := by omega
        have q1 : (q : Int) < (d.ops.length : Int) := by omega
        obtain ⟨x, hx⟩ : ∃ x, d.ops[q] = x := ⟨_, rfl⟩
        have hA := H.out.2.1.ops.below hB
        have c0 : wr.cell? ⟨go, q * 4, none⟩ = some (.int .i64 x.1) := hA.at dOpC_len hqn hx 0 (by omega) rfl
        have c1 : wr.cell? ⟨go, q * 4 + 1, none⟩ = some (.string x.2.1) := hA.at dOpC_len hqn hx 1 (by omega) rfl
        have c2 : wr.cell? ⟨go, q * 4 + 2, none⟩ = some (.string x.2.2.1) := hA.at dOpC_len hqn hx 2 (by omega) rfl
        have c3 : wr.cell? ⟨go, q * 4 + 3, none⟩ = some (.string x.2.2.2) := hA.at dOpC_len hqn hx 3 (by omega) rfl
        have HO := Lib.hid (HKI.out j q hq hqn)
        rw [hx] at HO
        have HJ := Lib.hid hlt
        have HLEN := Lib.hid (Nat.le_of_lt (Nat.lt_of_lt_of_le hlt HKS2.out))
        have hxs : (x.2.2.2.size : Int) ≤ 1048576 := by have := (H.out.2.2.1.ops _ (List.getElem_mem hqn)).2.2.2; rw [hx] at this; omega
        clear hA hG hne hne2 hgk hgo hx hF hB hpk hp3 hq
        go_upto_region 8 with (fail)
        have HCL : Hid ((crL d keep T j).length ≤ 1048576) := by have := HMJ.out.len; have := HLEN.out; show _ ≤ _; omega
        have HDS : Hid ((dataOf (crL d keep T j) x.2.1).size ≤ 1099511627776) := by
          have h1 := dataOf_le (crL d keep T j) x.2.1
          have h2 := HMJ.out.sum
          have h3 := HLEN.out
          have h4 : j * 1048576 ≤ 200 * 1048576 := Nat.mul_le_mul_right _ (by omega)
          show _ ≤ _
          omega
        by_cases hl : j + 1 = keep.length
        · have e1 : (j : Int) = (keep.length : Int) - 1 := by omega
          have e2 : ((j : Int) == (keep.length : Int) - 1) = true := by simpa using e1
          rw [if_pos hl] at HO
          go_upto_region 9 with (fail)
          clear e1 e2
          go_upto_region 10 with (fail)
          have hm : (min (T : Int) (x.2.2.2.size : Int)).toNat = min T x.2.2.2.size := by omega
          have HO : Hid (keptO d.ops keep T j = (x.1, x.2.1, x.2.2.1, x.2.2.2.extract 0 (min (T : Int) (x.2.2.2.size : Int)).toNat)) := by show _ = _; rw [HO.out, hm]; rfl
          have HBS : Hid ((x.2.2.2.extract 0 (min (T : Int) (x.2.2.2.size : Int)).toNat).size ≤ 1099511627776) := by show _ ≤ _; rw [ByteArray.size_extract]; omega
          clear hm
          generalize x.2.2.2.extract 0 (min (T : Int) (x.2.2.2.size : Int)).toNat = b at HO HBS ⊢
          have b0 : Below wr.heap.size wr (wr.alloc (.cells #[.int .i64 x.1, .string x.2.1, .string x.2.2.1, .string b] 36)) := (Below.refl _ _).alloc (Nat.le_refl _) _
          have e5 := heap_alloc_new wr (.cells #[.int .i64 x.1, .string x.2.1, .string x.2.2.1, .string b] 36)
          have HF5 := Lib.hid (HF.out.below b0)
          have HB5 := Lib.hid (HB.out.trans (b0.mono HB.out.size))
          have CF := Lib.hid (finds_i (.slice pf (crL d keep T j).length cf) (crL d keep T j) x.1 x.2.1 x.2.2.1 b _ HF5.out HCL.out HMJ.out.srt)
          generalize wr.alloc (.cells #[.int .i64 x.1, .string x.2.1, .string x.2.2.1, .string b] 36) = W5 at e5 HF5 HB5 CF ⊢
          have HE5 := Lib.hid e5
          obtain ⟨⟨o0, o1, o2, o3⟩, _⟩ := dop_cells e5
          clear b0 e5 c0 c1 c2 c3 ck
          go_wp2_with fail
          refine CF.out.mono ?_
          rintro e w6 ⟨rfl, hb6⟩
          have HF6 := Lib.hid (HF5.out.below hb6)
          have HB6 := Lib.hid (HB5.out.trans (hb6.mono HB5.out.size))
          obtain ⟨⟨q0', q1', q2', q3'⟩, _⟩ := dop_cells ((hb6.block _ (Array.getElem?_eq_some_iff.1 HE5.out).1).trans HE5.out)
          have HNX : Hid (crL d keep T (j + 1) = crF (crL d keep T j) (x.1, x.2.1, x.2.2.1, b)) := by show crF (crL d keep T j) (keptO d.ops keep T j) = _; rw [HO.out]
          clear hb6 o0 o1 o2 o3 CF
          cases hfb : findB (crL d keep T j) (x.1, x.2.1, x.2.2.1, b) with
          | true =>
            have HN2 : Hid (crL d keep T (j + 1) = aftL (crL d keep T j) (x.1, x.2.1, x.2.2.1, b)) := by show _ = _; rw [HNX.out]; unfold crF; rw [if_pos hfb]
            have CA := Lib.hid (after_i (.slice pf (crL d keep T j).length cf) (crL d keep T j) x.1 x.2.1 x.2.2.1 b w6 HF6.out HCL.out HMJ.out.srt HBS.out HDS.out)
            clear hfb
            go_wp2_with fail
            refine CA.out.mono ?_
            rintro e w7 ⟨u, rfl, hu, hb7⟩
            obtain ⟨pu, cu, rfl, _⟩ := hu.open
            have HU := Lib.hid (hu.mono (Nat.zero_le _))
            have HB7 := Lib.hid (HB6.out.trans (hb7.mono HB6.out.size))
            clear hu hb7 CA q0' q1' q2' q3'
            go_wp2
            go_roundw
            case rel => exact ⟨j + 1, HJ.out, by go_num, by rw [HN2.out]; exact HU.out, HB7.out⟩
            case measure => have := HJ.out; simp [RowKit.intOf]; omega
          | false =>
            have HN2 : Hid (crL d keep T (j + 1) = crL d keep T j) := by show _ = _; rw [HNX.out]; unfold crF; rw [if_neg (by rw [hfb]; decide)]
            clear hfb
            go_wp2
            go_roundw
            case rel => exact ⟨j + 1, HJ.out, by go_num, by rw [HN2.out]; exact HF6.out, HB6.out⟩
            case measure => have := HJ.out; simp [RowKit.intOf]; omega
        · have e1 : ¬ (j : Int) = (keep.length : Int) - 1 := by omega
          have e2 : ((j : Int) == (keep.length : Int) - 1) = false := by simpa using e1
          rw [if_neg hl] at HO
          go_upto_region 10 with (fail)
          clear e1 e2
          have HO : Hid (keptO d.ops keep T j = (x.1, x.2.1, x.2.2.1, x.2.2.2)) := HO.out
          have HBS : Hid (x.2.2.2.size ≤ 1099511627776) := by show _ ≤ _; omega
          have b0 : Below wr.heap.size wr (wr.alloc (.cells #[.int .i64 x.1, .string x.2.1, .string x.2.2.1, .string x.2.2.2] 36)) := (Below.refl _ _).alloc (Nat.le_refl _) _
          have e5 := heap_alloc_new wr (.cells #[.int .i64 x.1, .string x.2.1, .string x.2.2.1, .string x.2.2.2] 36)
          have HF5 := Lib.hid (HF.out.below b0)
          have HB5 := Lib.hid (HB.out.trans (b0.mono HB.out.size))
          have CF := Lib.hid (finds_i (.slice pf (crL d keep T j).length cf) (crL d keep T j) x.1 x.2.1 x.2.2.1 x.2.2.2 _ HF5.out HCL.out HMJ.out.srt)
          generalize wr.alloc (.cells #[.int .i64 x.1, .string x.2.1, .string x.2.2.1, .string x.2.2.2] 36) = W5 at e5 HF5 HB5 CF ⊢
          have HE5 := Lib.hid e5
          obtain ⟨⟨o0, o1, o2, o3⟩, _⟩ := dop_cells e5
          clear b0 e5 c0 c1 c2 c3 ck
          go_wp2_with fail
          refine CF.out.mono ?_
          rintro e w6 ⟨rfl, hb6⟩
          have HF6 := Lib.hid (HF5.out.below hb6)
          have HB6 := Lib.hid (HB5.out.trans (hb6.mono HB5.out.size))
          obtain ⟨⟨q0', q1', q2', q3'⟩, _⟩ := dop_cells ((hb6.block _ (Array.getElem?_eq_some_iff.1 HE5.out).1).trans HE5.out)
          have HNX : Hid (crL d keep T (j + 1) = crF (crL d keep T j) (x.1, x.2.1, x.2.2.1, x.2.2.2)) := by show crF (crL d keep T j) (keptO d.ops keep T j) = _; rw [HO.out]
          clear hb6 o0 o1 o2 o3 CF
          cases hfb : findB (crL d keep T j) (x.1, x.2.1, x.2.2.1, x.2.2.2) with
          | true =>
            have HN2 : Hid (crL d keep T (j + 1) = aftL (crL d keep T j) (x.1, x.2.1, x.2.2.1, x.2.2.2)) := by show _ = _; rw [HNX.out]; unfold crF; rw [if_pos hfb]
            have CA := Lib.hid (after_i (.slice pf (crL d keep T j).length cf) (crL d keep T j) x.1 x.2.1 x.2.2.1 x.2.2.2 w6 HF6.out HCL.out HMJ.out.srt HBS.out HDS.out)
            clear hfb
            go_wp2_with fail
            refine CA.out.mono ?_
            rintro e w7 ⟨u, rfl, hu, hb7⟩
            obtain ⟨pu, cu, rfl, _⟩ := hu.open
            have HU := Lib.hid (hu.mono (Nat.zero_le _))
            have HB7 := Lib.hid (HB6.out.trans (hb7.mono HB6.out.size))
            clear hu hb7 CA q0' q1' q2' q3'
            go_wp2
            go_roundw
            case rel => exact ⟨j + 1, HJ.out, by go_num, by rw [HN2.out]; exact HU.out, HB7.out⟩
            case measure => have := HJ.out; simp [RowKit.intOf]; omega
          | false =>
            have HN2 : Hid (crL d keep T (j + 1) = crL d keep T j) := by show _ = _; rw [HNX.out]; unfold crF; rw [if_neg (by rw [hfb]; decide)]
            clear hfb
            go_wp2
            go_roundw
            case rel => exact ⟨j + 1, HJ.out, by go_num, by rw [HN2.out]; exact HF6.out, HB6.out⟩
            case measure => have := HJ.out; simp [RowKit.intOf]; omega
      · obtain rfl : j = keep.length := by omega
        have HCL : Hid ((crL d keep T keep.length).length ≤ 1048576) := by have := HMJ.out.len; have := HKS2.out; show _ ≤ _; omega
        have CO := Lib.hid (ok_i (.slice pf (crL d keep T keep.length).length cf) (crL d keep T keep.length) wr HF.out HCL.out (by have := HMJ.out.sum; have := HKS2.out; have h4 : keep.length * 1048576 ≤ 200 * 1048576 := Nat.mul_le_mul_right _ (by omega); omega) (fun a ha => by have := HMJ.out.nam a ha; omega))
        generalize hFF : crL d keep T keep.length = F at CO HF HR ⊢
        have HFF := Lib.hid hFF
        clear hF hB hFF
        go_wp2_with fail
        refine CO.out.mono ?_
        rintro e w3 ⟨rfl, hb3⟩
        have HF3 := Lib.hid (HF.out.below hb3)
        have HB3 := Lib.hid (HB.out.trans (hb3.mono HB.out.size))
        clear hb3 CO d0 d1 d2
        obtain ⟨⟨d0, d1, d2⟩, df⟩ := dk_cells ((HB3.out.block dv hdlt).trans H.out.1)
        have df0 := df 0
        have df1 := df 1
        have df2 := df 2
        clear df
        cases hfo : filesB F with
        | false =>
          rw [hfo] at HR
          clear hfo
          go_wp2
          go_ret
          exact ⟨by rw [HR.out]; rfl, fun c => (by rw [HR.out] at c; cases c), grw_of_below HB3.out _⟩
        | true =>
          rw [hfo] at HR
          clear hfo
          have HXD := Lib.hid ((HB3.out.block dv hdlt).trans H.out.1)
          go_wp2
          go_ret
          have gz := grw_set3 w3 dv (.slice pf F.length cf) (.slice pf F.length cf) (.slice none 0 0)
          exact ⟨by rw [HR.out]; rfl, fun _ => ⟨_, set3 HXD.out _ _ _, by rw [HFF.out]; exact RowL.kept HF3.out gz (rowK HF3.out HXD.out (by decide))⟩, grw_trans (grw_of_below HB3.out _) gz⟩

end Go.Proofs.Ytepefbfmjjnamaa

/- The program: Crash. -/
namespace Go.Proofs.Ytepefbfmjjnamaa
open Go.RowKit Go.My Go.Lib
set_option linter.unusedVariables false

theorem crB_no {d : DiskT} {keep : List Int} {torn : Int} (h : diskB d = false) : crB d keep torn = false := by unfold crB; rw [h]; rfl
theorem crB_files {d : DiskT} {keep : List Int} {torn : Int} (h : crB d keep torn = true) : filesB (crL d keep torn.toNat keep.length) = true := by
  unfold crB at h
  rw [Bool.and_eq_true] at h
  exact h.2
theorem crD_small {d : DiskT} {keep : List Int} {torn : Int} : (crD d keep torn).small := by
  cases c : crB d keep torn with
  | false => rw [crD_no c]; exact ⟨by simp, by simp, by simp⟩
  | true =>
    rw [crD_yes c]
    have := (filesB_of (crB_files c)).len
    exact ⟨by show (crL _ _ _ _).length ≤ _; omega, by show (crL _ _ _ _).length ≤ _; omega, by simp⟩

set_option maxRecDepth 20000 in
set_option maxHeartbeats 4000000 in
theorem crD_in (v1 v2 v3 vk : Value) (d : DiskT) (keep : List Int) (torn : Int) (w : World) (h : DiskIn v1 v2 v3 d w) (hd : d.fit) (hK : RowL 0 2 1 numC vk keep w) (hlen : keep.length ≤ 1048576) :
    Calls Try.prog 19 #[.agg #[v1, v2, v3], vk, .int .i64 torn] w fun e w' => ∃ u1 u2 u3, e = .returned (.tuple #[.agg #[u1, u2, u3], .bool (crB d keep torn)]) ∧ DiskAt w.heap.size u1 u2 u3 (crD d keep torn) w' ∧ ApartV u1 u2 ∧ Below w.heap.size w w' := by
  have C := Lib.hid (fun W (hW : Below w.heap.size w W) => driveOf_in v1 v2 v3 d W (h.below hW) hd)
  have HL := Lib.hid (And.intro hd hlen)
  have HSM := Lib.hid (crD_small (d := d) (keep := keep) (torn := torn))
  have HSF := Lib.hid (And.intro h.safe hK)
  have hno := fun hk => crB_no (d := d) (keep := keep) (torn := torn) hk
  obtain ⟨p1, m1, rfl, _, _, _⟩ := h.live.open
  obtain ⟨p2, m2, rfl, _, _, _⟩ := h.safe.open
  obtain ⟨p3, m3, rfl, _, _, _⟩ := h.ops.open
  obtain ⟨pk, mk, rfl, _⟩ := hK.open
  clear h hd hK hlen
  go_enter Try.func19, Try.ntmps19
  go_wp2_with fail
  refine (C.out _ ?_).mono ?_
  · exact ((Below.refl _ _).alloc (Nat.le_refl _) _).alloc (by simp) _
  rintro e w2 ⟨a, b, c, rfl, ⟨pa, na, ca, rfl⟩, ⟨pb, nb, cb, rfl⟩, ⟨pc, nc, cc, rfl⟩, hb2, hf⟩
  obtain ⟨hB2, xA, xR⟩ := boxes2 w _ _ _ hb2
  have HB2 := Lib.hid hB2
  have hlt2 : w.heap.size + 1 < w2.heap.size := (Array.getElem?_eq_some_iff.1 xR).1
  have hb3 : Below w2.heap.size w2 (w2.alloc (.cells #[.slice pa na ca, .slice pb nb cb, .slice pc nc cc] 79)) := (Below.refl _ _).alloc (Nat.le_refl _) _
  have hs3 : (w2.alloc (.cells #[.slice pa na ca, .slice pb nb cb, .slice pc nc cc] 79)).heap.size = w2.heap.size + 1 := by simp
  have yR := (hb3.block _ hlt2).trans xR
  have HB3 := Lib.hid hb3
  have HYR := Lib.hid (And.intro yR hs3)
  have HXR := Lib.hid xR
  clear hb2 C hB2 hb3 hs3 xR xA
  cases hk : diskB d with
  | false =>
    have HV := Lib.hid (crD_no (hno hk))
    have HR := Lib.hid (hno hk)
    clear hk hf
    obtain ⟨⟨r0, r1, r2⟩, rf⟩ := dk_cells HXR.out
    have rf0 := rf 0
    have rf1 := rf 1
    have rf2 := rf 2
    clear yR rf
    go_wp2
    have gz := grw_set3 w2 (w.heap.size + 1) (.slice none 0 0) (.slice none 0 0) (.slice none 0 0)
    have hBz := below_grw HB2.out gz HB2.out.size (fun q hq => by cases hq; omega)
    have hAl := (Below.refl _ ((((w2.setCell ⟨w.heap.size + 1, 0, none⟩ (.slice none 0 0)).setCell ⟨w.heap.size + 1, 1, none⟩ (.slice none 0 0)).setCell ⟨w.heap.size + 1, 2, none⟩ (.slice none 0 0)))).alloc (Nat.le_refl _) (.cells #[.slice pa na ca, .slice pb nb cb, .slice pc nc cc] 79)
    have hfin := (hAl.block (w.heap.size + 1) (Nat.lt_of_lt_of_le hlt2 gz.size)).trans (set3 HXR.out (.slice none 0 0) (.slice none 0 0) (.slice none 0 0))
    refine bodyPost_ret (v := .tuple #[.agg #[.slice none 0 0, .slice none 0 0, .slice none 0 0], .bool false]) (results_row_u Try.results19 _ _ (w.heap.size + 1) 27 _ (0, 0) _ rfl hfin Try.underlying27 rfl (by kernel_rfl)) rfl ⟨_, _, _, by rw [HR.out], by rw [HV.out]; exact nilDisk _ _, .inl rfl, hBz.trans (hAl.mono hBz.size)⟩
  | true =>
    have HV := Lib.hid (fun hc => crD_yes (d := d) (keep := keep) (torn := torn) hc)
    have HVN := Lib.hid (fun hc => crD_no (d := d) (keep := keep) (torn := torn) hc)
    obtain ⟨f1, f2, f3, hb⟩ := hf hk
    injection hb with hb1 hb2 hb3
    subst hb1 hb2 hb3
    have hB3 : Below w.heap.size w _ := HB2.out.trans (HB3.out.mono HB2.out.size)
    have xD := heap_alloc_new w2 (.cells #[.slice pa na ca, .slice pb d.safe.length cb, .slice pc nc cc] 79)
    have CC := Lib.hid (crash_i w2.heap.size (.slice pa na ca) (.slice pb d.safe.length cb) (.slice pc nc cc) (.slice pk keep.length mk) d keep torn _ xD ⟨(f1.below HB3.out).mono (Nat.zero_le _), (f2.below HB3.out).mono (Nat.zero_le _), (f3.below HB3.out).mono (Nat.zero_le _)⟩ HL.out.1 hk (HSF.out.2.below hB3) HL.out.2)
    have HDV := Lib.hid (And.intro hB3 HYR.out)
    clear hf hk hno f1 f2 f3 xD hB3 yR
    go_wp2_with fail
    refine CC.out.mono ?_
    rintro e w3 ⟨rfl, hyes, hgr⟩
    have zR := (hgr.block (w.heap.size + 1) (by rw [HYR.out.2]; omega) (fun c => by have := Option.some.inj c; omega)).trans HYR.out.1
    have hB3 : Below w.heap.size w w3 := HDV.out.1.grown hgr HDV.out.1.size (fun q hq => by have := Option.some.inj hq; omega)
    have HB3' := Lib.hid hB3
    have HZ := Lib.hid zR
    have HYES := Lib.hid hyes
    clear hyes hgr zR hB3 CC
    cases hc : crB d keep torn with
    | false =>
      have HW := Lib.hid (HVN.out hc)
      have HCB := Lib.hid hc
      obtain ⟨⟨r0, r1, r2⟩, rf⟩ := dk_cells HZ.out
      have rf0 := rf 0
      have rf1 := rf 1
      have rf2 := rf 2
      clear hc rf
      go_wp2
      refine bodyPost_ret (v := .tuple #[.agg #[.slice none 0 0, .slice none 0 0, .slice none 0 0], .bool false]) (results_row_u Try.results19 _ _ (w.heap.size + 1) 27 _ (0, 0) _ rfl (set3 HZ.out _ _ _) Try.underlying27 rfl (by kernel_rfl)) rfl ⟨_, _, _, by first | rfl | rw [HCB.out], by rw [HW.out]; exact nilDisk _ _, .inl rfl, below_grw HB3'.out (grw_set3 _ _ _ _ _) HB3'.out.size (fun q hq => by cases hq; omega)⟩
    | true =>
      have HW := Lib.hid (HV.out hc)
      obtain ⟨u, hg3, hu⟩ := HYES.out hc
      rw [HW.out] at HSM
      have C2 := Lib.hid (diskOf_i w2.heap.size u u (.slice none 0 0) ⟨crL d keep torn.toNat keep.length, crL d keep torn.toNat keep.length, []⟩ w3 hg3 ⟨hu, hu, RowL.nil _ _ _ _ _⟩ HSM.out)
      have HCB := Lib.hid hc
      clear hc hu hg3
      generalize crL d keep torn.toNat keep.length = F at C2 HW HSM
      go_wp2_with fail
      refine C2.out.mono ?_
      rintro e w8 ⟨u1, u2, u3, rfl, hD, ap, hb8⟩
      obtain ⟨q1, n1, rfl, _⟩ := hD.live.open
      obtain ⟨q2, n2, rfl, _⟩ := hD.safe.open
      obtain ⟨q3, n3, rfl, _⟩ := hD.ops.open
      have yR := (hb8.block (w.heap.size + 1) (Array.getElem?_eq_some_iff.1 HZ.out).1).trans HZ.out
      have hB4 := HB3'.out.trans (hb8.mono HB3'.out.size)
      have HD := Lib.hid (hD.mono HB3'.out.size)
      have HY := Lib.hid yR
      have HB8 := Lib.hid hB4
      have HA := Lib.hid ap
      obtain ⟨⟨r0, r1, r2⟩, rf⟩ := dk_cells yR
      have rf0 := rf 0
      have rf1 := rf 1
      have rf2 := rf 2
      clear hD ap hb8 hB4 yR rf
      go_wp2
      refine bodyPost_ret (v := .tuple #[.agg #[.slice q1 F.length n1, .slice q2 F.length n2, .slice q3 0 n3], .bool true]) (results_row_u Try.results19 _ _ (w.heap.size + 1) 27 _ (0, 0) _ rfl (set3 HY.out _ _ _) Try.underlying27 rfl (by kernel_rfl)) rfl ⟨_, _, _, by first | rfl | rw [HCB.out], by rw [HW.out]; exact ⟨RowL.kept HD.out.live (grw_set3 _ _ _ _ _) (rowK HD.out.live HY.out (by decide)), RowL.kept HD.out.safe (grw_set3 _ _ _ _ _) (rowK HD.out.safe HY.out (by decide)), RowL.kept HD.out.ops (grw_set3 _ _ _ _ _) (rowK HD.out.ops HY.out (by decide))⟩, HA.out, below_grw HB8.out (grw_set3 _ _ _ _ _) HB8.out.size (fun q hq => by cases hq; omega)⟩
theorem crD_i (v1 v2 v3 vk : Value) (d : DiskT) (keep : List Int) (torn : Int) (w : World) (h : DiskAt 0 v1 v2 v3 d w) (hd : d.fit) (hK : RowL 0 2 1 numC vk keep w) (hlen : keep.length ≤ 1048576) :
    Calls Try.prog 19 #[.agg #[v1, v2, v3], vk, .int .i64 torn] w fun e w' => ∃ u1 u2 u3, e = .returned (.tuple #[.agg #[u1, u2, u3], .bool (crB d keep torn)]) ∧ DiskAt w.heap.size u1 u2 u3 (crD d keep torn) w' ∧ ApartV u1 u2 ∧ Below w.heap.size w w' :=
  crD_in v1 v2 v3 vk d keep torn w h.toIn hd hK hlen

end Go.Proofs.Ytepefbfmjjnamaa

/- What every law's draws want: a code, the bound, the shapes of draws. -/
namespace Go.Proofs.Ytepefbfmjjnamaa
open Go.RowKit Go.My Go.Lib
set_option linter.unusedVariables false

/-- A slice that came in is a code, if it is no longer than the laws take. -/
theorem code_of_row {w : World} {a : Option Addr} {len cap : Nat} {zs : List Int} (h : IsRow .u8 w a len cap zs) (hl : len ≤ 1048576) : RdCode w.heap.size w a len := by
  refine ⟨hl, ?_⟩
  rcases h with ⟨_, rfl, _⟩ | ⟨x, rfl, hlc, _, hz, hc, hwf⟩
  · exact .inl rfl
  · by_cases h0 : len = 0
    · exact .inl h0
    right
    have c0 := hc 0 (by omega)
    obtain ⟨b, off, spot⟩ := x
    have hspot : spot = none := by simpa [Addr.add] using World.cell?_spot c0
    subst hspot
    refine ⟨b, off, rfl, ?_, fun i hi => ?_⟩
    · have := World.block_lt_of_cell? w _ c0
      simpa [Addr.add] using this
    · have hci := hc i (by omega)
      have hm : zs.getD i 0 ∈ zs := by
        have : i < zs.length := by omega
        rw [List.getD_eq_getElem?_getD, List.getElem?_eq_getElem this]
        exact List.getElem_mem this
      have hw := hwf _ hm
      simp [Lit.wf, IntKind.min, IntKind.max, IntKind.signed, IntKind.bits] at hw
      exact ⟨zs.getD i 0, by simpa using hw.1, by simpa using hw.2, by rw [Addr.add_lit] at hci; exact hci⟩

theorem big_any (a : Option Addr) (len cap : Nat) (w : World) (h : len ≤ 9223372036854775807) :
    Calls Try.prog 15 #[.slice a len cap] w fun e w' => e = .returned (.bool (decide (1048576 < (len : Int)))) ∧ w = w' := by
  go_enter Try.func15, Try.ntmps15
  go_wp2
  go_ret
  exact ⟨rfl, rfl⟩

def DrawS (N B : Nat) (w : World) (e : Ending) (w' : World) : Prop := ∃ s : ByteArray, e = .returned (.string s) ∧ s.size ≤ N ∧ Below B w w'
def DrawSS (N B : Nat) (w : World) (e : Ending) (w' : World) : Prop := ∃ s t : ByteArray, e = .returned (.tuple #[.string s, .string t]) ∧ s.size ≤ N ∧ t.size ≤ N ∧ Below B w w'
def DrawII (B : Nat) (w : World) (e : Ending) (w' : World) : Prop := ∃ n k : Int, e = .returned (.tuple #[.int .i64 n, .int .i64 k]) ∧ (Lit.int .i64 n).wf = true ∧ (Lit.int .i64 k).wf = true ∧ Below B w w'

theorem below_none {B : Nat} {a b : World} (h : a.grownBy b none) (hB : B ≤ a.heap.size) : Below B a b :=
  ⟨h.os, h.tape, h.output, h.size, fun k hk => h.block k (by omega) (by simp)⟩


end Go.Proofs.Ytepefbfmjjnamaa

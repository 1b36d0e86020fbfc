/- The specification: a disk copied. -/
import Derived.Test.YtepefbfmjjnamaaMrgA
import Derived.Test.YtepefbfmjjnamaaDkX
import Derived.Test.YtepefbfmjjnamaaRegI
import Derived.Deep.RegionLawGrows
import Derived.Deep.Cut
import Derived.Deep.Upon
import Derived.Test.YtepefbfmjjnamaaDkN
import Derived.Test.YtepefbfmjjnamaaDkR
import Derived.Test.YtepefbfmjjnamaaDkU
namespace Go.Proofs.Ytepefbfmjjnamaa
open Go.RowKit Go.My Go.Lib
set_option linter.unusedVariables false

theorem litF (w : World) : (Instr.buildSlice 24 0 #[]).run Try.prog w = .ok (.slice (some ⟨w.heap.size, 0, none⟩) 0 0) (w.alloc (.cells #[] 88)) := by kernel_rfl
theorem wpAppF {Q : Exit → Act → World → Prop} {o : Oper} {a : Act} {w : World} {K : Act → World → Prop} {p q : Tmp} (hgd : o.guard = none)
    (ho : o.op = .call { callee := .builtin .append, args := #[.tmp p, .tmp q], argTypes := #[24, 24] }) (B g : Nat) (hs : a.eval (.tmp p) = .slice (some ⟨g, 0, none⟩) 0 0) (hg : w.heap[g]? = some (.cells #[] 88 (0, 0))) (hB : B ≤ g) (v : Value) (l : List FileT) (hx : a.eval (.tmp q) = v) (hv : FilesAt 0 v l w) (hl2 : l.length ≤ 1048576)
    (h : ∀ u w', FilesAt B u l w' → Below w.heap.size w w' → K (a.put o.dst u) w') : Oper.wp Try.prog o a w K Q := by
  have hglt : g < w.heap.size := (Array.getElem?_eq_some_iff.1 hg).1
  obtain ⟨i0, hi, hz0, hz1, hz2⟩ := info_parts info_File
  obtain ⟨pv, cap, rfl, _, _, hp⟩ := hv.open
  by_cases hl : l = []
  · subst hl
    have src : Src Try.prog i0.size 24 (.slice pv 0 cap) 0 [] w := by
      refine ⟨.inl ⟨_, Try.underlying24⟩, fun w' => ?_, ?_, ?_, by simp, fun u hu => by cases hu⟩
      · simp [Builtin.lenOf, go_sem]
      · cases pv <;> simp [Builtin.firstCells, go_sem]
      · cases pv <;> simp [Builtin.firstCells, go_sem]
    have hrun := run_append_nothing (P := Try.prog) w 24 24 o.type 88 i0 Try.underlying24 hi (some ⟨g, 0, none⟩) 0 0 (Nat.le_refl _) (.slice pv 0 cap) src
    have hx' : a.eval (.tmp q) = .slice pv 0 cap := hx
    unfold Oper.wp
    simp [execOp, ho, resolve, invoke, builtin, hs, hx', hrun, Result.andThen]
    exact h _ w ⟨rfl, .inr ⟨g, 0, #[], rfl, hB, hg, Nat.le_refl _, Nat.zero_le _, rfl, rfl⟩⟩ (Below.refl _ _)
  · obtain ⟨g2, rfl, _, _⟩ := hp.resolve_left (fun c => hl c.1)
    have h0 : 0 < l.length := List.length_pos_iff.2 hl
    have hone : ∀ u ∈ l.flatMap fileC, u.oneCell' = true := by
      intro u hu
      obtain ⟨b, _, hb⟩ := List.mem_flatMap.1 hu
      simp only [fileC, List.mem_cons, List.not_mem_nil, or_false] at hb
      rcases hb with rfl | rfl <;> rfl
    have hw : Region.wanted o (yielded #[] a.tmps) = true := by simp [Region.wanted, hgd]
    have := step_append_grows (P := Try.prog) (Q := Q) (K := K) (ops := #[]) (E := True) hgd (.tmp p) (.tmp q) 24 ho 88 i0 (.agg #[.string ByteArray.empty, .string ByteArray.empty]) 2 32 Try.underlying24 hi hz0 hz1 hz2 rfl (by decide) (some ⟨g, 0, none⟩) 0 0 [] hs (fun c => by cases c) rfl (fun b _ j u hu => by simp at hu) ⟨g2, 0, none⟩ l.length cap (l.flatMap fileC) hx (by rw [flat_len fileC_len]) (World.ownsRow.cells hv (g := g2) rfl) hone (by omega) (by unfold maxLen; omega) (by omega) (by
      intro v' w' hown hgrow
      have hr : FilesAt w.heap.size v' l w' := by
        have := hown
        rw [Nat.zero_add] at this
        exact this
      exact h v' w' (hr.mono (by omega)) ((Below.refl _ _).grown hgrow (Nat.le_refl _) (fun q hq => by cases hq)))
    rwa [if_pos hw] at this
theorem litO (w : World) : (Instr.buildSlice 25 0 #[]).run Try.prog w = .ok (.slice (some ⟨w.heap.size, 0, none⟩) 0 0) (w.alloc (.cells #[] 36)) := by kernel_rfl
theorem wpAppO {Q : Exit → Act → World → Prop} {o : Oper} {a : Act} {w : World} {K : Act → World → Prop} {p q : Tmp} (hgd : o.guard = none)
    (ho : o.op = .call { callee := .builtin .append, args := #[.tmp p, .tmp q], argTypes := #[25, 25] }) (B g : Nat) (hs : a.eval (.tmp p) = .slice (some ⟨g, 0, none⟩) 0 0) (hg : w.heap[g]? = some (.cells #[] 36 (0, 0))) (hB : B ≤ g) (v : Value) (l : List DOpT) (hx : a.eval (.tmp q) = v) (hv : OpsAt 0 v l w) (hl2 : l.length ≤ 1048576)
    (h : ∀ u w', OpsAt B u l w' → Below w.heap.size w w' → K (a.put o.dst u) w') : Oper.wp Try.prog o a w K Q := by
  have hglt : g < w.heap.size := (Array.getElem?_eq_some_iff.1 hg).1
  obtain ⟨i0, hi, hz0, hz1, hz2⟩ := info_parts info_DOp
  obtain ⟨pv, cap, rfl, _, _, hp⟩ := hv.open
  by_cases hl : l = []
  · subst hl
    have src : Src Try.prog i0.size 25 (.slice pv 0 cap) 0 [] w := by
      refine ⟨.inl ⟨_, Try.underlying25⟩, fun w' => ?_, ?_, ?_, by simp, fun u hu => by cases hu⟩
      · simp [Builtin.lenOf, go_sem]
      · cases pv <;> simp [Builtin.firstCells, go_sem]
      · cases pv <;> simp [Builtin.firstCells, go_sem]
    have hrun := run_append_nothing (P := Try.prog) w 25 25 o.type 36 i0 Try.underlying25 hi (some ⟨g, 0, none⟩) 0 0 (Nat.le_refl _) (.slice pv 0 cap) src
    have hx' : a.eval (.tmp q) = .slice pv 0 cap := hx
    unfold Oper.wp
    simp [execOp, ho, resolve, invoke, builtin, hs, hx', hrun, Result.andThen]
    exact h _ w ⟨rfl, .inr ⟨g, 0, #[], rfl, hB, hg, Nat.le_refl _, Nat.zero_le _, rfl, rfl⟩⟩ (Below.refl _ _)
  · obtain ⟨g2, rfl, _, _⟩ := hp.resolve_left (fun c => hl c.1)
    have h0 : 0 < l.length := List.length_pos_iff.2 hl
    have hone : ∀ u ∈ l.flatMap dOpC, u.oneCell' = true := by
      intro u hu
      obtain ⟨b, _, hb⟩ := List.mem_flatMap.1 hu
      simp only [dOpC, List.mem_cons, List.not_mem_nil, or_false] at hb
      rcases hb with rfl | rfl | rfl | rfl <;> rfl
    have hw : Region.wanted o (yielded #[] a.tmps) = true := by simp [Region.wanted, hgd]
    have := step_append_grows (P := Try.prog) (Q := Q) (K := K) (ops := #[]) (E := True) hgd (.tmp p) (.tmp q) 25 ho 36 i0 (.agg #[.int .i64 0, .string ByteArray.empty, .string ByteArray.empty, .string ByteArray.empty]) 4 56 Try.underlying25 hi hz0 hz1 hz2 rfl (by decide) (some ⟨g, 0, none⟩) 0 0 [] hs (fun c => by cases c) rfl (fun b _ j u hu => by simp at hu) ⟨g2, 0, none⟩ l.length cap (l.flatMap dOpC) hx (by rw [flat_len dOpC_len]) (World.ownsRow.cells hv (g := g2) rfl) hone (by omega) (by unfold maxLen; omega) (by omega) (by
      intro v' w' hown hgrow
      have hr : OpsAt w.heap.size v' l w' := by
        have := hown
        rw [Nat.zero_add] at this
        exact this
      exact h v' w' (hr.mono (by omega)) ((Below.refl _ _).grown hgrow (Nat.le_refl _) (fun q hq => by cases hq)))
    rwa [if_pos hw] at this

theorem wpFieldT {P : Program} {Q : Exit → Act → World → Prop} {o : Oper} {a : Act} {w : World} {K : Act → World → Prop} {T f : Nat} {k : Tmp} {x y : Value} (hop : o.op = .fieldAddr T (.tmp k) f) (he : a.eval (.tmp k) = y) (hr : (Instr.fieldAt T y f).run P w = .ok x w) (hK : K (a.put o.dst x) w) : o.wp P a w K Q :=
  wpVal (x := x) (w' := w) (by unfold execOp; simp only [hop]; simp only [he, Sem.run_bind, hr, Result.andThen_ok, Sem.run_pure]) hK
theorem wpLoadT {P : Program} {Q : Exit → Act → World → Prop} {o : Oper} {a : Act} {w : World} {K : Act → World → Prop} {T : TypeId} {k : Tmp} {x y : Value} (hop : o.op = .load T (.tmp k)) (he : a.eval (.tmp k) = y) (hr : (Instr.loadAt T y).run P w = .ok x w) (hK : K (a.put o.dst x) w) : o.wp P a w K Q :=
  wpVal (x := x) (w' := w) (by unfold execOp; simp only [hop]; simp only [he, Sem.run_bind, hr, Result.andThen_ok, Sem.run_pure]) hK
theorem wpLitT {P : Program} {Q : Exit → Act → World → Prop} {o : Oper} {a : Act} {w w' : World} {K : Act → World → Prop} {T : TypeId} {x : Value} (hop : o.op = .buildSlice T 0 #[]) (hr : (Instr.buildSlice T 0 #[]).run P w = .ok x w') (hK : K (a.put o.dst x) w') : o.wp P a w K Q :=
  wpVal (x := x) (w' := w') (by unfold execOp; simp only [hop]; simp only [List.map_toArray, List.map_nil, Sem.run_bind, hr, Result.andThen_ok, Sem.run_pure]) hK
theorem wpBuild3T {P : Program} {Q : Exit → Act → World → Prop} {o : Oper} {a : Act} {w : World} {K : Act → World → Prop} {T : TypeId} {k l m : Tmp} {x y z u : Value} (hop : o.op = .build T #[(0, .tmp k), (1, .tmp l), (2, .tmp m)]) (h1 : a.eval (.tmp k) = x) (h2 : a.eval (.tmp l) = y) (h3 : a.eval (.tmp m) = z)
    (hr : (Instr.build T #[(0, x), (1, y), (2, z)]).run P w = .ok u w) (hK : K (a.put o.dst u) w) : o.wp P a w K Q :=
  wpVal (x := u) (w' := w) (by unfold execOp; simp only [hop]; simp only [List.map_toArray, List.map_cons, List.map_nil, h1, h2, h3, Sem.run_bind, hr, Result.andThen_ok, Sem.run_pure]) hK
theorem ldFs {g j n m : Nat} {p : Option Addr} {w : World} (h : w.cell? ⟨g, j, none⟩ = some (.slice p n m)) : (Instr.loadAt 24 (.pointer (some ⟨g, j, none⟩))).run Try.prog w = .ok (.slice p n m) w := by
  simp [Instr.loadAt, go_sem, h]
theorem ldOs {g j n m : Nat} {p : Option Addr} {w : World} (h : w.cell? ⟨g, j, none⟩ = some (.slice p n m)) : (Instr.loadAt 25 (.pointer (some ⟨g, j, none⟩))).run Try.prog w = .ok (.slice p n m) w := by
  simp [Instr.loadAt, go_sem, h]
theorem fdD0 (g : Nat) (w : World) : (Instr.fieldAt 27 (.pointer (some ⟨g, 0, none⟩)) 0).run Try.prog w = .ok (.pointer (some ⟨g, 0, none⟩)) w := by kernel_rfl
theorem fdD1 (g : Nat) (w : World) : (Instr.fieldAt 27 (.pointer (some ⟨g, 0, none⟩)) 1).run Try.prog w = .ok (.pointer (some ⟨g, 1, none⟩)) w := by kernel_rfl
theorem fdD2 (g : Nat) (w : World) : (Instr.fieldAt 27 (.pointer (some ⟨g, 0, none⟩)) 2).run Try.prog w = .ok (.pointer (some ⟨g, 2, none⟩)) w := by kernel_rfl
theorem bDisk (p q r : Option Addr) (a b c a2 b2 c2 : Nat) (w : World) : (Instr.build 27 #[(0, .slice p a a2), (1, .slice q b b2), (2, .slice r c c2)]).run Try.prog w = .ok (.agg #[.slice p a a2, .slice q b b2, .slice r c c2]) w := by kernel_rfl
theorem diskSz (x y z : Value) : (Try.prog.info? 27).map (·.size) = some (#[x, y, z] : Array Value).size := by kernel_rfl
theorem rowNew {α : Type} {B e c r : Nat} {f : α → List Value} {v : Value} {l : List α} {w : World} (h : RowL B e c f v l w) (hr : r < B) : v.ownBlock = none ∨ v.ownBlock ≠ some r := by
  cases hv : v.ownBlock with
  | none => exact .inl rfl
  | some k => exact .inr (fun e => by have := (World.ownsRow.lt h k hv).1; have := Option.some.inj e; omega)
theorem diskNew {B r : Nat} {x y z : Value} {d : DiskT} {w w' : World} (h : DiskAt B x y z d w) (hr : r < B) (hg : w.grownBy w' (some r)) : DiskAt B x y z d w' :=
  ⟨RowL.kept h.live hg (rowNew h.live hr), RowL.kept h.safe hg (rowNew h.safe hr), RowL.kept h.ops hg (rowNew h.ops hr)⟩

structure InvB (b r : Nat) (d : DiskT) (u1 u2 u3 : Value) (W1 : World) (v : Nat → Value) (L : Nat → Bool) (w : World) : Prop where
  G : W1.grownBy w (some r)
  l0 : L 0 = true → ∃ g, v 0 = .slice (some ⟨g, 0, none⟩) 0 0 ∧ W1.heap.size ≤ g ∧ w.heap[g]? = some (.cells #[] 88 (0, 0))
  p1 : L 1 = true → v 1 = .pointer (some ⟨b, 0, none⟩)
  q2 : L 2 = true → v 2 = u1
  a3 : L 3 = true → FilesAt W1.heap.size (v 3) d.live w
  l4 : L 4 = true → ∃ g, v 4 = .slice (some ⟨g, 0, none⟩) 0 0 ∧ W1.heap.size ≤ g ∧ w.heap[g]? = some (.cells #[] 88 (0, 0))
  p5 : L 5 = true → v 5 = .pointer (some ⟨b, 1, none⟩)
  q6 : L 6 = true → v 6 = u2
  a7 : L 7 = true → FilesAt W1.heap.size (v 7) d.safe w
  l8 : L 8 = true → ∃ g, v 8 = .slice (some ⟨g, 0, none⟩) 0 0 ∧ W1.heap.size ≤ g ∧ w.heap[g]? = some (.cells #[] 36 (0, 0))
  p9 : L 9 = true → v 9 = .pointer (some ⟨b, 2, none⟩)
  q10 : L 10 = true → v 10 = u3
  a11 : L 11 = true → OpsAt W1.heap.size (v 11) d.ops w
  m12 : L 12 = true → ∃ x y z, v 12 = .agg #[x, y, z] ∧ DiskAt W1.heap.size x y z d w
structure InvC (b r : Nat) (d : DiskT) (u1 u2 u3 : Value) (W1 : World) (v : Nat → Value) (L : Nat → Bool) (w : World) : Prop where
  B : InvB b r d u1 u2 u3 W1 v L w
  r13 : L 13 = false → w.heap[r]? = some (.cells #[.slice none 0 0, .slice none 0 0, .slice none 0 0] 27 (0, 0))
  s13 : L 13 = true → ∃ x y z, w.heap[r]? = some (.cells #[x, y, z] 27 (0, 0)) ∧ DiskAt W1.heap.size x y z d w
theorem InvB.grow {b r : Nat} {d : DiskT} {u1 u2 u3 : Value} {W1 : World} {v : Nat → Value} {L : Nat → Bool} {w w' : World} (h : InvB b r d u1 u2 u3 W1 v L w) (hr : r < W1.heap.size) (hg : w.grownBy w' (some r)) : InvB b r d u1 u2 u3 W1 v L w' where
  G := grw_trans h.G hg
  l0 := fun a => by
    obtain ⟨g, e, hk, hb⟩ := h.l0 a
    exact ⟨g, e, hk, (hg.block g (Array.getElem?_eq_some_iff.1 hb).1 (fun c => by have := Option.some.inj c; omega)).trans hb⟩
  p1 := h.p1
  q2 := h.q2
  a3 := fun a => RowL.kept (h.a3 a) hg (rowNew (h.a3 a) hr)
  l4 := fun a => by
    obtain ⟨g, e, hk, hb⟩ := h.l4 a
    exact ⟨g, e, hk, (hg.block g (Array.getElem?_eq_some_iff.1 hb).1 (fun c => by have := Option.some.inj c; omega)).trans hb⟩
  p5 := h.p5
  q6 := h.q6
  a7 := fun a => RowL.kept (h.a7 a) hg (rowNew (h.a7 a) hr)
  l8 := fun a => by
    obtain ⟨g, e, hk, hb⟩ := h.l8 a
    exact ⟨g, e, hk, (hg.block g (Array.getElem?_eq_some_iff.1 hb).1 (fun c => by have := Option.some.inj c; omega)).trans hb⟩
  p9 := h.p9
  q10 := h.q10
  a11 := fun a => RowL.kept (h.a11 a) hg (rowNew (h.a11 a) hr)
  m12 := fun a => by
    obtain ⟨x, y, z, e, hd⟩ := h.m12 a
    exact ⟨x, y, z, e, diskNew hd hr hg⟩
theorem InvC.grow {b r : Nat} {d : DiskT} {u1 u2 u3 : Value} {W1 : World} {v : Nat → Value} {L : Nat → Bool} {w w' : World} (h : InvC b r d u1 u2 u3 W1 v L w) (hr : r < W1.heap.size) (hb : Below w.heap.size w w') : InvC b r d u1 u2 u3 W1 v L w' where
  B := h.B.grow hr (grw_of_below hb _)
  r13 := fun a => (hb.block r (Nat.lt_of_lt_of_le hr h.B.G.size)).trans (h.r13 a)
  s13 := fun a => by
    obtain ⟨x, y, z, e, hd⟩ := h.s13 a
    exact ⟨x, y, z, (hb.block r (Nat.lt_of_lt_of_le hr h.B.G.size)).trans e, diskNew hd hr (grw_of_below hb _)⟩

set_option maxRecDepth 20000 in
set_option maxHeartbeats 4000000 in
theorem copy_s (v1 v2 v3 : Value) (d : DiskT) (w : World) (h : DiskAt 0 v1 v2 v3 d w) (hs : d.small) :
    Calls Try.prog 75 #[.agg #[v1, v2, v3]] w fun e w' => ∃ u1 u2 u3, e = .returned (.agg #[u1, u2, u3]) ∧ DiskAt w.heap.size u1 u2 u3 d w' ∧ Below w.heap.size w w' := by
  have H := Lib.hid h
  obtain ⟨p1, m1, rfl, _⟩ := h.live.open
  obtain ⟨p2, m2, rfl, _⟩ := h.safe.open
  obtain ⟨p3, m3, rfl, _⟩ := h.ops.open
  clear h
  have hB1 : Below w.heap.size w ((w.alloc (.cells #[.slice p1 d.live.length m1, .slice p2 d.safe.length m2, .slice p3 d.ops.length m3] 27)).alloc (.cells #[.slice none 0 0, .slice none 0 0, .slice none 0 0] 27)) := ((Below.refl _ _).alloc (Nat.le_refl _) _).alloc (by simp) _
  obtain ⟨_, xA, xR⟩ := boxes2 w (.cells #[.slice p1 d.live.length m1, .slice p2 d.safe.length m2, .slice p3 d.ops.length m3] 27) (.cells #[.slice none 0 0, .slice none 0 0, .slice none 0 0] 27) _ (Below.refl _ _)
  have hsz : ((w.alloc (.cells #[.slice p1 d.live.length m1, .slice p2 d.safe.length m2, .slice p3 d.ops.length m3] 27)).alloc (.cells #[.slice none 0 0, .slice none 0 0, .slice none 0 0] 27)).heap.size = w.heap.size + 1 + 1 := by simp
  go_enter Try.func75, Try.ntmps75
  go_upto_region 1 with (fail)
  generalize ((w.alloc (.cells #[.slice p1 d.live.length m1, .slice p2 d.safe.length m2, .slice p3 d.ops.length m3] 27)).alloc (.cells #[.slice none 0 0, .slice none 0 0, .slice none 0 0] 27)) = W1 at hB1 xA xR hsz ⊢
  have hr : w.heap.size + 1 < W1.heap.size := by omega
  have cell : ∀ {V : World}, W1.grownBy V (some (w.heap.size + 1)) → V.heap[w.heap.size]? = some (.cells #[.slice p1 d.live.length m1, .slice p2 d.safe.length m2, .slice p3 d.ops.length m3] 27 (0, 0)) := fun hg => (hg.block w.heap.size (by omega) (fun c => by have := Option.some.inj c; omega)).trans xA
  have lists : ∀ {V : World}, W1.grownBy V (some (w.heap.size + 1)) → DiskAt 0 (.slice p1 d.live.length m1) (.slice p2 d.safe.length m2) (.slice p3 d.ops.length m3) d V := fun hg => H.out.below (below_grw hB1 hg (by omega) (fun q hq => by have := Option.some.inj hq; omega))
  refine region_invL 14 [some 3, some 4, some 5, some 6, some 7, some 8, some 9, some 10, some 11, some 12, some 13, some 14, some 15, none] (InvC w.heap.size (w.heap.size + 1) d (.slice p1 d.live.length m1) (.slice p2 d.safe.length m2) (.slice p3 d.ops.length m3) W1) (by kernel_rfl) rfl (by kernel_rfl) (by kernel_rfl) (by kernel_rfl) ?_ ?_ ?_
  · exact ⟨⟨grw_drew (grw_refl _ _), (fun h => by cases h), (fun h => by cases h), (fun h => by cases h), (fun h => by cases h), (fun h => by cases h), (fun h => by cases h), (fun h => by cases h), (fun h => by cases h), (fun h => by cases h), (fun h => by cases h), (fun h => by cases h), (fun h => by cases h), (fun h => by cases h)⟩, fun _ => xR, (fun h => by cases h)⟩
  · intro i o v L w1 hoi hL hI hdep
    have hi : i < 14 := (Array.getElem?_eq_some_iff.1 hoi).1
    have hc : i = 0 ∨ i = 1 ∨ i = 2 ∨ i = 3 ∨ i = 4 ∨ i = 5 ∨ i = 6 ∨ i = 7 ∨ i = 8 ∨ i = 9 ∨ i = 10 ∨ i = 11 ∨ i = 12 ∨ i = 13 := by omega
    have hsz1 : W1.heap.size ≤ w1.heap.size := hI.B.G.size
    rcases hc with rfl | rfl | rfl | rfl | rfl | rfl | rfl | rfl | rfl | rfl | rfl | rfl | rfl | rfl
    · obtain rfl := Option.some.inj hoi
      have hI2 := hI.grow hr ((Below.refl w1.heap.size w1).alloc (Nat.le_refl _) (.cells #[] 88))
      refine ⟨rfl, wpLitT rfl (litF w1) ⟨_, rfl, ?_⟩⟩
      exact ⟨⟨hI2.B.G, fun _ => ⟨w1.heap.size, rfl, hsz1, heap_alloc_new w1 _⟩, hI2.B.p1, hI2.B.q2, hI2.B.a3, hI2.B.l4, hI2.B.p5, hI2.B.q6, hI2.B.a7, hI2.B.l8, hI2.B.p9, hI2.B.q10, hI2.B.a11, hI2.B.m12⟩, hI2.r13, hI2.s13⟩
    · obtain rfl := Option.some.inj hoi
      refine ⟨rfl, wpFieldT rfl (at_old (by kernel_rfl)) (fdD0 _ w1) ⟨_, rfl, ?_⟩⟩
      exact ⟨⟨hI.B.G, hI.B.l0, fun _ => rfl, hI.B.q2, hI.B.a3, hI.B.l4, hI.B.p5, hI.B.q6, hI.B.a7, hI.B.l8, hI.B.p9, hI.B.q10, hI.B.a11, hI.B.m12⟩, hI.r13, hI.s13⟩
    · obtain rfl := Option.some.inj hoi
      refine ⟨rfl, wpLoadT rfl ((at_new (by kernel_rfl) 1 (Nat.le_of_ble_eq_true rfl) rfl (by decide) (hdep 1 (dep_of (by kernel_rfl)))).trans (hI.B.p1 (hdep 1 (dep_of (by kernel_rfl))))) (ldFs (dk_cells (cell hI.B.G)).1.1) ⟨_, rfl, ?_⟩⟩
      exact ⟨⟨hI.B.G, hI.B.l0, hI.B.p1, fun _ => rfl, hI.B.a3, hI.B.l4, hI.B.p5, hI.B.q6, hI.B.a7, hI.B.l8, hI.B.p9, hI.B.q10, hI.B.a11, hI.B.m12⟩, hI.r13, hI.s13⟩
    · obtain rfl := Option.some.inj hoi
      obtain ⟨g, eg, hg0, hgb⟩ := hI.B.l0 (hdep 0 (dep_of (by kernel_rfl)))
      refine ⟨rfl, wpAppF rfl rfl W1.heap.size g ((at_new (by kernel_rfl) 0 (Nat.le_of_ble_eq_true rfl) rfl (by decide) (hdep 0 (dep_of (by kernel_rfl)))).trans eg) hgb hg0 _ d.live ((at_new (by kernel_rfl) 2 (Nat.le_of_ble_eq_true rfl) rfl (by decide) (hdep 2 (dep_of (by kernel_rfl)))).trans (hI.B.q2 (hdep 2 (dep_of (by kernel_rfl))))) (lists hI.B.G).live hs.live ?_⟩
      intro u w2 hu hb2
      have hI2 := hI.grow hr hb2
      exact ⟨_, rfl, ⟨⟨hI2.B.G, hI2.B.l0, hI2.B.p1, hI2.B.q2, fun _ => hu, hI2.B.l4, hI2.B.p5, hI2.B.q6, hI2.B.a7, hI2.B.l8, hI2.B.p9, hI2.B.q10, hI2.B.a11, hI2.B.m12⟩, hI2.r13, hI2.s13⟩⟩
    · obtain rfl := Option.some.inj hoi
      have hI2 := hI.grow hr ((Below.refl w1.heap.size w1).alloc (Nat.le_refl _) (.cells #[] 88))
      refine ⟨rfl, wpLitT rfl (litF w1) ⟨_, rfl, ?_⟩⟩
      exact ⟨⟨hI2.B.G, hI2.B.l0, hI2.B.p1, hI2.B.q2, hI2.B.a3, fun _ => ⟨w1.heap.size, rfl, hsz1, heap_alloc_new w1 _⟩, hI2.B.p5, hI2.B.q6, hI2.B.a7, hI2.B.l8, hI2.B.p9, hI2.B.q10, hI2.B.a11, hI2.B.m12⟩, hI2.r13, hI2.s13⟩
    · obtain rfl := Option.some.inj hoi
      refine ⟨rfl, wpFieldT rfl (at_old (by kernel_rfl)) (fdD1 _ w1) ⟨_, rfl, ?_⟩⟩
      exact ⟨⟨hI.B.G, hI.B.l0, hI.B.p1, hI.B.q2, hI.B.a3, hI.B.l4, fun _ => rfl, hI.B.q6, hI.B.a7, hI.B.l8, hI.B.p9, hI.B.q10, hI.B.a11, hI.B.m12⟩, hI.r13, hI.s13⟩
    · obtain rfl := Option.some.inj hoi
      refine ⟨rfl, wpLoadT rfl ((at_new (by kernel_rfl) 5 (Nat.le_of_ble_eq_true rfl) rfl (by decide) (hdep 5 (dep_of (by kernel_rfl)))).trans (hI.B.p5 (hdep 5 (dep_of (by kernel_rfl))))) (ldFs (dk_cells (cell hI.B.G)).1.2.1) ⟨_, rfl, ?_⟩⟩
      exact ⟨⟨hI.B.G, hI.B.l0, hI.B.p1, hI.B.q2, hI.B.a3, hI.B.l4, hI.B.p5, fun _ => rfl, hI.B.a7, hI.B.l8, hI.B.p9, hI.B.q10, hI.B.a11, hI.B.m12⟩, hI.r13, hI.s13⟩
    · obtain rfl := Option.some.inj hoi
      obtain ⟨g, eg, hg0, hgb⟩ := hI.B.l4 (hdep 4 (dep_of (by kernel_rfl)))
      refine ⟨rfl, wpAppF rfl rfl W1.heap.size g ((at_new (by kernel_rfl) 4 (Nat.le_of_ble_eq_true rfl) rfl (by decide) (hdep 4 (dep_of (by kernel_rfl)))).trans eg) hgb hg0 _ d.safe ((at_new (by kernel_rfl) 6 (Nat.le_of_ble_eq_true rfl) rfl (by decide) (hdep 6 (dep_of (by kernel_rfl)))).trans (hI.B.q6 (hdep 6 (dep_of (by kernel_rfl))))) (lists hI.B.G).safe hs.safe ?_⟩
      intro u w2 hu hb2
      have hI2 := hI.grow hr hb2
      exact ⟨_, rfl, ⟨⟨hI2.B.G, hI2.B.l0, hI2.B.p1, hI2.B.q2, hI2.B.a3, hI2.B.l4, hI2.B.p5, hI2.B.q6, fun _ => hu, hI2.B.l8, hI2.B.p9, hI2.B.q10, hI2.B.a11, hI2.B.m12⟩, hI2.r13, hI2.s13⟩⟩
    · obtain rfl := Option.some.inj hoi
      have hI2 := hI.grow hr ((Below.refl w1.heap.size w1).alloc (Nat.le_refl _) (.cells #[] 36))
      refine ⟨rfl, wpLitT rfl (litO w1) ⟨_, rfl, ?_⟩⟩
      exact ⟨⟨hI2.B.G, hI2.B.l0, hI2.B.p1, hI2.B.q2, hI2.B.a3, hI2.B.l4, hI2.B.p5, hI2.B.q6, hI2.B.a7, fun _ => ⟨w1.heap.size, rfl, hsz1, heap_alloc_new w1 _⟩, hI2.B.p9, hI2.B.q10, hI2.B.a11, hI2.B.m12⟩, hI2.r13, hI2.s13⟩
    · obtain rfl := Option.some.inj hoi
      refine ⟨rfl, wpFieldT rfl (at_old (by kernel_rfl)) (fdD2 _ w1) ⟨_, rfl, ?_⟩⟩
      exact ⟨⟨hI.B.G, hI.B.l0, hI.B.p1, hI.B.q2, hI.B.a3, hI.B.l4, hI.B.p5, hI.B.q6, hI.B.a7, hI.B.l8, fun _ => rfl, hI.B.q10, hI.B.a11, hI.B.m12⟩, hI.r13, hI.s13⟩
    · obtain rfl := Option.some.inj hoi
      refine ⟨rfl, wpLoadT rfl ((at_new (by kernel_rfl) 9 (Nat.le_of_ble_eq_true rfl) rfl (by decide) (hdep 9 (dep_of (by kernel_rfl)))).trans (hI.B.p9 (hdep 9 (dep_of (by kernel_rfl))))) (ldOs (dk_cells (cell hI.B.G)).1.2.2) ⟨_, rfl, ?_⟩⟩
      exact ⟨⟨hI.B.G, hI.B.l0, hI.B.p1, hI.B.q2, hI.B.a3, hI.B.l4, hI.B.p5, hI.B.q6, hI.B.a7, hI.B.l8, hI.B.p9, fun _ => rfl, hI.B.a11, hI.B.m12⟩, hI.r13, hI.s13⟩
    · obtain rfl := Option.some.inj hoi
      obtain ⟨g, eg, hg0, hgb⟩ := hI.B.l8 (hdep 8 (dep_of (by kernel_rfl)))
      refine ⟨rfl, wpAppO rfl rfl W1.heap.size g ((at_new (by kernel_rfl) 8 (Nat.le_of_ble_eq_true rfl) rfl (by decide) (hdep 8 (dep_of (by kernel_rfl)))).trans eg) hgb hg0 _ d.ops ((at_new (by kernel_rfl) 10 (Nat.le_of_ble_eq_true rfl) rfl (by decide) (hdep 10 (dep_of (by kernel_rfl)))).trans (hI.B.q10 (hdep 10 (dep_of (by kernel_rfl))))) (lists hI.B.G).ops hs.ops ?_⟩
      intro u w2 hu hb2
      have hI2 := hI.grow hr hb2
      exact ⟨_, rfl, ⟨⟨hI2.B.G, hI2.B.l0, hI2.B.p1, hI2.B.q2, hI2.B.a3, hI2.B.l4, hI2.B.p5, hI2.B.q6, hI2.B.a7, hI2.B.l8, hI2.B.p9, hI2.B.q10, fun _ => hu, hI2.B.m12⟩, hI2.r13, hI2.s13⟩⟩
    · obtain rfl := Option.some.inj hoi
      have f1 := hI.B.a3 (hdep 3 (dep_of (by kernel_rfl)))
      have f2 := hI.B.a7 (hdep 7 (dep_of (by kernel_rfl)))
      have f3 := hI.B.a11 (hdep 11 (dep_of (by kernel_rfl)))
      obtain ⟨q1, n1, e1, _⟩ := f1.open
      obtain ⟨q2, n2, e2, _⟩ := f2.open
      obtain ⟨q3, n3, e3, _⟩ := f3.open
      rw [e1] at f1
      rw [e2] at f2
      rw [e3] at f3
      refine ⟨rfl, wpBuild3T rfl ((at_new (by kernel_rfl) 3 (Nat.le_of_ble_eq_true rfl) rfl (by decide) (hdep 3 (dep_of (by kernel_rfl)))).trans e1) ((at_new (by kernel_rfl) 7 (Nat.le_of_ble_eq_true rfl) rfl (by decide) (hdep 7 (dep_of (by kernel_rfl)))).trans e2) ((at_new (by kernel_rfl) 11 (Nat.le_of_ble_eq_true rfl) rfl (by decide) (hdep 11 (dep_of (by kernel_rfl)))).trans e3) (bDisk _ _ _ _ _ _ _ _ _ w1) ⟨_, rfl, ?_⟩⟩
      exact ⟨⟨hI.B.G, hI.B.l0, hI.B.p1, hI.B.q2, hI.B.a3, hI.B.l4, hI.B.p5, hI.B.q6, hI.B.a7, hI.B.l8, hI.B.p9, hI.B.q10, hI.B.a11, fun _ => ⟨_, _, _, rfl, f1, f2, f3⟩⟩, hI.r13, hI.s13⟩
    · obtain rfl := Option.some.inj hoi
      obtain ⟨x, y, z, e12, hd12⟩ := hI.B.m12 (hdep 12 (dep_of (by kernel_rfl)))
      have hone : (#[x, y, z] : Array Value).all (·.oneCell') = true := by
        obtain ⟨_, _, rfl, _⟩ := hd12.live.open
        obtain ⟨_, _, rfl, _⟩ := hd12.safe.open
        obtain ⟨_, _, rfl, _⟩ := hd12.ops.open
        simp [Value.oneCell']
      have hold := hI.r13 hL
      have hg : w1.grownBy (w1.setRow (w.heap.size + 1) #[x, y, z]) (some (w.heap.size + 1)) := grw_setRow (grw_refl _ _) _
      refine ⟨rfl, wpStoreT rfl (at_old (by kernel_rfl)) ((at_new (by kernel_rfl) 12 (Nat.le_of_ble_eq_true rfl) rfl (by decide) (hdep 12 (dep_of (by kernel_rfl)))).trans e12) hold (diskSz x y z) rfl hone ⟨_, rfl, ?_⟩⟩
      have hB2 := hI.B.grow hr hg
      exact ⟨⟨hB2.G, hB2.l0, hB2.p1, hB2.q2, hB2.a3, hB2.l4, hB2.p5, hB2.q6, hB2.a7, hB2.l8, hB2.p9, hB2.q10, hB2.a11, hB2.m12⟩, (fun h => by cases h), fun _ => ⟨x, y, z, setRow_heap w1 (w.heap.size + 1) _ _ _ (0, 0) hold, diskNew hd12 hr hg⟩⟩
  intro v x1 hI
  obtain ⟨x, y, z, hrow, hd⟩ := hI.s13 rfl
  have hG := hI.B.G
  have hfin : Below w.heap.size w x1 := below_grw hB1 hG (by omega) (fun q hq => by have := Option.some.inj hq; omega)
  have HD := Lib.hid (hd.mono (show w.heap.size ≤ W1.heap.size by omega))
  clear hI hd
  simp only [Go.My.putL, Nat.zero_add, Nat.reduceAdd, Act.put, List.setIfInBounds_toArray, List.set_cons_zero, List.set_cons_succ]
  generalize v 0 = y0 at *
  generalize v 1 = y1 at *
  generalize v 2 = y2 at *
  generalize v 3 = y3 at *
  generalize v 4 = y4 at *
  generalize v 5 = y5 at *
  generalize v 6 = y6 at *
  generalize v 7 = y7 at *
  generalize v 8 = y8 at *
  generalize v 9 = y9 at *
  generalize v 10 = y10 at *
  generalize v 11 = y11 at *
  generalize v 12 = y12 at *
  go_wp2
  refine bodyPost_ret (v := .agg #[x, y, z]) (results_cell_row Try.results75 _ _ (w.heap.size + 1) 27 _ (0, 0) _ rfl hrow Try.underlying27 rfl (by kernel_rfl)) rfl ⟨_, _, _, rfl, HD.out, hfin⟩

end Go.Proofs.Ytepefbfmjjnamaa

/- Disks beside one another: what stands when one is marked. -/
namespace Go.Proofs.Ytepefbfmjjnamaa
open Go.RowKit Go.My Go.Lib
set_option linter.unusedVariables false

structure Ap3 (s1 s2 s3 g1 g2 g3 : Value) : Prop where
  a11 : ApartV s1 g1
  a12 : ApartV s1 g2
  a13 : ApartV s1 g3
  a21 : ApartV s2 g1
  a22 : ApartV s2 g2
  a23 : ApartV s2 g3
  a31 : ApartV s3 g1
  a32 : ApartV s3 g2
  a33 : ApartV s3 g3
theorem Ap3.symm {s1 s2 s3 g1 g2 g3 : Value} (h : Ap3 s1 s2 s3 g1 g2 g3) : Ap3 g1 g2 g3 s1 s2 s3 :=
  ⟨h.a11.symm, h.a21.symm, h.a31.symm, h.a12.symm, h.a22.symm, h.a32.symm, h.a13.symm, h.a23.symm, h.a33.symm⟩
theorem ap3 {B C : Nat} {s1 s2 s3 g1 g2 g3 : Value} {d d' : DiskT} {w w' : World} (hS : DiskAt B s1 s2 s3 d w) (hG : DiskAt C g1 g2 g3 d' w') (hC : w.heap.size ≤ C) : Ap3 s1 s2 s3 g1 g2 g3 :=
  ⟨row_apart hS.live hG.live hC, row_apart hS.live hG.safe hC, row_apart hS.live hG.ops hC, row_apart hS.safe hG.live hC, row_apart hS.safe hG.safe hC, row_apart hS.safe hG.ops hC, row_apart hS.ops hG.live hC, row_apart hS.ops hG.safe hC, row_apart hS.ops hG.ops hC⟩
theorem grow3_disk {x1 x2 x3 s1 s2 s3 : Value} {w w' : World} {B : Nat} {d : DiskT} (hg : Grow3 x1 x2 x3 w w') (h : DiskAt B s1 s2 s3 d w) (a : Ap3 s1 s2 s3 x1 x2 x3) : DiskAt B s1 s2 s3 d w' :=
  ⟨hg.row h.live a.a11 a.a12 a.a13, hg.row h.safe a.a21 a.a22 a.a23, hg.row h.ops a.a31 a.a32 a.a33⟩
theorem grow3_blk {x1 x2 x3 : Value} {w w' : World} {B k : Nat} {d : DiskT} {cs : Array Value} {T : TypeId} (hg : Grow3 x1 x2 x3 w w') (h : DiskAt B x1 x2 x3 d w) (hb : w.heap[k]? = some (.cells cs T (0, 0))) (h1 : T ≠ 88) (h2 : T ≠ 36) : w'.heap[k]? = some (.cells cs T (0, 0)) :=
  (hg.block k (Array.getElem?_eq_some_iff.1 hb).1 (row_kind h.live hb h1) (row_kind h.safe hb h1) (row_kind h.ops hb h2)).trans hb
theorem grow3_below {x1 x2 x3 : Value} {w0 w w' : World} {B : Nat} {d : DiskT} (hg : Grow3 x1 x2 x3 w w') (h : DiskAt B x1 x2 x3 d w) (hb : Below B w0 w) (hs : B ≤ w.heap.size) : Below B w0 w' :=
  hg.below hb hs (fun q hq => (World.ownsRow.lt h.live q hq).1) (fun q hq => (World.ownsRow.lt h.safe q hq).1) (fun q hq => (World.ownsRow.lt h.ops q hq).1)

theorem markOne (v1 v2 v3 : Value) (d : DiskT) (K : Nat) (hK : 1 + d.many = K) (ap : ApartV v1 v2) (hl : K ≤ 1099511627776) (w : World) (h : DiskAt 0 v1 v2 v3 d w) :
    Calls Try.prog 40 #[.agg #[v1, v2, v3], .int .i64 1] w fun e w' => e = .returned (.int .i64 (K : Int)) ∧ DiskAt 0 v1 v2 v3 (d.marks 1) w' ∧ Grow3 v1 v2 v3 w w' := by
  subst hK
  exact markDisk_any v1 v2 v3 d 1 w h ap hl
theorem heldOne (v1 v2 v3 : Value) (d : DiskT) (K : Nat) (hK : 1 + d.many = K) (hl : K ≤ 1099511627776) (w : World) (h : DiskAt 0 v1 v2 v3 (d.marks 1) w) :
    Calls Try.prog 41 #[.agg #[v1, v2, v3], .int .i64 1] w fun e w' => e = .returned (.int .i64 (K : Int)) ∧ Below w.heap.size w w' := by
  subst hK
  exact heldDisk_any v1 v2 v3 d 1 w h hl

end Go.Proofs.Ytepefbfmjjnamaa

/- The laws over disks: values of a region that are disks, alone or with an answer; a new variable of a disk. -/
namespace Go.Proofs.Ytepefbfmjjnamaa
open Go.RowKit Go.My Go.Lib Go.ChangeShapes Go.WideShapes
set_option linter.unusedVariables false

theorem many_small {d : DiskT} (h : d.small) : 1 + d.many ≤ 1099511627776 := by
  have h1 := h.live
  have h2 := h.safe
  have h3 := h.ops
  show 1 + (2 * d.live.length + 2 * d.safe.length + 4 * d.ops.length) ≤ _
  omega
def DkV (B : Nat) (d : DiskT) (ap : Bool) (u : Value) (w : World) : Prop := ∃ x y z, u = .agg #[x, y, z] ∧ DiskAt B x y z d w ∧ (ap = true → ApartV x y)
def TuV (B : Nat) (d : DiskT) (ap : Bool) (R u : Value) (w : World) : Prop := ∃ x, u = .tuple #[x, R] ∧ DkV B d ap x w
def NewV (B : Nat) (u : Value) (w : World) : Prop := ∃ g cs, u = .pointer (some ⟨g, 0, none⟩) ∧ B ≤ g ∧ cs.size = 3 ∧ w.heap[g]? = some (.cells cs 27 (0, 0))
def SetV (B : Nat) (d : DiskT) (ap : Bool) (u : Value) (w : World) : Prop := ∃ g x y z, u = .pointer (some ⟨g, 0, none⟩) ∧ B ≤ g ∧ w.heap[g]? = some (.cells #[x, y, z] 27 (0, 0)) ∧ DiskAt B x y z d w ∧ (ap = true → ApartV x y)
theorem DkV.below {B : Nat} {d : DiskT} {ap : Bool} {u : Value} {w w' : World} (h : DkV B d ap u w) (hb : Below w.heap.size w w') : DkV B d ap u w' := by
  obtain ⟨x, y, z, e, hd, ha⟩ := h
  exact ⟨x, y, z, e, hd.below hb, ha⟩
theorem TuV.below {B : Nat} {d : DiskT} {ap : Bool} {R u : Value} {w w' : World} (h : TuV B d ap R u w) (hb : Below w.heap.size w w') : TuV B d ap R u w' := by
  obtain ⟨x, e, hd⟩ := h
  exact ⟨x, e, hd.below hb⟩
theorem NewV.below {B : Nat} {u : Value} {w w' : World} (h : NewV B u w) (hb : Below w.heap.size w w') : NewV B u w' := by
  obtain ⟨g, cs, e, hB, hc, hg⟩ := h
  exact ⟨g, cs, e, hB, hc, (hb.block g (Array.getElem?_eq_some_iff.1 hg).1).trans hg⟩
theorem SetV.below {B : Nat} {d : DiskT} {ap : Bool} {u : Value} {w w' : World} (h : SetV B d ap u w) (hb : Below w.heap.size w w') : SetV B d ap u w' := by
  obtain ⟨g, x, y, z, e, hB, hg, hd, ha⟩ := h
  exact ⟨g, x, y, z, e, hB, (hb.block g (Array.getElem?_eq_some_iff.1 hg).1).trans hg, hd.below hb, ha⟩
theorem disk_row {B g : Nat} {x y z : Value} {d : DiskT} {w : World} {cs ds : Array Value} (h : DiskAt B x y z d w) (hg : w.heap[g]? = some (.cells cs 27 (0, 0))) : DiskAt B x y z d (w.setRow g ds) :=
  ⟨RowL.kept h.live (grw_setRow (grw_refl _ _) _) (rowK h.live hg (by decide)), RowL.kept h.safe (grw_setRow (grw_refl _ _) _) (rowK h.safe hg (by decide)), RowL.kept h.ops (grw_setRow (grw_refl _ _) _) (rowK h.ops hg (by decide))⟩
theorem DkV.row {B g : Nat} {d : DiskT} {ap : Bool} {u : Value} {w : World} {cs ds : Array Value} (h : DkV B d ap u w) (hg : w.heap[g]? = some (.cells cs 27 (0, 0))) : DkV B d ap u (w.setRow g ds) := by
  obtain ⟨x, y, z, e, hd, ha⟩ := h
  exact ⟨x, y, z, e, disk_row hd hg, ha⟩
theorem TuV.row {B g : Nat} {d : DiskT} {ap : Bool} {R u : Value} {w : World} {cs ds : Array Value} (h : TuV B d ap R u w) (hg : w.heap[g]? = some (.cells cs 27 (0, 0))) : TuV B d ap R u (w.setRow g ds) := by
  obtain ⟨x, e, hd⟩ := h
  exact ⟨x, e, hd.row hg⟩
theorem below_row {B g : Nat} {w0 w : World} (h : Below B w0 w) (hg : B ≤ g) (hs : B ≤ w.heap.size) (ds : Array Value) : Below B w0 (w.setRow g ds) :=
  below_grw h (grw_setRow (grw_refl w (some g)) ds) hs (fun q hq => by have := Option.some.inj hq; omega)
/-- The store of a disk into a new variable. -/
theorem wpSetDk {Q : Exit → Act → World → Prop} {o : Oper} {a : Act} {w : World} {K : Act → World → Prop} {p q : Tmp} {B : Nat} {d : DiskT} {ap : Bool} {u x : Value} (hop : o.op = .store 27 (.tmp p) (.tmp q)) (h1 : a.eval (.tmp p) = u) (h2 : a.eval (.tmp q) = x) (hn : NewV B u w) (hd : DkV B d ap x w)
    (hK : ∀ g cs ds, w.heap[g]? = some (.cells cs 27 (0, 0)) → B ≤ g → NewV B u (w.setRow g ds) → SetV B d ap u (w.setRow g ds) → K (a.put o.dst undef) (w.setRow g ds)) : o.wp Try.prog a w K Q := by
  obtain ⟨g, cs, rfl, hB, hc, hg⟩ := hn
  obtain ⟨x1, x2, x3, rfl, hD, ha⟩ := hd
  have hone : (#[x1, x2, x3] : Array Value).all (·.oneCell') = true := by
    obtain ⟨_, _, rfl, _⟩ := hD.live.open
    obtain ⟨_, _, rfl, _⟩ := hD.safe.open
    obtain ⟨_, _, rfl, _⟩ := hD.ops.open
    simp [Value.oneCell']
  refine wpStoreT hop h1 h2 hg (diskSz x1 x2 x3) hc hone (hK g cs #[x1, x2, x3] hg hB ⟨g, _, rfl, hB, rfl, setRow_heap w g cs _ _ (0, 0) hg⟩ ⟨g, x1, x2, x3, rfl, hB, setRow_heap w g cs _ _ (0, 0) hg, disk_row hD hg, ha⟩)
theorem wpExtT {P : Program} {Q : Exit → Act → World → Prop} {o : Oper} {a : Act} {w : World} {K : Act → World → Prop} {k : Tmp} {i : Nat} {x y : Value} (hop : o.op = .extract (.tmp k) i) (he : a.eval (.tmp k) = y) (hr : (Instr.extract y i).run P w = .ok x w) (hK : K (a.put o.dst x) w) : o.wp P a w K Q :=
  wpVal (x := x) (w' := w) (by unfold execOp; simp only [hop]; simp only [he, Sem.run_bind, hr, Result.andThen_ok, Sem.run_pure]) hK
theorem wpAssT {P : Program} {Q : Exit → Act → World → Prop} {o : Oper} {a : Act} {w : World} {K : Act → World → Prop} {k : Tmp} {y : Value} (hop : o.op = .assign (.tmp k)) (he : a.eval (.tmp k) = y) (hK : K (a.put o.dst y) w) : o.wp P a w K Q :=
  wpVal (x := y) (w' := w) (by unfold execOp; simp only [hop]; simp only [he, Sem.run_pure]) hK
theorem ext0 (x R : Value) (w : World) : (Instr.extract (.tuple #[x, R]) 0).run Try.prog w = .ok x w := by simp [Instr.extract, go_sem]
theorem ext1 (x R : Value) (w : World) : (Instr.extract (.tuple #[x, R]) 1).run Try.prog w = .ok R w := by simp [Instr.extract, go_sem]
theorem nDisk (w : World) : (Instr.alloc 27 true (.tuple #[])).run Try.prog w = .ok (.pointer (some ⟨w.heap.size, 0, none⟩)) (w.alloc (.cells #[.slice none 0 0, .slice none 0 0, .slice none 0 0] 27)) := by simp [Instr.alloc, go_sem]
theorem newNew {B : Nat} {w : World} (hB : B ≤ w.heap.size) : NewV B (.pointer (some ⟨w.heap.size, 0, none⟩)) (w.alloc (.cells #[.slice none 0 0, .slice none 0 0, .slice none 0 0] 27)) := ⟨_, _, rfl, hB, rfl, heap_alloc_new w _⟩
theorem ldDkL {g : Nat} {x y z : Value} {w : World} (h : w.heap[g]? = some (.cells #[x, y, z] 56 (0, 0))) : (Instr.loadAt 56 (.pointer (some ⟨g, 0, none⟩))).run Try.prog w = .ok (.agg #[x, y, z]) w := by
  obtain ⟨⟨c0, c1, c2⟩, _⟩ := dk_cells h
  simp [Instr.loadAt, go_sem, c0, c1, c2]
theorem ldDkI {g : Nat} {x y z : Value} {w : World} (h : w.heap[g]? = some (.cells #[x, y, z] 27 (0, 0))) : (Instr.loadAt 27 (.pointer (some ⟨g, 0, none⟩))).run Try.prog w = .ok (.agg #[x, y, z]) w := by
  obtain ⟨⟨c0, c1, c2⟩, _⟩ := dk_cells h
  simp [Instr.loadAt, go_sem, c0, c1, c2]
theorem ldDpL {g : Nat} {x y z u : Value} {w : World} (h : w.heap[g]? = some (.cells #[x, y, z, u] 61 (0, 0))) : (Instr.loadAt 61 (.pointer (some ⟨g, 0, none⟩))).run Try.prog w = .ok (.agg #[x, y, z, u]) w := by
  obtain ⟨⟨c0, c1, c2, c3⟩, _⟩ := dop_cells h
  simp [Instr.loadAt, go_sem, c0, c1, c2, c3]
theorem argsT2 {a : Act} {k l : Tmp} {y z : Value} (h : a.eval (.tmp k) = y) (h2 : a.eval (.tmp l) = z) : #[Operand.tmp k, .tmp l].map a.eval = #[y, z] := by simp only [List.map_toArray, List.map_cons, List.map_nil, h, h2]
theorem argsT3 {a : Act} {k l m : Tmp} {y z u : Value} (h : a.eval (.tmp k) = y) (h2 : a.eval (.tmp l) = z) (h3 : a.eval (.tmp m) = u) : #[Operand.tmp k, .tmp l, .tmp m].map a.eval = #[y, z, u] := by simp only [List.map_toArray, List.map_cons, List.map_nil, h, h2, h3]
theorem cfToDisk (args : Array Value) (w : World) : (callFunc 36 args).run Try.prog w = .ok (.enter 36 args) w := cf_of Try.func36 (by kernel_rfl) (by kernel_rfl) args w
theorem cfToDOp (args : Array Value) (w : World) : (callFunc 39 args).run Try.prog w = .ok (.enter 39 args) w := cf_of Try.func39 (by kernel_rfl) (by kernel_rfl) args w
theorem cfSDo (args : Array Value) (w : World) : (callFunc 24 args).run Try.prog w = .ok (.enter 24 args) w := cf_of Try.func24 (by kernel_rfl) (by kernel_rfl) args w
theorem cfIDo (args : Array Value) (w : World) : (callFunc 23 args).run Try.prog w = .ok (.enter 23 args) w := cf_of Try.func23 (by kernel_rfl) (by kernel_rfl) args w
theorem cfSReplace (args : Array Value) (w : World) : (callFunc 28 args).run Try.prog w = .ok (.enter 28 args) w := cf_of Try.func28 (by kernel_rfl) (by kernel_rfl) args w
theorem cfIReplace (args : Array Value) (w : World) : (callFunc 27 args).run Try.prog w = .ok (.enter 27 args) w := cf_of Try.func27 (by kernel_rfl) (by kernel_rfl) args w
theorem cfSCrash (args : Array Value) (w : World) : (callFunc 43 args).run Try.prog w = .ok (.enter 43 args) w := cf_of Try.func43 (by kernel_rfl) (by kernel_rfl) args w
theorem cfICrash (args : Array Value) (w : World) : (callFunc 19 args).run Try.prog w = .ok (.enter 19 args) w := cf_of Try.func19 (by kernel_rfl) (by kernel_rfl) args w
set_option maxRecDepth 100000 in
/-- An operation that came in as an argument. -/
theorem dop_open {H : Type} {enc : TypeId × Value → H} {w : World} {sp : Nat → Bool} {held : Bool} {r : Reach} {b0 : Nat} {v : Value} {d : DataW H} {ps : List MemPlace} (hv : Value.okWide Try.prog w r b0 61 v) (h : DataW.Trod enc Try.prog w 0 sp held 61 v d ps) :
    ∃ k n t x, v = .agg #[.int .i64 k, .string n, .string t, .string x] ∧ dOpW (k, n, t, x) := by
  obtain ⟨cs, rfl, _⟩ := okWide_struct Try.underlying61 hv
  obtain ⟨fuel, hf0⟩ := h
  obtain ⟨l⟩ := cs
  simp only [Value.cells] at hf0
  obtain ⟨a, rfl, wa⟩ := dOp_open hf0
  exact ⟨a.1, a.2.1, a.2.2.1, a.2.2.2, rfl, wa⟩

end Go.Proofs.Ytepefbfmjjnamaa

/- The specification: an operation on a right disk; Do. -/
namespace Go.Proofs.Ytepefbfmjjnamaa
open Go.RowKit Go.My Go.Lib
set_option linter.unusedVariables false

def actD (d : DiskT) (op : DOpT) : DiskT := ⟨doL d.live d.ops op, d.safe, doO d.live d.ops op⟩
theorem actD_no {d : DiskT} {op : DOpT} (h : doC d.live d.ops op ≠ 0) : actD d op = d := by unfold actD doL doO; rw [if_neg h, if_neg h]
theorem actD_yes {d : DiskT} {op : DOpT} (h : doC d.live d.ops op = 0) : actD d op = ⟨aftL d.live op, d.safe, d.ops ++ [op]⟩ := by unfold actD doL doO; rw [if_pos h, if_pos h]

set_option maxRecDepth 20000 in
set_option maxHeartbeats 4000000 in
theorem act_s (v1 v2 v3 : Value) (d : DiskT) (k : Int) (n t x : ByteArray) (w : World) (h : DiskAt 0 v1 v2 v3 d w) (hf : filesB d.live = true) (h200 : d.ops.length ≤ 200) (hs : d.small) (hk : (Lit.int .i64 k).wf = true) (hn : n.size ≤ 1048580) (ht : t.size ≤ 1048580) (hx : x.size ≤ 1048576) :
    Calls Try.prog 66 #[.agg #[v1, v2, v3], .agg #[.int .i64 k, .string n, .string t, .string x]] w fun e w' => ∃ u1 u2 u3, e = .returned (.tuple #[.agg #[u1, u2, u3], .int .i64 (doC d.live d.ops (k, n, t, x))]) ∧ DiskAt w.heap.size u1 u2 u3 (actD d (k, n, t, x)) w' ∧ Below w.heap.size w w' := by
  have hFB := filesB_of hf
  have CC := Lib.hid (fun W (hW : Below w.heap.size w W) => copy_s v1 v2 v3 d W (h.below hW) hs)
  have CF := Lib.hid (fun W => form_s k n t x W hk (by omega) (by omega))
  have CD := Lib.hid (fun W (hW : Below w.heap.size w W) => do_s v1 d.live k n t x W (h.live.below hW) hs.live (by omega) (fun a ha => by have := data_le ha; have := hFB.sum; omega))
  have HSM := Lib.hid (show ∀ l', opDo d.live (k, n, t, x) = some l' → l'.length ≤ 61 ∧ dataSum l' ≤ 2000000 ∧ ∀ a ∈ l', a.1.size ≤ 1048580 from fun l' hh => opDo_small hFB hh hn ht hx)
  have HCC : Hid (doC d.live d.ops (k, n, t, x) = (if opB (k, n, t, x) = false then 2 else if findB d.live (k, n, t, x) = false then 3 else if 200 ≤ d.ops.length then 4 else if filesB (aftL d.live (k, n, t, x)) = false then 4 else 0)) := rfl
  have HNO := Lib.hid (fun h => actD_no (d := d) (op := (k, n, t, x)) h)
  have HYES := Lib.hid (fun h => actD_yes (d := d) (op := (k, n, t, x)) h)
  have HOA := Lib.hid (opDo_aft d.live (k, n, t, x))
  have HFB := Lib.hid (And.intro h200 hFB)
  obtain ⟨p1, m1, rfl, _⟩ := h.live.open
  obtain ⟨p2, m2, rfl, _⟩ := h.safe.open
  obtain ⟨p3, m3, rfl, _⟩ := h.ops.open
  clear h hf hs hk hn ht hx hFB h200
  obtain ⟨C, hC⟩ : ∃ C, doC d.live d.ops (k, n, t, x) = C := ⟨_, rfl⟩
  rw [hC] at HCC HNO HYES ⊢
  clear hC
  generalize actD d (k, n, t, x) = AD at HNO HYES ⊢
  have hB0 : Below w.heap.size w (((w.alloc (.cells #[.slice p1 d.live.length m1, .slice p2 d.safe.length m2, .slice p3 d.ops.length m3] 27)).alloc (.cells #[.int .i64 k, .string n, .string t, .string x] 36)).alloc (.cells #[.slice none 0 0, .slice none 0 0, .slice none 0 0] 27)) := (((Below.refl _ _).alloc (Nat.le_refl _) _).alloc (by simp) _).alloc (by simp; omega) _
  go_enter Try.func66, Try.ntmps66
  go_wp2_with fail
  refine (CF.out _).mono ?_
  rintro e w2 ⟨rfl, hb2⟩
  obtain ⟨hB2, xA, xO, xR, hsz2⟩ := boxes3 w _ _ _ _ hb2
  obtain ⟨⟨b0, b1, b2⟩, _⟩ := dk_cells xA
  obtain ⟨⟨o0, o1, o2, o3⟩, _⟩ := dop_cells xO
  obtain ⟨⟨r0, r1, r2⟩, rf⟩ := dk_cells xR
  have rf0 := rf 0
  have rf1 := rf 1
  have rf2 := rf 2
  have HX := Lib.hid (And.intro xA (And.intro xO xR))
  clear xA xO xR rf hb2
  cases c1 : opB (k, n, t, x) with
  | false =>
    have HR : Hid (C = 2) := by show _ = _; rw [HCC.out, if_pos c1]
    clear c1
    go_wp2_with fail
    refine (CC.out _ hB2).mono ?_
    rintro e wz ⟨u1, u2, u3, rfl, hD, hbz⟩
    obtain ⟨q1, n1, rfl, _⟩ := hD.live.open
    obtain ⟨q2, n2, rfl, _⟩ := hD.safe.open
    obtain ⟨q3, n3, rfl, _⟩ := hD.ops.open
    have yR := (hbz.block (w.heap.size + 1 + 1) (Array.getElem?_eq_some_iff.1 HX.out.2.2).1).trans HX.out.2.2
    have hBz := hB2.trans (hbz.mono hB2.size)
    have HD := Lib.hid (hD.mono hB2.size)
    have HY := Lib.hid yR
    have HBZ := Lib.hid hBz
    have HAD := Lib.hid (HNO.out (by rw [HR.out]; decide))
    clear b0 b1 b2 o0 o1 o2 o3 r0 r1 r2 rf0 rf1 rf2
    obtain ⟨⟨r0, r1, r2⟩, rf⟩ := dk_cells yR
    have rf0 := rf 0
    have rf1 := rf 1
    have rf2 := rf 2
    clear hD hbz hBz yR rf
    go_wp2
    refine bodyPost_ret (v := .tuple #[.agg #[.slice q1 d.live.length n1, .slice q2 d.safe.length n2, .slice q3 d.ops.length n3], .int .i64 2]) (results_row_u Try.results66 _ _ (w.heap.size + 1 + 1) 27 _ (0, 0) _ rfl (set3 HY.out _ _ _) Try.underlying27 rfl (by kernel_rfl)) rfl ⟨_, _, _, by rw [HR.out], by rw [HAD.out]; exact ⟨RowL.kept HD.out.live (grw_set3 _ _ _ _ _) (rowK HD.out.live HY.out (by decide)), RowL.kept HD.out.safe (grw_set3 _ _ _ _ _) (rowK HD.out.safe HY.out (by decide)), RowL.kept HD.out.ops (grw_set3 _ _ _ _ _) (rowK HD.out.ops HY.out (by decide))⟩, below_grw HBZ.out (grw_set3 _ _ _ _ _) HBZ.out.size (fun q hq => by cases hq; omega)⟩
  | true =>
    rw [if_neg (by rw [c1]; decide)] at HCC
    have HB2 := Lib.hid hB2
    clear c1
    go_wp2_with fail
    refine (CD.out _ hB2).mono ?_
    rintro e w3 ⟨v', l', b, rfl, hl', hop, hb3⟩
    have hB3 := hB2.trans (hb3.mono hB2.size)
    have xA := (hb3.block _ (Array.getElem?_eq_some_iff.1 HX.out.1).1).trans HX.out.1
    have xO := (hb3.block _ (Array.getElem?_eq_some_iff.1 HX.out.2.1).1).trans HX.out.2.1
    have xR := (hb3.block _ (Array.getElem?_eq_some_iff.1 HX.out.2.2).1).trans HX.out.2.2
    have hL' := hl'.mono HB2.out.size
    have HOP := Lib.hid hop
    clear b0 b1 b2 o0 o1 o2 o3 r0 r1 r2 rf0 rf1 rf2 hb3 hB2 hl' hop HX
    obtain ⟨⟨b0, b1, b2⟩, _⟩ := dk_cells xA
    obtain ⟨⟨o0, o1, o2, o3⟩, _⟩ := dop_cells xO
    obtain ⟨⟨r0, r1, r2⟩, rf⟩ := dk_cells xR
    have rf0 := rf 0
    have rf1 := rf 1
    have rf2 := rf 2
    have HX := Lib.hid (And.intro xA (And.intro xO xR))
    clear xA xO xR rf
    obtain ⟨pl, cl, rfl, _⟩ := hL'.open
    cases b with
    | false =>
      have HR : Hid (C = 3) := by
        show _ = _
        have := HOA.out.symm.trans HOP.out
        cases c2 : findB d.live (k, n, t, x) with
        | true => rw [c2] at this; cases this
        | false => rw [HCC.out, if_pos c2]
      go_wp2_with fail
      refine (CC.out _ hB3).mono ?_
      rintro e wz ⟨u1, u2, u3, rfl, hD, hbz⟩
      obtain ⟨q1, n1, rfl, _⟩ := hD.live.open
      obtain ⟨q2, n2, rfl, _⟩ := hD.safe.open
      obtain ⟨q3, n3, rfl, _⟩ := hD.ops.open
      have yR := (hbz.block (w.heap.size + 1 + 1) (Array.getElem?_eq_some_iff.1 HX.out.2.2).1).trans HX.out.2.2
      have hBz := hB3.trans (hbz.mono hB3.size)
      have HD := Lib.hid (hD.mono hB3.size)
      have HY := Lib.hid yR
      have HBZ := Lib.hid hBz
      have HAD := Lib.hid (HNO.out (by rw [HR.out]; decide))
      clear b0 b1 b2 o0 o1 o2 o3 r0 r1 r2 rf0 rf1 rf2
      obtain ⟨⟨r0, r1, r2⟩, rf⟩ := dk_cells yR
      have rf0 := rf 0
      have rf1 := rf 1
      have rf2 := rf 2
      clear hD hbz hBz yR rf
      go_wp2
      refine bodyPost_ret (v := .tuple #[.agg #[.slice q1 d.live.length n1, .slice q2 d.safe.length n2, .slice q3 d.ops.length n3], .int .i64 3]) (results_row_u Try.results66 _ _ (w.heap.size + 1 + 1) 27 _ (0, 0) _ rfl (set3 HY.out _ _ _) Try.underlying27 rfl (by kernel_rfl)) rfl ⟨_, _, _, by rw [HR.out], by rw [HAD.out]; exact ⟨RowL.kept HD.out.live (grw_set3 _ _ _ _ _) (rowK HD.out.live HY.out (by decide)), RowL.kept HD.out.safe (grw_set3 _ _ _ _ _) (rowK HD.out.safe HY.out (by decide)), RowL.kept HD.out.ops (grw_set3 _ _ _ _ _) (rowK HD.out.ops HY.out (by decide))⟩, below_grw HBZ.out (grw_set3 _ _ _ _ _) HBZ.out.size (fun q hq => by cases hq; omega)⟩
    | true =>
      have hfb : findB d.live (k, n, t, x) = true ∧ aftL d.live (k, n, t, x) = l' := by
        have := HOA.out.symm.trans HOP.out
        cases c2 : findB d.live (k, n, t, x) with
        | true => rw [c2] at this; exact ⟨rfl, Option.some.inj this⟩
        | false => rw [c2] at this; cases this
      rw [if_neg (by rw [hfb.1]; decide)] at HCC
      rw [hfb.2] at HCC HYES
      have HSL := Lib.hid (HSM.out l' HOP.out)
      have CK := Lib.hid (fun W (hW : Below w3.heap.size w3 W) => files_s (.slice pl l'.length cl) l' W ((hL'.mono (Nat.zero_le _)).below hW) (by have := HSL.out.1; omega) (by have := HSL.out.2.1; omega) (fun a ha => by have := HSL.out.2.2 a ha; omega))
      have HL' := Lib.hid hL'
      have hl61 : l'.length ≤ 61 := HSL.out.1
      clear hfb hL'
      have hoI : (d.ops.length : Int) ≤ 200 := by have := HFB.out.1; omega
      by_cases c3 : 200 ≤ d.ops.length
      · have hEq : (d.ops.length : Int) = 200 := by omega
        have hEq' : ((d.ops.length : Int) == 200) = true := by rw [hEq]; rfl
        have HR : Hid (C = 4) := by show _ = _; rw [HCC.out, if_pos c3]
        clear c3
        go_wp2_with fail
        refine (CC.out _ hB3).mono ?_
        rintro e wz ⟨u1, u2, u3, rfl, hD, hbz⟩
        obtain ⟨q1, n1, rfl, _⟩ := hD.live.open
        obtain ⟨q2, n2, rfl, _⟩ := hD.safe.open
        obtain ⟨q3, n3, rfl, _⟩ := hD.ops.open
        have yR := (hbz.block (w.heap.size + 1 + 1) (Array.getElem?_eq_some_iff.1 HX.out.2.2).1).trans HX.out.2.2
        have hBz := hB3.trans (hbz.mono hB3.size)
        have HD := Lib.hid (hD.mono hB3.size)
        have HY := Lib.hid yR
        have HBZ := Lib.hid hBz
        have HAD := Lib.hid (HNO.out (by rw [HR.out]; decide))
        clear b0 b1 b2 o0 o1 o2 o3 r0 r1 r2 rf0 rf1 rf2
        obtain ⟨⟨r0, r1, r2⟩, rf⟩ := dk_cells yR
        have rf0 := rf 0
        have rf1 := rf 1
        have rf2 := rf 2
        clear hD hbz hBz yR rf
        go_wp2
        refine bodyPost_ret (v := .tuple #[.agg #[.slice q1 d.live.length n1, .slice q2 d.safe.length n2, .slice q3 d.ops.length n3], .int .i64 4]) (results_row_u Try.results66 _ _ (w.heap.size + 1 + 1) 27 _ (0, 0) _ rfl (set3 HY.out _ _ _) Try.underlying27 rfl (by kernel_rfl)) rfl ⟨_, _, _, by rw [HR.out], by rw [HAD.out]; exact ⟨RowL.kept HD.out.live (grw_set3 _ _ _ _ _) (rowK HD.out.live HY.out (by decide)), RowL.kept HD.out.safe (grw_set3 _ _ _ _ _) (rowK HD.out.safe HY.out (by decide)), RowL.kept HD.out.ops (grw_set3 _ _ _ _ _) (rowK HD.out.ops HY.out (by decide))⟩, below_grw HBZ.out (grw_set3 _ _ _ _ _) HBZ.out.size (fun q hq => by cases hq; omega)⟩
      · rw [if_neg c3] at HCC
        have hEq' : ((d.ops.length : Int) == 200) = false := by
          have : ¬ ((d.ops.length : Int) = 200) := by omega
          simpa using this
        have HC3 := Lib.hid c3
        clear c3
        have HB3 := Lib.hid hB3
        obtain ⟨fb, hfb⟩ : ∃ b, filesB l' = b := ⟨_, rfl⟩
        rw [hfb] at HCC CK
        clear hfb
        go_wp2_with fail
        refine (CK.out _ (Below.refl _ _)).mono ?_
        rintro e w4 ⟨rfl, hb4⟩
        have hB4 := hB3.trans (hb4.mono hB3.size)
        have xA := (hb4.block _ (Array.getElem?_eq_some_iff.1 HX.out.1).1).trans HX.out.1
        have xO := (hb4.block _ (Array.getElem?_eq_some_iff.1 HX.out.2.1).1).trans HX.out.2.1
        have xR := (hb4.block _ (Array.getElem?_eq_some_iff.1 HX.out.2.2).1).trans HX.out.2.2
        have HL4 := Lib.hid (HL'.out.below hb4)
        clear b0 b1 b2 o0 o1 o2 o3 r0 r1 r2 rf0 rf1 rf2 hb4 hB3 HX
        obtain ⟨⟨b0, b1, b2⟩, _⟩ := dk_cells xA
        obtain ⟨⟨o0, o1, o2, o3⟩, _⟩ := dop_cells xO
        obtain ⟨⟨r0, r1, r2⟩, rf⟩ := dk_cells xR
        have rf0 := rf 0
        have rf1 := rf 1
        have rf2 := rf 2
        have HX := Lib.hid (And.intro xA (And.intro xO xR))
        clear xA xO xR rf
        cases fb with
        | false =>
          have HR : Hid (C = 4) := by show _ = _; rw [HCC.out, if_pos rfl]
          go_wp2_with fail
          refine (CC.out _ hB4).mono ?_
          rintro e wz ⟨u1, u2, u3, rfl, hD, hbz⟩
          obtain ⟨q1, n1, rfl, _⟩ := hD.live.open
          obtain ⟨q2, n2, rfl, _⟩ := hD.safe.open
          obtain ⟨q3, n3, rfl, _⟩ := hD.ops.open
          have yR := (hbz.block (w.heap.size + 1 + 1) (Array.getElem?_eq_some_iff.1 HX.out.2.2).1).trans HX.out.2.2
          have hBz := hB4.trans (hbz.mono hB4.size)
          have HD := Lib.hid (hD.mono hB4.size)
          have HY := Lib.hid yR
          have HBZ := Lib.hid hBz
          have HAD := Lib.hid (HNO.out (by rw [HR.out]; decide))
          clear b0 b1 b2 o0 o1 o2 o3 r0 r1 r2 rf0 rf1 rf2
          obtain ⟨⟨r0, r1, r2⟩, rf⟩ := dk_cells yR
          have rf0 := rf 0
          have rf1 := rf 1
          have rf2 := rf 2
          clear hD hbz hBz yR rf
          go_wp2
          refine bodyPost_ret (v := .tuple #[.agg #[.slice q1 d.live.length n1, .slice q2 d.safe.length n2, .slice q3 d.ops.length n3], .int .i64 4]) (results_row_u Try.results66 _ _ (w.heap.size + 1 + 1) 27 _ (0, 0) _ rfl (set3 HY.out _ _ _) Try.underlying27 rfl (by kernel_rfl)) rfl ⟨_, _, _, by rw [HR.out], by rw [HAD.out]; exact ⟨RowL.kept HD.out.live (grw_set3 _ _ _ _ _) (rowK HD.out.live HY.out (by decide)), RowL.kept HD.out.safe (grw_set3 _ _ _ _ _) (rowK HD.out.safe HY.out (by decide)), RowL.kept HD.out.ops (grw_set3 _ _ _ _ _) (rowK HD.out.ops HY.out (by decide))⟩, below_grw HBZ.out (grw_set3 _ _ _ _ _) HBZ.out.size (fun q hq => by cases hq; omega)⟩
        | true =>
          have HR : Hid (C = 0) := by show _ = _; rw [HCC.out, if_neg (by decide)]
          have HAD := Lib.hid (HYES.out HR.out)
          go_wp2_with fail
          refine (CC.out _ hB4).mono ?_
          rintro e w5 ⟨u1, u2, u3, rfl, hD, hb5⟩
          obtain ⟨q1, n1, rfl, _⟩ := hD.live.open
          obtain ⟨q2, n2, rfl, _⟩ := hD.safe.open
          obtain ⟨q3, n3, rfl, _⟩ := hD.ops.open
          have hB5 := hB4.trans (hb5.mono hB4.size)
          have hb6 : Below w5.heap.size w5 (w5.alloc (.cells #[.slice pl l'.length cl, .slice q2 d.safe.length n2, .slice q3 d.ops.length n3] 27)) := (Below.refl _ _).alloc (Nat.le_refl _) _
          have e6 := heap_alloc_new w5 (.cells #[.slice pl l'.length cl, .slice q2 d.safe.length n2, .slice q3 d.ops.length n3] 27)
          have hs6' : (w5.alloc (.cells #[.slice pl l'.length cl, .slice q2 d.safe.length n2, .slice q3 d.ops.length n3] 27)).heap.size = w5.heap.size + 1 := by simp
          have hb56 := hb5.trans (hb6.mono hb5.size)
          have xO6 := (hb56.block _ (Array.getElem?_eq_some_iff.1 HX.out.2.1).1).trans HX.out.2.1
          have xR6 := (hb56.block _ (Array.getElem?_eq_some_iff.1 HX.out.2.2).1).trans HX.out.2.2
          have hT : w.heap.size + 1 + 1 + 1 ≤ w5.heap.size := Nat.le_trans (Array.getElem?_eq_some_iff.1 HX.out.2.2).1 hb5.size
          have L6 := RowL.below HL4.out hb56
          have S6 := RowL.below hD.safe hb6
          have O6 := RowL.below hD.ops hb6
          have hB6 : Below w.heap.size w (w5.alloc (.cells #[.slice pl l'.length cl, .slice q2 d.safe.length n2, .slice q3 d.ops.length n3] 27)) := hB5.trans (hb6.mono hB5.size)
          have h4 : w.heap.size ≤ w4.heap.size ∧ w4.heap.size ≤ w5.heap.size := ⟨hB4.size, hb5.size⟩
          have HH := Lib.hid (And.intro hT h4)
          have HB4 := Lib.hid hB4
          have HXX := Lib.hid (And.intro e6 (And.intro hs6' (And.intro L6 (And.intro S6 (And.intro O6 (And.intro xO6 (And.intro xR6 hB6)))))))
          clear b0 b1 b2 o0 o1 o2 o3 r0 r1 r2 rf0 rf1 rf2 hb5 hb6 hb56 hB4 hB5 hD hT h4 e6 hs6' L6 S6 O6 xO6 xR6 hB6
          go_upto_region 10 with (fail)
          obtain ⟨e6, hs6', L6, S6, O6, xO6, xR6, hB6⟩ := HXX.out
          clear HXX
          generalize (w5.alloc (.cells #[.slice pl l'.length cl, .slice q2 d.safe.length n2, .slice q3 d.ops.length n3] 27)) = W6 at e6 hs6' L6 S6 O6 xO6 xR6 hB6 ⊢
          obtain ⟨⟨t0, t1, t2⟩, tf⟩ := dk_cells e6
          have tf2 := tf 2
          obtain ⟨⟨o0, o1, o2, o3⟩, _⟩ := dop_cells xO6
          obtain ⟨i0, hi, hz0, hz1, hz2⟩ := info_parts info_DOp
          have hR6 : W6.ownsRow w4.heap.size 36 4 (.slice q3 d.ops.length n3) d.ops.length (d.ops.flatMap dOpC) := O6
          have E7 := Lib.hid (show ∀ w7 : World, (W6.alloc (.cells #[.int .i64 k, .string n, .string t, .string x] 36)).grownBy w7 (Value.slice q3 d.ops.length n3).ownBlock → w7.heap[w5.heap.size]? = some (.cells #[.slice pl l'.length cl, .slice q2 d.safe.length n2, .slice q3 d.ops.length n3] 27 (0, 0)) from fun w7 hg7 => by
            have b := (Below.refl W6.heap.size W6).alloc (Nat.le_refl _) (.cells #[.int .i64 k, .string n, .string t, .string x] 36)
            rw [hg7.block w5.heap.size (by simp; omega) (fun c => row_kind O6 e6 (by decide) c.symm)]
            exact (b.block w5.heap.size (by omega)).trans e6)
          have HF := Lib.hid (And.intro L6 (And.intro S6 (And.intro O6 (And.intro xR6 (And.intro hB6 hs6')))))
          have hsW : w4.heap.size ≤ W6.heap.size := by have := HH.out.2.2; omega
          have hol : d.ops.length < 200 := by have := HC3.out; omega
          clear L6 S6 O6 xR6 xO6 e6 hB6 hs6' tf
          go_upto_region 11 with (at_builtin; refine wpList_append_lies _ rfl _ _ 25 rfl w4.heap.size 36 i0 (.agg #[.int .i64 0, .string ByteArray.empty, .string ByteArray.empty, .string ByteArray.empty]) 4 56 Try.underlying25 hi hz0 hz1 hz2 rfl (by decide) (.slice q3 d.ops.length n3) d.ops.length _ rfl (hR6.alloc _) ⟨W6.heap.size, 0, none⟩ 1 1 [_, _, _, _] rfl rfl (World.news_of_block (cs := #[_, _, _, _]) (t := 36) (fr := (0, 0)) (heap_alloc_new W6 _)) (by simp [Value.oneCell']) (by omega) (by unfold maxLen; omega) (by omega) (by simp; omega) (W6.heap.size + 1) (by simp) ?_; intro g2 cap2 w7 hown2 hgrow2 hat hlt2; have e7 := E7.out _ hgrow2; have d27 : w7.cell? ⟨w5.heap.size, 2, none⟩ = some (.slice q3 d.ops.length n3) := cell_of_row w7 _ 2 _ _ (0, 0) e7; have f27 : w7.frozen? ⟨w5.heap.size, 2, none⟩ = false := frozen_of_row w7 _ 2 _ _ e7)
          obtain ⟨L6, S6, O6, xR6, hB6, hs6'⟩ := HF.out
          have R := row_push (b := (k, n, t, x)) hR6 (Below.refl _ _) hsW rfl rfl hown2 hgrow2
          have gA : W6.grownBy w7 (Value.slice q3 d.ops.length n3).ownBlock := grw_trans (grw_of_below ((Below.refl W6.heap.size W6).alloc (Nat.le_refl _) _) _) hgrow2
          have L7 := RowL.kept L6 gA (row_types L6 O6 (by decide))
          have S7 := RowL.kept S6 gA (row_types S6 O6 (by decide))
          have hr4 : w.heap.size + 1 + 1 < w4.heap.size := (Array.getElem?_eq_some_iff.1 HX.out.2.2).1
          have xR7 := (R.2.block (w.heap.size + 1 + 1) hr4).trans xR6
          have hB7 := hB6.trans (R.2.mono HH.out.2.1)
          have hT5 := HH.out.1
          have h45 := HH.out.2
          have g8 : w7.grownBy (w7.setCell ⟨w5.heap.size, 2, none⟩ (.slice (some ⟨g2, 0, none⟩) (d.ops.length + 1) cap2)) (some w5.heap.size) := grw_set (grw_refl _ _) _ _
          have e8 := heap_setCell_same w7 w5.heap.size 2 _ _ (.slice (some ⟨g2, 0, none⟩) (d.ops.length + 1) cap2) e7
          have L8 := RowL.kept L7 g8 (rowK L7 e7 (by decide))
          have S8 := RowL.kept S7 g8 (rowK S7 e7 (by decide))
          have O8 := RowL.kept R.1 g8 (rowK R.1 e7 (by decide))
          have xR8 := (g8.block (w.heap.size + 1 + 1) (by have := R.2.size; omega) (fun c => by have := Option.some.inj c; omega)).trans xR7
          have hB8 := below_grw hB7 g8 hB7.size (fun q hq => by have := Option.some.inj hq; omega)
          clear R gA L7 S7 xR7 hB7 g8 e7 d27 f27 hown2 hgrow2 hat hlt2 L6 S6 O6 xR6 hB6 hs6' hR6 t0 t1 t2 tf2 o0 o1 o2 o3 E7 HF hi hz0 hz1 hz2
          generalize w7.setCell ⟨w5.heap.size, 2, none⟩ (.slice (some ⟨g2, 0, none⟩) (d.ops.length + 1) cap2) = w8 at e8 L8 S8 O8 xR8 hB8 ⊢
          have HQ := Lib.hid (And.intro L8 (And.intro S8 (And.intro O8 (And.intro xR8 hB8))))
          obtain ⟨⟨t0, t1, t2⟩, _⟩ := dk_cells e8
          obtain ⟨⟨r0, r1, r2⟩, rf⟩ := dk_cells xR8
          have rf0 := rf 0
          have rf1 := rf 1
          have rf2 := rf 2
          clear rf L8 S8 O8 xR8 hB8 e8
          go_wp2
          obtain ⟨L8, S8, O8, xR8, hB8⟩ := HQ.out
          refine bodyPost_ret (v := .tuple #[.agg #[.slice pl l'.length cl, .slice q2 d.safe.length n2, .slice (some ⟨g2, 0, none⟩) (d.ops.length + 1) cap2], .int .i64 0]) (results_row_u Try.results66 _ _ (w.heap.size + 1 + 1) 27 _ (0, 0) _ rfl (set3 xR8 _ _ _) Try.underlying27 rfl (by kernel_rfl)) rfl ⟨_, _, _, by rw [HR.out], by rw [HAD.out]; exact ⟨RowL.kept L8 (grw_set3 _ _ _ _ _) (rowK L8 xR8 (by decide)), RowL.kept (S8.mono HH.out.2.1) (grw_set3 _ _ _ _ _) (rowK S8 xR8 (by decide)), RowL.kept (O8.mono HH.out.2.1) (grw_set3 _ _ _ _ _) (rowK O8 xR8 (by decide))⟩, below_grw hB8 (grw_set3 _ _ _ _ _) hB8.size (fun q hq => by cases hq; omega)⟩

theorem doD_act {d : DiskT} {op : DOpT} (h : diskB d = true) : doD d op = actD d op := doD_yes h
set_option maxRecDepth 20000 in
set_option maxHeartbeats 2000000 in
theorem doD_s (v1 v2 v3 : Value) (d : DiskT) (k : Int) (n t x : ByteArray) (w : World) (h : DiskAt 0 v1 v2 v3 d w) (hd : d.fit) (hk : (Lit.int .i64 k).wf = true) (hn : n.size ≤ 1048576) (ht : t.size ≤ 1048576) (hx : x.size ≤ 1048576) :
    Calls Try.prog 24 #[.agg #[v1, v2, v3], .agg #[.int .i64 k, .string n, .string t, .string x]] w fun e w' => ∃ u1 u2 u3, e = .returned (.tuple #[.agg #[u1, u2, u3], .int .i64 (doR d (k, n, t, x))]) ∧ DiskAt w.heap.size u1 u2 u3 (doD d (k, n, t, x)) w' ∧ Below w.heap.size w w' := by
  have C := Lib.hid (fun W (hW : Below w.heap.size w W) => disk_s v1 v2 v3 d W (h.below hW) hd)
  have CA := Lib.hid (fun W (hW : Below w.heap.size w W) (hb : diskB d = true) => act_s v1 v2 v3 d k n t x W (h.below hW) (diskB_live hb) (diskB_ops hb) hd.small hk (Nat.le_trans hn (by decide)) (Nat.le_trans ht (by decide)) hx)
  obtain ⟨p1, m1, rfl, _, _, _⟩ := h.live.open
  obtain ⟨p2, m2, rfl, _, _, _⟩ := h.safe.open
  obtain ⟨p3, m3, rfl, _, _, _⟩ := h.ops.open
  clear h hd hk hn ht hx
  go_enter Try.func24, Try.ntmps24
  go_wp2_with fail
  refine (C.out _ ?_).mono ?_
  · exact (((Below.refl _ _).alloc (Nat.le_refl _) _).alloc (by simp) _).alloc (by simp; omega) _
  rintro e w2 ⟨rfl, hb2⟩
  obtain ⟨hB2, xA, xO, xR, hsz2⟩ := boxes3 w _ _ _ _ hb2
  have HB2 := Lib.hid hB2
  have HXR := Lib.hid xR
  obtain ⟨⟨r0, r1, r2⟩, rf⟩ := dk_cells xR
  obtain ⟨⟨b0, b1, b2⟩, _⟩ := dk_cells xA
  obtain ⟨⟨o0, o1, o2, o3⟩, _⟩ := dop_cells xO
  have rf0 := rf 0
  have rf1 := rf 1
  have rf2 := rf 2
  clear hb2 C hB2 xA xR rf xO
  cases hk : diskB d with
  | false =>
    have HV := Lib.hid (doD_no (op := (k, n, t, x)) hk)
    have HR := Lib.hid (doR_no (op := (k, n, t, x)) hk)
    clear hk
    go_wp2
    have gz := grw_set3 w2 (w.heap.size + 1 + 1) (.slice none 0 0) (.slice none 0 0) (.slice none 0 0)
    refine bodyPost_ret (v := .tuple #[.agg #[.slice none 0 0, .slice none 0 0, .slice none 0 0], .int .i64 1]) (results_row_u Try.results24 _ _ (w.heap.size + 1 + 1) 27 _ (0, 0) _ rfl (set3 HXR.out (.slice none 0 0) (.slice none 0 0) (.slice none 0 0)) Try.underlying27 rfl (by kernel_rfl)) rfl ⟨_, _, _, by rw [HR.out], by rw [HV.out]; exact nilDisk _ _, below_grw HB2.out gz HB2.out.size (fun q hq => by cases hq; omega)⟩
  | true =>
    have HV := Lib.hid (doD_act (op := (k, n, t, x)) hk)
    have HR := Lib.hid (doR_yes (op := (k, n, t, x)) hk)
    have CA2 := Lib.hid (CA.out w2 HB2.out hk)
    generalize doC d.live d.ops (k, n, t, x) = R at CA2 HR
    generalize actD d (k, n, t, x) = AD at CA2 HV
    clear hk CA
    go_wp2_with fail
    refine CA2.out.mono ?_
    rintro e w4 ⟨u1, u2, u3, rfl, hD, hb4⟩
    obtain ⟨q1, n1, rfl, _⟩ := hD.live.open
    obtain ⟨q2, n2, rfl, _⟩ := hD.safe.open
    obtain ⟨q3, n3, rfl, _⟩ := hD.ops.open
    have yR := (hb4.block (w.heap.size + 1 + 1) (Array.getElem?_eq_some_iff.1 HXR.out).1).trans HXR.out
    have hB4 := HB2.out.trans (hb4.mono HB2.out.size)
    have HD := Lib.hid (hD.mono HB2.out.size)
    have HY := Lib.hid yR
    have HB4 := Lib.hid hB4
    clear b0 b1 b2 o0 o1 o2 o3 r0 r1 r2 rf0 rf1 rf2
    obtain ⟨⟨r0, r1, r2⟩, rf⟩ := dk_cells yR
    have rf0 := rf 0
    have rf1 := rf 1
    have rf2 := rf 2
    clear hD hb4 hB4 yR rf CA2
    go_wp2
    refine bodyPost_ret (v := .tuple #[.agg #[.slice q1 AD.live.length n1, .slice q2 AD.safe.length n2, .slice q3 AD.ops.length n3], .int .i64 R]) (results_row_u Try.results24 _ _ (w.heap.size + 1 + 1) 27 _ (0, 0) _ rfl (set3 HY.out _ _ _) Try.underlying27 rfl (by kernel_rfl)) rfl ⟨_, _, _, by rw [HR.out], by rw [HV.out]; exact ⟨RowL.kept HD.out.live (grw_set3 _ _ _ _ _) (rowK HD.out.live HY.out (by decide)), RowL.kept HD.out.safe (grw_set3 _ _ _ _ _) (rowK HD.out.safe HY.out (by decide)), RowL.kept HD.out.ops (grw_set3 _ _ _ _ _) (rowK HD.out.ops HY.out (by decide))⟩, below_grw HB4.out (grw_set3 _ _ _ _ _) HB4.out.size (fun q hq => by cases hq; omega)⟩

end Go.Proofs.Ytepefbfmjjnamaa

/- The specification: Crash. -/
namespace Go.Proofs.Ytepefbfmjjnamaa
open Go.RowKit Go.My Go.Lib
set_option linter.unusedVariables false

theorem in_q (n lo hi : Int) (b : Bool) (hb : (decide (lo ≤ n) && decide (n ≤ hi)) = b) (w : World) : Calls Try.prog 92 #[.int .i64 n, .int .i64 lo, .int .i64 hi] w fun e w' => e = .returned (.bool b) ∧ w' = w := (in_any n lo hi w).mono (fun e w' h => ⟨by rw [h.1, hb], h.2.symm⟩)
theorem wpIdxT {P : Program} {Q : Exit → Act → World → Prop} {o : Oper} {a : Act} {w : World} {K : Act → World → Prop} {T : TypeId} {k l : Tmp} {x y z : Value} (hop : o.op = .indexAddr T (.tmp k) (.tmp l)) (h1 : a.eval (.tmp k) = x) (h2 : a.eval (.tmp l) = y) (hr : (Instr.indexAt T x y).run P w = .ok z w) (hK : K (a.put o.dst z) w) : o.wp P a w K Q :=
  wpVal (x := z) (w' := w) (by unfold execOp; simp only [hop]; simp only [h1, h2, Sem.run_bind, hr, Result.andThen_ok, Sem.run_pure]) hK
theorem ixK {g j n m : Nat} (h : j < n) (w : World) : (Instr.indexAt 30 (.slice (some ⟨g, 0, none⟩) n m) (.int .i64 (j : Int))).run Try.prog w = .ok (.pointer (some ⟨g, j, none⟩)) w := by
  have h0 : (0 : Int) ≤ (j : Int) := by omega
  simp [Instr.indexAt, go_sem, h0, h]
theorem ixO {g j n m : Nat} (h : j < n) (w : World) : (Instr.indexAt 25 (.slice (some ⟨g, 0, none⟩) n m) (.int .i64 (j : Int))).run Try.prog w = .ok (.pointer (some ⟨g, j * 4, none⟩)) w := by
  have h0 : (0 : Int) ≤ (j : Int) := by omega
  simp [Instr.indexAt, go_sem, h0, h]
theorem ldK {g j : Nat} {x : Int} {w : World} (h : w.cell? ⟨g, j, none⟩ = some (.int .i64 x)) : (Instr.loadAt 2 (.pointer (some ⟨g, j, none⟩))).run Try.prog w = .ok (.int .i64 x) w := by
  simp [Instr.loadAt, go_sem, h]
theorem ldOp {g j : Nat} {k : Int} {n t x : ByteArray} {w : World} (h0 : w.cell? ⟨g, j, none⟩ = some (.int .i64 k)) (h1 : w.cell? ⟨g, j + 1, none⟩ = some (.string n)) (h2 : w.cell? ⟨g, j + 2, none⟩ = some (.string t)) (h3 : w.cell? ⟨g, j + 3, none⟩ = some (.string x)) :
    (Instr.loadAt 36 (.pointer (some ⟨g, j, none⟩))).run Try.prog w = .ok (.agg #[.int .i64 k, .string n, .string t, .string x]) w := by
  simp [Instr.loadAt, go_sem, h0, h1, h2, h3]
theorem nOp (w : World) : (Instr.alloc 36 true (.tuple #[])).run Try.prog w = .ok (.pointer (some ⟨w.heap.size, 0, none⟩)) (w.alloc (.cells #[.int .i64 0, .string (ByteArray.mk #[]), .string (ByteArray.mk #[]), .string (ByteArray.mk #[])] 36)) := by simp [Instr.alloc, go_sem]
theorem opSz (k : Int) (n t x : ByteArray) : (Try.prog.info? 36).map (·.size) = some (#[.int .i64 k, .string n, .string t, .string x] : Array Value).size := by kernel_rfl

structure CrOp (W1 : World) (a gk go j q : Nat) (V K : Value) (x : DOpT) (v : Nat → Value) (L : Nat → Bool) (w : World) : Prop where
  G : Below W1.heap.size W1 w
  f0 : L 0 = true → v 0 = .pointer (some ⟨a, 2, none⟩)
  f1 : L 1 = true → v 1 = V
  f2 : L 2 = true → v 2 = K
  f3 : L 3 = true → v 3 = .int .i64 (j : Int)
  f4 : L 4 = true → v 4 = .pointer (some ⟨gk, j, none⟩)
  f5 : L 5 = true → v 5 = .int .i64 (q : Int)
  f6 : L 6 = true → v 6 = .pointer (some ⟨go, q * 4, none⟩)
  f7 : L 7 = true → v 7 = (.agg #[.int .i64 x.1, .string x.2.1, .string x.2.2.1, .string x.2.2.2])
  f8 : L 8 = true → ∃ g cs, v 8 = .pointer (some ⟨g, 0, none⟩) ∧ W1.heap.size ≤ g ∧ cs.size = 4 ∧ w.heap[g]? = some (.cells cs 36 (0, 0))
  f9 : L 9 = true → ∃ g, v 8 = .pointer (some ⟨g, 0, none⟩) ∧ W1.heap.size ≤ g ∧ w.heap[g]? = some (.cells #[.int .i64 x.1, .string x.2.1, .string x.2.2.1, .string x.2.2.2] 36 (0, 0))
  gS : L 9 = true → L 8 = true
theorem CrOp.grow {W1 : World} {a gk go j q : Nat} {V K : Value} {x : DOpT} {v : Nat → Value} {L : Nat → Bool} {w w' : World} (h : CrOp W1 a gk go j q V K x v L w) (hb : Below w.heap.size w w') : CrOp W1 a gk go j q V K x v L w' where
  G := h.G.trans (hb.mono h.G.size)
  f0 := h.f0
  f1 := h.f1
  f2 := h.f2
  f3 := h.f3
  f4 := h.f4
  f5 := h.f5
  f6 := h.f6
  f7 := h.f7
  f8 := fun hl => by
    obtain ⟨g, cs, h1, h2, h3, h4⟩ := h.f8 hl
    exact ⟨g, cs, h1, h2, h3, (hb.block g (Array.getElem?_eq_some_iff.1 h4).1).trans h4⟩
  f9 := fun hl => by
    obtain ⟨g, h1, h2, h3⟩ := h.f9 hl
    exact ⟨g, h1, h2, (hb.block g (Array.getElem?_eq_some_iff.1 h3).1).trans h3⟩
  gS := h.gS

set_option maxRecDepth 20000 in
set_option maxHeartbeats 8000000 in
theorem crD_s (v1 v2 v3 vk : Value) (d : DiskT) (keep : List Int) (torn : Int) (w : World) (h : DiskAt 0 v1 v2 v3 d w) (hd : d.fit) (hK : RowL 0 2 1 numC vk keep w) (hlen : keep.length ≤ 1048576) :
    Calls Try.prog 43 #[.agg #[v1, v2, v3], vk, .int .i64 torn] w fun e w' => ∃ u1 u2 u3, e = .returned (.tuple #[.agg #[u1, u2, u3], .bool (crB d keep torn)]) ∧ DiskAt w.heap.size u1 u2 u3 (crD d keep torn) w' ∧ Below w.heap.size w w' := by
  have C := Lib.hid (fun W (hW : Below w.heap.size w W) => disk_s v1 v2 v3 d W (h.below hW) hd)
  have H := Lib.hid (And.intro h (And.intro hK hd))
  have hkI : (keep.length : Int) ≤ 1048576 := by omega
  obtain ⟨p1, m1, rfl, _, _, _⟩ := h.live.open
  obtain ⟨p2, m2, rfl, _, _, _⟩ := h.safe.open
  obtain ⟨p3, m3, rfl, _, _, hp3⟩ := h.ops.open
  obtain ⟨pk, mk, rfl, _, _, hpk⟩ := hK.open
  clear h hK
  go_enter Try.func43, Try.ntmps43
  go_wp2_with fail
  refine (C.out _ ?_).mono ?_
  · exact ((Below.refl _ _).alloc (Nat.le_refl _) _).alloc (by simp) _
  rintro e w2 ⟨rfl, hb2⟩
  obtain ⟨hB2, xA, xR⟩ := boxes2 w _ _ _ hb2
  have hlt2 : w.heap.size + 1 < w2.heap.size := (Array.getElem?_eq_some_iff.1 xR).1
  have HB2 := Lib.hid hB2
  have HXA := Lib.hid xA
  have HXR := Lib.hid xR
  clear hb2 C hB2 xA xR
  have hno : ∀ (W : World), Below w2.heap.size w2 W → crB d keep torn = false → ∃ u1 u2 u3, (Ending.returned (.tuple #[.agg #[.slice none 0 0, .slice none 0 0, .slice none 0 0], .bool false])) = .returned (.tuple #[.agg #[u1, u2, u3], .bool (crB d keep torn)]) ∧ DiskAt w.heap.size u1 u2 u3 (crD d keep torn) (((W.setCell ⟨w.heap.size + 1, 0, none⟩ (.slice none 0 0)).setCell ⟨w.heap.size + 1, 1, none⟩ (.slice none 0 0)).setCell ⟨w.heap.size + 1, 2, none⟩ (.slice none 0 0)) ∧ Below w.heap.size w (((W.setCell ⟨w.heap.size + 1, 0, none⟩ (.slice none 0 0)).setCell ⟨w.heap.size + 1, 1, none⟩ (.slice none 0 0)).setCell ⟨w.heap.size + 1, 2, none⟩ (.slice none 0 0)) := fun W hW hc => by
    have hB : Below w.heap.size w W := HB2.out.trans (hW.mono HB2.out.size)
    exact ⟨_, _, _, by rw [hc], by rw [crD_no hc]; exact nilDisk _ _, below_grw hB (grw_set3 _ _ _ _ _) hB.size (fun q hq => by cases hq; omega)⟩
  have HNO := Lib.hid hno
  clear hno
  cases hk : diskB d with
  | false =>
    have HR := Lib.hid (crB_no (keep := keep) (torn := torn) hk)
    obtain ⟨⟨r0, r1, r2⟩, rf⟩ := dk_cells HXR.out
    have rf0 := rf 0
    have rf1 := rf 1
    have rf2 := rf 2
    clear hk rf
    go_wp2
    refine bodyPost_ret (v := .tuple #[.agg #[.slice none 0 0, .slice none 0 0, .slice none 0 0], .bool false]) (results_row_u Try.results43 _ _ (w.heap.size + 1) 27 _ (0, 0) _ rfl (set3 HXR.out _ _ _) Try.underlying27 rfl (by kernel_rfl)) rfl (HNO.out w2 (Below.refl _ _) HR.out)
  | true =>
  by_cases ht : torn < 0
  · have HR : Hid (crB d keep torn = false) := by show _ = _; unfold crB; rw [hk, decide_eq_false (by omega)]; rfl
    obtain ⟨⟨r0, r1, r2⟩, rf⟩ := dk_cells HXR.out
    have rf0 := rf 0
    have rf1 := rf 1
    have rf2 := rf 2
    clear hk rf
    go_wp2
    refine bodyPost_ret (v := .tuple #[.agg #[.slice none 0 0, .slice none 0 0, .slice none 0 0], .bool false]) (results_row_u Try.results43 _ _ (w.heap.size + 1) 27 _ (0, 0) _ rfl (set3 HXR.out _ _ _) Try.underlying27 rfl (by kernel_rfl)) rfl (HNO.out w2 (Below.refl _ _) HR.out)
  obtain ⟨T, rfl⟩ : ∃ T : Nat, torn = (T : Int) := ⟨torn.toNat, by omega⟩
  have h200 := diskB_ops hk
  have hoI : (d.ops.length : Int) ≤ 200 := by omega
  have HSF : Hid (filesB d.safe = true) := by
    show _ = _
    have hk2 := hk
    unfold diskB at hk2
    simp only [Bool.and_eq_true, decide_eq_true_eq] at hk2
    exact hk2.1.1.2
  have HFM := Lib.hid (disk_forms hk)
  have HM := Lib.hid (mid_all H.out.2.2 HSF.out keep T)
  have HKS := Lib.hid (kept_small H.out.2.2 keep T)
  have HCB : Hid (crB d keep (T : Int) = (idxB (-1) keep d.ops.length && filesB (crL d keep T keep.length))) := by show _ = _; unfold crB; rw [hk, decide_eq_true (by omega), show ((T : Int)).toNat = T from rfl]; rfl
  have HYES : Hid (crB d keep (T : Int) = true → crD d keep (T : Int) = ⟨crL d keep T keep.length, crL d keep T keep.length, []⟩) := fun hc => crD_yes hc
  clear hk ht
  go_wp2
  go_loopw [8] (fun i wr => ∃ j : Nat, j ≤ keep.length ∧ i = .int .i64 j ∧ (∀ i, i < j → lastAt keep i < keep.getD i 0 ∧ keep.getD i 0 < (d.ops.length : Int)) ∧ Below w2.heap.size w2 wr) (fun i _ => keep.length - (RowKit.intOf i).toNat)
  case atStart => exact ⟨0, Nat.zero_le _, rfl, fun i hi => by omega, Below.refl _ _⟩
  case round =>
    obtain ⟨j, hj, rfl, hall, hB⟩ := hrel
    have HBW := Lib.hid (HB2.out.trans (hB.mono HB2.out.size))
    have HB := Lib.hid hB
    have hA := (hB.block _ (Array.getElem?_eq_some_iff.1 HXA.out).1).trans HXA.out
    obtain ⟨⟨b0, b1, b2⟩, _⟩ := dk_cells hA
    have HA := Lib.hid hA
    clear hA hB
    by_cases hlt : j < keep.length
    · have hne : keep ≠ [] := by intro c; rw [c] at hlt; simp at hlt
      obtain ⟨gk, rfl, _, hgk⟩ := hpk.resolve_left (fun c => hne c.1)
      have j0 : (0 : Int) ≤ (j : Int) := by omega
      have j1 : (j : Int) < (keep.length : Int) := by omega
      have ck := rowl_num (H.out.2.1.below HBW.out) j hlt
      have HG : Hid (keep.getD j 0 = keep[j]) := by show _ = _; rw [List.getD_eq_getElem?_getD, List.getElem?_eq_getElem hlt]; rfl
      have HBAD := Lib.hid (fun h => idx_bad (n := d.ops.length) hlt h)
      have HALL := Lib.hid hall
      have HLG := Lib.hid (last_ge (n := d.ops.length) j (fun i hi => hall i hi))
      rw [HG.out] at HBAD
      obtain ⟨x, hx⟩ : ∃ x, keep[j] = x := ⟨_, rfl⟩
      rw [hx] at HG HBAD ck
      have HJ := Lib.hid hlt
      have e9 : IntKind.i64.wrap ((d.ops.length : Int) - 1) = (d.ops.length : Int) - 1 := IntWalk.i64_in _ (by omega)
      clear hall hx hne hgk
      by_cases hz : j = 0
      · subst hz
        have HL0 : Hid (lastAt keep 0 = -1) := rfl
        have gz : decide (0 < 0) = false := rfl
        cases hin : (decide (0 ≤ x) && decide (x ≤ (d.ops.length : Int) - 1)) with
        | false =>
          have CI := Lib.hid (fun W => in_q x 0 ((d.ops.length : Int) - 1) false hin W)
          have HR : Hid (crB d keep (T : Int) = false) := by show _ = _; rw [HCB.out, HBAD.out (by rw [HL0.out]; intro c; rw [decide_eq_true (by omega), decide_eq_true (by omega)] at hin; cases hin)]; rfl
          have HXR2 := Lib.hid ((HB.out.block _ (Array.getElem?_eq_some_iff.1 HXR.out).1).trans HXR.out)
          clear hin
          obtain ⟨⟨r0, r1, r2⟩, rf⟩ := dk_cells HXR2.out
          have r0d : ∀ n, (wr.drewN n).cell? ⟨w.heap.size + 1, 0, none⟩ = some (.slice none 0 0) := fun n => r0
          have r1d : ∀ n, (wr.drewN n).cell? ⟨w.heap.size + 1, 1, none⟩ = some (.slice none 0 0) := fun n => r1
          have r2d : ∀ n, (wr.drewN n).cell? ⟨w.heap.size + 1, 2, none⟩ = some (.slice none 0 0) := fun n => r2
          have f0d : ∀ n, (wr.drewN n).frozen? ⟨w.heap.size + 1, 0, none⟩ = false := fun n => rf 0
          have f1d : ∀ n, (wr.drewN n).frozen? ⟨w.heap.size + 1, 1, none⟩ = false := fun n => rf 1
          have f2d : ∀ n, (wr.drewN n).frozen? ⟨w.heap.size + 1, 2, none⟩ = false := fun n => rf 2
          clear r0 r1 r2 rf
          go_wp2_with fail
          go_quiet ((go_at_call 92; exact Calls.quiet_of_same (CI.out _)))
          go_wp2
          refine bodyPost_ret (v := .tuple #[.agg #[.slice none 0 0, .slice none 0 0, .slice none 0 0], .bool false]) (results_row_u Try.results43 _ _ (w.heap.size + 1) 27 _ (0, 0) _ rfl (set3 HXR2.out _ _ _) Try.underlying27 rfl (by kernel_rfl)) rfl (HNO.out _ (below_drewN HB.out _) HR.out)
        | true =>
          have CI := Lib.hid (fun W => in_q x 0 ((d.ops.length : Int) - 1) true hin W)
          have HQ : Hid (lastAt keep 0 < keep.getD 0 0 ∧ keep.getD 0 0 < (d.ops.length : Int)) := by
            show _ ∧ _
            rw [Bool.and_eq_true, decide_eq_true_iff, decide_eq_true_iff] at hin
            rw [HL0.out, HG.out]
            omega
          clear hin
          go_wp2_with fail
          go_quiet ((go_at_call 92; exact Calls.quiet_of_same (CI.out _)))
          go_wp2
          go_roundw
          case rel => exact ⟨1, by have := HJ.out; omega, rfl, fun i hi => (by obtain rfl : i = 0 := (by omega); exact HQ.out), below_drewN HB.out _⟩
          case measure => have := HJ.out; simp [RowKit.intOf]; omega
      · have hj1 : j - 1 < keep.length := by omega
        have gz : decide (0 < j) = true := by simp; omega
        have cj := rowl_num (H.out.2.1.below HBW.out) (j - 1) hj1
        have HLJ : Hid (lastAt keep j = keep[j - 1]) := by
          show _ = _
          obtain ⟨i, rfl⟩ : ∃ i, j = i + 1 := ⟨j - 1, by omega⟩
          show keep.getD i 0 = keep[i]
          rw [List.getD_eq_getElem?_getD, List.getElem?_eq_getElem (by omega)]; rfl
        obtain ⟨y, hy⟩ : ∃ y, keep[j - 1] = y := ⟨_, rfl⟩
        rw [hy] at HLJ cj
        have e1 : ((j : Int) - 1).toNat = j - 1 := by omega
        have e2 : IntKind.i64.wrap ((j : Int) - 1) = (j : Int) - 1 := IntWalk.i64_in _ (by omega)
        have e3 : (0 : Int) ≤ (j : Int) - 1 := by omega
        have e4 : (j : Int) - 1 < (keep.length : Int) := by omega
        clear hy hj1 hz
        cases hin : (decide (0 ≤ x) && decide (x ≤ (d.ops.length : Int) - 1)) with
        | false =>
          have CI := Lib.hid (fun W => in_q x 0 ((d.ops.length : Int) - 1) false hin W)
          have HR : Hid (crB d keep (T : Int) = false) := by show _ = _; rw [HCB.out, HBAD.out (by intro c; have := HLG.out; rw [decide_eq_true (by omega), decide_eq_true (by omega)] at hin; cases hin)]; rfl
          have HXR2 := Lib.hid ((HB.out.block _ (Array.getElem?_eq_some_iff.1 HXR.out).1).trans HXR.out)
          clear hin
          obtain ⟨⟨r0, r1, r2⟩, rf⟩ := dk_cells HXR2.out
          have r0d : ∀ n, (wr.drewN n).cell? ⟨w.heap.size + 1, 0, none⟩ = some (.slice none 0 0) := fun n => r0
          have r1d : ∀ n, (wr.drewN n).cell? ⟨w.heap.size + 1, 1, none⟩ = some (.slice none 0 0) := fun n => r1
          have r2d : ∀ n, (wr.drewN n).cell? ⟨w.heap.size + 1, 2, none⟩ = some (.slice none 0 0) := fun n => r2
          have f0d : ∀ n, (wr.drewN n).frozen? ⟨w.heap.size + 1, 0, none⟩ = false := fun n => rf 0
          have f1d : ∀ n, (wr.drewN n).frozen? ⟨w.heap.size + 1, 1, none⟩ = false := fun n => rf 1
          have f2d : ∀ n, (wr.drewN n).frozen? ⟨w.heap.size + 1, 2, none⟩ = false := fun n => rf 2
          clear r0 r1 r2 rf
          go_wp2_with fail
          go_quiet ((go_at_call 92; exact Calls.quiet_of_same (CI.out _)))
          go_wp2
          refine bodyPost_ret (v := .tuple #[.agg #[.slice none 0 0, .slice none 0 0, .slice none 0 0], .bool false]) (results_row_u Try.results43 _ _ (w.heap.size + 1) 27 _ (0, 0) _ rfl (set3 HXR2.out _ _ _) Try.underlying27 rfl (by kernel_rfl)) rfl (HNO.out _ (below_drewN HB.out _) HR.out)
        | true =>
          have CI := Lib.hid (fun W => in_q x 0 ((d.ops.length : Int) - 1) true hin W)
          have HIN : Hid (x < (d.ops.length : Int)) := by
            show _ < _
            rw [Bool.and_eq_true, decide_eq_true_iff, decide_eq_true_iff] at hin
            omega
          clear hin
          by_cases hxy : x ≤ y
          · have HR : Hid (crB d keep (T : Int) = false) := by show _ = _; rw [HCB.out, HBAD.out (by rw [HLJ.out]; intro c; omega)]; rfl
            have HXR2 := Lib.hid ((HB.out.block _ (Array.getElem?_eq_some_iff.1 HXR.out).1).trans HXR.out)
            have hxy' : decide (x ≤ y) = true := decide_eq_true hxy
            clear hxy
            obtain ⟨⟨r0, r1, r2⟩, rf⟩ := dk_cells HXR2.out
            have r0d : ∀ n, (wr.drewN n).cell? ⟨w.heap.size + 1, 0, none⟩ = some (.slice none 0 0) := fun n => r0
            have r1d : ∀ n, (wr.drewN n).cell? ⟨w.heap.size + 1, 1, none⟩ = some (.slice none 0 0) := fun n => r1
            have r2d : ∀ n, (wr.drewN n).cell? ⟨w.heap.size + 1, 2, none⟩ = some (.slice none 0 0) := fun n => r2
            have f0d : ∀ n, (wr.drewN n).frozen? ⟨w.heap.size + 1, 0, none⟩ = false := fun n => rf 0
            have f1d : ∀ n, (wr.drewN n).frozen? ⟨w.heap.size + 1, 1, none⟩ = false := fun n => rf 1
            have f2d : ∀ n, (wr.drewN n).frozen? ⟨w.heap.size + 1, 2, none⟩ = false := fun n => rf 2
            clear r0 r1 r2 rf
            go_wp2_with fail
            go_quiet ((go_at_call 92; exact Calls.quiet_of_same (CI.out _)))
            go_wp2
            refine bodyPost_ret (v := .tuple #[.agg #[.slice none 0 0, .slice none 0 0, .slice none 0 0], .bool false]) (results_row_u Try.results43 _ _ (w.heap.size + 1) 27 _ (0, 0) _ rfl (set3 HXR2.out _ _ _) Try.underlying27 rfl (by kernel_rfl)) rfl (HNO.out _ (below_drewN HB.out _) HR.out)
          · have HQ : Hid (lastAt keep j < keep.getD j 0 ∧ keep.getD j 0 < (d.ops.length : Int)) := ⟨by rw [HLJ.out, HG.out]; omega, by rw [HG.out]; exact HIN.out⟩
            have hxy' : decide (x ≤ y) = false := decide_eq_false hxy
            clear hxy
            go_wp2_with fail
            go_quiet ((go_at_call 92; exact Calls.quiet_of_same (CI.out _)))
            go_wp2
            go_roundw
            case rel =>
              refine ⟨j + 1, by have := HJ.out; omega, by go_num, fun i hi => ?_, below_drewN HB.out _⟩
              by_cases c : i = j
              · subst c; exact HQ.out
              · exact HALL.out i (by omega)
            case measure => have := HJ.out; simp [RowKit.intOf]; omega
    · obtain rfl : j = keep.length := by omega
      have hI := (idx_all keep d.ops.length).2 hall
      have HCB2 : Hid (crB d keep (T : Int) = filesB (crL d keep T keep.length)) := by show _ = _; rw [HCB.out, hI, Bool.true_and]
      have HKN := Lib.hid (fun j hj => keep_nat hI (j := j) hj)
      have hk200 : keep.length ≤ 200 := Nat.le_trans (keep_len hI) h200
      have HKO := Lib.hid (fun j q hk hq => keptO_in (d := d) (keep := keep) (T := T) (j := j) (q := q) hk hq)
      have hlit := (Below.refl wr.heap.size wr).alloc (Nat.le_refl _) (.cells #[] 88)
      have hSF := (H.out.1.safe.below HBW.out).below hlit
      have b1a := (hlit.cell (p := ⟨w.heap.size, 1, none⟩) (World.block_lt_of_cell? _ _ b1)).trans b1
      have HLIT := Lib.hid hlit
      clear hall hI hlt hlit
      go_upto_region 9 with (at_builtin; refine wpList_plain rfl fun K hK => wpAppF rfl rfl w.heap.size wr.heap.size rfl (heap_alloc_new wr _) HBW.out.size (.slice p2 d.safe.length m2) d.safe rfl hSF H.out.2.2.small.safe fun u3 w3 hu3 hb3 => hK _ _ ?_)
      have HB3 : Hid (Below w2.heap.size w2 w3) := HB.out.trans ((HLIT.out.trans (hb3.mono HLIT.out.size)).mono HB.out.size)
      have HU3 := Lib.hid hu3
      clear hb3 hu3 b0 b1 b2 b1a
      go_wp2
      go_loopw [9, 10] (fun f i wr => ∃ j : Nat, j ≤ keep.length ∧ i = .int .i64 j ∧ FilesAt w.heap.size f (crL d keep T j) wr ∧ Below w2.heap.size w2 wr) (fun _ i _ => keep.length - (RowKit.intOf i).toNat)
      case atStart => exact ⟨0, Nat.zero_le _, rfl, HU3.out, HB3.out⟩
      case round =>
        clear HU3 HB3 HLIT HA HB HBW
        obtain ⟨j, hj, rfl, hF, hB⟩ := hrel
        have HMJ := Lib.hid (HM.out j)
        have HF := Lib.hid hF
        have HB := Lib.hid hB
        have HBW := Lib.hid (HB2.out.trans (hB.mono HB2.out.size))
        have HA := Lib.hid ((hB.block _ (Array.getElem?_eq_some_iff.1 HXA.out).1).trans HXA.out)
        obtain ⟨pf, cf, rfl, _⟩ := hF.open
        clear hF hB
        have HCL : Hid ((crL d keep T j).length ≤ 1048576) := by have := HMJ.out.len; show _ ≤ _; omega
        have HSU : Hid (dataSum (crL d keep T j) ≤ 1099511627776) := by
          have h2 := HMJ.out.sum
          have h4 : j * 1048576 ≤ 200 * 1048576 := Nat.mul_le_mul_right _ (by omega)
          show _ ≤ _
          omega
        have HDA := Lib.hid (fun a (ha : a ∈ crL d keep T j) => Nat.le_trans (data_le ha) HSU.out)
        by_cases hlt : j < keep.length
        · have hne : keep ≠ [] := by intro c; rw [c] at hlt; simp at hlt
          obtain ⟨gk, rfl, _, hgk⟩ := hpk.resolve_left (fun c => hne (by first | exact c.1 | exact c))
          have j0 : (0 : Int) ≤ (j : Int) := by omega
          have j1 : (j : Int) < (keep.length : Int) := by omega
          obtain ⟨q, hq, hqn⟩ := HKN.out j hlt
          have ck := rowl_num (H.out.2.1.below HBW.out) j hlt
          have hG : keep[j] = (q : Int) := by rw [← hq, List.getD_eq_getElem?_getD, List.getElem?_eq_getElem hlt]; rfl
          rw [hG] at ck
          have HCK := Lib.hid ck
          have hne2 : d.ops ≠ [] := by intro c; rw [c] at hqn; simp at hqn
          obtain ⟨go, rfl, _, hgo⟩ := hp3.resolve_left (fun c => hne2 (by first | exact c.1 | exact c))
          obtain ⟨x, hx⟩ : ∃ x, d.ops[q] = x := ⟨_, rfl⟩
          have hA := H.out.1.ops.below HBW.out
          have HC0 := Lib.hid (show wr.cell? ⟨go, q * 4, none⟩ = some (.int .i64 x.1) from hA.at dOpC_len hqn hx 0 (by omega) rfl)
          have HC1 := Lib.hid (show wr.cell? ⟨go, q * 4 + 1, none⟩ = some (.string x.2.1) from hA.at dOpC_len hqn hx 1 (by omega) rfl)
          have HC2 := Lib.hid (show wr.cell? ⟨go, q * 4 + 2, none⟩ = some (.string x.2.2.1) from hA.at dOpC_len hqn hx 2 (by omega) rfl)
          have HC3 := Lib.hid (show wr.cell? ⟨go, q * 4 + 3, none⟩ = some (.string x.2.2.2) from hA.at dOpC_len hqn hx 3 (by omega) rfl)
          have HO := Lib.hid (HKO.out j q hq hqn)
          rw [hx] at HO
          have HJL := Lib.hid hlt
          have HQL := Lib.hid hqn
          have hxs : x.2.2.2.size ≤ 1048576 := by have := (H.out.2.2.ops _ (List.getElem_mem hqn)).2.2.2; rw [hx] at this; exact this
          have HFO : Hid (opB x = true) := by have := HFM.out _ (List.getElem_mem hqn); rw [hx] at this; exact this
          have HBS0 := Lib.hid (show x.2.2.2.size ≤ 1099511627776 by omega)
          clear hA hG hne hne2 hgk hgo hx hpk hp3 hq ck hqn
          go_upto_region 12 with (fail)
          refine region_invL 10 [some 63, some 64, some 65, some 66, some 67, some 68, some 69, some 70, some 11, none] (CrOp wr w.heap.size gk go j q (.slice (some ⟨go, 0, none⟩) d.ops.length m3) (.slice (some ⟨gk, 0, none⟩) keep.length mk) x) (by kernel_rfl) rfl (by kernel_rfl) (by kernel_rfl) (by kernel_rfl) ?_ ?_ ?_
          · exact ⟨(Below.refl _ _).drew, (fun h => by cases h), (fun h => by cases h), (fun h => by cases h), (fun h => by cases h), (fun h => by cases h), (fun h => by cases h), (fun h => by cases h), (fun h => by cases h), (fun h => by cases h), (fun h => by cases h), (fun h => by cases h)⟩
          · intro i o v L w1 hoi hL hI hdep
            have hi : i < 10 := (Array.getElem?_eq_some_iff.1 hoi).1
            have hc : i = 0 ∨ i = 1 ∨ i = 2 ∨ i = 3 ∨ i = 4 ∨ i = 5 ∨ i = 6 ∨ i = 7 ∨ i = 8 ∨ i = 9 := by omega
            rcases hc with rfl | rfl | rfl | rfl | rfl | rfl | rfl | rfl | rfl | rfl
            · obtain rfl := Option.some.inj hoi
              refine ⟨rfl, wpFieldT rfl (at_old (by kernel_rfl)) (fdD2 _ w1) ⟨_, rfl, ?_⟩⟩
              exact ⟨hI.G, fun _ => rfl, hI.f1, hI.f2, hI.f3, hI.f4, hI.f5, hI.f6, hI.f7, hI.f8, hI.f9, hI.gS⟩
            · obtain rfl := Option.some.inj hoi
              refine ⟨rfl, wpLoadT rfl ((at_new (by kernel_rfl) 0 (Nat.le_of_ble_eq_true rfl) rfl (by decide) (hdep 0 (dep_of (by kernel_rfl)))).trans (hI.f0 (hdep 0 (dep_of (by kernel_rfl))))) (ldOs (cell_of_row w1 _ 2 _ _ (0, 0) ((hI.G.block _ (Array.getElem?_eq_some_iff.1 HA.out).1).trans HA.out))) ⟨_, rfl, ?_⟩⟩
              exact ⟨hI.G, hI.f0, fun _ => rfl, hI.f2, hI.f3, hI.f4, hI.f5, hI.f6, hI.f7, hI.f8, hI.f9, hI.gS⟩
            · obtain rfl := Option.some.inj hoi
              refine ⟨rfl, wpMoveT rfl (at_old (by kernel_rfl)) ⟨_, rfl, ?_⟩⟩
              exact ⟨hI.G, hI.f0, hI.f1, fun _ => rfl, hI.f3, hI.f4, hI.f5, hI.f6, hI.f7, hI.f8, hI.f9, hI.gS⟩
            · obtain rfl := Option.some.inj hoi
              refine ⟨rfl, wpMoveT rfl (at_old (by kernel_rfl)) ⟨_, rfl, ?_⟩⟩
              exact ⟨hI.G, hI.f0, hI.f1, hI.f2, fun _ => rfl, hI.f4, hI.f5, hI.f6, hI.f7, hI.f8, hI.f9, hI.gS⟩
            · obtain rfl := Option.some.inj hoi
              refine ⟨rfl, wpIdxT rfl ((at_new (by kernel_rfl) 2 (Nat.le_of_ble_eq_true rfl) rfl (by decide) (hdep 2 (dep_of (by kernel_rfl)))).trans (hI.f2 (hdep 2 (dep_of (by kernel_rfl))))) ((at_new (by kernel_rfl) 3 (Nat.le_of_ble_eq_true rfl) rfl (by decide) (hdep 3 (dep_of (by kernel_rfl)))).trans (hI.f3 (hdep 3 (dep_of (by kernel_rfl))))) (ixK HJL.out w1) ⟨_, rfl, ?_⟩⟩
              exact ⟨hI.G, hI.f0, hI.f1, hI.f2, hI.f3, fun _ => rfl, hI.f5, hI.f6, hI.f7, hI.f8, hI.f9, hI.gS⟩
            · obtain rfl := Option.some.inj hoi
              refine ⟨rfl, wpLoadT rfl ((at_new (by kernel_rfl) 4 (Nat.le_of_ble_eq_true rfl) rfl (by decide) (hdep 4 (dep_of (by kernel_rfl)))).trans (hI.f4 (hdep 4 (dep_of (by kernel_rfl))))) (ldK ((hI.G.cell (p := ⟨gk, j, none⟩) (World.block_lt_of_cell? _ _ HCK.out)).trans HCK.out)) ⟨_, rfl, ?_⟩⟩
              exact ⟨hI.G, hI.f0, hI.f1, hI.f2, hI.f3, hI.f4, fun _ => rfl, hI.f6, hI.f7, hI.f8, hI.f9, hI.gS⟩
            · obtain rfl := Option.some.inj hoi
              refine ⟨rfl, wpIdxT rfl ((at_new (by kernel_rfl) 1 (Nat.le_of_ble_eq_true rfl) rfl (by decide) (hdep 1 (dep_of (by kernel_rfl)))).trans (hI.f1 (hdep 1 (dep_of (by kernel_rfl))))) ((at_new (by kernel_rfl) 5 (Nat.le_of_ble_eq_true rfl) rfl (by decide) (hdep 5 (dep_of (by kernel_rfl)))).trans (hI.f5 (hdep 5 (dep_of (by kernel_rfl))))) (ixO HQL.out w1) ⟨_, rfl, ?_⟩⟩
              exact ⟨hI.G, hI.f0, hI.f1, hI.f2, hI.f3, hI.f4, hI.f5, fun _ => rfl, hI.f7, hI.f8, hI.f9, hI.gS⟩
            · obtain rfl := Option.some.inj hoi
              refine ⟨rfl, wpLoadT rfl ((at_new (by kernel_rfl) 6 (Nat.le_of_ble_eq_true rfl) rfl (by decide) (hdep 6 (dep_of (by kernel_rfl)))).trans (hI.f6 (hdep 6 (dep_of (by kernel_rfl))))) (ldOp ((hI.G.cell (p := ⟨go, q * 4, none⟩) (World.block_lt_of_cell? _ _ HC0.out)).trans HC0.out) ((hI.G.cell (p := ⟨go, q * 4 + 1, none⟩) (World.block_lt_of_cell? _ _ HC1.out)).trans HC1.out) ((hI.G.cell (p := ⟨go, q * 4 + 2, none⟩) (World.block_lt_of_cell? _ _ HC2.out)).trans HC2.out) ((hI.G.cell (p := ⟨go, q * 4 + 3, none⟩) (World.block_lt_of_cell? _ _ HC3.out)).trans HC3.out)) ⟨_, rfl, ?_⟩⟩
              exact ⟨hI.G, hI.f0, hI.f1, hI.f2, hI.f3, hI.f4, hI.f5, hI.f6, fun _ => rfl, hI.f8, hI.f9, hI.gS⟩
            · obtain rfl := Option.some.inj hoi
              have hI2 := hI.grow ((Below.refl w1.heap.size w1).alloc (Nat.le_refl _) (.cells #[.int .i64 0, .string (ByteArray.mk #[]), .string (ByteArray.mk #[]), .string (ByteArray.mk #[])] 36))
              refine ⟨rfl, wpAllocT (w' := w1.alloc (.cells #[.int .i64 0, .string (ByteArray.mk #[]), .string (ByteArray.mk #[]), .string (ByteArray.mk #[])] 36)) rfl (nOp w1) ⟨_, rfl, ?_⟩⟩
              have nS : L 9 = false := by cases h : L 9 with | false => rfl | true => have := hI.gS h; rw [hL] at this; cases this
              exact ⟨hI2.G, hI2.f0, hI2.f1, hI2.f2, hI2.f3, hI2.f4, hI2.f5, hI2.f6, hI2.f7, fun _ => ⟨_, _, rfl, hI.G.size, rfl, heap_alloc_new w1 _⟩, (fun h => by have h : L 9 = true := h; rw [nS] at h; cases h), (fun h => by have h : L 9 = true := h; rw [nS] at h; cases h)⟩
            · obtain rfl := Option.some.inj hoi
              obtain ⟨g, cs, eg, hBg, hcs, hg⟩ := hI.f8 (hdep 8 (dep_of (by kernel_rfl)))
              refine ⟨rfl, wpStoreT rfl ((at_new (by kernel_rfl) 8 (Nat.le_of_ble_eq_true rfl) rfl (by decide) (hdep 8 (dep_of (by kernel_rfl)))).trans eg) (((at_new (by kernel_rfl) 7 (Nat.le_of_ble_eq_true rfl) rfl (by decide) (hdep 7 (dep_of (by kernel_rfl)))).trans (hI.f7 (hdep 7 (dep_of (by kernel_rfl)))))) hg (opSz x.1 x.2.1 x.2.2.1 x.2.2.2) hcs (by simp [Value.oneCell']) ?_⟩
              have hsr := setRow_heap w1 g cs #[.int .i64 x.1, .string x.2.1, .string x.2.2.1, .string x.2.2.2] 36 (0, 0) hg
              exact ⟨_, rfl, ⟨below_row hI.G hBg hI.G.size _, hI.f0, hI.f1, hI.f2, hI.f3, hI.f4, hI.f5, hI.f6, hI.f7, fun _ => ⟨g, _, eg, hBg, rfl, hsr⟩, fun _ => ⟨g, eg, hBg, hsr⟩, fun _ => (hdep 8 (dep_of (by kernel_rfl)))⟩⟩
          intro v w5 hI
          obtain ⟨gB, ek, hBg, hrow⟩ := hI.f9 rfl
          have hb9 := hI.G
          clear hI
          simp only [Go.My.putL, Nat.zero_add, Nat.reduceAdd, ek, Act.put, List.setIfInBounds_toArray, List.set_cons_zero, List.set_cons_succ]
          generalize v 0 = y0 at *
          generalize v 1 = y1 at *
          generalize v 2 = y2 at *
          generalize v 3 = y3 at *
          generalize v 4 = y4 at *
          generalize v 5 = y5 at *
          generalize v 6 = y6 at *
          generalize v 7 = y7 at *
          generalize v 9 = y9 at *
          clear ek
          have HF5 := Lib.hid (HF.out.below hb9)
          have HB5 := Lib.hid (HB.out.trans (hb9.mono HB.out.size))
          have HX := Lib.hid hrow
          have hgB : w2.heap.size ≤ gB := Nat.le_trans HB.out.size hBg
          have HGB := Lib.hid hgB
          obtain ⟨⟨o0, o1, o2, o3⟩, of⟩ := dop_cells hrow
          clear hb9 hrow hBg hgB
          by_cases hl : j + 1 = keep.length
          · have e1 : (j : Int) = (keep.length : Int) - 1 := by omega
            have e2 : ((j : Int) == (keep.length : Int) - 1) = true := by simpa using e1
            have e3 : IntKind.i64.wrap ((keep.length : Int) - 1) = (keep.length : Int) - 1 := IntWalk.i64_in _ (by omega)
            rw [if_pos hl] at HO
            by_cases hk1 : x.1 = 1
            · have k1 : (x.1 == 1) = true := by simpa using hk1
              by_cases hts : T < x.2.2.2.size
              · have t1 : (x.2.2.2.size : Int) > (T : Int) := by omega
                have t2 : (T : Int) ≤ (x.2.2.2.size : Int) := by omega
                have t0 : (0 : Int) ≤ (T : Int) := by omega
                have of3 := of 3
                clear of
                go_upto_region 15 with (fail)
                clear e1 e2 e3 k1 hk1 t1 o0 o1 o2 o3
                have hcut := heap_setCell_same w5 gB 3 _ _ (.string (x.2.2.2.extract 0 T)) HX.out
                have hgr := grw_set (grw_refl w5 (some gB)) 3 (.string (x.2.2.2.extract 0 T))
                have HF6 := Lib.hid (RowL.kept HF5.out hgr (rowK HF5.out HX.out (by decide)))
                have HB6 := Lib.hid (below_grw HB5.out hgr HB5.out.size (fun q hq => by cases hq; exact HGB.out))
                have HO : Hid (keptO d.ops keep T j = (x.1, x.2.1, x.2.2.1, x.2.2.2.extract 0 T)) := by show _ = _; rw [HO.out]; unfold tearO; rw [Nat.min_eq_left (by omega)]
                have HBS : Hid ((x.2.2.2.extract 0 T).size ≤ 1099511627776) := by show _ ≤ _; rw [ByteArray.size_extract]; omega
                clear hgr t2 t0 of3 hts
                generalize x.2.2.2.extract 0 T = b at hcut HF6 HB6 HO HBS ⊢
                generalize w5.setCell ⟨gB, 3, none⟩ (.string b) = w6 at hcut HF6 HB6 ⊢
                have HE : Hid (w6.heap[gB]? = some (.cells #[.int .i64 x.1, .string x.2.1, .string x.2.2.1, .string b] 36 (0, 0))) := hcut
                clear hcut
                have CD := Lib.hid (do_s2 (.slice pf (crL d keep T j).length cf) (crL d keep T j) x.1 x.2.1 x.2.2.1 b w6 (HF6.out.mono (Nat.zero_le _)) HCL.out HBS.out HDA.out)
                obtain ⟨⟨o0, o1, o2, o3⟩, _⟩ := dop_cells HE.out
                go_wp2_with fail
                refine CD.out.mono ?_
                rintro e w7 ⟨v', l', bb, rfl, hl', hop, hb7, hsame⟩
                have HN : Hid (crL d keep T (j + 1) = l') := by show crF (crL d keep T j) (keptO d.ops keep T j) = l'; rw [HO.out]; exact (opDo_crF hop hsame).symm
                have HL := Lib.hid (hl'.mono (show w.heap.size ≤ w6.heap.size from by have := HB2.out.size; have := HB6.out.size; omega))
                have HB7 := Lib.hid (HB6.out.trans (hb7.mono HB6.out.size))
                obtain ⟨pv, cv, rfl, _⟩ := hl'.open
                clear hl' hop hb7 hsame o0 o1 o2 o3
                go_wp2
                go_roundw
                case rel => exact ⟨j + 1, HJL.out, by go_num, by rw [HN.out]; exact HL.out, HB7.out⟩
                case measure => have := HJL.out; simp [RowKit.intOf]; omega
              · have t1 : ¬ (x.2.2.2.size : Int) > (T : Int) := by omega
                have HO : Hid (keptO d.ops keep T j = (x.1, x.2.1, x.2.2.1, x.2.2.2)) := by show _ = _; rw [HO.out, tear_same (by omega)]
                have HBS := Lib.hid HBS0.out
                clear of
                go_upto_region 15 with (fail)
                clear e1 e2 e3 k1 hk1
                have HF6 := Lib.hid HF5.out
                have HB6 := Lib.hid HB5.out
                have HE := Lib.hid HX.out
                clear o0 o1 o2 o3
                have CD := Lib.hid (do_s2 (.slice pf (crL d keep T j).length cf) (crL d keep T j) x.1 x.2.1 x.2.2.1 x.2.2.2 w5 (HF6.out.mono (Nat.zero_le _)) HCL.out HBS.out HDA.out)
                obtain ⟨⟨o0, o1, o2, o3⟩, _⟩ := dop_cells HE.out
                go_wp2_with fail
                refine CD.out.mono ?_
                rintro e w7 ⟨v', l', bb, rfl, hl', hop, hb7, hsame⟩
                have HN : Hid (crL d keep T (j + 1) = l') := by show crF (crL d keep T j) (keptO d.ops keep T j) = l'; rw [HO.out]; exact (opDo_crF hop hsame).symm
                have HL := Lib.hid (hl'.mono (show w.heap.size ≤ w5.heap.size from by have := HB2.out.size; have := HB6.out.size; omega))
                have HB7 := Lib.hid (HB6.out.trans (hb7.mono HB6.out.size))
                obtain ⟨pv, cv, rfl, _⟩ := hl'.open
                clear hl' hop hb7 hsame o0 o1 o2 o3
                go_wp2
                go_roundw
                case rel => exact ⟨j + 1, HJL.out, by go_num, by rw [HN.out]; exact HL.out, HB7.out⟩
                case measure => have := HJL.out; simp [RowKit.intOf]; omega
            · have k1 : (x.1 == 1) = false := by simpa using hk1
              have HO : Hid (keptO d.ops keep T j = (x.1, x.2.1, x.2.2.1, x.2.2.2)) := by show _ = _; rw [HO.out, tear_same (by rw [form_data HFO.out hk1]; omega)]
              have HBS := Lib.hid HBS0.out
              clear of
              go_upto_region 15 with (fail)
              clear e1 e2 e3 k1
              have HF6 := Lib.hid HF5.out
              have HB6 := Lib.hid HB5.out
              have HE := Lib.hid HX.out
              clear o0 o1 o2 o3
              have CD := Lib.hid (do_s2 (.slice pf (crL d keep T j).length cf) (crL d keep T j) x.1 x.2.1 x.2.2.1 x.2.2.2 w5 (HF6.out.mono (Nat.zero_le _)) HCL.out HBS.out HDA.out)
              obtain ⟨⟨o0, o1, o2, o3⟩, _⟩ := dop_cells HE.out
              go_wp2_with fail
              refine CD.out.mono ?_
              rintro e w7 ⟨v', l', bb, rfl, hl', hop, hb7, hsame⟩
              have HN : Hid (crL d keep T (j + 1) = l') := by show crF (crL d keep T j) (keptO d.ops keep T j) = l'; rw [HO.out]; exact (opDo_crF hop hsame).symm
              have HL := Lib.hid (hl'.mono (show w.heap.size ≤ w5.heap.size from by have := HB2.out.size; have := HB6.out.size; omega))
              have HB7 := Lib.hid (HB6.out.trans (hb7.mono HB6.out.size))
              obtain ⟨pv, cv, rfl, _⟩ := hl'.open
              clear hl' hop hb7 hsame o0 o1 o2 o3
              go_wp2
              go_roundw
              case rel => exact ⟨j + 1, HJL.out, by go_num, by rw [HN.out]; exact HL.out, HB7.out⟩
              case measure => have := HJL.out; simp [RowKit.intOf]; omega
          · have e1 : ¬ (j : Int) = (keep.length : Int) - 1 := by omega
            have e2 : ((j : Int) == (keep.length : Int) - 1) = false := by simpa using e1
            have e3 : IntKind.i64.wrap ((keep.length : Int) - 1) = (keep.length : Int) - 1 := IntWalk.i64_in _ (by omega)
            rw [if_neg hl] at HO
            have HO : Hid (keptO d.ops keep T j = (x.1, x.2.1, x.2.2.1, x.2.2.2)) := HO.out
            have HBS := Lib.hid HBS0.out
            clear of
            go_upto_region 15 with (fail)
            clear e1 e2 e3
            have HF6 := Lib.hid HF5.out
            have HB6 := Lib.hid HB5.out
            have HE := Lib.hid HX.out
            clear o0 o1 o2 o3
            have CD := Lib.hid (do_s2 (.slice pf (crL d keep T j).length cf) (crL d keep T j) x.1 x.2.1 x.2.2.1 x.2.2.2 w5 (HF6.out.mono (Nat.zero_le _)) HCL.out HBS.out HDA.out)
            obtain ⟨⟨o0, o1, o2, o3⟩, _⟩ := dop_cells HE.out
            go_wp2_with fail
            refine CD.out.mono ?_
            rintro e w7 ⟨v', l', bb, rfl, hl', hop, hb7, hsame⟩
            have HN : Hid (crL d keep T (j + 1) = l') := by show crF (crL d keep T j) (keptO d.ops keep T j) = l'; rw [HO.out]; exact (opDo_crF hop hsame).symm
            have HL := Lib.hid (hl'.mono (show w.heap.size ≤ w5.heap.size from by have := HB2.out.size; have := HB6.out.size; omega))
            have HB7 := Lib.hid (HB6.out.trans (hb7.mono HB6.out.size))
            obtain ⟨pv, cv, rfl, _⟩ := hl'.open
            clear hl' hop hb7 hsame o0 o1 o2 o3
            go_wp2
            go_roundw
            case rel => exact ⟨j + 1, HJL.out, by go_num, by rw [HN.out]; exact HL.out, HB7.out⟩
            case measure => have := HJL.out; simp [RowKit.intOf]; omega
        · obtain rfl : j = keep.length := by omega
          have CO := Lib.hid (files_s (.slice pf (crL d keep T keep.length).length cf) (crL d keep T keep.length) wr (HF.out.mono (Nat.zero_le _)) HCL.out HSU.out (fun a ha => by have := HMJ.out.nam a ha; omega))
          clear hlt
          go_wp2_with fail
          refine CO.out.mono ?_
          rintro e w8 ⟨rfl, hb8⟩
          have HF8 := Lib.hid (HF.out.below hb8)
          have HB8 := Lib.hid (HB.out.trans (hb8.mono HB.out.size))
          have HR8 := Lib.hid ((HB8.out.block _ (Array.getElem?_eq_some_iff.1 HXR.out).1).trans HXR.out)
          obtain ⟨⟨r0, r1, r2⟩, rf⟩ := dk_cells HR8.out
          clear hb8 CO
          cases hfo : filesB (crL d keep T keep.length) with
          | false =>
            have HR : Hid (crB d keep (T : Int) = false) := HCB2.out.trans hfo
            have rf0 := rf 0
            have rf1 := rf 1
            have rf2 := rf 2
            clear hfo rf
            go_wp2
            refine bodyPost_ret (v := .tuple #[.agg #[.slice none 0 0, .slice none 0 0, .slice none 0 0], .bool false]) (results_row_u Try.results43 _ _ (w.heap.size + 1) 27 _ (0, 0) _ rfl (set3 HR8.out _ _ _) Try.underlying27 rfl (by kernel_rfl)) rfl (HNO.out w8 HB8.out HR.out)
          | true =>
            have HR : Hid (crB d keep (T : Int) = true) := HCB2.out.trans hfo
            have hlit := (Below.refl w8.heap.size w8).alloc (Nat.le_refl _) (.cells #[] 88)
            have hSF := (HF8.out.mono (Nat.zero_le _)).below hlit
            have HLIT := Lib.hid hlit
            have HBW8 := Lib.hid (HB2.out.trans (HB8.out.mono HB2.out.size))
            have RCE := Lib.hid (fun (W : World) (hW : Below w8.heap.size w8 W) => (hW.block _ (Array.getElem?_eq_some_iff.1 HR8.out).1).trans HR8.out)
            have HYC : Hid (crD d keep (T : Int) = ⟨crL d keep T keep.length, crL d keep T keep.length, []⟩) := HYES.out HR.out
            clear hfo rf hlit r0 r1 r2
            go_wp2_with (at_builtin; refine wpList_plain rfl fun K hK => wpAppF rfl rfl w.heap.size w8.heap.size rfl (heap_alloc_new w8 _) HBW8.out.size (.slice pf (crL d keep T keep.length).length cf) (crL d keep T keep.length) rfl hSF HCL.out fun u9 w9 hu9 hb9 => hK _ _ ?_; have HB9 := Lib.hid (HLIT.out.trans (hb9.mono HLIT.out.size)); have HU9 := Lib.hid hu9; have HF9 := Lib.hid (HF8.out.below HB9.out); obtain ⟨p9, c9, rfl, _⟩ := hu9.open; have HY := Lib.hid (RCE.out _ HB9.out); obtain ⟨⟨r0, r1, r2⟩, rf⟩ := dk_cells HY.out; have rf0 := rf 0; have rf1 := rf 1; have rf2 := rf 2; clear hb9 hu9 rf hSF)
            have HBW9 := Lib.hid (HBW8.out.trans (HB9.out.mono HBW8.out.size))
            refine bodyPost_ret (v := .tuple #[.agg #[.slice pf (crL d keep T keep.length).length cf, .slice p9 (crL d keep T keep.length).length c9, .slice none 0 0], .bool true]) (results_row_u Try.results43 _ _ (w.heap.size + 1) 27 _ (0, 0) _ rfl (set3 HY.out _ _ _) Try.underlying27 rfl (by kernel_rfl)) rfl ⟨_, _, _, by rw [HR.out], by rw [HYC.out]; exact ⟨RowL.kept HF9.out (grw_set3 _ _ _ _ _) (rowK HF9.out HY.out (by decide)), RowL.kept HU9.out (grw_set3 _ _ _ _ _) (rowK HU9.out HY.out (by decide)), RowL.nil _ _ _ _ _⟩, below_grw HBW9.out (grw_set3 _ _ _ _ _) HBW9.out.size (fun q hq => by cases hq; omega)⟩

end Go.Proofs.Ytepefbfmjjnamaa

/- A list of numbers of 64 bits that came in as an argument. -/
namespace Go.Proofs.Ytepefbfmjjnamaa
open Go.RowKit Go.My Go.Lib Go.ChangeShapes Go.WideShapes
set_option linter.unusedVariables false
theorem keep_open {H : Type} {enc : TypeId × Value → H} {w : World} {sp : Nat → Bool} {held : Bool} {a : Option Addr} {n c : Nat} {d : DataW H} {ps : List MemPlace} (h : DataW.Trod enc Try.prog w 0 sp held 30 (.slice a n c) d ps) : ∃ l, ArgL 1 numC (.slice a n c) l w := by
  obtain ⟨fuel, hf⟩ := h
  simp only [Value.cells] at hf
  obtain ⟨v, l, e, ha, _⟩ := argL_open (f := numC) (W := fun _ => True) Try.underlying30 dk_cells_i (by decide) numC_len (fun n cs x h => by
    obtain ⟨k, e, _, _⟩ := DataW.trod_int Try.underlying2 h
    exact ⟨k, e, trivial⟩) hf
  simp only [List.cons.injEq, and_true] at e
  rw [← e] at ha
  exact ⟨l, ha⟩
end Go.Proofs.Ytepefbfmjjnamaa

/- The laws over disks: further operations of a drawn region. -/
namespace Go.Proofs.Ytepefbfmjjnamaa
open Go.RowKit Go.My Go.Lib Go.ChangeShapes Go.WideShapes
set_option linter.unusedVariables false

theorem wpUnT {P : Program} {Q : Exit → Act → World → Prop} {o : Oper} {a : Act} {w : World} {K : Act → World → Prop} {op : UnOp} {T : TypeId} {k : Tmp} {x y : Value} (hop : o.op = .unOp op T (.tmp k)) (he : a.eval (.tmp k) = y) (hr : (Op.unary op y).run P w = .ok x w) (hK : K (a.put o.dst x) w) : o.wp P a w K Q :=
  wpVal (x := x) (w' := w) (by unfold execOp; simp only [hop]; simp only [he, Sem.run_bind, hr, Result.andThen_ok, Sem.run_pure]) hK
theorem notT {P : Program} (w : World) : (Op.unary .not (.bool true)).run P w = .ok (.bool false) w := by simp [Op.unary, go_sem]
theorem cfEqDisk (args : Array Value) (w : World) : (callFunc 37 args).run Try.prog w = .ok (.enter 37 args) w := cf_of Try.func37 (by kernel_rfl) (by kernel_rfl) args w

end Go.Proofs.Ytepefbfmjjnamaa

/- The specification: a disk copied. -/
import Derived.Test.YtepefbfmjjnamaaMrgA
import Derived.Test.YtepefbfmjjnamaaDkX
import Derived.Test.YtepefbfmjjnamaaRegI
import Derived.Deep.RegionLawGrows
import Derived.Deep.Cut
import Derived.Deep.Upon
import Derived.Test.YtepefbfmjjnamaaDkU
import Derived.Test.YtepefbfmjjnamaaDkN
import Derived.Test.YtepefbfmjjnamaaDkR
namespace Go.Proofs.Ytepefbfmjjnamaa
open Go.RowKit Go.My Go.Lib
set_option linter.unusedVariables false

theorem litF (w : World) : (Instr.buildSlice 24 0 #[]).run Try.prog w = .ok (.slice (some ⟨w.heap.size, 0, none⟩) 0 0) (w.alloc (.cells #[] 88)) := by kernel_rfl
theorem wpAppF {Q : Exit → Act → World → Prop} {o : Oper} {a : Act} {w : World} {K : Act → World → Prop} {p q : Tmp} (hgd : o.guard = none)
    (ho : o.op = .call { callee := .builtin .append, args := #[.tmp p, .tmp q], argTypes := #[24, 24] }) (B g : Nat) (hs : a.eval (.tmp p) = .slice (some ⟨g, 0, none⟩) 0 0) (hg : w.heap[g]? = some (.cells #[] 88 (0, 0))) (hB : B ≤ g) (v : Value) (l : List FileT) (hx : a.eval (.tmp q) = v) (hv : FilesAt 0 v l w) (hl2 : l.length ≤ 1048576)
    (h : ∀ u w', FilesAt B u l w' → Below w.heap.size w w' → K (a.put o.dst u) w') : Oper.wp Try.prog o a w K Q := by
  have hglt : g < w.heap.size := (Array.getElem?_eq_some_iff.1 hg).1
  obtain ⟨i0, hi, hz0, hz1, hz2⟩ := info_parts info_File
  obtain ⟨pv, cap, rfl, _, _, hp⟩ := hv.open
  by_cases hl : l = []
  · subst hl
    have src : Src Try.prog i0.size 24 (.slice pv 0 cap) 0 [] w := by
      refine ⟨.inl ⟨_, Try.underlying24⟩, fun w' => ?_, ?_, ?_, by simp, fun u hu => by cases hu⟩
      · simp [Builtin.lenOf, go_sem]
      · cases pv <;> simp [Builtin.firstCells, go_sem]
      · cases pv <;> simp [Builtin.firstCells, go_sem]
    have hrun := run_append_nothing (P := Try.prog) w 24 24 o.type 88 i0 Try.underlying24 hi (some ⟨g, 0, none⟩) 0 0 (Nat.le_refl _) (.slice pv 0 cap) src
    have hx' : a.eval (.tmp q) = .slice pv 0 cap := hx
    unfold Oper.wp
    simp [execOp, ho, resolve, invoke, builtin, hs, hx', hrun, Result.andThen]
    exact h _ w ⟨rfl, .inr ⟨g, 0, #[], rfl, hB, hg, Nat.le_refl _, Nat.zero_le _, rfl, rfl⟩⟩ (Below.refl _ _)
  · obtain ⟨g2, rfl, _, _⟩ := hp.resolve_left (fun c => hl c.1)
    have h0 : 0 < l.length := List.length_pos_iff.2 hl
    have hone : ∀ u ∈ l.flatMap fileC, u.oneCell' = true := by
      intro u hu
      obtain ⟨b, _, hb⟩ := List.mem_flatMap.1 hu
      simp only [fileC, List.mem_cons, List.not_mem_nil, or_false] at hb
      rcases hb with rfl | rfl <;> rfl
    have hw : Region.wanted o (yielded #[] a.tmps) = true := by simp [Region.wanted, hgd]
    have := step_append_grows (P := Try.prog) (Q := Q) (K := K) (ops := #[]) (E := True) hgd (.tmp p) (.tmp q) 24 ho 88 i0 (.agg #[.string ByteArray.empty, .string ByteArray.empty]) 2 32 Try.underlying24 hi hz0 hz1 hz2 rfl (by decide) (some ⟨g, 0, none⟩) 0 0 [] hs (fun c => by cases c) rfl (fun b _ j u hu => by simp at hu) ⟨g2, 0, none⟩ l.length cap (l.flatMap fileC) hx (by rw [flat_len fileC_len]) (World.ownsRow.cells hv (g := g2) rfl) hone (by omega) (by unfold maxLen; omega) (by omega) (by
      intro v' w' hown hgrow
      have hr : FilesAt w.heap.size v' l w' := by
        have := hown
        rw [Nat.zero_add] at this
        exact this
      exact h v' w' (hr.mono (by omega)) ((Below.refl _ _).grown hgrow (Nat.le_refl _) (fun q hq => by cases hq)))
    rwa [if_pos hw] at this
theorem litO (w : World) : (Instr.buildSlice 25 0 #[]).run Try.prog w = .ok (.slice (some ⟨w.heap.size, 0, none⟩) 0 0) (w.alloc (.cells #[] 36)) := by kernel_rfl
theorem wpAppO {Q : Exit → Act → World → Prop} {o : Oper} {a : Act} {w : World} {K : Act → World → Prop} {p q : Tmp} (hgd : o.guard = none)
    (ho : o.op = .call { callee := .builtin .append, args := #[.tmp p, .tmp q], argTypes := #[25, 25] }) (B g : Nat) (hs : a.eval (.tmp p) = .slice (some ⟨g, 0, none⟩) 0 0) (hg : w.heap[g]? = some (.cells #[] 36 (0, 0))) (hB : B ≤ g) (v : Value) (l : List DOpT) (hx : a.eval (.tmp q) = v) (hv : OpsAt 0 v l w) (hl2 : l.length ≤ 1048576)
    (h : ∀ u w', OpsAt B u l w' → Below w.heap.size w w' → K (a.put o.dst u) w') : Oper.wp Try.prog o a w K Q := by
  have hglt : g < w.heap.size := (Array.getElem?_eq_some_iff.1 hg).1
  obtain ⟨i0, hi, hz0, hz1, hz2⟩ := info_parts info_DOp
  obtain ⟨pv, cap, rfl, _, _, hp⟩ := hv.open
  by_cases hl : l = []
  · subst hl
    have src : Src Try.prog i0.size 25 (.slice pv 0 cap) 0 [] w := by
      refine ⟨.inl ⟨_, Try.underlying25⟩, fun w' => ?_, ?_, ?_, by simp, fun u hu => by cases hu⟩
      · simp [Builtin.lenOf, go_sem]
      · cases pv <;> simp [Builtin.firstCells, go_sem]
      · cases pv <;> simp [Builtin.firstCells, go_sem]
    have hrun := run_append_nothing (P := Try.prog) w 25 25 o.type 36 i0 Try.underlying25 hi (some ⟨g, 0, none⟩) 0 0 (Nat.le_refl _) (.slice pv 0 cap) src
    have hx' : a.eval (.tmp q) = .slice pv 0 cap := hx
    unfold Oper.wp
    simp [execOp, ho, resolve, invoke, builtin, hs, hx', hrun, Result.andThen]
    exact h _ w ⟨rfl, .inr ⟨g, 0, #[], rfl, hB, hg, Nat.le_refl _, Nat.zero_le _, rfl, rfl⟩⟩ (Below.refl _ _)
  · obtain ⟨g2, rfl, _, _⟩ := hp.resolve_left (fun c => hl c.1)
    have h0 : 0 < l.length := List.length_pos_iff.2 hl
    have hone : ∀ u ∈ l.flatMap dOpC, u.oneCell' = true := by
      intro u hu
      obtain ⟨b, _, hb⟩ := List.mem_flatMap.1 hu
      simp only [dOpC, List.mem_cons, List.not_mem_nil, or_false] at hb
      rcases hb with rfl | rfl | rfl | rfl <;> rfl
    have hw : Region.wanted o (yielded #[] a.tmps) = true := by simp [Region.wanted, hgd]
    have := step_append_grows (P := Try.prog) (Q := Q) (K := K) (ops := #[]) (E := True) hgd (.tmp p) (.tmp q) 25 ho 36 i0 (.agg #[.int .i64 0, .string ByteArray.empty, .string ByteArray.empty, .string ByteArray.empty]) 4 56 Try.underlying25 hi hz0 hz1 hz2 rfl (by decide) (some ⟨g, 0, none⟩) 0 0 [] hs (fun c => by cases c) rfl (fun b _ j u hu => by simp at hu) ⟨g2, 0, none⟩ l.length cap (l.flatMap dOpC) hx (by rw [flat_len dOpC_len]) (World.ownsRow.cells hv (g := g2) rfl) hone (by omega) (by unfold maxLen; omega) (by omega) (by
      intro v' w' hown hgrow
      have hr : OpsAt w.heap.size v' l w' := by
        have := hown
        rw [Nat.zero_add] at this
        exact this
      exact h v' w' (hr.mono (by omega)) ((Below.refl _ _).grown hgrow (Nat.le_refl _) (fun q hq => by cases hq)))
    rwa [if_pos hw] at this

theorem wpFieldT {P : Program} {Q : Exit → Act → World → Prop} {o : Oper} {a : Act} {w : World} {K : Act → World → Prop} {T f : Nat} {k : Tmp} {x y : Value} (hop : o.op = .fieldAddr T (.tmp k) f) (he : a.eval (.tmp k) = y) (hr : (Instr.fieldAt T y f).run P w = .ok x w) (hK : K (a.put o.dst x) w) : o.wp P a w K Q :=
  wpVal (x := x) (w' := w) (by unfold execOp; simp only [hop]; simp only [he, Sem.run_bind, hr, Result.andThen_ok, Sem.run_pure]) hK
theorem wpLoadT {P : Program} {Q : Exit → Act → World → Prop} {o : Oper} {a : Act} {w : World} {K : Act → World → Prop} {T : TypeId} {k : Tmp} {x y : Value} (hop : o.op = .load T (.tmp k)) (he : a.eval (.tmp k) = y) (hr : (Instr.loadAt T y).run P w = .ok x w) (hK : K (a.put o.dst x) w) : o.wp P a w K Q :=
  wpVal (x := x) (w' := w) (by unfold execOp; simp only [hop]; simp only [he, Sem.run_bind, hr, Result.andThen_ok, Sem.run_pure]) hK
theorem wpLitT {P : Program} {Q : Exit → Act → World → Prop} {o : Oper} {a : Act} {w w' : World} {K : Act → World → Prop} {T : TypeId} {x : Value} (hop : o.op = .buildSlice T 0 #[]) (hr : (Instr.buildSlice T 0 #[]).run P w = .ok x w') (hK : K (a.put o.dst x) w') : o.wp P a w K Q :=
  wpVal (x := x) (w' := w') (by unfold execOp; simp only [hop]; simp only [List.map_toArray, List.map_nil, Sem.run_bind, hr, Result.andThen_ok, Sem.run_pure]) hK
theorem wpBuild3T {P : Program} {Q : Exit → Act → World → Prop} {o : Oper} {a : Act} {w : World} {K : Act → World → Prop} {T : TypeId} {k l m : Tmp} {x y z u : Value} (hop : o.op = .build T #[(0, .tmp k), (1, .tmp l), (2, .tmp m)]) (h1 : a.eval (.tmp k) = x) (h2 : a.eval (.tmp l) = y) (h3 : a.eval (.tmp m) = z)
    (hr : (Instr.build T #[(0, x), (1, y), (2, z)]).run P w = .ok u w) (hK : K (a.put o.dst u) w) : o.wp P a w K Q :=
  wpVal (x := u) (w' := w) (by unfold execOp; simp only [hop]; simp only [List.map_toArray, List.map_cons, List.map_nil, h1, h2, h3, Sem.run_bind, hr, Result.andThen_ok, Sem.run_pure]) hK
theorem ldFs {g j n m : Nat} {p : Option Addr} {w : World} (h : w.cell? ⟨g, j, none⟩ = some (.slice p n m)) : (Instr.loadAt 24 (.pointer (some ⟨g, j, none⟩))).run Try.prog w = .ok (.slice p n m) w := by
  simp [Instr.loadAt, go_sem, h]
theorem ldOs {g j n m : Nat} {p : Option Addr} {w : World} (h : w.cell? ⟨g, j, none⟩ = some (.slice p n m)) : (Instr.loadAt 25 (.pointer (some ⟨g, j, none⟩))).run Try.prog w = .ok (.slice p n m) w := by
  simp [Instr.loadAt, go_sem, h]
theorem fdD0 (g : Nat) (w : World) : (Instr.fieldAt 27 (.pointer (some ⟨g, 0, none⟩)) 0).run Try.prog w = .ok (.pointer (some ⟨g, 0, none⟩)) w := by kernel_rfl
theorem fdD1 (g : Nat) (w : World) : (Instr.fieldAt 27 (.pointer (some ⟨g, 0, none⟩)) 1).run Try.prog w = .ok (.pointer (some ⟨g, 1, none⟩)) w := by kernel_rfl
theorem fdD2 (g : Nat) (w : World) : (Instr.fieldAt 27 (.pointer (some ⟨g, 0, none⟩)) 2).run Try.prog w = .ok (.pointer (some ⟨g, 2, none⟩)) w := by kernel_rfl
theorem bDisk (p q r : Option Addr) (a b c a2 b2 c2 : Nat) (w : World) : (Instr.build 27 #[(0, .slice p a a2), (1, .slice q b b2), (2, .slice r c c2)]).run Try.prog w = .ok (.agg #[.slice p a a2, .slice q b b2, .slice r c c2]) w := by kernel_rfl
theorem diskSz (x y z : Value) : (Try.prog.info? 27).map (·.size) = some (#[x, y, z] : Array Value).size := by kernel_rfl
theorem rowNew {α : Type} {B e c r : Nat} {f : α → List Value} {v : Value} {l : List α} {w : World} (h : RowL B e c f v l w) (hr : r < B) : v.ownBlock = none ∨ v.ownBlock ≠ some r := by
  cases hv : v.ownBlock with
  | none => exact .inl rfl
  | some k => exact .inr (fun e => by have := (World.ownsRow.lt h k hv).1; have := Option.some.inj e; omega)
theorem diskNew {B r : Nat} {x y z : Value} {d : DiskT} {w w' : World} (h : DiskAt B x y z d w) (hr : r < B) (hg : w.grownBy w' (some r)) : DiskAt B x y z d w' :=
  ⟨RowL.kept h.live hg (rowNew h.live hr), RowL.kept h.safe hg (rowNew h.safe hr), RowL.kept h.ops hg (rowNew h.ops hr)⟩

structure InvB (b r : Nat) (d : DiskT) (u1 u2 u3 : Value) (W1 : World) (v : Nat → Value) (L : Nat → Bool) (w : World) : Prop where
  G : W1.grownBy w (some r)
  l0 : L 0 = true → ∃ g, v 0 = .slice (some ⟨g, 0, none⟩) 0 0 ∧ W1.heap.size ≤ g ∧ w.heap[g]? = some (.cells #[] 88 (0, 0))
  p1 : L 1 = true → v 1 = .pointer (some ⟨b, 0, none⟩)
  q2 : L 2 = true → v 2 = u1
  a3 : L 3 = true → FilesAt W1.heap.size (v 3) d.live w
  l4 : L 4 = true → ∃ g, v 4 = .slice (some ⟨g, 0, none⟩) 0 0 ∧ W1.heap.size ≤ g ∧ w.heap[g]? = some (.cells #[] 88 (0, 0))
  p5 : L 5 = true → v 5 = .pointer (some ⟨b, 1, none⟩)
  q6 : L 6 = true → v 6 = u2
  a7 : L 7 = true → FilesAt W1.heap.size (v 7) d.safe w
  l8 : L 8 = true → ∃ g, v 8 = .slice (some ⟨g, 0, none⟩) 0 0 ∧ W1.heap.size ≤ g ∧ w.heap[g]? = some (.cells #[] 36 (0, 0))
  p9 : L 9 = true → v 9 = .pointer (some ⟨b, 2, none⟩)
  q10 : L 10 = true → v 10 = u3
  a11 : L 11 = true → OpsAt W1.heap.size (v 11) d.ops w
  m12 : L 12 = true → ∃ x y z, v 12 = .agg #[x, y, z] ∧ DiskAt W1.heap.size x y z d w
structure InvC (b r : Nat) (d : DiskT) (u1 u2 u3 : Value) (W1 : World) (v : Nat → Value) (L : Nat → Bool) (w : World) : Prop where
  B : InvB b r d u1 u2 u3 W1 v L w
  r13 : L 13 = false → w.heap[r]? = some (.cells #[.slice none 0 0, .slice none 0 0, .slice none 0 0] 27 (0, 0))
  s13 : L 13 = true → ∃ x y z, w.heap[r]? = some (.cells #[x, y, z] 27 (0, 0)) ∧ DiskAt W1.heap.size x y z d w
theorem InvB.grow {b r : Nat} {d : DiskT} {u1 u2 u3 : Value} {W1 : World} {v : Nat → Value} {L : Nat → Bool} {w w' : World} (h : InvB b r d u1 u2 u3 W1 v L w) (hr : r < W1.heap.size) (hg : w.grownBy w' (some r)) : InvB b r d u1 u2 u3 W1 v L w' where
  G := grw_trans h.G hg
  l0 := fun a => by
    obtain ⟨g, e, hk, hb⟩ := h.l0 a
    exact ⟨g, e, hk, (hg.block g (Array.getElem?_eq_some_iff.1 hb).1 (fun c => by have := Option.some.inj c; omega)).trans hb⟩
  p1 := h.p1
  q2 := h.q2
  a3 := fun a => RowL.kept (h.a3 a) hg (rowNew (h.a3 a) hr)
  l4 := fun a => by
    obtain ⟨g, e, hk, hb⟩ := h.l4 a
    exact ⟨g, e, hk, (hg.block g (Array.getElem?_eq_some_iff.1 hb).1 (fun c => by have := Option.some.inj c; omega)).trans hb⟩
  p5 := h.p5
  q6 := h.q6
  a7 := fun a => RowL.kept (h.a7 a) hg (rowNew (h.a7 a) hr)
  l8 := fun a => by
    obtain ⟨g, e, hk, hb⟩ := h.l8 a
    exact ⟨g, e, hk, (hg.block g (Array.getElem?_eq_some_iff.1 hb).1 (fun c => by have := Option.some.inj c; omega)).trans hb⟩
  p9 := h.p9
  q10 := h.q10
  a11 := fun a => RowL.kept (h.a11 a) hg (rowNew (h.a11 a) hr)
  m12 := fun a => by
    obtain ⟨x, y, z, e, hd⟩ := h.m12 a
    exact ⟨x, y, z, e, diskNew hd hr hg⟩
theorem InvC.grow {b r : Nat} {d : DiskT} {u1 u2 u3 : Value} {W1 : World} {v : Nat → Value} {L : Nat → Bool} {w w' : World} (h : InvC b r d u1 u2 u3 W1 v L w) (hr : r < W1.heap.size) (hb : Below w.heap.size w w') : InvC b r d u1 u2 u3 W1 v L w' where
  B := h.B.grow hr (grw_of_below hb _)
  r13 := fun a => (hb.block r (Nat.lt_of_lt_of_le hr h.B.G.size)).trans (h.r13 a)
  s13 := fun a => by
    obtain ⟨x, y, z, e, hd⟩ := h.s13 a
    exact ⟨x, y, z, (hb.block r (Nat.lt_of_lt_of_le hr h.B.G.size)).trans e, diskNew hd hr (grw_of_below hb _)⟩

set_option maxRecDepth 20000 in
set_option maxHeartbeats 4000000 in
theorem copy_s (v1 v2 v3 : Value) (d : DiskT) (w : World) (h : DiskAt 0 v1 v2 v3 d w) (hs : d.small) :
    Calls Try.prog 75 #[.agg #[v1, v2, v3]] w fun e w' => ∃ u1 u2 u3, e = .returned (.agg #[u1, u2, u3]) ∧ DiskAt w.heap.size u1 u2 u3 d w' ∧ Below w.heap.size w w' := by
  have H := Lib.hid h
  obtain ⟨p1, m1, rfl, _⟩ := h.live.open
  obtain ⟨p2, m2, rfl, _⟩ := h.safe.open
  obtain ⟨p3, m3, rfl, _⟩ := h.ops.open
  clear h
  have hB1 : Below w.heap.size w ((w.alloc (.cells #[.slice p1 d.live.length m1, .slice p2 d.safe.length m2, .slice p3 d.ops.length m3] 27)).alloc (.cells #[.slice none 0 0, .slice none 0 0, .slice none 0 0] 27)) := ((Below.refl _ _).alloc (Nat.le_refl _) _).alloc (by simp) _
  obtain ⟨_, xA, xR⟩ := boxes2 w (.cells #[.slice p1 d.live.length m1, .slice p2 d.safe.length m2, .slice p3 d.ops.length m3] 27) (.cells #[.slice none 0 0, .slice none 0 0, .slice none 0 0] 27) _ (Below.refl _ _)
  have hsz : ((w.alloc (.cells #[.slice p1 d.live.length m1, .slice p2 d.safe.length m2, .slice p3 d.ops.length m3] 27)).alloc (.cells #[.slice none 0 0, .slice none 0 0, .slice none 0 0] 27)).heap.size = w.heap.size + 1 + 1 := by simp
  go_enter Try.func75, Try.ntmps75
  go_upto_region 1 with (fail)
  generalize ((w.alloc (.cells #[.slice p1 d.live.length m1, .slice p2 d.safe.length m2, .slice p3 d.ops.length m3] 27)).alloc (.cells #[.slice none 0 0, .slice none 0 0, .slice none 0 0] 27)) = W1 at hB1 xA xR hsz ⊢
  have hr : w.heap.size + 1 < W1.heap.size := by omega
  have cell : ∀ {V : World}, W1.grownBy V (some (w.heap.size + 1)) → V.heap[w.heap.size]? = some (.cells #[.slice p1 d.live.length m1, .slice p2 d.safe.length m2, .slice p3 d.ops.length m3] 27 (0, 0)) := fun hg => (hg.block w.heap.size (by omega) (fun c => by have := Option.some.inj c; omega)).trans xA
  have lists : ∀ {V : World}, W1.grownBy V (some (w.heap.size + 1)) → DiskAt 0 (.slice p1 d.live.length m1) (.slice p2 d.safe.length m2) (.slice p3 d.ops.length m3) d V := fun hg => H.out.below (below_grw hB1 hg (by omega) (fun q hq => by have := Option.some.inj hq; omega))
  refine region_invL 14 [some 3, some 4, some 5, some 6, some 7, some 8, some 9, some 10, some 11, some 12, some 13, some 14, some 15, none] (InvC w.heap.size (w.heap.size + 1) d (.slice p1 d.live.length m1) (.slice p2 d.safe.length m2) (.slice p3 d.ops.length m3) W1) (by kernel_rfl) rfl (by kernel_rfl) (by kernel_rfl) (by kernel_rfl) ?_ ?_ ?_
  · exact ⟨⟨grw_drew (grw_refl _ _), (fun h => by cases h), (fun h => by cases h), (fun h => by cases h), (fun h => by cases h), (fun h => by cases h), (fun h => by cases h), (fun h => by cases h), (fun h => by cases h), (fun h => by cases h), (fun h => by cases h), (fun h => by cases h), (fun h => by cases h), (fun h => by cases h)⟩, fun _ => xR, (fun h => by cases h)⟩
  · intro i o v L w1 hoi hL hI hdep
    have hi : i < 14 := (Array.getElem?_eq_some_iff.1 hoi).1
    have hc : i = 0 ∨ i = 1 ∨ i = 2 ∨ i = 3 ∨ i = 4 ∨ i = 5 ∨ i = 6 ∨ i = 7 ∨ i = 8 ∨ i = 9 ∨ i = 10 ∨ i = 11 ∨ i = 12 ∨ i = 13 := by omega
    have hsz1 : W1.heap.size ≤ w1.heap.size := hI.B.G.size
    rcases hc with rfl | rfl | rfl | rfl | rfl | rfl | rfl | rfl | rfl | rfl | rfl | rfl | rfl | rfl
    · obtain rfl := Option.some.inj hoi
      have hI2 := hI.grow hr ((Below.refl w1.heap.size w1).alloc (Nat.le_refl _) (.cells #[] 88))
      refine ⟨rfl, wpLitT rfl (litF w1) ⟨_, rfl, ?_⟩⟩
      exact ⟨⟨hI2.B.G, fun _ => ⟨w1.heap.size, rfl, hsz1, heap_alloc_new w1 _⟩, hI2.B.p1, hI2.B.q2, hI2.B.a3, hI2.B.l4, hI2.B.p5, hI2.B.q6, hI2.B.a7, hI2.B.l8, hI2.B.p9, hI2.B.q10, hI2.B.a11, hI2.B.m12⟩, hI2.r13, hI2.s13⟩
    · obtain rfl := Option.some.inj hoi
      refine ⟨rfl, wpFieldT rfl (at_old (by kernel_rfl)) (fdD0 _ w1) ⟨_, rfl, ?_⟩⟩
      exact ⟨⟨hI.B.G, hI.B.l0, fun _ => rfl, hI.B.q2, hI.B.a3, hI.B.l4, hI.B.p5, hI.B.q6, hI.B.a7, hI.B.l8, hI.B.p9, hI.B.q10, hI.B.a11, hI.B.m12⟩, hI.r13, hI.s13⟩
    · obtain rfl := Option.some.inj hoi
      refine ⟨rfl, wpLoadT rfl ((at_new (by kernel_rfl) 1 (Nat.le_of_ble_eq_true rfl) rfl (by decide) (hdep 1 (dep_of (by kernel_rfl)))).trans (hI.B.p1 (hdep 1 (dep_of (by kernel_rfl))))) (ldFs (dk_cells (cell hI.B.G)).1.1) ⟨_, rfl, ?_⟩⟩
      exact ⟨⟨hI.B.G, hI.B.l0, hI.B.p1, fun _ => rfl, hI.B.a3, hI.B.l4, hI.B.p5, hI.B.q6, hI.B.a7, hI.B.l8, hI.B.p9, hI.B.q10, hI.B.a11, hI.B.m12⟩, hI.r13, hI.s13⟩
    · obtain rfl := Option.some.inj hoi
      obtain ⟨g, eg, hg0, hgb⟩ := hI.B.l0 (hdep 0 (dep_of (by kernel_rfl)))
      refine ⟨rfl, wpAppF rfl rfl W1.heap.size g ((at_new (by kernel_rfl) 0 (Nat.le_of_ble_eq_true rfl) rfl (by decide) (hdep 0 (dep_of (by kernel_rfl)))).trans eg) hgb hg0 _ d.live ((at_new (by kernel_rfl) 2 (Nat.le_of_ble_eq_true rfl) rfl (by decide) (hdep 2 (dep_of (by kernel_rfl)))).trans (hI.B.q2 (hdep 2 (dep_of (by kernel_rfl))))) (lists hI.B.G).live hs.live ?_⟩
      intro u w2 hu hb2
      have hI2 := hI.grow hr hb2
      exact ⟨_, rfl, ⟨⟨hI2.B.G, hI2.B.l0, hI2.B.p1, hI2.B.q2, fun _ => hu, hI2.B.l4, hI2.B.p5, hI2.B.q6, hI2.B.a7, hI2.B.l8, hI2.B.p9, hI2.B.q10, hI2.B.a11, hI2.B.m12⟩, hI2.r13, hI2.s13⟩⟩
    · obtain rfl := Option.some.inj hoi
      have hI2 := hI.grow hr ((Below.refl w1.heap.size w1).alloc (Nat.le_refl _) (.cells #[] 88))
      refine ⟨rfl, wpLitT rfl (litF w1) ⟨_, rfl, ?_⟩⟩
      exact ⟨⟨hI2.B.G, hI2.B.l0, hI2.B.p1, hI2.B.q2, hI2.B.a3, fun _ => ⟨w1.heap.size, rfl, hsz1, heap_alloc_new w1 _⟩, hI2.B.p5, hI2.B.q6, hI2.B.a7, hI2.B.l8, hI2.B.p9, hI2.B.q10, hI2.B.a11, hI2.B.m12⟩, hI2.r13, hI2.s13⟩
    · obtain rfl := Option.some.inj hoi
      refine ⟨rfl, wpFieldT rfl (at_old (by kernel_rfl)) (fdD1 _ w1) ⟨_, rfl, ?_⟩⟩
      exact ⟨⟨hI.B.G, hI.B.l0, hI.B.p1, hI.B.q2, hI.B.a3, hI.B.l4, fun _ => rfl, hI.B.q6, hI.B.a7, hI.B.l8, hI.B.p9, hI.B.q10, hI.B.a11, hI.B.m12⟩, hI.r13, hI.s13⟩
    · obtain rfl := Option.some.inj hoi
      refine ⟨rfl, wpLoadT rfl ((at_new (by kernel_rfl) 5 (Nat.le_of_ble_eq_true rfl) rfl (by decide) (hdep 5 (dep_of (by kernel_rfl)))).trans (hI.B.p5 (hdep 5 (dep_of (by kernel_rfl))))) (ldFs (dk_cells (cell hI.B.G)).1.2.1) ⟨_, rfl, ?_⟩⟩
      exact ⟨⟨hI.B.G, hI.B.l0, hI.B.p1, hI.B.q2, hI.B.a3, hI.B.l4, hI.B.p5, fun _ => rfl, hI.B.a7, hI.B.l8, hI.B.p9, hI.B.q10, hI.B.a11, hI.B.m12⟩, hI.r13, hI.s13⟩
    · obtain rfl := Option.some.inj hoi
      obtain ⟨g, eg, hg0, hgb⟩ := hI.B.l4 (hdep 4 (dep_of (by kernel_rfl)))
      refine ⟨rfl, wpAppF rfl rfl W1.heap.size g ((at_new (by kernel_rfl) 4 (Nat.le_of_ble_eq_true rfl) rfl (by decide) (hdep 4 (dep_of (by kernel_rfl)))).trans eg) hgb hg0 _ d.safe ((at_new (by kernel_rfl) 6 (Nat.le_of_ble_eq_true rfl) rfl (by decide) (hdep 6 (dep_of (by kernel_rfl)))).trans (hI.B.q6 (hdep 6 (dep_of (by kernel_rfl))))) (lists hI.B.G).safe hs.safe ?_⟩
      intro u w2 hu hb2
      have hI2 := hI.grow hr hb2
      exact ⟨_, rfl, ⟨⟨hI2.B.G, hI2.B.l0, hI2.B.p1, hI2.B.q2, hI2.B.a3, hI2.B.l4, hI2.B.p5, hI2.B.q6, fun _ => hu, hI2.B.l8, hI2.B.p9, hI2.B.q10, hI2.B.a11, hI2.B.m12⟩, hI2.r13, hI2.s13⟩⟩
    · obtain rfl := Option.some.inj hoi
      have hI2 := hI.grow hr ((Below.refl w1.heap.size w1).alloc (Nat.le_refl _) (.cells #[] 36))
      refine ⟨rfl, wpLitT rfl (litO w1) ⟨_, rfl, ?_⟩⟩
      exact ⟨⟨hI2.B.G, hI2.B.l0, hI2.B.p1, hI2.B.q2, hI2.B.a3, hI2.B.l4, hI2.B.p5, hI2.B.q6, hI2.B.a7, fun _ => ⟨w1.heap.size, rfl, hsz1, heap_alloc_new w1 _⟩, hI2.B.p9, hI2.B.q10, hI2.B.a11, hI2.B.m12⟩, hI2.r13, hI2.s13⟩
    · obtain rfl := Option.some.inj hoi
      refine ⟨rfl, wpFieldT rfl (at_old (by kernel_rfl)) (fdD2 _ w1) ⟨_, rfl, ?_⟩⟩
      exact ⟨⟨hI.B.G, hI.B.l0, hI.B.p1, hI.B.q2, hI.B.a3, hI.B.l4, hI.B.p5, hI.B.q6, hI.B.a7, hI.B.l8, fun _ => rfl, hI.B.q10, hI.B.a11, hI.B.m12⟩, hI.r13, hI.s13⟩
    · obtain rfl := Option.some.inj hoi
      refine ⟨rfl, wpLoadT rfl ((at_new (by kernel_rfl) 9 (Nat.le_of_ble_eq_true rfl) rfl (by decide) (hdep 9 (dep_of (by kernel_rfl)))).trans (hI.B.p9 (hdep 9 (dep_of (by kernel_rfl))))) (ldOs (dk_cells (cell hI.B.G)).1.2.2) ⟨_, rfl, ?_⟩⟩
      exact ⟨⟨hI.B.G, hI.B.l0, hI.B.p1, hI.B.q2, hI.B.a3, hI.B.l4, hI.B.p5, hI.B.q6, hI.B.a7, hI.B.l8, hI.B.p9, fun _ => rfl, hI.B.a11, hI.B.m12⟩, hI.r13, hI.s13⟩
    · obtain rfl := Option.some.inj hoi
      obtain ⟨g, eg, hg0, hgb⟩ := hI.B.l8 (hdep 8 (dep_of (by kernel_rfl)))
      refine ⟨rfl, wpAppO rfl rfl W1.heap.size g ((at_new (by kernel_rfl) 8 (Nat.le_of_ble_eq_true rfl) rfl (by decide) (hdep 8 (dep_of (by kernel_rfl)))).trans eg) hgb hg0 _ d.ops ((at_new (by kernel_rfl) 10 (Nat.le_of_ble_eq_true rfl) rfl (by decide) (hdep 10 (dep_of (by kernel_rfl)))).trans (hI.B.q10 (hdep 10 (dep_of (by kernel_rfl))))) (lists hI.B.G).ops hs.ops ?_⟩
      intro u w2 hu hb2
      have hI2 := hI.grow hr hb2
      exact ⟨_, rfl, ⟨⟨hI2.B.G, hI2.B.l0, hI2.B.p1, hI2.B.q2, hI2.B.a3, hI2.B.l4, hI2.B.p5, hI2.B.q6, hI2.B.a7, hI2.B.l8, hI2.B.p9, hI2.B.q10, fun _ => hu, hI2.B.m12⟩, hI2.r13, hI2.s13⟩⟩
    · obtain rfl := Option.some.inj hoi
      have f1 := hI.B.a3 (hdep 3 (dep_of (by kernel_rfl)))
      have f2 := hI.B.a7 (hdep 7 (dep_of (by kernel_rfl)))
      have f3 := hI.B.a11 (hdep 11 (dep_of (by kernel_rfl)))
      obtain ⟨q1, n1, e1, _⟩ := f1.open
      obtain ⟨q2, n2, e2, _⟩ := f2.open
      obtain ⟨q3, n3, e3, _⟩ := f3.open
      rw [e1] at f1
      rw [e2] at f2
      rw [e3] at f3
      refine ⟨rfl, wpBuild3T rfl ((at_new (by kernel_rfl) 3 (Nat.le_of_ble_eq_true rfl) rfl (by decide) (hdep 3 (dep_of (by kernel_rfl)))).trans e1) ((at_new (by kernel_rfl) 7 (Nat.le_of_ble_eq_true rfl) rfl (by decide) (hdep 7 (dep_of (by kernel_rfl)))).trans e2) ((at_new (by kernel_rfl) 11 (Nat.le_of_ble_eq_true rfl) rfl (by decide) (hdep 11 (dep_of (by kernel_rfl)))).trans e3) (bDisk _ _ _ _ _ _ _ _ _ w1) ⟨_, rfl, ?_⟩⟩
      exact ⟨⟨hI.B.G, hI.B.l0, hI.B.p1, hI.B.q2, hI.B.a3, hI.B.l4, hI.B.p5, hI.B.q6, hI.B.a7, hI.B.l8, hI.B.p9, hI.B.q10, hI.B.a11, fun _ => ⟨_, _, _, rfl, f1, f2, f3⟩⟩, hI.r13, hI.s13⟩
    · obtain rfl := Option.some.inj hoi
      obtain ⟨x, y, z, e12, hd12⟩ := hI.B.m12 (hdep 12 (dep_of (by kernel_rfl)))
      have hone : (#[x, y, z] : Array Value).all (·.oneCell') = true := by
        obtain ⟨_, _, rfl, _⟩ := hd12.live.open
        obtain ⟨_, _, rfl, _⟩ := hd12.safe.open
        obtain ⟨_, _, rfl, _⟩ := hd12.ops.open
        simp [Value.oneCell']
      have hold := hI.r13 hL
      have hg : w1.grownBy (w1.setRow (w.heap.size + 1) #[x, y, z]) (some (w.heap.size + 1)) := grw_setRow (grw_refl _ _) _
      refine ⟨rfl, wpStoreT rfl (at_old (by kernel_rfl)) ((at_new (by kernel_rfl) 12 (Nat.le_of_ble_eq_true rfl) rfl (by decide) (hdep 12 (dep_of (by kernel_rfl)))).trans e12) hold (diskSz x y z) rfl hone ⟨_, rfl, ?_⟩⟩
      have hB2 := hI.B.grow hr hg
      exact ⟨⟨hB2.G, hB2.l0, hB2.p1, hB2.q2, hB2.a3, hB2.l4, hB2.p5, hB2.q6, hB2.a7, hB2.l8, hB2.p9, hB2.q10, hB2.a11, hB2.m12⟩, (fun h => by cases h), fun _ => ⟨x, y, z, setRow_heap w1 (w.heap.size + 1) _ _ _ (0, 0) hold, diskNew hd12 hr hg⟩⟩
  intro v x1 hI
  obtain ⟨x, y, z, hrow, hd⟩ := hI.s13 rfl
  have hG := hI.B.G
  have hfin : Below w.heap.size w x1 := below_grw hB1 hG (by omega) (fun q hq => by have := Option.some.inj hq; omega)
  have HD := Lib.hid (hd.mono (show w.heap.size ≤ W1.heap.size by omega))
  clear hI hd
  simp only [Go.My.putL, Nat.zero_add, Nat.reduceAdd, Act.put, List.setIfInBounds_toArray, List.set_cons_zero, List.set_cons_succ]
  generalize v 0 = y0 at *
  generalize v 1 = y1 at *
  generalize v 2 = y2 at *
  generalize v 3 = y3 at *
  generalize v 4 = y4 at *
  generalize v 5 = y5 at *
  generalize v 6 = y6 at *
  generalize v 7 = y7 at *
  generalize v 8 = y8 at *
  generalize v 9 = y9 at *
  generalize v 10 = y10 at *
  generalize v 11 = y11 at *
  generalize v 12 = y12 at *
  go_wp2
  refine bodyPost_ret (v := .agg #[x, y, z]) (results_cell_row Try.results75 _ _ (w.heap.size + 1) 27 _ (0, 0) _ rfl hrow Try.underlying27 rfl (by kernel_rfl)) rfl ⟨_, _, _, rfl, HD.out, hfin⟩

end Go.Proofs.Ytepefbfmjjnamaa

/- The specification: an operation on a right disk; Do. -/
namespace Go.Proofs.Ytepefbfmjjnamaa
open Go.RowKit Go.My Go.Lib
set_option linter.unusedVariables false

def actD (d : DiskT) (op : DOpT) : DiskT := ⟨doL d.live d.ops op, d.safe, doO d.live d.ops op⟩
theorem actD_no {d : DiskT} {op : DOpT} (h : doC d.live d.ops op ≠ 0) : actD d op = d := by unfold actD doL doO; rw [if_neg h, if_neg h]
theorem actD_yes {d : DiskT} {op : DOpT} (h : doC d.live d.ops op = 0) : actD d op = ⟨aftL d.live op, d.safe, d.ops ++ [op]⟩ := by unfold actD doL doO; rw [if_pos h, if_pos h]

set_option maxRecDepth 20000 in
set_option maxHeartbeats 4000000 in
theorem act_s (v1 v2 v3 : Value) (d : DiskT) (k : Int) (n t x : ByteArray) (w : World) (h : DiskAt 0 v1 v2 v3 d w) (hf : filesB d.live = true) (h200 : d.ops.length ≤ 200) (hs : d.small) (hk : (Lit.int .i64 k).wf = true) (hn : n.size ≤ 1048580) (ht : t.size ≤ 1048580) (hx : x.size ≤ 1048576) :
    Calls Try.prog 66 #[.agg #[v1, v2, v3], .agg #[.int .i64 k, .string n, .string t, .string x]] w fun e w' => ∃ u1 u2 u3, e = .returned (.tuple #[.agg #[u1, u2, u3], .int .i64 (doC d.live d.ops (k, n, t, x))]) ∧ DiskAt w.heap.size u1 u2 u3 (actD d (k, n, t, x)) w' ∧ Below w.heap.size w w' := by
  have hFB := filesB_of hf
  have CC := Lib.hid (fun W (hW : Below w.heap.size w W) => copy_s v1 v2 v3 d W (h.below hW) hs)
  have CF := Lib.hid (fun W => form_s k n t x W hk (by omega) (by omega))
  have CD := Lib.hid (fun W (hW : Below w.heap.size w W) => do_s v1 d.live k n t x W (h.live.below hW) hs.live (by omega) (fun a ha => by have := data_le ha; have := hFB.sum; omega))
  have HSM := Lib.hid (show ∀ l', opDo d.live (k, n, t, x) = some l' → l'.length ≤ 61 ∧ dataSum l' ≤ 2000000 ∧ ∀ a ∈ l', a.1.size ≤ 1048580 from fun l' hh => opDo_small hFB hh hn ht hx)
  have HCC : Hid (doC d.live d.ops (k, n, t, x) = (if opB (k, n, t, x) = false then 2 else if findB d.live (k, n, t, x) = false then 3 else if 200 ≤ d.ops.length then 4 else if filesB (aftL d.live (k, n, t, x)) = false then 4 else 0)) := rfl
  have HNO := Lib.hid (fun h => actD_no (d := d) (op := (k, n, t, x)) h)
  have HYES := Lib.hid (fun h => actD_yes (d := d) (op := (k, n, t, x)) h)
  have HOA := Lib.hid (opDo_aft d.live (k, n, t, x))
  have HFB := Lib.hid (And.intro h200 hFB)
  obtain ⟨p1, m1, rfl, _⟩ := h.live.open
  obtain ⟨p2, m2, rfl, _⟩ := h.safe.open
  obtain ⟨p3, m3, rfl, _⟩ := h.ops.open
  clear h hf hs hk hn ht hx hFB h200
  obtain ⟨C, hC⟩ : ∃ C, doC d.live d.ops (k, n, t, x) = C := ⟨_, rfl⟩
  rw [hC] at HCC HNO HYES ⊢
  clear hC
  generalize actD d (k, n, t, x) = AD at HNO HYES ⊢
  have hB0 : Below w.heap.size w (((w.alloc (.cells #[.slice p1 d.live.length m1, .slice p2 d.safe.length m2, .slice p3 d.ops.length m3] 27)).alloc (.cells #[.int .i64 k, .string n, .string t, .string x] 36)).alloc (.cells #[.slice none 0 0, .slice none 0 0, .slice none 0 0] 27)) := (((Below.refl _ _).alloc (Nat.le_refl _) _).alloc (by simp) _).alloc (by simp; omega) _
  go_enter Try.func66, Try.ntmps66
  go_wp2_with fail
  refine (CF.out _).mono ?_
  rintro e w2 ⟨rfl, hb2⟩
  obtain ⟨hB2, xA, xO, xR, hsz2⟩ := boxes3 w _ _ _ _ hb2
  obtain ⟨⟨b0, b1, b2⟩, _⟩ := dk_cells xA
  obtain ⟨⟨o0, o1, o2, o3⟩, _⟩ := dop_cells xO
  obtain ⟨⟨r0, r1, r2⟩, rf⟩ := dk_cells xR
  have rf0 := rf 0
  have rf1 := rf 1
  have rf2 := rf 2
  have HX := Lib.hid (And.intro xA (And.intro xO xR))
  clear xA xO xR rf hb2
  cases c1 : opB (k, n, t, x) with
  | false =>
    have HR : Hid (C = 2) := by show _ = _; rw [HCC.out, if_pos c1]
    clear c1
    go_wp2_with fail
    refine (CC.out _ hB2).mono ?_
    rintro e wz ⟨u1, u2, u3, rfl, hD, hbz⟩
    obtain ⟨q1, n1, rfl, _⟩ := hD.live.open
    obtain ⟨q2, n2, rfl, _⟩ := hD.safe.open
    obtain ⟨q3, n3, rfl, _⟩ := hD.ops.open
    have yR := (hbz.block (w.heap.size + 1 + 1) (Array.getElem?_eq_some_iff.1 HX.out.2.2).1).trans HX.out.2.2
    have hBz := hB2.trans (hbz.mono hB2.size)
    have HD := Lib.hid (hD.mono hB2.size)
    have HY := Lib.hid yR
    have HBZ := Lib.hid hBz
    have HAD := Lib.hid (HNO.out (by rw [HR.out]; decide))
    clear b0 b1 b2 o0 o1 o2 o3 r0 r1 r2 rf0 rf1 rf2
    obtain ⟨⟨r0, r1, r2⟩, rf⟩ := dk_cells yR
    have rf0 := rf 0
    have rf1 := rf 1
    have rf2 := rf 2
    clear hD hbz hBz yR rf
    go_wp2
    refine bodyPost_ret (v := .tuple #[.agg #[.slice q1 d.live.length n1, .slice q2 d.safe.length n2, .slice q3 d.ops.length n3], .int .i64 2]) (results_row_u Try.results66 _ _ (w.heap.size + 1 + 1) 27 _ (0, 0) _ rfl (set3 HY.out _ _ _) Try.underlying27 rfl (by kernel_rfl)) rfl ⟨_, _, _, by rw [HR.out], by rw [HAD.out]; exact ⟨RowL.kept HD.out.live (grw_set3 _ _ _ _ _) (rowK HD.out.live HY.out (by decide)), RowL.kept HD.out.safe (grw_set3 _ _ _ _ _) (rowK HD.out.safe HY.out (by decide)), RowL.kept HD.out.ops (grw_set3 _ _ _ _ _) (rowK HD.out.ops HY.out (by decide))⟩, below_grw HBZ.out (grw_set3 _ _ _ _ _) HBZ.out.size (fun q hq => by cases hq; omega)⟩
  | true =>
    rw [if_neg (by rw [c1]; decide)] at HCC
    have HB2 := Lib.hid hB2
    clear c1
    go_wp2_with fail
    refine (CD.out _ hB2).mono ?_
    rintro e w3 ⟨v', l', b, rfl, hl', hop, hb3⟩
    have hB3 := hB2.trans (hb3.mono hB2.size)
    have xA := (hb3.block _ (Array.getElem?_eq_some_iff.1 HX.out.1).1).trans HX.out.1
    have xO := (hb3.block _ (Array.getElem?_eq_some_iff.1 HX.out.2.1).1).trans HX.out.2.1
    have xR := (hb3.block _ (Array.getElem?_eq_some_iff.1 HX.out.2.2).1).trans HX.out.2.2
    have hL' := hl'.mono HB2.out.size
    have HOP := Lib.hid hop
    clear b0 b1 b2 o0 o1 o2 o3 r0 r1 r2 rf0 rf1 rf2 hb3 hB2 hl' hop HX
    obtain ⟨⟨b0, b1, b2⟩, _⟩ := dk_cells xA
    obtain ⟨⟨o0, o1, o2, o3⟩, _⟩ := dop_cells xO
    obtain ⟨⟨r0, r1, r2⟩, rf⟩ := dk_cells xR
    have rf0 := rf 0
    have rf1 := rf 1
    have rf2 := rf 2
    have HX := Lib.hid (And.intro xA (And.intro xO xR))
    clear xA xO xR rf
    obtain ⟨pl, cl, rfl, _⟩ := hL'.open
    cases b with
    | false =>
      have HR : Hid (C = 3) := by
        show _ = _
        have := HOA.out.symm.trans HOP.out
        cases c2 : findB d.live (k, n, t, x) with
        | true => rw [c2] at this; cases this
        | false => rw [HCC.out, if_pos c2]
      go_wp2_with fail
      refine (CC.out _ hB3).mono ?_
      rintro e wz ⟨u1, u2, u3, rfl, hD, hbz⟩
      obtain ⟨q1, n1, rfl, _⟩ := hD.live.open
      obtain ⟨q2, n2, rfl, _⟩ := hD.safe.open
      obtain ⟨q3, n3, rfl, _⟩ := hD.ops.open
      have yR := (hbz.block (w.heap.size + 1 + 1) (Array.getElem?_eq_some_iff.1 HX.out.2.2).1).trans HX.out.2.2
      have hBz := hB3.trans (hbz.mono hB3.size)
      have HD := Lib.hid (hD.mono hB3.size)
      have HY := Lib.hid yR
      have HBZ := Lib.hid hBz
      have HAD := Lib.hid (HNO.out (by rw [HR.out]; decide))
      clear b0 b1 b2 o0 o1 o2 o3 r0 r1 r2 rf0 rf1 rf2
      obtain ⟨⟨r0, r1, r2⟩, rf⟩ := dk_cells yR
      have rf0 := rf 0
      have rf1 := rf 1
      have rf2 := rf 2
      clear hD hbz hBz yR rf
      go_wp2
      refine bodyPost_ret (v := .tuple #[.agg #[.slice q1 d.live.length n1, .slice q2 d.safe.length n2, .slice q3 d.ops.length n3], .int .i64 3]) (results_row_u Try.results66 _ _ (w.heap.size + 1 + 1) 27 _ (0, 0) _ rfl (set3 HY.out _ _ _) Try.underlying27 rfl (by kernel_rfl)) rfl ⟨_, _, _, by rw [HR.out], by rw [HAD.out]; exact ⟨RowL.kept HD.out.live (grw_set3 _ _ _ _ _) (rowK HD.out.live HY.out (by decide)), RowL.kept HD.out.safe (grw_set3 _ _ _ _ _) (rowK HD.out.safe HY.out (by decide)), RowL.kept HD.out.ops (grw_set3 _ _ _ _ _) (rowK HD.out.ops HY.out (by decide))⟩, below_grw HBZ.out (grw_set3 _ _ _ _ _) HBZ.out.size (fun q hq => by cases hq; omega)⟩
    | true =>
      have hfb : findB d.live (k, n, t, x) = true ∧ aftL d.live (k, n, t, x) = l' := by
        have := HOA.out.symm.trans HOP.out
        cases c2 : findB d.live (k, n, t, x) with
        | true => rw [c2] at this; exact ⟨rfl, Option.some.inj this⟩
        | false => rw [c2] at this; cases this
      rw [if_neg (by rw [hfb.1]; decide)] at HCC
      rw [hfb.2] at HCC HYES
      have HSL := Lib.hid (HSM.out l' HOP.out)
      have CK := Lib.hid (fun W (hW : Below w3.heap.size w3 W) => files_s (.slice pl l'.length cl) l' W ((hL'.mono (Nat.zero_le _)).below hW) (by have := HSL.out.1; omega) (by have := HSL.out.2.1; omega) (fun a ha => by have := HSL.out.2.2 a ha; omega))
      have HL' := Lib.hid hL'
      have hl61 : l'.length ≤ 61 := HSL.out.1
      clear hfb hL'
      have hoI : (d.ops.length : Int) ≤ 200 := by have := HFB.out.1; omega
      by_cases c3 : 200 ≤ d.ops.length
      · have hEq : (d.ops.length : Int) = 200 := by omega
        have hEq' : ((d.ops.length : Int) == 200) = true := by rw [hEq]; rfl
        have HR : Hid (C = 4) := by show _ = _; rw [HCC.out, if_pos c3]
        clear c3
        go_wp2_with fail
        refine (CC.out _ hB3).mono ?_
        rintro e wz ⟨u1, u2, u3, rfl, hD, hbz⟩
        obtain ⟨q1, n1, rfl, _⟩ := hD.live.open
        obtain ⟨q2, n2, rfl, _⟩ := hD.safe.open
        obtain ⟨q3, n3, rfl, _⟩ := hD.ops.open
        have yR := (hbz.block (w.heap.size + 1 + 1) (Array.getElem?_eq_some_iff.1 HX.out.2.2).1).trans HX.out.2.2
        have hBz := hB3.trans (hbz.mono hB3.size)
        have HD := Lib.hid (hD.mono hB3.size)
        have HY := Lib.hid yR
        have HBZ := Lib.hid hBz
        have HAD := Lib.hid (HNO.out (by rw [HR.out]; decide))
        clear b0 b1 b2 o0 o1 o2 o3 r0 r1 r2 rf0 rf1 rf2
        obtain ⟨⟨r0, r1, r2⟩, rf⟩ := dk_cells yR
        have rf0 := rf 0
        have rf1 := rf 1
        have rf2 := rf 2
        clear hD hbz hBz yR rf
        go_wp2
        refine bodyPost_ret (v := .tuple #[.agg #[.slice q1 d.live.length n1, .slice q2 d.safe.length n2, .slice q3 d.ops.length n3], .int .i64 4]) (results_row_u Try.results66 _ _ (w.heap.size + 1 + 1) 27 _ (0, 0) _ rfl (set3 HY.out _ _ _) Try.underlying27 rfl (by kernel_rfl)) rfl ⟨_, _, _, by rw [HR.out], by rw [HAD.out]; exact ⟨RowL.kept HD.out.live (grw_set3 _ _ _ _ _) (rowK HD.out.live HY.out (by decide)), RowL.kept HD.out.safe (grw_set3 _ _ _ _ _) (rowK HD.out.safe HY.out (by decide)), RowL.kept HD.out.ops (grw_set3 _ _ _ _ _) (rowK HD.out.ops HY.out (by decide))⟩, below_grw HBZ.out (grw_set3 _ _ _ _ _) HBZ.out.size (fun q hq => by cases hq; omega)⟩
      · rw [if_neg c3] at HCC
        have hEq' : ((d.ops.length : Int) == 200) = false := by
          have : ¬ ((d.ops.length : Int) = 200) := by omega
          simpa using this
        have HC3 := Lib.hid c3
        clear c3
        have HB3 := Lib.hid hB3
        obtain ⟨fb, hfb⟩ : ∃ b, filesB l' = b := ⟨_, rfl⟩
        rw [hfb] at HCC CK
        clear hfb
        go_wp2_with fail
        refine (CK.out _ (Below.refl _ _)).mono ?_
        rintro e w4 ⟨rfl, hb4⟩
        have hB4 := hB3.trans (hb4.mono hB3.size)
        have xA := (hb4.block _ (Array.getElem?_eq_some_iff.1 HX.out.1).1).trans HX.out.1
        have xO := (hb4.block _ (Array.getElem?_eq_some_iff.1 HX.out.2.1).1).trans HX.out.2.1
        have xR := (hb4.block _ (Array.getElem?_eq_some_iff.1 HX.out.2.2).1).trans HX.out.2.2
        have HL4 := Lib.hid (HL'.out.below hb4)
        clear b0 b1 b2 o0 o1 o2 o3 r0 r1 r2 rf0 rf1 rf2 hb4 hB3 HX
        obtain ⟨⟨b0, b1, b2⟩, _⟩ := dk_cells xA
        obtain ⟨⟨o0, o1, o2, o3⟩, _⟩ := dop_cells xO
        obtain ⟨⟨r0, r1, r2⟩, rf⟩ := dk_cells xR
        have rf0 := rf 0
        have rf1 := rf 1
        have rf2 := rf 2
        have HX := Lib.hid (And.intro xA (And.intro xO xR))
        clear xA xO xR rf
        cases fb with
        | false =>
          have HR : Hid (C = 4) := by show _ = _; rw [HCC.out, if_pos rfl]
          go_wp2_with fail
          refine (CC.out _ hB4).mono ?_
          rintro e wz ⟨u1, u2, u3, rfl, hD, hbz⟩
          obtain ⟨q1, n1, rfl, _⟩ := hD.live.open
          obtain ⟨q2, n2, rfl, _⟩ := hD.safe.open
          obtain ⟨q3, n3, rfl, _⟩ := hD.ops.open
          have yR := (hbz.block (w.heap.size + 1 + 1) (Array.getElem?_eq_some_iff.1 HX.out.2.2).1).trans HX.out.2.2
          have hBz := hB4.trans (hbz.mono hB4.size)
          have HD := Lib.hid (hD.mono hB4.size)
          have HY := Lib.hid yR
          have HBZ := Lib.hid hBz
          have HAD := Lib.hid (HNO.out (by rw [HR.out]; decide))
          clear b0 b1 b2 o0 o1 o2 o3 r0 r1 r2 rf0 rf1 rf2
          obtain ⟨⟨r0, r1, r2⟩, rf⟩ := dk_cells yR
          have rf0 := rf 0
          have rf1 := rf 1
          have rf2 := rf 2
          clear hD hbz hBz yR rf
          go_wp2
          refine bodyPost_ret (v := .tuple #[.agg #[.slice q1 d.live.length n1, .slice q2 d.safe.length n2, .slice q3 d.ops.length n3], .int .i64 4]) (results_row_u Try.results66 _ _ (w.heap.size + 1 + 1) 27 _ (0, 0) _ rfl (set3 HY.out _ _ _) Try.underlying27 rfl (by kernel_rfl)) rfl ⟨_, _, _, by rw [HR.out], by rw [HAD.out]; exact ⟨RowL.kept HD.out.live (grw_set3 _ _ _ _ _) (rowK HD.out.live HY.out (by decide)), RowL.kept HD.out.safe (grw_set3 _ _ _ _ _) (rowK HD.out.safe HY.out (by decide)), RowL.kept HD.out.ops (grw_set3 _ _ _ _ _) (rowK HD.out.ops HY.out (by decide))⟩, below_grw HBZ.out (grw_set3 _ _ _ _ _) HBZ.out.size (fun q hq => by cases hq; omega)⟩
        | true =>
          have HR : Hid (C = 0) := by show _ = _; rw [HCC.out, if_neg (by decide)]
          have HAD := Lib.hid (HYES.out HR.out)
          go_wp2_with fail
          refine (CC.out _ hB4).mono ?_
          rintro e w5 ⟨u1, u2, u3, rfl, hD, hb5⟩
          obtain ⟨q1, n1, rfl, _⟩ := hD.live.open
          obtain ⟨q2, n2, rfl, _⟩ := hD.safe.open
          obtain ⟨q3, n3, rfl, _⟩ := hD.ops.open
          have hB5 := hB4.trans (hb5.mono hB4.size)
          have hb6 : Below w5.heap.size w5 (w5.alloc (.cells #[.slice pl l'.length cl, .slice q2 d.safe.length n2, .slice q3 d.ops.length n3] 27)) := (Below.refl _ _).alloc (Nat.le_refl _) _
          have e6 := heap_alloc_new w5 (.cells #[.slice pl l'.length cl, .slice q2 d.safe.length n2, .slice q3 d.ops.length n3] 27)
          have hs6' : (w5.alloc (.cells #[.slice pl l'.length cl, .slice q2 d.safe.length n2, .slice q3 d.ops.length n3] 27)).heap.size = w5.heap.size + 1 := by simp
          have hb56 := hb5.trans (hb6.mono hb5.size)
          have xO6 := (hb56.block _ (Array.getElem?_eq_some_iff.1 HX.out.2.1).1).trans HX.out.2.1
          have xR6 := (hb56.block _ (Array.getElem?_eq_some_iff.1 HX.out.2.2).1).trans HX.out.2.2
          have hT : w.heap.size + 1 + 1 + 1 ≤ w5.heap.size := Nat.le_trans (Array.getElem?_eq_some_iff.1 HX.out.2.2).1 hb5.size
          have L6 := RowL.below HL4.out hb56
          have S6 := RowL.below hD.safe hb6
          have O6 := RowL.below hD.ops hb6
          have hB6 : Below w.heap.size w (w5.alloc (.cells #[.slice pl l'.length cl, .slice q2 d.safe.length n2, .slice q3 d.ops.length n3] 27)) := hB5.trans (hb6.mono hB5.size)
          have h4 : w.heap.size ≤ w4.heap.size ∧ w4.heap.size ≤ w5.heap.size := ⟨hB4.size, hb5.size⟩
          have HH := Lib.hid (And.intro hT h4)
          have HB4 := Lib.hid hB4
          have HXX := Lib.hid (And.intro e6 (And.intro hs6' (And.intro L6 (And.intro S6 (And.intro O6 (And.intro xO6 (And.intro xR6 hB6)))))))
          clear b0 b1 b2 o0 o1 o2 o3 r0 r1 r2 rf0 rf1 rf2 hb5 hb6 hb56 hB4 hB5 hD hT h4 e6 hs6' L6 S6 O6 xO6 xR6 hB6
          go_upto_region 10 with (fail)
          obtain ⟨e6, hs6', L6, S6, O6, xO6, xR6, hB6⟩ := HXX.out
          clear HXX
          generalize (w5.alloc (.cells #[.slice pl l'.length cl, .slice q2 d.safe.length n2, .slice q3 d.ops.length n3] 27)) = W6 at e6 hs6' L6 S6 O6 xO6 xR6 hB6 ⊢
          obtain ⟨⟨t0, t1, t2⟩, tf⟩ := dk_cells e6
          have tf2 := tf 2
          obtain ⟨⟨o0, o1, o2, o3⟩, _⟩ := dop_cells xO6
          obtain ⟨i0, hi, hz0, hz1, hz2⟩ := info_parts info_DOp
          have hR6 : W6.ownsRow w4.heap.size 36 4 (.slice q3 d.ops.length n3) d.ops.length (d.ops.flatMap dOpC) := O6
          have E7 := Lib.hid (show ∀ w7 : World, (W6.alloc (.cells #[.int .i64 k, .string n, .string t, .string x] 36)).grownBy w7 (Value.slice q3 d.ops.length n3).ownBlock → w7.heap[w5.heap.size]? = some (.cells #[.slice pl l'.length cl, .slice q2 d.safe.length n2, .slice q3 d.ops.length n3] 27 (0, 0)) from fun w7 hg7 => by
            have b := (Below.refl W6.heap.size W6).alloc (Nat.le_refl _) (.cells #[.int .i64 k, .string n, .string t, .string x] 36)
            rw [hg7.block w5.heap.size (by simp; omega) (fun c => row_kind O6 e6 (by decide) c.symm)]
            exact (b.block w5.heap.size (by omega)).trans e6)
          have HF := Lib.hid (And.intro L6 (And.intro S6 (And.intro O6 (And.intro xR6 (And.intro hB6 hs6')))))
          have hsW : w4.heap.size ≤ W6.heap.size := by have := HH.out.2.2; omega
          have hol : d.ops.length < 200 := by have := HC3.out; omega
          clear L6 S6 O6 xR6 xO6 e6 hB6 hs6' tf
          go_upto_region 11 with (at_builtin; refine wpList_append_lies _ rfl _ _ 25 rfl w4.heap.size 36 i0 (.agg #[.int .i64 0, .string ByteArray.empty, .string ByteArray.empty, .string ByteArray.empty]) 4 56 Try.underlying25 hi hz0 hz1 hz2 rfl (by decide) (.slice q3 d.ops.length n3) d.ops.length _ rfl (hR6.alloc _) ⟨W6.heap.size, 0, none⟩ 1 1 [_, _, _, _] rfl rfl (World.news_of_block (cs := #[_, _, _, _]) (t := 36) (fr := (0, 0)) (heap_alloc_new W6 _)) (by simp [Value.oneCell']) (by omega) (by unfold maxLen; omega) (by omega) (by simp; omega) (W6.heap.size + 1) (by simp) ?_; intro g2 cap2 w7 hown2 hgrow2 hat hlt2; have e7 := E7.out _ hgrow2; have d27 : w7.cell? ⟨w5.heap.size, 2, none⟩ = some (.slice q3 d.ops.length n3) := cell_of_row w7 _ 2 _ _ (0, 0) e7; have f27 : w7.frozen? ⟨w5.heap.size, 2, none⟩ = false := frozen_of_row w7 _ 2 _ _ e7)
          obtain ⟨L6, S6, O6, xR6, hB6, hs6'⟩ := HF.out
          have R := row_push (b := (k, n, t, x)) hR6 (Below.refl _ _) hsW rfl rfl hown2 hgrow2
          have gA : W6.grownBy w7 (Value.slice q3 d.ops.length n3).ownBlock := grw_trans (grw_of_below ((Below.refl W6.heap.size W6).alloc (Nat.le_refl _) _) _) hgrow2
          have L7 := RowL.kept L6 gA (row_types L6 O6 (by decide))
          have S7 := RowL.kept S6 gA (row_types S6 O6 (by decide))
          have hr4 : w.heap.size + 1 + 1 < w4.heap.size := (Array.getElem?_eq_some_iff.1 HX.out.2.2).1
          have xR7 := (R.2.block (w.heap.size + 1 + 1) hr4).trans xR6
          have hB7 := hB6.trans (R.2.mono HH.out.2.1)
          have hT5 := HH.out.1
          have h45 := HH.out.2
          have g8 : w7.grownBy (w7.setCell ⟨w5.heap.size, 2, none⟩ (.slice (some ⟨g2, 0, none⟩) (d.ops.length + 1) cap2)) (some w5.heap.size) := grw_set (grw_refl _ _) _ _
          have e8 := heap_setCell_same w7 w5.heap.size 2 _ _ (.slice (some ⟨g2, 0, none⟩) (d.ops.length + 1) cap2) e7
          have L8 := RowL.kept L7 g8 (rowK L7 e7 (by decide))
          have S8 := RowL.kept S7 g8 (rowK S7 e7 (by decide))
          have O8 := RowL.kept R.1 g8 (rowK R.1 e7 (by decide))
          have xR8 := (g8.block (w.heap.size + 1 + 1) (by have := R.2.size; omega) (fun c => by have := Option.some.inj c; omega)).trans xR7
          have hB8 := below_grw hB7 g8 hB7.size (fun q hq => by have := Option.some.inj hq; omega)
          clear R gA L7 S7 xR7 hB7 g8 e7 d27 f27 hown2 hgrow2 hat hlt2 L6 S6 O6 xR6 hB6 hs6' hR6 t0 t1 t2 tf2 o0 o1 o2 o3 E7 HF hi hz0 hz1 hz2
          generalize w7.setCell ⟨w5.heap.size, 2, none⟩ (.slice (some ⟨g2, 0, none⟩) (d.ops.length + 1) cap2) = w8 at e8 L8 S8 O8 xR8 hB8 ⊢
          have HQ := Lib.hid (And.intro L8 (And.intro S8 (And.intro O8 (And.intro xR8 hB8))))
          obtain ⟨⟨t0, t1, t2⟩, _⟩ := dk_cells e8
          obtain ⟨⟨r0, r1, r2⟩, rf⟩ := dk_cells xR8
          have rf0 := rf 0
          have rf1 := rf 1
          have rf2 := rf 2
          clear rf L8 S8 O8 xR8 hB8 e8
          go_wp2
          obtain ⟨L8, S8, O8, xR8, hB8⟩ := HQ.out
          refine bodyPost_ret (v := .tuple #[.agg #[.slice pl l'.length cl, .slice q2 d.safe.length n2, .slice (some ⟨g2, 0, none⟩) (d.ops.length + 1) cap2], .int .i64 0]) (results_row_u Try.results66 _ _ (w.heap.size + 1 + 1) 27 _ (0, 0) _ rfl (set3 xR8 _ _ _) Try.underlying27 rfl (by kernel_rfl)) rfl ⟨_, _, _, by rw [HR.out], by rw [HAD.out]; exact ⟨RowL.kept L8 (grw_set3 _ _ _ _ _) (rowK L8 xR8 (by decide)), RowL.kept (S8.mono HH.out.2.1) (grw_set3 _ _ _ _ _) (rowK S8 xR8 (by decide)), RowL.kept (O8.mono HH.out.2.1) (grw_set3 _ _ _ _ _) (rowK O8 xR8 (by decide))⟩, below_grw hB8 (grw_set3 _ _ _ _ _) hB8.size (fun q hq => by cases hq; omega)⟩

theorem doD_act {d : DiskT} {op : DOpT} (h : diskB d = true) : doD d op = actD d op := doD_yes h
set_option maxRecDepth 20000 in
set_option maxHeartbeats 2000000 in
theorem doD_s (v1 v2 v3 : Value) (d : DiskT) (k : Int) (n t x : ByteArray) (w : World) (h : DiskAt 0 v1 v2 v3 d w) (hd : d.fit) (hk : (Lit.int .i64 k).wf = true) (hn : n.size ≤ 1048576) (ht : t.size ≤ 1048576) (hx : x.size ≤ 1048576) :
    Calls Try.prog 24 #[.agg #[v1, v2, v3], .agg #[.int .i64 k, .string n, .string t, .string x]] w fun e w' => ∃ u1 u2 u3, e = .returned (.tuple #[.agg #[u1, u2, u3], .int .i64 (doR d (k, n, t, x))]) ∧ DiskAt w.heap.size u1 u2 u3 (doD d (k, n, t, x)) w' ∧ Below w.heap.size w w' := by
  have C := Lib.hid (fun W (hW : Below w.heap.size w W) => disk_s v1 v2 v3 d W (h.below hW) hd)
  have CA := Lib.hid (fun W (hW : Below w.heap.size w W) (hb : diskB d = true) => act_s v1 v2 v3 d k n t x W (h.below hW) (diskB_live hb) (diskB_ops hb) hd.small hk (Nat.le_trans hn (by decide)) (Nat.le_trans ht (by decide)) hx)
  obtain ⟨p1, m1, rfl, _, _, _⟩ := h.live.open
  obtain ⟨p2, m2, rfl, _, _, _⟩ := h.safe.open
  obtain ⟨p3, m3, rfl, _, _, _⟩ := h.ops.open
  clear h hd hk hn ht hx
  go_enter Try.func24, Try.ntmps24
  go_wp2_with fail
  refine (C.out _ ?_).mono ?_
  · exact (((Below.refl _ _).alloc (Nat.le_refl _) _).alloc (by simp) _).alloc (by simp; omega) _
  rintro e w2 ⟨rfl, hb2⟩
  obtain ⟨hB2, xA, xO, xR, hsz2⟩ := boxes3 w _ _ _ _ hb2
  have HB2 := Lib.hid hB2
  have HXR := Lib.hid xR
  obtain ⟨⟨r0, r1, r2⟩, rf⟩ := dk_cells xR
  obtain ⟨⟨b0, b1, b2⟩, _⟩ := dk_cells xA
  obtain ⟨⟨o0, o1, o2, o3⟩, _⟩ := dop_cells xO
  have rf0 := rf 0
  have rf1 := rf 1
  have rf2 := rf 2
  clear hb2 C hB2 xA xR rf xO
  cases hk : diskB d with
  | false =>
    have HV := Lib.hid (doD_no (op := (k, n, t, x)) hk)
    have HR := Lib.hid (doR_no (op := (k, n, t, x)) hk)
    clear hk
    go_wp2
    have gz := grw_set3 w2 (w.heap.size + 1 + 1) (.slice none 0 0) (.slice none 0 0) (.slice none 0 0)
    refine bodyPost_ret (v := .tuple #[.agg #[.slice none 0 0, .slice none 0 0, .slice none 0 0], .int .i64 1]) (results_row_u Try.results24 _ _ (w.heap.size + 1 + 1) 27 _ (0, 0) _ rfl (set3 HXR.out (.slice none 0 0) (.slice none 0 0) (.slice none 0 0)) Try.underlying27 rfl (by kernel_rfl)) rfl ⟨_, _, _, by rw [HR.out], by rw [HV.out]; exact nilDisk _ _, below_grw HB2.out gz HB2.out.size (fun q hq => by cases hq; omega)⟩
  | true =>
    have HV := Lib.hid (doD_act (op := (k, n, t, x)) hk)
    have HR := Lib.hid (doR_yes (op := (k, n, t, x)) hk)
    have CA2 := Lib.hid (CA.out w2 HB2.out hk)
    generalize doC d.live d.ops (k, n, t, x) = R at CA2 HR
    generalize actD d (k, n, t, x) = AD at CA2 HV
    clear hk CA
    go_wp2_with fail
    refine CA2.out.mono ?_
    rintro e w4 ⟨u1, u2, u3, rfl, hD, hb4⟩
    obtain ⟨q1, n1, rfl, _⟩ := hD.live.open
    obtain ⟨q2, n2, rfl, _⟩ := hD.safe.open
    obtain ⟨q3, n3, rfl, _⟩ := hD.ops.open
    have yR := (hb4.block (w.heap.size + 1 + 1) (Array.getElem?_eq_some_iff.1 HXR.out).1).trans HXR.out
    have hB4 := HB2.out.trans (hb4.mono HB2.out.size)
    have HD := Lib.hid (hD.mono HB2.out.size)
    have HY := Lib.hid yR
    have HB4 := Lib.hid hB4
    clear b0 b1 b2 o0 o1 o2 o3 r0 r1 r2 rf0 rf1 rf2
    obtain ⟨⟨r0, r1, r2⟩, rf⟩ := dk_cells yR
    have rf0 := rf 0
    have rf1 := rf 1
    have rf2 := rf 2
    clear hD hb4 hB4 yR rf CA2
    go_wp2
    refine bodyPost_ret (v := .tuple #[.agg #[.slice q1 AD.live.length n1, .slice q2 AD.safe.length n2, .slice q3 AD.ops.length n3], .int .i64 R]) (results_row_u Try.results24 _ _ (w.heap.size + 1 + 1) 27 _ (0, 0) _ rfl (set3 HY.out _ _ _) Try.underlying27 rfl (by kernel_rfl)) rfl ⟨_, _, _, by rw [HR.out], by rw [HV.out]; exact ⟨RowL.kept HD.out.live (grw_set3 _ _ _ _ _) (rowK HD.out.live HY.out (by decide)), RowL.kept HD.out.safe (grw_set3 _ _ _ _ _) (rowK HD.out.safe HY.out (by decide)), RowL.kept HD.out.ops (grw_set3 _ _ _ _ _) (rowK HD.out.ops HY.out (by decide))⟩, below_grw HB4.out (grw_set3 _ _ _ _ _) HB4.out.size (fun q hq => by cases hq; omega)⟩

end Go.Proofs.Ytepefbfmjjnamaa

/- The specification: Replace. -/
namespace Go.Proofs.Ytepefbfmjjnamaa
open Go.RowKit Go.My Go.Lib
set_option linter.unusedVariables false

theorem all_step {d : DiskT} {op : DOpT} {r : List DOpT} (h : doC d.live d.ops op = 0) : allC d.live d.ops (op :: r) = allC (actD d op).live (actD d op).ops r ∧ (allC (actD d op).live (actD d op).ops r = 0 → allD d (op :: r) = allD (actD d op) r) := by
  have e := actD_yes h
  have h1 : allC d.live d.ops (op :: r) = allC (actD d op).live (actD d op).ops r := by
    show (if doC d.live d.ops op = 0 then _ else _) = _
    rw [if_pos h, e]
  refine ⟨h1, fun h0 => ?_⟩
  unfold allD
  rw [h1, if_pos h0, if_pos h0, e]
  unfold allL
  rw [List.foldl_cons, List.append_assoc]
  rfl
theorem all_stop {d : DiskT} {op : DOpT} {r : List DOpT} (h : doC d.live d.ops op ≠ 0) : allC d.live d.ops (op :: r) = doC d.live d.ops op := by
  show (if doC d.live d.ops op = 0 then _ else _) = _
  rw [if_neg h]
theorem allD_nil (d : DiskT) : allD d [] = d := by
  unfold allD
  rw [if_pos (show allC d.live d.ops [] = 0 from rfl)]
  show DiskT.mk d.live d.safe (d.ops ++ []) = d
  rw [List.append_nil]
theorem allD_bad {d : DiskT} {list : List DOpT} (h : allC d.live d.ops list ≠ 0) : allD d list = d := by unfold allD; rw [if_neg h]
theorem act_keeps {d : DiskT} {op : DOpT} (h : doC d.live d.ops op = 0) (hs : d.small) : filesB (actD d op).live = true ∧ (actD d op).ops.length ≤ 200 ∧ (actD d op).small := by
  have hk := doC_ok h
  rw [actD_yes h]
  have h2 : (d.ops ++ [op]).length ≤ 200 := by rw [List.length_append, List.length_singleton]; omega
  exact ⟨hk.1, h2, ⟨by have := (filesB_of hk.1).len; show (aftL d.live op).length ≤ _; omega, hs.safe, by show (d.ops ++ [op]).length ≤ _; omega⟩⟩
/-- What stands between two acts: the boxes, the disk so far, what is left to do. -/
structure RepJ (p1 p2 p3 : Value) (d E : DiskT) (RO r : List DOpT) (kN : Nat) (a1 a2 a3 : Value) (w W : World) : Prop where
  xA : W.heap[w.heap.size]? = some (.cells #[p1, p2, p3] 27 (0, 0))
  xR : W.heap[w.heap.size + 1]? = some (.cells #[.slice none 0 0, .slice none 0 0, .slice none 0 0] 27 (0, 0))
  xN : W.heap[kN]? = some (.cells #[a1, a2, a3] 27 (0, 0))
  at_ : DiskAt 0 a1 a2 a3 E W
  bel : Below w.heap.size w W
  ok : filesB E.live = true ∧ E.ops.length ≤ 200 ∧ E.small
  all : allC d.live d.ops RO = allC E.live E.ops r ∧ (allC E.live E.ops r = 0 → allD d RO = allD E r)
theorem RepJ.below {p1 p2 p3 a1 a2 a3 : Value} {d E : DiskT} {RO r : List DOpT} {kN : Nat} {w W W' : World} (h : RepJ p1 p2 p3 d E RO r kN a1 a2 a3 w W) (hb : Below W.heap.size W W') : RepJ p1 p2 p3 d E RO r kN a1 a2 a3 w W' :=
  ⟨(hb.block _ (Array.getElem?_eq_some_iff.1 h.xA).1).trans h.xA, (hb.block _ (Array.getElem?_eq_some_iff.1 h.xR).1).trans h.xR, (hb.block _ (Array.getElem?_eq_some_iff.1 h.xN).1).trans h.xN, h.at_.below hb, h.bel.trans (hb.mono h.bel.size), h.ok, h.all⟩
theorem RepJ.next {p1 p2 p3 a1 a2 a3 u1 u2 u3 : Value} {d E : DiskT} {RO r : List DOpT} {op : DOpT} {kN B : Nat} {w W : World} (h : RepJ p1 p2 p3 d E RO (op :: r) kN a1 a2 a3 w W) (hk : w.heap.size + 1 < kN) (hc : doC E.live E.ops op = 0) (hu : DiskAt B u1 u2 u3 (actD E op) W) :
    RepJ p1 p2 p3 d (actD E op) RO r kN u1 u2 u3 w (((W.setCell ⟨kN, 0, none⟩ u1).setCell ⟨kN, 1, none⟩ u2).setCell ⟨kN, 2, none⟩ u3) := by
  have gz := grw_set3 W kN u1 u2 u3
  have hs := all_step (r := r) hc
  refine ⟨?_, ?_, set3 h.xN _ _ _, ?_, below_grw h.bel gz h.bel.size (fun q hq => by cases hq; omega), act_keeps hc h.ok.2.2, h.all.1.trans hs.1, fun h0 => (h.all.2 (hs.1.trans h0)).trans (hs.2 h0)⟩
  · rw [gz.block _ (Array.getElem?_eq_some_iff.1 h.xA).1 (fun c => by have := Option.some.inj c; omega)]; exact h.xA
  · rw [gz.block _ (Array.getElem?_eq_some_iff.1 h.xR).1 (fun c => by have := Option.some.inj c; omega)]; exact h.xR
  · exact ⟨(RowL.kept hu.live gz (rowK hu.live h.xN (by decide))).mono (Nat.zero_le _), (RowL.kept hu.safe gz (rowK hu.safe h.xN (by decide))).mono (Nat.zero_le _), (RowL.kept hu.ops gz (rowK hu.ops h.xN (by decide))).mono (Nat.zero_le _)⟩
/-- Behind an act that is refused: the boxes alone. -/
theorem RepJ.stop {p1 p2 p3 a1 a2 a3 u1 u2 u3 : Value} {d E : DiskT} {RO r : List DOpT} {op : DOpT} {kN : Nat} {w W : World} (h : RepJ p1 p2 p3 d E RO (op :: r) kN a1 a2 a3 w W) (hk : w.heap.size + 1 < kN) :
    (((W.setCell ⟨kN, 0, none⟩ u1).setCell ⟨kN, 1, none⟩ u2).setCell ⟨kN, 2, none⟩ u3).heap[w.heap.size]? = some (.cells #[p1, p2, p3] 27 (0, 0)) ∧ (((W.setCell ⟨kN, 0, none⟩ u1).setCell ⟨kN, 1, none⟩ u2).setCell ⟨kN, 2, none⟩ u3).heap[w.heap.size + 1]? = some (.cells #[.slice none 0 0, .slice none 0 0, .slice none 0 0] 27 (0, 0)) ∧ Below w.heap.size w (((W.setCell ⟨kN, 0, none⟩ u1).setCell ⟨kN, 1, none⟩ u2).setCell ⟨kN, 2, none⟩ u3) := by
  have gz := grw_set3 W kN u1 u2 u3
  refine ⟨?_, ?_, below_grw h.bel gz h.bel.size (fun q hq => by cases hq; omega)⟩
  · rw [gz.block _ (Array.getElem?_eq_some_iff.1 h.xA).1 (fun c => by have := Option.some.inj c; omega)]; exact h.xA
  · rw [gz.block _ (Array.getElem?_eq_some_iff.1 h.xR).1 (fun c => by have := Option.some.inj c; omega)]; exact h.xR

set_option maxRecDepth 20000 in
set_option maxHeartbeats 8000000 in
theorem repD_s (v1 v2 v3 : Value) (d : DiskT) (n x : ByteArray) (w : World) (h : DiskAt 0 v1 v2 v3 d w) (hd : d.fit) (hn : n.size ≤ 1048576) (hx : x.size ≤ 1048576) :
    Calls Try.prog 28 #[.agg #[v1, v2, v3], .string n, .string x] w fun e w' => ∃ u1 u2 u3, e = .returned (.tuple #[.agg #[u1, u2, u3], .int .i64 (repR d n x)]) ∧ DiskAt w.heap.size u1 u2 u3 (repD d n x) w' ∧ Below w.heap.size w w' := by
  have C := Lib.hid (fun W (hW : Below w.heap.size w W) => disk_s v1 v2 v3 d W (h.below hW) hd)
  have CP := Lib.hid (fun W (hW : Below w.heap.size w W) => copy_s v1 v2 v3 d W (h.below hW) hd.small)
  have CI := Lib.hid (fun W (hW : Below w.heap.size w W) => at_s v1 d.live (n ++ dotNew) W (h.live.below hW) hd.small.live)
  have HS := Lib.hid (And.intro hd.small h)
  have HNX : Hid ((n ++ dotNew).size ≤ 1048580 ∧ n.size ≤ 1048576 ∧ x.size ≤ 1048576) := ⟨by rw [ByteArray.size_append]; show n.size + 4 ≤ _; omega, hn, hx⟩
  have hs : ¬ maxLen < n.size + dotNew.size := by rw [dotNew_size]; unfold maxLen; omega
  obtain ⟨p1, m1, rfl, _, _, _⟩ := h.live.open
  obtain ⟨p2, m2, rfl, _, _, _⟩ := h.safe.open
  obtain ⟨p3, m3, rfl, _, _, _⟩ := h.ops.open
  clear h hd hn hx
  go_enter Try.func28, Try.ntmps28
  go_wp2_with fail
  refine (C.out _ ?_).mono ?_
  · exact ((Below.refl _ _).alloc (Nat.le_refl _) _).alloc (by simp) _
  rintro e w2 ⟨rfl, hb2⟩
  obtain ⟨hB2, xA, xR⟩ := boxes2 w _ _ _ hb2
  have hlt2 : w.heap.size + 1 < w2.heap.size := (Array.getElem?_eq_some_iff.1 xR).1
  have HB2 := Lib.hid hB2
  have HXA := Lib.hid xA
  have HXR := Lib.hid xR
  obtain ⟨⟨r0, r1, r2⟩, rf⟩ := dk_cells xR
  obtain ⟨⟨b0, b1, b2⟩, _⟩ := dk_cells xA
  have rf0 := rf 0
  have rf1 := rf 1
  have rf2 := rf 2
  clear hb2 C hB2 xA xR rf
  cases hk : diskB d with
  | false =>
    have HV := Lib.hid (repD_no (n := n) (x := x) hk)
    have HR := Lib.hid (repR_no (n := n) (x := x) hk)
    clear hk
    go_wp2
    have gz := grw_set3 w2 (w.heap.size + 1) (.slice none 0 0) (.slice none 0 0) (.slice none 0 0)
    refine bodyPost_ret (v := .tuple #[.agg #[.slice none 0 0, .slice none 0 0, .slice none 0 0], .int .i64 1]) (results_row_u Try.results28 _ _ (w.heap.size + 1) 27 _ (0, 0) _ rfl (set3 HXR.out (.slice none 0 0) (.slice none 0 0) (.slice none 0 0)) Try.underlying27 rfl (by kernel_rfl)) rfl ⟨_, _, _, by rw [HR.out], by rw [HV.out]; exact nilDisk _ _, below_grw HB2.out gz HB2.out.size (fun q hq => by cases hq; omega)⟩
  | true =>
    have HV := Lib.hid (repD_yes (n := n) (x := x) hk)
    have HR := Lib.hid (repR_yes (n := n) (x := x) hk)
    have HRO : Hid (repO d.live n x = (if (idxL d.live (n ++ dotNew)).isSome = true then [(3, n ++ dotNew, ByteArray.mk #[], ByteArray.mk #[])] else []) ++ [(1, n ++ dotNew, ByteArray.mk #[], x)] ++ [(2, n ++ dotNew, n, ByteArray.mk #[])]) := rfl
    have hal : Below w2.heap.size w2 (w2.alloc (.cells #[.slice p1 d.live.length m1, .slice p2 d.safe.length m2, .slice p3 d.ops.length m3] 27)) := (Below.refl _ _).alloc (Nat.le_refl _) _
    have hB3 := HB2.out.trans (hal.mono HB2.out.size)
    have HJ : Hid (RepJ (.slice p1 d.live.length m1) (.slice p2 d.safe.length m2) (.slice p3 d.ops.length m3) d d (repO d.live n x) (repO d.live n x) w2.heap.size (.slice p1 d.live.length m1) (.slice p2 d.safe.length m2) (.slice p3 d.ops.length m3) w (w2.alloc (.cells #[.slice p1 d.live.length m1, .slice p2 d.safe.length m2, .slice p3 d.ops.length m3] 27))) :=
      ⟨(hal.block _ (Array.getElem?_eq_some_iff.1 HXA.out).1).trans HXA.out, (hal.block _ (Array.getElem?_eq_some_iff.1 HXR.out).1).trans HXR.out, heap_alloc_new w2 _, HS.out.2.below hB3, hB3, ⟨diskB_live hk, diskB_ops hk, HS.out.1⟩, rfl, fun _ => rfl⟩
    generalize repO d.live n x = RO at HV HR HRO HJ
    have HKN := Lib.hid hlt2
    clear hal hB3 hk rf0 rf1 rf2 r0 r1 r2
    go_upto_region 4 with (fail)
    generalize w2.alloc (.cells #[.slice p1 d.live.length m1, .slice p2 d.safe.length m2, .slice p3 d.ops.length m3] 27) = W0 at HJ ⊢
    obtain ⟨kN, hkN⟩ : ∃ k, w2.heap.size = k := ⟨_, rfl⟩
    rw [hkN] at HJ HKN ⊢
    clear hkN hlt2 HXA HXR HB2 b0 b1 b2
    obtain ⟨⟨b0, b1, b2⟩, _⟩ := dk_cells HJ.out.xA
    go_wp2_with fail
    refine (CI.out _ HJ.out.bel).mono ?_
    rintro e W1 ⟨rfl, hb1⟩
    have HJ := Lib.hid (HJ.out.below hb1)
    clear hb1 CI b0 b1 b2
    cases hi : idxL d.live (n ++ dotNew) with
    | none =>
      have HI := Lib.hid (idxV_none hi)
      have hro : RO = [(1, n ++ dotNew, ByteArray.mk #[], x), (2, n ++ dotNew, n, ByteArray.mk #[])] := by rw [HRO.out, hi]; rfl
      subst hro
      rw [HI.out]
      clear hi HI HRO
      go_upto_region 9 with (fail)
      have CA := Lib.hid (act_s _ _ _ d 1 (n ++ dotNew) (ByteArray.mk #[]) x _ HJ.out.at_ HJ.out.ok.1 HJ.out.ok.2.1 HJ.out.ok.2.2 (by decide) HNX.out.1 (by decide) HNX.out.2.2)
      obtain ⟨C1, hC1⟩ : ∃ c, doC d.live d.ops (1, n ++ dotNew, ByteArray.mk #[], x) = c := ⟨_, rfl⟩
      rw [hC1] at CA
      have HCC := Lib.hid hC1
      obtain ⟨⟨b0, b1, b2⟩, _⟩ := dk_cells HJ.out.xN
      clear hC1
      go_wp2_with fail
      refine CA.out.mono ?_
      rintro e V1 ⟨u1, u2, u3, rfl, hu, hb⟩
      have HJ := Lib.hid (HJ.out.below hb)
      have HU := Lib.hid hu
      obtain ⟨q1, n1, rfl, _⟩ := hu.live.open
      obtain ⟨q2, n2, rfl, _⟩ := hu.safe.open
      obtain ⟨q3, n3, rfl, _⟩ := hu.ops.open
      clear b0 b1 b2 hb hu CA
      obtain ⟨⟨b0, b1, b2⟩, bf⟩ := dk_cells HJ.out.xN
      have bf0 := bf 0
      have bf1 := bf 1
      have bf2 := bf 2
      clear bf
      by_cases hz : C1 = 0
      case neg =>
        have HNZ := Lib.hid hz
        have hz' : (C1 == 0) = false := by simpa using hz
        have hz2 : (C1 != 0) = true := by simpa using hz
        have HC := Lib.hid <| HJ.out.all.1.trans ((all_stop (by rw [HCC.out]; exact hz)).trans HCC.out)
        have HX := Lib.hid (HJ.out.stop (u1 := .slice q1 (actD d (1, n ++ dotNew, ByteArray.mk #[], x)).live.length n1) (u2 := .slice q2 (actD d (1, n ++ dotNew, ByteArray.mk #[], x)).safe.length n2) (u3 := .slice q3 (actD d (1, n ++ dotNew, ByteArray.mk #[], x)).ops.length n3) HKN.out)
        clear hz
        go_upto_region 10 with (fail)
        generalize (((V1.setCell ⟨kN, 0, none⟩ (.slice q1 (actD d (1, n ++ dotNew, ByteArray.mk #[], x)).live.length n1)).setCell ⟨kN, 1, none⟩ (.slice q2 (actD d (1, n ++ dotNew, ByteArray.mk #[], x)).safe.length n2)).setCell ⟨kN, 2, none⟩ (.slice q3 (actD d (1, n ++ dotNew, ByteArray.mk #[], x)).ops.length n3)) = wx at HX ⊢
        clear b0 b1 b2 bf0 bf1 bf2
        have HVV : Hid (repD d n x = d) := by show _ = _; rw [HV.out]; exact allD_bad (by rw [HC.out]; exact HNZ.out)
        have HRR : Hid (repR d n x = C1) := HR.out.trans HC.out
        obtain ⟨⟨b0, b1, b2⟩, _⟩ := dk_cells HX.out.1
        go_wp2_with fail
        refine (CP.out _ HX.out.2.2).mono ?_
        rintro e wz ⟨u1, u2, u3, rfl, hD, hbz⟩
        obtain ⟨q1, n1, rfl, _⟩ := hD.live.open
        obtain ⟨q2, n2, rfl, _⟩ := hD.safe.open
        obtain ⟨q3, n3, rfl, _⟩ := hD.ops.open
        have yR := (hbz.block (w.heap.size + 1) (Array.getElem?_eq_some_iff.1 HX.out.2.1).1).trans HX.out.2.1
        have hBz := HX.out.2.2.trans (hbz.mono HX.out.2.2.size)
        have HD := Lib.hid (hD.mono HX.out.2.2.size)
        have HY := Lib.hid yR
        have HBZ := Lib.hid hBz
        clear b0 b1 b2
        obtain ⟨⟨r0, r1, r2⟩, rf⟩ := dk_cells yR
        have rf0 := rf 0
        have rf1 := rf 1
        have rf2 := rf 2
        clear hD hbz hBz yR rf
        go_wp2
        refine bodyPost_ret (v := .tuple #[.agg #[.slice q1 d.live.length n1, .slice q2 d.safe.length n2, .slice q3 d.ops.length n3], .int .i64 C1]) (results_row_u Try.results28 _ _ (w.heap.size + 1) 27 _ (0, 0) _ rfl (set3 HY.out _ _ _) Try.underlying27 rfl (by kernel_rfl)) rfl ⟨_, _, _, by rw [HRR.out], by rw [HVV.out]; exact ⟨RowL.kept HD.out.live (grw_set3 _ _ _ _ _) (rowK HD.out.live HY.out (by decide)), RowL.kept HD.out.safe (grw_set3 _ _ _ _ _) (rowK HD.out.safe HY.out (by decide)), RowL.kept HD.out.ops (grw_set3 _ _ _ _ _) (rowK HD.out.ops HY.out (by decide))⟩, below_grw HBZ.out (grw_set3 _ _ _ _ _) HBZ.out.size (fun q hq => by cases hq; omega)⟩
      case pos =>
        subst hz
        have HJ := Lib.hid (HJ.out.next HKN.out HCC.out HU.out)
        go_upto_region 10 with (fail)
        clear b0 b1 b2 bf0 bf1 bf2 HU HCC
        generalize (((V1.setCell ⟨kN, 0, none⟩ (.slice q1 (actD d (1, n ++ dotNew, ByteArray.mk #[], x)).live.length n1)).setCell ⟨kN, 1, none⟩ (.slice q2 (actD d (1, n ++ dotNew, ByteArray.mk #[], x)).safe.length n2)).setCell ⟨kN, 2, none⟩ (.slice q3 (actD d (1, n ++ dotNew, ByteArray.mk #[], x)).ops.length n3)) = wx1 at HJ ⊢
        generalize actD d (1, n ++ dotNew, ByteArray.mk #[], x) = E1 at HJ ⊢
        have CA := Lib.hid (act_s _ _ _ E1 2 (n ++ dotNew) n (ByteArray.mk #[]) _ HJ.out.at_ HJ.out.ok.1 HJ.out.ok.2.1 HJ.out.ok.2.2 (by decide) HNX.out.1 (Nat.le_trans HNX.out.2.1 (by decide)) (by decide))
        obtain ⟨C2, hC2⟩ : ∃ c, doC E1.live E1.ops (2, n ++ dotNew, n, ByteArray.mk #[]) = c := ⟨_, rfl⟩
        rw [hC2] at CA
        have HCC := Lib.hid hC2
        obtain ⟨⟨b0, b1, b2⟩, _⟩ := dk_cells HJ.out.xN
        clear hC2
        go_wp2_with fail
        refine CA.out.mono ?_
        rintro e V2 ⟨u1, u2, u3, rfl, hu, hb⟩
        have HJ := Lib.hid (HJ.out.below hb)
        have HU := Lib.hid hu
        obtain ⟨q1, n1, rfl, _⟩ := hu.live.open
        obtain ⟨q2, n2, rfl, _⟩ := hu.safe.open
        obtain ⟨q3, n3, rfl, _⟩ := hu.ops.open
        clear b0 b1 b2 hb hu CA
        obtain ⟨⟨b0, b1, b2⟩, bf⟩ := dk_cells HJ.out.xN
        have bf0 := bf 0
        have bf1 := bf 1
        have bf2 := bf 2
        clear bf
        by_cases hz : C2 = 0
        case neg =>
          have HNZ := Lib.hid hz
          have hz' : (C2 == 0) = false := by simpa using hz
          have hz2 : (C2 != 0) = true := by simpa using hz
          have HC := Lib.hid <| HJ.out.all.1.trans ((all_stop (by rw [HCC.out]; exact hz)).trans HCC.out)
          have HX := Lib.hid (HJ.out.stop (u1 := .slice q1 (actD E1 (2, n ++ dotNew, n, ByteArray.mk #[])).live.length n1) (u2 := .slice q2 (actD E1 (2, n ++ dotNew, n, ByteArray.mk #[])).safe.length n2) (u3 := .slice q3 (actD E1 (2, n ++ dotNew, n, ByteArray.mk #[])).ops.length n3) HKN.out)
          clear hz
          go_upto_region 12 with (fail)
          generalize (((V2.setCell ⟨kN, 0, none⟩ (.slice q1 (actD E1 (2, n ++ dotNew, n, ByteArray.mk #[])).live.length n1)).setCell ⟨kN, 1, none⟩ (.slice q2 (actD E1 (2, n ++ dotNew, n, ByteArray.mk #[])).safe.length n2)).setCell ⟨kN, 2, none⟩ (.slice q3 (actD E1 (2, n ++ dotNew, n, ByteArray.mk #[])).ops.length n3)) = wx at HX ⊢
          clear b0 b1 b2 bf0 bf1 bf2
          have HVV : Hid (repD d n x = d) := by show _ = _; rw [HV.out]; exact allD_bad (by rw [HC.out]; exact HNZ.out)
          have HRR : Hid (repR d n x = C2) := HR.out.trans HC.out
          obtain ⟨⟨b0, b1, b2⟩, _⟩ := dk_cells HX.out.1
          go_wp2_with fail
          refine (CP.out _ HX.out.2.2).mono ?_
          rintro e wz ⟨u1, u2, u3, rfl, hD, hbz⟩
          obtain ⟨q1, n1, rfl, _⟩ := hD.live.open
          obtain ⟨q2, n2, rfl, _⟩ := hD.safe.open
          obtain ⟨q3, n3, rfl, _⟩ := hD.ops.open
          have yR := (hbz.block (w.heap.size + 1) (Array.getElem?_eq_some_iff.1 HX.out.2.1).1).trans HX.out.2.1
          have hBz := HX.out.2.2.trans (hbz.mono HX.out.2.2.size)
          have HD := Lib.hid (hD.mono HX.out.2.2.size)
          have HY := Lib.hid yR
          have HBZ := Lib.hid hBz
          clear b0 b1 b2
          obtain ⟨⟨r0, r1, r2⟩, rf⟩ := dk_cells yR
          have rf0 := rf 0
          have rf1 := rf 1
          have rf2 := rf 2
          clear hD hbz hBz yR rf
          go_wp2
          refine bodyPost_ret (v := .tuple #[.agg #[.slice q1 d.live.length n1, .slice q2 d.safe.length n2, .slice q3 d.ops.length n3], .int .i64 C2]) (results_row_u Try.results28 _ _ (w.heap.size + 1) 27 _ (0, 0) _ rfl (set3 HY.out _ _ _) Try.underlying27 rfl (by kernel_rfl)) rfl ⟨_, _, _, by rw [HRR.out], by rw [HVV.out]; exact ⟨RowL.kept HD.out.live (grw_set3 _ _ _ _ _) (rowK HD.out.live HY.out (by decide)), RowL.kept HD.out.safe (grw_set3 _ _ _ _ _) (rowK HD.out.safe HY.out (by decide)), RowL.kept HD.out.ops (grw_set3 _ _ _ _ _) (rowK HD.out.ops HY.out (by decide))⟩, below_grw HBZ.out (grw_set3 _ _ _ _ _) HBZ.out.size (fun q hq => by cases hq; omega)⟩
        case pos =>
          subst hz
          have HJ := Lib.hid (HJ.out.next HKN.out HCC.out HU.out)
          go_upto_region 12 with (fail)
          clear b0 b1 b2 bf0 bf1 bf2 HU HCC
          generalize (((V2.setCell ⟨kN, 0, none⟩ (.slice q1 (actD E1 (2, n ++ dotNew, n, ByteArray.mk #[])).live.length n1)).setCell ⟨kN, 1, none⟩ (.slice q2 (actD E1 (2, n ++ dotNew, n, ByteArray.mk #[])).safe.length n2)).setCell ⟨kN, 2, none⟩ (.slice q3 (actD E1 (2, n ++ dotNew, n, ByteArray.mk #[])).ops.length n3)) = wx2 at HJ ⊢
          generalize actD E1 (2, n ++ dotNew, n, ByteArray.mk #[]) = E2 at HJ ⊢
          have HVV : Hid (repD d n x = E2) := by show _ = _; rw [HV.out, HJ.out.all.2 rfl]; exact allD_nil _
          have HRR : Hid (repR d n x = 0) := HR.out.trans HJ.out.all.1
          have HSZ := Lib.hid HJ.out.bel.size
          have CE := Lib.hid (copy_s _ _ _ E2 _ HJ.out.at_ HJ.out.ok.2.2)
          obtain ⟨⟨b0, b1, b2⟩, _⟩ := dk_cells HJ.out.xN
          go_wp2_with fail
          refine CE.out.mono ?_
          rintro e wz ⟨u1, u2, u3, rfl, hD, hbz⟩
          obtain ⟨q1, n1, rfl, _⟩ := hD.live.open
          obtain ⟨q2, n2, rfl, _⟩ := hD.safe.open
          obtain ⟨q3, n3, rfl, _⟩ := hD.ops.open
          have HJ := Lib.hid (HJ.out.below hbz)
          have HD := Lib.hid (hD.mono HSZ.out)
          clear b0 b1 b2
          obtain ⟨⟨r0, r1, r2⟩, rf⟩ := dk_cells HJ.out.xR
          have rf0 := rf 0
          have rf1 := rf 1
          have rf2 := rf 2
          clear hD hbz rf
          go_wp2
          refine bodyPost_ret (v := .tuple #[.agg #[.slice q1 E2.live.length n1, .slice q2 E2.safe.length n2, .slice q3 E2.ops.length n3], .int .i64 0]) (results_row_u Try.results28 _ _ (w.heap.size + 1) 27 _ (0, 0) _ rfl (set3 HJ.out.xR _ _ _) Try.underlying27 rfl (by kernel_rfl)) rfl ⟨_, _, _, by rw [HRR.out], by rw [HVV.out]; exact ⟨RowL.kept HD.out.live (grw_set3 _ _ _ _ _) (rowK HD.out.live HJ.out.xR (by decide)), RowL.kept HD.out.safe (grw_set3 _ _ _ _ _) (rowK HD.out.safe HJ.out.xR (by decide)), RowL.kept HD.out.ops (grw_set3 _ _ _ _ _) (rowK HD.out.ops HJ.out.xR (by decide))⟩, below_grw HJ.out.bel (grw_set3 _ _ _ _ _) HJ.out.bel.size (fun q hq => by cases hq; omega)⟩
    | some ji =>
      have HI := Lib.hid (idxV_some hi)
      have hro : RO = [(3, n ++ dotNew, ByteArray.mk #[], ByteArray.mk #[]), (1, n ++ dotNew, ByteArray.mk #[], x), (2, n ++ dotNew, n, ByteArray.mk #[])] := by rw [HRO.out, hi]; rfl
      subst hro
      rw [HI.out]
      have hji : (0 : Int) ≤ (ji : Int) := by omega
      clear hi HI HRO
      go_upto_region 7 with (fail)
      have CA := Lib.hid (act_s _ _ _ d 3 (n ++ dotNew) (ByteArray.mk #[]) (ByteArray.mk #[]) _ HJ.out.at_ HJ.out.ok.1 HJ.out.ok.2.1 HJ.out.ok.2.2 (by decide) HNX.out.1 (by decide) (by decide))
      obtain ⟨C1, hC1⟩ : ∃ c, doC d.live d.ops (3, n ++ dotNew, ByteArray.mk #[], ByteArray.mk #[]) = c := ⟨_, rfl⟩
      rw [hC1] at CA
      have HCC := Lib.hid hC1
      obtain ⟨⟨b0, b1, b2⟩, _⟩ := dk_cells HJ.out.xN
      clear hC1
      go_wp2_with fail
      refine CA.out.mono ?_
      rintro e V1 ⟨u1, u2, u3, rfl, hu, hb⟩
      have HJ := Lib.hid (HJ.out.below hb)
      have HU := Lib.hid hu
      obtain ⟨q1, n1, rfl, _⟩ := hu.live.open
      obtain ⟨q2, n2, rfl, _⟩ := hu.safe.open
      obtain ⟨q3, n3, rfl, _⟩ := hu.ops.open
      clear b0 b1 b2 hb hu CA
      obtain ⟨⟨b0, b1, b2⟩, bf⟩ := dk_cells HJ.out.xN
      have bf0 := bf 0
      have bf1 := bf 1
      have bf2 := bf 2
      clear bf
      by_cases hz : C1 = 0
      case neg =>
        have HNZ := Lib.hid hz
        have hz' : (C1 == 0) = false := by simpa using hz
        have hz2 : (C1 != 0) = true := by simpa using hz
        have HC := Lib.hid <| HJ.out.all.1.trans ((all_stop (by rw [HCC.out]; exact hz)).trans HCC.out)
        have HX := Lib.hid (HJ.out.stop (u1 := .slice q1 (actD d (3, n ++ dotNew, ByteArray.mk #[], ByteArray.mk #[])).live.length n1) (u2 := .slice q2 (actD d (3, n ++ dotNew, ByteArray.mk #[], ByteArray.mk #[])).safe.length n2) (u3 := .slice q3 (actD d (3, n ++ dotNew, ByteArray.mk #[], ByteArray.mk #[])).ops.length n3) HKN.out)
        clear hz
        go_upto_region 8 with (fail)
        generalize (((V1.setCell ⟨kN, 0, none⟩ (.slice q1 (actD d (3, n ++ dotNew, ByteArray.mk #[], ByteArray.mk #[])).live.length n1)).setCell ⟨kN, 1, none⟩ (.slice q2 (actD d (3, n ++ dotNew, ByteArray.mk #[], ByteArray.mk #[])).safe.length n2)).setCell ⟨kN, 2, none⟩ (.slice q3 (actD d (3, n ++ dotNew, ByteArray.mk #[], ByteArray.mk #[])).ops.length n3)) = wx at HX ⊢
        clear b0 b1 b2 bf0 bf1 bf2
        have HVV : Hid (repD d n x = d) := by show _ = _; rw [HV.out]; exact allD_bad (by rw [HC.out]; exact HNZ.out)
        have HRR : Hid (repR d n x = C1) := HR.out.trans HC.out
        obtain ⟨⟨b0, b1, b2⟩, _⟩ := dk_cells HX.out.1
        go_wp2_with fail
        refine (CP.out _ HX.out.2.2).mono ?_
        rintro e wz ⟨u1, u2, u3, rfl, hD, hbz⟩
        obtain ⟨q1, n1, rfl, _⟩ := hD.live.open
        obtain ⟨q2, n2, rfl, _⟩ := hD.safe.open
        obtain ⟨q3, n3, rfl, _⟩ := hD.ops.open
        have yR := (hbz.block (w.heap.size + 1) (Array.getElem?_eq_some_iff.1 HX.out.2.1).1).trans HX.out.2.1
        have hBz := HX.out.2.2.trans (hbz.mono HX.out.2.2.size)
        have HD := Lib.hid (hD.mono HX.out.2.2.size)
        have HY := Lib.hid yR
        have HBZ := Lib.hid hBz
        clear b0 b1 b2
        obtain ⟨⟨r0, r1, r2⟩, rf⟩ := dk_cells yR
        have rf0 := rf 0
        have rf1 := rf 1
        have rf2 := rf 2
        clear hD hbz hBz yR rf
        go_wp2
        refine bodyPost_ret (v := .tuple #[.agg #[.slice q1 d.live.length n1, .slice q2 d.safe.length n2, .slice q3 d.ops.length n3], .int .i64 C1]) (results_row_u Try.results28 _ _ (w.heap.size + 1) 27 _ (0, 0) _ rfl (set3 HY.out _ _ _) Try.underlying27 rfl (by kernel_rfl)) rfl ⟨_, _, _, by rw [HRR.out], by rw [HVV.out]; exact ⟨RowL.kept HD.out.live (grw_set3 _ _ _ _ _) (rowK HD.out.live HY.out (by decide)), RowL.kept HD.out.safe (grw_set3 _ _ _ _ _) (rowK HD.out.safe HY.out (by decide)), RowL.kept HD.out.ops (grw_set3 _ _ _ _ _) (rowK HD.out.ops HY.out (by decide))⟩, below_grw HBZ.out (grw_set3 _ _ _ _ _) HBZ.out.size (fun q hq => by cases hq; omega)⟩
      case pos =>
        subst hz
        have HJ := Lib.hid (HJ.out.next HKN.out HCC.out HU.out)
        go_upto_region 8 with (fail)
        clear b0 b1 b2 bf0 bf1 bf2 HU HCC
        generalize (((V1.setCell ⟨kN, 0, none⟩ (.slice q1 (actD d (3, n ++ dotNew, ByteArray.mk #[], ByteArray.mk #[])).live.length n1)).setCell ⟨kN, 1, none⟩ (.slice q2 (actD d (3, n ++ dotNew, ByteArray.mk #[], ByteArray.mk #[])).safe.length n2)).setCell ⟨kN, 2, none⟩ (.slice q3 (actD d (3, n ++ dotNew, ByteArray.mk #[], ByteArray.mk #[])).ops.length n3)) = wx1 at HJ ⊢
        generalize actD d (3, n ++ dotNew, ByteArray.mk #[], ByteArray.mk #[]) = E1 at HJ ⊢
        go_upto_region 9 with (fail)
        have CA := Lib.hid (act_s _ _ _ E1 1 (n ++ dotNew) (ByteArray.mk #[]) x _ HJ.out.at_ HJ.out.ok.1 HJ.out.ok.2.1 HJ.out.ok.2.2 (by decide) HNX.out.1 (by decide) HNX.out.2.2)
        obtain ⟨C2, hC2⟩ : ∃ c, doC E1.live E1.ops (1, n ++ dotNew, ByteArray.mk #[], x) = c := ⟨_, rfl⟩
        rw [hC2] at CA
        have HCC := Lib.hid hC2
        obtain ⟨⟨b0, b1, b2⟩, _⟩ := dk_cells HJ.out.xN
        clear hC2
        go_wp2_with fail
        refine CA.out.mono ?_
        rintro e V2 ⟨u1, u2, u3, rfl, hu, hb⟩
        have HJ := Lib.hid (HJ.out.below hb)
        have HU := Lib.hid hu
        obtain ⟨q1, n1, rfl, _⟩ := hu.live.open
        obtain ⟨q2, n2, rfl, _⟩ := hu.safe.open
        obtain ⟨q3, n3, rfl, _⟩ := hu.ops.open
        clear b0 b1 b2 hb hu CA
        obtain ⟨⟨b0, b1, b2⟩, bf⟩ := dk_cells HJ.out.xN
        have bf0 := bf 0
        have bf1 := bf 1
        have bf2 := bf 2
        clear bf
        by_cases hz : C2 = 0
        case neg =>
          have HNZ := Lib.hid hz
          have hz' : (C2 == 0) = false := by simpa using hz
          have hz2 : (C2 != 0) = true := by simpa using hz
          have HC := Lib.hid <| HJ.out.all.1.trans ((all_stop (by rw [HCC.out]; exact hz)).trans HCC.out)
          have HX := Lib.hid (HJ.out.stop (u1 := .slice q1 (actD E1 (1, n ++ dotNew, ByteArray.mk #[], x)).live.length n1) (u2 := .slice q2 (actD E1 (1, n ++ dotNew, ByteArray.mk #[], x)).safe.length n2) (u3 := .slice q3 (actD E1 (1, n ++ dotNew, ByteArray.mk #[], x)).ops.length n3) HKN.out)
          clear hz
          go_upto_region 10 with (fail)
          generalize (((V2.setCell ⟨kN, 0, none⟩ (.slice q1 (actD E1 (1, n ++ dotNew, ByteArray.mk #[], x)).live.length n1)).setCell ⟨kN, 1, none⟩ (.slice q2 (actD E1 (1, n ++ dotNew, ByteArray.mk #[], x)).safe.length n2)).setCell ⟨kN, 2, none⟩ (.slice q3 (actD E1 (1, n ++ dotNew, ByteArray.mk #[], x)).ops.length n3)) = wx at HX ⊢
          clear b0 b1 b2 bf0 bf1 bf2
          have HVV : Hid (repD d n x = d) := by show _ = _; rw [HV.out]; exact allD_bad (by rw [HC.out]; exact HNZ.out)
          have HRR : Hid (repR d n x = C2) := HR.out.trans HC.out
          obtain ⟨⟨b0, b1, b2⟩, _⟩ := dk_cells HX.out.1
          go_wp2_with fail
          refine (CP.out _ HX.out.2.2).mono ?_
          rintro e wz ⟨u1, u2, u3, rfl, hD, hbz⟩
          obtain ⟨q1, n1, rfl, _⟩ := hD.live.open
          obtain ⟨q2, n2, rfl, _⟩ := hD.safe.open
          obtain ⟨q3, n3, rfl, _⟩ := hD.ops.open
          have yR := (hbz.block (w.heap.size + 1) (Array.getElem?_eq_some_iff.1 HX.out.2.1).1).trans HX.out.2.1
          have hBz := HX.out.2.2.trans (hbz.mono HX.out.2.2.size)
          have HD := Lib.hid (hD.mono HX.out.2.2.size)
          have HY := Lib.hid yR
          have HBZ := Lib.hid hBz
          clear b0 b1 b2
          obtain ⟨⟨r0, r1, r2⟩, rf⟩ := dk_cells yR
          have rf0 := rf 0
          have rf1 := rf 1
          have rf2 := rf 2
          clear hD hbz hBz yR rf
          go_wp2
          refine bodyPost_ret (v := .tuple #[.agg #[.slice q1 d.live.length n1, .slice q2 d.safe.length n2, .slice q3 d.ops.length n3], .int .i64 C2]) (results_row_u Try.results28 _ _ (w.heap.size + 1) 27 _ (0, 0) _ rfl (set3 HY.out _ _ _) Try.underlying27 rfl (by kernel_rfl)) rfl ⟨_, _, _, by rw [HRR.out], by rw [HVV.out]; exact ⟨RowL.kept HD.out.live (grw_set3 _ _ _ _ _) (rowK HD.out.live HY.out (by decide)), RowL.kept HD.out.safe (grw_set3 _ _ _ _ _) (rowK HD.out.safe HY.out (by decide)), RowL.kept HD.out.ops (grw_set3 _ _ _ _ _) (rowK HD.out.ops HY.out (by decide))⟩, below_grw HBZ.out (grw_set3 _ _ _ _ _) HBZ.out.size (fun q hq => by cases hq; omega)⟩
        case pos =>
          subst hz
          have HJ := Lib.hid (HJ.out.next HKN.out HCC.out HU.out)
          go_upto_region 10 with (fail)
          clear b0 b1 b2 bf0 bf1 bf2 HU HCC
          generalize (((V2.setCell ⟨kN, 0, none⟩ (.slice q1 (actD E1 (1, n ++ dotNew, ByteArray.mk #[], x)).live.length n1)).setCell ⟨kN, 1, none⟩ (.slice q2 (actD E1 (1, n ++ dotNew, ByteArray.mk #[], x)).safe.length n2)).setCell ⟨kN, 2, none⟩ (.slice q3 (actD E1 (1, n ++ dotNew, ByteArray.mk #[], x)).ops.length n3)) = wx2 at HJ ⊢
          generalize actD E1 (1, n ++ dotNew, ByteArray.mk #[], x) = E2 at HJ ⊢
          have CA := Lib.hid (act_s _ _ _ E2 2 (n ++ dotNew) n (ByteArray.mk #[]) _ HJ.out.at_ HJ.out.ok.1 HJ.out.ok.2.1 HJ.out.ok.2.2 (by decide) HNX.out.1 (Nat.le_trans HNX.out.2.1 (by decide)) (by decide))
          obtain ⟨C3, hC3⟩ : ∃ c, doC E2.live E2.ops (2, n ++ dotNew, n, ByteArray.mk #[]) = c := ⟨_, rfl⟩
          rw [hC3] at CA
          have HCC := Lib.hid hC3
          obtain ⟨⟨b0, b1, b2⟩, _⟩ := dk_cells HJ.out.xN
          clear hC3
          go_wp2_with fail
          refine CA.out.mono ?_
          rintro e V3 ⟨u1, u2, u3, rfl, hu, hb⟩
          have HJ := Lib.hid (HJ.out.below hb)
          have HU := Lib.hid hu
          obtain ⟨q1, n1, rfl, _⟩ := hu.live.open
          obtain ⟨q2, n2, rfl, _⟩ := hu.safe.open
          obtain ⟨q3, n3, rfl, _⟩ := hu.ops.open
          clear b0 b1 b2 hb hu CA
          obtain ⟨⟨b0, b1, b2⟩, bf⟩ := dk_cells HJ.out.xN
          have bf0 := bf 0
          have bf1 := bf 1
          have bf2 := bf 2
          clear bf
          by_cases hz : C3 = 0
          case neg =>
            have HNZ := Lib.hid hz
            have hz' : (C3 == 0) = false := by simpa using hz
            have hz2 : (C3 != 0) = true := by simpa using hz
            have HC := Lib.hid <| HJ.out.all.1.trans ((all_stop (by rw [HCC.out]; exact hz)).trans HCC.out)
            have HX := Lib.hid (HJ.out.stop (u1 := .slice q1 (actD E2 (2, n ++ dotNew, n, ByteArray.mk #[])).live.length n1) (u2 := .slice q2 (actD E2 (2, n ++ dotNew, n, ByteArray.mk #[])).safe.length n2) (u3 := .slice q3 (actD E2 (2, n ++ dotNew, n, ByteArray.mk #[])).ops.length n3) HKN.out)
            clear hz
            go_upto_region 12 with (fail)
            generalize (((V3.setCell ⟨kN, 0, none⟩ (.slice q1 (actD E2 (2, n ++ dotNew, n, ByteArray.mk #[])).live.length n1)).setCell ⟨kN, 1, none⟩ (.slice q2 (actD E2 (2, n ++ dotNew, n, ByteArray.mk #[])).safe.length n2)).setCell ⟨kN, 2, none⟩ (.slice q3 (actD E2 (2, n ++ dotNew, n, ByteArray.mk #[])).ops.length n3)) = wx at HX ⊢
            clear b0 b1 b2 bf0 bf1 bf2
            have HVV : Hid (repD d n x = d) := by show _ = _; rw [HV.out]; exact allD_bad (by rw [HC.out]; exact HNZ.out)
            have HRR : Hid (repR d n x = C3) := HR.out.trans HC.out
            obtain ⟨⟨b0, b1, b2⟩, _⟩ := dk_cells HX.out.1
            go_wp2_with fail
            refine (CP.out _ HX.out.2.2).mono ?_
            rintro e wz ⟨u1, u2, u3, rfl, hD, hbz⟩
            obtain ⟨q1, n1, rfl, _⟩ := hD.live.open
            obtain ⟨q2, n2, rfl, _⟩ := hD.safe.open
            obtain ⟨q3, n3, rfl, _⟩ := hD.ops.open
            have yR := (hbz.block (w.heap.size + 1) (Array.getElem?_eq_some_iff.1 HX.out.2.1).1).trans HX.out.2.1
            have hBz := HX.out.2.2.trans (hbz.mono HX.out.2.2.size)
            have HD := Lib.hid (hD.mono HX.out.2.2.size)
            have HY := Lib.hid yR
            have HBZ := Lib.hid hBz
            clear b0 b1 b2
            obtain ⟨⟨r0, r1, r2⟩, rf⟩ := dk_cells yR
            have rf0 := rf 0
            have rf1 := rf 1
            have rf2 := rf 2
            clear hD hbz hBz yR rf
            go_wp2
            refine bodyPost_ret (v := .tuple #[.agg #[.slice q1 d.live.length n1, .slice q2 d.safe.length n2, .slice q3 d.ops.length n3], .int .i64 C3]) (results_row_u Try.results28 _ _ (w.heap.size + 1) 27 _ (0, 0) _ rfl (set3 HY.out _ _ _) Try.underlying27 rfl (by kernel_rfl)) rfl ⟨_, _, _, by rw [HRR.out], by rw [HVV.out]; exact ⟨RowL.kept HD.out.live (grw_set3 _ _ _ _ _) (rowK HD.out.live HY.out (by decide)), RowL.kept HD.out.safe (grw_set3 _ _ _ _ _) (rowK HD.out.safe HY.out (by decide)), RowL.kept HD.out.ops (grw_set3 _ _ _ _ _) (rowK HD.out.ops HY.out (by decide))⟩, below_grw HBZ.out (grw_set3 _ _ _ _ _) HBZ.out.size (fun q hq => by cases hq; omega)⟩
          case pos =>
            subst hz
            have HJ := Lib.hid (HJ.out.next HKN.out HCC.out HU.out)
            go_upto_region 12 with (fail)
            clear b0 b1 b2 bf0 bf1 bf2 HU HCC
            generalize (((V3.setCell ⟨kN, 0, none⟩ (.slice q1 (actD E2 (2, n ++ dotNew, n, ByteArray.mk #[])).live.length n1)).setCell ⟨kN, 1, none⟩ (.slice q2 (actD E2 (2, n ++ dotNew, n, ByteArray.mk #[])).safe.length n2)).setCell ⟨kN, 2, none⟩ (.slice q3 (actD E2 (2, n ++ dotNew, n, ByteArray.mk #[])).ops.length n3)) = wx3 at HJ ⊢
            generalize actD E2 (2, n ++ dotNew, n, ByteArray.mk #[]) = E3 at HJ ⊢
            have HVV : Hid (repD d n x = E3) := by show _ = _; rw [HV.out, HJ.out.all.2 rfl]; exact allD_nil _
            have HRR : Hid (repR d n x = 0) := HR.out.trans HJ.out.all.1
            have HSZ := Lib.hid HJ.out.bel.size
            have CE := Lib.hid (copy_s _ _ _ E3 _ HJ.out.at_ HJ.out.ok.2.2)
            obtain ⟨⟨b0, b1, b2⟩, _⟩ := dk_cells HJ.out.xN
            go_wp2_with fail
            refine CE.out.mono ?_
            rintro e wz ⟨u1, u2, u3, rfl, hD, hbz⟩
            obtain ⟨q1, n1, rfl, _⟩ := hD.live.open
            obtain ⟨q2, n2, rfl, _⟩ := hD.safe.open
            obtain ⟨q3, n3, rfl, _⟩ := hD.ops.open
            have HJ := Lib.hid (HJ.out.below hbz)
            have HD := Lib.hid (hD.mono HSZ.out)
            clear b0 b1 b2
            obtain ⟨⟨r0, r1, r2⟩, rf⟩ := dk_cells HJ.out.xR
            have rf0 := rf 0
            have rf1 := rf 1
            have rf2 := rf 2
            clear hD hbz rf
            go_wp2
            refine bodyPost_ret (v := .tuple #[.agg #[.slice q1 E3.live.length n1, .slice q2 E3.safe.length n2, .slice q3 E3.ops.length n3], .int .i64 0]) (results_row_u Try.results28 _ _ (w.heap.size + 1) 27 _ (0, 0) _ rfl (set3 HJ.out.xR _ _ _) Try.underlying27 rfl (by kernel_rfl)) rfl ⟨_, _, _, by rw [HRR.out], by rw [HVV.out]; exact ⟨RowL.kept HD.out.live (grw_set3 _ _ _ _ _) (rowK HD.out.live HJ.out.xR (by decide)), RowL.kept HD.out.safe (grw_set3 _ _ _ _ _) (rowK HD.out.safe HJ.out.xR (by decide)), RowL.kept HD.out.ops (grw_set3 _ _ _ _ _) (rowK HD.out.ops HJ.out.xR (by decide))⟩, below_grw HJ.out.bel (grw_set3 _ _ _ _ _) HJ.out.bel.size (fun q hq => by cases hq; omega)⟩

end Go.Proofs.Ytepefbfmjjnamaa

/- Disks beside one another: what stands when one is marked. -/
namespace Go.Proofs.Ytepefbfmjjnamaa
open Go.RowKit Go.My Go.Lib
set_option linter.unusedVariables false

structure Ap3 (s1 s2 s3 g1 g2 g3 : Value) : Prop where
  a11 : ApartV s1 g1
  a12 : ApartV s1 g2
  a13 : ApartV s1 g3
  a21 : ApartV s2 g1
  a22 : ApartV s2 g2
  a23 : ApartV s2 g3
  a31 : ApartV s3 g1
  a32 : ApartV s3 g2
  a33 : ApartV s3 g3
theorem Ap3.symm {s1 s2 s3 g1 g2 g3 : Value} (h : Ap3 s1 s2 s3 g1 g2 g3) : Ap3 g1 g2 g3 s1 s2 s3 :=
  ⟨h.a11.symm, h.a21.symm, h.a31.symm, h.a12.symm, h.a22.symm, h.a32.symm, h.a13.symm, h.a23.symm, h.a33.symm⟩
theorem ap3 {B C : Nat} {s1 s2 s3 g1 g2 g3 : Value} {d d' : DiskT} {w w' : World} (hS : DiskAt B s1 s2 s3 d w) (hG : DiskAt C g1 g2 g3 d' w') (hC : w.heap.size ≤ C) : Ap3 s1 s2 s3 g1 g2 g3 :=
  ⟨row_apart hS.live hG.live hC, row_apart hS.live hG.safe hC, row_apart hS.live hG.ops hC, row_apart hS.safe hG.live hC, row_apart hS.safe hG.safe hC, row_apart hS.safe hG.ops hC, row_apart hS.ops hG.live hC, row_apart hS.ops hG.safe hC, row_apart hS.ops hG.ops hC⟩
theorem grow3_disk {x1 x2 x3 s1 s2 s3 : Value} {w w' : World} {B : Nat} {d : DiskT} (hg : Grow3 x1 x2 x3 w w') (h : DiskAt B s1 s2 s3 d w) (a : Ap3 s1 s2 s3 x1 x2 x3) : DiskAt B s1 s2 s3 d w' :=
  ⟨hg.row h.live a.a11 a.a12 a.a13, hg.row h.safe a.a21 a.a22 a.a23, hg.row h.ops a.a31 a.a32 a.a33⟩
theorem grow3_blk {x1 x2 x3 : Value} {w w' : World} {B k : Nat} {d : DiskT} {cs : Array Value} {T : TypeId} (hg : Grow3 x1 x2 x3 w w') (h : DiskAt B x1 x2 x3 d w) (hb : w.heap[k]? = some (.cells cs T (0, 0))) (h1 : T ≠ 88) (h2 : T ≠ 36) : w'.heap[k]? = some (.cells cs T (0, 0)) :=
  (hg.block k (Array.getElem?_eq_some_iff.1 hb).1 (row_kind h.live hb h1) (row_kind h.safe hb h1) (row_kind h.ops hb h2)).trans hb
theorem grow3_below {x1 x2 x3 : Value} {w0 w w' : World} {B : Nat} {d : DiskT} (hg : Grow3 x1 x2 x3 w w') (h : DiskAt B x1 x2 x3 d w) (hb : Below B w0 w) (hs : B ≤ w.heap.size) : Below B w0 w' :=
  hg.below hb hs (fun q hq => (World.ownsRow.lt h.live q hq).1) (fun q hq => (World.ownsRow.lt h.safe q hq).1) (fun q hq => (World.ownsRow.lt h.ops q hq).1)

theorem markOne (v1 v2 v3 : Value) (d : DiskT) (K : Nat) (hK : 1 + d.many = K) (ap : ApartV v1 v2) (hl : K ≤ 1099511627776) (w : World) (h : DiskAt 0 v1 v2 v3 d w) :
    Calls Try.prog 40 #[.agg #[v1, v2, v3], .int .i64 1] w fun e w' => e = .returned (.int .i64 (K : Int)) ∧ DiskAt 0 v1 v2 v3 (d.marks 1) w' ∧ Grow3 v1 v2 v3 w w' := by
  subst hK
  exact markDisk_any v1 v2 v3 d 1 w h ap hl
theorem heldOne (v1 v2 v3 : Value) (d : DiskT) (K : Nat) (hK : 1 + d.many = K) (hl : K ≤ 1099511627776) (w : World) (h : DiskAt 0 v1 v2 v3 (d.marks 1) w) :
    Calls Try.prog 41 #[.agg #[v1, v2, v3], .int .i64 1] w fun e w' => e = .returned (.int .i64 (K : Int)) ∧ Below w.heap.size w w' := by
  subst hK
  exact heldDisk_any v1 v2 v3 d 1 w h hl

end Go.Proofs.Ytepefbfmjjnamaa

/- The laws over disks: values of a region that are disks, alone or with an answer; a new variable of a disk. -/
namespace Go.Proofs.Ytepefbfmjjnamaa
open Go.RowKit Go.My Go.Lib Go.ChangeShapes Go.WideShapes
set_option linter.unusedVariables false

theorem many_small {d : DiskT} (h : d.small) : 1 + d.many ≤ 1099511627776 := by
  have h1 := h.live
  have h2 := h.safe
  have h3 := h.ops
  show 1 + (2 * d.live.length + 2 * d.safe.length + 4 * d.ops.length) ≤ _
  omega
def DkV (B : Nat) (d : DiskT) (ap : Bool) (u : Value) (w : World) : Prop := ∃ x y z, u = .agg #[x, y, z] ∧ DiskAt B x y z d w ∧ (ap = true → ApartV x y)
def TuV (B : Nat) (d : DiskT) (ap : Bool) (R u : Value) (w : World) : Prop := ∃ x, u = .tuple #[x, R] ∧ DkV B d ap x w
def NewV (B : Nat) (u : Value) (w : World) : Prop := ∃ g cs, u = .pointer (some ⟨g, 0, none⟩) ∧ B ≤ g ∧ cs.size = 3 ∧ w.heap[g]? = some (.cells cs 27 (0, 0))
def SetV (B : Nat) (d : DiskT) (ap : Bool) (u : Value) (w : World) : Prop := ∃ g x y z, u = .pointer (some ⟨g, 0, none⟩) ∧ B ≤ g ∧ w.heap[g]? = some (.cells #[x, y, z] 27 (0, 0)) ∧ DiskAt B x y z d w ∧ (ap = true → ApartV x y)
theorem DkV.below {B : Nat} {d : DiskT} {ap : Bool} {u : Value} {w w' : World} (h : DkV B d ap u w) (hb : Below w.heap.size w w') : DkV B d ap u w' := by
  obtain ⟨x, y, z, e, hd, ha⟩ := h
  exact ⟨x, y, z, e, hd.below hb, ha⟩
theorem TuV.below {B : Nat} {d : DiskT} {ap : Bool} {R u : Value} {w w' : World} (h : TuV B d ap R u w) (hb : Below w.heap.size w w') : TuV B d ap R u w' := by
  obtain ⟨x, e, hd⟩ := h
  exact ⟨x, e, hd.below hb⟩
theorem NewV.below {B : Nat} {u : Value} {w w' : World} (h : NewV B u w) (hb : Below w.heap.size w w') : NewV B u w' := by
  obtain ⟨g, cs, e, hB, hc, hg⟩ := h
  exact ⟨g, cs, e, hB, hc, (hb.block g (Array.getElem?_eq_some_iff.1 hg).1).trans hg⟩
theorem SetV.below {B : Nat} {d : DiskT} {ap : Bool} {u : Value} {w w' : World} (h : SetV B d ap u w) (hb : Below w.heap.size w w') : SetV B d ap u w' := by
  obtain ⟨g, x, y, z, e, hB, hg, hd, ha⟩ := h
  exact ⟨g, x, y, z, e, hB, (hb.block g (Array.getElem?_eq_some_iff.1 hg).1).trans hg, hd.below hb, ha⟩
theorem disk_row {B g : Nat} {x y z : Value} {d : DiskT} {w : World} {cs ds : Array Value} (h : DiskAt B x y z d w) (hg : w.heap[g]? = some (.cells cs 27 (0, 0))) : DiskAt B x y z d (w.setRow g ds) :=
  ⟨RowL.kept h.live (grw_setRow (grw_refl _ _) _) (rowK h.live hg (by decide)), RowL.kept h.safe (grw_setRow (grw_refl _ _) _) (rowK h.safe hg (by decide)), RowL.kept h.ops (grw_setRow (grw_refl _ _) _) (rowK h.ops hg (by decide))⟩
theorem DkV.row {B g : Nat} {d : DiskT} {ap : Bool} {u : Value} {w : World} {cs ds : Array Value} (h : DkV B d ap u w) (hg : w.heap[g]? = some (.cells cs 27 (0, 0))) : DkV B d ap u (w.setRow g ds) := by
  obtain ⟨x, y, z, e, hd, ha⟩ := h
  exact ⟨x, y, z, e, disk_row hd hg, ha⟩
theorem TuV.row {B g : Nat} {d : DiskT} {ap : Bool} {R u : Value} {w : World} {cs ds : Array Value} (h : TuV B d ap R u w) (hg : w.heap[g]? = some (.cells cs 27 (0, 0))) : TuV B d ap R u (w.setRow g ds) := by
  obtain ⟨x, e, hd⟩ := h
  exact ⟨x, e, hd.row hg⟩
theorem below_row {B g : Nat} {w0 w : World} (h : Below B w0 w) (hg : B ≤ g) (hs : B ≤ w.heap.size) (ds : Array Value) : Below B w0 (w.setRow g ds) :=
  below_grw h (grw_setRow (grw_refl w (some g)) ds) hs (fun q hq => by have := Option.some.inj hq; omega)
/-- The store of a disk into a new variable. -/
theorem wpSetDk {Q : Exit → Act → World → Prop} {o : Oper} {a : Act} {w : World} {K : Act → World → Prop} {p q : Tmp} {B : Nat} {d : DiskT} {ap : Bool} {u x : Value} (hop : o.op = .store 27 (.tmp p) (.tmp q)) (h1 : a.eval (.tmp p) = u) (h2 : a.eval (.tmp q) = x) (hn : NewV B u w) (hd : DkV B d ap x w)
    (hK : ∀ g cs ds, w.heap[g]? = some (.cells cs 27 (0, 0)) → B ≤ g → NewV B u (w.setRow g ds) → SetV B d ap u (w.setRow g ds) → K (a.put o.dst undef) (w.setRow g ds)) : o.wp Try.prog a w K Q := by
  obtain ⟨g, cs, rfl, hB, hc, hg⟩ := hn
  obtain ⟨x1, x2, x3, rfl, hD, ha⟩ := hd
  have hone : (#[x1, x2, x3] : Array Value).all (·.oneCell') = true := by
    obtain ⟨_, _, rfl, _⟩ := hD.live.open
    obtain ⟨_, _, rfl, _⟩ := hD.safe.open
    obtain ⟨_, _, rfl, _⟩ := hD.ops.open
    simp [Value.oneCell']
  refine wpStoreT hop h1 h2 hg (diskSz x1 x2 x3) hc hone (hK g cs #[x1, x2, x3] hg hB ⟨g, _, rfl, hB, rfl, setRow_heap w g cs _ _ (0, 0) hg⟩ ⟨g, x1, x2, x3, rfl, hB, setRow_heap w g cs _ _ (0, 0) hg, disk_row hD hg, ha⟩)
theorem wpExtT {P : Program} {Q : Exit → Act → World → Prop} {o : Oper} {a : Act} {w : World} {K : Act → World → Prop} {k : Tmp} {i : Nat} {x y : Value} (hop : o.op = .extract (.tmp k) i) (he : a.eval (.tmp k) = y) (hr : (Instr.extract y i).run P w = .ok x w) (hK : K (a.put o.dst x) w) : o.wp P a w K Q :=
  wpVal (x := x) (w' := w) (by unfold execOp; simp only [hop]; simp only [he, Sem.run_bind, hr, Result.andThen_ok, Sem.run_pure]) hK
theorem wpAssT {P : Program} {Q : Exit → Act → World → Prop} {o : Oper} {a : Act} {w : World} {K : Act → World → Prop} {k : Tmp} {y : Value} (hop : o.op = .assign (.tmp k)) (he : a.eval (.tmp k) = y) (hK : K (a.put o.dst y) w) : o.wp P a w K Q :=
  wpVal (x := y) (w' := w) (by unfold execOp; simp only [hop]; simp only [he, Sem.run_pure]) hK
theorem ext0 (x R : Value) (w : World) : (Instr.extract (.tuple #[x, R]) 0).run Try.prog w = .ok x w := by simp [Instr.extract, go_sem]
theorem ext1 (x R : Value) (w : World) : (Instr.extract (.tuple #[x, R]) 1).run Try.prog w = .ok R w := by simp [Instr.extract, go_sem]
theorem nDisk (w : World) : (Instr.alloc 27 true (.tuple #[])).run Try.prog w = .ok (.pointer (some ⟨w.heap.size, 0, none⟩)) (w.alloc (.cells #[.slice none 0 0, .slice none 0 0, .slice none 0 0] 27)) := by simp [Instr.alloc, go_sem]
theorem newNew {B : Nat} {w : World} (hB : B ≤ w.heap.size) : NewV B (.pointer (some ⟨w.heap.size, 0, none⟩)) (w.alloc (.cells #[.slice none 0 0, .slice none 0 0, .slice none 0 0] 27)) := ⟨_, _, rfl, hB, rfl, heap_alloc_new w _⟩
theorem ldDkL {g : Nat} {x y z : Value} {w : World} (h : w.heap[g]? = some (.cells #[x, y, z] 56 (0, 0))) : (Instr.loadAt 56 (.pointer (some ⟨g, 0, none⟩))).run Try.prog w = .ok (.agg #[x, y, z]) w := by
  obtain ⟨⟨c0, c1, c2⟩, _⟩ := dk_cells h
  simp [Instr.loadAt, go_sem, c0, c1, c2]
theorem ldDkI {g : Nat} {x y z : Value} {w : World} (h : w.heap[g]? = some (.cells #[x, y, z] 27 (0, 0))) : (Instr.loadAt 27 (.pointer (some ⟨g, 0, none⟩))).run Try.prog w = .ok (.agg #[x, y, z]) w := by
  obtain ⟨⟨c0, c1, c2⟩, _⟩ := dk_cells h
  simp [Instr.loadAt, go_sem, c0, c1, c2]
theorem ldDpL {g : Nat} {x y z u : Value} {w : World} (h : w.heap[g]? = some (.cells #[x, y, z, u] 61 (0, 0))) : (Instr.loadAt 61 (.pointer (some ⟨g, 0, none⟩))).run Try.prog w = .ok (.agg #[x, y, z, u]) w := by
  obtain ⟨⟨c0, c1, c2, c3⟩, _⟩ := dop_cells h
  simp [Instr.loadAt, go_sem, c0, c1, c2, c3]
theorem argsT2 {a : Act} {k l : Tmp} {y z : Value} (h : a.eval (.tmp k) = y) (h2 : a.eval (.tmp l) = z) : #[Operand.tmp k, .tmp l].map a.eval = #[y, z] := by simp only [List.map_toArray, List.map_cons, List.map_nil, h, h2]
theorem argsT3 {a : Act} {k l m : Tmp} {y z u : Value} (h : a.eval (.tmp k) = y) (h2 : a.eval (.tmp l) = z) (h3 : a.eval (.tmp m) = u) : #[Operand.tmp k, .tmp l, .tmp m].map a.eval = #[y, z, u] := by simp only [List.map_toArray, List.map_cons, List.map_nil, h, h2, h3]
theorem cfToDisk (args : Array Value) (w : World) : (callFunc 36 args).run Try.prog w = .ok (.enter 36 args) w := cf_of Try.func36 (by kernel_rfl) (by kernel_rfl) args w
theorem cfToDOp (args : Array Value) (w : World) : (callFunc 39 args).run Try.prog w = .ok (.enter 39 args) w := cf_of Try.func39 (by kernel_rfl) (by kernel_rfl) args w
theorem cfSDo (args : Array Value) (w : World) : (callFunc 24 args).run Try.prog w = .ok (.enter 24 args) w := cf_of Try.func24 (by kernel_rfl) (by kernel_rfl) args w
theorem cfIDo (args : Array Value) (w : World) : (callFunc 23 args).run Try.prog w = .ok (.enter 23 args) w := cf_of Try.func23 (by kernel_rfl) (by kernel_rfl) args w
theorem cfSReplace (args : Array Value) (w : World) : (callFunc 28 args).run Try.prog w = .ok (.enter 28 args) w := cf_of Try.func28 (by kernel_rfl) (by kernel_rfl) args w
theorem cfIReplace (args : Array Value) (w : World) : (callFunc 27 args).run Try.prog w = .ok (.enter 27 args) w := cf_of Try.func27 (by kernel_rfl) (by kernel_rfl) args w
theorem cfSCrash (args : Array Value) (w : World) : (callFunc 43 args).run Try.prog w = .ok (.enter 43 args) w := cf_of Try.func43 (by kernel_rfl) (by kernel_rfl) args w
theorem cfICrash (args : Array Value) (w : World) : (callFunc 19 args).run Try.prog w = .ok (.enter 19 args) w := cf_of Try.func19 (by kernel_rfl) (by kernel_rfl) args w
set_option maxRecDepth 100000 in
/-- An operation that came in as an argument. -/
theorem dop_open {H : Type} {enc : TypeId × Value → H} {w : World} {sp : Nat → Bool} {held : Bool} {r : Reach} {b0 : Nat} {v : Value} {d : DataW H} {ps : List MemPlace} (hv : Value.okWide Try.prog w r b0 61 v) (h : DataW.Trod enc Try.prog w 0 sp held 61 v d ps) :
    ∃ k n t x, v = .agg #[.int .i64 k, .string n, .string t, .string x] ∧ dOpW (k, n, t, x) := by
  obtain ⟨cs, rfl, _⟩ := okWide_struct Try.underlying61 hv
  obtain ⟨fuel, hf0⟩ := h
  obtain ⟨l⟩ := cs
  simp only [Value.cells] at hf0
  obtain ⟨a, rfl, wa⟩ := dOp_open hf0
  exact ⟨a.1, a.2.1, a.2.2.1, a.2.2.2, rfl, wa⟩

end Go.Proofs.Ytepefbfmjjnamaa

/- The laws over disks: further operations of a drawn region. -/
namespace Go.Proofs.Ytepefbfmjjnamaa
open Go.RowKit Go.My Go.Lib Go.ChangeShapes Go.WideShapes
set_option linter.unusedVariables false

theorem wpUnT {P : Program} {Q : Exit → Act → World → Prop} {o : Oper} {a : Act} {w : World} {K : Act → World → Prop} {op : UnOp} {T : TypeId} {k : Tmp} {x y : Value} (hop : o.op = .unOp op T (.tmp k)) (he : a.eval (.tmp k) = y) (hr : (Op.unary op y).run P w = .ok x w) (hK : K (a.put o.dst x) w) : o.wp P a w K Q :=
  wpVal (x := x) (w' := w) (by unfold execOp; simp only [hop]; simp only [he, Sem.run_bind, hr, Result.andThen_ok, Sem.run_pure]) hK
theorem notT {P : Program} (w : World) : (Op.unary .not (.bool true)).run P w = .ok (.bool false) w := by simp [Op.unary, go_sem]
theorem cfEqDisk (args : Array Value) (w : World) : (callFunc 37 args).run Try.prog w = .ok (.enter 37 args) w := cf_of Try.func37 (by kernel_rfl) (by kernel_rfl) args w

end Go.Proofs.Ytepefbfmjjnamaa

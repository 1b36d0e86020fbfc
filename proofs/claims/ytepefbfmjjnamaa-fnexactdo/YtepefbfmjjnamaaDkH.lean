/- The specification: a disk copied. -/
import Derived.Test.YtepefbfmjjnamaaDkG
import Derived.Test.YtepefbfmjjnamaaDkX
import Derived.Test.YtepefbfmjjnamaaRegI
import Derived.Deep.RegionLawGrows
import Derived.Deep.Cut
import Derived.Deep.Upon
namespace Go.Proofs.Ytepefbfmjjnamaa
open Go.RowKit Go.My Go.Lib
set_option linter.unusedVariables false

theorem litF (w : World) : (Instr.buildSlice 24 0 #[]).run Try.prog w = .ok (.slice (some ⟨w.heap.size, 0, none⟩) 0 0) (w.alloc (.cells #[] 88)) := by kernel_rfl
theorem wpAppF {Q : Exit → Act → World → Prop} {o : Oper} {a : Act} {w : World} {K : Act → World → Prop} {p q : Tmp} (hgd : o.guard = none)
    (ho : o.op = .call { callee := .builtin .append, args := #[.tmp p, .tmp q], argTypes := #[24, 24] }) (B g : Nat) (hs : a.eval (.tmp p) = .slice (some ⟨g, 0, none⟩) 0 0) (hg : w.heap[g]? = some (.cells #[] 88 (0, 0))) (hB : B ≤ g) (v : Value) (l : List FileT) (hx : a.eval (.tmp q) = v) (hv : FilesAt 0 v l w) (hl2 : l.length ≤ 1048576)
    (h : ∀ u w', FilesAt B u l w' → Below w.heap.size w w' → K (a.put o.dst u) w') : Oper.wp Try.prog o a w K Q := by
  have hglt : g < w.heap.size := (Array.getElem?_eq_some_iff.1 hg).1
  obtain ⟨i0, hi, hz0, hz1, hz2⟩ := info_parts info_File
  obtain ⟨pv, cap, rfl, _, _, hp⟩ := hv.open
  by_cases hl : l = []
  · subst hl
    have src : Src Try.prog i0.size 24 (.slice pv 0 cap) 0 [] w := by
      refine ⟨.inl ⟨_, Try.underlying24⟩, fun w' => ?_, ?_, ?_, by simp, fun u hu => by cases hu⟩
      · simp [Builtin.lenOf, go_sem]
      · cases pv <;> simp [Builtin.firstCells, go_sem]
      · cases pv <;> simp [Builtin.firstCells, go_sem]
    have hrun := run_append_nothing (P := Try.prog) w 24 24 o.type 88 i0 Try.underlying24 hi (some ⟨g, 0, none⟩) 0 0 (Nat.le_refl _) (.slice pv 0 cap) src
    have hx' : a.eval (.tmp q) = .slice pv 0 cap := hx
    unfold Oper.wp
    simp [execOp, ho, resolve, invoke, builtin, hs, hx', hrun, Result.andThen]
    exact h _ w ⟨rfl, .inr ⟨g, 0, #[], rfl, hB, hg, Nat.le_refl _, Nat.zero_le _, rfl, rfl⟩⟩ (Below.refl _ _)
  · obtain ⟨g2, rfl, _, _⟩ := hp.resolve_left (fun c => hl c.1)
    have h0 : 0 < l.length := List.length_pos_iff.2 hl
    have hone : ∀ u ∈ l.flatMap fileC, u.oneCell' = true := by
      intro u hu
      obtain ⟨b, _, hb⟩ := List.mem_flatMap.1 hu
      simp only [fileC, List.mem_cons, List.not_mem_nil, or_false] at hb
      rcases hb with rfl | rfl <;> rfl
    have hw : Region.wanted o (yielded #[] a.tmps) = true := by simp [Region.wanted, hgd]
    have := step_append_grows (P := Try.prog) (Q := Q) (K := K) (ops := #[]) (E := True) hgd (.tmp p) (.tmp q) 24 ho 88 i0 (.agg #[.string ByteArray.empty, .string ByteArray.empty]) 2 32 Try.underlying24 hi hz0 hz1 hz2 rfl (by decide) (some ⟨g, 0, none⟩) 0 0 [] hs (fun c => by cases c) rfl (fun b _ j u hu => by simp at hu) ⟨g2, 0, none⟩ l.length cap (l.flatMap fileC) hx (by rw [flat_len fileC_len]) (World.ownsRow.cells hv (g := g2) rfl) hone (by omega) (by unfold maxLen; omega) (by omega) (by
      intro v' w' hown hgrow
      have hr : FilesAt w.heap.size v' l w' := by
        have := hown
        rw [Nat.zero_add] at this
        exact this
      exact h v' w' (hr.mono (by omega)) ((Below.refl _ _).grown hgrow (Nat.le_refl _) (fun q hq => by cases hq)))
    rwa [if_pos hw] at this
theorem litO (w : World) : (Instr.buildSlice 25 0 #[]).run Try.prog w = .ok (.slice (some ⟨w.heap.size, 0, none⟩) 0 0) (w.alloc (.cells #[] 36)) := by kernel_rfl
theorem wpAppO {Q : Exit → Act → World → Prop} {o : Oper} {a : Act} {w : World} {K : Act → World → Prop} {p q : Tmp} (hgd : o.guard = none)
    (ho : o.op = .call { callee := .builtin .append, args := #[.tmp p, .tmp q], argTypes := #[25, 25] }) (B g : Nat) (hs : a.eval (.tmp p) = .slice (some ⟨g, 0, none⟩) 0 0) (hg : w.heap[g]? = some (.cells #[] 36 (0, 0))) (hB : B ≤ g) (v : Value) (l : List DOpT) (hx : a.eval (.tmp q) = v) (hv : OpsAt 0 v l w) (hl2 : l.length ≤ 1048576)
    (h : ∀ u w', OpsAt B u l w' → Below w.heap.size w w' → K (a.put o.dst u) w') : Oper.wp Try.prog o a w K Q := by
  have hglt : g < w.heap.size := (Array.getElem?_eq_some_iff.1 hg).1
  obtain ⟨i0, hi, hz0, hz1, hz2⟩ := info_parts info_DOp
  obtain ⟨pv, cap, rfl, _, _, hp⟩ := hv.open
  by_cases hl : l = []
  · subst hl
    have src : Src Try.prog i0.size 25 (.slice pv 0 cap) 0 [] w := by
      refine ⟨.inl ⟨_, Try.underlying25⟩, fun w' => ?_, ?_, ?_, by simp, fun u hu => by cases hu⟩
      · simp [Builtin.lenOf, go_sem]
      · cases pv <;> simp [Builtin.firstCells, go_sem]
      · cases pv <;> simp [Builtin.firstCells, go_sem]
    have hrun := run_append_nothing (P := Try.prog) w 25 25 o.type 36 i0 Try.underlying25 hi (some ⟨g, 0, none⟩) 0 0 (Nat.le_refl _) (.slice pv 0 cap) src
    have hx' : a.eval (.tmp q) = .slice pv 0 cap := hx
    unfold Oper.wp
    simp [execOp, ho, resolve, invoke, builtin, hs, hx', hrun, Result.andThen]
    exact h _ w ⟨rfl, .inr ⟨g, 0, #[], rfl, hB, hg, Nat.le_refl _, Nat.zero_le _, rfl, rfl⟩⟩ (Below.refl _ _)
  · obtain ⟨g2, rfl, _, _⟩ := hp.resolve_left (fun c => hl c.1)
    have h0 : 0 < l.length := List.length_pos_iff.2 hl
    have hone : ∀ u ∈ l.flatMap dOpC, u.oneCell' = true := by
      intro u hu
      obtain ⟨b, _, hb⟩ := List.mem_flatMap.1 hu
      simp only [dOpC, List.mem_cons, List.not_mem_nil, or_false] at hb
      rcases hb with rfl | rfl | rfl | rfl <;> rfl
    have hw : Region.wanted o (yielded #[] a.tmps) = true := by simp [Region.wanted, hgd]
    have := step_append_grows (P := Try.prog) (Q := Q) (K := K) (ops := #[]) (E := True) hgd (.tmp p) (.tmp q) 25 ho 36 i0 (.agg #[.int .i64 0, .string ByteArray.empty, .string ByteArray.empty, .string ByteArray.empty]) 4 56 Try.underlying25 hi hz0 hz1 hz2 rfl (by decide) (some ⟨g, 0, none⟩) 0 0 [] hs (fun c => by cases c) rfl (fun b _ j u hu => by simp at hu) ⟨g2, 0, none⟩ l.length cap (l.flatMap dOpC) hx (by rw [flat_len dOpC_len]) (World.ownsRow.cells hv (g := g2) rfl) hone (by omega) (by unfold maxLen; omega) (by omega) (by
      intro v' w' hown hgrow
      have hr : OpsAt w.heap.size v' l w' := by
        have := hown
        rw [Nat.zero_add] at this
        exact this
      exact h v' w' (hr.mono (by omega)) ((Below.refl _ _).grown hgrow (Nat.le_refl _) (fun q hq => by cases hq)))
    rwa [if_pos hw] at this

theorem wpFieldT {P : Program} {Q : Exit → Act → World → Prop} {o : Oper} {a : Act} {w : World} {K : Act → World → Prop} {T f : Nat} {k : Tmp} {x y : Value} (hop : o.op = .fieldAddr T (.tmp k) f) (he : a.eval (.tmp k) = y) (hr : (Instr.fieldAt T y f).run P w = .ok x w) (hK : K (a.put o.dst x) w) : o.wp P a w K Q :=
  wpVal (x := x) (w' := w) (by unfold execOp; simp only [hop]; simp only [he, Sem.run_bind, hr, Result.andThen_ok, Sem.run_pure]) hK
theorem wpLoadT {P : Program} {Q : Exit → Act → World → Prop} {o : Oper} {a : Act} {w : World} {K : Act → World → Prop} {T : TypeId} {k : Tmp} {x y : Value} (hop : o.op = .load T (.tmp k)) (he : a.eval (.tmp k) = y) (hr : (Instr.loadAt T y).run P w = .ok x w) (hK : K (a.put o.dst x) w) : o.wp P a w K Q :=
  wpVal (x := x) (w' := w) (by unfold execOp; simp only [hop]; simp only [he, Sem.run_bind, hr, Result.andThen_ok, Sem.run_pure]) hK
theorem wpLitT {P : Program} {Q : Exit → Act → World → Prop} {o : Oper} {a : Act} {w w' : World} {K : Act → World → Prop} {T : TypeId} {x : Value} (hop : o.op = .buildSlice T 0 #[]) (hr : (Instr.buildSlice T 0 #[]).run P w = .ok x w') (hK : K (a.put o.dst x) w') : o.wp P a w K Q :=
  wpVal (x := x) (w' := w') (by unfold execOp; simp only [hop]; simp only [List.map_toArray, List.map_nil, Sem.run_bind, hr, Result.andThen_ok, Sem.run_pure]) hK
theorem wpBuild3T {P : Program} {Q : Exit → Act → World → Prop} {o : Oper} {a : Act} {w : World} {K : Act → World → Prop} {T : TypeId} {k l m : Tmp} {x y z u : Value} (hop : o.op = .build T #[(0, .tmp k), (1, .tmp l), (2, .tmp m)]) (h1 : a.eval (.tmp k) = x) (h2 : a.eval (.tmp l) = y) (h3 : a.eval (.tmp m) = z)
    (hr : (Instr.build T #[(0, x), (1, y), (2, z)]).run P w = .ok u w) (hK : K (a.put o.dst u) w) : o.wp P a w K Q :=
  wpVal (x := u) (w' := w) (by unfold execOp; simp only [hop]; simp only [List.map_toArray, List.map_cons, List.map_nil, h1, h2, h3, Sem.run_bind, hr, Result.andThen_ok, Sem.run_pure]) hK
theorem ldFs {g j n m : Nat} {p : Option Addr} {w : World} (h : w.cell? ⟨g, j, none⟩ = some (.slice p n m)) : (Instr.loadAt 24 (.pointer (some ⟨g, j, none⟩))).run Try.prog w = .ok (.slice p n m) w := by
  simp [Instr.loadAt, go_sem, h]
theorem ldOs {g j n m : Nat} {p : Option Addr} {w : World} (h : w.cell? ⟨g, j, none⟩ = some (.slice p n m)) : (Instr.loadAt 25 (.pointer (some ⟨g, j, none⟩))).run Try.prog w = .ok (.slice p n m) w := by
  simp [Instr.loadAt, go_sem, h]
theorem fdD0 (g : Nat) (w : World) : (Instr.fieldAt 27 (.pointer (some ⟨g, 0, none⟩)) 0).run Try.prog w = .ok (.pointer (some ⟨g, 0, none⟩)) w := by kernel_rfl
theorem fdD1 (g : Nat) (w : World) : (Instr.fieldAt 27 (.pointer (some ⟨g, 0, none⟩)) 1).run Try.prog w = .ok (.pointer (some ⟨g, 1, none⟩)) w := by kernel_rfl
theorem fdD2 (g : Nat) (w : World) : (Instr.fieldAt 27 (.pointer (some ⟨g, 0, none⟩)) 2).run Try.prog w = .ok (.pointer (some ⟨g, 2, none⟩)) w := by kernel_rfl
theorem bDisk (p q r : Option Addr) (a b c a2 b2 c2 : Nat) (w : World) : (Instr.build 27 #[(0, .slice p a a2), (1, .slice q b b2), (2, .slice r c c2)]).run Try.prog w = .ok (.agg #[.slice p a a2, .slice q b b2, .slice r c c2]) w := by kernel_rfl
theorem diskSz (x y z : Value) : (Try.prog.info? 27).map (·.size) = some (#[x, y, z] : Array Value).size := by kernel_rfl
theorem rowNew {α : Type} {B e c r : Nat} {f : α → List Value} {v : Value} {l : List α} {w : World} (h : RowL B e c f v l w) (hr : r < B) : v.ownBlock = none ∨ v.ownBlock ≠ some r := by
  cases hv : v.ownBlock with
  | none => exact .inl rfl
  | some k => exact .inr (fun e => by have := (World.ownsRow.lt h k hv).1; have := Option.some.inj e; omega)
theorem diskNew {B r : Nat} {x y z : Value} {d : DiskT} {w w' : World} (h : DiskAt B x y z d w) (hr : r < B) (hg : w.grownBy w' (some r)) : DiskAt B x y z d w' :=
  ⟨RowL.kept h.live hg (rowNew h.live hr), RowL.kept h.safe hg (rowNew h.safe hr), RowL.kept h.ops hg (rowNew h.ops hr)⟩

structure InvB (b r : Nat) (d : DiskT) (u1 u2 u3 : Value) (W1 : World) (v : Nat → Value) (L : Nat → Bool) (w : World) : Prop where
  G : W1.grownBy w (some r)
  l0 : L 0 = true → ∃ g, v 0 = .slice (some ⟨g, 0, none⟩) 0 0 ∧ W1.heap.size ≤ g ∧ w.heap[g]? = some (.cells #[] 88 (0, 0))
  p1 : L 1 = true → v 1 = .pointer (some ⟨b, 0, none⟩)
  q2 : L 2 = true → v 2 = u1
  a3 : L 3 = true → FilesAt W1.heap.size (v 3) d.live w
  l4 : L 4 = true → ∃ g, v 4 = .slice (some ⟨g, 0, none⟩) 0 0 ∧ W1.heap.size ≤ g ∧ w.heap[g]? = some (.cells #[] 88 (0, 0))
  p5 : L 5 = true → v 5 = .pointer (some ⟨b, 1, none⟩)
  q6 : L 6 = true → v 6 = u2
  a7 : L 7 = true → FilesAt W1.heap.size (v 7) d.safe w
  l8 : L 8 = true → ∃ g, v 8 = .slice (some ⟨g, 0, none⟩) 0 0 ∧ W1.heap.size ≤ g ∧ w.heap[g]? = some (.cells #[] 36 (0, 0))
  p9 : L 9 = true → v 9 = .pointer (some ⟨b, 2, none⟩)
  q10 : L 10 = true → v 10 = u3
  a11 : L 11 = true → OpsAt W1.heap.size (v 11) d.ops w
  m12 : L 12 = true → ∃ x y z, v 12 = .agg #[x, y, z] ∧ DiskAt W1.heap.size x y z d w
structure InvC (b r : Nat) (d : DiskT) (u1 u2 u3 : Value) (W1 : World) (v : Nat → Value) (L : Nat → Bool) (w : World) : Prop where
  B : InvB b r d u1 u2 u3 W1 v L w
  r13 : L 13 = false → w.heap[r]? = some (.cells #[.slice none 0 0, .slice none 0 0, .slice none 0 0] 27 (0, 0))
  s13 : L 13 = true → ∃ x y z, w.heap[r]? = some (.cells #[x, y, z] 27 (0, 0)) ∧ DiskAt W1.heap.size x y z d w
theorem InvB.grow {b r : Nat} {d : DiskT} {u1 u2 u3 : Value} {W1 : World} {v : Nat → Value} {L : Nat → Bool} {w w' : World} (h : InvB b r d u1 u2 u3 W1 v L w) (hr : r < W1.heap.size) (hg : w.grownBy w' (some r)) : InvB b r d u1 u2 u3 W1 v L w' where
  G := grw_trans h.G hg
  l0 := fun a => by
    obtain ⟨g, e, hk, hb⟩ := h.l0 a
    exact ⟨g, e, hk, (hg.block g (Array.getElem?_eq_some_iff.1 hb).1 (fun c => by have := Option.some.inj c; omega)).trans hb⟩
  p1 := h.p1
  q2 := h.q2
  a3 := fun a => RowL.kept (h.a3 a) hg (rowNew (h.a3 a) hr)
  l4 := fun a => by
    obtain ⟨g, e, hk, hb⟩ := h.l4 a
    exact ⟨g, e, hk, (hg.block g (Array.getElem?_eq_some_iff.1 hb).1 (fun c => by have := Option.some.inj c; omega)).trans hb⟩
  p5 := h.p5
  q6 := h.q6
  a7 := fun a => RowL.kept (h.a7 a) hg (rowNew (h.a7 a) hr)
  l8 := fun a => by
    obtain ⟨g, e, hk, hb⟩ := h.l8 a
    exact ⟨g, e, hk, (hg.block g (Array.getElem?_eq_some_iff.1 hb).1 (fun c => by have := Option.some.inj c; omega)).trans hb⟩
  p9 := h.p9
  q10 := h.q10
  a11 := fun a => RowL.kept (h.a11 a) hg (rowNew (h.a11 a) hr)
  m12 := fun a => by
    obtain ⟨x, y, z, e, hd⟩ := h.m12 a
    exact ⟨x, y, z, e, diskNew hd hr hg⟩
theorem InvC.grow {b r : Nat} {d : DiskT} {u1 u2 u3 : Value} {W1 : World} {v : Nat → Value} {L : Nat → Bool} {w w' : World} (h : InvC b r d u1 u2 u3 W1 v L w) (hr : r < W1.heap.size) (hb : Below w.heap.size w w') : InvC b r d u1 u2 u3 W1 v L w' where
  B := h.B.grow hr (grw_of_below hb _)
  r13 := fun a => (hb.block r (Nat.lt_of_lt_of_le hr h.B.G.size)).trans (h.r13 a)
  s13 := fun a => by
    obtain ⟨x, y, z, e, hd⟩ := h.s13 a
    exact ⟨x, y, z, (hb.block r (Nat.lt_of_lt_of_le hr h.B.G.size)).trans e, diskNew hd hr (grw_of_below hb _)⟩

set_option maxRecDepth 20000 in
set_option maxHeartbeats 4000000 in
theorem copy_s (v1 v2 v3 : Value) (d : DiskT) (w : World) (h : DiskAt 0 v1 v2 v3 d w) (hs : d.small) :
    Calls Try.prog 75 #[.agg #[v1, v2, v3]] w fun e w' => ∃ u1 u2 u3, e = .returned (.agg #[u1, u2, u3]) ∧ DiskAt w.heap.size u1 u2 u3 d w' ∧ Below w.heap.size w w' := by
  have H := Lib.hid h
  obtain ⟨p1, m1, rfl, _⟩ := h.live.open
  obtain ⟨p2, m2, rfl, _⟩ := h.safe.open
  obtain ⟨p3, m3, rfl, _⟩ := h.ops.open
  clear h
  have hB1 : Below w.heap.size w ((w.alloc (.cells #[.slice p1 d.live.length m1, .slice p2 d.safe.length m2, .slice p3 d.ops.length m3] 27)).alloc (.cells #[.slice none 0 0, .slice none 0 0, .slice none 0 0] 27)) := ((Below.refl _ _).alloc (Nat.le_refl _) _).alloc (by simp) _
  obtain ⟨_, xA, xR⟩ := boxes2 w (.cells #[.slice p1 d.live.length m1, .slice p2 d.safe.length m2, .slice p3 d.ops.length m3] 27) (.cells #[.slice none 0 0, .slice none 0 0, .slice none 0 0] 27) _ (Below.refl _ _)
  have hsz : ((w.alloc (.cells #[.slice p1 d.live.length m1, .slice p2 d.safe.length m2, .slice p3 d.ops.length m3] 27)).alloc (.cells #[.slice none 0 0, .slice none 0 0, .slice none 0 0] 27)).heap.size = w.heap.size + 1 + 1 := by simp
  go_enter Try.func75, Try.ntmps75
  go_upto_region 1 with (fail)
  generalize ((w.alloc (.cells #[.slice p1 d.live.length m1, .slice p2 d.safe.length m2, .slice p3 d.ops.length m3] 27)).alloc (.cells #[.slice none 0 0, .slice none 0 0, .slice none 0 0] 27)) = W1 at hB1 xA xR hsz ⊢
  have hr : w.heap.size + 1 < W1.heap.size := by omega
  have cell : ∀ {V : World}, W1.grownBy V (some (w.heap.size + 1)) → V.heap[w.heap.size]? = some (.cells #[.slice p1 d.live.length m1, .slice p2 d.safe.length m2, .slice p3 d.ops.length m3] 27 (0, 0)) := fun hg => (hg.block w.heap.size (by omega) (fun c => by have := Option.some.inj c; omega)).trans xA
  have lists : ∀ {V : World}, W1.grownBy V (some (w.heap.size + 1)) → DiskAt 0 (.slice p1 d.live.length m1) (.slice p2 d.safe.length m2) (.slice p3 d.ops.length m3) d V := fun hg => H.out.below (below_grw hB1 hg (by omega) (fun q hq => by have := Option.some.inj hq; omega))
  refine region_invL 14 [some 3, some 4, some 5, some 6, some 7, some 8, some 9, some 10, some 11, some 12, some 13, some 14, some 15, none] (InvC w.heap.size (w.heap.size + 1) d (.slice p1 d.live.length m1) (.slice p2 d.safe.length m2) (.slice p3 d.ops.length m3) W1) (by kernel_rfl) rfl (by kernel_rfl) (by kernel_rfl) (by kernel_rfl) ?_ ?_ ?_
  · exact ⟨⟨grw_drew (grw_refl _ _), (fun h => by cases h), (fun h => by cases h), (fun h => by cases h), (fun h => by cases h), (fun h => by cases h), (fun h => by cases h), (fun h => by cases h), (fun h => by cases h), (fun h => by cases h), (fun h => by cases h), (fun h => by cases h), (fun h => by cases h), (fun h => by cases h)⟩, fun _ => xR, (fun h => by cases h)⟩
  · intro i o v L w1 hoi hL hI hdep
    have hi : i < 14 := (Array.getElem?_eq_some_iff.1 hoi).1
    have hc : i = 0 ∨ i = 1 ∨ i = 2 ∨ i = 3 ∨ i = 4 ∨ i = 5 ∨ i = 6 ∨ i = 7 ∨ i = 8 ∨ i = 9 ∨ i = 10 ∨ i = 11 ∨ i = 12 ∨ i = 13 := by omega
    have hsz1 : W1.heap.size ≤ w1.heap.size := hI.B.G.size
    rcases hc with rfl | rfl | rfl | rfl | rfl | rfl | rfl | rfl | rfl | rfl | rfl | rfl | rfl | rfl
    · obtain rfl := Option.some.inj hoi
      have hI2 := hI.grow hr ((Below.refl w1.heap.size w1).alloc (Nat.le_refl _) (.cells #[] 88))
      refine ⟨rfl, wpLitT rfl (litF w1) ⟨_, rfl, ?_⟩⟩
      exact ⟨⟨hI2.B.G, fun _ => ⟨w1.heap.size, rfl, hsz1, heap_alloc_new w1 _⟩, hI2.B.p1, hI2.B.q2, hI2.B.a3, hI2.B.l4, hI2.B.p5, hI2.B.q6, hI2.B.a7, hI2.B.l8, hI2.B.p9, hI2.B.q10, hI2.B.a11, hI2.B.m12⟩, hI2.r13, hI2.s13⟩
    · obtain rfl := Option.some.inj hoi
      refine ⟨rfl, wpFieldT rfl (at_old (by kernel_rfl)) (fdD0 _ w1) ⟨_, rfl, ?_⟩⟩
      exact ⟨⟨hI.B.G, hI.B.l0, fun _ => rfl, hI.B.q2, hI.B.a3, hI.B.l4, hI.B.p5, hI.B.q6, hI.B.a7, hI.B.l8, hI.B.p9, hI.B.q10, hI.B.a11, hI.B.m12⟩, hI.r13, hI.s13⟩
    · obtain rfl := Option.some.inj hoi
      refine ⟨rfl, wpLoadT rfl ((at_new (by kernel_rfl) 1 (Nat.le_of_ble_eq_true rfl) rfl (by decide) (hdep 1 (dep_of (by kernel_rfl)))).trans (hI.B.p1 (hdep 1 (dep_of (by kernel_rfl))))) (ldFs (dk_cells (cell hI.B.G)).1.1) ⟨_, rfl, ?_⟩⟩
      exact ⟨⟨hI.B.G, hI.B.l0, hI.B.p1, fun _ => rfl, hI.B.a3, hI.B.l4, hI.B.p5, hI.B.q6, hI.B.a7, hI.B.l8, hI.B.p9, hI.B.q10, hI.B.a11, hI.B.m12⟩, hI.r13, hI.s13⟩
    · obtain rfl := Option.some.inj hoi
      obtain ⟨g, eg, hg0, hgb⟩ := hI.B.l0 (hdep 0 (dep_of (by kernel_rfl)))
      refine ⟨rfl, wpAppF rfl rfl W1.heap.size g ((at_new (by kernel_rfl) 0 (Nat.le_of_ble_eq_true rfl) rfl (by decide) (hdep 0 (dep_of (by kernel_rfl)))).trans eg) hgb hg0 _ d.live ((at_new (by kernel_rfl) 2 (Nat.le_of_ble_eq_true rfl) rfl (by decide) (hdep 2 (dep_of (by kernel_rfl)))).trans (hI.B.q2 (hdep 2 (dep_of (by kernel_rfl))))) (lists hI.B.G).live hs.live ?_⟩
      intro u w2 hu hb2
      have hI2 := hI.grow hr hb2
      exact ⟨_, rfl, ⟨⟨hI2.B.G, hI2.B.l0, hI2.B.p1, hI2.B.q2, fun _ => hu, hI2.B.l4, hI2.B.p5, hI2.B.q6, hI2.B.a7, hI2.B.l8, hI2.B.p9, hI2.B.q10, hI2.B.a11, hI2.B.m12⟩, hI2.r13, hI2.s13⟩⟩
    · obtain rfl := Option.some.inj hoi
      have hI2 := hI.grow hr ((Below.refl w1.heap.size w1).alloc (Nat.le_refl _) (.cells #[] 88))
      refine ⟨rfl, wpLitT rfl (litF w1) ⟨_, rfl, ?_⟩⟩
      exact ⟨⟨hI2.B.G, hI2.B.l0, hI2.B.p1, hI2.B.q2, hI2.B.a3, fun _ => ⟨w1.heap.size, rfl, hsz1, heap_alloc_new w1 _⟩, hI2.B.p5, hI2.B.q6, hI2.B.a7, hI2.B.l8, hI2.B.p9, hI2.B.q10, hI2.B.a11, hI2.B.m12⟩, hI2.r13, hI2.s13⟩
    · obtain rfl := Option.some.inj hoi
      refine ⟨rfl, wpFieldT rfl (at_old (by kernel_rfl)) (fdD1 _ w1) ⟨_, rfl, ?_⟩⟩
      exact ⟨⟨hI.B.G, hI.B.l0, hI.B.p1, hI.B.q2, hI.B.a3, hI.B.l4, fun _ => rfl, hI.B.q6, hI.B.a7, hI.B.l8, hI.B.p9, hI.B.q10, hI.B.a11, hI.B.m12⟩, hI.r13, hI.s13⟩
    · obtain rfl := Option.some.inj hoi
      refine ⟨rfl, wpLoadT rfl ((at_new (by kernel_rfl) 5 (Nat.le_of_ble_eq_true rfl) rfl (by decide) (hdep 5 (dep_of (by kernel_rfl)))).trans (hI.B.p5 (hdep 5 (dep_of (by kernel_rfl))))) (ldFs (dk_cells (cell hI.B.G)).1.2.1) ⟨_, rfl, ?_⟩⟩
      exact ⟨⟨hI.B.G, hI.B.l0, hI.B.p1, hI.B.q2, hI.B.a3, hI.B.l4, hI.B.p5, fun _ => rfl, hI.B.a7, hI.B.l8, hI.B.p9, hI.B.q10, hI.B.a11, hI.B.m12⟩, hI.r13, hI.s13⟩
    · obtain rfl := Option.some.inj hoi
      obtain ⟨g, eg, hg0, hgb⟩ := hI.B.l4 (hdep 4 (dep_of (by kernel_rfl)))
      refine ⟨rfl, wpAppF rfl rfl W1.heap.size g ((at_new (by kernel_rfl) 4 (Nat.le_of_ble_eq_true rfl) rfl (by decide) (hdep 4 (dep_of (by kernel_rfl)))).trans eg) hgb hg0 _ d.safe ((at_new (by kernel_rfl) 6 (Nat.le_of_ble_eq_true rfl) rfl (by decide) (hdep 6 (dep_of (by kernel_rfl)))).trans (hI.B.q6 (hdep 6 (dep_of (by kernel_rfl))))) (lists hI.B.G).safe hs.safe ?_⟩
      intro u w2 hu hb2
      have hI2 := hI.grow hr hb2
      exact ⟨_, rfl, ⟨⟨hI2.B.G, hI2.B.l0, hI2.B.p1, hI2.B.q2, hI2.B.a3, hI2.B.l4, hI2.B.p5, hI2.B.q6, fun _ => hu, hI2.B.l8, hI2.B.p9, hI2.B.q10, hI2.B.a11, hI2.B.m12⟩, hI2.r13, hI2.s13⟩⟩
    · obtain rfl := Option.some.inj hoi
      have hI2 := hI.grow hr ((Below.refl w1.heap.size w1).alloc (Nat.le_refl _) (.cells #[] 36))
      refine ⟨rfl, wpLitT rfl (litO w1) ⟨_, rfl, ?_⟩⟩
      exact ⟨⟨hI2.B.G, hI2.B.l0, hI2.B.p1, hI2.B.q2, hI2.B.a3, hI2.B.l4, hI2.B.p5, hI2.B.q6, hI2.B.a7, fun _ => ⟨w1.heap.size, rfl, hsz1, heap_alloc_new w1 _⟩, hI2.B.p9, hI2.B.q10, hI2.B.a11, hI2.B.m12⟩, hI2.r13, hI2.s13⟩
    · obtain rfl := Option.some.inj hoi
      refine ⟨rfl, wpFieldT rfl (at_old (by kernel_rfl)) (fdD2 _ w1) ⟨_, rfl, ?_⟩⟩
      exact ⟨⟨hI.B.G, hI.B.l0, hI.B.p1, hI.B.q2, hI.B.a3, hI.B.l4, hI.B.p5, hI.B.q6, hI.B.a7, hI.B.l8, fun _ => rfl, hI.B.q10, hI.B.a11, hI.B.m12⟩, hI.r13, hI.s13⟩
    · obtain rfl := Option.some.inj hoi
      refine ⟨rfl, wpLoadT rfl ((at_new (by kernel_rfl) 9 (Nat.le_of_ble_eq_true rfl) rfl (by decide) (hdep 9 (dep_of (by kernel_rfl)))).trans (hI.B.p9 (hdep 9 (dep_of (by kernel_rfl))))) (ldOs (dk_cells (cell hI.B.G)).1.2.2) ⟨_, rfl, ?_⟩⟩
      exact ⟨⟨hI.B.G, hI.B.l0, hI.B.p1, hI.B.q2, hI.B.a3, hI.B.l4, hI.B.p5, hI.B.q6, hI.B.a7, hI.B.l8, hI.B.p9, fun _ => rfl, hI.B.a11, hI.B.m12⟩, hI.r13, hI.s13⟩
    · obtain rfl := Option.some.inj hoi
      obtain ⟨g, eg, hg0, hgb⟩ := hI.B.l8 (hdep 8 (dep_of (by kernel_rfl)))
      refine ⟨rfl, wpAppO rfl rfl W1.heap.size g ((at_new (by kernel_rfl) 8 (Nat.le_of_ble_eq_true rfl) rfl (by decide) (hdep 8 (dep_of (by kernel_rfl)))).trans eg) hgb hg0 _ d.ops ((at_new (by kernel_rfl) 10 (Nat.le_of_ble_eq_true rfl) rfl (by decide) (hdep 10 (dep_of (by kernel_rfl)))).trans (hI.B.q10 (hdep 10 (dep_of (by kernel_rfl))))) (lists hI.B.G).ops hs.ops ?_⟩
      intro u w2 hu hb2
      have hI2 := hI.grow hr hb2
      exact ⟨_, rfl, ⟨⟨hI2.B.G, hI2.B.l0, hI2.B.p1, hI2.B.q2, hI2.B.a3, hI2.B.l4, hI2.B.p5, hI2.B.q6, hI2.B.a7, hI2.B.l8, hI2.B.p9, hI2.B.q10, fun _ => hu, hI2.B.m12⟩, hI2.r13, hI2.s13⟩⟩
    · obtain rfl := Option.some.inj hoi
      have f1 := hI.B.a3 (hdep 3 (dep_of (by kernel_rfl)))
      have f2 := hI.B.a7 (hdep 7 (dep_of (by kernel_rfl)))
      have f3 := hI.B.a11 (hdep 11 (dep_of (by kernel_rfl)))
      obtain ⟨q1, n1, e1, _⟩ := f1.open
      obtain ⟨q2, n2, e2, _⟩ := f2.open
      obtain ⟨q3, n3, e3, _⟩ := f3.open
      rw [e1] at f1
      rw [e2] at f2
      rw [e3] at f3
      refine ⟨rfl, wpBuild3T rfl ((at_new (by kernel_rfl) 3 (Nat.le_of_ble_eq_true rfl) rfl (by decide) (hdep 3 (dep_of (by kernel_rfl)))).trans e1) ((at_new (by kernel_rfl) 7 (Nat.le_of_ble_eq_true rfl) rfl (by decide) (hdep 7 (dep_of (by kernel_rfl)))).trans e2) ((at_new (by kernel_rfl) 11 (Nat.le_of_ble_eq_true rfl) rfl (by decide) (hdep 11 (dep_of (by kernel_rfl)))).trans e3) (bDisk _ _ _ _ _ _ _ _ _ w1) ⟨_, rfl, ?_⟩⟩
      exact ⟨⟨hI.B.G, hI.B.l0, hI.B.p1, hI.B.q2, hI.B.a3, hI.B.l4, hI.B.p5, hI.B.q6, hI.B.a7, hI.B.l8, hI.B.p9, hI.B.q10, hI.B.a11, fun _ => ⟨_, _, _, rfl, f1, f2, f3⟩⟩, hI.r13, hI.s13⟩
    · obtain rfl := Option.some.inj hoi
      obtain ⟨x, y, z, e12, hd12⟩ := hI.B.m12 (hdep 12 (dep_of (by kernel_rfl)))
      have hone : (#[x, y, z] : Array Value).all (·.oneCell') = true := by
        obtain ⟨_, _, rfl, _⟩ := hd12.live.open
        obtain ⟨_, _, rfl, _⟩ := hd12.safe.open
        obtain ⟨_, _, rfl, _⟩ := hd12.ops.open
        simp [Value.oneCell']
      have hold := hI.r13 hL
      have hg : w1.grownBy (w1.setRow (w.heap.size + 1) #[x, y, z]) (some (w.heap.size + 1)) := grw_setRow (grw_refl _ _) _
      refine ⟨rfl, wpStoreT rfl (at_old (by kernel_rfl)) ((at_new (by kernel_rfl) 12 (Nat.le_of_ble_eq_true rfl) rfl (by decide) (hdep 12 (dep_of (by kernel_rfl)))).trans e12) hold (diskSz x y z) rfl hone ⟨_, rfl, ?_⟩⟩
      have hB2 := hI.B.grow hr hg
      exact ⟨⟨hB2.G, hB2.l0, hB2.p1, hB2.q2, hB2.a3, hB2.l4, hB2.p5, hB2.q6, hB2.a7, hB2.l8, hB2.p9, hB2.q10, hB2.a11, hB2.m12⟩, (fun h => by cases h), fun _ => ⟨x, y, z, setRow_heap w1 (w.heap.size + 1) _ _ _ (0, 0) hold, diskNew hd12 hr hg⟩⟩
  intro v x1 hI
  obtain ⟨x, y, z, hrow, hd⟩ := hI.s13 rfl
  have hG := hI.B.G
  have hfin : Below w.heap.size w x1 := below_grw hB1 hG (by omega) (fun q hq => by have := Option.some.inj hq; omega)
  have HD := Lib.hid (hd.mono (show w.heap.size ≤ W1.heap.size by omega))
  clear hI hd
  simp only [Go.My.putL, Nat.zero_add, Nat.reduceAdd, Act.put, List.setIfInBounds_toArray, List.set_cons_zero, List.set_cons_succ]
  generalize v 0 = y0 at *
  generalize v 1 = y1 at *
  generalize v 2 = y2 at *
  generalize v 3 = y3 at *
  generalize v 4 = y4 at *
  generalize v 5 = y5 at *
  generalize v 6 = y6 at *
  generalize v 7 = y7 at *
  generalize v 8 = y8 at *
  generalize v 9 = y9 at *
  generalize v 10 = y10 at *
  generalize v 11 = y11 at *
  generalize v 12 = y12 at *
  go_wp2
  refine bodyPost_ret (v := .agg #[x, y, z]) (results_cell_row Try.results75 _ _ (w.heap.size + 1) 27 _ (0, 0) _ rfl hrow Try.underlying27 rfl (by kernel_rfl)) rfl ⟨_, _, _, rfl, HD.out, hfin⟩

end Go.Proofs.Ytepefbfmjjnamaa

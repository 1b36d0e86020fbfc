/- The specification: a disk copied. -/
import Derived.Test.YtepefbfmjjnamaaMrgA
import Derived.Test.YtepefbfmjjnamaaDkX
import Derived.Test.YtepefbfmjjnamaaRegI
import Derived.Deep.RegionLawGrows
import Derived.Deep.Cut
import Derived.Deep.Upon
import Derived.Test.YtepefbfmjjnamaaDkU
import Derived.Test.YtepefbfmjjnamaaDkHa
namespace Go.Proofs.Ytepefbfmjjnamaa
open Go.RowKit Go.My Go.Lib
set_option linter.unusedVariables false

theorem litF (w : World) : (Instr.buildSlice 24 0 #[]).run Try.prog w = .ok (.slice (some ⟨w.heap.size, 0, none⟩) 0 0) (w.alloc (.cells #[] 88)) := by kernel_rfl
theorem wpAppF {Q : Exit → Act → World → Prop} {o : Oper} {a : Act} {w : World} {K : Act → World → Prop} {p q : Tmp} (hgd : o.guard = none)
    (ho : o.op = .call { callee := .builtin .append, args := #[.tmp p, .tmp q], argTypes := #[24, 24] }) (B g : Nat) (hs : a.eval (.tmp p) = .slice (some ⟨g, 0, none⟩) 0 0) (hg : w.heap[g]? = some (.cells #[] 88 (0, 0))) (hB : B ≤ g) (v : Value) (l : List FileT) (hx : a.eval (.tmp q) = v) (hv : FilesAt 0 v l w) (hl2 : l.length ≤ 1048576)
    (h : ∀ u w', FilesAt B u l w' → Below w.heap.size w w' → K (a.put o.dst u) w') : Oper.wp Try.prog o a w K Q := by
  have hglt : g < w.heap.size := (Array.getElem?_eq_some_iff.1 hg).1
  obtain ⟨i0, hi, hz0, hz1, hz2⟩ := info_parts info_File
  obtain ⟨pv, cap, rfl, _, _, hp⟩ := hv.open
  by_cases hl : l = []
  · subst hl
    have src : Src Try.prog i0.size 24 (.slice pv 0 cap) 0 [] w := by
      refine ⟨.inl ⟨_, Try.underlying24⟩, fun w' => ?_, ?_, ?_, by simp, fun u hu => by cases hu⟩
      · simp [Builtin.lenOf, go_sem]
      · cases pv <;> simp [Builtin.firstCells, go_sem]
      · cases pv <;> simp [Builtin.firstCells, go_sem]
    have hrun := run_append_nothing (P := Try.prog) w 24 24 o.type 88 i0 Try.underlying24 hi (some ⟨g, 0, none⟩) 0 0 (Nat.le_refl _) (.slice pv 0 cap) src
    have hx' : a.eval (.tmp q) = .slice pv 0 cap := hx
    unfold Oper.wp
    simp [execOp, ho, resolve, invoke, builtin, hs, hx', hrun, Result.andThen]
    exact h _ w ⟨rfl, .inr ⟨g, 0, #[], rfl, hB, hg, Nat.le_refl _, Nat.zero_le _, rfl, rfl⟩⟩ (Below.refl _ _)
  · obtain ⟨g2, rfl, _, _⟩ := hp.resolve_left (fun c => hl c.1)
    have h0 : 0 < l.length := List.length_pos_iff.2 hl
    have hone : ∀ u ∈ l.flatMap fileC, u.oneCell' = true := by
      intro u hu
      obtain ⟨b, _, hb⟩ := List.mem_flatMap.1 hu
      simp only [fileC, List.mem_cons, List.not_mem_nil, or_false] at hb
      rcases hb with rfl | rfl <;> rfl
    have hw : Region.wanted o (yielded #[] a.tmps) = true := by simp [Region.wanted, hgd]
    have := step_append_grows (P := Try.prog) (Q := Q) (K := K) (ops := #[]) (E := True) hgd (.tmp p) (.tmp q) 24 ho 88 i0 (.agg #[.string ByteArray.empty, .string ByteArray.empty]) 2 32 Try.underlying24 hi hz0 hz1 hz2 rfl (by decide) (some ⟨g, 0, none⟩) 0 0 [] hs (fun c => by cases c) rfl (fun b _ j u hu => by simp at hu) ⟨g2, 0, none⟩ l.length cap (l.flatMap fileC) hx (by rw [flat_len fileC_len]) (World.ownsRow.cells hv (g := g2) rfl) hone (by omega) (by unfold maxLen; omega) (by omega) (by
      intro v' w' hown hgrow
      have hr : FilesAt w.heap.size v' l w' := by
        have := hown
        rw [Nat.zero_add] at this
        exact this
      exact h v' w' (hr.mono (by omega)) ((Below.refl _ _).grown hgrow (Nat.le_refl _) (fun q hq => by cases hq)))
    rwa [if_pos hw] at this
theorem litO (w : World) : (Instr.buildSlice 25 0 #[]).run Try.prog w = .ok (.slice (some ⟨w.heap.size, 0, none⟩) 0 0) (w.alloc (.cells #[] 36)) := by kernel_rfl
theorem wpAppO {Q : Exit → Act → World → Prop} {o : Oper} {a : Act} {w : World} {K : Act → World → Prop} {p q : Tmp} (hgd : o.guard = none)
    (ho : o.op = .call { callee := .builtin .append, args := #[.tmp p, .tmp q], argTypes := #[25, 25] }) (B g : Nat) (hs : a.eval (.tmp p) = .slice (some ⟨g, 0, none⟩) 0 0) (hg : w.heap[g]? = some (.cells #[] 36 (0, 0))) (hB : B ≤ g) (v : Value) (l : List DOpT) (hx : a.eval (.tmp q) = v) (hv : OpsIn v l w) (hl2 : l.length ≤ 1048576)
    (h : ∀ u w', OpsAt B u l w' → Below w.heap.size w w' → K (a.put o.dst u) w') : Oper.wp Try.prog o a w K Q := by
  have hglt : g < w.heap.size := (Array.getElem?_eq_some_iff.1 hg).1
  obtain ⟨i0, hi, hz0, hz1, hz2⟩ := info_parts info_DOp
  obtain ⟨pv, cap, rfl, _, _, hp⟩ := hv.open
  by_cases hl : l = []
  · subst hl
    have src : Src Try.prog i0.size 25 (.slice pv 0 cap) 0 [] w := by
      refine ⟨.inl ⟨_, Try.underlying25⟩, fun w' => ?_, ?_, ?_, by simp, fun u hu => by cases hu⟩
      · simp [Builtin.lenOf, go_sem]
      · cases pv <;> simp [Builtin.firstCells, go_sem]
      · cases pv <;> simp [Builtin.firstCells, go_sem]
    have hrun := run_append_nothing (P := Try.prog) w 25 25 o.type 36 i0 Try.underlying25 hi (some ⟨g, 0, none⟩) 0 0 (Nat.le_refl _) (.slice pv 0 cap) src
    have hx' : a.eval (.tmp q) = .slice pv 0 cap := hx
    unfold Oper.wp
    simp [execOp, ho, resolve, invoke, builtin, hs, hx', hrun, Result.andThen]
    exact h _ w ⟨rfl, .inr ⟨g, 0, #[], rfl, hB, hg, Nat.le_refl _, Nat.zero_le _, rfl, rfl⟩⟩ (Below.refl _ _)
  · obtain ⟨g2, o2, rfl⟩ := hp.resolve_left hl
    have h0 : 0 < l.length := List.length_pos_iff.2 hl
    have hone : ∀ u ∈ l.flatMap dOpC, u.oneCell' = true := by
      intro u hu
      obtain ⟨b, _, hb⟩ := List.mem_flatMap.1 hu
      simp only [dOpC, List.mem_cons, List.not_mem_nil, or_false] at hb
      rcases hb with rfl | rfl | rfl | rfl <;> rfl
    have hw : Region.wanted o (yielded #[] a.tmps) = true := by simp [Region.wanted, hgd]
    have := step_append_grows (P := Try.prog) (Q := Q) (K := K) (ops := #[]) (E := True) hgd (.tmp p) (.tmp q) 25 ho 36 i0 (.agg #[.int .i64 0, .string ByteArray.empty, .string ByteArray.empty, .string ByteArray.empty]) 4 56 Try.underlying25 hi hz0 hz1 hz2 rfl (by decide) (some ⟨g, 0, none⟩) 0 0 [] hs (fun c => by cases c) rfl (fun b _ j u hu => by simp at hu) ⟨g2, o2, none⟩ l.length cap (l.flatMap dOpC) hx (by rw [flat_len dOpC_len]) hv.cells hone (by omega) (by unfold maxLen; omega) (by omega) (by
      intro v' w' hown hgrow
      have hr : OpsAt w.heap.size v' l w' := by
        have := hown
        rw [Nat.zero_add] at this
        exact this
      exact h v' w' (hr.mono (by omega)) ((Below.refl _ _).grown hgrow (Nat.le_refl _) (fun q hq => by cases hq)))
    rwa [if_pos hw] at this

theorem wpFieldT {P : Program} {Q : Exit → Act → World → Prop} {o : Oper} {a : Act} {w : World} {K : Act → World → Prop} {T f : Nat} {k : Tmp} {x y : Value} (hop : o.op = .fieldAddr T (.tmp k) f) (he : a.eval (.tmp k) = y) (hr : (Instr.fieldAt T y f).run P w = .ok x w) (hK : K (a.put o.dst x) w) : o.wp P a w K Q :=
  wpVal (x := x) (w' := w) (by unfold execOp; simp only [hop]; simp only [he, Sem.run_bind, hr, Result.andThen_ok, Sem.run_pure]) hK
theorem wpLoadT {P : Program} {Q : Exit → Act → World → Prop} {o : Oper} {a : Act} {w : World} {K : Act → World → Prop} {T : TypeId} {k : Tmp} {x y : Value} (hop : o.op = .load T (.tmp k)) (he : a.eval (.tmp k) = y) (hr : (Instr.loadAt T y).run P w = .ok x w) (hK : K (a.put o.dst x) w) : o.wp P a w K Q :=
  wpVal (x := x) (w' := w) (by unfold execOp; simp only [hop]; simp only [he, Sem.run_bind, hr, Result.andThen_ok, Sem.run_pure]) hK
theorem wpLitT {P : Program} {Q : Exit → Act → World → Prop} {o : Oper} {a : Act} {w w' : World} {K : Act → World → Prop} {T : TypeId} {x : Value} (hop : o.op = .buildSlice T 0 #[]) (hr : (Instr.buildSlice T 0 #[]).run P w = .ok x w') (hK : K (a.put o.dst x) w') : o.wp P a w K Q :=
  wpVal (x := x) (w' := w') (by unfold execOp; simp only [hop]; simp only [List.map_toArray, List.map_nil, Sem.run_bind, hr, Result.andThen_ok, Sem.run_pure]) hK
theorem wpBuild3T {P : Program} {Q : Exit → Act → World → Prop} {o : Oper} {a : Act} {w : World} {K : Act → World → Prop} {T : TypeId} {k l m : Tmp} {x y z u : Value} (hop : o.op = .build T #[(0, .tmp k), (1, .tmp l), (2, .tmp m)]) (h1 : a.eval (.tmp k) = x) (h2 : a.eval (.tmp l) = y) (h3 : a.eval (.tmp m) = z)
    (hr : (Instr.build T #[(0, x), (1, y), (2, z)]).run P w = .ok u w) (hK : K (a.put o.dst u) w) : o.wp P a w K Q :=
  wpVal (x := u) (w' := w) (by unfold execOp; simp only [hop]; simp only [List.map_toArray, List.map_cons, List.map_nil, h1, h2, h3, Sem.run_bind, hr, Result.andThen_ok, Sem.run_pure]) hK
theorem ldFs {g j n m : Nat} {p : Option Addr} {w : World} (h : w.cell? ⟨g, j, none⟩ = some (.slice p n m)) : (Instr.loadAt 24 (.pointer (some ⟨g, j, none⟩))).run Try.prog w = .ok (.slice p n m) w := by
  simp [Instr.loadAt, go_sem, h]
theorem ldOs {g j n m : Nat} {p : Option Addr} {w : World} (h : w.cell? ⟨g, j, none⟩ = some (.slice p n m)) : (Instr.loadAt 25 (.pointer (some ⟨g, j, none⟩))).run Try.prog w = .ok (.slice p n m) w := by
  simp [Instr.loadAt, go_sem, h]
theorem fdD0 (g : Nat) (w : World) : (Instr.fieldAt 27 (.pointer (some ⟨g, 0, none⟩)) 0).run Try.prog w = .ok (.pointer (some ⟨g, 0, none⟩)) w := by kernel_rfl
theorem fdD1 (g : Nat) (w : World) : (Instr.fieldAt 27 (.pointer (some ⟨g, 0, none⟩)) 1).run Try.prog w = .ok (.pointer (some ⟨g, 1, none⟩)) w := by kernel_rfl
theorem fdD2 (g : Nat) (w : World) : (Instr.fieldAt 27 (.pointer (some ⟨g, 0, none⟩)) 2).run Try.prog w = .ok (.pointer (some ⟨g, 2, none⟩)) w := by kernel_rfl
theorem bDisk (p q r : Option Addr) (a b c a2 b2 c2 : Nat) (w : World) : (Instr.build 27 #[(0, .slice p a a2), (1, .slice q b b2), (2, .slice r c c2)]).run Try.prog w = .ok (.agg #[.slice p a a2, .slice q b b2, .slice r c c2]) w := by kernel_rfl
theorem diskSz (x y z : Value) : (Try.prog.info? 27).map (·.size) = some (#[x, y, z] : Array Value).size := by kernel_rfl
theorem rowNew {α : Type} {B e c r : Nat} {f : α → List Value} {v : Value} {l : List α} {w : World} (h : RowL B e c f v l w) (hr : r < B) : v.ownBlock = none ∨ v.ownBlock ≠ some r := by
  cases hv : v.ownBlock with
  | none => exact .inl rfl
  | some k => exact .inr (fun e => by have := (World.ownsRow.lt h k hv).1; have := Option.some.inj e; omega)
theorem diskNew {B r : Nat} {x y z : Value} {d : DiskT} {w w' : World} (h : DiskAt B x y z d w) (hr : r < B) (hg : w.grownBy w' (some r)) : DiskAt B x y z d w' :=
  ⟨RowL.kept h.live hg (rowNew h.live hr), RowL.kept h.safe hg (rowNew h.safe hr), RowL.kept h.ops hg (rowNew h.ops hr)⟩

structure InvB (b r : Nat) (d : DiskT) (u1 u2 u3 : Value) (W1 : World) (v : Nat → Value) (L : Nat → Bool) (w : World) : Prop where
  G : W1.grownBy w (some r)
  l0 : L 0 = true → ∃ g, v 0 = .slice (some ⟨g, 0, none⟩) 0 0 ∧ W1.heap.size ≤ g ∧ w.heap[g]? = some (.cells #[] 88 (0, 0))
  p1 : L 1 = true → v 1 = .pointer (some ⟨b, 0, none⟩)
  q2 : L 2 = true → v 2 = u1
  a3 : L 3 = true → FilesAt W1.heap.size (v 3) d.live w
  l4 : L 4 = true → ∃ g, v 4 = .slice (some ⟨g, 0, none⟩) 0 0 ∧ W1.heap.size ≤ g ∧ w.heap[g]? = some (.cells #[] 88 (0, 0))
  p5 : L 5 = true → v 5 = .pointer (some ⟨b, 1, none⟩)
  q6 : L 6 = true → v 6 = u2
  a7 : L 7 = true → FilesAt W1.heap.size (v 7) d.safe w
  l8 : L 8 = true → ∃ g, v 8 = .slice (some ⟨g, 0, none⟩) 0 0 ∧ W1.heap.size ≤ g ∧ w.heap[g]? = some (.cells #[] 36 (0, 0))
  p9 : L 9 = true → v 9 = .pointer (some ⟨b, 2, none⟩)
  q10 : L 10 = true → v 10 = u3
  a11 : L 11 = true → OpsAt W1.heap.size (v 11) d.ops w
  m12 : L 12 = true → ∃ x y z, v 12 = .agg #[x, y, z] ∧ DiskAt W1.heap.size x y z d w
structure InvC (b r : Nat) (d : DiskT) (u1 u2 u3 : Value) (W1 : World) (v : Nat → Value) (L : Nat → Bool) (w : World) : Prop where
  B : InvB b r d u1 u2 u3 W1 v L w
  r13 : L 13 = false → w.heap[r]? = some (.cells #[.slice none 0 0, .slice none 0 0, .slice none 0 0] 27 (0, 0))
  s13 : L 13 = true → ∃ x y z, w.heap[r]? = some (.cells #[x, y, z] 27 (0, 0)) ∧ DiskAt W1.heap.size x y z d w
theorem InvB.grow {b r : Nat} {d : DiskT} {u1 u2 u3 : Value} {W1 : World} {v : Nat → Value} {L : Nat → Bool} {w w' : World} (h : InvB b r d u1 u2 u3 W1 v L w) (hr : r < W1.heap.size) (hg : w.grownBy w' (some r)) : InvB b r d u1 u2 u3 W1 v L w' where
  G := grw_trans h.G hg
  l0 := fun a => by
    obtain ⟨g, e, hk, hb⟩ := h.l0 a
    exact ⟨g, e, hk, (hg.block g (Array.getElem?_eq_some_iff.1 hb).1 (fun c => by have := Option.some.inj c; omega)).trans hb⟩
  p1 := h.p1
  q2 := h.q2
  a3 := fun a => RowL.kept (h.a3 a) hg (rowNew (h.a3 a) hr)
  l4 := fun a => by
    obtain ⟨g, e, hk, hb⟩ := h.l4 a
    exact ⟨g, e, hk, (hg.block g (Array.getElem?_eq_some_iff.1 hb).1 (fun c => by have := Option.some.inj c; omega)).trans hb⟩
  p5 := h.p5
  q6 := h.q6
  a7 := fun a => RowL.kept (h.a7 a) hg (rowNew (h.a7 a) hr)
  l8 := fun a => by
    obtain ⟨g, e, hk, hb⟩ := h.l8 a
    exact ⟨g, e, hk, (hg.block g (Array.getElem?_eq_some_iff.1 hb).1 (fun c => by have := Option.some.inj c; omega)).trans hb⟩
  p9 := h.p9
  q10 := h.q10
  a11 := fun a => RowL.kept (h.a11 a) hg (rowNew (h.a11 a) hr)
  m12 := fun a => by
    obtain ⟨x, y, z, e, hd⟩ := h.m12 a
    exact ⟨x, y, z, e, diskNew hd hr hg⟩
theorem InvC.grow {b r : Nat} {d : DiskT} {u1 u2 u3 : Value} {W1 : World} {v : Nat → Value} {L : Nat → Bool} {w w' : World} (h : InvC b r d u1 u2 u3 W1 v L w) (hr : r < W1.heap.size) (hb : Below w.heap.size w w') : InvC b r d u1 u2 u3 W1 v L w' where
  B := h.B.grow hr (grw_of_below hb _)
  r13 := fun a => (hb.block r (Nat.lt_of_lt_of_le hr h.B.G.size)).trans (h.r13 a)
  s13 := fun a => by
    obtain ⟨x, y, z, e, hd⟩ := h.s13 a
    exact ⟨x, y, z, (hb.block r (Nat.lt_of_lt_of_le hr h.B.G.size)).trans e, diskNew hd hr (grw_of_below hb _)⟩

set_option maxRecDepth 20000 in
set_option maxHeartbeats 4000000 in
theorem copy_sn (v1 v2 v3 : Value) (d : DiskT) (w : World) (h : DiskIn v1 v2 v3 d w) (hs : d.small) :
    Calls Try.prog 75 #[.agg #[v1, v2, v3]] w fun e w' => ∃ u1 u2 u3, e = .returned (.agg #[u1, u2, u3]) ∧ DiskAt w.heap.size u1 u2 u3 d w' ∧ Below w.heap.size w w' := by
  have H := Lib.hid h
  obtain ⟨p1, m1, rfl, _⟩ := h.live.open
  obtain ⟨p2, m2, rfl, _⟩ := h.safe.open
  obtain ⟨p3, m3, rfl, _⟩ := h.ops.open
  clear h
  have hB1 : Below w.heap.size w ((w.alloc (.cells #[.slice p1 d.live.length m1, .slice p2 d.safe.length m2, .slice p3 d.ops.length m3] 27)).alloc (.cells #[.slice none 0 0, .slice none 0 0, .slice none 0 0] 27)) := ((Below.refl _ _).alloc (Nat.le_refl _) _).alloc (by simp) _
  obtain ⟨_, xA, xR⟩ := boxes2 w (.cells #[.slice p1 d.live.length m1, .slice p2 d.safe.length m2, .slice p3 d.ops.length m3] 27) (.cells #[.slice none 0 0, .slice none 0 0, .slice none 0 0] 27) _ (Below.refl _ _)
  have hsz : ((w.alloc (.cells #[.slice p1 d.live.length m1, .slice p2 d.safe.length m2, .slice p3 d.ops.length m3] 27)).alloc (.cells #[.slice none 0 0, .slice none 0 0, .slice none 0 0] 27)).heap.size = w.heap.size + 1 + 1 := by simp
  go_enter Try.func75, Try.ntmps75
  go_upto_region 1 with (fail)
  generalize ((w.alloc (.cells #[.slice p1 d.live.length m1, .slice p2 d.safe.length m2, .slice p3 d.ops.length m3] 27)).alloc (.cells #[.slice none 0 0, .slice none 0 0, .slice none 0 0] 27)) = W1 at hB1 xA xR hsz ⊢
  have hr : w.heap.size + 1 < W1.heap.size := by omega
  have cell : ∀ {V : World}, W1.grownBy V (some (w.heap.size + 1)) → V.heap[w.heap.size]? = some (.cells #[.slice p1 d.live.length m1, .slice p2 d.safe.length m2, .slice p3 d.ops.length m3] 27 (0, 0)) := fun hg => (hg.block w.heap.size (by omega) (fun c => by have := Option.some.inj c; omega)).trans xA
  have lists : ∀ {V : World}, W1.grownBy V (some (w.heap.size + 1)) → DiskIn (.slice p1 d.live.length m1) (.slice p2 d.safe.length m2) (.slice p3 d.ops.length m3) d V := fun hg => H.out.below (below_grw hB1 hg (by omega) (fun q hq => by have := Option.some.inj hq; omega))
  refine region_invL 14 [some 3, some 4, some 5, some 6, some 7, some 8, some 9, some 10, some 11, some 12, some 13, some 14, some 15, none] (InvC w.heap.size (w.heap.size + 1) d (.slice p1 d.live.length m1) (.slice p2 d.safe.length m2) (.slice p3 d.ops.length m3) W1) (by kernel_rfl) rfl (by kernel_rfl) (by kernel_rfl) (by kernel_rfl) ?_ ?_ ?_
  · exact ⟨⟨grw_drew (grw_refl _ _), (fun h => by cases h), (fun h => by cases h), (fun h => by cases h), (fun h => by cases h), (fun h => by cases h), (fun h => by cases h), (fun h => by cases h), (fun h => by cases h), (fun h => by cases h), (fun h => by cases h), (fun h => by cases h), (fun h => by cases h), (fun h => by cases h)⟩, fun _ => xR, (fun h => by cases h)⟩
  · intro i o v L w1 hoi hL hI hdep
    have hi : i < 14 := (Array.getElem?_eq_some_iff.1 hoi).1
    have hc : i = 0 ∨ i = 1 ∨ i = 2 ∨ i = 3 ∨ i = 4 ∨ i = 5 ∨ i = 6 ∨ i = 7 ∨ i = 8 ∨ i = 9 ∨ i = 10 ∨ i = 11 ∨ i = 12 ∨ i = 13 := by omega
    have hsz1 : W1.heap.size ≤ w1.heap.size := hI.B.G.size
    rcases hc with rfl | rfl | rfl | rfl | rfl | rfl | rfl | rfl | rfl | rfl | rfl | rfl | rfl | rfl
    · obtain rfl := Option.some.inj hoi
      have hI2 := hI.grow hr ((Below.refl w1.heap.size w1).alloc (Nat.le_refl _) (.cells #[] 88))
      refine ⟨rfl, wpLitT rfl (litF w1) ⟨_, rfl, ?_⟩⟩
      exact ⟨⟨hI2.B.G, fun _ => ⟨w1.heap.size, rfl, hsz1, heap_alloc_new w1 _⟩, hI2.B.p1, hI2.B.q2, hI2.B.a3, hI2.B.l4, hI2.B.p5, hI2.B.q6, hI2.B.a7, hI2.B.l8, hI2.B.p9, hI2.B.q10, hI2.B.a11, hI2.B.m12⟩, hI2.r13, hI2.s13⟩
    · obtain rfl := Option.some.inj hoi
      refine ⟨rfl, wpFieldT rfl (at_old (by kernel_rfl)) (fdD0 _ w1) ⟨_, rfl, ?_⟩⟩
      exact ⟨⟨hI.B.G, hI.B.l0, fun _ => rfl, hI.B.q2, hI.B.a3, hI.B.l4, hI.B.p5, hI.B.q6, hI.B.a7, hI.B.l8, hI.B.p9, hI.B.q10, hI.B.a11, hI.B.m12⟩, hI.r13, hI.s13⟩
    · obtain rfl := Option.some.inj hoi
      refine ⟨rfl, wpLoadT rfl ((at_new (by kernel_rfl) 1 (Nat.le_of_ble_eq_true rfl) rfl (by decide) (hdep 1 (dep_of (by kernel_rfl)))).trans (hI.B.p1 (hdep 1 (dep_of (by kernel_rfl))))) (ldFs (dk_cells (cell hI.B.G)).1.1) ⟨_, rfl, ?_⟩⟩
      exact ⟨⟨hI.B.G, hI.B.l0, hI.B.p1, fun _ => rfl, hI.B.a3, hI.B.l4, hI.B.p5, hI.B.q6, hI.B.a7, hI.B.l8, hI.B.p9, hI.B.q10, hI.B.a11, hI.B.m12⟩, hI.r13, hI.s13⟩
    · obtain rfl := Option.some.inj hoi
      obtain ⟨g, eg, hg0, hgb⟩ := hI.B.l0 (hdep 0 (dep_of (by kernel_rfl)))
      refine ⟨rfl, wpAppF rfl rfl W1.heap.size g ((at_new (by kernel_rfl) 0 (Nat.le_of_ble_eq_true rfl) rfl (by decide) (hdep 0 (dep_of (by kernel_rfl)))).trans eg) hgb hg0 _ d.live ((at_new (by kernel_rfl) 2 (Nat.le_of_ble_eq_true rfl) rfl (by decide) (hdep 2 (dep_of (by kernel_rfl)))).trans (hI.B.q2 (hdep 2 (dep_of (by kernel_rfl))))) (lists hI.B.G).live hs.live ?_⟩
      intro u w2 hu hb2
      have hI2 := hI.grow hr hb2
      exact ⟨_, rfl, ⟨⟨hI2.B.G, hI2.B.l0, hI2.B.p1, hI2.B.q2, fun _ => hu, hI2.B.l4, hI2.B.p5, hI2.B.q6, hI2.B.a7, hI2.B.l8, hI2.B.p9, hI2.B.q10, hI2.B.a11, hI2.B.m12⟩, hI2.r13, hI2.s13⟩⟩
    · obtain rfl := Option.some.inj hoi
      have hI2 := hI.grow hr ((Below.refl w1.heap.size w1).alloc (Nat.le_refl _) (.cells #[] 88))
      refine ⟨rfl, wpLitT rfl (litF w1) ⟨_, rfl, ?_⟩⟩
      exact ⟨⟨hI2.B.G, hI2.B.l0, hI2.B.p1, hI2.B.q2, hI2.B.a3, fun _ => ⟨w1.heap.size, rfl, hsz1, heap_alloc_new w1 _⟩, hI2.B.p5, hI2.B.q6, hI2.B.a7, hI2.B.l8, hI2.B.p9, hI2.B.q10, hI2.B.a11, hI2.B.m12⟩, hI2.r13, hI2.s13⟩
    · obtain rfl := Option.some.inj hoi
      refine ⟨rfl, wpFieldT rfl (at_old (by kernel_rfl)) (fdD1 _ w1) ⟨_, rfl, ?_⟩⟩
      exact ⟨⟨hI.B.G, hI.B.l0, hI.B.p1, hI.B.q2, hI.B.a3, hI.B.l4, fun _ => rfl, hI.B.q6, hI.B.a7, hI.B.l8, hI.B.p9, hI.B.q10, hI.B.a11, hI.B.m12⟩, hI.r13, hI.s13⟩
    · obtain rfl := Option.some.inj hoi
      refine ⟨rfl, wpLoadT rfl ((at_new (by kernel_rfl) 5 (Nat.le_of_ble_eq_true rfl) rfl (by decide) (hdep 5 (dep_of (by kernel_rfl)))).trans (hI.B.p5 (hdep 5 (dep_of (by kernel_rfl))))) (ldFs (dk_cells (cell hI.B.G)).1.2.1) ⟨_, rfl, ?_⟩⟩
      exact ⟨⟨hI.B.G, hI.B.l0, hI.B.p1, hI.B.q2, hI.B.a3, hI.B.l4, hI.B.p5, fun _ => rfl, hI.B.a7, hI.B.l8, hI.B.p9, hI.B.q10, hI.B.a11, hI.B.m12⟩, hI.r13, hI.s13⟩
    · obtain rfl := Option.some.inj hoi
      obtain ⟨g, eg, hg0, hgb⟩ := hI.B.l4 (hdep 4 (dep_of (by kernel_rfl)))
      refine ⟨rfl, wpAppF rfl rfl W1.heap.size g ((at_new (by kernel_rfl) 4 (Nat.le_of_ble_eq_true rfl) rfl (by decide) (hdep 4 (dep_of (by kernel_rfl)))).trans eg) hgb hg0 _ d.safe ((at_new (by kernel_rfl) 6 (Nat.le_of_ble_eq_true rfl) rfl (by decide) (hdep 6 (dep_of (by kernel_rfl)))).trans (hI.B.q6 (hdep 6 (dep_of (by kernel_rfl))))) (lists hI.B.G).safe hs.safe ?_⟩
      intro u w2 hu hb2
      have hI2 := hI.grow hr hb2
      exact ⟨_, rfl, ⟨⟨hI2.B.G, hI2.B.l0, hI2.B.p1, hI2.B.q2, hI2.B.a3, hI2.B.l4, hI2.B.p5, hI2.B.q6, fun _ => hu, hI2.B.l8, hI2.B.p9, hI2.B.q10, hI2.B.a11, hI2.B.m12⟩, hI2.r13, hI2.s13⟩⟩
    · obtain rfl := Option.some.inj hoi
      have hI2 := hI.grow hr ((Below.refl w1.heap.size w1).alloc (Nat.le_refl _) (.cells #[] 36))
      refine ⟨rfl, wpLitT rfl (litO w1) ⟨_, rfl, ?_⟩⟩
      exact ⟨⟨hI2.B.G, hI2.B.l0, hI2.B.p1, hI2.B.q2, hI2.B.a3, hI2.B.l4, hI2.B.p5, hI2.B.q6, hI2.B.a7, fun _ => ⟨w1.heap.size, rfl, hsz1, heap_alloc_new w1 _⟩, hI2.B.p9, hI2.B.q10, hI2.B.a11, hI2.B.m12⟩, hI2.r13, hI2.s13⟩
    · obtain rfl := Option.some.inj hoi
      refine ⟨rfl, wpFieldT rfl (at_old (by kernel_rfl)) (fdD2 _ w1) ⟨_, rfl, ?_⟩⟩
      exact ⟨⟨hI.B.G, hI.B.l0, hI.B.p1, hI.B.q2, hI.B.a3, hI.B.l4, hI.B.p5, hI.B.q6, hI.B.a7, hI.B.l8, fun _ => rfl, hI.B.q10, hI.B.a11, hI.B.m12⟩, hI.r13, hI.s13⟩
    · obtain rfl := Option.some.inj hoi
      refine ⟨rfl, wpLoadT rfl ((at_new (by kernel_rfl) 9 (Nat.le_of_ble_eq_true rfl) rfl (by decide) (hdep 9 (dep_of (by kernel_rfl)))).trans (hI.B.p9 (hdep 9 (dep_of (by kernel_rfl))))) (ldOs (dk_cells (cell hI.B.G)).1.2.2) ⟨_, rfl, ?_⟩⟩
      exact ⟨⟨hI.B.G, hI.B.l0, hI.B.p1, hI.B.q2, hI.B.a3, hI.B.l4, hI.B.p5, hI.B.q6, hI.B.a7, hI.B.l8, hI.B.p9, fun _ => rfl, hI.B.a11, hI.B.m12⟩, hI.r13, hI.s13⟩
    · obtain rfl := Option.some.inj hoi
      obtain ⟨g, eg, hg0, hgb⟩ := hI.B.l8 (hdep 8 (dep_of (by kernel_rfl)))
      refine ⟨rfl, wpAppO rfl rfl W1.heap.size g ((at_new (by kernel_rfl) 8 (Nat.le_of_ble_eq_true rfl) rfl (by decide) (hdep 8 (dep_of (by kernel_rfl)))).trans eg) hgb hg0 _ d.ops ((at_new (by kernel_rfl) 10 (Nat.le_of_ble_eq_true rfl) rfl (by decide) (hdep 10 (dep_of (by kernel_rfl)))).trans (hI.B.q10 (hdep 10 (dep_of (by kernel_rfl))))) (lists hI.B.G).ops hs.ops ?_⟩
      intro u w2 hu hb2
      have hI2 := hI.grow hr hb2
      exact ⟨_, rfl, ⟨⟨hI2.B.G, hI2.B.l0, hI2.B.p1, hI2.B.q2, hI2.B.a3, hI2.B.l4, hI2.B.p5, hI2.B.q6, hI2.B.a7, hI2.B.l8, hI2.B.p9, hI2.B.q10, fun _ => hu, hI2.B.m12⟩, hI2.r13, hI2.s13⟩⟩
    · obtain rfl := Option.some.inj hoi
      have f1 := hI.B.a3 (hdep 3 (dep_of (by kernel_rfl)))
      have f2 := hI.B.a7 (hdep 7 (dep_of (by kernel_rfl)))
      have f3 := hI.B.a11 (hdep 11 (dep_of (by kernel_rfl)))
      obtain ⟨q1, n1, e1, _⟩ := f1.open
      obtain ⟨q2, n2, e2, _⟩ := f2.open
      obtain ⟨q3, n3, e3, _⟩ := f3.open
      rw [e1] at f1
      rw [e2] at f2
      rw [e3] at f3
      refine ⟨rfl, wpBuild3T rfl ((at_new (by kernel_rfl) 3 (Nat.le_of_ble_eq_true rfl) rfl (by decide) (hdep 3 (dep_of (by kernel_rfl)))).trans e1) ((at_new (by kernel_rfl) 7 (Nat.le_of_ble_eq_true rfl) rfl (by decide) (hdep 7 (dep_of (by kernel_rfl)))).trans e2) ((at_new (by kernel_rfl) 11 (Nat.le_of_ble_eq_true rfl) rfl (by decide) (hdep 11 (dep_of (by kernel_rfl)))).trans e3) (bDisk _ _ _ _ _ _ _ _ _ w1) ⟨_, rfl, ?_⟩⟩
      exact ⟨⟨hI.B.G, hI.B.l0, hI.B.p1, hI.B.q2, hI.B.a3, hI.B.l4, hI.B.p5, hI.B.q6, hI.B.a7, hI.B.l8, hI.B.p9, hI.B.q10, hI.B.a11, fun _ => ⟨_, _, _, rfl, f1, f2, f3⟩⟩, hI.r13, hI.s13⟩
    · obtain rfl := Option.some.inj hoi
      obtain ⟨x, y, z, e12, hd12⟩ := hI.B.m12 (hdep 12 (dep_of (by kernel_rfl)))
      have hone : (#[x, y, z] : Array Value).all (·.oneCell') = true := by
        obtain ⟨_, _, rfl, _⟩ := hd12.live.open
        obtain ⟨_, _, rfl, _⟩ := hd12.safe.open
        obtain ⟨_, _, rfl, _⟩ := hd12.ops.open
        simp [Value.oneCell']
      have hold := hI.r13 hL
      have hg : w1.grownBy (w1.setRow (w.heap.size + 1) #[x, y, z]) (some (w.heap.size + 1)) := grw_setRow (grw_refl _ _) _
      refine ⟨rfl, wpStoreT rfl (at_old (by kernel_rfl)) ((at_new (by kernel_rfl) 12 (Nat.le_of_ble_eq_true rfl) rfl (by decide) (hdep 12 (dep_of (by kernel_rfl)))).trans e12) hold (diskSz x y z) rfl hone ⟨_, rfl, ?_⟩⟩
      have hB2 := hI.B.grow hr hg
      exact ⟨⟨hB2.G, hB2.l0, hB2.p1, hB2.q2, hB2.a3, hB2.l4, hB2.p5, hB2.q6, hB2.a7, hB2.l8, hB2.p9, hB2.q10, hB2.a11, hB2.m12⟩, (fun h => by cases h), fun _ => ⟨x, y, z, setRow_heap w1 (w.heap.size + 1) _ _ _ (0, 0) hold, diskNew hd12 hr hg⟩⟩
  intro v x1 hI
  obtain ⟨x, y, z, hrow, hd⟩ := hI.s13 rfl
  have hG := hI.B.G
  have hfin : Below w.heap.size w x1 := below_grw hB1 hG (by omega) (fun q hq => by have := Option.some.inj hq; omega)
  have HD := Lib.hid (hd.mono (show w.heap.size ≤ W1.heap.size by omega))
  clear hI hd
  simp only [Go.My.putL, Nat.zero_add, Nat.reduceAdd, Act.put, List.setIfInBounds_toArray, List.set_cons_zero, List.set_cons_succ]
  generalize v 0 = y0 at *
  generalize v 1 = y1 at *
  generalize v 2 = y2 at *
  generalize v 3 = y3 at *
  generalize v 4 = y4 at *
  generalize v 5 = y5 at *
  generalize v 6 = y6 at *
  generalize v 7 = y7 at *
  generalize v 8 = y8 at *
  generalize v 9 = y9 at *
  generalize v 10 = y10 at *
  generalize v 11 = y11 at *
  generalize v 12 = y12 at *
  go_wp2
  refine bodyPost_ret (v := .agg #[x, y, z]) (results_cell_row Try.results75 _ _ (w.heap.size + 1) 27 _ (0, 0) _ rfl hrow Try.underlying27 rfl (by kernel_rfl)) rfl ⟨_, _, _, rfl, HD.out, hfin⟩
theorem copy_s (v1 v2 v3 : Value) (d : DiskT) (w : World) (h : DiskAt 0 v1 v2 v3 d w) (hs : d.small) :
    Calls Try.prog 75 #[.agg #[v1, v2, v3]] w fun e w' => ∃ u1 u2 u3, e = .returned (.agg #[u1, u2, u3]) ∧ DiskAt w.heap.size u1 u2 u3 d w' ∧ Below w.heap.size w w' :=
  copy_sn v1 v2 v3 d w h.toIn hs

end Go.Proofs.Ytepefbfmjjnamaa

/- The specification: an operation on a right disk; Do. -/
namespace Go.Proofs.Ytepefbfmjjnamaa
open Go.RowKit Go.My Go.Lib
set_option linter.unusedVariables false

def actD (d : DiskT) (op : DOpT) : DiskT := ⟨doL d.live d.ops op, d.safe, doO d.live d.ops op⟩
theorem actD_no {d : DiskT} {op : DOpT} (h : doC d.live d.ops op ≠ 0) : actD d op = d := by unfold actD doL doO; rw [if_neg h, if_neg h]
theorem actD_yes {d : DiskT} {op : DOpT} (h : doC d.live d.ops op = 0) : actD d op = ⟨aftL d.live op, d.safe, d.ops ++ [op]⟩ := by unfold actD doL doO; rw [if_pos h, if_pos h]

set_option maxRecDepth 20000 in
set_option maxHeartbeats 4000000 in
theorem act_sn (v1 v2 v3 : Value) (d : DiskT) (k : Int) (n t x : ByteArray) (w : World) (h : DiskIn v1 v2 v3 d w) (hf : filesB d.live = true) (h200 : d.ops.length ≤ 200) (hs : d.small) (hk : (Lit.int .i64 k).wf = true) (hn : n.size ≤ 1048580) (ht : t.size ≤ 1048580) (hx : x.size ≤ 1048576) :
    Calls Try.prog 66 #[.agg #[v1, v2, v3], .agg #[.int .i64 k, .string n, .string t, .string x]] w fun e w' => ∃ u1 u2 u3, e = .returned (.tuple #[.agg #[u1, u2, u3], .int .i64 (doC d.live d.ops (k, n, t, x))]) ∧ DiskAt w.heap.size u1 u2 u3 (actD d (k, n, t, x)) w' ∧ Below w.heap.size w w' := by
  have hFB := filesB_of hf
  have CC := Lib.hid (fun W (hW : Below w.heap.size w W) => copy_sn v1 v2 v3 d W (h.below hW) hs)
  have CF := Lib.hid (fun W => form_s k n t x W hk (by omega) (by omega))
  have CD := Lib.hid (fun W (hW : Below w.heap.size w W) => do_s v1 d.live k n t x W (h.live.below hW) hs.live (by omega) (fun a ha => by have := data_le ha; have := hFB.sum; omega))
  have HSM := Lib.hid (show ∀ l', opDo d.live (k, n, t, x) = some l' → l'.length ≤ 61 ∧ dataSum l' ≤ 2000000 ∧ ∀ a ∈ l', a.1.size ≤ 1048580 from fun l' hh => opDo_small hFB hh hn ht hx)
  have HCC : Hid (doC d.live d.ops (k, n, t, x) = (if opB (k, n, t, x) = false then 2 else if findB d.live (k, n, t, x) = false then 3 else if 200 ≤ d.ops.length then 4 else if filesB (aftL d.live (k, n, t, x)) = false then 4 else 0)) := rfl
  have HNO := Lib.hid (fun h => actD_no (d := d) (op := (k, n, t, x)) h)
  have HYES := Lib.hid (fun h => actD_yes (d := d) (op := (k, n, t, x)) h)
  have HOA := Lib.hid (opDo_aft d.live (k, n, t, x))
  have HFB := Lib.hid (And.intro h200 hFB)
  obtain ⟨p1, m1, rfl, _⟩ := h.live.open
  obtain ⟨p2, m2, rfl, _⟩ := h.safe.open
  obtain ⟨p3, m3, rfl, _⟩ := h.ops.open
  clear h hf hs hk hn ht hx hFB h200
  obtain ⟨C, hC⟩ : ∃ C, doC d.live d.ops (k, n, t, x) = C := ⟨_, rfl⟩
  rw [hC] at HCC HNO HYES ⊢
  clear hC
  generalize actD d (k, n, t, x) = AD at HNO HYES ⊢
  have hB0 : Below w.heap.size w (((w.alloc (.cells #[.slice p1 d.live.length m1, .slice p2 d.safe.length m2, .slice p3 d.ops.length m3] 27)).alloc (.cells #[.int .i64 k, .string n, .string t, .string x] 36)).alloc (.cells #[.slice none 0 0, .slice none 0 0, .slice none 0 0] 27)) := (((Below.refl _ _).alloc (Nat.le_refl _) _).alloc (by simp) _).alloc (by simp; omega) _
  go_enter Try.func66, Try.ntmps66
  go_wp2_with fail
  refine (CF.out _).mono ?_
  rintro e w2 ⟨rfl, hb2⟩
  obtain ⟨hB2, xA, xO, xR, hsz2⟩ := boxes3 w _ _ _ _ hb2
  obtain ⟨⟨b0, b1, b2⟩, _⟩ := dk_cells xA
  obtain ⟨⟨o0, o1, o2, o3⟩, _⟩ := dop_cells xO
  obtain ⟨⟨r0, r1, r2⟩, rf⟩ := dk_cells xR
  have rf0 := rf 0
  have rf1 := rf 1
  have rf2 := rf 2
  have HX := Lib.hid (And.intro xA (And.intro xO xR))
  clear xA xO xR rf hb2
  cases c1 : opB (k, n, t, x) with
  | false =>
    have HR : Hid (C = 2) := by show _ = _; rw [HCC.out, if_pos c1]
    clear c1
    go_wp2_with fail
    refine (CC.out _ hB2).mono ?_
    rintro e wz ⟨u1, u2, u3, rfl, hD, hbz⟩
    obtain ⟨q1, n1, rfl, _⟩ := hD.live.open
    obtain ⟨q2, n2, rfl, _⟩ := hD.safe.open
    obtain ⟨q3, n3, rfl, _⟩ := hD.ops.open
    have yR := (hbz.block (w.heap.size + 1 + 1) (Array.getElem?_eq_some_iff.1 HX.out.2.2).1).trans HX.out.2.2
    have hBz := hB2.trans (hbz.mono hB2.size)
    have HD := Lib.hid (hD.mono hB2.size)
    have HY := Lib.hid yR
    have HBZ := Lib.hid hBz
    have HAD := Lib.hid (HNO.out (by rw [HR.out]; decide))
    clear b0 b1 b2 o0 o1 o2 o3 r0 r1 r2 rf0 rf1 rf2
    obtain ⟨⟨r0, r1, r2⟩, rf⟩ := dk_cells yR
    have rf0 := rf 0
    have rf1 := rf 1
    have rf2 := rf 2
    clear hD hbz hBz yR rf
    go_wp2
    refine bodyPost_ret (v := .tuple #[.agg #[.slice q1 d.live.length n1, .slice q2 d.safe.length n2, .slice q3 d.ops.length n3], .int .i64 2]) (results_row_u Try.results66 _ _ (w.heap.size + 1 + 1) 27 _ (0, 0) _ rfl (set3 HY.out _ _ _) Try.underlying27 rfl (by kernel_rfl)) rfl ⟨_, _, _, by rw [HR.out], by rw [HAD.out]; exact ⟨RowL.kept HD.out.live (grw_set3 _ _ _ _ _) (rowK HD.out.live HY.out (by decide)), RowL.kept HD.out.safe (grw_set3 _ _ _ _ _) (rowK HD.out.safe HY.out (by decide)), RowL.kept HD.out.ops (grw_set3 _ _ _ _ _) (rowK HD.out.ops HY.out (by decide))⟩, below_grw HBZ.out (grw_set3 _ _ _ _ _) HBZ.out.size (fun q hq => by cases hq; omega)⟩
  | true =>
    rw [if_neg (by rw [c1]; decide)] at HCC
    have HB2 := Lib.hid hB2
    clear c1
    go_wp2_with fail
    refine (CD.out _ hB2).mono ?_
    rintro e w3 ⟨v', l', b, rfl, hl', hop, hb3⟩
    have hB3 := hB2.trans (hb3.mono hB2.size)
    have xA := (hb3.block _ (Array.getElem?_eq_some_iff.1 HX.out.1).1).trans HX.out.1
    have xO := (hb3.block _ (Array.getElem?_eq_some_iff.1 HX.out.2.1).1).trans HX.out.2.1
    have xR := (hb3.block _ (Array.getElem?_eq_some_iff.1 HX.out.2.2).1).trans HX.out.2.2
    have hL' := hl'.mono HB2.out.size
    have HOP := Lib.hid hop
    clear b0 b1 b2 o0 o1 o2 o3 r0 r1 r2 rf0 rf1 rf2 hb3 hB2 hl' hop HX
    obtain ⟨⟨b0, b1, b2⟩, _⟩ := dk_cells xA
    obtain ⟨⟨o0, o1, o2, o3⟩, _⟩ := dop_cells xO
    obtain ⟨⟨r0, r1, r2⟩, rf⟩ := dk_cells xR
    have rf0 := rf 0
    have rf1 := rf 1
    have rf2 := rf 2
    have HX := Lib.hid (And.intro xA (And.intro xO xR))
    clear xA xO xR rf
    obtain ⟨pl, cl, rfl, _⟩ := hL'.open
    cases b with
    | false =>
      have HR : Hid (C = 3) := by
        show _ = _
        have := HOA.out.symm.trans HOP.out
        cases c2 : findB d.live (k, n, t, x) with
        | true => rw [c2] at this; cases this
        | false => rw [HCC.out, if_pos c2]
      go_wp2_with fail
      refine (CC.out _ hB3).mono ?_
      rintro e wz ⟨u1, u2, u3, rfl, hD, hbz⟩
      obtain ⟨q1, n1, rfl, _⟩ := hD.live.open
      obtain ⟨q2, n2, rfl, _⟩ := hD.safe.open
      obtain ⟨q3, n3, rfl, _⟩ := hD.ops.open
      have yR := (hbz.block (w.heap.size + 1 + 1) (Array.getElem?_eq_some_iff.1 HX.out.2.2).1).trans HX.out.2.2
      have hBz := hB3.trans (hbz.mono hB3.size)
      have HD := Lib.hid (hD.mono hB3.size)
      have HY := Lib.hid yR
      have HBZ := Lib.hid hBz
      have HAD := Lib.hid (HNO.out (by rw [HR.out]; decide))
      clear b0 b1 b2 o0 o1 o2 o3 r0 r1 r2 rf0 rf1 rf2
      obtain ⟨⟨r0, r1, r2⟩, rf⟩ := dk_cells yR
      have rf0 := rf 0
      have rf1 := rf 1
      have rf2 := rf 2
      clear hD hbz hBz yR rf
      go_wp2
      refine bodyPost_ret (v := .tuple #[.agg #[.slice q1 d.live.length n1, .slice q2 d.safe.length n2, .slice q3 d.ops.length n3], .int .i64 3]) (results_row_u Try.results66 _ _ (w.heap.size + 1 + 1) 27 _ (0, 0) _ rfl (set3 HY.out _ _ _) Try.underlying27 rfl (by kernel_rfl)) rfl ⟨_, _, _, by rw [HR.out], by rw [HAD.out]; exact ⟨RowL.kept HD.out.live (grw_set3 _ _ _ _ _) (rowK HD.out.live HY.out (by decide)), RowL.kept HD.out.safe (grw_set3 _ _ _ _ _) (rowK HD.out.safe HY.out (by decide)), RowL.kept HD.out.ops (grw_set3 _ _ _ _ _) (rowK HD.out.ops HY.out (by decide))⟩, below_grw HBZ.out (grw_set3 _ _ _ _ _) HBZ.out.size (fun q hq => by cases hq; omega)⟩
    | true =>
      have hfb : findB d.live (k, n, t, x) = true ∧ aftL d.live (k, n, t, x) = l' := by
        have := HOA.out.symm.trans HOP.out
        cases c2 : findB d.live (k, n, t, x) with
        | true => rw [c2] at this; exact ⟨rfl, Option.some.inj this⟩
        | false => rw [c2] at this; cases this
      rw [if_neg (by rw [hfb.1]; decide)] at HCC
      rw [hfb.2] at HCC HYES
      have HSL := Lib.hid (HSM.out l' HOP.out)
      have CK := Lib.hid (fun W (hW : Below w3.heap.size w3 W) => files_s (.slice pl l'.length cl) l' W ((hL'.mono (Nat.zero_le _)).below hW) (by have := HSL.out.1; omega) (by have := HSL.out.2.1; omega) (fun a ha => by have := HSL.out.2.2 a ha; omega))
      have HL' := Lib.hid hL'
      have hl61 : l'.length ≤ 61 := HSL.out.1
      clear hfb hL'
      have hoI : (d.ops.length : Int) ≤ 200 := by have := HFB.out.1; omega
      by_cases c3 : 200 ≤ d.ops.length
      · have hEq : (d.ops.length : Int) = 200 := by omega
        have hEq' : ((d.ops.length : Int) == 200) = true := by rw [hEq]; rfl
        have HR : Hid (C = 4) := by show _ = _; rw [HCC.out, if_pos c3]
        clear c3
        go_wp2_with fail
        refine (CC.out _ hB3).mono ?_
        rintro e wz ⟨u1, u2, u3, rfl, hD, hbz⟩
        obtain ⟨q1, n1, rfl, _⟩ := hD.live.open
        obtain ⟨q2, n2, rfl, _⟩ := hD.safe.open
        obtain ⟨q3, n3, rfl, _⟩ := hD.ops.open
        have yR := (hbz.block (w.heap.size + 1 + 1) (Array.getElem?_eq_some_iff.1 HX.out.2.2).1).trans HX.out.2.2
        have hBz := hB3.trans (hbz.mono hB3.size)
        have HD := Lib.hid (hD.mono hB3.size)
        have HY := Lib.hid yR
        have HBZ := Lib.hid hBz
        have HAD := Lib.hid (HNO.out (by rw [HR.out]; decide))
        clear b0 b1 b2 o0 o1 o2 o3 r0 r1 r2 rf0 rf1 rf2
        obtain ⟨⟨r0, r1, r2⟩, rf⟩ := dk_cells yR
        have rf0 := rf 0
        have rf1 := rf 1
        have rf2 := rf 2
        clear hD hbz hBz yR rf
        go_wp2
        refine bodyPost_ret (v := .tuple #[.agg #[.slice q1 d.live.length n1, .slice q2 d.safe.length n2, .slice q3 d.ops.length n3], .int .i64 4]) (results_row_u Try.results66 _ _ (w.heap.size + 1 + 1) 27 _ (0, 0) _ rfl (set3 HY.out _ _ _) Try.underlying27 rfl (by kernel_rfl)) rfl ⟨_, _, _, by rw [HR.out], by rw [HAD.out]; exact ⟨RowL.kept HD.out.live (grw_set3 _ _ _ _ _) (rowK HD.out.live HY.out (by decide)), RowL.kept HD.out.safe (grw_set3 _ _ _ _ _) (rowK HD.out.safe HY.out (by decide)), RowL.kept HD.out.ops (grw_set3 _ _ _ _ _) (rowK HD.out.ops HY.out (by decide))⟩, below_grw HBZ.out (grw_set3 _ _ _ _ _) HBZ.out.size (fun q hq => by cases hq; omega)⟩
      · rw [if_neg c3] at HCC
        have hEq' : ((d.ops.length : Int) == 200) = false := by
          have : ¬ ((d.ops.length : Int) = 200) := by omega
          simpa using this
        have HC3 := Lib.hid c3
        clear c3
        have HB3 := Lib.hid hB3
        obtain ⟨fb, hfb⟩ : ∃ b, filesB l' = b := ⟨_, rfl⟩
        rw [hfb] at HCC CK
        clear hfb
        go_wp2_with fail
        refine (CK.out _ (Below.refl _ _)).mono ?_
        rintro e w4 ⟨rfl, hb4⟩
        have hB4 := hB3.trans (hb4.mono hB3.size)
        have xA := (hb4.block _ (Array.getElem?_eq_some_iff.1 HX.out.1).1).trans HX.out.1
        have xO := (hb4.block _ (Array.getElem?_eq_some_iff.1 HX.out.2.1).1).trans HX.out.2.1
        have xR := (hb4.block _ (Array.getElem?_eq_some_iff.1 HX.out.2.2).1).trans HX.out.2.2
        have HL4 := Lib.hid (HL'.out.below hb4)
        clear b0 b1 b2 o0 o1 o2 o3 r0 r1 r2 rf0 rf1 rf2 hb4 hB3 HX
        obtain ⟨⟨b0, b1, b2⟩, _⟩ := dk_cells xA
        obtain ⟨⟨o0, o1, o2, o3⟩, _⟩ := dop_cells xO
        obtain ⟨⟨r0, r1, r2⟩, rf⟩ := dk_cells xR
        have rf0 := rf 0
        have rf1 := rf 1
        have rf2 := rf 2
        have HX := Lib.hid (And.intro xA (And.intro xO xR))
        clear xA xO xR rf
        cases fb with
        | false =>
          have HR : Hid (C = 4) := by show _ = _; rw [HCC.out, if_pos rfl]
          go_wp2_with fail
          refine (CC.out _ hB4).mono ?_
          rintro e wz ⟨u1, u2, u3, rfl, hD, hbz⟩
          obtain ⟨q1, n1, rfl, _⟩ := hD.live.open
          obtain ⟨q2, n2, rfl, _⟩ := hD.safe.open
          obtain ⟨q3, n3, rfl, _⟩ := hD.ops.open
          have yR := (hbz.block (w.heap.size + 1 + 1) (Array.getElem?_eq_some_iff.1 HX.out.2.2).1).trans HX.out.2.2
          have hBz := hB4.trans (hbz.mono hB4.size)
          have HD := Lib.hid (hD.mono hB4.size)
          have HY := Lib.hid yR
          have HBZ := Lib.hid hBz
          have HAD := Lib.hid (HNO.out (by rw [HR.out]; decide))
          clear b0 b1 b2 o0 o1 o2 o3 r0 r1 r2 rf0 rf1 rf2
          obtain ⟨⟨r0, r1, r2⟩, rf⟩ := dk_cells yR
          have rf0 := rf 0
          have rf1 := rf 1
          have rf2 := rf 2
          clear hD hbz hBz yR rf
          go_wp2
          refine bodyPost_ret (v := .tuple #[.agg #[.slice q1 d.live.length n1, .slice q2 d.safe.length n2, .slice q3 d.ops.length n3], .int .i64 4]) (results_row_u Try.results66 _ _ (w.heap.size + 1 + 1) 27 _ (0, 0) _ rfl (set3 HY.out _ _ _) Try.underlying27 rfl (by kernel_rfl)) rfl ⟨_, _, _, by rw [HR.out], by rw [HAD.out]; exact ⟨RowL.kept HD.out.live (grw_set3 _ _ _ _ _) (rowK HD.out.live HY.out (by decide)), RowL.kept HD.out.safe (grw_set3 _ _ _ _ _) (rowK HD.out.safe HY.out (by decide)), RowL.kept HD.out.ops (grw_set3 _ _ _ _ _) (rowK HD.out.ops HY.out (by decide))⟩, below_grw HBZ.out (grw_set3 _ _ _ _ _) HBZ.out.size (fun q hq => by cases hq; omega)⟩
        | true =>
          have HR : Hid (C = 0) := by show _ = _; rw [HCC.out, if_neg (by decide)]
          have HAD := Lib.hid (HYES.out HR.out)
          go_wp2_with fail
          refine (CC.out _ hB4).mono ?_
          rintro e w5 ⟨u1, u2, u3, rfl, hD, hb5⟩
          obtain ⟨q1, n1, rfl, _⟩ := hD.live.open
          obtain ⟨q2, n2, rfl, _⟩ := hD.safe.open
          obtain ⟨q3, n3, rfl, _⟩ := hD.ops.open
          have hB5 := hB4.trans (hb5.mono hB4.size)
          have hb6 : Below w5.heap.size w5 (w5.alloc (.cells #[.slice pl l'.length cl, .slice q2 d.safe.length n2, .slice q3 d.ops.length n3] 27)) := (Below.refl _ _).alloc (Nat.le_refl _) _
          have e6 := heap_alloc_new w5 (.cells #[.slice pl l'.length cl, .slice q2 d.safe.length n2, .slice q3 d.ops.length n3] 27)
          have hs6' : (w5.alloc (.cells #[.slice pl l'.length cl, .slice q2 d.safe.length n2, .slice q3 d.ops.length n3] 27)).heap.size = w5.heap.size + 1 := by simp
          have hb56 := hb5.trans (hb6.mono hb5.size)
          have xO6 := (hb56.block _ (Array.getElem?_eq_some_iff.1 HX.out.2.1).1).trans HX.out.2.1
          have xR6 := (hb56.block _ (Array.getElem?_eq_some_iff.1 HX.out.2.2).1).trans HX.out.2.2
          have hT : w.heap.size + 1 + 1 + 1 ≤ w5.heap.size := Nat.le_trans (Array.getElem?_eq_some_iff.1 HX.out.2.2).1 hb5.size
          have L6 := RowL.below HL4.out hb56
          have S6 := RowL.below hD.safe hb6
          have O6 := RowL.below hD.ops hb6
          have hB6 : Below w.heap.size w (w5.alloc (.cells #[.slice pl l'.length cl, .slice q2 d.safe.length n2, .slice q3 d.ops.length n3] 27)) := hB5.trans (hb6.mono hB5.size)
          have h4 : w.heap.size ≤ w4.heap.size ∧ w4.heap.size ≤ w5.heap.size := ⟨hB4.size, hb5.size⟩
          have HH := Lib.hid (And.intro hT h4)
          have HB4 := Lib.hid hB4
          have HXX := Lib.hid (And.intro e6 (And.intro hs6' (And.intro L6 (And.intro S6 (And.intro O6 (And.intro xO6 (And.intro xR6 hB6)))))))
          clear b0 b1 b2 o0 o1 o2 o3 r0 r1 r2 rf0 rf1 rf2 hb5 hb6 hb56 hB4 hB5 hD hT h4 e6 hs6' L6 S6 O6 xO6 xR6 hB6
          go_upto_region 10 with (fail)
          obtain ⟨e6, hs6', L6, S6, O6, xO6, xR6, hB6⟩ := HXX.out
          clear HXX
          generalize (w5.alloc (.cells #[.slice pl l'.length cl, .slice q2 d.safe.length n2, .slice q3 d.ops.length n3] 27)) = W6 at e6 hs6' L6 S6 O6 xO6 xR6 hB6 ⊢
          obtain ⟨⟨t0, t1, t2⟩, tf⟩ := dk_cells e6
          have tf2 := tf 2
          obtain ⟨⟨o0, o1, o2, o3⟩, _⟩ := dop_cells xO6
          obtain ⟨i0, hi, hz0, hz1, hz2⟩ := info_parts info_DOp
          have hR6 : W6.ownsRow w4.heap.size 36 4 (.slice q3 d.ops.length n3) d.ops.length (d.ops.flatMap dOpC) := O6
          have E7 := Lib.hid (show ∀ w7 : World, (W6.alloc (.cells #[.int .i64 k, .string n, .string t, .string x] 36)).grownBy w7 (Value.slice q3 d.ops.length n3).ownBlock → w7.heap[w5.heap.size]? = some (.cells #[.slice pl l'.length cl, .slice q2 d.safe.length n2, .slice q3 d.ops.length n3] 27 (0, 0)) from fun w7 hg7 => by
            have b := (Below.refl W6.heap.size W6).alloc (Nat.le_refl _) (.cells #[.int .i64 k, .string n, .string t, .string x] 36)
            rw [hg7.block w5.heap.size (by simp; omega) (fun c => row_kind O6 e6 (by decide) c.symm)]
            exact (b.block w5.heap.size (by omega)).trans e6)
          have HF := Lib.hid (And.intro L6 (And.intro S6 (And.intro O6 (And.intro xR6 (And.intro hB6 hs6')))))
          have hsW : w4.heap.size ≤ W6.heap.size := by have := HH.out.2.2; omega
          have hol : d.ops.length < 200 := by have := HC3.out; omega
          clear L6 S6 O6 xR6 xO6 e6 hB6 hs6' tf
          go_upto_region 11 with (at_builtin; refine wpList_append_lies _ rfl _ _ 25 rfl w4.heap.size 36 i0 (.agg #[.int .i64 0, .string ByteArray.empty, .string ByteArray.empty, .string ByteArray.empty]) 4 56 Try.underlying25 hi hz0 hz1 hz2 rfl (by decide) (.slice q3 d.ops.length n3) d.ops.length _ rfl (hR6.alloc _) ⟨W6.heap.size, 0, none⟩ 1 1 [_, _, _, _] rfl rfl (World.news_of_block (cs := #[_, _, _, _]) (t := 36) (fr := (0, 0)) (heap_alloc_new W6 _)) (by simp [Value.oneCell']) (by omega) (by unfold maxLen; omega) (by omega) (by simp; omega) (W6.heap.size + 1) (by simp) ?_; intro g2 cap2 w7 hown2 hgrow2 hat hlt2; have e7 := E7.out _ hgrow2; have d27 : w7.cell? ⟨w5.heap.size, 2, none⟩ = some (.slice q3 d.ops.length n3) := cell_of_row w7 _ 2 _ _ (0, 0) e7; have f27 : w7.frozen? ⟨w5.heap.size, 2, none⟩ = false := frozen_of_row w7 _ 2 _ _ e7)
          obtain ⟨L6, S6, O6, xR6, hB6, hs6'⟩ := HF.out
          have R := row_push (b := (k, n, t, x)) hR6 (Below.refl _ _) hsW rfl rfl hown2 hgrow2
          have gA : W6.grownBy w7 (Value.slice q3 d.ops.length n3).ownBlock := grw_trans (grw_of_below ((Below.refl W6.heap.size W6).alloc (Nat.le_refl _) _) _) hgrow2
          have L7 := RowL.kept L6 gA (row_types L6 O6 (by decide))
          have S7 := RowL.kept S6 gA (row_types S6 O6 (by decide))
          have hr4 : w.heap.size + 1 + 1 < w4.heap.size := (Array.getElem?_eq_some_iff.1 HX.out.2.2).1
          have xR7 := (R.2.block (w.heap.size + 1 + 1) hr4).trans xR6
          have hB7 := hB6.trans (R.2.mono HH.out.2.1)
          have hT5 := HH.out.1
          have h45 := HH.out.2
          have g8 : w7.grownBy (w7.setCell ⟨w5.heap.size, 2, none⟩ (.slice (some ⟨g2, 0, none⟩) (d.ops.length + 1) cap2)) (some w5.heap.size) := grw_set (grw_refl _ _) _ _
          have e8 := heap_setCell_same w7 w5.heap.size 2 _ _ (.slice (some ⟨g2, 0, none⟩) (d.ops.length + 1) cap2) e7
          have L8 := RowL.kept L7 g8 (rowK L7 e7 (by decide))
          have S8 := RowL.kept S7 g8 (rowK S7 e7 (by decide))
          have O8 := RowL.kept R.1 g8 (rowK R.1 e7 (by decide))
          have xR8 := (g8.block (w.heap.size + 1 + 1) (by have := R.2.size; omega) (fun c => by have := Option.some.inj c; omega)).trans xR7
          have hB8 := below_grw hB7 g8 hB7.size (fun q hq => by have := Option.some.inj hq; omega)
          clear R gA L7 S7 xR7 hB7 g8 e7 d27 f27 hown2 hgrow2 hat hlt2 L6 S6 O6 xR6 hB6 hs6' hR6 t0 t1 t2 tf2 o0 o1 o2 o3 E7 HF hi hz0 hz1 hz2
          generalize w7.setCell ⟨w5.heap.size, 2, none⟩ (.slice (some ⟨g2, 0, none⟩) (d.ops.length + 1) cap2) = w8 at e8 L8 S8 O8 xR8 hB8 ⊢
          have HQ := Lib.hid (And.intro L8 (And.intro S8 (And.intro O8 (And.intro xR8 hB8))))
          obtain ⟨⟨t0, t1, t2⟩, _⟩ := dk_cells e8
          obtain ⟨⟨r0, r1, r2⟩, rf⟩ := dk_cells xR8
          have rf0 := rf 0
          have rf1 := rf 1
          have rf2 := rf 2
          clear rf L8 S8 O8 xR8 hB8 e8
          go_wp2
          obtain ⟨L8, S8, O8, xR8, hB8⟩ := HQ.out
          refine bodyPost_ret (v := .tuple #[.agg #[.slice pl l'.length cl, .slice q2 d.safe.length n2, .slice (some ⟨g2, 0, none⟩) (d.ops.length + 1) cap2], .int .i64 0]) (results_row_u Try.results66 _ _ (w.heap.size + 1 + 1) 27 _ (0, 0) _ rfl (set3 xR8 _ _ _) Try.underlying27 rfl (by kernel_rfl)) rfl ⟨_, _, _, by rw [HR.out], by rw [HAD.out]; exact ⟨RowL.kept L8 (grw_set3 _ _ _ _ _) (rowK L8 xR8 (by decide)), RowL.kept (S8.mono HH.out.2.1) (grw_set3 _ _ _ _ _) (rowK S8 xR8 (by decide)), RowL.kept (O8.mono HH.out.2.1) (grw_set3 _ _ _ _ _) (rowK O8 xR8 (by decide))⟩, below_grw hB8 (grw_set3 _ _ _ _ _) hB8.size (fun q hq => by cases hq; omega)⟩
theorem act_s (v1 v2 v3 : Value) (d : DiskT) (k : Int) (n t x : ByteArray) (w : World) (h : DiskAt 0 v1 v2 v3 d w) (hf : filesB d.live = true) (h200 : d.ops.length ≤ 200) (hs : d.small) (hk : (Lit.int .i64 k).wf = true) (hn : n.size ≤ 1048580) (ht : t.size ≤ 1048580) (hx : x.size ≤ 1048576) :
    Calls Try.prog 66 #[.agg #[v1, v2, v3], .agg #[.int .i64 k, .string n, .string t, .string x]] w fun e w' => ∃ u1 u2 u3, e = .returned (.tuple #[.agg #[u1, u2, u3], .int .i64 (doC d.live d.ops (k, n, t, x))]) ∧ DiskAt w.heap.size u1 u2 u3 (actD d (k, n, t, x)) w' ∧ Below w.heap.size w w' :=
  act_sn v1 v2 v3 d k n t x w h.toIn hf h200 hs hk hn ht hx

theorem doD_act {d : DiskT} {op : DOpT} (h : diskB d = true) : doD d op = actD d op := doD_yes h
set_option maxRecDepth 20000 in
set_option maxHeartbeats 2000000 in
theorem doD_sn (v1 v2 v3 : Value) (d : DiskT) (k : Int) (n t x : ByteArray) (w : World) (h : DiskIn v1 v2 v3 d w) (hd : d.fit) (hk : (Lit.int .i64 k).wf = true) (hn : n.size ≤ 1048576) (ht : t.size ≤ 1048576) (hx : x.size ≤ 1048576) :
    Calls Try.prog 24 #[.agg #[v1, v2, v3], .agg #[.int .i64 k, .string n, .string t, .string x]] w fun e w' => ∃ u1 u2 u3, e = .returned (.tuple #[.agg #[u1, u2, u3], .int .i64 (doR d (k, n, t, x))]) ∧ DiskAt w.heap.size u1 u2 u3 (doD d (k, n, t, x)) w' ∧ Below w.heap.size w w' := by
  have C := Lib.hid (fun W (hW : Below w.heap.size w W) => disk_sn v1 v2 v3 d W (h.below hW) hd)
  have CA := Lib.hid (fun W (hW : Below w.heap.size w W) (hb : diskB d = true) => act_sn v1 v2 v3 d k n t x W (h.below hW) (diskB_live hb) (diskB_ops hb) hd.small hk (Nat.le_trans hn (by decide)) (Nat.le_trans ht (by decide)) hx)
  obtain ⟨p1, m1, rfl, _, _, _⟩ := h.live.open
  obtain ⟨p2, m2, rfl, _, _, _⟩ := h.safe.open
  obtain ⟨p3, m3, rfl, _, _, _⟩ := h.ops.open
  clear h hd hk hn ht hx
  go_enter Try.func24, Try.ntmps24
  go_wp2_with fail
  refine (C.out _ ?_).mono ?_
  · exact (((Below.refl _ _).alloc (Nat.le_refl _) _).alloc (by simp) _).alloc (by simp; omega) _
  rintro e w2 ⟨rfl, hb2⟩
  obtain ⟨hB2, xA, xO, xR, hsz2⟩ := boxes3 w _ _ _ _ hb2
  have HB2 := Lib.hid hB2
  have HXR := Lib.hid xR
  obtain ⟨⟨r0, r1, r2⟩, rf⟩ := dk_cells xR
  obtain ⟨⟨b0, b1, b2⟩, _⟩ := dk_cells xA
  obtain ⟨⟨o0, o1, o2, o3⟩, _⟩ := dop_cells xO
  have rf0 := rf 0
  have rf1 := rf 1
  have rf2 := rf 2
  clear hb2 C hB2 xA xR rf xO
  cases hk : diskB d with
  | false =>
    have HV := Lib.hid (doD_no (op := (k, n, t, x)) hk)
    have HR := Lib.hid (doR_no (op := (k, n, t, x)) hk)
    clear hk
    go_wp2
    have gz := grw_set3 w2 (w.heap.size + 1 + 1) (.slice none 0 0) (.slice none 0 0) (.slice none 0 0)
    refine bodyPost_ret (v := .tuple #[.agg #[.slice none 0 0, .slice none 0 0, .slice none 0 0], .int .i64 1]) (results_row_u Try.results24 _ _ (w.heap.size + 1 + 1) 27 _ (0, 0) _ rfl (set3 HXR.out (.slice none 0 0) (.slice none 0 0) (.slice none 0 0)) Try.underlying27 rfl (by kernel_rfl)) rfl ⟨_, _, _, by rw [HR.out], by rw [HV.out]; exact nilDisk _ _, below_grw HB2.out gz HB2.out.size (fun q hq => by cases hq; omega)⟩
  | true =>
    have HV := Lib.hid (doD_act (op := (k, n, t, x)) hk)
    have HR := Lib.hid (doR_yes (op := (k, n, t, x)) hk)
    have CA2 := Lib.hid (CA.out w2 HB2.out hk)
    generalize doC d.live d.ops (k, n, t, x) = R at CA2 HR
    generalize actD d (k, n, t, x) = AD at CA2 HV
    clear hk CA
    go_wp2_with fail
    refine CA2.out.mono ?_
    rintro e w4 ⟨u1, u2, u3, rfl, hD, hb4⟩
    obtain ⟨q1, n1, rfl, _⟩ := hD.live.open
    obtain ⟨q2, n2, rfl, _⟩ := hD.safe.open
    obtain ⟨q3, n3, rfl, _⟩ := hD.ops.open
    have yR := (hb4.block (w.heap.size + 1 + 1) (Array.getElem?_eq_some_iff.1 HXR.out).1).trans HXR.out
    have hB4 := HB2.out.trans (hb4.mono HB2.out.size)
    have HD := Lib.hid (hD.mono HB2.out.size)
    have HY := Lib.hid yR
    have HB4 := Lib.hid hB4
    clear b0 b1 b2 o0 o1 o2 o3 r0 r1 r2 rf0 rf1 rf2
    obtain ⟨⟨r0, r1, r2⟩, rf⟩ := dk_cells yR
    have rf0 := rf 0
    have rf1 := rf 1
    have rf2 := rf 2
    clear hD hb4 hB4 yR rf CA2
    go_wp2
    refine bodyPost_ret (v := .tuple #[.agg #[.slice q1 AD.live.length n1, .slice q2 AD.safe.length n2, .slice q3 AD.ops.length n3], .int .i64 R]) (results_row_u Try.results24 _ _ (w.heap.size + 1 + 1) 27 _ (0, 0) _ rfl (set3 HY.out _ _ _) Try.underlying27 rfl (by kernel_rfl)) rfl ⟨_, _, _, by rw [HR.out], by rw [HV.out]; exact ⟨RowL.kept HD.out.live (grw_set3 _ _ _ _ _) (rowK HD.out.live HY.out (by decide)), RowL.kept HD.out.safe (grw_set3 _ _ _ _ _) (rowK HD.out.safe HY.out (by decide)), RowL.kept HD.out.ops (grw_set3 _ _ _ _ _) (rowK HD.out.ops HY.out (by decide))⟩, below_grw HB4.out (grw_set3 _ _ _ _ _) HB4.out.size (fun q hq => by cases hq; omega)⟩
theorem doD_s (v1 v2 v3 : Value) (d : DiskT) (k : Int) (n t x : ByteArray) (w : World) (h : DiskAt 0 v1 v2 v3 d w) (hd : d.fit) (hk : (Lit.int .i64 k).wf = true) (hn : n.size ≤ 1048576) (ht : t.size ≤ 1048576) (hx : x.size ≤ 1048576) :
    Calls Try.prog 24 #[.agg #[v1, v2, v3], .agg #[.int .i64 k, .string n, .string t, .string x]] w fun e w' => ∃ u1 u2 u3, e = .returned (.tuple #[.agg #[u1, u2, u3], .int .i64 (doR d (k, n, t, x))]) ∧ DiskAt w.heap.size u1 u2 u3 (doD d (k, n, t, x)) w' ∧ Below w.heap.size w w' :=
  doD_sn v1 v2 v3 d k n t x w h.toIn hd hk hn ht hx

end Go.Proofs.Ytepefbfmjjnamaa

/- Sync of the specification. -/
namespace Go.Proofs.Ytepefbfmjjnamaa
open Go.RowKit Go.My Go.Lib
set_option linter.unusedVariables false

/-- A list of files is appended to an empty slice: an operation of a region. -/
theorem step_appF {w : World} {ops : Array Oper} {o : Oper} {a : Act} {K : Act → World → Prop} {Q : Exit → Act → World → Prop} {E : Prop} {p q : Tmp} (hgd : o.guard = none)
    (ho : o.op = .call { callee := .builtin .append, args := #[.tmp p, .tmp q], argTypes := #[24, 24] }) (ao : Addr) (hs : a.eval (.tmp p) = .slice (some ao) 0 0) (v : Value) (l : List FileT) (hx : a.eval (.tmp q) = v) (hv : FilesAt 0 v l w) (hl : l ≠ []) (hl2 : l.length ≤ 1048576)
    (h : ∀ q2 n2 w', FilesAt w.heap.size (.slice q2 l.length n2) l w' → Below w.heap.size w w' → K (a.put o.dst (.slice q2 l.length n2)) w') :
    if Region.wanted o (yielded ops a.tmps) = true then Oper.wp Try.prog o a w K Q else E := by
  obtain ⟨i0, hi, hz0, hz1, hz2⟩ := info_parts info_File
  obtain ⟨pv, cap, rfl, _, _, hp⟩ := hv.open
  obtain ⟨g, rfl, _, _⟩ := hp.resolve_left (fun c => hl c.1)
  have h0 : 0 < l.length := List.length_pos_iff.2 hl
  refine step_append_grows hgd (.tmp p) (.tmp q) 24 ho 88 i0 (.agg #[.string ByteArray.empty, .string ByteArray.empty]) 2 32 Try.underlying24 hi hz0 hz1 hz2 rfl (by decide) (some ao) 0 0 [] hs (fun c => by cases c) rfl (fun b _ j u hu => by simp at hu) ⟨g, 0, none⟩ l.length cap (l.flatMap fileC) hx (by rw [flat_len fileC_len]) (World.ownsRow.cells hv (g := g) rfl) (flat_one l) (by omega) (by unfold maxLen; omega) (by omega) ?_
  intro v' w' hown hgrow
  have hr : FilesAt w.heap.size v' l w' := by
    have := hown
    rw [Nat.zero_add] at this
    exact this
  obtain ⟨q2, n2, rfl, _⟩ := hr.open
  exact h q2 n2 w' hr ((Below.refl _ _).grown hgrow (Nat.le_refl _) (fun q hq => by cases hq))

theorem cell_alN {w : World} {p : Addr} {v : Value} {o : Obj} (h : w.cell? p = some v) : (w.alloc o).cell? p = some v :=
  (((Below.refl w.heap.size w).alloc (Nat.le_refl _) o).cell (World.block_lt_of_cell? _ _ h)).trans h

set_option maxRecDepth 20000 in
set_option maxHeartbeats 4000000 in
theorem syncN_sn (v1 v2 v3 : Value) (d : DiskT) (w : World) (h : DiskIn v1 v2 v3 d w) (hd : d.fit) (hn : d.live ≠ []) :
    Calls Try.prog 42 #[.agg #[v1, v2, v3]] w fun e w' => ∃ u1 u2 u3, e = .returned (.agg #[u1, u2, u3]) ∧ DiskAt w.heap.size u1 u2 u3 (syncV d) w' ∧ Below w.heap.size w w' := by
  have C := Lib.hid (fun W (hW : Below w.heap.size w W) => disk_sn v1 v2 v3 d W (h.below hW) hd)
  have HL := Lib.hid hd.small
  have H := Lib.hid h
  obtain ⟨p1, m1, rfl, _, _, _⟩ := h.live.open
  obtain ⟨p2, m2, rfl, _, _, _⟩ := h.safe.open
  obtain ⟨p3, m3, rfl, _, _, _⟩ := h.ops.open
  clear h hd
  go_enter Try.func42, Try.ntmps42
  go_wp2_with fail
  refine (C.out _ ?_).mono ?_
  · exact ((Below.refl _ _).alloc (Nat.le_refl _) _).alloc (by simp) _
  rintro e w2 ⟨rfl, hb2⟩
  obtain ⟨hB2, xA, xR⟩ := boxes2 w _ _ _ hb2
  have HB2 := Lib.hid hB2
  have HXR := Lib.hid (And.intro xA xR)
  have hlt2 : w.heap.size + 1 < w2.heap.size := (Array.getElem?_eq_some_iff.1 xR).1
  obtain ⟨⟨r0, r1, r2⟩, rf⟩ := dk_cells xR
  obtain ⟨⟨b0, b1, b2⟩, _⟩ := dk_cells xA
  have rf0 := rf 0
  have rf1 := rf 1
  have rf2 := rf 2
  clear hb2 C hB2 xA xR rf
  cases hk : diskB d with
  | false =>
    have HV := Lib.hid (syncV_no hk)
    clear hk
    go_wp2
    have gz := grw_set3 w2 (w.heap.size + 1) (.slice none 0 0) (.slice none 0 0) (.slice none 0 0)
    refine bodyPost_ret (v := .agg #[.slice none 0 0, .slice none 0 0, .slice none 0 0]) (results_cell_row Try.results42 _ _ (w.heap.size + 1) 27 _ (0, 0) _ rfl (set3 HXR.out.2 (.slice none 0 0) (.slice none 0 0) (.slice none 0 0)) Try.underlying27 rfl (by kernel_rfl)) rfl ⟨_, _, _, rfl, by rw [HV.out]; exact nilDisk _ _, below_grw HB2.out gz HB2.out.size (fun q hq => by cases hq; omega)⟩
  | true =>
    have HV := Lib.hid (syncV_yes hk)
    clear hk
    have k1 := H.out.live.below HB2.out
    have hBx : Below w2.heap.size w2 w2 := Below.refl _ _
    have HN := Lib.hid hn
    clear hn
    go_upto_region 3 with (fail)
    go_region_held3 (fun w' => w'.cell? ⟨w.heap.size, 0, none⟩ = some (.slice p1 d.live.length m1)) (first | exact b0 | exact cell_alN (by assumption) | exact cell_set3 _ _ _ (by omega) b0) (first
      | (apply step_appF (p := 7) (q := 9) (v := .slice p1 d.live.length m1) (l := d.live); (case ho => rfl); (case hgd => rfl); (case hs => rfl); (case hx => rfl); (case hl => exact HN.out); (case hl2 => exact HL.out.live); (case hv => exact RowL.below k1 (by repeat (first | exact Below.refl _ _ | refine Below.drew ?_ | refine Below.alloc ?_ (by first | exact Nat.le_refl _ | (simp; done) | (simp; omega)) _))); intro q1 n1 wz f1 hbz; have f1 : FilesAt w.heap.size (.slice q1 d.live.length n1) d.live wz := f1.mono (by have h1 := HB2.out.size; have h2 := hBx.size; first | omega | (simp; omega)); have hbq : Below w2.heap.size w2 wz := Below.trans (by repeat (first | exact hBx | refine Below.drew ?_ | refine Below.alloc ?_ (by have := hBx.size; first | omega | (simp; done) | (simp; omega)) _)) (hbz.mono (by have := hBx.size; first | omega | (simp; done) | (simp; omega))); have hBx := hbq; have k1 := RowL.below (H.out.live.below HB2.out) hbq; have xA := (hbq.block w.heap.size (by omega)).trans HXR.out.1; have xR := (hbq.block (w.heap.size + 1) hlt2).trans HXR.out.2; have b0 := (dk_cells xA).1.1; have cy := dk_cells xR; have r0 := cy.1.1; have r1 := cy.1.2.1; have r2 := cy.1.2.2; have rf0 := cy.2 0; have rf1 := cy.2 1; have rf2 := cy.2 2; clear cy xA hbq)
      | (apply step_appF (p := 11) (q := 13) (v := .slice p1 d.live.length m1) (l := d.live); (case ho => rfl); (case hgd => rfl); (case hs => rfl); (case hx => rfl); (case hl => exact HN.out); (case hl2 => exact HL.out.live); (case hv => exact RowL.below k1 (by repeat (first | exact Below.refl _ _ | refine Below.drew ?_ | refine Below.alloc ?_ (by first | exact Nat.le_refl _ | (simp; done) | (simp; omega)) _))); intro q2 n2 wz f2 hbz; have f2 : FilesAt w.heap.size (.slice q2 d.live.length n2) d.live wz := f2.mono (by have h1 := HB2.out.size; have h2 := hBx.size; first | omega | (simp; omega)); have f1 := RowL.below f1 (by exact Below.trans (by repeat (first | exact Below.refl _ _ | refine Below.drew ?_ | refine Below.alloc ?_ (by first | exact Nat.le_refl _ | (simp; done) | (simp; omega)) _)) (hbz.mono (by first | exact Nat.le_refl _ | (simp; done) | (simp; omega)))); have hbq : Below w2.heap.size w2 wz := Below.trans (by repeat (first | exact hBx | refine Below.drew ?_ | refine Below.alloc ?_ (by have := hBx.size; first | omega | (simp; done) | (simp; omega)) _)) (hbz.mono (by have := hBx.size; first | omega | (simp; done) | (simp; omega))); have hBx := hbq; have k1 := RowL.below (H.out.live.below HB2.out) hbq; have xA := (hbq.block w.heap.size (by omega)).trans HXR.out.1; have xR := (hbq.block (w.heap.size + 1) hlt2).trans HXR.out.2; have b0 := (dk_cells xA).1.1; have cy := dk_cells xR; have r0 := cy.1.1; have r1 := cy.1.2.1; have r2 := cy.1.2.2; have rf0 := cy.2 0; have rf1 := cy.2 1; have rf2 := cy.2 2; clear cy xA hbq))
    all_goals
      go_wp2
      have gz := grw_set3 wz (w.heap.size + 1) (.slice q1 d.live.length n1) (.slice q2 d.live.length n2) (.slice none 0 0)
      have hBz : Below w.heap.size w wz := HB2.out.trans (hBx.mono HB2.out.size)
      refine bodyPost_ret (v := .agg #[.slice q1 d.live.length n1, .slice q2 d.live.length n2, .slice none 0 0]) (results_cell_row Try.results42 _ _ (w.heap.size + 1) 27 _ (0, 0) _ rfl (set3 xR _ _ _) Try.underlying27 rfl (by kernel_rfl)) rfl ⟨_, _, _, rfl, by rw [HV.out]; exact ⟨RowL.kept f1 gz (rowK f1 xR (by decide)), RowL.kept f2 gz (rowK f2 xR (by decide)), RowL.nil _ _ _ _ _⟩, below_grw hBz gz hBz.size (fun q hq => by cases hq; omega)⟩
theorem syncN_s (v1 v2 v3 : Value) (d : DiskT) (w : World) (h : DiskAt 0 v1 v2 v3 d w) (hd : d.fit) (hn : d.live ≠ []) :
    Calls Try.prog 42 #[.agg #[v1, v2, v3]] w fun e w' => ∃ u1 u2 u3, e = .returned (.agg #[u1, u2, u3]) ∧ DiskAt w.heap.size u1 u2 u3 (syncV d) w' ∧ Below w.heap.size w w' :=
  syncN_sn v1 v2 v3 d w h.toIn hd hn

end Go.Proofs.Ytepefbfmjjnamaa

/- Sync of the specification, of a disk without files. -/
namespace Go.Proofs.Ytepefbfmjjnamaa
open Go.RowKit Go.My Go.Lib
set_option linter.unusedVariables false

theorem emptyAt {B g : Nat} {w : World} (h : w.heap[g]? = some (.cells #[] 88 (0, 0))) (hB : B ≤ g) : FilesAt B (.slice (some ⟨g, 0, none⟩) 0 0) [] w :=
  ⟨rfl, .inr ⟨g, 0, #[], rfl, hB, h, Nat.le_refl _, Nat.zero_le _, rfl, rfl⟩⟩
theorem cell_alD {w : World} {p : Addr} {v : Value} {o : Obj} (h : w.cell? p = some v) : (w.alloc o).cell? p = some v :=
  (((Below.refl w.heap.size w).alloc (Nat.le_refl _) o).cell (World.block_lt_of_cell? _ _ h)).trans h
/-- Nothing is appended: an operation of a region. -/
theorem step_appE {w : World} {ops : Array Oper} {o : Oper} {a : Act} {K : Act → World → Prop} {Q : Exit → Act → World → Prop} {E : Prop} {p q : Tmp} (hgd : o.guard = none)
    (ho : o.op = .call { callee := .builtin .append, args := #[.tmp p, .tmp q], argTypes := #[24, 24] }) (ao : Option Addr) (hs : a.eval (.tmp p) = .slice ao 0 0) (ax : Option Addr) (m : Nat) (hx : a.eval (.tmp q) = .slice ax 0 m)
    (h : K (a.put o.dst (.slice ao 0 0)) w) : if Region.wanted o (yielded ops a.tmps) = true then Oper.wp Try.prog o a w K Q else E := by
  have hw : Region.wanted o (yielded ops a.tmps) = true := by simp [Region.wanted, hgd]
  rw [if_pos hw]
  obtain ⟨i0, hi, hz0, hz1, hz2⟩ := info_parts info_File
  have src : Src Try.prog i0.size 24 (.slice ax 0 m) 0 [] w := by
    refine ⟨.inl ⟨_, Try.underlying24⟩, fun w' => ?_, ?_, ?_, by simp, fun u hu => by cases hu⟩
    · simp [Builtin.lenOf, go_sem]
    · cases ax <;> simp [Builtin.firstCells, go_sem]
    · cases ax <;> simp [Builtin.firstCells, go_sem]
  have hrun := run_append_nothing (P := Try.prog) w 24 24 o.type 88 i0 Try.underlying24 hi ao 0 0 (Nat.le_refl _) (.slice ax 0 m) src
  unfold Oper.wp
  simp [execOp, ho, resolve, invoke, builtin, hs, hx, hrun, Result.andThen]
  exact h
theorem cell_dr {w : World} {p : Addr} {v : Value} (h : w.cell? p = some v) : w.drew.cell? p = some v := h
set_option maxRecDepth 20000 in
set_option maxHeartbeats 1500000 in
theorem syncE_sn (v1 v2 v3 : Value) (d : DiskT) (w : World) (h : DiskIn v1 v2 v3 d w) (hd : d.fit) (hn : d.live = []) :
    Calls Try.prog 42 #[.agg #[v1, v2, v3]] w fun e w' => ∃ u1 u2 u3, e = .returned (.agg #[u1, u2, u3]) ∧ DiskAt w.heap.size u1 u2 u3 (syncV d) w' ∧ Below w.heap.size w w' := by
  have C := Lib.hid (fun W (hW : Below w.heap.size w W) => disk_sn v1 v2 v3 d W (h.below hW) hd)
  have HL := Lib.hid hd.small
  have H := Lib.hid h
  obtain ⟨p1, m1, rfl, _, _, _⟩ := h.live.open
  have HN := Lib.hid hn
  clear hn
  obtain ⟨p2, m2, rfl, _, _, _⟩ := h.safe.open
  obtain ⟨p3, m3, rfl, _, _, _⟩ := h.ops.open
  clear h hd
  go_enter Try.func42, Try.ntmps42
  go_wp2_with fail
  refine (C.out _ ?_).mono ?_
  · exact ((Below.refl _ _).alloc (Nat.le_refl _) _).alloc (by simp) _
  rintro e w2 ⟨rfl, hb2⟩
  obtain ⟨hB2, xA, xR⟩ := boxes2 w _ _ _ hb2
  have HB2 := Lib.hid hB2
  have HXR := Lib.hid (And.intro xA xR)
  have hlt2 : w.heap.size + 1 < w2.heap.size := (Array.getElem?_eq_some_iff.1 xR).1
  obtain ⟨⟨r0, r1, r2⟩, rf⟩ := dk_cells xR
  obtain ⟨⟨b0, b1, b2⟩, _⟩ := dk_cells xA
  have rf0 := rf 0
  have rf1 := rf 1
  have rf2 := rf 2
  clear hb2 C hB2 xA xR rf
  cases hk : diskB d with
  | false =>
    have HV := Lib.hid (syncV_no hk)
    clear hk
    go_wp2
    have gz := grw_set3 w2 (w.heap.size + 1) (.slice none 0 0) (.slice none 0 0) (.slice none 0 0)
    refine bodyPost_ret (v := .agg #[.slice none 0 0, .slice none 0 0, .slice none 0 0]) (results_cell_row Try.results42 _ _ (w.heap.size + 1) 27 _ (0, 0) _ rfl (set3 HXR.out.2 (.slice none 0 0) (.slice none 0 0) (.slice none 0 0)) Try.underlying27 rfl (by kernel_rfl)) rfl ⟨_, _, _, rfl, by rw [HV.out]; exact nilDisk _ _, below_grw HB2.out gz HB2.out.size (fun q hq => by cases hq; omega)⟩
  | true =>
    have HV := Lib.hid (syncV_yes hk)
    clear hk
    have hn0 : d.live.length = 0 := by rw [HN.out]; rfl
    rw [hn0] at b0 ⊢
    clear hn0
    have hb3 : Below w2.heap.size w2 ((w2.alloc (.cells #[] 88)).alloc (.cells #[] 88)) := ((Below.refl _ _).alloc (Nat.le_refl _) _).alloc (by simp) _
    have xX := (hb3.block (w.heap.size + 1) hlt2).trans HXR.out.2
    have cy := dk_cells xX
    have s0 := cy.1.1
    have s1 := cy.1.2.1
    have s2 := cy.1.2.2
    have sf0 := cy.2 0
    have sf1 := cy.2 1
    have sf2 := cy.2 2
    have HXX := Lib.hid (And.intro hb3 xX)
    clear cy xX hb3 r0 r1 r2 rf0 rf1 rf2
    go_upto_region 3 with (fail)
    go_region_held3 (fun w' => w'.cell? ⟨w.heap.size, 0, none⟩ = some (.slice p1 0 m1)) (repeat (first | with_reducible exact b0 | with_reducible refine cell_alD ?_ | with_reducible refine cell_dr ?_ | with_reducible refine cell_set3 _ _ _ (by omega) ?_)) (first
      | (apply step_appE (p := 7) (q := 9) (ax := p1) (m := m1); (case ho => rfl); (case hgd => rfl); (case hs => rfl); (case hx => rfl))
      | (apply step_appE (p := 11) (q := 13) (ax := p1) (m := m1); (case ho => rfl); (case hgd => rfl); (case hs => rfl); (case hx => rfl)))
    all_goals
      go_wp2
      have g1 : ((w2.alloc (.cells #[] 88)).alloc (.cells #[] 88)).heap[w2.heap.size]? = some (.cells #[] 88 (0, 0)) := (((Below.refl (w2.alloc (.cells #[] 88)).heap.size (w2.alloc (.cells #[] 88))).alloc (Nat.le_refl _) (.cells #[] 88)).block w2.heap.size (by simp)).trans (heap_alloc_new w2 _)
      have g2 : ((w2.alloc (.cells #[] 88)).alloc (.cells #[] 88)).heap[w2.heap.size + 1]? = some (.cells #[] 88 (0, 0)) := by
        have h9 := heap_alloc_new (w2.alloc (.cells #[] 88)) (.cells #[] 88)
        have e9 : (w2.alloc (.cells #[] 88)).heap.size = w2.heap.size + 1 := by simp
        rw [e9] at h9
        exact h9
      have hBX := HB2.out.trans (HXX.out.1.mono HB2.out.size)
      have hw2 := HB2.out.size
      have hXR := HXX.out.2
      generalize (w2.alloc (.cells #[] 88)).alloc (.cells #[] 88) = X at g1 g2 hBX hXR ⊢
      have hz : ∀ a b : Value, ((((X.setCell ⟨w.heap.size + 1, 0, none⟩ a).setCell ⟨w.heap.size + 1, 1, none⟩ b).setCell ⟨w.heap.size + 1, 2, none⟩ (.slice none 0 0)).drew).heap[w.heap.size + 1]? = some (.cells #[a, b, .slice none 0 0] 27 (0, 0)) := fun a b => set3 hXR a b _
      have hq : ∀ a b : Value, Below w.heap.size w ((((X.setCell ⟨w.heap.size + 1, 0, none⟩ a).setCell ⟨w.heap.size + 1, 1, none⟩ b).setCell ⟨w.heap.size + 1, 2, none⟩ (.slice none 0 0)).drew) := fun a b => (below_grw hBX (grw_set3 _ _ _ _ _) hBX.size (fun q hq => by cases hq; omega)).drew
      have hr : ∀ (a b v : Value), FilesAt w.heap.size v [] X → FilesAt w.heap.size v [] ((((X.setCell ⟨w.heap.size + 1, 0, none⟩ a).setCell ⟨w.heap.size + 1, 1, none⟩ b).setCell ⟨w.heap.size + 1, 2, none⟩ (.slice none 0 0)).drew) := fun a b v h => (RowL.kept h (grw_set3 _ _ _ _ _) (rowK h hXR (by decide))).below (Below.refl _ _).drew
      refine bodyPost_ret (results_cell_row Try.results42 _ _ (w.heap.size + 1) 27 _ (0, 0) _ rfl (hz _ _) Try.underlying27 rfl (by kernel_rfl)) rfl ⟨_, _, _, rfl, ?_, hq _ _⟩
      rw [HV.out, HN.out]
      refine ⟨hr _ _ _ ?_, hr _ _ _ ?_, RowL.nil _ _ _ _ _⟩
      · first
          | exact emptyAt g1 (by omega)
          | exact emptyAt g2 (by omega)
      · first
          | exact emptyAt g1 (by omega)
          | exact emptyAt g2 (by omega)
theorem syncE_s (v1 v2 v3 : Value) (d : DiskT) (w : World) (h : DiskAt 0 v1 v2 v3 d w) (hd : d.fit) (hn : d.live = []) :
    Calls Try.prog 42 #[.agg #[v1, v2, v3]] w fun e w' => ∃ u1 u2 u3, e = .returned (.agg #[u1, u2, u3]) ∧ DiskAt w.heap.size u1 u2 u3 (syncV d) w' ∧ Below w.heap.size w w' :=
  syncE_sn v1 v2 v3 d w h.toIn hd hn

theorem syncD_sn (v1 v2 v3 : Value) (d : DiskT) (w : World) (h : DiskIn v1 v2 v3 d w) (hd : d.fit) :
    Calls Try.prog 42 #[.agg #[v1, v2, v3]] w fun e w' => ∃ u1 u2 u3, e = .returned (.agg #[u1, u2, u3]) ∧ DiskAt w.heap.size u1 u2 u3 (syncV d) w' ∧ Below w.heap.size w w' := by
  by_cases hn : d.live = []
  · exact syncE_sn v1 v2 v3 d w h hd hn
  · exact syncN_sn v1 v2 v3 d w h hd hn
theorem syncD_s (v1 v2 v3 : Value) (d : DiskT) (w : World) (h : DiskAt 0 v1 v2 v3 d w) (hd : d.fit) :
    Calls Try.prog 42 #[.agg #[v1, v2, v3]] w fun e w' => ∃ u1 u2 u3, e = .returned (.agg #[u1, u2, u3]) ∧ DiskAt w.heap.size u1 u2 u3 (syncV d) w' ∧ Below w.heap.size w w' :=
  syncD_sn v1 v2 v3 d w h.toIn hd

end Go.Proofs.Ytepefbfmjjnamaa

/- What an append of one struct leaves of whatever list lies in the same block. -/
namespace Go.My
open Go
theorem flat_take {α : Type} {f : α → List Value} {c : Nat} (hf : ∀ a, (f a).length = c) (l : List α) (j : Nat) (hj : j ≤ l.length) : (l.take j).flatMap f = (l.flatMap f).take (j * c) := by
  have e : l.flatMap f = (l.take j).flatMap f ++ (l.drop j).flatMap f := by rw [← List.flatMap_append, List.take_append_drop]
  rw [e, List.take_left' (by rw [flat_len hf, List.length_take, Nat.min_eq_left hj])]
theorem flat_drop {α : Type} {f : α → List Value} {c : Nat} (hf : ∀ a, (f a).length = c) (l : List α) (j : Nat) (hj : j ≤ l.length) : (l.drop j).flatMap f = (l.flatMap f).drop (j * c) := by
  have e : l.flatMap f = (l.take j).flatMap f ++ (l.drop j).flatMap f := by rw [← List.flatMap_append, List.take_append_drop]
  rw [e, List.drop_left' (by rw [flat_len hf, List.length_take, Nat.min_eq_left hj])]
theorem take_mid {β : Type} (C b : List β) (N S M : Nat) (hb : b.length = S) (h1 : N + S ≤ M) (h2 : M ≤ C.length) : (C.take N ++ b ++ C.drop (N + S)).take M = C.take N ++ (b ++ (C.drop (N + S)).take (M - (N + S))) := by
  have ht : (C.take N).length = N := by rw [List.length_take]; omega
  rw [List.append_assoc, List.take_append, ht, List.take_of_length_le (show (C.take N).length ≤ M by omega), List.take_append, hb, List.take_of_length_le (show b.length ≤ M - N by omega), Nat.sub_sub]
section
variable {P : Program} (w : World)
/-- Whatever list lies there: as it was, or with the new one in one place. -/
def Over {α : Type} (e size : Nat) (f : α → List Value) (b : α) (w w' : World) : Prop := ∀ B0 v0 (l0 : List α), RowL B0 e size f v0 l0 w → ∃ l0' : List α, RowL B0 e size f v0 l0' w' ∧ (l0' = l0 ∨ ∃ j, j < l0.length ∧ l0' = l0.set j b)
theorem run_append_over {α : Type} {f : α → List Value} (base : Nat) (t ty e : TypeId) (i : TypeInfo) (z : Value) (size bytes : Nat) (hf : ∀ a, (f a).length = size) (ht : P.underlying t = some (.slice e)) (hi : P.info? e = some i) (hz : i.zero = some z)
    (hsize : i.size = size) (hby : i.bytes = bytes) (hzs : z.cells.size = size) (hsz : 0 < size)
    (v : Value) (l : List α) (hown : RowL base e size f v l w) (b : α)
    (a : Addr) (c : Nat) (hnews : ∀ j u, (f b)[j]? = some u → w.cell? (a.add j) = some u) (h1 : ∀ u ∈ f b, u.oneCell' = true)
    (h63 : l.length + 1 ≤ maxLen) (hbytes : (l.length + 1) * bytes ≤ 140737488355328) (hbase : base ≤ w.heap.size) (v' : Value) (w' : World) (hrun : (Builtin.append_ #[t, t] ty #[v, .slice (some a) 1 c]).run P w = .ok v' w') :
    Over e size f b w w' := by
  have hl : (f b).length = 1 * size := by rw [hf, Nat.one_mul]
  intro B0 v0 l0 h0
  obtain ⟨v1, w1, hr, _, hgr, _, _⟩ := run_append_own_at (P := P) w base t ty e i z size bytes ht hi hz hsize hby hzs hsz v l.length (l.flatMap f) hown a 1 c (f b) hl hnews h1 h63 hbytes hbase
  rw [hrun] at hr
  injection hr with e1 e2
  subst e1 e2
  by_cases hb0 : v0.ownBlock = v.ownBlock
  · by_cases hle : l0.length ≤ l.length
    · exact ⟨l0, run_append_eld w base t ty e i z size bytes ht hi hz hsize hby hzs hsz v l.length (l.flatMap f) hown a 1 c (f b) hl hnews h1 h63 hbytes v' w' hrun B0 v0 l0.length (l0.flatMap f) hb0 hle h0, .inl rfl⟩
    · have hlt : l.length < l0.length := by omega
      rcases h0.2 with ⟨rfl, hn0⟩ | ⟨g0, cap0, cur0, rfl, hbg0, hg0, hnc0, hcm0, hcs0, htake0⟩
      · omega
      · rcases hown.2 with ⟨rfl, _⟩ | ⟨g, cap, cur, rfl, hbg, hg, hnc, hcm, hcs, htake⟩
        · exact absurd hb0 (by simp [Value.ownBlock])
        · obtain rfl : g0 = g := by simpa [Value.ownBlock] using hb0
          rw [hg] at hg0
          obtain rfl : cur = cur0 := by simpa using hg0
          have hcc : cap = cap0 := Nat.eq_of_mul_eq_mul_right hsz (hcs.symm.trans hcs0)
          subst hcc
          subst hsize
          have hroom : l.length + 1 ≤ cap := by omega
          have hfit : l.length * i.size + (f b).length ≤ cur.size := by rw [hl, hcs, ← Nat.add_mul]; exact Nat.mul_le_mul_right _ hroom
          have hr := run_append_room (P := P) w t ty e i ht hi g0 l.length cap cur hg a 1 c (f b) hl hnews h1 hroom hfit
          rw [hr] at hrun
          injection hrun with e1 e2
          subst e2
          have hm1 : (l.length + 1) * i.size = l.length * i.size + i.size := by rw [Nat.add_mul, Nat.one_mul]
          have hm2 : (l.length + 1) * i.size ≤ l0.length * i.size := Nat.mul_le_mul_right _ (by omega)
          have hm3 : l0.length * i.size ≤ cur.size := by rw [hcs]; exact Nat.mul_le_mul_right _ hnc0
          refine ⟨l0.set l.length b, ⟨by rw [flat_len hf], .inr ⟨g0, cap, _, by rw [List.length_set], hbg0, setRow_heap w g0 cur _ e _ hg, by rw [List.length_set]; exact hnc0, hcm0, ?_, ?_⟩⟩, .inr ⟨l.length, hlt, rfl⟩⟩
          · simp only [List.size_toArray, List.length_append, List.length_take, List.length_drop, Array.length_toList]
            omega
          · rw [List.length_set]
            have htk : cur.toList.take (l0.length * i.size) = l0.flatMap f := htake0
            have hs : l0.set l.length b = l0.take l.length ++ b :: l0.drop (l.length + 1) := by rw [List.set_eq_take_append_cons_drop, if_pos hlt]
            have hNM : l.length * i.size + i.size ≤ l0.length * i.size := by rw [← hm1]; exact hm2
            have hN : l.length * i.size ≤ l0.length * i.size := Nat.le_trans (Nat.le_add_right _ _) hNM
            have e1 : (l0.take l.length).flatMap f = cur.toList.take (l.length * i.size) := by rw [flat_take hf l0 _ (by omega), ← htk, List.take_take, Nat.min_eq_left hN]
            have e2 : (l0.drop (l.length + 1)).flatMap f = (cur.toList.drop (l.length * i.size + i.size)).take (l0.length * i.size - (l.length * i.size + i.size)) := by rw [flat_drop hf l0 _ (by omega), ← htk, hm1, List.drop_take]
            rw [hs, List.flatMap_append, List.flatMap_cons, e1, e2]
            have hfb : (f b).length = i.size := hf b
            show List.take (l0.length * i.size) (cur.toList.take (l.length * i.size) ++ f b ++ cur.toList.drop (l.length * i.size + (f b).length)) = _
            rw [hfb]
            exact take_mid cur.toList (f b) (l.length * i.size) i.size (l0.length * i.size) hfb hNM (by rw [Array.length_toList]; exact hm3)
  · exact ⟨l0, World.ownsRow.kept h0 hgr (by
      cases hv : v0.ownBlock with
      | none => exact .inl rfl
      | some q => exact .inr (by rw [← hv]; exact hb0)), .inl rfl⟩
theorem wp_append_over {α : Type} {f : α → List Value} {o : Oper} {ac : Act} {K : Act → World → Prop} {Q : Exit → Act → World → Prop} (s x : Operand) (t : TypeId)
    (ho : o.op = .call { callee := .builtin .append, args := #[s, x], argTypes := #[t, t] })
    (base : Nat) (e : TypeId) (i : TypeInfo) (z : Value) (size bytes : Nat) (hf : ∀ a, (f a).length = size) (ht : P.underlying t = some (.slice e)) (hi : P.info? e = some i) (hz : i.zero = some z)
    (hsize : i.size = size) (hby : i.bytes = bytes) (hzs : z.cells.size = size) (hsz : 0 < size)
    (v : Value) (l : List α) (hs : ac.eval s = v) (hown : RowL base e size f v l w) (b : α)
    (ad : Addr) (c : Nat) (hx : ac.eval x = .slice (some ad) 1 c) (hnews : ∀ j u, (f b)[j]? = some u → w.cell? (ad.add j) = some u) (h1 : ∀ u ∈ f b, u.oneCell' = true)
    (h63 : l.length + 1 ≤ maxLen) (hbytes : (l.length + 1) * bytes ≤ 140737488355328) (hbase : base ≤ w.heap.size)
    (h : ∀ g cap w', RowL base e size f (.slice (some ⟨g, 0, none⟩) (l.length + 1) cap) (l ++ [b]) w' → w.grownBy w' v.ownBlock → Over e size f b w w' → K (ac.put o.dst (.slice (some ⟨g, 0, none⟩) (l.length + 1) cap)) w') : o.wp P ac w K Q := by
  have hl : (f b).length = 1 * size := by rw [hf, Nat.one_mul]
  obtain ⟨g, cap, w', hr, h2, h3, h4, h5⟩ := run_append_lies (P := P) w t o.type base e i z size bytes ht hi hz hsize hby hzs hsz v l.length (l.flatMap f) hown ad 1 c (f b) hl hnews h1 (by omega) h63 hbytes hbase w.heap.size rfl
  have h6 := run_append_over w base t o.type e i z size bytes hf ht hi hz hsize hby hzs hsz v l hown b ad c hnews h1 h63 hbytes hbase _ _ hr
  have h7 : RowL base e size f (.slice (some ⟨g, 0, none⟩) (l.length + 1) cap) (l ++ [b]) w' := by
    unfold RowL
    rw [List.flatMap_append, List.length_append, List.flatMap_cons, List.flatMap_nil, List.append_nil]
    exact h2
  unfold Oper.wp execOp
  simp only [ho, resolve, invoke, builtin, Sem.run_bind, Sem.run_pure, Result.andThen_ok, List.map_toArray, List.map_cons, List.map_nil, hs, hx, hr]
  exact h g cap w' h7 h3 h6
end
end Go.My

/- Disks beside one another: what stands when one is marked. -/
namespace Go.Proofs.Ytepefbfmjjnamaa
open Go.RowKit Go.My Go.Lib
set_option linter.unusedVariables false

structure Ap3 (s1 s2 s3 g1 g2 g3 : Value) : Prop where
  a11 : ApartV s1 g1
  a12 : ApartV s1 g2
  a13 : ApartV s1 g3
  a21 : ApartV s2 g1
  a22 : ApartV s2 g2
  a23 : ApartV s2 g3
  a31 : ApartV s3 g1
  a32 : ApartV s3 g2
  a33 : ApartV s3 g3
theorem Ap3.symm {s1 s2 s3 g1 g2 g3 : Value} (h : Ap3 s1 s2 s3 g1 g2 g3) : Ap3 g1 g2 g3 s1 s2 s3 :=
  ⟨h.a11.symm, h.a21.symm, h.a31.symm, h.a12.symm, h.a22.symm, h.a32.symm, h.a13.symm, h.a23.symm, h.a33.symm⟩
theorem ap3 {B C : Nat} {s1 s2 s3 g1 g2 g3 : Value} {d d' : DiskT} {w w' : World} (hS : DiskAt B s1 s2 s3 d w) (hG : DiskAt C g1 g2 g3 d' w') (hC : w.heap.size ≤ C) : Ap3 s1 s2 s3 g1 g2 g3 :=
  ⟨row_apart hS.live hG.live hC, row_apart hS.live hG.safe hC, row_apart hS.live hG.ops hC, row_apart hS.safe hG.live hC, row_apart hS.safe hG.safe hC, row_apart hS.safe hG.ops hC, row_apart hS.ops hG.live hC, row_apart hS.ops hG.safe hC, row_apart hS.ops hG.ops hC⟩
theorem grow3_disk {x1 x2 x3 s1 s2 s3 : Value} {w w' : World} {B : Nat} {d : DiskT} (hg : Grow3 x1 x2 x3 w w') (h : DiskAt B s1 s2 s3 d w) (a : Ap3 s1 s2 s3 x1 x2 x3) : DiskAt B s1 s2 s3 d w' :=
  ⟨hg.row h.live a.a11 a.a12 a.a13, hg.row h.safe a.a21 a.a22 a.a23, hg.row h.ops a.a31 a.a32 a.a33⟩
theorem grow3_blk {x1 x2 x3 : Value} {w w' : World} {B k : Nat} {d : DiskT} {cs : Array Value} {T : TypeId} (hg : Grow3 x1 x2 x3 w w') (h : DiskAt B x1 x2 x3 d w) (hb : w.heap[k]? = some (.cells cs T (0, 0))) (h1 : T ≠ 88) (h2 : T ≠ 36) : w'.heap[k]? = some (.cells cs T (0, 0)) :=
  (hg.block k (Array.getElem?_eq_some_iff.1 hb).1 (row_kind h.live hb h1) (row_kind h.safe hb h1) (row_kind h.ops hb h2)).trans hb
theorem grow3_below {x1 x2 x3 : Value} {w0 w w' : World} {B : Nat} {d : DiskT} (hg : Grow3 x1 x2 x3 w w') (h : DiskAt B x1 x2 x3 d w) (hb : Below B w0 w) (hs : B ≤ w.heap.size) : Below B w0 w' :=
  hg.below hb hs (fun q hq => (World.ownsRow.lt h.live q hq).1) (fun q hq => (World.ownsRow.lt h.safe q hq).1) (fun q hq => (World.ownsRow.lt h.ops q hq).1)

theorem markOne (v1 v2 v3 : Value) (d : DiskT) (K : Nat) (hK : 1 + d.many = K) (ap : ApartV v1 v2) (hl : K ≤ 1099511627776) (w : World) (h : DiskAt 0 v1 v2 v3 d w) :
    Calls Try.prog 40 #[.agg #[v1, v2, v3], .int .i64 1] w fun e w' => e = .returned (.int .i64 (K : Int)) ∧ DiskAt 0 v1 v2 v3 (d.marks 1) w' ∧ Grow3 v1 v2 v3 w w' := by
  subst hK
  exact markDisk_any v1 v2 v3 d 1 w h ap hl
theorem heldOne (v1 v2 v3 : Value) (d : DiskT) (K : Nat) (hK : 1 + d.many = K) (hl : K ≤ 1099511627776) (w : World) (h : DiskAt 0 v1 v2 v3 (d.marks 1) w) :
    Calls Try.prog 41 #[.agg #[v1, v2, v3], .int .i64 1] w fun e w' => e = .returned (.int .i64 (K : Int)) ∧ Below w.heap.size w w' := by
  subst hK
  exact heldDisk_any v1 v2 v3 d 1 w h hl

end Go.Proofs.Ytepefbfmjjnamaa

/- The laws over disks: values of a region that are disks, alone or with an answer; a new variable of a disk. -/
namespace Go.Proofs.Ytepefbfmjjnamaa
open Go.RowKit Go.My Go.Lib Go.ChangeShapes Go.WideShapes
set_option linter.unusedVariables false

theorem many_small {d : DiskT} (h : d.small) : 1 + d.many ≤ 1099511627776 := by
  have h1 := h.live
  have h2 := h.safe
  have h3 := h.ops
  show 1 + (2 * d.live.length + 2 * d.safe.length + 4 * d.ops.length) ≤ _
  omega
def DkV (B : Nat) (d : DiskT) (ap : Bool) (u : Value) (w : World) : Prop := ∃ x y z, u = .agg #[x, y, z] ∧ DiskAt B x y z d w ∧ (ap = true → ApartV x y)
def TuV (B : Nat) (d : DiskT) (ap : Bool) (R u : Value) (w : World) : Prop := ∃ x, u = .tuple #[x, R] ∧ DkV B d ap x w
def NewV (B : Nat) (u : Value) (w : World) : Prop := ∃ g cs, u = .pointer (some ⟨g, 0, none⟩) ∧ B ≤ g ∧ cs.size = 3 ∧ w.heap[g]? = some (.cells cs 27 (0, 0))
def SetV (B : Nat) (d : DiskT) (ap : Bool) (u : Value) (w : World) : Prop := ∃ g x y z, u = .pointer (some ⟨g, 0, none⟩) ∧ B ≤ g ∧ w.heap[g]? = some (.cells #[x, y, z] 27 (0, 0)) ∧ DiskAt B x y z d w ∧ (ap = true → ApartV x y)
theorem DkV.below {B : Nat} {d : DiskT} {ap : Bool} {u : Value} {w w' : World} (h : DkV B d ap u w) (hb : Below w.heap.size w w') : DkV B d ap u w' := by
  obtain ⟨x, y, z, e, hd, ha⟩ := h
  exact ⟨x, y, z, e, hd.below hb, ha⟩
theorem TuV.below {B : Nat} {d : DiskT} {ap : Bool} {R u : Value} {w w' : World} (h : TuV B d ap R u w) (hb : Below w.heap.size w w') : TuV B d ap R u w' := by
  obtain ⟨x, e, hd⟩ := h
  exact ⟨x, e, hd.below hb⟩
theorem NewV.below {B : Nat} {u : Value} {w w' : World} (h : NewV B u w) (hb : Below w.heap.size w w') : NewV B u w' := by
  obtain ⟨g, cs, e, hB, hc, hg⟩ := h
  exact ⟨g, cs, e, hB, hc, (hb.block g (Array.getElem?_eq_some_iff.1 hg).1).trans hg⟩
theorem SetV.below {B : Nat} {d : DiskT} {ap : Bool} {u : Value} {w w' : World} (h : SetV B d ap u w) (hb : Below w.heap.size w w') : SetV B d ap u w' := by
  obtain ⟨g, x, y, z, e, hB, hg, hd, ha⟩ := h
  exact ⟨g, x, y, z, e, hB, (hb.block g (Array.getElem?_eq_some_iff.1 hg).1).trans hg, hd.below hb, ha⟩
theorem disk_row {B g : Nat} {x y z : Value} {d : DiskT} {w : World} {cs ds : Array Value} (h : DiskAt B x y z d w) (hg : w.heap[g]? = some (.cells cs 27 (0, 0))) : DiskAt B x y z d (w.setRow g ds) :=
  ⟨RowL.kept h.live (grw_setRow (grw_refl _ _) _) (rowK h.live hg (by decide)), RowL.kept h.safe (grw_setRow (grw_refl _ _) _) (rowK h.safe hg (by decide)), RowL.kept h.ops (grw_setRow (grw_refl _ _) _) (rowK h.ops hg (by decide))⟩
theorem DkV.row {B g : Nat} {d : DiskT} {ap : Bool} {u : Value} {w : World} {cs ds : Array Value} (h : DkV B d ap u w) (hg : w.heap[g]? = some (.cells cs 27 (0, 0))) : DkV B d ap u (w.setRow g ds) := by
  obtain ⟨x, y, z, e, hd, ha⟩ := h
  exact ⟨x, y, z, e, disk_row hd hg, ha⟩
theorem TuV.row {B g : Nat} {d : DiskT} {ap : Bool} {R u : Value} {w : World} {cs ds : Array Value} (h : TuV B d ap R u w) (hg : w.heap[g]? = some (.cells cs 27 (0, 0))) : TuV B d ap R u (w.setRow g ds) := by
  obtain ⟨x, e, hd⟩ := h
  exact ⟨x, e, hd.row hg⟩
theorem below_row {B g : Nat} {w0 w : World} (h : Below B w0 w) (hg : B ≤ g) (hs : B ≤ w.heap.size) (ds : Array Value) : Below B w0 (w.setRow g ds) :=
  below_grw h (grw_setRow (grw_refl w (some g)) ds) hs (fun q hq => by have := Option.some.inj hq; omega)
/-- The store of a disk into a new variable. -/
theorem wpSetDk {Q : Exit → Act → World → Prop} {o : Oper} {a : Act} {w : World} {K : Act → World → Prop} {p q : Tmp} {B : Nat} {d : DiskT} {ap : Bool} {u x : Value} (hop : o.op = .store 27 (.tmp p) (.tmp q)) (h1 : a.eval (.tmp p) = u) (h2 : a.eval (.tmp q) = x) (hn : NewV B u w) (hd : DkV B d ap x w)
    (hK : ∀ g cs ds, w.heap[g]? = some (.cells cs 27 (0, 0)) → B ≤ g → NewV B u (w.setRow g ds) → SetV B d ap u (w.setRow g ds) → K (a.put o.dst undef) (w.setRow g ds)) : o.wp Try.prog a w K Q := by
  obtain ⟨g, cs, rfl, hB, hc, hg⟩ := hn
  obtain ⟨x1, x2, x3, rfl, hD, ha⟩ := hd
  have hone : (#[x1, x2, x3] : Array Value).all (·.oneCell') = true := by
    obtain ⟨_, _, rfl, _⟩ := hD.live.open
    obtain ⟨_, _, rfl, _⟩ := hD.safe.open
    obtain ⟨_, _, rfl, _⟩ := hD.ops.open
    simp [Value.oneCell']
  refine wpStoreT hop h1 h2 hg (diskSz x1 x2 x3) hc hone (hK g cs #[x1, x2, x3] hg hB ⟨g, _, rfl, hB, rfl, setRow_heap w g cs _ _ (0, 0) hg⟩ ⟨g, x1, x2, x3, rfl, hB, setRow_heap w g cs _ _ (0, 0) hg, disk_row hD hg, ha⟩)
theorem wpExtT {P : Program} {Q : Exit → Act → World → Prop} {o : Oper} {a : Act} {w : World} {K : Act → World → Prop} {k : Tmp} {i : Nat} {x y : Value} (hop : o.op = .extract (.tmp k) i) (he : a.eval (.tmp k) = y) (hr : (Instr.extract y i).run P w = .ok x w) (hK : K (a.put o.dst x) w) : o.wp P a w K Q :=
  wpVal (x := x) (w' := w) (by unfold execOp; simp only [hop]; simp only [he, Sem.run_bind, hr, Result.andThen_ok, Sem.run_pure]) hK
theorem wpAssT {P : Program} {Q : Exit → Act → World → Prop} {o : Oper} {a : Act} {w : World} {K : Act → World → Prop} {k : Tmp} {y : Value} (hop : o.op = .assign (.tmp k)) (he : a.eval (.tmp k) = y) (hK : K (a.put o.dst y) w) : o.wp P a w K Q :=
  wpVal (x := y) (w' := w) (by unfold execOp; simp only [hop]; simp only [he, Sem.run_pure]) hK
theorem ext0 (x R : Value) (w : World) : (Instr.extract (.tuple #[x, R]) 0).run Try.prog w = .ok x w := by simp [Instr.extract, go_sem]
theorem ext1 (x R : Value) (w : World) : (Instr.extract (.tuple #[x, R]) 1).run Try.prog w = .ok R w := by simp [Instr.extract, go_sem]
theorem nDisk (w : World) : (Instr.alloc 27 true (.tuple #[])).run Try.prog w = .ok (.pointer (some ⟨w.heap.size, 0, none⟩)) (w.alloc (.cells #[.slice none 0 0, .slice none 0 0, .slice none 0 0] 27)) := by simp [Instr.alloc, go_sem]
theorem newNew {B : Nat} {w : World} (hB : B ≤ w.heap.size) : NewV B (.pointer (some ⟨w.heap.size, 0, none⟩)) (w.alloc (.cells #[.slice none 0 0, .slice none 0 0, .slice none 0 0] 27)) := ⟨_, _, rfl, hB, rfl, heap_alloc_new w _⟩
theorem ldDkL {g : Nat} {x y z : Value} {w : World} (h : w.heap[g]? = some (.cells #[x, y, z] 56 (0, 0))) : (Instr.loadAt 56 (.pointer (some ⟨g, 0, none⟩))).run Try.prog w = .ok (.agg #[x, y, z]) w := by
  obtain ⟨⟨c0, c1, c2⟩, _⟩ := dk_cells h
  simp [Instr.loadAt, go_sem, c0, c1, c2]
theorem ldDkI {g : Nat} {x y z : Value} {w : World} (h : w.heap[g]? = some (.cells #[x, y, z] 27 (0, 0))) : (Instr.loadAt 27 (.pointer (some ⟨g, 0, none⟩))).run Try.prog w = .ok (.agg #[x, y, z]) w := by
  obtain ⟨⟨c0, c1, c2⟩, _⟩ := dk_cells h
  simp [Instr.loadAt, go_sem, c0, c1, c2]
theorem ldDpL {g : Nat} {x y z u : Value} {w : World} (h : w.heap[g]? = some (.cells #[x, y, z, u] 61 (0, 0))) : (Instr.loadAt 61 (.pointer (some ⟨g, 0, none⟩))).run Try.prog w = .ok (.agg #[x, y, z, u]) w := by
  obtain ⟨⟨c0, c1, c2, c3⟩, _⟩ := dop_cells h
  simp [Instr.loadAt, go_sem, c0, c1, c2, c3]
theorem argsT2 {a : Act} {k l : Tmp} {y z : Value} (h : a.eval (.tmp k) = y) (h2 : a.eval (.tmp l) = z) : #[Operand.tmp k, .tmp l].map a.eval = #[y, z] := by simp only [List.map_toArray, List.map_cons, List.map_nil, h, h2]
theorem argsT3 {a : Act} {k l m : Tmp} {y z u : Value} (h : a.eval (.tmp k) = y) (h2 : a.eval (.tmp l) = z) (h3 : a.eval (.tmp m) = u) : #[Operand.tmp k, .tmp l, .tmp m].map a.eval = #[y, z, u] := by simp only [List.map_toArray, List.map_cons, List.map_nil, h, h2, h3]
theorem cfToDisk (args : Array Value) (w : World) : (callFunc 36 args).run Try.prog w = .ok (.enter 36 args) w := cf_of Try.func36 (by kernel_rfl) (by kernel_rfl) args w
theorem cfToDOp (args : Array Value) (w : World) : (callFunc 39 args).run Try.prog w = .ok (.enter 39 args) w := cf_of Try.func39 (by kernel_rfl) (by kernel_rfl) args w
theorem cfSDo (args : Array Value) (w : World) : (callFunc 24 args).run Try.prog w = .ok (.enter 24 args) w := cf_of Try.func24 (by kernel_rfl) (by kernel_rfl) args w
theorem cfIDo (args : Array Value) (w : World) : (callFunc 23 args).run Try.prog w = .ok (.enter 23 args) w := cf_of Try.func23 (by kernel_rfl) (by kernel_rfl) args w
theorem cfSReplace (args : Array Value) (w : World) : (callFunc 28 args).run Try.prog w = .ok (.enter 28 args) w := cf_of Try.func28 (by kernel_rfl) (by kernel_rfl) args w
theorem cfIReplace (args : Array Value) (w : World) : (callFunc 27 args).run Try.prog w = .ok (.enter 27 args) w := cf_of Try.func27 (by kernel_rfl) (by kernel_rfl) args w
theorem cfSCrash (args : Array Value) (w : World) : (callFunc 43 args).run Try.prog w = .ok (.enter 43 args) w := cf_of Try.func43 (by kernel_rfl) (by kernel_rfl) args w
theorem cfICrash (args : Array Value) (w : World) : (callFunc 19 args).run Try.prog w = .ok (.enter 19 args) w := cf_of Try.func19 (by kernel_rfl) (by kernel_rfl) args w
set_option maxRecDepth 100000 in
/-- An operation that came in as an argument. -/
theorem dop_open {H : Type} {enc : TypeId × Value → H} {w : World} {sp : Nat → Bool} {held : Bool} {r : Reach} {b0 : Nat} {v : Value} {d : DataW H} {ps : List MemPlace} (hv : Value.okWide Try.prog w r b0 61 v) (h : DataW.Trod enc Try.prog w 0 sp held 61 v d ps) :
    ∃ k n t x, v = .agg #[.int .i64 k, .string n, .string t, .string x] ∧ dOpW (k, n, t, x) := by
  obtain ⟨cs, rfl, _⟩ := okWide_struct Try.underlying61 hv
  obtain ⟨fuel, hf0⟩ := h
  obtain ⟨l⟩ := cs
  simp only [Value.cells] at hf0
  obtain ⟨a, rfl, wa⟩ := dOp_open hf0
  exact ⟨a.1, a.2.1, a.2.2.1, a.2.2.2, rfl, wa⟩

end Go.Proofs.Ytepefbfmjjnamaa

/- Draws: a disk. -/
namespace Go.Proofs.Ytepefbfmjjnamaa
open Go.RowKit Go.My Go.Lib
set_option linter.unusedVariables false

theorem fit_nil : (DiskT.mk [] [] []).fit := ⟨⟨by simp, by simp, by simp⟩, (fun a h => by cases h), (fun a h => by cases h), (fun a h => by cases h), ⟨Nat.zero_le _, Nat.zero_le _⟩⟩
theorem fit_of_files {l s : List FileT} {ops : List DOpT} (hl : filesB l = true) (hs : filesB s = true) (h200 : ops.length ≤ 200) (ho : ∀ a ∈ ops, (Lit.int .i64 a.1).wf = true ∧ a.2.1.size ≤ 1048576 ∧ a.2.2.1.size ≤ 1048576 ∧ a.2.2.2.size ≤ 1048576) : (DiskT.mk l s ops).fit := by
  have h1 := filesB_of hl
  have h2 := filesB_of hs
  refine ⟨⟨?_, ?_, ?_⟩, fun a ha => ?_, fun a ha => ?_, ho, ?_, ?_⟩
  · have := h1.len; show l.length ≤ _; omega
  · have := h2.len; show s.length ≤ _; omega
  · show ops.length ≤ _; omega
  · have := h1.names a ha; have : a.2.size ≤ dataSum l := data_le ha; have := h1.sum; omega
  · have := h2.names a ha; have : a.2.size ≤ dataSum s := data_le ha; have := h2.sum; omega
  · have := h1.sum; show dataSum l ≤ _; omega
  · have := h2.sum; show dataSum s ≤ _; omega
theorem diskB_safe {d : DiskT} (hk : diskB d = true) : filesB d.safe = true := by
  unfold diskB at hk
  simp only [Bool.and_eq_true, decide_eq_true_eq] at hk
  exact hk.1.1.2
theorem fit_doD {d : DiskT} {op : DOpT} (h : d.fit) (ho : (Lit.int .i64 op.1).wf = true ∧ op.2.1.size ≤ 1048576 ∧ op.2.2.1.size ≤ 1048576 ∧ op.2.2.2.size ≤ 1048576) : (doD d op).fit := by
  cases hk : diskB d with
  | false => rw [doD_no hk]; exact fit_nil
  | true =>
    rw [doD_yes hk]
    refine fit_of_files (doL_ok d.live d.ops op (diskB_live hk)) (diskB_safe hk) (doO_len d.live d.ops op (diskB_ops hk)) (fun a ha => ?_)
    unfold doO at ha
    split at ha
    · rcases List.mem_append.1 ha with ha | ha
      · exact h.ops a ha
      · rw [List.mem_singleton.1 ha]; exact ho
    · exact h.ops a ha
theorem fit_sync {d : DiskT} : (syncV d).fit := by
  cases hk : diskB d with
  | false => rw [syncV_no hk]; exact fit_nil
  | true => rw [syncV_yes hk]; exact fit_of_files (diskB_live hk) (diskB_live hk) (by simp) (fun a ha => by cases ha)

theorem few_doD {d : DiskT} {op : DOpT} : (doD d op).live.length ≤ 60 := by
  cases hk : diskB d with
  | false => rw [doD_no hk]; exact Nat.zero_le _
  | true => rw [doD_yes hk]; exact (filesB_of (doL_ok d.live d.ops op (diskB_live hk))).len
theorem few_sync {d : DiskT} : (syncV d).live.length ≤ 60 := by
  cases hk : diskB d with
  | false => rw [syncV_no hk]; exact Nat.zero_le _
  | true => rw [syncV_yes hk]; exact (filesB_of (diskB_live hk)).len
theorem row_lift {α : Type} {B B' e c : Nat} {f : α → List Value} {v : Value} {l : List α} {w : World} (h : RowL B e c f v l w) (hq : ∀ q, v.ownBlock = some q → B' ≤ q) : RowL B' e c f v l w := by
  refine ⟨h.1, ?_⟩
  rcases h.2 with h0 | ⟨g, cap, cur, rfl, _, h2⟩
  · exact .inl h0
  · exact .inr ⟨g, cap, cur, rfl, hq g rfl, h2⟩
theorem grown_own {w0 w w' : World} {r r2 : Option Nat} (h : w0.grownBy w r) (h2 : w.grownBy w' r2) (hq : ∀ q, r2 = some q → w0.heap.size ≤ q) : w0.grownBy w' r :=
  ⟨h2.os.trans h.os, h2.tape.trans h.tape, h2.output.trans h.output, Nat.le_trans h.size h2.size, fun k hk hne => (h2.block k (Nat.lt_of_lt_of_le hk h.size) (fun c => by have := hq k c.symm; omega)).trans (h.block k hk hne)⟩
theorem rd_block {B g : Nat} {w : World} (h : Rd B w g) : ∃ a len cap p, w.heap[g]? = some (.cells #[.slice a len cap, .int .i64 (p : Nat)] 112 (0, 0)) := by
  obtain ⟨_, _, a, len, cap, p, hh, _⟩ := h
  exact ⟨a, len, cap, p, hh⟩
theorem blk_ne {w : World} {q : Nat} {cs : Array Value} {T : TypeId} (h : w.heap[q]? = some (.cells cs T (0, 0))) (hT : T ≠ 36) : ∀ p ds, some q = some p → w.heap[p]? ≠ some (.cells ds 36 (0, 0)) := by
  intro p ds e h2
  rw [← Option.some.inj e, h] at h2
  injection h2 with h2
  injection h2 with _ h3
  exact hT h3
theorem DiskIn.read {B g : Nat} {x y z : Value} {d : DiskT} {w w' : World} (h : DiskIn x y z d w) (hR : Rd B w g) (hg : w.grownBy w' (some g)) : DiskIn x y z d w' := by
  obtain ⟨a, len, cap, p, hh⟩ := rd_block hR
  exact ⟨RowL.kept h.live hg (rowK h.live hh (by decide)), RowL.kept h.safe hg (rowK h.safe hh (by decide)), h.ops.kept hg (blk_ne hh (by decide))⟩
theorem DiskIn.row {q : Nat} {x y z a b c : Value} {d : DiskT} {w w' : World} (h : DiskIn x y z d w) (hq : w.heap[q]? = some (.cells #[a, b, c] 27 (0, 0))) (ha : ∃ p n m, a = .slice p n m) (hb : ∃ p n m, b = .slice p n m) (hc : ∃ p n m, c = .slice p n m) (hg : w.grownBy w' (some q)) : DiskIn x y z d w' :=
  ⟨RowL.kept h.live hg (rowK h.live hq (by decide)), RowL.kept h.safe hg (rowK h.safe hq (by decide)), h.ops.kept hg (blk_ne hq (by decide))⟩
theorem DiskIn.sl {x y z : Value} {d : DiskT} {w : World} (h : DiskIn x y z d w) : (∃ p n m, x = .slice p n m) ∧ (∃ p n m, y = .slice p n m) ∧ (∃ p n m, z = .slice p n m) := by
  obtain ⟨p1, m1, h1, _⟩ := h.live.open
  obtain ⟨p2, m2, h2, _⟩ := h.safe.open
  obtain ⟨p3, m3, h3, _⟩ := h.ops.open
  exact ⟨⟨_, _, _, h1⟩, ⟨_, _, _, h2⟩, ⟨_, _, _, h3⟩⟩
theorem grown_new {w0 w w' : World} {r : Option Nat} {q : Nat} (h : w0.grownBy w r) (h2 : w.grownBy w' (some q)) (hq : w0.heap.size ≤ q) : w0.grownBy w' r :=
  ⟨h2.os.trans h.os, h2.tape.trans h.tape, h2.output.trans h.output, Nat.le_trans h.size h2.size, fun k hk hne => (h2.block k (Nat.lt_of_lt_of_le hk h.size) (fun c => by have := Option.some.inj c; omega)).trans (h.block k hk hne)⟩
theorem grown_bel {w0 w w' : World} {r : Option Nat} (h : w0.grownBy w r) (hb : Below w.heap.size w w') : w0.grownBy w' r := grw_trans h (grw_of_below hb r)
/-- Some disk of the right sizes. -/
def QD (B : Nat) (u : Value) (w : World) : Prop := ∃ E x y z, DiskT.fit E ∧ u = .agg #[x, y, z] ∧ DiskIn x y z E w ∧ (∀ q, x.ownBlock = some q → B ≤ q) ∧ E.live.length ≤ 60
theorem QD.below {B : Nat} {u : Value} {w w' : World} (h : QD B u w) (hb : Below w.heap.size w w') : QD B u w' := by
  obtain ⟨E, x, y, z, h1, h2, h3, h4⟩ := h
  exact ⟨E, x, y, z, h1, h2, h3.below hb, h4⟩
theorem QD.read {B B0 g : Nat} {u : Value} {w w' : World} (h : QD B u w) (hR : Rd B0 w g) (hg : w.grownBy w' (some g)) : QD B u w' := by
  obtain ⟨E, x, y, z, h1, h2, h3, h4⟩ := h
  exact ⟨E, x, y, z, h1, h2, h3.read hR hg, h4⟩
def QV (B : Nat) (u : Value) (w : World) : Prop := ∃ q x y z E, u = .pointer (some ⟨q, 0, none⟩) ∧ B ≤ q ∧ w.heap[q]? = some (.cells #[x, y, z] 27 (0, 0)) ∧ DiskT.fit E ∧ DiskIn x y z E w ∧ (∀ p, x.ownBlock = some p → B ≤ p) ∧ E.live.length ≤ 60
theorem QV.below {B : Nat} {u : Value} {w w' : World} (h : QV B u w) (hb : Below w.heap.size w w') : QV B u w' := by
  obtain ⟨q, x, y, z, E, h1, h2, h3, h4, h5, h6⟩ := h
  exact ⟨q, x, y, z, E, h1, h2, (hb.block q (Array.getElem?_eq_some_iff.1 h3).1).trans h3, h4, h5.below hb, h6⟩
theorem rd_ne {B g q : Nat} {w : World} {cs : Array Value} (hR : Rd B w g) (hq : w.heap[q]? = some (.cells cs 27 (0, 0))) : q ≠ g := by
  obtain ⟨a, len, cap, p, hh⟩ := rd_block hR
  intro c
  subst c
  rw [hh] at hq
  injection hq with hq
  injection hq with _ h2
  exact absurd h2 (by decide)
theorem QV.read {B B0 g : Nat} {u : Value} {w w' : World} (h : QV B u w) (hR : Rd B0 w g) (hg : w.grownBy w' (some g)) : QV B u w' := by
  obtain ⟨q, x, y, z, E, h1, h2, h3, h4, h5, h6⟩ := h
  exact ⟨q, x, y, z, E, h1, h2, (hg.block q (Array.getElem?_eq_some_iff.1 h3).1 (fun c => rd_ne hR h3 (Option.some.inj c))).trans h3, h4, h5.read hR hg, h6⟩
def NV (B : Nat) (u : Value) (w : World) : Prop := ∃ q a b c, u = .pointer (some ⟨q, 0, none⟩) ∧ B ≤ q ∧ ((∃ p n m, a = .slice p n m) ∧ (∃ p n m, b = .slice p n m) ∧ (∃ p n m, c = .slice p n m)) ∧ w.heap[q]? = some (.cells #[a, b, c] 27 (0, 0))
theorem NV.below {B : Nat} {u : Value} {w w' : World} (h : NV B u w) (hb : Below w.heap.size w w') : NV B u w' := by
  obtain ⟨q, a, b, c, h1, h2, h3, h4⟩ := h
  exact ⟨q, a, b, c, h1, h2, h3, (hb.block q (Array.getElem?_eq_some_iff.1 h4).1).trans h4⟩
theorem NV.read {B B0 g : Nat} {u : Value} {w w' : World} (h : NV B u w) (hR : Rd B0 w g) (hg : w.grownBy w' (some g)) : NV B u w' := by
  obtain ⟨q, a, b, c, h1, h2, h3, h4⟩ := h
  exact ⟨q, a, b, c, h1, h2, h3, (hg.block q (Array.getElem?_eq_some_iff.1 h4).1 (fun c => rd_ne hR h4 (Option.some.inj c))).trans h4⟩
theorem QD.row {B q : Nat} {u a b c : Value} {w w' : World} (h : QD B u w) (hq : w.heap[q]? = some (.cells #[a, b, c] 27 (0, 0))) (hs : (∃ p n m, a = .slice p n m) ∧ (∃ p n m, b = .slice p n m) ∧ (∃ p n m, c = .slice p n m)) (hg : w.grownBy w' (some q)) : QD B u w' := by
  obtain ⟨E, x, y, z, h1, h2, h3, h4⟩ := h
  exact ⟨E, x, y, z, h1, h2, h3.row hq hs.1 hs.2.1 hs.2.2 hg, h4⟩
theorem cfDop (args : Array Value) (w : World) : (callFunc 62 args).run Try.prog w = .ok (.enter 62 args) w := cf_of Try.func62 (by kernel_rfl) (by kernel_rfl) args w

/-- What stands between two steps of the draw of a disk. -/
structure DrJ (B g : Nat) (d : DiskT) (y1 y2 y3 : Value) (w wr : World) : Prop where
  fit : d.fit
  box : wr.heap[w.heap.size + 1]? = some (.cells #[y1, y2, y3] 27 (0, 0))
  disk : DiskIn y1 y2 y3 d wr
  rd : Rd B wr g
  gr : w.grownBy wr (some g)
  res : wr.heap[w.heap.size]? = some (.cells #[.slice none 0 0, .slice none 0 0, .slice none 0 0] 27 (0, 0))
  low : ∀ q, y1.ownBlock = some q → w.heap.size ≤ q
theorem DrJ.below {B g : Nat} {d : DiskT} {y1 y2 y3 : Value} {w wr wz : World} (h : DrJ B g d y1 y2 y3 w wr) (hb : Below wr.heap.size wr wz) : DrJ B g d y1 y2 y3 w wz :=
  ⟨h.fit, (hb.block _ (Array.getElem?_eq_some_iff.1 h.box).1).trans h.box, h.disk.below hb, h.rd.kept (grw_of_below hb none) (by simp) (by simp), grown_bel h.gr hb, (hb.block _ (Array.getElem?_eq_some_iff.1 h.res).1).trans h.res, h.low⟩
theorem DrJ.read {B g : Nat} {d : DiskT} {y1 y2 y3 : Value} {w wr wz : World} (h : DrJ B g d y1 y2 y3 w wr) (hR : Rd B wz g) (hg : wr.grownBy wz (some g)) : DrJ B g d y1 y2 y3 w wz :=
  ⟨h.fit, (hg.block _ (Array.getElem?_eq_some_iff.1 h.box).1 (fun c => rd_ne h.rd h.box (Option.some.inj c))).trans h.box, h.disk.read h.rd hg, hR, grw_trans h.gr hg, (hg.block _ (Array.getElem?_eq_some_iff.1 h.res).1 (fun c => rd_ne h.rd h.res (Option.some.inj c))).trans h.res, h.low⟩
theorem DrJ.put {B g : Nat} {d e : DiskT} {y1 y2 y3 u1 u2 u3 : Value} {w wr : World} (h : DrJ B g d y1 y2 y3 w wr) (hB : B ≤ w.heap.size) (hE : e.fit) (hu : DiskIn u1 u2 u3 e wr) (hlow : ∀ q, u1.ownBlock = some q → w.heap.size ≤ q) :
    DrJ B g e u1 u2 u3 w (((wr.setCell ⟨w.heap.size + 1, 0, none⟩ u1).setCell ⟨w.heap.size + 1, 1, none⟩ u2).setCell ⟨w.heap.size + 1, 2, none⟩ u3) := by
  have gz := grw_set3 wr (w.heap.size + 1) u1 u2 u3
  obtain ⟨s1, s2, s3⟩ := h.disk.sl
  exact ⟨hE, set3 h.box _ _ _, hu.row h.box s1 s2 s3 gz, h.rd.kept gz (fun c => rd_ne h.rd h.box (Option.some.inj c)) (fun k hk => by have := Option.some.inj hk; omega), grown_new h.gr gz (Nat.le_succ _), (gz.block _ (Array.getElem?_eq_some_iff.1 h.res).1 (fun c => by have := Option.some.inj c; omega)).trans h.res, hlow⟩

theorem DrJ.put0 {B g : Nat} {d : DiskT} {l : List FileT} {y1 y2 y3 u : Value} {w wr : World} (h : DrJ B g d y1 y2 y3 w wr) (hB : B ≤ w.heap.size) (hE : (DiskT.mk l d.safe d.ops).fit) (hu : FilesAt 0 u l wr) (hlow : ∀ q, u.ownBlock = some q → w.heap.size ≤ q) :
    DrJ B g ⟨l, d.safe, d.ops⟩ u y2 y3 w (wr.setCell ⟨w.heap.size + 1, 0, none⟩ u) := by
  have gz := grw_set (grw_refl wr (some (w.heap.size + 1))) 0 u
  obtain ⟨s1, s2, s3⟩ := h.disk.sl
  have hd : DiskIn u y2 y3 ⟨l, d.safe, d.ops⟩ wr := ⟨hu, h.disk.safe, h.disk.ops⟩
  exact ⟨hE, heap_setCell_same wr _ 0 _ _ u h.box, hd.row h.box s1 s2 s3 gz, h.rd.kept gz (fun c => rd_ne h.rd h.box (Option.some.inj c)) (fun k hk => by have := Option.some.inj hk; omega), grown_new h.gr gz (Nat.le_succ _), (gz.block _ (Array.getElem?_eq_some_iff.1 h.res).1 (fun c => by have := Option.some.inj c; omega)).trans h.res, hlow⟩
theorem DrJ.put1 {B g : Nat} {d : DiskT} {l : List FileT} {y1 y2 y3 u : Value} {w wr : World} (h : DrJ B g d y1 y2 y3 w wr) (hB : B ≤ w.heap.size) (hE : (DiskT.mk d.live l d.ops).fit) (hu : FilesAt 0 u l wr) :
    DrJ B g ⟨d.live, l, d.ops⟩ y1 u y3 w (wr.setCell ⟨w.heap.size + 1, 1, none⟩ u) := by
  have gz := grw_set (grw_refl wr (some (w.heap.size + 1))) 1 u
  obtain ⟨s1, s2, s3⟩ := h.disk.sl
  have hd : DiskIn y1 u y3 ⟨d.live, l, d.ops⟩ wr := ⟨h.disk.live, hu, h.disk.ops⟩
  exact ⟨hE, heap_setCell_same wr _ 1 _ _ u h.box, hd.row h.box s1 s2 s3 gz, h.rd.kept gz (fun c => rd_ne h.rd h.box (Option.some.inj c)) (fun k hk => by have := Option.some.inj hk; omega), grown_new h.gr gz (Nat.le_succ _), (gz.block _ (Array.getElem?_eq_some_iff.1 h.res).1 (fun c => by have := Option.some.inj c; omega)).trans h.res, h.low⟩
theorem DrJ.put2 {B g : Nat} {d : DiskT} {l : List DOpT} {y1 y2 y3 u : Value} {w wr : World} (h : DrJ B g d y1 y2 y3 w wr) (hB : B ≤ w.heap.size) (hE : (DiskT.mk d.live d.safe l).fit) (hu : OpsIn u l wr) :
    DrJ B g ⟨d.live, d.safe, l⟩ y1 y2 u w (wr.setCell ⟨w.heap.size + 1, 2, none⟩ u) := by
  have gz := grw_set (grw_refl wr (some (w.heap.size + 1))) 2 u
  obtain ⟨s1, s2, s3⟩ := h.disk.sl
  have hd : DiskIn y1 y2 u ⟨d.live, d.safe, l⟩ wr := ⟨h.disk.live, h.disk.safe, hu⟩
  exact ⟨hE, heap_setCell_same wr _ 2 _ _ u h.box, hd.row h.box s1 s2 s3 gz, h.rd.kept gz (fun c => rd_ne h.rd h.box (Option.some.inj c)) (fun k hk => by have := Option.some.inj hk; omega), grown_new h.gr gz (Nat.le_succ _), (gz.block _ (Array.getElem?_eq_some_iff.1 h.res).1 (fun c => by have := Option.some.inj c; omega)).trans h.res, h.low⟩
/-- The answer: what stands in the box, laid into the block of the result. -/
theorem DrJ.fin {B g : Nat} {d : DiskT} {y1 y2 y3 : Value} {w wr : World} (h : DrJ B g d y1 y2 y3 w wr) (hB : B ≤ w.heap.size) :
    DiskIn y1 y2 y3 d (((wr.setCell ⟨w.heap.size, 0, none⟩ y1).setCell ⟨w.heap.size, 1, none⟩ y2).setCell ⟨w.heap.size, 2, none⟩ y3) ∧ Rd B (((wr.setCell ⟨w.heap.size, 0, none⟩ y1).setCell ⟨w.heap.size, 1, none⟩ y2).setCell ⟨w.heap.size, 2, none⟩ y3) g ∧ w.grownBy (((wr.setCell ⟨w.heap.size, 0, none⟩ y1).setCell ⟨w.heap.size, 1, none⟩ y2).setCell ⟨w.heap.size, 2, none⟩ y3) (some g) := by
  have gz := grw_set3 wr w.heap.size y1 y2 y3
  exact ⟨h.disk.row h.res ⟨_, _, _, rfl⟩ ⟨_, _, _, rfl⟩ ⟨_, _, _, rfl⟩ gz, h.rd.kept gz (fun c => rd_ne h.rd h.res (Option.some.inj c)) (fun k hk => by have := Option.some.inj hk; omega), grown_new h.gr gz (Nat.le_refl _)⟩
theorem opsIn_drop {g o n cap c2 : Nat} {l : List DOpT} {w : World} (h : OpsIn (.slice (some ⟨g, o, none⟩) n cap) l w) (hl : l ≠ []) (hc1 : l.length - 1 ≤ c2) (hc2 : c2 ≤ maxLen) : OpsIn (.slice (some ⟨g, o + 4, none⟩) (l.length - 1) c2) (l.drop 1) w := by
  have hb : ∃ cs, w.heap[g]? = some (.cells cs 36 (0, 0)) := by
    obtain ⟨p, c, hv, _, _, h3⟩ := h
    injection hv with h4 h5 h6
    subst h4
    rcases h3 with rfl | ⟨b, o2, cs, hp, hb, _⟩
    · exact absurd rfl hl
    · injection hp with hp
      injection hp with hp1 hp2 _
      subst hp1
      exact ⟨cs, hb⟩
  obtain ⟨cs, hcs⟩ := hb
  refine ⟨_, c2, by rw [List.length_drop], by rw [List.length_drop]; exact hc1, hc2, .inr ⟨g, o + 4, cs, rfl, hcs, fun i hi j u hu => ?_⟩⟩
  rw [List.length_drop] at hi
  rw [List.getElem_drop] at hu
  have := h.cell (by omega : 1 + i < l.length) hu
  rw [show o + ((1 + i) * 4 + j) = o + 4 + (i * 4 + j) from by omega] at this
  exact this
theorem big_fit {S N : ByteArray} (hS : S.size ≤ 200000) (hN : N.size = 3 := by rfl) : (DiskT.mk [(N, S)] [(N, S)] []).fit := by
  have e : dataSum [(N, S)] = S.size := by show S.size + 0 = _; omega
  have h : ∀ a ∈ [(N, S)], a.1.size ≤ 1048576 ∧ a.2.size ≤ 1048576 := fun a ha => by
    rw [List.mem_singleton.1 ha]
    exact ⟨by show N.size ≤ _; omega, by show S.size ≤ _; omega⟩
  exact ⟨⟨by show (1 : Nat) ≤ _; omega, by show (1 : Nat) ≤ _; omega, Nat.zero_le _⟩, h, h, (fun a h => by cases h), ⟨by show dataSum [(N, S)] ≤ _; omega, by show dataSum [(N, S)] ≤ _; omega⟩⟩
theorem set_sum {l l' : List FileT} {b : FileT} (h : l' = l ∨ ∃ j, j < l.length ∧ l' = l.set j b) : l'.length = l.length ∧ dataSum l' ≤ dataSum l + b.2.size ∧ ∀ a ∈ l', a ∈ l ∨ a = b := by
  rcases h with rfl | ⟨j, hj, rfl⟩
  · exact ⟨rfl, Nat.le_add_right _ _, fun a ha => .inl ha⟩
  · refine ⟨List.length_set .., ?_, fun a ha => List.mem_or_eq_of_mem_set ha⟩
    rw [List.set_eq_take_append_cons_drop, if_pos hj, dataSum_app, dataSum_cons]
    have e : dataSum l = dataSum (l.take j) + (l[j].2.size + dataSum (l.drop (j + 1))) := by
      have h2 : l = l.take j ++ (l[j] :: l.drop (j + 1)) := by rw [← List.drop_eq_getElem_cons hj, List.take_append_drop]
      have h3 := congrArg dataSum h2
      rw [dataSum_app, dataSum_cons] at h3
      exact h3
    omega
theorem fit_over {d : DiskT} {l s : List FileT} {N : ByteArray} (h : d.fit) (hl : l = d.live ∨ ∃ j, j < d.live.length ∧ l = d.live.set j (N, ByteArray.mk #[])) (hs : s = d.safe ∨ ∃ j, j < d.safe.length ∧ s = d.safe.set j (N, ByteArray.mk #[])) (hN : N.size ≤ 1048576 := by decide) : (DiskT.mk l s d.ops).fit := by
  have h1 := set_sum hl
  have h2 := set_sum hs
  have e0 : (N, ByteArray.mk #[]).2.size = 0 := rfl
  have hb : N.size ≤ 1048576 ∧ (ByteArray.mk #[]).size ≤ 1048576 := ⟨hN, Nat.zero_le _⟩
  refine ⟨⟨by show l.length ≤ _; have := h.small.live; omega, by show s.length ≤ _; have := h.small.safe; omega, h.small.ops⟩, fun a ha => ?_, fun a ha => ?_, h.ops, ⟨by show dataSum l ≤ _; have := h.sums.1; omega, by show dataSum s ≤ _; have := h.sums.2; omega⟩⟩
  · rcases h1.2.2 a ha with ha | rfl
    · exact h.live a ha
    · exact hb
  · rcases h2.2.2 a ha with ha | rfl
    · exact h.safe a ha
    · exact hb
theorem fit_app {d : DiskT} {s : List FileT} {N : ByteArray} (h : d.fit) (hf : d.live.length ≤ 60) (hs : s = d.safe ∨ ∃ j, j < d.safe.length ∧ s = d.safe.set j (N, ByteArray.mk #[])) (hN : N.size ≤ 1048576 := by decide) : (DiskT.mk (d.live ++ [(N, ByteArray.mk #[])]) s d.ops).fit := by
  have h2 := (fit_over h (.inl rfl) hs hN)
  have e : dataSum (d.live ++ [(N, ByteArray.mk #[])]) = dataSum d.live := by rw [dataSum_app, dataSum_cons]; rfl
  refine ⟨⟨by show (d.live ++ _).length ≤ _; rw [List.length_append]; show _ + 1 ≤ _; omega, h2.small.safe, h.small.ops⟩, fun a ha => ?_, h2.safe, h.ops, ⟨by show dataSum _ ≤ _; rw [e]; exact h.sums.1, h2.sums.2⟩⟩
  rcases List.mem_append.1 ha with ha | ha
  · exact h.live a ha
  · rw [List.mem_singleton.1 ha]; exact ⟨hN, Nat.zero_le _⟩
theorem fit_drop {d : DiskT} (h : d.fit) : (DiskT.mk d.live d.safe (d.ops.drop 1)).fit :=
  ⟨⟨h.small.live, h.small.safe, by show (d.ops.drop 1).length ≤ _; rw [List.length_drop]; have := h.small.ops; omega⟩, h.live, h.safe, fun a ha => h.ops a (List.mem_of_mem_drop ha), h.sums⟩

structure DrN (W1 : World) (B g : Nat) (y1 y2 y3 : Value) (v : Nat → Value) (L : Nat → Bool) (w : World) : Prop where
  G : W1.grownBy w (some g)
  R : Rd B w g
  f0 : L 0 = true → v 0 = .agg #[y1, y2, y3]
  f1 : L 1 = true → v 1 = .pointer (some ⟨g, 0, none⟩)
  f2 : L 2 = true → ∃ k n t x, v 2 = .agg #[.int .i64 k, .string n, .string t, .string x] ∧ opW (k, n, t, x)
  f3 : L 3 = true → ∃ x c, v 3 = .tuple #[x, .int .i64 c] ∧ QD W1.heap.size x w
  f4 : L 4 = true → ∃ x c, v 4 = .tuple #[x, .int .i64 c] ∧ QD W1.heap.size x w
  f5 : L 5 = true → QD W1.heap.size (v 5) w
  f6 : L 6 = true → ∃ c : Int, v 6 = .int .i64 c
  f7 : L 7 = true → NV W1.heap.size (v 7) w
  f8 : L 8 = true → QV W1.heap.size (v 7) w
  f9 : L 9 = true → ∃ c : Int, v 9 = .int .i64 c
  gS : L 8 = true → L 7 = true
theorem DrN.grow {W1 : World} {B g : Nat} {y1 y2 y3 : Value} {v : Nat → Value} {L : Nat → Bool} {w w' : World} (h : DrN W1 B g y1 y2 y3 v L w) (hb : Below w.heap.size w w') : DrN W1 B g y1 y2 y3 v L w' where
  G := grown_bel h.G hb
  R := h.R.kept (grw_of_below hb none) (by simp) (by simp)
  f0 := h.f0
  f1 := h.f1
  f2 := h.f2
  f3 := fun a => by
    obtain ⟨x, c, e, hq⟩ := h.f3 a
    exact ⟨x, c, e, hq.below hb⟩
  f4 := fun a => by
    obtain ⟨x, c, e, hq⟩ := h.f4 a
    exact ⟨x, c, e, hq.below hb⟩
  f5 := fun a => (h.f5 a).below hb
  f6 := h.f6
  f7 := fun a => (h.f7 a).below hb
  f8 := fun a => (h.f8 a).below hb
  f9 := h.f9
  gS := h.gS
theorem DrN.read {W1 : World} {B g : Nat} {y1 y2 y3 : Value} {v : Nat → Value} {L : Nat → Bool} {w w' : World} (h : DrN W1 B g y1 y2 y3 v L w) (hR : Rd B w' g) (hg : w.grownBy w' (some g)) : DrN W1 B g y1 y2 y3 v L w' where
  G := grw_trans h.G hg
  R := hR
  f0 := h.f0
  f1 := h.f1
  f2 := h.f2
  f3 := fun a => by
    obtain ⟨x, c, e, hq⟩ := h.f3 a
    exact ⟨x, c, e, hq.read h.R hg⟩
  f4 := fun a => by
    obtain ⟨x, c, e, hq⟩ := h.f4 a
    exact ⟨x, c, e, hq.read h.R hg⟩
  f5 := fun a => (h.f5 a).read h.R hg
  f6 := h.f6
  f7 := fun a => (h.f7 a).read h.R hg
  f8 := fun a => (h.f8 a).read h.R hg
  f9 := h.f9
  gS := h.gS

def DrawnDisk (B g : Nat) (w : World) (e : Ending) (w' : World) : Prop := ∃ u1 u2 u3 d, e = .returned (.agg #[u1, u2, u3]) ∧ DiskT.fit d ∧ DiskIn u1 u2 u3 d w' ∧ Rd B w' g ∧ w.grownBy w' (some g)

set_option maxRecDepth 20000 in
set_option maxHeartbeats 8000000 in
theorem disk_any (B g : Nat) (w : World) (h : Rd B w g) : Calls Try.prog 53 #[.pointer (some ⟨g, 0, none⟩)] w (DrawnDisk B g w) := by
  have hlt : g < w.heap.size := h.lt
  have hBw : B ≤ w.heap.size := h.2.1
  have hJ0 : DrJ B g ⟨[], [], []⟩ (.slice none 0 0) (.slice none 0 0) (.slice none 0 0) w ((w.alloc (.cells #[.slice none 0 0, .slice none 0 0, .slice none 0 0] 27)).alloc (.cells #[.slice none 0 0, .slice none 0 0, .slice none 0 0] 27)) := by
    have hb : Below w.heap.size w (w.alloc (.cells #[.slice none 0 0, .slice none 0 0, .slice none 0 0] 27)) := (Below.refl _ _).alloc (Nat.le_refl _) _
    have hb2 := hb.alloc (by simp) (.cells #[.slice none 0 0, .slice none 0 0, .slice none 0 0] 27)
    obtain ⟨_, x1, x2⟩ := boxes2 w (.cells #[.slice none 0 0, .slice none 0 0, .slice none 0 0] 27) (.cells #[.slice none 0 0, .slice none 0 0, .slice none 0 0] 27) _ (Below.refl _ _)
    exact ⟨fit_nil, x2, ⟨RowL.nil _ _ _ _ _, RowL.nil _ _ _ _ _, ops_toIn (B := 0) (RowL.nil _ _ _ _ _)⟩, (h.alloc _).alloc _, grw_of_below hb2 _, x1, (fun q c => by cases c)⟩
  have HJ := Lib.hid hJ0
  clear hJ0 h
  go_enter Try.func53, Try.ntmps53
  go_wp2_with (go_at_call 94; refine (size_any B g _ HJ.out.rd).mono ?_; rintro e w1 ⟨n, rfl, hn1, hn2, hR1, hg1⟩)
  obtain ⟨m0, rfl⟩ : ∃ m : Nat, n = (m : Int) := ⟨n.toNat, by omega⟩
  have HJ1 := Lib.hid (HJ.out.read hR1 hg1)
  have hm10 : m0 ≤ 10 := by omega
  clear hR1 hg1 HJ hn1 hn2
  go_loopw [4] (fun i wr => ∃ (m : Nat) (d : DiskT) (y1 y2 y3 : Value), i = .int .i64 (m : Int) ∧ m ≤ 10 ∧ d.live.length ≤ 60 ∧ DrJ B g d y1 y2 y3 w wr) (fun i _ => (RowKit.intOf i).toNat)
  case atStart => exact ⟨m0, _, _, _, _, rfl, hm10, Nat.zero_le _, HJ1.out⟩
  case round =>
    clear HJ1 hm10
    obtain ⟨m, d, y1, y2, y3, rfl, hm, hfw, hJ⟩ := hrel
    have HFW := Lib.hid hfw
    clear hfw
    have HJ := Lib.hid hJ
    clear hJ
    by_cases hz : m = 0
    · subst hz
      go_wp2_with fail
      refine (below_any B g _ _ HJ.out.rd (by omega) (by omega)).mono ?_
      rintro e wb ⟨z, rfl, hz0, hz1, hR, hg⟩
      have HJ := Lib.hid (HJ.out.read hR hg)
      clear hR hg
      obtain ⟨s1, s2, s3⟩ := HJ.out.disk.sl
      obtain ⟨q1, n1, c1, rfl⟩ := s1
      obtain ⟨q2, n2, c2, rfl⟩ := s2
      obtain ⟨q3, n3, c3, rfl⟩ := s3
      by_cases z0 : z = 0
      · subst z0
        obtain ⟨i0, hi, hz0', hz1', hz2'⟩ := info_parts info_File
        obtain ⟨p, cap, e1, _, _, _⟩ := HJ.out.disk.live.open
        injection e1 with e11 e12 e13
        subst e11 e12 e13
        have hsm := HJ.out.fit.small.live
        have hal : Below wb.heap.size wb (wb.alloc (.cells #[.string ⟨#[122, 122]⟩, .string (ByteArray.mk #[])] 88)) := (Below.refl _ _).alloc (Nat.le_refl _) _
        have HJA := Lib.hid (HJ.out.below hal)
        have hLV := row_lift HJA.out.disk.live HJA.out.low
        have hw0 : w.heap.size ≤ (wb.alloc (.cells #[.string ⟨#[122, 122]⟩, .string (ByteArray.mk #[])] 88)).heap.size := HJA.out.gr.size
        obtain ⟨⟨b0, b1, b2⟩, _⟩ := dk_cells HJ.out.box
        have HRM := Lib.hid (fun (w6 : World) (hgr : (wb.alloc (.cells #[.string ⟨#[122, 122]⟩, .string (ByteArray.mk #[])] 88)).grownBy w6 (Value.slice q1 d.live.length c1).ownBlock) => show w6.heap[w.heap.size + 1]? = some (.cells #[.slice q1 d.live.length c1, .slice q2 n2 c2, .slice q3 n3 c3] 27 (0, 0)) from (hgr.block _ (Array.getElem?_eq_some_iff.1 HJA.out.box).1 (fun c => row_kind HJA.out.disk.live HJA.out.box (by decide) c.symm)).trans HJA.out.box)
        clear hal
        go_upto_region 19 with (at_builtin; refine wpList_plain rfl fun K hK => wp_append_over (f := fileC) _ (.tmp 33) (.tmp 35) _ rfl w.heap.size 88 i0 (.agg #[.string ByteArray.empty, .string ByteArray.empty]) 2 32 fileC_len Try.underlying24 hi hz0' hz1' hz2' rfl (by decide) (.slice q1 d.live.length c1) d.live rfl hLV ((⟨#[122, 122]⟩, ByteArray.mk #[]) : FileT) ⟨wb.heap.size, 0, none⟩ 1 rfl (World.news_of_block (cs := #[_, _]) (t := 88) (fr := (0, 0)) (heap_alloc_new wb _)) (by simp [fileC, Value.oneCell']) (by unfold maxLen; omega) (by omega) hw0 fun g6 cap6 w6 hr6 hgr6 hov6 => hK _ _ ?_; have HBX := Lib.hid (HRM.out w6 hgr6); have HR6 := Lib.hid hr6; have HG6 := Lib.hid hgr6; have HO6 := Lib.hid hov6; obtain ⟨⟨c0, c1', c2'⟩, cf⟩ := dk_cells HBX.out; have cf0 := cf 0; clear hr6 hgr6 hov6 cf)
        clear b0 b1 b2 c0 c1' c2' cf0
        obtain ⟨l', hl', hle⟩ := HO6.out 0 _ d.live HJA.out.disk.live
        obtain ⟨s', hs', hse⟩ := HO6.out 0 _ d.safe HJA.out.disk.safe
        have HJ6 : Hid (DrJ B g ⟨l', s', d.ops⟩ (.slice q1 d.live.length c1) (.slice q2 n2 c2) (.slice q3 n3 c3) w w6) :=
          ⟨fit_over HJ.out.fit hle hse, HBX.out, ⟨hl', hs', HJA.out.disk.ops.kept HG6.out (fun q cs e h2 => row_kind hLV h2 (by decide) e)⟩, HJA.out.rd.kept HG6.out (fun e => by obtain ⟨_, _, _, _, hh⟩ := rd_block HJA.out.rd; exact row_kind hLV hh (by decide) e) (fun k hk => Nat.le_trans hBw (HJA.out.low k hk)), grown_own HJA.out.gr HG6.out HJA.out.low, (HG6.out.block _ (Array.getElem?_eq_some_iff.1 HJA.out.res).1 (fun c => row_kind hLV HJA.out.res (by decide) c.symm)).trans HJA.out.res, HJA.out.low⟩
        have HJ := Lib.hid (HJ6.out.put0 hBw (show (DiskT.mk (d.live ++ [(⟨#[122, 122]⟩, ByteArray.mk #[])]) s' d.ops).fit from fit_app HJA.out.fit HFW.out hse) (HR6.out.mono (Nat.zero_le _)) (fun q hq => (World.ownsRow.lt HR6.out q hq).1))
        clear hLV hw0 hl' hs'
        generalize w6.setCell ⟨w.heap.size + 1, 0, none⟩ (.slice (some ⟨g6, 0, none⟩) (d.live.length + 1) cap6) = w7 at HJ ⊢
        obtain ⟨⟨b0, b1, b2⟩, _⟩ := dk_cells HJ.out.box
        obtain ⟨⟨r0, r1, r2⟩, rf⟩ := dk_cells HJ.out.res
        have rf0 := rf 0
        have rf1 := rf 1
        have rf2 := rf 2
        clear rf
        go_wp2
        refine bodyPost_ret (v := .agg #[.slice (some ⟨g6, 0, none⟩) (d.live.length + 1) cap6, .slice q2 n2 c2, .slice q3 n3 c3]) (results_cell_row Try.results53 _ _ w.heap.size 27 _ (0, 0) _ rfl (set3 HJ.out.res _ _ _) Try.underlying27 rfl (by kernel_rfl)) rfl ⟨_, _, _, _, rfl, HJ.out.fit, (HJ.out.fin hBw).1, (HJ.out.fin hBw).2.1, (HJ.out.fin hBw).2.2⟩
      have z0' : (z == 0) = false := by simpa using z0
      by_cases z1 : z = 1
      · subst z1
        obtain ⟨p, cap, e3, hcm, hlc, hp⟩ := HJ.out.disk.ops.open
        injection e3 with e31 e32 e33
        subst e31 e32 e33
        by_cases hl : d.ops = []
        · have hl0 : d.ops.length = 0 := by rw [hl]; rfl
          have HL := Lib.hid hl0
          have hl1 : ((d.ops.length : Nat) : Int) = 0 := by omega
          clear hp hl hl0 hcm hlc
          obtain ⟨⟨b0, b1, b2⟩, _⟩ := dk_cells HJ.out.box
          obtain ⟨⟨r0, r1, r2⟩, rf⟩ := dk_cells HJ.out.res
          have rf0 := rf 0
          have rf1 := rf 1
          have rf2 := rf 2
          clear rf
          go_wp2
          refine bodyPost_ret (v := .agg #[.slice q1 n1 c1, .slice q2 n2 c2, .slice q3 d.ops.length c3]) (results_cell_row Try.results53 _ _ w.heap.size 27 _ (0, 0) _ rfl (set3 HJ.out.res _ _ _) Try.underlying27 rfl (by kernel_rfl)) rfl ⟨_, _, _, _, rfl, HJ.out.fit, (HJ.out.fin hBw).1, (HJ.out.fin hBw).2.1, (HJ.out.fin hBw).2.2⟩
        · obtain ⟨g3, o3, rfl⟩ := hp.resolve_left hl
          have hl0 : 0 < d.ops.length := List.length_pos_iff.2 hl
          have hl1 : (0 : Int) < (d.ops.length : Int) := by omega
          have hl2 : (1 : Int) ≤ (d.ops.length : Int) := by omega
          have hl3 : (d.ops.length : Int) ≤ (c3 : Int) := by omega
          obtain ⟨⟨b0, b1, b2⟩, bf⟩ := dk_cells HJ.out.box
          have bf2 := bf 2
          clear bf hp
          go_upto_region 19 with (fail)
          have HV : OpsIn (.slice (if c3 = 1 then some ⟨g3, o3, none⟩ else some ⟨g3, o3 + 4, none⟩) (d.ops.length - 1) (c3 - 1)) (d.ops.drop 1) wb := by
            by_cases hc3 : c3 = 1
            · have h1 : d.ops.length = 1 := by omega
              rw [if_pos hc3]
              exact ⟨_, c3 - 1, by rw [List.length_drop], by rw [List.length_drop]; omega, by omega, .inl (List.drop_eq_nil_of_le (by omega))⟩
            · rw [if_neg hc3]
              exact opsIn_drop HJ.out.disk.ops hl (by omega) (by omega)
          generalize (if c3 = 1 then some (⟨g3, o3, none⟩ : Addr) else some ⟨g3, o3 + 4, none⟩) = pp at HV ⊢
          have HJ := Lib.hid (HJ.out.put2 hBw (fit_drop HJ.out.fit) HV)
          clear b0 b1 b2 bf2 hl hl0 hl1 hl2 hl3 hcm hlc
          obtain ⟨⟨b0, b1, b2⟩, _⟩ := dk_cells HJ.out.box
          obtain ⟨⟨r0, r1, r2⟩, rf⟩ := dk_cells HJ.out.res
          have rf0 := rf 0
          have rf1 := rf 1
          have rf2 := rf 2
          clear rf
          go_wp2
          refine bodyPost_ret (v := .agg #[.slice q1 n1 c1, .slice q2 n2 c2, .slice pp (d.ops.length - 1) (c3 - 1)]) (results_cell_row Try.results53 _ _ w.heap.size 27 _ (0, 0) _ rfl (set3 HJ.out.res _ _ _) Try.underlying27 rfl (by kernel_rfl)) rfl ⟨_, _, _, _, rfl, HJ.out.fit, (HJ.out.fin hBw).1, (HJ.out.fin hBw).2.1, (HJ.out.fin hBw).2.2⟩
      have z1' : (z == 1) = false := by simpa using z1
      by_cases z2 : z = 2
      · subst z2
        go_wp2_with fail
        refine (below_any B g _ _ HJ.out.rd (by omega) (by omega)).mono ?_
        rintro e wx ⟨x, rfl, hx0, hx1, hR, hg⟩
        have HJ := Lib.hid (HJ.out.read hR hg)
        clear hR hg
        obtain ⟨k, hk⟩ : ∃ k : Nat, (200000 : Int) - x = (k : Int) := ⟨(200000 - x).toNat, by omega⟩
        have hk2 : k ≤ 200000 := by omega
        have hk0 : (0 : Int) ≤ (k : Int) := by omega
        have hk1 : (k : Int) ≤ 200000 := by omega
        obtain ⟨i0, hi, hz0, hz1, hz2⟩ := info_parts info_u8r
        go_wp2_with (at_make; refine wpList_make_full _ rfl _ _ 22 rfl wx.heap.size 5 i0 (.int .u8 0) 1 Try.underlying22 hi hz0 hz1 .i64 .i64 _ _ k rfl rfl rfl rfl ?c2 ?c3 ?c4 ?_)
        case c2 => rw [hz2]; omega
        case c3 => unfold maxLen; omega
        case c4 => exact Nat.le_refl _
        intro wm hown hgrow
        have hb1 : Below wx.heap.size wx wm := (Below.refl _ _).grown hgrow (Nat.le_refl _) (by simp)
        have HJ := Lib.hid (HJ.out.below hb1)
        have ho : wm.ownsRow wx.heap.size 5 1 (.slice (some ⟨wx.heap.size, 0, none⟩) k k) k (cellsOf (List.replicate k 0)) := by
          have e : (madeCells #[Value.int .u8 0] k).toList = cellsOf (List.replicate k 0) := by rw [toList_madeCells_one]; simp [cellsOf]
          rw [e] at hown
          exact hown
        have hcv := run_convert_own (P := Try.prog) wm 22 9 5 _ _ _ _ Try.underlying22 Try.underlying5 Try.underlying9 ho
        have HS : Hid ((str (List.replicate k 0)).size = k) := by show _ = _; simp [str, ByteArray.size]
        generalize str (List.replicate k 0) = S at hcv HS
        have HSS := Lib.hid (show S.size ≤ 200000 by rw [HS.out]; exact hk2)
        have hal : Below wm.heap.size wm (wm.alloc (.cells #[.string ⟨#[98, 105, 103]⟩, .string S] 88)) := (Below.refl _ _).alloc (Nat.le_refl _) _
        have HJM := Lib.hid HJ.out.gr.size
        have HJ := Lib.hid (HJ.out.below hal)
        have hF : FilesAt 0 (.slice (some ⟨wm.heap.size, 0, none⟩) 1 1) [(⟨#[98, 105, 103]⟩, S)] (wm.alloc (.cells #[.string ⟨#[98, 105, 103]⟩, .string S] 88)) := World.ownsRow_lit wm #[.string ⟨#[98, 105, 103]⟩, .string S] 1 (Nat.zero_le _) (by unfold maxLen; omega) rfl
        have hfit : (DiskT.mk [(⟨#[98, 105, 103]⟩, S)] [(⟨#[98, 105, 103]⟩, S)] []).fit := big_fit HSS.out
        have hfit0 : (DiskT.mk [(⟨#[98, 105, 103]⟩, S)] [] []).fit := ⟨⟨hfit.small.live, by simp, by simp⟩, hfit.live, (fun a h => by cases h), (fun a h => by cases h), ⟨hfit.sums.1, Nat.zero_le _⟩⟩
        have HJ2 := Lib.hid (HJ.out.put hBw hfit0 (⟨hF, RowL.nil _ _ _ _ _, ops_toIn (B := 0) (RowL.nil _ _ _ _ _)⟩ : DiskIn (.slice (some ⟨wm.heap.size, 0, none⟩) 1 1) (.slice none 0 0) (.slice none 0 0) ⟨[(⟨#[98, 105, 103]⟩, S)], [], []⟩ _) (fun q hq => by have h1 := HJM.out; have h2 : wm.heap.size = q := Option.some.inj hq; omega))
        have HF2 := Lib.hid hfit
        obtain ⟨⟨b0, b1, b2⟩, bf⟩ := dk_cells HJ.out.box
        have bf0 := bf 0
        have bf1 := bf 1
        have bf2 := bf 2
        clear bf hown hgrow hb1 ho hal hF hfit hfit0
        go_upto_region 18 with (fail)
        clear b0 b1 b2 bf0 bf1 bf2 hcv hk
        generalize ((((wm.alloc (.cells #[.string ⟨#[98, 105, 103]⟩, .string S] 88)).setCell ⟨w.heap.size + 1, 0, none⟩ (.slice (some ⟨wm.heap.size, 0, none⟩) 1 1)).setCell ⟨w.heap.size + 1, 1, none⟩ (.slice none 0 0)).setCell ⟨w.heap.size + 1, 2, none⟩ (.slice none 0 0)) = wy at HJ2 ⊢
        have HJ3 := Lib.hid (HJ2.out.put1 hBw HF2.out HJ2.out.disk.live)
        obtain ⟨⟨b0, b1, b2⟩, bf⟩ := dk_cells HJ2.out.box
        have bf1 := bf 1
        clear bf
        go_upto_region 19 with (fail)
        clear b0 b1 b2 bf1
        generalize wy.setCell ⟨w.heap.size + 1, 1, none⟩ (.slice (some ⟨wm.heap.size, 0, none⟩) 1 1) = wz at HJ3 ⊢
        have HJ := Lib.hid HJ3.out
        obtain ⟨⟨b0, b1, b2⟩, _⟩ := dk_cells HJ.out.box
        obtain ⟨⟨r0, r1, r2⟩, rf⟩ := dk_cells HJ.out.res
        have rf0 := rf 0
        have rf1 := rf 1
        have rf2 := rf 2
        clear rf
        go_wp2
        refine bodyPost_ret (v := .agg #[.slice (some ⟨wm.heap.size, 0, none⟩) 1 1, .slice (some ⟨wm.heap.size, 0, none⟩) 1 1, .slice none 0 0]) (results_cell_row Try.results53 _ _ w.heap.size 27 _ (0, 0) _ rfl (set3 HJ.out.res _ _ _) Try.underlying27 rfl (by kernel_rfl)) rfl ⟨_, _, _, _, rfl, HJ.out.fit, (HJ.out.fin hBw).1, (HJ.out.fin hBw).2.1, (HJ.out.fin hBw).2.2⟩
      have z2' : (z == 2) = false := by simpa using z2
      obtain ⟨⟨b0, b1, b2⟩, _⟩ := dk_cells HJ.out.box
      obtain ⟨⟨r0, r1, r2⟩, rf⟩ := dk_cells HJ.out.res
      have rf0 := rf 0
      have rf1 := rf 1
      have rf2 := rf 2
      clear rf
      go_wp2
      refine bodyPost_ret (v := .agg #[.slice q1 n1 c1, .slice q2 n2 c2, .slice q3 n3 c3]) (results_cell_row Try.results53 _ _ w.heap.size 27 _ (0, 0) _ rfl (set3 HJ.out.res _ _ _) Try.underlying27 rfl (by kernel_rfl)) rfl ⟨_, _, _, _, rfl, HJ.out.fit, (HJ.out.fin hBw).1, (HJ.out.fin hBw).2.1, (HJ.out.fin hBw).2.2⟩

    · have hm0 : (0 : Int) < (m : Int) := by omega
      have hm1 : (m : Int) ≤ 10 := by omega
      have em : ((m - 1 : Nat) : Int) = (m : Int) - 1 := by omega
      go_wp2_with fail
      refine (once_any B g _ _ HJ.out.rd (by omega) (by omega)).mono ?_
      rintro e wo ⟨b, rfl, hR, hg⟩
      have HJ := Lib.hid (HJ.out.read hR hg)
      clear hR hg
      cases b with
      | true =>
        obtain ⟨⟨b0, b1, b2⟩, _⟩ := dk_cells HJ.out.box
        have CS := Lib.hid (syncD_sn y1 y2 y3 d wo HJ.out.disk HJ.out.fit)
        have HLO := Lib.hid HJ.out.gr.size
        go_wp2_with fail
        refine CS.out.mono ?_
        rintro e ws ⟨u1, u2, u3, rfl, hU, hb⟩
        have HJ := Lib.hid (HJ.out.below hb)
        have HJ2 := Lib.hid (HJ.out.put hBw fit_sync hU.toIn (fun q hq => Nat.le_trans HLO.out (World.ownsRow.lt hU.live q hq).1))
        obtain ⟨q1, n1, rfl, _⟩ := hU.live.open
        obtain ⟨q2, n2, rfl, _⟩ := hU.safe.open
        obtain ⟨q3, n3, rfl, _⟩ := hU.ops.open
        clear b0 b1 b2 hb hU CS
        obtain ⟨⟨b0, b1, b2⟩, bf⟩ := dk_cells HJ.out.box
        have bf0 := bf 0
        have bf1 := bf 1
        have bf2 := bf 2
        clear bf
        go_wp2
        go_roundw
        case rel => exact ⟨m - 1, _, _, _, _, by rw [em], by omega, few_sync, HJ2.out⟩
        case measure => simp [RowKit.intOf]; omega
      | false =>
        have HBX := Lib.hid HJ.out.box
        have HR1 := Lib.hid HJ.out.rd
        have HDI := Lib.hid HJ.out.disk
        have HGS := Lib.hid HJ.out.gr.size
        have CDo := Lib.hid (fun k n t x W (hop : opW (k, n, t, x)) (hW : DiskIn y1 y2 y3 d W) => doD_sn y1 y2 y3 d k n t x W hW HJ.out.fit hop.1 (Nat.le_trans hop.2.1 (by decide)) (Nat.le_trans hop.2.2.1 (by decide)) (Nat.le_trans hop.2.2.2 (by decide)))
        have HFT := Lib.hid (fun k n t x (hop : opW (k, n, t, x)) => fit_doD (op := (k, n, t, x)) HJ.out.fit ⟨hop.1, Nat.le_trans hop.2.1 (by decide), Nat.le_trans hop.2.2.1 (by decide), Nat.le_trans hop.2.2.2 (by decide)⟩)
        go_upto_region 7 with (fail)
        refine region_invL 10 [some 19, some 20, some 21, some 22, some 18, some 23, some 24, some 5, none, some 6] (DrN wo B g y1 y2 y3) (by kernel_rfl) rfl (by kernel_rfl) (by kernel_rfl) (by kernel_rfl) ?_ ?_ ?_
        · exact ⟨grw_of_below (Below.refl _ _).drew _, HR1.out, (fun h => by cases h), (fun h => by cases h), (fun h => by cases h), (fun h => by cases h), (fun h => by cases h), (fun h => by cases h), (fun h => by cases h), (fun h => by cases h), (fun h => by cases h), (fun h => by cases h), (fun h => by cases h)⟩
        · intro i o v L w1 hoi hL hI hdep
          have hi : i < 10 := (Array.getElem?_eq_some_iff.1 hoi).1
          have hc : i = 0 ∨ i = 1 ∨ i = 2 ∨ i = 3 ∨ i = 4 ∨ i = 5 ∨ i = 6 ∨ i = 7 ∨ i = 8 ∨ i = 9 := by omega
          rcases hc with rfl | rfl | rfl | rfl | rfl | rfl | rfl | rfl | rfl | rfl
          · obtain rfl := Option.some.inj hoi
            refine ⟨rfl, wpLoadT rfl (at_old (by kernel_rfl)) (ldDkI ((hI.G.block _ (Array.getElem?_eq_some_iff.1 HBX.out).1 (fun c => rd_ne HR1.out HBX.out (Option.some.inj c))).trans HBX.out)) ⟨_, rfl, ?_⟩⟩
            exact ⟨hI.G, hI.R, fun _ => rfl, hI.f1, hI.f2, hI.f3, hI.f4, hI.f5, hI.f6, hI.f7, hI.f8, hI.f9, hI.gS⟩
          · obtain rfl := Option.some.inj hoi
            refine ⟨rfl, wpMoveT rfl (at_old (by kernel_rfl)) ⟨_, rfl, ?_⟩⟩
            exact ⟨hI.G, hI.R, hI.f0, fun _ => rfl, hI.f2, hI.f3, hI.f4, hI.f5, hI.f6, hI.f7, hI.f8, hI.f9, hI.gS⟩
          · obtain rfl := Option.some.inj hoi
            refine ⟨rfl, wpCallT rfl cfDop (argsT1 ((at_new (by kernel_rfl) 1 (Nat.le_of_ble_eq_true rfl) rfl (by decide) (hdep 1 (dep_of (by kernel_rfl)))).trans (hI.f1 (hdep 1 (dep_of (by kernel_rfl)))))) ((dop_any B g _ hI.R).mono ?_)⟩
            rintro e w2 ⟨k, n, t, x, rfl, hop, hR2, hg2⟩
            have hI := hI.read hR2 hg2
            exact ⟨_, rfl, _, rfl, ⟨hI.G, hI.R, hI.f0, hI.f1, fun _ => ⟨k, n, t, x, rfl, hop⟩, hI.f3, hI.f4, hI.f5, hI.f6, hI.f7, hI.f8, hI.f9, hI.gS⟩⟩
          · obtain rfl := Option.some.inj hoi
            obtain ⟨k, n, t, x, ex, hop⟩ := hI.f2 (hdep 2 (dep_of (by kernel_rfl)))
            refine ⟨rfl, wpCallT rfl cfSDo (argsT2 ((at_new (by kernel_rfl) 0 (Nat.le_of_ble_eq_true rfl) rfl (by decide) (hdep 0 (dep_of (by kernel_rfl)))).trans (hI.f0 (hdep 0 (dep_of (by kernel_rfl))))) ((at_new (by kernel_rfl) 2 (Nat.le_of_ble_eq_true rfl) rfl (by decide) (hdep 2 (dep_of (by kernel_rfl)))).trans ex)) ((CDo.out k n t x _ hop (HDI.out.read HR1.out hI.G)).mono ?_)⟩
            rintro e w2 ⟨u1, u2, u3, rfl, hD, hb⟩
            have hI0 := hI
            have hI := hI.grow hb
            exact ⟨_, rfl, _, rfl, ⟨hI.G, hI.R, hI.f0, hI.f1, hI.f2, fun _ => ⟨_, _, rfl, ⟨_, _, _, _, HFT.out k n t x hop, rfl, hD.toIn, fun q hq => Nat.le_trans hI0.G.size (World.ownsRow.lt hD.live q hq).1, few_doD⟩⟩, hI.f4, hI.f5, hI.f6, hI.f7, hI.f8, hI.f9, hI.gS⟩⟩
          · obtain rfl := Option.some.inj hoi
            refine ⟨rfl, wpMoveT rfl (at_new (by kernel_rfl) 3 (Nat.le_of_ble_eq_true rfl) rfl (by decide) (hdep 3 (dep_of (by kernel_rfl)))) ⟨_, rfl, ?_⟩⟩
            exact ⟨hI.G, hI.R, hI.f0, hI.f1, hI.f2, hI.f3, fun _ => hI.f3 (hdep 3 (dep_of (by kernel_rfl))), hI.f5, hI.f6, hI.f7, hI.f8, hI.f9, hI.gS⟩
          · obtain rfl := Option.some.inj hoi
            obtain ⟨x, c, ex, hq⟩ := hI.f4 (hdep 4 (dep_of (by kernel_rfl)))
            refine ⟨rfl, wpExtT rfl ((at_new (by kernel_rfl) 4 (Nat.le_of_ble_eq_true rfl) rfl (by decide) (hdep 4 (dep_of (by kernel_rfl)))).trans ex) (ext0 _ _ _) ⟨_, rfl, ?_⟩⟩
            exact ⟨hI.G, hI.R, hI.f0, hI.f1, hI.f2, hI.f3, hI.f4, fun _ => hq, hI.f6, hI.f7, hI.f8, hI.f9, hI.gS⟩
          · obtain rfl := Option.some.inj hoi
            obtain ⟨x, c, ex, hq⟩ := hI.f4 (hdep 4 (dep_of (by kernel_rfl)))
            refine ⟨rfl, wpExtT rfl ((at_new (by kernel_rfl) 4 (Nat.le_of_ble_eq_true rfl) rfl (by decide) (hdep 4 (dep_of (by kernel_rfl)))).trans ex) (ext1 _ _ _) ⟨_, rfl, ?_⟩⟩
            exact ⟨hI.G, hI.R, hI.f0, hI.f1, hI.f2, hI.f3, hI.f4, hI.f5, fun _ => ⟨c, rfl⟩, hI.f7, hI.f8, hI.f9, hI.gS⟩
          · obtain rfl := Option.some.inj hoi
            have hI2 := hI.grow ((Below.refl w1.heap.size w1).alloc (Nat.le_refl _) (.cells #[.slice none 0 0, .slice none 0 0, .slice none 0 0] 27))
            refine ⟨rfl, wpAllocT (w' := w1.alloc (.cells #[.slice none 0 0, .slice none 0 0, .slice none 0 0] 27)) rfl (nDisk w1) ⟨_, rfl, ?_⟩⟩
            have nS : L 8 = false := by cases h : L 8 with | false => rfl | true => have := hI.gS h; rw [hL] at this; cases this
            exact ⟨hI2.G, hI2.R, hI2.f0, hI2.f1, hI2.f2, hI2.f3, hI2.f4, hI2.f5, hI2.f6, fun _ => ⟨_, _, _, _, rfl, hI.G.size, ⟨⟨_, _, _, rfl⟩, ⟨_, _, _, rfl⟩, ⟨_, _, _, rfl⟩⟩, heap_alloc_new w1 _⟩, (fun h => by have h : L 8 = true := h; rw [nS] at h; cases h), hI2.f9, (fun h => by have h : L 8 = true := h; rw [nS] at h; cases h)⟩
          · obtain rfl := Option.some.inj hoi
            obtain ⟨q, a1, a2, a3, eq, hBq, hss, hq⟩ := hI.f7 (hdep 7 (dep_of (by kernel_rfl)))
            obtain ⟨E, x, y, z, hE, exx, hd, hlow⟩ := hI.f5 (hdep 5 (dep_of (by kernel_rfl)))
            have hsl := hd.sl
            have hone : (#[x, y, z] : Array Value).all (·.oneCell') = true := by
              obtain ⟨⟨_, _, _, rfl⟩, ⟨_, _, _, rfl⟩, ⟨_, _, _, rfl⟩⟩ := hsl
              simp [Value.oneCell']
            have gz := grw_setRow (grw_refl w1 (some q)) #[x, y, z]
            have hsr := setRow_heap w1 q #[a1, a2, a3] #[x, y, z] 27 (0, 0) hq
            refine ⟨rfl, wpStoreT rfl ((at_new (by kernel_rfl) 7 (Nat.le_of_ble_eq_true rfl) rfl (by decide) (hdep 7 (dep_of (by kernel_rfl)))).trans eq) ((at_new (by kernel_rfl) 5 (Nat.le_of_ble_eq_true rfl) rfl (by decide) (hdep 5 (dep_of (by kernel_rfl)))).trans exx) hq (diskSz x y z) rfl hone ?_⟩
            exact ⟨_, rfl, ⟨grown_new hI.G gz hBq, hI.R.kept gz (fun c => rd_ne hI.R hq (Option.some.inj c)) (fun k hk => by have := Option.some.inj hk; have := hI.G.size; have := HR1.out.2.1; omega), hI.f0, hI.f1, hI.f2, (fun a => by obtain ⟨x, c, e, h⟩ := hI.f3 a; exact ⟨x, c, e, h.row hq hss gz⟩), (fun a => by obtain ⟨x, c, e, h⟩ := hI.f4 a; exact ⟨x, c, e, h.row hq hss gz⟩), (fun a => (hI.f5 a).row hq hss gz), hI.f6, fun _ => ⟨q, x, y, z, eq, hBq, hsl, hsr⟩, fun _ => ⟨q, x, y, z, E, eq, hBq, hsr, hE, hd.row hq hss.1 hss.2.1 hss.2.2 gz, hlow⟩, hI.f9, fun _ => (hdep 7 (dep_of (by kernel_rfl)))⟩⟩
          · obtain rfl := Option.some.inj hoi
            obtain ⟨c, ec⟩ := hI.f6 (hdep 6 (dep_of (by kernel_rfl)))
            refine ⟨rfl, wpAssT rfl ((at_new (by kernel_rfl) 6 (Nat.le_of_ble_eq_true rfl) rfl (by decide) (hdep 6 (dep_of (by kernel_rfl)))).trans ec) ⟨_, rfl, ?_⟩⟩
            exact ⟨hI.G, hI.R, hI.f0, hI.f1, hI.f2, hI.f3, hI.f4, hI.f5, hI.f6, hI.f7, hI.f8, fun _ => ⟨c, rfl⟩, hI.gS⟩
        intro v w5 hI
        obtain ⟨q, x, y, z, E, ek, hBq, hrow, hE, hd, hlow, hfew⟩ := hI.f8 rfl
        obtain ⟨c, ec⟩ := hI.f9 rfl
        have hIG := hI.G
        have hIR := hI.R
        clear hI
        simp only [Go.My.putL, Nat.zero_add, Nat.reduceAdd, ek, ec, Act.put, List.setIfInBounds_toArray, List.set_cons_zero, List.set_cons_succ]
        generalize v 0 = y20 at *
        generalize v 1 = y21 at *
        generalize v 2 = y22 at *
        generalize v 3 = y23 at *
        generalize v 4 = y24 at *
        generalize v 5 = y25 at *
        generalize v 6 = y26 at *
        generalize v 8 = y28 at *
        clear ek ec
        have HJ7 := Lib.hid (HJ.out.read hIR hIG)
        obtain ⟨s1, s2, s3⟩ := hd.sl
        obtain ⟨q1, n1, m1, rfl⟩ := s1
        obtain ⟨q2, n2, m2, rfl⟩ := s2
        obtain ⟨q3, n3, m3, rfl⟩ := s3
        by_cases hc : c = 0
        · subst hc
          have HJ8 := Lib.hid (HJ7.out.put hBw hE hd (fun p hp => Nat.le_trans HGS.out (hlow p hp)))
          obtain ⟨⟨a0, a1, a2⟩, _⟩ := dk_cells hrow
          obtain ⟨⟨b0, b1, b2⟩, bf⟩ := dk_cells HJ7.out.box
          have bf0 := bf 0
          have bf1 := bf 1
          have bf2 := bf 2
          clear bf hrow hd hIR hIG hBq
          go_wp2
          go_roundw
          case rel => exact ⟨m - 1, _, _, _, _, by rw [em], by omega, hfew, HJ8.out⟩
          case measure => simp [RowKit.intOf]; omega
        · have hc' : (c == 0) = false := by simpa using hc
          clear hrow hd hIR hIG hBq hc
          go_wp2
          go_roundw
          case rel => exact ⟨m - 1, _, _, _, _, by rw [em], by omega, HFW.out, HJ7.out⟩
          case measure => simp [RowKit.intOf]; omega

end Go.Proofs.Ytepefbfmjjnamaa

/- A region that draws its order, by an invariant: for operations whose results are known by a bound alone. Nothing of the program is named. -/
import Derived.Test.YtkglgficmealnaaReg
namespace Go.My
open Go.RowKit
set_option linter.unusedVariables false
abbrev updV (v : Nat → Value) (i : Nat) (x : Value) : Nat → Value := fun k => if k = i then x else v k
abbrev updL (L : Nat → Bool) (i : Nat) : Nat → Bool := fun k => if k = i then true else L k
section
variable {P : Program} {Q : Exit → Act → World → Prop} {ops : Array Oper} {a0 : Act} {w0 : World}

theorem any_inv (Inv : (Nat → Value) → (Nat → Bool) → World → Prop) (hd : Apart ops ops.size) (hord : orderB ops = true)
    (hs : ∀ (i : Nat) (o : Oper) (v : Nat → Value) (L : Nat → Bool) (w : World), ops[i]? = some o → L i = false → Inv v L w → (∀ j, Dep o j → L j = true) →
      o.guard = none ∧ o.wp P (putAll ops v L a0 ops.size) w (fun a' w' => ∃ x, a' = (putAll ops v L a0 ops.size).put o.dst x ∧ Inv (updV v i x) (updL L i) w') Q)
    (hK : ∀ v w, Inv v (fun j => decide (j < ops.size)) w → Q .normal (putAll ops v (fun j => decide (j < ops.size)) a0 ops.size) w) :
    ∀ (c : Nat) (L : Array Bool) (v : Nat → Value) (w : World), L.size = ops.size → c = cntF (fun j => L.getD j false) ops.size →
      Inv v (fun j => L.getD j false) w → wpAny P .any ops Q c L (putAll ops v (fun j => L.getD j false) a0 ops.size) w := by
  intro c
  induction c with
  | zero =>
    intro L v w hL hc ho
    have hall := cntF_pos ops.size hc.symm
    have he : (fun j => L.getD j false) = fun j => decide (j < ops.size) := by
      funext j
      by_cases h : j < ops.size
      · rw [hall j h, decide_eq_true h]
      · rw [decide_eq_false h]
        simp [Array.getD_eq_getD_getElem?, Array.getElem?_eq_none (show L.size ≤ j by omega)]
    have hr : Region.ready .any ops L = [] := by
      unfold Region.ready
      rw [List.filter_eq_nil_iff]
      intro j hj
      have hj := List.mem_range.1 hj
      have e : L.getD j true = true := by
        have := hall j hj
        simp [Array.getD_eq_getD_getElem?, Array.getElem?_eq_getElem (show j < L.size by omega)] at this ⊢
        exact this
      simp [e]
    rw [he] at ho ⊢
    exact ⟨hr, hK v w ho⟩
  | succ c ih =>
    intro L v w hL hc ho
    have hlt : ∃ j, j < ops.size ∧ L.getD j false = false ∧ ∀ q, q < j → L.getD q false = true := by
      refine Classical.byContradiction fun hno => ?_
      have all : ∀ j, j ≤ ops.size → ∀ q, q < j → L.getD q false = true := by
        intro j
        induction j with
        | zero => intro _ q hq; omega
        | succ j ih2 =>
          intro hj q hq
          by_cases e : q = j
          · subst e
            cases h : L.getD q false with
            | true => rfl
            | false => exact absurd ⟨q, by omega, h, ih2 (by omega)⟩ hno
          · exact ih2 (by omega) q (by omega)
      have z : ∀ n, n ≤ ops.size → cntF (fun j => L.getD j false) n = 0 := by
        intro n
        induction n with
        | zero => intro _; rfl
        | succ n ih3 => intro hn; show cntF _ n + _ = 0; rw [ih3 (by omega), if_pos (show (fun j => L.getD j false) n = true from all ops.size (Nat.le_refl _) n (by omega))]
      rw [z ops.size (Nat.le_refl _)] at hc
      omega
    have inb : ∀ j, j < ops.size → L.getD j true = L.getD j false := fun j hj => by
      simp [Array.getD_eq_getD_getElem?, Array.getElem?_eq_getElem (show j < L.size by omega)]
    show wpAny P .any ops Q (c + 1) L _ w
    refine ⟨fun h => ?_, fun i hi => ?_⟩
    · obtain ⟨j, hj, hf, hq⟩ := hlt
      have hr : j ∈ Region.ready .any ops L := mem_ready.2 ⟨(inb j hj).trans hf, ops[j], Array.getElem?_eq_getElem hj, fun e he hbd => hq e.on ?_⟩
      · rw [h] at hr; cases hr
      · have := List.all_eq_true.1 hord j (List.mem_range.2 hj)
        rw [Array.getElem?_eq_getElem hj] at this
        have := Array.all_eq_true'.1 this e he
        simpa [hbd] using this
    · obtain ⟨hu, o, hoi, hdeps⟩ := mem_ready.1 hi
      have his : i < ops.size := (Array.getElem?_eq_some_iff.1 hoi).1
      rw [inb i his] at hu
      have hdep : ∀ j, Dep o j → L.getD j false = true := fun j ⟨e, he, hb, hj⟩ => hj ▸ hdeps e he hb
      obtain ⟨hg, hw⟩ := hs i o v (fun j => L.getD j false) w hoi hu ho hdep
      have hdst : dstOf ops i = o.dst := by unfold dstOf; rw [hoi]; rfl
      unfold wpOp
      simp only [hoi]
      rw [if_pos (by unfold Region.wanted; rw [hg])]
      refine .inl (Oper.wp_mono ?_ hw)
      rintro a' w' ⟨x, rfl, ho'⟩
      have hset : (fun j => (L.setIfInBounds i true).getD j false) = updL (fun j => L.getD j false) i := by
        funext j
        show _ = if j = i then true else L.getD j false
        by_cases e : j = i
        · subst e
          rw [if_pos rfl]
          simp [Array.getD_eq_getD_getElem?, show j < L.size by omega]
        · rw [if_neg e]
          exact getD_set_ne false (Ne.symm e)
      have add := putAll_add hd (a := a0) (v := v) (v' := updV v i x) (L := fun j => L.getD j false) (L' := updL (fun j => L.getD j false) i) his hu (if_pos rfl) (fun j hj => if_neg hj) (fun j hj => if_neg hj) ops.size his (Nat.le_refl _)
      rw [show (updV v i x) i = x from if_pos rfl, hdst] at add
      rw [← add, ← hset]
      refine ih (L.setIfInBounds i true) (updV v i x) w' (by simpa using hL) ?_ (by rw [hset]; exact ho')
      rw [hset]
      have := cntF_set (L := fun j => L.getD j false) hu ops.size his
      have e : cntF (updL (fun j => L.getD j false) i) ops.size + 1 = cntF (fun j => L.getD j false) ops.size := this
      omega

/-- **A region in whatever order, by an invariant.** -/
theorem region_inv {id : Nat} (Inv : (Nat → Value) → (Nat → Bool) → World → Prop) (hm : P.follows .mixedOrders = true) (hd : apartB ops ops.size = true) (hord : orderB ops = true)
    (h0 : Inv (fun _ => undef) (fun _ => false) w0.drew)
    (hs : ∀ (i : Nat) (o : Oper) (v : Nat → Value) (L : Nat → Bool) (w : World), ops[i]? = some o → L i = false → Inv v L w → (∀ j, Dep o j → L j = true) →
      o.guard = none ∧ o.wp P (putAll ops v L a0 ops.size) w (fun a' w' => ∃ x, a' = (putAll ops v L a0 ops.size).put o.dst x ∧ Inv (updV v i x) (updL L i) w') Q)
    (hK : ∀ v w, Inv v (fun j => decide (j < ops.size)) w → Q .normal (putAll ops v (fun j => decide (j < ops.size)) a0 ops.size) w) :
    (Code.region id ops true).wp P Q a0 w0 := by
  refine wp_region_any hm ?_
  have hz : ∀ j, (Array.replicate ops.size false).getD j false = false := fun j => by
    simp only [Array.getD_eq_getD_getElem?, Array.getElem?_replicate]
    split <;> rfl
  have hzf : (fun j => (Array.replicate ops.size false).getD j false) = fun _ => false := funext hz
  have hput : ∀ v n, putAll ops v (fun _ => false) a0 n = a0 := fun v n => by
    induction n with
    | zero => rfl
    | succ n ih => unfold putAll; rw [if_neg (by decide)]; exact ih
  have hcnt : ∀ n, cntF (fun _ => false) n = n := fun n => by
    induction n with
    | zero => rfl
    | succ n ih => unfold cntF; rw [ih]; rfl
  have := any_inv (P := P) (Q := Q) (ops := ops) (a0 := a0) Inv (apart_of hd) hord hs hK ops.size (Array.replicate ops.size false) (fun _ => undef) w0.drew (by simp) (by rw [hzf, hcnt]) (by rw [hzf]; exact h0)
  rw [hzf, hput] at this
  exact this

/-- .. the frame behind it laid out. -/
theorem region_invL {id : Nat} (n : Nat) (ds : List (Option Tmp)) (Inv : (Nat → Value) → (Nat → Bool) → World → Prop) (hm : P.follows .mixedOrders = true) (hn : ops.size = n) (hds : (List.range n).map (dstOf ops) = ds) (hd : apartB ops n = true) (hord : orderB ops = true)
    (h0 : Inv (fun _ => undef) (fun _ => false) w0.drew)
    (hs : ∀ (i : Nat) (o : Oper) (v : Nat → Value) (L : Nat → Bool) (w : World), ops[i]? = some o → L i = false → Inv v L w → (∀ j, Dep o j → L j = true) →
      o.guard = none ∧ o.wp P (putAll ops v L a0 n) w (fun a' w' => ∃ x, a' = (putAll ops v L a0 n).put o.dst x ∧ Inv (updV v i x) (updL L i) w') Q)
    (hK : ∀ v w, Inv v (fun j => decide (j < n)) w → Q .normal (putL ds v 0 a0) w) :
    (Code.region id ops true).wp P Q a0 w0 := by
  subst hn
  refine region_inv Inv hm hd hord h0 hs fun v w hI => ?_
  have := hK v w hI
  rw [← hds, ← putAll_list v a0 ops.size ops.size (Nat.le_refl _)] at this
  exact this
/-- One operation that yields a value. -/
theorem wpVal {o : Oper} {a : Act} {w w' : World} {K : Act → World → Prop} {x : Value} (h : (execOp a.eval o).run P w = .ok (.value x) w') (hK : K (a.put o.dst x) w') : o.wp P a w K Q := by
  unfold Oper.wp
  rw [h]
  exact hK
/-- A call whose arguments are these. -/
theorem wpCallT {o : Oper} {a : Act} {w : World} {K : Act → World → Prop} {f : FuncId} {args : Array Operand} {ats : Array TypeId} {ys : Array Value} (hop : o.op = .call { callee := .value (.func f), args := args, argTypes := ats })
    (hcf : ∀ args w, (callFunc f args).run P w = .ok (.enter f args) w) (hy : args.map a.eval = ys) (hc : Calls P f ys w fun e w' => ∃ x, e = .returned x ∧ K (a.put o.dst x) w') : o.wp P a w K Q := by
  have he : (execOp a.eval o).run P w = .ok (.enter f ys) w := by
    unfold execOp
    simp only [hop]
    have e : (do let d ← resolve a.eval { callee := .value (.func f), args := args, argTypes := ats } o.type; invoke d.target d.args : Sem Next) = callFunc f (#[] ++ args.map a.eval ++ #[]) := rfl
    rw [e, hy, Array.empty_append, Array.append_empty]
    exact hcf _ _
  unfold Oper.wp
  rw [he]
  refine Calls.mono hc ?_
  rintro e w' ⟨x, rfl, hK⟩
  exact hK
section
variable {o : Oper} {a : Act} {w w' : World} {K : Act → World → Prop}
theorem wpMoveT {k : Tmp} {y : Value} (hop : o.op = .move (.tmp k)) (he : a.eval (.tmp k) = y) (hK : K (a.put o.dst y) w) : o.wp P a w K Q :=
  wpVal (x := y) (w' := w) (by unfold execOp; simp only [hop]; simp only [he, Sem.run_pure]) hK
theorem wpConvT {S T : TypeId} {k : Tmp} {y x : Value} (hop : o.op = .convert S T (.tmp k)) (he : a.eval (.tmp k) = y) (hr : (convert S T y).run P w = .ok x w) (hK : K (a.put o.dst x) w) : o.wp P a w K Q :=
  wpVal (x := x) (w' := w) (by unfold execOp; simp only [hop]; simp only [he, Sem.run_bind, hr, Result.andThen_ok, Sem.run_pure]) hK
theorem wpMakeT {T : TypeId} {c d x : Value} (hop : o.op = .makeSlice T (.const c) (.const d)) (hr : (Instr.makeSlice T c d).run P w = .ok x w') (hK : K (a.put o.dst x) w') : o.wp P a w K Q :=
  wpVal (x := x) (w' := w') (by unfold execOp; simp only [hop]; simp only [Act.eval, Sem.run_bind, hr, Result.andThen_ok, Sem.run_pure]) hK
theorem wpBinT {bop : BinOp} {T U : TypeId} {k l : Tmp} {x y z : Value} (hop : o.op = .binOp bop T (.tmp k) (.tmp l) U) (h1 : a.eval (.tmp k) = x) (h2 : a.eval (.tmp l) = y)
    (hr : (do eqGuard bop T (.tmp k) (.tmp l) x y; binOp bop T x y : Sem Value).run P w = .ok z w) (hK : K (a.put o.dst z) w) : o.wp P a w K Q :=
  wpVal (x := z) (w' := w) (by unfold execOp; simp only [hop]; simp only [h1, h2]; rw [Sem.run_bind, hr]; rfl) hK
theorem wpBuildT {T : TypeId} {k l : Tmp} {x y z : Value} (hop : o.op = .build T #[(0, .tmp k), (1, .tmp l)]) (h1 : a.eval (.tmp k) = x) (h2 : a.eval (.tmp l) = y)
    (hr : (Instr.build T #[(0, x), (1, y)]).run P w = .ok z w) (hK : K (a.put o.dst z) w) : o.wp P a w K Q :=
  wpVal (x := z) (w' := w) (by unfold execOp; simp only [hop]; simp only [List.map_toArray, List.map_cons, List.map_nil, h1, h2, Sem.run_bind, hr, Result.andThen_ok, Sem.run_pure]) hK
theorem wpAllocT {T : TypeId} {x : Value} (hop : o.op = .alloc T) (hr : (Instr.alloc T true (.tuple #[])).run P w = .ok x w') (hK : K (a.put o.dst x) w') : o.wp P a w K Q :=
  wpVal (x := x) (w' := w') (by unfold execOp; simp only [hop]; simp only [Sem.run_bind, hr, Result.andThen_ok, Sem.run_pure]) hK
theorem wpStoreT {T : TypeId} {d k : Tmp} {g : Nat} {cs old : Array Value} (hop : o.op = .store T (.tmp d) (.tmp k)) (h1 : a.eval (.tmp d) = .pointer (some ⟨g, 0, none⟩)) (h2 : a.eval (.tmp k) = .agg cs)
    (hgb : w.heap[g]? = some (.cells old T (0, 0))) (hinfo : (P.info? T).map (·.size) = some cs.size) (hos : old.size = cs.size) (hone : cs.all (·.oneCell') = true) (hK : K (a.put o.dst undef) (w.setRow g cs)) : o.wp P a w K Q := by
  have hst := run_storeVar_row (P := P) w g T T old cs hgb hinfo hos hone
  unfold Oper.wp execOp
  simp only [hop, h1, h2, Instr.storeAt, Instr.sureAddr, Sem.run_bind, Sem.run_pure, Result.andThen_ok, hst, Oper.upon]
  exact hK
theorem argsT1 {k : Tmp} {y : Value} (h : a.eval (.tmp k) = y) : #[Operand.tmp k].map a.eval = #[y] := by simp only [List.map_toArray, List.map_cons, List.map_nil, h]
theorem argsT1c {k : Tmp} {y c : Value} (h : a.eval (.tmp k) = y) : #[Operand.tmp k, .const c].map a.eval = #[y, c] := by
  have h2 : a.eval (.const c) = c := rfl
  simp only [List.map_toArray, List.map_cons, List.map_nil, h, h2]
end
/-- The value in a slot that an operation of the region has filled; that none of them fills. -/
theorem at_new {n : Nat} (hd : apartB ops n = true) {v : Nat → Value} {L : Nat → Bool} {k : Tmp} (j : Nat) (hk : k < a0.tmps.size) (hj : dstOf ops j = some k) (hjs : j < n) (hl : L j = true) : (putAll ops v L a0 n).eval (.tmp k) = v j :=
  eval_new (apart_of hd) hk hj hl n hjs (Nat.le_refl _)
theorem at_old {n : Nat} {v : Nat → Value} {L : Nat → Bool} {k : Tmp} (h : freeB ops n k = true) : (putAll ops v L a0 n).eval (.tmp k) = a0.eval (.tmp k) :=
  eval_old n (fun j hj c => by have := List.all_eq_true.1 h j (List.mem_range.2 hj); simp [c] at this)
end
end Go.My

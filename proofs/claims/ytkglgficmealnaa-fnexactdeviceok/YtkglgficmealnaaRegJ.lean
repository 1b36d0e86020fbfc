/- A region that draws its order and has guarded operations, by an invariant: every guard is found true. Nothing of the program is named. -/
import Derived.Test.YtkglgficmealnaaRegI
namespace Go.My
open Go.RowKit
set_option linter.unusedVariables false
section
variable {P : Program} {Q : Exit → Act → World → Prop} {ops : Array Oper} {a0 : Act} {w0 : World}

theorem any_invG (Inv : (Nat → Value) → (Nat → Bool) → World → Prop) (hd : Apart ops ops.size) (hord : orderB ops = true)
    (hs : ∀ (i : Nat) (o : Oper) (v : Nat → Value) (L : Nat → Bool) (w : World), ops[i]? = some o → L i = false → Inv v L w → (∀ j, Dep o j → L j = true) →
      Region.wanted o (yielded ops (putAll ops v L a0 ops.size).tmps) = true ∧ o.wp P (putAll ops v L a0 ops.size) w (fun a' w' => ∃ x, a' = (putAll ops v L a0 ops.size).put o.dst x ∧ Inv (updV v i x) (updL L i) w') Q)
    (hK : ∀ v w, Inv v (fun j => decide (j < ops.size)) w → Q .normal (putAll ops v (fun j => decide (j < ops.size)) a0 ops.size) w) :
    ∀ (c : Nat) (L : Array Bool) (v : Nat → Value) (w : World), L.size = ops.size → c = cntF (fun j => L.getD j false) ops.size →
      Inv v (fun j => L.getD j false) w → wpAny P .any ops Q c L (putAll ops v (fun j => L.getD j false) a0 ops.size) w := by
  intro c
  induction c with
  | zero =>
    intro L v w hL hc ho
    have hall := cntF_pos ops.size hc.symm
    have he : (fun j => L.getD j false) = fun j => decide (j < ops.size) := by
      funext j
      by_cases h : j < ops.size
      · rw [hall j h, decide_eq_true h]
      · rw [decide_eq_false h]
        simp [Array.getD_eq_getD_getElem?, Array.getElem?_eq_none (show L.size ≤ j by omega)]
    have hr : Region.ready .any ops L = [] := by
      unfold Region.ready
      rw [List.filter_eq_nil_iff]
      intro j hj
      have hj := List.mem_range.1 hj
      have e : L.getD j true = true := by
        have := hall j hj
        simp [Array.getD_eq_getD_getElem?, Array.getElem?_eq_getElem (show j < L.size by omega)] at this ⊢
        exact this
      simp [e]
    rw [he] at ho ⊢
    exact ⟨hr, hK v w ho⟩
  | succ c ih =>
    intro L v w hL hc ho
    have hlt : ∃ j, j < ops.size ∧ L.getD j false = false ∧ ∀ q, q < j → L.getD q false = true := by
      refine Classical.byContradiction fun hno => ?_
      have all : ∀ j, j ≤ ops.size → ∀ q, q < j → L.getD q false = true := by
        intro j
        induction j with
        | zero => intro _ q hq; omega
        | succ j ih2 =>
          intro hj q hq
          by_cases e : q = j
          · subst e
            cases h : L.getD q false with
            | true => rfl
            | false => exact absurd ⟨q, by omega, h, ih2 (by omega)⟩ hno
          · exact ih2 (by omega) q (by omega)
      have z : ∀ n, n ≤ ops.size → cntF (fun j => L.getD j false) n = 0 := by
        intro n
        induction n with
        | zero => intro _; rfl
        | succ n ih3 => intro hn; show cntF _ n + _ = 0; rw [ih3 (by omega), if_pos (show (fun j => L.getD j false) n = true from all ops.size (Nat.le_refl _) n (by omega))]
      rw [z ops.size (Nat.le_refl _)] at hc
      omega
    have inb : ∀ j, j < ops.size → L.getD j true = L.getD j false := fun j hj => by
      simp [Array.getD_eq_getD_getElem?, Array.getElem?_eq_getElem (show j < L.size by omega)]
    show wpAny P .any ops Q (c + 1) L _ w
    refine ⟨fun h => ?_, fun i hi => ?_⟩
    · obtain ⟨j, hj, hf, hq⟩ := hlt
      have hr : j ∈ Region.ready .any ops L := mem_ready.2 ⟨(inb j hj).trans hf, ops[j], Array.getElem?_eq_getElem hj, fun e he hbd => hq e.on ?_⟩
      · rw [h] at hr; cases hr
      · have := List.all_eq_true.1 hord j (List.mem_range.2 hj)
        rw [Array.getElem?_eq_getElem hj] at this
        have := Array.all_eq_true'.1 this e he
        simpa [hbd] using this
    · obtain ⟨hu, o, hoi, hdeps⟩ := mem_ready.1 hi
      have his : i < ops.size := (Array.getElem?_eq_some_iff.1 hoi).1
      rw [inb i his] at hu
      have hdep : ∀ j, Dep o j → L.getD j false = true := fun j ⟨e, he, hb, hj⟩ => hj ▸ hdeps e he hb
      obtain ⟨hg, hw⟩ := hs i o v (fun j => L.getD j false) w hoi hu ho hdep
      have hdst : dstOf ops i = o.dst := by unfold dstOf; rw [hoi]; rfl
      unfold wpOp
      simp only [hoi]
      rw [if_pos hg]
      refine .inl (Oper.wp_mono ?_ hw)
      rintro a' w' ⟨x, rfl, ho'⟩
      have hset : (fun j => (L.setIfInBounds i true).getD j false) = updL (fun j => L.getD j false) i := by
        funext j
        show _ = if j = i then true else L.getD j false
        by_cases e : j = i
        · subst e
          rw [if_pos rfl]
          simp [Array.getD_eq_getD_getElem?, show j < L.size by omega]
        · rw [if_neg e]
          exact getD_set_ne false (Ne.symm e)
      have add := putAll_add hd (a := a0) (v := v) (v' := updV v i x) (L := fun j => L.getD j false) (L' := updL (fun j => L.getD j false) i) his hu (if_pos rfl) (fun j hj => if_neg hj) (fun j hj => if_neg hj) ops.size his (Nat.le_refl _)
      rw [show (updV v i x) i = x from if_pos rfl, hdst] at add
      rw [← add, ← hset]
      refine ih (L.setIfInBounds i true) (updV v i x) w' (by simpa using hL) ?_ (by rw [hset]; exact ho')
      rw [hset]
      have := cntF_set (L := fun j => L.getD j false) hu ops.size his
      have e : cntF (updL (fun j => L.getD j false) i) ops.size + 1 = cntF (fun j => L.getD j false) ops.size := this
      omega

/-- **A region in whatever order, by an invariant.** -/
theorem region_invG {id : Nat} (Inv : (Nat → Value) → (Nat → Bool) → World → Prop) (hm : P.follows .mixedOrders = true) (hd : apartB ops ops.size = true) (hord : orderB ops = true)
    (h0 : Inv (fun _ => undef) (fun _ => false) w0.drew)
    (hs : ∀ (i : Nat) (o : Oper) (v : Nat → Value) (L : Nat → Bool) (w : World), ops[i]? = some o → L i = false → Inv v L w → (∀ j, Dep o j → L j = true) →
      Region.wanted o (yielded ops (putAll ops v L a0 ops.size).tmps) = true ∧ o.wp P (putAll ops v L a0 ops.size) w (fun a' w' => ∃ x, a' = (putAll ops v L a0 ops.size).put o.dst x ∧ Inv (updV v i x) (updL L i) w') Q)
    (hK : ∀ v w, Inv v (fun j => decide (j < ops.size)) w → Q .normal (putAll ops v (fun j => decide (j < ops.size)) a0 ops.size) w) :
    (Code.region id ops true).wp P Q a0 w0 := by
  refine wp_region_any hm ?_
  have hz : ∀ j, (Array.replicate ops.size false).getD j false = false := fun j => by
    simp only [Array.getD_eq_getD_getElem?, Array.getElem?_replicate]
    split <;> rfl
  have hzf : (fun j => (Array.replicate ops.size false).getD j false) = fun _ => false := funext hz
  have hput : ∀ v n, putAll ops v (fun _ => false) a0 n = a0 := fun v n => by
    induction n with
    | zero => rfl
    | succ n ih => unfold putAll; rw [if_neg (by decide)]; exact ih
  have hcnt : ∀ n, cntF (fun _ => false) n = n := fun n => by
    induction n with
    | zero => rfl
    | succ n ih => unfold cntF; rw [ih]; rfl
  have := any_invG (P := P) (Q := Q) (ops := ops) (a0 := a0) Inv (apart_of hd) hord hs hK ops.size (Array.replicate ops.size false) (fun _ => undef) w0.drew (by simp) (by rw [hzf, hcnt]) (by rw [hzf]; exact h0)
  rw [hzf, hput] at this
  exact this

/-- .. the frame behind it laid out. -/
theorem region_invLG {id : Nat} (n : Nat) (ds : List (Option Tmp)) (Inv : (Nat → Value) → (Nat → Bool) → World → Prop) (hm : P.follows .mixedOrders = true) (hn : ops.size = n) (hds : (List.range n).map (dstOf ops) = ds) (hd : apartB ops n = true) (hord : orderB ops = true)
    (h0 : Inv (fun _ => undef) (fun _ => false) w0.drew)
    (hs : ∀ (i : Nat) (o : Oper) (v : Nat → Value) (L : Nat → Bool) (w : World), ops[i]? = some o → L i = false → Inv v L w → (∀ j, Dep o j → L j = true) →
      Region.wanted o (yielded ops (putAll ops v L a0 n).tmps) = true ∧ o.wp P (putAll ops v L a0 n) w (fun a' w' => ∃ x, a' = (putAll ops v L a0 n).put o.dst x ∧ Inv (updV v i x) (updL L i) w') Q)
    (hK : ∀ v w, Inv v (fun j => decide (j < n)) w → Q .normal (putL ds v 0 a0) w) :
    (Code.region id ops true).wp P Q a0 w0 := by
  subst hn
  refine region_invG Inv hm hd hord h0 hs fun v w hI => ?_
  have := hK v w hI
  rw [← hds, ← putAll_list v a0 ops.size ops.size (Nat.le_refl _)] at this
  exact this

theorem wanted_free {o : Oper} {y : Nat → Option Bool} (h : o.guard = none) : Region.wanted o y = true := by unfold Region.wanted; rw [h]
/-- A guard that is found true (or false). -/
theorem wanted_at {o : Oper} {n : Nat} (hd : apartB ops n = true) {v : Nat → Value} {L : Nat → Bool} {k : Tmp} (j : Nat) {b : Bool} (hg : o.guard = some (j, b)) (hk : k < a0.tmps.size) (hj : dstOf ops j = some k) (hjs : j < n) (hl : L j = true) (hv : v j = .bool b) : Region.wanted o (yielded ops (putAll ops v L a0 n).tmps) = true := by
  have h1 := (at_new (a0 := a0) hd (v := v) j hk hj hjs hl).trans hv
  have h2 : (ops[j]?).bind (·.dst) = some k := hj
  have h3 : (putAll ops v L a0 n).tmps[k]? = some (.bool b) := by
    simp only [Act.eval, Array.getD_eq_getD_getElem?] at h1
    cases c : (putAll ops v L a0 n).tmps[k]? with
    | none => rw [c] at h1; cases h1
    | some x => rw [c] at h1; exact congrArg some h1
  unfold Region.wanted
  rw [hg]
  show (yielded ops _ j == some b) = true
  unfold yielded
  rw [h2]
  show ((match (putAll ops v L a0 n).tmps[k]? with | some (.bool b) => some b | _ => none) == some b) = true
  rw [h3]
  simp
section
variable {o : Oper} {a : Act} {w w' : World} {K : Act → World → Prop}
theorem wpBinKT {bop : BinOp} {T U : TypeId} {k : Tmp} {x c z : Value} (hop : o.op = .binOp bop T (.tmp k) (.const c) U) (h1 : a.eval (.tmp k) = x)
    (hr : (do eqGuard bop T (.tmp k) (.const c) x c; binOp bop T x c : Sem Value).run P w = .ok z w) (hK : K (a.put o.dst z) w) : o.wp P a w K Q :=
  wpVal (x := z) (w' := w) (by unfold execOp; simp only [hop]; have h2 : a.eval (.const c) = c := rfl; simp only [h1, h2]; rw [Sem.run_bind, hr]; rfl) hK
theorem wpKBinT {bop : BinOp} {T U : TypeId} {k : Tmp} {x c z : Value} (hop : o.op = .binOp bop T (.const c) (.tmp k) U) (h1 : a.eval (.tmp k) = x)
    (hr : (do eqGuard bop T (.const c) (.tmp k) c x; binOp bop T c x : Sem Value).run P w = .ok z w) (hK : K (a.put o.dst z) w) : o.wp P a w K Q :=
  wpVal (x := z) (w' := w) (by unfold execOp; simp only [hop]; have h2 : a.eval (.const c) = c := rfl; simp only [h1, h2]; rw [Sem.run_bind, hr]; rfl) hK
theorem wpPickT {k l : Tmp} {b : Bool} {x c : Value} (hop : o.op = .pick (.tmp k) (.tmp l) (.const c)) (h1 : a.eval (.tmp k) = .bool b) (h2 : a.eval (.tmp l) = x) (hK : K (a.put o.dst (if b then x else c)) w) : o.wp P a w K Q :=
  wpVal (x := if b then x else c) (w' := w) (by
    unfold execOp; simp only [hop]
    have h3 : a.eval (.const c) = c := rfl
    simp only [h1, h2, h3]
    cases b <;> rfl) hK
theorem wpLenT {T U : TypeId} {k : Tmp} {p : Option Addr} {n c : Nat} (hop : o.op = .call { callee := .builtin .len, args := #[.tmp k], argTypes := #[T] }) (he : a.eval (.tmp k) = .slice p n c)
    (hT : P.underlying T = some (.slice U)) (hK : K (a.put o.dst (.int .i64 (n : Int))) w) : o.wp P a w K Q := by
  refine wpVal (x := .int .i64 (n : Int)) (w' := w) ?_ hK
  unfold execOp
  simp only [hop]
  have h2 : a.tmps[k]?.getD undef = .slice p n c := by simpa [Act.eval] using he
  simp [resolve, invoke, go_sem]
  rw [h2]
  simp [Builtin.len_, go_sem, run_underlying hT]
theorem wpBuildKT {T : TypeId} {c d z : Value} (hop : o.op = .build T #[(0, .const c), (1, .const d)])
    (hr : (Instr.build T #[(0, c), (1, d)]).run P w = .ok z w) (hK : K (a.put o.dst z) w) : o.wp P a w K Q :=
  wpVal (x := z) (w' := w) (by unfold execOp; simp only [hop]; simp only [List.map_toArray, List.map_cons, List.map_nil, Act.eval, Sem.run_bind, hr, Result.andThen_ok, Sem.run_pure]) hK
end
end
/- One operation each. -/
theorem wpFieldT {P : Program} {Q : Exit → Act → World → Prop} {o : Oper} {a : Act} {w : World} {K : Act → World → Prop} {T f : Nat} {k : Tmp} {x y : Value} (hop : o.op = .fieldAddr T (.tmp k) f) (he : a.eval (.tmp k) = y) (hr : (Instr.fieldAt T y f).run P w = .ok x w) (hK : K (a.put o.dst x) w) : o.wp P a w K Q :=
  wpVal (x := x) (w' := w) (by unfold execOp; simp only [hop]; simp only [he, Sem.run_bind, hr, Result.andThen_ok, Sem.run_pure]) hK
theorem wpLoadT {P : Program} {Q : Exit → Act → World → Prop} {o : Oper} {a : Act} {w : World} {K : Act → World → Prop} {T : TypeId} {k : Tmp} {x y : Value} (hop : o.op = .load T (.tmp k)) (he : a.eval (.tmp k) = y) (hr : (Instr.loadAt T y).run P w = .ok x w) (hK : K (a.put o.dst x) w) : o.wp P a w K Q :=
  wpVal (x := x) (w' := w) (by unfold execOp; simp only [hop]; simp only [he, Sem.run_bind, hr, Result.andThen_ok, Sem.run_pure]) hK
theorem wpExtT {P : Program} {Q : Exit → Act → World → Prop} {o : Oper} {a : Act} {w : World} {K : Act → World → Prop} {k : Tmp} {i : Nat} {x y : Value} (hop : o.op = .extract (.tmp k) i) (he : a.eval (.tmp k) = y) (hr : (Instr.extract y i).run P w = .ok x w) (hK : K (a.put o.dst x) w) : o.wp P a w K Q :=
  wpVal (x := x) (w' := w) (by unfold execOp; simp only [hop]; simp only [he, Sem.run_bind, hr, Result.andThen_ok, Sem.run_pure]) hK
theorem wpAssT {P : Program} {Q : Exit → Act → World → Prop} {o : Oper} {a : Act} {w : World} {K : Act → World → Prop} {k : Tmp} {y : Value} (hop : o.op = .assign (.tmp k)) (he : a.eval (.tmp k) = y) (hK : K (a.put o.dst y) w) : o.wp P a w K Q :=
  wpVal (x := y) (w' := w) (by unfold execOp; simp only [hop]; simp only [he, Sem.run_pure]) hK
theorem wpUnT {P : Program} {Q : Exit → Act → World → Prop} {o : Oper} {a : Act} {w : World} {K : Act → World → Prop} {op : UnOp} {T : TypeId} {k : Tmp} {x y : Value} (hop : o.op = .unOp op T (.tmp k)) (he : a.eval (.tmp k) = y) (hr : (Op.unary op y).run P w = .ok x w) (hK : K (a.put o.dst x) w) : o.wp P a w K Q :=
  wpVal (x := x) (w' := w) (by unfold execOp; simp only [hop]; simp only [he, Sem.run_bind, hr, Result.andThen_ok, Sem.run_pure]) hK
theorem wpIdxT {P : Program} {Q : Exit → Act → World → Prop} {o : Oper} {a : Act} {w : World} {K : Act → World → Prop} {T : TypeId} {k l : Tmp} {x y z : Value} (hop : o.op = .indexAddr T (.tmp k) (.tmp l)) (h1 : a.eval (.tmp k) = x) (h2 : a.eval (.tmp l) = y) (hr : (Instr.indexAt T x y).run P w = .ok z w) (hK : K (a.put o.dst z) w) : o.wp P a w K Q :=
  wpVal (x := z) (w' := w) (by unfold execOp; simp only [hop]; simp only [h1, h2, Sem.run_bind, hr, Result.andThen_ok, Sem.run_pure]) hK
theorem argsT2q {a : Act} {k l : Tmp} {y z : Value} (h : a.eval (.tmp k) = y) (h2 : a.eval (.tmp l) = z) : #[Operand.tmp k, .tmp l].map a.eval = #[y, z] := by simp only [List.map_toArray, List.map_cons, List.map_nil, h, h2]

end Go.My

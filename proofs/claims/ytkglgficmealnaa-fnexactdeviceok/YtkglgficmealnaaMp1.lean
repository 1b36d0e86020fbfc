/- The program's map from marks to keys, as the list of its marks and keys in the order of their coming. -/
import Derived.Test.YtkglgficmealnaaWire4
import Derived.Laws.StructEq
import Derived.WideKeyRuns
import Derived.MapKept
namespace Go.Proofs.Ytkglgficmealnaa
open Go.RowKit Go.My Go.Lib
set_option linter.unusedVariables false

abbrev Mk := ByteArray × Int
abbrev mkV (k : Mk) : Value := .agg #[.string k.1, .int .i64 k.2]
theorem eqMk (a b : Mk) (w : World) : (Op.equal 127 (mkV a) (mkV b)).run Try.prog w = .ok (decide (a = b)) w := by
  have hS : Try.prog.underlying 127 = some (.struct (Try.prog.fieldsOf 127)) := by kernel_rfl
  have hp : Try.prog.stoodInHeld 127 = false := by kernel_rfl
  have us := Try.underlying9
  have ui := Try.underlying2
  unfold Op.equal
  rw [show Op.maxDepth = 9999 + 1 from rfl, run_equalIn_agg w 9999 127 _ _ hS hp]
  simp only [Program.fieldsOf, Try.underlying127]
  simp [go_sem, us, ui]
  obtain ⟨p, n⟩ := a
  obtain ⟨q, m⟩ := b
  by_cases h1 : p = q
  · subst h1
    by_cases h2 : n = m
    · subst h2; simp
    · simp [h2]
  · have : ¬ p.toList = q.toList := fun e => h1 (by rw [ByteArray.toList_eq, ByteArray.toList_eq] at e; rw [← str_of p, ← str_of q, e])
    simp [h1, this]
theorem checkS (e : Bool) (d : Nat) (x : ByteArray) (w : World) : (Instr.checkKey e (d + 1) 9 (.string x)).run Try.prog w = .ok () w := by
  rw [Instr.checkKey]
  simp [run_underlying Try.underlying9]
theorem checkI (e : Bool) (d : Nat) (x : Int) (w : World) : (Instr.checkKey e (d + 1) 2 (.int .i64 x)).run Try.prog w = .ok () w := by
  rw [Instr.checkKey]
  simp [run_underlying Try.underlying2]
theorem checkMd (e : Bool) (d : Nat) (a : Mk) (w : World) : (Instr.checkKey e (d + 1 + 1) 127 (mkV a)).run Try.prog w = .ok () w := by
  rw [Instr.checkKey]
  simp only [Sem.run_bind, run_underlying Try.underlying127, Result.andThen_ok]
  simp [go_sem, checkS, checkI]
theorem checkMk (e : Bool) (a : Mk) (w : World) : (Instr.checkKey e 10000 127 (mkV a)).run Try.prog w = .ok () w := checkMd e 9998 a w

abbrev KV := List (Mk × ByteArray)
def Ents (kv : KV) (es : List MapEntry) : Prop := es.map (fun e => (e.key, e.val)) = kv.map (fun x => (mkV x.1, Value.string x.2))
theorem Ents.len {kv : KV} {es : List MapEntry} (h : Ents kv es) : es.length = kv.length := by
  have := congrArg List.length h
  simpa using this
theorem find_mk (a : Mk) (w : World) : ∀ (kv : KV) (es : List MapEntry), Ents kv es → ∀ i, ∃ r, (Instr.findAsking 127 (mkV a) es i).run Try.prog w = .ok r w ∧
    ((r = none ∧ ∀ x ∈ kv, x.1 ≠ a) ∨ (∃ j k, r = some (i + j, .string k) ∧ kv[j]? = some (a, k) ∧ ∀ q, q < j → ∀ x, kv[q]? = some x → x.1 ≠ a))
  | [], [], _, i => ⟨none, rfl, .inl ⟨rfl, by simp⟩⟩
  | [], _ :: _, h, _ => by cases h
  | _ :: _, [], h, _ => by cases h
  | x :: kv, e :: es, h, i => by
    have hx : e.key = mkV x.1 ∧ e.val = .string x.2 := by
      have := List.cons.inj h
      exact ⟨congrArg Prod.fst this.1, congrArg Prod.snd this.1⟩
    have ht : Ents kv es := (List.cons.inj h).2
    by_cases hc : a = x.1
    · refine ⟨some (i, .string x.2), ?_, .inr ⟨0, x.2, rfl, by simp [hc], fun q hq => by omega⟩⟩
      unfold Instr.findAsking
      simp only [hx.1, hx.2, Sem.run_bind, eqMk, Result.andThen_ok]
      simp [hc]
    · obtain ⟨r, hr, hc2⟩ := find_mk a w kv es ht (i + 1)
      refine ⟨r, ?_, ?_⟩
      · unfold Instr.findAsking
        simp only [hx.1, Sem.run_bind, eqMk, Result.andThen_ok]
        simp only [hc, decide_false, Bool.false_eq_true, if_false]
        exact hr
      · rcases hc2 with ⟨h1, h2⟩ | ⟨j, k, h1, h2, h3⟩
        · refine .inl ⟨h1, fun y hy => ?_⟩
          rcases List.mem_cons.1 hy with rfl | hy
          · exact Ne.symm hc
          · exact h2 y hy
        · refine .inr ⟨j + 1, k, by rw [h1]; congr 2; omega, by simpa using h2, fun q hq y hy => ?_⟩
          cases q with
          | zero => simp at hy; rw [← hy]; exact Ne.symm hc
          | succ q => exact h3 q (by omega) y (by simpa using hy)

/-- Block m is a map of just these. -/
def MapAt (m : Nat) (kv : KV) (w : World) : Prop := ∃ es clock, w.heap[m]? = some (.map es clock) ∧ Ents kv es.toList
theorem MapAt.lt {m : Nat} {kv : KV} {w : World} (h : MapAt m kv w) : m < w.heap.size := by obtain ⟨_, _, h, _⟩ := h; exact (Array.getElem?_eq_some_iff.1 h).1
theorem MapAt.grown {m k : Nat} {kv : KV} {w w' : World} (h : MapAt m kv w) (hg : w.grownBy w' (some k)) (hk : m ≠ k) : MapAt m kv w' := by
  have hl := h.lt
  obtain ⟨es, c, h1, h2⟩ := h
  exact ⟨es, c, (hg.block m hl (fun e => hk (Option.some.inj e))).trans h1, h2⟩
theorem MapAt.below {m : Nat} {kv : KV} {w w' : World} (h : MapAt m kv w) (hb : Below w.heap.size w w') : MapAt m kv w' := by
  have hl := h.lt
  obtain ⟨es, c, h1, h2⟩ := h
  exact ⟨es, c, (hb.block m hl).trans h1, h2⟩
theorem len_map (m : Nat) (kv : KV) (w : World) (h : MapAt m kv w) (ty : TypeId) : (Builtin.len_ #[100] ty #[.map (some m)]).run Try.prog w = .ok (.int .i64 kv.length) w := by
  obtain ⟨es, c, h1, h2⟩ := h
  have hl : es.size = kv.length := by rw [← Array.length_toList]; exact h2.len
  simp [Builtin.len_, run_underlying Try.underlying100, MapKept.run_getObj_map h1, goInt, Result.andThen, hl]
theorem findMk_eq (a : Mk) (es : List MapEntry) (w : World) : (Instr.findKey 127 (mkV a) es).run Try.prog w = (Instr.findAsking 127 (mkV a) es).run Try.prog w :=
  run_findKey_eq w (by simp only [Try.underlying127]) (mkV a) es
/-- Block m turned into this map. -/
def turnM (w : World) (m : Nat) (es : Array MapEntry) (c : Nat) : World := { w with heap := w.heap.setIfInBounds m (.map es c) }
theorem turnM_at {w : World} {m : Nat} (es : Array MapEntry) (c : Nat) (h : m < w.heap.size) : (turnM w m es c).heap[m]? = some (.map es c) := by simp [turnM, h]
theorem turnM_grown (w : World) (m : Nat) (es : Array MapEntry) (c : Nat) : w.grownBy (turnM w m es c) (some m) :=
  ⟨rfl, rfl, rfl, by simp [turnM], fun k _ hk => by
    have : m ≠ k := fun e => hk (by rw [e])
    simp [turnM, this]⟩
theorem setM {w : World} {m : Nat} {es : Array MapEntry} {c : Nat} (h : w.heap[m]? = some (.map es c)) (es' : Array MapEntry) (c' : Nat) : (setObj m (.map es' c')).run Try.prog w = .ok () (turnM w m es' c') := by
  rw [MapKept.run_setObj_map _ h]
  rfl
/-- delete(m, k). -/
theorem del_map (m : Nat) (kv : KV) (w : World) (h : MapAt m kv w) (a : Mk) (ty : TypeId) (hd : kv.Pairwise (fun x y => x.1 ≠ y.1)) :
    ∃ w', (Builtin.delete_ #[100, 127] ty #[.map (some m), mkV a]).run Try.prog w = .ok (.tuple #[]) w' ∧ MapAt m (kv.filter (fun x => decide (x.1 ≠ a))) w' ∧ w.grownBy w' (some m) := by
  have hlt := h.lt
  obtain ⟨es, c, h1, h2⟩ := h
  obtain ⟨r, hr, hc⟩ := find_mk a w kv es.toList h2 0
  have hf : (Instr.findKey 127 (mkV a) es.toList).run Try.prog w = .ok r w := (findMk_eq a es.toList w).trans hr
  rcases hc with ⟨rfl, hno⟩ | ⟨j, k, rfl, hj, hfirst⟩
  · refine ⟨turnM w m es c, ?_, ⟨es, c, turnM_at es c hlt, ?_⟩, turnM_grown w m es c⟩
    · simp [Builtin.delete_, run_underlying Try.underlying100, MapKept.run_getObj_map h1, checkMk, hf, setM h1, Result.andThen]
    · rw [List.filter_eq_self.2 (fun x hx => decide_eq_true (hno x hx))]
      exact h2
  · refine ⟨turnM w m (es.eraseIdxIfInBounds j) c, ?_, ⟨_, c, turnM_at _ c hlt, ?_⟩, turnM_grown w m _ c⟩
    · simp [Builtin.delete_, run_underlying Try.underlying100, MapKept.run_getObj_map h1, checkMk, hf, setM h1, Result.andThen]
    · have hjl : j < kv.length := (List.getElem?_eq_some_iff.1 hj).1
      have hjs : j < es.size := by rw [← Array.length_toList, h2.len]; exact hjl
      have e1 : (es.eraseIdxIfInBounds j).toList = es.toList.eraseIdx j := by simp [Array.eraseIdxIfInBounds, hjs]
      have e2 : kv.filter (fun x => decide (x.1 ≠ a)) = kv.eraseIdx j := by
        have hk := (List.getElem?_eq_some_iff.1 hj).2
        rw [List.eraseIdx_eq_take_drop_succ]
        have split : kv = kv.take j ++ (a, k) :: kv.drop (j + 1) := by
          rw [← hk, List.getElem_cons_drop hjl, List.take_append_drop]
        rw [split] at hd
        obtain ⟨_, h3, h4⟩ := List.pairwise_append.1 hd
        obtain ⟨h5, _⟩ := List.pairwise_cons.1 h3
        conv => lhs; rw [split]
        rw [List.filter_append, List.filter_cons_of_neg (by simp), List.filter_eq_self.2 (fun x hx => decide_eq_true (h4 x hx (a, k) (by simp))), List.filter_eq_self.2 (fun x hx => decide_eq_true (Ne.symm (h5 x hx)))]
      rw [e1, e2]
      unfold Ents at h2 ⊢
      rw [List.eraseIdx_eq_take_drop_succ, List.eraseIdx_eq_take_drop_succ, List.map_append, List.map_append, List.map_take, List.map_drop, List.map_take, List.map_drop, h2]
/-- m[k] = v, the key not there. -/
theorem put_map (m : Nat) (kv : KV) (w : World) (h : MapAt m kv w) (a : Mk) (key : ByteArray) (hno : ∀ x ∈ kv, x.1 ≠ a) :
    ∃ w', (Instr.mapUpdate 100 (.map (some m)) (mkV a) (.string key)).run Try.prog w = .ok () w' ∧ MapAt m (kv ++ [(a, key)]) w' ∧ w.grownBy w' (some m) := by
  have hlt := h.lt
  obtain ⟨es, c, h1, h2⟩ := h
  obtain ⟨r, hr, hc⟩ := find_mk a w kv es.toList h2 0
  have hf : (Instr.findKey 127 (mkV a) es.toList).run Try.prog w = .ok r w := (findMk_eq a es.toList w).trans hr
  rcases hc with ⟨rfl, _⟩ | ⟨j, k, rfl, hj, _⟩
  · refine ⟨turnM w m (es.push ⟨mkV a, .string key, c⟩) (c + 1), ?_, ⟨_, _, turnM_at _ _ hlt, ?_⟩, turnM_grown w m _ _⟩
    · simp [Instr.mapUpdate, run_underlying Try.underlying100, MapKept.run_getObj_map h1, checkMk, hf, setM h1, Result.andThen]
    · unfold Ents at h2 ⊢
      rw [Array.toList_push, List.map_append, List.map_append, h2]
      rfl
  · exact absurd rfl (hno (a, k) (List.mem_of_getElem? hj))
/-- v, ok := m[k]. -/
theorem look_map (m : Nat) (kv : KV) (w : World) (h : MapAt m kv w) (a : Mk) :
    ∃ v : ByteArray, ∃ ok : Bool, (Instr.lookup 100 (.map (some m)) (mkV a) true).run Try.prog w = .ok (.tuple #[.string v, .bool ok]) w ∧ ((ok = false ∧ v = ByteArray.mk #[] ∧ ∀ x ∈ kv, x.1 ≠ a) ∨ (ok = true ∧ (a, v) ∈ kv)) := by
  obtain ⟨es, c, h1, h2⟩ := h
  obtain ⟨r, hr, hc⟩ := find_mk a w kv es.toList h2 0
  have hf : (Instr.findKey 127 (mkV a) es.toList).run Try.prog w = .ok r w := (findMk_eq a es.toList w).trans hr
  rcases hc with ⟨rfl, hno⟩ | ⟨j, k, rfl, hj, _⟩
  · refine ⟨ByteArray.mk #[], false, ?_, .inl ⟨rfl, rfl, hno⟩⟩
    simp [Instr.lookup, run_underlying Try.underlying100, MapKept.run_getObj_map h1, checkMk, hf, Result.andThen, go_sem]
  · refine ⟨k, true, ?_, .inr ⟨rfl, List.mem_of_getElem? hj⟩⟩
    simp [Instr.lookup, run_underlying Try.underlying100, MapKept.run_getObj_map h1, checkMk, hf, Result.andThen, go_sem]

end Go.Proofs.Ytkglgficmealnaa

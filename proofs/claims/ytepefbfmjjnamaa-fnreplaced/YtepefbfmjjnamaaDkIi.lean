/- A drive's operations one by one. -/
import Derived.Test.YtepefbfmjjnamaaDkIh
namespace Go.Proofs.Ytepefbfmjjnamaa
open Go.RowKit Go.My Go.Lib
set_option linter.unusedVariables false

theorem runL_kons (l : List FileT) (op : DOpT) (a : List DOpT) : runL l (op :: a) = (opDo l op).bind (fun l' => if opB op && filesB l' then runL l' a else none) := by
  show (match opDo l op with | none => none | some l' => if opB op && filesB l' then runL l' a else none) = _
  cases opDo l op <;> rfl
theorem run_app (l : List FileT) (a b : List DOpT) : runL l (a ++ b) = (runL l a).bind (fun l' => runL l' b) := by
  induction a generalizing l with
  | nil => rfl
  | cons op a ih =>
    rw [List.cons_append, runL_kons, runL_kons]
    cases opDo l op with
    | none => rfl
    | some l' =>
      simp only [Option.bind_some]
      by_cases c : (opB op && filesB l') = true
      · rw [if_pos c, if_pos c, ih]
      · rw [if_neg c, if_neg c]; rfl
theorem run_one (l : List FileT) (op : DOpT) : runL l [op] = if findB l op && (opB op && filesB (aftL l op)) then some (aftL l op) else none := by
  unfold runL
  rw [opDo_aft]
  cases c : findB l op with
  | false => rfl
  | true =>
    show (if opB op && filesB (aftL l op) then runL (aftL l op) [] else none) = _
    rw [Bool.true_and]
    rfl
theorem doC_zero (l : List FileT) (ops : List DOpT) (op : DOpT) : doC l ops op = 0 ↔ ops.length < 200 ∧ runL l [op] = some (aftL l op) := by
  unfold doC
  rw [run_one]
  cases c1 : opB op <;> cases c2 : findB l op <;> cases c4 : filesB (aftL l op) <;> by_cases c3 : 200 ≤ ops.length <;> simp [c3] <;> omega
theorem run_bad {l : List FileT} {op : DOpT} (h : runL l [op] ≠ some (aftL l op)) : runL l [op] = none := by
  rw [run_one] at h ⊢
  by_cases c : (findB l op && (opB op && filesB (aftL l op))) = true
  · exact absurd (if_pos c) h
  · rw [if_neg c]
theorem run_files {l l' : List FileT} {ops : List DOpT} (h : runL l ops = some l') (hl : filesB l = true) : filesB l' = true := by
  induction ops generalizing l with
  | nil =>
    have : l = l' := Option.some.inj h
    rw [← this]; exact hl
  | cons op ops ih =>
    unfold runL at h
    cases c : opDo l op with
    | none => rw [c] at h; cases h
    | some l2 =>
      rw [c] at h
      have h : (if opB op && filesB l2 then runL l2 ops else none) = some l' := h
      by_cases c2 : (opB op && filesB l2) = true
      · rw [if_pos c2] at h
        rw [Bool.and_eq_true] at c2
        exact ih h c2.2
      · rw [if_neg c2] at h; cases h
/-- A step of the disk's operations that is refused. -/
theorem disk_stop {d : DiskT} {j : Nat} {l : List FileT} (hj : j < d.ops.length) (hr : runL d.safe (d.ops.take j) = some l) (hc : doC l (d.ops.take j) d.ops[j] ≠ 0) : diskB d = false := by
  have hlen : (d.ops.take j).length = j := by rw [List.length_take]; omega
  unfold diskB
  by_cases h200 : d.ops.length ≤ 200
  · have hn : runL l [d.ops[j]] = none := run_bad (fun c => hc ((doC_zero _ _ _).2 ⟨by omega, c⟩))
    have e : d.ops = d.ops.take j ++ ([d.ops[j]] ++ d.ops.drop (j + 1)) := by
      rw [List.singleton_append, List.getElem_cons_drop hj, List.take_append_drop]
    have hx : runL d.safe d.ops = none := by
      rw [e, run_app, hr]
      show runL l ([d.ops[j]] ++ d.ops.drop (j + 1)) = none
      rw [run_app, hn]
      rfl
    rw [hx]; simp
  · rw [decide_eq_false h200, Bool.and_false, Bool.false_and]
theorem disk_next {d : DiskT} {j : Nat} {l : List FileT} (hj : j < d.ops.length) (hr : runL d.safe (d.ops.take j) = some l) (hc : doC l (d.ops.take j) d.ops[j] = 0) : runL d.safe (d.ops.take (j + 1)) = some (aftL l d.ops[j]) ∧ j + 1 ≤ 200 := by
  have hlen : (d.ops.take j).length = j := by rw [List.length_take]; omega
  obtain ⟨h1, h2⟩ := (doC_zero _ _ _).1 hc
  refine ⟨?_, by omega⟩
  rw [List.take_succ_eq_append_getElem hj, run_app, hr]
  exact h2
theorem disk_end {d : DiskT} {l : List FileT} (hs : filesB d.safe = true) (hr : runL d.safe d.ops = some l) (h200 : d.ops.length ≤ 200) : diskB d = decide (l = d.live) := by
  unfold diskB
  rw [hr, hs, decide_eq_true h200, Bool.and_true, Bool.and_true]
  by_cases c : l = d.live
  · have hf := run_files hr hs
    rw [c] at hf
    rw [c, hf, decide_eq_true rfl, decide_eq_true rfl]; rfl
  · rw [decide_eq_false c, decide_eq_false (fun e => c (Option.some.inj e)), Bool.and_false]

/-- An operation on a drive: refused, or done. -/
theorem do_i (B dv : Nat) (vs : Value) (l : List FileT) (ops : List DOpT) (k : Int) (n t d : ByteArray) (w : World) (h : DrvAt B dv vs l ops w) (hf : filesB l = true) (ho : ops.length ≤ 1048576) (hn : n.size ≤ 1048576) (ht : t.size ≤ 1048576) (hd : d.size ≤ 1048576) (hBw : B ≤ w.heap.size) :
    Calls Try.prog 65 #[.pointer (some ⟨dv, 0, none⟩), .agg #[.int .i64 k, .string n, .string t, .string d]] w fun e w' => e = .returned (.int .i64 (doC l ops (k, n, t, d))) ∧ (doC l ops (k, n, t, d) = 0 → DrvAt B dv vs (aftL l (k, n, t, d)) (ops ++ [(k, n, t, d)]) w') ∧ (doC l ops (k, n, t, d) ≠ 0 → DrvAt B dv vs l ops w') ∧ Below B w w' := by
  by_cases hc : doC l ops (k, n, t, d) = 0
  · refine (do_good B dv vs l ops k n t d w h hf ho (Nat.le_trans hn (by decide)) (Nat.le_trans ht (by decide)) hd hc hBw).mono ?_
    rintro e w' ⟨rfl, h1, h2⟩
    exact ⟨by rw [hc], fun _ => h1, fun c => absurd hc c, h2⟩
  · refine (do_bad B dv vs l ops k n t d w h hf ho (Nat.le_trans hn (by decide)) (Nat.le_trans ht (by decide)) hd hc).mono ?_
    rintro e w' ⟨rfl, h2⟩
    exact ⟨rfl, fun c => absurd c hc, fun _ => h.below h2, h2.mono hBw⟩

end Go.Proofs.Ytepefbfmjjnamaa

/- Bounds of what operations make of right files. -/
import Derived.Test.YtepefbfmjjnamaaDkU
namespace Go.Proofs.Ytepefbfmjjnamaa
open Go.RowKit Go.My Go.Lib
set_option linter.unusedVariables false

theorem goodTo_at (l : List FileT) : ∀ n, goodTo l n = true → ∀ j, j < n → goodAt l j = true
  | 0, _, j, h => by omega
  | n + 1, h, j, hj => by
    have h' : (goodTo l n && goodAt l n) = true := h
    rw [Bool.and_eq_true] at h'
    by_cases hn : j = n
    · rw [hn]; exact h'.2
    · exact goodTo_at l n h'.1 j (by omega)
structure FilesB (l : List FileT) : Prop where
  len : l.length ≤ 60
  sum : dataSum l ≤ 200000
  names : ∀ a ∈ l, 1 ≤ a.1.size ∧ a.1.size ≤ 100
theorem filesB_of {l : List FileT} (h : filesB l = true) : FilesB l := by
  unfold filesB at h
  rw [Bool.and_eq_true, Bool.and_eq_true] at h
  refine ⟨of_decide_eq_true h.1.1, of_decide_eq_true h.2, fun a ha => ?_⟩
  obtain ⟨j, hj, rfl⟩ := List.mem_iff_getElem.1 ha
  have := goodTo_at l l.length h.1.2 j hj
  unfold goodAt at this
  rw [Bool.and_eq_true, nameAt_eq l j hj] at this
  have h1 := this.1
  unfold nameB at h1
  rw [Bool.and_eq_true] at h1
  exact ⟨of_decide_eq_true h1.1, of_decide_eq_true h1.2⟩
theorem data_le {l : List FileT} {a : FileT} (h : a ∈ l) : a.2.size ≤ dataSum l := by
  induction l with
  | nil => simp at h
  | cons b l ih =>
    have e : dataSum (b :: l) = b.2.size + dataSum l := rfl
    rcases List.mem_cons.1 h with rfl | h
    · omega
    · have := ih h; omega
theorem dataSum_app (a b : List FileT) : dataSum (a ++ b) = dataSum a + dataSum b := by unfold dataSum; rw [List.map_append, List.sum_append]
theorem dataSum_cons (a : FileT) (b : List FileT) : dataSum (a :: b) = a.2.size + dataSum b := rfl
theorem dataOf_le (l : List FileT) (n : ByteArray) : (dataOf l n).size ≤ dataSum l := by
  cases h : idxL l n with
  | none => rw [dataOf_none h]; exact Nat.zero_le _
  | some j => rw [dataOf_some h]; exact data_le (List.getElem_mem _)
theorem putGo_mem (n d : ByteArray) : ∀ (l : List FileT) (done : Bool) (a : FileT), a ∈ putGo n d done l → a = (n, d) ∨ a ∈ l
  | [], done, a, h => by cases done <;> simp [putGo] at h; exact .inl h
  | f :: l, done, a, h => by
    simp only [putGo, List.mem_append] at h
    rcases h with h | h | h
    · split at h <;> simp at h; exact .inl h
    · split at h <;> simp at h; exact .inr (by rw [h]; exact List.mem_cons_self ..)
    · rcases putGo_mem n d l _ a h with h | h
      · exact .inl h
      · exact .inr (List.mem_cons_of_mem _ h)
theorem putGo_sum (n d : ByteArray) : ∀ (l : List FileT) (done : Bool), dataSum (putGo n d done l) ≤ dataSum l + (if done then 0 else d.size)
  | [], done => by cases done <;> simp [putGo, dataSum]
  | f :: l, done => by
    have h1 := putGo_sum n d l true
    have h2 := putGo_sum n d l false
    simp only [putGo, dataSum_app, dataSum_cons]
    cases done <;> cases blt f.1 n <;> by_cases c : f.1 = n <;> simp [c, dataSum] at * <;> omega
theorem cut_mem {l : List FileT} {n : ByteArray} {a : FileT} (h : a ∈ cutL l n) : a ∈ l := (List.mem_filter.1 h).1
theorem cut_sum (l : List FileT) (n : ByteArray) : dataSum (cutL l n) ≤ dataSum l := by
  induction l with
  | nil => exact Nat.le_refl _
  | cons a l ih =>
    unfold cutL at *
    rw [List.filter_cons]
    split <;> simp only [dataSum_cons] <;> omega
/-- What an operation makes of right files is small. -/
theorem opDo_small {l l' : List FileT} {op : DOpT} (h : FilesB l) (ho : opDo l op = some l') (hn : op.2.1.size ≤ 1048580) (ht : op.2.2.1.size ≤ 1048580) (hd : op.2.2.2.size ≤ 1048576) :
    l'.length ≤ 61 ∧ dataSum l' ≤ 2000000 ∧ ∀ a ∈ l', a.1.size ≤ 1048580 := by
  have hL := h.len
  have hS := h.sum
  have hN : ∀ a ∈ l, a.1.size ≤ 1048580 := fun a ha => by have := h.names a ha; omega
  have hdo := dataOf_le l op.2.1
  unfold opDo at ho
  split at ho
  · cases ho
    refine ⟨?_, ?_, fun a ha => ?_⟩
    · have := putGo_len op.2.1 (dataOf l op.2.1 ++ op.2.2.2) l false; show (putGo _ _ _ _).length ≤ _; simp at this; omega
    · have := putGo_sum op.2.1 (dataOf l op.2.1 ++ op.2.2.2) l false; show dataSum (putGo _ _ _ _) ≤ _; rw [if_neg (by simp), ByteArray.size_append] at this; omega
    · rcases putGo_mem _ _ _ _ a ha with rfl | ha
      · exact hn
      · exact hN a ha
  · split at ho
    · cases ho
    · split at ho
      · cases ho
        have hcl : (cutL l op.2.1).length ≤ l.length := List.length_filter_le _ _
        have hcs := cut_sum l op.2.1
        refine ⟨?_, ?_, fun a ha => ?_⟩
        · have := putGo_len op.2.2.1 (dataOf l op.2.1) (cutL l op.2.1) false; show (putGo _ _ _ _).length ≤ _; simp at this; omega
        · have := putGo_sum op.2.2.1 (dataOf l op.2.1) (cutL l op.2.1) false; show dataSum (putGo _ _ _ _) ≤ _; rw [if_neg (by simp)] at this; omega
        · rcases putGo_mem _ _ _ _ a ha with rfl | ha
          · exact ht
          · exact hN a (cut_mem ha)
      · cases ho
        have hcl : (cutL l op.2.1).length ≤ l.length := List.length_filter_le _ _
        have hcs := cut_sum l op.2.1
        exact ⟨by omega, by omega, fun a ha => hN a (cut_mem ha)⟩

set_option maxRecDepth 20000 in
set_option maxHeartbeats 1000000 in
theorem same_s (v1 v2 : Value) (l1 l2 : List FileT) (w : World) (h1 : FilesAt 0 v1 l1 w) (h2 : FilesAt 0 v2 l2 w) (hl1 : l1.length ≤ 1048576) (hl2 : l2.length ≤ 1048576) :
    Calls Try.prog 58 #[v1, v2] w fun e w' => e = .returned (.bool (decide (l1 = l2))) ∧ Below w.heap.size w w' := by
  obtain ⟨p1, cap1, rfl, hm1, _, hp1⟩ := h1.open
  obtain ⟨p2, cap2, rfl, hm2, _, hp2⟩ := h2.open
  have H1 := Lib.hid h1
  have H2 := Lib.hid h2
  have hlI : (l1.length : Int) ≤ 1048576 := by omega
  have hlI2 : (l2.length : Int) ≤ 1048576 := by omega
  clear h1 h2 hm1 hm2
  by_cases hlen : l1.length = l2.length
  case neg =>
    have hq : ((l1.length : Int) != (l2.length : Int)) = true := by simp; omega
    have HF : Hid (decide (l1 = l2) = false) := decide_eq_false (fun c => hlen (by rw [c]))
    clear hlen
    go_enter Try.func58, Try.ntmps58
    go_wp2
    go_ret
    exact ⟨by rw [HF.out]; rfl, Below.refl _ _⟩
  have hq : ((l1.length : Int) != (l2.length : Int)) = false := by simp; omega
  have HLEN := Lib.hid hlen
  clear hlen
  go_enter Try.func58, Try.ntmps58
  go_wp2
  go_loopw [5] (fun i wr => ∃ j : Nat, j ≤ l1.length ∧ i = .int .i64 j ∧ l1.take j = l2.take j ∧ Below w.heap.size w wr) (fun i _ => l1.length - (intOf i).toNat)
  case atStart => exact ⟨0, Nat.zero_le _, rfl, rfl, Below.refl _ _⟩
  case round =>
    obtain ⟨j, hj, rfl, hsm, hB⟩ := hrel
    have HSM := Lib.hid hsm
    clear hsm
    by_cases hlt : j < l1.length
    · have hlt2 : j < l2.length := by have := HLEN.out; omega
      have hne : l1 ≠ [] := by intro c; rw [c] at hlt; simp at hlt
      have hne2 : l2 ≠ [] := by intro c; rw [c] at hlt2; simp at hlt2
      obtain ⟨g1, rfl, _, hg1⟩ := hp1.resolve_left (fun c => hne c.1)
      obtain ⟨g2, rfl, _, hg2⟩ := hp2.resolve_left (fun c => hne2 c.1)
      have j0 : (0 : Int) ≤ (j : Int) := by omega
      have j1 : (j : Int) < (l1.length : Int) := by omega
      have j2 : (j : Int) < (l2.length : Int) := by omega
      obtain ⟨x, hx⟩ : ∃ x, l1[j] = x := ⟨_, rfl⟩
      obtain ⟨y, hy⟩ : ∃ y, l2[j] = y := ⟨_, rfl⟩
      have hA := H1.out.below hB
      have hC := H2.out.below hB
      have a0 : wr.cell? ⟨g1, j * 2, none⟩ = some (.string x.1) := hA.at fileC_len hlt hx 0 (by omega) rfl
      have a1 : wr.cell? ⟨g1, j * 2 + 1, none⟩ = some (.string x.2) := hA.at fileC_len hlt hx 1 (by omega) rfl
      have c0 : wr.cell? ⟨g2, j * 2, none⟩ = some (.string y.1) := hC.at fileC_len hlt2 hy 0 (by omega) rfl
      have c1 : wr.cell? ⟨g2, j * 2 + 1, none⟩ = some (.string y.2) := hC.at fileC_len hlt2 hy 1 (by omega) rfl
      have HT1 := Lib.hid (List.take_succ_eq_append_getElem hlt)
      have HT2 := Lib.hid (List.take_succ_eq_append_getElem hlt2)
      rw [hx] at HT1
      rw [hy] at HT2
      have HN : Hid (x ≠ y → decide (l1 = l2) = false) := fun c => decide_eq_false (fun e => c (by subst e; rw [← hx, ← hy]))
      clear hA hC hx hy hne hne2 hp1 hp2 hg1 hg2
      by_cases e1 : x.1 = y.1
      · have q1 : (x.1.toList == y.1.toList) = true := by rw [e1]; exact beq_self_eq_true _
        by_cases e2 : x.2 = y.2
        · have q2 : (x.2.toList == y.2.toList) = true := by rw [e2]; exact beq_self_eq_true _
          have HX : Hid (l1.take (j + 1) = l2.take (j + 1)) := by show _ = _; rw [HT1.out, HT2.out, HSM.out, show x = y from Prod.ext e1 e2]
          clear e1 e2
          go_wp2_with fail
          go_quiet (fail)
          go_wp2
          go_roundw
          case rel => exact ⟨j + 1, by omega, by go_num, HX.out, below_drewN hB _⟩
          case measure => simp [intOf]; omega
        · have q2 : (x.2.toList == y.2.toList) = false := neq_lst e2
          have HF := Lib.hid (HN.out (fun c => e2 (by rw [c])))
          clear e1 e2
          go_wp2_with fail
          go_quiet (fail)
          go_wp2
          go_ret
          exact ⟨by rw [HF.out]; rfl, below_drewN hB _⟩
      · have q1 : (x.1.toList == y.1.toList) = false := neq_lst e1
        have HF := Lib.hid (HN.out (fun c => e1 (by rw [c])))
        clear e1
        go_wp2_with fail
        go_quiet (fail)
        go_wp2
        go_ret
        exact ⟨by rw [HF.out]; rfl, below_drewN hB _⟩
    · obtain rfl : j = l1.length := by omega
      have HT : Hid (decide (l1 = l2) = true) := decide_eq_true (by have := HSM.out; rw [List.take_length, HLEN.out, List.take_length] at this; exact this)
      go_wp2
      go_ret
      exact ⟨by rw [HT.out]; rfl, hB⟩

end Go.Proofs.Ytepefbfmjjnamaa

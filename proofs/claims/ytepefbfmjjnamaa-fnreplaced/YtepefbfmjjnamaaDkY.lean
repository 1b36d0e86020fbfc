/- The program: a file struck from a list, whole. -/
import Derived.Test.YtepefbfmjjnamaaDkV
namespace Go.Proofs.Ytepefbfmjjnamaa
open Go.RowKit Go.My Go.Lib
set_option linter.unusedVariables false

/-- The first m of E, the rest of l. -/
def shG {α : Type} (l E : List α) (m : Nat) : List α := E.take m ++ l.drop m
theorem shG_len {α : Type} {l E : List α} {m : Nat} (h : m ≤ E.length) (hl : m ≤ l.length) : (shG l E m).length = l.length := by unfold shG; rw [List.length_append, List.length_take, List.length_drop]; omega
theorem shG_at {α : Type} {l E : List α} {m q : Nat} (h : m ≤ E.length) (hq : m ≤ q) : (shG l E m)[q]? = l[q]? := by
  unfold shG
  rw [List.getElem?_append_right (by rw [List.length_take]; omega), List.length_take, List.getElem?_drop]
  congr 1
  omega
theorem shG_set {α : Type} {l E : List α} {m : Nat} {k : α} (h : m < E.length) (hl : E.length ≤ l.length) (hk : E[m]? = some k) : (shG l E m).set m k = shG l E (m + 1) := by
  have hm : (E.take m).length = m := by rw [List.length_take]; omega
  unfold shG
  rw [List.set_append_right _ _ (by omega), hm, Nat.sub_self]
  have e1 : l.drop m = l[m]'(by omega) :: l.drop (m + 1) := (List.getElem_cons_drop (by omega)).symm
  rw [e1, List.set_cons_zero]
  have e2 : E.take (m + 1) = E.take m ++ [k] := by
    rw [List.take_add_one, hk]
    rfl
  rw [e2, List.append_assoc]
  rfl
theorem shG_start {α : Type} {l E : List α} {j : Nat} (hE : l.eraseIdx j = E) (hj : j < l.length) : shG l E j = l := by
  unfold shG
  rw [← hE, List.eraseIdx_eq_take_drop_succ, List.take_append_of_le_length (by rw [List.length_take]; omega), List.take_take, Nat.min_self, List.take_append_drop]
theorem shG_end {α : Type} {l E : List α} {z : α} (h : E.length ≤ l.length) : ((shG l E E.length).set E.length z).take E.length = E := by
  rw [List.take_set_of_le (Nat.le_refl _)]
  unfold shG
  rw [List.take_append_of_le_length (by rw [List.length_take]; omega), List.take_take, Nat.min_self, List.take_length]

theorem sorted_ne {l : List FileT} (hs : Sorted l) {i j : Nat} (hi : i < l.length) (hj : j < l.length) (h : i ≠ j) : l[i].1 ≠ l[j].1 := by
  intro e
  by_cases c : i < j
  · have := hs i j hi hj c
    rw [e, blt_irr] at this
    cases this
  · have := hs j i hj hi (by omega)
    rw [e, blt_irr] at this
    cases this
theorem cut_none {l : List FileT} {n : ByteArray} (h : idxL l n = none) : cutL l n = l := by
  unfold idxL at h
  rw [List.findIdx?_eq_none_iff] at h
  exact List.filter_eq_self.2 (fun a ha => by have := h a ha; simpa using this)
theorem idx_name {l : List FileT} {n : ByteArray} {j : Nat} (h : idxL l n = some j) : ∃ hj : j < l.length, l[j].1 = n := by
  unfold idxL at h
  rw [List.findIdx?_eq_some_iff_getElem] at h
  obtain ⟨hj, hx, _⟩ := h
  exact ⟨hj, by simpa using hx⟩
theorem cut_some {l : List FileT} {n : ByteArray} {j : Nat} (hs : Sorted l) (h : idxL l n = some j) : cutL l n = l.eraseIdx j := by
  obtain ⟨hj, hx⟩ := idx_name h
  rw [List.eraseIdx_eq_take_drop_succ]
  have split : l = l.take j ++ l[j] :: l.drop (j + 1) := by rw [List.getElem_cons_drop hj, List.take_append_drop]
  unfold cutL
  conv => lhs; rw [split]
  rw [List.filter_append, List.filter_cons_of_neg (by simp [hx])]
  congr 1
  · refine List.filter_eq_self.2 (fun a ha => ?_)
    obtain ⟨q, hq, rfl⟩ := List.mem_iff_getElem.1 ha
    rw [List.length_take] at hq
    rw [List.getElem_take]
    have := sorted_ne hs (by omega : q < l.length) hj (by omega)
    rw [hx] at this
    exact decide_eq_true this
  · refine List.filter_eq_self.2 (fun a ha => ?_)
    obtain ⟨q, hq, rfl⟩ := List.mem_iff_getElem.1 ha
    rw [List.length_drop] at hq
    rw [List.getElem_drop]
    have := sorted_ne hs (by omega : j + 1 + q < l.length) hj (by omega)
    rw [hx] at this
    exact decide_eq_true this

theorem clrF (g o c : Nat) (x y : Value) (w : World) (c0 : w.cell? ⟨g, o, none⟩ = some x) (c1 : w.cell? ⟨g, o + 1, none⟩ = some y) (f0 : w.frozen? ⟨g, o, none⟩ = false) (f1 : w.frozen? ⟨g, o + 1, none⟩ = false) (ty : TypeId) :
    (Builtin.clear_ #[24] ty #[.slice (some ⟨g, o, none⟩) 1 c]).run Try.prog w = .ok (.tuple #[]) ((w.setCell ⟨g, o, none⟩ (.string ⟨#[]⟩)).setCell ⟨g, o + 1, none⟩ (.string ⟨#[]⟩)) := by
  have hz : (zeroValue 88).run Try.prog w = .ok (.agg #[.string ⟨#[]⟩, .string ⟨#[]⟩]) w := by simp [go_sem]
  have hzc : (Builtin.zeroCells #[Value.string ⟨#[]⟩, Value.string ⟨#[]⟩] 1).toList = [Value.string ⟨#[]⟩, Value.string ⟨#[]⟩] := by kernel_rfl
  simp [Builtin.clear_, run_underlying Try.underlying24, hz, hzc, storeCells, go_sem, c0, c1, f0, f1]

set_option maxRecDepth 20000 in
set_option maxHeartbeats 4000000 in
theorem deleteF_i (B : Nat) (v : Value) (l : List FileT) (kb : Nat) (n : ByteArray) (w : World) (h : FilesAt B v l w) (hl : l.length ≤ 1048576) (hk : NmAt kb n w) (hkv : v.ownBlock ≠ some kb) (hs : Sorted l) :
    Calls Try.prog 123 #[v, .func (.func 124) #[] #[.pointer (some ⟨kb, 0, none⟩)]] w fun e w' => ∃ v', e = .returned v' ∧ FilesAt B v' (cutL l n) w' ∧ w.grownBy w' v.ownBlock := by
  have HC := Lib.hid (indexF_i B v l kb n w h hl hk)
  obtain ⟨p, cap, rfl, hm, hcap, hp⟩ := h.open
  have H := Lib.hid h
  have HK := Lib.hid hk
  have hlI : (l.length : Int) ≤ 1048576 := by omega
  have hcm : cap ≤ maxLen := hm
  unfold maxLen at hcm
  clear h hm hk
  go_enter Try.func123, Try.ntmps123
  go_wp2_with fail
  refine HC.out.mono ?_
  rintro e w1 ⟨r, rfl, hr, hb1⟩
  rcases hr with ⟨rfl, hi⟩ | ⟨j, rfl, hi⟩
  · have HR : Hid (FilesAt B (.slice p l.length cap) (cutL l n) w1) := by show FilesAt _ _ _ _; rw [cut_none hi]; exact H.out.below hb1
    clear hi
    go_wp2
    go_ret
    exact ⟨_, rfl, HR.out, grw_of_below hb1 _⟩
  obtain ⟨hjl, hx⟩ := idx_name hi
  have hne : l ≠ [] := by intro c; rw [c] at hjl; simp at hjl
  obtain ⟨g, rfl, _, hg⟩ := hp.resolve_left (fun c => hne c.1)
  have hkg : kb ≠ g := fun c => hkv (by rw [c]; rfl)
  obtain ⟨E, hE⟩ : ∃ E, l.eraseIdx j = E := ⟨_, rfl⟩
  have HCUT : Hid (cutL l n = E) := by show _ = _; rw [cut_some hs hi, hE]
  have hEl : E.length = l.length - 1 := by rw [← hE, List.length_eraseIdx_of_lt hjl]
  have hEat : ∀ q, j ≤ q → E[q]? = l[q + 1]? := fun q hq => by rw [← hE, List.getElem?_eraseIdx_of_ge hq]
  have hnb : ∀ q (hq : q < l.length), j < q → l[q].1 ≠ n := fun q hq hjq => by rw [← hx]; exact sorted_ne hs hq hjl (by omega)
  have HE := Lib.hid hEat
  have HNB := Lib.hid hnb
  have HST := Lib.hid (shG_start hE hjl)
  have g0 : w.grownBy w1 (some g) := grw_of_below hb1 _
  have HO1 := Lib.hid (H.out.below hb1)
  have hw1 : IntKind.i64.wrap ((j : Int) + 1) = (j : Int) + 1 := IntWalk.i64_in _ (by omega)
  have hj1 : ¬ (j : Int) = -1 := by omega
  have hj2 : ((j : Int) == -1) = false := by simp <;> omega
  clear hEat hnb hE hi hx hs hp hkv hne
  go_wp2
  go_loopw [5, 6] (fun i q wr => ∃ m : Nat, j ≤ m ∧ m + 1 ≤ l.length ∧ i = .int .i64 m ∧ q = .int .i64 ((m : Int) + 1) ∧ FilesAt B (.slice (some ⟨g, 0, none⟩) l.length cap) (shG l E m) wr ∧ w.grownBy wr (some g)) (fun _ q _ => l.length - (intOf q).toNat)
  case atStart => exact ⟨j, Nat.le_refl _, by omega, rfl, by first | rfl | go_num, by rw [HST.out]; exact HO1.out, g0⟩
  case round =>
    obtain ⟨m, hm, hml, rfl, rfl, hOm, gm⟩ := hrel
    have HOM := Lib.hid hOm
    have HL := Lib.hid (shG_len (l := l) (E := E) (m := m) (by omega) (by omega))
    clear hOm
    have hxy : ∃ y, (shG l E m)[m]? = some y := ⟨l[m]'(by omega), by rw [shG_at (by omega) (Nat.le_refl _), List.getElem?_eq_getElem (by omega)]⟩
    obtain ⟨y, hy⟩ := hxy
    obtain ⟨hyl, hyx⟩ := List.getElem?_eq_some_iff.1 hy
    by_cases hlt : m + 1 < l.length
    case neg =>
      have HM : Hid (m + 1 = l.length) := by show _ = _; omega
      have HEM : Hid (E.length = m) := by show _ = _; omega
      have nlt : decide ((m : Int) + 1 < (l.length : Int)) = false := by simp; omega
      have c0 := HOM.out.at fileC_len hyl hyx 0 (by omega) (u := .string y.1) rfl
      have c1 := HOM.out.at fileC_len hyl hyx 1 (by omega) (u := .string y.2) rfl
      have f0 := HOM.out.frozen (m * 2)
      have f1 := HOM.out.frozen (m * 2 + 1)
      have HFIN : Hid (FilesAt B (.slice (some ⟨g, 0, none⟩) m cap) E ((wr.setCell ⟨g, m * 2, none⟩ (.string ⟨#[]⟩)).setCell ⟨g, m * 2 + 1, none⟩ (.string ⟨#[]⟩))) := by
        show FilesAt _ _ _ _
        have p0 := RowL.put HOM.out fileC_len hyl hyx 0 (by omega) (.string ⟨#[]⟩) (b := ((⟨#[]⟩, y.2) : FileT)) rfl
        have p1 := RowL.put p0 fileC_len (by rw [List.length_set]; exact hyl) (List.getElem_set_self ..) 1 (by omega) (.string ⟨#[]⟩) (b := ((⟨#[]⟩, ⟨#[]⟩) : FileT)) rfl
        rw [List.set_set] at p1
        have p2 := RowL.take fileC_len p1 m (by rw [List.length_set, HL.out]; omega)
        have e := shG_end (l := l) (E := E) (z := ((⟨#[]⟩, ⟨#[]⟩) : FileT)) (by omega)
        rw [HEM.out] at e
        rw [e] at p2
        exact p2
      have m1 : (m : Int) ≤ (l.length : Int) := by omega
      have m2 : (0 : Int) ≤ (m : Int) := by omega
      have m3 : l.length - m = 1 := by omega
      have m4 : (m : Int) ≤ (cap : Int) := by omega
      have m5 : m ≤ l.length := by omega
      have m6 : m ≤ cap := by omega
      have hcl := clrF g (m * 2) (cap - m) _ _ _ c0 c1 f0 f1 0
      clear hlt hml hy hyl hyx hEl
      go_wp2
      go_ret
      exact ⟨_, rfl, by rw [HCUT.out]; exact HFIN.out, grw_set (grw_set gm _ _) _ _⟩
    have hltI : (m : Int) + 1 < (l.length : Int) := by omega
    obtain ⟨k, hk⟩ : ∃ k, l[m + 1] = k := ⟨_, rfl⟩
    have hks : (shG l E m)[m + 1]? = some k := by rw [shG_at (by omega) (by omega), List.getElem?_eq_getElem hlt, hk]
    obtain ⟨hkl, hkx⟩ := List.getElem?_eq_some_iff.1 hks
    have HKN : Hid (decide (k.1 = n) = false) := by have := HNB.out (m + 1) hlt (by omega); rw [hk] at this; exact decide_eq_false this
    have c0 : wr.cell? ⟨g, (m + 1) * 2, none⟩ = some (.string k.1) := HOM.out.at fileC_len hkl hkx 0 (by omega) rfl
    have c1 : wr.cell? ⟨g, (m + 1) * 2 + 1, none⟩ = some (.string k.2) := HOM.out.at fileC_len hkl hkx 1 (by omega) rfl
    have n1 : ((m : Int) + 1).toNat = m + 1 := by omega
    have n2 : (0 : Int) ≤ (m : Int) + 1 := by omega
    have n3 : (m : Int) < (l.length : Int) := by omega
    have n4 : (0 : Int) ≤ (m : Int) := by omega
    have hw2 : IntKind.i64.wrap ((m : Int) + 1 + 1) = (m : Int) + 1 + 1 := IntWalk.i64_in _ (by omega)
    have hw3 : IntKind.i64.wrap ((m : Int) + 1) = (m : Int) + 1 := IntWalk.i64_in _ (by omega)
    have CL := Lib.hid (fun w' (hb : Below wr.heap.size wr w') => wc_i kb k.1 n k.2 w' ((HK.out.grown gm hkg).below hb))
    have HNEXT := Lib.hid (show ∀ w', FilesAt B (.slice (some ⟨g, 0, none⟩) l.length cap) (shG l E m) w' → (w'.cell? ⟨g, m * 2, none⟩ = some (.string y.1) ∧ w'.cell? ⟨g, m * 2 + 1, none⟩ = some (.string y.2)) ∧ FilesAt B (.slice (some ⟨g, 0, none⟩) l.length cap) (shG l E (m + 1)) ((w'.setCell ⟨g, m * 2, none⟩ (.string k.1)).setCell ⟨g, m * 2 + 1, none⟩ (.string k.2)) from fun w' h' => by
      refine ⟨⟨h'.at fileC_len hyl hyx 0 (by omega) rfl, h'.at fileC_len hyl hyx 1 (by omega) rfl⟩, ?_⟩
      have p0 := RowL.put h' fileC_len hyl hyx 0 (by omega) (.string k.1) (b := ((k.1, y.2) : FileT)) rfl
      have p1 := RowL.put p0 fileC_len (by rw [List.length_set]; exact hyl) (List.getElem_set_self ..) 1 (by omega) (.string k.2) (b := ((k.1, k.2) : FileT)) rfl
      rw [List.set_set] at p1
      rw [← shG_set (k := k) (by omega) (by omega) (by rw [HE.out m hm, List.getElem?_eq_getElem hlt, hk])]
      exact p1)
    have hb0 : Below wr.heap.size wr (wr.alloc (.cells #[.string k.1, .string k.2] 88)) := (boxes1 wr _ _ (Below.refl _ _)).1
    have v0 : (wr.alloc (.cells #[.string k.1, .string k.2] 88)).cell? ⟨wr.heap.size, 0, none⟩ = some (.string k.1) := by simp [go_sem]
    have v1 : (wr.alloc (.cells #[.string k.1, .string k.2] 88)).cell? ⟨wr.heap.size, 1, none⟩ = some (.string k.2) := by simp [go_sem]
    clear hks hkl hkx hk hy hyl hyx hEl
    go_wp2_with fail
    refine (CL.out _ hb0).mono ?_
    rintro e w2 ⟨rfl, hb2⟩
    rw [HKN.out]
    have hb3 : Below wr.heap.size wr w2 := hb0.trans (hb2.mono hb0.size)
    have HN2 := HNEXT.out _ (HOM.out.below hb3)
    have d0 := HN2.1.1
    have d1 := HN2.1.2
    have HN3 := Lib.hid HN2.2
    have f0 := (HOM.out.below hb3).frozen (m * 2)
    have f1 := (HOM.out.below hb3).frozen (m * 2 + 1)
    have hlt2 : wr.heap.size < (wr.alloc (.cells #[.string k.1, .string k.2] 88)).heap.size := by simp
    have u0 : w2.cell? ⟨wr.heap.size, 0, none⟩ = some (.string k.1) := by rw [hb2.cell (p := ⟨wr.heap.size, 0, none⟩) hlt2]; exact v0
    have u1 : w2.cell? ⟨wr.heap.size, 1, none⟩ = some (.string k.2) := by rw [hb2.cell (p := ⟨wr.heap.size, 1, none⟩) hlt2]; exact v1
    clear HN2 c0 c1 v0 v1
    go_wp2
    go_roundw
    case rel => exact ⟨m + 1, by omega, by omega, by go_num, by go_num, HN3.out, grw_set (grw_set (grw_below gm hb3) _ _) _ _⟩
    case measure => simp [intOf]; omega

end Go.Proofs.Ytepefbfmjjnamaa

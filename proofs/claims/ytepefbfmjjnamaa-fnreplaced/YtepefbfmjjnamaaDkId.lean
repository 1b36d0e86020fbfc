/- The program: a list with a file. -/
import Derived.Test.YtepefbfmjjnamaaDkIc
namespace Go.Proofs.Ytepefbfmjjnamaa
open Go.RowKit Go.My Go.Lib
set_option linter.unusedVariables false

theorem put_done (n d : ByteArray) : ∀ l : List FileT, putGo n d true l = cutL l n
  | [] => rfl
  | f :: l => by
    have ih := put_done n d l
    unfold putGo
    rw [Bool.true_or, ih]
    unfold cutL
    by_cases h : f.1 = n
    · rw [if_pos h, List.filter_cons_of_neg (by simp [h])]; simp
    · rw [if_neg h, List.filter_cons_of_pos (by simp [h])]; simp
theorem put_low (n d : ByteArray) : ∀ (l : List FileT) (i : Nat), LowAt l n i → putGo n d false l = l.take i ++ (n, d) :: cutL (l.drop i) n
  | [], i, h => by
    have : i = 0 := by have := h.le; simpa using this
    subst this
    rfl
  | f :: l, 0, h => by
    have hb : blt f.1 n = false := h.hi 0 (by simp) (Nat.le_refl _)
    unfold putGo
    rw [hb]
    simp only [Bool.not_false, Bool.and_self, Bool.or_true, if_true, List.take_zero, List.drop_zero, List.nil_append, List.cons_append]
    rw [put_done]
    congr 1
    unfold cutL
    by_cases e : f.1 = n
    · rw [if_pos e, List.filter_cons_of_neg (by simp [e])]; simp
    · rw [if_neg e, List.filter_cons_of_pos (by simp [e])]; simp
  | f :: l, i + 1, h => by
    have hb : blt f.1 n = true := h.lo 0 (by simp) (by omega)
    have hne : f.1 ≠ n := by intro e; rw [e, blt_irr] at hb; cases hb
    have hl : LowAt l n i := ⟨by have := h.le; simpa using this, fun q hq hqi => by have := h.lo (q + 1) (by simpa using hq) (by omega); simpa using this, fun q hq hqi => by have := h.hi (q + 1) (by simpa using hq) (by omega); simpa using this⟩
    have ih := put_low n d l i hl
    unfold putGo
    rw [hb, if_neg hne]
    simp only [Bool.not_true, Bool.and_false, Bool.or_false, Bool.false_eq_true, if_false, List.nil_append, List.take_succ_cons, List.drop_succ_cons, List.cons_append]
    rw [ih]
theorem put_none {l : List FileT} {n d : ByteArray} {i : Nat} (h : LowAt l n i) (hn : idxL l n = none) : putL l n d = insL l i (n, d) := by
  unfold putL insL
  rw [put_low n d l i h]
  congr 2
  unfold idxL at hn
  rw [List.findIdx?_eq_none_iff] at hn
  exact List.filter_eq_self.2 (fun a ha => by have := hn a (List.mem_of_mem_drop ha); simpa using this)
theorem put_some {l : List FileT} {n d : ByteArray} {i : Nat} (hs : Sorted l) (h : LowAt l n i) (hi : i < l.length) (hx : l[i].1 = n) : putL l n d = l.set i (n, d) := by
  unfold putL
  rw [put_low n d l i h, List.set_eq_take_append_cons_drop, if_pos hi]
  congr 2
  rw [List.drop_eq_getElem_cons hi]
  unfold cutL
  rw [List.filter_cons_of_neg (by simp [hx])]
  refine List.filter_eq_self.2 (fun a ha => ?_)
  obtain ⟨q, hq, rfl⟩ := List.mem_iff_getElem.1 ha
  rw [List.length_drop] at hq
  rw [List.getElem_drop]
  have := sorted_ne hs (by omega : i + 1 + q < l.length) hi (by omega)
  rw [hx] at this
  exact decide_eq_true this
theorem insL_at {α : Type} {l : List α} {i : Nat} {x : α} (h : i ≤ l.length) : (insL l i x)[i]'(by rw [insL_len l i x h]; omega) = x := by
  have e : (insL l i x)[i]? = some x := by
    unfold insL
    rw [List.getElem?_append_right (by rw [List.length_take]; omega), List.length_take, Nat.min_eq_left h, Nat.sub_self]
    rfl
  rw [List.getElem?_eq_getElem (by rw [insL_len l i x h]; omega)] at e
  exact Option.some.inj e
theorem insL_set {α : Type} {l : List α} {i : Nat} {x y : α} (h : i ≤ l.length) : (insL l i x).set i y = insL l i y := by
  unfold insL
  rw [List.set_append_right _ _ (by rw [List.length_take]; omega), List.length_take, Nat.min_eq_left h, Nat.sub_self]
  rfl

set_option maxRecDepth 20000 in
set_option maxHeartbeats 2000000 in
theorem with_i (v : Value) (l : List FileT) (n d : ByteArray) (w : World) (h : FilesAt 0 v l w) (hl : l.length ≤ 1048576) (hs : Sorted l) :
    Calls Try.prog 116 #[v, .string n, .string d] w fun e w' => ∃ v', e = .returned v' ∧ FilesAt w.heap.size v' (putL l n d) w' ∧ Below w.heap.size w w' := by
  have HC := Lib.hid (copyF_i v l w h hl)
  have HA := Lib.hid (fun w' (hb : Below w.heap.size w w') => at_i v l n w' (h.below hb) hl hs)
  have HS := Lib.hid hs
  have hlI : (l.length : Int) ≤ 1048576 := by omega
  obtain ⟨p, cap, rfl, _⟩ := h.open
  clear h hs
  go_enter Try.func116, Try.ntmps116
  go_wp2_with fail
  refine HC.out.mono ?_
  rintro e w2 ⟨v2, rfl, h2, hb2⟩
  have H2 := Lib.hid h2
  obtain ⟨p2, cap2, rfl, hm2, hc2, hp2⟩ := h2.open
  have HB2 := Lib.hid hb2
  clear h2 hm2
  go_wp2_with fail
  refine (HA.out w2 hb2).mono ?_
  rintro e w3 ⟨i, hL, rfl, hb3⟩
  have HB3 : Hid (Below w.heap.size w w3) := HB2.out.trans (hb3.mono HB2.out.size)
  have H3 := Lib.hid (H2.out.below hb3)
  have HL := Lib.hid hL
  have HX := Lib.hid (low_idx hL HS.out)
  have hil := hL.le
  clear hL hb2
  have i0 : (0 : Int) ≤ (i : Int) := by omega
  cases hb : decide ((l[i]?).map (·.1) = some n) with
  | true =>
    obtain ⟨hj, hx⟩ := idx_name (HX.out.1 hb)
    have hne : l ≠ [] := by intro c; rw [c] at hj; simp at hj
    obtain ⟨g, rfl, hgB, hg⟩ := hp2.resolve_left (fun c => hne c.1)
    have i1 : (i : Int) < (l.length : Int) := by omega
    obtain ⟨y, hy⟩ : ∃ y, l[i] = y := ⟨_, rfl⟩
    have c1 : w3.cell? ⟨g, i * 2 + 1, none⟩ = some (.string y.2) := H3.out.at fileC_len hj hy 1 (by omega) rfl
    have f1 : w3.frozen? ⟨g, i * 2 + 1, none⟩ = false := H3.out.frozen _
    have HR : Hid (FilesAt w.heap.size (.slice (some ⟨g, 0, none⟩) l.length cap2) (putL l n d) (w3.setCell ⟨g, i * 2 + 1, none⟩ (.string d))) := by
      show FilesAt _ _ _ _
      rw [put_some HS.out HL.out hj hx]
      rw [hy] at hx
      have := RowL.put H3.out fileC_len hj hy 1 (by omega) (.string d) (b := ((n, d) : FileT)) (by rw [← hx]; rfl)
      exact this
    have HBZ : Hid (Below w.heap.size w (w3.setCell ⟨g, i * 2 + 1, none⟩ (.string d))) := below_grw (r := some g) HB3.out (grw_set (grw_refl _ _) _ _) HB3.out.size (fun q hq => by cases hq; exact hgB)
    clear hb hx hy hne hp2 hg
    go_wp2
    go_ret
    exact ⟨_, rfl, HR.out, HBZ.out⟩
  | false =>
    have HN := Lib.hid (HX.out.2 hb)
    clear hb
    have HS3 : Hid (w.heap.size ≤ w3.heap.size) := HB3.out.size
    have hne : (Value.slice p2 l.length cap2).ownBlock ≠ some w3.heap.size := by
      intro c
      have := (World.ownsRow.lt H3.out _ c).2
      omega
    have HI := Lib.hid (insertF_i w.heap.size (.slice p2 l.length cap2) l i (n, ⟨#[]⟩) w3.heap.size (w3.alloc (.cells #[.string n, .string ⟨#[]⟩] 88)) (H3.out.below (boxes1 w3 _ _ (Below.refl _ _)).1) (by have := HS3.out; simp; omega) hne (heap_alloc_new w3 _) hil hl)
    clear hne hp2
    go_wp2_with fail
    refine HI.out.mono ?_
    rintro e w4 ⟨v4, rfl, h4, hg4⟩
    have HB4 : Hid (Below w.heap.size w w4) := by
      have b0 := HB3.out.alloc HB3.out.size (.cells #[Value.string n, Value.string ⟨#[]⟩] 88)
      exact below_grw b0 hg4 b0.size (fun q hq => (World.ownsRow.lt (H3.out.below ((Below.refl w3.heap.size w3).alloc (Nat.le_refl _) (.cells #[Value.string n, Value.string ⟨#[]⟩] 88))) q hq).1)
    have hlen := insL_len l i ((n, ⟨#[]⟩) : FileT) hil
    have hj : i < (insL l i ((n, ⟨#[]⟩) : FileT)).length := by rw [hlen]; omega
    obtain ⟨p4, cap4, rfl, hm4, hc4, hp4⟩ := h4.open
    have hne4 : insL l i ((n, ⟨#[]⟩) : FileT) ≠ [] := by intro c; rw [c] at hj; simp at hj
    obtain ⟨g, rfl, hgB, hg⟩ := hp4.resolve_left (fun c => hne4 c.1)
    have c1 : w4.cell? ⟨g, i * 2 + 1, none⟩ = some (.string ⟨#[]⟩) := h4.at fileC_len hj (insL_at hil) 1 (by omega) rfl
    have f1 : w4.frozen? ⟨g, i * 2 + 1, none⟩ = false := h4.frozen _
    have HR : Hid (FilesAt w.heap.size (.slice (some ⟨g, 0, none⟩) (l.length + 1) cap4) (putL l n d) (w4.setCell ⟨g, i * 2 + 1, none⟩ (.string d))) := by
      show FilesAt _ _ _ _
      have := RowL.put h4 fileC_len hj (insL_at hil) 1 (by omega) (.string d) (b := ((n, d) : FileT)) rfl
      rw [insL_set hil, hlen] at this
      rw [put_none HL.out HN.out]
      exact this
    have HBZ : Hid (Below w.heap.size w (w4.setCell ⟨g, i * 2 + 1, none⟩ (.string d))) := below_grw (r := some g) HB4.out (grw_set (grw_refl _ _) _ _) HB4.out.size (fun q hq => by cases hq; exact hgB)
    rw [hlen]
    have i1 : (i : Int) < (l.length : Int) + 1 := by omega
    clear h4 hg4 hlen hj hne4 hp4 hm4 hc4
    go_wp2
    go_ret
    exact ⟨_, rfl, HR.out, HBZ.out⟩

end Go.Proofs.Ytepefbfmjjnamaa

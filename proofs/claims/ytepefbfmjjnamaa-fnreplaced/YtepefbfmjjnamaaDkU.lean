/- The specification's check of an operation; an operation on files. -/
import Derived.Test.YtepefbfmjjnamaaDkT
import Derived.Test.YtepefbfmjjnamaaFrG
namespace Go.Proofs.Ytepefbfmjjnamaa
open Go.RowKit Go.My Go.Lib
set_option linter.unusedVariables false

theorem empty_yes {d : ByteArray} (h : d = ByteArray.mk #[]) : d.toList.isEmpty = true := by subst h; rw [ByteArray.toList_eq]; rfl
theorem empty_no {d : ByteArray} (h : ¬ d = ByteArray.mk #[]) : d.toList.isEmpty = false := by
  rw [ByteArray.toList_eq]
  cases hd : d.data.toList with
  | nil => exact absurd (ba_ext (by rw [hd])) h
  | cons a l => rfl

set_option maxRecDepth 20000 in
set_option maxHeartbeats 1000000 in
theorem form_s (k : Int) (n t d : ByteArray) (w : World) (hk : (Lit.int .i64 k).wf = true) (hn : n.size ≤ 9223372036854775807) (ht : t.size ≤ 9223372036854775807) :
    Calls Try.prog 57 #[.agg #[.int .i64 k, .string n, .string t, .string d]] w fun e w' => e = .returned (.bool (opB (k, n, t, d))) ∧ Below w.heap.size w w' := by
  have HO : Hid (opB (k, n, t, d) = (((decide (1 ≤ k) && decide (k ≤ 3)) && nameB n) && (if k = 2 then nameB t && decide (d = ByteArray.mk #[]) else decide (t = ByteArray.mk #[]) && (decide (k = 1) || decide (d = ByteArray.mk #[]))))) := rfl
  have hb0 : Below w.heap.size w (w.alloc (.cells #[.int .i64 k, .string n, .string t, .string d] 36)) := (boxes1 w _ _ (Below.refl _ _)).1
  have NN := Lib.hid (fun w => name_s n w hn)
  have NT := Lib.hid (fun w => name_s t w ht)
  clear hn ht hk
  obtain ⟨a, ha⟩ : ∃ a, (decide (1 ≤ k) && decide (k ≤ 3)) = a := ⟨_, rfl⟩
  obtain ⟨b, hb⟩ : ∃ b, nameB n = b := ⟨_, rfl⟩
  have HI := Lib.hid (fun w => in_any k 1 3 w)
  rw [ha] at HO HI
  rw [hb] at HO NN
  clear ha hb
  cases a with
  | false =>
    have HR : Hid (opB (k, n, t, d) = false) := HO.out
    go_enter Try.func57, Try.ntmps57
    go_wp2_with (go_at_call 92; refine (HI.out _).mono ?_; rintro e w' ⟨rfl, rfl⟩)
    go_ret
    exact ⟨by rw [HR.out]; rfl, hb0⟩
  | true =>
    cases b with
    | false =>
      have HR : Hid (opB (k, n, t, d) = false) := HO.out
      go_enter Try.func57, Try.ntmps57
      go_wp2_with (first | (go_at_call 92; refine (HI.out _).mono ?_; rintro e w' ⟨rfl, rfl⟩) | (go_at_call 97; refine (NN.out _).mono ?_; rintro e w' ⟨rfl, rfl⟩))
      go_ret
      exact ⟨by rw [HR.out]; rfl, hb0⟩
    | true =>
      by_cases hk2 : k = 2
      · subst hk2
        obtain ⟨c, hc⟩ : ∃ c, nameB t = c := ⟨_, rfl⟩
        rw [hc] at HO NT
        clear hc
        cases c with
        | false =>
          have HR : Hid (opB (2, n, t, d) = false) := HO.out
          go_enter Try.func57, Try.ntmps57
          go_wp2_with (first | (go_at_call 92; refine (HI.out _).mono ?_; rintro e w' ⟨rfl, rfl⟩) | (go_at_call_of 97 n; refine (NN.out _).mono ?_; rintro e w' ⟨rfl, rfl⟩) | (go_at_call_of 97 t; refine (NT.out _).mono ?_; rintro e w' ⟨rfl, rfl⟩))
          go_ret
          exact ⟨by rw [HR.out]; rfl, hb0⟩
        | true =>
          by_cases hd : d = ByteArray.mk #[]
          · have he := empty_yes hd
            have HR : Hid (opB (2, n, t, d) = true) := by show _ = _; rw [HO.out, decide_eq_true hd]; rfl
            clear hd
            go_enter Try.func57, Try.ntmps57
            go_wp2_with (first | (go_at_call 92; refine (HI.out _).mono ?_; rintro e w' ⟨rfl, rfl⟩) | (go_at_call_of 97 n; refine (NN.out _).mono ?_; rintro e w' ⟨rfl, rfl⟩) | (go_at_call_of 97 t; refine (NT.out _).mono ?_; rintro e w' ⟨rfl, rfl⟩))
            go_ret
            exact ⟨by rw [HR.out]; rfl, hb0⟩
          · have he := empty_no hd
            have HR : Hid (opB (2, n, t, d) = false) := by show _ = _; rw [HO.out, decide_eq_false hd]; rfl
            clear hd
            go_enter Try.func57, Try.ntmps57
            go_wp2_with (first | (go_at_call 92; refine (HI.out _).mono ?_; rintro e w' ⟨rfl, rfl⟩) | (go_at_call_of 97 n; refine (NN.out _).mono ?_; rintro e w' ⟨rfl, rfl⟩) | (go_at_call_of 97 t; refine (NT.out _).mono ?_; rintro e w' ⟨rfl, rfl⟩))
            go_ret
            exact ⟨by rw [HR.out]; rfl, hb0⟩
      · have hk2' : (k == 2) = false := by simpa using hk2
        rw [if_neg hk2] at HO
        clear hk2
        by_cases hte : t = ByteArray.mk #[]
        case neg =>
          have he := empty_no hte
          have HR : Hid (opB (k, n, t, d) = false) := by show _ = _; rw [HO.out, decide_eq_false hte]; rfl
          clear hte
          go_enter Try.func57, Try.ntmps57
          go_wp2_with (first | (go_at_call 92; refine (HI.out _).mono ?_; rintro e w' ⟨rfl, rfl⟩) | (go_at_call_of 97 n; refine (NN.out _).mono ?_; rintro e w' ⟨rfl, rfl⟩))
          go_ret
          exact ⟨by rw [HR.out]; rfl, hb0⟩
        have he := empty_yes hte
        rw [decide_eq_true hte] at HO
        clear hte
        by_cases hk1 : k = 1
        · subst hk1
          have HR : Hid (opB (1, n, t, d) = true) := by show _ = _; rw [HO.out]; rfl
          go_enter Try.func57, Try.ntmps57
          go_wp2_with (first | (go_at_call 92; refine (HI.out _).mono ?_; rintro e w' ⟨rfl, rfl⟩) | (go_at_call_of 97 n; refine (NN.out _).mono ?_; rintro e w' ⟨rfl, rfl⟩))
          go_ret
          exact ⟨by rw [HR.out]; rfl, hb0⟩
        have hk1' : (k == 1) = false := by simpa using hk1
        rw [decide_eq_false hk1] at HO
        clear hk1
        by_cases hd : d = ByteArray.mk #[]
        · have he2 := empty_yes hd
          have HR : Hid (opB (k, n, t, d) = true) := by show _ = _; rw [HO.out, decide_eq_true hd]; rfl
          clear hd
          go_enter Try.func57, Try.ntmps57
          go_wp2_with (first | (go_at_call 92; refine (HI.out _).mono ?_; rintro e w' ⟨rfl, rfl⟩) | (go_at_call_of 97 n; refine (NN.out _).mono ?_; rintro e w' ⟨rfl, rfl⟩))
          go_ret
          exact ⟨by rw [HR.out]; rfl, hb0⟩
        · have he2 := empty_no hd
          have HR : Hid (opB (k, n, t, d) = false) := by show _ = _; rw [HO.out, decide_eq_false hd]; rfl
          clear hd
          go_enter Try.func57, Try.ntmps57
          go_wp2_with (first | (go_at_call 92; refine (HI.out _).mono ?_; rintro e w' ⟨rfl, rfl⟩) | (go_at_call_of 97 n; refine (NN.out _).mono ?_; rintro e w' ⟨rfl, rfl⟩))
          go_ret
          exact ⟨by rw [HR.out]; rfl, hb0⟩

theorem idx_lt {l : List FileT} {n : ByteArray} {j : Nat} (h : idxL l n = some j) : j < l.length := (List.findIdx?_eq_some_iff_getElem.1 h).1
theorem dataOf_some {l : List FileT} {n : ByteArray} {j : Nat} (h : idxL l n = some j) : dataOf l n = (l[j]'(idx_lt h)).2 := by
  unfold dataOf
  rw [h]
  simp only []
  rw [List.getD_eq_getElem?_getD, List.getElem?_eq_getElem (idx_lt h)]
  rfl
theorem dataOf_none {l : List FileT} {n : ByteArray} (h : idxL l n = none) : dataOf l n = ByteArray.mk #[] := by unfold dataOf; rw [h]

theorem rowl_none {α : Type} {B e c n cap : Nat} {f : α → List Value} {l : List α} {w : World} (h : RowL B e c f (.slice none n cap) l w) : cap = 0 := by
  rcases h.2 with ⟨hv, _⟩ | ⟨_, _, _, hv, _⟩
  · simp at hv; exact hv.2
  · simp at hv
theorem flat_one (l : List FileT) : ∀ u ∈ l.flatMap fileC, u.oneCell' = true := by
  intro u hu
  obtain ⟨a, _, ha⟩ := List.mem_flatMap.1 hu
  simp only [fileC, List.mem_cons, List.not_mem_nil, or_false] at ha
  rcases ha with rfl | rfl <;> rfl

set_option maxRecDepth 20000 in
set_option maxHeartbeats 1000000 in
theorem do_s2 (v : Value) (l : List FileT) (k : Int) (n t d : ByteArray) (w : World) (h : FilesAt 0 v l w) (hl : l.length ≤ 1048576) (hd : d.size ≤ 1099511627776) (hD : ∀ a ∈ l, a.2.size ≤ 1099511627776) :
    Calls Try.prog 56 #[v, .agg #[.int .i64 k, .string n, .string t, .string d]] w fun e w' => ∃ (v' : Value) (l' : List FileT) (b : Bool), e = .returned (.tuple #[v', .bool b]) ∧ FilesAt w.heap.size v' l' w' ∧ opDo l (k, n, t, d) = (if b then some l' else none) ∧ Below w.heap.size w w' ∧ (b = false → l' = l) := by
  have hb0 : Below w.heap.size w (w.alloc (.cells #[.int .i64 k, .string n, .string t, .string d] 36)) := (boxes1 w _ _ (Below.refl _ _)).1
  have H := Lib.hid h
  have HO : Hid (opDo l (k, n, t, d) = (if k = 1 then some (putL l n (dataOf l n ++ d)) else if (idxL l n).isNone then none else if k = 2 then some (putL (cutL l n) t (dataOf l n)) else some (cutL l n))) := rfl
  have CA := Lib.hid (fun W (hW : Below w.heap.size w W) => at_s v l n W (h.below hW) hl)
  have CP := Lib.hid (fun W x (hW : Below w.heap.size w W) => put_s v l n x W (h.below hW) hl)
  have CC := Lib.hid (fun W (hW : Below w.heap.size w W) => cut_s v l n W (h.below hW) hl)
  obtain ⟨p, cap, rfl, hm, _, hp⟩ := h.open
  have hlI : (l.length : Int) ≤ 1048576 := by omega
  have HD := Lib.hid (And.intro hd hD)
  clear h hm hd hD
  go_enter Try.func56, Try.ntmps56
  go_wp2_with fail
  refine (CA.out _ (by exact hb0)).mono ?_
  rintro e w2 ⟨rfl, hb2⟩
  obtain ⟨hB2, bx2⟩ := boxes1 w _ _ hb2
  have b0 : w2.cell? ⟨w.heap.size, 0, none⟩ = some (.int .i64 k) := cell_of_row w2 _ 0 _ _ (0, 0) bx2
  have b1 : w2.cell? ⟨w.heap.size, 1, none⟩ = some (.string n) := cell_of_row w2 _ 1 _ _ (0, 0) bx2
  have b2 : w2.cell? ⟨w.heap.size, 2, none⟩ = some (.string t) := cell_of_row w2 _ 2 _ _ (0, 0) bx2
  have b3 : w2.cell? ⟨w.heap.size, 3, none⟩ = some (.string d) := cell_of_row w2 _ 3 _ _ (0, 0) bx2
  clear hb2 hb0 CA
  by_cases hk1 : k = 1
  · subst hk1
    rw [if_pos rfl] at HO
    cases hi : idxL l n with
    | none =>
      have hv := idxV_none hi
      rw [dataOf_none hi, ba_nil] at HO
      clear hi
      go_wp2_with fail
      refine (CP.out _ _ (by exact hB2)).mono ?_
      rintro e w3 ⟨u, rfl, hr, hb3⟩
      have hB3 := hB2.trans (hb3.mono hB2.size)
      have hr3 := hr.mono hB2.size
      clear hb3 hr hB2 b0 b1 b2 b3 bx2
      go_wp2
      go_ret2
      exact ⟨u, _, true, rfl, hr3, HO.out, hB3, fun c => by cases c⟩
    | some j =>
      have hv := idxV_some hi
      have hj := idx_lt hi
      obtain ⟨x, hx⟩ : ∃ x, l[j] = x := ⟨_, rfl⟩
      have hdo := dataOf_some hi
      rw [hx] at hdo
      rw [hdo] at HO
      have hne : l ≠ [] := by intro c; rw [c] at hj; simp at hj
      obtain ⟨g, rfl, _, hg⟩ := hp.resolve_left (fun c => hne c.1)
      have j0 : (0 : Int) ≤ (j : Int) := by omega
      have j1 : (j : Int) < (l.length : Int) := by omega
      have c1 : w2.cell? ⟨g, j * 2 + 1, none⟩ = some (.string x.2) := (H.out.below hB2).at fileC_len hj hx 1 (by omega) rfl
      have hcs : ¬ 9223372036854775807 < x.2.size + d.size := by have := HD.out.1; have := HD.out.2 x (by rw [← hx]; exact List.getElem_mem hj); omega
      clear hi hdo hx hne hp hg
      rw [hv]
      go_wp2_with fail
      refine (CP.out _ _ (by exact hB2)).mono ?_
      rintro e w3 ⟨u, rfl, hr, hb3⟩
      have hB3 := hB2.trans (hb3.mono hB2.size)
      have hr3 := hr.mono hB2.size
      clear hb3 hr hB2 b0 b1 b2 b3 bx2 c1
      go_wp2
      go_ret2
      exact ⟨u, _, true, rfl, hr3, HO.out, hB3, fun c => by cases c⟩
  have hk1' : (k == 1) = false := by simpa using hk1
  rw [if_neg hk1] at HO
  clear hk1
  cases hi : idxL l n with
  | none =>
    have hv := idxV_none hi
    rw [hi] at HO
    have HR : Hid (opDo l (k, n, t, d) = none) := HO.out
    clear hi CP CC
    rw [hv]
    rcases hp with ⟨hL, rfl⟩ | ⟨g, rfl, _, hg⟩
    · subst hL
      obtain rfl := rowl_none H.out
      go_wp2
      go_ret2
      exact ⟨_, [], false, rfl, World.ownsRow_lit w2 #[] 0 hB2.size (by unfold maxLen; omega) rfl, HR.out, hB2.alloc hB2.size _, fun _ => rfl⟩
    · by_cases hL : l = []
      · subst hL
        go_wp2
        go_ret2
        exact ⟨_, [], false, rfl, World.ownsRow_lit w2 #[] 0 hB2.size (by unfold maxLen; omega) rfl, HR.out, hB2.alloc hB2.size _, fun _ => rfl⟩
      have hl0 : 0 < l.length := List.length_pos_iff.2 hL
      obtain ⟨i0, hi, hz0, hz1, hz2⟩ := info_parts info_File
      have hA2 := H.out.below hB2
      have hnews := World.ownsRow.cells (World.ownsRow.alloc hA2 (.cells #[] 88)) (g := g) rfl
      have hlit : (w2.alloc (.cells #[] 88)).ownsRow w.heap.size 88 2 (.slice (some ⟨w2.heap.size, 0, none⟩) 0 0) ([] : List FileT).length (([] : List FileT).flatMap fileC) := World.ownsRow_lit w2 #[] 0 hB2.size (by unfold maxLen; omega) rfl
      have hB2' : Below w.heap.size w (w2.alloc (.cells #[] 88)) := hB2.alloc hB2.size _
      clear hA2 hL
      go_wp2_with (at_builtin; refine wpList_append_lies _ rfl _ _ 24 rfl w.heap.size 88 i0 (.agg #[.string ByteArray.empty, .string ByteArray.empty]) 2 32 Try.underlying24 hi hz0 hz1 hz2 rfl (by decide) (.slice (some ⟨w2.heap.size, 0, none⟩) 0 0) 0 _ rfl hlit ⟨g, 0, none⟩ l.length cap (l.flatMap fileC) rfl (by rw [flat_len fileC_len]) hnews (flat_one l) (by omega) (by unfold maxLen; omega) (by omega) (by have := hB2'.size; simpa using this) (w2.heap.size + 1) (by simp) ?_; intro g3 cap3 w3 hown3 hgrow3 hat3 hlt3)
      have hB3 : Below w.heap.size w w3 := hB2'.grown hgrow3 hB2'.size (fun q hq => by cases hq; exact hB2.size)
      have hr3 : FilesAt w.heap.size (.slice (some ⟨g3, 0, none⟩) l.length cap3) l w3 := by
        have := hown3
        rw [Nat.zero_add] at this
        exact this
      clear hown3 hgrow3 hat3
      go_ret2
      exact ⟨_, l, false, rfl, hr3, HR.out, hB3, fun _ => rfl⟩
  | some j =>
    have hv := idxV_some hi
    have hj := idx_lt hi
    obtain ⟨x, hx⟩ : ∃ x, l[j] = x := ⟨_, rfl⟩
    have hdo := dataOf_some hi
    rw [hx] at hdo
    rw [hdo, hi] at HO
    have hne : l ≠ [] := by intro c; rw [c] at hj; simp at hj
    obtain ⟨g, rfl, _, hg⟩ := hp.resolve_left (fun c => hne c.1)
    have j0 : (0 : Int) ≤ (j : Int) := by omega
    have j1 : (j : Int) < (l.length : Int) := by omega
    clear hi hdo hne hp hg
    rw [hv]
    go_wp2_with fail
    refine (CC.out _ (by exact hB2)).mono ?_
    rintro e w3 ⟨u, rfl, hr, hb3⟩
    have hB3 := hB2.trans (hb3.mono hB2.size)
    have hr3 := hr.mono hB2.size
    have bx3 := (hb3.block _ (Array.getElem?_eq_some_iff.1 bx2).1).trans bx2
    clear b0 b1 b2 b3
    have b0 : w3.cell? ⟨w.heap.size, 0, none⟩ = some (.int .i64 k) := cell_of_row w3 _ 0 _ _ (0, 0) bx3
    have b2 : w3.cell? ⟨w.heap.size, 2, none⟩ = some (.string t) := cell_of_row w3 _ 2 _ _ (0, 0) bx3
    have c1 : w3.cell? ⟨g, j * 2 + 1, none⟩ = some (.string x.2) := (H.out.below hB3).at fileC_len hj hx 1 (by omega) rfl
    clear hb3 hr hB2 bx2 bx3 hx
    by_cases hk2 : k = 2
    · subst hk2
      have HR : Hid (opDo l (2, n, t, d) = some (putL (cutL l n) t x.2)) := HO.out
      have hcl : (cutL l n).length ≤ 1048576 := Nat.le_trans (List.length_filter_le _ _) hl
      have CP2 := Lib.hid (fun W (hW : Below w3.heap.size w3 W) => put_s u (cutL l n) t x.2 W ((hr3.below hW).mono (Nat.zero_le _)) hcl)
      go_wp2_with fail
      go_region_held3 (fun w' => w'.cell? ⟨w.heap.size, 2, none⟩ = some (.string t) ∧ w'.cell? ⟨g, j * 2 + 1, none⟩ = some (.string x.2)) (exact ⟨b2, c1⟩) ((go_at_call 98; refine (CP2.out _ (by exact (Below.refl _ _).drew)).mono ?_; rintro e w4 ⟨u2, rfl, hr4, hb4⟩; have hB4 := below_nx hb4 (by first | exact hB3 | exact hB3.drew) (by exact hB3.size); have hr5 := hr4.mono (show w.heap.size ≤ _ from by exact hB3.size); have b2 := (hb4.cell (p := ⟨w.heap.size, 2, none⟩) (World.block_lt_of_cell? _ _ b2)).trans b2; have c1 := (hb4.cell (p := ⟨g, j * 2 + 1, none⟩) (World.block_lt_of_cell? _ _ c1)).trans c1))
      all_goals
        go_wp2
        go_ret2
        exact ⟨u2, _, true, rfl, hr5, HR.out, hB4, fun c => by cases c⟩
    · have hk2' : (k == 2) = false := by simpa using hk2
      rw [if_neg hk2] at HO
      have HR : Hid (opDo l (k, n, t, d) = some (cutL l n)) := HO.out
      clear hk2
      go_wp2
      go_ret2
      exact ⟨u, _, true, rfl, hr3, HR.out, hB3, fun c => by cases c⟩

theorem do_s (v : Value) (l : List FileT) (k : Int) (n t d : ByteArray) (w : World) (h : FilesAt 0 v l w) (hl : l.length ≤ 1048576) (hd : d.size ≤ 1099511627776) (hD : ∀ a ∈ l, a.2.size ≤ 1099511627776) :
    Calls Try.prog 56 #[v, .agg #[.int .i64 k, .string n, .string t, .string d]] w fun e w' => ∃ (v' : Value) (l' : List FileT) (b : Bool), e = .returned (.tuple #[v', .bool b]) ∧ FilesAt w.heap.size v' l' w' ∧ opDo l (k, n, t, d) = (if b then some l' else none) ∧ Below w.heap.size w w' := by
  refine (do_s2 v l k n t d w h hl hd hD).mono ?_
  rintro e w' ⟨v', l', b, h1, h2, h3, h4, _⟩
  exact ⟨v', l', b, h1, h2, h3, h4⟩

end Go.Proofs.Ytepefbfmjjnamaa

/- The program's check of files; copies of lists. -/
import Derived.Test.YtepefbfmjjnamaaDkJ
namespace Go.Proofs.Ytepefbfmjjnamaa
open Go.RowKit Go.My Go.Lib
set_option linter.unusedVariables false

theorem flat_oneG {α : Type} {f : α → List Value} (hf : ∀ a u, u ∈ f a → u.oneCell' = true) (l : List α) : ∀ u ∈ l.flatMap f, u.oneCell' = true := by
  intro u hu
  obtain ⟨a, _, ha⟩ := List.mem_flatMap.1 hu
  exact hf a u ha

set_option maxRecDepth 20000 in
set_option maxHeartbeats 1000000 in
theorem copyF_i (v : Value) (l : List FileT) (w : World) (h : FilesAt 0 v l w) (hl : l.length ≤ 1048576) :
    Calls Try.prog 103 #[v] w fun e w' => ∃ v', e = .returned v' ∧ FilesAt w.heap.size v' l w' ∧ Below w.heap.size w w' := by
  obtain ⟨i0, hi, hz0, hz1, hz2⟩ := info_parts info_File
  obtain ⟨p, cap, rfl, hm, _, hp⟩ := h.open
  have H := Lib.hid h
  have hlI : (l.length : Int) ≤ 1048576 := by omega
  clear h hm
  rcases hp with ⟨hL, rfl⟩ | ⟨g, rfl, _, hg⟩
  · subst hL
    obtain rfl := rowl_none H.out
    go_enter Try.func103, Try.ntmps103
    go_wp2
    go_ret
    exact ⟨_, rfl, RowL.nil _ _ _ _ _, Below.refl _ _⟩
  · by_cases hL : l = []
    · subst hL
      go_enter Try.func103, Try.ntmps103
      go_wp2
      go_ret
      exact ⟨_, rfl, RowL.nil _ _ _ _ _, Below.refl _ _⟩
    have hl0 : 0 < l.length := List.length_pos_iff.2 hL
    have hnews := World.ownsRow.cells H.out (g := g) rfl
    have hlit := RowL.nil w.heap.size 88 2 fileC w
    clear hL
    go_enter Try.func103, Try.ntmps103
    go_wp2_with (at_builtin; refine wpList_append_lies _ rfl _ _ 24 rfl w.heap.size 88 i0 (.agg #[.string ByteArray.empty, .string ByteArray.empty]) 2 32 Try.underlying24 hi hz0 hz1 hz2 rfl (by decide) (.slice none 0 0) 0 _ rfl hlit ⟨g, 0, none⟩ l.length cap (l.flatMap fileC) rfl (by rw [flat_len fileC_len]) hnews (flat_one l) (by omega) (by unfold maxLen; omega) (by omega) (Nat.le_refl _) w.heap.size rfl ?_; intro g3 cap3 w3 hown3 hgrow3 hat3 hlt3)
    have hB3 : Below w.heap.size w w3 := (Below.refl _ _).grown hgrow3 (Nat.le_refl _) (fun q hq => by cases hq)
    have hr3 : FilesAt w.heap.size (.slice (some ⟨g3, 0, none⟩) l.length cap3) l w3 := by
      have := hown3
      rw [Nat.zero_add] at this
      exact this
    clear hown3 hgrow3 hat3
    go_ret
    exact ⟨_, rfl, hr3, hB3⟩

set_option maxRecDepth 20000 in
set_option maxHeartbeats 1000000 in
theorem copyO_i (v : Value) (l : List DOpT) (w : World) (h : OpsAt 0 v l w) (hl : l.length ≤ 1048576) :
    Calls Try.prog 104 #[v] w fun e w' => ∃ v', e = .returned v' ∧ OpsAt w.heap.size v' l w' ∧ Below w.heap.size w w' := by
  obtain ⟨i0, hi, hz0, hz1, hz2⟩ := info_parts info_DOp
  obtain ⟨p, cap, rfl, hm, _, hp⟩ := h.open
  have H := Lib.hid h
  have hlI : (l.length : Int) ≤ 1048576 := by omega
  clear h hm
  rcases hp with ⟨hL, rfl⟩ | ⟨g, rfl, _, hg⟩
  · subst hL
    obtain rfl := rowl_none H.out
    go_enter Try.func104, Try.ntmps104
    go_wp2
    go_ret
    exact ⟨_, rfl, RowL.nil _ _ _ _ _, Below.refl _ _⟩
  · by_cases hL : l = []
    · subst hL
      go_enter Try.func104, Try.ntmps104
      go_wp2
      go_ret
      exact ⟨_, rfl, RowL.nil _ _ _ _ _, Below.refl _ _⟩
    have hl0 : 0 < l.length := List.length_pos_iff.2 hL
    have hnews := World.ownsRow.cells H.out (g := g) rfl
    have hlit := RowL.nil w.heap.size 36 4 dOpC w
    clear hL
    go_enter Try.func104, Try.ntmps104
    go_wp2_with (at_builtin; refine wpList_append_lies _ rfl _ _ 25 rfl w.heap.size 36 i0 (.agg #[.int .i64 0, .string ByteArray.empty, .string ByteArray.empty, .string ByteArray.empty]) 4 56 Try.underlying25 hi hz0 hz1 hz2 rfl (by decide) (.slice none 0 0) 0 _ rfl hlit ⟨g, 0, none⟩ l.length cap (l.flatMap dOpC) rfl (by rw [flat_len dOpC_len]) hnews (flat_oneG (fun a u hu => by simp only [dOpC, List.mem_cons, List.not_mem_nil, or_false] at hu; rcases hu with rfl | rfl | rfl | rfl <;> rfl) l) (by omega) (by unfold maxLen; omega) (by omega) (Nat.le_refl _) w.heap.size rfl ?_; intro g3 cap3 w3 hown3 hgrow3 hat3 hlt3)
    have hB3 : Below w.heap.size w w3 := (Below.refl _ _).grown hgrow3 (Nat.le_refl _) (fun q hq => by cases hq)
    have hr3 : OpsAt w.heap.size (.slice (some ⟨g3, 0, none⟩) l.length cap3) l w3 := by
      have := hown3
      rw [Nat.zero_add] at this
      exact this
    clear hown3 hgrow3 hat3
    go_ret
    exact ⟨_, rfl, hr3, hB3⟩


/-- The name ahead of place j. -/
def prevN (l : List FileT) (j : Nat) : ByteArray := if j = 0 then ByteArray.mk #[] else nameAt l (j - 1)
theorem prevN_next (l : List FileT) (j : Nat) (h : j < l.length) : prevN l (j + 1) = l[j].1 := by
  unfold prevN
  rw [if_neg (by omega), Nat.add_sub_cancel, nameAt_eq l j h]
theorem blt_empty (a : ByteArray) : blt a (ByteArray.mk #[]) = false := by
  unfold blt
  rw [show (ByteArray.mk #[]).toList = [] by rw [ByteArray.toList_eq]]
  cases a.toList <;> rfl
theorem good_prev (l : List FileT) (j : Nat) (h : j < l.length) : goodAt l j = (nameB l[j].1 && !(blt l[j].1 (prevN l j) || decide (l[j].1 = prevN l j))) := by
  unfold goodAt
  rw [nameAt_eq l j h]
  by_cases hj : j = 0
  · have hp : prevN l j = ByteArray.mk #[] := if_pos hj
    rw [decide_eq_true hj, Bool.true_or, Bool.and_true, hp, blt_empty, Bool.false_or]
    by_cases he : l[j].1 = ByteArray.mk #[]
    · rw [he]; rfl
    · rw [decide_eq_false he]; simp
  · have hp : prevN l j = nameAt l (j - 1) := if_neg hj
    rw [decide_eq_false hj, Bool.false_or, hp]

set_option maxRecDepth 20000 in
set_option maxHeartbeats 1500000 in
theorem ok_i (v : Value) (l : List FileT) (w : World) (h : FilesAt 0 v l w) (hl : l.length ≤ 1048576) (hd : dataSum l ≤ 1099511627776) (hn : ∀ a ∈ l, a.1.size ≤ 1099511627776) :
    Calls Try.prog 95 #[v] w fun e w' => e = .returned (.bool (filesB l)) ∧ Below w.heap.size w w' := by
  obtain ⟨p, cap, rfl, hm, _, hp⟩ := h.open
  have H := Lib.hid h
  have hlI : (l.length : Int) ≤ 1048576 := by omega
  have HD := Lib.hid hd
  have HN := Lib.hid hn
  clear h hm hd hn
  by_cases h60 : l.length ≤ 60
  case neg =>
    have h60' : (60 : Int) < (l.length : Int) := by omega
    have HF : Hid (filesB l = false) := by show _ = _; unfold filesB; rw [decide_eq_false h60]; rfl
    clear h60
    go_enter Try.func95, Try.ntmps95
    go_wp2
    go_ret
    exact ⟨by rw [HF.out]; rfl, Below.refl _ _⟩
  have h60' : ¬ (60 : Int) < (l.length : Int) := by omega
  have HF : Hid (filesB l = (goodTo l l.length && decide (dataSum l ≤ 200000))) := by show _ = _; unfold filesB; rw [decide_eq_true h60, Bool.true_and]
  clear h60
  go_enter Try.func95, Try.ntmps95
  go_wp2
  go_loopw [3, 4, 12] (fun q s i wr => ∃ j : Nat, j ≤ l.length ∧ i = .int .i64 j ∧ q = .string (prevN l j) ∧ s = .int .i64 (dataSum (l.take j)) ∧ goodTo l j = true ∧ dataSum (l.take j) ≤ 200000 ∧ Below w.heap.size w wr) (fun _ _ i _ => l.length - (intOf i).toNat)
  case atStart => exact ⟨0, Nat.zero_le _, rfl, rfl, rfl, rfl, Nat.zero_le _, Below.refl _ _⟩
  case round =>
    obtain ⟨j, hj, rfl, rfl, rfl, hgt, hds, hB⟩ := hrel
    have HGT := Lib.hid hgt
    have HDS := Lib.hid hds
    clear hgt hds
    by_cases hlt : j < l.length
    · have hne : l ≠ [] := by intro c; rw [c] at hlt; simp at hlt
      obtain ⟨g, rfl, _, hg⟩ := hp.resolve_left (fun c => hne c.1)
      have j0 : (0 : Int) ≤ (j : Int) := by omega
      have j1 : (j : Int) < (l.length : Int) := by omega
      obtain ⟨x, hx⟩ : ∃ x, l[j] = x := ⟨_, rfl⟩
      have hA := H.out.below hB
      have c0 : wr.cell? ⟨g, j * 2, none⟩ = some (.string x.1) := hA.at fileC_len hlt hx 0 (by omega) rfl
      have c1 : wr.cell? ⟨g, j * 2 + 1, none⟩ = some (.string x.2) := hA.at fileC_len hlt hx 1 (by omega) rfl
      have hxn : x.1.size ≤ 9223372036854775807 := by have := HN.out x (by rw [← hx]; exact List.getElem_mem hlt); omega
      have HS : Hid (dataSum (l.take (j + 1)) = dataSum (l.take j) + x.2.size) := by have := dataSum_next l j hlt; rw [hx] at this; exact this
      have HPN : Hid (prevN l (j + 1) = x.1) := by have := prevN_next l j hlt; rw [hx] at this; exact this
      have hsb : dataSum (l.take (j + 1)) ≤ dataSum l := dataSum_le l (j + 1)
      have HBIG : Hid (200000 < dataSum (l.take j) + x.2.size → filesB l = false) := fun c => by rw [HF.out, decide_eq_false (by rw [HS.out] at hsb; omega), Bool.and_false]
      rw [HS.out] at hsb
      have NM := Lib.hid (fun w => name_i x.1 w hxn)
      have HBAD : Hid (goodAt l j = false → filesB l = false) := fun c => by rw [HF.out, goodTo_bad l j c l.length hlt, Bool.false_and]
      have HOK : Hid (goodAt l j = true → goodTo l (j + 1) = true) := fun c => by show (goodTo l j && goodAt l j) = true; rw [HGT.out, c]; rfl
      have HGA : Hid (goodAt l j = (nameB x.1 && !(blt x.1 (prevN l j) || decide (x.1 = prevN l j)))) := by have := good_prev l j hlt; rw [hx] at this; exact this
      generalize dataSum (l.take j) = D at *
      generalize prevN l j = P at *
      have hDI : (D : Int) + (x.2.size : Int) ≤ 1099511627776 := by have := HD.out; omega
      have hD0 : (0 : Int) ≤ (D : Int) := by omega
      have hB1 : Below w.heap.size w (wr.alloc (.cells #[.string x.1, .string x.2] 88)) := hB.alloc hB.size _
      clear hsb hxn hA hx hne hp hg
      by_cases he : x.1 = P
      · have he' : (x.1.toList == P.toList) = true := by rw [he]; exact beq_self_eq_true _
        have HF0 := Lib.hid (HBAD.out (by rw [HGA.out, decide_eq_true he, Bool.or_true]; simp))
        clear he
        cases hbq : Op.bytesLess x.1.toList P.toList <;>
        (go_wp2
         go_ret
         exact ⟨by rw [HF0.out]; rfl, hB1⟩)
      · have he' : (x.1.toList == P.toList) = false := neq_lst he
        rw [decide_eq_false he, Bool.or_false] at HGA
        clear he
        obtain ⟨b, hb⟩ : ∃ b, blt x.1 P = b := ⟨_, rfl⟩
        have hb' : Op.bytesLess x.1.toList P.toList = b := hb
        rw [hb] at HGA
        clear hb
        cases b with
        | true =>
          have HF0 := Lib.hid (HBAD.out (by rw [HGA.out]; simp))
          go_wp2
          go_ret
          exact ⟨by rw [HF0.out]; rfl, hB1⟩
        | false =>
          obtain ⟨nb, hnb⟩ : ∃ b, nameB x.1 = b := ⟨_, rfl⟩
          rw [hnb] at HGA NM
          clear hnb
          cases nb with
          | false =>
            have HF0 := Lib.hid (HBAD.out (by rw [HGA.out]; rfl))
            go_wp2_with (go_at_call 115; refine (NM.out _).mono ?_; rintro e w2 ⟨rfl, rfl⟩)
            go_ret
            exact ⟨by rw [HF0.out]; rfl, hB1⟩
          | true =>
            have HG2 := Lib.hid (HOK.out (by rw [HGA.out]; rfl))
            by_cases hs : 200000 < D + x.2.size
            · have hs' : (200000 : Int) < (D : Int) + (x.2.size : Int) := by omega
              have hsd : decide ((200000 : Int) < (D : Int) + (x.2.size : Int)) = true := by simp; omega
              have HF0 := Lib.hid (HBIG.out hs)
              clear hs
              go_wp2_with (go_at_call 115; refine (NM.out _).mono ?_; rintro e w2 ⟨rfl, rfl⟩)
              go_ret
              exact ⟨by rw [HF0.out]; rfl, hB1⟩
            · have hs' : ¬ (200000 : Int) < (D : Int) + (x.2.size : Int) := by omega
              have hsd : decide ((200000 : Int) < (D : Int) + (x.2.size : Int)) = false := by simp; omega
              have HSM : Hid (D + x.2.size ≤ 200000) := by show _ ≤ _; omega
              clear hs
              go_wp2_with (go_at_call 115; refine (NM.out _).mono ?_; rintro e w2 ⟨rfl, rfl⟩)
              go_roundw
              case rel => exact ⟨j + 1, by omega, by go_num, by rw [HPN.out], by rw [HS.out]; go_num, HG2.out, by rw [HS.out]; exact HSM.out, hB1⟩
              case measure => simp [intOf]; omega
    · obtain rfl : j = l.length := by omega
      have hds := HDS.out
      rw [List.take_length] at hds ⊢
      have HE : Hid (filesB l = true) := by show _ = _; rw [HF.out, HGT.out, decide_eq_true hds]; rfl
      clear hds
      generalize dataSum l = D at *
      go_wp2
      go_ret
      exact ⟨by rw [HE.out]; rfl, hB⟩

end Go.Proofs.Ytepefbfmjjnamaa

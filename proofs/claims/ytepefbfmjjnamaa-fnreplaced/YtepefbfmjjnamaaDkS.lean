/- The specification's small functions on lists of files. -/
import Derived.Test.YtepefbfmjjnamaaDkM
import Derived.Test.YtepefbfmjjnamaaFrE
import Derived.Deep.Cut
namespace Go.Proofs.Ytepefbfmjjnamaa
open Go.RowKit Go.My Go.Lib
set_option linter.unusedVariables false

theorem name_s (s : ByteArray) (w : World) (hs : s.size ≤ 9223372036854775807) : Calls Try.prog 97 #[.string s] w fun e w' => e = .returned (.bool (nameB s)) ∧ w = w' := by
  have h1 : decide ((1 : Int) ≤ (s.size : Int)) = decide (1 ≤ s.size) := decide_eq_decide.2 (by omega)
  have h2 : decide ((s.size : Int) ≤ 100) = decide (s.size ≤ 100) := decide_eq_decide.2 (by omega)
  have HN : Hid (nameB s = (decide (1 ≤ s.size) && decide (s.size ≤ 100))) := rfl
  go_enter Try.func97, Try.ntmps97
  cases c : decide (1 ≤ s.size) with
  | true =>
    have c1 : (1 : Int) ≤ (s.size : Int) := by have := of_decide_eq_true c; omega
    go_wp2
    go_ret
    exact ⟨by rw [HN.out, c, ← h2]; simp, rfl⟩
  | false =>
    have c1 : ¬ (1 : Int) ≤ (s.size : Int) := by have := of_decide_eq_false c; omega
    go_wp2
    go_ret
    exact ⟨by rw [HN.out, c]; rfl, rfl⟩

set_option maxHeartbeats 600000 in
theorem at_s (v : Value) (l : List FileT) (n : ByteArray) (w : World) (h : FilesAt 0 v l w) (hl : l.length ≤ 1048576) :
    Calls Try.prog 74 #[v, .string n] w fun e w' => e = .returned (.int .i64 (idxV l n)) ∧ Below w.heap.size w w' := by
  obtain ⟨p, cap, rfl, hm, _, hp⟩ := h.open
  have H := Lib.hid h
  have hlI : (l.length : Int) ≤ 1048576 := by omega
  clear h hm
  go_enter Try.func74, Try.ntmps74
  go_wp2
  go_loopw [5] (fun i wr => ∃ j : Nat, j ≤ l.length ∧ i = .int .i64 j ∧ (∀ q (hq : q < l.length), q < j → l[q].1 ≠ n) ∧ Below w.heap.size w wr) (fun i _ => l.length - (intOf i).toNat)
  case atStart => exact ⟨0, Nat.zero_le _, rfl, fun q hq h => by omega, Below.refl _ _⟩
  case round =>
    obtain ⟨j, hj, rfl, hno, hB⟩ := hrel
    have HNO := Lib.hid hno
    clear hno
    by_cases hlt : j < l.length
    · have hne : l ≠ [] := by intro c; rw [c] at hlt; simp at hlt
      obtain ⟨g, rfl, _, hg⟩ := hp.resolve_left (fun c => hne c.1)
      have j0 : (0 : Int) ≤ (j : Int) := by omega
      have j1 : (j : Int) < (l.length : Int) := by omega
      obtain ⟨x, hx⟩ : ∃ x, l[j] = x := ⟨_, rfl⟩
      have c0 : wr.cell? ⟨g, j * 2, none⟩ = some (.string x.1) := (H.out.below hB).at fileC_len hlt hx 0 (by omega) rfl
      by_cases he : x.1 = n
      · have hl1 : (x.1.toList == n.toList) = true := by rw [he]; exact beq_self_eq_true _
        have HI : Hid (idxL l n = some j) := by
          show _ = _
          unfold idxL
          rw [List.findIdx?_eq_some_iff_getElem]
          refine ⟨hlt, by rw [hx, he]; simp, fun q hq => ?_⟩
          have := HNO.out q (by omega) hq
          simpa using this
        clear hx hne hp hg
        go_wp2
        go_ret
        exact ⟨by rw [idxV_some HI.out]; rfl, hB⟩
      · have hl1 : (x.1.toList == n.toList) = false := neq_lst he
        have HX : Hid (∀ q (hq : q < l.length), q < j + 1 → l[q].1 ≠ n) := fun q hq h => by
          by_cases hqj : q = j
          · subst hqj; rw [hx]; exact he
          · exact HNO.out q hq (by omega)
        clear hx hne hp hg
        go_wp2
        go_roundw
        case rel => exact ⟨j + 1, by omega, by go_num, HX.out, hB⟩
        case measure => simp [intOf]; omega
    · obtain rfl : j = l.length := by omega
      have HI : Hid (idxL l n = none) := by
        show _ = _
        unfold idxL
        rw [List.findIdx?_eq_none_iff]
        intro f hf
        obtain ⟨q, hq, rfl⟩ := List.mem_iff_getElem.1 hf
        simpa using HNO.out q hq hq
      go_wp2
      go_ret
      exact ⟨by rw [idxV_none HI.out]; rfl, hB⟩

/-- The files so far, one file more. -/
theorem fileC_push (a b : ByteArray) : fileC (a, b) = [.string a, .string b] := rfl

set_option maxRecDepth 20000 in
set_option maxHeartbeats 1000000 in
theorem cut_s (v : Value) (l : List FileT) (n : ByteArray) (w : World) (h : FilesAt 0 v l w) (hl : l.length ≤ 1048576) :
    Calls Try.prog 99 #[v, .string n] w fun e w' => ∃ v', e = .returned v' ∧ FilesAt w.heap.size v' (cutL l n) w' ∧ Below w.heap.size w w' := by
  obtain ⟨i0, hi, hz0, hz1, hz2⟩ := info_parts info_File
  obtain ⟨p, cap, rfl, hm, _, hp⟩ := h.open
  have H := Lib.hid h
  have hlI : (l.length : Int) ≤ 1048576 := by omega
  clear h hm
  go_enter Try.func99, Try.ntmps99
  go_wp2
  have hR0 : FilesAt w.heap.size (.slice (some ⟨w.heap.size, 0, none⟩) 0 0) (cutL (l.take 0) n) (w.alloc (.cells #[] 88)) := by
    rw [List.take_zero]
    exact World.ownsRow_lit w #[] 0 (Nat.le_refl _) (by unfold maxLen; omega) rfl
  have hb1 : Below w.heap.size w (w.alloc (.cells #[] 88)) := (Below.refl _ _).alloc (Nat.le_refl _) _
  go_loopw [5, 6] (fun x i wr => ∃ j : Nat, j ≤ l.length ∧ i = .int .i64 j ∧ FilesAt w.heap.size x (cutL (l.take j) n) wr ∧ Below w.heap.size w wr) (fun _ i _ => l.length - (intOf i).toNat)
  case atStart => exact ⟨0, Nat.zero_le _, rfl, hR0, hb1⟩
  case round =>
    clear hR0 hb1
    obtain ⟨j, hj, rfl, hR, hB⟩ := hrel
    by_cases hlt : j < l.length
    · have hne : l ≠ [] := by intro c; rw [c] at hlt; simp at hlt
      obtain ⟨g, rfl, _, hg⟩ := hp.resolve_left (fun c => hne c.1)
      have j0 : (0 : Int) ≤ (j : Int) := by omega
      have j1 : (j : Int) < (l.length : Int) := by omega
      obtain ⟨x, hx⟩ : ∃ x, l[j] = x := ⟨_, rfl⟩
      have hA := H.out.below hB
      have c0 : wr.cell? ⟨g, j * 2, none⟩ = some (.string x.1) := hA.at fileC_len hlt hx 0 (by omega) rfl
      have c1 : wr.cell? ⟨g, j * 2 + 1, none⟩ = some (.string x.2) := hA.at fileC_len hlt hx 1 (by omega) rfl
      have hcl : (cutL (l.take j) n).length ≤ j := by
        have := List.length_filter_le (fun f : FileT => decide (f.1 ≠ n)) (l.take j)
        rw [List.length_take] at this
        show (List.filter _ _).length ≤ _
        omega
      have HT := Lib.hid (List.take_succ_eq_append_getElem hlt)
      rw [hx] at HT
      clear hA hx hne hp hg
      by_cases he : x.1 = n
      · have hl1 : (x.1.toList == n.toList) = true := by rw [he]; exact beq_self_eq_true _
        have HR : Hid (FilesAt w.heap.size u5 (cutL (l.take (j + 1)) n) wr) := by
          show FilesAt _ _ _ _
          rw [HT.out]
          unfold cutL
          rw [List.filter_append, show List.filter (fun f : FileT => decide (f.1 ≠ n)) [x] = [] by simp [he], List.append_nil]
          exact hR
        clear hR
        go_wp2
        go_roundw
        case rel => exact ⟨j + 1, by omega, by go_num, HR.out, hB⟩
        case measure => simp [intOf]; omega
      · have hl1 : (x.1.toList == n.toList) = false := neq_lst he
        have hR1 : wr.ownsRow w.heap.size 88 2 u5 (cutL (l.take j) n).length ((cutL (l.take j) n).flatMap fileC) := hR
        have HE : Hid (cutL (l.take (j + 1)) n = cutL (l.take j) n ++ [x]) := by
          show _ = _
          rw [HT.out]
          unfold cutL
          rw [List.filter_append, show List.filter (fun f : FileT => decide (f.1 ≠ n)) [x] = [x] by simp [he]]
        have HB := Lib.hid hB
        clear hR
        generalize cutL (l.take j) n = C at *
        have hC : C.length ≤ 1048576 := by omega
        go_wp2_with (at_builtin; refine wpList_append_lies _ rfl _ _ 24 rfl w.heap.size 88 i0 (.agg #[.string ByteArray.empty, .string ByteArray.empty]) 2 32 Try.underlying24 hi hz0 hz1 hz2 rfl (by decide) u5 C.length _ rfl (hR1.alloc _) ⟨wr.heap.size, 0, none⟩ 1 1 [_, _] rfl rfl (World.news_of_block (cs := #[_, _]) (t := 88) (fr := (0, 0)) (heap_alloc_new wr _)) (by simp [Value.oneCell']) (by omega) (by unfold maxLen; omega) (by omega) (by have := HB.out.size; simp; omega) (wr.heap.size + 1) (by simp) ?_; intro g2 cap2 w2 hown2 hgrow2 hat hlt2)
        have R := row_push (b := x) hR1 HB.out HB.out.size rfl (show [Value.string x.1, Value.string x.2] = fileC x from rfl) hown2 hgrow2
        clear hown2 hgrow2 hR1 hB
        rw [← HE.out] at R
        have R1 := Lib.hid R.1
        have R2 := Lib.hid R.2
        clear R
        go_roundw
        case rel => exact ⟨j + 1, by omega, by go_num, R1.out, R2.out⟩
        case measure => simp [intOf]; omega
    · obtain rfl : j = l.length := by omega
      rw [List.take_length] at hR
      go_wp2
      go_ret
      exact ⟨_, rfl, hR, hB⟩

theorem putGo_nil (n d : ByteArray) (done : Bool) : putGo n d done [] = if done then [] else [(n, d)] := rfl
theorem putGo_len (n d : ByteArray) : ∀ (l : List FileT) (done : Bool), (putGo n d done l).length ≤ l.length + (if done then 0 else 1)
  | [], done => by cases done <;> simp [putGo]
  | f :: l, done => by
    have h1 := putGo_len n d l true
    have h2 := putGo_len n d l false
    simp only [putGo]
    cases done <;> cases blt f.1 n <;> by_cases c : f.1 = n <;> simp [c] at * <;> omega

set_option maxRecDepth 20000 in
set_option maxHeartbeats 2000000 in
theorem put_s (v : Value) (l : List FileT) (n d : ByteArray) (w : World) (h : FilesAt 0 v l w) (hl : l.length ≤ 1048576) :
    Calls Try.prog 98 #[v, .string n, .string d] w fun e w' => ∃ v', e = .returned v' ∧ FilesAt w.heap.size v' (putL l n d) w' ∧ Below w.heap.size w w' := by
  obtain ⟨i0, hi, hz0, hz1, hz2⟩ := info_parts info_File
  obtain ⟨p, cap, rfl, hm, _, hp⟩ := h.open
  have H := Lib.hid h
  have hlI : (l.length : Int) ≤ 1048576 := by omega
  clear h hm
  go_enter Try.func98, Try.ntmps98
  go_wp2
  have hR0 : FilesAt w.heap.size (.slice (some ⟨w.heap.size, 0, none⟩) 0 0) [] (w.alloc (.cells #[] 88)) := World.ownsRow_lit w #[] 0 (Nat.le_refl _) (by unfold maxLen; omega) rfl
  have hb1 : Below w.heap.size w (w.alloc (.cells #[] 88)) := (Below.refl _ _).alloc (Nat.le_refl _) _
  go_loopw [7, 8, 9] (fun x q i wr => ∃ (j : Nat) (C : List FileT) (done : Bool), j ≤ l.length ∧ i = .int .i64 j ∧ q = .bool done ∧ C ++ putGo n d done (l.drop j) = putL l n d ∧ C.length ≤ j + done.toNat ∧ FilesAt w.heap.size x C wr ∧ Below w.heap.size w wr) (fun _ _ i _ => l.length - (intOf i).toNat)
  case atStart => exact ⟨0, [], false, Nat.zero_le _, rfl, rfl, rfl, by simp, hR0, hb1⟩
  case round =>
    clear hR0 hb1
    obtain ⟨j, C, done, hj, rfl, rfl, hput, hCl, hR, hB⟩ := hrel
    have HB := Lib.hid hB
    have hC : C.length ≤ 1048580 := by have := Bool.toNat_le done; omega
    by_cases hlt : j < l.length
    · have hne : l ≠ [] := by intro c; rw [c] at hlt; simp at hlt
      obtain ⟨g, rfl, _, hg⟩ := hp.resolve_left (fun c => hne c.1)
      have j0 : (0 : Int) ≤ (j : Int) := by omega
      have j1 : (j : Int) < (l.length : Int) := by omega
      obtain ⟨x, hx⟩ : ∃ x, l[j] = x := ⟨_, rfl⟩
      have HH : Hid (∀ W, Below w.heap.size w W → W.cell? ⟨g, j * 2, none⟩ = some (.string x.1) ∧ W.cell? ⟨g, j * 2 + 1, none⟩ = some (.string x.2)) := fun W hW => ⟨(H.out.below hW).at fileC_len hlt hx 0 (by omega) rfl, (H.out.below hW).at fileC_len hlt hx 1 (by omega) rfl⟩
      obtain ⟨c0, c1⟩ := HH.out wr hB
      have HP : Hid (C ++ ((if !done && !blt x.1 n then [(n, d)] else []) ++ ((if x.1 = n then [] else [x]) ++ putGo n d (done || !blt x.1 n) (l.drop (j + 1)))) = putL l n d) := by
        have e := hput
        rw [List.drop_eq_getElem_cons hlt, hx] at e
        exact e
      have HCL := Lib.hid hCl
      clear hx hne hp hg hput hCl
      have hR1 : wr.ownsRow w.heap.size 88 2 u7 C.length (C.flatMap fileC) := hR
      clear hR hB
      obtain ⟨b, hb⟩ : ∃ b, blt x.1 n = b := ⟨_, rfl⟩
      have hb' : Op.bytesLess x.1.toList n.toList = b := hb
      rw [hb] at HP
      clear hb
      cases done with
      | true =>
        by_cases he : x.1 = n
        · have hl1 : (x.1.toList == n.toList) = true := by rw [he]; exact beq_self_eq_true _
          have HE : Hid (C ++ putGo n d true (l.drop (j + 1)) = putL l n d) := by show _ = _; have e := HP.out; rw [if_pos he] at e; simpa using e
          have HE0 := Lib.hid he
          clear he
          have HR2 := Lib.hid (show FilesAt w.heap.size u7 (C) wr from hR1)
          clear hR1
          go_wp2
          go_roundw
          case rel => exact ⟨j + 1, C, true, by omega, by go_num, rfl, HE.out, by have := HCL.out; simp at this ⊢; omega, HR2.out, HB.out⟩
          case measure => simp [intOf]; omega
        · have hl1 : (x.1.toList == n.toList) = false := neq_lst he
          have HE : Hid ((C ++ [x]) ++ putGo n d true (l.drop (j + 1)) = putL l n d) := by show _ = _; have e := HP.out; rw [if_neg he] at e; simpa using e
          go_wp2_with (at_builtin; refine wpList_append_lies _ rfl _ _ 24 rfl w.heap.size 88 i0 (.agg #[.string ByteArray.empty, .string ByteArray.empty]) 2 32 Try.underlying24 hi hz0 hz1 hz2 rfl (by decide) u7 (C).length _ rfl (hR1.alloc _) ⟨wr.heap.size, 0, none⟩ 1 1 [_, _] rfl rfl (World.news_of_block (cs := #[_, _]) (t := 88) (fr := (0, 0)) (heap_alloc_new wr _)) (by simp [Value.oneCell']) (by omega) (by unfold maxLen; omega) (by omega) (by have := HB.out.size; simp; omega) (wr.heap.size + 1) (by simp) ?_; intro g3 cap3 w3 hown2 hgrow2 hat hlt2)
          have R := row_push (b := x) hR1 HB.out HB.out.size rfl rfl hown2 hgrow2
          clear hown2 hgrow2 hat hlt2 hR1
          have R1 := Lib.hid R.1
          have R2 := Lib.hid R.2
          clear R
          go_roundw
          case rel => exact ⟨j + 1, C ++ [x], true, by omega, by go_num, rfl, HE.out, by have := HCL.out; simp at this ⊢; omega, R1.out, R2.out⟩
          case measure => simp [intOf]; omega
      | false =>
        cases b with
        | true =>
          by_cases he : x.1 = n
          · have hl1 : (x.1.toList == n.toList) = true := by rw [he]; exact beq_self_eq_true _
            have HE : Hid (C ++ putGo n d false (l.drop (j + 1)) = putL l n d) := by show _ = _; have e := HP.out; rw [if_pos he] at e; simpa using e
            have HE0 := Lib.hid he
            clear he
            have HR2 := Lib.hid (show FilesAt w.heap.size u7 (C) wr from hR1)
            clear hR1
            go_wp2
            go_roundw
            case rel => exact ⟨j + 1, C, false, by omega, by go_num, rfl, HE.out, by have := HCL.out; simp at this ⊢; omega, HR2.out, HB.out⟩
            case measure => simp [intOf]; omega
          · have hl1 : (x.1.toList == n.toList) = false := neq_lst he
            have HE : Hid ((C ++ [x]) ++ putGo n d false (l.drop (j + 1)) = putL l n d) := by show _ = _; have e := HP.out; rw [if_neg he] at e; simpa using e
            go_wp2_with (at_builtin; refine wpList_append_lies _ rfl _ _ 24 rfl w.heap.size 88 i0 (.agg #[.string ByteArray.empty, .string ByteArray.empty]) 2 32 Try.underlying24 hi hz0 hz1 hz2 rfl (by decide) u7 (C).length _ rfl (hR1.alloc _) ⟨wr.heap.size, 0, none⟩ 1 1 [_, _] rfl rfl (World.news_of_block (cs := #[_, _]) (t := 88) (fr := (0, 0)) (heap_alloc_new wr _)) (by simp [Value.oneCell']) (by omega) (by unfold maxLen; omega) (by omega) (by have := HB.out.size; simp; omega) (wr.heap.size + 1) (by simp) ?_; intro g3 cap3 w3 hown2 hgrow2 hat hlt2)
            have R := row_push (b := x) hR1 HB.out HB.out.size rfl rfl hown2 hgrow2
            clear hown2 hgrow2 hat hlt2 hR1
            have R1 := Lib.hid R.1
            have R2 := Lib.hid R.2
            clear R
            go_roundw
            case rel => exact ⟨j + 1, C ++ [x], false, by omega, by go_num, rfl, HE.out, by have := HCL.out; simp at this ⊢; omega, R1.out, R2.out⟩
            case measure => simp [intOf]; omega
        | false =>
          go_upto_region 9 with (at_builtin; refine wpList_append_lies _ rfl _ _ 24 rfl w.heap.size 88 i0 (.agg #[.string ByteArray.empty, .string ByteArray.empty]) 2 32 Try.underlying24 hi hz0 hz1 hz2 rfl (by decide) u7 C.length _ rfl (hR1.alloc _) ⟨wr.heap.size, 0, none⟩ 1 1 [_, _] rfl rfl (World.news_of_block (cs := #[_, _]) (t := 88) (fr := (0, 0)) (heap_alloc_new wr _)) (by simp [Value.oneCell']) (by omega) (by unfold maxLen; omega) (by omega) (by have := HB.out.size; simp; omega) (wr.heap.size + 1) (by simp) ?_; intro g2 cap2 w2 hown2 hgrow2 hat hlt2)
          have R := row_push (b := (n, d)) hR1 HB.out HB.out.size rfl rfl hown2 hgrow2
          clear hown2 hgrow2 hat hlt2 hR1
          have R1 := Lib.hid R.1
          have R2 := Lib.hid R.2
          clear R c0 c1
          obtain ⟨c0, c1⟩ := HH.out w2 R2.out
          have hfl : (C ++ [(n, d)]).flatMap fileC = C.flatMap fileC ++ [Value.string n, Value.string d] := by rw [List.flatMap_append]; rfl
          have hR5 : w2.ownsRow w.heap.size 88 2 (.slice (some ⟨g2, 0, none⟩) (C.length + 1) cap2) (C ++ [(n, d)]).length ((C ++ [(n, d)]).flatMap fileC) := R1.out
          have hR4 : w2.ownsRow w.heap.size 88 2 (.slice (some ⟨g2, 0, none⟩) (C.length + 1) cap2) (C.length + 1) (C.flatMap fileC ++ [Value.string n, Value.string d]) := by rw [← hfl]; have := hR5; rw [List.length_append] at this; exact this
          have HFL := Lib.hid hfl
          clear hfl
          by_cases he : x.1 = n
          · have hl1 : (x.1.toList == n.toList) = true := by rw [he]; exact beq_self_eq_true _
            have HE : Hid ((C ++ [(n, d)]) ++ putGo n d true (l.drop (j + 1)) = putL l n d) := by show _ = _; have e := HP.out; rw [if_pos he] at e; simpa using e
            have HE0 := Lib.hid he
            clear he
            have HR2 := Lib.hid (show FilesAt w.heap.size (.slice (some ⟨g2, 0, none⟩) (C.length + 1) cap2) (C ++ [(n, d)]) w2 from R1.out)
            go_wp2
            go_roundw
            case rel => exact ⟨j + 1, C ++ [(n, d)], true, by omega, by go_num, rfl, HE.out, by have := HCL.out; simp at this ⊢; omega, HR2.out, R2.out⟩
            case measure => simp [intOf]; omega
          · have hl1 : (x.1.toList == n.toList) = false := neq_lst he
            have HE : Hid ((C ++ [(n, d)] ++ [x]) ++ putGo n d true (l.drop (j + 1)) = putL l n d) := by show _ = _; have e := HP.out; rw [if_neg he] at e; simpa using e
            go_wp2_with (at_builtin; refine wpList_append_lies _ rfl _ _ 24 rfl w.heap.size 88 i0 (.agg #[.string ByteArray.empty, .string ByteArray.empty]) 2 32 Try.underlying24 hi hz0 hz1 hz2 rfl (by decide) (.slice (some ⟨g2, 0, none⟩) (C.length + 1) cap2) (C.length + 1) _ rfl (hR4.alloc _) ⟨w2.heap.size, 0, none⟩ 1 1 [_, _] rfl rfl (World.news_of_block (cs := #[_, _]) (t := 88) (fr := (0, 0)) (heap_alloc_new w2 _)) (by simp [Value.oneCell']) (by omega) (by unfold maxLen; omega) (by omega) (by have := R2.out.size; simp; omega) (w2.heap.size + 1) (by simp) ?_; intro g3 cap3 w3 hown2 hgrow2 hat hlt2)
            have R := row_push (l := C ++ [(n, d)]) (b := x) hR5 R2.out R2.out.size (by rw [List.length_append]) (show [Value.string x.1, Value.string x.2] = fileC x from rfl) (by rw [HFL.out]; exact hown2) hgrow2
            clear hown2 hgrow2 hat hlt2 hR4 hR5
            have R3 := Lib.hid R.1
            have R4 := Lib.hid R.2
            clear R
            go_roundw
            case rel => exact ⟨j + 1, C ++ [(n, d)] ++ [x], true, by omega, by go_num, rfl, HE.out, by have := HCL.out; simp at this ⊢; omega, R3.out, R4.out⟩
            case measure => simp [intOf]; omega
    · obtain rfl : j = l.length := by omega
      rw [List.drop_length] at hput
      clear hlt hj
      cases done with
      | true =>
        have HE : Hid (C = putL l n d) := by show _ = _; rw [← hput]; exact (List.append_nil _).symm
        clear hput
        go_wp2
        go_ret
        exact ⟨_, rfl, by rw [← HE.out]; exact hR, hB⟩
      | false =>
        have HE : Hid (C ++ [(n, d)] = putL l n d) := hput
        have hR1 : wr.ownsRow w.heap.size 88 2 u7 C.length (C.flatMap fileC) := hR
        clear hput hR hB
        go_wp2_with (at_builtin; refine wpList_append_lies _ rfl _ _ 24 rfl w.heap.size 88 i0 (.agg #[.string ByteArray.empty, .string ByteArray.empty]) 2 32 Try.underlying24 hi hz0 hz1 hz2 rfl (by decide) u7 C.length _ rfl (hR1.alloc _) ⟨wr.heap.size, 0, none⟩ 1 1 [_, _] rfl rfl (World.news_of_block (cs := #[_, _]) (t := 88) (fr := (0, 0)) (heap_alloc_new wr _)) (by simp [Value.oneCell']) (by omega) (by unfold maxLen; omega) (by omega) (by have := HB.out.size; simp; omega) (wr.heap.size + 1) (by simp) ?_; intro g2 cap2 w2 hown2 hgrow2 hat hlt2)
        have R := row_push (b := (n, d)) hR1 HB.out HB.out.size rfl rfl hown2 hgrow2
        clear hown2 hgrow2 hat hlt2 hR1
        rw [HE.out] at R
        have R1 := Lib.hid R.1
        have R2 := Lib.hid R.2
        clear R
        go_wp2
        go_ret
        exact ⟨_, rfl, R1.out, R2.out⟩

end Go.Proofs.Ytepefbfmjjnamaa

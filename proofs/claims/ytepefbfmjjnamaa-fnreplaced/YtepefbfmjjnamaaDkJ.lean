/- The program's search in files. -/
import Derived.Test.YtepefbfmjjnamaaDkI
namespace Go.Proofs.Ytepefbfmjjnamaa
open Go.RowKit Go.My Go.Lib
set_option linter.unusedVariables false

/-- Place i parts the names ahead of n from the others. -/
structure LowAt (l : List FileT) (n : ByteArray) (i : Nat) : Prop where
  le : i ≤ l.length
  lo : ∀ q (hq : q < l.length), q < i → blt l[q].1 n = true
  hi : ∀ q (hq : q < l.length), i ≤ q → blt l[q].1 n = false
def Sorted (l : List FileT) : Prop := ∀ i j (hi : i < l.length) (hj : j < l.length), i < j → blt l[i].1 l[j].1 = true

set_option maxRecDepth 20000 in
set_option maxHeartbeats 1000000 in
theorem search_i (v : Value) (l : List FileT) (n : ByteArray) (w : World) (h : FilesAt 0 v l w) (hl : l.length ≤ 1048576) (hs : Sorted l) :
    Calls Try.prog 119 #[v, .string n, .func (.func 120) #[] #[]] w fun e w' => ∃ i : Nat, LowAt l n i ∧ e = .returned (.tuple #[.int .i64 i, .bool (decide ((l[i]?).map (·.1) = some n))]) ∧ Below w.heap.size w w' := by
  obtain ⟨p, cap, rfl, hm, _, hp⟩ := h.open
  have H := Lib.hid h
  have HS := Lib.hid hs
  have hlI : (l.length : Int) ≤ 1048576 := by omega
  clear h hm hs
  go_enter Try.func119, Try.ntmps119
  go_wp2
  go_loopw [9, 10] (fun x y wr => ∃ i j : Nat, i ≤ j ∧ j ≤ l.length ∧ x = .int .i64 i ∧ y = .int .i64 j ∧ (∀ q (hq : q < l.length), q < i → blt l[q].1 n = true) ∧ (∀ q (hq : q < l.length), j ≤ q → blt l[q].1 n = false) ∧ Below w.heap.size w wr) (fun x y _ => (intOf y).toNat - (intOf x).toNat)
  case atStart => exact ⟨0, l.length, Nat.zero_le _, Nat.le_refl _, rfl, rfl, fun q _ c => by omega, fun q hq c => by omega, Below.refl _ _⟩
  case round =>
    obtain ⟨i, j, hij, hj, rfl, rfl, hlo, hhi, hB⟩ := hrel
    have HLO := Lib.hid hlo
    have HHI := Lib.hid hhi
    clear hlo hhi
    by_cases hlt : i < j
    · have hne : l ≠ [] := by intro c; rw [c] at hj; simp at hj; omega
      obtain ⟨g, rfl, _, hg⟩ := hp.resolve_left (fun c => hne c.1)
      have i0 : (i : Int) < (j : Int) := by omega
      have i1 : (0 : Int) ≤ (i : Int) := by omega
      have jI : (j : Int) ≤ 1048576 := by omega
      obtain ⟨m, hm⟩ : ∃ m : Nat, m = (i + j) / 2 := ⟨_, rfl⟩
      have hml : m < l.length := by omega
      have m0 : (0 : Int) ≤ (m : Int) := by omega
      have m1 : (m : Int) < (l.length : Int) := by omega
      have e1 : ((i : Int) + (j : Int)) / 2 = (m : Int) := by omega
      obtain ⟨x, hx⟩ : ∃ x, l[m] = x := ⟨_, rfl⟩
      have hA := H.out.below hB
      have c0 : wr.cell? ⟨g, m * 2, none⟩ = some (.string x.1) := hA.at fileC_len hml hx 0 (by omega) rfl
      have c1 : wr.cell? ⟨g, m * 2 + 1, none⟩ = some (.string x.2) := hA.at fileC_len hml hx 1 (by omega) rfl
      have HM : Hid (i ≤ m ∧ m < j) := by show _ ∧ _; omega
      have CL := Lib.hid (fun w => atc_i x n w)
      have HUP : Hid (blt x.1 n = true → ∀ q (hq : q < l.length), q < m + 1 → blt l[q].1 n = true) := fun c q hq hqm => by
        by_cases hqe : q = m
        · subst hqe; rw [hx]; exact c
        · have := HS.out q m hq hml (by omega)
          rw [hx] at this
          exact blt_trans this c
      have HDN : Hid (blt x.1 n = false → ∀ q (hq : q < l.length), m ≤ q → blt l[q].1 n = false) := fun c q hq hqm => by
        by_cases hqe : q = m
        · subst hqe; rw [hx]; exact c
        · have h1 := HS.out m q hml hq (by omega)
          rw [hx] at h1
          cases hb : blt l[q].1 n with
          | false => rfl
          | true => have := blt_trans h1 hb; rw [this] at c; cases c
      clear hm hA hx hne hp hg
      cases hb : blt x.1 n with
      | true =>
        have HV : Hid (cmpV x.1 n = -1) := cmpV_lt hb
        have HU := Lib.hid (HUP.out hb)
        clear hb
        go_wp2_with fail
        refine (CL.out _).mono ?_
        rintro e w2 ⟨rfl, hb2⟩
        have hB2 := hB.trans (hb2.mono hB.size)
        rw [HV.out]
        clear hb2 hB c0 c1
        go_wp2
        go_roundw
        case rel => exact ⟨m + 1, j, by have := HM.out; omega, hj, by go_num, rfl, HU.out, HHI.out, hB2⟩
        case measure => have := HM.out; simp [intOf]; omega
      | false =>
        have HV := Lib.hid (cmpV_ge hb)
        have HU := Lib.hid (HDN.out hb)
        clear hb
        go_wp2_with fail
        refine (CL.out _).mono ?_
        rintro e w2 ⟨rfl, hb2⟩
        have hB2 := hB.trans (hb2.mono hB.size)
        have hv0 := HV.out
        generalize cmpV x.1 n = V at *
        have hv1 : ¬ V < 0 := by omega
        clear hb2 hB c0 c1
        go_wp2
        go_roundw
        case rel => exact ⟨i, m, HM.out.1, by omega, rfl, rfl, HLO.out, HU.out, hB2⟩
        case measure => have := HM.out; simp [intOf]; omega
    · obtain rfl : i = j := by omega
      have HLW := Lib.hid (LowAt.mk hj HLO.out HHI.out)
      clear hij hlt
      by_cases hin : i < l.length
      · have hne : l ≠ [] := by intro c; rw [c] at hin; simp at hin
        obtain ⟨g, rfl, _, hg⟩ := hp.resolve_left (fun c => hne c.1)
        have i1 : (0 : Int) ≤ (i : Int) := by omega
        have i2 : (i : Int) < (l.length : Int) := by omega
        obtain ⟨x, hx⟩ : ∃ x, l[i] = x := ⟨_, rfl⟩
        have hA := H.out.below hB
        have c0 : wr.cell? ⟨g, i * 2, none⟩ = some (.string x.1) := hA.at fileC_len hin hx 0 (by omega) rfl
        have c1 : wr.cell? ⟨g, i * 2 + 1, none⟩ = some (.string x.2) := hA.at fileC_len hin hx 1 (by omega) rfl
        have CL := Lib.hid (fun w => atc_i x n w)
        have HR : Hid (decide ((l[i]?).map (·.1) = some n) = (cmpV x.1 n == 0)) := by
          show _ = _
          rw [cmpV_zero, List.getElem?_eq_getElem hin, hx]
          simp
        clear hA hx hne hp hg hin
        go_wp2_with fail
        refine (CL.out _).mono ?_
        rintro e w2 ⟨rfl, hb2⟩
        have hB2 := hB.trans (hb2.mono hB.size)
        clear hb2 hB c0 c1
        go_wp2
        go_ret2
        exact ⟨i, HLW.out, by rw [HR.out]; rfl, hB2⟩
      · obtain rfl : i = l.length := by omega
        have HR : Hid (decide ((l[l.length]?).map (·.1) = some n) = false) := by
          show _ = _
          rw [List.getElem?_eq_none (Nat.le_refl _)]
          exact decide_eq_false (fun c => by cases c)
        clear hin
        go_wp2
        go_ret2
        exact ⟨l.length, HLW.out, by rw [HR.out]; rfl, hB⟩

/-- In files in their order a name stands where the names ahead of it end, or nowhere. -/
theorem low_idx {l : List FileT} {n : ByteArray} {i : Nat} (h : LowAt l n i) (hs : Sorted l) : (decide ((l[i]?).map (·.1) = some n) = true → idxL l n = some i) ∧ (decide ((l[i]?).map (·.1) = some n) = false → idxL l n = none) := by
  constructor
  · intro c
    have c := of_decide_eq_true c
    by_cases hi : i < l.length
    · rw [List.getElem?_eq_getElem hi] at c
      have hx : l[i].1 = n := by simpa using c
      unfold idxL
      rw [List.findIdx?_eq_some_iff_getElem]
      refine ⟨hi, by simp [hx], fun q hq => ?_⟩
      have := h.lo q (by omega) hq
      simp only [decide_eq_true_eq]
      intro e
      rw [e, blt_irr] at this
      cases this
    · rw [List.getElem?_eq_none (by omega)] at c
      cases c
  · intro c
    have c := of_decide_eq_false c
    unfold idxL
    rw [List.findIdx?_eq_none_iff]
    intro f hf
    obtain ⟨q, hq, rfl⟩ := List.mem_iff_getElem.1 hf
    simp only [decide_eq_false_iff_not]
    intro e
    by_cases hqi : q < i
    · have := h.lo q hq hqi
      rw [e, blt_irr] at this
      cases this
    · by_cases hqe : q = i
      · subst hqe
        exact c (by rw [List.getElem?_eq_getElem hq, Option.map_some, e])
      · have h1 := hs i q (by omega) hq (by omega)
        rw [e] at h1
        have h2 := h.hi i (by omega) (Nat.le_refl _)
        rw [h1] at h2
        cases h2

set_option maxRecDepth 20000 in
set_option maxHeartbeats 1000000 in
theorem at_i (v : Value) (l : List FileT) (n : ByteArray) (w : World) (h : FilesAt 0 v l w) (hl : l.length ≤ 1048576) (hs : Sorted l) :
    Calls Try.prog 108 #[v, .string n] w fun e w' => ∃ i : Nat, LowAt l n i ∧ e = .returned (.tuple #[.int .i64 i, .bool (decide ((l[i]?).map (·.1) = some n))]) ∧ Below w.heap.size w w' := by
  have C := Lib.hid (search_i v l n w h hl hs)
  obtain ⟨p, cap, rfl, hm, _, hp⟩ := h.open
  clear h hm hp hl hs
  go_enter Try.func108, Try.ntmps108
  go_wp2_with fail
  refine C.out.mono ?_
  rintro e w2 ⟨i, hL, rfl, hb2⟩
  have HL := Lib.hid hL
  clear hL
  obtain ⟨b, hb⟩ : ∃ b, decide ((l[i]?).map (·.1) = some n) = b := ⟨_, rfl⟩
  rw [hb]
  have HB := Lib.hid hb
  clear hb
  go_wp2
  go_ret2
  exact ⟨i, HL.out, by rw [HB.out]; rfl, hb2⟩

set_option maxRecDepth 20000 in
set_option maxHeartbeats 1000000 in
theorem has_i (v : Value) (l : List FileT) (n : ByteArray) (w : World) (h : FilesAt 0 v l w) (hl : l.length ≤ 1048576) (hs : Sorted l) :
    Calls Try.prog 68 #[v, .string n] w fun e w' => e = .returned (.bool (idxL l n).isSome) ∧ Below w.heap.size w w' := by
  have C := Lib.hid (at_i v l n w h hl hs)
  have HS := Lib.hid hs
  obtain ⟨p, cap, rfl, hm, _, hp⟩ := h.open
  clear h hm hp hl hs
  go_enter Try.func68, Try.ntmps68
  go_wp2_with fail
  refine C.out.mono ?_
  rintro e w2 ⟨i, hL, rfl, hb2⟩
  have HL := Lib.hid (low_idx hL HS.out)
  clear hL
  cases hb : decide ((l[i]?).map (·.1) = some n) with
  | true =>
    have HI := Lib.hid (HL.out.1 hb)
    clear hb
    go_wp2
    go_ret
    exact ⟨by rw [HI.out]; rfl, hb2⟩
  | false =>
    have HI := Lib.hid (HL.out.2 hb)
    clear hb
    go_wp2
    go_ret
    exact ⟨by rw [HI.out]; rfl, hb2⟩

set_option maxRecDepth 20000 in
set_option maxHeartbeats 1000000 in
theorem read_i (v : Value) (l : List FileT) (n : ByteArray) (w : World) (h : FilesAt 0 v l w) (hl : l.length ≤ 1048576) (hs : Sorted l) :
    Calls Try.prog 67 #[v, .string n] w fun e w' => e = .returned (.string (dataOf l n)) ∧ Below w.heap.size w w' := by
  have C := Lib.hid (at_i v l n w h hl hs)
  have HS := Lib.hid hs
  have H := Lib.hid h
  obtain ⟨p, cap, rfl, hm, _, hp⟩ := h.open
  have hlI : (l.length : Int) ≤ 1048576 := by omega
  clear h hm hs
  go_enter Try.func67, Try.ntmps67
  go_wp2_with fail
  refine C.out.mono ?_
  rintro e w2 ⟨i, hL, rfl, hb2⟩
  have HL := Lib.hid (low_idx hL HS.out)
  clear hL
  cases hb : decide ((l[i]?).map (·.1) = some n) with
  | true =>
    have hi := HL.out.1 hb
    have hj := idx_lt hi
    have hdo := dataOf_some hi
    obtain ⟨x, hx⟩ : ∃ x, l[i] = x := ⟨_, rfl⟩
    rw [hx] at hdo
    have hne : l ≠ [] := by intro c; rw [c] at hj; simp at hj
    obtain ⟨g, rfl, _, hg⟩ := hp.resolve_left (fun c => hne c.1)
    have j0 : (0 : Int) ≤ (i : Int) := by omega
    have j1 : (i : Int) < (l.length : Int) := by omega
    have c1 : w2.cell? ⟨g, i * 2 + 1, none⟩ = some (.string x.2) := (H.out.below hb2).at fileC_len hj hx 1 (by omega) rfl
    have HDO := Lib.hid hdo
    clear hb hi hdo hx hne hp hg
    go_wp2
    go_ret
    exact ⟨by rw [HDO.out]; rfl, hb2⟩
  | false =>
    have HDO := Lib.hid (dataOf_none (HL.out.2 hb))
    clear hb
    go_wp2
    go_ret
    exact ⟨by rw [HDO.out]; rfl, hb2⟩

end Go.Proofs.Ytepefbfmjjnamaa

/- Frames of texts one behind another, and what is taken off them. Nothing of the program is named. -/
import Derived.Test.YtepefbfmjjnamaaFrD
import Derived.Test.YtepefbfmjjnamaaMath4
namespace Go.My
open Go.RowKit
set_option linter.unusedVariables false

theorem ba_ext {a b : ByteArray} (h : a.data.toList = b.data.toList) : a = b := by rw [← str_of a, ← str_of b, h]
theorem ba_list (a b : ByteArray) : (a ++ b).data.toList = a.data.toList ++ b.data.toList := by rw [ByteArray.data_append, Array.toList_append]
theorem ext_list (s : ByteArray) (a b : Nat) : (s.extract a b).data.toList = (s.data.toList.take b).drop a := by
  rw [ByteArray.data_extract, Array.toList_extract, List.extract_eq_take_drop, List.take_drop]
  by_cases h : a ≤ b
  · rw [show a + (b - a) = b by omega]
  · rw [List.drop_eq_nil_of_le (by rw [List.length_take]; omega), List.drop_eq_nil_of_le (by rw [List.length_take]; omega)]
theorem ext_mid (a b c : ByteArray) (i j : Nat) (hi : i = a.size) (hj : j = a.size + b.size) : (a ++ (b ++ c)).extract i j = b := by
  subst hi hj
  apply ba_ext
  rw [ext_list, ba_list, ba_list, ← List.append_assoc]
  rw [List.take_append_of_le_length (by rw [List.length_append, len_data, len_data]; omega), List.take_of_length_le (by rw [List.length_append, len_data, len_data]; omega)]
  rw [← len_data a, List.drop_left]
theorem ext_left (a b : ByteArray) (j : Nat) (hj : j ≤ a.size) : (a ++ b).extract 0 j = a.extract 0 j := by
  apply ba_ext
  rw [ext_list, ext_list, ba_list, List.take_append_of_le_length (by rw [len_data]; exact hj)]
theorem ext_cat (a b : ByteArray) (j : Nat) : (a ++ b).extract 0 (a.size + j) = a ++ b.extract 0 j := by
  apply ba_ext
  rw [ext_list, ba_list, ba_list, ext_list, List.drop_zero, List.drop_zero, ← len_data a, List.take_length_add_append]
theorem ext_self (s : ByteArray) (k : Nat) (h : s.size ≤ k) : s.extract 0 k = s := by
  apply ba_ext
  rw [ext_list, List.drop_zero, List.take_of_length_le (by rw [len_data]; exact h)]
/-- A text is its cuts, one behind another. -/
theorem ext_parts (s : ByteArray) (a b c : Nat) (h1 : a ≤ b) (h2 : b ≤ c) : s.extract a c = s.extract a b ++ s.extract b c := by
  rw [ByteArray.extract_append_extract, Nat.min_eq_left h1, Nat.max_eq_right h2]

theorem frmB_eq (t : ByteArray) (h : t.size ≤ 100000) : frmB t = str (beL t.size 4) ++ (str (leB (crcV t.data.toList) 4) ++ t) := by
  rw [show frmB t = str (frmL t.data.toList) from if_pos h]
  unfold frmL
  rw [len_data, List.append_assoc, ← str_app, ← str_app, str_of]
theorem frmB_size (t : ByteArray) (h : t.size ≤ 100000) : (frmB t).size = 8 + t.size := by
  rw [frmB_eq t h, ByteArray.size_append, ByteArray.size_append, str_size, str_size, beL_len, leB_len]
  omega
theorem fr_parts (t u : ByteArray) (h : t.size ≤ 100000) : frmB t ++ u = str (beL t.size 4) ++ (str (leB (crcV t.data.toList) 4) ++ (t ++ u)) := by
  rw [frmB_eq t h, ByteArray.append_assoc, ByteArray.append_assoc]
theorem be_size (n : Nat) : (str (beL n 4)).size = 4 := by rw [str_size, beL_len]
theorem le_size (n : Nat) : (str (leB n 4)).size = 4 := by rw [str_size, leB_len]
theorem fr_n (t u : ByteArray) (h : t.size ≤ 100000) : frN (frmB t ++ u) = t.size := by
  unfold frN
  rw [fr_parts t u h, ext_left _ _ 4 (by rw [be_size]; omega), ext_self _ _ (by rw [be_size]; omega), str_list, numOf_beL, Nat.mod_eq_of_lt (by omega)]
theorem fr_chk (t u : ByteArray) (h : t.size ≤ 100000) : (frmB t ++ u).extract 4 8 = str (leB (crcV t.data.toList) 4) := by
  rw [fr_parts t u h]
  exact ext_mid _ _ _ 4 8 (by rw [be_size]) (by rw [be_size, le_size])
theorem fr_hd (t u : ByteArray) (h : t.size ≤ 100000) : frHd (frmB t ++ u) = t := by
  unfold frHd
  rw [fr_n t u h, fr_parts t u h, ← ByteArray.append_assoc]
  exact ext_mid _ _ _ _ _ (by rw [ByteArray.size_append, be_size, le_size]) (by rw [ByteArray.size_append, be_size, le_size])
theorem fr_ok (t u : ByteArray) (h : t.size ≤ 100000) : frOk (frmB t ++ u) := by
  have hs : (frmB t ++ u).size = 8 + t.size + u.size := by rw [ByteArray.size_append, frmB_size t h]
  have hh := fr_hd t u h
  unfold frHd at hh
  refine ⟨by omega, by rw [fr_n t u h]; exact h, by rw [fr_n t u h]; omega, ?_⟩
  rw [hh, fr_chk t u h]
theorem fr_tl (t u : ByteArray) (h : t.size ≤ 100000) : frTl (frmB t ++ u) = u := by
  have hs : (frmB t ++ u).size = 8 + t.size + u.size := by rw [ByteArray.size_append, frmB_size t h]
  unfold frTl
  rw [fr_n t u h]
  have e : frmB t ++ u = frmB t ++ (u ++ ByteArray.empty) := by rw [ByteArray.append_empty]
  rw [hs, e]
  exact ext_mid _ _ _ _ _ (by rw [frmB_size t h]) (by rw [frmB_size t h])
/-- What is taken as a frame is one. -/
theorem fr_is {r : ByteArray} (h : frOk r) : frmB (frHd r) ++ frTl r = r := by
  obtain ⟨h8, hN, hz, hc⟩ := h
  have hs : (frHd r).size = frN r := by unfold frHd; rw [ByteArray.size_extract]; omega
  rw [fr_parts _ _ (by rw [hs]; exact hN), hs]
  have e1 : str (beL (frN r) 4) = r.extract 0 4 := by
    unfold frN
    have := beL_numOf (r.extract 0 4).data.toList
    rw [len_data, show (r.extract 0 4).size = 4 by rw [ByteArray.size_extract]; omega] at this
    rw [this, str_of]
  have e2 : str (leB (crcV (frHd r).data.toList) 4) = r.extract 4 8 := hc
  rw [e1, e2]
  unfold frHd frTl
  rw [← ext_parts r 8 _ _ (by omega) hz, ← ext_parts r 4 8 _ (by omega) (by omega), ← ext_parts r 0 4 _ (by omega) (by omega), ext_all]

/-- Frames of these texts, one behind another. -/
def catF : List ByteArray → ByteArray
  | [] => ByteArray.mk #[]
  | t :: l => frmB t ++ catF l
def smallF (l : List ByteArray) : Prop := ∀ t ∈ l, t.size ≤ 100000
theorem ba_nil (s : ByteArray) : ByteArray.mk #[] ++ s = s := by apply ba_ext; rw [ba_list]; rfl
theorem nil_ba (s : ByteArray) : s ++ ByteArray.mk #[] = s := by apply ba_ext; rw [ba_list]; exact List.append_nil _
theorem catF_snoc (l : List ByteArray) (t : ByteArray) : catF (l ++ [t]) = catF l ++ frmB t := by
  induction l with
  | nil => show frmB t ++ ByteArray.mk #[] = ByteArray.mk #[] ++ frmB t; rw [ba_nil, nil_ba]
  | cons a l ih => show frmB a ++ catF (l ++ [t]) = frmB a ++ catF l ++ frmB t; rw [ih, ByteArray.append_assoc]
theorem takeF_small : ∀ (n : Nat) (r : ByteArray), smallF (takeF n r).1
  | 0, r => by intro t ht; simp [takeF] at ht
  | n + 1, r => by
    by_cases h : frOk r
    · rw [takeF_yes h]
      intro t ht
      rcases List.mem_cons.1 ht with rfl | ht
      · unfold frHd; rw [ByteArray.size_extract]; have := h.2.1; omega
      · exact takeF_small n (frTl r) t ht
    · rw [takeF_no h]; intro t ht; simp at ht
/-- The frames that were taken and what is left are the text. -/
theorem takeF_is : ∀ (n : Nat) (r : ByteArray), catF (takeF n r).1 ++ (takeF n r).2 = r
  | 0, r => ba_nil r
  | n + 1, r => by
    by_cases h : frOk r
    · rw [takeF_yes h]
      show frmB (frHd r) ++ catF _ ++ _ = r
      rw [ByteArray.append_assoc, takeF_is n (frTl r), fr_is h]
    · rw [takeF_no h]; exact ba_nil r
theorem takeF_fuel : ∀ (n m : Nat) (r : ByteArray), r.size ≤ n → r.size ≤ m → takeF n r = takeF m r
  | 0, m, r, h, _ => by rw [takeF_no (n := 0) (fun c => by have := c.1; omega), takeF_no (n := m) (fun c => by have := c.1; omega)]
  | n + 1, m, r, h, hm => by
    by_cases ho : frOk r
    · have hz := frTl_size ho
      have h8 := ho.1
      obtain ⟨q, rfl⟩ : ∃ q, m = q + 1 := ⟨m - 1, by omega⟩
      rw [takeF_yes ho, takeF_yes ho, takeF_fuel n q (frTl r) (by omega) (by omega)]
    · rw [takeF_no ho, takeF_no ho]
/-- Frames ahead of a text are taken off, one by one. -/
theorem takeF_cat : ∀ (l : List ByteArray) (u : ByteArray) (n : Nat), smallF l → (catF l ++ u).size ≤ n → takeF n (catF l ++ u) = (l ++ (takeF u.size u).1, (takeF u.size u).2)
  | [], u, n, _, h => by
    rw [show catF [] ++ u = u from ba_nil u] at h ⊢
    rw [takeF_fuel n u.size u h (Nat.le_refl _)]
    rfl
  | t :: l, u, n, hs, h => by
    have ht := hs t (List.mem_cons_self ..)
    have e : catF (t :: l) ++ u = frmB t ++ (catF l ++ u) := by show frmB t ++ catF l ++ u = _; rw [ByteArray.append_assoc]
    rw [e] at h ⊢
    have hz : (frmB t ++ (catF l ++ u)).size = 8 + t.size + (catF l ++ u).size := by rw [ByteArray.size_append, frmB_size t ht]
    obtain ⟨m, rfl⟩ : ∃ m, n = m + 1 := ⟨n - 1, by omega⟩
    rw [takeF_yes (fr_ok t _ ht), fr_hd t _ ht, fr_tl t _ ht, takeF_cat l u m (fun x hx => hs x (List.mem_cons_of_mem _ hx)) (by omega)]
    rfl
/-- Of frames that are cut the first few come back. -/
theorem takeF_cut : ∀ (l : List ByteArray) (k n : Nat), smallF l → k ≤ n → ∃ j, j ≤ l.length ∧ (takeF n ((catF l).extract 0 k)).1 = l.take j
  | [], k, n, _, h => by
    refine ⟨0, by simp, ?_⟩
    have e : (catF []).extract 0 k = ByteArray.mk #[] := ext_self _ _ (Nat.zero_le _)
    rw [e, takeF_no (fun c => by have := c.1; exact absurd this (by decide))]
    rfl
  | t :: l, k, n, hs, h => by
    have ht := hs t (List.mem_cons_self ..)
    by_cases hk : (frmB t).size ≤ k
    · obtain ⟨q, rfl⟩ : ∃ q, k = (frmB t).size + q := ⟨k - (frmB t).size, by omega⟩
      have e : (catF (t :: l)).extract 0 ((frmB t).size + q) = frmB t ++ (catF l).extract 0 q := ext_cat _ _ _
      have hz := frmB_size t ht
      obtain ⟨m, rfl⟩ : ∃ m, n = m + 1 := ⟨n - 1, by omega⟩
      obtain ⟨j, hj, hjj⟩ := takeF_cut l q m (fun x hx => hs x (List.mem_cons_of_mem _ hx)) (by omega)
      refine ⟨j + 1, by simp; omega, ?_⟩
      rw [e, takeF_yes (fr_ok t _ ht), fr_hd t _ ht, fr_tl t _ ht, hjj]
      rfl
    · refine ⟨0, by omega, ?_⟩
      have e : (catF (t :: l)).extract 0 k = (frmB t).extract 0 k := ext_left _ _ k (by omega)
      have hno : ¬ frOk ((catF (t :: l)).extract 0 k) := by
        intro c
        rw [e] at c
        have h8 := c.1
        have hz := c.2.2.1
        have es : ((frmB t).extract 0 k).size = k := by rw [ByteArray.size_extract]; omega
        rw [es] at h8 hz
        have en : frN ((frmB t).extract 0 k) = t.size := by
          have e4 : ((frmB t).extract 0 k).extract 0 4 = (frmB t).extract 0 4 := by rw [ByteArray.extract_extract]; congr 1; omega
          unfold frN
          rw [e4]
          have := fr_n t (ByteArray.mk #[]) ht
          unfold frN at this
          rw [nil_ba] at this
          exact this
        rw [en] at hz
        have := frmB_size t ht
        omega
      rw [takeF_no hno]
      rfl

end Go.My

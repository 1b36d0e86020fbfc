/- The contracts of the program's Expand and Hkdf. -/
import Derived.Test.YtgjnoleejbkddaaDoorGM5
namespace Go.Proofs.YtgjnoleejbkddaaDoor
open Go.RowKit Go.My Go.Lib
set_option linter.unusedVariables false
set_option maxRecDepth 100000

def expandV (p i : List UInt8) (n : Int) : List UInt8 := if p.length ≤ 300 ∧ i.length ≤ 300 ∧ 0 ≤ n ∧ n ≤ 255 then expandL p i n.toNat else []
theorem expandV_no {p i : ByteArray} {n : Int} (h : ¬ (p.size ≤ 300 ∧ i.size ≤ 300 ∧ 0 ≤ n ∧ n ≤ 255)) : expandV p.data.toList i.data.toList n = [] := if_neg (by rw [len_data, len_data]; exact h)
theorem expandV_yes {p i : ByteArray} {n : Nat} (h : p.size ≤ 300 ∧ i.size ≤ 300 ∧ n ≤ 255) : expandV p.data.toList i.data.toList n = expandL p.data.toList i.data.toList n := if_pos (by rw [len_data, len_data]; omega)
theorem cat3 (a b c : ByteArray) : catL [a, b, c] = a.data.toList ++ b.data.toList ++ c.data.toList := by simp [catL]

set_option maxHeartbeats 4000000 in
theorem expand_run (p i : ByteArray) (n : Nat) (w : World) (hk : TabK w) (hp : p.size ≤ 300) (hi : i.size ≤ 300) (hn : n ≤ 255) :
    Calls Tryd.prog 48 #[.string p, .string i, .int .i64 n] w fun e w' => e = .returned (.string (str (expandL p.data.toList i.data.toList n))) ∧ Below w.heap.size w w' := by
  have HP := Lib.hid (And.intro hp hi)
  have hn1 : (n : Int) ≤ 255 := by omega
  have hn0 : (0 : Int) ≤ (n : Int) := by omega
  have HN := Lib.hid hn
  have hi1 : (i.size : Int) ≤ 300 := by omega
  have hp1 : (p.size : Int) ≤ 300 := by omega
  have h0 := hk.1
  clear hp hi hn
  go_enter Tryd.func48, Tryd.ntmps48
  go_wp2_with fail
  go_loopw [7, 8, 9] (fun o t x wr => ∃ j : Nat, j ≤ (n + 31) / 32 ∧ x = .int .i64 ((j : Int) + 1) ∧ o = .string (str (oE p.data.toList i.data.toList j)) ∧ t = .string (str (tE p.data.toList i.data.toList j)) ∧ Below w.heap.size w wr)
    (fun _ _ x _ => 20 - (intOf x).toNat)
  case atStart => exact ⟨0, Nat.zero_le _, rfl, rfl, rfl, Below.refl _ _⟩
  case round =>
    obtain ⟨j, hj, rfl, rfl, rfl, hb⟩ := hrel
    have hol : (str (oE p.data.toList i.data.toList j)).size = 32 * j := by rw [str_size, oE_len]
    by_cases hlt : 32 * j < n
    · have b1 : ((str (oE p.data.toList i.data.toList j)).size : Int) < (n : Int) := by omega
      have b2 : ((str (oE p.data.toList i.data.toList j)).size : Int) ≤ 300 := by omega
      have htl : (str (tE p.data.toList i.data.toList j)).size ≤ 32 := by rw [str_size]; exact tE_len _ _ _
      have HO : Hid (str (oE p.data.toList i.data.toList j) ++ str (tE p.data.toList i.data.toList (j + 1)) = str (oE p.data.toList i.data.toList (j + 1))) := by show _ = _; rw [str_app]; rfl
      have HT : Hid (str (tE p.data.toList i.data.toList (j + 1)) = str (hmacL p.data.toList ((str (tE p.data.toList i.data.toList j)).data.toList ++ i.data.toList ++ [UInt8.ofNat (j + 1)]))) := by show _ = _; rw [str_list]; rfl
      have HTS : Hid ((str (tE p.data.toList i.data.toList (j + 1))).size = 32) := by show _ = _; rw [str_size, tE, hmacL_len]
      have HTL : Hid ((str (tE p.data.toList i.data.toList j)).size ≤ 32) := htl
      have HJ := Lib.hid (And.intro hj hlt)
      have hj8 : (j : Int) ≤ 8 := by omega
      have hj0 : (0 : Int) ≤ (j : Int) := by omega
      have hkr := hk.below hb h0
      have HKR := Lib.hid hkr
      clear hol hlt hj htl hkr
      generalize str (oE p.data.toList i.data.toList j) = O at *
      generalize str (tE p.data.toList i.data.toList j) = T at *
      go_wp2_with fail
      refine (newMac_any p _ HKR.out (by have := HP.out; omega)).mono ?_
      rintro e wm ⟨g, ii, oo, rfl, hup⟩
      go_wp2_with fail
      refine (num_impl ((j : Int) + 1) 1 _ (wf_i64b _ (by omega) (by omega)) (wf_i64b _ (by omega) (by omega))).mono ?_
      rintro e wn ⟨rfl, hbn⟩
      rw [numB_one j (by have := HJ.out; have := HN.out; omega)]
      have hD1 : (str [UInt8.ofNat (j + 1)]).data.toList = [UInt8.ofNat (j + 1)] := str_list _
      have hD2 : (str [UInt8.ofNat (j + 1)]).size = 1 := rfl
      have HD := Lib.hid (And.intro hD1 hD2)
      clear hD1 hD2
      generalize str [UInt8.ofNat (j + 1)] = D at *
      have hup2 : MacUp wr (wn.alloc (.cells #[.string T, .string i, .string D] 9)) g ii oo _ _ 64 64 := hup.below (((Below.refl _ _).trans hbn).alloc hbn.size _)
      have hil := hup.1.2.1.1.lt
      have hsz := hbn.size
      have HUP := Lib.hid (And.intro hup2 (by omega : wn.heap.size ≠ ii))
      clear hup2 hup hil hsz hbn
      go_wp2_with fail
      refine (hashOf_mac wr g ii oo wn.heap.size _ _ 64 64 [T, i, D] _ HUP.out.1 HUP.out.2 (heap_alloc_new wn _) ?_ (by simp) (by decide) (by decide)).mono ?_
      · intro q hq
        have h1 := HP.out
        have h2 := HTL.out
        have h3 := HD.out.2
        simp only [List.mem_cons, List.not_mem_nil, or_false] at hq
        rcases hq with rfl | rfl | rfl
        · omega
        · omega
        · omega
      rintro e w3 ⟨rfl, hb3⟩
      have HR : Hid (str (sumL (dputs (dputs S0 (maskL (keyL p.data.toList) 92)) (sumL (dputs (dputs S0 (maskL (keyL p.data.toList) 54)) (catL [T, i, D])) (64 + (catL [T, i, D]).length))) (64 + 32)) = str (tE p.data.toList i.data.toList (j + 1))) := by
        show _ = _
        rw [HT.out, cat3, HD.out.1]
        rfl
      rw [HR.out]
      have hc3 : ¬ 9223372036854775807 < O.size + (str (tE p.data.toList i.data.toList (j + 1))).size := by have := HTS.out; omega
      have hbq := hb.trans (hb3.mono hb.size)
      clear hb hb3 b1 b2 HUP HR
      generalize hX : str (tE p.data.toList i.data.toList (j + 1)) = X at *
      have HX := Lib.hid hX
      clear hX
      go_wp2
      go_roundw
      case rel => exact ⟨j + 1, by have := HJ.out; omega, by go_num, by rw [HO.out], by rw [HX.out], hbq⟩
      case measure => simp [intOf]; have := HJ.out; omega
    · have hje : j = (n + 31) / 32 := by omega
      have b1 : (n : Int) ≤ ((str (oE p.data.toList i.data.toList j)).size : Int) := by omega
      have HE : Hid ((str (oE p.data.toList i.data.toList j)).extract 0 n = str (expandL p.data.toList i.data.toList n)) := by
        show _ = _
        rw [str_take, hje]
        rfl
      have b2 : ((str (oE p.data.toList i.data.toList j)).size : Int) ≤ 300 := by omega
      clear hlt hj hje hol
      generalize str (oE p.data.toList i.data.toList j) = O at *
      go_wp2
      go_ret
      exact ⟨by rw [← HE.out]; rfl, hb⟩

set_option maxHeartbeats 2000000 in
theorem expand_impl (p i : ByteArray) (n : Int) (w : World) (hk : TabK w) :
    Calls Tryd.prog 48 #[.string p, .string i, .int .i64 n] w fun e w' => e = .returned (.string (str (expandV p.data.toList i.data.toList n))) ∧ Below w.heap.size w w' := by
  by_cases h1 : p.size ≤ 300
  case neg =>
    have HV := Lib.hid (expandV_no (p := p) (i := i) (n := n) (by omega))
    have h1' : (300 : Int) < (p.size : Int) := by omega
    clear h1
    go_enter Tryd.func48, Tryd.ntmps48
    go_wp2
    go_ret
    exact ⟨by rw [HV.out]; rfl, Below.refl _ _⟩
  by_cases h2 : i.size ≤ 300
  case neg =>
    have HV := Lib.hid (expandV_no (p := p) (i := i) (n := n) (by omega))
    have h1' : (p.size : Int) ≤ 300 := by omega
    have h2' : (300 : Int) < (i.size : Int) := by omega
    clear h1 h2
    go_enter Tryd.func48, Tryd.ntmps48
    go_wp2
    go_ret
    exact ⟨by rw [HV.out]; rfl, Below.refl _ _⟩
  by_cases h3 : 0 ≤ n
  case neg =>
    have HV := Lib.hid (expandV_no (p := p) (i := i) (n := n) (by omega))
    have h1' : (p.size : Int) ≤ 300 := by omega
    have h2' : (i.size : Int) ≤ 300 := by omega
    have h3' : n < 0 := by omega
    clear h1 h2 h3
    go_enter Tryd.func48, Tryd.ntmps48
    go_wp2
    go_ret
    exact ⟨by rw [HV.out]; rfl, Below.refl _ _⟩
  by_cases h4 : n ≤ 255
  case neg =>
    have HV := Lib.hid (expandV_no (p := p) (i := i) (n := n) (by omega))
    have h1' : (p.size : Int) ≤ 300 := by omega
    have h2' : (i.size : Int) ≤ 300 := by omega
    have h4' : 255 < n := by omega
    clear h1 h2 h4
    go_enter Tryd.func48, Tryd.ntmps48
    go_wp2
    go_ret
    exact ⟨by rw [HV.out]; rfl, Below.refl _ _⟩
  obtain ⟨m, rfl⟩ : ∃ m : Nat, n = m := ⟨n.toNat, by omega⟩
  rw [expandV_yes ⟨h1, h2, by omega⟩]
  exact expand_run p i m w hk h1 h2 (by omega)

def hkdfV (s k i : List UInt8) (n : Int) : List UInt8 := if s.length ≤ 300 ∧ k.length ≤ 300 then expandV (hmacL s k) i n else []
theorem hkdfV_no {s k : ByteArray} {i : List UInt8} {n : Int} (h : ¬ (s.size ≤ 300 ∧ k.size ≤ 300)) : hkdfV s.data.toList k.data.toList i n = [] := if_neg (by rw [len_data, len_data]; exact h)
theorem hkdfV_yes {s k : ByteArray} {i : List UInt8} {n : Int} (h : s.size ≤ 300 ∧ k.size ≤ 300) : hkdfV s.data.toList k.data.toList i n = expandV (hmacL s.data.toList k.data.toList) i n := if_pos (by rw [len_data, len_data]; exact h)

set_option maxHeartbeats 2000000 in
theorem hkdf_impl (s k i : ByteArray) (n : Int) (w : World) (hk : TabK w) :
    Calls Tryd.prog 38 #[.string s, .string k, .string i, .int .i64 n] w fun e w' => e = .returned (.string (str (hkdfV s.data.toList k.data.toList i.data.toList n))) ∧ Below w.heap.size w w' := by
  by_cases h1 : s.size ≤ 300
  case neg =>
    have HV := Lib.hid (hkdfV_no (s := s) (k := k) (i := i.data.toList) (n := n) (by omega))
    have h1' : (300 : Int) < (s.size : Int) := by omega
    clear h1
    go_enter Tryd.func38, Tryd.ntmps38
    go_wp2
    go_ret
    exact ⟨by rw [HV.out]; rfl, Below.refl _ _⟩
  by_cases h2 : k.size ≤ 300
  case neg =>
    have HV := Lib.hid (hkdfV_no (s := s) (k := k) (i := i.data.toList) (n := n) (by omega))
    have h1' : (s.size : Int) ≤ 300 := by omega
    have h2' : (300 : Int) < (k.size : Int) := by omega
    clear h1 h2
    go_enter Tryd.func38, Tryd.ntmps38
    go_wp2
    go_ret
    exact ⟨by rw [HV.out]; rfl, Below.refl _ _⟩
  have HV := Lib.hid (hkdfV_yes (i := i.data.toList) (n := n) (And.intro h1 h2))
  have HX : Hid (extractV s.data.toList k.data.toList = hmacL s.data.toList k.data.toList) := if_pos ⟨by rw [len_data]; exact h1, by rw [len_data]; exact h2⟩
  have h1' : (s.size : Int) ≤ 300 := by omega
  have h2' : (k.size : Int) ≤ 300 := by omega
  have h0 := hk.1
  clear h1 h2
  go_enter Tryd.func38, Tryd.ntmps38
  go_wp2_with fail
  refine (extract_impl s k _ hk).mono ?_
  rintro e w1 ⟨rfl, hb1⟩
  rw [HX.out]
  have hk1 := hk.below hb1 h0
  go_wp2_with fail
  refine (expand_impl (str (hmacL s.data.toList k.data.toList)) i n _ hk1).mono ?_
  rintro e w2 ⟨rfl, hb2⟩
  rw [str_list, ← HV.out]
  go_wp2
  go_ret
  exact ⟨rfl, hb1.trans (hb2.mono hb1.size)⟩

/-! ### The specification's -/
set_option maxHeartbeats 2000000 in
theorem l2Hkdf_spec (s k i : ByteArray) (n : Nat) (w : World) (h1 : s.size ≤ 1000) (h2 : k.size ≤ 1000) (h3 : i.size ≤ 1000) (hn : n ≤ 255) :
    Calls Tryd.prog 13 #[.string s, .string k, .string i, .int .i64 n] w fun e w' => e = .returned (.string (str (expandL (hmacL s.data.toList k.data.toList) i.data.toList n))) ∧ Below w.heap.size w w' := by
  have HS := Lib.hid (And.intro h1 (And.intro h2 (And.intro h3 hn)))
  clear h1 h2 h3 hn
  go_enter Tryd.func13, Tryd.ntmps13
  go_wp2_with fail
  refine (l2Hmac_spec s k _ (by have := HS.out; omega) (by have := HS.out; omega)).mono ?_
  rintro e w1 ⟨rfl, hb1⟩
  go_wp2_with fail
  refine (l2Expand_spec (str (hmacL s.data.toList k.data.toList)) i n _ (by rw [str_size, hmacL_len]; omega) (by have := HS.out; omega) (by have := HS.out; omega)).mono ?_
  rintro e w2 ⟨rfl, hb2⟩
  rw [str_list]
  go_wp2
  go_ret
  exact ⟨rfl, hb1.trans (hb2.mono hb1.size)⟩

theorem hkdfV_no2 {s k i : ByteArray} {n : Int} (h : ¬ (i.size ≤ 300 ∧ 0 ≤ n ∧ n ≤ 255)) : hkdfV s.data.toList k.data.toList i.data.toList n = [] := by
  unfold hkdfV
  by_cases c : s.data.toList.length ≤ 300 ∧ k.data.toList.length ≤ 300
  · rw [if_pos c]
    exact if_neg (fun d => h (by rw [len_data] at d; exact d.2))
  · rw [if_neg c]
theorem hkdfV_yes2 {s k i : ByteArray} {n : Nat} (h : s.size ≤ 300 ∧ k.size ≤ 300 ∧ i.size ≤ 300 ∧ n ≤ 255) : hkdfV s.data.toList k.data.toList i.data.toList n = expandL (hmacL s.data.toList k.data.toList) i.data.toList n := by
  rw [hkdfV_yes ⟨h.1, h.2.1⟩]
  exact if_pos (by rw [hmacL_len, len_data]; omega)

end Go.Proofs.YtgjnoleejbkddaaDoor

import Derived.Test.YtgjnoleejbkddaaDoorRows
import Derived.Test.YtgjnoleejbkddaaDoorGM0
import Derived.Test.YtgjnoleejbkddaaDoorGSmall
import Derived.Test.YtgjnoleejbkddaaDoorGM1
import Derived.Lib.Hide
import Derived.BigQuiet
import Derived.Deep.QuietTactic
import Derived.Test.YtgjnoleejbkddaaDoorGM4
/- The contract of the program's NumBytes. -/
namespace Go.Proofs.YtgjnoleejbkddaaDoor
open Go.RowKit Go.My
set_option linter.unusedVariables false
set_option maxRecDepth 100000

set_option maxHeartbeats 400000 in
theorem num_impl (n k : Int) (w : World) (hn : (Lit.int .i64 n).wf = true) (hk : (Lit.int .i64 k).wf = true) :
    Calls Tryd.prog 60 #[.int .i64 n, .int .i64 k] w fun e w' => e = .returned (.string (str (numB n k))) ∧ Below w.heap.size w w' := by
  by_cases hk1 : k < 1
  · go_enter Tryd.func60, Tryd.ntmps60
    go_wp2
    go_ret
    exact ⟨by rw [numB_no (by omega)]; rfl, Below.refl _ _⟩
  by_cases hk7 : 7 < k
  · go_enter Tryd.func60, Tryd.ntmps60
    go_wp2
    go_ret
    exact ⟨by rw [numB_no (by omega)]; rfl, Below.refl _ _⟩
  by_cases hn0 : n < 0
  · go_enter Tryd.func60, Tryd.ntmps60
    go_wp2
    go_ret
    exact ⟨by rw [numB_no (by omega)]; rfl, Below.refl _ _⟩
  obtain ⟨K, rfl⟩ : ∃ K : Nat, k = K := ⟨k.toNat, by omega⟩
  obtain ⟨M, rfl⟩ : ∃ M : Nat, n = M := ⟨n.toNat, by omega⟩
  have hM : (M : Int) ≤ 9223372036854775807 := by simp [Lit.wf, IntKind.min, IntKind.max, IntKind.signed, IntKind.bits] at hn; omega
  have hu : IntKind.u64.wrap (M : Int) = (M : Int) := IntWalk.u64_in _ ⟨by omega, by omega⟩
  have hMU : M < U64 := by unfold U64; omega
  clear hn hk hM
  by_cases hb : (M : Int) < 2 ^ (8 * K)
  · have hd : ((M : Int) / 2 ^ (8 * K) != 0) = false := by rw [Int.ediv_eq_zero_of_lt (by omega) hb]; rfl
    have HB : Hid ((M : Int) < 2 ^ (8 * K)) := hb
    clear hb
    go_enter Tryd.func60, Tryd.ntmps60
    go_wp2_with fail
    refine (be_impl M K _ hMU (by omega)).mono ?_
    rintro e w1 ⟨rfl, hb1⟩
    go_wp2
    go_ret
    exact ⟨by rw [numB_yes ⟨hk1, hk7, hn0, HB.out⟩]; rfl, hb1⟩
  · have hd : ((M : Int) / 2 ^ (8 * K) != 0) = true := by
      have h2 : (1 : Int) ≤ (M : Int) / 2 ^ (8 * K) := (Int.le_ediv_iff_mul_le (Int.pow_pos (by omega))).2 (by omega)
      simp; omega
    have HB : Hid (2 ^ (8 * K) ≤ (M : Int)) := Int.not_lt.1 hb
    clear hb
    go_enter Tryd.func60, Tryd.ntmps60
    go_wp2
    go_ret
    exact ⟨by rw [numB_big (k := (K : Int)) (Int.not_lt.2 HB.out)]; rfl, Below.refl _ _⟩

end Go.Proofs.YtgjnoleejbkddaaDoor

/- The contracts of Expand and Hkdf, the specification's and the program's. -/
namespace Go.Proofs.YtgjnoleejbkddaaDoor
open Go.RowKit Go.My Go.Lib
set_option linter.unusedVariables false
set_option maxRecDepth 100000

theorem wf_i64b (n : Int) (h0 : -9223372036854775808 ≤ n) (h1 : n ≤ 9223372036854775807) : (Lit.int .i64 n).wf = true := by
  simp [Lit.wf, IntKind.min, IntKind.max, IntKind.signed, IntKind.bits]
  omega

/-- The blocks of Expand, and what the first ones are together. -/
def tE (p i : List UInt8) : Nat → List UInt8
  | 0 => []
  | j + 1 => hmacL p (tE p i j ++ i ++ [UInt8.ofNat (j + 1)])
def oE (p i : List UInt8) : Nat → List UInt8
  | 0 => []
  | j + 1 => oE p i j ++ tE p i (j + 1)
theorem hmacL_len (k s : List UInt8) : (hmacL k s).length = 32 := sumL_len _ _
theorem tE_len (p i : List UInt8) (j : Nat) : (tE p i j).length ≤ 32 := by
  cases j with
  | zero => exact Nat.zero_le _
  | succ j => rw [tE, hmacL_len]; exact Nat.le_refl _
theorem oE_len (p i : List UInt8) (j : Nat) : (oE p i j).length = 32 * j := by
  induction j with
  | zero => rfl
  | succ j ih => rw [oE, List.length_append, ih, tE, hmacL_len]; omega
def expandL (p i : List UInt8) (n : Nat) : List UInt8 := (oE p i ((n + 31) / 32)).take n
theorem expandL_len (p i : List UInt8) (n : Nat) : (expandL p i n).length = n := by
  unfold expandL
  rw [List.length_take, oE_len]
  omega
theorem be1 (x : Nat) : beL x 1 = [UInt8.ofNat x] := by
  show [UInt8.ofNat (x / 256 ^ (1 - 1 - 0))] = _
  simp
theorem be1_wrap (j : Nat) (h : j ≤ 100) : beL (IntKind.u64.wrap ((j : Int) + 1)).toNat 1 = [UInt8.ofNat (j + 1)] := by
  rw [be1]
  congr 2
  rw [IntKind.wrap_u64]
  omega
theorem numB_one (j : Nat) (h : j ≤ 100) : numB ((j : Int) + 1) 1 = [UInt8.ofNat (j + 1)] := by
  have e : (2 : Int) ^ (8 * (1 : Int).toNat) = 256 := by decide
  rw [numB_yes ⟨by omega, by omega, by omega, by rw [e]; omega⟩]
  rw [show ((j : Int) + 1).toNat = j + 1 by omega, show (1 : Int).toNat = 1 from rfl, be1]
theorem extract_take (B : ByteArray) (k : Nat) : (B.extract 0 k).data.toList = B.data.toList.take k := by
  have := extract_list B 0 k
  rw [Nat.zero_add, List.drop_zero] at this
  exact this
theorem str_take (l : List UInt8) (k : Nat) : (str l).extract 0 k = str (l.take k) := by
  have h := extract_take (str l) k
  rw [str_list] at h
  rw [← str_of ((str l).extract 0 k), h]

set_option maxHeartbeats 4000000 in
theorem l2Expand_spec (p i : ByteArray) (n : Nat) (w : World) (hp : p.size ≤ 1000) (hi : i.size ≤ 1000) (hn : n ≤ 255) :
    Calls Tryd.prog 29 #[.string p, .string i, .int .i64 n] w fun e w' => e = .returned (.string (str (expandL p.data.toList i.data.toList n))) ∧ Below w.heap.size w w' := by
  have HP := Lib.hid (And.intro hp hi)
  have hn1 : (n : Int) ≤ 255 := by omega
  have hn0 : (0 : Int) ≤ (n : Int) := by omega
  have HN := Lib.hid hn
  have hi1 : (i.size : Int) ≤ 1000 := by omega
  clear hp hi hn
  go_enter Tryd.func29, Tryd.ntmps29
  go_wp2_with fail
  go_loopw [7, 8, 9] (fun o t x wr => ∃ j : Nat, j ≤ (n + 31) / 32 ∧ x = .int .i64 ((j : Int) + 1) ∧ o = .string (str (oE p.data.toList i.data.toList j)) ∧ t = .string (str (tE p.data.toList i.data.toList j)) ∧ Below w.heap.size w wr)
    (fun _ _ x _ => 20 - (intOf x).toNat)
  case atStart => exact ⟨0, Nat.zero_le _, rfl, rfl, rfl, Below.refl _ _⟩
  case round =>
    obtain ⟨j, hj, rfl, rfl, rfl, hb⟩ := hrel
    have hol : (str (oE p.data.toList i.data.toList j)).size = 32 * j := by rw [str_size, oE_len]
    by_cases hlt : 32 * j < n
    · have b1 : ((str (oE p.data.toList i.data.toList j)).size : Int) < (n : Int) := by omega
      have b2 : ((str (oE p.data.toList i.data.toList j)).size : Int) ≤ 300 := by omega
      have htl : (str (tE p.data.toList i.data.toList j)).size ≤ 32 := by rw [str_size]; exact tE_len _ _ _
      have HO : Hid (str (oE p.data.toList i.data.toList j) ++ str (tE p.data.toList i.data.toList (j + 1)) = str (oE p.data.toList i.data.toList (j + 1))) := by show _ = _; rw [str_app]; rfl
      have HT : Hid (str (tE p.data.toList i.data.toList (j + 1)) = str (hmacL p.data.toList ((str (tE p.data.toList i.data.toList j)).data.toList ++ i.data.toList ++ [UInt8.ofNat (j + 1)]))) := by show _ = _; rw [str_list]; rfl
      have HTS : Hid ((str (tE p.data.toList i.data.toList (j + 1))).size = 32) := by show _ = _; rw [str_size, tE, hmacL_len]
      have HOS : Hid ((str (oE p.data.toList i.data.toList j)).size = 32 * j) := hol
      have HJ := Lib.hid (And.intro hj hlt)
      have hj8 : (j : Int) ≤ 8 := by omega
      have hj0 : (0 : Int) ≤ (j : Int) := by omega
      have t1 : ((str (tE p.data.toList i.data.toList j)).size : Int) ≤ 32 := by omega
      have hc1 : ¬ 9223372036854775807 < (str (tE p.data.toList i.data.toList j)).size + i.size := by have := HP.out; omega
      clear hol hlt hj htl
      generalize str (oE p.data.toList i.data.toList j) = O at *
      generalize str (tE p.data.toList i.data.toList j) = T at *
      go_wp2_with fail
      refine (be_spec ((j : Int) + 1) 1 _ (wf_i64b _ (by omega) (by omega)) (by omega)).mono ?_
      rintro e w2 ⟨rfl, hb2⟩
      rw [be1_wrap j (by have := HJ.out; have := HN.out; omega)]
      have hs1 : (str [UInt8.ofNat (j + 1)]).size = 1 := rfl
      have hti : (T ++ i).size = T.size + i.size := ByteArray.size_append
      have hc2 : ¬ 9223372036854775807 < (T ++ i).size + (str [UInt8.ofNat (j + 1)]).size := by have := HP.out; omega
      have HL : Hid ((T ++ i ++ str [UInt8.ofNat (j + 1)]).data.toList = T.data.toList ++ i.data.toList ++ [UInt8.ofNat (j + 1)]) := by
        show _ = _
        rw [ByteArray.data_append, ByteArray.data_append, Array.toList_append, Array.toList_append, str_list]
      have HLS : Hid ((T ++ i ++ str [UInt8.ofNat (j + 1)]).size ≤ 2000) := by
        show _ ≤ _
        rw [ByteArray.size_append]; have := HP.out; omega
      clear hti hs1
      generalize str [UInt8.ofNat (j + 1)] = D at *
      go_wp2_with fail
      refine (l2Hmac_spec p (T ++ i ++ D) _ (by have := HP.out; omega) (by have := HLS.out; omega)).mono ?_
      rintro e w3 ⟨rfl, hb3⟩
      rw [HL.out, ← HT.out]
      have hc3 : ¬ 9223372036854775807 < O.size + (str (tE p.data.toList i.data.toList (j + 1))).size := by have := HTS.out; omega
      have hbq := hb.trans ((hb2.trans (hb3.mono hb2.size)).mono hb.size)
      clear hb hb2 hb3 hc1 hc2 b1 b2 t1
      generalize hX : str (tE p.data.toList i.data.toList (j + 1)) = X at *
      have HX := Lib.hid hX
      clear hX
      go_wp2
      go_roundw
      case rel => exact ⟨j + 1, by have := HJ.out; omega, by go_num, by rw [HO.out], by rw [HX.out], hbq⟩
      case measure => simp [intOf]; have := HJ.out; omega
    · have hje : j = (n + 31) / 32 := by omega
      have b1 : (n : Int) ≤ ((str (oE p.data.toList i.data.toList j)).size : Int) := by omega
      have HE : Hid ((str (oE p.data.toList i.data.toList j)).extract 0 n = str (expandL p.data.toList i.data.toList n)) := by
        show _ = _
        rw [str_take, hje]
        rfl
      have b2 : ((str (oE p.data.toList i.data.toList j)).size : Int) ≤ 300 := by omega
      clear hlt hj hje hol
      generalize str (oE p.data.toList i.data.toList j) = O at *
      go_wp2
      go_ret
      exact ⟨by rw [← HE.out]; rfl, hb⟩

end Go.Proofs.YtgjnoleejbkddaaDoor

/- Key chains: a step, of the program and of the specification. -/
import Derived.Test.YtabomojhbfbgbaaDoorSha11
namespace Go.Proofs.YtabomojhbfbgbaaDoor
open Go.RowKit Go.My Go.Lib
set_option linter.unusedVariables false

theorem key_dec (s : ByteArray) : ((s.size : Int) == 32) = decide (s.size = 32) := by
  by_cases h : s.size = 32
  · rw [h]; rfl
  · rw [decide_eq_false h]; exact beq_eq_false_iff_ne.2 (by omega)
theorem isKey_i (s : ByteArray) (w : World) (b : Bool) (hb : decide (s.size = 32) = b) (hs : s.size ≤ 9223372036854775807) :
    Calls Tryd.prog 43 #[.string s] w fun e w' => e = .returned (.bool b) ∧ w = w' := by
  subst hb
  have hd := key_dec s
  go_enter Tryd.func43, Tryd.ntmps43
  go_wp2
  go_ret
  exact ⟨rfl, rfl⟩
theorem isKey_s (s : ByteArray) (w : World) (b : Bool) (hb : decide (s.size = 32) = b) (hs : s.size ≤ 9223372036854775807) :
    Calls Tryd.prog 41 #[.string s] w fun e w' => e = .returned (.bool b) ∧ w = w' := by
  subst hb
  have hd := key_dec s
  go_enter Tryd.func41, Tryd.ntmps41
  go_wp2
  go_ret
  exact ⟨rfl, rfl⟩

/-- What a step gives: the next chain key and the message key. -/
def nextS (k : ByteArray) : ByteArray := str (hmacL k.data.toList [2])
def nowS (k : ByteArray) : ByteArray := str (hmacL k.data.toList [1])
theorem nextS_size (k : ByteArray) : (nextS k).size = 32 := by unfold nextS; rw [str_size, hmacL_len]
theorem nowS_size (k : ByteArray) : (nowS k).size = 32 := by unfold nowS; rw [str_size, hmacL_len]
theorem hmacV_next (k : ByteArray) (h : k.size = 32) : str (hmacV k.data.toList (ByteArray.mk #[2]).data.toList) = nextS k := by
  unfold nextS hmacV
  rw [if_pos ⟨by rw [len_data]; omega, by decide⟩]
theorem hmacV_now (k : ByteArray) (h : k.size = 32) : str (hmacV k.data.toList (ByteArray.mk #[1]).data.toList) = nowS k := by
  unfold nowS hmacV
  rw [if_pos ⟨by rw [len_data]; omega, by decide⟩]

set_option maxHeartbeats 2000000 in
theorem l6Step_any (k : ByteArray) (w : World) (h : k.size = 32) :
    Calls Tryd.prog 42 #[.string k] w fun e w' => e = .returned (.tuple #[.string (nextS k), .string (nowS k)]) ∧ Below w.heap.size w w' := by
  have HS := Lib.hid h
  clear h
  go_enter Tryd.func42, Tryd.ntmps42
  go_wp2_with fail
  refine (l2Hmac_spec k (ByteArray.mk #[2]) _ (by have := HS.out; omega) (by decide)).mono ?_
  rintro e w1 ⟨rfl, hb1⟩
  go_wp2_with fail
  refine (l2Hmac_spec k (ByteArray.mk #[1]) _ (by have := HS.out; omega) (by decide)).mono ?_
  rintro e w2 ⟨rfl, hb2⟩
  go_wp2
  go_ret2
  exact ⟨rfl, hb1.trans (hb2.mono hb1.size)⟩
def stepV (k : ByteArray) : Value := if k.size = 32 then .tuple #[.string (nextS k), .string (nowS k)] else .tuple #[.string ⟨#[]⟩, .string ⟨#[]⟩]
theorem stepV_yes (k : ByteArray) (h : k.size = 32) : stepV k = .tuple #[.string (nextS k), .string (nowS k)] := if_pos h
theorem stepV_no (k : ByteArray) (h : ¬ k.size = 32) : stepV k = .tuple #[.string ⟨#[]⟩, .string ⟨#[]⟩] := if_neg h

set_option maxHeartbeats 2000000 in
theorem step_spec (k : ByteArray) (w : World) (hs : k.size ≤ 9223372036854775807) :
    Calls Tryd.prog 21 #[.string k] w fun e w' => e = .returned (stepV k) ∧ Below w.heap.size w w' := by
  by_cases h : k.size = 32
  case neg =>
    have HV := Lib.hid (stepV_no k h)
    go_enter Tryd.func21, Tryd.ntmps21
    go_wp2_with fail
    refine (isKey_s k _ _ (decide_eq_false h) hs).mono ?_
    rintro e w1 ⟨rfl, rfl⟩
    clear h
    go_wp2
    go_ret2
    exact ⟨by rw [HV.out]; rfl, Below.refl _ _⟩
  have HV := Lib.hid (stepV_yes k h)
  have HS := Lib.hid h
  go_enter Tryd.func21, Tryd.ntmps21
  go_wp2_with fail
  refine (isKey_s k _ _ (decide_eq_true h) hs).mono ?_
  rintro e w1 ⟨rfl, rfl⟩
  clear h
  go_wp2_with fail
  refine (l6Step_any k _ HS.out).mono ?_
  rintro e w1 ⟨rfl, hb1⟩
  go_wp2
  go_ret2
  exact ⟨by rw [HV.out]; rfl, hb1⟩

set_option maxHeartbeats 2000000 in
theorem step_impl (k : ByteArray) (w : World) (hk : TabK w) (hs : k.size ≤ 9223372036854775807) :
    Calls Tryd.prog 22 #[.string k] w fun e w' => e = .returned (stepV k) ∧ Below w.heap.size w w' := by
  by_cases h : k.size = 32
  case neg =>
    have HV := Lib.hid (stepV_no k h)
    go_enter Tryd.func22, Tryd.ntmps22
    go_wp2_with fail
    refine (isKey_i k _ _ (decide_eq_false h) hs).mono ?_
    rintro e w1 ⟨rfl, rfl⟩
    clear h
    go_wp2
    go_ret2
    exact ⟨by rw [HV.out]; rfl, Below.refl _ _⟩
  have HV := Lib.hid (stepV_yes k h)
  have HS := Lib.hid h
  go_enter Tryd.func22, Tryd.ntmps22
  go_wp2_with fail
  refine (isKey_i k _ _ (decide_eq_true h) hs).mono ?_
  rintro e w1 ⟨rfl, rfl⟩
  clear h
  go_wp2_with fail
  refine (hmac_impl k (ByteArray.mk #[2]) _ hk).mono ?_
  rintro e w1 ⟨rfl, hb1⟩
  rw [hmacV_next k HS.out]
  go_wp2_with fail
  refine (hmac_impl k (ByteArray.mk #[1]) _ (hk.below hb1 hk.1)).mono ?_
  rintro e w2 ⟨rfl, hb2⟩
  rw [hmacV_now k HS.out]
  go_wp2
  go_ret2
  exact ⟨by rw [HV.out]; rfl, hb1.trans (hb2.mono hb1.size)⟩

end Go.Proofs.YtabomojhbfbgbaaDoor

import Derived.Test.YtfbcmckepdjdkaaDoorGSha11
import Derived.Deep.QuietTactic
import Derived.BigQuiet
/- Key chains: a step, of the program and of the specification. -/
namespace Go.Proofs.YtfbcmckepdjdkaaDoor
open Go.RowKit Go.My Go.Lib
set_option linter.unusedVariables false
set_option maxRecDepth 100000

theorem key_dec (s : ByteArray) : ((s.size : Int) == 32) = decide (s.size = 32) := by
  by_cases h : s.size = 32
  · rw [h]; rfl
  · rw [decide_eq_false h]; exact beq_eq_false_iff_ne.2 (by omega)
theorem isKey_i (s : ByteArray) (w : World) (b : Bool) (hb : decide (s.size = 32) = b) (hs : s.size ≤ 9223372036854775807) :
    Calls Tryd.prog 83 #[.string s] w fun e w' => e = .returned (.bool b) ∧ w = w' := by
  subst hb
  have hd := key_dec s
  go_enter Tryd.func83, Tryd.ntmps83
  go_wp2
  go_ret
  exact ⟨rfl, rfl⟩
theorem isKey_s (s : ByteArray) (w : World) (b : Bool) (hb : decide (s.size = 32) = b) (hs : s.size ≤ 9223372036854775807) :
    Calls Tryd.prog 62 #[.string s] w fun e w' => e = .returned (.bool b) ∧ w = w' := by
  subst hb
  have hd := key_dec s
  go_enter Tryd.func62, Tryd.ntmps62
  go_wp2
  go_ret
  exact ⟨rfl, rfl⟩

/-- What a step gives: the next chain key and the message key. -/
def nextS (k : ByteArray) : ByteArray := str (hmacL k.data.toList [2])
def nowS (k : ByteArray) : ByteArray := str (hmacL k.data.toList [1])
theorem nextS_size (k : ByteArray) : (nextS k).size = 32 := by unfold nextS; rw [str_size, hmacL_len]
theorem nowS_size (k : ByteArray) : (nowS k).size = 32 := by unfold nowS; rw [str_size, hmacL_len]
theorem hmacV_next (k : ByteArray) (h : k.size = 32) : str (hmacV k.data.toList (ByteArray.mk #[2]).data.toList) = nextS k := by
  unfold nextS hmacV
  rw [if_pos ⟨by rw [len_data]; omega, by decide⟩]
theorem hmacV_now (k : ByteArray) (h : k.size = 32) : str (hmacV k.data.toList (ByteArray.mk #[1]).data.toList) = nowS k := by
  unfold nowS hmacV
  rw [if_pos ⟨by rw [len_data]; omega, by decide⟩]

def stepV (k : ByteArray) : Value := if k.size = 32 then .tuple #[.string (nextS k), .string (nowS k)] else .tuple #[.string ⟨#[]⟩, .string ⟨#[]⟩]
theorem stepV_yes (k : ByteArray) (h : k.size = 32) : stepV k = .tuple #[.string (nextS k), .string (nowS k)] := if_pos h
theorem stepV_no (k : ByteArray) (h : ¬ k.size = 32) : stepV k = .tuple #[.string ⟨#[]⟩, .string ⟨#[]⟩] := if_neg h

end Go.Proofs.YtfbcmckepdjdkaaDoor

/- Key chains: the root's step, of the program and of the specification. -/
namespace Go.Proofs.YtfbcmckepdjdkaaDoor
open Go.RowKit Go.My Go.Lib
set_option linter.unusedVariables false
set_option maxRecDepth 100000

def rootE (r d : ByteArray) : ByteArray := str (expandL (hmacL r.data.toList d.data.toList) [114, 111, 111, 116] 64)
theorem rootE_size (r d : ByteArray) : (rootE r d).size = 64 := by unfold rootE; rw [str_size, expandL_len]
def rootV (r d : ByteArray) : Value := if r.size = 32 ∧ d.size = 32 then .tuple #[.string ((rootE r d).extract 0 32), .string ((rootE r d).extract 32 64)] else .tuple #[.string ⟨#[]⟩, .string ⟨#[]⟩]
theorem rootV_yes (r d : ByteArray) (h : r.size = 32 ∧ d.size = 32) : rootV r d = .tuple #[.string ((rootE r d).extract 0 32), .string ((rootE r d).extract 32 64)] := if_pos h
theorem rootV_no (r d : ByteArray) (h : ¬ (r.size = 32 ∧ d.size = 32)) : rootV r d = .tuple #[.string ⟨#[]⟩, .string ⟨#[]⟩] := if_neg h
theorem hkdfV_root (r d : ByteArray) (h : r.size = 32 ∧ d.size = 32) : str (hkdfV r.data.toList d.data.toList (ByteArray.mk #[114, 111, 111, 116]).data.toList 64) = rootE r d := by
  have h4 : (ByteArray.mk #[114, 111, 111, 116]).size ≤ 300 := by decide
  have := hkdfV_yes2 (s := r) (k := d) (i := ByteArray.mk #[114, 111, 111, 116]) (n := 64) ⟨by omega, by omega, h4, by omega⟩
  exact congrArg str this

set_option maxHeartbeats 2000000 in
theorem l6Root_any (r d : ByteArray) (w : World) (h : r.size = 32 ∧ d.size = 32) :
    Calls Tryd.prog 64 #[.string r, .string d] w fun e w' => e = .returned (.tuple #[.string ((rootE r d).extract 0 32), .string ((rootE r d).extract 32 64)]) ∧ Below w.heap.size w w' := by
  have hE : ∀ w, Calls Tryd.prog 93 #[.string r, .string d, .string (ByteArray.mk #[114, 111, 111, 116]), .int .i64 64] w fun e w' => e = .returned (.string (rootE r d)) ∧ Below w.heap.size w w' := fun w => l2Hkdf_spec r d (ByteArray.mk #[114, 111, 111, 116]) 64 w (by omega) (by omega) (by decide) (by omega)
  have HE := Lib.hid hE
  have hz := rootE_size r d
  clear h hE
  have hz1 : (32 : Int) ≤ ((rootE r d).size : Int) := by omega
  have hz2 : ((rootE r d).size : Int) ≤ 64 := by omega
  have HZ := Lib.hid hz
  clear hz
  generalize rootE r d = E at *
  go_enter Tryd.func64, Tryd.ntmps64
  go_wp2_with fail
  refine (HE.out _).mono ?_
  rintro e w1 ⟨rfl, hb1⟩
  go_wp2
  go_quiet (fail)
  go_wp2
  go_ret2
  exact ⟨by simp [HZ.out], ⟨hb1.os, hb1.tape, hb1.output, hb1.size, hb1.block⟩⟩

set_option maxHeartbeats 2000000 in
theorem root_impl (r d : ByteArray) (w : World) (hk : TabK w) (hr : r.size ≤ 9223372036854775807) (hd : d.size ≤ 9223372036854775807) :
    Calls Tryd.prog 67 #[.string r, .string d] w fun e w' => e = .returned (rootV r d) ∧ Below w.heap.size w w' := by
  by_cases h1 : r.size = 32
  case neg =>
    have HV := Lib.hid (rootV_no r d (fun c => h1 c.1))
    go_enter Tryd.func67, Tryd.ntmps67
    go_wp2_with fail
    refine (isKey_i r _ _ (decide_eq_false h1) hr).mono ?_
    rintro e w1 ⟨rfl, rfl⟩
    clear h1
    go_wp2
    go_ret2
    exact ⟨by rw [HV.out]; rfl, Below.refl _ _⟩
  by_cases h2 : d.size = 32
  case neg =>
    have HV := Lib.hid (rootV_no r d (fun c => h2 c.2))
    go_enter Tryd.func67, Tryd.ntmps67
    go_wp2_with fail
    refine (isKey_i r _ _ (decide_eq_true h1) hr).mono ?_
    rintro e w1 ⟨rfl, rfl⟩
    go_wp2_with fail
    refine (isKey_i d _ _ (decide_eq_false h2) hd).mono ?_
    rintro e w1 ⟨rfl, rfl⟩
    clear h1 h2
    go_wp2
    go_ret2
    exact ⟨by rw [HV.out]; rfl, Below.refl _ _⟩
  have HV := Lib.hid (rootV_yes r d ⟨h1, h2⟩)
  have HE := Lib.hid (fun w h => (hkdfV_root r d ⟨h1, h2⟩) ▸ hkdf_impl r d (ByteArray.mk #[114, 111, 111, 116]) 64 w h)
  have hz := rootE_size r d
  go_enter Tryd.func67, Tryd.ntmps67
  go_wp2_with fail
  refine (isKey_i r _ _ (decide_eq_true h1) hr).mono ?_
  rintro e w1 ⟨rfl, rfl⟩
  go_wp2_with fail
  refine (isKey_i d _ _ (decide_eq_true h2) hd).mono ?_
  rintro e w1 ⟨rfl, rfl⟩
  clear h1 h2
  go_wp2_with fail
  refine (HE.out _ hk).mono ?_
  rintro e w1 ⟨rfl, hb1⟩
  have hz1 : (32 : Int) ≤ ((rootE r d).size : Int) := by omega
  have hz2 : ((rootE r d).size : Int) ≤ 64 := by omega
  have HZ := Lib.hid hz
  clear hz
  generalize rootE r d = E at *
  go_wp2
  go_quiet (fail)
  go_wp2
  go_ret2
  exact ⟨by rw [HV.out]; simp [HZ.out], ⟨hb1.os, hb1.tape, hb1.output, hb1.size, hb1.block⟩⟩

end Go.Proofs.YtfbcmckepdjdkaaDoor

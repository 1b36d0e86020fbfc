/- The contracts of the specification's l2Key and l2Hmac. -/
import Derived.Test.YtipcficcoogbnaaDoorSp5
import Derived.Test.YtipcficcoogbnaaDoorSp2
import Derived.Test.YtipcficcoogbnaaDoorSha9
namespace Go.Proofs.YtipcficcoogbnaaDoor
open Go.RowKit Go.My Go.Lib
set_option linter.unusedVariables false
set_option maxRecDepth 100000

def padK (l : List UInt8) : List UInt8 := l ++ List.replicate (64 - l.length) 0
theorem keyL_sha (k : List UInt8) (h : k.length < 536870912) : keyL k = if k.length ≤ 64 then k else shaL k := by
  unfold keyL
  rw [sha_eq k h]

set_option maxHeartbeats 2000000 in
theorem l2Key_spec (s : ByteArray) (w : World) (hs : s.size ≤ 10000) :
    Calls Tryd.prog 40 #[.string s] w fun e w' => e = .returned (.string (str (padK (keyL s.data.toList)))) ∧ Below w.heap.size w w' := by
  have HS := Lib.hid hs
  have hkl := keyL_sha s.data.toList (by rw [len_data]; omega)
  have hl := len_data s
  by_cases hlt : s.size ≤ 64
  case pos =>
    have hlt2 : (s.size : Int) ≤ 64 := by omega
    rw [if_pos (by omega)] at hkl
    have HKL := Lib.hid hkl
    clear hkl hs hlt hl
    go_enter Tryd.func40, Tryd.ntmps40
    go_wp2_with fail
    rw [show Value.string s = Value.string (str (keyL s.data.toList)) by rw [HKL.out, str_of]]
    have hlen := keyL_len s.data.toList
    generalize hKK : keyL s.data.toList = K at *
    have HKK := Lib.hid hKK
    clear hKK
    have HLEN := Lib.hid hlen
    clear hlen
    go_loopw [0] (fun v wr => ∃ m : Nat, m ≤ 64 - K.length ∧ v = .string (str (K ++ List.replicate m 0)) ∧ wr = w)
      (fun v _ => match v with | .string t => 64 - t.size | _ => 0)
    case atStart => exact ⟨0, Nat.zero_le _, by simp, rfl⟩
    case round =>
      obtain ⟨m, hm, rfl, rfl⟩ := hrel
      have hsz : (str (K ++ List.replicate m 0)).size = K.length + m := by rw [str_size, List.length_append, List.length_replicate]
      have hsn : str (K ++ List.replicate m 0) ++ (⟨#[0]⟩ : ByteArray) = str (K ++ List.replicate (m + 1) 0) := by
        rw [show (⟨#[0]⟩ : ByteArray) = str [0] from rfl, str_app, List.replicate_succ', List.append_assoc]
      have hsz2 : (str (K ++ List.replicate (m + 1) 0)).size = K.length + (m + 1) := by rw [str_size, List.length_append, List.length_replicate]
      have HSN := Lib.hid hsn
      have HSZ := Lib.hid (And.intro hsz hsz2)
      by_cases hlt : K.length + m < 64
      · have b1 : ((str (K ++ List.replicate m 0)).size : Int) < 64 := by omega
        have hcat : ¬ 9223372036854775807 < (str (K ++ List.replicate m 0)).size + 1 := by omega
        have HM := Lib.hid (And.intro hm hlt)
        clear hsz hsn hsz2 hm hlt
        generalize str (K ++ List.replicate m 0) = B at *
        go_wp2
        go_roundw
        case rel => exact ⟨m + 1, by have := HM.out; omega, by rw [HSN.out], trivial⟩
        case measure =>
          rw [HSN.out]
          show 64 - (str (K ++ List.replicate (m + 1) 0)).size < 64 - B.size
          have := HSZ.out; have := HM.out
          omega
      · have b1 : (64 : Int) ≤ ((str (K ++ List.replicate m 0)).size : Int) := by omega
        have HF : Hid (str (K ++ List.replicate m 0) = str (padK K)) := by
          show str (K ++ List.replicate m 0) = str (padK K)
          unfold padK
          rw [show m = 64 - K.length by have := HLEN.out; omega]
        clear hsz hsn hsz2 hm hlt HSN HSZ
        generalize str (K ++ List.replicate m 0) = B at *
        go_wp2
        go_ret
        exact ⟨by rw [HKK.out, ← HF.out]; rfl, Below.refl _ _⟩
  case neg =>
    have hlt2 : (64 : Int) < (s.size : Int) := by omega
    rw [if_neg (by omega)] at hkl
    have HKL := Lib.hid hkl
    clear hkl hs hlt hl
    go_enter Tryd.func40, Tryd.ntmps40
    go_wp2_with fail
    refine (l2Sha_spec s _ HS.out).mono ?_
    rintro e w1 ⟨rfl, hb1⟩
    rw [← HKL.out]
    go_wp2_with fail
    have hlen := keyL_len s.data.toList
    generalize hKK : keyL s.data.toList = K at *
    have HKK := Lib.hid hKK
    clear hKK
    have HLEN := Lib.hid hlen
    clear hlen
    go_loopw [0] (fun v wr => ∃ m : Nat, m ≤ 64 - K.length ∧ v = .string (str (K ++ List.replicate m 0)) ∧ wr = w1)
      (fun v _ => match v with | .string t => 64 - t.size | _ => 0)
    case atStart => exact ⟨0, Nat.zero_le _, by simp, rfl⟩
    case round =>
      obtain ⟨m, hm, rfl, rfl⟩ := hrel
      have hsz : (str (K ++ List.replicate m 0)).size = K.length + m := by rw [str_size, List.length_append, List.length_replicate]
      have hsn : str (K ++ List.replicate m 0) ++ (⟨#[0]⟩ : ByteArray) = str (K ++ List.replicate (m + 1) 0) := by
        rw [show (⟨#[0]⟩ : ByteArray) = str [0] from rfl, str_app, List.replicate_succ', List.append_assoc]
      have hsz2 : (str (K ++ List.replicate (m + 1) 0)).size = K.length + (m + 1) := by rw [str_size, List.length_append, List.length_replicate]
      have HSN := Lib.hid hsn
      have HSZ := Lib.hid (And.intro hsz hsz2)
      by_cases hlt : K.length + m < 64
      · have b1 : ((str (K ++ List.replicate m 0)).size : Int) < 64 := by omega
        have hcat : ¬ 9223372036854775807 < (str (K ++ List.replicate m 0)).size + 1 := by omega
        have HM := Lib.hid (And.intro hm hlt)
        clear hsz hsn hsz2 hm hlt
        generalize str (K ++ List.replicate m 0) = B at *
        go_wp2
        go_roundw
        case rel => exact ⟨m + 1, by have := HM.out; omega, by rw [HSN.out], trivial⟩
        case measure =>
          rw [HSN.out]
          show 64 - (str (K ++ List.replicate (m + 1) 0)).size < 64 - B.size
          have := HSZ.out; have := HM.out
          omega
      · have b1 : (64 : Int) ≤ ((str (K ++ List.replicate m 0)).size : Int) := by omega
        have HF : Hid (str (K ++ List.replicate m 0) = str (padK K)) := by
          show str (K ++ List.replicate m 0) = str (padK K)
          unfold padK
          rw [show m = 64 - K.length by have := HLEN.out; omega]
        clear hsz hsn hsz2 hm hlt HSN HSZ
        generalize str (K ++ List.replicate m 0) = B at *
        go_wp2
        go_ret
        exact ⟨by rw [HKK.out, ← HF.out]; rfl, hb1⟩

end Go.Proofs.YtipcficcoogbnaaDoor

/- The contracts of the specification's l2Key and l2Hmac. -/
import Derived.Test.YtdhfddeghnoecaaDoorMrgA
import Derived.Test.YtdhfddeghnoecaaDoorMrgB
import Derived.Test.YtdhfddeghnoecaaDoorRows
import Derived.WalkKit
import Derived.ProofKit
import Derived.Lib.Hide
import Derived.Test.YtdhfddeghnoecaaDoorMath1
import Derived.BigQuiet
import Derived.Deep.QuietTactic
import Derived.Test.YtdhfddeghnoecaaDoorSesE
namespace Go.Proofs.YtdhfddeghnoecaaDoor
open Go.RowKit Go.My Go.Lib
set_option linter.unusedVariables false
set_option maxRecDepth 100000

def padK (l : List UInt8) : List UInt8 := l ++ List.replicate (64 - l.length) 0
theorem keyL_sha (k : List UInt8) (h : k.length < 536870912) : keyL k = if k.length ≤ 64 then k else shaL k := by
  unfold keyL
  rw [sha_eq k h]

set_option maxHeartbeats 2000000 in
theorem l2Key_spec (s : ByteArray) (w : World) (hs : s.size ≤ 10000) :
    Calls Tryd.prog 76 #[.string s] w fun e w' => e = .returned (.string (str (padK (keyL s.data.toList)))) ∧ Below w.heap.size w w' := by
  have HS := Lib.hid hs
  have hkl := keyL_sha s.data.toList (by rw [len_data]; omega)
  have hl := len_data s
  by_cases hlt : s.size ≤ 64
  case pos =>
    have hlt2 : (s.size : Int) ≤ 64 := by omega
    rw [if_pos (by omega)] at hkl
    have HKL := Lib.hid hkl
    clear hkl hs hlt hl
    go_enter Tryd.func76, Tryd.ntmps76
    go_wp2_with fail
    rw [show Value.string s = Value.string (str (keyL s.data.toList)) by rw [HKL.out, str_of]]
    have hlen := keyL_len s.data.toList
    generalize hKK : keyL s.data.toList = K at *
    have HKK := Lib.hid hKK
    clear hKK
    have HLEN := Lib.hid hlen
    clear hlen
    go_loopw [0] (fun v wr => ∃ m : Nat, m ≤ 64 - K.length ∧ v = .string (str (K ++ List.replicate m 0)) ∧ wr = w)
      (fun v _ => match v with | .string t => 64 - t.size | _ => 0)
    case atStart => exact ⟨0, Nat.zero_le _, by simp, rfl⟩
    case round =>
      obtain ⟨m, hm, rfl, rfl⟩ := hrel
      have hsz : (str (K ++ List.replicate m 0)).size = K.length + m := by rw [str_size, List.length_append, List.length_replicate]
      have hsn : str (K ++ List.replicate m 0) ++ (⟨#[0]⟩ : ByteArray) = str (K ++ List.replicate (m + 1) 0) := by
        rw [show (⟨#[0]⟩ : ByteArray) = str [0] from rfl, str_app, List.replicate_succ', List.append_assoc]
      have hsz2 : (str (K ++ List.replicate (m + 1) 0)).size = K.length + (m + 1) := by rw [str_size, List.length_append, List.length_replicate]
      have HSN := Lib.hid hsn
      have HSZ := Lib.hid (And.intro hsz hsz2)
      by_cases hlt : K.length + m < 64
      · have b1 : ((str (K ++ List.replicate m 0)).size : Int) < 64 := by omega
        have hcat : ¬ 9223372036854775807 < (str (K ++ List.replicate m 0)).size + 1 := by omega
        have HM := Lib.hid (And.intro hm hlt)
        clear hsz hsn hsz2 hm hlt
        generalize str (K ++ List.replicate m 0) = B at *
        go_wp2
        go_roundw
        case rel => exact ⟨m + 1, by have := HM.out; omega, by rw [HSN.out], trivial⟩
        case measure =>
          rw [HSN.out]
          show 64 - (str (K ++ List.replicate (m + 1) 0)).size < 64 - B.size
          have := HSZ.out; have := HM.out
          omega
      · have b1 : (64 : Int) ≤ ((str (K ++ List.replicate m 0)).size : Int) := by omega
        have HF : Hid (str (K ++ List.replicate m 0) = str (padK K)) := by
          show str (K ++ List.replicate m 0) = str (padK K)
          unfold padK
          rw [show m = 64 - K.length by have := HLEN.out; omega]
        clear hsz hsn hsz2 hm hlt HSN HSZ
        generalize str (K ++ List.replicate m 0) = B at *
        go_wp2
        go_ret
        exact ⟨by rw [HKK.out, ← HF.out]; rfl, Below.refl _ _⟩
  case neg =>
    have hlt2 : (64 : Int) < (s.size : Int) := by omega
    rw [if_neg (by omega)] at hkl
    have HKL := Lib.hid hkl
    clear hkl hs hlt hl
    go_enter Tryd.func76, Tryd.ntmps76
    go_wp2_with fail
    refine (l2Sha_spec s _ HS.out).mono ?_
    rintro e w1 ⟨rfl, hb1⟩
    rw [← HKL.out]
    go_wp2_with fail
    have hlen := keyL_len s.data.toList
    generalize hKK : keyL s.data.toList = K at *
    have HKK := Lib.hid hKK
    clear hKK
    have HLEN := Lib.hid hlen
    clear hlen
    go_loopw [0] (fun v wr => ∃ m : Nat, m ≤ 64 - K.length ∧ v = .string (str (K ++ List.replicate m 0)) ∧ wr = w1)
      (fun v _ => match v with | .string t => 64 - t.size | _ => 0)
    case atStart => exact ⟨0, Nat.zero_le _, by simp, rfl⟩
    case round =>
      obtain ⟨m, hm, rfl, rfl⟩ := hrel
      have hsz : (str (K ++ List.replicate m 0)).size = K.length + m := by rw [str_size, List.length_append, List.length_replicate]
      have hsn : str (K ++ List.replicate m 0) ++ (⟨#[0]⟩ : ByteArray) = str (K ++ List.replicate (m + 1) 0) := by
        rw [show (⟨#[0]⟩ : ByteArray) = str [0] from rfl, str_app, List.replicate_succ', List.append_assoc]
      have hsz2 : (str (K ++ List.replicate (m + 1) 0)).size = K.length + (m + 1) := by rw [str_size, List.length_append, List.length_replicate]
      have HSN := Lib.hid hsn
      have HSZ := Lib.hid (And.intro hsz hsz2)
      by_cases hlt : K.length + m < 64
      · have b1 : ((str (K ++ List.replicate m 0)).size : Int) < 64 := by omega
        have hcat : ¬ 9223372036854775807 < (str (K ++ List.replicate m 0)).size + 1 := by omega
        have HM := Lib.hid (And.intro hm hlt)
        clear hsz hsn hsz2 hm hlt
        generalize str (K ++ List.replicate m 0) = B at *
        go_wp2
        go_roundw
        case rel => exact ⟨m + 1, by have := HM.out; omega, by rw [HSN.out], trivial⟩
        case measure =>
          rw [HSN.out]
          show 64 - (str (K ++ List.replicate (m + 1) 0)).size < 64 - B.size
          have := HSZ.out; have := HM.out
          omega
      · have b1 : (64 : Int) ≤ ((str (K ++ List.replicate m 0)).size : Int) := by omega
        have HF : Hid (str (K ++ List.replicate m 0) = str (padK K)) := by
          show str (K ++ List.replicate m 0) = str (padK K)
          unfold padK
          rw [show m = 64 - K.length by have := HLEN.out; omega]
        clear hsz hsn hsz2 hm hlt HSN HSZ
        generalize str (K ++ List.replicate m 0) = B at *
        go_wp2
        go_ret
        exact ⟨by rw [HKK.out, ← HF.out]; rfl, hb1⟩

end Go.Proofs.YtdhfddeghnoecaaDoor

/- The contracts of the program's Hmac and Extract. -/
namespace Go.Proofs.YtdhfddeghnoecaaDoor
open Go.RowKit Go.My Go.Lib
set_option linter.unusedVariables false
set_option maxRecDepth 100000

/-- hashOf(newMac(key), ps..) -/
theorem mac_hash {w wm : World} {g i o : Nat} (key : ByteArray) (ps : List ByteArray) (hup : MacUp w wm g i o (dputs S0 (maskL (keyL key.data.toList) 54)) (dputs S0 (maskL (keyL key.data.toList) 92)) 64 64)
    (hps : ∀ q ∈ ps, q.size ≤ 1000) (hn : ps.length ≤ 8) :
    Calls Tryd.prog 79 #[.iface 100 (.pointer (some ⟨g, 0, none⟩)), .slice (some ⟨wm.heap.size, 0, none⟩) ps.length ps.length] (wm.alloc (.cells (ps.map Value.string).toArray 9)) fun e w' => e = .returned (.string (str (hmacL key.data.toList (catL ps)))) ∧ Below w.heap.size w w' := by
  have hba : Below wm.heap.size wm (wm.alloc (.cells (ps.map Value.string).toArray 9)) := (Below.refl _ _).alloc (Nat.le_refl _) _
  have hi := hup.1.2.1.1.lt
  exact hashOf_mac w g i o wm.heap.size _ _ 64 64 ps _ (hup.below hba) (by omega) (heap_alloc_new wm _) hps hn (by decide) (by decide)

def hmacV (k s : List UInt8) : List UInt8 := if k.length ≤ 1000 ∧ s.length ≤ 1000 then hmacL k s else []

set_option maxHeartbeats 2000000 in
theorem hmac_impl (k s : ByteArray) (w : World) (hk : TabK w) :
    Calls Tryd.prog 82 #[.string k, .string s] w fun e w' => e = .returned (.string (str (hmacV k.data.toList s.data.toList))) ∧ Below w.heap.size w w' := by
  by_cases h1 : k.size ≤ 1000
  case neg =>
    have h1' : (1000 : Int) < (k.size : Int) := by omega
    have HV : Hid (hmacV k.data.toList s.data.toList = []) := if_neg (fun c => h1 (by have := c.1; rw [len_data] at this; exact this))
    clear h1
    go_enter Tryd.func82, Tryd.ntmps82
    go_wp2
    go_ret
    exact ⟨by rw [HV.out]; rfl, Below.refl _ _⟩
  by_cases h2 : s.size ≤ 1000
  case neg =>
    have h1' : (k.size : Int) ≤ 1000 := by omega
    have h2' : (1000 : Int) < (s.size : Int) := by omega
    have HV : Hid (hmacV k.data.toList s.data.toList = []) := if_neg (fun c => h2 (by have := c.2; rw [len_data] at this; exact this))
    clear h1 h2
    go_enter Tryd.func82, Tryd.ntmps82
    go_wp2
    go_ret
    exact ⟨by rw [HV.out]; rfl, Below.refl _ _⟩
  have h1' : (k.size : Int) ≤ 1000 := by omega
  have h2' : (s.size : Int) ≤ 1000 := by omega
  have HV : Hid (hmacV k.data.toList s.data.toList = hmacL k.data.toList s.data.toList) := if_pos ⟨by rw [len_data]; exact h1, by rw [len_data]; exact h2⟩
  have HS := Lib.hid (And.intro h1 h2)
  clear h1 h2
  go_enter Tryd.func82, Tryd.ntmps82
  go_wp2_with fail
  refine (newMac_any k _ hk HS.out.1).mono ?_
  rintro e wm ⟨g, i, o, rfl, hup⟩
  go_wp2_with fail
  refine (mac_hash k [s] hup (by intro q hq; rw [List.mem_singleton] at hq; rw [hq]; exact HS.out.2) (by simp)).mono ?_
  rintro e wx ⟨rfl, hbx⟩
  rw [catL_one, ← HV.out]
  go_wp2
  go_ret
  exact ⟨rfl, hbx⟩

def extractV (k s : List UInt8) : List UInt8 := if k.length ≤ 300 ∧ s.length ≤ 300 then hmacL k s else []

set_option maxHeartbeats 2000000 in
theorem extract_impl (k s : ByteArray) (w : World) (hk : TabK w) :
    Calls Tryd.prog 64 #[.string k, .string s] w fun e w' => e = .returned (.string (str (extractV k.data.toList s.data.toList))) ∧ Below w.heap.size w w' := by
  by_cases h1 : k.size ≤ 300
  case neg =>
    have h1' : (300 : Int) < (k.size : Int) := by omega
    have HV : Hid (extractV k.data.toList s.data.toList = []) := if_neg (fun c => h1 (by have := c.1; rw [len_data] at this; exact this))
    clear h1
    go_enter Tryd.func64, Tryd.ntmps64
    go_wp2
    go_ret
    exact ⟨by rw [HV.out]; rfl, Below.refl _ _⟩
  by_cases h2 : s.size ≤ 300
  case neg =>
    have h1' : (k.size : Int) ≤ 300 := by omega
    have h2' : (300 : Int) < (s.size : Int) := by omega
    have HV : Hid (extractV k.data.toList s.data.toList = []) := if_neg (fun c => h2 (by have := c.2; rw [len_data] at this; exact this))
    clear h1 h2
    go_enter Tryd.func64, Tryd.ntmps64
    go_wp2
    go_ret
    exact ⟨by rw [HV.out]; rfl, Below.refl _ _⟩
  have h1' : (k.size : Int) ≤ 300 := by omega
  have h2' : (s.size : Int) ≤ 300 := by omega
  have HV : Hid (hmacV k.data.toList s.data.toList = extractV k.data.toList s.data.toList) := (if_pos ⟨by rw [len_data]; omega, by rw [len_data]; omega⟩ : hmacV _ _ = _).trans (if_pos ⟨by rw [len_data]; exact h1, by rw [len_data]; exact h2⟩).symm
  clear h1 h2
  go_enter Tryd.func64, Tryd.ntmps64
  go_wp2_with fail
  refine (hmac_impl k s _ hk).mono ?_
  rintro e wm ⟨rfl, hb⟩
  rw [HV.out]
  go_wp2
  go_ret
  exact ⟨rfl, hb⟩

end Go.Proofs.YtdhfddeghnoecaaDoor

/- The contracts of the specification's l2Hmac, Hmac, Extract. -/
namespace Go.Proofs.YtdhfddeghnoecaaDoor
open Go.RowKit Go.My Go.Lib
set_option linter.unusedVariables false
set_option maxRecDepth 100000

theorem shaL_len (l : List UInt8) : (shaL l).length = 32 := stN_len _ _
theorem padK_len (l : List UInt8) (h : l.length ≤ 64) : (padK l).length = 64 := by
  unfold padK
  rw [List.length_append, List.length_replicate]
  omega
theorem hmac_sha (k s : List UInt8) (hs : s.length < 500000000) : hmacL k s = shaL ((padK (keyL k)).map (· ^^^ 92) ++ shaL ((padK (keyL k)).map (· ^^^ 54) ++ s)) := by
  have hl := padK_len _ (keyL_len k)
  have hm : ∀ m : UInt8, maskL (keyL k) m = (padK (keyL k)).map (· ^^^ m) := fun m => rfl
  have hml : ∀ m : UInt8, ((padK (keyL k)).map (· ^^^ m)).length = 64 := fun m => by rw [List.length_map, hl]
  unfold hmacL
  rw [hm, hm, ← dputs_append, ← dputs_append]
  have e1 : 64 + s.length = ((padK (keyL k)).map (· ^^^ 54) ++ s).length := by rw [List.length_append, hml]
  rw [e1, sha_eq _ (by rw [← e1]; omega)]
  have e2 : 96 = ((padK (keyL k)).map (· ^^^ 92) ++ shaL ((padK (keyL k)).map (· ^^^ 54) ++ s)).length := by rw [List.length_append, hml, shaL_len]
  rw [show (sumL (dputs S0 ((padK (keyL k)).map (· ^^^ 92) ++ shaL ((padK (keyL k)).map (· ^^^ 54) ++ s))) 96) = sumL (dputs S0 ((padK (keyL k)).map (· ^^^ 92) ++ shaL ((padK (keyL k)).map (· ^^^ 54) ++ s))) ((padK (keyL k)).map (· ^^^ 92) ++ shaL ((padK (keyL k)).map (· ^^^ 54) ++ s)).length by rw [← e2], sha_eq _ (by rw [← e2]; omega)]

set_option maxHeartbeats 2000000 in
theorem l2Hmac_spec (k s : ByteArray) (w : World) (hk : k.size ≤ 10000) (hs : s.size ≤ 9000) :
    Calls Tryd.prog 61 #[.string k, .string s] w fun e w' => e = .returned (.string (str (hmacL k.data.toList s.data.toList))) ∧ Below w.heap.size w w' := by
  rw [hmac_sha k.data.toList s.data.toList (by rw [len_data]; omega)]
  have hl := padK_len _ (keyL_len k.data.toList)
  generalize hPK : padK (keyL k.data.toList) = P at *
  have HPK := Lib.hid hPK
  clear hPK
  have HK := Lib.hid hk
  have HS := Lib.hid hs
  clear hk hs
  go_enter Tryd.func61, Tryd.ntmps61
  go_wp2_with fail
  refine (l2Key_spec k _ HK.out).mono ?_
  rintro e w1 ⟨rfl, hb1⟩
  rw [HPK.out]
  have hpl : (str P).data.toList = P := str_list P
  have hps : (str P).size = 64 := by rw [str_size, hl]
  have HP := Lib.hid (And.intro hl (And.intro hpl hps))
  clear hl hpl hps
  go_wp2_with fail
  refine (l2With_spec (str P) 92 _ (by have := HP.out; omega)).mono ?_
  rintro e w2 ⟨rfl, hb2⟩
  go_wp2_with fail
  refine (l2With_spec (str P) 54 _ (by have := HP.out; omega)).mono ?_
  rintro e w3 ⟨rfl, hb3⟩
  rw [HP.out.2.1]
  have s54 : (str (P.map (· ^^^ 54))).size = 64 := by rw [str_size, List.length_map]; exact HP.out.1
  have s92 : (str (P.map (· ^^^ 92))).size = 64 := by rw [str_size, List.length_map]; exact HP.out.1
  have hc1 : ¬ 9223372036854775807 < (str (P.map (· ^^^ 54))).size + s.size := by have := HS.out; omega
  have HA : Hid (str (P.map (· ^^^ 54)) ++ s = str (P.map (· ^^^ 54) ++ s.data.toList)) := by show _ = _; rw [← str_app, str_of]
  have HZ : Hid ((str (P.map (· ^^^ 54)) ++ s).size ≤ 9064) := by show _ ≤ _; rw [ByteArray.size_append]; have := HS.out; omega
  have hb13 := hb1.trans ((hb2.trans (hb3.mono hb2.size)).mono hb1.size)
  clear hb1 hb2 hb3
  go_wp2_with fail
  refine (l2Sha_spec (str (P.map (· ^^^ 54)) ++ s) _ (by have := HZ.out; omega)).mono ?_
  rintro e w4 ⟨rfl, hb4⟩
  rw [HA.out, str_list]
  have s32 : (str (shaL (P.map (· ^^^ 54) ++ s.data.toList))).size = 32 := by rw [str_size, shaL_len]
  have HB : Hid (str (P.map (· ^^^ 92)) ++ str (shaL (P.map (· ^^^ 54) ++ s.data.toList)) = str (P.map (· ^^^ 92) ++ shaL (P.map (· ^^^ 54) ++ s.data.toList))) := by show _ = _; rw [← str_app]
  generalize hQ : shaL (P.map (· ^^^ 54) ++ s.data.toList) = Q at *
  have HQ := Lib.hid hQ
  clear hQ
  have hc2 : ¬ 9223372036854775807 < (str (P.map (· ^^^ 92))).size + (str Q).size := by omega
  have HZ2 : Hid ((str (P.map (· ^^^ 92)) ++ str Q).size ≤ 96) := by show _ ≤ _; rw [ByteArray.size_append]; omega
  have hb14 := hb13.trans (hb4.mono hb13.size)
  clear hb13 hb4
  go_wp2_with fail
  refine (l2Sha_spec (str (P.map (· ^^^ 92)) ++ str Q) _ (by have := HZ2.out; omega)).mono ?_
  rintro e w5 ⟨rfl, hb5⟩
  rw [HB.out, str_list]
  go_wp2
  go_ret
  exact ⟨by rw [HQ.out]; rfl, hb14.trans (hb5.mono hb14.size)⟩

end Go.Proofs.YtdhfddeghnoecaaDoor

/- The contracts of the small helpers: bounds and digits. -/
namespace Go.Proofs.YtdhfddeghnoecaaDoor
open Go.RowKit
set_option linter.unusedVariables false

theorem in_any (n lo hi : Int) (w : World) :
    Calls Tryd.prog 51 #[.int .i64 n, .int .i64 lo, .int .i64 hi] w fun e w' => e = .returned (.bool (decide (lo ≤ n) && decide (n ≤ hi))) ∧ w = w' := by
  by_cases h1 : lo ≤ n
  · by_cases h2 : n ≤ hi
    · go_enter Tryd.func51, Tryd.ntmps51
      go_wp2
      go_ret
      exact ⟨by simp [h1, h2], rfl⟩
    · go_enter Tryd.func51, Tryd.ntmps51
      go_wp2
      go_ret
      exact ⟨by simp [h1, h2], rfl⟩
  · have hd : decide (lo ≤ n) = false := by simpa using h1
    go_enter Tryd.func51, Tryd.ntmps51
    go_wp2
    go_ret
    exact ⟨by simp [h1], rfl⟩

end Go.Proofs.YtdhfddeghnoecaaDoor

/- The contract of the program's NumBytes. -/
namespace Go.Proofs.YtdhfddeghnoecaaDoor
open Go.RowKit Go.My
set_option linter.unusedVariables false
set_option maxRecDepth 100000

set_option maxHeartbeats 400000 in
theorem num_impl (n k : Int) (w : World) (hn : (Lit.int .i64 n).wf = true) (hk : (Lit.int .i64 k).wf = true) :
    Calls Tryd.prog 81 #[.int .i64 n, .int .i64 k] w fun e w' => e = .returned (.string (str (numB n k))) ∧ Below w.heap.size w w' := by
  by_cases hk1 : k < 1
  · go_enter Tryd.func81, Tryd.ntmps81
    go_wp2
    go_ret
    exact ⟨by rw [numB_no (by omega)]; rfl, Below.refl _ _⟩
  by_cases hk7 : 7 < k
  · go_enter Tryd.func81, Tryd.ntmps81
    go_wp2
    go_ret
    exact ⟨by rw [numB_no (by omega)]; rfl, Below.refl _ _⟩
  by_cases hn0 : n < 0
  · go_enter Tryd.func81, Tryd.ntmps81
    go_wp2
    go_ret
    exact ⟨by rw [numB_no (by omega)]; rfl, Below.refl _ _⟩
  obtain ⟨K, rfl⟩ : ∃ K : Nat, k = K := ⟨k.toNat, by omega⟩
  obtain ⟨M, rfl⟩ : ∃ M : Nat, n = M := ⟨n.toNat, by omega⟩
  have hM : (M : Int) ≤ 9223372036854775807 := by simp [Lit.wf, IntKind.min, IntKind.max, IntKind.signed, IntKind.bits] at hn; omega
  have hu : IntKind.u64.wrap (M : Int) = (M : Int) := IntWalk.u64_in _ ⟨by omega, by omega⟩
  have hMU : M < U64 := by unfold U64; omega
  clear hn hk hM
  by_cases hb : (M : Int) < 2 ^ (8 * K)
  · have hd : ((M : Int) / 2 ^ (8 * K) != 0) = false := by rw [Int.ediv_eq_zero_of_lt (by omega) hb]; rfl
    have HB : Hid ((M : Int) < 2 ^ (8 * K)) := hb
    clear hb
    go_enter Tryd.func81, Tryd.ntmps81
    go_wp2_with fail
    refine (be_impl M K _ hMU (by omega)).mono ?_
    rintro e w1 ⟨rfl, hb1⟩
    go_wp2
    go_ret
    exact ⟨by rw [numB_yes ⟨hk1, hk7, hn0, HB.out⟩]; rfl, hb1⟩
  · have hd : ((M : Int) / 2 ^ (8 * K) != 0) = true := by
      have h2 : (1 : Int) ≤ (M : Int) / 2 ^ (8 * K) := (Int.le_ediv_iff_mul_le (Int.pow_pos (by omega))).2 (by omega)
      simp; omega
    have HB : Hid (2 ^ (8 * K) ≤ (M : Int)) := Int.not_lt.1 hb
    clear hb
    go_enter Tryd.func81, Tryd.ntmps81
    go_wp2
    go_ret
    exact ⟨by rw [numB_big (k := (K : Int)) (Int.not_lt.2 HB.out)]; rfl, Below.refl _ _⟩

end Go.Proofs.YtdhfddeghnoecaaDoor

/- The contracts of Expand and Hkdf, the specification's and the program's. -/
namespace Go.Proofs.YtdhfddeghnoecaaDoor
open Go.RowKit Go.My Go.Lib
set_option linter.unusedVariables false
set_option maxRecDepth 100000

theorem wf_i64b (n : Int) (h0 : -9223372036854775808 ≤ n) (h1 : n ≤ 9223372036854775807) : (Lit.int .i64 n).wf = true := by
  simp [Lit.wf, IntKind.min, IntKind.max, IntKind.signed, IntKind.bits]
  omega

/-- The blocks of Expand, and what the first ones are together. -/
def tE (p i : List UInt8) : Nat → List UInt8
  | 0 => []
  | j + 1 => hmacL p (tE p i j ++ i ++ [UInt8.ofNat (j + 1)])
def oE (p i : List UInt8) : Nat → List UInt8
  | 0 => []
  | j + 1 => oE p i j ++ tE p i (j + 1)
theorem hmacL_len (k s : List UInt8) : (hmacL k s).length = 32 := sumL_len _ _
theorem tE_len (p i : List UInt8) (j : Nat) : (tE p i j).length ≤ 32 := by
  cases j with
  | zero => exact Nat.zero_le _
  | succ j => rw [tE, hmacL_len]; exact Nat.le_refl _
theorem oE_len (p i : List UInt8) (j : Nat) : (oE p i j).length = 32 * j := by
  induction j with
  | zero => rfl
  | succ j ih => rw [oE, List.length_append, ih, tE, hmacL_len]; omega
def expandL (p i : List UInt8) (n : Nat) : List UInt8 := (oE p i ((n + 31) / 32)).take n
theorem expandL_len (p i : List UInt8) (n : Nat) : (expandL p i n).length = n := by
  unfold expandL
  rw [List.length_take, oE_len]
  omega
theorem be1 (x : Nat) : beL x 1 = [UInt8.ofNat x] := by
  show [UInt8.ofNat (x / 256 ^ (1 - 1 - 0))] = _
  simp
theorem be1_wrap (j : Nat) (h : j ≤ 100) : beL (IntKind.u64.wrap ((j : Int) + 1)).toNat 1 = [UInt8.ofNat (j + 1)] := by
  rw [be1]
  congr 2
  rw [IntKind.wrap_u64]
  omega
theorem numB_one (j : Nat) (h : j ≤ 100) : numB ((j : Int) + 1) 1 = [UInt8.ofNat (j + 1)] := by
  have e : (2 : Int) ^ (8 * (1 : Int).toNat) = 256 := by decide
  rw [numB_yes ⟨by omega, by omega, by omega, by rw [e]; omega⟩]
  rw [show ((j : Int) + 1).toNat = j + 1 by omega, show (1 : Int).toNat = 1 from rfl, be1]
theorem extract_take (B : ByteArray) (k : Nat) : (B.extract 0 k).data.toList = B.data.toList.take k := by
  have := extract_list B 0 k
  rw [Nat.zero_add, List.drop_zero] at this
  exact this
theorem str_take (l : List UInt8) (k : Nat) : (str l).extract 0 k = str (l.take k) := by
  have h := extract_take (str l) k
  rw [str_list] at h
  rw [← str_of ((str l).extract 0 k), h]

set_option maxHeartbeats 4000000 in
theorem l2Expand_spec (p i : ByteArray) (n : Nat) (w : World) (hp : p.size ≤ 1000) (hi : i.size ≤ 1000) (hn : n ≤ 255) :
    Calls Tryd.prog 60 #[.string p, .string i, .int .i64 n] w fun e w' => e = .returned (.string (str (expandL p.data.toList i.data.toList n))) ∧ Below w.heap.size w w' := by
  have HP := Lib.hid (And.intro hp hi)
  have hn1 : (n : Int) ≤ 255 := by omega
  have hn0 : (0 : Int) ≤ (n : Int) := by omega
  have HN := Lib.hid hn
  have hi1 : (i.size : Int) ≤ 1000 := by omega
  clear hp hi hn
  go_enter Tryd.func60, Tryd.ntmps60
  go_wp2_with fail
  go_loopw [7, 8, 9] (fun o t x wr => ∃ j : Nat, j ≤ (n + 31) / 32 ∧ x = .int .i64 ((j : Int) + 1) ∧ o = .string (str (oE p.data.toList i.data.toList j)) ∧ t = .string (str (tE p.data.toList i.data.toList j)) ∧ Below w.heap.size w wr)
    (fun _ _ x _ => 20 - (intOf x).toNat)
  case atStart => exact ⟨0, Nat.zero_le _, rfl, rfl, rfl, Below.refl _ _⟩
  case round =>
    obtain ⟨j, hj, rfl, rfl, rfl, hb⟩ := hrel
    have hol : (str (oE p.data.toList i.data.toList j)).size = 32 * j := by rw [str_size, oE_len]
    by_cases hlt : 32 * j < n
    · have b1 : ((str (oE p.data.toList i.data.toList j)).size : Int) < (n : Int) := by omega
      have b2 : ((str (oE p.data.toList i.data.toList j)).size : Int) ≤ 300 := by omega
      have htl : (str (tE p.data.toList i.data.toList j)).size ≤ 32 := by rw [str_size]; exact tE_len _ _ _
      have HO : Hid (str (oE p.data.toList i.data.toList j) ++ str (tE p.data.toList i.data.toList (j + 1)) = str (oE p.data.toList i.data.toList (j + 1))) := by show _ = _; rw [str_app]; rfl
      have HT : Hid (str (tE p.data.toList i.data.toList (j + 1)) = str (hmacL p.data.toList ((str (tE p.data.toList i.data.toList j)).data.toList ++ i.data.toList ++ [UInt8.ofNat (j + 1)]))) := by show _ = _; rw [str_list]; rfl
      have HTS : Hid ((str (tE p.data.toList i.data.toList (j + 1))).size = 32) := by show _ = _; rw [str_size, tE, hmacL_len]
      have HOS : Hid ((str (oE p.data.toList i.data.toList j)).size = 32 * j) := hol
      have HJ := Lib.hid (And.intro hj hlt)
      have hj8 : (j : Int) ≤ 8 := by omega
      have hj0 : (0 : Int) ≤ (j : Int) := by omega
      have t1 : ((str (tE p.data.toList i.data.toList j)).size : Int) ≤ 32 := by omega
      have hc1 : ¬ 9223372036854775807 < (str (tE p.data.toList i.data.toList j)).size + i.size := by have := HP.out; omega
      clear hol hlt hj htl
      generalize str (oE p.data.toList i.data.toList j) = O at *
      generalize str (tE p.data.toList i.data.toList j) = T at *
      go_wp2_with fail
      refine (be_spec ((j : Int) + 1) 1 _ (wf_i64b _ (by omega) (by omega)) (by omega)).mono ?_
      rintro e w2 ⟨rfl, hb2⟩
      rw [be1_wrap j (by have := HJ.out; have := HN.out; omega)]
      have hs1 : (str [UInt8.ofNat (j + 1)]).size = 1 := rfl
      have hti : (T ++ i).size = T.size + i.size := ByteArray.size_append
      have hc2 : ¬ 9223372036854775807 < (T ++ i).size + (str [UInt8.ofNat (j + 1)]).size := by have := HP.out; omega
      have HL : Hid ((T ++ i ++ str [UInt8.ofNat (j + 1)]).data.toList = T.data.toList ++ i.data.toList ++ [UInt8.ofNat (j + 1)]) := by
        show _ = _
        rw [ByteArray.data_append, ByteArray.data_append, Array.toList_append, Array.toList_append, str_list]
      have HLS : Hid ((T ++ i ++ str [UInt8.ofNat (j + 1)]).size ≤ 2000) := by
        show _ ≤ _
        rw [ByteArray.size_append]; have := HP.out; omega
      clear hti hs1
      generalize str [UInt8.ofNat (j + 1)] = D at *
      go_wp2_with fail
      refine (l2Hmac_spec p (T ++ i ++ D) _ (by have := HP.out; omega) (by have := HLS.out; omega)).mono ?_
      rintro e w3 ⟨rfl, hb3⟩
      rw [HL.out, ← HT.out]
      have hc3 : ¬ 9223372036854775807 < O.size + (str (tE p.data.toList i.data.toList (j + 1))).size := by have := HTS.out; omega
      have hbq := hb.trans ((hb2.trans (hb3.mono hb2.size)).mono hb.size)
      clear hb hb2 hb3 hc1 hc2 b1 b2 t1
      generalize hX : str (tE p.data.toList i.data.toList (j + 1)) = X at *
      have HX := Lib.hid hX
      clear hX
      go_wp2
      go_roundw
      case rel => exact ⟨j + 1, by have := HJ.out; omega, by go_num, by rw [HO.out], by rw [HX.out], hbq⟩
      case measure => simp [intOf]; have := HJ.out; omega
    · have hje : j = (n + 31) / 32 := by omega
      have b1 : (n : Int) ≤ ((str (oE p.data.toList i.data.toList j)).size : Int) := by omega
      have HE : Hid ((str (oE p.data.toList i.data.toList j)).extract 0 n = str (expandL p.data.toList i.data.toList n)) := by
        show _ = _
        rw [str_take, hje]
        rfl
      have b2 : ((str (oE p.data.toList i.data.toList j)).size : Int) ≤ 300 := by omega
      clear hlt hj hje hol
      generalize str (oE p.data.toList i.data.toList j) = O at *
      go_wp2
      go_ret
      exact ⟨by rw [← HE.out]; rfl, hb⟩

end Go.Proofs.YtdhfddeghnoecaaDoor

/- The contracts of the program's Expand and Hkdf. -/
namespace Go.Proofs.YtdhfddeghnoecaaDoor
open Go.RowKit Go.My Go.Lib
set_option linter.unusedVariables false
set_option maxRecDepth 100000

def expandV (p i : List UInt8) (n : Int) : List UInt8 := if p.length ≤ 300 ∧ i.length ≤ 300 ∧ 0 ≤ n ∧ n ≤ 255 then expandL p i n.toNat else []
theorem expandV_no {p i : ByteArray} {n : Int} (h : ¬ (p.size ≤ 300 ∧ i.size ≤ 300 ∧ 0 ≤ n ∧ n ≤ 255)) : expandV p.data.toList i.data.toList n = [] := if_neg (by rw [len_data, len_data]; exact h)
theorem expandV_yes {p i : ByteArray} {n : Nat} (h : p.size ≤ 300 ∧ i.size ≤ 300 ∧ n ≤ 255) : expandV p.data.toList i.data.toList n = expandL p.data.toList i.data.toList n := if_pos (by rw [len_data, len_data]; omega)
theorem cat3 (a b c : ByteArray) : catL [a, b, c] = a.data.toList ++ b.data.toList ++ c.data.toList := by simp [catL]

set_option maxHeartbeats 4000000 in
theorem expand_run (p i : ByteArray) (n : Nat) (w : World) (hk : TabK w) (hp : p.size ≤ 300) (hi : i.size ≤ 300) (hn : n ≤ 255) :
    Calls Tryd.prog 63 #[.string p, .string i, .int .i64 n] w fun e w' => e = .returned (.string (str (expandL p.data.toList i.data.toList n))) ∧ Below w.heap.size w w' := by
  have HP := Lib.hid (And.intro hp hi)
  have hn1 : (n : Int) ≤ 255 := by omega
  have hn0 : (0 : Int) ≤ (n : Int) := by omega
  have HN := Lib.hid hn
  have hi1 : (i.size : Int) ≤ 300 := by omega
  have hp1 : (p.size : Int) ≤ 300 := by omega
  have h0 := hk.1
  clear hp hi hn
  go_enter Tryd.func63, Tryd.ntmps63
  go_wp2_with fail
  go_loopw [7, 8, 9] (fun o t x wr => ∃ j : Nat, j ≤ (n + 31) / 32 ∧ x = .int .i64 ((j : Int) + 1) ∧ o = .string (str (oE p.data.toList i.data.toList j)) ∧ t = .string (str (tE p.data.toList i.data.toList j)) ∧ Below w.heap.size w wr)
    (fun _ _ x _ => 20 - (intOf x).toNat)
  case atStart => exact ⟨0, Nat.zero_le _, rfl, rfl, rfl, Below.refl _ _⟩
  case round =>
    obtain ⟨j, hj, rfl, rfl, rfl, hb⟩ := hrel
    have hol : (str (oE p.data.toList i.data.toList j)).size = 32 * j := by rw [str_size, oE_len]
    by_cases hlt : 32 * j < n
    · have b1 : ((str (oE p.data.toList i.data.toList j)).size : Int) < (n : Int) := by omega
      have b2 : ((str (oE p.data.toList i.data.toList j)).size : Int) ≤ 300 := by omega
      have htl : (str (tE p.data.toList i.data.toList j)).size ≤ 32 := by rw [str_size]; exact tE_len _ _ _
      have HO : Hid (str (oE p.data.toList i.data.toList j) ++ str (tE p.data.toList i.data.toList (j + 1)) = str (oE p.data.toList i.data.toList (j + 1))) := by show _ = _; rw [str_app]; rfl
      have HT : Hid (str (tE p.data.toList i.data.toList (j + 1)) = str (hmacL p.data.toList ((str (tE p.data.toList i.data.toList j)).data.toList ++ i.data.toList ++ [UInt8.ofNat (j + 1)]))) := by show _ = _; rw [str_list]; rfl
      have HTS : Hid ((str (tE p.data.toList i.data.toList (j + 1))).size = 32) := by show _ = _; rw [str_size, tE, hmacL_len]
      have HTL : Hid ((str (tE p.data.toList i.data.toList j)).size ≤ 32) := htl
      have HJ := Lib.hid (And.intro hj hlt)
      have hj8 : (j : Int) ≤ 8 := by omega
      have hj0 : (0 : Int) ≤ (j : Int) := by omega
      have hkr := hk.below hb h0
      have HKR := Lib.hid hkr
      clear hol hlt hj htl hkr
      generalize str (oE p.data.toList i.data.toList j) = O at *
      generalize str (tE p.data.toList i.data.toList j) = T at *
      go_wp2_with fail
      refine (newMac_any p _ HKR.out (by have := HP.out; omega)).mono ?_
      rintro e wm ⟨g, ii, oo, rfl, hup⟩
      go_wp2_with fail
      refine (num_impl ((j : Int) + 1) 1 _ (wf_i64b _ (by omega) (by omega)) (wf_i64b _ (by omega) (by omega))).mono ?_
      rintro e wn ⟨rfl, hbn⟩
      rw [numB_one j (by have := HJ.out; have := HN.out; omega)]
      have hD1 : (str [UInt8.ofNat (j + 1)]).data.toList = [UInt8.ofNat (j + 1)] := str_list _
      have hD2 : (str [UInt8.ofNat (j + 1)]).size = 1 := rfl
      have HD := Lib.hid (And.intro hD1 hD2)
      clear hD1 hD2
      generalize str [UInt8.ofNat (j + 1)] = D at *
      have hup2 : MacUp wr (wn.alloc (.cells #[.string T, .string i, .string D] 9)) g ii oo _ _ 64 64 := hup.below (((Below.refl _ _).trans hbn).alloc hbn.size _)
      have hil := hup.1.2.1.1.lt
      have hsz := hbn.size
      have HUP := Lib.hid (And.intro hup2 (by omega : wn.heap.size ≠ ii))
      clear hup2 hup hil hsz hbn
      go_wp2_with fail
      refine (hashOf_mac wr g ii oo wn.heap.size _ _ 64 64 [T, i, D] _ HUP.out.1 HUP.out.2 (heap_alloc_new wn _) ?_ (by simp) (by decide) (by decide)).mono ?_
      · intro q hq
        have h1 := HP.out
        have h2 := HTL.out
        have h3 := HD.out.2
        simp only [List.mem_cons, List.not_mem_nil, or_false] at hq
        rcases hq with rfl | rfl | rfl
        · omega
        · omega
        · omega
      rintro e w3 ⟨rfl, hb3⟩
      have HR : Hid (str (sumL (dputs (dputs S0 (maskL (keyL p.data.toList) 92)) (sumL (dputs (dputs S0 (maskL (keyL p.data.toList) 54)) (catL [T, i, D])) (64 + (catL [T, i, D]).length))) (64 + 32)) = str (tE p.data.toList i.data.toList (j + 1))) := by
        show _ = _
        rw [HT.out, cat3, HD.out.1]
        rfl
      rw [HR.out]
      have hc3 : ¬ 9223372036854775807 < O.size + (str (tE p.data.toList i.data.toList (j + 1))).size := by have := HTS.out; omega
      have hbq := hb.trans (hb3.mono hb.size)
      clear hb hb3 b1 b2 HUP HR
      generalize hX : str (tE p.data.toList i.data.toList (j + 1)) = X at *
      have HX := Lib.hid hX
      clear hX
      go_wp2
      go_roundw
      case rel => exact ⟨j + 1, by have := HJ.out; omega, by go_num, by rw [HO.out], by rw [HX.out], hbq⟩
      case measure => simp [intOf]; have := HJ.out; omega
    · have hje : j = (n + 31) / 32 := by omega
      have b1 : (n : Int) ≤ ((str (oE p.data.toList i.data.toList j)).size : Int) := by omega
      have HE : Hid ((str (oE p.data.toList i.data.toList j)).extract 0 n = str (expandL p.data.toList i.data.toList n)) := by
        show _ = _
        rw [str_take, hje]
        rfl
      have b2 : ((str (oE p.data.toList i.data.toList j)).size : Int) ≤ 300 := by omega
      clear hlt hj hje hol
      generalize str (oE p.data.toList i.data.toList j) = O at *
      go_wp2
      go_ret
      exact ⟨by rw [← HE.out]; rfl, hb⟩

set_option maxHeartbeats 2000000 in
theorem expand_impl (p i : ByteArray) (n : Int) (w : World) (hk : TabK w) :
    Calls Tryd.prog 63 #[.string p, .string i, .int .i64 n] w fun e w' => e = .returned (.string (str (expandV p.data.toList i.data.toList n))) ∧ Below w.heap.size w w' := by
  by_cases h1 : p.size ≤ 300
  case neg =>
    have HV := Lib.hid (expandV_no (p := p) (i := i) (n := n) (by omega))
    have h1' : (300 : Int) < (p.size : Int) := by omega
    clear h1
    go_enter Tryd.func63, Tryd.ntmps63
    go_wp2
    go_ret
    exact ⟨by rw [HV.out]; rfl, Below.refl _ _⟩
  by_cases h2 : i.size ≤ 300
  case neg =>
    have HV := Lib.hid (expandV_no (p := p) (i := i) (n := n) (by omega))
    have h1' : (p.size : Int) ≤ 300 := by omega
    have h2' : (300 : Int) < (i.size : Int) := by omega
    clear h1 h2
    go_enter Tryd.func63, Tryd.ntmps63
    go_wp2
    go_ret
    exact ⟨by rw [HV.out]; rfl, Below.refl _ _⟩
  by_cases h3 : 0 ≤ n
  case neg =>
    have HV := Lib.hid (expandV_no (p := p) (i := i) (n := n) (by omega))
    have h1' : (p.size : Int) ≤ 300 := by omega
    have h2' : (i.size : Int) ≤ 300 := by omega
    have h3' : n < 0 := by omega
    clear h1 h2 h3
    go_enter Tryd.func63, Tryd.ntmps63
    go_wp2
    go_ret
    exact ⟨by rw [HV.out]; rfl, Below.refl _ _⟩
  by_cases h4 : n ≤ 255
  case neg =>
    have HV := Lib.hid (expandV_no (p := p) (i := i) (n := n) (by omega))
    have h1' : (p.size : Int) ≤ 300 := by omega
    have h2' : (i.size : Int) ≤ 300 := by omega
    have h4' : 255 < n := by omega
    clear h1 h2 h4
    go_enter Tryd.func63, Tryd.ntmps63
    go_wp2
    go_ret
    exact ⟨by rw [HV.out]; rfl, Below.refl _ _⟩
  obtain ⟨m, rfl⟩ : ∃ m : Nat, n = m := ⟨n.toNat, by omega⟩
  rw [expandV_yes ⟨h1, h2, by omega⟩]
  exact expand_run p i m w hk h1 h2 (by omega)

def hkdfV (s k i : List UInt8) (n : Int) : List UInt8 := if s.length ≤ 300 ∧ k.length ≤ 300 then expandV (hmacL s k) i n else []
theorem hkdfV_no {s k : ByteArray} {i : List UInt8} {n : Int} (h : ¬ (s.size ≤ 300 ∧ k.size ≤ 300)) : hkdfV s.data.toList k.data.toList i n = [] := if_neg (by rw [len_data, len_data]; exact h)
theorem hkdfV_yes {s k : ByteArray} {i : List UInt8} {n : Int} (h : s.size ≤ 300 ∧ k.size ≤ 300) : hkdfV s.data.toList k.data.toList i n = expandV (hmacL s.data.toList k.data.toList) i n := if_pos (by rw [len_data, len_data]; exact h)

set_option maxHeartbeats 2000000 in
theorem hkdf_impl (s k i : ByteArray) (n : Int) (w : World) (hk : TabK w) :
    Calls Tryd.prog 44 #[.string s, .string k, .string i, .int .i64 n] w fun e w' => e = .returned (.string (str (hkdfV s.data.toList k.data.toList i.data.toList n))) ∧ Below w.heap.size w w' := by
  by_cases h1 : s.size ≤ 300
  case neg =>
    have HV := Lib.hid (hkdfV_no (s := s) (k := k) (i := i.data.toList) (n := n) (by omega))
    have h1' : (300 : Int) < (s.size : Int) := by omega
    clear h1
    go_enter Tryd.func44, Tryd.ntmps44
    go_wp2
    go_ret
    exact ⟨by rw [HV.out]; rfl, Below.refl _ _⟩
  by_cases h2 : k.size ≤ 300
  case neg =>
    have HV := Lib.hid (hkdfV_no (s := s) (k := k) (i := i.data.toList) (n := n) (by omega))
    have h1' : (s.size : Int) ≤ 300 := by omega
    have h2' : (300 : Int) < (k.size : Int) := by omega
    clear h1 h2
    go_enter Tryd.func44, Tryd.ntmps44
    go_wp2
    go_ret
    exact ⟨by rw [HV.out]; rfl, Below.refl _ _⟩
  have HV := Lib.hid (hkdfV_yes (i := i.data.toList) (n := n) (And.intro h1 h2))
  have HX : Hid (extractV s.data.toList k.data.toList = hmacL s.data.toList k.data.toList) := if_pos ⟨by rw [len_data]; exact h1, by rw [len_data]; exact h2⟩
  have h1' : (s.size : Int) ≤ 300 := by omega
  have h2' : (k.size : Int) ≤ 300 := by omega
  have h0 := hk.1
  clear h1 h2
  go_enter Tryd.func44, Tryd.ntmps44
  go_wp2_with fail
  refine (extract_impl s k _ hk).mono ?_
  rintro e w1 ⟨rfl, hb1⟩
  rw [HX.out]
  have hk1 := hk.below hb1 h0
  go_wp2_with fail
  refine (expand_impl (str (hmacL s.data.toList k.data.toList)) i n _ hk1).mono ?_
  rintro e w2 ⟨rfl, hb2⟩
  rw [str_list, ← HV.out]
  go_wp2
  go_ret
  exact ⟨rfl, hb1.trans (hb2.mono hb1.size)⟩

/-! ### The specification's -/
set_option maxHeartbeats 2000000 in
theorem l2Hkdf_spec (s k i : ByteArray) (n : Nat) (w : World) (h1 : s.size ≤ 1000) (h2 : k.size ≤ 1000) (h3 : i.size ≤ 1000) (hn : n ≤ 255) :
    Calls Tryd.prog 40 #[.string s, .string k, .string i, .int .i64 n] w fun e w' => e = .returned (.string (str (expandL (hmacL s.data.toList k.data.toList) i.data.toList n))) ∧ Below w.heap.size w w' := by
  have HS := Lib.hid (And.intro h1 (And.intro h2 (And.intro h3 hn)))
  clear h1 h2 h3 hn
  go_enter Tryd.func40, Tryd.ntmps40
  go_wp2_with fail
  refine (l2Hmac_spec s k _ (by have := HS.out; omega) (by have := HS.out; omega)).mono ?_
  rintro e w1 ⟨rfl, hb1⟩
  go_wp2_with fail
  refine (l2Expand_spec (str (hmacL s.data.toList k.data.toList)) i n _ (by rw [str_size, hmacL_len]; omega) (by have := HS.out; omega) (by have := HS.out; omega)).mono ?_
  rintro e w2 ⟨rfl, hb2⟩
  rw [str_list]
  go_wp2
  go_ret
  exact ⟨rfl, hb1.trans (hb2.mono hb1.size)⟩

theorem hkdfV_no2 {s k i : ByteArray} {n : Int} (h : ¬ (i.size ≤ 300 ∧ 0 ≤ n ∧ n ≤ 255)) : hkdfV s.data.toList k.data.toList i.data.toList n = [] := by
  unfold hkdfV
  by_cases c : s.data.toList.length ≤ 300 ∧ k.data.toList.length ≤ 300
  · rw [if_pos c]
    exact if_neg (fun d => h (by rw [len_data] at d; exact d.2))
  · rw [if_neg c]
theorem hkdfV_yes2 {s k i : ByteArray} {n : Nat} (h : s.size ≤ 300 ∧ k.size ≤ 300 ∧ i.size ≤ 300 ∧ n ≤ 255) : hkdfV s.data.toList k.data.toList i.data.toList n = expandL (hmacL s.data.toList k.data.toList) i.data.toList n := by
  rw [hkdfV_yes ⟨h.1, h.2.1⟩]
  exact if_pos (by rw [hmacL_len, len_data]; omega)

end Go.Proofs.YtdhfddeghnoecaaDoor

/- Key chains: a step, of the program and of the specification. -/
namespace Go.Proofs.YtdhfddeghnoecaaDoor
open Go.RowKit Go.My Go.Lib
set_option linter.unusedVariables false
set_option maxRecDepth 100000

theorem key_dec (s : ByteArray) : ((s.size : Int) == 32) = decide (s.size = 32) := by
  by_cases h : s.size = 32
  · rw [h]; rfl
  · rw [decide_eq_false h]; exact beq_eq_false_iff_ne.2 (by omega)
theorem isKey_i (s : ByteArray) (w : World) (b : Bool) (hb : decide (s.size = 32) = b) (hs : s.size ≤ 9223372036854775807) :
    Calls Tryd.prog 42 #[.string s] w fun e w' => e = .returned (.bool b) ∧ w = w' := by
  subst hb
  have hd := key_dec s
  go_enter Tryd.func42, Tryd.ntmps42
  go_wp2
  go_ret
  exact ⟨rfl, rfl⟩
theorem isKey_s (s : ByteArray) (w : World) (b : Bool) (hb : decide (s.size = 32) = b) (hs : s.size ≤ 9223372036854775807) :
    Calls Tryd.prog 20 #[.string s] w fun e w' => e = .returned (.bool b) ∧ w = w' := by
  subst hb
  have hd := key_dec s
  go_enter Tryd.func20, Tryd.ntmps20
  go_wp2
  go_ret
  exact ⟨rfl, rfl⟩

/-- What a step gives: the next chain key and the message key. -/
def nextS (k : ByteArray) : ByteArray := str (hmacL k.data.toList [2])
def nowS (k : ByteArray) : ByteArray := str (hmacL k.data.toList [1])
theorem nextS_size (k : ByteArray) : (nextS k).size = 32 := by unfold nextS; rw [str_size, hmacL_len]
theorem nowS_size (k : ByteArray) : (nowS k).size = 32 := by unfold nowS; rw [str_size, hmacL_len]
theorem hmacV_next (k : ByteArray) (h : k.size = 32) : str (hmacV k.data.toList (ByteArray.mk #[2]).data.toList) = nextS k := by
  unfold nextS hmacV
  rw [if_pos ⟨by rw [len_data]; omega, by decide⟩]
theorem hmacV_now (k : ByteArray) (h : k.size = 32) : str (hmacV k.data.toList (ByteArray.mk #[1]).data.toList) = nowS k := by
  unfold nowS hmacV
  rw [if_pos ⟨by rw [len_data]; omega, by decide⟩]

def stepV (k : ByteArray) : Value := if k.size = 32 then .tuple #[.string (nextS k), .string (nowS k)] else .tuple #[.string ⟨#[]⟩, .string ⟨#[]⟩]
theorem stepV_yes (k : ByteArray) (h : k.size = 32) : stepV k = .tuple #[.string (nextS k), .string (nowS k)] := if_pos h
theorem stepV_no (k : ByteArray) (h : ¬ k.size = 32) : stepV k = .tuple #[.string ⟨#[]⟩, .string ⟨#[]⟩] := if_neg h

end Go.Proofs.YtdhfddeghnoecaaDoor

/- Key chains: the root's step, of the program and of the specification. -/
namespace Go.Proofs.YtdhfddeghnoecaaDoor
open Go.RowKit Go.My Go.Lib
set_option linter.unusedVariables false
set_option maxRecDepth 100000

def rootE (r d : ByteArray) : ByteArray := str (expandL (hmacL r.data.toList d.data.toList) [114, 111, 111, 116] 64)
theorem rootE_size (r d : ByteArray) : (rootE r d).size = 64 := by unfold rootE; rw [str_size, expandL_len]
def rootV (r d : ByteArray) : Value := if r.size = 32 ∧ d.size = 32 then .tuple #[.string ((rootE r d).extract 0 32), .string ((rootE r d).extract 32 64)] else .tuple #[.string ⟨#[]⟩, .string ⟨#[]⟩]
theorem rootV_yes (r d : ByteArray) (h : r.size = 32 ∧ d.size = 32) : rootV r d = .tuple #[.string ((rootE r d).extract 0 32), .string ((rootE r d).extract 32 64)] := if_pos h
theorem rootV_no (r d : ByteArray) (h : ¬ (r.size = 32 ∧ d.size = 32)) : rootV r d = .tuple #[.string ⟨#[]⟩, .string ⟨#[]⟩] := if_neg h
theorem hkdfV_root (r d : ByteArray) (h : r.size = 32 ∧ d.size = 32) : str (hkdfV r.data.toList d.data.toList (ByteArray.mk #[114, 111, 111, 116]).data.toList 64) = rootE r d := by
  have h4 : (ByteArray.mk #[114, 111, 111, 116]).size ≤ 300 := by decide
  have := hkdfV_yes2 (s := r) (k := d) (i := ByteArray.mk #[114, 111, 111, 116]) (n := 64) ⟨by omega, by omega, h4, by omega⟩
  exact congrArg str this

set_option maxHeartbeats 2000000 in
theorem l6Root_any (r d : ByteArray) (w : World) (h : r.size = 32 ∧ d.size = 32) :
    Calls Tryd.prog 22 #[.string r, .string d] w fun e w' => e = .returned (.tuple #[.string ((rootE r d).extract 0 32), .string ((rootE r d).extract 32 64)]) ∧ Below w.heap.size w w' := by
  have hE : ∀ w, Calls Tryd.prog 40 #[.string r, .string d, .string (ByteArray.mk #[114, 111, 111, 116]), .int .i64 64] w fun e w' => e = .returned (.string (rootE r d)) ∧ Below w.heap.size w w' := fun w => l2Hkdf_spec r d (ByteArray.mk #[114, 111, 111, 116]) 64 w (by omega) (by omega) (by decide) (by omega)
  have HE := Lib.hid hE
  have hz := rootE_size r d
  clear h hE
  have hz1 : (32 : Int) ≤ ((rootE r d).size : Int) := by omega
  have hz2 : ((rootE r d).size : Int) ≤ 64 := by omega
  have HZ := Lib.hid hz
  clear hz
  generalize rootE r d = E at *
  go_enter Tryd.func22, Tryd.ntmps22
  go_wp2_with fail
  refine (HE.out _).mono ?_
  rintro e w1 ⟨rfl, hb1⟩
  go_wp2
  go_quiet (fail)
  go_wp2
  go_ret2
  exact ⟨by simp [HZ.out], ⟨hb1.os, hb1.tape, hb1.output, hb1.size, hb1.block⟩⟩

set_option maxHeartbeats 2000000 in
theorem root_impl (r d : ByteArray) (w : World) (hk : TabK w) (hr : r.size ≤ 9223372036854775807) (hd : d.size ≤ 9223372036854775807) :
    Calls Tryd.prog 26 #[.string r, .string d] w fun e w' => e = .returned (rootV r d) ∧ Below w.heap.size w w' := by
  by_cases h1 : r.size = 32
  case neg =>
    have HV := Lib.hid (rootV_no r d (fun c => h1 c.1))
    go_enter Tryd.func26, Tryd.ntmps26
    go_wp2_with fail
    refine (isKey_i r _ _ (decide_eq_false h1) hr).mono ?_
    rintro e w1 ⟨rfl, rfl⟩
    clear h1
    go_wp2
    go_ret2
    exact ⟨by rw [HV.out]; rfl, Below.refl _ _⟩
  by_cases h2 : d.size = 32
  case neg =>
    have HV := Lib.hid (rootV_no r d (fun c => h2 c.2))
    go_enter Tryd.func26, Tryd.ntmps26
    go_wp2_with fail
    refine (isKey_i r _ _ (decide_eq_true h1) hr).mono ?_
    rintro e w1 ⟨rfl, rfl⟩
    go_wp2_with fail
    refine (isKey_i d _ _ (decide_eq_false h2) hd).mono ?_
    rintro e w1 ⟨rfl, rfl⟩
    clear h1 h2
    go_wp2
    go_ret2
    exact ⟨by rw [HV.out]; rfl, Below.refl _ _⟩
  have HV := Lib.hid (rootV_yes r d ⟨h1, h2⟩)
  have HE := Lib.hid (fun w h => (hkdfV_root r d ⟨h1, h2⟩) ▸ hkdf_impl r d (ByteArray.mk #[114, 111, 111, 116]) 64 w h)
  have hz := rootE_size r d
  go_enter Tryd.func26, Tryd.ntmps26
  go_wp2_with fail
  refine (isKey_i r _ _ (decide_eq_true h1) hr).mono ?_
  rintro e w1 ⟨rfl, rfl⟩
  go_wp2_with fail
  refine (isKey_i d _ _ (decide_eq_true h2) hd).mono ?_
  rintro e w1 ⟨rfl, rfl⟩
  clear h1 h2
  go_wp2_with fail
  refine (HE.out _ hk).mono ?_
  rintro e w1 ⟨rfl, hb1⟩
  have hz1 : (32 : Int) ≤ ((rootE r d).size : Int) := by omega
  have hz2 : ((rootE r d).size : Int) ≤ 64 := by omega
  have HZ := Lib.hid hz
  clear hz
  generalize rootE r d = E at *
  go_wp2
  go_quiet (fail)
  go_wp2
  go_ret2
  exact ⟨by rw [HV.out]; simp [HZ.out], ⟨hb1.os, hb1.tape, hb1.output, hb1.size, hb1.block⟩⟩

end Go.Proofs.YtdhfddeghnoecaaDoor

/- Sessions: StartA of both sides. -/
namespace Go.Proofs.YtdhfddeghnoecaaDoor
open Go.RowKit Go.My Go.Lib
set_option linter.unusedVariables false

def rt0 (r d : ByteArray) : ByteArray := if r.size = 32 ∧ d.size = 32 then (rootE r d).extract 0 32 else ByteArray.mk #[]
def rt1 (r d : ByteArray) : ByteArray := if r.size = 32 ∧ d.size = 32 then (rootE r d).extract 32 64 else ByteArray.mk #[]
theorem rootV_is (r d : ByteArray) : rootV r d = .tuple #[.string (rt0 r d), .string (rt1 r d)] := by
  by_cases h : r.size = 32 ∧ d.size = 32
  · rw [rootV_yes r d h, rt0, rt1, if_pos h, if_pos h]
  · rw [rootV_no r d h, rt0, rt1, if_neg h, if_neg h]
theorem dhV_le (k p : ByteArray) : (dhV k p).size ≤ 32 := by
  unfold dhV
  split
  · rw [str_size, leB_len]; omega
  · rw [str_size]; simp
def stA (r t o : ByteArray) : Array Value := if r.size = 32 ∧ t.size = 32 ∧ o.size = 32 then sesA (rt0 r (dhV o t)) o (dhV o nineS) t (rt1 r (dhV o t)) 0 0 (ByteArray.mk #[]) 0 else sesZ
theorem stA_is (r t o : ByteArray) : IsSes (stA r t o) := by
  unfold stA
  split
  · exact ⟨_, _, _, _, _, _, _, _, _, rfl⟩
  · exact ⟨_, _, _, _, _, _, _, _, _, rfl⟩
theorem pubA_i (k o : ByteArray) (w : World) (ho : o = dhV k nineS) (hk : k.size ≤ 1048576) (ht : TabP w) :
    Calls Tryd.prog 25 #[.string k] w fun e w' => e = .returned (.string o) ∧ Below w.heap.size w w' := by rw [ho]; exact pubI20 k w hk ht
theorem pubA_s (k o : ByteArray) (w : World) (ho : o = dhV k nineS) (hk : k.size ≤ 1048576) :
    Calls Tryd.prog 21 #[.string k] w fun e w' => e = .returned (.string o) ∧ Below w.heap.size w w' := by rw [ho]; exact pubS20 k w hk
theorem dhA_i (k p o : ByteArray) (w : World) (ho : o = dhV k p) (hk : k.size ≤ 1048576) (hp : p.size ≤ 1048576) (ht : TabP w) :
    Calls Tryd.prog 27 #[.string k, .string p] w fun e w' => e = .returned (.string o) ∧ Below w.heap.size w w' := by rw [ho]; exact dhI20 k p w hk hp ht
theorem dhA_s (k p o : ByteArray) (w : World) (ho : o = dhV k p) (hk : k.size ≤ 1048576) (hp : p.size ≤ 1048576) :
    Calls Tryd.prog 23 #[.string k, .string p] w fun e w' => e = .returned (.string o) ∧ Below w.heap.size w w' := by rw [ho]; exact dhS20 k p w hk hp
theorem rootA_i (r d x y : ByteArray) (w : World) (hx : x = rt0 r d) (hy : y = rt1 r d) (hr : r.size ≤ 1048576) (hd : d.size ≤ 32) (ht : TabK w) :
    Calls Tryd.prog 26 #[.string r, .string d] w fun e w' => e = .returned (.tuple #[.string x, .string y]) ∧ Below w.heap.size w w' := by rw [hx, hy, ← rootV_is]; exact root_impl r d w ht (by omega) (by omega)
theorem dhV_sz (k p : ByteArray) (h : k.size = 32 ∧ p.size = 32) : (dhV k p).size = 32 := by
  rw [dhV, if_pos h, str_size, leB_len]
theorem rootA_s (r d x y : ByteArray) (w : World) (hx : x = rt0 r d) (hy : y = rt1 r d) (hr : r.size = 32) (hd : d.size = 32) :
    Calls Tryd.prog 22 #[.string r, .string d] w fun e w' => e = .returned (.tuple #[.string x, .string y]) ∧ Below w.heap.size w w' := by
  rw [hx, hy, rt0, rt1, if_pos ⟨hr, hd⟩, if_pos ⟨hr, hd⟩]; exact l6Root_any r d w ⟨hr, hd⟩

set_option maxRecDepth 100000 in
set_option maxHeartbeats 4000000 in
theorem startA_i (r t o : ByteArray) (w : World) (hr : r.size ≤ 1048576) (hh : t.size ≤ 1048576) (ho : o.size ≤ 1048576) (hT : TabP w ∧ TabK w) :
    Calls Tryd.prog 8 #[.string r, .string t, .string o] w fun e w' => e = .returned (.tuple #[.agg (stA r t o), .bool (decide (r.size = 32 ∧ t.size = 32 ∧ o.size = 32))]) ∧ Below w.heap.size w w' := by
  have hb0 : Below w.heap.size w ((w.alloc (.cells sesZ 24)).alloc (.cells (strsA [r, t, o]) 9)) := ((Below.refl _ _).alloc (Nat.le_refl _) _).alloc (by simp) _
  have HTP := Lib.hid hT.1
  have HTK := Lib.hid hT.2
  have HK := Lib.hid (allKeys_any (w.heap.size + 1) [r, t, o] ((w.alloc (.cells sesZ 24)).alloc (.cells (strsA [r, t, o]) 9)) (heap_alloc2_new w _ _) (by simp) (fun j hj => by
    have : j = 0 ∨ j = 1 ∨ j = 2 := by simp at hj; omega
    rcases this with rfl | rfl | rfl
    · show r.size ≤ _; omega
    · show t.size ≤ _; omega
    · show o.size ≤ _; omega))
  have f0 : Blk w.heap.size sesZ 24 ((w.alloc (.cells sesZ 24)).alloc (.cells (strsA [r, t, o]) 9)) := heap_alloc2_old w _ _
  have HA : Hid (allK [r, t, o] = decide (r.size = 32 ∧ t.size = 32 ∧ o.size = 32)) := by show _ = _; simp [allK]
  have HR := Lib.hid hr
  have HH := Lib.hid hh
  have HO := Lib.hid ho
  clear hr hh ho hT
  by_cases h : r.size = 32 ∧ t.size = 32 ∧ o.size = 32
  · obtain ⟨p, ep⟩ : ∃ p, p = dhV o nineS := ⟨_, rfl⟩
    obtain ⟨d, ed⟩ : ∃ d, d = dhV o t := ⟨_, rfl⟩
    have HD : Hid (d.size ≤ 32) := by show _ ≤ _; rw [ed]; exact dhV_le o t
    obtain ⟨x, ex⟩ : ∃ x, x = rt0 r d := ⟨_, rfl⟩
    obtain ⟨y, ey⟩ : ∃ y, y = rt1 r d := ⟨_, rfl⟩
    have HV : Hid (stA r t o = sesA x o p t y 0 0 (ByteArray.mk #[]) 0) := by show _ = _; rw [ey, ex, ep, ed]; exact if_pos h
    have Ep := Lib.hid ep
    have Ed := Lib.hid ed
    have Ex := Lib.hid ex
    have Ey := Lib.hid ey
    rw [decide_eq_true h] at HA ⊢
    clear h ep ed ex ey
    generalize hst : stA r t o = A at *
    have HST := Lib.hid hst
    clear hst
    go_enter Tryd.func8, Tryd.ntmps8
    go_wp2_with fail
    refine HK.out.mono ?_
    rintro e w' ⟨rfl, rfl⟩
    rw [HA.out]
    clear HK
    go_wp2_with fail
    refine (pubA_i o p ((w.alloc (.cells sesZ 24)).alloc (.cells (strsA [r, t, o]) 9)) Ep.out HO.out (HTP.out.below hb0 HTP.out.1)).mono ?_
    rintro e w1 ⟨rfl, hb1⟩
    have hB1 := hb0.trans (hb1.mono hb0.size)
    replace f0 := f0.below hb1
    clear hb1 hb0
    go_wp2_with (first | ((with_reducible refine wpList_store_row' (o := ⟨none, .store 24 _ _, _, _, _, _⟩) rfl 24 _ _ rfl w1.heap.size (sesA (ByteArray.mk #[]) o p t (ByteArray.mk #[]) 0 0 (ByteArray.mk #[]) 0) rfl rfl 24 sesZ (heap_alloc_new w1 _) (sesSz _ _ _ _ _ _ _ _ _) rfl (sesOne _ _ _ _ _ _ _ _ _) ?_); intro w2 hw2 hs2 hg2) | fail)
    have f2 : Blk w1.heap.size (sesA (ByteArray.mk #[]) o p t (ByteArray.mk #[]) 0 0 (ByteArray.mk #[]) 0) 24 w2 := hw2
    have hB2 : Below w.heap.size w w2 := (hB1.alloc hB1.size _).grown hg2 (by simp; have := hB1.size; omega) (by intro k hk; have := Option.some.inj hk; have := hB1.size; omega)
    have hl0 := f0.lt
    replace f0 : Blk w.heap.size sesZ 24 w2 := (hg2.block _ (by simp; omega) (by simp; omega)).trans ((Below.heap_alloc _ _ _ hl0).trans f0)
    have HNE : Hid (w.heap.size ≠ w1.heap.size) := by show _ ≠ _; omega
    have HGE : Hid (w.heap.size ≤ w1.heap.size) := hB1.size
    clear hw2 hs2 hg2 hB1 hl0
    obtain ⟨g, hg⟩ : ∃ g, g = w1.heap.size := ⟨_, rfl⟩
    rw [← hg] at f2 HNE HGE
    refine (dhA_i o t d w2 Ed.out HO.out HH.out (HTP.out.below hB2 HTP.out.1)).mono ?_
    rintro e w3 ⟨rfl, hb3⟩
    have hB3 := hB2.trans (hb3.mono hB2.size)
    replace f0 := f0.below hb3
    replace f2 := f2.below hb3
    clear hb3 hB2
    go_wp2_with fail
    refine (rootA_i r d x y w3 Ex.out Ey.out HR.out HD.out (HTK.out.below hB3 HTK.out.1)).mono ?_
    rintro e w4 ⟨rfl, hb4⟩
    have hB4 := hB3.trans (hb4.mono hB3.size)
    replace f0 := f0.below hb4
    replace f2 := f2.below hb4
    clear hb4 hB3
    have c0 := f2.cell (j := 0) rfl
    have c4 := f2.cell (j := 4) rfl
    have z0 := f2.froz (j := 0)
    have z4 := f2.froz (j := 4)
    rw [hg] at c0 c4 z0 z4
    have F2 : Hid (Blk w1.heap.size (sesA x o p t y 0 0 (ByteArray.mk #[]) 0) 24 ((w4.setCell ⟨w1.heap.size, 0, none⟩ (.string x)).setCell ⟨w1.heap.size, 4, none⟩ (.string y))) := by rw [← hg]; exact (f2.set 0 (.string x)).set 4 (.string y)
    have F0 : Hid (Blk w.heap.size sesZ 24 ((w4.setCell ⟨w1.heap.size, 0, none⟩ (.string x)).setCell ⟨w1.heap.size, 4, none⟩ (.string y))) := by rw [← hg]; exact (f0.other 0 _ HNE.out).other 4 _ HNE.out
    have HB : Hid (Below w.heap.size w ((w4.setCell ⟨w1.heap.size, 0, none⟩ (.string x)).setCell ⟨w1.heap.size, 4, none⟩ (.string y))) := by rw [← hg]; exact (hB4.setCell (p := ⟨g, 0, none⟩) HGE.out _).setCell (p := ⟨g, 4, none⟩) HGE.out _
    clear f0 f2 hB4 hg
    go_wp2_with (first | with_reducible refine wpList_load_row (o := ⟨some 31, _, _, _, _, _⟩) rfl 24 _ rfl w1.heap.size rfl 24 (sesA x o p t y 0 0 (ByteArray.mk #[]) 0) (0, 0) _ F2.out.h Tryd.underlying24 rfl (sesSz _ _ _ _ _ _ _ _ _) ?_ | ((with_reducible refine wpList_store_row' (o := ⟨none, .store 24 _ _, _, _, _, _⟩) rfl 24 _ _ rfl w.heap.size (sesA x o p t y 0 0 (ByteArray.mk #[]) 0) rfl rfl 24 sesZ F0.out.h (sesSz _ _ _ _ _ _ _ _ _) rfl (sesOne _ _ _ _ _ _ _ _ _) ?_); intro w5 hw5 hs5 hg5) | fail)
    have hB5 : Below w.heap.size w w5 := HB.out.grown hg5 (by have := HB.out.size; omega) (by intro k hk; have := Option.some.inj hk; omega)
    refine bodyPost_ret (v := .tuple #[.agg (sesA x o p t y 0 0 (ByteArray.mk #[]) 0), .bool true]) ?_ rfl ⟨by rw [HV.out], hB5⟩
    exact results_row_tmp Tryd.results8 _ _ w.heap.size 24 _ (0, 0) _ rfl hw5 Tryd.underlying24 rfl (sesSz _ _ _ _ _ _ _ _ _)
  · have HV : Hid (stA r t o = sesZ) := if_neg h
    rw [decide_eq_false h] at HA ⊢
    clear h
    generalize hst : stA r t o = A at *
    have HST := Lib.hid hst
    clear hst
    go_enter Tryd.func8, Tryd.ntmps8
    go_wp2_with fail
    refine HK.out.mono ?_
    rintro e w' ⟨rfl, rfl⟩
    rw [HA.out]
    go_wp2
    refine bodyPost_ret (v := .tuple #[.agg sesZ, .bool false]) ?_ rfl ⟨by rw [HV.out], hb0⟩
    exact results_row_tmp Tryd.results8 _ _ w.heap.size 24 _ (0, 0) _ rfl f0.h Tryd.underlying24 rfl (sesSz _ _ _ _ _ _ _ _ _)

set_option maxRecDepth 100000 in
set_option maxHeartbeats 4000000 in
theorem startA_s (r t o : ByteArray) (w : World) (hr : r.size ≤ 1048576) (hh : t.size ≤ 1048576) (ho : o.size ≤ 1048576) :
    Calls Tryd.prog 7 #[.string r, .string t, .string o] w fun e w' => e = .returned (.tuple #[.agg (stA r t o), .bool (decide (r.size = 32 ∧ t.size = 32 ∧ o.size = 32))]) ∧ Below w.heap.size w w' := by
  have hb0 : Below w.heap.size w (w.alloc (.cells sesZ 24)) := (Below.refl _ _).alloc (Nat.le_refl _) _
  have f0 : Blk w.heap.size sesZ 24 (w.alloc (.cells sesZ 24)) := heap_alloc_new w _
  have HR := Lib.hid hr
  have HH := Lib.hid hh
  have HO := Lib.hid ho
  by_cases h1 : r.size = 32
  case neg =>
    have H1 : Hid (((r.size : Int) == 32) = false) := by show _ = _; simp; omega
    have HV : Hid (stA r t o = sesZ) := if_neg (fun c => h1 c.1)
    rw [decide_eq_false (fun c => h1 c.1)]
    clear h1 hr hh ho
    generalize hst : stA r t o = A at *
    have HST := Lib.hid hst
    clear hst
    go_enter Tryd.func7, Tryd.ntmps7
    go_wp2_with fail
    refine (l1Key_bool r _ false H1.out).mono ?_
    rintro e w' ⟨rfl, rfl⟩
    go_wp2
    refine bodyPost_ret (v := .tuple #[.agg sesZ, .bool false]) ?_ rfl ⟨by rw [HV.out], hb0⟩
    exact results_row_tmp Tryd.results7 _ _ w.heap.size 24 _ (0, 0) _ rfl f0.h Tryd.underlying24 rfl (sesSz _ _ _ _ _ _ _ _ _)
  have H1 : Hid (((r.size : Int) == 32) = true) := by show _ = _; simp; omega
  by_cases h2 : t.size = 32
  case neg =>
    have H2 : Hid (((t.size : Int) == 32) = false) := by show _ = _; simp; omega
    have HV : Hid (stA r t o = sesZ) := if_neg (fun c => h2 c.2.1)
    rw [decide_eq_false (fun c => h2 c.2.1)]
    clear h1 h2 hr hh ho
    generalize hst : stA r t o = A at *
    have HST := Lib.hid hst
    clear hst
    go_enter Tryd.func7, Tryd.ntmps7
    go_wp2_with fail
    refine (l1Key_bool r _ true H1.out).mono ?_
    rintro e w' ⟨rfl, rfl⟩
    go_wp2_with fail
    refine (l1Key_bool t _ false H2.out).mono ?_
    rintro e w' ⟨rfl, rfl⟩
    go_wp2
    refine bodyPost_ret (v := .tuple #[.agg sesZ, .bool false]) ?_ rfl ⟨by rw [HV.out], hb0⟩
    exact results_row_tmp Tryd.results7 _ _ w.heap.size 24 _ (0, 0) _ rfl f0.h Tryd.underlying24 rfl (sesSz _ _ _ _ _ _ _ _ _)
  have H2 : Hid (((t.size : Int) == 32) = true) := by show _ = _; simp; omega
  by_cases h3 : o.size = 32
  case neg =>
    have H3 : Hid (((o.size : Int) == 32) = false) := by show _ = _; simp; omega
    have HV : Hid (stA r t o = sesZ) := if_neg (fun c => h3 c.2.2)
    rw [decide_eq_false (fun c => h3 c.2.2)]
    clear h1 h2 h3 hr hh ho
    generalize hst : stA r t o = A at *
    have HST := Lib.hid hst
    clear hst
    go_enter Tryd.func7, Tryd.ntmps7
    go_wp2_with fail
    refine (l1Key_bool r _ true H1.out).mono ?_
    rintro e w' ⟨rfl, rfl⟩
    go_wp2_with fail
    refine (l1Key_bool t _ true H2.out).mono ?_
    rintro e w' ⟨rfl, rfl⟩
    go_wp2_with fail
    refine (l1Key_bool o _ false H3.out).mono ?_
    rintro e w' ⟨rfl, rfl⟩
    go_wp2
    refine bodyPost_ret (v := .tuple #[.agg sesZ, .bool false]) ?_ rfl ⟨by rw [HV.out], hb0⟩
    exact results_row_tmp Tryd.results7 _ _ w.heap.size 24 _ (0, 0) _ rfl f0.h Tryd.underlying24 rfl (sesSz _ _ _ _ _ _ _ _ _)
  · have H3 : Hid (((o.size : Int) == 32) = true) := by show _ = _; simp; omega
    obtain ⟨p, ep⟩ : ∃ p, p = dhV o nineS := ⟨_, rfl⟩
    obtain ⟨d, ed⟩ : ∃ d, d = dhV o t := ⟨_, rfl⟩
    have HD : Hid (d.size = 32) := by show _ = _; rw [ed]; exact dhV_sz o t ⟨h3, h2⟩
    have HR2 := Lib.hid h1
    obtain ⟨x, ex⟩ : ∃ x, x = rt0 r d := ⟨_, rfl⟩
    obtain ⟨y, ey⟩ : ∃ y, y = rt1 r d := ⟨_, rfl⟩
    have HV : Hid (stA r t o = sesA x o p t y 0 0 (ByteArray.mk #[]) 0) := by show _ = _; rw [ey, ex, ep, ed]; exact if_pos ⟨h1, h2, h3⟩
    have Ep := Lib.hid ep
    have Ed := Lib.hid ed
    have Ex := Lib.hid ex
    have Ey := Lib.hid ey
    rw [decide_eq_true ⟨h1, h2, h3⟩]
    clear h1 h2 h3 ep ed ex ey hr hh ho
    generalize hst : stA r t o = A at *
    have HST := Lib.hid hst
    clear hst
    go_enter Tryd.func7, Tryd.ntmps7
    go_wp2_with fail
    refine (l1Key_bool r _ true H1.out).mono ?_
    rintro e w' ⟨rfl, rfl⟩
    go_wp2_with fail
    refine (l1Key_bool t _ true H2.out).mono ?_
    rintro e w' ⟨rfl, rfl⟩
    go_wp2_with fail
    refine (l1Key_bool o _ true H3.out).mono ?_
    rintro e w' ⟨rfl, rfl⟩
    go_wp2_with fail
    refine (pubA_s o p (w.alloc (.cells sesZ 24)) Ep.out HO.out).mono ?_
    rintro e w1 ⟨rfl, hb1⟩
    have hB1 := hb0.trans (hb1.mono hb0.size)
    replace f0 := f0.below hb1
    clear hb1 hb0
    go_wp2_with (first | ((with_reducible refine wpList_store_row' (o := ⟨none, .store 24 _ _, _, _, _, _⟩) rfl 24 _ _ rfl w1.heap.size (sesA (ByteArray.mk #[]) o p t (ByteArray.mk #[]) 0 0 (ByteArray.mk #[]) 0) rfl rfl 24 sesZ (heap_alloc_new w1 _) (sesSz _ _ _ _ _ _ _ _ _) rfl (sesOne _ _ _ _ _ _ _ _ _) ?_); intro w2 hw2 hs2 hg2) | fail)
    have f2 : Blk w1.heap.size (sesA (ByteArray.mk #[]) o p t (ByteArray.mk #[]) 0 0 (ByteArray.mk #[]) 0) 24 w2 := hw2
    have hB2 : Below w.heap.size w w2 := (hB1.alloc hB1.size _).grown hg2 (by simp; have := hB1.size; omega) (by intro k hk; have := Option.some.inj hk; have := hB1.size; omega)
    have hl0 := f0.lt
    replace f0 : Blk w.heap.size sesZ 24 w2 := (hg2.block _ (by simp; omega) (by simp; omega)).trans ((Below.heap_alloc _ _ _ hl0).trans f0)
    have HNE : Hid (w.heap.size ≠ w1.heap.size) := by show _ ≠ _; omega
    have HGE : Hid (w.heap.size ≤ w1.heap.size) := hB1.size
    clear hw2 hs2 hg2 hB1 hl0
    obtain ⟨g, hg⟩ : ∃ g, g = w1.heap.size := ⟨_, rfl⟩
    rw [← hg] at f2 HNE HGE
    refine (dhA_s o t d w2 Ed.out HO.out HH.out).mono ?_
    rintro e w3 ⟨rfl, hb3⟩
    have hB3 := hB2.trans (hb3.mono hB2.size)
    replace f0 := f0.below hb3
    replace f2 := f2.below hb3
    clear hb3 hB2
    go_wp2_with fail
    refine (rootA_s r d x y w3 Ex.out Ey.out HR2.out HD.out).mono ?_
    rintro e w4 ⟨rfl, hb4⟩
    have hB4 := hB3.trans (hb4.mono hB3.size)
    replace f0 := f0.below hb4
    replace f2 := f2.below hb4
    clear hb4 hB3
    have c0 := f2.cell (j := 0) rfl
    have c4 := f2.cell (j := 4) rfl
    have z0 := f2.froz (j := 0)
    have z4 := f2.froz (j := 4)
    rw [hg] at c0 c4 z0 z4
    have F2 : Hid (Blk w1.heap.size (sesA x o p t y 0 0 (ByteArray.mk #[]) 0) 24 ((w4.setCell ⟨w1.heap.size, 0, none⟩ (.string x)).setCell ⟨w1.heap.size, 4, none⟩ (.string y))) := by rw [← hg]; exact (f2.set 0 (.string x)).set 4 (.string y)
    have F0 : Hid (Blk w.heap.size sesZ 24 ((w4.setCell ⟨w1.heap.size, 0, none⟩ (.string x)).setCell ⟨w1.heap.size, 4, none⟩ (.string y))) := by rw [← hg]; exact (f0.other 0 _ HNE.out).other 4 _ HNE.out
    have HB : Hid (Below w.heap.size w ((w4.setCell ⟨w1.heap.size, 0, none⟩ (.string x)).setCell ⟨w1.heap.size, 4, none⟩ (.string y))) := by rw [← hg]; exact (hB4.setCell (p := ⟨g, 0, none⟩) HGE.out _).setCell (p := ⟨g, 4, none⟩) HGE.out _
    clear f0 f2 hB4 hg
    go_wp2_with (first | with_reducible refine wpList_load_row (o := ⟨some 38, _, _, _, _, _⟩) rfl 24 _ rfl w1.heap.size rfl 24 (sesA x o p t y 0 0 (ByteArray.mk #[]) 0) (0, 0) _ F2.out.h Tryd.underlying24 rfl (sesSz _ _ _ _ _ _ _ _ _) ?_ | ((with_reducible refine wpList_store_row' (o := ⟨none, .store 24 _ _, _, _, _, _⟩) rfl 24 _ _ rfl w.heap.size (sesA x o p t y 0 0 (ByteArray.mk #[]) 0) rfl rfl 24 sesZ F0.out.h (sesSz _ _ _ _ _ _ _ _ _) rfl (sesOne _ _ _ _ _ _ _ _ _) ?_); intro w5 hw5 hs5 hg5) | fail)
    have hB5 : Below w.heap.size w w5 := HB.out.grown hg5 (by have := HB.out.size; omega) (by intro k hk; have := Option.some.inj hk; omega)
    refine bodyPost_ret (v := .tuple #[.agg (sesA x o p t y 0 0 (ByteArray.mk #[]) 0), .bool true]) ?_ rfl ⟨by rw [HV.out], hB5⟩
    exact results_row_tmp Tryd.results7 _ _ w.heap.size 24 _ (0, 0) _ rfl hw5 Tryd.underlying24 rfl (sesSz _ _ _ _ _ _ _ _ _)

end Go.Proofs.YtdhfddeghnoecaaDoor

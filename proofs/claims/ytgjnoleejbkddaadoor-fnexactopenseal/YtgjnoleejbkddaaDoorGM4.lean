import Derived.Test.YtgjnoleejbkddaaDoorGSp5
import Derived.Test.YtgjnoleejbkddaaDoorGM1
import Derived.Test.YtgjnoleejbkddaaDoorGSha9
/- The contracts of the specification's l2Key and l2Hmac. -/
namespace Go.Proofs.YtgjnoleejbkddaaDoor
open Go.RowKit Go.My Go.Lib
set_option linter.unusedVariables false
set_option maxRecDepth 100000

def padK (l : List UInt8) : List UInt8 := l ++ List.replicate (64 - l.length) 0
theorem keyL_sha (k : List UInt8) (h : k.length < 536870912) : keyL k = if k.length ≤ 64 then k else shaL k := by
  unfold keyL
  rw [sha_eq k h]

set_option maxHeartbeats 2000000 in
theorem l2Key_spec (s : ByteArray) (w : World) (hs : s.size ≤ 10000) :
    Calls Tryd.prog 30 #[.string s] w fun e w' => e = .returned (.string (str (padK (keyL s.data.toList)))) ∧ Below w.heap.size w w' := by
  have HS := Lib.hid hs
  have hkl := keyL_sha s.data.toList (by rw [len_data]; omega)
  have hl := len_data s
  by_cases hlt : s.size ≤ 64
  case pos =>
    have hlt2 : (s.size : Int) ≤ 64 := by omega
    rw [if_pos (by omega)] at hkl
    have HKL := Lib.hid hkl
    clear hkl hs hlt hl
    go_enter Tryd.func30, Tryd.ntmps30
    go_wp2_with fail
    rw [show Value.string s = Value.string (str (keyL s.data.toList)) by rw [HKL.out, str_of]]
    have hlen := keyL_len s.data.toList
    generalize hKK : keyL s.data.toList = K at *
    have HKK := Lib.hid hKK
    clear hKK
    have HLEN := Lib.hid hlen
    clear hlen
    go_loopw [0] (fun v wr => ∃ m : Nat, m ≤ 64 - K.length ∧ v = .string (str (K ++ List.replicate m 0)) ∧ wr = w)
      (fun v _ => match v with | .string t => 64 - t.size | _ => 0)
    case atStart => exact ⟨0, Nat.zero_le _, by simp, rfl⟩
    case round =>
      obtain ⟨m, hm, rfl, rfl⟩ := hrel
      have hsz : (str (K ++ List.replicate m 0)).size = K.length + m := by rw [str_size, List.length_append, List.length_replicate]
      have hsn : str (K ++ List.replicate m 0) ++ (⟨#[0]⟩ : ByteArray) = str (K ++ List.replicate (m + 1) 0) := by
        rw [show (⟨#[0]⟩ : ByteArray) = str [0] from rfl, str_app, List.replicate_succ', List.append_assoc]
      have hsz2 : (str (K ++ List.replicate (m + 1) 0)).size = K.length + (m + 1) := by rw [str_size, List.length_append, List.length_replicate]
      have HSN := Lib.hid hsn
      have HSZ := Lib.hid (And.intro hsz hsz2)
      by_cases hlt : K.length + m < 64
      · have b1 : ((str (K ++ List.replicate m 0)).size : Int) < 64 := by omega
        have hcat : ¬ 9223372036854775807 < (str (K ++ List.replicate m 0)).size + 1 := by omega
        have HM := Lib.hid (And.intro hm hlt)
        clear hsz hsn hsz2 hm hlt
        generalize str (K ++ List.replicate m 0) = B at *
        go_wp2
        go_roundw
        case rel => exact ⟨m + 1, by have := HM.out; omega, by rw [HSN.out], trivial⟩
        case measure =>
          rw [HSN.out]
          show 64 - (str (K ++ List.replicate (m + 1) 0)).size < 64 - B.size
          have := HSZ.out; have := HM.out
          omega
      · have b1 : (64 : Int) ≤ ((str (K ++ List.replicate m 0)).size : Int) := by omega
        have HF : Hid (str (K ++ List.replicate m 0) = str (padK K)) := by
          show str (K ++ List.replicate m 0) = str (padK K)
          unfold padK
          rw [show m = 64 - K.length by have := HLEN.out; omega]
        clear hsz hsn hsz2 hm hlt HSN HSZ
        generalize str (K ++ List.replicate m 0) = B at *
        go_wp2
        go_ret
        exact ⟨by rw [HKK.out, ← HF.out]; rfl, Below.refl _ _⟩
  case neg =>
    have hlt2 : (64 : Int) < (s.size : Int) := by omega
    rw [if_neg (by omega)] at hkl
    have HKL := Lib.hid hkl
    clear hkl hs hlt hl
    go_enter Tryd.func30, Tryd.ntmps30
    go_wp2_with fail
    refine (l2Sha_spec s _ HS.out).mono ?_
    rintro e w1 ⟨rfl, hb1⟩
    rw [← HKL.out]
    go_wp2_with fail
    have hlen := keyL_len s.data.toList
    generalize hKK : keyL s.data.toList = K at *
    have HKK := Lib.hid hKK
    clear hKK
    have HLEN := Lib.hid hlen
    clear hlen
    go_loopw [0] (fun v wr => ∃ m : Nat, m ≤ 64 - K.length ∧ v = .string (str (K ++ List.replicate m 0)) ∧ wr = w1)
      (fun v _ => match v with | .string t => 64 - t.size | _ => 0)
    case atStart => exact ⟨0, Nat.zero_le _, by simp, rfl⟩
    case round =>
      obtain ⟨m, hm, rfl, rfl⟩ := hrel
      have hsz : (str (K ++ List.replicate m 0)).size = K.length + m := by rw [str_size, List.length_append, List.length_replicate]
      have hsn : str (K ++ List.replicate m 0) ++ (⟨#[0]⟩ : ByteArray) = str (K ++ List.replicate (m + 1) 0) := by
        rw [show (⟨#[0]⟩ : ByteArray) = str [0] from rfl, str_app, List.replicate_succ', List.append_assoc]
      have hsz2 : (str (K ++ List.replicate (m + 1) 0)).size = K.length + (m + 1) := by rw [str_size, List.length_append, List.length_replicate]
      have HSN := Lib.hid hsn
      have HSZ := Lib.hid (And.intro hsz hsz2)
      by_cases hlt : K.length + m < 64
      · have b1 : ((str (K ++ List.replicate m 0)).size : Int) < 64 := by omega
        have hcat : ¬ 9223372036854775807 < (str (K ++ List.replicate m 0)).size + 1 := by omega
        have HM := Lib.hid (And.intro hm hlt)
        clear hsz hsn hsz2 hm hlt
        generalize str (K ++ List.replicate m 0) = B at *
        go_wp2
        go_roundw
        case rel => exact ⟨m + 1, by have := HM.out; omega, by rw [HSN.out], trivial⟩
        case measure =>
          rw [HSN.out]
          show 64 - (str (K ++ List.replicate (m + 1) 0)).size < 64 - B.size
          have := HSZ.out; have := HM.out
          omega
      · have b1 : (64 : Int) ≤ ((str (K ++ List.replicate m 0)).size : Int) := by omega
        have HF : Hid (str (K ++ List.replicate m 0) = str (padK K)) := by
          show str (K ++ List.replicate m 0) = str (padK K)
          unfold padK
          rw [show m = 64 - K.length by have := HLEN.out; omega]
        clear hsz hsn hsz2 hm hlt HSN HSZ
        generalize str (K ++ List.replicate m 0) = B at *
        go_wp2
        go_ret
        exact ⟨by rw [HKK.out, ← HF.out]; rfl, hb1⟩

end Go.Proofs.YtgjnoleejbkddaaDoor

/- The contracts of the program's Hmac and Extract. -/
namespace Go.Proofs.YtgjnoleejbkddaaDoor
open Go.RowKit Go.My Go.Lib
set_option linter.unusedVariables false
set_option maxRecDepth 100000

/-- hashOf(newMac(key), ps..) -/
theorem mac_hash {w wm : World} {g i o : Nat} (key : ByteArray) (ps : List ByteArray) (hup : MacUp w wm g i o (dputs S0 (maskL (keyL key.data.toList) 54)) (dputs S0 (maskL (keyL key.data.toList) 92)) 64 64)
    (hps : ∀ q ∈ ps, q.size ≤ 1000) (hn : ps.length ≤ 8) :
    Calls Tryd.prog 41 #[.iface 59 (.pointer (some ⟨g, 0, none⟩)), .slice (some ⟨wm.heap.size, 0, none⟩) ps.length ps.length] (wm.alloc (.cells (ps.map Value.string).toArray 9)) fun e w' => e = .returned (.string (str (hmacL key.data.toList (catL ps)))) ∧ Below w.heap.size w w' := by
  have hba : Below wm.heap.size wm (wm.alloc (.cells (ps.map Value.string).toArray 9)) := (Below.refl _ _).alloc (Nat.le_refl _) _
  have hi := hup.1.2.1.1.lt
  exact hashOf_mac w g i o wm.heap.size _ _ 64 64 ps _ (hup.below hba) (by omega) (heap_alloc_new wm _) hps hn (by decide) (by decide)

def hmacV (k s : List UInt8) : List UInt8 := if k.length ≤ 1000 ∧ s.length ≤ 1000 then hmacL k s else []

set_option maxHeartbeats 2000000 in
theorem hmac_impl (k s : ByteArray) (w : World) (hk : TabK w) :
    Calls Tryd.prog 61 #[.string k, .string s] w fun e w' => e = .returned (.string (str (hmacV k.data.toList s.data.toList))) ∧ Below w.heap.size w w' := by
  by_cases h1 : k.size ≤ 1000
  case neg =>
    have h1' : (1000 : Int) < (k.size : Int) := by omega
    have HV : Hid (hmacV k.data.toList s.data.toList = []) := if_neg (fun c => h1 (by have := c.1; rw [len_data] at this; exact this))
    clear h1
    go_enter Tryd.func61, Tryd.ntmps61
    go_wp2
    go_ret
    exact ⟨by rw [HV.out]; rfl, Below.refl _ _⟩
  by_cases h2 : s.size ≤ 1000
  case neg =>
    have h1' : (k.size : Int) ≤ 1000 := by omega
    have h2' : (1000 : Int) < (s.size : Int) := by omega
    have HV : Hid (hmacV k.data.toList s.data.toList = []) := if_neg (fun c => h2 (by have := c.2; rw [len_data] at this; exact this))
    clear h1 h2
    go_enter Tryd.func61, Tryd.ntmps61
    go_wp2
    go_ret
    exact ⟨by rw [HV.out]; rfl, Below.refl _ _⟩
  have h1' : (k.size : Int) ≤ 1000 := by omega
  have h2' : (s.size : Int) ≤ 1000 := by omega
  have HV : Hid (hmacV k.data.toList s.data.toList = hmacL k.data.toList s.data.toList) := if_pos ⟨by rw [len_data]; exact h1, by rw [len_data]; exact h2⟩
  have HS := Lib.hid (And.intro h1 h2)
  clear h1 h2
  go_enter Tryd.func61, Tryd.ntmps61
  go_wp2_with fail
  refine (newMac_any k _ hk HS.out.1).mono ?_
  rintro e wm ⟨g, i, o, rfl, hup⟩
  go_wp2_with fail
  refine (mac_hash k [s] hup (by intro q hq; rw [List.mem_singleton] at hq; rw [hq]; exact HS.out.2) (by simp)).mono ?_
  rintro e wx ⟨rfl, hbx⟩
  rw [catL_one, ← HV.out]
  go_wp2
  go_ret
  exact ⟨rfl, hbx⟩

def extractV (k s : List UInt8) : List UInt8 := if k.length ≤ 300 ∧ s.length ≤ 300 then hmacL k s else []

set_option maxHeartbeats 2000000 in
theorem extract_impl (k s : ByteArray) (w : World) (hk : TabK w) :
    Calls Tryd.prog 49 #[.string k, .string s] w fun e w' => e = .returned (.string (str (extractV k.data.toList s.data.toList))) ∧ Below w.heap.size w w' := by
  by_cases h1 : k.size ≤ 300
  case neg =>
    have h1' : (300 : Int) < (k.size : Int) := by omega
    have HV : Hid (extractV k.data.toList s.data.toList = []) := if_neg (fun c => h1 (by have := c.1; rw [len_data] at this; exact this))
    clear h1
    go_enter Tryd.func49, Tryd.ntmps49
    go_wp2
    go_ret
    exact ⟨by rw [HV.out]; rfl, Below.refl _ _⟩
  by_cases h2 : s.size ≤ 300
  case neg =>
    have h1' : (k.size : Int) ≤ 300 := by omega
    have h2' : (300 : Int) < (s.size : Int) := by omega
    have HV : Hid (extractV k.data.toList s.data.toList = []) := if_neg (fun c => h2 (by have := c.2; rw [len_data] at this; exact this))
    clear h1 h2
    go_enter Tryd.func49, Tryd.ntmps49
    go_wp2
    go_ret
    exact ⟨by rw [HV.out]; rfl, Below.refl _ _⟩
  have h1' : (k.size : Int) ≤ 300 := by omega
  have h2' : (s.size : Int) ≤ 300 := by omega
  have HV : Hid (hmacV k.data.toList s.data.toList = extractV k.data.toList s.data.toList) := (if_pos ⟨by rw [len_data]; omega, by rw [len_data]; omega⟩ : hmacV _ _ = _).trans (if_pos ⟨by rw [len_data]; exact h1, by rw [len_data]; exact h2⟩).symm
  clear h1 h2
  go_enter Tryd.func49, Tryd.ntmps49
  go_wp2_with fail
  refine (hmac_impl k s _ hk).mono ?_
  rintro e wm ⟨rfl, hb⟩
  rw [HV.out]
  go_wp2
  go_ret
  exact ⟨rfl, hb⟩

end Go.Proofs.YtgjnoleejbkddaaDoor

/- The contracts of the specification's l2Hmac, Hmac, Extract. -/
namespace Go.Proofs.YtgjnoleejbkddaaDoor
open Go.RowKit Go.My Go.Lib
set_option linter.unusedVariables false
set_option maxRecDepth 100000

theorem shaL_len (l : List UInt8) : (shaL l).length = 32 := stN_len _ _
theorem padK_len (l : List UInt8) (h : l.length ≤ 64) : (padK l).length = 64 := by
  unfold padK
  rw [List.length_append, List.length_replicate]
  omega
theorem hmac_sha (k s : List UInt8) (hs : s.length < 500000000) : hmacL k s = shaL ((padK (keyL k)).map (· ^^^ 92) ++ shaL ((padK (keyL k)).map (· ^^^ 54) ++ s)) := by
  have hl := padK_len _ (keyL_len k)
  have hm : ∀ m : UInt8, maskL (keyL k) m = (padK (keyL k)).map (· ^^^ m) := fun m => rfl
  have hml : ∀ m : UInt8, ((padK (keyL k)).map (· ^^^ m)).length = 64 := fun m => by rw [List.length_map, hl]
  unfold hmacL
  rw [hm, hm, ← dputs_append, ← dputs_append]
  have e1 : 64 + s.length = ((padK (keyL k)).map (· ^^^ 54) ++ s).length := by rw [List.length_append, hml]
  rw [e1, sha_eq _ (by rw [← e1]; omega)]
  have e2 : 96 = ((padK (keyL k)).map (· ^^^ 92) ++ shaL ((padK (keyL k)).map (· ^^^ 54) ++ s)).length := by rw [List.length_append, hml, shaL_len]
  rw [show (sumL (dputs S0 ((padK (keyL k)).map (· ^^^ 92) ++ shaL ((padK (keyL k)).map (· ^^^ 54) ++ s))) 96) = sumL (dputs S0 ((padK (keyL k)).map (· ^^^ 92) ++ shaL ((padK (keyL k)).map (· ^^^ 54) ++ s))) ((padK (keyL k)).map (· ^^^ 92) ++ shaL ((padK (keyL k)).map (· ^^^ 54) ++ s)).length by rw [← e2], sha_eq _ (by rw [← e2]; omega)]

set_option maxHeartbeats 2000000 in
theorem l2Hmac_spec (k s : ByteArray) (w : World) (hk : k.size ≤ 10000) (hs : s.size ≤ 9000) :
    Calls Tryd.prog 14 #[.string k, .string s] w fun e w' => e = .returned (.string (str (hmacL k.data.toList s.data.toList))) ∧ Below w.heap.size w w' := by
  rw [hmac_sha k.data.toList s.data.toList (by rw [len_data]; omega)]
  have hl := padK_len _ (keyL_len k.data.toList)
  generalize hPK : padK (keyL k.data.toList) = P at *
  have HPK := Lib.hid hPK
  clear hPK
  have HK := Lib.hid hk
  have HS := Lib.hid hs
  clear hk hs
  go_enter Tryd.func14, Tryd.ntmps14
  go_wp2_with fail
  refine (l2Key_spec k _ HK.out).mono ?_
  rintro e w1 ⟨rfl, hb1⟩
  rw [HPK.out]
  have hpl : (str P).data.toList = P := str_list P
  have hps : (str P).size = 64 := by rw [str_size, hl]
  have HP := Lib.hid (And.intro hl (And.intro hpl hps))
  clear hl hpl hps
  go_wp2_with fail
  refine (l2With_spec (str P) 92 _ (by have := HP.out; omega)).mono ?_
  rintro e w2 ⟨rfl, hb2⟩
  go_wp2_with fail
  refine (l2With_spec (str P) 54 _ (by have := HP.out; omega)).mono ?_
  rintro e w3 ⟨rfl, hb3⟩
  rw [HP.out.2.1]
  have s54 : (str (P.map (· ^^^ 54))).size = 64 := by rw [str_size, List.length_map]; exact HP.out.1
  have s92 : (str (P.map (· ^^^ 92))).size = 64 := by rw [str_size, List.length_map]; exact HP.out.1
  have hc1 : ¬ 9223372036854775807 < (str (P.map (· ^^^ 54))).size + s.size := by have := HS.out; omega
  have HA : Hid (str (P.map (· ^^^ 54)) ++ s = str (P.map (· ^^^ 54) ++ s.data.toList)) := by show _ = _; rw [← str_app, str_of]
  have HZ : Hid ((str (P.map (· ^^^ 54)) ++ s).size ≤ 9064) := by show _ ≤ _; rw [ByteArray.size_append]; have := HS.out; omega
  have hb13 := hb1.trans ((hb2.trans (hb3.mono hb2.size)).mono hb1.size)
  clear hb1 hb2 hb3
  go_wp2_with fail
  refine (l2Sha_spec (str (P.map (· ^^^ 54)) ++ s) _ (by have := HZ.out; omega)).mono ?_
  rintro e w4 ⟨rfl, hb4⟩
  rw [HA.out, str_list]
  have s32 : (str (shaL (P.map (· ^^^ 54) ++ s.data.toList))).size = 32 := by rw [str_size, shaL_len]
  have HB : Hid (str (P.map (· ^^^ 92)) ++ str (shaL (P.map (· ^^^ 54) ++ s.data.toList)) = str (P.map (· ^^^ 92) ++ shaL (P.map (· ^^^ 54) ++ s.data.toList))) := by show _ = _; rw [← str_app]
  generalize hQ : shaL (P.map (· ^^^ 54) ++ s.data.toList) = Q at *
  have HQ := Lib.hid hQ
  clear hQ
  have hc2 : ¬ 9223372036854775807 < (str (P.map (· ^^^ 92))).size + (str Q).size := by omega
  have HZ2 : Hid ((str (P.map (· ^^^ 92)) ++ str Q).size ≤ 96) := by show _ ≤ _; rw [ByteArray.size_append]; omega
  have hb14 := hb13.trans (hb4.mono hb13.size)
  clear hb13 hb4
  go_wp2_with fail
  refine (l2Sha_spec (str (P.map (· ^^^ 92)) ++ str Q) _ (by have := HZ2.out; omega)).mono ?_
  rintro e w5 ⟨rfl, hb5⟩
  rw [HB.out, str_list]
  go_wp2
  go_ret
  exact ⟨by rw [HQ.out]; rfl, hb14.trans (hb5.mono hb14.size)⟩

end Go.Proofs.YtgjnoleejbkddaaDoor

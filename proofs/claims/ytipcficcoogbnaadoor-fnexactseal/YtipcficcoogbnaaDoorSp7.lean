/- The contracts of the specification's l2Hmac, Hmac, Extract. -/
import Derived.Test.YtipcficcoogbnaaDoorSp6
import Derived.Test.YtipcficcoogbnaaDoorSha10
namespace Go.Proofs.YtipcficcoogbnaaDoor
open Go.RowKit Go.My Go.Lib
set_option linter.unusedVariables false
set_option maxRecDepth 100000

theorem shaL_len (l : List UInt8) : (shaL l).length = 32 := stN_len _ _
theorem padK_len (l : List UInt8) (h : l.length ≤ 64) : (padK l).length = 64 := by
  unfold padK
  rw [List.length_append, List.length_replicate]
  omega
theorem hmac_sha (k s : List UInt8) (hs : s.length < 500000000) : hmacL k s = shaL ((padK (keyL k)).map (· ^^^ 92) ++ shaL ((padK (keyL k)).map (· ^^^ 54) ++ s)) := by
  have hl := padK_len _ (keyL_len k)
  have hm : ∀ m : UInt8, maskL (keyL k) m = (padK (keyL k)).map (· ^^^ m) := fun m => rfl
  have hml : ∀ m : UInt8, ((padK (keyL k)).map (· ^^^ m)).length = 64 := fun m => by rw [List.length_map, hl]
  unfold hmacL
  rw [hm, hm, ← dputs_append, ← dputs_append]
  have e1 : 64 + s.length = ((padK (keyL k)).map (· ^^^ 54) ++ s).length := by rw [List.length_append, hml]
  rw [e1, sha_eq _ (by rw [← e1]; omega)]
  have e2 : 96 = ((padK (keyL k)).map (· ^^^ 92) ++ shaL ((padK (keyL k)).map (· ^^^ 54) ++ s)).length := by rw [List.length_append, hml, shaL_len]
  rw [show (sumL (dputs S0 ((padK (keyL k)).map (· ^^^ 92) ++ shaL ((padK (keyL k)).map (· ^^^ 54) ++ s))) 96) = sumL (dputs S0 ((padK (keyL k)).map (· ^^^ 92) ++ shaL ((padK (keyL k)).map (· ^^^ 54) ++ s))) ((padK (keyL k)).map (· ^^^ 92) ++ shaL ((padK (keyL k)).map (· ^^^ 54) ++ s)).length by rw [← e2], sha_eq _ (by rw [← e2]; omega)]

set_option maxHeartbeats 2000000 in
theorem l2Hmac_spec (k s : ByteArray) (w : World) (hk : k.size ≤ 10000) (hs : s.size ≤ 9000) :
    Calls Tryd.prog 26 #[.string k, .string s] w fun e w' => e = .returned (.string (str (hmacL k.data.toList s.data.toList))) ∧ Below w.heap.size w w' := by
  rw [hmac_sha k.data.toList s.data.toList (by rw [len_data]; omega)]
  have hl := padK_len _ (keyL_len k.data.toList)
  generalize hPK : padK (keyL k.data.toList) = P at *
  have HPK := Lib.hid hPK
  clear hPK
  have HK := Lib.hid hk
  have HS := Lib.hid hs
  clear hk hs
  go_enter Tryd.func26, Tryd.ntmps26
  go_wp2_with fail
  refine (l2Key_spec k _ HK.out).mono ?_
  rintro e w1 ⟨rfl, hb1⟩
  rw [HPK.out]
  have hpl : (str P).data.toList = P := str_list P
  have hps : (str P).size = 64 := by rw [str_size, hl]
  have HP := Lib.hid (And.intro hl (And.intro hpl hps))
  clear hl hpl hps
  go_wp2_with fail
  refine (l2With_spec (str P) 92 _ (by have := HP.out; omega)).mono ?_
  rintro e w2 ⟨rfl, hb2⟩
  go_wp2_with fail
  refine (l2With_spec (str P) 54 _ (by have := HP.out; omega)).mono ?_
  rintro e w3 ⟨rfl, hb3⟩
  rw [HP.out.2.1]
  have s54 : (str (P.map (· ^^^ 54))).size = 64 := by rw [str_size, List.length_map]; exact HP.out.1
  have s92 : (str (P.map (· ^^^ 92))).size = 64 := by rw [str_size, List.length_map]; exact HP.out.1
  have hc1 : ¬ 9223372036854775807 < (str (P.map (· ^^^ 54))).size + s.size := by have := HS.out; omega
  have HA : Hid (str (P.map (· ^^^ 54)) ++ s = str (P.map (· ^^^ 54) ++ s.data.toList)) := by show _ = _; rw [← str_app, str_of]
  have HZ : Hid ((str (P.map (· ^^^ 54)) ++ s).size ≤ 9064) := by show _ ≤ _; rw [ByteArray.size_append]; have := HS.out; omega
  have hb13 := hb1.trans ((hb2.trans (hb3.mono hb2.size)).mono hb1.size)
  clear hb1 hb2 hb3
  go_wp2_with fail
  refine (l2Sha_spec (str (P.map (· ^^^ 54)) ++ s) _ (by have := HZ.out; omega)).mono ?_
  rintro e w4 ⟨rfl, hb4⟩
  rw [HA.out, str_list]
  have s32 : (str (shaL (P.map (· ^^^ 54) ++ s.data.toList))).size = 32 := by rw [str_size, shaL_len]
  have HB : Hid (str (P.map (· ^^^ 92)) ++ str (shaL (P.map (· ^^^ 54) ++ s.data.toList)) = str (P.map (· ^^^ 92) ++ shaL (P.map (· ^^^ 54) ++ s.data.toList))) := by show _ = _; rw [← str_app]
  generalize hQ : shaL (P.map (· ^^^ 54) ++ s.data.toList) = Q at *
  have HQ := Lib.hid hQ
  clear hQ
  have hc2 : ¬ 9223372036854775807 < (str (P.map (· ^^^ 92))).size + (str Q).size := by omega
  have HZ2 : Hid ((str (P.map (· ^^^ 92)) ++ str Q).size ≤ 96) := by show _ ≤ _; rw [ByteArray.size_append]; omega
  have hb14 := hb13.trans (hb4.mono hb13.size)
  clear hb13 hb4
  go_wp2_with fail
  refine (l2Sha_spec (str (P.map (· ^^^ 92)) ++ str Q) _ (by have := HZ2.out; omega)).mono ?_
  rintro e w5 ⟨rfl, hb5⟩
  rw [HB.out, str_list]
  go_wp2
  go_ret
  exact ⟨by rw [HQ.out]; rfl, hb14.trans (hb5.mono hb14.size)⟩

end Go.Proofs.YtipcficcoogbnaaDoor

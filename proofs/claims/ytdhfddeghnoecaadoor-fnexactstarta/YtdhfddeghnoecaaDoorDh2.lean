/- The specification's Dh and PublicOf. -/
import Derived.Test.YtdhfddeghnoecaaDoorLad2
import Derived.Test.YtdhfddeghnoecaaDoorDh1
namespace Go.Proofs.YtdhfddeghnoecaaDoor
open Go.RowKit Go.My Go.Lib
set_option linter.unusedVariables false

theorem str_list (l : List UInt8) : (str l).data.toList = l := rfl
theorem clampV_key (k : ByteArray) (h : k.size = 32) : (clampV k).size = 32 ∧ leN (clampV k).data.toList = leN (clampL k.data.toList) := by
  rw [clampV, if_pos h, str_size, clampL_len, len_data]
  exact ⟨h, rfl⟩
theorem mid_wr {o : Nat → Int} (h : Mid o) : ∀ q, q < 10 → -7205759403792793600 ≤ o q ∧ o q ≤ 7205759403792793600 := fun q hq => by have := h q hq; omega
def nineF (q : Nat) : Int := if q = 0 then 9 else 0
theorem nineF_hf : Hf nineF := fun q _ => by unfold nineF; split <;> omega
theorem nineF_rN : rN nineF = 9 := by decide +kernel
theorem nine_l10 : #[Value.int .i64 9, Value.int .i64 0, Value.int .i64 0, Value.int .i64 0, Value.int .i64 0, Value.int .i64 0, Value.int .i64 0, Value.int .i64 0, Value.int .i64 0, Value.int .i64 0] = rwA .i64 10 nineF := rfl
theorem nineS_n : leN nineS.data.toList % T255 % P25n = 9 := by decide +kernel

set_option maxHeartbeats 4000000 in
theorem dh_s (k p : ByteArray) (w : World) (hk : k.size ≤ 9223372036854775807) (hp : p.size ≤ 9223372036854775807) :
    Calls Tryd.prog 23 #[.string k, .string p] w fun e w' => e = .returned (.string (dhV k p)) ∧ Below w.heap.size w w' := by
  by_cases h1 : k.size = 32
  case neg =>
    have HD : Hid (((k.size : Int) == 32) = false) := by show _ = _; simp; omega
    have HV : Hid (dhV k p = str []) := if_neg (fun c => h1 c.1)
    clear h1 hk hp
    go_enter Tryd.func23, Tryd.ntmps23
    go_wp2_with fail
    refine (l1Key_bool k _ false HD.out).mono ?_
    rintro e w' ⟨rfl, rfl⟩
    go_wp2
    go_ret
    exact ⟨by rw [HV.out]; rfl, Below.refl _ _⟩
  have HD : Hid (((k.size : Int) == 32) = true) := by show _ = _; simp; omega
  by_cases h2 : p.size = 32
  case neg =>
    have HE : Hid (((p.size : Int) == 32) = false) := by show _ = _; simp; omega
    have HV : Hid (dhV k p = str []) := if_neg (fun c => h2 c.2)
    clear h1 h2 hk hp
    go_enter Tryd.func23, Tryd.ntmps23
    go_wp2_with fail
    refine (l1Key_bool k _ true HD.out).mono ?_
    rintro e w' ⟨rfl, rfl⟩
    go_wp2_with fail
    refine (l1Key_bool p _ false HE.out).mono ?_
    rintro e w' ⟨rfl, rfl⟩
    go_wp2
    go_ret
    exact ⟨by rw [HV.out]; rfl, Below.refl _ _⟩
  have HE : Hid (((p.size : Int) == 32) = true) := by show _ = _; simp; omega
  have HC := Lib.hid (clampV_key k h1)
  have HV : Hid (dhV k p = str (leB (ladV (leN (clampV k).data.toList) (rN (digZ (leN p.data.toList)))) 32)) := by
    show _ = _
    rw [dhV, if_pos ⟨h1, h2⟩, HC.out.2, rN_dig]
    rfl
  have HP := Lib.hid h2
  have HK := Lib.hid hk
  clear h1 h2 hk hp
  have HCS := Lib.hid (fun w => clamp_s k w HK.out)
  generalize clampV k = c at *
  go_enter Tryd.func23, Tryd.ntmps23
  go_wp2_with fail
  refine (l1Key_bool k _ true HD.out).mono ?_
  rintro e w' ⟨rfl, rfl⟩
  go_wp2_with fail
  refine (l1Key_bool p _ true HE.out).mono ?_
  rintro e w' ⟨rfl, rfl⟩
  go_wp2_with fail
  refine (HCS.out _).mono ?_
  rintro e w1 ⟨rfl, hb1⟩
  go_wp2_with fail
  refine (read_any p _ HP.out).mono ?_
  rintro e w2 ⟨rfl, hb2'⟩
  have hb2 := hb1.trans (hb2'.mono hb1.size)
  clear hb1 hb2'
  go_wp2_with fail
  refine (ladL_any c (digZ (leN p.data.toList)) _ HC.out.1 (dig_hf _)).mono ?_
  rintro e w3 ⟨o, rfl, hm, hr, hb3'⟩
  have hb3 := hb2.trans (hb3'.mono hb2.size)
  have HR := Lib.hid (And.intro hm hr)
  clear hb2 hb3' hm hr
  go_wp2_with fail
  refine (write_any o _ (mid_wr HR.out.1)).mono ?_
  rintro e w4 ⟨rfl, hb4'⟩
  have hb4 := hb3.trans (hb4'.mono hb3.size)
  clear hb3 hb4'
  go_wp2
  go_ret
  exact ⟨by rw [HV.out, ← HR.out.2]; rfl, hb4⟩

set_option maxHeartbeats 4000000 in
theorem pub_s (k : ByteArray) (w : World) (hk : k.size ≤ 9223372036854775807) :
    Calls Tryd.prog 21 #[.string k] w fun e w' => e = .returned (.string (dhV k nineS)) ∧ Below w.heap.size w w' := by
  by_cases h1 : k.size = 32
  case neg =>
    have HD : Hid (((k.size : Int) == 32) = false) := by show _ = _; simp; omega
    have HV : Hid (dhV k nineS = str []) := if_neg (fun c => h1 c.1)
    clear h1 hk
    go_enter Tryd.func21, Tryd.ntmps21
    go_wp2_with fail
    refine (l1Key_bool k _ false HD.out).mono ?_
    rintro e w' ⟨rfl, rfl⟩
    go_wp2
    go_ret
    exact ⟨by rw [HV.out]; rfl, Below.refl _ _⟩
  have HD : Hid (((k.size : Int) == 32) = true) := by show _ = _; simp; omega
  have HC := Lib.hid (clampV_key k h1)
  have HV : Hid (dhV k nineS = str (leB (ladV (leN (clampV k).data.toList) (rN nineF)) 32)) := by
    show _ = _
    rw [dhV, if_pos ⟨h1, nine_size⟩, HC.out.2, nineS_n, nineF_rN]
  have HK := Lib.hid hk
  clear h1 hk
  have HCS := Lib.hid (fun w => clamp_s k w HK.out)
  generalize clampV k = c at *
  go_enter Tryd.func21, Tryd.ntmps21
  go_wp2_with fail
  refine (l1Key_bool k _ true HD.out).mono ?_
  rintro e w' ⟨rfl, rfl⟩
  go_wp2_with fail
  refine (HCS.out _).mono ?_
  rintro e w1 ⟨rfl, hb1⟩
  go_wp2_with fail
  rw [nine_l10]
  refine (ladL_any c nineF _ HC.out.1 nineF_hf).mono ?_
  rintro e w3 ⟨o, rfl, hm, hr, hb3'⟩
  have hb3 := hb1.trans (hb3'.mono hb1.size)
  have HR := Lib.hid (And.intro hm hr)
  clear hb1 hb3' hm hr
  go_wp2_with fail
  refine (write_any o _ (mid_wr HR.out.1)).mono ?_
  rintro e w4 ⟨rfl, hb4'⟩
  have hb4 := hb3.trans (hb4'.mono hb3.size)
  clear hb3 hb4'
  go_wp2
  go_ret
  exact ⟨by rw [HV.out, ← HR.out.2]; rfl, hb4⟩

end Go.Proofs.YtdhfddeghnoecaaDoor

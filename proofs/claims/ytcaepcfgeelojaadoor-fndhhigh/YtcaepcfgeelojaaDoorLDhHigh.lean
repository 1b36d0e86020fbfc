/- Proved: for every code FnDhHigh returns true: Dh answers as the specification's, its answer is a field element, and the highest bit of the public key is passed over (codes of more than 2^20 bytes are passed over by the law itself). The package-level tables that the code reads are tied to the program's text. No further condition. -/
import Derived.Test.YtcaepcfgeelojaaDoorRows
import Derived.Test.YtcaepcfgeelojaaDoorCards
import Derived.Test.YtcaepcfgeelojaaDoorTie
import Derived.WalkKit
import Derived.ProofKit
import Derived.OpenShut
import Derived.ShutString
import Derived.ChangeOld
import Derived.ChangeVars
import Derived.OpenVars
import Derived.Below
import Derived.Deep.DeepHandedRow
import Derived.Lib.LaidTab
import Derived.Test.YtcaepcfgeelojaaDoorLadZ
import Derived.Test.YtcaepcfgeelojaaDoorCardP
namespace Go.Proofs.YtcaepcfgeelojaaDoor.fnDhHigh
open Go.ChangeShapes Go.WideShapes Go.ChangeAt Go.RowKit Go.My
open Go.ChangeMaps (open_string shut_string)
set_option linter.unusedVariables false

theorem own : ownKnob Tryd.prog.godebug = none := by kernel_rfl
theorem laidOut : laidOutB Tryd.prog = true := by kernel_rfl
theorem xor128 (x : Nat) (h : x < 256) : bits .xor .u8 (x : Int) 128 = (((x + 128) % 256 : Nat) : Int) := by
  have : ∀ x : Nat, x < 256 → bits .xor .u8 (x : Int) 128 = (((x + 128) % 256 : Nat) : Int) := by decide +kernel
  exact this x h
theorem split31 (b : ByteArray) (h : b.size = 32) (l31 : 31 < b.size) : b.data.toList = b.data.toList.take 31 ++ [UInt8.ofNat (b[31]'l31).toNat] := by
  have hl := len_data b
  have e : (b.data.toList)[31]'(by omega) = b[31]'l31 := by rw [← get_list b 31 l31, List.getD_eq_getElem?_getD, List.getElem?_eq_getElem (by omega)]; rfl
  conv => lhs; rw [← List.take_append_drop 31 b.data.toList]
  congr 1
  rw [List.drop_eq_getElem_cons (by omega), e, List.drop_of_length_le (by omega)]
  congr 1
  apply UInt8.toNat_inj.1
  rw [ofNat_n _ (b[31]'l31).toNat_lt]

set_option maxHeartbeats 4000000 in
theorem walk (w : World) (hk : TabP w) (a0 : Option Addr) (len0 cap0 : Nat) (z0 : List Int) (w0 : IsRow .u8 w a0 len0 cap0 z0) :
    Calls Tryd.prog 7 #[.slice a0 len0 cap0] w fun e w' => e = .returned (.bool true) ∧ Below w.heap.size w w' := by
  have hm0 := row_maxD w0
  by_cases hl : len0 ≤ 1048576
  case neg =>
    have hd : decide (1048576 < (len0 : Int)) = true := by simp; omega
    go_enter Tryd.func7, Tryd.ntmps7
    go_wp2_with fail
    refine (big_any _ _ _ _ hm0).mono ?_
    rintro e w' ⟨rfl, rfl⟩
    rw [hd]
    go_wp2
    go_ret
    exact ⟨rfl, Below.refl _ _⟩
  have hd : decide (1048576 < (len0 : Int)) = false := by simp; omega
  have hc := code_of_row w0 hl
  clear w0 hl
  go_enter Tryd.func7, Tryd.ntmps7
  go_wp2_with fail
  refine (big_any _ _ _ _ hm0).mono ?_
  rintro e w' ⟨rfl, rfl⟩
  rw [hd]
  clear hm0 hd
  go_wp2_with fail
  refine (draw_dh w.heap.size a0 len0 cap0 _ (Nat.le_refl _) hc).mono ?_
  rintro e w1 ⟨a, b, rfl, ha, hb, hb1'⟩
  have hb1 := hb1'
  clear hb1'
  clear hc
  have HS := Lib.hid (And.intro ha hb)
  clear ha hb
  have HI := Lib.hid (fun w h => dhI20 a b w (by have := HS.out; omega) (by have := HS.out; omega) h)
  have HQ := Lib.hid (fun w => dhS20 a b w (by have := HS.out; omega) (by have := HS.out; omega))
  by_cases h32 : a.size = 32 ∧ b.size = 32
  case neg =>
    have e0 : dhV a b = str [] := dhV_neg h32
    have e1 := emptyE
    rw [e0] at HI HQ
    clear e0 h32
    generalize str [] = E at *
    go_wp2_with fail
    refine (HI.out _ (hk.below hb1 hk.1)).mono ?_
    rintro e w3 ⟨rfl, hb3'⟩
    have hb3 := hb1.trans (hb3'.mono hb1.size)
    clear hb3' hb1
    go_wp2_with fail
    refine (HQ.out _).mono ?_
    rintro e w4 ⟨rfl, hb4'⟩
    have hb4 := hb3.trans (hb4'.mono hb3.size)
    clear hb4' hb3
    go_wp2_with fail
    refine (HQ.out _).mono ?_
    rintro e w5 ⟨rfl, hb5'⟩
    have hb5 := hb4.trans (hb5'.mono hb4.size)
    clear hb5' hb4
    go_wp2
    go_ret
    exact ⟨rfl, hb5⟩
  have l31 : 31 < b.size := by omega
  have hbs : (b.size : Int) = 32 := by omega
  have hx := (b[31]'l31).toNat_lt
  have hxe := xor128 (b[31]'l31).toNat hx
  have hy : ((b[31]'l31).toNat + 128) % 256 < 256 := Nat.mod_lt _ (by omega)
  have sb := split31 b h32.2 l31
  have hM : (b.data.toList.take 31).length = 31 := by rw [List.length_take, len_data]; omega
  have hX : (b.extract 0 31).data.toList = b.data.toList.take 31 := (ext_list b 0 31).trans (by rw [List.drop_zero])
  have hXS : (b.extract 0 31).size = 31 := by rw [← len_data, hX, hM]
  have HH : Hid (dhV a (b.extract 0 31 ++ str [UInt8.ofNat (((b[31]'l31).toNat + 128) % 256)]) = dhV a b) := by
    refine dh_high a b _ (b[31]'l31).toNat (((b[31]'l31).toNat + 128) % 256) h32.2 ?_ hx hy (by omega) (b.data.toList.take 31) hM sb ?_
    · rw [ByteArray.size_append, hXS, str_size]; rfl
    · rw [ByteArray.data_append, Array.toList_append, hX]
      rfl
  have HTS : Hid ((b.extract 0 31 ++ str [UInt8.ofNat (((b[31]'l31).toNat + 128) % 256)]).size ≤ 1048576) := by show _ ≤ _; rw [ByteArray.size_append, hXS, str_size]; simp
  have HT := Lib.hid (fun w h => dhI20 a (b.extract 0 31 ++ str [UInt8.ofNat (((b[31]'l31).toNat + 128) % 256)]) w (by have := HS.out; omega) HTS.out h)
  rw [HH.out] at HT
  have HCV := Lib.hid (fun W : World => conv_one (W.alloc (.cells #[.int .u8 ((((b[31]'l31).toNat + 128) % 256 : Nat) : Int)] 5)).drew W.heap.size _ hy (al_drew W _))
  have c1 : ¬ 9223372036854775807 < (b.extract 0 31).size + (str [UInt8.ofNat (((b[31]'l31).toNat + 128) % 256)]).size := by rw [hXS, str_size]; simp
  have c2 : ¬ 9223372036854775807 < min 31 b.size + (str [UInt8.ofNat (((b[31]'l31).toNat + 128) % 256)]).size := by rw [str_size]; simp; omega
  have hde := okS_ne (dhV_ok h32.1 h32.2)
  have HOK := Lib.hid (fun w h => okI (dhV a b) w (dhV_size a b) h true (decide_eq_true (dhV_ok h32.1 h32.2)))
  clear h32 hx hy sb hM hX hXS HH HTS
  generalize (((b[31]'l31).toNat + 128) % 256 : Nat) = y at *
  generalize str [UInt8.ofNat y] = Y at *
  generalize dhV a b = d at *
  go_wp2_with fail
  refine (HI.out _ (hk.below hb1 hk.1)).mono ?_
  rintro e w3 ⟨rfl, hb3'⟩
  have hb3 := hb1.trans (hb3'.mono hb1.size)
  clear hb3' hb1
  go_wp2_with fail
  refine (HQ.out _).mono ?_
  rintro e w4 ⟨rfl, hb4'⟩
  have hb4 := hb3.trans (hb4'.mono hb3.size)
  clear hb4' hb3
  go_wp2_with fail
  have hcv := HCV.out w4
  clear HCV
  go_region
  have hb5 := (hb4.alloc hb4.size (.cells #[.int .u8 (y : Int)] 5)).drew
  clear hb4 hcv
  go_wp2_with fail
  refine (HT.out _ (hk.below hb5 hk.1)).mono ?_
  rintro e w6 ⟨rfl, hb6'⟩
  have hb6 := hb5.trans (hb6'.mono hb5.size)
  clear hb6' hb5
  go_wp2_with fail
  refine (HOK.out _ (hk.below hb6 hk.1)).mono ?_
  rintro e w7 ⟨rfl, hb7'⟩
  have hb7 := hb6.trans (hb7'.mono hb6.size)
  clear hb7' hb6
  go_wp2
  go_ret
  exact ⟨rfl, hb7⟩

set_option maxRecDepth 100000 in
theorem lifted (os : Os) (started : os.Started) (H : Type) (enc : TypeId × Value → H) (F : Stop.Interp) :
    ReturnsInHanded {} Tryd.checked os 7 .any ((OpenSpec.ofChange Rows.fnDhHighSpec).preRow enc Tryd.prog Tryd.f7 Rows.fnDhHighRow.domain false Rows.fnDhHighRow.laid) (((OpenSpec.ofChange Rows.fnDhHighSpec).at F).post enc Tryd.prog Tryd.f7 false true false false) := by
  refine returnsInHanded_of_row (C := Tryd.checked) (s := OpenSpec.ofChange Rows.fnDhHighSpec) own started (by kernel_rfl) Tryd.func7
    (witness_row_at (enc := enc) (C := Tryd.checked) false (laidWorldP os) #[.slice none 0 0] rfl (by kernel_rfl) (by kernel_rfl) (by kernel_rfl)
      (OpenSpec.preRow_of_B rfl 8 (by kernel_rfl) (by kernel_rfl) (laid_metP os #[.slice none 0 0]))) ?_
  intro W base args ds gs before hval0 hW _ _ _ hL _ _
  have hval : ∀ (j : Nat) t v, Tryd.f7.params[j]? = some t → args[j]? = some v → Value.okWide Tryd.prog W .any base t v := hval0
  have hW' := hW
  obtain ⟨p, q, hA0, hV, rfl, hfz, hnd⟩ := hW
  have hA : DataW.TrodAll enc Tryd.prog W 0 (fun _ => true) true Tryd.f7.params.toList args.toList ds p := hA0
  rw [Tryd.params7] at hA hval
  obtain ⟨v0, vs0, d0, ds0, p0, q0, hargs, rfl, rfl, h0, r0⟩ := trodAll_cons hA
  obtain ⟨rfl, rfl, rfl⟩ := trodAll_nil r0
  obtain rfl : args = #[v0] := by cases args; simp_all
  have hVV := hV
  obtain ⟨_, _, _, _, dv, _, rfl, _⟩ := trodVars_one hV
  obtain ⟨a0, len0, cap0, rfl⟩ := okWide_slice Tryd.underlying22 (hval 0 22 v0 rfl rfl)
  have k0 := h0
  have lt0 : ∀ x ∈ p0, x.block < W.heap.size := by obtain ⟨m, hm⟩ := k0; exact DataW.trod_lt m _ _ _ hm
  obtain ⟨z0, w0⟩ : ∃ zs, My.IsRow .u8 W a0 len0 cap0 zs := by
    obtain ⟨fuel, hf⟩ := h0
    rcases open_ints Tryd.underlying22 Tryd.underlying5 (by kernel_rfl) hf with ⟨hcs, _⟩ | ⟨x, l, c, zs, hcs, _, hl, hm, hz, _, hcell, hwz⟩
    · simp [Value.cells] at hcs
      obtain ⟨rfl, rfl, rfl⟩ := hcs
      exact ⟨[], .inl ⟨rfl, rfl, rfl, rfl⟩⟩
    · simp [Value.cells] at hcs
      obtain ⟨rfl, rfl, rfl⟩ := hcs
      exact ⟨zs, .inr ⟨_, rfl, hl, hm, by simpa using hz, hcell, hwz⟩⟩
  clear hA0 hval0
  refine (walk W (tab_ofP hL) a0 len0 cap0 z0 w0).mono fun e W' ⟨he, bel⟩ => ?_
  subst he
  exact ⟨_, rfl, _, _, _, [], _, _, hW', trodAll_mk1 (shut_bool Tryd.underlying4 _), (trodAll_cons_mk (Below.trod laidOut (by kernel_rfl) (of_decide_eq_true (by kernel_rfl)) k0 bel lt0) trodAll_mk0), Below.trodVars laidOut bel (by kernel_rfl) hVV, bel.frame _, fun h => by cases h⟩

theorem said : Rows.FnDhHighSaid :=
  OpenClaim.holds_of_cond 7 Tryd.f7 rfl rfl rfl rfl rfl rfl rfl ⟨rfl, rfl, rfl, rfl, rfl⟩ rfl rfl rfl rfl rfl (by kernel_rfl) Tryd.func7 (by kernel_rfl)
    (of_decide_eq_true (by kernel_rfl)) (by unfold Func.isWrapper; first | (rw [if_pos (by decide +kernel)]; kernel_rfl) | (rw [if_neg (by decide +kernel)]; exact ⟨rfl, rfl⟩))
    (fun os started H enc _ F => by rw [OpenClaim.pre_eq_preRow]; exact lifted os started H enc F)

theorem plain (f : FuncId) (fn : Func) (hf : Tryd.pinned.checked.prog.funcNamed "loop.example/g00702/laws.FnDhHigh" = some f) (hfn : Tryd.pinned.checked.prog.funcs[f]? = some fn) :
    false = Tryd.pinned.checked.prog.looks [] ∧ ∀ (j : Nat) t, fn.params[j]? = some t → Tryd.pinned.checked.prog.wantsStandIn t = false := by
  obtain rfl : f = 7 := Option.some.inj ((show Tryd.prog.funcNamed "loop.example/g00702/laws.FnDhHigh" = some 7 by kernel_rfl).symm.trans hf) |>.symm
  obtain rfl : fn = Tryd.f7 := (Option.some.inj (Tryd.func7.symm.trans hfn)).symm
  refine ⟨by kernel_rfl, fun j t ht => ?_⟩
  rw [Tryd.params7] at ht
  have hm : t ∈ [22] := by simpa using Array.mem_of_getElem? ht
  have hall : ([22].all fun u => !Tryd.prog.wantsStandIn u) = true := by kernel_rfl
  exact (show Tryd.prog.wantsStandIn t = false by simpa using List.all_eq_true.1 hall t hm)

theorem proved : Rows.FnDhHighCardSaid :=
  Claim7.holds_tied_plain_at .later [] _ _ _ _ said (fun _ h => by cases h) (by kernel_rfl) (fun _ h => by cases h) fnDhHigh_row_tie rfl ⟨rfl, rfl⟩ (by kernel_rfl) rfl plain (by kernel_rfl)
end Go.Proofs.YtcaepcfgeelojaaDoor.fnDhHigh

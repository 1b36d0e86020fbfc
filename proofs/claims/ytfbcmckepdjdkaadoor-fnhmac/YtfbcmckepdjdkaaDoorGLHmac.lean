/- Proved: for every code FnHmac returns true: the program's HMAC is a hash of a hash, with keys padded to 64 bytes, and is the specification's (codes of more than 2^20 bytes are passed over by the law itself). The package-level tables that the code reads are tied to the program's text. No further condition. -/
import Derived.Test.YtfbcmckepdjdkaaDoorRows
import Derived.Test.YtfbcmckepdjdkaaDoorCards
import Derived.Test.YtfbcmckepdjdkaaDoorTie
import Derived.WalkKit
import Derived.ProofKit
import Derived.OpenShut
import Derived.ShutString
import Derived.ChangeOld
import Derived.ChangeVars
import Derived.OpenVars
import Derived.Below
import Derived.Deep.DeepHandedRow
import Derived.Lib.LaidTab
import Derived.Test.YtfbcmckepdjdkaaDoorGDrawT
import Derived.Test.YtfbcmckepdjdkaaDoorGM8
import Derived.Test.YtfbcmckepdjdkaaDoorGRegD
import Derived.Test.YtfbcmckepdjdkaaDoorGCardK
import Derived.Deep.AppendLies
import Derived.Deep.Cut
namespace Go.Proofs.YtfbcmckepdjdkaaDoor.fnHmac
open Go.ChangeShapes Go.WideShapes Go.ChangeAt Go.RowKit Go.My
open Go.ChangeMaps (open_string shut_string)
set_option linter.unusedVariables false

theorem own : ownKnob Tryd.prog.godebug = none := by kernel_rfl
theorem laidOut : laidOutB Tryd.prog = true := by kernel_rfl
theorem row_max {w : World} {a : Option Addr} {len cap : Nat} {zs : List Int} (h : IsRow .u8 w a len cap zs) : len ≤ 9223372036854775807 := by
  rcases h with ⟨_, rfl, _⟩ | ⟨x, _, h1, h2, _⟩
  · omega
  · unfold maxLen at h2; omega
theorem isE2 (a : ByteArray) : a.toList.isEmpty = decide (a.size = 0) := by
  rw [ByteArray.toList_eq, ← len_data]
  cases a.data.toList <;> simp
def Apart (u v : Value) : Prop := ∀ k, u.ownBlock = some k → v.ownBlock ≠ some k
theorem Apart.kept {w w' : World} {B e n : Nat} {u v : Value} {xs : List Value} (h : Apart u v) (hown : w.ownsRow B e 1 v n xs) (hg : w.grownBy w' u.ownBlock) : w'.ownsRow B e 1 v n xs := by
  refine hown.kept hg ?_
  cases hv : v.ownBlock with
  | none => exact .inl rfl
  | some k => exact .inr (fun c => h k c.symm hv)
theorem cfSha (args : Array Value) (w : World) : (callFunc 35 args).run Tryd.prog w = .ok (.enter 35 args) w := cf_of Tryd.func35 (by kernel_rfl) (by kernel_rfl) args w
theorem ownsRow_below {w w' : World} {B e n : Nat} {v : Value} {xs : List Value} (hown : w.ownsRow B e 1 v n xs) (hb : Below w.heap.size w w') : w'.ownsRow B e 1 v n xs :=
  hown.kept (row := none) ⟨hb.os, hb.tape, hb.output, hb.size, fun k hk _ => hb.block k hk⟩ (by cases v.ownBlock <;> simp)
theorem nat54 : ((54 : UInt8).toNat : Int) = 54 := rfl
theorem nat92 : ((92 : UInt8).toNat : Int) = 92 := rfl

theorem apart_new {wr : World} {B e n g H : Nat} {u v : Value} {xs : List Value} (hap : Apart u v) (hv : wr.ownsRow B e 1 v n xs) (hH : wr.heap.size ≤ H) (hat : u.ownBlock = some g ∨ g = H) : v.ownBlock ≠ some g := by
  intro c
  rcases hat with h | h
  · exact hap g h c
  · have := (hv.lt g c).2
    omega


set_option maxRecDepth 100000 in
set_option maxHeartbeats 8000000 in
theorem walk (w : World) (hk : TabK w) (a0 : Option Addr) (len0 cap0 : Nat) (z0 : List Int) (w0 : IsRow .u8 w a0 len0 cap0 z0) :
    Calls Tryd.prog 8 #[.slice a0 len0 cap0] w fun e w' => e = .returned (.bool true) ∧ Below w.heap.size w w' := by
  obtain ⟨i0, hi, hz0, hz1, hz2⟩ := info_parts info_u8t
  have hm0 := row_max w0
  by_cases hl : len0 ≤ 1048576
  case neg =>
    have hd : decide (1048576 < (len0 : Int)) = true := by simp; omega
    go_enter Tryd.func8, Tryd.ntmps8
    go_wp2_with fail
    refine (big_any _ _ _ _ hm0).mono ?_
    rintro e w' ⟨rfl, rfl⟩
    rw [hd]
    go_wp2
    go_ret
    exact ⟨rfl, Below.refl _ _⟩
  have hd : decide (1048576 < (len0 : Int)) = false := by simp; omega
  have hc := code_of_row w0 hl
  clear w0 hl
  go_enter Tryd.func8, Tryd.ntmps8
  go_wp2_with fail
  refine (big_any _ _ _ _ hm0).mono ?_
  rintro e w' ⟨rfl, rfl⟩
  rw [hd]
  clear hm0 hd
  go_wp2_with fail
  refine (draw_hmac w.heap.size a0 len0 cap0 _ (Nat.le_refl _) hc).mono ?_
  rintro e w1 ⟨k, s, rfl, hks, hss, hb1'⟩
  have hb1 := hb1'
  clear hb1'
  clear hc
  have HP := Lib.hid (fun w => hmac_spec k s w (by omega) (by omega))
  have HI := Lib.hid (fun w h => hmac_impl k s w h)
  have hsI : (s.size : Int) ≤ 1001 := by omega
  by_cases hok : k.size ≤ 1000 ∧ s.size ≤ 1000
  case neg =>
    have hV : hmacV k.data.toList s.data.toList = [] := if_neg (by rw [len_data, len_data]; exact hok)
    have hE : (str (hmacV k.data.toList s.data.toList)).toList.isEmpty = true := by rw [isE2, hV]; rfl
    generalize str (hmacV k.data.toList s.data.toList) = V at *
    clear hok hks hss hV
    go_wp2_with fail
    refine (HI.out _ (hk.below hb1 hk.1)).mono ?_
    rintro e w2 ⟨rfl, hb2'⟩
    have hb2 := hb1.trans (hb2'.mono hb1.size)
    clear hb2' hb1
    go_wp2_with fail
    refine (HP.out _).mono ?_
    rintro e w3 ⟨rfl, hb3'⟩
    have hb3 := hb2.trans (hb3'.mono hb2.size)
    clear hb3' hb2
    go_wp2_with fail
    refine (HP.out _).mono ?_
    rintro e w4 ⟨rfl, hb4'⟩
    have hb4 := hb3.trans (hb4'.mono hb3.size)
    clear hb4' hb3
    go_wp2
    go_ret
    exact ⟨rfl, hb4⟩
  have hV : hmacV k.data.toList s.data.toList = hmacL k.data.toList s.data.toList := if_pos (by rw [len_data, len_data]; exact hok)
  have hE : (str (hmacV k.data.toList s.data.toList)).toList.isEmpty = false := by rw [isE2, hV, str_size, show (hmacL k.data.toList s.data.toList).length = 32 from sumL_len _ _]; rfl
  by_cases h900 : s.size ≤ 900
  case neg =>
    have h9 : (900 : Int) < (s.size : Int) := by omega
    generalize str (hmacV k.data.toList s.data.toList) = V at *
    clear hok hks hss hV h900
    go_wp2_with fail
    refine (HI.out _ (hk.below hb1 hk.1)).mono ?_
    rintro e w2 ⟨rfl, hb2'⟩
    have hb2 := hb1.trans (hb2'.mono hb1.size)
    clear hb2' hb1
    go_wp2_with fail
    refine (HP.out _).mono ?_
    rintro e w3 ⟨rfl, hb3'⟩
    have hb3 := hb2.trans (hb3'.mono hb2.size)
    clear hb3' hb2
    go_wp2_with fail
    refine (HP.out _).mono ?_
    rintro e w4 ⟨rfl, hb4'⟩
    have hb4 := hb3.trans (hb4'.mono hb3.size)
    clear hb4' hb3
    go_wp2
    go_ret
    exact ⟨rfl, hb4⟩
  have h9 : (s.size : Int) ≤ 900 := by omega
  have HS9 := Lib.hid h900
  have HVV : Hid (str (hmacV k.data.toList s.data.toList) = str (shaL ((padK (keyL k.data.toList)).map (· ^^^ 92) ++ shaL ((padK (keyL k.data.toList)).map (· ^^^ 54) ++ s.data.toList)))) := by show _ = _; rw [hV, hmac_sha k.data.toList s.data.toList (by rw [len_data]; omega)]
  have HKS := keyL_sha k.data.toList (by rw [len_data]; omega)
  have HPK := Lib.hid (padK_len _ (keyL_len k.data.toList))
  have HKL := Lib.hid (keyL_len k.data.toList)
  generalize hW : str (hmacV k.data.toList s.data.toList) = V at *
  clear hV hW
  by_cases h64 : k.size ≤ 64
  · have h6 : (k.size : Int) ≤ 64 := by omega
    rw [if_pos (by rw [len_data]; exact h64)] at HKS
    have HKK : Hid (k = str (keyL k.data.toList)) := by show _ = _; rw [HKS, str_of]
    clear HKS hok hks hss h900 h64
    go_wp2_with fail
    refine (HI.out _ (hk.below hb1 hk.1)).mono ?_
    rintro e w2 ⟨rfl, hb2'⟩
    have hb2 := hb1.trans (hb2'.mono hb1.size)
    clear hb2' hb1
    go_wp2_with fail
    refine (HP.out _).mono ?_
    rintro e w3 ⟨rfl, hb3'⟩
    have hb3 := hb2.trans (hb3'.mono hb2.size)
    clear hb3' hb2
    have hb4 := hb3
    clear hb3
    generalize hK0 : keyL k.data.toList = K0 at *
    have HK0 := Lib.hid hK0
    clear hK0
    obtain ⟨q, hq⟩ : ∃ q : Nat, q = 64 - K0.length := ⟨_, rfl⟩
    have hKz : (k).size = K0.length := by have := congrArg ByteArray.size HKK.out; rw [str_size] at this; exact this
    have hKl := HKL.out
    have hKz2 : (k.size : Int) = 64 - (q : Int) := by omega
    have hq64 : q ≤ 64 := by omega
    have hmk := fun W => Go.run_make_row' (P := Tryd.prog) 39 5 (.int .u8 0) 1 Tryd.underlying39 info_u8t rfl .i64 .i64 q (by omega) (by omega) W
    have hcv0 : ∀ W : World, (convert 39 9 (.slice (some ⟨W.heap.size, 0, none⟩) q q)).run Tryd.prog (W.alloc (.cells (madeCells #[.int .u8 0] q) 5)) = .ok (.string (str (List.replicate q 0))) (W.alloc (.cells (madeCells #[.int .u8 0] q) 5)) := fun W => conv_madeT W _ q (by omega) (heap_alloc_new W _)
    have hcat : ¬ 9223372036854775807 < k.size + (str (List.replicate q 0)).size := by simp only [str_size, List.length_replicate]; omega
    have hsub : IntKind.i64.wrap (64 - (k.size : Int)) = (q : Int) := by rw [hKz2]; rw [IntKind.wrap_i64]; omega
    have hPe : k ++ str (List.replicate q 0) = str (padK K0) := by rw [show k = str K0 from HKK.out]; rw [str_app, hq]; rfl
    have HQQ := Lib.hid hq
    clear hKz hKl hKz2 hq
    go_wp2
    try rw [hPe]
    clear hPe hmk hcv0 hcat hsub hq64
    have hPl : (str (padK K0)).size = 64 := by rw [str_size]; exact HPK.out
    have hPd : (str (padK K0)).data.toList = padK K0 := str_list _
    rw [← hPd] at HVV
    generalize str (padK K0) = Pb at *
    clear hPd HPK HKL
    have HPL := Lib.hid hPl
    have hbm : Below w.heap.size w (((w3.alloc (.cells (madeCells #[.int .u8 0] q) 5)).alloc (.cells #[] 5)).alloc (.cells #[] 5)) := ((hb4.alloc hb4.size _).alloc (by simp; have := hb4.size; omega) _).alloc (by simp; have := hb4.size; omega) _
    have h7 : (((w3.alloc (.cells (madeCells #[.int .u8 0] q) 5)).alloc (.cells #[] 5)).alloc (.cells #[] 5)).ownsRow w.heap.size 5 1 (.slice (some ⟨w3.heap.size + 1, 0, none⟩) 0 0) 0 [] := by
      have := World.ownsRow_lit (base := w.heap.size) (e := 5) (size := 1) (w3.alloc (.cells (madeCells #[.int .u8 0] q) 5)) #[] 0 (by simp; have := hb4.size; omega) (by unfold maxLen; omega) rfl
      rw [show (w3.alloc (.cells (madeCells #[.int .u8 0] q) 5)).heap.size = w3.heap.size + 1 by simp] at this
      exact this.alloc _
    have h8 : (((w3.alloc (.cells (madeCells #[.int .u8 0] q) 5)).alloc (.cells #[] 5)).alloc (.cells #[] 5)).ownsRow w.heap.size 5 1 (.slice (some ⟨w3.heap.size + 1 + 1, 0, none⟩) 0 0) 0 [] := by
      have := World.ownsRow_lit (base := w.heap.size) (e := 5) (size := 1) ((w3.alloc (.cells (madeCells #[.int .u8 0] q) 5)).alloc (.cells #[] 5)) #[] 0 (by simp; have := hb4.size; omega) (by unfold maxLen; omega) rfl
      rw [show ((w3.alloc (.cells (madeCells #[.int .u8 0] q) 5)).alloc (.cells #[] 5)).heap.size = w3.heap.size + 1 + 1 by simp] at this
      exact this
    have hap : Apart (.slice (some ⟨w3.heap.size + 1, 0, none⟩) 0 0) (.slice (some ⟨w3.heap.size + 1 + 1, 0, none⟩) 0 0) := by intro k h1 h2; simp [Value.ownBlock] at h1 h2; omega
    go_loopw [7, 8, 9] (fun u v i wr => ∃ j : Nat, j ≤ 64 ∧ i = .int .i64 j ∧ wr.ownsRow w.heap.size 5 1 u j (cellsOf ((Pb.data.toList.take j).map (· ^^^ 54))) ∧ wr.ownsRow w.heap.size 5 1 v j (cellsOf ((Pb.data.toList.take j).map (· ^^^ 92))) ∧ Apart u v ∧ Below w.heap.size w wr)
      (fun _ _ i _ => 64 - (intOf i).toNat)
    case atStart => exact ⟨0, Nat.zero_le _, rfl, h7, h8, hap, hbm⟩
    case round =>
      clear h7 h8 hap hbm hb4
      obtain ⟨j, hj, rfl, h7, h8, hap, hb⟩ := hrel
      by_cases hlt : j < 64
      · have hjP : j < Pb.size := by omega
        have k0 : (0 : Int) ≤ (j : Int) := by omega
        have k1 : (j : Int) < (Pb.size : Int) := by omega
        have k2 : (j : Int) < 64 := by omega
        have hx7 := xor_u8 (Pb[j]) 54
        have hx8 := xor_u8 (Pb[j]) 92
        rw [nat54] at hx7
        rw [nat92] at hx8
        clear hPl
        go_wp2_with (first
          | (at_builtin; refine wpList_append_lies _ rfl _ _ 39 rfl w.heap.size 5 i0 (.int .u8 0) 1 1 Tryd.underlying39 hi hz0 hz1 hz2 rfl (by decide) u7 j _ rfl (h7.alloc _) ⟨wr.heap.size, 0, none⟩ 1 1 [_] rfl rfl (World.news_of_block (cs := #[_]) (t := 5) (fr := (0, 0)) (heap_alloc_new wr _)) (by simp [Value.oneCell']) (by omega) (by unfold maxLen; omega) (by omega) (by have := hb.size; simp; omega) (wr.heap.size + 1) (by simp) ?_; intro g7 cap7 wa hown7 hgrow7 hat7 hlt7; have R7 := append_step (news := [Pb[j] ^^^ 54]) h7 (hb.alloc hb.size _) hown7 hgrow7; have h8a := Apart.kept hap (h8.alloc _) hgrow7; have hn7 := apart_new hap h8 (Nat.le_succ _) hat7)
          | (at_builtin; refine wpList_append_lies _ rfl _ _ 39 rfl w.heap.size 5 i0 (.int .u8 0) 1 1 Tryd.underlying39 hi hz0 hz1 hz2 rfl (by decide) u8 j _ rfl (h8a.alloc _) ⟨wa.heap.size, 0, none⟩ 1 1 [_] rfl rfl (World.news_of_block (cs := #[_]) (t := 5) (fr := (0, 0)) (heap_alloc_new wa _)) (by simp [Value.oneCell']) (by omega) (by unfold maxLen; omega) (by omega) (by have := R7.2.size; simp; omega) (wa.heap.size + 1) (by simp) ?_; intro g8 cap8 wb hown8 hgrow8 hat8 hlt8))
        have R8 := append_step (news := [Pb[j] ^^^ 92]) h8a (R7.2.alloc R7.2.size _) hown8 hgrow8
        have h7b := (R7.1.alloc _).kept hgrow8 (.inr (fun c => hn7 c.symm))
        have hap2 : Apart (.slice (some ⟨g7, 0, none⟩) (j + 1) cap7) (.slice (some ⟨g8, 0, none⟩) (j + 1) cap8) := by
          intro k h1 h2
          simp only [Value.ownBlock, Option.some.injEq] at h1 h2
          rcases hat8 with c | c
          · exact hn7 (by rw [c]; congr 1; omega)
          · omega
        rw [show List.map (· ^^^ 54) (Pb.data.toList.take j) ++ [Pb[j] ^^^ 54] = (Pb.data.toList.take (j + 1)).map (· ^^^ 54) by rw [take_snoc Pb j hjP, List.map_append]; rfl] at h7b
        rw [show List.map (· ^^^ 92) (Pb.data.toList.take j) ++ [Pb[j] ^^^ 92] = (Pb.data.toList.take (j + 1)).map (· ^^^ 92) by rw [take_snoc Pb j hjP, List.map_append]; rfl] at R8
        have HR := Lib.hid (And.intro h7b (And.intro R8.1 (And.intro hap2 R8.2)))
        clear h7 h8 hap hb R7 R8 h8a hn7 h7b hap2 hown7 hown8 hgrow7 hgrow8 hat7 hat8 hlt7 hlt8
        go_roundw
        case rel => exact ⟨j + 1, by omega, by go_num, HR.out.1, HR.out.2.1, HR.out.2.2.1, HR.out.2.2.2⟩
        case measure => simp [intOf]; omega
      · have hj64 : j = 64 := by omega
        subst hj64
        rw [List.take_of_length_le (by rw [len_data]; omega)] at h7 h8
        have cv7 : ∀ w', Below wr.heap.size wr w' → (convert 39 9 u7).run Tryd.prog w' = .ok (.string (str (Pb.data.toList.map (· ^^^ 54)))) w' := fun w' hbb => run_convert_own (P := Tryd.prog) w' 39 9 5 _ _ _ _ Tryd.underlying39 Tryd.underlying5 Tryd.underlying9 (ownsRow_below h7 hbb)
        have cv8 : ∀ w', Below wr.heap.size wr w' → (convert 39 9 u8).run Tryd.prog w' = .ok (.string (str (Pb.data.toList.map (· ^^^ 92)))) w' := fun w' hbb => run_convert_own (P := Tryd.prog) w' 39 9 5 _ _ _ _ Tryd.underlying39 Tryd.underlying5 Tryd.underlying9 (ownsRow_below h8 hbb)
        have zI : (str (Pb.data.toList.map (· ^^^ 54))).size = 64 := by rw [str_size, List.length_map, len_data]; exact hPl
        have zO : (str (Pb.data.toList.map (· ^^^ 92))).size = 64 := by rw [str_size, List.length_map, len_data]; exact hPl
        obtain ⟨H, eH⟩ : ∃ H, H = str (shaL (Pb.data.toList.map (· ^^^ 54) ++ s.data.toList)) := ⟨_, rfl⟩
        have zH : H.size = 32 := by rw [eH, str_size, shaL_len]
        have hV2 : V = str (shaL (Pb.data.toList.map (· ^^^ 92) ++ H.data.toList)) := by rw [HVV.out, eH, str_list]
        have C1 := Lib.hid (fun w h => (show Calls Tryd.prog 35 [Value.string (str (Pb.data.toList.map (· ^^^ 54)) ++ s)].toArray w (fun e w' => e = .returned (.string H) ∧ Below w.heap.size w w') by
          have := sha_impl (str (Pb.data.toList.map (· ^^^ 54)) ++ s) w h
          rw [show shaV (str (Pb.data.toList.map (· ^^^ 54)) ++ s).data.toList = shaL (Pb.data.toList.map (· ^^^ 54) ++ s.data.toList) from (if_pos (by rw [len_data, ByteArray.size_append]; have := HS9.out; omega)).trans (by rw [ByteArray.data_append, Array.toList_append, str_list]), ← eH] at this
          exact this))
        have C2 := Lib.hid (fun w h => (show Calls Tryd.prog 35 [Value.string (str (Pb.data.toList.map (· ^^^ 92)) ++ H)].toArray w (fun e w' => e = .returned (.string V) ∧ Below w.heap.size w w') by
          have := sha_impl (str (Pb.data.toList.map (· ^^^ 92)) ++ H) w h
          rw [show shaV (str (Pb.data.toList.map (· ^^^ 92)) ++ H).data.toList = shaL (Pb.data.toList.map (· ^^^ 92) ++ H.data.toList) from (if_pos (by rw [len_data, ByteArray.size_append]; omega)).trans (by rw [ByteArray.data_append, Array.toList_append, str_list]), ← hV2] at this
          exact this))
        have hc1 : ¬ 9223372036854775807 < (str (Pb.data.toList.map (· ^^^ 54))).size + s.size := by have := HS9.out; omega
        have hc2 : ¬ 9223372036854775807 < (str (Pb.data.toList.map (· ^^^ 92))).size + H.size := by omega
        generalize str (Pb.data.toList.map (· ^^^ 54)) = I at *
        generalize str (Pb.data.toList.map (· ^^^ 92)) = O at *
        have hT := hk.below hb hk.1
        clear h7 h8 hap zI zO zH eH hV2 HVV hPl HPL hlt hj
        go_upto_region 18 with (fail)
        refine region_all 12 (kdAt [.val u8, .val (.string O), .val u7, .val (.string I), .val (.string s), .val (.string (I ++ s)), .val (.string H), .val (.string (O ++ H)), .val (.string V), .val (.string V), .val (.bool true), .val (.bool true)]) [some 72, some 73, some 74, some 75, some 76, some 77, some 78, some 79, some 80, some 81, some 82, some 2] (by kernel_rfl) rfl (by kernel_rfl) (by kernel_rfl) (by kernel_rfl) (by kernel_rfl) ?_ ?_
        · repeat refine allS ?_ ?_
          · exact all0
          · exact stepMove rfl rfl rfl rfl (src_old (by kernel_rfl) rfl)
          · exact stepConv u8 rfl rfl rfl rfl (src_new 0 (by decide) rfl rfl (by kernel_rfl)) (fun w hk => cv8 w (hk.below (nh0 rfl)))
          · exact stepMove rfl rfl rfl rfl (src_old (by kernel_rfl) rfl)
          · exact stepConv u7 rfl rfl rfl rfl (src_new 2 (by decide) rfl rfl (by kernel_rfl)) (fun w hk => cv7 w (hk.below (nh0 rfl)))
          · exact stepMove rfl rfl rfl rfl (src_old (by kernel_rfl) rfl)
          · exact stepBin rfl rfl rfl rfl (src_new 3 (by decide) rfl rfl (by kernel_rfl)) (src_new 4 (by decide) rfl rfl (by kernel_rfl)) (fun w => strAdd I s _ _ hc1 w)
          · exact stepCall (ks := [77]) [.string (I ++ s)] rfl rfl rfl rfl cfSha rfl (src1 (src_new 5 (by decide) rfl rfl (by kernel_rfl))) (fun w hk => C1.out w (hT.below (hk.below (nh0 rfl)) hT.1))
          · exact stepBin rfl rfl rfl rfl (src_new 1 (by decide) rfl rfl (by kernel_rfl)) (src_new 6 (by decide) rfl rfl (by kernel_rfl)) (fun w => strAdd O H _ _ hc2 w)
          · exact stepCall (ks := [79]) [.string (O ++ H)] rfl rfl rfl rfl cfSha rfl (src1 (src_new 7 (by decide) rfl rfl (by kernel_rfl))) (fun w hk => C2.out w (hT.below (hk.below (nh0 rfl)) hT.1))
          · exact stepMove rfl rfl rfl rfl (src_old (by kernel_rfl) rfl)
          · exact stepBin rfl rfl rfl rfl (src_new 8 (by decide) rfl rfl (by kernel_rfl)) (src_new 9 (by decide) rfl rfl (by kernel_rfl)) (fun w => strSame V _ _ w)
          · exact stepAssign rfl rfl rfl rfl (src_new 10 (by decide) rfl rfl (by kernel_rfl))
        intro v x1 hok hk1
        replace hk1 := hk1.all
        have v0 := okVal hok (j := 0) rfl rfl
        have v1 := okVal hok (j := 1) rfl rfl
        have v2 := okVal hok (j := 2) rfl rfl
        have v3 := okVal hok (j := 3) rfl rfl
        have v4 := okVal hok (j := 4) rfl rfl
        have v5 := okVal hok (j := 5) rfl rfl
        have v6 := okVal hok (j := 6) rfl rfl
        have v7 := okVal hok (j := 7) rfl rfl
        have v8 := okVal hok (j := 8) rfl rfl
        have v9 := okVal hok (j := 9) rfl rfl
        have v10 := okVal hok (j := 10) rfl rfl
        have v11 := okVal hok (j := 11) rfl rfl
        clear hok
        simp only [putL, Nat.zero_add, Nat.reduceAdd, v0, v1, v2, v3, v4, v5, v6, v7, v8, v9, v10, v11, Act.put, List.setIfInBounds_toArray, List.set_cons_zero, List.set_cons_succ]
        clear v0 v1 v2 v3 v4 v5 v6 v7 v8 v9 v10 v11
        have hbz := hb.trans ((hk1.below (nh0 rfl)).mono hb.size)
        clear hk1
        first | (go_wp2; go_ret) | go_ret
        exact ⟨rfl, hbz⟩
  · have h6 : (64 : Int) < (k.size : Int) := by omega
    rw [if_neg (by rw [len_data]; exact h64)] at HKS
    have HQ := Lib.hid (fun w h => (show Calls Tryd.prog 35 #[.string k] w (fun e w' => e = .returned (.string (str (keyL k.data.toList))) ∧ Below w.heap.size w w') by rw [HKS, ← show shaV k.data.toList = shaL k.data.toList from if_pos (by rw [len_data]; exact hok.1)]; exact sha_impl k w h))
    clear HKS hok hks hss h900 h64
    go_wp2_with fail
    refine (HI.out _ (hk.below hb1 hk.1)).mono ?_
    rintro e w2 ⟨rfl, hb2'⟩
    have hb2 := hb1.trans (hb2'.mono hb1.size)
    clear hb2' hb1
    go_wp2_with fail
    refine (HP.out _).mono ?_
    rintro e w3 ⟨rfl, hb3'⟩
    have hb3 := hb2.trans (hb3'.mono hb2.size)
    clear hb3' hb2
    go_wp2_with fail
    refine (HQ.out _ (hk.below hb3 hk.1)).mono ?_
    rintro e w4 ⟨rfl, hb4'⟩
    have hb4 := hb3.trans (hb4'.mono hb3.size)
    clear hb4' hb3
    generalize hK0 : keyL k.data.toList = K0 at *
    have HK0 := Lib.hid hK0
    clear hK0
    obtain ⟨q, hq⟩ : ∃ q : Nat, q = 64 - K0.length := ⟨_, rfl⟩
    have hKz : (str K0).size = K0.length := by rw [str_size]
    have hKl := HKL.out
    have hKz2 : ((str K0).size : Int) = 64 - (q : Int) := by omega
    have hq64 : q ≤ 64 := by omega
    have hmk := fun W => Go.run_make_row' (P := Tryd.prog) 39 5 (.int .u8 0) 1 Tryd.underlying39 info_u8t rfl .i64 .i64 q (by omega) (by omega) W
    have hcv0 : ∀ W : World, (convert 39 9 (.slice (some ⟨W.heap.size, 0, none⟩) q q)).run Tryd.prog (W.alloc (.cells (madeCells #[.int .u8 0] q) 5)) = .ok (.string (str (List.replicate q 0))) (W.alloc (.cells (madeCells #[.int .u8 0] q) 5)) := fun W => conv_madeT W _ q (by omega) (heap_alloc_new W _)
    have hcat : ¬ 9223372036854775807 < (str K0).size + (str (List.replicate q 0)).size := by simp only [str_size, List.length_replicate]; omega
    have hsub : IntKind.i64.wrap (64 - ((str K0).size : Int)) = (q : Int) := by rw [hKz2]; rw [IntKind.wrap_i64]; omega
    have hPe : (str K0) ++ str (List.replicate q 0) = str (padK K0) := by  rw [str_app, hq]; rfl
    have HQQ := Lib.hid hq
    clear hKz hKl hKz2 hq
    go_wp2
    try rw [hPe]
    clear hPe hmk hcv0 hcat hsub hq64
    have hPl : (str (padK K0)).size = 64 := by rw [str_size]; exact HPK.out
    have hPd : (str (padK K0)).data.toList = padK K0 := str_list _
    rw [← hPd] at HVV
    generalize str (padK K0) = Pb at *
    clear hPd HPK HKL
    have HPL := Lib.hid hPl
    have hbm : Below w.heap.size w (((w4.alloc (.cells (madeCells #[.int .u8 0] q) 5)).alloc (.cells #[] 5)).alloc (.cells #[] 5)) := ((hb4.alloc hb4.size _).alloc (by simp; have := hb4.size; omega) _).alloc (by simp; have := hb4.size; omega) _
    have h7 : (((w4.alloc (.cells (madeCells #[.int .u8 0] q) 5)).alloc (.cells #[] 5)).alloc (.cells #[] 5)).ownsRow w.heap.size 5 1 (.slice (some ⟨w4.heap.size + 1, 0, none⟩) 0 0) 0 [] := by
      have := World.ownsRow_lit (base := w.heap.size) (e := 5) (size := 1) (w4.alloc (.cells (madeCells #[.int .u8 0] q) 5)) #[] 0 (by simp; have := hb4.size; omega) (by unfold maxLen; omega) rfl
      rw [show (w4.alloc (.cells (madeCells #[.int .u8 0] q) 5)).heap.size = w4.heap.size + 1 by simp] at this
      exact this.alloc _
    have h8 : (((w4.alloc (.cells (madeCells #[.int .u8 0] q) 5)).alloc (.cells #[] 5)).alloc (.cells #[] 5)).ownsRow w.heap.size 5 1 (.slice (some ⟨w4.heap.size + 1 + 1, 0, none⟩) 0 0) 0 [] := by
      have := World.ownsRow_lit (base := w.heap.size) (e := 5) (size := 1) ((w4.alloc (.cells (madeCells #[.int .u8 0] q) 5)).alloc (.cells #[] 5)) #[] 0 (by simp; have := hb4.size; omega) (by unfold maxLen; omega) rfl
      rw [show ((w4.alloc (.cells (madeCells #[.int .u8 0] q) 5)).alloc (.cells #[] 5)).heap.size = w4.heap.size + 1 + 1 by simp] at this
      exact this
    have hap : Apart (.slice (some ⟨w4.heap.size + 1, 0, none⟩) 0 0) (.slice (some ⟨w4.heap.size + 1 + 1, 0, none⟩) 0 0) := by intro k h1 h2; simp [Value.ownBlock] at h1 h2; omega
    go_loopw [7, 8, 9] (fun u v i wr => ∃ j : Nat, j ≤ 64 ∧ i = .int .i64 j ∧ wr.ownsRow w.heap.size 5 1 u j (cellsOf ((Pb.data.toList.take j).map (· ^^^ 54))) ∧ wr.ownsRow w.heap.size 5 1 v j (cellsOf ((Pb.data.toList.take j).map (· ^^^ 92))) ∧ Apart u v ∧ Below w.heap.size w wr)
      (fun _ _ i _ => 64 - (intOf i).toNat)
    case atStart => exact ⟨0, Nat.zero_le _, rfl, h7, h8, hap, hbm⟩
    case round =>
      clear h7 h8 hap hbm hb4
      obtain ⟨j, hj, rfl, h7, h8, hap, hb⟩ := hrel
      by_cases hlt : j < 64
      · have hjP : j < Pb.size := by omega
        have k0 : (0 : Int) ≤ (j : Int) := by omega
        have k1 : (j : Int) < (Pb.size : Int) := by omega
        have k2 : (j : Int) < 64 := by omega
        have hx7 := xor_u8 (Pb[j]) 54
        have hx8 := xor_u8 (Pb[j]) 92
        rw [nat54] at hx7
        rw [nat92] at hx8
        clear hPl
        go_wp2_with (first
          | (at_builtin; refine wpList_append_lies _ rfl _ _ 39 rfl w.heap.size 5 i0 (.int .u8 0) 1 1 Tryd.underlying39 hi hz0 hz1 hz2 rfl (by decide) u7 j _ rfl (h7.alloc _) ⟨wr.heap.size, 0, none⟩ 1 1 [_] rfl rfl (World.news_of_block (cs := #[_]) (t := 5) (fr := (0, 0)) (heap_alloc_new wr _)) (by simp [Value.oneCell']) (by omega) (by unfold maxLen; omega) (by omega) (by have := hb.size; simp; omega) (wr.heap.size + 1) (by simp) ?_; intro g7 cap7 wa hown7 hgrow7 hat7 hlt7; have R7 := append_step (news := [Pb[j] ^^^ 54]) h7 (hb.alloc hb.size _) hown7 hgrow7; have h8a := Apart.kept hap (h8.alloc _) hgrow7; have hn7 := apart_new hap h8 (Nat.le_succ _) hat7)
          | (at_builtin; refine wpList_append_lies _ rfl _ _ 39 rfl w.heap.size 5 i0 (.int .u8 0) 1 1 Tryd.underlying39 hi hz0 hz1 hz2 rfl (by decide) u8 j _ rfl (h8a.alloc _) ⟨wa.heap.size, 0, none⟩ 1 1 [_] rfl rfl (World.news_of_block (cs := #[_]) (t := 5) (fr := (0, 0)) (heap_alloc_new wa _)) (by simp [Value.oneCell']) (by omega) (by unfold maxLen; omega) (by omega) (by have := R7.2.size; simp; omega) (wa.heap.size + 1) (by simp) ?_; intro g8 cap8 wb hown8 hgrow8 hat8 hlt8))
        have R8 := append_step (news := [Pb[j] ^^^ 92]) h8a (R7.2.alloc R7.2.size _) hown8 hgrow8
        have h7b := (R7.1.alloc _).kept hgrow8 (.inr (fun c => hn7 c.symm))
        have hap2 : Apart (.slice (some ⟨g7, 0, none⟩) (j + 1) cap7) (.slice (some ⟨g8, 0, none⟩) (j + 1) cap8) := by
          intro k h1 h2
          simp only [Value.ownBlock, Option.some.injEq] at h1 h2
          rcases hat8 with c | c
          · exact hn7 (by rw [c]; congr 1; omega)
          · omega
        rw [show List.map (· ^^^ 54) (Pb.data.toList.take j) ++ [Pb[j] ^^^ 54] = (Pb.data.toList.take (j + 1)).map (· ^^^ 54) by rw [take_snoc Pb j hjP, List.map_append]; rfl] at h7b
        rw [show List.map (· ^^^ 92) (Pb.data.toList.take j) ++ [Pb[j] ^^^ 92] = (Pb.data.toList.take (j + 1)).map (· ^^^ 92) by rw [take_snoc Pb j hjP, List.map_append]; rfl] at R8
        have HR := Lib.hid (And.intro h7b (And.intro R8.1 (And.intro hap2 R8.2)))
        clear h7 h8 hap hb R7 R8 h8a hn7 h7b hap2 hown7 hown8 hgrow7 hgrow8 hat7 hat8 hlt7 hlt8
        go_roundw
        case rel => exact ⟨j + 1, by omega, by go_num, HR.out.1, HR.out.2.1, HR.out.2.2.1, HR.out.2.2.2⟩
        case measure => simp [intOf]; omega
      · have hj64 : j = 64 := by omega
        subst hj64
        rw [List.take_of_length_le (by rw [len_data]; omega)] at h7 h8
        have cv7 : ∀ w', Below wr.heap.size wr w' → (convert 39 9 u7).run Tryd.prog w' = .ok (.string (str (Pb.data.toList.map (· ^^^ 54)))) w' := fun w' hbb => run_convert_own (P := Tryd.prog) w' 39 9 5 _ _ _ _ Tryd.underlying39 Tryd.underlying5 Tryd.underlying9 (ownsRow_below h7 hbb)
        have cv8 : ∀ w', Below wr.heap.size wr w' → (convert 39 9 u8).run Tryd.prog w' = .ok (.string (str (Pb.data.toList.map (· ^^^ 92)))) w' := fun w' hbb => run_convert_own (P := Tryd.prog) w' 39 9 5 _ _ _ _ Tryd.underlying39 Tryd.underlying5 Tryd.underlying9 (ownsRow_below h8 hbb)
        have zI : (str (Pb.data.toList.map (· ^^^ 54))).size = 64 := by rw [str_size, List.length_map, len_data]; exact hPl
        have zO : (str (Pb.data.toList.map (· ^^^ 92))).size = 64 := by rw [str_size, List.length_map, len_data]; exact hPl
        obtain ⟨H, eH⟩ : ∃ H, H = str (shaL (Pb.data.toList.map (· ^^^ 54) ++ s.data.toList)) := ⟨_, rfl⟩
        have zH : H.size = 32 := by rw [eH, str_size, shaL_len]
        have hV2 : V = str (shaL (Pb.data.toList.map (· ^^^ 92) ++ H.data.toList)) := by rw [HVV.out, eH, str_list]
        have C1 := Lib.hid (fun w h => (show Calls Tryd.prog 35 [Value.string (str (Pb.data.toList.map (· ^^^ 54)) ++ s)].toArray w (fun e w' => e = .returned (.string H) ∧ Below w.heap.size w w') by
          have := sha_impl (str (Pb.data.toList.map (· ^^^ 54)) ++ s) w h
          rw [show shaV (str (Pb.data.toList.map (· ^^^ 54)) ++ s).data.toList = shaL (Pb.data.toList.map (· ^^^ 54) ++ s.data.toList) from (if_pos (by rw [len_data, ByteArray.size_append]; have := HS9.out; omega)).trans (by rw [ByteArray.data_append, Array.toList_append, str_list]), ← eH] at this
          exact this))
        have C2 := Lib.hid (fun w h => (show Calls Tryd.prog 35 [Value.string (str (Pb.data.toList.map (· ^^^ 92)) ++ H)].toArray w (fun e w' => e = .returned (.string V) ∧ Below w.heap.size w w') by
          have := sha_impl (str (Pb.data.toList.map (· ^^^ 92)) ++ H) w h
          rw [show shaV (str (Pb.data.toList.map (· ^^^ 92)) ++ H).data.toList = shaL (Pb.data.toList.map (· ^^^ 92) ++ H.data.toList) from (if_pos (by rw [len_data, ByteArray.size_append]; omega)).trans (by rw [ByteArray.data_append, Array.toList_append, str_list]), ← hV2] at this
          exact this))
        have hc1 : ¬ 9223372036854775807 < (str (Pb.data.toList.map (· ^^^ 54))).size + s.size := by have := HS9.out; omega
        have hc2 : ¬ 9223372036854775807 < (str (Pb.data.toList.map (· ^^^ 92))).size + H.size := by omega
        generalize str (Pb.data.toList.map (· ^^^ 54)) = I at *
        generalize str (Pb.data.toList.map (· ^^^ 92)) = O at *
        have hT := hk.below hb hk.1
        clear h7 h8 hap zI zO zH eH hV2 HVV hPl HPL hlt hj
        go_upto_region 18 with (fail)
        refine region_all 12 (kdAt [.val u8, .val (.string O), .val u7, .val (.string I), .val (.string s), .val (.string (I ++ s)), .val (.string H), .val (.string (O ++ H)), .val (.string V), .val (.string V), .val (.bool true), .val (.bool true)]) [some 72, some 73, some 74, some 75, some 76, some 77, some 78, some 79, some 80, some 81, some 82, some 2] (by kernel_rfl) rfl (by kernel_rfl) (by kernel_rfl) (by kernel_rfl) (by kernel_rfl) ?_ ?_
        · repeat refine allS ?_ ?_
          · exact all0
          · exact stepMove rfl rfl rfl rfl (src_old (by kernel_rfl) rfl)
          · exact stepConv u8 rfl rfl rfl rfl (src_new 0 (by decide) rfl rfl (by kernel_rfl)) (fun w hk => cv8 w (hk.below (nh0 rfl)))
          · exact stepMove rfl rfl rfl rfl (src_old (by kernel_rfl) rfl)
          · exact stepConv u7 rfl rfl rfl rfl (src_new 2 (by decide) rfl rfl (by kernel_rfl)) (fun w hk => cv7 w (hk.below (nh0 rfl)))
          · exact stepMove rfl rfl rfl rfl (src_old (by kernel_rfl) rfl)
          · exact stepBin rfl rfl rfl rfl (src_new 3 (by decide) rfl rfl (by kernel_rfl)) (src_new 4 (by decide) rfl rfl (by kernel_rfl)) (fun w => strAdd I s _ _ hc1 w)
          · exact stepCall (ks := [77]) [.string (I ++ s)] rfl rfl rfl rfl cfSha rfl (src1 (src_new 5 (by decide) rfl rfl (by kernel_rfl))) (fun w hk => C1.out w (hT.below (hk.below (nh0 rfl)) hT.1))
          · exact stepBin rfl rfl rfl rfl (src_new 1 (by decide) rfl rfl (by kernel_rfl)) (src_new 6 (by decide) rfl rfl (by kernel_rfl)) (fun w => strAdd O H _ _ hc2 w)
          · exact stepCall (ks := [79]) [.string (O ++ H)] rfl rfl rfl rfl cfSha rfl (src1 (src_new 7 (by decide) rfl rfl (by kernel_rfl))) (fun w hk => C2.out w (hT.below (hk.below (nh0 rfl)) hT.1))
          · exact stepMove rfl rfl rfl rfl (src_old (by kernel_rfl) rfl)
          · exact stepBin rfl rfl rfl rfl (src_new 8 (by decide) rfl rfl (by kernel_rfl)) (src_new 9 (by decide) rfl rfl (by kernel_rfl)) (fun w => strSame V _ _ w)
          · exact stepAssign rfl rfl rfl rfl (src_new 10 (by decide) rfl rfl (by kernel_rfl))
        intro v x1 hok hk1
        replace hk1 := hk1.all
        have v0 := okVal hok (j := 0) rfl rfl
        have v1 := okVal hok (j := 1) rfl rfl
        have v2 := okVal hok (j := 2) rfl rfl
        have v3 := okVal hok (j := 3) rfl rfl
        have v4 := okVal hok (j := 4) rfl rfl
        have v5 := okVal hok (j := 5) rfl rfl
        have v6 := okVal hok (j := 6) rfl rfl
        have v7 := okVal hok (j := 7) rfl rfl
        have v8 := okVal hok (j := 8) rfl rfl
        have v9 := okVal hok (j := 9) rfl rfl
        have v10 := okVal hok (j := 10) rfl rfl
        have v11 := okVal hok (j := 11) rfl rfl
        clear hok
        simp only [putL, Nat.zero_add, Nat.reduceAdd, v0, v1, v2, v3, v4, v5, v6, v7, v8, v9, v10, v11, Act.put, List.setIfInBounds_toArray, List.set_cons_zero, List.set_cons_succ]
        clear v0 v1 v2 v3 v4 v5 v6 v7 v8 v9 v10 v11
        have hbz := hb.trans ((hk1.below (nh0 rfl)).mono hb.size)
        clear hk1
        first | (go_wp2; go_ret) | go_ret
        exact ⟨rfl, hbz⟩

set_option maxRecDepth 100000 in
theorem lifted (os : Os) (started : os.Started) (H : Type) (enc : TypeId × Value → H) (F : Stop.Interp) :
    ReturnsInHanded {} Tryd.checked os 8 .any ((OpenSpec.ofChange Rows.fnHmacSpec).preRow enc Tryd.prog Tryd.f8 Rows.fnHmacRow.domain false Rows.fnHmacRow.laid) (((OpenSpec.ofChange Rows.fnHmacSpec).at F).post enc Tryd.prog Tryd.f8 false true false false) := by
  refine returnsInHanded_of_row (C := Tryd.checked) (s := OpenSpec.ofChange Rows.fnHmacSpec) own started (by kernel_rfl) Tryd.func8
    (witness_row_at (enc := enc) (C := Tryd.checked) false (laidWorldK os) #[.slice none 0 0] rfl (by kernel_rfl) (by kernel_rfl) (by kernel_rfl)
      (OpenSpec.preRow_of_B rfl 8 (by kernel_rfl) (by kernel_rfl) (laid_metK os #[.slice none 0 0]))) ?_
  intro W base args ds gs before hval0 hW _ _ _ hL _ _
  have hval : ∀ (j : Nat) t v, Tryd.f8.params[j]? = some t → args[j]? = some v → Value.okWide Tryd.prog W .any base t v := hval0
  have hW' := hW
  obtain ⟨p, q, hA0, hV, rfl, hfz, hnd⟩ := hW
  have hA : DataW.TrodAll enc Tryd.prog W 0 (fun _ => true) true Tryd.f8.params.toList args.toList ds p := hA0
  rw [Tryd.params8] at hA hval
  obtain ⟨v0, vs0, d0, ds0, p0, q0, hargs, rfl, rfl, h0, r0⟩ := trodAll_cons hA
  obtain ⟨rfl, rfl, rfl⟩ := trodAll_nil r0
  obtain rfl : args = #[v0] := by cases args; simp_all
  have hVV := hV
  obtain ⟨_, _, _, _, dv, _, rfl, _⟩ := trodVars_one hV
  obtain ⟨a0, len0, cap0, rfl⟩ := okWide_slice Tryd.underlying39 (hval 0 39 v0 rfl rfl)
  have k0 := h0
  have lt0 : ∀ x ∈ p0, x.block < W.heap.size := by obtain ⟨m, hm⟩ := k0; exact DataW.trod_lt m _ _ _ hm
  obtain ⟨z0, w0⟩ : ∃ zs, My.IsRow .u8 W a0 len0 cap0 zs := by
    obtain ⟨fuel, hf⟩ := h0
    rcases open_ints Tryd.underlying39 Tryd.underlying5 (by kernel_rfl) hf with ⟨hcs, _⟩ | ⟨x, l, c, zs, hcs, _, hl, hm, hz, _, hcell, hwz⟩
    · simp [Value.cells] at hcs
      obtain ⟨rfl, rfl, rfl⟩ := hcs
      exact ⟨[], .inl ⟨rfl, rfl, rfl, rfl⟩⟩
    · simp [Value.cells] at hcs
      obtain ⟨rfl, rfl, rfl⟩ := hcs
      exact ⟨zs, .inr ⟨_, rfl, hl, hm, by simpa using hz, hcell, hwz⟩⟩
  clear hA0 hval0
  refine (walk W (tab_ofK hL) a0 len0 cap0 z0 w0).mono fun e W' ⟨he, bel⟩ => ?_
  subst he
  exact ⟨_, rfl, _, _, _, [], _, _, hW', trodAll_mk1 (shut_bool Tryd.underlying4 _), (trodAll_cons_mk (Below.trod laidOut (by kernel_rfl) (of_decide_eq_true (by kernel_rfl)) k0 bel lt0) trodAll_mk0), Below.trodVars laidOut bel (by kernel_rfl) hVV, bel.frame _, fun h => by cases h⟩

theorem said : Rows.FnHmacSaid :=
  OpenClaim.holds_of_cond 8 Tryd.f8 rfl rfl rfl rfl rfl rfl rfl ⟨rfl, rfl, rfl, rfl, rfl⟩ rfl rfl rfl rfl rfl (by kernel_rfl) Tryd.func8 (by kernel_rfl)
    (of_decide_eq_true (by kernel_rfl)) (by unfold Func.isWrapper; first | (rw [if_pos (by decide +kernel)]; kernel_rfl) | (rw [if_neg (by decide +kernel)]; exact ⟨rfl, rfl⟩))
    (fun os started H enc _ F => by rw [OpenClaim.pre_eq_preRow]; exact lifted os started H enc F)

theorem plain (f : FuncId) (fn : Func) (hf : Tryd.pinned.checked.prog.funcNamed "loop.example/g00702/laws.FnHmac" = some f) (hfn : Tryd.pinned.checked.prog.funcs[f]? = some fn) :
    false = Tryd.pinned.checked.prog.looks [] ∧ ∀ (j : Nat) t, fn.params[j]? = some t → Tryd.pinned.checked.prog.wantsStandIn t = false := by
  obtain rfl : f = 8 := Option.some.inj ((show Tryd.prog.funcNamed "loop.example/g00702/laws.FnHmac" = some 8 by kernel_rfl).symm.trans hf) |>.symm
  obtain rfl : fn = Tryd.f8 := (Option.some.inj (Tryd.func8.symm.trans hfn)).symm
  refine ⟨by kernel_rfl, fun j t ht => ?_⟩
  rw [Tryd.params8] at ht
  have hm : t ∈ [39] := by simpa using Array.mem_of_getElem? ht
  have hall : ([39].all fun u => !Tryd.prog.wantsStandIn u) = true := by kernel_rfl
  exact (show Tryd.prog.wantsStandIn t = false by simpa using List.all_eq_true.1 hall t hm)

theorem proved : Rows.FnHmacCardSaid :=
  Claim7.holds_tied_plain_at .later [] _ _ _ _ said (fun _ h => by cases h) (by kernel_rfl) (fun _ h => by cases h) fnHmac_row_tie rfl ⟨rfl, rfl⟩ (by kernel_rfl) rfl plain (by kernel_rfl)
end Go.Proofs.YtfbcmckepdjdkaaDoor.fnHmac

/- Proved: for every code FnShared returns true: both sides derive the same shared key, with a one-time prekey and without, and SharedB answers as the specification's (codes of more than 2^20 bytes are passed over by the law itself). The package-level tables that the code reads are tied to the program's text. No further condition. -/
import Derived.Test.YtfbcmckepdjdkaaDoorRows
import Derived.Test.YtfbcmckepdjdkaaDoorCards
import Derived.Test.YtfbcmckepdjdkaaDoorTie
import Derived.WalkKit
import Derived.ProofKit
import Derived.OpenShut
import Derived.ShutString
import Derived.ChangeOld
import Derived.ChangeVars
import Derived.OpenVars
import Derived.Below
import Derived.Deep.DeepHandedRow
import Derived.Lib.LaidTab
import Derived.Test.YtfbcmckepdjdkaaDoorGShr3
import Derived.Test.YtfbcmckepdjdkaaDoorGLadE
import Derived.Test.YtfbcmckepdjdkaaDoorGM1
import Derived.Test.YtfbcmckepdjdkaaDoorGCardPK
namespace Go.Proofs.YtfbcmckepdjdkaaDoor.fnShared
open Go.ChangeShapes Go.WideShapes Go.ChangeAt Go.RowKit Go.My
open Go.ChangeMaps (open_string shut_string)
set_option linter.unusedVariables false

theorem own : ownKnob Tryd.prog.godebug = none := by kernel_rfl
theorem laidOut : laidOutB Tryd.prog = true := by kernel_rfl
theorem row_max {w : World} {a : Option Addr} {len cap : Nat} {zs : List Int} (h : IsRow .u8 w a len cap zs) : len ≤ 9223372036854775807 := by
  rcases h with ⟨_, rfl, _⟩ | ⟨x, _, h1, h2, _⟩
  · omega
  · unfold maxLen at h2; omega
theorem isE2 (a : ByteArray) : a.toList.isEmpty = decide (a.size = 0) := by
  rw [ByteArray.toList_eq, ← len_data]
  cases a.data.toList <;> simp
def Draw5 (N B : Nat) (w : World) (e : Ending) (w' : World) : Prop := ∃ i s o x y : ByteArray, e = .returned (.tuple #[.string i, .string s, .string o, .string x, .string y]) ∧ (i.size ≤ N ∧ s.size ≤ N ∧ o.size ≤ N ∧ x.size ≤ N ∧ y.size ≤ N) ∧ Below B w w'

set_option maxHeartbeats 2000000 in
theorem draw_sharedB (B : Nat) (a : Option Addr) (len cap : Nat) (w : World) (hB : B ≤ w.heap.size) (h : RdCode B w a len) : Calls Tryd.prog 26 #[.slice a len cap] w (Draw5 40 B w) := by
  go_enter Tryd.func26, Tryd.ntmps26
  go_wp2_with fail
  refine (open_any B a len cap _ hB h).mono ?_
  rintro e w1 ⟨rfl, hR1, hg1⟩
  have hb1 := below_none hg1 hB
  clear hg1
  go_wp2_with fail
  refine (once_any B _ _ _ hR1 (by omega) (by omega)).mono ?_
  rintro e w2 ⟨b, rfl, hR2, hg2⟩
  have hb2 := hb1.trans (grown_below hg2 hR1.1 hR1.2.1)
  clear hb1 hg2 hR1
  cases b
  case false =>
    go_wp2_with fail
    refine (key_any B _ _ hR2).mono ?_
    rintro e w3 ⟨i, rfl, hi, hR3, hg3⟩
    have hb3 := hb2.trans (grown_below hg3 hR2.1 hR2.2.1)
    clear hb2 hg3 hR2
    go_wp2_with fail
    refine (key_any B _ _ hR3).mono ?_
    rintro e w4 ⟨s, rfl, hs, hR4, hg4⟩
    have hb4 := hb3.trans (grown_below hg4 hR3.1 hR3.2.1)
    clear hb3 hg4 hR3
    go_wp2_with fail
    refine (key_any B _ _ hR4).mono ?_
    rintro e w5 ⟨x, rfl, hx, hR5, hg5⟩
    have hb5 := hb4.trans (grown_below hg5 hR4.1 hR4.2.1)
    clear hb4 hg5 hR4
    go_wp2_with fail
    refine (key_any B _ _ hR5).mono ?_
    rintro e w6 ⟨y, rfl, hy, hR6, hg6⟩
    have hb6 := hb5.trans (grown_below hg6 hR5.1 hR5.2.1)
    clear hb5 hg6 hR5
    go_wp2
    refine bodyPost_ret (v := .tuple #[.string i, .string s, .string (ByteArray.mk #[]), .string x, .string y]) (by simp [results, Tryd.results26, go_sem]) rfl ?_
    exact ⟨i, s, (ByteArray.mk #[]), x, y, rfl, ⟨hi, hs, Nat.zero_le _, hx, hy⟩, hb6⟩
  case true =>
    go_wp2_with fail
    refine (key_any B _ _ hR2).mono ?_
    rintro e w3 ⟨o, rfl, ho, hR3, hg3⟩
    have hb3 := hb2.trans (grown_below hg3 hR2.1 hR2.2.1)
    clear hb2 hg3 hR2
    go_wp2_with fail
    refine (key_any B _ _ hR3).mono ?_
    rintro e w4 ⟨i, rfl, hi, hR4, hg4⟩
    have hb4 := hb3.trans (grown_below hg4 hR3.1 hR3.2.1)
    clear hb3 hg4 hR3
    go_wp2_with fail
    refine (key_any B _ _ hR4).mono ?_
    rintro e w5 ⟨s, rfl, hs, hR5, hg5⟩
    have hb5 := hb4.trans (grown_below hg5 hR4.1 hR4.2.1)
    clear hb4 hg5 hR4
    go_wp2_with fail
    refine (key_any B _ _ hR5).mono ?_
    rintro e w6 ⟨x, rfl, hx, hR6, hg6⟩
    have hb6 := hb5.trans (grown_below hg6 hR5.1 hR5.2.1)
    clear hb5 hg6 hR5
    go_wp2_with fail
    refine (key_any B _ _ hR6).mono ?_
    rintro e w7 ⟨y, rfl, hy, hR7, hg7⟩
    have hb7 := hb6.trans (grown_below hg7 hR6.1 hR6.2.1)
    clear hb6 hg7 hR6
    go_wp2
    refine bodyPost_ret (v := .tuple #[.string i, .string s, .string o, .string x, .string y]) (by simp [results, Tryd.results26, go_sem]) rfl ?_
    exact ⟨i, s, o, x, y, rfl, ⟨hi, hs, ho, hx, hy⟩, hb7⟩

theorem bndSz (p q s : ByteArray) (a : Int) : (Tryd.prog.info? 34).map (·.size) = some (bundleA p q s a).size := by kernel_rfl
theorem bndOne (p q s : ByteArray) (a : Int) : (bundleA p q s a).all (·.oneCell') = true := by kernel_rfl
abbrev bundZ : Array Value := bundleA (ByteArray.mk #[]) (ByteArray.mk #[]) (ByteArray.mk #[]) 0
theorem bnd_of {p q s : ByteArray} {a : Int} (hp : p.size = 32) (hq : q.size = 32) (hs : (s.size = 0 ∧ a = 0) ∨ (s.size = 32 ∧ a = 3)) : bndB p q s a = true := by
  unfold bndB keysB oneB
  rcases hs with ⟨h, rfl⟩ | ⟨h, rfl⟩
  · rw [if_pos h]; simp [hp, hq]
  · rw [if_neg (by omega)]; simp [hp, hq, h]
/-- Both sides' secrets are the same. -/
theorem same4 (i s o x y : ByteArray) (h : ShB i s o x y) (p : ByteArray) (hp : (o.size = 0 ∧ p.size = 0) ∨ (o.size = 32 ∧ p = dhV o nineS)) :
    cat4 (dhV x (dhV s nineS)) (dhV y (dhV i nineS)) (dhV y (dhV s nineS)) (dhV y p) = cat4 (dhV s (dhV x nineS)) (dhV i (dhV y nineS)) (dhV s (dhV y nineS)) (dhV o (dhV y nineS)) := by
  obtain ⟨hi, hs, hx, hy, ho⟩ := h
  rw [dh_same x s hx hs, dh_same y i hy hi, dh_same y s hy hs]
  rcases hp with ⟨h0, h1⟩ | ⟨h0, rfl⟩
  · rw [emptyS (dhV_none y p (by omega)), emptyS (dhV_none o (dhV y nineS) (by omega))]
  · rw [dh_same y o hy h0]

set_option maxRecDepth 100000 in
set_option maxHeartbeats 4000000 in
theorem walk (w : World) (hk : TabPK w) (a0 : Option Addr) (len0 cap0 : Nat) (z0 : List Int) (w0 : IsRow .u8 w a0 len0 cap0 z0) :
    Calls Tryd.prog 6 #[.slice a0 len0 cap0] w fun e w' => e = .returned (.bool true) ∧ Below w.heap.size w w' := by
  have hm0 := row_max w0
  by_cases hl : len0 ≤ 1048576
  case neg =>
    have hd : decide (1048576 < (len0 : Int)) = true := by simp; omega
    go_enter Tryd.func6, Tryd.ntmps6
    go_wp2_with fail
    refine (big_any _ _ _ _ hm0).mono ?_
    rintro e w' ⟨rfl, rfl⟩
    rw [hd]
    go_wp2
    go_ret
    exact ⟨rfl, Below.refl _ _⟩
  have hd : decide (1048576 < (len0 : Int)) = false := by simp; omega
  have hc := code_of_row w0 hl
  clear w0 hl
  go_enter Tryd.func6, Tryd.ntmps6
  go_wp2_with fail
  refine (big_any _ _ _ _ hm0).mono ?_
  rintro e w' ⟨rfl, rfl⟩
  rw [hd]
  clear hm0 hd
  go_wp2_with fail
  refine (draw_sharedB w.heap.size a0 len0 cap0 _ (Nat.le_refl _) hc).mono ?_
  rintro e w1 ⟨i, s, o, x, y, rfl, hz, hb1'⟩
  have hb1 := hb1'
  clear hb1'
  clear hc
  have HP := Lib.hid (fun w => sharedB_s i s o x y w (by omega) (by omega) (by omega) (by omega) (by omega))
  have HI := Lib.hid (fun w h => sharedB_i i s o x y w h (by omega) (by omega) (by omega) (by omega) (by omega))
  by_cases hS : ShB i s o x y
  case neg =>
    have hV : shB i s o x y = ByteArray.mk #[] := if_neg hS
    have hE : (shB i s o x y).toList.isEmpty = true := by rw [isE2, hV]; rfl
    generalize shB i s o x y = V at *
    clear hS hz hV
    go_wp2_with fail
    refine (HI.out _ (hk.below hb1)).mono ?_
    rintro e w2 ⟨rfl, hb2'⟩
    have hb2 := hb1.trans (hb2'.mono hb1.size)
    clear hb2' hb1
    go_wp2_with fail
    refine (HP.out _).mono ?_
    rintro e w3 ⟨rfl, hb3'⟩
    have hb3 := hb2.trans (hb3'.mono hb2.size)
    clear hb3' hb2
    go_wp2_with fail
    refine (HP.out _).mono ?_
    rintro e w4 ⟨rfl, hb4'⟩
    have hb4 := hb3.trans (hb4'.mono hb3.size)
    clear hb4' hb3
    go_wp2
    go_ret
    exact ⟨rfl, hb4⟩
  have hV : shB i s o x y = shrV (cat4 (dhV s x) (dhV i y) (dhV s y) (dhV o y)) := if_pos hS
  have hE : (shB i s o x y).toList.isEmpty = false := by rw [isE2, hV, shrV_size]; rfl
  generalize shB i s o x y = V at *
  clear hV
  have hsi := hS.1
  have hss := hS.2.1
  have hsx := hS.2.2.1
  have hsy := hS.2.2.2.1
  obtain ⟨Pi, ePi⟩ : ∃ p, p = dhV i nineS := ⟨_, rfl⟩
  obtain ⟨Ps, ePs⟩ : ∃ p, p = dhV s nineS := ⟨_, rfl⟩
  obtain ⟨Px, ePx⟩ : ∃ p, p = dhV x nineS := ⟨_, rfl⟩
  obtain ⟨Py, ePy⟩ : ∃ p, p = dhV y nineS := ⟨_, rfl⟩
  have zi : Pi.size = 32 := by rw [ePi]; exact dhV_sz _ _ ⟨hsi, nine_size⟩
  have zs : Ps.size = 32 := by rw [ePs]; exact dhV_sz _ _ ⟨hss, nine_size⟩
  have zx : Px.size = 32 := by rw [ePx]; exact dhV_sz _ _ ⟨hsx, nine_size⟩
  have zy : Py.size = 32 := by rw [ePy]; exact dhV_sz _ _ ⟨hsy, nine_size⟩
  have Ci := Lib.hid (fun w h => pubA_i i Pi w ePi (by omega) h)
  have Cs := Lib.hid (fun w h => pubA_i s Ps w ePs (by omega) h)
  have Cx := Lib.hid (fun w h => pubA_i x Px w ePx (by omega) h)
  have Cy := Lib.hid (fun w h => pubA_i y Py w ePy (by omega) h)
  by_cases ho : o.size = 0
  · obtain ⟨Po, hPo⟩ : ∃ p, p = ByteArray.mk #[] := ⟨_, rfl⟩
    have zo : Po.size = 0 := by rw [hPo]; rfl
    have hbn : bndB Pi Ps Po 0 = true := bnd_of zi zs (.inl ⟨zo, rfl⟩)
    obtain ⟨K, eK⟩ : ∃ K, K = shrV (cat4 (dhV s Px) (dhV i Py) (dhV s Py) (dhV o Py)) := ⟨_, rfl⟩
    have hK : (K.size : Int) = 32 := by rw [eK, shrV_size]; rfl
    have CA := Lib.hid (fun w h => (show Calls Tryd.prog 22 #[.string x, .string y, .agg (bundleA Pi Ps Po 0)] w (fun r w' => r = .returned (.string K) ∧ Below w.heap.size w w') by
      have e : shA x y Pi Ps Po 0 = K := (if_pos ⟨hsx, hsy, hbn⟩ : shA x y Pi Ps Po 0 = shrV (cat4 (dhV x Ps) (dhV y Pi) (dhV y Ps) (dhV y Po))).trans (by rw [eK, ePi, ePs, ePx, ePy]; exact congrArg shrV (same4 i s o x y hS Po (.inl ⟨ho, zo⟩)))
      rw [← e]; exact sharedA_i x y Pi Ps Po 0 w h (by omega) (by omega) (by omega) (by omega) (by omega)))
    have CB := Lib.hid (fun w h => (show Calls Tryd.prog 24 #[.string i, .string s, .string o, .string Px, .string Py] w (fun r w' => r = .returned (.string K) ∧ Below w.heap.size w w') by
      have e : shB i s o Px Py = K := (if_pos ⟨hsi, hss, zx, zy, hS.2.2.2.2⟩ : shB i s o Px Py = _).trans eK.symm
      rw [← e]; exact sharedB_i i s o Px Py w h (by omega) (by omega) (by omega) (by omega) (by omega)))
    have CN := Lib.hid (fun w => (show Calls Tryd.prog 28 #[.agg (bundleA Pi Ps Po 0)] w (fun r w' => r = .returned (.bool true) ∧ Below w.heap.size w w') by rw [← hbn]; exact bundleOk_i Pi Ps Po 0 w))
    subst hPo
    obtain rfl := emptyS ho
    clear hS hsi hss hsx hsy zi zs zx zy zo eK ePi ePs ePx ePy ho hz hbn
    go_wp2_with fail
    refine (HI.out _ (hk.below hb1)).mono ?_
    rintro e w2 ⟨rfl, hb2'⟩
    have hb2 := hb1.trans (hb2'.mono hb1.size)
    clear hb2' hb1
    go_wp2_with fail
    refine (HP.out _).mono ?_
    rintro e w3 ⟨rfl, hb3'⟩
    have hb3 := hb2.trans (hb3'.mono hb2.size)
    clear hb3' hb2
    go_wp2_with fail
    refine (Ci.out _ (hk.below hb3).1).mono ?_
    rintro e w4 ⟨rfl, hb4'⟩
    have hb4 := hb3.trans (hb4'.mono hb3.size)
    clear hb4' hb3
    go_wp2_with fail
    refine (Cs.out _ (hk.below hb4).1).mono ?_
    rintro e w5 ⟨rfl, hb5'⟩
    have hb5 := hb4.trans (hb5'.mono hb4.size)
    clear hb5' hb4
    go_wp2_with (first | ((with_reducible refine wpList_store_row' (o := ⟨none, .store 34 _ _, _, _, _, _⟩) rfl 34 _ _ rfl w5.heap.size (bundleA Pi Ps (ByteArray.mk #[]) 0) rfl rfl 34 bundZ (heap_alloc_new w5 _) (bndSz _ _ _ _) rfl (bndOne _ _ _ _) ?_); intro w6 hw6 hs6 hg6) | with_reducible refine wpList_load_row (o := ⟨some 60, _, _, _, _, _⟩) rfl 34 _ rfl w5.heap.size rfl 34 (bundleA Pi Ps (ByteArray.mk #[]) 0) (0, 0) _ hw6 Tryd.underlying34 rfl (bndSz _ _ _ _) ?_ | fail)
    have f6 : Blk w5.heap.size (bundleA Pi Ps (ByteArray.mk #[]) 0) 34 w6 := hw6
    have hb6 : Below w.heap.size w w6 := (hb5.alloc hb5.size _).grown hg6 (by simp; have := hb5.size; omega) (by intro k hk; have := Option.some.inj hk; have := hb5.size; omega)
    clear hw6 hs6 hg6 hb5
    refine (CA.out _ (hk.below hb6)).mono ?_
    rintro e w7 ⟨rfl, hx7⟩
    have f7 := f6.below hx7
    have hb7 := hb6.trans (hx7.mono hb6.size)
    clear hx7 f6 hb6
    go_wp2_with fail
    refine (Cx.out _ (hk.below hb7).1).mono ?_
    rintro e w8 ⟨rfl, hx8⟩
    have f8 := f7.below hx8
    have hb8 := hb7.trans (hx8.mono hb7.size)
    clear hx8 f7 hb7
    go_wp2_with fail
    refine (Cy.out _ (hk.below hb8).1).mono ?_
    rintro e w9 ⟨rfl, hx9⟩
    have f9 := f8.below hx9
    have hb9 := hb8.trans (hx9.mono hb8.size)
    clear hx9 f8 hb8
    go_wp2_with fail
    refine (CB.out _ (hk.below hb9)).mono ?_
    rintro e w10 ⟨rfl, hx10⟩
    have f10 := f9.below hx10
    have hb10 := hb9.trans (hx10.mono hb9.size)
    clear hx10 f9 hb9
    have c0 := f10.cell (j := 0) (v := .string Pi) rfl
    have c1 := f10.cell (j := 1) (v := .string Ps) rfl
    have c2 := f10.cell (j := 2) (v := .string (ByteArray.mk #[])) rfl
    have c3 := f10.cell (j := 3) (v := .int .i64 0) rfl
    go_wp2_with fail
    refine (CN.out _).mono ?_
    rintro e w11 ⟨rfl, hx11⟩
    have hb11 := hb10.trans (hx11.mono hb10.size)
    clear hx11 f10 hb10 c0 c1 c2 c3
    go_wp2
    go_ret
    exact ⟨rfl, hb11⟩
  · have ho2 : o.size = 32 := by have := hS.2.2.2.2; omega
    obtain ⟨Po, ePo⟩ : ∃ p, p = dhV o nineS := ⟨_, rfl⟩
    have zo : Po.size = 32 := by rw [ePo]; exact dhV_sz _ _ ⟨ho2, nine_size⟩
    have Co := Lib.hid (fun w h => pubA_i o Po w ePo (by omega) h)
    have hOE := fullS ho
    have hbn : bndB Pi Ps Po 3 = true := bnd_of zi zs (.inr ⟨zo, rfl⟩)
    obtain ⟨K, eK⟩ : ∃ K, K = shrV (cat4 (dhV s Px) (dhV i Py) (dhV s Py) (dhV o Py)) := ⟨_, rfl⟩
    have hK : (K.size : Int) = 32 := by rw [eK, shrV_size]; rfl
    have CA := Lib.hid (fun w h => (show Calls Tryd.prog 22 #[.string x, .string y, .agg (bundleA Pi Ps Po 3)] w (fun r w' => r = .returned (.string K) ∧ Below w.heap.size w w') by
      have e : shA x y Pi Ps Po 3 = K := (if_pos ⟨hsx, hsy, hbn⟩ : shA x y Pi Ps Po 3 = shrV (cat4 (dhV x Ps) (dhV y Pi) (dhV y Ps) (dhV y Po))).trans (by rw [eK, ePi, ePs, ePx, ePy]; exact congrArg shrV (same4 i s o x y hS Po (.inr ⟨ho2, ePo⟩)))
      rw [← e]; exact sharedA_i x y Pi Ps Po 3 w h (by omega) (by omega) (by omega) (by omega) (by omega)))
    have CB := Lib.hid (fun w h => (show Calls Tryd.prog 24 #[.string i, .string s, .string o, .string Px, .string Py] w (fun r w' => r = .returned (.string K) ∧ Below w.heap.size w w') by
      have e : shB i s o Px Py = K := (if_pos ⟨hsi, hss, zx, zy, hS.2.2.2.2⟩ : shB i s o Px Py = _).trans eK.symm
      rw [← e]; exact sharedB_i i s o Px Py w h (by omega) (by omega) (by omega) (by omega) (by omega)))
    have CN := Lib.hid (fun w => (show Calls Tryd.prog 28 #[.agg (bundleA Pi Ps Po 3)] w (fun r w' => r = .returned (.bool true) ∧ Below w.heap.size w w') by rw [← hbn]; exact bundleOk_i Pi Ps Po 3 w))
    clear hS hsi hss hsx hsy zi zs zx zy zo eK ePi ePs ePx ePy ho hz hbn ePo ho2
    go_wp2_with fail
    refine (HI.out _ (hk.below hb1)).mono ?_
    rintro e w2 ⟨rfl, hb2'⟩
    have hb2 := hb1.trans (hb2'.mono hb1.size)
    clear hb2' hb1
    go_wp2_with fail
    refine (HP.out _).mono ?_
    rintro e w3 ⟨rfl, hb3'⟩
    have hb3 := hb2.trans (hb3'.mono hb2.size)
    clear hb3' hb2
    go_wp2_with fail
    refine (Ci.out _ (hk.below hb3).1).mono ?_
    rintro e w4 ⟨rfl, hb4'⟩
    have hb4 := hb3.trans (hb4'.mono hb3.size)
    clear hb4' hb3
    go_wp2_with fail
    refine (Cs.out _ (hk.below hb4).1).mono ?_
    rintro e w5 ⟨rfl, hb5'⟩
    have hb5 := hb4.trans (hb5'.mono hb4.size)
    clear hb5' hb4
    go_wp2_with (first | ((with_reducible refine wpList_store_row' (o := ⟨none, .store 34 _ _, _, _, _, _⟩) rfl 34 _ _ rfl w5.heap.size (bundleA Pi Ps (ByteArray.mk #[]) 0) rfl rfl 34 bundZ (heap_alloc_new w5 _) (bndSz _ _ _ _) rfl (bndOne _ _ _ _) ?_); intro w6 hw6 hs6 hg6) | fail)
    have f6 : Blk w5.heap.size (bundleA Pi Ps (ByteArray.mk #[]) 0) 34 w6 := hw6
    have hb6 : Below w.heap.size w w6 := (hb5.alloc hb5.size _).grown hg6 (by simp; have := hb5.size; omega) (by intro k hk; have := Option.some.inj hk; have := hb5.size; omega)
    have HGE : Hid (w.heap.size ≤ w5.heap.size) := hb5.size
    clear hw6 hs6 hg6 hb5
    refine (Co.out _ (hk.below hb6).1).mono ?_
    rintro e wp ⟨rfl, hxp⟩
    have fp := f6.below hxp
    have hbp := hb6.trans (hxp.mono hb6.size)
    clear hxp f6 hb6
    generalize w5.heap.size = g5 at *
    have c2 := fp.cell (j := 2) rfl
    have c3 := fp.cell (j := 3) rfl
    have z2 := fp.froz (j := 2)
    have z3 := fp.froz (j := 3)
    have F7 : Hid (Blk g5 (bundleA Pi Ps Po 3) 34 ((wp.setCell ⟨g5, 2, none⟩ (.string Po)).setCell ⟨g5, 3, none⟩ (.int .i64 3))) := (fp.set 2 (.string Po)).set 3 (.int .i64 3)
    have HB7 : Hid (Below w.heap.size w ((wp.setCell ⟨g5, 2, none⟩ (.string Po)).setCell ⟨g5, 3, none⟩ (.int .i64 3))) := (hbp.setCell (p := ⟨g5, 2, none⟩) HGE.out _).setCell (p := ⟨g5, 3, none⟩) HGE.out _
    clear fp hbp
    go_wp2_with (first | with_reducible refine wpList_load_row (o := ⟨some 60, _, _, _, _, _⟩) rfl 34 _ rfl g5 rfl 34 (bundleA Pi Ps Po 3) (0, 0) _ F7.out.h Tryd.underlying34 rfl (bndSz _ _ _ _) ?_ | fail)
    have f6 := F7.out
    have hb6 := HB7.out
    clear F7 HB7 c2 c3 z2 z3
    refine (CA.out _ (hk.below hb6)).mono ?_
    rintro e w7 ⟨rfl, hx7⟩
    have f7 := f6.below hx7
    have hb7 := hb6.trans (hx7.mono hb6.size)
    clear hx7 f6 hb6
    go_wp2_with fail
    refine (Cx.out _ (hk.below hb7).1).mono ?_
    rintro e w8 ⟨rfl, hx8⟩
    have f8 := f7.below hx8
    have hb8 := hb7.trans (hx8.mono hb7.size)
    clear hx8 f7 hb7
    go_wp2_with fail
    refine (Cy.out _ (hk.below hb8).1).mono ?_
    rintro e w9 ⟨rfl, hx9⟩
    have f9 := f8.below hx9
    have hb9 := hb8.trans (hx9.mono hb8.size)
    clear hx9 f8 hb8
    go_wp2_with fail
    refine (CB.out _ (hk.below hb9)).mono ?_
    rintro e w10 ⟨rfl, hx10⟩
    have f10 := f9.below hx10
    have hb10 := hb9.trans (hx10.mono hb9.size)
    clear hx10 f9 hb9
    have c0 := f10.cell (j := 0) (v := .string Pi) rfl
    have c1 := f10.cell (j := 1) (v := .string Ps) rfl
    have c2 := f10.cell (j := 2) (v := .string Po) rfl
    have c3 := f10.cell (j := 3) (v := .int .i64 3) rfl
    go_wp2_with fail
    refine (CN.out _).mono ?_
    rintro e w11 ⟨rfl, hx11⟩
    have hb11 := hb10.trans (hx11.mono hb10.size)
    clear hx11 f10 hb10 c0 c1 c2 c3
    go_wp2
    go_ret
    exact ⟨rfl, hb11⟩

set_option maxRecDepth 100000 in
theorem lifted (os : Os) (started : os.Started) (H : Type) (enc : TypeId × Value → H) (F : Stop.Interp) :
    ReturnsInHanded {} Tryd.checked os 6 .any ((OpenSpec.ofChange Rows.fnSharedSpec).preRow enc Tryd.prog Tryd.f6 Rows.fnSharedRow.domain false Rows.fnSharedRow.laid) (((OpenSpec.ofChange Rows.fnSharedSpec).at F).post enc Tryd.prog Tryd.f6 false true false false) := by
  refine returnsInHanded_of_row (C := Tryd.checked) (s := OpenSpec.ofChange Rows.fnSharedSpec) own started (by kernel_rfl) Tryd.func6
    (witness_row_at (enc := enc) (C := Tryd.checked) false (laidWorldPK os) #[.slice none 0 0] rfl (by kernel_rfl) (by kernel_rfl) (by kernel_rfl)
      (OpenSpec.preRow_of_B rfl 8 (by kernel_rfl) (by kernel_rfl) (laid_metPK os #[.slice none 0 0]))) ?_
  intro W base args ds gs before hval0 hW _ _ _ hL _ _
  have hval : ∀ (j : Nat) t v, Tryd.f6.params[j]? = some t → args[j]? = some v → Value.okWide Tryd.prog W .any base t v := hval0
  have hW' := hW
  obtain ⟨p, q, hA0, hV, rfl, hfz, hnd⟩ := hW
  have hA : DataW.TrodAll enc Tryd.prog W 0 (fun _ => true) true Tryd.f6.params.toList args.toList ds p := hA0
  rw [Tryd.params6] at hA hval
  obtain ⟨v0, vs0, d0, ds0, p0, q0, hargs, rfl, rfl, h0, r0⟩ := trodAll_cons hA
  obtain ⟨rfl, rfl, rfl⟩ := trodAll_nil r0
  obtain rfl : args = #[v0] := by cases args; simp_all
  have hVV := hV
  obtain ⟨_, _, _, _, dv, _, _, _, _, _, dv1, _, rfl, _⟩ := trodVars_two hV
  obtain ⟨a0, len0, cap0, rfl⟩ := okWide_slice Tryd.underlying39 (hval 0 39 v0 rfl rfl)
  have k0 := h0
  have lt0 : ∀ x ∈ p0, x.block < W.heap.size := by obtain ⟨m, hm⟩ := k0; exact DataW.trod_lt m _ _ _ hm
  obtain ⟨z0, w0⟩ : ∃ zs, My.IsRow .u8 W a0 len0 cap0 zs := by
    obtain ⟨fuel, hf⟩ := h0
    rcases open_ints Tryd.underlying39 Tryd.underlying5 (by kernel_rfl) hf with ⟨hcs, _⟩ | ⟨x, l, c, zs, hcs, _, hl, hm, hz, _, hcell, hwz⟩
    · simp [Value.cells] at hcs
      obtain ⟨rfl, rfl, rfl⟩ := hcs
      exact ⟨[], .inl ⟨rfl, rfl, rfl, rfl⟩⟩
    · simp [Value.cells] at hcs
      obtain ⟨rfl, rfl, rfl⟩ := hcs
      exact ⟨zs, .inr ⟨_, rfl, hl, hm, by simpa using hz, hcell, hwz⟩⟩
  clear hA0 hval0
  refine (walk W (tab_ofPK hL) a0 len0 cap0 z0 w0).mono fun e W' ⟨he, bel⟩ => ?_
  subst he
  exact ⟨_, rfl, _, _, _, [], _, _, hW', trodAll_mk1 (shut_bool Tryd.underlying4 _), (trodAll_cons_mk (Below.trod laidOut (by kernel_rfl) (of_decide_eq_true (by kernel_rfl)) k0 bel lt0) trodAll_mk0), Below.trodVars laidOut bel (by kernel_rfl) hVV, bel.frame _, fun h => by cases h⟩

theorem said : Rows.FnSharedSaid :=
  OpenClaim.holds_of_cond 6 Tryd.f6 rfl rfl rfl rfl rfl rfl rfl ⟨rfl, rfl, rfl, rfl, rfl⟩ rfl rfl rfl rfl rfl (by kernel_rfl) Tryd.func6 (by kernel_rfl)
    (of_decide_eq_true (by kernel_rfl)) (by unfold Func.isWrapper; first | (rw [if_pos (by decide +kernel)]; kernel_rfl) | (rw [if_neg (by decide +kernel)]; exact ⟨rfl, rfl⟩))
    (fun os started H enc _ F => by rw [OpenClaim.pre_eq_preRow]; exact lifted os started H enc F)

theorem plain (f : FuncId) (fn : Func) (hf : Tryd.pinned.checked.prog.funcNamed "loop.example/g00702/laws.FnShared" = some f) (hfn : Tryd.pinned.checked.prog.funcs[f]? = some fn) :
    false = Tryd.pinned.checked.prog.looks [] ∧ ∀ (j : Nat) t, fn.params[j]? = some t → Tryd.pinned.checked.prog.wantsStandIn t = false := by
  obtain rfl : f = 6 := Option.some.inj ((show Tryd.prog.funcNamed "loop.example/g00702/laws.FnShared" = some 6 by kernel_rfl).symm.trans hf) |>.symm
  obtain rfl : fn = Tryd.f6 := (Option.some.inj (Tryd.func6.symm.trans hfn)).symm
  refine ⟨by kernel_rfl, fun j t ht => ?_⟩
  rw [Tryd.params6] at ht
  have hm : t ∈ [39] := by simpa using Array.mem_of_getElem? ht
  have hall : ([39].all fun u => !Tryd.prog.wantsStandIn u) = true := by kernel_rfl
  exact (show Tryd.prog.wantsStandIn t = false by simpa using List.all_eq_true.1 hall t hm)

theorem proved : Rows.FnSharedCardSaid :=
  Claim7.holds_tied_plain_at .later [] _ _ _ _ said (fun _ h => by cases h) (by kernel_rfl) (fun _ h => by cases h) fnShared_row_tie rfl ⟨rfl, rfl⟩ (by kernel_rfl) rfl plain (by kernel_rfl)
end Go.Proofs.YtfbcmckepdjdkaaDoor.fnShared

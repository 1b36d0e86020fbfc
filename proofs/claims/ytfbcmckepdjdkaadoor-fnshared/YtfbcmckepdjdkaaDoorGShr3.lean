/- SharedA of both sides. -/
import Derived.Test.YtfbcmckepdjdkaaDoorGShr2
import Derived.Test.YtfbcmckepdjdkaaDoorGBnd1
import Derived.Test.YtfbcmckepdjdkaaDoorGRegC
namespace Go.Proofs.YtfbcmckepdjdkaaDoor
open Go.RowKit Go.My Go.Lib
set_option linter.unusedVariables false
set_option maxRecDepth 100000

abbrev ShA (i e p q s : ByteArray) (a : Int) : Prop := i.size = 32 ∧ e.size = 32 ∧ bndB p q s a = true
def shA (i e p q s : ByteArray) (a : Int) : ByteArray := if ShA i e p q s a then shrV (cat4 (dhV i q) (dhV e p) (dhV e q) (dhV e s)) else ByteArray.mk #[]
theorem bnd_parts {p q s : ByteArray} {a : Int} (h : bndB p q s a = true) : p.size = 32 ∧ q.size = 32 ∧ (s.size = 0 ∨ s.size = 32) := by
  unfold bndB keysB at h
  rw [Bool.and_eq_true] at h
  obtain ⟨h1, h2⟩ := h
  simp at h1
  refine ⟨by omega, by omega, ?_⟩
  by_cases c : s.size = 0
  · exact .inl c
  · unfold oneB at h2
    rw [if_neg c] at h2
    simp at h2
    omega
theorem flB0 (g : Nat) (w : World) : (Instr.fieldAt 34 (.pointer (some ⟨g, 0, none⟩)) 0).run Tryd.prog w = .ok (.pointer (some ⟨g, 0, none⟩)) w := by kernel_rfl
theorem flB1 (g : Nat) (w : World) : (Instr.fieldAt 34 (.pointer (some ⟨g, 0, none⟩)) 1).run Tryd.prog w = .ok (.pointer (some ⟨g, 1, none⟩)) w := by kernel_rfl
theorem flB2 (g : Nat) (w : World) : (Instr.fieldAt 34 (.pointer (some ⟨g, 0, none⟩)) 2).run Tryd.prog w = .ok (.pointer (some ⟨g, 2, none⟩)) w := by kernel_rfl
theorem cfDhI (args : Array Value) (w : World) : (callFunc 68 args).run Tryd.prog w = .ok (.enter 68 args) w := cf_of Tryd.func68 (by kernel_rfl) (by kernel_rfl) args w
theorem cfDhS (args : Array Value) (w : World) : (callFunc 65 args).run Tryd.prog w = .ok (.enter 65 args) w := cf_of Tryd.func65 (by kernel_rfl) (by kernel_rfl) args w

theorem below_nextA {B : Nat} {w a b : World} (hb : Below a.heap.size a b) (h : Below B w a) (hs : B ≤ a.heap.size) : Below B w b := h.trans (hb.mono hs)
set_option maxHeartbeats 4000000 in
theorem sharedA_i (i e p q s : ByteArray) (a : Int) (w : World) (hT : TabP w ∧ TabK w) (hi : i.size ≤ 1048576) (he : e.size ≤ 1048576) (hp : p.size ≤ 1048576) (hq : q.size ≤ 1048576) (hs : s.size ≤ 1048576) :
    Calls Tryd.prog 22 #[.string i, .string e, .agg (bundleA p q s a)] w fun r w' => r = .returned (.string (shA i e p q s a)) ∧ Below w.heap.size w w' := by
  obtain ⟨w0, ew0⟩ : ∃ w0, w0 = (w.alloc (.cells (bundleA p q s a) 34)).alloc (.cells (strsA [i, e]) 9) := ⟨_, rfl⟩
  have hb0 : Below w.heap.size w w0 := by rw [ew0]; exact ((Below.refl _ _).alloc (Nat.le_refl _) _).alloc (by simp) _
  have f0 : Blk w.heap.size (bundleA p q s a) 34 w0 := by rw [ew0]; exact heap_alloc2_old w _ _
  have HTP := Lib.hid hT.1
  have HTK := Lib.hid hT.2
  have HK := Lib.hid (allKeys_any (w.heap.size + 1) [i, e] w0 (by rw [ew0]; exact heap_alloc2_new w _ _) (by simp) (fun j hj => by
    have : j = 0 ∨ j = 1 := by simp at hj; omega
    rcases this with rfl | rfl
    · show i.size ≤ _; omega
    · show e.size ≤ _; omega))
  have HA : Hid (allK [i, e] = decide (i.size = 32 ∧ e.size = 32)) := by show _ = _; simp [allK]
  have HN := Lib.hid (fun w => bundleOk_i p q s a w)
  have HL := Lib.hid (And.intro hi (And.intro he (And.intro hp (And.intro hq hs))))
  clear hi he hp hq hs hT
  by_cases h : i.size = 32 ∧ e.size = 32
  case neg =>
    have HV : Hid (shA i e p q s a = ByteArray.mk #[]) := if_neg (fun c => h ⟨c.1, c.2.1⟩)
    rw [decide_eq_false h] at HA
    generalize shA i e p q s a = V at *
    clear h
    go_enter Tryd.func22, Tryd.ntmps22
    go_wp2_with fail
    rw [ew0] at HK hb0
    refine HK.out.mono ?_
    rintro r w' ⟨rfl, rfl⟩
    rw [HA.out]
    go_wp2
    go_ret
    exact ⟨by rw [HV.out]; rfl, hb0⟩
  rw [decide_eq_true h] at HA
  by_cases hn : bndB p q s a = true
  case neg =>
    have HV : Hid (shA i e p q s a = ByteArray.mk #[]) := if_neg (fun c => hn c.2.2)
    have HO : Hid (bndB p q s a = false) := by show _ = _; simpa using hn
    generalize shA i e p q s a = V at *
    clear h hn
    go_enter Tryd.func22, Tryd.ntmps22
    go_wp2_with fail
    rw [ew0] at HK hb0
    refine HK.out.mono ?_
    rintro r w' ⟨rfl, rfl⟩
    rw [HA.out]
    go_wp2_with fail
    refine (HN.out _).mono ?_
    rintro r w2 ⟨rfl, hb2⟩
    rw [HO.out]
    go_wp2
    go_ret
    exact ⟨by rw [HV.out]; rfl, hb0.trans (hb2.mono hb0.size)⟩
  have HO : Hid (bndB p q s a = true) := hn
  obtain ⟨d1, ed1⟩ : ∃ d, d = dhV i q := ⟨_, rfl⟩
  obtain ⟨d2, ed2⟩ : ∃ d, d = dhV e p := ⟨_, rfl⟩
  obtain ⟨d3, ed3⟩ : ∃ d, d = dhV e q := ⟨_, rfl⟩
  obtain ⟨d4, ed4⟩ : ∃ d, d = dhV e s := ⟨_, rfl⟩
  have HV : Hid (shA i e p q s a = shrV (cat4 d1 d2 d3 d4)) := by show _ = _; rw [ed1, ed2, ed3, ed4]; exact if_pos ⟨h.1, h.2, hn⟩
  have HZ : Hid ((cat4 d1 d2 d3 d4).length ≤ 300) := by show _ ≤ _; rw [cat4_len, ed1, ed2, ed3, ed4]; have := dhV_le i q; have := dhV_le e p; have := dhV_le e q; have := dhV_le e s; omega
  have D1 := Lib.hid (fun w h => dhA_i i q d1 w ed1 HL.out.1 HL.out.2.2.2.1 h)
  have D2 := Lib.hid (fun w h => dhA_i e p d2 w ed2 HL.out.2.1 HL.out.2.2.1 h)
  have D3 := Lib.hid (fun w h => dhA_i e q d3 w ed3 HL.out.2.1 HL.out.2.2.2.1 h)
  have D4 := Lib.hid (fun w h => dhA_i e s d4 w ed4 HL.out.2.1 HL.out.2.2.2.2 h)
  generalize shA i e p q s a = V at *
  have CO := Lib.hid (fun (w : World) (ht : TabK w) (g : Nat) (hg : w.heap[g]? = some (.cells ([d1, d2, d3, d4].map Value.string).toArray 9 (0, 0))) => (show Calls Tryd.prog 74 #[.slice (some ⟨g, 0, none⟩) 4 4] w fun e w' => e = .returned (.string V) ∧ Below w.heap.size w w' by rw [HV.out]; exact sharedOf_i g [d1, d2, d3, d4] w ht hg (by simp) HZ.out))
  clear h hn ed1 ed2 ed3 ed4 HV HZ
  go_enter Tryd.func22, Tryd.ntmps22
  go_wp2_with fail
  rw [ew0] at HK hb0 f0
  refine HK.out.mono ?_
  rintro r w' ⟨rfl, rfl⟩
  rw [HA.out]
  go_wp2_with fail
  refine (HN.out _).mono ?_
  rintro r w2 ⟨rfl, hb2⟩
  rw [HO.out]
  have hS := f0.below hb2
  have hB := hb0.trans (hb2.mono hb0.size)
  clear hb2 hb0 f0 ew0 HK
  have hTP := HTP.out.below hB HTP.out.1
  have c0 := hS.cell (j := 0) (v := .string p) rfl
  have c1 := hS.cell (j := 1) (v := .string q) rfl
  have c2 := hS.cell (j := 2) (v := .string s) rfl

  go_upto_region 3 with (fail)
  refine region_rest 16 (kdAt [.val (.string i), .val (.pointer (some ⟨w.heap.size, 1, none⟩)), .val (.string q), .val (.string d1), .val (.string e), .val (.pointer (some ⟨w.heap.size, 0, none⟩)), .val (.string p), .val (.string d2), .val (.string e), .val (.pointer (some ⟨w.heap.size, 1, none⟩)), .val (.string q), .val (.string d3), .val (.string e), .val (.pointer (some ⟨w.heap.size, 2, none⟩)), .val (.string s), .val (.string d4)]) [some 17, some 18, some 19, some 20, some 21, some 22, some 23, some 24, some 25, some 26, some 27, some 28, some 29, some 30, some 31, some 32] (by kernel_rfl) (by decide) (by kernel_rfl) (by kernel_rfl) (by kernel_rfl) (by kernel_rfl) (by kernel_rfl) _ (fun a w h => anyStep (n := 2) (i := 16) (by kernel_rfl) rfl (fun a w h => anyStep (n := 1) (i := 17) (by kernel_rfl) rfl (fun a w h => anyStep (n := 0) (i := 18) (by kernel_rfl) rfl (fun a w h => anyEnd (by kernel_rfl) h) h) h) h) ?_ ?_
  · repeat refine allS ?_ ?_
    · exact all0
    · exact stepMove rfl rfl rfl rfl (src_old (by kernel_rfl) rfl)
    · exact stepField (.pointer (some ⟨w.heap.size, 0, none⟩)) rfl rfl rfl rfl (src_old (by kernel_rfl) rfl) (fun w => flB1 _ w)
    · exact stepLoad (.pointer (some ⟨w.heap.size, 1, none⟩)) rfl rfl rfl rfl (src_new 1 (by decide) rfl rfl (by kernel_rfl)) (fun w hk => ldStr ((hS.below (hk.below (nh0 rfl))).cell rfl))
    · exact stepCall (ks := [17, 19]) [.string i, .string q] rfl rfl rfl rfl cfDhI rfl (src2 (src_new 0 (by decide) rfl rfl (by kernel_rfl)) (src_new 2 (by decide) rfl rfl (by kernel_rfl))) (fun w hk => D1.out w (hTP.below (hk.below (nh0 rfl)) hTP.1))
    · exact stepMove rfl rfl rfl rfl (src_old (by kernel_rfl) rfl)
    · exact stepField (.pointer (some ⟨w.heap.size, 0, none⟩)) rfl rfl rfl rfl (src_old (by kernel_rfl) rfl) (fun w => flB0 _ w)
    · exact stepLoad (.pointer (some ⟨w.heap.size, 0, none⟩)) rfl rfl rfl rfl (src_new 5 (by decide) rfl rfl (by kernel_rfl)) (fun w hk => ldStr ((hS.below (hk.below (nh0 rfl))).cell rfl))
    · exact stepCall (ks := [21, 23]) [.string e, .string p] rfl rfl rfl rfl cfDhI rfl (src2 (src_new 4 (by decide) rfl rfl (by kernel_rfl)) (src_new 6 (by decide) rfl rfl (by kernel_rfl))) (fun w hk => D2.out w (hTP.below (hk.below (nh0 rfl)) hTP.1))
    · exact stepMove rfl rfl rfl rfl (src_old (by kernel_rfl) rfl)
    · exact stepField (.pointer (some ⟨w.heap.size, 0, none⟩)) rfl rfl rfl rfl (src_old (by kernel_rfl) rfl) (fun w => flB1 _ w)
    · exact stepLoad (.pointer (some ⟨w.heap.size, 1, none⟩)) rfl rfl rfl rfl (src_new 9 (by decide) rfl rfl (by kernel_rfl)) (fun w hk => ldStr ((hS.below (hk.below (nh0 rfl))).cell rfl))
    · exact stepCall (ks := [25, 27]) [.string e, .string q] rfl rfl rfl rfl cfDhI rfl (src2 (src_new 8 (by decide) rfl rfl (by kernel_rfl)) (src_new 10 (by decide) rfl rfl (by kernel_rfl))) (fun w hk => D3.out w (hTP.below (hk.below (nh0 rfl)) hTP.1))
    · exact stepMove rfl rfl rfl rfl (src_old (by kernel_rfl) rfl)
    · exact stepField (.pointer (some ⟨w.heap.size, 0, none⟩)) rfl rfl rfl rfl (src_old (by kernel_rfl) rfl) (fun w => flB2 _ w)
    · exact stepLoad (.pointer (some ⟨w.heap.size, 2, none⟩)) rfl rfl rfl rfl (src_new 13 (by decide) rfl rfl (by kernel_rfl)) (fun w hk => ldStr ((hS.below (hk.below (nh0 rfl))).cell rfl))
    · exact stepCall (ks := [29, 31]) [.string e, .string s] rfl rfl rfl rfl cfDhI rfl (src2 (src_new 12 (by decide) rfl rfl (by kernel_rfl)) (src_new 14 (by decide) rfl rfl (by kernel_rfl))) (fun w hk => D4.out w (hTP.below (hk.below (nh0 rfl)) hTP.1))
  intro v x1 hok hk
  replace hk := hk.all
  have v0 := okVal hok (j := 0) rfl rfl
  have v1 := okVal hok (j := 1) rfl rfl
  have v2 := okVal hok (j := 2) rfl rfl
  have v3 := okVal hok (j := 3) rfl rfl
  have v4 := okVal hok (j := 4) rfl rfl
  have v5 := okVal hok (j := 5) rfl rfl
  have v6 := okVal hok (j := 6) rfl rfl
  have v7 := okVal hok (j := 7) rfl rfl
  have v8 := okVal hok (j := 8) rfl rfl
  have v9 := okVal hok (j := 9) rfl rfl
  have v10 := okVal hok (j := 10) rfl rfl
  have v11 := okVal hok (j := 11) rfl rfl
  have v12 := okVal hok (j := 12) rfl rfl
  have v13 := okVal hok (j := 13) rfl rfl
  have v14 := okVal hok (j := 14) rfl rfl
  have v15 := okVal hok (j := 15) rfl rfl
  clear hok
  simp only [putL, Nat.zero_add, Nat.reduceAdd, v0, v1, v2, v3, v4, v5, v6, v7, v8, v9, v10, v11, v12, v13, v14, v15, Act.put, List.setIfInBounds_toArray, List.set_cons_zero, List.set_cons_succ]
  clear v0 v1 v2 v3 v4 v5 v6 v7 v8 v9 v10 v11 v12 v13 v14 v15
  replace hS := hS.below (hk.below (nh0 rfl))
  replace hB := hB.trans ((hk.below (nh0 rfl)).mono hB.size)
  clear hk
  have hB5 : Below w.heap.size w (x1.alloc (.cells ([d1, d2, d3, d4].map Value.string).toArray 9)) := hB.alloc hB.size _
  go_wp2_with fail
  refine (CO.out _ (HTK.out.below hB5 HTK.out.1) x1.heap.size (heap_alloc_new x1 _)).mono ?_
  rintro r wz ⟨rfl, hbz⟩
  have hB9 := hB5.trans (hbz.mono hB5.size)
  clear hbz hB5
  go_wp2
  go_ret
  exact ⟨rfl, hB9⟩

set_option maxHeartbeats 4000000 in
theorem sharedA_s (i e p q s : ByteArray) (a : Int) (w : World) (hi : i.size ≤ 1048576) (he : e.size ≤ 1048576) (hp : p.size ≤ 1048576) (hq : q.size ≤ 1048576) (hs : s.size ≤ 1048576) :
    Calls Tryd.prog 20 #[.string i, .string e, .agg (bundleA p q s a)] w fun r w' => r = .returned (.string (shA i e p q s a)) ∧ Below w.heap.size w w' := by
  have hb0 : Below w.heap.size w (w.alloc (.cells (bundleA p q s a) 34)) := (Below.refl _ _).alloc (Nat.le_refl _) _
  have f0 : Blk w.heap.size (bundleA p q s a) 34 (w.alloc (.cells (bundleA p q s a) 34)) := heap_alloc_new w _
  have HN := Lib.hid (fun w => bundleOk_s p q s a w)
  have HL := Lib.hid (And.intro hi (And.intro he (And.intro hp (And.intro hq hs))))
  clear hi he hp hq hs
  by_cases h1 : i.size = 32
  case neg =>
    have H1 : Hid (((i.size : Int) == 32) = false) := by show _ = _; simp; omega
    have HV : Hid (shA i e p q s a = ByteArray.mk #[]) := if_neg (fun c => h1 c.1)
    generalize shA i e p q s a = V at *
    clear h1
    go_enter Tryd.func20, Tryd.ntmps20
    go_wp2_with fail
    refine (l1Key_bool i _ false H1.out).mono ?_
    rintro r w' ⟨rfl, rfl⟩
    go_wp2
    go_ret
    exact ⟨by rw [HV.out]; rfl, hb0⟩
  have H1 : Hid (((i.size : Int) == 32) = true) := by show _ = _; simp; omega
  by_cases h2 : e.size = 32
  case neg =>
    have H2 : Hid (((e.size : Int) == 32) = false) := by show _ = _; simp; omega
    have HV : Hid (shA i e p q s a = ByteArray.mk #[]) := if_neg (fun c => h2 c.2.1)
    generalize shA i e p q s a = V at *
    clear h1 h2
    go_enter Tryd.func20, Tryd.ntmps20
    go_wp2_with fail
    refine (l1Key_bool i _ true H1.out).mono ?_
    rintro r w' ⟨rfl, rfl⟩
    go_wp2_with fail
    refine (l1Key_bool e _ false H2.out).mono ?_
    rintro r w' ⟨rfl, rfl⟩
    go_wp2
    go_ret
    exact ⟨by rw [HV.out]; rfl, hb0⟩
  have H2 : Hid (((e.size : Int) == 32) = true) := by show _ = _; simp; omega
  by_cases h3 : bndB p q s a = true
  case neg =>
    have HO : Hid (bndB p q s a = false) := by show _ = _; simpa using h3
    have HV : Hid (shA i e p q s a = ByteArray.mk #[]) := if_neg (fun c => h3 c.2.2)
    generalize shA i e p q s a = V at *
    clear h1 h2 h3
    go_enter Tryd.func20, Tryd.ntmps20
    go_wp2_with fail
    refine (l1Key_bool i _ true H1.out).mono ?_
    rintro r w' ⟨rfl, rfl⟩
    go_wp2_with fail
    refine (l1Key_bool e _ true H2.out).mono ?_
    rintro r w' ⟨rfl, rfl⟩
    go_wp2_with fail
    refine (HN.out _).mono ?_
    rintro r w2 ⟨rfl, hb2⟩
    rw [HO.out]
    go_wp2
    go_ret
    exact ⟨by rw [HV.out]; rfl, hb0.trans (hb2.mono hb0.size)⟩
  have HO : Hid (bndB p q s a = true) := h3
  obtain ⟨hp, hq, hs⟩ := bnd_parts h3
  obtain ⟨d1, ed1⟩ : ∃ d, d = dhV i q := ⟨_, rfl⟩
  obtain ⟨d2, ed2⟩ : ∃ d, d = dhV e p := ⟨_, rfl⟩
  obtain ⟨d3, ed3⟩ : ∃ d, d = dhV e q := ⟨_, rfl⟩
  obtain ⟨d4, ed4⟩ : ∃ d, d = dhV e s := ⟨_, rfl⟩
  have HV : Hid (shA i e p q s a = shrV (cat4 d1 d2 d3 d4)) := by show _ = _; rw [ed1, ed2, ed3, ed4]; exact if_pos ⟨h1, h2, h3⟩
  have z1 : d1.size = 32 := by rw [ed1]; exact dhV_sz i q ⟨by assumption, by assumption⟩
  have z2 : d2.size = 32 := by rw [ed2]; exact dhV_sz e p ⟨by assumption, by assumption⟩
  have z3 : d3.size = 32 := by rw [ed3]; exact dhV_sz e q ⟨by assumption, by assumption⟩
  have D1 := Lib.hid (fun w => dhA_s i q d1 w ed1 HL.out.1 HL.out.2.2.2.1)
  have D2 := Lib.hid (fun w => dhA_s e p d2 w ed2 HL.out.2.1 HL.out.2.2.1)
  have D3 := Lib.hid (fun w => dhA_s e q d3 w ed3 HL.out.2.1 HL.out.2.2.2.1)
  have D4 := Lib.hid (fun w => dhA_s e s d4 w ed4 HL.out.2.1 HL.out.2.2.2.2)
  have hc1 : ¬ 9223372036854775807 < d1.size + d2.size := by omega
  have hc2 : ¬ 9223372036854775807 < (d1 ++ d2).size + d3.size := by rw [ByteArray.size_append]; omega
  have hc3 : ¬ 9223372036854775807 < d1.size + d2.size + d3.size := by omega
  generalize shA i e p q s a = V at *
  by_cases hz : s.size = 0
  · have z4 : d4.size = 0 := by rw [ed4]; exact dhV_none e s (by omega)
    have HR := Lib.hid (fun w => (show Calls Tryd.prog 73 #[.string (d1 ++ d2 ++ d3)] w fun e w' => e = .returned (.string V) ∧ Below w.heap.size w w' by rw [HV.out, ← cat4_none _ _ _ d4 z4]; exact l8Root_s _ w (by simp only [ByteArray.size_append]; omega)))
    obtain rfl := emptyS hz
    clear h1 h2 h3 hp hq hs ed1 ed2 ed3 ed4 z1 z2 z3 z4 hz
    go_enter Tryd.func20, Tryd.ntmps20
    go_wp2_with fail
    refine (l1Key_bool i _ true H1.out).mono ?_
    rintro r w' ⟨rfl, rfl⟩
    go_wp2_with fail
    refine (l1Key_bool e _ true H2.out).mono ?_
    rintro r w' ⟨rfl, rfl⟩
    go_wp2_with fail
    refine (HN.out _).mono ?_
    rintro r w2 ⟨rfl, hb2⟩
    rw [HO.out]
    have hS := f0.below hb2
    have hB := hb0.trans (hb2.mono hb0.size)
    clear hb2 hb0 f0
    have c0 := hS.cell (j := 0) (v := .string p) rfl
    have c1 := hS.cell (j := 1) (v := .string q) rfl
    have c2 := hS.cell (j := 2) (v := .string (ByteArray.mk #[])) rfl
    clear c0 c1 c2
    go_upto_region 3 with (fail)
    refine region_all 15 (kdAt [.val (.string i), .val (.pointer (some ⟨w.heap.size, 1, none⟩)), .val (.string q), .val (.string d1), .val (.string e), .val (.pointer (some ⟨w.heap.size, 0, none⟩)), .val (.string p), .val (.string d2), .val (.string (d1 ++ d2)), .val (.string e), .val (.pointer (some ⟨w.heap.size, 1, none⟩)), .val (.string q), .val (.string d3), .val (.string ((d1 ++ d2) ++ d3)), .val (.string ((d1 ++ d2) ++ d3))]) [some 21, some 22, some 23, some 24, some 25, some 26, some 27, some 28, some 29, some 30, some 31, some 32, some 33, some 34, some 7] (by kernel_rfl) rfl (by kernel_rfl) (by kernel_rfl) (by kernel_rfl) (by kernel_rfl) ?_ ?_
    · repeat refine allS ?_ ?_
      · exact all0
      · exact stepMove rfl rfl rfl rfl (src_old (by kernel_rfl) rfl)
      · exact stepField (.pointer (some ⟨w.heap.size, 0, none⟩)) rfl rfl rfl rfl (src_old (by kernel_rfl) rfl) (fun w => flB1 _ w)
      · exact stepLoad (.pointer (some ⟨w.heap.size, 1, none⟩)) rfl rfl rfl rfl (src_new 1 (by decide) rfl rfl (by kernel_rfl)) (fun w hk => ldStr ((hS.below (hk.below (nh0 rfl))).cell rfl))
      · exact stepCall (ks := [21, 23]) [.string i, .string q] rfl rfl rfl rfl cfDhS rfl (src2 (src_new 0 (by decide) rfl rfl (by kernel_rfl)) (src_new 2 (by decide) rfl rfl (by kernel_rfl))) (fun w hk => D1.out w)
      · exact stepMove rfl rfl rfl rfl (src_old (by kernel_rfl) rfl)
      · exact stepField (.pointer (some ⟨w.heap.size, 0, none⟩)) rfl rfl rfl rfl (src_old (by kernel_rfl) rfl) (fun w => flB0 _ w)
      · exact stepLoad (.pointer (some ⟨w.heap.size, 0, none⟩)) rfl rfl rfl rfl (src_new 5 (by decide) rfl rfl (by kernel_rfl)) (fun w hk => ldStr ((hS.below (hk.below (nh0 rfl))).cell rfl))
      · exact stepCall (ks := [25, 27]) [.string e, .string p] rfl rfl rfl rfl cfDhS rfl (src2 (src_new 4 (by decide) rfl rfl (by kernel_rfl)) (src_new 6 (by decide) rfl rfl (by kernel_rfl))) (fun w hk => D2.out w)
      · exact stepBin rfl rfl rfl rfl (src_new 3 (by decide) rfl rfl (by kernel_rfl)) (src_new 7 (by decide) rfl rfl (by kernel_rfl)) (fun w => strAdd d1 d2 _ _ hc1 w)
      · exact stepMove rfl rfl rfl rfl (src_old (by kernel_rfl) rfl)
      · exact stepField (.pointer (some ⟨w.heap.size, 0, none⟩)) rfl rfl rfl rfl (src_old (by kernel_rfl) rfl) (fun w => flB1 _ w)
      · exact stepLoad (.pointer (some ⟨w.heap.size, 1, none⟩)) rfl rfl rfl rfl (src_new 10 (by decide) rfl rfl (by kernel_rfl)) (fun w hk => ldStr ((hS.below (hk.below (nh0 rfl))).cell rfl))
      · exact stepCall (ks := [30, 32]) [.string e, .string q] rfl rfl rfl rfl cfDhS rfl (src2 (src_new 9 (by decide) rfl rfl (by kernel_rfl)) (src_new 11 (by decide) rfl rfl (by kernel_rfl))) (fun w hk => D3.out w)
      · exact stepBin rfl rfl rfl rfl (src_new 8 (by decide) rfl rfl (by kernel_rfl)) (src_new 12 (by decide) rfl rfl (by kernel_rfl)) (fun w => strAdd (d1 ++ d2) d3 _ _ hc2 w)
      · exact stepAssign rfl rfl rfl rfl (src_new 13 (by decide) rfl rfl (by kernel_rfl))
    intro v x1 hok hk
    replace hk := hk.all
    have v0 := okVal hok (j := 0) rfl rfl
    have v1 := okVal hok (j := 1) rfl rfl
    have v2 := okVal hok (j := 2) rfl rfl
    have v3 := okVal hok (j := 3) rfl rfl
    have v4 := okVal hok (j := 4) rfl rfl
    have v5 := okVal hok (j := 5) rfl rfl
    have v6 := okVal hok (j := 6) rfl rfl
    have v7 := okVal hok (j := 7) rfl rfl
    have v8 := okVal hok (j := 8) rfl rfl
    have v9 := okVal hok (j := 9) rfl rfl
    have v10 := okVal hok (j := 10) rfl rfl
    have v11 := okVal hok (j := 11) rfl rfl
    have v12 := okVal hok (j := 12) rfl rfl
    have v13 := okVal hok (j := 13) rfl rfl
    have v14 := okVal hok (j := 14) rfl rfl
    clear hok
    simp only [putL, Nat.zero_add, Nat.reduceAdd, v0, v1, v2, v3, v4, v5, v6, v7, v8, v9, v10, v11, v12, v13, v14, Act.put, List.setIfInBounds_toArray, List.set_cons_zero, List.set_cons_succ]
    clear v0 v1 v2 v3 v4 v5 v6 v7 v8 v9 v10 v11 v12 v13 v14
    replace hS := hS.below (hk.below (nh0 rfl))
    replace hB := hB.trans ((hk.below (nh0 rfl)).mono hB.size)
    clear hk
    have c0 := hS.cell (j := 0) (v := .string p) rfl
    have c1 := hS.cell (j := 1) (v := .string q) rfl
    have c2 := hS.cell (j := 2) (v := .string (ByteArray.mk #[])) rfl
    go_wp2_with fail
    refine (HR.out _).mono ?_
    rintro r w9 ⟨rfl, hb9⟩
    have hB9 := below_nextA hb9 (by first | exact hB | exact hB.drew) hB.size
    clear hb9
    go_wp2
    go_ret
    exact ⟨rfl, hB9⟩
  · have z4 : d4.size = 32 := by rw [ed4]; exact dhV_sz e s ⟨h2, by omega⟩
    have hne := fullS hz
    have hc4 : ¬ 9223372036854775807 < (d1 ++ d2 ++ d3).size + d4.size := by rw [ByteArray.size_append, ByteArray.size_append]; omega
    have hc5 : ¬ 9223372036854775807 < d1.size + d2.size + d3.size + d4.size := by omega
    have HR := Lib.hid (fun w => (show Calls Tryd.prog 73 #[.string (d1 ++ d2 ++ d3 ++ d4)] w fun e w' => e = .returned (.string V) ∧ Below w.heap.size w w' by rw [HV.out, ← cat4_is]; exact l8Root_s _ w (by simp only [ByteArray.size_append]; omega)))
    clear h1 h2 h3 hp hq hs ed1 ed2 ed3 ed4 z1 z2 z3 z4 hz
    go_enter Tryd.func20, Tryd.ntmps20
    go_wp2_with fail
    refine (l1Key_bool i _ true H1.out).mono ?_
    rintro r w' ⟨rfl, rfl⟩
    go_wp2_with fail
    refine (l1Key_bool e _ true H2.out).mono ?_
    rintro r w' ⟨rfl, rfl⟩
    go_wp2_with fail
    refine (HN.out _).mono ?_
    rintro r w2 ⟨rfl, hb2⟩
    rw [HO.out]
    have hS := f0.below hb2
    have hB := hb0.trans (hb2.mono hb0.size)
    clear hb2 hb0 f0
    have c0 := hS.cell (j := 0) (v := .string p) rfl
    have c1 := hS.cell (j := 1) (v := .string q) rfl
    have c2 := hS.cell (j := 2) (v := .string s) rfl
    clear c0 c1 c2
    go_upto_region 3 with (fail)
    refine region_all 15 (kdAt [.val (.string i), .val (.pointer (some ⟨w.heap.size, 1, none⟩)), .val (.string q), .val (.string d1), .val (.string e), .val (.pointer (some ⟨w.heap.size, 0, none⟩)), .val (.string p), .val (.string d2), .val (.string (d1 ++ d2)), .val (.string e), .val (.pointer (some ⟨w.heap.size, 1, none⟩)), .val (.string q), .val (.string d3), .val (.string ((d1 ++ d2) ++ d3)), .val (.string ((d1 ++ d2) ++ d3))]) [some 21, some 22, some 23, some 24, some 25, some 26, some 27, some 28, some 29, some 30, some 31, some 32, some 33, some 34, some 7] (by kernel_rfl) rfl (by kernel_rfl) (by kernel_rfl) (by kernel_rfl) (by kernel_rfl) ?_ ?_
    · repeat refine allS ?_ ?_
      · exact all0
      · exact stepMove rfl rfl rfl rfl (src_old (by kernel_rfl) rfl)
      · exact stepField (.pointer (some ⟨w.heap.size, 0, none⟩)) rfl rfl rfl rfl (src_old (by kernel_rfl) rfl) (fun w => flB1 _ w)
      · exact stepLoad (.pointer (some ⟨w.heap.size, 1, none⟩)) rfl rfl rfl rfl (src_new 1 (by decide) rfl rfl (by kernel_rfl)) (fun w hk => ldStr ((hS.below (hk.below (nh0 rfl))).cell rfl))
      · exact stepCall (ks := [21, 23]) [.string i, .string q] rfl rfl rfl rfl cfDhS rfl (src2 (src_new 0 (by decide) rfl rfl (by kernel_rfl)) (src_new 2 (by decide) rfl rfl (by kernel_rfl))) (fun w hk => D1.out w)
      · exact stepMove rfl rfl rfl rfl (src_old (by kernel_rfl) rfl)
      · exact stepField (.pointer (some ⟨w.heap.size, 0, none⟩)) rfl rfl rfl rfl (src_old (by kernel_rfl) rfl) (fun w => flB0 _ w)
      · exact stepLoad (.pointer (some ⟨w.heap.size, 0, none⟩)) rfl rfl rfl rfl (src_new 5 (by decide) rfl rfl (by kernel_rfl)) (fun w hk => ldStr ((hS.below (hk.below (nh0 rfl))).cell rfl))
      · exact stepCall (ks := [25, 27]) [.string e, .string p] rfl rfl rfl rfl cfDhS rfl (src2 (src_new 4 (by decide) rfl rfl (by kernel_rfl)) (src_new 6 (by decide) rfl rfl (by kernel_rfl))) (fun w hk => D2.out w)
      · exact stepBin rfl rfl rfl rfl (src_new 3 (by decide) rfl rfl (by kernel_rfl)) (src_new 7 (by decide) rfl rfl (by kernel_rfl)) (fun w => strAdd d1 d2 _ _ hc1 w)
      · exact stepMove rfl rfl rfl rfl (src_old (by kernel_rfl) rfl)
      · exact stepField (.pointer (some ⟨w.heap.size, 0, none⟩)) rfl rfl rfl rfl (src_old (by kernel_rfl) rfl) (fun w => flB1 _ w)
      · exact stepLoad (.pointer (some ⟨w.heap.size, 1, none⟩)) rfl rfl rfl rfl (src_new 10 (by decide) rfl rfl (by kernel_rfl)) (fun w hk => ldStr ((hS.below (hk.below (nh0 rfl))).cell rfl))
      · exact stepCall (ks := [30, 32]) [.string e, .string q] rfl rfl rfl rfl cfDhS rfl (src2 (src_new 9 (by decide) rfl rfl (by kernel_rfl)) (src_new 11 (by decide) rfl rfl (by kernel_rfl))) (fun w hk => D3.out w)
      · exact stepBin rfl rfl rfl rfl (src_new 8 (by decide) rfl rfl (by kernel_rfl)) (src_new 12 (by decide) rfl rfl (by kernel_rfl)) (fun w => strAdd (d1 ++ d2) d3 _ _ hc2 w)
      · exact stepAssign rfl rfl rfl rfl (src_new 13 (by decide) rfl rfl (by kernel_rfl))
    intro v x1 hok hk
    replace hk := hk.all
    have v0 := okVal hok (j := 0) rfl rfl
    have v1 := okVal hok (j := 1) rfl rfl
    have v2 := okVal hok (j := 2) rfl rfl
    have v3 := okVal hok (j := 3) rfl rfl
    have v4 := okVal hok (j := 4) rfl rfl
    have v5 := okVal hok (j := 5) rfl rfl
    have v6 := okVal hok (j := 6) rfl rfl
    have v7 := okVal hok (j := 7) rfl rfl
    have v8 := okVal hok (j := 8) rfl rfl
    have v9 := okVal hok (j := 9) rfl rfl
    have v10 := okVal hok (j := 10) rfl rfl
    have v11 := okVal hok (j := 11) rfl rfl
    have v12 := okVal hok (j := 12) rfl rfl
    have v13 := okVal hok (j := 13) rfl rfl
    have v14 := okVal hok (j := 14) rfl rfl
    clear hok
    simp only [putL, Nat.zero_add, Nat.reduceAdd, v0, v1, v2, v3, v4, v5, v6, v7, v8, v9, v10, v11, v12, v13, v14, Act.put, List.setIfInBounds_toArray, List.set_cons_zero, List.set_cons_succ]
    clear v0 v1 v2 v3 v4 v5 v6 v7 v8 v9 v10 v11 v12 v13 v14
    replace hS := hS.below (hk.below (nh0 rfl))
    replace hB := hB.trans ((hk.below (nh0 rfl)).mono hB.size)
    clear hk
    have c0 := hS.cell (j := 0) (v := .string p) rfl
    have c1 := hS.cell (j := 1) (v := .string q) rfl
    have c2 := hS.cell (j := 2) (v := .string s) rfl
    go_wp2_with fail
    refine (D4.out _).mono ?_
    rintro r wq ⟨rfl, hbq⟩
    replace hB := below_nextA hbq (by first | exact hB | exact hB.drew) hB.size
    clear hbq
    go_wp2_with fail
    refine (HR.out _).mono ?_
    rintro r w9 ⟨rfl, hb9⟩
    have hB9 := below_nextA hb9 (by first | exact hB | exact hB.drew) hB.size
    clear hb9
    go_wp2
    go_ret
    exact ⟨rfl, hB9⟩

end Go.Proofs.YtfbcmckepdjdkaaDoor

/- SharedB of both sides. -/
import Derived.Test.YtfbcmckepdjdkaaDoorGShr1
namespace Go.Proofs.YtfbcmckepdjdkaaDoor
open Go.RowKit Go.My Go.Lib
set_option linter.unusedVariables false
set_option maxRecDepth 100000

abbrev ShB (i s o x y : ByteArray) : Prop := i.size = 32 ∧ s.size = 32 ∧ x.size = 32 ∧ y.size = 32 ∧ (o.size = 0 ∨ o.size = 32)
def cat4 (a b c d : ByteArray) : List UInt8 := ([a, b, c, d].map (·.data.toList)).flatten
theorem cat4_len (a b c d : ByteArray) : (cat4 a b c d).length = a.size + b.size + c.size + d.size := by
  simp [cat4]
  omega
theorem cat4_is (a b c d : ByteArray) : (a ++ b ++ c ++ d).data.toList = cat4 a b c d := by simp [cat4, ByteArray.data_append]
theorem cat4_none (a b c d : ByteArray) (h : d.size = 0) : (a ++ b ++ c).data.toList = cat4 a b c d := by
  rw [emptyS h]
  simp [cat4, ByteArray.data_append]
def shB (i s o x y : ByteArray) : ByteArray := if ShB i s o x y then shrV (cat4 (dhV s x) (dhV i y) (dhV s y) (dhV o y)) else ByteArray.mk #[]
theorem dhV_none (k p : ByteArray) (h : ¬ (k.size = 32 ∧ p.size = 32)) : (dhV k p).size = 0 := by
  rw [dhV, if_neg h, str_size]
  rfl

set_option maxHeartbeats 4000000 in
theorem sharedB_i (i s o x y : ByteArray) (w : World) (hT : TabP w ∧ TabK w) (hi : i.size ≤ 1048576) (hs : s.size ≤ 1048576) (ho : o.size ≤ 1048576) (hx : x.size ≤ 1048576) (hy : y.size ≤ 1048576) :
    Calls Tryd.prog 24 #[.string i, .string s, .string o, .string x, .string y] w fun e w' => e = .returned (.string (shB i s o x y)) ∧ Below w.heap.size w w' := by
  have hb0 : Below w.heap.size w (w.alloc (.cells (strsA [i, s, x, y]) 9)) := (Below.refl _ _).alloc (Nat.le_refl _) _
  have HTP := Lib.hid hT.1
  have HTK := Lib.hid hT.2
  have HK := Lib.hid (allKeys_any w.heap.size [i, s, x, y] (w.alloc (.cells (strsA [i, s, x, y]) 9)) (heap_alloc_new w _) (by simp) (fun j hj => by
    have : j = 0 ∨ j = 1 ∨ j = 2 ∨ j = 3 := by simp at hj; omega
    rcases this with rfl | rfl | rfl | rfl
    · show i.size ≤ _; omega
    · show s.size ≤ _; omega
    · show x.size ≤ _; omega
    · show y.size ≤ _; omega))
  have HA : Hid (allK [i, s, x, y] = decide (i.size = 32 ∧ s.size = 32 ∧ x.size = 32 ∧ y.size = 32)) := by show _ = _; simp [allK]
  have HN := Lib.hid (fun w => keyOrNone_i o w ho)
  have HL := Lib.hid (And.intro hi (And.intro hs (And.intro ho (And.intro hx hy))))
  clear hi hs ho hx hy hT
  by_cases h : i.size = 32 ∧ s.size = 32 ∧ x.size = 32 ∧ y.size = 32
  case neg =>
    have HV : Hid (shB i s o x y = ByteArray.mk #[]) := if_neg (fun c => h ⟨c.1, c.2.1, c.2.2.1, c.2.2.2.1⟩)
    rw [decide_eq_false h] at HA
    generalize shB i s o x y = V at *
    clear h
    go_enter Tryd.func24, Tryd.ntmps24
    go_wp2_with fail
    refine HK.out.mono ?_
    rintro e w' ⟨rfl, rfl⟩
    rw [HA.out]
    go_wp2
    go_ret
    exact ⟨by rw [HV.out]; rfl, hb0⟩
  rw [decide_eq_true h] at HA
  by_cases hn : o.size = 0 ∨ o.size = 32
  case neg =>
    have HV : Hid (shB i s o x y = ByteArray.mk #[]) := if_neg (fun c => hn c.2.2.2.2)
    have HO : Hid (noneOr o = false) := decide_eq_false hn
    generalize shB i s o x y = V at *
    clear h hn
    go_enter Tryd.func24, Tryd.ntmps24
    go_wp2_with fail
    refine HK.out.mono ?_
    rintro e w' ⟨rfl, rfl⟩
    rw [HA.out]
    go_wp2_with fail
    refine (HN.out _).mono ?_
    rintro e w' ⟨rfl, rfl⟩
    rw [HO.out]
    go_wp2
    go_ret
    exact ⟨by rw [HV.out]; rfl, hb0⟩
  have HO : Hid (noneOr o = true) := decide_eq_true hn

  obtain ⟨d1, ed1⟩ : ∃ d, d = dhV s x := ⟨_, rfl⟩
  obtain ⟨d2, ed2⟩ : ∃ d, d = dhV i y := ⟨_, rfl⟩
  obtain ⟨d3, ed3⟩ : ∃ d, d = dhV s y := ⟨_, rfl⟩
  obtain ⟨d4, ed4⟩ : ∃ d, d = dhV o y := ⟨_, rfl⟩
  have HV : Hid (shB i s o x y = shrV (cat4 d1 d2 d3 d4)) := by show _ = _; rw [ed1, ed2, ed3, ed4]; exact if_pos ⟨h.1, h.2.1, h.2.2.1, h.2.2.2, hn⟩
  have HZ : Hid ((cat4 d1 d2 d3 d4).length ≤ 300) := by show _ ≤ _; rw [cat4_len, ed1, ed2, ed3, ed4]; have := dhV_le s x; have := dhV_le i y; have := dhV_le s y; have := dhV_le o y; omega
  have D1 := Lib.hid (fun w h => dhA_i s x d1 w ed1 HL.out.2.1 HL.out.2.2.2.1 h)
  have D2 := Lib.hid (fun w h => dhA_i i y d2 w ed2 HL.out.1 HL.out.2.2.2.2 h)
  have D3 := Lib.hid (fun w h => dhA_i s y d3 w ed3 HL.out.2.1 HL.out.2.2.2.2 h)
  have D4 := Lib.hid (fun w h => dhA_i o y d4 w ed4 HL.out.2.2.1 HL.out.2.2.2.2 h)
  generalize shB i s o x y = V at *
  have CO := Lib.hid (fun (w : World) (ht : TabK w) (g : Nat) (hg : w.heap[g]? = some (.cells ([d1, d2, d3, d4].map Value.string).toArray 9 (0, 0))) => (show Calls Tryd.prog 74 #[.slice (some ⟨g, 0, none⟩) 4 4] w fun e w' => e = .returned (.string V) ∧ Below w.heap.size w w' by rw [HV.out]; exact sharedOf_i g [d1, d2, d3, d4] w ht hg (by simp) HZ.out))
  clear h hn ed1 ed2 ed3 ed4 HV HZ
  go_enter Tryd.func24, Tryd.ntmps24
  go_wp2_with fail
  refine HK.out.mono ?_
  rintro e w' ⟨rfl, rfl⟩
  rw [HA.out]
  go_wp2_with fail
  refine (HN.out _).mono ?_
  rintro e w' ⟨rfl, rfl⟩
  rw [HO.out]
  go_wp2_with fail
  refine (D1.out _ (HTP.out.below hb0 HTP.out.1)).mono ?_
  rintro e w1 ⟨rfl, hb1⟩
  have hB1 := hb0.trans (hb1.mono hb0.size)
  clear hb1 hb0
  go_wp2_with fail
  refine (D2.out _ (HTP.out.below hB1 HTP.out.1)).mono ?_
  rintro e w2 ⟨rfl, hb2⟩
  have hB2 := hB1.trans (hb2.mono hB1.size)
  clear hb2 hB1
  go_wp2_with fail
  refine (D3.out _ (HTP.out.below hB2 HTP.out.1)).mono ?_
  rintro e w3 ⟨rfl, hb3⟩
  have hB3 := hB2.trans (hb3.mono hB2.size)
  clear hb3 hB2
  go_wp2_with fail
  refine (D4.out _ (HTP.out.below hB3 HTP.out.1)).mono ?_
  rintro e w4 ⟨rfl, hb4⟩
  have hB4 := hB3.trans (hb4.mono hB3.size)
  clear hb4 hB3
  have hB5 : Below w.heap.size w (w4.alloc (.cells ([d1, d2, d3, d4].map Value.string).toArray 9)) := hB4.alloc hB4.size _
  clear hB4
  go_wp2_with fail
  refine (CO.out _ (HTK.out.below hB5 HTK.out.1) w4.heap.size (heap_alloc_new w4 _)).mono ?_
  rintro e w6 ⟨rfl, hb6⟩
  have hB6 := hB5.trans (hb6.mono hB5.size)
  clear hb6 hB5
  go_wp2
  go_ret
  exact ⟨rfl, hB6⟩

set_option maxHeartbeats 4000000 in
theorem sharedB_s (i s o x y : ByteArray) (w : World) (hi : i.size ≤ 1048576) (hs : s.size ≤ 1048576) (ho : o.size ≤ 1048576) (hx : x.size ≤ 1048576) (hy : y.size ≤ 1048576) :
    Calls Tryd.prog 23 #[.string i, .string s, .string o, .string x, .string y] w fun e w' => e = .returned (.string (shB i s o x y)) ∧ Below w.heap.size w w' := by
  have HL := Lib.hid (And.intro hi (And.intro hs (And.intro ho (And.intro hx hy))))
  clear hi hs ho hx hy
  by_cases h1 : i.size = 32
  case neg =>
    have H1 : Hid (((i.size : Int) == 32) = false) := by show _ = _; simp; omega
    have HV : Hid (shB i s o x y = ByteArray.mk #[]) := if_neg (fun c => h1 c.1)
    generalize shB i s o x y = V at *
    clear h1
    go_enter Tryd.func23, Tryd.ntmps23
    go_wp2_with fail
    refine (l1Key_bool i _ false H1.out).mono ?_
    rintro e w' ⟨rfl, rfl⟩
    go_wp2
    go_ret
    exact ⟨by rw [HV.out]; rfl, Below.refl _ _⟩
  have H1 : Hid (((i.size : Int) == 32) = true) := by show _ = _; simp; omega
  by_cases h2 : s.size = 32
  case neg =>
    have H2 : Hid (((s.size : Int) == 32) = false) := by show _ = _; simp; omega
    have HV : Hid (shB i s o x y = ByteArray.mk #[]) := if_neg (fun c => h2 c.2.1)
    generalize shB i s o x y = V at *
    clear h1 h2
    go_enter Tryd.func23, Tryd.ntmps23
    go_wp2_with fail
    refine (l1Key_bool i _ true H1.out).mono ?_
    rintro e w' ⟨rfl, rfl⟩
    go_wp2_with fail
    refine (l1Key_bool s _ false H2.out).mono ?_
    rintro e w' ⟨rfl, rfl⟩
    go_wp2
    go_ret
    exact ⟨by rw [HV.out]; rfl, Below.refl _ _⟩
  have H2 : Hid (((s.size : Int) == 32) = true) := by show _ = _; simp; omega
  by_cases h3 : o.size = 0 ∨ o.size = 32
  case neg =>
    have H3 : Hid (noneOr o = false) := decide_eq_false h3
    have HV : Hid (shB i s o x y = ByteArray.mk #[]) := if_neg (fun c => h3 c.2.2.2.2)
    generalize shB i s o x y = V at *
    clear h1 h2 h3
    go_enter Tryd.func23, Tryd.ntmps23
    go_wp2_with fail
    refine (l1Key_bool i _ true H1.out).mono ?_
    rintro e w' ⟨rfl, rfl⟩
    go_wp2_with fail
    refine (l1Key_bool s _ true H2.out).mono ?_
    rintro e w' ⟨rfl, rfl⟩
    go_wp2_with fail
    refine (l7Key_s o _ false H3.out).mono ?_
    rintro e w' ⟨rfl, rfl⟩
    go_wp2
    go_ret
    exact ⟨by rw [HV.out]; rfl, Below.refl _ _⟩
  have H3 : Hid (noneOr o = true) := decide_eq_true h3
  by_cases h4 : x.size = 32
  case neg =>
    have H4 : Hid (((x.size : Int) == 32) = false) := by show _ = _; simp; omega
    have HV : Hid (shB i s o x y = ByteArray.mk #[]) := if_neg (fun c => h4 c.2.2.1)
    generalize shB i s o x y = V at *
    clear h1 h2 h3 h4
    go_enter Tryd.func23, Tryd.ntmps23
    go_wp2_with fail
    refine (l1Key_bool i _ true H1.out).mono ?_
    rintro e w' ⟨rfl, rfl⟩
    go_wp2_with fail
    refine (l1Key_bool s _ true H2.out).mono ?_
    rintro e w' ⟨rfl, rfl⟩
    go_wp2_with fail
    refine (l7Key_s o _ true H3.out).mono ?_
    rintro e w' ⟨rfl, rfl⟩
    go_wp2_with fail
    refine (l1Key_bool x _ false H4.out).mono ?_
    rintro e w' ⟨rfl, rfl⟩
    go_wp2
    go_ret
    exact ⟨by rw [HV.out]; rfl, Below.refl _ _⟩
  have H4 : Hid (((x.size : Int) == 32) = true) := by show _ = _; simp; omega
  by_cases h5 : y.size = 32
  case neg =>
    have H5 : Hid (((y.size : Int) == 32) = false) := by show _ = _; simp; omega
    have HV : Hid (shB i s o x y = ByteArray.mk #[]) := if_neg (fun c => h5 c.2.2.2.1)
    generalize shB i s o x y = V at *
    clear h1 h2 h3 h4 h5
    go_enter Tryd.func23, Tryd.ntmps23
    go_wp2_with fail
    refine (l1Key_bool i _ true H1.out).mono ?_
    rintro e w' ⟨rfl, rfl⟩
    go_wp2_with fail
    refine (l1Key_bool s _ true H2.out).mono ?_
    rintro e w' ⟨rfl, rfl⟩
    go_wp2_with fail
    refine (l7Key_s o _ true H3.out).mono ?_
    rintro e w' ⟨rfl, rfl⟩
    go_wp2_with fail
    refine (l1Key_bool x _ true H4.out).mono ?_
    rintro e w' ⟨rfl, rfl⟩
    go_wp2_with fail
    refine (l1Key_bool y _ false H5.out).mono ?_
    rintro e w' ⟨rfl, rfl⟩
    go_wp2
    go_ret
    exact ⟨by rw [HV.out]; rfl, Below.refl _ _⟩
  have H5 : Hid (((y.size : Int) == 32) = true) := by show _ = _; simp; omega
  obtain ⟨d1, ed1⟩ : ∃ d, d = dhV s x := ⟨_, rfl⟩
  obtain ⟨d2, ed2⟩ : ∃ d, d = dhV i y := ⟨_, rfl⟩
  obtain ⟨d3, ed3⟩ : ∃ d, d = dhV s y := ⟨_, rfl⟩
  obtain ⟨d4, ed4⟩ : ∃ d, d = dhV o y := ⟨_, rfl⟩
  have HV : Hid (shB i s o x y = shrV (cat4 d1 d2 d3 d4)) := by show _ = _; rw [ed1, ed2, ed3, ed4]; exact if_pos ⟨h1, h2, h4, h5, h3⟩
  have z1 : d1.size = 32 := by rw [ed1]; exact dhV_sz s x ⟨by assumption, by assumption⟩
  have z2 : d2.size = 32 := by rw [ed2]; exact dhV_sz i y ⟨by assumption, by assumption⟩
  have z3 : d3.size = 32 := by rw [ed3]; exact dhV_sz s y ⟨by assumption, by assumption⟩
  have D1 := Lib.hid (fun w => dhA_s s x d1 w ed1 HL.out.2.1 HL.out.2.2.2.1)
  have D2 := Lib.hid (fun w => dhA_s i y d2 w ed2 HL.out.1 HL.out.2.2.2.2)
  have D3 := Lib.hid (fun w => dhA_s s y d3 w ed3 HL.out.2.1 HL.out.2.2.2.2)
  have D4 := Lib.hid (fun w => dhA_s o y d4 w ed4 HL.out.2.2.1 HL.out.2.2.2.2)
  have hc1 : ¬ 9223372036854775807 < d1.size + d2.size := by omega
  have hc2 : ¬ 9223372036854775807 < (d1 ++ d2).size + d3.size := by rw [ByteArray.size_append]; omega
  have hc3 : ¬ 9223372036854775807 < d1.size + d2.size + d3.size := by omega
  generalize shB i s o x y = V at *
  by_cases hz : o.size = 0
  · have z4 : d4.size = 0 := by rw [ed4]; exact dhV_none o y (by omega)
    have HR := Lib.hid (fun w => (show Calls Tryd.prog 73 #[.string (d1 ++ d2 ++ d3)] w fun e w' => e = .returned (.string V) ∧ Below w.heap.size w w' by rw [HV.out, ← cat4_none _ _ _ d4 z4]; exact l8Root_s _ w (by simp only [ByteArray.size_append]; omega)))
    obtain rfl := emptyS hz
    clear h1 h2 h3 h4 h5 ed1 ed2 ed3 ed4 z1 z2 z3 z4 hz
    go_enter Tryd.func23, Tryd.ntmps23
    go_wp2_with fail
    refine (l1Key_bool i _ true H1.out).mono ?_
    rintro e w' ⟨rfl, rfl⟩
    go_wp2_with fail
    refine (l1Key_bool s _ true H2.out).mono ?_
    rintro e w' ⟨rfl, rfl⟩
    go_wp2_with fail
    refine (l7Key_s _ _ true H3.out).mono ?_
    rintro e w' ⟨rfl, rfl⟩
    go_wp2_with fail
    refine (l1Key_bool x _ true H4.out).mono ?_
    rintro e w' ⟨rfl, rfl⟩
    go_wp2_with fail
    refine (l1Key_bool y _ true H5.out).mono ?_
    rintro e w' ⟨rfl, rfl⟩
    go_wp2_with fail
    refine (D1.out _).mono ?_
    rintro e w1 ⟨rfl, hb1⟩
    have hB1 := hb1
    clear hb1
    go_wp2_with fail
    refine (D2.out _).mono ?_
    rintro e w2 ⟨rfl, hb2⟩
    have hB2 := hB1.trans (hb2.mono hB1.size)
    clear hb2 hB1
    go_wp2_with fail
    refine (D3.out _).mono ?_
    rintro e w3 ⟨rfl, hb3⟩
    have hB3 := hB2.trans (hb3.mono hB2.size)
    clear hb3 hB2
    go_wp2_with fail
    refine (HR.out _).mono ?_
    rintro e w9 ⟨rfl, hb9⟩
    have hB9 := hB3.trans (hb9.mono hB3.size)
    clear hb9 hB3
    go_wp2
    go_ret
    exact ⟨rfl, hB9⟩
  · have z4 : d4.size = 32 := by rw [ed4]; exact dhV_sz o y ⟨by omega, h5⟩
    have hne := fullS hz
    have hc4 : ¬ 9223372036854775807 < (d1 ++ d2 ++ d3).size + d4.size := by rw [ByteArray.size_append, ByteArray.size_append]; omega
    have hc5 : ¬ 9223372036854775807 < d1.size + d2.size + d3.size + d4.size := by omega
    have HR := Lib.hid (fun w => (show Calls Tryd.prog 73 #[.string (d1 ++ d2 ++ d3 ++ d4)] w fun e w' => e = .returned (.string V) ∧ Below w.heap.size w w' by rw [HV.out, ← cat4_is]; exact l8Root_s _ w (by simp only [ByteArray.size_append]; omega)))
    clear h1 h2 h3 h4 h5 ed1 ed2 ed3 ed4 z1 z2 z3 z4 hz
    go_enter Tryd.func23, Tryd.ntmps23
    go_wp2_with fail
    refine (l1Key_bool i _ true H1.out).mono ?_
    rintro e w' ⟨rfl, rfl⟩
    go_wp2_with fail
    refine (l1Key_bool s _ true H2.out).mono ?_
    rintro e w' ⟨rfl, rfl⟩
    go_wp2_with fail
    refine (l7Key_s o _ true H3.out).mono ?_
    rintro e w' ⟨rfl, rfl⟩
    go_wp2_with fail
    refine (l1Key_bool x _ true H4.out).mono ?_
    rintro e w' ⟨rfl, rfl⟩
    go_wp2_with fail
    refine (l1Key_bool y _ true H5.out).mono ?_
    rintro e w' ⟨rfl, rfl⟩
    go_wp2_with fail
    refine (D1.out _).mono ?_
    rintro e w1 ⟨rfl, hb1⟩
    have hB1 := hb1
    clear hb1
    go_wp2_with fail
    refine (D2.out _).mono ?_
    rintro e w2 ⟨rfl, hb2⟩
    have hB2 := hB1.trans (hb2.mono hB1.size)
    clear hb2 hB1
    go_wp2_with fail
    refine (D3.out _).mono ?_
    rintro e w3 ⟨rfl, hb3⟩
    have hB3 := hB2.trans (hb3.mono hB2.size)
    clear hb3 hB2
    go_wp2_with fail
    refine (D4.out _).mono ?_
    rintro e w4 ⟨rfl, hb4⟩
    have hB4 := hB3.trans (hb4.mono hB3.size)
    clear hb4 hB3
    go_wp2_with fail
    refine (HR.out _).mono ?_
    rintro e w9 ⟨rfl, hb9⟩
    have hB9 := hB4.trans (hb9.mono hB4.size)
    clear hb9 hB4
    go_wp2
    go_ret
    exact ⟨rfl, hB9⟩

end Go.Proofs.YtfbcmckepdjdkaaDoor

/- The exact laws' helpers for lists of 'One'. Written by py/rown.py. -/
import Derived.Test.YtkglgficmealnaaDvA
import Derived.Test.YtkglgficmealnaaRowN
import Derived.Test.YtkglgficmealnaaRegJ
namespace Go.Proofs.Ytkglgficmealnaa
open Go.RowKit Go.My Go.Lib
set_option linter.unusedVariables false
set_option maxRecDepth 100000

set_option maxHeartbeats 2000000 in
theorem toOneS_c (v : Value) (l : List OneT) (w : World) (h : ArgL 3 oneC v l w) (hq : ∀ a ∈ l, oneA a w) (hm : ∀ a ∈ l, oneM (oneG a)) (hl : l.length ≤ 1048576) :
    Calls Try.prog 47 #[v] w fun e w' => ∃ v' l', e = .returned v' ∧ RowL w.heap.size 74 3 oneC v' l' w' ∧ (∀ a ∈ l', oneQ w.heap.size a w') ∧ l'.map oneG = l.map oneG ∧ Below w.heap.size w w' := by
  obtain ⟨i0, hi, hz0, hz1, hz2⟩ := info_parts info_One
  have H := Lib.hid h
  have HQ := Lib.hid hq
  have HMM := Lib.hid hm
  obtain ⟨p, cap, rfl, hlc, hcm, hp⟩ := h
  have hlI : (l.length : Int) ≤ 1048576 := by omega
  have hl0 : (0 : Int) ≤ (l.length : Int) := by omega
  clear hcm hlc hq hm
  go_enter Try.func47, Try.ntmps47
  go_wp2_with (at_make; refine wpList_make_full _ rfl _ _ 44 rfl w.heap.size 74 i0 (.agg #[.int .i64 0, .string ByteArray.empty, .string ByteArray.empty]) 3 Try.underlying44 hi hz0 hz1 .i64 .i64 _ _ l.length rfl rfl rfl rfl ?c2 ?c3 ?c4 ?_)
  case c2 => rw [hz2]; omega
  case c3 => unfold maxLen; omega
  case c4 => exact Nat.le_refl _
  intro w1 hown hgrow
  have hb1 : Below w.heap.size w w1 := (Below.refl _ _).grown hgrow (Nat.le_refl _) (by simp)
  clear hgrow
  obtain ⟨Z, hZ⟩ : ∃ Z, Z = List.replicate l.length oneZ := ⟨_, rfl⟩
  have hZl : Z.length = l.length := by rw [hZ, List.length_replicate]
  have hR0 : RowL w.heap.size 74 3 oneC (.slice (some ⟨w.heap.size, 0, none⟩) l.length l.length) ([] ++ Z.drop 0) w1 := by
    have e := made_flat (Value.cells (.agg #[.int .i64 0, .string ByteArray.empty, .string ByteArray.empty])) oneC oneZ l.length rfl
    unfold RowL
    rw [List.nil_append, List.drop_zero, hZl, hZ, ← e]
    exact hown
  have hs1 : w.heap.size + 1 ≤ w1.heap.size := (World.ownsRow.lt hown _ rfl).2
  have HZ := Lib.hid hZl
  have HR0 := Lib.hid (And.intro hR0 hb1)
  clear hown hZ hZl hR0 hb1
  go_wp2
  go_loopw [4] (fun i wr => ∃ (j : Nat) (L : List OneT), j ≤ l.length ∧ i = .int .i64 j ∧ L.length = j ∧ L.map oneG = (l.take j).map oneG ∧ RowL w.heap.size 74 3 oneC (.slice (some ⟨w.heap.size, 0, none⟩) l.length l.length) (L ++ Z.drop j) wr ∧ (∀ a ∈ L, oneQ (w.heap.size + 1) a wr) ∧ Below w.heap.size w wr ∧ w.heap.size + 1 ≤ wr.heap.size) (fun i _ => l.length - (intOf i).toNat)
  case atStart => exact ⟨0, [], Nat.zero_le _, rfl, rfl, rfl, HR0.out.1, (fun a ha => by cases ha), HR0.out.2, hs1⟩
  case round =>
    clear HR0 hs1
    obtain ⟨j, L, hj, rfl, hLl, hLm, hR, hLq, hB, hsz⟩ := hrel
    by_cases hlt : j < l.length
    · have hne : l ≠ [] := by intro c; rw [c] at hlt; simp at hlt
      obtain ⟨b, o, rfl, hbl, _⟩ := hp.resolve_left hne
      have j0 : (0 : Int) ≤ (j : Int) := by omega
      have j1 : (j : Int) < (l.length : Int) := by omega
      obtain ⟨x, hx⟩ : ∃ x, l[j] = x := ⟨_, rfl⟩
      have hxm : x ∈ l := by rw [← hx]; exact List.getElem_mem hlt
      have RNG := Lib.hid (show wr.rangeAt b (o + j * 3) (oneC x) from by have := range_below (arg_range H.out hlt) hB hbl; rw [hx] at this; exact this)
      have C := Lib.hid (toOne_c x wr ((HQ.out x hxm).below hB) (HMM.out x hxm))
      have HLM : Hid ((l.take (j + 1)).map oneG = (l.take j).map oneG ++ [oneG x]) := by show _ = _; rw [List.take_succ_eq_append_getElem hlt, List.map_append, hx]; rfl
      have HJ := Lib.hid (And.intro hLl (And.intro hLm (And.intro hR (And.intro hLq (And.intro hB hsz)))))
      have HZl : j < Z.length := by rw [HZ.out]; exact hlt
      clear hx hxm hne hp hbl hLl hLm hR hLq hB hsz
      go_wp2_with (first | (with_reducible refine wpList_load_mid (op := ⟨some 19, _, _, _, _, _⟩) rfl 110 _ rfl b (o + j * 3) rfl (oneC x) _ RNG.out Try.underlying110 rfl (szOneL x) ?_) | fail)
      refine C.out.mono ?_
      rintro e w2 ⟨x', rfl, hg, hqx, hb⟩
      have hR2 := HJ.out.2.2.1.below hb
      have hjl : j < (L ++ Z.drop j).length := by rw [List.length_append, List.length_drop, HJ.out.1]; omega
      have THR := Lib.hid (show w2.there w.heap.size (j * 3) (oneC x').toArray.size from row_there hR2 oneC_len hjl)
      have hst := RowL.setAll hR2 oneC_len (by decide) hjl x'
      rw [fill_next HJ.out.1 HZl x'] at hst
      have hgr := setCells_grown w.heap.size (oneC x') (j * 3) w2
      have HN := Lib.hid (show (L ++ [x']).length = j + 1 ∧ (L ++ [x']).map oneG = (l.take (j + 1)).map oneG ∧ RowL w.heap.size 74 3 oneC (.slice (some ⟨w.heap.size, 0, none⟩) l.length l.length) ((L ++ [x']) ++ Z.drop (j + 1)) (w2.setCells w.heap.size (j * 3) (oneC x')) ∧ (∀ a ∈ L ++ [x'], oneQ (w.heap.size + 1) a (w2.setCells w.heap.size (j * 3) (oneC x'))) ∧ Below w.heap.size w (w2.setCells w.heap.size (j * 3) (oneC x')) ∧ w.heap.size + 1 ≤ (w2.setCells w.heap.size (j * 3) (oneC x')).heap.size from by
        refine ⟨by rw [List.length_append, HJ.out.1]; rfl, by rw [List.map_append, HJ.out.2.1, HLM.out, ← hg]; rfl, hst, fun a ha => ?_, (HJ.out.2.2.2.2.1.trans (hb.mono HJ.out.2.2.2.2.1.size)).grown hgr (Nat.le_trans (Nat.le_succ _) (Nat.le_trans HJ.out.2.2.2.2.2 hb.size)) (fun k hk => by have := Option.some.inj hk; omega), Nat.le_trans HJ.out.2.2.2.2.2 (Nat.le_trans hb.size hgr.size)⟩
        rcases List.mem_append.1 ha with ha | ha
        · exact ((HJ.out.2.2.2.1 a ha).below hb).kept hgr (Nat.lt_succ_self _)
        · rw [List.mem_singleton.1 ha]
          exact (hqx.mono HJ.out.2.2.2.2.2).kept hgr (Nat.lt_succ_self _))
      have HONE := Lib.hid (oneOneC hqx)
      clear hR2 hst hgr hqx hg hb hjl HLM HZl RNG C HJ
      go_wp2_with (first | (with_reducible refine wpList_store_mid (op := ⟨none, .store 74 _ _, _, _, _, _⟩) rfl 74 _ _ rfl w.heap.size (j * 3) (oneC x').toArray rfl rfl THR.out (szOneI x') HONE.out ?_) | fail)
      go_roundw
      case rel => exact ⟨j + 1, L ++ [x'], by omega, by go_num, HN.out.1, HN.out.2.1, HN.out.2.2.1, HN.out.2.2.2.1, HN.out.2.2.2.2.1, HN.out.2.2.2.2.2⟩
      case measure => simp [intOf]; omega
    · obtain rfl : j = l.length := by omega
      rw [List.drop_eq_nil_of_le (by rw [HZ.out]; exact Nat.le_refl _), List.append_nil] at hR
      rw [List.take_length] at hLm
      have HF := Lib.hid (And.intro hR (And.intro hLq (And.intro hLm hB)))
      clear hR hLq hLm hB
      go_wp2
      go_ret
      exact ⟨_, L, rfl, HF.out.1, fun a ha => (HF.out.2.1 a ha).mono (Nat.le_succ _), HF.out.2.2.1, HF.out.2.2.2⟩

set_option maxHeartbeats 2000000 in
theorem szOneS_c (v : Value) (l : List OneT) (left : Nat) (w : World) (h : ArgL 3 oneC v l w) (hq : ∀ a ∈ l, oneA a w) (hl : left ≤ 1048576) :
    Calls Try.prog 40 #[v, .int .i64 left] w fun e w' => ((∃ r : Nat, e = .returned (.int .i64 r) ∧ r ≤ left ∧ l.length ≤ left ∧ ∀ a ∈ l, oneM (oneG a)) ∨ e = .returned (.int .i64 (-1))) ∧ Below w.heap.size w w' := by
  have H := Lib.hid h
  have HQ := Lib.hid hq
  obtain ⟨p, cap, rfl, hlc, hcm, hp⟩ := h
  have hlm : (l.length : Int) ≤ 9223372036854775807 := by unfold maxLen at hcm; omega
  have hlI : (left : Int) ≤ 1048576 := by omega
  clear hcm hlc hq
  by_cases h0 : l.length ≤ left
  case neg =>
    have q0 : (left : Int) - (l.length : Int) < 0 := by omega
    clear h0
    go_enter Try.func40, Try.ntmps40
    go_wp2
    go_ret
    exact ⟨.inr rfl, Below.refl _ _⟩
  have q0 : ¬ (left : Int) - (l.length : Int) < 0 := by omega
  have HS : Hid ((left : Int) - (l.length : Int) = ((left - l.length : Nat) : Int)) := by show _ = _; omega
  have H0 := Lib.hid h0
  have hl20 : (l.length : Int) ≤ 1048576 := by omega
  have HL := Lib.hid hl
  clear h0
  go_enter Try.func40, Try.ntmps40
  go_wp2
  rw [HS.out]
  go_loopw [1, 5] (fun q i wr => ∃ j r : Nat, j ≤ l.length ∧ i = .int .i64 j ∧ q = .int .i64 r ∧ r ≤ left ∧ (∀ a ∈ l.take j, oneM (oneG a)) ∧ Below w.heap.size w wr) (fun _ i _ => l.length - (intOf i).toNat)
  case atStart => exact ⟨0, left - l.length, Nat.zero_le _, rfl, rfl, Nat.sub_le _ _, (fun a ha => by simp at ha), Below.refl _ _⟩
  case round =>
    obtain ⟨j, r, hj, rfl, rfl, hr, hm, hB⟩ := hrel
    have HM := Lib.hid hm
    clear hm
    by_cases hlt : j < l.length
    · have hne : l ≠ [] := by intro c; rw [c] at hlt; simp at hlt
      obtain ⟨b, o, rfl, hbl, _⟩ := hp.resolve_left hne
      have j0 : (0 : Int) ≤ (j : Int) := by omega
      have j1 : (j : Int) < (l.length : Int) := by omega
      obtain ⟨x, hx⟩ : ∃ x, l[j] = x := ⟨_, rfl⟩
      have hxm : x ∈ l := by rw [← hx]; exact List.getElem_mem hlt
      have RNG := Lib.hid (show wr.rangeAt b (o + j * 3) (oneC x) from by have := range_below (arg_range H.out hlt) hB hbl; rw [hx] at this; exact this)
      have C := Lib.hid (szOne_c x r wr ((HQ.out x hxm).below hB) (Nat.le_trans hr HL.out))
      have HT : Hid (oneM (oneG x) → ∀ a ∈ l.take (j + 1), oneM (oneG a)) := fun hm a ha => by
        rw [List.take_succ_eq_append_getElem hlt, hx] at ha
        rcases List.mem_append.1 ha with ha | ha
        · exact HM.out a ha
        · rw [List.mem_singleton.1 ha]; exact hm
      have HB := Lib.hid hB
      clear hx hxm hne hp hbl hB
      go_wp2_with (first | (with_reducible refine wpList_load_mid (op := ⟨some 21, _, _, _, _, _⟩) rfl 110 _ rfl b (o + j * 3) rfl (oneC x) _ RNG.out Try.underlying110 rfl (szOneL x) ?_) | fail)
      refine C.out.mono ?_
      rintro e w2 ⟨hres, hb2⟩
      have HB2 := Lib.hid (HB.out.trans (hb2.mono HB.out.size))
      clear hb2 C RNG
      rcases hres with ⟨r2, rfl, hr2, hm2⟩ | rfl
      · have q2 : ¬ (r2 : Int) < 0 := by omega
        have HT2 := Lib.hid (HT.out hm2)
        have hr3 : r2 ≤ left := Nat.le_trans hr2 hr
        clear hm2 HT
        go_wp2
        go_roundw
        case rel => exact ⟨j + 1, r2, by omega, by go_num, rfl, hr3, HT2.out, HB2.out⟩
        case measure => simp [intOf]; omega
      · go_wp2
        go_ret
        exact ⟨.inr rfl, HB2.out⟩
    · obtain rfl : j = l.length := by omega
      have HM2 := HM.out
      rw [List.take_length] at HM2
      have HM3 := Lib.hid HM2
      clear HM2
      go_wp2
      go_ret
      exact ⟨.inl ⟨r, rfl, hr, H0.out, HM3.out⟩, hB⟩

structure EqOneJ (W1 : World) (p1 p2 : Option Addr) (n1 c1 n2 c2 j g1 o1 g2 o2 : Nat) (x y : OneT) (f : Nat → Value) (L : Nat → Bool) (w : World) : Prop where
  G : Below W1.heap.size W1 w
  f0 : L 0 = true → f 0 = .slice p1 n1 c1
  f1 : L 1 = true → f 1 = .int .i64 j
  f2 : L 2 = true → f 2 = .pointer (some ⟨g1, o1, none⟩)
  f3 : L 3 = true → f 3 = .agg (oneC x).toArray
  f4 : L 4 = true → f 4 = .slice p2 n2 c2
  f5 : L 5 = true → f 5 = .int .i64 j
  f6 : L 6 = true → f 6 = .pointer (some ⟨g2, o2, none⟩)
  f7 : L 7 = true → f 7 = .agg (oneC y).toArray
  f8 : L 8 = true → f 8 = .bool true
  f9 : L 9 = true → f 9 = .bool false
theorem EqOneJ.grow {W1 : World} {p1 p2 : Option Addr} {n1 c1 n2 c2 j g1 o1 g2 o2 : Nat} {x y : OneT} {f : Nat → Value} {L : Nat → Bool} {w w' : World} (h : EqOneJ W1 p1 p2 n1 c1 n2 c2 j g1 o1 g2 o2 x y f L w) (hb : Below w.heap.size w w') : EqOneJ W1 p1 p2 n1 c1 n2 c2 j g1 o1 g2 o2 x y f L w' := ⟨h.G.trans (hb.mono h.G.size), h.f0, h.f1, h.f2, h.f3, h.f4, h.f5, h.f6, h.f7, h.f8, h.f9⟩
theorem cfEqOne (args : Array Value) (w : World) : (callFunc 73 args).run Try.prog w = .ok (.enter 73 args) w := cf_of Try.func73 (by kernel_rfl) (by kernel_rfl) args w
theorem notOne (w : World) : (Op.unary .not (.bool true)).run Try.prog w = .ok (.bool false) w := by kernel_rfl
theorem ixOne (g n c j : Nat) (w : World) (hj : j < n) (hn : n ≤ 1048576) : (Instr.indexAt 44 (.slice (some ⟨g, 0, none⟩) n c) (.int .i64 j)).run Try.prog w = .ok (.pointer (some ⟨g, j * 3, none⟩)) w := by
  have h0 : (0 : Int) ≤ (j : Int) := by omega
  simp [Instr.indexAt, go_sem, h0, hj]

set_option maxHeartbeats 2000000 in
theorem eqOneS_c (v1 v2 : Value) (l1 l2 : List OneT) (w : World) (h1 : RowL 0 74 3 oneC v1 l1 w) (h2 : RowL 0 74 3 oneC v2 l2 w) (hq1 : ∀ a ∈ l1, oneQ 0 a w) (hq2 : ∀ a ∈ l2, oneQ 0 a w) (hg : l1.map oneG = l2.map oneG) (hm : ∀ a ∈ l1, oneM (oneG a)) (hl : l1.length ≤ 1048576) :
    Calls Try.prog 55 #[v1, v2] w fun e w' => e = .returned (.bool true) ∧ Below w.heap.size w w' := by
  have hlen : l1.length = l2.length := by have := congrArg List.length hg; simpa using this
  obtain ⟨p1, cap1, rfl, hm1, _, hp1⟩ := h1.open
  obtain ⟨p2, cap2, rfl, hm2, _, hp2⟩ := h2.open
  have H1 := Lib.hid (And.intro h1 hq1)
  have H2 := Lib.hid (And.intro h2 hq2)
  have HG := Lib.hid (And.intro hg hm)
  have hlI : (l1.length : Int) ≤ 1048576 := by omega
  clear h1 h2 hm1 hm2 hg hq1 hq2 hm
  have e2 : l2.length = l1.length := hlen.symm
  rw [e2]
  have HLEN := Lib.hid hlen
  clear e2 hlen
  go_enter Try.func55, Try.ntmps55
  go_wp2
  go_loopw [5] (fun i wr => ∃ j : Nat, j ≤ l1.length ∧ i = .int .i64 j ∧ Below w.heap.size w wr) (fun i _ => l1.length - (intOf i).toNat)
  case atStart => exact ⟨0, Nat.zero_le _, rfl, Below.refl _ _⟩
  case round =>
    obtain ⟨j, hj, rfl, hB⟩ := hrel
    have HB := Lib.hid hB
    by_cases hlt : j < l1.length
    · have hlt2 : j < l2.length := by have := HLEN.out; omega
      have hne : l1 ≠ [] := by intro c; rw [c] at hlt; simp at hlt
      have hne2 : l2 ≠ [] := by intro c; rw [c] at hlt2; simp at hlt2
      obtain ⟨g1, rfl, _, _⟩ := hp1.resolve_left (fun c => hne c.1)
      obtain ⟨g2, rfl, _, _⟩ := hp2.resolve_left (fun c => hne2 c.1)
      obtain ⟨x, hx⟩ : ∃ x, l1[j] = x := ⟨_, rfl⟩
      obtain ⟨y, hy⟩ : ∃ y, l2[j] = y := ⟨_, rfl⟩
      have hxm : x ∈ l1 := by rw [← hx]; exact List.getElem_mem hlt
      have hym : y ∈ l2 := by rw [← hy]; exact List.getElem_mem hlt2
      have hgx : oneG x = oneG y := by
        have h3 := congrArg (fun l => l[j]?) HG.out.1
        simp only [List.getElem?_map, List.getElem?_eq_getElem hlt, List.getElem?_eq_getElem hlt2, hx, hy, Option.map_some] at h3
        exact Option.some.inj h3
      have R1 := Lib.hid (fun W (hW : Below wr.heap.size wr W) => show W.rangeAt g1 (j * 3) (oneC x) from by have := row_range (H1.out.1.below (hB.trans (hW.mono hB.size))) oneC_len hlt; rw [hx] at this; exact this)
      have R2 := Lib.hid (fun W (hW : Below wr.heap.size wr W) => show W.rangeAt g2 (j * 3) (oneC y) from by have := row_range (H2.out.1.below (hB.trans (hW.mono hB.size))) oneC_len hlt2; rw [hy] at this; exact this)
      have CE := Lib.hid (fun W (hW : Below wr.heap.size wr W) => eqOne_c x y W ((H1.out.2 x hxm).below (hB.trans (hW.mono hB.size))) ((H2.out.2 y hym).below (hB.trans (hW.mono hB.size))) hgx (HG.out.2 x hxm))
      have j0 : (0 : Int) ≤ (j : Int) := by omega
      have j1 : (j : Int) < (l1.length : Int) := by omega
      clear hx hy hxm hym hgx hne hne2 hB
      go_upto_region 6 with (fail)
      refine region_invL 10 [some 17, some 18, some 19, some 20, some 21, some 22, some 23, some 24, some 25, some 26] (EqOneJ wr (some ⟨g1, 0, none⟩) (some ⟨g2, 0, none⟩) l1.length cap1 l1.length cap2 j g1 (j * 3) g2 (j * 3) x y) (by kernel_rfl) rfl (by kernel_rfl) (by kernel_rfl) (by kernel_rfl) ?_ ?_ ?_
      · exact ⟨(Below.refl _ _).drew, (fun h => by cases h), (fun h => by cases h), (fun h => by cases h), (fun h => by cases h), (fun h => by cases h), (fun h => by cases h), (fun h => by cases h), (fun h => by cases h), (fun h => by cases h), (fun h => by cases h)⟩
      · intro i o f L w1 hoi hL hI hdep
        have hi : i < 10 := (Array.getElem?_eq_some_iff.1 hoi).1
        have hc : i = 0 ∨ i = 1 ∨ i = 2 ∨ i = 3 ∨ i = 4 ∨ i = 5 ∨ i = 6 ∨ i = 7 ∨ i = 8 ∨ i = 9 := by omega
        rcases hc with rfl | rfl | rfl | rfl | rfl | rfl | rfl | rfl | rfl | rfl
        · obtain rfl := Option.some.inj hoi
          refine ⟨rfl, wpMoveT rfl (at_old (by kernel_rfl)) ⟨_, rfl, ?_⟩⟩
          exact ⟨hI.G, fun _ => rfl, hI.f1, hI.f2, hI.f3, hI.f4, hI.f5, hI.f6, hI.f7, hI.f8, hI.f9⟩
        · obtain rfl := Option.some.inj hoi
          refine ⟨rfl, wpMoveT rfl (at_old (by kernel_rfl)) ⟨_, rfl, ?_⟩⟩
          exact ⟨hI.G, hI.f0, fun _ => rfl, hI.f2, hI.f3, hI.f4, hI.f5, hI.f6, hI.f7, hI.f8, hI.f9⟩
        · obtain rfl := Option.some.inj hoi
          refine ⟨rfl, wpIdxT rfl ((at_new (by kernel_rfl) 0 (Nat.le_of_ble_eq_true rfl) rfl (by decide) (hdep 0 (dep_of (by kernel_rfl)))).trans (hI.f0 (hdep 0 (dep_of (by kernel_rfl))))) ((at_new (by kernel_rfl) 1 (Nat.le_of_ble_eq_true rfl) rfl (by decide) (hdep 1 (dep_of (by kernel_rfl)))).trans (hI.f1 (hdep 1 (dep_of (by kernel_rfl))))) (ixOne g1 l1.length cap1 j w1 hlt hl) ⟨_, rfl, ?_⟩⟩
          exact ⟨hI.G, hI.f0, hI.f1, fun _ => rfl, hI.f3, hI.f4, hI.f5, hI.f6, hI.f7, hI.f8, hI.f9⟩
        · obtain rfl := Option.some.inj hoi
          refine ⟨rfl, wpLoadT rfl ((at_new (by kernel_rfl) 2 (Nat.le_of_ble_eq_true rfl) rfl (by decide) (hdep 2 (dep_of (by kernel_rfl)))).trans (hI.f2 (hdep 2 (dep_of (by kernel_rfl))))) (run_loadAt_mid w1 g1 (j * 3) 74 (oneC x) _ (R1.out w1 hI.G) Try.underlying74 rfl (szOneI x)) ⟨_, rfl, ?_⟩⟩
          exact ⟨hI.G, hI.f0, hI.f1, hI.f2, fun _ => rfl, hI.f4, hI.f5, hI.f6, hI.f7, hI.f8, hI.f9⟩
        · obtain rfl := Option.some.inj hoi
          refine ⟨rfl, wpMoveT rfl (at_old (by kernel_rfl)) ⟨_, rfl, ?_⟩⟩
          exact ⟨hI.G, hI.f0, hI.f1, hI.f2, hI.f3, fun _ => rfl, hI.f5, hI.f6, hI.f7, hI.f8, hI.f9⟩
        · obtain rfl := Option.some.inj hoi
          refine ⟨rfl, wpMoveT rfl (at_old (by kernel_rfl)) ⟨_, rfl, ?_⟩⟩
          exact ⟨hI.G, hI.f0, hI.f1, hI.f2, hI.f3, hI.f4, fun _ => rfl, hI.f6, hI.f7, hI.f8, hI.f9⟩
        · obtain rfl := Option.some.inj hoi
          refine ⟨rfl, wpIdxT rfl ((at_new (by kernel_rfl) 4 (Nat.le_of_ble_eq_true rfl) rfl (by decide) (hdep 4 (dep_of (by kernel_rfl)))).trans (hI.f4 (hdep 4 (dep_of (by kernel_rfl))))) ((at_new (by kernel_rfl) 5 (Nat.le_of_ble_eq_true rfl) rfl (by decide) (hdep 5 (dep_of (by kernel_rfl)))).trans (hI.f5 (hdep 5 (dep_of (by kernel_rfl))))) (ixOne g2 l1.length cap2 j w1 hlt hl) ⟨_, rfl, ?_⟩⟩
          exact ⟨hI.G, hI.f0, hI.f1, hI.f2, hI.f3, hI.f4, hI.f5, fun _ => rfl, hI.f7, hI.f8, hI.f9⟩
        · obtain rfl := Option.some.inj hoi
          refine ⟨rfl, wpLoadT rfl ((at_new (by kernel_rfl) 6 (Nat.le_of_ble_eq_true rfl) rfl (by decide) (hdep 6 (dep_of (by kernel_rfl)))).trans (hI.f6 (hdep 6 (dep_of (by kernel_rfl))))) (run_loadAt_mid w1 g2 (j * 3) 74 (oneC y) _ (R2.out w1 hI.G) Try.underlying74 rfl (szOneI y)) ⟨_, rfl, ?_⟩⟩
          exact ⟨hI.G, hI.f0, hI.f1, hI.f2, hI.f3, hI.f4, hI.f5, hI.f6, fun _ => rfl, hI.f8, hI.f9⟩
        · obtain rfl := Option.some.inj hoi
          refine ⟨rfl, wpCallT rfl cfEqOne (argsT2q ((at_new (by kernel_rfl) 3 (Nat.le_of_ble_eq_true rfl) rfl (by decide) (hdep 3 (dep_of (by kernel_rfl)))).trans (hI.f3 (hdep 3 (dep_of (by kernel_rfl))))) ((at_new (by kernel_rfl) 7 (Nat.le_of_ble_eq_true rfl) rfl (by decide) (hdep 7 (dep_of (by kernel_rfl)))).trans (hI.f7 (hdep 7 (dep_of (by kernel_rfl)))))) ((CE.out w1 hI.G).mono ?_)⟩
          rintro e w2 ⟨rfl, hb⟩
          have hI := hI.grow hb
          exact ⟨_, rfl, _, rfl, ⟨hI.G, hI.f0, hI.f1, hI.f2, hI.f3, hI.f4, hI.f5, hI.f6, hI.f7, fun _ => rfl, hI.f9⟩⟩
        · obtain rfl := Option.some.inj hoi
          refine ⟨rfl, wpUnT rfl ((at_new (by kernel_rfl) 8 (Nat.le_of_ble_eq_true rfl) rfl (by decide) (hdep 8 (dep_of (by kernel_rfl)))).trans (hI.f8 (hdep 8 (dep_of (by kernel_rfl))))) (notOne w1) ⟨_, rfl, ?_⟩⟩
          exact ⟨hI.G, hI.f0, hI.f1, hI.f2, hI.f3, hI.f4, hI.f5, hI.f6, hI.f7, hI.f8, fun _ => rfl⟩
      intro f w5 hI
      have e9 := hI.f9 rfl
      have HN := Lib.hid (HB.out.trans (hI.G.mono HB.out.size))
      clear hI
      simp only [Go.My.putL, Nat.zero_add, Nat.reduceAdd, e9, Act.put, List.setIfInBounds_toArray, List.set_cons_zero, List.set_cons_succ]
      generalize f 0 = y90 at *
      generalize f 1 = y91 at *
      generalize f 2 = y92 at *
      generalize f 3 = y93 at *
      generalize f 4 = y94 at *
      generalize f 5 = y95 at *
      generalize f 6 = y96 at *
      generalize f 7 = y97 at *
      generalize f 8 = y98 at *
      clear e9
      go_wp2
      go_roundw
      case rel => exact ⟨j + 1, by omega, by go_num, HN.out⟩
      case measure => simp [intOf]; omega
    · obtain rfl : j = l1.length := by omega
      go_wp2
      go_ret
      exact ⟨rfl, hB⟩

end Go.Proofs.Ytkglgficmealnaa

/- The contract of the specification's l2Step: one block. -/
import Derived.Test.YtgjnoleejbkddaaDoorGM2
import Derived.Test.YtgjnoleejbkddaaDoorGSha2
import Derived.Deep.MidRow
namespace Go.Proofs.YtgjnoleejbkddaaDoor
open Go.RowKit Go.My Go.Lib
set_option linter.unusedVariables false

theorem own_cells {w : World} {base n : Nat} {e : TypeId} {v : Value} {xs : List Value} (hn : 0 < n) (h : w.ownsRow base e 1 v n xs) : ∃ g cap, v = .slice (some ⟨g, 0, none⟩) n cap ∧ base ≤ g ∧ g < w.heap.size ∧ ∀ q, q < n → w.cell? ⟨g, q, none⟩ = xs[q]? := by
  obtain ⟨hl, hc⟩ := h
  rcases hc with ⟨_, h0⟩ | ⟨g, cap, cur, hv, hb, hg, h1, h2, h3, h4⟩
  · omega
  · refine ⟨g, cap, hv, hb, (Array.getElem?_eq_some_iff.1 hg).1, fun q hq => ?_⟩
    rw [cell_of_row w g q _ _ _ hg, ← h4, List.getElem?_take, if_pos (by omega), Array.getElem?_toList]
theorem wAt_bd (l : List UInt8) (q : Nat) : 0 ≤ wAt l q ∧ wAt l q ≤ 4294967295 := by
  rw [wAt_num]
  have a := UInt8.toNat_lt (l.getD (4 * q) 0)
  have b := UInt8.toNat_lt (l.getD (4 * q + 1) 0)
  have c := UInt8.toNat_lt (l.getD (4 * q + 2) 0)
  have d := UInt8.toNat_lt (l.getD (4 * q + 3) 0)
  unfold num4
  omega
def cpyF (H : Nat → Int) (i q : Nat) : Int := if q < i then H q else 0
theorem cpyF_set (H : Nat → Int) (i : Nat) (h : i < 8) : (wordsA 8 (cpyF H i)).setIfInBounds i (.int .u32 (H i)) = wordsA 8 (cpyF H (i + 1)) :=
  wordsA_set 8 _ _ i h _ (if_pos (by omega)) (fun j _ hj => by
    unfold cpyF
    by_cases h : j < i
    · rw [if_pos h, if_pos (by omega)]
    · rw [if_neg h, if_neg (by omega)])
theorem cpyF_end (H : Nat → Int) : wordsA 8 (cpyF H 8) = wordsA 8 H := wordsA_congr 8 (fun q hq => if_pos hq)
def shF (V : Nat → Int) (k q : Nat) : Int := if k < q then V (q - 1) else V q
theorem shF_start (V : Nat → Int) : wordsA 8 (shF V 7) = wordsA 8 V := wordsA_congr 8 (fun q hq => if_neg (by omega))
theorem shF_at (V : Nat → Int) (k : Nat) (h : 0 < k) : shF V k (k - 1) = V (k - 1) := if_neg (by omega)
theorem shF_set (V : Nat → Int) (k : Nat) (h0 : 0 < k) (h : k < 8) : (wordsA 8 (shF V k)).setIfInBounds k (.int .u32 (V (k - 1))) = wordsA 8 (shF V (k - 1)) :=
  wordsA_set 8 _ _ k h _ (if_pos (by omega)) (fun j _ hj => by
    unfold shF
    by_cases h : k < j
    · rw [if_pos h, if_pos (by omega)]
    · rw [if_neg h, if_neg (by omega)])
theorem rnd_row (V : Nat → Int) (k x : Int) : ((wordsA 8 (shF V 0)).setIfInBounds 4 (.int .u32 (add32 (V 3) (oneW V k x)))).setIfInBounds 0 (.int .u32 (add32 (oneW V k x) (twoW V))) = wordsA 8 (rndF V k x) := by
  rw [wordsA8, wordsA8]
  simp only [List.setIfInBounds_toArray, List.set]
  rfl
theorem info_u8s : (Tryd.prog.info? 5).map (fun i => (i.zero, i.size, i.bytes)) = some (some (.int .u8 0), 1, 1) := by kernel_rfl
theorem out_step (F : Nat → Int) (t N : Nat) (h : F t = N) (hN : N ≤ 4294967295) : cellsOf (outL F t) ++ [.int .u8 ((N : Int) / 16777216), .int .u8 ((N : Int) / 65536 % 256), .int .u8 ((N : Int) / 256 % 256), .int .u8 ((N : Int) % 256)] = cellsOf (outL F (t + 1)) := by
  rw [outL, cellsOf_append, h, Int.toNat_natCast, be4]
  congr 1
  have e0 := beAt_val N 4 0
  have e1 := beAt_val N 4 1
  have e2 := beAt_val N 4 2
  have e3 := beAt_val N 4 3
  simp only [cellsOf, List.map_cons, List.map_nil, e0, e1, e2, e3]
  simp
  omega
theorem z64_one : Z64.all (·.oneCell') = true := by kernel_rfl
theorem z64_size : (Tryd.prog.info? 78).map (·.size) = some Z64.size := size_w64

set_option maxHeartbeats 2000000 in
set_option maxRecDepth 100000 in
theorem l2Step_spec (st bk : ByteArray) (w : World) (h1 : st.size = 32) (h2 : bk.size = 64) :
    Calls Tryd.prog 45 #[.string st, .string bk] w fun e w' => e = .returned (.string (str (stepL st.data.toList bk.data.toList))) ∧ Below w.heap.size w w' := by
  obtain ⟨i0, hi, hz0, hz1, hz2⟩ := info_parts info_u8s
  go_enter Tryd.func45, Tryd.ntmps45
  go_wp2_with fail
  refine (l2Be_spec st 8 _ h1 (by decide)).mono ?_
  rintro e w1 ⟨v1, rfl, ho1, hb1⟩
  go_wp2_with fail
  refine (l2Be_spec bk 16 _ h2 (by decide)).mono ?_
  rintro e w2 ⟨v2, rfl, ho2, hb2⟩
  go_wp2_with (first
    | ((with_reducible refine wpList_store_row' (o := ⟨none, .store 78 _ _, _, _, _, _⟩) rfl 78 _ _ rfl w2.heap.size Z64 rfl rfl 78 Z64 (heap_alloc_new w2 _) z64_size rfl z64_one ?_); intro w3 hw3 hs3' hg3'))
  have hs3 : w3.heap.size = w2.heap.size + 1 := (by simpa using hs3')
  have hb3 : Below w2.heap.size w2 w3 := ((Below.refl _ _).alloc (Nat.le_refl _) _).grown hg3' (by simp) (by simp)
  clear hs3' hg3'
  obtain ⟨g1, cap1, rfl, hg1, hr1, hc1⟩ := own_cells (by decide) ho1
  obtain ⟨g2, cap2, rfl, hg2, hr2, hc2⟩ := own_cells (by decide) ho2
  have HC2 := Lib.hid (fun (wr : World) (hb : Below w2.heap.size w2 wr) (q : Nat) (hq : q < 16) => (show wr.cell? ⟨g2, q, none⟩ = some (.int .u32 (wAt bk.data.toList q)) from by rw [hb.cell (p := ⟨g2, q, none⟩) hr2, hc2 q hq, wordsL_get 16 _ q hq]))
  have hbm : ∀ q, 0 ≤ wAt bk.data.toList q ∧ wAt bk.data.toList q ≤ 4294967295 := wAt_bd _
  have HME : Hid (∀ q, wAt bk.data.toList q = wAt bk.data.toList q) := fun _ => rfl
  clear hc2 HME
  generalize hMe : wAt bk.data.toList = M at *
  have HME := Lib.hid hMe
  have HM := Lib.hid (schW_bd M hbm)
  have HBM := Lib.hid hbm
  clear hMe hbm ho1 ho2
  have hst0 : w3.heap[w2.heap.size]? = some (.cells (wordsA 64 (schT M 0)) 78 (0, 0)) := hw3
  clear hw3
  go_loopw [8] (fun i wr => ∃ n : Nat, n ≤ 64 ∧ i = .int .i64 n ∧ wr.heap[w2.heap.size]? = some (.cells (wordsA 64 (schT M n)) 78 (0, 0)) ∧ wr.heap.size = w2.heap.size + 1 ∧ Below w2.heap.size w2 wr)
    (fun i _ => 64 - (intOf i).toNat)
  case atStart => exact ⟨0, by omega, rfl, hst0, hs3, hb3⟩
  case round =>
    clear hst0 hs3 hb3
    obtain ⟨n, hn64, rfl, hw, hsz, hb⟩ := hrel
    by_cases hlt : n < 64
    · have m0 : (n : Int) < 64 := by omega
      have n0 : (0 : Int) ≤ (n : Int) := by omega
      have hf := frozen_of_row wr w2.heap.size n _ _ hw
      have hcn : ∃ u, wr.cell? ⟨w2.heap.size, n, none⟩ = some u := ⟨_, (cell_of_row wr w2.heap.size n _ _ _ hw).trans (wordsA_get 64 _ n (by omega))⟩
      obtain ⟨u, hcn⟩ := hcn
      have hst := heap_setCell_same wr w2.heap.size n _ _ (.int .u32 (schW M n)) hw
      rw [schT_set M n hlt] at hst
      have hb' := hb.setCell (p := ⟨w2.heap.size, n, none⟩) (Nat.le_refl _) (.int .u32 (schW M n))
      have HS := Lib.hid hst
      have HZ := Lib.hid hsz
      by_cases hn16 : n < 16
      · have m16 : (n : Int) < 16 := by omega
        have c0 := HC2.out wr hb n hn16
        rw [schW_lo M n hn16] at HS hb'
        clear hst hsz hw hb
        go_wp2
        go_roundw
        case rel => exact ⟨n + 1, by omega, by go_num, HS.out, by have := HZ.out; simpa [World.setCell] using this, hb'⟩
        case measure => simp [intOf]; omega
      · have cell := fun q (hq : q < n) => (cell_of_row wr w2.heap.size q _ _ _ hw).trans ((wordsA_get 64 _ q (by omega)).trans (by rw [schT_lt M n q hq]))
        have c15 := cell (n - 15) (by omega)
        have c2 := cell (n - 2) (by omega)
        have c16 := cell (n - 16) (by omega)
        have c7 := cell (n - 7) (by omega)
        rw [schW_hi M n (by omega)] at HS hb'
        obtain ⟨a0, a1⟩ := HM.out (n - 15)
        obtain ⟨b0, b1⟩ := HM.out (n - 2)
        obtain ⟨d0, d1⟩ := HM.out (n - 16)
        obtain ⟨e0, e1⟩ := HM.out (n - 7)
        generalize schW M (n - 15) = A at *
        generalize schW M (n - 2) = B at *
        generalize schW M (n - 16) = C at *
        generalize schW M (n - 7) = D at *
        clear cell hst hsz hw hb
        have k16 : (16 : Int) ≤ (n : Int) := by omega
        have k7 : (7 : Int) ≤ (n : Int) := by omega
        have n15 : (0 : Int) ≤ (n : Int) - 15 := by omega
        have n2 : (0 : Int) ≤ (n : Int) - 2 := by omega
        have n16 : (0 : Int) ≤ (n : Int) - 16 := by omega
        have n7 : (0 : Int) ≤ (n : Int) - 7 := by omega
        have m15 : (n : Int) - 15 < 64 := by omega
        have m2 : (n : Int) - 2 < 64 := by omega
        have m16 : (n : Int) - 16 < 64 := by omega
        have m7 : (n : Int) - 7 < 64 := by omega
        have t15 : ((n : Int) - 15).toNat = n - 15 := by omega
        have t2 : ((n : Int) - 2).toNat = n - 2 := by omega
        have t16 : ((n : Int) - 16).toNat = n - 16 := by omega
        have t7 : ((n : Int) - 7).toNat = n - 7 := by omega
        go_wp2_with fail
        refine (rot_spec A 25 _ a0 a1 (by decide) (by decide)).mono ?_
        rintro e w' ⟨rfl, rfl⟩
        go_wp2_with fail
        refine (rot_spec A 14 _ a0 a1 (by decide) (by decide)).mono ?_
        rintro e w' ⟨rfl, rfl⟩
        go_wp2_with fail
        refine (rot_spec B 15 _ b0 b1 (by decide) (by decide)).mono ?_
        rintro e w' ⟨rfl, rfl⟩
        go_wp2_with fail
        refine (rot_spec B 13 _ b0 b1 (by decide) (by decide)).mono ?_
        rintro e w' ⟨rfl, rfl⟩
        have v16 : IntKind.i64.wrap ((n : Int) - 16) = (n : Int) - 16 := IntWalk.i64_in _ (by omega)
        have v7 : IntKind.i64.wrap ((n : Int) - 7) = (n : Int) - 7 := IntWalk.i64_in _ (by omega)
        go_wp2
        have y16 : ¬ n = n - 16 := by omega
        have y7 : ¬ n = n - 7 := by omega
        go_region_held3 (fun w' => w'.cell? ⟨w2.heap.size, n - 16, none⟩ = some (.int .u32 C) ∧ w'.cell? ⟨w2.heap.size, n - 7, none⟩ = some (.int .u32 D)) (first | exact ⟨c16, c7⟩ | exact ⟨cell_set_ne _ y16 c16, cell_set_ne _ y7 c7⟩) ((fail))
        go_wp2
        go_roundw
        case rel => exact ⟨n + 1, by omega, by go_num, HS.out, by have := HZ.out; simpa [World.setCell] using this, ⟨hb'.os, hb'.tape, hb'.output, hb'.size, hb'.block⟩⟩
        case measure => simp [intOf]; omega
    · have hne : n = 64 := by omega
      have hpn : (64 : Int) ≤ (n : Int) := by omega
      rw [hne, schT_end] at hw
      have HW := Lib.hid hw
      have HZ := Lib.hid hsz
      have HB := Lib.hid hb
      have hcw : Hid (∀ q, q < 64 → wr.cell? ⟨w2.heap.size, q, none⟩ = some (.int .u32 (schW M q))) := fun q hq => (cell_of_row wr w2.heap.size q _ _ _ hw).trans (wordsA_get 64 _ q hq)
      have hwb := HM.out
      generalize hWe : schW M = W at *
      have HWE := Lib.hid hWe
      clear hWe
      have HM := Lib.hid hwb
      clear hne hlt hn64 hw hsz hb hwb
      go_wp2_with fail
      obtain ⟨wo, rfl⟩ : ∃ wo : World, wo = wr := ⟨_, rfl⟩
      have hst1 : (wo.alloc (.cells #[Value.int .u32 0, .int .u32 0, .int .u32 0, .int .u32 0, .int .u32 0, .int .u32 0, .int .u32 0, .int .u32 0] 80)).heap[wo.heap.size]? = some (.cells (wordsA 8 (cpyF (wAt st.data.toList) 0)) 80 (0, 0)) := heap_alloc_new wo _
      have hb1' : Below wo.heap.size wo (wo.alloc (.cells #[Value.int .u32 0, .int .u32 0, .int .u32 0, .int .u32 0, .int .u32 0, .int .u32 0, .int .u32 0, .int .u32 0] 80)) := (Below.refl _ _).alloc (Nat.le_refl _) _
      have hz1' : (wo.alloc (.cells #[Value.int .u32 0, .int .u32 0, .int .u32 0, .int .u32 0, .int .u32 0, .int .u32 0, .int .u32 0, .int .u32 0] 80)).heap.size = wo.heap.size + 1 := by simp
      have HC1 := Lib.hid (fun (wx : World) (hbx : Below wo.heap.size wo wx) (q : Nat) (hq : q < 8) => (show wx.cell? ⟨g1, q, none⟩ = some (.int .u32 (wAt st.data.toList q)) from by
        have hb2' : Below w1.heap.size w1 wo := hb2.trans ⟨HB.out.os, HB.out.tape, HB.out.output, HB.out.size, fun k hk => HB.out.block k (Nat.lt_of_lt_of_le hk hb2.size)⟩
        have hl : g1 < wo.heap.size := Nat.lt_of_lt_of_le hr1 hb2'.size
        rw [hbx.cell (p := ⟨g1, q, none⟩) hl, hb2'.cell (p := ⟨g1, q, none⟩) hr1, hc1 q hq, wordsL_get 8 _ q hq]))
      have hbh := wAt_bd st.data.toList
      clear hc1
      generalize hHe : wAt st.data.toList = H at *
      have HHE := Lib.hid hHe
      have HBH := Lib.hid hbh
      clear hHe hbh
      go_loopw [14] (fun i wr => ∃ j : Nat, j ≤ 8 ∧ i = .int .i64 j ∧ wr.heap[wo.heap.size]? = some (.cells (wordsA 8 (cpyF H j)) 80 (0, 0)) ∧ wr.heap.size = wo.heap.size + 1 ∧ Below wo.heap.size wo wr)
        (fun i _ => 8 - (intOf i).toNat)
      case atStart => exact ⟨0, by omega, rfl, hst1, hz1', hb1'⟩
      case round =>
        clear hst1 hz1' hb1'
        obtain ⟨j, hj8, rfl, hv, hsz, hb⟩ := hrel
        by_cases hlt : j < 8
        · have j0 : (0 : Int) ≤ (j : Int) := by omega
          have j8 : (j : Int) < 8 := by omega
          have c0 := HC1.out wr hb j hlt
          have hf := frozen_of_row wr wo.heap.size j _ _ hv
          have hcn : ∃ u, wr.cell? ⟨wo.heap.size, j, none⟩ = some u := ⟨_, (cell_of_row wr wo.heap.size j _ _ _ hv).trans (wordsA_get 8 _ j hlt)⟩
          obtain ⟨u, hcn⟩ := hcn
          have hst := heap_setCell_same wr wo.heap.size j _ _ (.int .u32 (H j)) hv
          rw [cpyF_set H j hlt] at hst
          have hb' := hb.setCell (p := ⟨wo.heap.size, j, none⟩) (Nat.le_refl _) (.int .u32 (H j))
          have HS := Lib.hid hst
          have HZ2 := Lib.hid hsz
          clear hst hsz hv hb
          go_wp2
          go_roundw
          case rel => exact ⟨j + 1, by omega, by go_num, HS.out, by have := HZ2.out; simpa [World.setCell] using this, hb'⟩
          case measure => simp [intOf]; omega
        · have hje : j = 8 := by omega
          have hpj : (8 : Int) ≤ (j : Int) := by omega
          rw [hje, cpyF_end] at hv
          clear hje hlt hj8
          go_wp2_with fail
          have HBR := Lib.hid (roundsF_bd H W HBH.out)
          have hst2 : wr.heap[wo.heap.size]? = some (.cells (wordsA 8 (roundsF H W 0)) 80 (0, 0)) := hv
          have HMW := Lib.hid HM.out
          clear hv
          obtain ⟨wp, rfl⟩ : ∃ wp : World, wp = wr := ⟨_, rfl⟩
          go_loopw [15] (fun i wr => ∃ n3 : Nat, n3 ≤ 64 ∧ i = .int .i64 n3 ∧ wr.heap[wo.heap.size]? = some (.cells (wordsA 8 (roundsF H W n3)) 80 (0, 0)) ∧ wr.heap.size = wo.heap.size + 1 ∧ Below wo.heap.size wo wr)
            (fun i _ => 64 - (intOf i).toNat)
          case atStart => exact ⟨0, by omega, rfl, hst2, hsz, hb⟩
          case round =>
            clear hst2 hsz hb
            obtain ⟨n3, hn3, rfl, hv, hsz, hb⟩ := hrel
            by_cases hlt : n3 < 64
            · have p0 : (0 : Int) ≤ (n3 : Int) := by omega
              have p64 : (n3 : Int) < 64 := by omega
              have hwo : w2.heap.size < wo.heap.size := by have := HZ.out; omega
              have cw : wr.cell? ⟨w2.heap.size, n3, none⟩ = some (.int .u32 (W n3)) := by rw [hb.cell (p := ⟨w2.heap.size, n3, none⟩) hwo]; exact hcw.out n3 hlt
              have cell := fun q (hq : q < 8) => (cell_of_row wr wo.heap.size q _ _ _ hv).trans (wordsA_get 8 _ q hq)
              have c0 := cell 0 (by omega)
              have c1 := cell 1 (by omega)
              have c2 := cell 2 (by omega)
              have c4 := cell 4 (by omega)
              have c5 := cell 5 (by omega)
              have c6 := cell 6 (by omega)
              have c7 := cell 7 (by omega)
              obtain ⟨x0, x1⟩ := HMW.out n3
              obtain ⟨y0, y1⟩ := kW_bd n3
              have hbn := HBR.out n3
              obtain ⟨a0, a1⟩ := hbn 0
              obtain ⟨e0, e1⟩ := hbn 4
              have HR : Hid (roundsF H W (n3 + 1) = rndF (roundsF H W n3) (kW n3) (W n3)) := rfl
              generalize hV : roundsF H W n3 = V at *
              have HV := Lib.hid hv
              have HZ3 := Lib.hid hsz
              have HB3 := Lib.hid hb
              clear cell hV hbn hv hsz hb
              have CK := Lib.hid (fun (wx : World) => l2K_spec n3 wx hlt)
              go_wp2_with fail
              refine (rot_spec (V 4) 26 _ e0 e1 (by decide) (by decide)).mono ?_
              rintro e w' ⟨rfl, rfl⟩
              go_wp2_with fail
              refine (rot_spec (V 4) 21 _ e0 e1 (by decide) (by decide)).mono ?_
              rintro e w' ⟨rfl, rfl⟩
              go_wp2_with fail
              refine (rot_spec (V 4) 7 _ e0 e1 (by decide) (by decide)).mono ?_
              rintro e w' ⟨rfl, rfl⟩
              go_wp2_with fail
              go_quiet ((go_at_call 58; exact Calls.quiet_of (CK.out _)))
              go_wp2_with fail
              refine (rot_spec (V 0) 30 _ a0 a1 (by decide) (by decide)).mono ?_
              rintro e w' ⟨rfl, rfl⟩
              go_wp2_with fail
              refine (rot_spec (V 0) 19 _ a0 a1 (by decide) (by decide)).mono ?_
              rintro e w' ⟨rfl, rfl⟩
              go_wp2_with fail
              refine (rot_spec (V 0) 10 _ a0 a1 (by decide) (by decide)).mono ?_
              rintro e w' ⟨rfl, rfl⟩
              go_wp2_with fail
              have h1 := one_flat V (kW n3) (W n3)
              have h2 := two_flat V
              simp only [sumE, chW, sumA, majW, xor32, and32, not32] at h1 h2
              rw [← h1, ← h2]
              have ob : 0 ≤ oneW V (kW n3) (W n3) ∧ oneW V (kW n3) (W n3) ≤ 4294967295 := add32_bd _ _
              have tb : 0 ≤ twoW V ∧ twoW V ≤ 4294967295 := add32_bd _ _
              obtain ⟨o0, o1⟩ := ob
              obtain ⟨q0, q1⟩ := tb
              have HRR := Lib.hid (rnd_row V (kW n3) (W n3))
              generalize oneW V (kW n3) (W n3) = ONE at *
              generalize twoW V = TWO at *
              clear h1 h2
              have hsx : (wr.drewN nq).heap[wo.heap.size]? = some (.cells (wordsA 8 (shF V 7)) 80 (0, 0)) := by rw [shF_start]; exact HV.out
              have hzx : (wr.drewN nq).heap.size = wo.heap.size + 1 := HZ3.out
              have hbx : Below wo.heap.size wo (wr.drewN nq) := ⟨HB3.out.os, HB3.out.tape, HB3.out.output, HB3.out.size, HB3.out.block⟩
              generalize wr.drewN nq = wq at *
              go_loopw [22] (fun i wr => ∃ k : Nat, k ≤ 7 ∧ i = .int .i64 k ∧ wr.heap[wo.heap.size]? = some (.cells (wordsA 8 (shF V k)) 80 (0, 0)) ∧ wr.heap.size = wo.heap.size + 1 ∧ Below wo.heap.size wo wr)
                (fun i _ => (intOf i).toNat)
              case atStart => exact ⟨7, by omega, rfl, hsx, hzx, hbx⟩
              case round =>
                clear hsx hzx hbx
                obtain ⟨k, hk, rfl, hv, hsz, hb⟩ := hrel
                by_cases hk0 : 0 < k
                · have k0 : (0 : Int) < (k : Int) := by omega
                  have k7 : (k : Int) ≤ 7 := by omega
                  have k8 : (k : Int) < 8 := by omega
                  have l0 : (0 : Int) ≤ (k : Int) - 1 := by omega
                  have l8 : (k : Int) - 1 < 8 := by omega
                  have tk : ((k : Int) - 1).toNat = k - 1 := by omega
                  have cc := (cell_of_row wr wo.heap.size (k - 1) _ _ _ hv).trans (wordsA_get 8 _ (k - 1) (by omega))
                  rw [shF_at V k hk0] at cc
                  have hf := frozen_of_row wr wo.heap.size k _ _ hv
                  have hcn : ∃ u, wr.cell? ⟨wo.heap.size, k, none⟩ = some u := ⟨_, (cell_of_row wr wo.heap.size k _ _ _ hv).trans (wordsA_get 8 _ k (by omega))⟩
                  obtain ⟨u, hcn⟩ := hcn
                  have hst := heap_setCell_same wr wo.heap.size k _ _ (.int .u32 (V (k - 1))) hv
                  rw [shF_set V k hk0 (by omega)] at hst
                  have hb' := hb.setCell (p := ⟨wo.heap.size, k, none⟩) (Nat.le_refl _) (.int .u32 (V (k - 1)))
                  have HS := Lib.hid hst
                  have HZ4 := Lib.hid hsz
                  generalize V (k - 1) = X at *
                  clear hst hsz hv hb
                  go_wp2
                  go_roundw
                  case rel => exact ⟨k - 1, by omega, by rw [show (k : Int) - 1 = ((k - 1 : Nat) : Int) by omega], HS.out, by have := HZ4.out; simpa [World.setCell] using this, hb'⟩
                  case measure => simp [intOf]; omega
                · have hke : k = 0 := by omega
                  have hpk : (k : Int) ≤ 0 := by omega
                  rw [hke] at hv
                  have cc := (cell_of_row wr wo.heap.size 4 _ _ _ hv).trans (wordsA_get 8 _ 4 (by omega))
                  have c00 := (cell_of_row wr wo.heap.size 0 _ _ _ hv).trans (wordsA_get 8 _ 0 (by omega))
                  have hf := frozen_of_row wr wo.heap.size 4 _ _ hv
                  have hf0 := frozen_of_row wr wo.heap.size 0 _ _ hv
                  rw [show shF V 0 4 = V 3 from rfl] at cc
                  obtain ⟨r0, r1⟩ := HBR.out n3 3
                  have HV4 := Lib.hid hv
                  have HZ4 := Lib.hid hsz
                  have HB4 := Lib.hid hb
                  clear hke hk hk0 hv hsz hb
                  go_wp2
                  go_roundw
                  case rel =>
                    refine ⟨n3 + 1, by omega, by go_num, ?_, by have := HZ4.out; simpa [World.setCell] using this, (HB4.out.setCell (Nat.le_refl _) _).setCell (Nat.le_refl _) _⟩
                    have s1 := heap_setCell_same wr wo.heap.size 4 _ _ (.int .u32 ((V 3 + ONE) % 4294967296)) HV4.out
                    have s2 := heap_setCell_same _ wo.heap.size 0 _ _ (.int .u32 ((ONE + TWO) % 4294967296)) s1
                    rw [s2, HR.out, ← HRR.out, add32_mod, add32_mod]
                  case measure => simp [intOf]; omega
            · have hne3 : n3 = 64 := by omega
              have hp3 : (64 : Int) ≤ (n3 : Int) := by omega
              rw [hne3] at hv
              have HV := Lib.hid hv
              have HZ3 := Lib.hid hsz
              have HB3 := Lib.hid hb
              clear hne3 hlt hn3 hv hsz hb
              go_wp2_with fail
              obtain ⟨wx, rfl⟩ : ∃ wx : World, wx = wr := ⟨_, rfl⟩
              have hown : (wx.alloc (.cells #[] 5)).ownsRow wx.heap.size 5 1 (.slice (some ⟨wx.heap.size, 0, none⟩) 0 0) (4 * 0) (cellsOf (outL (compF H W) 0)) := World.ownsRow_lit wx #[] 0 (Nat.le_refl _) (by unfold maxLen; omega) rfl
              have hbz : Below wx.heap.size wx (wx.alloc (.cells #[] 5)) := (Below.refl _ _).alloc (Nat.le_refl _) _
              have HCH := Lib.hid (fun (wy : World) (hby : Below wx.heap.size wx wy) (q : Nat) (hq : q < 8) => (show wy.cell? ⟨g1, q, none⟩ = some (.int .u32 (H q)) from HC1.out wy (HB3.out.trans ⟨hby.os, hby.tape, hby.output, hby.size, fun k hk => hby.block k (Nat.lt_of_lt_of_le hk HB3.out.size)⟩) q hq))
              have HCV := Lib.hid (fun (wy : World) (hby : Below wx.heap.size wx wy) (q : Nat) (hq : q < 8) => (show wy.cell? ⟨wo.heap.size, q, none⟩ = some (.int .u32 (roundsF H W 64 q)) from by
                have hl : wo.heap.size < wx.heap.size := by have := HZ3.out; omega
                rw [hby.cell (p := ⟨wo.heap.size, q, none⟩) hl]
                exact (cell_of_row wx wo.heap.size q _ _ _ HV.out).trans (wordsA_get 8 _ q hq)))
              go_loopw [23, 24] (fun v i wr => ∃ t : Nat, t ≤ 8 ∧ i = .int .i64 t ∧ wr.ownsRow wx.heap.size 5 1 v (4 * t) (cellsOf (outL (compF H W) t)) ∧ Below wx.heap.size wx wr)
                (fun _ i _ => 8 - (intOf i).toNat)
              case atStart => exact ⟨0, by omega, rfl, hown, hbz⟩
              case round =>
                clear hown hbz
                obtain ⟨t, ht, rfl, hown, hby⟩ := hrel
                by_cases hlt : t < 8
                · have t0 : (0 : Int) ≤ (t : Int) := by omega
                  have t8 : (t : Int) < 8 := by omega
                  have ch := HCH.out wr hby t hlt
                  have cv := HCV.out wr hby t hlt
                  obtain ⟨f0, f1⟩ := compF_bd H W t
                  obtain ⟨N, hN⟩ : ∃ N : Nat, compF H W t = (N : Int) := ⟨(compF H W t).toNat, by omega⟩
                  have hw1 : IntKind.u32.wrap (H t + roundsF H W 64 t) = (N : Int) := hN
                  have hw2 : (H t + roundsF H W 64 t) % 4294967296 = (N : Int) := by rw [← add32_mod]; exact hN
                  rw [hN] at f0 f1
                  have HST := Lib.hid (out_step (compF H W) t N hN (by omega))
                  clear hN
                  generalize roundsF H W 64 t = RT at *
                  generalize H t = HT at *
                  go_wp2_with fail
                  go_quiet (fail)
                  have hownz : (wr.drewN nq).ownsRow wx.heap.size 5 1 u23 (4 * t) (cellsOf (outL (compF H W) t)) := hown
                  have hbyz : Below wx.heap.size wx (wr.drewN nq) := ⟨hby.os, hby.tape, hby.output, hby.size, hby.block⟩
                  generalize wr.drewN nq = wz at *
                  clear hown hby ch cv
                  go_wp2_with (at_builtin; refine wpList_append_lies _ rfl _ _ 25 rfl wx.heap.size 5 i0 (.int .u8 0) 1 1 Tryd.underlying25 hi hz0 hz1 hz2 rfl (by decide) u23 (4 * t) _ rfl (hownz.alloc _) ⟨wz.heap.size, 0, none⟩ 4 4 [_, _, _, _] rfl rfl (World.news_of_block (cs := #[_, _, _, _]) (t := 5) (fr := (0, 0)) (heap_alloc_new wz _)) (by simp [Value.oneCell']) (by omega) (by unfold maxLen; omega) (by omega) (by have := hbyz.size; simp; omega) (wz.heap.size + 1) (by simp) ?_; intro g cap w2x hown2 hgrow2 hat hlt2)
                  rw [HST.out] at hown2
                  have hbq : Below wx.heap.size wx w2x := (hbyz.alloc hbyz.size _).grown hgrow2 (by have := hbyz.size; simp; omega) (fun j hj => (hownz.lt j hj).1)
                  clear hgrow2 hownz
                  go_roundw
                  case rel => exact ⟨t + 1, by omega, by go_num, hown2, hbq⟩
                  case measure => simp [intOf]; omega
                · have hte : t = 8 := by omega
                  have hpt : (8 : Int) ≤ (t : Int) := by omega
                  rw [hte] at hown
                  have hcv := run_convert_own (P := Tryd.prog) wr 25 9 5 _ _ _ _ Tryd.underlying25 Tryd.underlying5 Tryd.underlying9 hown
                  clear hown hte hlt ht
                  have HF : Hid (outL (compF H W) 8 = stepL st.data.toList bk.data.toList) := by show outL (compF H W) 8 = _; unfold stepL; rw [HHE.out, HME.out, HWE.out]
                  go_wp2
                  go_ret
                  refine ⟨by rw [← HF.out]; rfl, ?_⟩
                  have e1 : Below w.heap.size w w2 := hb1.trans ⟨hb2.os, hb2.tape, hb2.output, hb2.size, fun k hk => hb2.block k (Nat.lt_of_lt_of_le hk hb1.size)⟩
                  have e2 : Below w.heap.size w wo := e1.trans ⟨HB.out.os, HB.out.tape, HB.out.output, HB.out.size, fun k hk => HB.out.block k (Nat.lt_of_lt_of_le hk e1.size)⟩
                  have e3 : Below w.heap.size w wx := e2.trans ⟨HB3.out.os, HB3.out.tape, HB3.out.output, HB3.out.size, fun k hk => HB3.out.block k (Nat.lt_of_lt_of_le hk e2.size)⟩
                  exact e3.trans ⟨hby.os, hby.tape, hby.output, hby.size, fun k hk => hby.block k (Nat.lt_of_lt_of_le hk e3.size)⟩

end Go.Proofs.YtgjnoleejbkddaaDoor

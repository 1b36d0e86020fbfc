/- The contract of the program's mix: one block is taken into the state. -/
import Derived.Test.YtgjnoleejbkddaaDoorGSha2
import Derived.StillTailTactics
namespace Go.Proofs.YtgjnoleejbkddaaDoor
open Go.RowKit Go.My Go.Lib
set_option linter.unusedVariables false

/-- Block g is a digest. -/
def Dig (w : World) (g : Nat) (st bk : Nat → Int) (used size : Int) : Prop := w.heap[g]? = some (.cells (digA st bk used size) 88 (0, 0)) ∧ Bd st ∧ ∀ q, 0 ≤ bk q ∧ bk q ≤ 255
/-- The table of round words. -/
def TabK (w : World) : Prop := 2 < w.heap.size ∧ ∀ i, i < 64 → w.cell? ⟨2, i, none⟩ = some (.int .u32 (kW i))
theorem TabK.below {w w' : World} {B : Nat} (h : TabK w) (hb : Below B w w') (hB : 2 < B) : TabK w' := ⟨Nat.lt_of_lt_of_le h.1 hb.size, fun i hi => by rw [hb.cell (p := ⟨2, i, none⟩) hB]; exact h.2 i hi⟩
theorem TabK.grown {w w' : World} {g : Nat} (h : TabK w) (hg : w.grownBy w' (some g)) (h0 : 2 < g) : TabK w' := h.below (B := 2 + 1) ⟨hg.os, hg.tape, hg.output, hg.size, fun k hk => hg.block k (by have := h.1; omega) (by simp; omega)⟩ (by omega)
theorem Dig.below {w w' : World} {B g : Nat} {st bk : Nat → Int} {u z : Int} (h : Dig w g st bk u z) (hb : Below B w w') (hg : g < B) : Dig w' g st bk u z := ⟨by rw [hb.block g hg]; exact h.1, h.2⟩
theorem Dig.lt {w : World} {g : Nat} {st bk : Nat → Int} {u z : Int} (h : Dig w g st bk u z) : g < w.heap.size := (Array.getElem?_eq_some_iff.1 h.1).1

theorem gr_set {w w' : World} {b : Nat} (h : w.grownBy w' (some b)) (i : Nat) (v : Value) : w.grownBy (w'.setCell ⟨b, i, none⟩ v) (some b) :=
  ⟨h.os, h.tape, h.output, by simpa [World.setCell] using h.size, fun k hk hne => (heap_setCell_other _ _ _ _ (by intro e; exact hne (by rw [e]))).trans (h.block k hk hne)⟩
theorem gr_trans {a b c : World} {g : Nat} (h1 : a.grownBy b (some g)) (h2 : b.grownBy c (some g)) : a.grownBy c (some g) :=
  ⟨h2.os.trans h1.os, h2.tape.trans h1.tape, h2.output.trans h1.output, Nat.le_trans h1.size h2.size, fun k hk hne => (h2.block k (Nat.lt_of_lt_of_le hk h1.size) hne).trans (h1.block k hk hne)⟩
theorem gr_below {a b : World} {g B : Nat} (h : Below B a b) (hB : a.heap.size ≤ B) : a.grownBy b (some g) := ⟨h.os, h.tape, h.output, h.size, fun k hk _ => h.block k (Nat.lt_of_lt_of_le hk hB)⟩
theorem gr_refl (a : World) (g : Nat) : a.grownBy a (some g) := ⟨rfl, rfl, rfl, Nat.le_refl _, fun _ _ _ => rfl⟩
theorem gr_drew {a b : World} {g : Nat} (h : a.grownBy b (some g)) : a.grownBy b.drew (some g) := ⟨h.os, h.tape, h.output, h.size, h.block⟩

abbrev ZS8 : Array Value := #[Value.int .u32 0, Value.int .u32 0, Value.int .u32 0, Value.int .u32 0, Value.int .u32 0, Value.int .u32 0, Value.int .u32 0, Value.int .u32 0]

set_option maxHeartbeats 2000000 in
set_option maxRecDepth 100000 in
theorem mix_any (g : Nat) (st bk : Nat → Int) (u z : Int) (w : World) (hd : Dig w g st bk u z) (hk : TabK w) (h0 : 2 < g) :
    Calls Tryd.prog 64 #[.pointer (some ⟨g, 0, none⟩)] w fun e w' => e = .returned (.tuple #[]) ∧ Dig w' g (compF st (schW (prtW bk 64))) bk u z ∧ w.grownBy w' (some g) := by
  have hgl := hd.lt
  have hrb : w.rangeAt g 8 (bytesL bk) := fun j v hv => by
    have hj : j < 64 := by have := (List.getElem?_eq_some_iff.1 hv).1; rw [bytesL_len] at this; exact this
    rw [cell_of_row w g (8 + j) _ _ _ hd.1, dig_bk _ _ _ _ j hj, ← hv, bytesL_get bk j hj]
  have hW := schW_bd (prtW bk 64) (prtW_bd bk 64)
  go_enter Tryd.func64, Tryd.ntmps64
  go_wp2_with fail
  refine (sched_any g bk _ hd.2.2 hrb hgl).mono ?_
  rintro e w1 ⟨rfl, hb1⟩
  generalize hWe : schW (prtW bk 64) = W at *
  have HWE := Lib.hid hWe
  clear hWe
  have hd1 := hd.below hb1 hgl
  have hk1 := hk.below hb1 (by omega)
  have hg1 : g < w1.heap.size := hd1.lt
  have h64 : (Tryd.prog.info? 78).map (·.size) = some (wordsA 64 W).size := by rw [wordsA_size]; exact size_w64
  have hzs : Z64.size = (wordsA 64 W).size := by rw [wordsA_size]; rfl
  have h8 : (Tryd.prog.info? 80).map (·.size) = some (wordsL 8 st).length := by rw [wordsL_len]; exact size_w8
  have h8a : (Tryd.prog.info? 80).map (·.size) = some (wordsL 8 st).toArray.size := by simpa using h8
  have hz8 : ZS8.size = (wordsL 8 st).toArray.size := by simp [wordsL_len]
  have H64 := Lib.hid h64
  have HZS := Lib.hid hzs
  have H1C := Lib.hid (wordsA_one 64 W)
  have H8 := Lib.hid h8
  have H8A := Lib.hid h8a
  have HZ8 := Lib.hid hz8
  have H1S := Lib.hid (show (wordsL 8 st).toArray.all (·.oneCell') = true from wordsA_one 8 st)
  clear h64 hzs h8 h8a hz8 hrb
  go_wp2_with (first
    | ((with_reducible refine wpList_store_row' (o := ⟨none, .store 78 _ _, _, _, _, _⟩) rfl 78 _ _ rfl w1.heap.size (wordsA 64 W) rfl rfl 78 Z64 (heap_alloc_new w1 _) H64.out HZS.out H1C.out ?_); intro w2 hw2 hs2' hg2'; have hs2 : w2.heap.size = w1.heap.size + 1 := (by simpa using hs2'); have HN := Lib.hid (fun (o : Obj) => (show (w2.alloc o).heap[w1.heap.size + 1]? = some o from (by rw [← hs2]; exact heap_alloc_new w2 o))); clear hs2')
    | ((with_reducible refine wpList_load_mid (op := ⟨some 17, _, _, _, _, _⟩) rfl 80 _ rfl g 0 rfl (wordsL 8 st) (.array 8 64) ?cr Tryd.underlying80 rfl H8.out ?_))
    | ((with_reducible refine wpList_store_row' (o := ⟨none, .store 80 _ _, _, _, _, _⟩) rfl 80 _ _ rfl (w1.heap.size + 1) (wordsL 8 st).toArray rfl rfl 80 ZS8 (HN.out _) H8A.out HZ8.out H1S.out ?_); intro w3 hw3 hs3' hg3; have hs3 : w3.heap.size = w1.heap.size + 2 := (by have := hs3'; simp at this; omega); have hw3w : w3.heap[w1.heap.size]? = some (.cells (wordsA 64 W) 78 (0, 0)) := (by rw [hg3.block w1.heap.size (by simp; omega) (by simp), Below.heap_alloc w2 _ w1.heap.size (by omega)]; exact hw2); clear hs3')
    | (with_reducible refine wpList_load_row (o := ⟨some 18, _, _, _, _, _⟩) rfl 78 _ rfl w1.heap.size rfl 78 (wordsA 64 W) (0, 0) (.array 64 64) hw3w Tryd.underlying78 rfl H64.out ?_))
  case cr =>
    intro j v hv
    have hj : j < 8 := by have := (List.getElem?_eq_some_iff.1 hv).1; rw [wordsL_len] at this; exact this
    have hb2 : Below w1.heap.size w1 w2 := ((Below.refl _ _).alloc (Nat.le_refl _) _).grown hg2' (by simp) (by simp)
    rw [hb2.cell (p := ⟨g, 0 + j, none⟩) hg1, cell_of_row w1 g (0 + j) _ _ _ hd1.1, Nat.zero_add, dig_st _ _ _ _ j hj, ← hv, wordsL_get 8 st j hj]
  have hb3 : Below w1.heap.size w1 w3 := by
    have hb2 : Below w1.heap.size w1 w2 := ((Below.refl _ _).alloc (Nat.le_refl _) _).grown hg2' (by simp) (by simp)
    exact (hb2.alloc (by omega) _).grown hg3 (by simp; omega) (by simp)
  have hbd := hd1.2.1
  have HIX := Lib.hid (fun (i : Nat) (hi : i < 64) (wx : World) => run_index_arr (P := Tryd.prog) wx 78 64 64 (wordsA 64 W) .i64 .u32 i (.int .u32 (W i)) Tryd.underlying78 Tryd.underlying64 size_u32 hi (wordsA_get 64 W i hi))
  have HB := Lib.hid (roundsF_bd st W hbd)
  have HW := Lib.hid hW
  clear hw2 hg2' hg3 HN H64 HZS H1C H8 H8A HZ8 H1S hbd hW
  have hst0 : w3.heap[w1.heap.size + 1]? = some (.cells (wordsA 8 (roundsF st W 0)) 80 (0, 0)) := hw3
  clear hw3 hw3w hs2
  go_loopw [19] (fun i wr => ∃ n : Nat, n ≤ 64 ∧ i = .int .i64 n ∧ wr.heap[w1.heap.size + 1]? = some (.cells (wordsA 8 (roundsF st W n)) 80 (0, 0)) ∧ wr.heap.size = w1.heap.size + 2 ∧ Below w1.heap.size w1 wr)
    (fun i _ => 64 - (intOf i).toNat)
  case atStart => exact ⟨0, by omega, rfl, hst0, hs3, hb3⟩
  case round =>
    clear hst0 hs3 hb3
    obtain ⟨n, hn, rfl, hv, hsz, hb⟩ := hrel
    by_cases hlt : n < 64
    · have hidx := HIX.out n hlt
      have hkc : wr.cell? ⟨2, n, none⟩ = some (.int .u32 (kW n)) := (hk1.below hb hk1.1).2 n hlt
      have cell := fun q (hq : q < 8) => (cell_of_row wr (w1.heap.size + 1) q _ _ _ hv).trans (wordsA_get 8 _ q hq)
      have c0 := cell 0 (by omega)
      have c1 := cell 1 (by omega)
      have c2 := cell 2 (by omega)
      have c3 := cell 3 (by omega)
      have c4 := cell 4 (by omega)
      have c5 := cell 5 (by omega)
      have c6 := cell 6 (by omega)
      have c7 := cell 7 (by omega)
      obtain ⟨x0, x1⟩ := HW.out n
      obtain ⟨y0, y1⟩ := kW_bd n
      have hbn := HB.out n
      obtain ⟨a0, a1⟩ := hbn 0
      obtain ⟨e0, e1⟩ := hbn 4
      have HR : Hid (roundsF st W (n + 1) = rndF (roundsF st W n) (kW n) (W n)) := rfl
      generalize hV : roundsF st W n = V at *
      have n0 : (0 : Int) ≤ (n : Int) := by omega
      have n1 : (n : Int) < 64 := by omega
      clear cell hV hbn
      have CT := Lib.hid (fun (wx : World) => turned_any (V 4) wx e0 e1 6 11 25 26 21 7 (by decide) (by decide) (by decide))
      have CA := Lib.hid (fun (wx : World) => turned_any (V 0) wx a0 a1 2 13 22 30 19 10 (by decide) (by decide) (by decide))
      go_wp2_with fail
      go_quiet ((go_at_call 67; exact Calls.quiet_of_same ((CT.out _).mono (fun _ _ h => ⟨h.1, h.2.symm⟩))))
      go_wp2_with fail
      refine (CA.out _).mono ?_
      rintro e w' ⟨rfl, rfl⟩
      have fz := fun j => frozen_of_row wr (w1.heap.size + 1) j _ _ hv
      have f0 := fz 0
      have f1 := fz 1
      have f2 := fz 2
      have f3 := fz 3
      have f4 := fz 4
      have f5 := fz 5
      have f6 := fz 6
      have f7 := fz 7
      have HV : Hid ((wr.drewN nq).heap[w1.heap.size + 1]? = some (.cells (wordsA 8 V) 80 (0, 0))) := hv
      have HZ := Lib.hid hsz
      clear fz hv hsz
      go_wp2
      go_roundw
      case rel =>
        have hb' : Below w1.heap.size w1 (wr.drewN nq) := ⟨hb.os, hb.tape, hb.output, hb.size, hb.block⟩
        refine ⟨n + 1, by omega, by go_num, ?_, by have := HZ.out; simpa [World.setCell] using this, ?_⟩
        · rw [HR.out]
          refine (set8 HV.out (wordsA_size 8 V) _ _ _ _ _ _ _ _).trans ?_
          rw [wordsA8, new0_flat, new4_flat]
          rfl
        · exact (((((((hb'.setCell (by simp) _).setCell (by simp) _).setCell (by simp) _).setCell (by simp) _).setCell (by simp) _).setCell (by simp) _).setCell (by simp) _).setCell (by simp) _
      case measure => simp [intOf]; omega
    · have hne : n = 64 := by omega
      have hpn : (64 : Int) ≤ (n : Int) := by omega
      rw [hne] at hv
      have hbR := HB.out 64
      have HCE : Hid (∀ q, compF st W q = add32 (st q) (roundsF st W 64 q)) := fun _ => rfl
      generalize roundsF st W 64 = R at *
      clear hlt hne HB HIX HW hn
      have hgr : w.grownBy wr (some g) := ⟨by rw [hb.os, hb1.os], by rw [hb.tape, hb1.tape], by rw [hb.output, hb1.output], Nat.le_trans hb1.size hb.size, fun k hk _ => by rw [hb.block k (Nat.lt_of_lt_of_le hk hb1.size), hb1.block k hk]⟩
      have hdr : wr.heap[g]? = some (.cells (digA st bk u z) 88 (0, 0)) := by rw [hb.block g hg1]; exact hd1.1
      have hbs := hd1.2.1
      have HC2 := Lib.hid hd1.2.2
      have h8 : (Tryd.prog.info? 80).map (·.size) = some (wordsA 8 R).size := by rw [wordsA_size]; exact size_w8
      have H8 := Lib.hid h8
      have HIX := Lib.hid (fun (i : Nat) (hi : i < 8) (wx : World) => run_index_arr (P := Tryd.prog) wx 80 64 8 (wordsA 8 R) .i64 .u32 i (.int .u32 (R i)) Tryd.underlying80 Tryd.underlying64 size_u32 hi (wordsA_get 8 R i hi))
      have HBS := Lib.hid hbs
      have HBR := Lib.hid hbR
      clear h8 hbs hbR hsz hb hk hk1 hd1 hd hb1 hgl
      go_wp2_with (first
        | with_reducible refine wpList_load_row (o := ⟨some 92, _, _, _, _, _⟩) rfl 80 _ rfl (w1.heap.size + 1) rfl 80 (wordsA 8 R) (0, 0) (.array 8 64) hv Tryd.underlying80 rfl H8.out ?_)
      obtain ⟨wo, rfl⟩ : ∃ wo : World, wo = wr := ⟨_, rfl⟩
      clear hv H8
      go_loopw [93] (fun i wr => ∃ m : Nat, m ≤ 8 ∧ i = .int .i64 m ∧ wr.heap[g]? = some (.cells (digA (fun q => if q < m then add32 (st q) (R q) else st q) bk u z) 88 (0, 0)) ∧ w.grownBy wr (some g))
        (fun i _ => 8 - (intOf i).toNat)
      case atStart => exact ⟨0, by omega, rfl, by simpa using hdr, hgr⟩
      case round =>
        clear hdr hgr
        obtain ⟨m, hm, rfl, hd, hgr⟩ := hrel
        by_cases hlt : m < 8
        · have hidx := HIX.out m hlt
          have c0 := (cell_of_row wr g m _ _ _ hd).trans (dig_st _ _ _ _ m hlt)
          rw [if_neg (Nat.lt_irrefl m)] at c0
          have f0 := frozen_of_row wr g m _ _ hd
          obtain ⟨a0, a1⟩ := HBS.out m
          obtain ⟨b0, b1⟩ := HBR.out m
          have m0 : (0 : Int) ≤ (m : Int) := by omega
          have m8 : (m : Int) < 8 := by omega
          have HD := Lib.hid hd
          clear hd
          go_wp2
          go_still_tail 11, (by kernel_rfl)
          go_wp2
          go_roundw
          case rel =>
            refine ⟨m + 1, by omega, by go_num, ?_, ?_⟩
            · rw [← add32_mod]
              show (wr.setCell ⟨g, m, none⟩ _).heap[g]? = _
              rw [heap_setCell_same wr g m _ _ _ HD.out, dig_set_st _ _ _ _ m hlt]
              congr 3
              funext q
              by_cases h1 : q = m
              · subst h1; rw [if_pos rfl, if_pos (by omega)]
              · by_cases h2 : q < m
                · rw [if_neg h1, if_pos h2, if_pos (by omega)]
                · rw [if_neg h1, if_neg h2, if_neg (by omega)]
            · have hx := gr_set hgr m (Value.int IntKind.u32 ((st m + R m) % 4294967296))
              exact ⟨hx.os, hx.tape, hx.output, hx.size, hx.block⟩
          case measure => simp [intOf]; omega
        · have hme : m = 8 := by omega
          have hpm : (8 : Int) ≤ (m : Int) := by omega
          go_wp2
          go_end0
          rw [HWE.out]
          refine ⟨rfl, ⟨?_, ?_, HC2.out⟩, hgr⟩
          · rw [hd, hme]
            refine congrArg (fun a => some (Obj.cells a _ _)) (dig_ext (st := st) (bk := bk) (u := u) (z := z) (digA_size _ _ _ _) ?_ (fun q hq => dig_bk _ _ _ _ q hq) (dig_used _ _ _ _) (dig_size _ _ _ _))
            intro q hq
            rw [dig_st _ _ _ _ q hq, if_pos hq, HCE.out]
          · exact compF_bd st W

end Go.Proofs.YtgjnoleejbkddaaDoor

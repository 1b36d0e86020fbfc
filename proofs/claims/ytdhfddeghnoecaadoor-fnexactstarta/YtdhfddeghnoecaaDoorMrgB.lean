/- The contract of the program's mix: one block is taken into the state. -/
import Derived.Test.YtdhfddeghnoecaaDoorMrgA
import Derived.StillTailTactics
import Derived.Test.YtdhfddeghnoecaaDoorRows
import Derived.Test.YtdhfddeghnoecaaDoorMath1
import Derived.WalkKit
import Derived.ProofKit
import Derived.Deep.RegionHeld3
import Derived.Deep.AppendLies
import Derived.WalkSpells
import Derived.WalkLawsBesides
import Derived.Lib.BufferWrite
namespace Go.Proofs.YtdhfddeghnoecaaDoor
open Go.RowKit Go.My Go.Lib
set_option linter.unusedVariables false

/-- Block g is a digest. -/
def Dig (w : World) (g : Nat) (st bk : Nat → Int) (used size : Int) : Prop := w.heap[g]? = some (.cells (digA st bk used size) 126 (0, 0)) ∧ Bd st ∧ ∀ q, 0 ≤ bk q ∧ bk q ≤ 255
/-- The table of round words. -/
def TabK (w : World) : Prop := 2 < w.heap.size ∧ ∀ i, i < 64 → w.cell? ⟨2, i, none⟩ = some (.int .u32 (kW i))
theorem TabK.below {w w' : World} {B : Nat} (h : TabK w) (hb : Below B w w') (hB : 2 < B) : TabK w' := ⟨Nat.lt_of_lt_of_le h.1 hb.size, fun i hi => by rw [hb.cell (p := ⟨2, i, none⟩) hB]; exact h.2 i hi⟩
theorem TabK.grown {w w' : World} {g : Nat} (h : TabK w) (hg : w.grownBy w' (some g)) (h0 : 2 < g) : TabK w' := h.below (B := 2 + 1) ⟨hg.os, hg.tape, hg.output, hg.size, fun k hk => hg.block k (by have := h.1; omega) (by simp; omega)⟩ (by omega)
theorem Dig.below {w w' : World} {B g : Nat} {st bk : Nat → Int} {u z : Int} (h : Dig w g st bk u z) (hb : Below B w w') (hg : g < B) : Dig w' g st bk u z := ⟨by rw [hb.block g hg]; exact h.1, h.2⟩
theorem Dig.lt {w : World} {g : Nat} {st bk : Nat → Int} {u z : Int} (h : Dig w g st bk u z) : g < w.heap.size := (Array.getElem?_eq_some_iff.1 h.1).1

theorem gr_set {w w' : World} {b : Nat} (h : w.grownBy w' (some b)) (i : Nat) (v : Value) : w.grownBy (w'.setCell ⟨b, i, none⟩ v) (some b) :=
  ⟨h.os, h.tape, h.output, by simpa [World.setCell] using h.size, fun k hk hne => (heap_setCell_other _ _ _ _ (by intro e; exact hne (by rw [e]))).trans (h.block k hk hne)⟩
theorem gr_trans {a b c : World} {g : Nat} (h1 : a.grownBy b (some g)) (h2 : b.grownBy c (some g)) : a.grownBy c (some g) :=
  ⟨h2.os.trans h1.os, h2.tape.trans h1.tape, h2.output.trans h1.output, Nat.le_trans h1.size h2.size, fun k hk hne => (h2.block k (Nat.lt_of_lt_of_le hk h1.size) hne).trans (h1.block k hk hne)⟩
theorem gr_below {a b : World} {g B : Nat} (h : Below B a b) (hB : a.heap.size ≤ B) : a.grownBy b (some g) := ⟨h.os, h.tape, h.output, h.size, fun k hk _ => h.block k (Nat.lt_of_lt_of_le hk hB)⟩
theorem gr_refl (a : World) (g : Nat) : a.grownBy a (some g) := ⟨rfl, rfl, rfl, Nat.le_refl _, fun _ _ _ => rfl⟩
theorem gr_drew {a b : World} {g : Nat} (h : a.grownBy b (some g)) : a.grownBy b.drew (some g) := ⟨h.os, h.tape, h.output, h.size, h.block⟩

abbrev ZS8 : Array Value := #[Value.int .u32 0, Value.int .u32 0, Value.int .u32 0, Value.int .u32 0, Value.int .u32 0, Value.int .u32 0, Value.int .u32 0, Value.int .u32 0]

set_option maxHeartbeats 2000000 in
set_option maxRecDepth 100000 in
theorem mix_any (g : Nat) (st bk : Nat → Int) (u z : Int) (w : World) (hd : Dig w g st bk u z) (hk : TabK w) (h0 : 2 < g) :
    Calls Tryd.prog 102 #[.pointer (some ⟨g, 0, none⟩)] w fun e w' => e = .returned (.tuple #[]) ∧ Dig w' g (compF st (schW (prtW bk 64))) bk u z ∧ w.grownBy w' (some g) := by
  have hgl := hd.lt
  have hrb : w.rangeAt g 8 (bytesL bk) := fun j v hv => by
    have hj : j < 64 := by have := (List.getElem?_eq_some_iff.1 hv).1; rw [bytesL_len] at this; exact this
    rw [cell_of_row w g (8 + j) _ _ _ hd.1, dig_bk _ _ _ _ j hj, ← hv, bytesL_get bk j hj]
  have hW := schW_bd (prtW bk 64) (prtW_bd bk 64)
  go_enter Tryd.func102, Tryd.ntmps102
  go_wp2_with fail
  refine (sched_any g bk _ hd.2.2 hrb hgl).mono ?_
  rintro e w1 ⟨rfl, hb1⟩
  generalize hWe : schW (prtW bk 64) = W at *
  have HWE := Lib.hid hWe
  clear hWe
  have hd1 := hd.below hb1 hgl
  have hk1 := hk.below hb1 (by omega)
  have hg1 : g < w1.heap.size := hd1.lt
  have h64 : (Tryd.prog.info? 120).map (·.size) = some (wordsA 64 W).size := by rw [wordsA_size]; exact size_w64
  have hzs : Z64.size = (wordsA 64 W).size := by rw [wordsA_size]; rfl
  have h8 : (Tryd.prog.info? 122).map (·.size) = some (wordsL 8 st).length := by rw [wordsL_len]; exact size_w8
  have h8a : (Tryd.prog.info? 122).map (·.size) = some (wordsL 8 st).toArray.size := by simpa using h8
  have hz8 : ZS8.size = (wordsL 8 st).toArray.size := by simp [wordsL_len]
  have H64 := Lib.hid h64
  have HZS := Lib.hid hzs
  have H1C := Lib.hid (wordsA_one 64 W)
  have H8 := Lib.hid h8
  have H8A := Lib.hid h8a
  have HZ8 := Lib.hid hz8
  have H1S := Lib.hid (show (wordsL 8 st).toArray.all (·.oneCell') = true from wordsA_one 8 st)
  clear h64 hzs h8 h8a hz8 hrb
  go_wp2_with (first
    | ((with_reducible refine wpList_store_row' (o := ⟨none, .store 120 _ _, _, _, _, _⟩) rfl 120 _ _ rfl w1.heap.size (wordsA 64 W) rfl rfl 120 Z64 (heap_alloc_new w1 _) H64.out HZS.out H1C.out ?_); intro w2 hw2 hs2' hg2'; have hs2 : w2.heap.size = w1.heap.size + 1 := (by simpa using hs2'); have HN := Lib.hid (fun (o : Obj) => (show (w2.alloc o).heap[w1.heap.size + 1]? = some o from (by rw [← hs2]; exact heap_alloc_new w2 o))); clear hs2')
    | ((with_reducible refine wpList_load_mid (op := ⟨some 17, _, _, _, _, _⟩) rfl 122 _ rfl g 0 rfl (wordsL 8 st) (.array 8 119) ?cr Tryd.underlying122 rfl H8.out ?_))
    | ((with_reducible refine wpList_store_row' (o := ⟨none, .store 122 _ _, _, _, _, _⟩) rfl 122 _ _ rfl (w1.heap.size + 1) (wordsL 8 st).toArray rfl rfl 122 ZS8 (HN.out _) H8A.out HZ8.out H1S.out ?_); intro w3 hw3 hs3' hg3; have hs3 : w3.heap.size = w1.heap.size + 2 := (by have := hs3'; simp at this; omega); have hw3w : w3.heap[w1.heap.size]? = some (.cells (wordsA 64 W) 120 (0, 0)) := (by rw [hg3.block w1.heap.size (by simp; omega) (by simp), Below.heap_alloc w2 _ w1.heap.size (by omega)]; exact hw2); clear hs3')
    | (with_reducible refine wpList_load_row (o := ⟨some 18, _, _, _, _, _⟩) rfl 120 _ rfl w1.heap.size rfl 120 (wordsA 64 W) (0, 0) (.array 64 119) hw3w Tryd.underlying120 rfl H64.out ?_))
  case cr =>
    intro j v hv
    have hj : j < 8 := by have := (List.getElem?_eq_some_iff.1 hv).1; rw [wordsL_len] at this; exact this
    have hb2 : Below w1.heap.size w1 w2 := ((Below.refl _ _).alloc (Nat.le_refl _) _).grown hg2' (by simp) (by simp)
    rw [hb2.cell (p := ⟨g, 0 + j, none⟩) hg1, cell_of_row w1 g (0 + j) _ _ _ hd1.1, Nat.zero_add, dig_st _ _ _ _ j hj, ← hv, wordsL_get 8 st j hj]
  have hb3 : Below w1.heap.size w1 w3 := by
    have hb2 : Below w1.heap.size w1 w2 := ((Below.refl _ _).alloc (Nat.le_refl _) _).grown hg2' (by simp) (by simp)
    exact (hb2.alloc (by omega) _).grown hg3 (by simp; omega) (by simp)
  have hbd := hd1.2.1
  have HIX := Lib.hid (fun (i : Nat) (hi : i < 64) (wx : World) => run_index_arr (P := Tryd.prog) wx 120 119 64 (wordsA 64 W) .i64 .u32 i (.int .u32 (W i)) Tryd.underlying120 Tryd.underlying119 size_u32 hi (wordsA_get 64 W i hi))
  have HB := Lib.hid (roundsF_bd st W hbd)
  have HW := Lib.hid hW
  clear hw2 hg2' hg3 HN H64 HZS H1C H8 H8A HZ8 H1S hbd hW
  have hst0 : w3.heap[w1.heap.size + 1]? = some (.cells (wordsA 8 (roundsF st W 0)) 122 (0, 0)) := hw3
  clear hw3 hw3w hs2
  go_loopw [19] (fun i wr => ∃ n : Nat, n ≤ 64 ∧ i = .int .i64 n ∧ wr.heap[w1.heap.size + 1]? = some (.cells (wordsA 8 (roundsF st W n)) 122 (0, 0)) ∧ wr.heap.size = w1.heap.size + 2 ∧ Below w1.heap.size w1 wr)
    (fun i _ => 64 - (intOf i).toNat)
  case atStart => exact ⟨0, by omega, rfl, hst0, hs3, hb3⟩
  case round =>
    clear hst0 hs3 hb3
    obtain ⟨n, hn, rfl, hv, hsz, hb⟩ := hrel
    by_cases hlt : n < 64
    · have hidx := HIX.out n hlt
      have hkc : wr.cell? ⟨2, n, none⟩ = some (.int .u32 (kW n)) := (hk1.below hb hk1.1).2 n hlt
      have cell := fun q (hq : q < 8) => (cell_of_row wr (w1.heap.size + 1) q _ _ _ hv).trans (wordsA_get 8 _ q hq)
      have c0 := cell 0 (by omega)
      have c1 := cell 1 (by omega)
      have c2 := cell 2 (by omega)
      have c3 := cell 3 (by omega)
      have c4 := cell 4 (by omega)
      have c5 := cell 5 (by omega)
      have c6 := cell 6 (by omega)
      have c7 := cell 7 (by omega)
      obtain ⟨x0, x1⟩ := HW.out n
      obtain ⟨y0, y1⟩ := kW_bd n
      have hbn := HB.out n
      obtain ⟨a0, a1⟩ := hbn 0
      obtain ⟨e0, e1⟩ := hbn 4
      have HR : Hid (roundsF st W (n + 1) = rndF (roundsF st W n) (kW n) (W n)) := rfl
      generalize hV : roundsF st W n = V at *
      have n0 : (0 : Int) ≤ (n : Int) := by omega
      have n1 : (n : Int) < 64 := by omega
      clear cell hV hbn
      have CT := Lib.hid (fun (wx : World) => turned_any (V 4) wx e0 e1 6 11 25 26 21 7 (by decide) (by decide) (by decide))
      have CA := Lib.hid (fun (wx : World) => turned_any (V 0) wx a0 a1 2 13 22 30 19 10 (by decide) (by decide) (by decide))
      go_wp2_with fail
      go_quiet ((go_at_call 104; exact Calls.quiet_of_same ((CT.out _).mono (fun _ _ h => ⟨h.1, h.2.symm⟩))))
      go_wp2_with fail
      refine (CA.out _).mono ?_
      rintro e w' ⟨rfl, rfl⟩
      have fz := fun j => frozen_of_row wr (w1.heap.size + 1) j _ _ hv
      have f0 := fz 0
      have f1 := fz 1
      have f2 := fz 2
      have f3 := fz 3
      have f4 := fz 4
      have f5 := fz 5
      have f6 := fz 6
      have f7 := fz 7
      have HV : Hid ((wr.drewN nq).heap[w1.heap.size + 1]? = some (.cells (wordsA 8 V) 122 (0, 0))) := hv
      have HZ := Lib.hid hsz
      clear fz hv hsz
      go_wp2
      go_roundw
      case rel =>
        have hb' : Below w1.heap.size w1 (wr.drewN nq) := ⟨hb.os, hb.tape, hb.output, hb.size, hb.block⟩
        refine ⟨n + 1, by omega, by go_num, ?_, by have := HZ.out; simpa [World.setCell] using this, ?_⟩
        · rw [HR.out]
          refine (set8 HV.out (wordsA_size 8 V) _ _ _ _ _ _ _ _).trans ?_
          rw [wordsA8, new0_flat, new4_flat]
          rfl
        · exact (((((((hb'.setCell (by simp) _).setCell (by simp) _).setCell (by simp) _).setCell (by simp) _).setCell (by simp) _).setCell (by simp) _).setCell (by simp) _).setCell (by simp) _
      case measure => simp [intOf]; omega
    · have hne : n = 64 := by omega
      have hpn : (64 : Int) ≤ (n : Int) := by omega
      rw [hne] at hv
      have hbR := HB.out 64
      have HCE : Hid (∀ q, compF st W q = add32 (st q) (roundsF st W 64 q)) := fun _ => rfl
      generalize roundsF st W 64 = R at *
      clear hlt hne HB HIX HW hn
      have hgr : w.grownBy wr (some g) := ⟨by rw [hb.os, hb1.os], by rw [hb.tape, hb1.tape], by rw [hb.output, hb1.output], Nat.le_trans hb1.size hb.size, fun k hk _ => by rw [hb.block k (Nat.lt_of_lt_of_le hk hb1.size), hb1.block k hk]⟩
      have hdr : wr.heap[g]? = some (.cells (digA st bk u z) 126 (0, 0)) := by rw [hb.block g hg1]; exact hd1.1
      have hbs := hd1.2.1
      have HC2 := Lib.hid hd1.2.2
      have h8 : (Tryd.prog.info? 122).map (·.size) = some (wordsA 8 R).size := by rw [wordsA_size]; exact size_w8
      have H8 := Lib.hid h8
      have HIX := Lib.hid (fun (i : Nat) (hi : i < 8) (wx : World) => run_index_arr (P := Tryd.prog) wx 122 119 8 (wordsA 8 R) .i64 .u32 i (.int .u32 (R i)) Tryd.underlying122 Tryd.underlying119 size_u32 hi (wordsA_get 8 R i hi))
      have HBS := Lib.hid hbs
      have HBR := Lib.hid hbR
      clear h8 hbs hbR hsz hb hk hk1 hd1 hd hb1 hgl
      go_wp2_with (first
        | with_reducible refine wpList_load_row (o := ⟨some 92, _, _, _, _, _⟩) rfl 122 _ rfl (w1.heap.size + 1) rfl 122 (wordsA 8 R) (0, 0) (.array 8 119) hv Tryd.underlying122 rfl H8.out ?_)
      obtain ⟨wo, rfl⟩ : ∃ wo : World, wo = wr := ⟨_, rfl⟩
      clear hv H8
      go_loopw [93] (fun i wr => ∃ m : Nat, m ≤ 8 ∧ i = .int .i64 m ∧ wr.heap[g]? = some (.cells (digA (fun q => if q < m then add32 (st q) (R q) else st q) bk u z) 126 (0, 0)) ∧ w.grownBy wr (some g))
        (fun i _ => 8 - (intOf i).toNat)
      case atStart => exact ⟨0, by omega, rfl, by simpa using hdr, hgr⟩
      case round =>
        clear hdr hgr
        obtain ⟨m, hm, rfl, hd, hgr⟩ := hrel
        by_cases hlt : m < 8
        · have hidx := HIX.out m hlt
          have c0 := (cell_of_row wr g m _ _ _ hd).trans (dig_st _ _ _ _ m hlt)
          rw [if_neg (Nat.lt_irrefl m)] at c0
          have f0 := frozen_of_row wr g m _ _ hd
          obtain ⟨a0, a1⟩ := HBS.out m
          obtain ⟨b0, b1⟩ := HBR.out m
          have m0 : (0 : Int) ≤ (m : Int) := by omega
          have m8 : (m : Int) < 8 := by omega
          have HD := Lib.hid hd
          clear hd
          go_wp2
          go_still_tail 11, (by kernel_rfl)
          go_wp2
          go_roundw
          case rel =>
            refine ⟨m + 1, by omega, by go_num, ?_, ?_⟩
            · rw [← add32_mod]
              show (wr.setCell ⟨g, m, none⟩ _).heap[g]? = _
              rw [heap_setCell_same wr g m _ _ _ HD.out, dig_set_st _ _ _ _ m hlt]
              congr 3
              funext q
              by_cases h1 : q = m
              · subst h1; rw [if_pos rfl, if_pos (by omega)]
              · by_cases h2 : q < m
                · rw [if_neg h1, if_pos h2, if_pos (by omega)]
                · rw [if_neg h1, if_neg h2, if_neg (by omega)]
            · have hx := gr_set hgr m (Value.int IntKind.u32 ((st m + R m) % 4294967296))
              exact ⟨hx.os, hx.tape, hx.output, hx.size, hx.block⟩
          case measure => simp [intOf]; omega
        · have hme : m = 8 := by omega
          have hpm : (8 : Int) ≤ (m : Int) := by omega
          go_wp2
          go_end0
          rw [HWE.out]
          refine ⟨rfl, ⟨?_, ?_, HC2.out⟩, hgr⟩
          · rw [hd, hme]
            refine congrArg (fun a => some (Obj.cells a _ _)) (dig_ext (st := st) (bk := bk) (u := u) (z := z) (digA_size _ _ _ _) ?_ (fun q hq => dig_bk _ _ _ _ q hq) (dig_used _ _ _ _) (dig_size _ _ _ _))
            intro q hq
            rw [dig_st _ _ _ _ q hq, if_pos hq, HCE.out]
          · exact compF_bd st W

end Go.Proofs.YtdhfddeghnoecaaDoor

/- The contract of the program's write: the bytes go into the digest one by one. -/
namespace Go.Proofs.YtdhfddeghnoecaaDoor
open Go.RowKit Go.My Go.Lib
set_option linter.unusedVariables false

/-- Block g is a digest in state S, z bytes written. -/
def DigS (w : World) (g : Nat) (S : DS) (z : Nat) : Prop := Dig w g S.st S.bk (S.u : Int) (z : Int) ∧ S.u < 64

theorem put_row {wr : World} {g : Nat} {T : DS} {z : Int} (h : wr.heap[g]? = some (.cells (digA T.st T.bk (T.u : Int) z) 126 (0, 0))) (hu : T.u < 64) (b x : Int) :
    ((wr.setCell ⟨g, 8 + T.u, none⟩ (.int .u8 b)).setCell ⟨g, 72, none⟩ (.int .i64 x)).heap[g]? = some (.cells (digA T.st (bput T.bk T.u b) x z) 126 (0, 0)) := by
  have h1 := heap_setCell_same wr g (8 + T.u) _ _ (.int .u8 b) h
  rw [dig_set_bk _ _ _ _ T.u hu] at h1
  have h2 := heap_setCell_same _ g 72 _ _ (.int .i64 x) h1
  rw [dig_set_used] at h2
  exact h2

set_option maxHeartbeats 2000000 in
set_option maxRecDepth 100000 in
theorem writeD_any (g : Nat) (S : DS) (z : Nat) (s : ByteArray) (w : World) (hd : DigS w g S z) (hk : TabK w) (h0 : 2 < g) (hs : s.size < 1000000) (hz : z < 1000000) :
    Calls Tryd.prog 92 #[.pointer (some ⟨g, 0, none⟩), .string s] w fun e w' => e = .returned (.tuple #[]) ∧ DigS w' g (dputs S s.data.toList) (z + s.size) ∧ w.grownBy w' (some g) := by
  have hs1 : (s.size : Int) ≤ 1000000 := by omega
  have HS := Lib.hid hs
  have HZ := Lib.hid hz
  clear hs hz
  go_enter Tryd.func92, Tryd.ntmps92
  go_wp2
  have hst : DigS w g (dputs S (s.data.toList.take 0)) z := by simpa [dputs] using hd
  go_loopw [4] (fun i wr => ∃ n : Nat, n ≤ s.size ∧ i = .int .i64 n ∧ DigS wr g (dputs S (s.data.toList.take n)) z ∧ w.grownBy wr (some g))
    (fun i _ => s.size - (intOf i).toNat)
  case atStart => exact ⟨0, by omega, rfl, hst, gr_refl _ _⟩
  case round =>
    clear hst hd
    obtain ⟨n, hn, rfl, hd, hgr⟩ := hrel
    by_cases hlt : n < s.size
    · have hm : ∀ b : UInt8, s[n]'hlt = b → dputs S (s.data.toList.take (n + 1)) = dstep (dputs S (s.data.toList.take n)) b := fun b hb => by rw [take_snoc s n hlt, dputs_snoc, hb]
      generalize dputs S (s.data.toList.take n) = T at *
      obtain ⟨⟨hrow, hbst, hbbk⟩, hu⟩ := hd
      have cu := (cell_of_row wr g 72 _ _ _ hrow).trans (dig_used _ _ _ _)
      have cb := (cell_of_row wr g (8 + T.u) _ _ _ hrow).trans (dig_bk _ _ _ _ T.u hu)
      have fu := frozen_of_row wr g 72 _ _ hrow
      have fb := frozen_of_row wr g (8 + T.u) _ _ hrow
      have n1 : ¬ 8 + T.u = 72 := by omega
      have n2 : ¬ 72 = 8 + T.u := by omega
      have u0 : (0 : Int) ≤ (T.u : Int) := by omega
      have u1 : (T.u : Int) < 64 := by omega
      have HROW := Lib.hid hrow
      have HM := Lib.hid hm
      clear hrow hm
      have k0 : (0 : Int) ≤ (n : Int) := by omega
      have k1 : (n : Int) < (s.size : Int) := by omega
      by_cases h64 : T.u + 1 = 64
      · have ue : (T.u : Int) + 1 = 64 := by omega
        have H64 := Lib.hid h64
        clear h64
        go_wp2
        go_still_tail 11, (by kernel_rfl)
        go_wp2_with fail
        have hgr2 := gr_set (gr_set hgr (8 + T.u) (.int .u8 ((s[n]'hlt).toNat : Int))) 72 (.int .i64 64)
        have hk2 := hk.grown hgr2 h0
        have hd2 : Dig _ g T.st (bput T.bk T.u ((s[n]'hlt).toNat : Int)) 64 z := ⟨put_row HROW.out hu ((s[n]'hlt).toNat : Int) 64, hbst, bput_bd _ _ _ hbbk⟩
        refine (mix_any g T.st (bput T.bk T.u ((s[n]'hlt).toNat : Int)) 64 z _ ?hd ?hk h0).mono ?_
        case hd => exact hd2
        case hk => exact hk2
        rintro e w5 ⟨rfl, hd5, hgr5⟩
        have hgr6 : w.grownBy w5 (some g) := gr_trans (gr_drew hgr2) hgr5
        have c5 := (cell_of_row w5 g 72 _ _ _ hd5.1).trans (dig_used _ _ _ _)
        have f5 := frozen_of_row w5 g 72 _ _ hd5.1
        have HD5 := Lib.hid hd5
        have HD := HM.out _ rfl
        rw [dstep_mix _ _ H64.out] at HD
        have HDD := Lib.hid HD
        clear hgr2 hk2 hd2 hgr5 hd5 cu cb fu fb HROW HM hgr HD
        go_wp2
        go_roundw
        case rel =>
          refine ⟨n + 1, by omega, by go_num, ?_, ?_⟩
          · rw [HDD.out]
            refine ⟨⟨?_, HD5.out.2⟩, (by decide : 0 < 64)⟩
            have h7 := heap_setCell_same _ g 72 _ _ (.int .i64 0) HD5.out.1
            rw [dig_set_used] at h7
            exact h7
          · exact gr_set hgr6 72 (.int .i64 0)
        case measure => simp [intOf]; omega
      · have u2 : (T.u : Int) + 1 < 64 := by omega
        go_wp2
        go_still_tail 11, (by kernel_rfl)
        go_wp2
        have HD := HM.out _ rfl
        rw [dstep_put _ _ h64] at HD
        go_roundw
        case rel =>
          refine ⟨n + 1, by omega, by go_num, ?_, ?_⟩
          · rw [HD]
            exact ⟨⟨put_row HROW.out hu ((s[n]'hlt).toNat : Int) ((T.u : Int) + 1), hbst, bput_bd _ _ _ hbbk⟩, (by omega : T.u + 1 < 64)⟩
          · exact gr_drew (gr_set (gr_set hgr _ _) _ _)
        case measure => simp [intOf]; omega
    · have hne : n = s.size := by omega
      have hc : (s.size : Int) ≤ (n : Int) := by omega
      have HNE := Lib.hid hne
      obtain ⟨⟨hrow, hbst, hbbk⟩, hu⟩ := hd
      have cz := (cell_of_row wr g 73 _ _ _ hrow).trans (dig_size _ _ _ _)
      have fz := frozen_of_row wr g 73 _ _ hrow
      have z0 : (0 : Int) ≤ (z : Int) := by omega
      have z1 : (z : Int) ≤ 1000000 := by have := HZ.out; omega
      have HROW := Lib.hid hrow
      clear hlt hn hne hrow
      go_wp2
      go_end0
      refine ⟨rfl, ⟨⟨?_, ?_, ?_⟩, ?_⟩, gr_set hgr _ _⟩
      · have h7 := heap_setCell_same _ g 73 _ _ (.int .u64 ((z : Int) + (s.size : Int))) HROW.out
        rw [dig_set_size, HNE.out, take_all] at h7
        rw [Int.natCast_add]
        exact h7
      · rw [HNE.out, take_all] at hbst; exact hbst
      · rw [HNE.out, take_all] at hbbk; exact hbbk
      · rw [HNE.out, take_all] at hu; exact hu

end Go.Proofs.YtdhfddeghnoecaaDoor

/- The contracts of the big-endian encodings: bigEndian of the program, l1Be of the specification. -/
namespace Go.Proofs.YtdhfddeghnoecaaDoor
open Go.RowKit Go.My
set_option linter.unusedVariables false
set_option maxRecDepth 100000

theorem info_u8b : (Tryd.prog.info? 5).map (fun i => (i.zero, i.size, i.bytes)) = some (some (.int .u8 0), 1, 1) := by kernel_rfl

set_option maxHeartbeats 400000 in
theorem be_impl (n : Nat) (k : Nat) (w : World) (hn : n < U64) (hk : k ≤ 8) :
    Calls Tryd.prog 94 #[.int .u64 n, .int .i64 k] w fun e w' => e = .returned (.string (str (beL n k))) ∧ Below w.heap.size w w' := by
  obtain ⟨i0, hi, hz0, hz1, hz2⟩ := info_parts info_u8b
  have hk8 : (k : Int) ≤ 8 := by omega
  have hk0 : (0 : Int) ≤ (k : Int) := by omega
  have hn0 : (0 : Int) ≤ (n : Int) := by omega
  go_enter Tryd.func94, Tryd.ntmps94
  go_wp2_with (at_make; refine wpList_make_full _ rfl _ _ 70 rfl w.heap.size 5 i0 (.int .u8 0) 1 Tryd.underlying70 hi hz0 hz1 .i64 .i64 _ _ k rfl rfl rfl rfl ?c2 ?c3 ?c4 ?_)
  case c2 => rw [hz2]; omega
  case c3 => unfold maxLen; omega
  case c4 => exact Nat.le_refl _
  intro w1 hown hgrow
  have hb1 : Below w.heap.size w w1 := (Below.refl _ _).grown hgrow (Nat.le_refl _) (by simp)
  have hg1 : w.heap.size ≤ w.heap.size := Nat.le_refl _
  clear hgrow
  have ho : w1.ownsRow w.heap.size 5 1 (.slice (some ⟨w.heap.size, 0, none⟩) k k) k (cellsOf (beT n k 0 ++ List.replicate (k - (beT n k 0).length) 0)) := by
    have e : (madeCells #[Value.int .u8 0] k).toList = cellsOf (List.replicate k 0) := by rw [← fill_start]; exact toList_madeCells_one _ _
    rw [e] at hown
    exact hown
  clear hown
  go_wp2
  go_loopw [6, 11] (fun _ i wr => ∃ j : Nat, j ≤ k ∧ i = .int .i64 j ∧ wr.ownsRow w.heap.size 5 1 (.slice (some ⟨w.heap.size, 0, none⟩) k k) k (cellsOf (beT n k j ++ List.replicate (k - (beT n k j).length) 0)) ∧ Below w.heap.size w wr)
    (fun _ i _ => k - (intOf i).toNat)
  case atStart => exact ⟨0, Nat.zero_le _, rfl, ho, hb1⟩
  case round =>
    obtain ⟨j, hj, rfl, hown, hb⟩ := hrel
    by_cases hlt : j < k
    · have hj0 : (0 : Int) ≤ (j : Int) := Int.natCast_nonneg _
      have hj1 : (j : Int) < (k : Int) := by omega
      obtain ⟨hcell, hfz⟩ := store_cell (beT_len n k j) hlt hown
      have R := store_step (b := beAt n k j) (beT_len n k j) hlt hg1 hown hb
      rw [← beT_snoc, beAt_val] at R
      clear hown
      go_wp2
      go_roundw
      case rel => exact ⟨j + 1, by omega, by go_num, R.1, R.2⟩
      case measure => simp [intOf]; omega
    · obtain rfl : j = k := by omega
      rw [beT_len, Nat.sub_self, List.replicate_zero, List.append_nil] at hown
      have hcv := run_convert_own (P := Tryd.prog) wr 70 9 5 _ _ _ _ Tryd.underlying70 Tryd.underlying5 Tryd.underlying9 hown
      clear hown
      go_wp2
      go_ret
      exact ⟨rfl, hb⟩

set_option maxHeartbeats 400000 in
theorem be_spec (n : Int) (k : Nat) (w : World) (hn : (Lit.int .i64 n).wf = true) (hk : k ≤ 8) :
    Calls Tryd.prog 75 #[.int .i64 n, .int .i64 k] w fun e w' => e = .returned (.string (str (beL (IntKind.u64.wrap n).toNat k))) ∧ Below w.heap.size w w' := by
  obtain ⟨i0, hi, hz0, hz1, hz2⟩ := info_parts info_u8b
  obtain ⟨m, hm⟩ : ∃ m : Nat, IntKind.u64.wrap n = (m : Int) := ⟨(IntKind.u64.wrap n).toNat, by rw [IntKind.wrap_u64]; omega⟩
  have hk8 : (k : Int) ≤ 8 := by omega
  have hk0 : (0 : Int) ≤ (k : Int) := by omega
  rw [hm]
  go_enter Tryd.func75, Tryd.ntmps75
  go_wp2
  have hown : (w.alloc (.cells #[] 5)).ownsRow w.heap.size 5 1 (.slice (some ⟨w.heap.size, 0, none⟩) 0 0) 0 [] := World.ownsRow_lit w #[] 0 (Nat.le_refl _) (by unfold maxLen; omega) rfl
  have hb1 : Below w.heap.size w (w.alloc (.cells #[] 5)) := (Below.refl _ _).alloc (Nat.le_refl _) _
  go_loopw [5, 6] (fun v i wr => ∃ j : Nat, j ≤ k ∧ i = .int .i64 ((k : Int) - 1 - j) ∧ wr.ownsRow w.heap.size 5 1 v j (cellsOf (beT m k j)) ∧ Below w.heap.size w wr)
    (fun _ i _ => (intOf i + 1).toNat)
  case atStart => exact ⟨0, Nat.zero_le _, by go_num, hown, hb1⟩
  case round =>
    obtain ⟨j, hj, rfl, hown, hb⟩ := hrel
    by_cases hlt : j < k
    · have hj0 : (0 : Int) ≤ (j : Int) := Int.natCast_nonneg _
      have hj1 : (j : Int) < (k : Int) := by omega
      go_wp2_with (at_builtin; refine wpList_append_lies _ rfl _ _ 70 rfl w.heap.size 5 i0 (.int .u8 0) 1 1 Tryd.underlying70 hi hz0 hz1 hz2 rfl (by decide) u5 j _ rfl (hown.alloc _) ⟨wr.heap.size, 0, none⟩ 1 1 [_] rfl rfl (World.news_of_block (cs := #[_]) (t := 5) (fr := (0, 0)) (heap_alloc_new wr _)) (by simp [Value.oneCell']) (by omega) (by unfold maxLen; omega) (by omega) (by have := hb.size; simp; omega) (wr.heap.size + 1) (by simp) ?_; intro g cap w2 hown2 hgrow2 hat hlt2)
      rw [← beAt_val] at hown2
      have R := append_step (news := [beAt m k j]) hown (hb.alloc hb.size _) hown2 hgrow2
      rw [← beT_snoc] at R
      clear hown hown2 hgrow2
      go_roundw
      case rel => exact ⟨j + 1, by omega, by go_num, R.1, R.2⟩
      case measure => simp [intOf]; omega
    · obtain rfl : j = k := by omega
      have hcv := run_convert_own (P := Tryd.prog) wr 70 9 5 _ _ _ _ Tryd.underlying70 Tryd.underlying5 Tryd.underlying9 hown
      clear hown
      go_wp2
      go_ret
      exact ⟨rfl, hb⟩

end Go.Proofs.YtdhfddeghnoecaaDoor

/- The contract of the program's sum: the padding, the size, the state's words as bytes. -/
namespace Go.Proofs.YtdhfddeghnoecaaDoor
open Go.RowKit Go.My Go.Lib
set_option linter.unusedVariables false

set_option maxHeartbeats 2000000 in
set_option maxRecDepth 100000 in
theorem sum_any (g : Nat) (S : DS) (z : Nat) (w : World) (hd : DigS w g S z) (hk : TabK w) (h0 : 2 < g) (hz : z < 900000) :
    Calls Tryd.prog 124 #[.pointer (some ⟨g, 0, none⟩)] w fun e w' => e = .returned (.string (str (sumL S z))) ∧ w.grownBy w' (some g) := by
  have z1 : (z : Int) ≤ 900000 := by omega
  have z0 : (0 : Int) ≤ (z : Int) := by omega
  have HZ := Lib.hid hz
  have HD := Lib.hid hd
  have cz := (cell_of_row w g 73 _ _ _ hd.1.1).trans (dig_size _ _ _ _)
  clear hz hd
  go_enter Tryd.func124, Tryd.ntmps124
  go_wp2_with fail
  have hbe := be_impl (8 * z) 8 w (by have := HZ.out; unfold U64; omega) (by decide)
  rw [show ((8 * z : Nat) : Int) = 8 * (z : Int) by omega] at hbe
  refine hbe.mono ?_
  clear hbe
  rintro e w1 ⟨rfl, hb1⟩
  have hd1 : DigS w1 g S z := ⟨HD.out.1.below hb1 HD.out.1.lt, HD.out.2⟩
  have hk1 : TabK w1 := hk.below hb1 (by have := HD.out.1.lt; omega)
  have hgr1 : w.grownBy w1 (some g) := gr_below hb1 (Nat.le_refl _)
  generalize hSZ : beL (8 * z) 8 = SZ
  have hszl : SZ.length = 8 := by rw [← hSZ]; exact beT_len _ _ _
  have HSZ := Lib.hid hSZ
  clear hSZ hb1 cz
  go_wp2_with fail
  refine (writeD_any g S z ⟨#[128]⟩ _ hd1 hk1 h0 (by decide) (by have := HZ.out; omega)).mono ?_
  rintro e w2 ⟨rfl, hd2, hgr2'⟩
  have hgr2 := gr_trans hgr1 hgr2'
  have hk2 := hk1.grown hgr2' h0
  have hs1 : (⟨#[128]⟩ : ByteArray).data.toList = [128] := rfl
  have hs2 : (⟨#[128]⟩ : ByteArray).size = 1 := rfl
  rw [hs1, hs2] at hd2
  clear hd1 hk1 hgr1 hgr2' hs1 hs2
  obtain ⟨B, hB⟩ : ∃ B, B = str SZ := ⟨_, rfl⟩
  have hB8 : (B.size : Int) = 8 := by rw [hB, str_size, hszl]; rfl
  rw [← hB]
  have HB := Lib.hid hB
  clear hB hszl
  go_wp2_with fail
  have hst : DigS w2 g (dputs (dputs S [128]) (List.replicate 0 0)) (z + 1 + 0) := hd2
  have HU : Hid (S.u < 64) := HD.out.2
  have HT : Hid ((dputs S [128]).u = (S.u + 1) % 64) := dputs_u S [128] HD.out.2
  have HTL : Hid ((dputs S [128]).u < 64) := hd2.2
  clear hd2 HD
  generalize hTe : dputs S [128] = T at *
  have HTE := Lib.hid hTe
  clear hTe
  go_loopw [15] (fun _ wr => ∃ m : Nat, m ≤ padN S.u ∧ DigS wr g (dputs T (List.replicate m 0)) (z + 1 + m) ∧ w.grownBy wr (some g))
    (fun _ wr => match wr.cell? ⟨g, 73, none⟩ with | some (.int _ x) => z + 1 + 64 - x.toNat | _ => 0)
  case atStart => exact ⟨0, by omega, hst, hgr2⟩
  case round =>
    clear hst hgr2
    obtain ⟨m, hm, hd, hgr⟩ := hrel
    have hu : (dputs T (List.replicate m 0)).u = ((S.u + 1) % 64 + m) % 64 := by rw [dputs_u _ _ HTL.out, HT.out, List.length_replicate]
    have cu := (cell_of_row wr g 72 _ _ _ hd.1.1).trans (dig_used _ _ _ _)
    have cz := (cell_of_row wr g 73 _ _ _ hd.1.1).trans (dig_size _ _ _ _)
    by_cases hlt : m < padN S.u
    · have hne : (dputs T (List.replicate m 0)).u ≠ 56 := by rw [hu]; exact pad_u S.u m HU.out hlt
      have hne2 : ((((dputs T (List.replicate m 0)).u : Int)) != 56) = true := by simp; omega
      have hsn : dputs T (List.replicate (m + 1) 0) = dputs (dputs T (List.replicate m 0)) [0] := by rw [List.replicate_succ', dputs_append]
      have HP := Lib.hid (padN_lt S.u)
      have HSN := Lib.hid hsn
      have HM := Lib.hid (And.intro hm hlt)
      have hkr := hk.grown hgr h0
      clear hu hne hsn hm hlt
      generalize dputs T (List.replicate m 0) = R at *
      go_wp2_with fail
      refine (writeD_any g R (z + 1 + m) ⟨#[0]⟩ _ hd hkr h0 (by decide) (by have := HZ.out; have := HP.out; have := HM.out; omega)).mono ?_
      rintro e w3 ⟨rfl, hd3, hgr3⟩
      have hs1 : (⟨#[0]⟩ : ByteArray).data.toList = [0] := rfl
      have hs2 : (⟨#[0]⟩ : ByteArray).size = 1 := rfl
      rw [hs1, hs2] at hd3
      have cz3 := (cell_of_row w3 g 73 _ _ _ hd3.1.1).trans (dig_size _ _ _ _)
      go_wp2
      go_roundw
      case rel => exact ⟨m + 1, by have := HM.out; omega, by rw [HSN.out]; exact hd3, gr_trans hgr hgr3⟩
      case measure =>
        rw [cz, cz3]
        have := HP.out; have := HM.out
        show z + 1 + 64 - (((z + 1 + m + 1 : Nat) : Int)).toNat < z + 1 + 64 - (((z + 1 + m : Nat) : Int)).toNat
        omega
    · have hme : m = padN S.u := by omega
      have he : (dputs T (List.replicate m 0)).u = 56 := by rw [hu, hme]; exact pad_end S.u HU.out
      have he2 : ((dputs T (List.replicate m 0)).u : Int) = 56 := by omega
      have HME := Lib.hid hme
      have HP := Lib.hid (padN_lt S.u)
      have hkr := hk.grown hgr h0
      clear hu hlt hm hme he
      generalize hR : dputs T (List.replicate m 0) = R at *
      have HR := Lib.hid hR
      clear hR
      go_wp2_with fail
      refine (writeD_any g R (z + 1 + m) B _ hd hkr h0 (by omega) (by have := HZ.out; have := HP.out; have := HME.out; omega)).mono ?_
      rintro e w4 ⟨rfl, hd4, hgr4⟩
      have hF : dputs R B.data.toList = dputs S (padL S.u z) := by
        unfold padL
        rw [← HR.out, ← HTE.out, HME.out, HB.out, str_list, ← HSZ.out, ← dputs_append, ← dputs_append]
        simp
      have hgr5 := gr_trans hgr hgr4
      rw [hF] at hd4
      have HQ : Hid (sumL S z = outL (dputs S (padL S.u z)).st 8) := rfl
      generalize dputs S (padL S.u z) = F at *
      have hbd := hd4.1.2.1
      have hr4 := hd4.1.1
      have h8 : (Tryd.prog.info? 122).map (·.size) = some (wordsL 8 F.st).length := by rw [wordsL_len]; exact size_w8
      have H8 := Lib.hid h8
      have HIX := Lib.hid (fun (i : Nat) (hi : i < 8) (wx : World) => run_index_arr (P := Tryd.prog) wx 122 119 8 (wordsL 8 F.st).toArray .i64 .u32 i (.int .u32 (F.st i)) Tryd.underlying122 Tryd.underlying119 size_u32 hi (wordsA_get 8 F.st i hi))
      have HBD := Lib.hid hbd
      clear h8 hbd hd4 hF hgr4 hgr hd hkr he2 cu cz
      go_wp2_with (first
        | ((with_reducible refine wpList_load_mid (op := ⟨some 31, _, _, _, _, _⟩) rfl 122 _ rfl g 0 rfl (wordsL 8 F.st) (.array 8 119) ?cr Tryd.underlying122 rfl H8.out ?_)))
      case cr =>
        intro j v hv
        have hj : j < 8 := by have := (List.getElem?_eq_some_iff.1 hv).1; rw [wordsL_len] at this; exact this
        rw [cell_of_row w4 g (0 + j) _ _ _ hr4, Nat.zero_add, dig_st _ _ _ _ j hj, ← hv, wordsL_get 8 F.st j hj]
      clear hr4
      go_loopw [4, 32] (fun o i wr => ∃ n : Nat, n ≤ 8 ∧ i = .int .i64 n ∧ o = .string (str (outL F.st n)) ∧ w.grownBy wr (some g))
        (fun _ i _ => 8 - (intOf i).toNat)
      case atStart => exact ⟨0, by omega, rfl, rfl, hgr5⟩
      case round =>
        clear hgr5
        obtain ⟨n, hn, rfl, rfl, hgr⟩ := hrel
        by_cases hlt : n < 8
        · have hidx := HIX.out n hlt
          obtain ⟨a0, a1⟩ := HBD.out n
          obtain ⟨x, hx⟩ : ∃ x : Nat, F.st n = (x : Int) := ⟨(F.st n).toNat, by omega⟩
          have HS : Hid (outL F.st (n + 1) = outL F.st n ++ beL x 4) := by show outL F.st n ++ beL (F.st n).toNat 4 = _; rw [hx]; rfl
          rw [hx] at hidx a0 a1
          have n0 : (0 : Int) ≤ (n : Int) := by omega
          have n8 : (n : Int) < 8 := by omega
          have hw64 : IntKind.u64.wrap (x : Int) = (x : Int) := IntWalk.u64_in _ ⟨a0, by omega⟩
          have HXL := Lib.hid a1
          clear hx
          have hcat : ¬ 9223372036854775807 < (str (outL F.st n)).size + (str (beL x 4)).size := by rw [str_size, str_size, outL_len, show (beL x 4).length = 4 from beT_len _ _ _]; omega
          generalize outL F.st n = L at *
          go_wp2_with fail
          refine (be_impl x 4 _ (by have := HXL.out; unfold U64; omega) (by decide)).mono ?_
          rintro e w5 ⟨rfl, hb5⟩
          go_wp2
          go_roundw
          case rel => exact ⟨n + 1, by omega, by go_num, by rw [HS.out]; exact congrArg Value.string (str_app _ _), gr_trans hgr (gr_below hb5 (Nat.le_refl _))⟩
          case measure => simp [intOf]; omega
        · have hne : n = 8 := by omega
          have hpn : (8 : Int) ≤ (n : Int) := by omega
          have HNE := Lib.hid hne
          clear hne hlt hn
          go_wp2
          go_ret
          exact ⟨by rw [HQ.out, HNE.out]; rfl, hgr⟩

end Go.Proofs.YtdhfddeghnoecaaDoor

/- The contracts of newDigest and masked. -/
namespace Go.Proofs.YtdhfddeghnoecaaDoor
open Go.RowKit Go.My Go.Lib
set_option linter.unusedVariables false
set_option maxRecDepth 100000

theorem heap_setCell_same_of (w : World) (g i : Nat) (cs : Array Value) (t : TypeId) (v : Value) (hg : w.heap[g]? = some (.cells cs t (0, 0))) : (w.setCell ⟨g, i, none⟩ v).heap[g]? = some (.cells (cs.setIfInBounds i v) t (0, 0)) := Go.heap_setCell_same w g i cs t v hg
theorem new_row : some (Obj.cells ((((((((Tryd.zeroCells126.setIfInBounds 0 (Value.int .u32 1779033703)).setIfInBounds 1 (Value.int .u32 3144134277)).setIfInBounds 2 (Value.int .u32 1013904242)).setIfInBounds 3 (Value.int .u32 2773480762)).setIfInBounds 4 (Value.int .u32 1359893119)).setIfInBounds 5 (Value.int .u32 2600822924)).setIfInBounds 6 (Value.int .u32 528734635)).setIfInBounds 7 (Value.int .u32 1541459225)) 126 (0, 0)) = some (Obj.cells (digA S0.st S0.bk (S0.u : Int) ((0 : Nat) : Int)) 126 (0, 0)) := by kernel_rfl
theorem iv_bd : Bd S0.st := by
  intro q
  rcases q with _ | _ | _ | _ | _ | _ | _ | _ | q
  all_goals first | exact ⟨by decide, by decide⟩ | exact ⟨Int.le_refl 0, (by decide : (0 : Int) ≤ 4294967295)⟩

set_option maxHeartbeats 2000000 in
set_option maxRecDepth 100000 in
theorem newDigest_any (w : World) :
    Calls Tryd.prog 91 #[] w fun e w' => e = .returned (.pointer (some ⟨w.heap.size, 0, none⟩)) ∧ DigS w' w.heap.size S0 0 ∧ Below w.heap.size w w' := by
  go_enter Tryd.func91, Tryd.ntmps91
  go_wp2
  go_ret
  refine ⟨rfl, ⟨⟨(heap_alloc_new w _).trans new_row, ?_, fun q => ⟨Int.le_refl 0, (by decide : (0 : Int) ≤ 255)⟩⟩, (by decide : 0 < 64)⟩, (Below.refl _ _).alloc (Nat.le_refl _) _⟩
  exact iv_bd

theorem copied (s : ByteArray) (m : UInt8) (n : Nat) : ((cellsOf (List.replicate n 0)).toArray.toList.take 0 ++ byteCells s.data.toList ++ (cellsOf (List.replicate n 0)).toArray.toList.drop (0 + s.size)).toArray = (cellsOf (mixL (s.data.toList ++ List.replicate (n - s.data.toList.length) 0) m 0)).toArray := by
  have := len_data s
  simp [mixL, cellsOf, byteCells, this]

set_option maxHeartbeats 2000000 in
theorem masked_any (s : ByteArray) (m : UInt8) (w : World) (hs : s.size ≤ 64) :
    Calls Tryd.prog 93 #[.string s, .int .u8 m.toNat] w fun e w' => e = .returned (.string (str (maskL s.data.toList m))) ∧ Below w.heap.size w w' := by
  obtain ⟨i0, hi, hz0, hz1, hz2⟩ := info_parts info_u8b
  go_enter Tryd.func93, Tryd.ntmps93
  go_wp2_with (at_make; refine wpList_make_full _ rfl _ _ 70 rfl w.heap.size 5 i0 (.int .u8 0) 1 Tryd.underlying70 hi hz0 hz1 .i64 .i64 _ _ 64 rfl rfl rfl rfl ?c2 ?c3 ?c4 ?_)
  case c2 => rw [hz2]; omega
  case c3 => unfold maxLen; omega
  case c4 => exact Nat.le_refl _
  intro w1 hown hgrow
  have hb1 : Below w.heap.size w w1 := (Below.refl _ _).grown hgrow (Nat.le_refl _) (by simp)
  have hrow : w1.heap[w.heap.size]? = some (.cells (cellsOf (List.replicate 64 0)).toArray 5 (0, 0)) := by
    obtain ⟨hl, hc⟩ := hown
    rcases hc with ⟨hv, _⟩ | ⟨g, cap, cur, hv, hb, hg, h1, h2, h3, h4⟩
    · exact absurd hv (by simp)
    · obtain ⟨⟨rfl⟩, _, rfl⟩ : some (⟨w.heap.size, 0, none⟩ : Addr) = some ⟨g, 0, none⟩ ∧ 64 = 64 ∧ 64 = cap := by simpa using hv
      rw [hg]
      rw [List.take_of_length_le (by rw [Array.length_toList, h3]; exact Nat.le_refl _)] at h4
      have e : cur = (cellsOf (List.replicate 64 0)).toArray := by
        rw [← Array.toList_inj, h4]
        have e : (madeCells #[Value.int .u8 0] 64).toList = cellsOf (List.replicate 64 0) := by rw [← fill_start]; exact toList_madeCells_one _ _
        exact e
      rw [e]
  have hcp := run_copy_row_string (P := Tryd.prog) w1 70 9 3 5 w.heap.size 0 64 64 s _ _ Tryd.underlying70 (by rw [hi]; simpa using hz1) hrow hs (by simp [cellsOf]; omega)
  obtain ⟨K, hK⟩ : ∃ K : List UInt8, K = s.data.toList ++ List.replicate (64 - s.data.toList.length) 0 := ⟨_, rfl⟩
  have hKl : K.length = 64 := by rw [hK]; simp only [List.length_append, List.length_replicate]; have := len_data s; omega
  have hKe : ((cellsOf (List.replicate 64 0)).toArray.toList.take 0 ++ byteCells s.data.toList ++ (cellsOf (List.replicate 64 0)).toArray.toList.drop (0 + s.size)).toArray = (cellsOf (mixL K m 0)).toArray := by
    rw [hK]
    exact copied s m 64
  rw [hKe] at hcp
  have hrow2 := setRow_heap w1 w.heap.size _ (cellsOf (mixL K m 0)).toArray _ _ hrow
  have hb2 : Below w.heap.size w (w1.setRow w.heap.size (cellsOf (mixL K m 0)).toArray) := hb1.trans ⟨rfl, rfl, rfl, by simp, fun k hk => setRow_other w1 w.heap.size k _ (by omega)⟩
  have HK := Lib.hid hK
  have HKL := Lib.hid hKl
  clear hown hgrow hrow hK hKe hKl hb1
  go_wp2
  generalize (w1.setRow w.heap.size (cellsOf (mixL K m 0)).toArray) = w2 at *
  go_loopw [13] (fun i wr => ∃ j : Nat, j ≤ 64 ∧ i = .int .i64 j ∧ wr.heap[w.heap.size]? = some (.cells (cellsOf (mixL K m j)).toArray 5 (0, 0)) ∧ Below w.heap.size w wr)
    (fun i _ => 64 - (intOf i).toNat)
  case atStart => exact ⟨0, by omega, rfl, hrow2, hb2⟩
  case round =>
    clear hrow2 hb2
    obtain ⟨j, hj, rfl, hr, hb⟩ := hrel
    by_cases hlt : j < 64
    · have hjK : j < K.length := by have := HKL.out; omega
      have c0 := (cell_of_row wr w.heap.size j _ _ _ hr).trans (mixL_get K m j hjK)
      have f0 := frozen_of_row wr w.heap.size j _ _ hr
      have h2 := heap_setCell_same_of wr w.heap.size j _ _ (.int .u8 ((K[j] ^^^ m).toNat : Int)) hr
      rw [mixL_set K m j hjK, ← xor_u8] at h2
      have hb' := hb.setCell (p := ⟨w.heap.size, j, none⟩) (Nat.le_refl _) (.int .u8 (bits .xor .u8 (K[j].toNat : Int) (m.toNat : Int)))
      have HR := Lib.hid h2
      have j0 : (0 : Int) ≤ (j : Int) := by omega
      have j1 : (j : Int) < 64 := by omega
      generalize K[j] = b at *
      clear h2 hr hb
      go_wp2
      go_roundw
      case rel => exact ⟨j + 1, by omega, by go_num, HR.out, hb'⟩
      case measure => simp [intOf]; omega
    · have hje : j = 64 := by omega
      have hp : (64 : Int) ≤ (j : Int) := by omega
      have hfin : mixL K m j = maskL s.data.toList m := by rw [hje, ← HKL.out, mixL_all, HK.out]; rfl
      rw [hfin] at hr
      have hlen : (maskL s.data.toList m).length = 64 := by rw [← hfin, mixL_len]; exact HKL.out
      have hown : wr.ownsRow w.heap.size 5 1 (.slice (some ⟨w.heap.size, 0, none⟩) 64 64) 64 (cellsOf (maskL s.data.toList m)) :=
        ⟨by rw [cellsOf_length, hlen], .inr ⟨w.heap.size, 64, _, rfl, Nat.le_refl _, hr, Nat.le_refl _, by unfold maxLen; omega, by simp [cellsOf_length, hlen], by rw [List.take_of_length_le (by simp [cellsOf_length, hlen])]⟩⟩
      have hcv := run_convert_own (P := Tryd.prog) wr 70 9 5 _ _ _ _ Tryd.underlying70 Tryd.underlying5 Tryd.underlying9 hown
      clear hown hr hfin hje hlt hlen
      go_wp2
      go_ret
      exact ⟨rfl, hb⟩

end Go.Proofs.YtdhfddeghnoecaaDoor

/- The contract of hashOf over a digest. -/
namespace Go.Proofs.YtdhfddeghnoecaaDoor
open Go.RowKit Go.My Go.Lib
set_option linter.unusedVariables false
set_option maxRecDepth 100000

theorem gr_to_below {w w' : World} {g B : Nat} (h : w.grownBy w' (some g)) (hg : B ≤ g) (hB : B ≤ w.heap.size) : Below B w w' :=
  ⟨h.os, h.tape, h.output, h.size, fun k hk => h.block k (by omega) (by simp; omega)⟩

theorem dig_write (a : Addr) (w : World) : Sem.run Tryd.prog (method 242 109 (.pointer (some a)) "loop.example/g00702/impl.write") w = .ok (92, .pointer (some a)) w := by kernel_rfl
theorem dig_sum (a : Addr) (w : World) : Sem.run Tryd.prog (method 242 109 (.pointer (some a)) "loop.example/g00702/impl.sum") w = .ok (124, .pointer (some a)) w := by kernel_rfl

set_option maxHeartbeats 2000000 in
set_option maxRecDepth 100000 in
theorem hashOf_dig (g p : Nat) (S : DS) (z : Nat) (ps : List ByteArray) (w : World) (hd : DigS w g S z) (hk : TabK w) (h0 : 2 < g) (hpg : p ≠ g) (hp : w.heap[p]? = some (.cells (ps.map Value.string).toArray 9 (0, 0)))
    (hps : ∀ q ∈ ps, q.size ≤ 1000) (hn : ps.length ≤ 8) (hz : z ≤ 64) :
    Calls Tryd.prog 79 #[.iface 109 (.pointer (some ⟨g, 0, none⟩)), .slice (some ⟨p, 0, none⟩) ps.length ps.length] w fun e w' => e = .returned (.string (str (sumL (dputs S (catL ps)) (z + (catL ps).length)))) ∧ w.grownBy w' (some g) := by
  have hn8 : (ps.length : Int) ≤ 8 := by omega
  have hst : DigS w g (dputs S (catL (ps.take 0))) (z + (catL (ps.take 0)).length) := by simpa [catL, dputs] using hd
  have hpl : p < w.heap.size := (Array.getElem?_eq_some_iff.1 hp).1
  have HPS := Lib.hid hps
  have HN := Lib.hid hn
  have HZ := Lib.hid hz
  have HP := Lib.hid hp
  have HPL := Lib.hid hpl
  clear hd hps hn hz hp hpl
  have hmw := fun (wx : World) => dig_write ⟨g, 0, none⟩ wx
  have hms := fun (wx : World) => dig_sum ⟨g, 0, none⟩ wx
  go_enter Tryd.func79, Tryd.ntmps79
  go_wp2_with fail
  go_loopw [9] (fun i wr => ∃ n : Nat, n ≤ ps.length ∧ i = .int .i64 n ∧ DigS wr g (dputs S (catL (ps.take n))) (z + (catL (ps.take n)).length) ∧ w.grownBy wr (some g))
    (fun i _ => ps.length - (intOf i).toNat)
  case atStart => exact ⟨0, by omega, rfl, hst, gr_refl _ _⟩
  case round =>
    clear hst
    obtain ⟨n, hn, rfl, hd, hgr⟩ := hrel
    by_cases hlt : n < ps.length
    · have hr : wr.heap[p]? = some (.cells (ps.map Value.string).toArray 9 (0, 0)) := by rw [hgr.block p HPL.out (by simpa using hpg)]; exact HP.out
      have c0 : wr.cell? ⟨p, n, none⟩ = some (.string (ps[n])) := by rw [cell_of_row wr p n _ _ _ hr]; simp [hlt]
      have hsz : (ps[n]).size ≤ 1000 := HPS.out _ (List.getElem_mem hlt)
      have hcl : (catL (ps.take n)).length ≤ 8000 := by
        have h1 := catL_len (ps.take n) 1000 (fun q hq => HPS.out q (List.mem_of_mem_take hq))
        have h2 : (ps.take n).length ≤ 8 := by rw [List.length_take]; have := HN.out; omega
        omega
      have hsn := catL_snoc ps n hlt
      have hkr := hk.grown hgr h0
      have n0 : (0 : Int) ≤ (n : Int) := by omega
      have n1 : (n : Int) < (ps.length : Int) := by omega
      have HSN := Lib.hid hsn
      have HSZ := Lib.hid hsz
      have HCL := Lib.hid hcl
      clear hr hsn hsz hcl
      generalize ps[n] = q at *
      go_wp2_with fail
      refine (writeD_any g _ _ q _ hd hkr h0 (by have := HSZ.out; omega) (by have := HCL.out; have := HZ.out; omega)).mono ?_
      rintro e w3 ⟨rfl, hd3, hgr3⟩
      go_wp2
      go_roundw
      case rel =>
        refine ⟨n + 1, by omega, by go_num, ?_, gr_trans hgr hgr3⟩
        rw [HSN.out, dputs_append, List.length_append, len_data, ← Nat.add_assoc]
        exact hd3
      case measure => simp [intOf]; omega
    · have hne : n = ps.length := by omega
      have hp1 : (ps.length : Int) ≤ (n : Int) := by omega
      rw [hne, List.take_length] at hd
      have hcl : (catL ps).length ≤ 8000 := by
        have h1 := catL_len ps 1000 HPS.out
        have := HN.out
        omega
      have HCL := Lib.hid hcl
      have hkr := hk.grown hgr h0
      clear hlt hn hne hcl
      go_wp2_with fail
      refine (sum_any g _ _ _ hd hkr h0 (by have := HCL.out; have := HZ.out; omega)).mono ?_
      rintro e w3 ⟨rfl, hgr3⟩
      go_wp2
      go_ret
      exact ⟨rfl, gr_trans hgr hgr3⟩

end Go.Proofs.YtdhfddeghnoecaaDoor

/- The contract of newMac. -/
namespace Go.Proofs.YtdhfddeghnoecaaDoor
open Go.RowKit Go.My Go.Lib
set_option linter.unusedVariables false
set_option maxRecDepth 100000

/-- Block g is a mac over the digests i and o. -/
def MacS (w : World) (g i o : Nat) (SI SO : DS) (zi zo : Nat) : Prop :=
  w.heap[g]? = some (.cells #[.pointer (some ⟨i, 0, none⟩), .pointer (some ⟨o, 0, none⟩)] 112 (0, 0)) ∧ DigS w i SI zi ∧ DigS w o SO zo

/-- What stands when the mac is made. -/
def MacUp (w w' : World) (g i o : Nat) (SI SO : DS) (zi zo : Nat) : Prop :=
  MacS w' g i o SI SO zi zo ∧ w.heap.size ≤ g ∧ w.heap.size ≤ i ∧ w.heap.size ≤ o ∧ g ≠ i ∧ g ≠ o ∧ i ≠ o ∧ Below w.heap.size w w' ∧ TabK w' ∧ 2 < w.heap.size
theorem MacUp.below {w w1 w2 : World} {g i o : Nat} {SI SO : DS} {zi zo : Nat} (h : MacUp w w1 g i o SI SO zi zo) (hb : Below w1.heap.size w1 w2) : MacUp w w2 g i o SI SO zi zo := by
  obtain ⟨⟨hr, hi, ho⟩, h1, h2, h3, h4, h5, h6, h7, h8, h9⟩ := h
  have hg : g < w1.heap.size := (Array.getElem?_eq_some_iff.1 hr).1
  exact ⟨⟨by rw [hb.block g hg]; exact hr, ⟨hi.1.below hb hi.1.lt, hi.2⟩, ⟨ho.1.below hb ho.1.lt, ho.2⟩⟩, h1, h2, h3, h4, h5, h6, h7.trans ⟨hb.os, hb.tape, hb.output, hb.size, fun k hk => hb.block k (Nat.lt_of_lt_of_le hk h7.size)⟩, h8.below hb (by omega), h9⟩
theorem MacUp.wi {w w1 w2 : World} {g i o : Nat} {SI SO SN : DS} {zi zo zn : Nat} (h : MacUp w w1 g i o SI SO zi zo) (hb : w1.grownBy w2 (some i)) (hn : DigS w2 i SN zn) : MacUp w w2 g i o SN SO zn zo := by
  obtain ⟨⟨hr, hi, ho⟩, h1, h2, h3, h4, h5, h6, h7, h8, h9⟩ := h
  have hg : g < w1.heap.size := (Array.getElem?_eq_some_iff.1 hr).1
  exact ⟨⟨by rw [hb.block g hg (by simpa using h4)]; exact hr, hn, ⟨⟨by rw [hb.block o ho.1.lt (by simpa using fun e => h6 e.symm)]; exact ho.1.1, ho.1.2⟩, ho.2⟩⟩, h1, h2, h3, h4, h5, h6, h7.trans (gr_to_below hb h2 h7.size), h8.grown hb (by omega), h9⟩
theorem MacUp.wo {w w1 w2 : World} {g i o : Nat} {SI SO SN : DS} {zi zo zn : Nat} (h : MacUp w w1 g i o SI SO zi zo) (hb : w1.grownBy w2 (some o)) (hn : DigS w2 o SN zn) : MacUp w w2 g i o SI SN zi zn := by
  obtain ⟨⟨hr, hi, ho⟩, h1, h2, h3, h4, h5, h6, h7, h8, h9⟩ := h
  have hg : g < w1.heap.size := (Array.getElem?_eq_some_iff.1 hr).1
  exact ⟨⟨by rw [hb.block g hg (by simpa using h5)]; exact hr, ⟨⟨by rw [hb.block i hi.1.lt (by simpa using h6)]; exact hi.1.1, hi.1.2⟩, hi.2⟩, hn⟩, h1, h2, h3, h4, h5, h6, h7.trans (gr_to_below hb h3 h7.size), h8.grown hb (by omega), h9⟩
theorem MacUp.ci {w w1 : World} {g i o : Nat} {SI SO : DS} {zi zo : Nat} (h : MacUp w w1 g i o SI SO zi zo) : w1.cell? ⟨g, 0, none⟩ = some (.pointer (some ⟨i, 0, none⟩)) := (cell_of_row w1 g 0 _ _ _ h.1.1).trans rfl
theorem MacUp.co {w w1 : World} {g i o : Nat} {SI SO : DS} {zi zo : Nat} (h : MacUp w w1 g i o SI SO zi zo) : w1.cell? ⟨g, 1, none⟩ = some (.pointer (some ⟨o, 0, none⟩)) := (cell_of_row w1 g 1 _ _ _ h.1.1).trans rfl
theorem MacUp.drew {w w1 : World} {g i o : Nat} {SI SO : DS} {zi zo : Nat} (h : MacUp w w1 g i o SI SO zi zo) : MacUp w w1.drew g i o SI SO zi zo := h.below ⟨rfl, rfl, rfl, Nat.le_refl _, fun _ _ => rfl⟩
theorem MacUp.start {w wx wi wo : World} (hb : Below w.heap.size w wx) (hk : TabK w) (h0 : 2 < w.heap.size) (hdi : DigS wi wx.heap.size S0 0) (hbi : Below wx.heap.size wx wi) (hdo : DigS wo wi.heap.size S0 0) (hbo : Below wi.heap.size wi wo) :
    MacUp w (wo.alloc (.cells #[.pointer (some ⟨wx.heap.size, 0, none⟩), .pointer (some ⟨wi.heap.size, 0, none⟩)] 112)) wo.heap.size wx.heap.size wi.heap.size S0 S0 0 0 := by
  have hba : Below wo.heap.size wo (wo.alloc (.cells #[.pointer (some ⟨wx.heap.size, 0, none⟩), .pointer (some ⟨wi.heap.size, 0, none⟩)] 112)) := (Below.refl _ _).alloc (Nat.le_refl _) _
  have hdo' : DigS wo wx.heap.size S0 0 := ⟨hdi.1.below hbo hdi.1.lt, hdi.2⟩
  have hx := hdi.1.lt
  have hy := hdo.1.lt
  have hbw : Below w.heap.size w wi := hb.trans ⟨hbi.os, hbi.tape, hbi.output, hbi.size, fun k hk => hbi.block k (Nat.lt_of_lt_of_le hk hb.size)⟩
  have hbw2 : Below w.heap.size w wo := hbw.trans ⟨hbo.os, hbo.tape, hbo.output, hbo.size, fun k hk => hbo.block k (Nat.lt_of_lt_of_le hk hbw.size)⟩
  have hbw3 : Below w.heap.size w (wo.alloc (.cells #[.pointer (some ⟨wx.heap.size, 0, none⟩), .pointer (some ⟨wi.heap.size, 0, none⟩)] 112)) := hbw2.alloc hbw2.size _
  refine ⟨⟨heap_alloc_new wo _, ⟨hdo'.1.below hba hdo'.1.lt, hdo'.2⟩, ⟨hdo.1.below hba hdo.1.lt, hdo.2⟩⟩, hbw2.size, hb.size, hbw.size, ?_, ?_, ?_, hbw3, hk.below hbw3 h0, h0⟩
  · have := hbo.size; omega
  · omega
  · omega

set_option maxHeartbeats 2000000 in
set_option maxRecDepth 100000 in
theorem newMac_any (key : ByteArray) (w : World) (hk : TabK w) (hs : key.size ≤ 1000) :
    Calls Tryd.prog 80 #[.string key] w fun e w' => ∃ g i o : Nat, e = .returned (.pointer (some ⟨g, 0, none⟩)) ∧ MacUp w w' g i o (dputs S0 (maskL (keyL key.data.toList) 54)) (dputs S0 (maskL (keyL key.data.toList) 92)) 64 64 := by
  have h0 := hk.1
  by_cases hlt : key.size ≤ 64
  case pos =>
    have hlt2 : (key.size : Int) ≤ 64 := by omega
    have HKL : Hid (keyL key.data.toList = key.data.toList) := if_pos (by rw [len_data]; exact hlt)
    have HSZ : Hid (key.size ≤ 64) := hlt
    have HBX : Hid (Below w.heap.size w w) := Below.refl _ _
    have HX0 : Hid (2 < w.heap.size) := h0
    clear hs hlt
    go_enter Tryd.func80, Tryd.ntmps80
    go_wp2_with fail
    refine (newDigest_any _).mono ?_
    rintro e wi ⟨rfl, hdi, hbi⟩
    go_wp2_with fail
    refine (newDigest_any _).mono ?_
    rintro e wo ⟨rfl, hdo, hbo⟩
    have hup := MacUp.start HBX.out hk h0 hdi hbi hdo hbo
    go_wp2_with fail
    generalize wo.alloc (.cells #[.pointer (some ⟨w.heap.size, 0, none⟩), .pointer (some ⟨wi.heap.size, 0, none⟩)] 112) = wm at *
    generalize wo.heap.size = g at *
    generalize wi.heap.size = o at *
    clear hdi hbi hdo hbo
    have c0 := hup.ci
    have hM1 : (str (maskL key.data.toList 54)).size = 64 := by rw [str_size, maskL_len _ _ (by rw [len_data]; exact HSZ.out)]
    have hM2 : (str (maskL key.data.toList 92)).size = 64 := by rw [str_size, maskL_len _ _ (by rw [len_data]; exact HSZ.out)]
    have hL1 : (str (maskL key.data.toList 54)).data.toList = maskL key.data.toList 54 := str_list _
    have hL2 : (str (maskL key.data.toList 92)).data.toList = maskL key.data.toList 92 := str_list _
    have HMK := Lib.hid (fun (wx : World) => (show Calls Tryd.prog 93 #[.string key, .int .u8 54] wx (fun e w' => e = .returned (.string (str (maskL key.data.toList 54))) ∧ Below wx.heap.size wx w') from masked_any key 54 wx HSZ.out))
    have HMK2 := Lib.hid (fun (wx : World) => (show Calls Tryd.prog 93 #[.string key, .int .u8 92] wx (fun e w' => e = .returned (.string (str (maskL key.data.toList 92))) ∧ Below wx.heap.size wx w') from masked_any key 92 wx HSZ.out))
    generalize str (maskL key.data.toList 54) = M1 at *
    generalize str (maskL key.data.toList 92) = M2 at *
    have HM := Lib.hid (And.intro hM1 (And.intro hM2 (And.intro hL1 hL2)))
    clear hM1 hM2 hL1 hL2
    go_region_held3 (fun w' => w'.cell? ⟨g, 0, none⟩ = some (.pointer (some ⟨w.heap.size, 0, none⟩))) (first | exact c0 | exact ca | exact cb) ((first
      | (go_at_call 93; refine (HMK.out _).mono ?_; rintro e wa ⟨rfl, hba⟩; have hua := hup.drew.below hba; have ca := hua.ci)
      | (go_at_call 92; refine (writeD_any w.heap.size S0 0 M1 _ ?_ ?_ ?_ ?_ ?_).mono ?_; exact hua.1.2.1; exact hua.2.2.2.2.2.2.2.2.1; exact HX0.out; (have := HM.out.1; omega); decide; rintro e wb ⟨rfl, hdb, hgb⟩; have hub := hua.wi hgb hdb; have cb := hub.ci)))
    have c1 := hub.co
    clear cb ca c0 hua hup hba hdb hgb HMK
    go_wp2_with fail
    have ho0 : 2 < o := Nat.lt_of_lt_of_le h0 hub.2.2.2.1
    go_region_held3 (fun w' => w'.cell? ⟨g, 1, none⟩ = some (.pointer (some ⟨o, 0, none⟩))) (first | exact c1 | exact cc | exact cd) ((first
      | (go_at_call 93; refine (HMK2.out _).mono ?_; rintro e wc ⟨rfl, hbc⟩; have huc := hub.drew.below hbc; have cc := huc.co)
      | (go_at_call 92; refine (writeD_any o S0 0 M2 _ ?_ ?_ ?_ ?_ ?_).mono ?_; exact huc.1.2.2; exact huc.2.2.2.2.2.2.2.2.1; exact ho0; (have := HM.out.2.1; omega); decide; rintro e wd ⟨rfl, hdd, hgd⟩; have hud := huc.wo hgd hdd; have cd := hud.co)))
    go_wp2
    go_ret
    refine ⟨g, w.heap.size, o, rfl, ?_⟩
    rw [HKL.out]
    rw [HM.out.1, HM.out.2.1, HM.out.2.2.1, HM.out.2.2.2] at hud
    exact hud
  case neg =>
    have hlt2 : (64 : Int) < (key.size : Int) := by omega
    have HKE : Hid (keyL key.data.toList = sumL (dputs S0 key.data.toList) key.data.toList.length) := if_neg (by rw [len_data]; exact hlt)
    have HS := Lib.hid hs
    clear hs hlt
    go_enter Tryd.func80, Tryd.ntmps80
    go_wp2_with fail
    refine (newDigest_any _).mono ?_
    rintro e w1 ⟨rfl, hd1, hb1⟩
    have hba : Below w1.heap.size w1 (w1.alloc (.cells #[.string key] 9)) := (Below.refl _ _).alloc (Nat.le_refl _) _
    have hd2 : DigS (w1.alloc (.cells #[.string key] 9)) w.heap.size S0 0 := ⟨hd1.1.below hba hd1.1.lt, hd1.2⟩
    have hbw : Below w.heap.size w (w1.alloc (.cells #[.string key] 9)) := hb1.alloc hb1.size _
    have hk2 := hk.below hbw h0
    have hrow : (w1.alloc (.cells #[.string key] 9)).heap[w1.heap.size]? = some (.cells ([key].map Value.string).toArray 9 (0, 0)) := heap_alloc_new w1 _
    have hne : w1.heap.size ≠ w.heap.size := by have := hd1.1.lt; omega
    go_wp2_with fail
    refine (hashOf_dig w.heap.size w1.heap.size S0 0 [key] _ hd2 hk2 h0 hne hrow (by intro q hq; rw [List.mem_singleton] at hq; rw [hq]; exact HS.out) (by simp) (by decide)).mono ?_
    rintro e wx ⟨rfl, hgx⟩
    have HBX : Hid (Below w.heap.size w wx) := hbw.trans (gr_to_below hgx (Nat.le_refl _) hbw.size)
    rw [catL_one, Nat.zero_add, ← HKE.out]
    clear hd1 hb1 hba hd2 hbw hk2 hrow hne hgx
    have HSZ : Hid ((str (keyL key.data.toList)).size ≤ 64) := by show _ ≤ _; rw [str_size]; exact keyL_len _
    have HKL : Hid (keyL key.data.toList = (str (keyL key.data.toList)).data.toList) := (str_list _).symm
    have HX0 : Hid (2 < wx.heap.size) := Nat.lt_of_lt_of_le h0 HBX.out.size
    generalize str (keyL key.data.toList) = k2 at *
    go_wp2_with fail
    refine (newDigest_any _).mono ?_
    rintro e wi ⟨rfl, hdi, hbi⟩
    go_wp2_with fail
    refine (newDigest_any _).mono ?_
    rintro e wo ⟨rfl, hdo, hbo⟩
    have hup := MacUp.start HBX.out hk h0 hdi hbi hdo hbo
    go_wp2_with fail
    generalize wo.alloc (.cells #[.pointer (some ⟨wx.heap.size, 0, none⟩), .pointer (some ⟨wi.heap.size, 0, none⟩)] 112) = wm at *
    generalize wo.heap.size = g at *
    generalize wi.heap.size = o at *
    clear hdi hbi hdo hbo
    have c0 := hup.ci
    have hM1 : (str (maskL k2.data.toList 54)).size = 64 := by rw [str_size, maskL_len _ _ (by rw [len_data]; exact HSZ.out)]
    have hM2 : (str (maskL k2.data.toList 92)).size = 64 := by rw [str_size, maskL_len _ _ (by rw [len_data]; exact HSZ.out)]
    have hL1 : (str (maskL k2.data.toList 54)).data.toList = maskL k2.data.toList 54 := str_list _
    have hL2 : (str (maskL k2.data.toList 92)).data.toList = maskL k2.data.toList 92 := str_list _
    have HMK := Lib.hid (fun (wx : World) => (show Calls Tryd.prog 93 #[.string k2, .int .u8 54] wx (fun e w' => e = .returned (.string (str (maskL k2.data.toList 54))) ∧ Below wx.heap.size wx w') from masked_any k2 54 wx HSZ.out))
    have HMK2 := Lib.hid (fun (wx : World) => (show Calls Tryd.prog 93 #[.string k2, .int .u8 92] wx (fun e w' => e = .returned (.string (str (maskL k2.data.toList 92))) ∧ Below wx.heap.size wx w') from masked_any k2 92 wx HSZ.out))
    generalize str (maskL k2.data.toList 54) = M1 at *
    generalize str (maskL k2.data.toList 92) = M2 at *
    have HM := Lib.hid (And.intro hM1 (And.intro hM2 (And.intro hL1 hL2)))
    clear hM1 hM2 hL1 hL2
    go_region_held3 (fun w' => w'.cell? ⟨g, 0, none⟩ = some (.pointer (some ⟨wx.heap.size, 0, none⟩))) (first | exact c0 | exact ca | exact cb) ((first
      | (go_at_call 93; refine (HMK.out _).mono ?_; rintro e wa ⟨rfl, hba⟩; have hua := hup.drew.below hba; have ca := hua.ci)
      | (go_at_call 92; refine (writeD_any wx.heap.size S0 0 M1 _ ?_ ?_ ?_ ?_ ?_).mono ?_; exact hua.1.2.1; exact hua.2.2.2.2.2.2.2.2.1; exact HX0.out; (have := HM.out.1; omega); decide; rintro e wb ⟨rfl, hdb, hgb⟩; have hub := hua.wi hgb hdb; have cb := hub.ci)))
    have c1 := hub.co
    clear cb ca c0 hua hup hba hdb hgb HMK
    go_wp2_with fail
    have ho0 : 2 < o := Nat.lt_of_lt_of_le h0 hub.2.2.2.1
    go_region_held3 (fun w' => w'.cell? ⟨g, 1, none⟩ = some (.pointer (some ⟨o, 0, none⟩))) (first | exact c1 | exact cc | exact cd) ((first
      | (go_at_call 93; refine (HMK2.out _).mono ?_; rintro e wc ⟨rfl, hbc⟩; have huc := hub.drew.below hbc; have cc := huc.co)
      | (go_at_call 92; refine (writeD_any o S0 0 M2 _ ?_ ?_ ?_ ?_ ?_).mono ?_; exact huc.1.2.2; exact huc.2.2.2.2.2.2.2.2.1; exact ho0; (have := HM.out.2.1; omega); decide; rintro e wd ⟨rfl, hdd, hgd⟩; have hud := huc.wo hgd hdd; have cd := hud.co)))
    go_wp2
    go_ret
    refine ⟨g, wx.heap.size, o, rfl, ?_⟩
    rw [HKL.out]
    rw [HM.out.1, HM.out.2.1, HM.out.2.2.1, HM.out.2.2.2] at hud
    exact hud

end Go.Proofs.YtdhfddeghnoecaaDoor

/- The contracts of mac's methods and of hashOf over a mac. -/
namespace Go.Proofs.YtdhfddeghnoecaaDoor
open Go.RowKit Go.My Go.Lib
set_option linter.unusedVariables false
set_option maxRecDepth 100000

set_option maxHeartbeats 2000000 in
theorem macWrite_any (w0 w : World) (g i o : Nat) (SI SO : DS) (zi zo : Nat) (s : ByteArray) (hup : MacUp w0 w g i o SI SO zi zo) (hs : s.size < 1000000) (hz : zi < 1000000) :
    Calls Tryd.prog 123 #[.pointer (some ⟨g, 0, none⟩), .string s] w fun e w' => e = .returned (.tuple #[]) ∧ MacUp w0 w' g i o (dputs SI s.data.toList) SO (zi + s.size) zo ∧ w.grownBy w' (some i) := by
  have c0 := hup.ci
  have h0 : 2 < i := Nat.lt_of_lt_of_le hup.2.2.2.2.2.2.2.2.2 hup.2.2.1
  have HC := Lib.hid (writeD_any i SI zi s w hup.1.2.1 hup.2.2.2.2.2.2.2.2.1 h0 hs hz)
  clear hs hz
  go_enter Tryd.func123, Tryd.ntmps123
  go_wp2_with fail
  refine HC.out.mono ?_
  rintro e w1 ⟨rfl, hd1, hg1⟩
  have hu1 := hup.wi hg1 hd1
  go_wp2
  go_end0
  exact ⟨rfl, hu1, hg1⟩

/-- What is left of a mac when its inner digest is spent. -/
def OutUp (w0 w : World) (g o : Nat) (SO : DS) (zo : Nat) : Prop :=
  w.cell? ⟨g, 1, none⟩ = some (.pointer (some ⟨o, 0, none⟩)) ∧ DigS w o SO zo ∧ TabK w ∧ Below w0.heap.size w0 w ∧ w0.heap.size ≤ o ∧ g ≠ o ∧ g < w.heap.size
theorem MacUp.spent {w0 w w1 : World} {g i o : Nat} {SI SO : DS} {zi zo : Nat} (hup : MacUp w0 w g i o SI SO zi zo) (hb : w.drew.grownBy w1 (some i)) : OutUp w0 w1 g o SO zo ∧ w1.cell? ⟨g, 0, none⟩ = some (.pointer (some ⟨i, 0, none⟩)) := by
  obtain ⟨⟨hr, hi, ho⟩, h1, h2, h3, h4, h5, h6, h7, h8, h9⟩ := hup.drew
  have hg : g < w.drew.heap.size := (Array.getElem?_eq_some_iff.1 hr).1
  have hr1 : w1.heap[g]? = _ := (hb.block g hg (by simpa using h4)).trans hr
  refine ⟨⟨(cell_of_row w1 g 1 _ _ _ hr1).trans rfl, ⟨⟨by rw [hb.block o ho.1.lt (by simpa using fun e => h6 e.symm)]; exact ho.1.1, ho.1.2⟩, ho.2⟩, h8.grown hb (by omega), h7.trans (gr_to_below hb h2 h7.size), h3, h5, Nat.lt_of_lt_of_le hg hb.size⟩, (cell_of_row w1 g 0 _ _ _ hr1).trans rfl⟩
theorem OutUp.wo {w0 w w1 : World} {g o : Nat} {SO SN : DS} {zo zn : Nat} (h : OutUp w0 w g o SO zo) (hb : w.grownBy w1 (some o)) (hn : DigS w1 o SN zn) (h0 : 2 < w0.heap.size) : OutUp w0 w1 g o SN zn := by
  obtain ⟨h1, h2, h3, h4, h5, h6, h7⟩ := h
  exact ⟨by rw [World.cell?_of_block (a := ⟨g, 1, none⟩) (hb.block g h7 (by simpa using h6))]; exact h1, hn, h3.grown hb (by omega), h4.trans (gr_to_below hb h5 h4.size), h5, h6, Nat.lt_of_lt_of_le h7 hb.size⟩

set_option maxHeartbeats 2000000 in
theorem macSum_any (w0 w : World) (g i o : Nat) (SI SO : DS) (zi zo : Nat) (hup : MacUp w0 w g i o SI SO zi zo) (hz : zi < 900000) (hz2 : zo < 800000) :
    Calls Tryd.prog 122 #[.pointer (some ⟨g, 0, none⟩)] w fun e w' => e = .returned (.string (str (sumL (dputs SO (sumL SI zi)) (zo + 32)))) ∧ Below w0.heap.size w0 w' := by
  have c0 := hup.ci
  have c1 := hup.co
  have h0 : 2 < i := Nat.lt_of_lt_of_le hup.2.2.2.2.2.2.2.2.2 hup.2.2.1
  have h1 : 2 < o := Nat.lt_of_lt_of_le hup.2.2.2.2.2.2.2.2.2 hup.2.2.2.1
  have HZ := Lib.hid (And.intro hz hz2)
  clear hz hz2
  go_enter Tryd.func122, Tryd.ntmps122
  go_wp2_with fail
  have hw0 := hup.2.2.2.2.2.2.2.2.2
  have hsl : (str (sumL SI zi)).size = 32 := by rw [str_size, sumL_len]
  have HSL := Lib.hid (And.intro hsl (str_list (sumL SI zi)))
  clear hsl
  go_region_held3 (fun w' => w'.cell? ⟨g, 0, none⟩ = some (.pointer (some ⟨i, 0, none⟩)) ∧ w'.cell? ⟨g, 1, none⟩ = some (.pointer (some ⟨o, 0, none⟩))) (first | exact ⟨c0, c1⟩ | exact ⟨hsp.2, hsp.1.1⟩ | exact ⟨cz, hub.1⟩) ((first
    | (go_at_call 124; refine (sum_any i SI zi _ ?_ ?_ ?_ ?_).mono ?_; exact hup.drew.1.2.1; exact hup.drew.2.2.2.2.2.2.2.2.1; exact h0; exact HZ.out.1; rintro e wa ⟨rfl, hga⟩; have hsp := hup.spent hga)
    | (go_at_call 92; refine (writeD_any o SO zo _ _ ?_ ?_ ?_ ?_ ?_).mono ?_; exact hsp.1.2.1; exact hsp.1.2.2.1; exact h1; (have := HSL.out.1; omega); (have := HZ.out.2; omega); rintro e wb ⟨rfl, hdb, hgb⟩; have hub := hsp.1.wo hgb hdb hw0; have cz : wb.cell? ⟨g, 0, none⟩ = some (.pointer (some ⟨i, 0, none⟩)) := (World.cell?_of_block (a := ⟨g, 0, none⟩) (hgb.block g hsp.1.2.2.2.2.2.2 (by simpa using hsp.1.2.2.2.2.2.1))).trans hsp.2)))
  have c2 := hub.1
  rw [HSL.out.1, HSL.out.2] at hub
  clear cz hsp c0 c1 hdb hgb hga hup
  go_wp2_with fail
  refine (sum_any o _ _ _ hub.2.1 hub.2.2.1 h1 (by have := HZ.out.2; omega)).mono ?_
  rintro e wc ⟨rfl, hgc⟩
  go_wp2
  go_ret
  exact ⟨rfl, hub.2.2.2.1.trans (gr_to_below hgc hub.2.2.2.2.1 hub.2.2.2.1.size)⟩

theorem mac_write (a : Addr) (w : World) : Sem.run Tryd.prog (method 242 100 (.pointer (some a)) "loop.example/g00702/impl.write") w = .ok (123, .pointer (some a)) w := by kernel_rfl
theorem mac_sum (a : Addr) (w : World) : Sem.run Tryd.prog (method 242 100 (.pointer (some a)) "loop.example/g00702/impl.sum") w = .ok (122, .pointer (some a)) w := by kernel_rfl

set_option maxHeartbeats 2000000 in
set_option maxRecDepth 100000 in
theorem hashOf_mac (w0 : World) (g i o p : Nat) (SI SO : DS) (zi zo : Nat) (ps : List ByteArray) (w : World) (hup : MacUp w0 w g i o SI SO zi zo) (hpi : p ≠ i) (hp : w.heap[p]? = some (.cells (ps.map Value.string).toArray 9 (0, 0)))
    (hps : ∀ q ∈ ps, q.size ≤ 1000) (hn : ps.length ≤ 8) (hzi : zi ≤ 64) (hzo : zo ≤ 64) :
    Calls Tryd.prog 79 #[.iface 100 (.pointer (some ⟨g, 0, none⟩)), .slice (some ⟨p, 0, none⟩) ps.length ps.length] w fun e w' => e = .returned (.string (str (sumL (dputs SO (sumL (dputs SI (catL ps)) (zi + (catL ps).length))) (zo + 32)))) ∧ Below w0.heap.size w0 w' := by
  have hn8 : (ps.length : Int) ≤ 8 := by omega
  have hst : MacUp w0 w g i o (dputs SI (catL (ps.take 0))) SO (zi + (catL (ps.take 0)).length) zo := by simpa [catL, dputs] using hup
  have hpl : p < w.heap.size := (Array.getElem?_eq_some_iff.1 hp).1
  have HPS := Lib.hid hps
  have HN := Lib.hid hn
  have HZ := Lib.hid (And.intro hzi hzo)
  have HP := Lib.hid hp
  have HPL := Lib.hid hpl
  clear hup hps hn hzi hzo hp hpl
  have hmw := fun (wx : World) => mac_write ⟨g, 0, none⟩ wx
  have hms := fun (wx : World) => mac_sum ⟨g, 0, none⟩ wx
  go_enter Tryd.func79, Tryd.ntmps79
  go_wp2_with fail
  go_loopw [9] (fun k wr => ∃ n : Nat, n ≤ ps.length ∧ k = .int .i64 n ∧ MacUp w0 wr g i o (dputs SI (catL (ps.take n))) SO (zi + (catL (ps.take n)).length) zo ∧ w.grownBy wr (some i))
    (fun k _ => ps.length - (intOf k).toNat)
  case atStart => exact ⟨0, by omega, rfl, hst, gr_refl _ _⟩
  case round =>
    clear hst
    obtain ⟨n, hn, rfl, hd, hgr⟩ := hrel
    by_cases hlt : n < ps.length
    · have hr : wr.heap[p]? = some (.cells (ps.map Value.string).toArray 9 (0, 0)) := by rw [hgr.block p HPL.out (by simpa using hpi)]; exact HP.out
      have c0 : wr.cell? ⟨p, n, none⟩ = some (.string (ps[n])) := by rw [cell_of_row wr p n _ _ _ hr]; simp [hlt]
      have hsz : (ps[n]).size ≤ 1000 := HPS.out _ (List.getElem_mem hlt)
      have hcl : (catL (ps.take n)).length ≤ 8000 := by
        have h1 := catL_len (ps.take n) 1000 (fun q hq => HPS.out q (List.mem_of_mem_take hq))
        have h2 : (ps.take n).length ≤ 8 := by rw [List.length_take]; have := HN.out; omega
        omega
      have hsn := catL_snoc ps n hlt
      have n0 : (0 : Int) ≤ (n : Int) := by omega
      have n1 : (n : Int) < (ps.length : Int) := by omega
      have HSN := Lib.hid hsn
      have HSZ := Lib.hid hsz
      have HCL := Lib.hid hcl
      clear hr hsn hsz hcl
      generalize ps[n] = q at *
      go_wp2_with fail
      refine (macWrite_any w0 _ g i o _ _ _ _ q hd (by have := HSZ.out; omega) (by have := HCL.out; have := HZ.out; omega)).mono ?_
      rintro e w3 ⟨rfl, hd3, hgr3⟩
      go_wp2
      go_roundw
      case rel =>
        refine ⟨n + 1, by omega, by go_num, ?_, gr_trans hgr hgr3⟩
        rw [HSN.out, dputs_append, List.length_append, len_data, ← Nat.add_assoc]
        exact hd3
      case measure => simp [intOf]; omega
    · have hne : n = ps.length := by omega
      have hp1 : (ps.length : Int) ≤ (n : Int) := by omega
      rw [hne, List.take_length] at hd
      have hcl : (catL ps).length ≤ 8000 := by
        have h1 := catL_len ps 1000 HPS.out
        have := HN.out
        omega
      have HCL := Lib.hid hcl
      clear hlt hn hne hcl
      go_wp2_with fail
      refine (macSum_any w0 _ g i o _ _ _ _ hd (by have := HCL.out; have := HZ.out; omega) (by have := HZ.out; omega)).mono ?_
      rintro e w3 ⟨rfl, hb3⟩
      go_wp2
      go_ret
      exact ⟨rfl, hb3⟩

/-- What a keyed hash gives. -/
def hmacL (k s : List UInt8) : List UInt8 := sumL (dputs (dputs S0 (maskL (keyL k) 92)) (sumL (dputs (dputs S0 (maskL (keyL k) 54)) s) (64 + s.length))) 96

end Go.Proofs.YtdhfddeghnoecaaDoor

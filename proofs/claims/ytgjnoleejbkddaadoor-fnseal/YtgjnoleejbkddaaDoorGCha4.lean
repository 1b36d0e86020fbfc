/- A block's text, its words; the program's newGrid. -/
import Derived.Test.YtgjnoleejbkddaaDoorGM0
import Derived.Test.YtgjnoleejbkddaaDoorGFld4
namespace Go.My
open Go.RowKit
set_option linter.unusedVariables false

def sigmaL : List UInt8 := [101, 120, 112, 97, 110, 100, 32, 51, 50, 45, 98, 121, 116, 101, 32, 107]
def textL (k : List UInt8) (c : Nat) (n : List UInt8) : List UInt8 := ((sigmaL ++ k) ++ leB c 4) ++ n
def wordAt (l : List UInt8) (q : Nat) : Int := (leN ((l.drop (4 * q)).take 4) : Int)
theorem wordAt_bd (l : List UInt8) : Bd (wordAt l) := by
  intro q
  unfold wordAt
  have h1 := leN_lt ((l.drop (4 * q)).take 4)
  have h2 : ((l.drop (4 * q)).take 4).length ≤ 4 := by rw [List.length_take]; omega
  have h3 : 256 ^ ((l.drop (4 * q)).take 4).length ≤ 256 ^ 4 := Nat.pow_le_pow_right (by decide) h2
  have h4 : (256 : Nat) ^ 4 = 4294967296 := by decide
  omega
theorem wordAt_left (a b : List UInt8) (q : Nat) (h : 4 * q + 4 ≤ a.length) : wordAt (a ++ b) q = wordAt a q := by
  unfold wordAt
  rw [List.drop_append_of_le_length (by omega), List.take_append_of_le_length (by rw [List.length_drop]; omega)]
theorem wordAt_right (a b : List UInt8) (q m : Nat) (h : a.length = 4 * m) : wordAt (a ++ b) (m + q) = wordAt b q := by
  unfold wordAt
  rw [show 4 * (m + q) = a.length + 4 * q by omega, ← List.drop_drop, List.drop_left]
/-- The words of a new grid: the constants and the counter; with the key's first words; with the nonce's. -/
def bF (c : Int) : Nat → Int := fun q => if q = 0 then 1634760805 else if q = 1 then 857760878 else if q = 2 then 2036477234 else if q = 3 then 1797285236 else if q = 12 then c else 0
def kF (k : List UInt8) (c : Int) : Nat → Nat → Int
  | 0 => bF c
  | i + 1 => updF (kF k c i) (4 + i) (wordAt k i)
def nF (k : List UInt8) (c : Int) (n : List UInt8) : Nat → Nat → Int
  | 0 => kF k c 8
  | i + 1 => updF (nF k c n i) (13 + i) (wordAt n i)
theorem text_words (k : List UInt8) (c : Nat) (n : List UInt8) (hk : k.length = 32) (hn : n.length = 12) (hc : c < 4294967296) : ∀ q, q < 16 → nF k c n 3 q = wordAt (textL k c n) q := by
  have s0 : sigmaL.length = 16 := by decide
  have l4 := leB_len c 4
  have w12 : wordAt (leB c 4) 0 = (c : Int) := by
    unfold wordAt
    rw [show 4 * 0 = 0 from rfl, List.drop_zero, List.take_of_length_le (by omega), leN_leB c 4 (by omega)]
  have wk : ∀ i, i < 8 → wordAt (textL k c n) (4 + i) = wordAt k i := fun i hi => by
    unfold textL
    rw [wordAt_left _ _ _ (by simp only [List.length_append]; omega), wordAt_left _ _ _ (by simp only [List.length_append]; omega), wordAt_right _ _ _ 4 (by omega)]
  have wc : wordAt (textL k c n) 12 = (c : Int) := by
    unfold textL
    rw [wordAt_left _ _ _ (by simp only [List.length_append]; omega), show (12 : Nat) = 12 + 0 from rfl, wordAt_right _ _ _ 12 (by simp only [List.length_append]; omega), w12]
  have wn : ∀ i, wordAt (textL k c n) (13 + i) = wordAt n i := fun i => by
    unfold textL
    rw [wordAt_right _ _ _ 13 (by simp only [List.length_append]; omega)]
  have ws : ∀ i, i < 4 → wordAt (textL k c n) i = wordAt sigmaL i := fun i hi => by
    unfold textL
    rw [wordAt_left _ _ _ (by simp only [List.length_append]; omega), wordAt_left _ _ _ (by simp only [List.length_append]; omega), wordAt_left _ _ _ (by omega)]
  intro q hq
  have : q = 0 ∨ q = 1 ∨ q = 2 ∨ q = 3 ∨ q = 4 ∨ q = 5 ∨ q = 6 ∨ q = 7 ∨ q = 8 ∨ q = 9 ∨ q = 10 ∨ q = 11 ∨ q = 12 ∨ q = 13 ∨ q = 14 ∨ q = 15 := by omega
  rcases this with rfl | rfl | rfl | rfl | rfl | rfl | rfl | rfl | rfl | rfl | rfl | rfl | rfl | rfl | rfl | rfl
  · rw [ws 0 (by omega)]; rfl
  · rw [ws 1 (by omega)]; rfl
  · rw [ws 2 (by omega)]; rfl
  · rw [ws 3 (by omega)]; rfl
  · exact (wk 0 (by omega)).symm
  · exact (wk 1 (by omega)).symm
  · exact (wk 2 (by omega)).symm
  · exact (wk 3 (by omega)).symm
  · exact (wk 4 (by omega)).symm
  · exact (wk 5 (by omega)).symm
  · exact (wk 6 (by omega)).symm
  · exact (wk 7 (by omega)).symm
  · exact wc.symm
  · exact (wn 0).symm
  · exact (wn 1).symm
  · exact (wn 2).symm
end Go.My
namespace Go.Proofs.YtgjnoleejbkddaaDoor
open Go.RowKit Go.My Go.Lib
set_option linter.unusedVariables false

abbrev Z16 : Array Value := #[.int .u32 0, .int .u32 0, .int .u32 0, .int .u32 0, .int .u32 0, .int .u32 0, .int .u32 0, .int .u32 0, .int .u32 0, .int .u32 0, .int .u32 0, .int .u32 0, .int .u32 0, .int .u32 0, .int .u32 0, .int .u32 0]
theorem alG (w : World) : (Instr.alloc 68 true (.tuple #[])).run Tryd.prog w = .ok (.pointer (some ⟨w.heap.size, 0, none⟩)) (w.alloc (.cells Z16 68)) := by kernel_rfl
theorem szG16 : (Tryd.prog.info? 68).map (·.size) = some 16 := by kernel_rfl
theorem gSz (f : Nat → Int) : (Tryd.prog.info? 68).map (·.size) = some (rwA .u32 16 f).size := by rw [rwA_size]; exact szG16
theorem gZs (f : Nat → Int) : Z16.size = (rwA .u32 16 f).size := by rw [rwA_size]; rfl
theorem bGrid (c : Int) (w : World) : (Instr.build 68 #[(0, .int .u32 1634760805), (1, .int .u32 857760878), (2, .int .u32 2036477234), (3, .int .u32 1797285236), (12, .int .u32 c)]).run Tryd.prog w = .ok (.agg (rwA .u32 16 (bF c))) w := by kernel_rfl
theorem cut4 (k : ByteArray) (j : Nat) (h : 4 * j + 4 ≤ k.size) : IntKind.u32.wrap ((leN (k.extract (4 * j) (4 * j + 4)).data.toList : Nat) : Int) = wordAt k.data.toList j := by
  have e : (k.extract (4 * j) (4 * j + 4)).data.toList = (k.data.toList.drop (4 * j)).take 4 := by
    rw [ByteArray.data_extract, Array.toList_extract, List.extract_eq_take_drop]
    congr 1
    omega
  rw [e]
  have := wordAt_bd k.data.toList j
  unfold wordAt at this ⊢
  rw [IntKind.wrap_u32]
  omega

set_option maxRecDepth 100000 in
set_option maxHeartbeats 1000000 in
theorem newGrid_any (k n : ByteArray) (c : Nat) (w : World) (hk : k.size = 32) (hn : n.size = 12) (hc : c < 4294967296) :
    Calls Tryd.prog 50 #[.string k, .int .u32 c, .string n] w fun e w' => e = .returned (.agg (rwA .u32 16 (wordAt (textL k.data.toList c n.data.toList)))) ∧ Below w.heap.size w w' := by
  have HW : Hid (rwA .u32 16 (nF k.data.toList c n.data.toList 3) = rwA .u32 16 (wordAt (textL k.data.toList c n.data.toList))) := rwA_congr .u32 16 (text_words k.data.toList c n.data.toList (by rw [len_data]; exact hk) (by rw [len_data]; exact hn) hc)
  have HK := Lib.hid hk
  have HN := Lib.hid hn
  generalize rwA .u32 16 (wordAt (textL k.data.toList c n.data.toList)) = V at *
  clear hk hn hc
  go_enter Tryd.func50, Tryd.ntmps50
  go_upto_region 1 with (fail)
  have fR : Blk w.heap.size Z16 68 (w.alloc (.cells Z16 68)) := heap_alloc_new w _
  have hB : Below w.heap.size w (w.alloc (.cells Z16 68)) := (Below.refl _ _).alloc (Nat.le_refl _) _
  have hM : w.heap.size + 1 ≤ (w.alloc (.cells Z16 68)).heap.size := by simp
  generalize w.alloc (.cells Z16 68) = W at *
  refine region_seq 4 (kdAt [.val (.int .u32 c), .val (.agg (rwA .u32 16 (bF c))), .new 68 Z16, .put 2 68 (rwA .u32 16 (bF c))]) [some 10, some 11, some 7, none] (by decide) (by kernel_rfl) (by kernel_rfl) (by kernel_rfl) (by kernel_rfl) ?_ ?_
  · repeat refine allS ?_ ?_
    · exact all0
    · exact stepMove rfl rfl rfl rfl (src_old (by kernel_rfl) rfl)
    · exact stepBuild [(10, .int .u32 c)] #[(0, .int .u32 1634760805), (1, .int .u32 857760878), (2, .int .u32 2036477234), (3, .int .u32 1797285236), (12, .int .u32 c)] rfl rfl rfl rfl (srcN1 (src_new 0 (by decide) rfl rfl (by kernel_rfl))) (fun a ha => by
        have h1 : a.eval (.tmp 10) = .int .u32 c := ha (10, .int .u32 c) (by simp)
        simp only [List.map_toArray, List.map_cons, List.map_nil, h1]
        rfl) (fun w => bGrid c w)
    · exact stepNew rfl rfl rfl rfl alG
    · exact stepPut (Z := Z16) (d := 7) (k := 11) rfl rfl rfl rfl rfl (by decide) rfl (by kernel_rfl) rfl (gZs _) (src_new 1 (by decide) rfl rfl (by kernel_rfl)) (gSz _) (rwA_one _ _ _) (uniq_of rfl)
  intro v x1 hok hk1
  replace hk1 := hk1.all
  refine wpList_nil ?_
  have v0 := okVal hok (j := 0) rfl rfl
  have v1 := okVal hok (j := 1) rfl rfl
  obtain ⟨g, v2, kG, lG⟩ := okRowB hok (i := 3) (j := 2) rfl rfl rfl rfl
  clear hok
  simp only [putL, Nat.zero_add, Nat.reduceAdd, v0, v1, v2, Act.put, List.setIfInBounds_toArray, List.set_cons_zero, List.set_cons_succ]
  clear v0 v1 v2
  have f1 : Blk g (rwA .u32 16 (kF k.data.toList c 0)) 68 x1 := kG
  have HG : Hid (w.heap.size < g) := by show _ < _; omega
  replace fR := fR.below (hk1.below (nh0 rfl))
  replace hB := hB.trans ((hk1.below (nh0 rfl)).mono hB.size)
  clear hk1 kG lG hM
  go_wp2
  go_loopw [12] (fun i wr => ∃ j : Nat, j ≤ 8 ∧ i = .int .i64 j ∧ Blk g (rwA .u32 16 (kF k.data.toList c j)) 68 wr ∧ Blk w.heap.size Z16 68 wr ∧ Below w.heap.size w wr) (fun i _ => 8 - (intOf i).toNat)
  case atStart => exact ⟨0, by omega, rfl, f1, fR, hB⟩
  case round =>
    clear f1 fR hB
    obtain ⟨j, hj, rfl, q, fR, hB⟩ := hrel
    by_cases hlt : j < 8
    · have k0 : (0 : Int) ≤ (j : Int) := by omega
      have k1 : (j : Int) < 8 := by omega
      have hkz : (k.size : Int) = 32 := by have := HK.out; omega
      have e1 : IntKind.i64.wrap (4 + (j : Int)) = ((4 + j : Nat) : Int) := by rw [IntKind.wrap_i64]; omega
      have e2 : IntKind.i64.wrap (4 * (j : Int)) = ((4 * j : Nat) : Int) := by rw [IntKind.wrap_i64]; omega
      have e3 : IntKind.i64.wrap (((4 * j : Nat) : Int) + 4) = ((4 * j + 4 : Nat) : Int) := by rw [IntKind.wrap_i64]; omega
      have q2 : ((4 * j : Nat) : Int) ≤ ((4 * j + 4 : Nat) : Int) := by omega
      have q3 : ((4 * j + 4 : Nat) : Int) ≤ (k.size : Int) := by omega
      have q4 : 4 * j + 4 ≤ k.size := by omega
      have q5 : (((4 * j + 4 : Nat) : Int)) ≤ 32 := by omega
      have c1 := q.u32 (j := 4 + j) (by omega)
      have z1 := q.froz (j := 4 + j)
      have i1 : ((4 + j : Nat) : Int) < 16 := by omega
      have hw := cut4 k j q4
      have C := Lib.hid (fun w => ln_impl (k.extract (4 * j) (4 * j + 4)) w (by rw [ByteArray.size_extract]; omega))
      have HR := Lib.hid (And.intro (q.put32 (j := 4 + j) (by omega) (wordAt k.data.toList j)) (And.intro (fR.other (k := g) (4 + j) (.int .u32 (wordAt k.data.toList j)) (by have := HG.out; omega)) (hB.setCell (p := ⟨g, 4 + j, none⟩) (by have := HG.out; simp; omega) (.int .u32 (wordAt k.data.toList j)))))
      have HE : Hid (updF (kF k.data.toList c j) (4 + j) (wordAt k.data.toList j) = kF k.data.toList c (j + 1)) := rfl
      generalize wordAt k.data.toList j = X at *
      generalize leN (k.extract (4 * j) (4 * j + 4)).data.toList = Y at *
      generalize kF k.data.toList c j (4 + j) = O at *
      clear q fR hB hlt
      go_wp2_with fail
      refine (C.out _).mono ?_
      rintro e w' ⟨rfl, rfl⟩
      go_wp2
      go_roundw
      case rel => exact ⟨j + 1, by omega, by go_num, by rw [← HE.out]; exact HR.out.1, HR.out.2.1, HR.out.2.2⟩
      case measure => simp [intOf]; omega
    · have hj8 : j = 8 := by omega
      have k1 : (8 : Int) ≤ (j : Int) := by omega
      rw [hj8] at q
      have q0 : Blk g (rwA .u32 16 (nF k.data.toList c n.data.toList 0)) 68 wr := q
      clear hlt hj8 q
      go_wp2
      go_loopw [28] (fun i wr => ∃ j : Nat, j ≤ 3 ∧ i = .int .i64 j ∧ Blk g (rwA .u32 16 (nF k.data.toList c n.data.toList j)) 68 wr ∧ Blk w.heap.size Z16 68 wr ∧ Below w.heap.size w wr) (fun i _ => 3 - (intOf i).toNat)
      case atStart => exact ⟨0, by omega, rfl, q0, fR, hB⟩
      case round =>
        clear q0 fR hB
        obtain ⟨j, hj, rfl, q, fR, hB⟩ := hrel
        by_cases hlt : j < 3
        · have k0 : (0 : Int) ≤ (j : Int) := by omega
          have k1 : (j : Int) < 3 := by omega
          have hkz : (n.size : Int) = 12 := by have := HN.out; omega
          have e1 : IntKind.i64.wrap (13 + (j : Int)) = ((13 + j : Nat) : Int) := by rw [IntKind.wrap_i64]; omega
          have e2 : IntKind.i64.wrap (4 * (j : Int)) = ((4 * j : Nat) : Int) := by rw [IntKind.wrap_i64]; omega
          have e3 : IntKind.i64.wrap (((4 * j : Nat) : Int) + 4) = ((4 * j + 4 : Nat) : Int) := by rw [IntKind.wrap_i64]; omega
          have q2 : ((4 * j : Nat) : Int) ≤ ((4 * j + 4 : Nat) : Int) := by omega
          have q3 : ((4 * j + 4 : Nat) : Int) ≤ (n.size : Int) := by omega
          have q4 : 4 * j + 4 ≤ n.size := by omega
          have q5 : (((4 * j + 4 : Nat) : Int)) ≤ 12 := by omega
          have c1 := q.u32 (j := 13 + j) (by omega)
          have z1 := q.froz (j := 13 + j)
          have i1 : ((13 + j : Nat) : Int) < 16 := by omega
          have hw := cut4 n j q4
          have C := Lib.hid (fun w => ln_impl (n.extract (4 * j) (4 * j + 4)) w (by rw [ByteArray.size_extract]; omega))
          have HR := Lib.hid (And.intro (q.put32 (j := 13 + j) (by omega) (wordAt n.data.toList j)) (And.intro (fR.other (k := g) (13 + j) (.int .u32 (wordAt n.data.toList j)) (by have := HG.out; omega)) (hB.setCell (p := ⟨g, 13 + j, none⟩) (by have := HG.out; simp; omega) (.int .u32 (wordAt n.data.toList j)))))
          have HE : Hid (updF (nF k.data.toList c n.data.toList j) (13 + j) (wordAt n.data.toList j) = nF k.data.toList c n.data.toList (j + 1)) := rfl
          generalize wordAt n.data.toList j = X at *
          generalize leN (n.extract (4 * j) (4 * j + 4)).data.toList = Y at *
          generalize nF k.data.toList c n.data.toList j (13 + j) = O at *
          clear q fR hB hlt
          go_wp2_with fail
          refine (C.out _).mono ?_
          rintro e w' ⟨rfl, rfl⟩
          go_wp2
          go_roundw
          case rel => exact ⟨j + 1, by omega, by go_num, by rw [← HE.out]; exact HR.out.1, HR.out.2.1, HR.out.2.2⟩
          case measure => simp [intOf]; omega
        · have hj3 : j = 3 := by omega
          have k1 : (3 : Int) ≤ (j : Int) := by omega
          rw [hj3] at q
          have HS := Lib.hid (gSz (nF k.data.toList c n.data.toList 3))
          have HZ := Lib.hid (gZs (nF k.data.toList c n.data.toList 3))
          have HO := Lib.hid (rwA_one .u32 16 (nF k.data.toList c n.data.toList 3))
          rw [HW.out] at q HS HZ HO
          clear hlt hj3
          go_wp2_with (first
            | with_reducible refine wpList_load_row (o := ⟨some 44, _, _, _, _, _⟩) rfl 68 _ rfl g rfl 68 V (0, 0) _ q.h Tryd.underlying68 rfl HS.out ?_
            | ((with_reducible refine wpList_store_row' (o := ⟨none, .store 68 _ _, _, _, _, _⟩) rfl 68 _ _ rfl w.heap.size V rfl rfl 68 Z16 fR.h HS.out HZ.out HO.out ?_); intro w5 hw5 hs5 hg5)
            | fail)
          have hB5 : Below w.heap.size w w5 := hB.grown hg5 (by have := hB.size; omega) (by intro k hk; have := Option.some.inj hk; omega)
          refine bodyPost_ret (v := .agg V) ?_ rfl ⟨rfl, hB5⟩
          exact results_cell_row Tryd.results50 _ _ w.heap.size 68 _ (0, 0) _ rfl hw5 Tryd.underlying68 rfl HS.out

end Go.Proofs.YtgjnoleejbkddaaDoor

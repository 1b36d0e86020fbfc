/- The program's Block. -/
import Derived.Test.YtgjnoleejbkddaaDoorGCha4
namespace Go.My
open Go.RowKit
set_option linter.unusedVariables false
def outW (l : List UInt8) (q : Nat) : Nat := (add32 (dblN (wordAt l) 10 q) (wordAt l q)).toNat
def cOut (l : List UInt8) : Nat → List UInt8
  | 0 => []
  | q + 1 => cOut l q ++ leB (outW l q) 4
theorem cOut_len (l : List UInt8) : ∀ q, (cOut l q).length = 4 * q
  | 0 => rfl
  | q + 1 => by
    show (cOut l q ++ leB (outW l q) 4).length = _
    rw [List.length_append, cOut_len l q, leB_len]
    omega
theorem outW_is (l : List UInt8) (q : Nat) : add32 (dblN (wordAt l) 10 q) (wordAt l q) = (outW l q : Int) ∧ outW l q < 4294967296 := by
  have := add32_bd (dblN (wordAt l) 10 q) (wordAt l q)
  unfold outW
  omega
/-- Whether a block's arguments are as they must be; the block. -/
abbrev BlkP (k : ByteArray) (c : Int) (n : ByteArray) : Prop := k.size = 32 ∧ 0 ≤ c ∧ c ≤ 4294967295 ∧ n.size = 12
def blkE (k : ByteArray) (c : Int) (n : ByteArray) : ByteArray := str (cOut (textL k.data.toList c.toNat n.data.toList) 16)
def blkV (k : ByteArray) (c : Int) (n : ByteArray) : ByteArray := if BlkP k c n then blkE k c n else ByteArray.mk #[]
theorem blkE_size (k : ByteArray) (c : Int) (n : ByteArray) : (blkE k c n).size = 64 := by unfold blkE; rw [str_size, cOut_len]
end Go.My
namespace Go.Proofs.YtgjnoleejbkddaaDoor
open Go.RowKit Go.My Go.Lib
set_option linter.unusedVariables false

theorem ix16 (G : Nat → Int) (q : Nat) (h : q < 16) (w : World) : (Instr.index 68 (.agg (rwA .u32 16 G)) (.int .i64 (q : Int))).run Tryd.prog w = .ok (.int .u32 (G q)) w :=
  run_index_arr w 68 64 16 _ .i64 .u32 q _ Tryd.underlying68 Tryd.underlying64 (by kernel_rfl) h (rwA_get .u32 16 G q h)

theorem gLd {g : Nat} {f : Nat → Int} {w : World} (h : Blk g (rwA .u32 16 f) 68 w) : (Instr.loadAt 68 (.pointer (some ⟨g, 0, none⟩))).run Tryd.prog w = .ok (.agg (rwA .u32 16 f)) w := by
  have hr : w.rangeAt g 0 (rwA .u32 16 f).toList := fun j v hv => by
    rw [Nat.zero_add, cell_of_row _ _ _ _ _ _ h]
    simpa using hv
  have := run_loadAt_mid (P := Tryd.prog) w g 0 68 (rwA .u32 16 f).toList (.array 16 64) hr Tryd.underlying68 rfl (by rw [Array.length_toList]; exact gSz f)
  rw [Array.toArray_toList] at this
  exact this

set_option maxRecDepth 100000 in
set_option maxHeartbeats 2000000 in
theorem block_i (k : ByteArray) (c : Int) (n : ByteArray) (w : World) (hk : k.size ≤ 1048576) (hn : n.size ≤ 1048576) (hcw : (Lit.int .i64 c).wf = true) :
    Calls Tryd.prog 40 #[.string k, .int .i64 c, .string n] w fun e w' => e = .returned (.string (blkV k c n)) ∧ Below w.heap.size w w' := by
  have HI := Lib.hid (fun w => isKey_any k w (by omega))
  have hnI : (n.size : Int) ≤ 1048576 := by omega
  clear hk hcw
  by_cases h1 : k.size = 32
  case neg =>
    have HV : Hid (blkV k c n = ByteArray.mk #[]) := if_neg (fun x => h1 x.1)
    have HD : Hid (decide (k.size = 32) = false) := decide_eq_false h1
    generalize blkV k c n = V at *
    clear h1 hn
    go_enter Tryd.func40, Tryd.ntmps40
    go_wp2_with fail
    refine (HI.out _).mono ?_
    rintro e w' ⟨rfl, rfl⟩
    rw [HD.out]
    go_wp2
    go_ret
    exact ⟨by rw [HV.out]; rfl, Below.refl _ _⟩
  have HD : Hid (decide (k.size = 32) = true) := decide_eq_true h1
  by_cases h2 : 0 ≤ c
  case neg =>
    have HV : Hid (blkV k c n = ByteArray.mk #[]) := if_neg (fun x => h2 x.2.1)
    have c0 : c < 0 := by omega
    generalize blkV k c n = V at *
    clear h1 h2 hn
    go_enter Tryd.func40, Tryd.ntmps40
    go_wp2_with fail
    refine (HI.out _).mono ?_
    rintro e w' ⟨rfl, rfl⟩
    rw [HD.out]
    go_wp2
    go_ret
    exact ⟨by rw [HV.out]; rfl, Below.refl _ _⟩
  by_cases h3 : c ≤ 4294967295
  case neg =>
    have HV : Hid (blkV k c n = ByteArray.mk #[]) := if_neg (fun x => h3 x.2.2.1)
    have c0 : 4294967295 < c := by omega
    generalize blkV k c n = V at *
    clear h1 h3 hn
    go_enter Tryd.func40, Tryd.ntmps40
    go_wp2_with fail
    refine (HI.out _).mono ?_
    rintro e w' ⟨rfl, rfl⟩
    rw [HD.out]
    go_wp2
    go_ret
    exact ⟨by rw [HV.out]; rfl, Below.refl _ _⟩
  by_cases h4 : n.size = 12
  case neg =>
    have HV : Hid (blkV k c n = ByteArray.mk #[]) := if_neg (fun x => h4 x.2.2.2)
    have c0 : ((n.size : Int) != 12) = true := by simp; omega
    generalize blkV k c n = V at *
    clear h1 h4 hn
    go_enter Tryd.func40, Tryd.ntmps40
    go_wp2_with fail
    refine (HI.out _).mono ?_
    rintro e w' ⟨rfl, rfl⟩
    rw [HD.out]
    go_wp2
    go_ret
    exact ⟨by rw [HV.out]; rfl, Below.refl _ _⟩
  have c4 : ((n.size : Int) != 12) = false := by simp; omega
  obtain ⟨m, rfl⟩ : ∃ m : Nat, c = (m : Int) := ⟨c.toNat, by omega⟩
  have hm : m < 4294967296 := by omega
  have HV : Hid (blkV k m n = str (cOut (textL k.data.toList m n.data.toList) 16)) := if_pos ⟨h1, h2, h3, h4⟩
  have hwr : IntKind.u32.wrap (m : Int) = (m : Int) := by rw [IntKind.wrap_u32]; omega
  have CG := Lib.hid (fun w => newGrid_any k n m w h1 h4 hm)
  have HBD := Lib.hid (wordAt_bd (textL k.data.toList m n.data.toList))
  have HOW := Lib.hid (outW_is (textL k.data.toList m n.data.toList))
  have HCL := Lib.hid (cOut_len (textL k.data.toList m n.data.toList))
  generalize hT : textL k.data.toList m n.data.toList = L at *
  have HT := Lib.hid hT
  generalize blkV k m n = V at *
  clear h1 h4 hn hm hT
  go_enter Tryd.func40, Tryd.ntmps40
  go_wp2_with fail
  refine (HI.out _).mono ?_
  rintro e w' ⟨rfl, rfl⟩
  rw [HD.out]
  go_wp2_with fail
  refine (CG.out _).mono ?_
  rintro e w1 ⟨rfl, hb1⟩
  have HS := Lib.hid (gSz (wordAt L))
  have HZ := Lib.hid (gZs (wordAt L))
  have HO := Lib.hid (rwA_one .u32 16 (wordAt L))
  generalize hR : rwA .u32 16 (wordAt L) = R at *
  have HR := Lib.hid hR
  clear hR
  go_upto_region 4 with (first
    | ((with_reducible refine wpList_store_row' (o := ⟨none, .store 68 _ _, _, _, _, _⟩) rfl 68 _ _ rfl w1.heap.size R rfl rfl 68 Z16 (heap_alloc_new w1 _) HS.out HZ.out HO.out ?_); intro w2 hw2 hs2 hg2)
    | fail)
  have f2 : Blk w1.heap.size R 68 w2 := hw2
  have hB2 : Below w.heap.size w w2 := (hb1.alloc hb1.size _).grown hg2 (by simp; have := hb1.size; omega) (by intro k hk; have := Option.some.inj hk; have := hb1.size; omega)
  have HG7 : Hid (w.heap.size ≤ w1.heap.size) := hb1.size
  rw [← HR.out] at f2
  clear hw2 hs2 hg2 hb1 HS HZ HO
  generalize w1.heap.size = g7 at *
  refine region_seq 3 (kdAt [.val (.agg (rwA .u32 16 (wordAt L))), .new 68 Z16, .put 1 68 (rwA .u32 16 (wordAt L))]) [some 33, some 8, none] (by decide) (by kernel_rfl) (by kernel_rfl) (by kernel_rfl) (by kernel_rfl) ?_ ?_
  · repeat refine allS ?_ ?_
    · exact all0
    · exact stepLoad (.pointer (some ⟨g7, 0, none⟩)) rfl rfl rfl rfl (src_old (by kernel_rfl) rfl) (fun w hk => gLd (f2.below (hk.below (nh0 rfl))))
    · exact stepNew rfl rfl rfl rfl alG
    · exact stepPut (Z := Z16) (d := 8) (k := 33) rfl rfl rfl rfl rfl (by decide) rfl (by kernel_rfl) rfl (gZs _) (src_new 0 (by decide) rfl rfl (by kernel_rfl)) (gSz _) (rwA_one _ _ _) (uniq_of rfl)
  intro v w3 hok hk1
  replace hk1 := hk1.all
  refine wpList_nil ?_
  have v0 := okVal hok (j := 0) rfl rfl
  obtain ⟨g8, v1, kG, lG⟩ := okRowB hok (i := 2) (j := 1) rfl rfl rfl rfl
  clear hok
  simp only [putL, Nat.zero_add, v0, v1, Act.put, List.setIfInBounds_toArray, List.set_cons_zero, List.set_cons_succ]
  clear v0 v1
  have f8 : Blk g8 (rwA .u32 16 (wordAt L)) 68 w3 := kG
  have HNE : Hid (g7 ≠ g8 ∧ w.heap.size ≤ g7 ∧ w.heap.size ≤ g8) := by show _ ∧ _; have := f2.lt; have := HG7.out; have := hB2.size; omega
  have f7 := f2.below (hk1.below (nh0 rfl))
  have hB3 := hB2.trans ((hk1.below (nh0 rfl)).mono hB2.size)
  clear hk1 kG lG f2 hB2
  go_wp2
  have f8' : Blk g8 (rwA .u32 16 (dblN (wordAt L) 0)) 68 w3 := f8
  clear f8
  go_loopw [34] (fun i wr => ∃ j : Nat, j ≤ 10 ∧ i = .int .i64 j ∧ Blk g8 (rwA .u32 16 (dblN (wordAt L) j)) 68 wr ∧ Blk g7 (rwA .u32 16 (wordAt L)) 68 wr ∧ Below w.heap.size w wr) (fun i _ => 10 - (intOf i).toNat)
  case atStart => exact ⟨0, by omega, rfl, f8', f7, hB3⟩
  case round =>
    clear f8' f7 hB3
    obtain ⟨j, hj, rfl, f8, f7, hB⟩ := hrel
    by_cases hlt : j < 10
    · have k1 : (j : Int) < 10 := by omega
      have C := Lib.hid (fun w hw => doubleRound_any g8 68 (dblN (wordAt L) j) w hw (dblN_bd HBD.out j))
      have HE : Hid (dblF (dblN (wordAt L) j) = dblN (wordAt L) (j + 1)) := rfl
      generalize dblF (dblN (wordAt L) j) = f1 at *
      clear hlt
      go_wp2_with fail
      refine (C.out _ f8).mono ?_
      rintro e w4 ⟨rfl, q4, g4⟩
      have p4 : Blk g7 (rwA .u32 16 (wordAt L)) 68 w4 := (g4.block g7 f7.lt (by have := HNE.out.1; simp; omega)).trans f7
      have hB4 : Below w.heap.size w w4 := hB.grown g4 (by have := hB.size; omega) (by intro k hk; have := Option.some.inj hk; have := HNE.out; omega)
      have HRR := Lib.hid (And.intro q4 (And.intro p4 hB4))
      clear f8 f7 hB q4 g4 p4 hB4
      go_wp2
      go_roundw
      case rel => exact ⟨j + 1, by omega, by go_num, by rw [← HE.out]; exact HRR.out.1, HRR.out.2.1, HRR.out.2.2⟩
      case measure => simp [intOf]; omega
    · have hj10 : j = 10 := by omega
      have k1 : (10 : Int) ≤ (j : Int) := by omega
      rw [hj10] at f8
      have HS8 := Lib.hid (gSz (dblN (wordAt L) 10))
      have HIX := Lib.hid (fun q h w => ix16 (dblN (wordAt L) 10) q h w)
      clear hlt hj10
      go_wp2_with (first
        | with_reducible refine wpList_load_row (o := ⟨some 38, _, _, _, _, _⟩) rfl 68 _ rfl g8 rfl 68 (rwA .u32 16 (dblN (wordAt L) 10)) (0, 0) _ f8.h Tryd.underlying68 rfl HS8.out ?_
        | fail)
      clear f8 HS8
      go_loopw [9, 39] (fun s i wr => ∃ q : Nat, q ≤ 16 ∧ i = .int .i64 q ∧ s = .string (str (cOut L q)) ∧ Blk g7 (rwA .u32 16 (wordAt L)) 68 wr ∧ Below w.heap.size w wr) (fun _ i _ => 16 - (intOf i).toNat)
      case atStart => exact ⟨0, by omega, rfl, rfl, f7, hB⟩
      case round =>
        clear f7 hB
        obtain ⟨q, hq, rfl, rfl, f7, hB⟩ := hrel
        by_cases hlt : q < 16
        · have k0 : (0 : Int) ≤ (q : Int) := by omega
          have k1 : (q : Int) < 16 := by omega
          have hix := HIX.out q hlt
          have c1 := f7.u32 hlt
          obtain ⟨hA, hN⟩ := HOW.out q
          obtain ⟨N, eN⟩ : ∃ N, N = outW L q := ⟨_, rfl⟩
          rw [← eN] at hA hN
          have hA2 : IntKind.u32.wrap (dblN (wordAt L) 10 q + wordAt L q) = (N : Int) := hA
          have n0 : (0 : Int) ≤ (N : Int) := by omega
          have n1 : (N : Int) ≤ 4294967295 := by omega
          have C := Lib.hid (fun w => (show Calls Tryd.prog 52 #[.int .u64 N, .int .i64 4] w fun e w' => e = .returned (.string (str (leB N 4))) ∧ Below w.heap.size w w' from le_impl N 4 w (by unfold U64; omega) (by omega)))
          have hc : ¬ 9223372036854775807 < (str (cOut L q)).size + (str (leB N 4)).size := by rw [str_size, str_size, HCL.out q, leB_len]; omega
          have HE : Hid (str (cOut L q) ++ str (leB N 4) = str (cOut L (q + 1))) := by show _ = _; rw [str_app, eN]; rfl
          generalize dblN (wordAt L) 10 q = X at *
          generalize wordAt L q = Y at *
          generalize str (leB N 4) = S4 at *
          generalize str (cOut L q) = SQ at *
          clear hA hlt eN
          go_wp2_with fail
          refine (C.out _).mono ?_
          rintro e w5 ⟨rfl, hb5⟩
          have HRR := Lib.hid (And.intro (f7.below hb5) (hB.trans (hb5.mono hB.size)))
          clear f7 hB hb5
          go_wp2
          go_roundw
          case rel => exact ⟨q + 1, by omega, by go_num, by rw [HE.out], HRR.out.1, HRR.out.2⟩
          case measure => simp [intOf]; omega
        · have hq16 : q = 16 := by omega
          have k1 : (16 : Int) ≤ (q : Int) := by omega
          have HE : Hid (str (cOut L q) = V) := by show _ = _; rw [hq16, HV.out]
          generalize str (cOut L q) = SQ at *
          clear hlt hq16 f7
          go_wp2
          go_ret
          exact ⟨by rw [← HE.out]; rfl, hB⟩

end Go.Proofs.YtgjnoleejbkddaaDoor

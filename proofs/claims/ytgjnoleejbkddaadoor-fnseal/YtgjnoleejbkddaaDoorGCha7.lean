/- The specification's l4Block. -/
import Derived.Test.YtgjnoleejbkddaaDoorGCha6
import Derived.Deep.AppendLies
import Derived.Deep.OwnRows
import Derived.Lib.ConvBytes
namespace Go.My
open Go.RowKit
set_option linter.unusedVariables false
theorem made16 : madeCells #[Value.int .u32 0] 16 = rwA .u32 16 (fun _ => 0) := by kernel_rfl
theorem leB4 (n : Nat) : leB n 4 = [UInt8.ofNat n, UInt8.ofNat (n / 256), UInt8.ofNat (n / 65536), UInt8.ofNat (n / 16777216)] := by
  show [UInt8.ofNat n, UInt8.ofNat (n / 256), UInt8.ofNat (n / 256 / 256), UInt8.ofNat (n / 256 / 256 / 256)] = _
  rw [Nat.div_div_eq_div_mul, Nat.div_div_eq_div_mul]
theorem u8w (n : Nat) : IntKind.u8.wrap (n : Int) = ((UInt8.ofNat n).toNat : Int) := by
  rw [IntKind.wrap_u8, UInt8.toNat_ofNat']
  omega
end Go.My
namespace Go.Proofs.YtgjnoleejbkddaaDoor
open Go.RowKit Go.My Go.Lib
set_option linter.unusedVariables false
theorem info_u32b : (Tryd.prog.info? 64).map (fun i => (i.zero, i.size, i.bytes)) = some (some (.int .u32 0), 1, 4) := by kernel_rfl
theorem info_u8q : (Tryd.prog.info? 5).map (fun i => (i.zero, i.size, i.bytes)) = some (some (.int .u8 0), 1, 1) := by kernel_rfl
theorem mul4 (q : Nat) (h : q ≤ 100) (x y : Operand) (w : World) : (do eqGuard .mul 3 x y (.int .i64 4) (.int .i64 q); binOp .mul 3 (.int .i64 4) (.int .i64 q) : Sem Value).run Tryd.prog w = .ok (.int .i64 (4 * q : Nat)) w := by
  have : IntKind.i64.wrap (4 * (q : Int)) = ((4 * q : Nat) : Int) := by rw [IntKind.wrap_i64]; omega
  simp [eqGuard, binOp, go_sem, this]
theorem cfLe (args : Array Value) (w : World) : (callFunc 46 args).run Tryd.prog w = .ok (.enter 46 args) w := cf_of Tryd.func46 (by kernel_rfl) (by kernel_rfl) args w
theorem ownsRow_below2 {w w' : World} {B e n : Nat} {v : Value} {xs : List Value} (hown : w.ownsRow B e 1 v n xs) (hb : Below w.heap.size w w') : w'.ownsRow B e 1 v n xs :=
  hown.kept (row := none) ⟨hb.os, hb.tape, hb.output, hb.size, fun k hk _ => hb.block k hk⟩ (by cases v.ownBlock <;> simp)
theorem convLit4 (W : World) (b0 b1 b2 b3 : UInt8) : (convert 25 9 (.slice (some ⟨W.heap.size, 0, none⟩) 4 4)).run Tryd.prog (W.alloc (.cells #[.int .u8 (b0.toNat : Int), .int .u8 (b1.toNat : Int), .int .u8 (b2.toNat : Int), .int .u8 (b3.toNat : Int)] 5)) = .ok (.string (str [b0, b1, b2, b3])) (W.alloc (.cells #[.int .u8 (b0.toNat : Int), .int .u8 (b1.toNat : Int), .int .u8 (b2.toNat : Int), .int .u8 (b3.toNat : Int)] 5)) :=
  run_convert_own (P := Tryd.prog) _ 25 9 5 W.heap.size 4 _ [b0, b1, b2, b3] Tryd.underlying25 Tryd.underlying5 Tryd.underlying9 (World.ownsRow_lit (base := W.heap.size) (e := 5) (size := 1) W #[.int .u8 (b0.toNat : Int), .int .u8 (b1.toNat : Int), .int .u8 (b2.toNat : Int), .int .u8 (b3.toNat : Int)] 4 (Nat.le_refl _) (by unfold maxLen; omega) rfl)

set_option maxRecDepth 100000 in
set_option maxHeartbeats 2000000 in
theorem l4Block_s (k : ByteArray) (m : Nat) (n : ByteArray) (w : World) (hk : k.size = 32) (hn : n.size = 12) (hm : m < 4294967296) :
    Calls Tryd.prog 33 #[.string k, .int .i64 m, .string n] w fun e w' => e = .returned (.string (str (cOut (textL k.data.toList m n.data.toList) 16))) ∧ Below w.heap.size w w' := by
  obtain ⟨i0, hi, hz0, hz1, hz2⟩ := info_parts info_u8q
  obtain ⟨S, eS⟩ : ∃ S : ByteArray, S = (ByteArray.mk #[101, 120, 112, 97, 110, 100, 32, 51, 50, 45, 98, 121, 116, 101, 32, 107]) ++ k ++ str (leB m 4) ++ n := ⟨_, rfl⟩
  have hSd : S.data.toList = textL k.data.toList m n.data.toList := by
    rw [eS]
    simp only [ByteArray.data_append, Array.toList_append]
    rw [str_list]
    rfl
  have hSz : S.size = 64 := by rw [← len_data, hSd]; unfold textL; simp only [List.length_append, len_data, leB_len, hk, hn]; rfl
  have HW : Hid (∀ i, wordP S (4 * i) = wordAt (textL k.data.toList m n.data.toList) i) := fun i => by unfold wordP wordAt; rw [hSd]
  have w0 := u8w m
  have w1 : IntKind.u8.wrap ((m : Int) / 256) = ((UInt8.ofNat (m / 256)).toNat : Int) := by rw [← u8w]; rfl
  have w2 : IntKind.u8.wrap ((m : Int) / 65536) = ((UInt8.ofNat (m / 65536)).toNat : Int) := by rw [← u8w]; rfl
  have w3 : IntKind.u8.wrap ((m : Int) / 16777216) = ((UInt8.ofNat (m / 16777216)).toNat : Int) := by rw [← u8w]; rfl
  have hcv := fun W => convLit4 W (UInt8.ofNat m) (UInt8.ofNat (m / 256)) (UInt8.ofNat (m / 65536)) (UInt8.ofNat (m / 16777216))
  rw [← leB4] at hcv
  have z4 : (str (leB m 4)).size = 4 := by rw [str_size, leB_len]
  have hc1 : ¬ 9223372036854775807 < 16 + k.size := by omega
  have hc2 : ¬ 9223372036854775807 < ((ByteArray.mk #[101, 120, 112, 97, 110, 100, 32, 51, 50, 45, 98, 121, 116, 101, 32, 107]) ++ k).size + (str (leB m 4)).size := by rw [ByteArray.size_append, z4, hk]; decide
  have hc3 : ¬ 9223372036854775807 < ((ByteArray.mk #[101, 120, 112, 97, 110, 100, 32, 51, 50, 45, 98, 121, 116, 101, 32, 107]) ++ k ++ str (leB m 4)).size + n.size := by rw [ByteArray.size_append, ByteArray.size_append, z4, hk, hn]; decide
  have hm0 : (0 : Int) ≤ (m : Int) := by omega
  have HBD := Lib.hid (wordAt_bd (textL k.data.toList m n.data.toList))
  have HOW := Lib.hid (outW_is (textL k.data.toList m n.data.toList))
  have HCL := Lib.hid (cOut_len (textL k.data.toList m n.data.toList))
  generalize textL k.data.toList m n.data.toList = L at *
  have HSZ := Lib.hid hSz
  generalize (UInt8.ofNat m) = c0 at *
  generalize (UInt8.ofNat (m / 256)) = c1 at *
  generalize (UInt8.ofNat (m / 65536)) = c2 at *
  generalize (UInt8.ofNat (m / 16777216)) = c3 at *
  generalize str (leB m 4) = C4 at *
  have ES := Lib.hid eS
  clear hSd hSz hk hn hm z4 eS
  have hmk := fun W => Go.run_make_row' (P := Tryd.prog) 63 64 (.int .u32 0) 4 Tryd.underlying63 info_u32b rfl .i64 .i64 16 (by omega) (by omega) W
  simp only [show ((16 : Nat) : Int) = 16 from rfl] at hmk
  go_enter Tryd.func33, Tryd.ntmps33
  go_upto_region 3 with (fail)
  rw [← ES.out]
  have f0 : Blk (w.heap.size + 1) (rwA .u32 16 (upTo 0 (wordAt L) (fun _ => 0))) 64 ((w.alloc (.cells #[.int .u8 (c0.toNat : Int), .int .u8 (c1.toNat : Int), .int .u8 (c2.toNat : Int), .int .u8 (c3.toNat : Int)] 5)).alloc (.cells (madeCells #[.int .u32 0] 16) 64)) := by
    rw [upTo_zero, ← made16]
    exact heap_alloc2_new w _ _
  have hB : Below w.heap.size w ((w.alloc (.cells #[.int .u8 (c0.toNat : Int), .int .u8 (c1.toNat : Int), .int .u8 (c2.toNat : Int), .int .u8 (c3.toNat : Int)] 5)).alloc (.cells (madeCells #[.int .u32 0] 16) 64)) := ((Below.refl _ _).alloc (Nat.le_refl _) _).alloc (by simp) _
  generalize (w.alloc (.cells #[.int .u8 (c0.toNat : Int), .int .u8 (c1.toNat : Int), .int .u8 (c2.toNat : Int), .int .u8 (c3.toNat : Int)] 5)).alloc (.cells (madeCells #[.int .u32 0] 16) 64) = W at *
  obtain ⟨g, hg⟩ : ∃ g, g = w.heap.size + 1 := ⟨_, rfl⟩
  rw [← hg] at f0
  rw [← hg]
  have HG : Hid (w.heap.size ≤ g) := by show _ ≤ _; omega
  clear hcv hmk hc1 hc2 hc3 w0 w1 w2 w3 hg ES hm0
  go_wp2
  go_loopw [9] (fun i wr => ∃ j : Nat, j ≤ 16 ∧ i = .int .i64 j ∧ Blk g (rwA .u32 16 (upTo j (wordAt L) (fun _ => 0))) 64 wr ∧ Below w.heap.size w wr) (fun i _ => 16 - (intOf i).toNat)
  case atStart => exact ⟨0, by omega, rfl, f0, hB⟩
  case round =>
    clear f0 hB
    obtain ⟨j, hj, rfl, q, hB⟩ := hrel
    by_cases hlt : j < 16
    · have k0 : (0 : Int) ≤ (j : Int) := by omega
      have k1 : (j : Int) < 16 := by omega
      have e2 : IntKind.i64.wrap (4 * (j : Int)) = ((4 * j : Nat) : Int) := by rw [IntKind.wrap_i64]; omega
      have C := Lib.hid (fun w => (show Calls Tryd.prog 46 #[.string S, .int .i64 (4 * j : Nat)] w fun e w' => e = .returned (.int .u32 (wordAt L j)) ∧ Below w.heap.size w w' by rw [← HW.out]; exact l4Le_any S (4 * j) w (by have := HSZ.out; omega) (by have := HSZ.out; omega)))
      have HLT := Lib.hid hlt
      clear hlt
      go_wp2_with fail
      refine (C.out _).mono ?_
      rintro e w4 ⟨rfl, hb4⟩
      have q4 := q.below hb4
      have hB4 := hB.trans (hb4.mono hB.size)
      have c1 := q4.u32 HLT.out
      have z1 := q4.froz (j := j)
      have q5 : Blk g (rwA .u32 16 (upTo (j + 1) (wordAt L) (fun _ => 0))) 64 (w4.setCell ⟨g, j, none⟩ (.int .u32 (wordAt L j))) := by
        have := q4.set j (.int .u32 (wordAt L j))
        rw [upTo_set .u32 16 j (wordAt L) (fun _ => 0) HLT.out] at this
        exact this
      have HR := Lib.hid (And.intro q5 (hB4.setCell (p := ⟨g, j, none⟩) HG.out (.int .u32 (wordAt L j))))
      generalize wordAt L j = X at *
      clear q hB hb4 q4 hB4 q5
      go_wp2
      go_roundw
      case rel => exact ⟨j + 1, by omega, by go_num, HR.out.1, HR.out.2⟩
      case measure => simp [intOf]; omega
    · have hj16 : j = 16 := by omega
      have k1 : (16 : Int) ≤ (j : Int) := by omega
      rw [hj16, upTo_all] at q
      have q0 : Blk g (rwA .u32 16 (dblN (wordAt L) 0)) 64 wr := q
      clear hlt hj16 q
      go_wp2
      go_loopw [10] (fun i wr => ∃ n : Nat, n ≤ 10 ∧ i = .int .i64 n ∧ Blk g (rwA .u32 16 (dblN (wordAt L) n)) 64 wr ∧ Below w.heap.size w wr) (fun i _ => 10 - (intOf i).toNat)
      case atStart => exact ⟨0, by omega, rfl, q0, hB⟩
      case round =>
        clear q0 hB
        obtain ⟨t, ht, rfl, q, hB⟩ := hrel
        by_cases hlt : t < 10
        · have k1 : (t : Int) < 10 := by omega
          have HBH := Lib.hid (dblN_bd HBD.out t)
          have HE : Hid (diaF (colF (dblN (wordAt L) t) 4) 4 = dblN (wordAt L) (t + 1)) := rfl
          have HTT := Lib.hid (And.intro ht hlt)
          have q0 : Blk g (rwA .u32 16 (colF (dblN (wordAt L) t) 0)) 64 wr := q
          clear q
          generalize dblN (wordAt L) t = h at *
          clear ht hlt
          go_wp2
          go_loopw [11] (fun i wr => ∃ n : Nat, n ≤ 4 ∧ i = .int .i64 n ∧ Blk g (rwA .u32 16 (colF h n)) 64 wr ∧ Below w.heap.size w wr) (fun i _ => 4 - (intOf i).toNat)
          case atStart => exact ⟨0, by omega, rfl, q0, hB⟩
          case round =>
            clear q0 hB
            obtain ⟨n1, hn, rfl, q, hB⟩ := hrel
            by_cases hlt : n1 < 4
            · have k1 : (n1 : Int) < 4 := by omega
              have k0 : (0 : Int) ≤ (n1 : Int) := by omega
              have e4 : IntKind.i64.wrap (4 + (n1 : Int)) = ((4 + n1 : Nat) : Int) := by rw [IntKind.wrap_i64]; omega
              have e8 : IntKind.i64.wrap (8 + (n1 : Int)) = ((8 + n1 : Nat) : Int) := by rw [IntKind.wrap_i64]; omega
              have e12 : IntKind.i64.wrap (12 + (n1 : Int)) = ((12 + n1 : Nat) : Int) := by rw [IntKind.wrap_i64]; omega
              have C := Lib.hid (fun w hw => l4Quarter_any g n1 (4 + n1) (8 + n1) (12 + n1) 64 (colF h n1) w hw (by omega) (by omega) (by omega) (by omega) (by omega) (by omega))
              have HE1 : Hid (quartF (colF h n1) n1 (4 + n1) (8 + n1) (12 + n1) = colF h (n1 + 1)) := rfl
              generalize quartF (colF h n1) n1 (4 + n1) (8 + n1) (12 + n1) = f1 at *
              generalize 4 + n1 = m4 at *
              generalize 8 + n1 = m8 at *
              generalize 12 + n1 = m12 at *
              go_wp2_with fail
              refine (C.out _ q).mono ?_
              rintro e w1 ⟨rfl, q1, g1⟩
              have HR := Lib.hid (And.intro q1 (hB.grown g1 (by have := hB.size; omega) (by intro k hk; have := Option.some.inj hk; have := HG.out; omega)))
              clear q hB q1 g1 e4 e8 e12
              go_wp2
              go_roundw
              case rel => exact ⟨n1 + 1, by omega, by go_num, by rw [← HE1.out]; exact HR.out.1, HR.out.2⟩
              case measure => simp [intOf]; omega
            · have hn4 : n1 = 4 := by omega
              have k1 : (4 : Int) ≤ (n1 : Int) := by omega
              rw [hn4] at q
              generalize colF h 4 = h4 at *
              clear hlt hn4
              go_wp2
              go_loopw [12] (fun i wr => ∃ n : Nat, n ≤ 4 ∧ i = .int .i64 n ∧ Blk g (rwA .u32 16 (diaF h4 n)) 64 wr ∧ Below w.heap.size w wr) (fun i _ => 4 - (intOf i).toNat)
              case atStart => exact ⟨0, by omega, rfl, q, hB⟩
              case round =>
                clear q hB
                obtain ⟨n2, hn, rfl, q, hB⟩ := hrel
                by_cases hlt : n2 < 4
                · have C := Lib.hid (fun w hw => l4Quarter_any g n2 (4 + (n2 + 1) % 4) (8 + (n2 + 2) % 4) (12 + (n2 + 3) % 4) 64 (diaF h4 n2) w hw (by omega) (by omega) (by omega) (by omega) (by omega) (by omega))
                  have HE1 : Hid (quartF (diaF h4 n2) n2 (4 + (n2 + 1) % 4) (8 + (n2 + 2) % 4) (12 + (n2 + 3) % 4) = diaF h4 (n2 + 1)) := rfl
                  have hc : n2 = 0 ∨ n2 = 1 ∨ n2 = 2 ∨ n2 = 3 := by omega
                  generalize quartF (diaF h4 n2) n2 (4 + (n2 + 1) % 4) (8 + (n2 + 2) % 4) (12 + (n2 + 3) % 4) = f1 at *
                  generalize diaF h4 n2 = fn at *
                  clear hlt
                  rcases hc with rfl | rfl | rfl | rfl
                  all_goals
                    simp only [Nat.reduceAdd, Nat.reduceMod] at C
                    go_wp2_with fail
                    refine (C.out _ q).mono ?_
                    rintro e w1 ⟨rfl, q1, g1⟩
                    have HR := Lib.hid (And.intro q1 (hB.grown g1 (by have := hB.size; omega) (by intro k hk; have := Option.some.inj hk; have := HG.out; omega)))
                    clear q hB q1 g1
                    go_wp2
                    go_roundw
                    case rel => first | exact ⟨1, by omega, by first | rfl | go_num, by rw [show (1 : Nat) = 0 + 1 from rfl, ← HE1.out]; exact HR.out.1, HR.out.2⟩ | exact ⟨2, by omega, by first | rfl | go_num, by rw [show (2 : Nat) = 1 + 1 from rfl, ← HE1.out]; exact HR.out.1, HR.out.2⟩ | exact ⟨3, by omega, by first | rfl | go_num, by rw [show (3 : Nat) = 2 + 1 from rfl, ← HE1.out]; exact HR.out.1, HR.out.2⟩ | exact ⟨4, by omega, by first | rfl | go_num, by rw [show (4 : Nat) = 3 + 1 from rfl, ← HE1.out]; exact HR.out.1, HR.out.2⟩
                    case measure => simp [intOf]
                · have hn4 : n2 = 4 := by omega
                  have k1 : (4 : Int) ≤ (n2 : Int) := by omega
                  rw [hn4, HE.out] at q
                  clear hlt hn4
                  go_wp2
                  go_roundw
                  case rel => exact ⟨t + 1, by have := HTT.out; omega, by have := HTT.out; go_num, q, hB⟩
                  case measure => have := HTT.out; simp [intOf]; omega
        · have ht10 : t = 10 := by omega
          have k1 : (10 : Int) ≤ (t : Int) := by omega
          rw [ht10] at q
          clear hlt ht10
          have hown : (wr.alloc (.cells #[] 5)).ownsRow w.heap.size 5 1 (.slice (some ⟨wr.heap.size, 0, none⟩) 0 0) 0 [] := World.ownsRow_lit wr #[] 0 hB.size (by unfold maxLen; omega) rfl
          have q1 := q.below ((Below.refl _ _).alloc (Nat.le_refl _) (.cells #[] 5))
          have hB1 : Below w.heap.size w (wr.alloc (.cells #[] 5)) := hB.alloc hB.size _
          have HNG : Hid (Value.ownBlock (.slice (some ⟨wr.heap.size, 0, none⟩) 0 0) ≠ some g) := by show _ ≠ _; have := q.lt; simp [Value.ownBlock]; omega
          go_wp2
          go_loopw [13, 14] (fun v i wx => ∃ p : Nat, p ≤ 16 ∧ i = .int .i64 p ∧ wx.ownsRow w.heap.size 5 1 v (4 * p) (cellsOf (cOut L p)) ∧ v.ownBlock ≠ some g ∧ Blk g (rwA .u32 16 (dblN (wordAt L) 10)) 64 wx ∧ Below w.heap.size w wx) (fun _ i _ => 16 - (intOf i).toNat)
          case atStart => exact ⟨0, by omega, rfl, hown, HNG.out, q1, hB1⟩
          case round =>
            clear hown q1 hB1 q hB HNG
            obtain ⟨p, hp, rfl, hown, hng, q, hB⟩ := hrel
            by_cases hlt : p < 16
            · obtain ⟨hA, hN⟩ := HOW.out p
              obtain ⟨N, eN⟩ : ∃ N, N = outW L p := ⟨_, rfl⟩
              rw [← eN] at hA hN
              have k1 : (p : Int) < 16 := by omega
              have HLT := Lib.hid hlt
              have EA := Lib.hid hA
              have HNN := Lib.hid hN
              have HE2 : Hid (cOut L p ++ leB N 4 = cOut L (p + 1)) := by show _ = _; rw [eN]; rfl
              have CL := Lib.hid (fun w => (show Calls Tryd.prog 46 [Value.string S, .int .i64 (4 * p : Nat)].toArray w fun e w' => e = .returned (.int .u32 (wordAt L p)) ∧ Below w.heap.size w w' by rw [← HW.out]; exact l4Le_any S (4 * p) w (by have := HSZ.out; omega) (by have := HSZ.out; omega)))
              clear hlt hA hN eN
              go_upto_region 22 with (fail)
              refine region_all 10 (kdAt [.val (.slice (some ⟨g, 0, none⟩) 16 16), .val (.int .i64 p), .val (.pointer (some ⟨g, p, none⟩)), .val (.int .u32 (dblN (wordAt L) 10 p)), .val (.string S), .val (.int .i64 p), .val (.int .i64 (4 * p : Nat)), .val (.int .u32 (wordAt L p)), .val (.int .u32 N), .val (.int .u32 N)]) [some 87, some 88, some 89, some 90, some 91, some 92, some 93, some 94, some 95, some 15] (by kernel_rfl) rfl (by kernel_rfl) (by kernel_rfl) (by kernel_rfl) (by kernel_rfl) ?_ ?_
              · repeat refine allS ?_ ?_
                · exact all0
                · exact stepMove rfl rfl rfl rfl (src_old (by kernel_rfl) rfl)
                · exact stepMove rfl rfl rfl rfl (src_old (by kernel_rfl) rfl)
                · exact stepIdx rfl rfl rfl rfl (src_new 0 (by decide) rfl rfl (by kernel_rfl)) (src_new 1 (by decide) rfl rfl (by kernel_rfl)) (fun w => idxS g p HLT.out w)
                · exact stepLoad (.pointer (some ⟨g, p, none⟩)) rfl rfl rfl rfl (src_new 2 (by decide) rfl rfl (by kernel_rfl)) (fun w hk => ldW ((q.below (hk.below (nh0 rfl))).u32v HLT.out rfl))
                · exact stepMove rfl rfl rfl rfl (src_old (by kernel_rfl) rfl)
                · exact stepMove rfl rfl rfl rfl (src_old (by kernel_rfl) rfl)
                · exact stepBinL rfl rfl rfl rfl (src_new 5 (by decide) rfl rfl (by kernel_rfl)) (fun w => mul4 p (by have := HLT.out; omega) _ _ w)
                · exact stepCall (ks := [91, 93]) [.string S, .int .i64 (4 * p : Nat)] rfl rfl rfl rfl cfLe rfl (src2 (src_new 4 (by decide) rfl rfl (by kernel_rfl)) (src_new 6 (by decide) rfl rfl (by kernel_rfl))) (fun w hk => CL.out w)
                · exact stepBin rfl rfl rfl rfl (src_new 3 (by decide) rfl rfl (by kernel_rfl)) (src_new 7 (by decide) rfl rfl (by kernel_rfl)) (fun w => EA.out ▸ addW _ _ _ _ w)
                · exact stepAssign rfl rfl rfl rfl (src_new 8 (by decide) rfl rfl (by kernel_rfl))
              intro v x1 hok hk1
              replace hk1 := hk1.all
              have v0 := okVal hok (j := 0) rfl rfl
              have v1 := okVal hok (j := 1) rfl rfl
              have v2 := okVal hok (j := 2) rfl rfl
              have v3 := okVal hok (j := 3) rfl rfl
              have v4 := okVal hok (j := 4) rfl rfl
              have v5 := okVal hok (j := 5) rfl rfl
              have v6 := okVal hok (j := 6) rfl rfl
              have v7 := okVal hok (j := 7) rfl rfl
              have v8 := okVal hok (j := 8) rfl rfl
              have v9 := okVal hok (j := 9) rfl rfl
              clear hok
              simp only [putL, Nat.zero_add, Nat.reduceAdd, v0, v1, v2, v3, v4, v5, v6, v7, v8, v9, Act.put, List.setIfInBounds_toArray, List.set_cons_zero, List.set_cons_succ]
              clear v0 v1 v2 v3 v4 v5 v6 v7 v8 v9
              have q1 := q.below (hk1.below (nh0 rfl))
              have hown1 := ownsRow_below2 hown (hk1.below (nh0 rfl))
              have hB1 := hB.trans ((hk1.below (nh0 rfl)).mono hB.size)
              have w0 := u8w N
              have w1 : IntKind.u8.wrap ((N : Int) / 256) = ((UInt8.ofNat (N / 256)).toNat : Int) := by rw [← u8w]; rfl
              have w2 : IntKind.u8.wrap ((N : Int) / 65536) = ((UInt8.ofNat (N / 65536)).toNat : Int) := by rw [← u8w]; rfl
              have w3 : IntKind.u8.wrap ((N : Int) / 16777216) = ((UInt8.ofNat (N / 16777216)).toNat : Int) := by rw [← u8w]; rfl
              have HB4 := Lib.hid (leB4 N)
              generalize UInt8.ofNat N = b0 at *
              generalize UInt8.ofNat (N / 256) = b1 at *
              generalize UInt8.ofNat (N / 65536) = b2 at *
              generalize UInt8.ofNat (N / 16777216) = b3 at *
              have n0 : (0 : Int) ≤ (N : Int) := by omega
              have hpl := HLT.out
              clear hk1 q hown hB
              go_wp2_with (at_builtin; refine wpList_append_lies _ rfl _ _ 25 rfl w.heap.size 5 i0 (.int .u8 0) 1 1 Tryd.underlying25 hi hz0 hz1 hz2 rfl (by decide) u13 (4 * p) _ rfl (hown1.alloc _) ⟨x1.heap.size, 0, none⟩ 4 4 [_, _, _, _] rfl rfl (World.news_of_block (cs := #[_, _, _, _]) (t := 5) (fr := (0, 0)) (heap_alloc_new x1 _)) (by simp [Value.oneCell']) (by omega) (by unfold maxLen; omega) (by omega) (by have := hB1.size; simp; omega) (x1.heap.size + 1) (by simp) ?_; intro g2 cap w5 hown2 hgrow2 hat hlt2)
              have R := append_step (news := [b0, b1, b2, b3]) hown1 (hB1.alloc hB1.size _) hown2 hgrow2
              rw [← HB4.out, HE2.out] at R
              have q5 : Blk g (rwA .u32 16 (dblN (wordAt L) 10)) 64 w5 := (hgrow2.block g (by have := q1.lt; simp; omega) (fun c => hng c.symm)).trans ((Below.heap_alloc _ _ _ q1.lt).trans q1)
              have hng2 : (Value.slice (some ⟨g2, 0, none⟩) (4 * p + 4) cap).ownBlock ≠ some g := by
                intro c
                simp only [Value.ownBlock, Option.some.injEq] at c
                rcases hat with h | h
                · exact hng (by rw [h, c])
                · have := q1.lt; omega
              have HR := Lib.hid (And.intro R.1 (And.intro hng2 (And.intro q5 R.2)))
              clear hown1 hB1 q1 hng hown2 hgrow2 hat hlt2 R q5 hng2 w0 w1 w2 w3
              go_wp2
              go_roundw
              case rel => exact ⟨p + 1, by omega, by go_num, HR.out.1, HR.out.2.1, HR.out.2.2.1, HR.out.2.2.2⟩
              case measure => simp [intOf]; omega
            · have hp16 : p = 16 := by omega
              have k1 : (16 : Int) ≤ (p : Int) := by omega
              rw [hp16] at hown
              have hcv := run_convert_own (P := Tryd.prog) wr 25 9 5 _ _ _ _ Tryd.underlying25 Tryd.underlying5 Tryd.underlying9 hown
              generalize hV : str (cOut L 16) = V at *
              have HVV := Lib.hid hV
              clear hown hlt hp16 q hng hV
              go_wp2
              go_ret
              exact ⟨by rw [HVV.out]; rfl, hB⟩

end Go.Proofs.YtgjnoleejbkddaaDoor

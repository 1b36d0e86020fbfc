/- The contracts of ReadHex, the program's and the specification's. -/
import Derived.Test.YtkglgficmealnaaRows
import Derived.Test.YtkglgficmealnaaMath2
import Derived.WalkKit
import Derived.ProofKit
import Derived.Lib.OthersKept
import Derived.Lib.Hide
import Derived.Deep.AppendLies
import Derived.WalkSpells
import Derived.WalkLawsBesides
namespace Go.Proofs.Ytkglgficmealnaa
open Go.RowKit Go.My Go.Lib
set_option linter.unusedVariables false
set_option maxRecDepth 100000

theorem info_u8h : (Try.prog.info? 5).map (fun i => (i.zero, i.size, i.bytes)) = some (some (.int .u8 0), 1, 1) := by kernel_rfl

theorem digit_impl_lo (r : Int) (w : World) (h1 : 48 ≤ r) (h2 : r ≤ 57) :
    Calls Try.prog 102 #[.int .i32 r] w fun e w' => e = .returned (.tuple #[.int .u8 (r - 48), .bool true]) ∧ w = w' := by
  go_enter Try.func102, Try.ntmps102
  go_wp2
  go_ret2
  exact ⟨rfl, rfl⟩
theorem digit_impl_hi (r : Int) (w : World) (h1 : 97 ≤ r) (h2 : r ≤ 102) :
    Calls Try.prog 102 #[.int .i32 r] w fun e w' => e = .returned (.tuple #[.int .u8 (r - 87), .bool true]) ∧ w = w' := by
  have hd : decide (r ≤ 57) = false := by simp; omega
  go_enter Try.func102, Try.ntmps102
  go_wp2
  go_ret2
  exact ⟨by congr 4; simp; omega, rfl⟩
theorem digit_impl_no (r : Int) (w : World) (h0 : 0 ≤ r) (h3 : r ≤ 2147483647) (h1 : ¬ (48 ≤ r ∧ r ≤ 57)) (h2 : ¬ (97 ≤ r ∧ r ≤ 102)) :
    Calls Try.prog 102 #[.int .i32 r] w fun e w' => e = .returned (.tuple #[.int .u8 0, .bool false]) ∧ w = w' := by
  rcases (show r < 48 ∨ (57 < r ∧ r < 97) ∨ 102 < r by omega) with h | h | h
  · have hd : decide (48 ≤ r) = false := by simp; omega
    have hd2 : decide (97 ≤ r) = false := by simp; omega
    go_enter Try.func102, Try.ntmps102
    go_wp2
    go_ret2
    exact ⟨rfl, rfl⟩
  · have hd0 : 48 ≤ r := by omega
    have hd : decide (r ≤ 57) = false := by simp; omega
    have hd2 : decide (97 ≤ r) = false := by simp; omega
    go_enter Try.func102, Try.ntmps102
    go_wp2
    go_ret2
    exact ⟨rfl, rfl⟩
  · have hd0 : 48 ≤ r := by omega
    have hd : decide (r ≤ 57) = false := by simp; omega
    have hd1 : 97 ≤ r := by omega
    have hd2 : decide (r ≤ 102) = false := by simp; omega
    go_enter Try.func102, Try.ntmps102
    go_wp2
    go_ret2
    exact ⟨rfl, rfl⟩

theorem digit_spec_lo (r : Int) (w : World) (h1 : 48 ≤ r) (h2 : r ≤ 57) :
    Calls Try.prog 91 #[.int .u8 r] w fun e w' => e = .returned (.int .i64 (r - 48)) ∧ w = w' := by
  go_enter Try.func91, Try.ntmps91
  go_wp2
  go_ret
  exact ⟨rfl, rfl⟩
theorem digit_spec_hi (r : Int) (w : World) (h1 : 97 ≤ r) (h2 : r ≤ 102) :
    Calls Try.prog 91 #[.int .u8 r] w fun e w' => e = .returned (.int .i64 (r - 87)) ∧ w = w' := by
  have hd : decide (r ≤ 57) = false := by simp; omega
  go_enter Try.func91, Try.ntmps91
  go_wp2
  go_ret
  exact ⟨by congr 2; simp; omega, rfl⟩
theorem digit_spec_no (r : Int) (w : World) (h0 : 0 ≤ r) (h3 : r ≤ 255) (h1 : ¬ (48 ≤ r ∧ r ≤ 57)) (h2 : ¬ (97 ≤ r ∧ r ≤ 102)) :
    Calls Try.prog 91 #[.int .u8 r] w fun e w' => e = .returned (.int .i64 (-1)) ∧ w = w' := by
  rcases (show r < 48 ∨ (57 < r ∧ r < 97) ∨ 102 < r by omega) with h | h | h
  · have hd : decide (48 ≤ r) = false := by simp; omega
    have hd2 : decide (97 ≤ r) = false := by simp; omega
    go_enter Try.func91, Try.ntmps91
    go_wp2
    go_ret
    exact ⟨rfl, rfl⟩
  · have hd0 : 48 ≤ r := by omega
    have hd : decide (r ≤ 57) = false := by simp; omega
    have hd2 : decide (97 ≤ r) = false := by simp; omega
    go_enter Try.func91, Try.ntmps91
    go_wp2
    go_ret
    exact ⟨rfl, rfl⟩
  · have hd0 : 48 ≤ r := by omega
    have hd : decide (r ≤ 57) = false := by simp; omega
    have hd1 : 97 ≤ r := by omega
    have hd2 : decide (r ≤ 102) = false := by simp; omega
    go_enter Try.func91, Try.ntmps91
    go_wp2
    go_ret
    exact ⟨rfl, rfl⟩

/-- What the loop of ReadHex keeps: p digits have been read. -/
def RdRel (s : ByteArray) (e it : Nat) (w : World) (p : Nat) (wr : World) : Prop :=
  p ≤ s.size ∧ digits s p ∧ wr.heap[it]? = some (.stringIter s p) ∧ wr.ownsRow w.heap.size e 1 (.slice (some ⟨w.heap.size, 0, none⟩) (s.size / 2) (s.size / 2)) (s.size / 2) (cellsOf (rowF (s.size / 2) (prt s p))) ∧ Below w.heap.size w wr
theorem rd_iter {s : ByteArray} {e it : Nat} {w : World} {p : Nat} {wr : World} (hit : w.heap.size < it) (h : RdRel s e it w p wr) (p' : Nat) :
    (wr.iterAt it s p').heap[it]? = some (.stringIter s p') ∧ (wr.iterAt it s p').ownsRow w.heap.size e 1 (.slice (some ⟨w.heap.size, 0, none⟩) (s.size / 2) (s.size / 2)) (s.size / 2) (cellsOf (rowF (s.size / 2) (prt s p))) ∧ Below w.heap.size w (wr.iterAt it s p') := by
  obtain ⟨_, _, hi, hown, hb⟩ := h
  refine ⟨iterAt_heap wr it s p p' hi, ?_, below_iterAt hb (by omega) s p'⟩
  refine hown.kept (row := some it) ⟨rfl, rfl, rfl, by rw [iterAt_size]; exact Nat.le_refl _, fun k hk hne => iterAt_other wr it k s p' (fun c => hne (by rw [c]))⟩ (.inr ?_)
  simp [Value.ownBlock]; omega
theorem rd_store {s : ByteArray} {e it : Nat} {w : World} {p : Nat} {wr : World} (hit : w.heap.size < it) (hp : p < s.size) (hev : s.size % 2 = 0) (h : RdRel s e it w p wr) (hd : (hexN (byteAt s p)).isSome = true) :
    RdRel s e it w (p + 1) ((wr.iterAt it s (p + 1)).setCell ⟨w.heap.size, p / 2, none⟩ (.int .u8 ((prt s (p + 1) (p / 2)).toNat : Int))) := by
  obtain ⟨i1, i2, i3⟩ := rd_iter hit h (p + 1)
  have hs := (i2.stored (p / 2) (.int .u8 ((prt s (p + 1) (p / 2)).toNat : Int))).1
  rw [rowF_set (s.size / 2) (prt s p) (prt s (p + 1)) (p / 2) _ rfl (fun q hq hne => prt_other s p q hne)] at hs
  refine ⟨by omega, digits_succ h.2.1 hd, ?_, hs, i3.setCell (Nat.le_refl _) _⟩
  rw [Below.heap_setCell _ _ _ _ (by simp; omega)]
  exact i1
theorem rd_cell {s : ByteArray} {e it : Nat} {w : World} {p : Nat} {wr : World} (hit : w.heap.size < it) (hp : p < s.size) (hev : s.size % 2 = 0) (h : RdRel s e it w p wr) (p' : Nat) :
    (wr.iterAt it s p').cell? ⟨w.heap.size, p / 2, none⟩ = some (.int .u8 ((prt s p (p / 2)).toNat : Int)) ∧ (wr.iterAt it s p').frozen? ⟨w.heap.size, p / 2, none⟩ = false := by
  obtain ⟨i1, i2, i3⟩ := rd_iter hit h p'
  exact ⟨by rw [i2.cellAt (p / 2) (by omega)]; exact rowF_get _ _ _ (by omega), i2.frozenAt _⟩

set_option maxHeartbeats 1000000 in
theorem readHex_impl (s : ByteArray) (w : World) (hs : s.size ≤ 1048576) :
    Calls Try.prog 93 #[.string s] w fun e w' => e = .returned (hexRes s) ∧ Below w.heap.size w w' := by
  obtain ⟨i0, hi, hz0, hz1, hz2⟩ := info_parts info_u8h
  have hN : (s.size : Int) ≤ 1048576 := by omega
  by_cases hev : s.size % 2 = 0
  case neg =>
    have hne : ((s.size : Int) % 2 != 0) = true := by simp; omega
    go_enter Try.func93, Try.ntmps93
    go_wp2
    go_ret2
    exact ⟨by rw [hexRes_odd hev]; rfl, Below.refl _ _⟩
  have hne : ((s.size : Int) % 2 != 0) = false := by simp; omega
  have HE := Lib.hid hev
  clear hev
  go_enter Try.func93, Try.ntmps93
  go_wp2_with (at_make; refine wpList_make_full _ rfl _ _ 128 rfl w.heap.size 5 i0 (.int .u8 0) 1 Try.underlying128 hi hz0 hz1 .i64 .i64 _ _ (s.size / 2) rfl rfl ?c0 ?c1 ?c2 ?c3 ?c4 ?_)
  case c0 => omega
  case c1 => omega
  case c2 => rw [hz2]; omega
  case c3 => unfold maxLen; omega
  case c4 => exact Nat.le_refl _
  intro w1 hown hgrow
  have hb1 : Below w.heap.size w w1 := (Below.refl _ _).grown hgrow (Nat.le_refl _) (by simp)
  have hit : w.heap.size < w1.heap.size := (hown.lt w.heap.size rfl).2
  clear hgrow
  have ho : RdRel s 5 w1.heap.size w 0 (w1.iter s 0) := by
    have e : (madeCells #[Value.int .u8 0] (s.size / 2)).toList = cellsOf (rowF (s.size / 2) (prt s 0)) := by
      rw [toList_madeCells_one, fill_start]
      congr 1
      rw [rowF_congr (g := fun _ => 0) (fun q _ => prt_start s q)]
      unfold rowF
      rw [List.map_const', List.length_range]
    rw [e] at hown
    exact ⟨Nat.zero_le _, fun q hq => by omega, World.iter_heap w1 s 0, hown.alloc _, hb1.alloc hb1.size _⟩
  clear hown hb1
  go_wp2
  go_loopw [5] (fun _ wr => ∃ p, RdRel s 5 w1.heap.size w p wr) (fun _ wr => s.size - wr.iterPos w1.heap.size)
  case atStart => exact ⟨0, ho⟩
  case round =>
    clear ho
    obtain ⟨p, hR⟩ := hrel
    have hpos : wr.iterPos w1.heap.size = p := iterPos_of hR.2.2.1
    by_cases hlt : p < s.size
    · have hB := byteAt_get s p hlt
      have hB2 := s[p].toNat_lt
      by_cases hasc : s[p].toNat < 128
      · have hnx : ∀ ty, (Instr.next (.pointer (some ⟨w1.heap.size, 0, none⟩)) true ty).run Try.prog wr = _ := fun ty => run_next_ascii_at wr w1.heap.size s p ty hR.2.2.1 hlt hasc
        by_cases hlo : 48 ≤ s[p].toNat ∧ s[p].toNat ≤ 57
        · have hv : hexN (byteAt s p) = some (byteAt s p - 48) := hexN_lo (by omega) (by omega)
          have hn : nib s p = byteAt s p - 48 := by unfold nib; rw [hv]; rfl
          have hvi : ((s[p].toNat : Int) - 48) = (nib s p : Int) := by omega
          obtain ⟨hc, hfz⟩ := rd_cell hit hlt HE.out hR (p + 1)
          have hpv := prt_val s p
          have R := rd_store hit hlt HE.out hR (by rw [hv]; rfl)
          have h1 : (48 : Int) ≤ (s[p].toNat : Int) := by omega
          have h2 : (s[p].toNat : Int) ≤ 57 := by omega
          have hq0 : (0 : Int) ≤ (p : Int) / 2 := by omega
          have hq1 : (p : Int) / 2 < (s.size : Int) / 2 := by have := HE.out; omega
          have HP := Lib.hid hpos
          clear hB hv hn hR hpos hlo
          go_wp2_with (go_at_call 102; refine (digit_impl_lo _ _ h1 h2).mono ?_; rintro e w' ⟨rfl, rfl⟩)
          go_roundw
          case rel => exact ⟨p + 1, R⟩
          case measure => have hq := iterPos_of R.2.2.1; rw [hq, HP.out]; omega
        · by_cases hhi : 97 ≤ s[p].toNat ∧ s[p].toNat ≤ 102
          · have hv : hexN (byteAt s p) = some (byteAt s p - 87) := hexN_hi (by omega) (by omega)
            have hn : nib s p = byteAt s p - 87 := by unfold nib; rw [hv]; rfl
            have hvi : ((s[p].toNat : Int) - 87) = (nib s p : Int) := by omega
            obtain ⟨hc, hfz⟩ := rd_cell hit hlt HE.out hR (p + 1)
            have hpv := prt_val s p
            have R := rd_store hit hlt HE.out hR (by rw [hv]; rfl)
            have h1 : (97 : Int) ≤ (s[p].toNat : Int) := by omega
            have h2 : (s[p].toNat : Int) ≤ 102 := by omega
            have hq0 : (0 : Int) ≤ (p : Int) / 2 := by omega
            have hq1 : (p : Int) / 2 < (s.size : Int) / 2 := by have := HE.out; omega
            have HP := Lib.hid hpos
            clear hB hv hn hR hpos hlo hhi
            go_wp2_with (go_at_call 102; refine (digit_impl_hi _ _ h1 h2).mono ?_; rintro e w' ⟨rfl, rfl⟩)
            go_roundw
            case rel => exact ⟨p + 1, R⟩
            case measure => have hq := iterPos_of R.2.2.1; rw [hq, HP.out]; omega
          · have hv : hexN (byteAt s p) = none := hexN_no (by omega) (by omega)
            have hb := rd_iter hit hR (p + 1)
            have h0 : (0 : Int) ≤ (s[p].toNat : Int) := by omega
            have h3 : (s[p].toNat : Int) ≤ 2147483647 := by omega
            have h1 : ¬ ((48 : Int) ≤ (s[p].toNat : Int) ∧ (s[p].toNat : Int) ≤ 57) := by omega
            have h2 : ¬ ((97 : Int) ≤ (s[p].toNat : Int) ∧ (s[p].toNat : Int) ≤ 102) := by omega
            have HX : Hid (hexRes s = .tuple #[.string (str []), .bool false]) := hexRes_bad hlt hv
            have H1 := Lib.hid h1
            have H2 := Lib.hid h2
            clear hB hv hR hpos hlo hhi h1 h2
            go_wp2_with (go_at_call 102; refine (digit_impl_no _ _ h0 h3 H1.out H2.out).mono ?_; rintro e w' ⟨rfl, rfl⟩)
            go_ret2
            exact ⟨by rw [HX.out]; rfl, hb.2.2⟩
      · have hdh := decode_high s p hlt (by omega)
        have hdl := decode_le s p
        have hnx : ∀ ty, (Instr.next (.pointer (some ⟨w1.heap.size, 0, none⟩)) true ty).run Try.prog wr = _ := fun ty => run_next_any_at wr w1.heap.size s p ty hR.2.2.1 hlt
        have hv : hexN (byteAt s p) = none := hexN_no (by omega) (by omega)
        generalize (Utf8.decode s p).2 = dw at *
        generalize (Utf8.decode s p).1 = dr at *
        have hb := rd_iter hit hR (p + dw)
        have h0 : (0 : Int) ≤ (dr : Int) := by omega
        have h3 : (dr : Int) ≤ 2147483647 := by omega
        have H1 : Hid (¬ ((48 : Int) ≤ (dr : Int) ∧ (dr : Int) ≤ 57)) := by show ¬ _; omega
        have H2 : Hid (¬ ((97 : Int) ≤ (dr : Int) ∧ (dr : Int) ≤ 102)) := by show ¬ _; omega
        have HX : Hid (hexRes s = .tuple #[.string (str []), .bool false]) := hexRes_bad hlt hv
        clear hB hv hR hpos hasc
        go_wp2_with (go_at_call 102; refine (digit_impl_no _ _ h0 h3 H1.out H2.out).mono ?_; rintro e w' ⟨rfl, rfl⟩)
        go_ret2
        exact ⟨by rw [HX.out]; rfl, hb.2.2⟩
    · obtain rfl : p = s.size := by have := hR.1; omega
      have hnx : ∀ ty, (Instr.next (.pointer (some ⟨w1.heap.size, 0, none⟩)) true ty).run Try.prog wr = _ := fun ty => run_next_end_at wr w1.heap.size s s.size ty hR.2.2.1 (by omega)
      have hown := hR.2.2.2.1
      rw [rowF_congr (prt_end s)] at hown
      change wr.ownsRow _ _ _ _ _ (cellsOf (unhexL s)) at hown
      have hcv := run_convert_own (P := Try.prog) wr 128 9 5 _ _ _ _ Try.underlying128 Try.underlying5 Try.underlying9 hown
      clear hown hpos
      go_wp2
      go_ret2
      exact ⟨by rw [hexRes_yes HE.out hR.2.1]; rfl, hR.2.2.2.2⟩

theorem digit_spec_some (c v : Nat) (w : World) (h : hexN c = some v) :
    Calls Try.prog 91 #[.int .u8 c] w fun e w' => e = .returned (.int .i64 v) ∧ w = w' := by
  unfold hexN at h
  split at h
  · rename_i h1
    have e : (v : Int) = (c : Int) - 48 := by simp at h; omega
    rw [e]
    exact digit_spec_lo _ _ (by omega) (by omega)
  · split at h
    · rename_i h1
      have e : (v : Int) = (c : Int) - 87 := by simp at h; omega
      rw [e]
      exact digit_spec_hi _ _ (by omega) (by omega)
    · simp at h
theorem digit_spec_none (c : Nat) (w : World) (hc : c < 256) (h : hexN c = none) :
    Calls Try.prog 91 #[.int .u8 c] w fun e w' => e = .returned (.int .i64 (-1)) ∧ w = w' := by
  unfold hexN at h
  split at h
  · simp at h
  · split at h
    · simp at h
    · exact digit_spec_no _ _ (by omega) (by omega) (by omega) (by omega)

/-- The bytes of the first m digits, by pairs. -/
def pairsL (s : ByteArray) (q : Nat) : List UInt8 := rowF q fun q => UInt8.ofNat (16 * nib s (2 * q) + nib s (2 * q + 1))
theorem pairsL_succ (s : ByteArray) (q : Nat) : pairsL s (q + 1) = pairsL s q ++ [UInt8.ofNat (16 * nib s (2 * q) + nib s (2 * q + 1))] := by simp [pairsL, rowF, List.range_succ]
theorem pairsL_all (s : ByteArray) : pairsL s (s.size / 2) = unhexL s := rfl

set_option maxHeartbeats 1000000 in
theorem readHex_spec (s : ByteArray) (w : World) (hs : s.size ≤ 1048576) :
    Calls Try.prog 82 #[.string s] w fun e w' => e = .returned (hexRes s) ∧ Below w.heap.size w w' := by
  obtain ⟨i0, hi, hz0, hz1, hz2⟩ := info_parts info_u8h
  have hN : (s.size : Int) ≤ 1048576 := by omega
  go_enter Try.func82, Try.ntmps82
  go_wp2
  have hown : (w.alloc (.cells #[] 5)).ownsRow w.heap.size 5 1 (.slice (some ⟨w.heap.size, 0, none⟩) 0 0) 0 [] := World.ownsRow_lit w #[] 0 (Nat.le_refl _) (by unfold maxLen; omega) rfl
  have hb1 : Below w.heap.size w (w.alloc (.cells #[] 5)) := (Below.refl _ _).alloc (Nat.le_refl _) _
  go_loopw [4, 5] (fun v i wr => ∃ m q : Nat, m ≤ s.size ∧ m = 2 * q ∧ i = .int .i64 m ∧ digits s m ∧ wr.ownsRow w.heap.size 5 1 v q (cellsOf (pairsL s q)) ∧ Below w.heap.size w wr)
    (fun _ i _ => s.size - (intOf i).toNat)
  case atStart => exact ⟨0, 0, Nat.zero_le _, rfl, rfl, fun q hq => by omega, hown, hb1⟩
  case round =>
    clear hown hb1
    obtain ⟨m, q, hm, hq, rfl, hdig, hown, hb⟩ := hrel
    have HQ := Lib.hid hq
    clear hq
    by_cases hlt : m + 1 < s.size
    · have hk1 : (m : Int) + 1 < (s.size : Int) := by omega
      have hk2 : (m : Int) < (s.size : Int) := by omega
      have hk0 : (0 : Int) ≤ (m : Int) := by omega
      have hmm : m < s.size := by omega
      have hA2 := s[m].toNat_lt
      have hB2 := s[m + 1].toNat_lt
      cases hx : hexN (byteAt s m) with
      | none =>
        have HX : Hid (hexRes s = .tuple #[.string (str []), .bool false]) := hexRes_bad hmm hx
        rw [← byteAt_get s m hmm] at hx
        have HA := Lib.hid hx
        clear hx
        cases hy : hexN (byteAt s (m + 1)) with
        | none =>
          rw [← byteAt_get s (m + 1) hlt] at hy
          have HB := Lib.hid hy
          clear hy
          go_wp2_with fail
          refine (digit_spec_none _ _ hA2 HA.out).mono ?_
          rintro e w' ⟨rfl, rfl⟩
          go_wp2_with fail
          refine (digit_spec_none _ _ hB2 HB.out).mono ?_
          rintro e w' ⟨rfl, rfl⟩
          go_wp2
          go_ret2
          exact ⟨by rw [HX.out]; rfl, hb⟩
        | some y =>
          rw [← byteAt_get s (m + 1) hlt] at hy
          have HB := Lib.hid hy
          clear hy
          go_wp2_with fail
          refine (digit_spec_none _ _ hA2 HA.out).mono ?_
          rintro e w' ⟨rfl, rfl⟩
          go_wp2_with fail
          refine (digit_spec_some _ y _ HB.out).mono ?_
          rintro e w' ⟨rfl, rfl⟩
          go_wp2
          go_ret2
          exact ⟨by rw [HX.out]; rfl, hb⟩
      | some x =>
        have hx16 := hexN_lt hx
        have HD := digits_succ hdig (by rw [hx]; rfl)
        have hnx : nib s m = x := by unfold nib; rw [hx]; rfl
        rw [← byteAt_get s m hmm] at hx
        have HA := Lib.hid hx
        clear hx
        cases hy : hexN (byteAt s (m + 1)) with
        | none =>
          have HX : Hid (hexRes s = .tuple #[.string (str []), .bool false]) := hexRes_bad hlt hy
          rw [← byteAt_get s (m + 1) hlt] at hy
          have HB := Lib.hid hy
          clear hy hnx
          go_wp2_with fail
          refine (digit_spec_some _ x _ HA.out).mono ?_
          rintro e w' ⟨rfl, rfl⟩
          go_wp2_with fail
          refine (digit_spec_none _ _ hB2 HB.out).mono ?_
          rintro e w' ⟨rfl, rfl⟩
          go_wp2
          go_ret2
          exact ⟨by rw [HX.out]; rfl, hb⟩
        | some y =>
          have hy16 := hexN_lt hy
          have HD2 := digits_succ HD (by rw [hy]; rfl)
          have hny : nib s (m + 1) = y := by unfold nib; rw [hy]; rfl
          rw [← byteAt_get s (m + 1) hlt] at hy
          have HB := Lib.hid hy
          have HS : Hid (pairsL s (q + 1) = pairsL s q ++ [UInt8.ofNat (16 * x + y)]) := by
            show _ = _
            rw [pairsL_succ, ← HQ.out, hnx, hny]
          have HV : Hid (((UInt8.ofNat (16 * x + y)).toNat : Int) = 16 * (x : Int) + (y : Int)) := by
            show _ = _
            rw [UInt8.toNat_ofNat', Nat.mod_eq_of_lt (by omega)]
            omega
          have hxi : (x : Int) < 16 := by omega
          have hyi : (y : Int) < 16 := by omega
          clear hy hnx hny
          go_wp2_with fail
          refine (digit_spec_some _ x _ HA.out).mono ?_
          rintro e w' ⟨rfl, rfl⟩
          go_wp2_with fail
          refine (digit_spec_some _ y _ HB.out).mono ?_
          rintro e w' ⟨rfl, rfl⟩
          go_wp2_with (at_builtin; refine wpList_append_lies _ rfl _ _ 128 rfl w.heap.size 5 i0 (.int .u8 0) 1 1 Try.underlying128 hi hz0 hz1 hz2 rfl (by decide) u4 q _ rfl (hown.alloc _) ⟨wr.heap.size, 0, none⟩ 1 1 [_] rfl rfl (World.news_of_block (cs := #[_]) (t := 5) (fr := (0, 0)) (heap_alloc_new wr _)) (by simp [Value.oneCell']) (by omega) (by have := HQ.out; unfold maxLen; omega) (by have := HQ.out; omega) (by have := hb.size; simp; omega) (wr.heap.size + 1) (by simp) ?_; intro g cap w2 hown2 hgrow2 hat hlt2)
          rw [← HV.out] at hown2
          have R := append_step (news := [UInt8.ofNat (16 * x + y)]) hown (hb.alloc hb.size _) hown2 hgrow2
          rw [← HS.out] at R
          clear hown hown2 hgrow2
          go_roundw
          case rel => exact ⟨m + 2, q + 1, by omega, by have := HQ.out; omega, by go_num, HD2, R.1, R.2⟩
          case measure => simp [intOf]; omega
    · by_cases hodd : s.size % 2 = 1
      · have hd1 : ((s.size : Int) % 2 == 1) = true := by simp; omega
        go_wp2
        go_ret2
        exact ⟨by rw [hexRes_odd (by omega)]; rfl, hb⟩
      · have hd1 : ((s.size : Int) % 2 == 1) = false := by simp; omega
        have hms : m = s.size := by have := HQ.out; omega
        have hqs : q = s.size / 2 := by have := HQ.out; omega
        rw [hqs, pairsL_all] at hown
        rw [hms] at hdig
        have hcv := run_convert_own (P := Try.prog) wr 128 9 5 _ _ _ _ Try.underlying128 Try.underlying5 Try.underlying9 hown
        have HX : Hid (hexRes s = .tuple #[.string (str (unhexL s)), .bool true]) := hexRes_yes (by omega) hdig
        clear hown hms hqs hodd
        go_wp2
        go_ret2
        exact ⟨by rw [HX.out]; rfl, hb⟩

end Go.Proofs.Ytkglgficmealnaa

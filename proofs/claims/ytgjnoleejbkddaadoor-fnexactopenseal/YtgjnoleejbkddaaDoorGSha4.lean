/- The contract of the program's write: the bytes go into the digest one by one. -/
import Derived.Test.YtgjnoleejbkddaaDoorGSha3
import Derived.Test.YtgjnoleejbkddaaDoorGM1
namespace Go.Proofs.YtgjnoleejbkddaaDoor
open Go.RowKit Go.My Go.Lib
set_option linter.unusedVariables false

/-- Block g is a digest in state S, z bytes written. -/
def DigS (w : World) (g : Nat) (S : DS) (z : Nat) : Prop := Dig w g S.st S.bk (S.u : Int) (z : Int) ∧ S.u < 64

theorem put_row {wr : World} {g : Nat} {T : DS} {z : Int} (h : wr.heap[g]? = some (.cells (digA T.st T.bk (T.u : Int) z) 88 (0, 0))) (hu : T.u < 64) (b x : Int) :
    ((wr.setCell ⟨g, 8 + T.u, none⟩ (.int .u8 b)).setCell ⟨g, 72, none⟩ (.int .i64 x)).heap[g]? = some (.cells (digA T.st (bput T.bk T.u b) x z) 88 (0, 0)) := by
  have h1 := heap_setCell_same wr g (8 + T.u) _ _ (.int .u8 b) h
  rw [dig_set_bk _ _ _ _ T.u hu] at h1
  have h2 := heap_setCell_same _ g 72 _ _ (.int .i64 x) h1
  rw [dig_set_used] at h2
  exact h2

set_option maxHeartbeats 2000000 in
set_option maxRecDepth 100000 in
theorem writeD_any (g : Nat) (S : DS) (z : Nat) (s : ByteArray) (w : World) (hd : DigS w g S z) (hk : TabK w) (h0 : 2 < g) (hs : s.size < 1000000) (hz : z < 1000000) :
    Calls Tryd.prog 54 #[.pointer (some ⟨g, 0, none⟩), .string s] w fun e w' => e = .returned (.tuple #[]) ∧ DigS w' g (dputs S s.data.toList) (z + s.size) ∧ w.grownBy w' (some g) := by
  have hs1 : (s.size : Int) ≤ 1000000 := by omega
  have HS := Lib.hid hs
  have HZ := Lib.hid hz
  clear hs hz
  go_enter Tryd.func54, Tryd.ntmps54
  go_wp2
  have hst : DigS w g (dputs S (s.data.toList.take 0)) z := by simpa [dputs] using hd
  go_loopw [4] (fun i wr => ∃ n : Nat, n ≤ s.size ∧ i = .int .i64 n ∧ DigS wr g (dputs S (s.data.toList.take n)) z ∧ w.grownBy wr (some g))
    (fun i _ => s.size - (intOf i).toNat)
  case atStart => exact ⟨0, by omega, rfl, hst, gr_refl _ _⟩
  case round =>
    clear hst hd
    obtain ⟨n, hn, rfl, hd, hgr⟩ := hrel
    by_cases hlt : n < s.size
    · have hm : ∀ b : UInt8, s[n]'hlt = b → dputs S (s.data.toList.take (n + 1)) = dstep (dputs S (s.data.toList.take n)) b := fun b hb => by rw [take_snoc s n hlt, dputs_snoc, hb]
      generalize dputs S (s.data.toList.take n) = T at *
      obtain ⟨⟨hrow, hbst, hbbk⟩, hu⟩ := hd
      have cu := (cell_of_row wr g 72 _ _ _ hrow).trans (dig_used _ _ _ _)
      have cb := (cell_of_row wr g (8 + T.u) _ _ _ hrow).trans (dig_bk _ _ _ _ T.u hu)
      have fu := frozen_of_row wr g 72 _ _ hrow
      have fb := frozen_of_row wr g (8 + T.u) _ _ hrow
      have n1 : ¬ 8 + T.u = 72 := by omega
      have n2 : ¬ 72 = 8 + T.u := by omega
      have u0 : (0 : Int) ≤ (T.u : Int) := by omega
      have u1 : (T.u : Int) < 64 := by omega
      have HROW := Lib.hid hrow
      have HM := Lib.hid hm
      clear hrow hm
      have k0 : (0 : Int) ≤ (n : Int) := by omega
      have k1 : (n : Int) < (s.size : Int) := by omega
      by_cases h64 : T.u + 1 = 64
      · have ue : (T.u : Int) + 1 = 64 := by omega
        have H64 := Lib.hid h64
        clear h64
        go_wp2
        go_still_tail 11, (by kernel_rfl)
        go_wp2_with fail
        have hgr2 := gr_set (gr_set hgr (8 + T.u) (.int .u8 ((s[n]'hlt).toNat : Int))) 72 (.int .i64 64)
        have hk2 := hk.grown hgr2 h0
        have hd2 : Dig _ g T.st (bput T.bk T.u ((s[n]'hlt).toNat : Int)) 64 z := ⟨put_row HROW.out hu ((s[n]'hlt).toNat : Int) 64, hbst, bput_bd _ _ _ hbbk⟩
        refine (mix_any g T.st (bput T.bk T.u ((s[n]'hlt).toNat : Int)) 64 z _ ?hd ?hk h0).mono ?_
        case hd => exact hd2
        case hk => exact hk2
        rintro e w5 ⟨rfl, hd5, hgr5⟩
        have hgr6 : w.grownBy w5 (some g) := gr_trans (gr_drew hgr2) hgr5
        have c5 := (cell_of_row w5 g 72 _ _ _ hd5.1).trans (dig_used _ _ _ _)
        have f5 := frozen_of_row w5 g 72 _ _ hd5.1
        have HD5 := Lib.hid hd5
        have HD := HM.out _ rfl
        rw [dstep_mix _ _ H64.out] at HD
        have HDD := Lib.hid HD
        clear hgr2 hk2 hd2 hgr5 hd5 cu cb fu fb HROW HM hgr HD
        go_wp2
        go_roundw
        case rel =>
          refine ⟨n + 1, by omega, by go_num, ?_, ?_⟩
          · rw [HDD.out]
            refine ⟨⟨?_, HD5.out.2⟩, (by decide : 0 < 64)⟩
            have h7 := heap_setCell_same _ g 72 _ _ (.int .i64 0) HD5.out.1
            rw [dig_set_used] at h7
            exact h7
          · exact gr_set hgr6 72 (.int .i64 0)
        case measure => simp [intOf]; omega
      · have u2 : (T.u : Int) + 1 < 64 := by omega
        go_wp2
        go_still_tail 11, (by kernel_rfl)
        go_wp2
        have HD := HM.out _ rfl
        rw [dstep_put _ _ h64] at HD
        go_roundw
        case rel =>
          refine ⟨n + 1, by omega, by go_num, ?_, ?_⟩
          · rw [HD]
            exact ⟨⟨put_row HROW.out hu ((s[n]'hlt).toNat : Int) ((T.u : Int) + 1), hbst, bput_bd _ _ _ hbbk⟩, (by omega : T.u + 1 < 64)⟩
          · exact gr_drew (gr_set (gr_set hgr _ _) _ _)
        case measure => simp [intOf]; omega
    · have hne : n = s.size := by omega
      have hc : (s.size : Int) ≤ (n : Int) := by omega
      have HNE := Lib.hid hne
      obtain ⟨⟨hrow, hbst, hbbk⟩, hu⟩ := hd
      have cz := (cell_of_row wr g 73 _ _ _ hrow).trans (dig_size _ _ _ _)
      have fz := frozen_of_row wr g 73 _ _ hrow
      have z0 : (0 : Int) ≤ (z : Int) := by omega
      have z1 : (z : Int) ≤ 1000000 := by have := HZ.out; omega
      have HROW := Lib.hid hrow
      clear hlt hn hne hrow
      go_wp2
      go_end0
      refine ⟨rfl, ⟨⟨?_, ?_, ?_⟩, ?_⟩, gr_set hgr _ _⟩
      · have h7 := heap_setCell_same _ g 73 _ _ (.int .u64 ((z : Int) + (s.size : Int))) HROW.out
        rw [dig_set_size, HNE.out, take_all] at h7
        rw [Int.natCast_add]
        exact h7
      · rw [HNE.out, take_all] at hbst; exact hbst
      · rw [HNE.out, take_all] at hbbk; exact hbbk
      · rw [HNE.out, take_all] at hu; exact hu

end Go.Proofs.YtgjnoleejbkddaaDoor

/- The program's mix, quarter, doubleRound. -/
import Derived.Test.YtipcficcoogbnaaCha1
import Derived.Test.YtipcficcoogbnaaRegE
import Derived.Test.YtipcficcoogbnaaRows
import Derived.WalkKit
import Derived.ProofKit
import Derived.Lib.Hide
import Derived.Deep.QuietTactic
import Derived.BigQuiet
import Derived.Deep.MidRow
import Derived.StillTailTactics
import Derived.Deep.Cut
import Derived.WalkSpells
import Derived.WalkLawsBesides
namespace Go.Proofs.Ytipcficcoogbnaa
open Go.RowKit Go.My Go.Lib
set_option linter.unusedVariables false

theorem gr_of {a b : World} {r : Option Nat} (h : Below a.heap.size a b) : a.grownBy b r := ⟨h.os, h.tape, h.output, h.size, fun k hk _ => h.block k hk⟩

set_option maxRecDepth 100000 in
set_option maxHeartbeats 4000000 in
theorem cmix_any (g t s u r : Nat) (T : TypeId) (f : Nat → Int) (w : World) (hB : Blk g (rwA .u32 16 f) T w) (hf : Bd f) (ht : t < 16) (hs : s < 16) (hu : u < 16) (h2 : t ≠ u) (hr1 : 1 ≤ r) (hr2 : r ≤ 31) :
    Calls Try.prog 37 #[.pointer (some ⟨g, 0, none⟩), .int .i64 t, .int .i64 s, .int .i64 u, .int .i64 r] w fun e w' => e = .returned (.tuple #[]) ∧ Blk g (rwA .u32 16 (mixF f t s u r)) T w' ∧ w.grownBy w' (some g) := by
  obtain ⟨a, ea⟩ : ∃ a, f t = a := ⟨_, rfl⟩
  obtain ⟨b, eb⟩ : ∃ b, f s = b := ⟨_, rfl⟩
  obtain ⟨c, ec⟩ : ∃ c, f u = c := ⟨_, rfl⟩
  obtain ⟨A, eA⟩ : ∃ A, A = add32 a b := ⟨_, rfl⟩
  obtain ⟨X, eX⟩ : ∃ X, X = xor32 c A := ⟨_, rfl⟩
  have b0 : 0 ≤ X := by rw [eX]; exact (xor32_bd _ _).1
  have b1 : X ≤ 4294967295 := by rw [eX]; exact (xor32_bd _ _).2
  have HE : Hid (updF (updF (updF f t A) u X) u (rot X r) = mixF f t s u r) := by
    show _ = _
    rw [updF_two, eX, eA, ← ea, ← eb, ← ec]
    rfl
  have e1u : updF f t A u = c := by rw [updF_ne (fun k => h2 k.symm)]; exact ec
  have e1t : updF f t A t = A := updF_at _ _ _
  have e2u : updF (updF f t A) u X u = X := updF_at _ _ _
  have EA := Lib.hid eA
  have EX := Lib.hid eX
  clear hf eA eX
  go_enter Try.func37, Try.ntmps37
  go_upto_region 0 with (fail)
  refine region_rest 13 (kdAt [.val (.pointer (some ⟨g, 0, none⟩)), .val (.int .i64 t), .val (.pointer (some ⟨g, 0, none⟩)), .val (.pointer (some ⟨g, t, none⟩)), .val (.int .u32 a), .val (.pointer (some ⟨g, 0, none⟩)), .val (.int .i64 s), .val (.pointer (some ⟨g, 0, none⟩)), .val (.pointer (some ⟨g, s, none⟩)), .val (.int .u32 b), .val (.int .u32 A), .val (.pointer (some ⟨g, 0, none⟩)), .val (.pointer (some ⟨g, t, none⟩))]) [some 10, some 11, some 12, some 13, some 14, some 15, some 16, some 17, some 18, some 19, some 20, some 21, some 22] (by kernel_rfl) (by decide) (by kernel_rfl) (by kernel_rfl) (by kernel_rfl) (by kernel_rfl) (by kernel_rfl) _ (fun a w h => anyStep (n := 0) (i := 13) (by kernel_rfl) rfl (fun a w h => anyEnd (by kernel_rfl) h) h) ?_ ?_
  · repeat refine allS ?_ ?_
    · exact all0
    · exact stepMove rfl rfl rfl rfl (src_old (by kernel_rfl) rfl)
    · exact stepMove rfl rfl rfl rfl (src_old (by kernel_rfl) rfl)
    · exact stepNil rfl rfl rfl rfl (src_new 0 (by decide) rfl rfl (by kernel_rfl))
    · exact stepIdx rfl rfl rfl rfl (src_new 2 (by decide) rfl rfl (by kernel_rfl)) (src_new 1 (by decide) rfl rfl (by kernel_rfl)) (fun w => idxG g t ht w)
    · exact stepLoad (.pointer (some ⟨g, t, none⟩)) rfl rfl rfl rfl (src_new 3 (by decide) rfl rfl (by kernel_rfl)) (fun w hk => ldW ((hB.below (hk.below (nh0 rfl))).u32v ht ea))
    · exact stepMove rfl rfl rfl rfl (src_old (by kernel_rfl) rfl)
    · exact stepMove rfl rfl rfl rfl (src_old (by kernel_rfl) rfl)
    · exact stepNil rfl rfl rfl rfl (src_new 5 (by decide) rfl rfl (by kernel_rfl))
    · exact stepIdx rfl rfl rfl rfl (src_new 7 (by decide) rfl rfl (by kernel_rfl)) (src_new 6 (by decide) rfl rfl (by kernel_rfl)) (fun w => idxG g s hs w)
    · exact stepLoad (.pointer (some ⟨g, s, none⟩)) rfl rfl rfl rfl (src_new 8 (by decide) rfl rfl (by kernel_rfl)) (fun w hk => ldW ((hB.below (hk.below (nh0 rfl))).u32v hs eb))
    · exact stepBin rfl rfl rfl rfl (src_new 4 (by decide) rfl rfl (by kernel_rfl)) (src_new 9 (by decide) rfl rfl (by kernel_rfl)) (fun w => (EA.out ▸ addW a b _ _) w)
    · exact stepNil rfl rfl rfl rfl (src_new 0 (by decide) rfl rfl (by kernel_rfl))
    · exact stepIdx rfl rfl rfl rfl (src_new 11 (by decide) rfl rfl (by kernel_rfl)) (src_new 1 (by decide) rfl rfl (by kernel_rfl)) (fun w => idxG g t ht w)
  intro v x1 hok hk
  replace hk := hk.all
  have v0 := okVal hok (j := 0) rfl rfl
  have v1 := okVal hok (j := 1) rfl rfl
  have v2 := okVal hok (j := 2) rfl rfl
  have v3 := okVal hok (j := 3) rfl rfl
  have v4 := okVal hok (j := 4) rfl rfl
  have v5 := okVal hok (j := 5) rfl rfl
  have v6 := okVal hok (j := 6) rfl rfl
  have v7 := okVal hok (j := 7) rfl rfl
  have v8 := okVal hok (j := 8) rfl rfl
  have v9 := okVal hok (j := 9) rfl rfl
  have v10 := okVal hok (j := 10) rfl rfl
  have v11 := okVal hok (j := 11) rfl rfl
  have v12 := okVal hok (j := 12) rfl rfl
  clear hok
  simp only [putL, Nat.zero_add, Nat.reduceAdd, v0, v1, v2, v3, v4, v5, v6, v7, v8, v9, v10, v11, v12, Act.put, List.setIfInBounds_toArray, List.set_cons_zero, List.set_cons_succ]
  clear v0 v1 v2 v3 v4 v5 v6 v7 v8 v9 v10 v11 v12
  have fX := hB.below (hk.below (nh0 rfl))
  have gX : w.grownBy x1 (some g) := gr_of (hk.below (nh0 rfl))
  have cX := fX.u32 ht
  have zX := fX.froz (j := t)
  have f1 := fX.put32 ht (A)
  have g1 := gr_trans2 gX (grown_put x1 g t (.int .u32 (A)))
  clear hk fX gX
  clear hB
  go_upto_region 1 with (fail)
  generalize x1.setCell ⟨g, t, none⟩ (.int .u32 (A)) = y1 at *
  clear cX zX
  refine region_rest 13 (kdAt [.val (.pointer (some ⟨g, 0, none⟩)), .val (.int .i64 u), .val (.pointer (some ⟨g, 0, none⟩)), .val (.pointer (some ⟨g, u, none⟩)), .val (.int .u32 c), .val (.pointer (some ⟨g, 0, none⟩)), .val (.int .i64 t), .val (.pointer (some ⟨g, 0, none⟩)), .val (.pointer (some ⟨g, t, none⟩)), .val (.int .u32 A), .val (.int .u32 X), .val (.pointer (some ⟨g, 0, none⟩)), .val (.pointer (some ⟨g, u, none⟩))]) [some 23, some 24, some 25, some 26, some 27, some 28, some 29, some 30, some 31, some 32, some 33, some 34, some 35] (by kernel_rfl) (by decide) (by kernel_rfl) (by kernel_rfl) (by kernel_rfl) (by kernel_rfl) (by kernel_rfl) _ (fun a w h => anyStep (n := 0) (i := 13) (by kernel_rfl) rfl (fun a w h => anyEnd (by kernel_rfl) h) h) ?_ ?_
  · repeat refine allS ?_ ?_
    · exact all0
    · exact stepMove rfl rfl rfl rfl (src_old (by kernel_rfl) rfl)
    · exact stepMove rfl rfl rfl rfl (src_old (by kernel_rfl) rfl)
    · exact stepNil rfl rfl rfl rfl (src_new 0 (by decide) rfl rfl (by kernel_rfl))
    · exact stepIdx rfl rfl rfl rfl (src_new 2 (by decide) rfl rfl (by kernel_rfl)) (src_new 1 (by decide) rfl rfl (by kernel_rfl)) (fun w => idxG g u hu w)
    · exact stepLoad (.pointer (some ⟨g, u, none⟩)) rfl rfl rfl rfl (src_new 3 (by decide) rfl rfl (by kernel_rfl)) (fun w hk => ldW ((f1.below (hk.below (nh0 rfl))).u32v hu e1u))
    · exact stepMove rfl rfl rfl rfl (src_old (by kernel_rfl) rfl)
    · exact stepMove rfl rfl rfl rfl (src_old (by kernel_rfl) rfl)
    · exact stepNil rfl rfl rfl rfl (src_new 5 (by decide) rfl rfl (by kernel_rfl))
    · exact stepIdx rfl rfl rfl rfl (src_new 7 (by decide) rfl rfl (by kernel_rfl)) (src_new 6 (by decide) rfl rfl (by kernel_rfl)) (fun w => idxG g t ht w)
    · exact stepLoad (.pointer (some ⟨g, t, none⟩)) rfl rfl rfl rfl (src_new 8 (by decide) rfl rfl (by kernel_rfl)) (fun w hk => ldW ((f1.below (hk.below (nh0 rfl))).u32v ht e1t))
    · exact stepBin rfl rfl rfl rfl (src_new 4 (by decide) rfl rfl (by kernel_rfl)) (src_new 9 (by decide) rfl rfl (by kernel_rfl)) (fun w => (EX.out ▸ xorW c A _ _) w)
    · exact stepNil rfl rfl rfl rfl (src_new 0 (by decide) rfl rfl (by kernel_rfl))
    · exact stepIdx rfl rfl rfl rfl (src_new 11 (by decide) rfl rfl (by kernel_rfl)) (src_new 1 (by decide) rfl rfl (by kernel_rfl)) (fun w => idxG g u hu w)
  intro v x2 hok hk
  replace hk := hk.all
  have v0 := okVal hok (j := 0) rfl rfl
  have v1 := okVal hok (j := 1) rfl rfl
  have v2 := okVal hok (j := 2) rfl rfl
  have v3 := okVal hok (j := 3) rfl rfl
  have v4 := okVal hok (j := 4) rfl rfl
  have v5 := okVal hok (j := 5) rfl rfl
  have v6 := okVal hok (j := 6) rfl rfl
  have v7 := okVal hok (j := 7) rfl rfl
  have v8 := okVal hok (j := 8) rfl rfl
  have v9 := okVal hok (j := 9) rfl rfl
  have v10 := okVal hok (j := 10) rfl rfl
  have v11 := okVal hok (j := 11) rfl rfl
  have v12 := okVal hok (j := 12) rfl rfl
  clear hok
  simp only [putL, Nat.zero_add, Nat.reduceAdd, v0, v1, v2, v3, v4, v5, v6, v7, v8, v9, v10, v11, v12, Act.put, List.setIfInBounds_toArray, List.set_cons_zero, List.set_cons_succ]
  clear v0 v1 v2 v3 v4 v5 v6 v7 v8 v9 v10 v11 v12
  have fX := f1.below (hk.below (nh0 rfl))
  have gX : w.grownBy x2 (some g) := gr_trans2 g1 (gr_of (hk.below (nh0 rfl)))
  have cX := fX.u32 hu
  have zX := fX.froz (j := u)
  have f2 := fX.put32 hu (X)
  have g2 := gr_trans2 gX (grown_put x2 g u (.int .u32 (X)))
  clear hk fX gX
  clear f1 g1
  go_upto_region 2 with (fail)
  generalize x2.setCell ⟨g, u, none⟩ (.int .u32 (X)) = y2 at *
  clear cX zX
  refine region_rest 20 (kdAt [.val (.pointer (some ⟨g, 0, none⟩)), .val (.int .i64 u), .val (.pointer (some ⟨g, 0, none⟩)), .val (.int .i64 u), .val (.pointer (some ⟨g, 0, none⟩)), .val (.pointer (some ⟨g, u, none⟩)), .val (.int .u32 X), .val (.int .i64 r), .val (.int .u32 (X * 2 ^ r % 4294967296)), .val (.pointer (some ⟨g, 0, none⟩)), .val (.int .i64 u), .val (.pointer (some ⟨g, 0, none⟩)), .val (.pointer (some ⟨g, u, none⟩)), .val (.int .u32 X), .val (.int .i64 r), .val (.int .i64 (32 - r : Nat)), .val (.int .u32 (X / 2 ^ (32 - r))), .val (.int .u32 (rot X r)), .val (.pointer (some ⟨g, 0, none⟩)), .val (.pointer (some ⟨g, u, none⟩))]) [some 36, some 37, some 38, some 39, some 40, some 41, some 42, some 43, some 44, some 45, some 46, some 47, some 48, some 49, some 50, some 51, some 52, some 53, some 54, some 55] (by kernel_rfl) (by decide) (by kernel_rfl) (by kernel_rfl) (by kernel_rfl) (by kernel_rfl) (by kernel_rfl) _ (fun a w h => anyStep (n := 0) (i := 20) (by kernel_rfl) rfl (fun a w h => anyEnd (by kernel_rfl) h) h) ?_ ?_
  · repeat refine allS ?_ ?_
    · exact all0
    · exact stepMove rfl rfl rfl rfl (src_old (by kernel_rfl) rfl)
    · exact stepMove rfl rfl rfl rfl (src_old (by kernel_rfl) rfl)
    · exact stepMove rfl rfl rfl rfl (src_old (by kernel_rfl) rfl)
    · exact stepMove rfl rfl rfl rfl (src_old (by kernel_rfl) rfl)
    · exact stepNil rfl rfl rfl rfl (src_new 2 (by decide) rfl rfl (by kernel_rfl))
    · exact stepIdx rfl rfl rfl rfl (src_new 4 (by decide) rfl rfl (by kernel_rfl)) (src_new 3 (by decide) rfl rfl (by kernel_rfl)) (fun w => idxG g u hu w)
    · exact stepLoad (.pointer (some ⟨g, u, none⟩)) rfl rfl rfl rfl (src_new 5 (by decide) rfl rfl (by kernel_rfl)) (fun w hk => ldW ((f2.below (hk.below (nh0 rfl))).u32v hu e2u))
    · exact stepMove rfl rfl rfl rfl (src_old (by kernel_rfl) rfl)
    · exact stepBin rfl rfl rfl rfl (src_new 6 (by decide) rfl rfl (by kernel_rfl)) (src_new 7 (by decide) rfl rfl (by kernel_rfl)) (fun w => (shlW X r b0 b1 hr2 _ _) w)
    · exact stepMove rfl rfl rfl rfl (src_old (by kernel_rfl) rfl)
    · exact stepMove rfl rfl rfl rfl (src_old (by kernel_rfl) rfl)
    · exact stepNil rfl rfl rfl rfl (src_new 9 (by decide) rfl rfl (by kernel_rfl))
    · exact stepIdx rfl rfl rfl rfl (src_new 11 (by decide) rfl rfl (by kernel_rfl)) (src_new 10 (by decide) rfl rfl (by kernel_rfl)) (fun w => idxG g u hu w)
    · exact stepLoad (.pointer (some ⟨g, u, none⟩)) rfl rfl rfl rfl (src_new 12 (by decide) rfl rfl (by kernel_rfl)) (fun w hk => ldW ((f2.below (hk.below (nh0 rfl))).u32v hu e2u))
    · exact stepMove rfl rfl rfl rfl (src_old (by kernel_rfl) rfl)
    · exact stepBinL rfl rfl rfl rfl (src_new 14 (by decide) rfl rfl (by kernel_rfl)) (fun w => (subI r (by omega) _ _) w)
    · exact stepBin rfl rfl rfl rfl (src_new 13 (by decide) rfl rfl (by kernel_rfl)) (src_new 15 (by decide) rfl rfl (by kernel_rfl)) (fun w => (shrW X (32 - r) b0 b1 (by omega) _ _) w)
    · exact stepBin rfl rfl rfl rfl (src_new 8 (by decide) rfl rfl (by kernel_rfl)) (src_new 16 (by decide) rfl rfl (by kernel_rfl)) (fun w => (orW _ _ _ _) w)
    · exact stepNil rfl rfl rfl rfl (src_new 0 (by decide) rfl rfl (by kernel_rfl))
    · exact stepIdx rfl rfl rfl rfl (src_new 18 (by decide) rfl rfl (by kernel_rfl)) (src_new 1 (by decide) rfl rfl (by kernel_rfl)) (fun w => idxG g u hu w)
  intro v x3 hok hk
  replace hk := hk.all
  have v0 := okVal hok (j := 0) rfl rfl
  have v1 := okVal hok (j := 1) rfl rfl
  have v2 := okVal hok (j := 2) rfl rfl
  have v3 := okVal hok (j := 3) rfl rfl
  have v4 := okVal hok (j := 4) rfl rfl
  have v5 := okVal hok (j := 5) rfl rfl
  have v6 := okVal hok (j := 6) rfl rfl
  have v7 := okVal hok (j := 7) rfl rfl
  have v8 := okVal hok (j := 8) rfl rfl
  have v9 := okVal hok (j := 9) rfl rfl
  have v10 := okVal hok (j := 10) rfl rfl
  have v11 := okVal hok (j := 11) rfl rfl
  have v12 := okVal hok (j := 12) rfl rfl
  have v13 := okVal hok (j := 13) rfl rfl
  have v14 := okVal hok (j := 14) rfl rfl
  have v15 := okVal hok (j := 15) rfl rfl
  have v16 := okVal hok (j := 16) rfl rfl
  have v17 := okVal hok (j := 17) rfl rfl
  have v18 := okVal hok (j := 18) rfl rfl
  have v19 := okVal hok (j := 19) rfl rfl
  clear hok
  simp only [putL, Nat.zero_add, Nat.reduceAdd, v0, v1, v2, v3, v4, v5, v6, v7, v8, v9, v10, v11, v12, v13, v14, v15, v16, v17, v18, v19, Act.put, List.setIfInBounds_toArray, List.set_cons_zero, List.set_cons_succ]
  clear v0 v1 v2 v3 v4 v5 v6 v7 v8 v9 v10 v11 v12 v13 v14 v15 v16 v17 v18 v19
  have fX := f2.below (hk.below (nh0 rfl))
  have gX : w.grownBy x3 (some g) := gr_trans2 g2 (gr_of (hk.below (nh0 rfl)))
  have cX := fX.u32 hu
  have zX := fX.froz (j := u)
  have f3 := fX.put32 hu (rot X r)
  have g3 := gr_trans2 gX (grown_put x3 g u (.int .u32 (rot X r)))
  clear hk fX gX
  clear f2 g2
  go_wp2
  go_end0
  refine ⟨rfl, ?_, ?_⟩
  · rw [← HE.out]; exact f3
  · exact g3

set_option maxRecDepth 100000 in
set_option maxHeartbeats 2000000 in
theorem quarter_any (g a b c d : Nat) (T : TypeId) (f : Nat → Int) (w : World) (hB : Blk g (rwA .u32 16 f) T w) (hf : Bd f) (ha : a < 16) (hb : b < 16) (hc : c < 16) (hd : d < 16) (h1 : a ≠ d) (h2 : c ≠ b) :
    Calls Try.prog 31 #[.pointer (some ⟨g, 0, none⟩), .int .i64 a, .int .i64 b, .int .i64 c, .int .i64 d] w fun e w' => e = .returned (.tuple #[]) ∧ Blk g (rwA .u32 16 (quartF f a b c d)) T w' ∧ w.grownBy w' (some g) := by
  have B1 := mixF_bd hf a b d 16
  have B2 := mixF_bd B1 c d b 12
  have B3 := mixF_bd B2 a b d 8
  have C1 := Lib.hid (fun w hw => cmix_any g a b d 16 T f w hw hf ha hb hd h1 (by decide) (by decide))
  have C2 := Lib.hid (fun w hw => cmix_any g c d b 12 T _ w hw B1 hc hd hb h2 (by decide) (by decide))
  have C3 := Lib.hid (fun w hw => cmix_any g a b d 8 T _ w hw B2 ha hb hd h1 (by decide) (by decide))
  have C4 := Lib.hid (fun w hw => cmix_any g c d b 7 T _ w hw B3 hc hd hb h2 (by decide) (by decide))
  have HQ : Hid (mixF (mixF (mixF (mixF f a b d 16) c d b 12) a b d 8) c d b 7 = quartF f a b c d) := rfl
  generalize mixF (mixF (mixF (mixF f a b d 16) c d b 12) a b d 8) c d b 7 = f4 at *
  generalize mixF (mixF (mixF f a b d 16) c d b 12) a b d 8 = f3 at *
  generalize mixF (mixF f a b d 16) c d b 12 = f2 at *
  generalize mixF f a b d 16 = f1 at *
  clear B1 B2 B3 hf
  go_enter Try.func31, Try.ntmps31
  go_wp2_with fail
  refine (C1.out _ hB).mono ?_
  rintro e w1 ⟨rfl, q1, g1⟩
  go_wp2_with fail
  refine (C2.out _ q1).mono ?_
  rintro e w2 ⟨rfl, q2, g2⟩
  go_wp2_with fail
  refine (C3.out _ q2).mono ?_
  rintro e w3 ⟨rfl, q3, g3⟩
  go_wp2_with fail
  refine (C4.out _ q3).mono ?_
  rintro e w4 ⟨rfl, q4, g4⟩
  go_wp2
  go_end0
  exact ⟨rfl, by rw [← HQ.out]; exact q4, gr_trans2 (gr_trans2 (gr_trans2 g1 g2) g3) g4⟩

theorem gr_refl2 (w : World) (r : Option Nat) : w.grownBy w r := ⟨rfl, rfl, rfl, Nat.le_refl _, fun _ _ _ => rfl⟩
set_option maxRecDepth 100000 in
set_option maxHeartbeats 4000000 in
theorem doubleRound_any (g : Nat) (T : TypeId) (f : Nat → Int) (w : World) (hB : Blk g (rwA .u32 16 f) T w) (hf : Bd f) :
    Calls Try.prog 18 #[.pointer (some ⟨g, 0, none⟩)] w fun e w' => e = .returned (.tuple #[]) ∧ Blk g (rwA .u32 16 (dblF f)) T w' ∧ w.grownBy w' (some g) := by
  have HF := Lib.hid hf
  have HD : Hid (dblF f = diaF (colF f 4) 4) := rfl
  clear hf
  go_enter Try.func18, Try.ntmps18
  go_wp2
  go_loopw [4] (fun i wr => ∃ n : Nat, n ≤ 4 ∧ i = .int .i64 n ∧ Blk g (rwA .u32 16 (colF f n)) T wr ∧ w.grownBy wr (some g)) (fun i _ => 4 - (intOf i).toNat)
  case atStart => exact ⟨0, by omega, rfl, hB, gr_refl2 _ _⟩
  case round =>
    clear hB
    obtain ⟨n, hn, rfl, q, gr⟩ := hrel
    by_cases hlt : n < 4
    · have k1 : (n : Int) < 4 := by omega
      have k0 : (0 : Int) ≤ (n : Int) := by omega
      have e4 : IntKind.i64.wrap (4 + (n : Int)) = ((4 + n : Nat) : Int) := by rw [IntKind.wrap_i64]; omega
      have e8 : IntKind.i64.wrap (8 + (n : Int)) = ((8 + n : Nat) : Int) := by rw [IntKind.wrap_i64]; omega
      have e12 : IntKind.i64.wrap (12 + (n : Int)) = ((12 + n : Nat) : Int) := by rw [IntKind.wrap_i64]; omega
      have C := Lib.hid (fun w hw => quarter_any g n (4 + n) (8 + n) (12 + n) T (colF f n) w hw (colF_bd HF.out n) (by omega) (by omega) (by omega) (by omega) (by omega) (by omega))
      have HE : Hid (quartF (colF f n) n (4 + n) (8 + n) (12 + n) = colF f (n + 1)) := rfl
      generalize quartF (colF f n) n (4 + n) (8 + n) (12 + n) = f1 at *
      generalize 4 + n = m4 at *
      generalize 8 + n = m8 at *
      generalize 12 + n = m12 at *
      go_wp2_with fail
      refine (C.out _ q).mono ?_
      rintro e w1 ⟨rfl, q1, g1⟩
      have HR := Lib.hid (And.intro q1 (gr_trans2 gr g1))
      clear q gr q1 g1 e4 e8 e12
      go_wp2
      go_roundw
      case rel => exact ⟨n + 1, by omega, by go_num, by rw [← HE.out]; exact HR.out.1, HR.out.2⟩
      case measure => simp [intOf]; omega
    · have hn4 : n = 4 := by omega
      have k1 : (4 : Int) ≤ (n : Int) := by omega
      rw [hn4] at q
      have HC := Lib.hid (colF_bd HF.out 4)
      generalize colF f 4 = h at *
      clear hlt hn4
      go_wp2
      go_loopw [17] (fun i wr => ∃ n : Nat, n ≤ 4 ∧ i = .int .i64 n ∧ Blk g (rwA .u32 16 (diaF h n)) T wr ∧ w.grownBy wr (some g)) (fun i _ => 4 - (intOf i).toNat)
      case atStart => exact ⟨0, by omega, rfl, q, gr⟩
      case round =>
        clear q gr
        obtain ⟨n, hn, rfl, q, gr⟩ := hrel
        by_cases hlt : n < 4
        · have k1 : (n : Int) < 4 := by omega
          have C := Lib.hid (fun w hw => quarter_any g n (4 + (n + 1) % 4) (8 + (n + 2) % 4) (12 + (n + 3) % 4) T (diaF h n) w hw (diaF_bd HC.out n) (by omega) (by omega) (by omega) (by omega) (by omega) (by omega))
          have HE : Hid (quartF (diaF h n) n (4 + (n + 1) % 4) (8 + (n + 2) % 4) (12 + (n + 3) % 4) = diaF h (n + 1)) := rfl
          have hc : n = 0 ∨ n = 1 ∨ n = 2 ∨ n = 3 := by omega
          generalize quartF (diaF h n) n (4 + (n + 1) % 4) (8 + (n + 2) % 4) (12 + (n + 3) % 4) = f1 at *
          generalize diaF h n = fn at *
          clear hlt k1
          rcases hc with rfl | rfl | rfl | rfl
          all_goals
            simp only [Nat.reduceAdd, Nat.reduceMod] at C
            go_wp2_with fail
            refine (C.out _ q).mono ?_
            rintro e w1 ⟨rfl, q1, g1⟩
            have HR := Lib.hid (And.intro q1 (gr_trans2 gr g1))
            clear q gr q1 g1
            go_wp2
            go_roundw
            case rel => first | exact ⟨1, by omega, by first | rfl | go_num, by rw [show (1 : Nat) = 0 + 1 from rfl, ← HE.out]; exact HR.out.1, HR.out.2⟩ | exact ⟨2, by omega, by first | rfl | go_num, by rw [show (2 : Nat) = 1 + 1 from rfl, ← HE.out]; exact HR.out.1, HR.out.2⟩ | exact ⟨3, by omega, by first | rfl | go_num, by rw [show (3 : Nat) = 2 + 1 from rfl, ← HE.out]; exact HR.out.1, HR.out.2⟩ | exact ⟨4, by omega, by first | rfl | go_num, by rw [show (4 : Nat) = 3 + 1 from rfl, ← HE.out]; exact HR.out.1, HR.out.2⟩
            case measure => simp [intOf]
        · have hn4 : n = 4 := by omega
          have k1 : (4 : Int) ≤ (n : Int) := by omega
          rw [hn4] at q
          clear hlt hn4
          go_wp2
          go_end0
          exact ⟨rfl, by rw [HD.out]; exact q, gr⟩

end Go.Proofs.Ytipcficcoogbnaa

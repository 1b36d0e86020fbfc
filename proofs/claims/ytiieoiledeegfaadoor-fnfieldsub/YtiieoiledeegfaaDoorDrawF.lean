/- The contracts of the draws of field numbers. -/
import Derived.Test.YtiieoiledeegfaaDoorDraw0
import Derived.Test.YtiieoiledeegfaaDoorField
namespace Go.Proofs.YtiieoiledeegfaaDoor
open Go.RowKit Go.My Go.Lib
set_option linter.unusedVariables false

theorem draw_fieldOk (B : Nat) (a : Option Addr) (len cap : Nat) (w : World) (hB : B ≤ w.heap.size) (h : RdCode B w a len) : Calls Tryd.prog 14 #[.slice a len cap] w (DrawS 40 B w) := by
  go_enter Tryd.func14, Tryd.ntmps14
  go_wp2_with fail
  refine (open_any B a len cap _ hB h).mono ?_
  rintro e w1 ⟨rfl, hR1, hg1⟩
  go_wp2_with fail
  refine (field_any B _ _ hR1).mono ?_
  rintro e w2 ⟨s, rfl, hs, hR2, hg2⟩
  go_wp2
  go_ret
  exact ⟨s, rfl, hs, (below_none hg1 hB).trans (grown_below hg2 hR1.1 hR1.2.1)⟩

theorem draw_fieldAdd (B : Nat) (a : Option Addr) (len cap : Nat) (w : World) (hB : B ≤ w.heap.size) (h : RdCode B w a len) : Calls Tryd.prog 13 #[.slice a len cap] w (DrawSS 40 B w) := by
  go_enter Tryd.func13, Tryd.ntmps13
  go_wp2_with fail
  refine (open_any B a len cap _ hB h).mono ?_
  rintro e w1 ⟨rfl, hR1, hg1⟩
  have hb1 := below_none hg1 hB
  clear hg1
  go_wp2_with fail
  refine (field_any B _ _ hR1).mono ?_
  rintro e w2 ⟨s, rfl, hs, hR2, hg2⟩
  have hb2 := hb1.trans (grown_below hg2 hR1.1 hR1.2.1)
  clear hb1 hg2 hR1
  go_wp2_with fail
  refine (field_any B _ _ hR2).mono ?_
  rintro e w3 ⟨t, rfl, ht, hR3, hg3⟩
  have hb3 := hb2.trans (grown_below hg3 hR2.1 hR2.2.1)
  clear hb2 hg3 hR2
  go_wp2
  go_ret2
  exact ⟨s, t, rfl, hs, ht, hb3⟩

theorem draw_fieldSub (B : Nat) (a : Option Addr) (len cap : Nat) (w : World) (hB : B ≤ w.heap.size) (h : RdCode B w a len) : Calls Tryd.prog 28 #[.slice a len cap] w (DrawSS 40 B w) := by
  go_enter Tryd.func28, Tryd.ntmps28
  go_wp2_with fail
  refine (draw_fieldAdd B a len cap _ hB h).mono ?_
  rintro e w2 ⟨s, t, rfl, hs, ht, hb⟩
  go_wp2
  go_ret2
  exact ⟨s, t, rfl, hs, ht, hb⟩

theorem draw_fieldMul (B : Nat) (a : Option Addr) (len cap : Nat) (w : World) (hB : B ≤ w.heap.size) (h : RdCode B w a len) : Calls Tryd.prog 21 #[.slice a len cap] w (DrawSS 40 B w) := by
  go_enter Tryd.func21, Tryd.ntmps21
  go_wp2_with fail
  refine (draw_fieldAdd B a len cap _ hB h).mono ?_
  rintro e w2 ⟨s, t, rfl, hs, ht, hb⟩
  go_wp2
  go_ret2
  exact ⟨s, t, rfl, hs, ht, hb⟩

theorem draw_fieldInv (B : Nat) (a : Option Addr) (len cap : Nat) (w : World) (hB : B ≤ w.heap.size) (h : RdCode B w a len) : Calls Tryd.prog 24 #[.slice a len cap] w (DrawS 40 B w) := by
  go_enter Tryd.func24, Tryd.ntmps24
  go_wp2_with fail
  refine (draw_fieldOk B a len cap _ hB h).mono ?_
  rintro e w2 ⟨s, rfl, hs, hb⟩
  go_wp2
  go_ret
  exact ⟨s, rfl, hs, hb⟩

end Go.Proofs.YtiieoiledeegfaaDoor

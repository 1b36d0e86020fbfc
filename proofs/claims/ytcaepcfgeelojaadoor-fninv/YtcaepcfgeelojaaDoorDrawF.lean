/- The contracts of the draws of field numbers. -/
import Derived.Test.YtcaepcfgeelojaaDoorDraw0
import Derived.Test.YtcaepcfgeelojaaDoorField
namespace Go.Proofs.YtcaepcfgeelojaaDoor
open Go.RowKit Go.My Go.Lib
set_option linter.unusedVariables false

theorem draw_fieldOk (B : Nat) (a : Option Addr) (len cap : Nat) (w : World) (hB : B ≤ w.heap.size) (h : RdCode B w a len) : Calls Tryd.prog 27 #[.slice a len cap] w (DrawS 40 B w) := by
  go_enter Tryd.func27, Tryd.ntmps27
  go_wp2_with fail
  refine (open_any B a len cap _ hB h).mono ?_
  rintro e w1 ⟨rfl, hR1, hg1⟩
  go_wp2_with fail
  refine (field_any B _ _ hR1).mono ?_
  rintro e w2 ⟨s, rfl, hs, hR2, hg2⟩
  go_wp2
  go_ret
  exact ⟨s, rfl, hs, (below_none hg1 hB).trans (grown_below hg2 hR1.1 hR1.2.1)⟩

theorem draw_fieldInv (B : Nat) (a : Option Addr) (len cap : Nat) (w : World) (hB : B ≤ w.heap.size) (h : RdCode B w a len) : Calls Tryd.prog 11 #[.slice a len cap] w (DrawS 40 B w) := by
  go_enter Tryd.func11, Tryd.ntmps11
  go_wp2_with fail
  refine (draw_fieldOk B a len cap _ hB h).mono ?_
  rintro e w2 ⟨s, rfl, hs, hb⟩
  go_wp2
  go_ret
  exact ⟨s, rfl, hs, hb⟩

end Go.Proofs.YtcaepcfgeelojaaDoor

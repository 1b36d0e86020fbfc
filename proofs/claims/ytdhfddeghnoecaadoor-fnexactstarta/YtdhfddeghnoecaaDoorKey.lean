/- The contract of the reader's 'key': a text of 40 bytes at most. -/
import Derived.Test.YtdhfddeghnoecaaDoorRd
import Derived.Deep.RegionWith
import Derived.Deep.RegionHeld3
namespace Go.Proofs.YtdhfddeghnoecaaDoor
open Go.RowKit Go.My Go.Lib
set_option linter.unusedVariables false

theorem eight {n : Int} (h0 : 0 ≤ n) (h1 : n < 8) : n = 0 ∨ n = 1 ∨ n = 2 ∨ n = 3 ∨ n = 4 ∨ n = 5 ∨ n = 6 ∨ n = 7 := by omega
theorem pick8 (a b c d e f g h : Int) (x : Int) (h0 : 0 ≤ x) (h1 : x < 8) (ha : 0 ≤ a ∧ a < 256) (hb : 0 ≤ b ∧ b < 256) (hc : 0 ≤ c ∧ c < 256) (hd : 0 ≤ d ∧ d < 256) (he : 0 ≤ e ∧ e < 256) (hf : 0 ≤ f ∧ f < 256) (hg : 0 ≤ g ∧ g < 256) (hh : 0 ≤ h ∧ h < 256) :
    ∃ t : Int, (#[Value.int .u8 a, .int .u8 b, .int .u8 c, .int .u8 d, .int .u8 e, .int .u8 f, .int .u8 g, .int .u8 h] : Array Value)[x.toNat]? = some (.int .u8 t) ∧ (∀ h', ([Value.int .u8 a, .int .u8 b, .int .u8 c, .int .u8 d, .int .u8 e, .int .u8 f, .int .u8 g, .int .u8 h] : List Value)[x.toNat]'h' = .int .u8 t) ∧ 0 ≤ t ∧ t < 256 := by
  rcases eight h0 h1 with rfl | rfl | rfl | rfl | rfl | rfl | rfl | rfl
  · exact ⟨a, rfl, fun _ => rfl, ha⟩
  · exact ⟨b, rfl, fun _ => rfl, hb⟩
  · exact ⟨c, rfl, fun _ => rfl, hc⟩
  · exact ⟨d, rfl, fun _ => rfl, hd⟩
  · exact ⟨e, rfl, fun _ => rfl, he⟩
  · exact ⟨f, rfl, fun _ => rfl, hf⟩
  · exact ⟨g, rfl, fun _ => rfl, hg⟩
  · exact ⟨h, rfl, fun _ => rfl, hh⟩

end Go.Proofs.YtdhfddeghnoecaaDoor

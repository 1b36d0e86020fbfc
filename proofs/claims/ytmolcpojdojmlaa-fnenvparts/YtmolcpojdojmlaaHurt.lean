/- The contract of the reader's 'hurt': a text a byte longer at most. -/
import Derived.Test.YtmolcpojdojmlaaRd
import Derived.Deep.RegionWith
import Derived.Deep.RegionHeld3
namespace Go.Proofs.Ytmolcpojdojmlaa
open Go.RowKit Go.My Go.Lib
set_option linter.unusedVariables false

theorem pick4 (a b c d : UInt8) (x : Int) (h0 : 0 ≤ x) (h1 : x < 4) : ∃ t : ByteArray, (#[Value.string ⟨#[a]⟩, Value.string ⟨#[b]⟩, Value.string ⟨#[c]⟩, Value.string ⟨#[d]⟩] : Array Value)[x.toNat]? = some (.string t) ∧ (∀ h, ([Value.string ⟨#[a]⟩, Value.string ⟨#[b]⟩, Value.string ⟨#[c]⟩, Value.string ⟨#[d]⟩] : List Value)[x.toNat]'h = .string t) ∧ t.size = 1 := by
  rcases four h0 h1 with rfl | rfl | rfl | rfl
  · exact ⟨⟨#[a]⟩, rfl, fun _ => rfl, rfl⟩
  · exact ⟨⟨#[b]⟩, rfl, fun _ => rfl, rfl⟩
  · exact ⟨⟨#[c]⟩, rfl, fun _ => rfl, rfl⟩
  · exact ⟨⟨#[d]⟩, rfl, fun _ => rfl, rfl⟩

theorem hurt_size (s t : ByteArray) (Y : Nat) (h : Y < s.size) (ht : t.size = 1) : (s.extract 0 Y ++ t ++ s.extract (Y + 1) s.size).size ≤ s.size + 1 := by
  rw [ByteArray.size_append, ByteArray.size_append, ByteArray.size_extract, ByteArray.size_extract, ht]
  omega

end Go.Proofs.Ytmolcpojdojmlaa

/- The draws of blocks and streams. -/
import Derived.Test.YtgjnoleejbkddaaDoorGM6
import Derived.Deep.RegionWith
namespace Go.Proofs.YtgjnoleejbkddaaDoor
open Go.RowKit Go.My Go.Lib
set_option linter.unusedVariables false

theorem RdCode.widerS {B C : Nat} {w : World} {a : Option Addr} {len : Nat} (h : RdCode B w a len) (hc : B ≤ C) : RdCode C w a len := by
  obtain ⟨h1, h2⟩ := h
  refine ⟨h1, ?_⟩
  rcases h2 with h2 | ⟨b, off, ha, hb, hx⟩
  · exact .inl h2
  · exact .inr ⟨b, off, ha, by omega, hx⟩
theorem Rd.pastS {B g : Nat} {w w' : World} (h : Rd B w g) (hb : Below w.heap.size w w') : Rd B w' g := h.kept (r := none) ⟨hb.os, hb.tape, hb.output, hb.size, fun k hk _ => hb.block k hk⟩ (by simp) (by simp)
def DrawKN (B : Nat) (w : World) (e : Ending) (w' : World) : Prop := ∃ (k n : ByteArray) (c : Int), e = .returned (.tuple #[.string k, .int .i64 c, .string n]) ∧ k.size ≤ 40 ∧ n.size ≤ 14 ∧ Below B w w'
def DrawKND (B : Nat) (w : World) (e : Ending) (w' : World) : Prop := ∃ k n d : ByteArray, e = .returned (.tuple #[.string k, .string n, .string d]) ∧ (k.size ≤ 40 ∧ n.size ≤ 14 ∧ d.size ≤ 401) ∧ Below B w w'
theorem ext12 (a b : ByteArray) (h : b.size = 12) : ((a ++ b).extract 0 12).size = 12 := by rw [ByteArray.size_extract, ByteArray.size_append]; omega

end Go.Proofs.YtgjnoleejbkddaaDoor

/- What every law's draws want: a code, the bound, the shapes of draws. -/
import Derived.Test.YtmekpinhhmknnaaDoorRd
namespace Go.Proofs.YtmekpinhhmknnaaDoor
open Go.RowKit Go.My Go.Lib
set_option linter.unusedVariables false

/-- A slice that came in is a code, if it is no longer than the laws take. -/
theorem code_of_row {w : World} {a : Option Addr} {len cap : Nat} {zs : List Int} (h : IsRow .u8 w a len cap zs) (hl : len ≤ 1048576) : RdCode w.heap.size w a len := by
  refine ⟨hl, ?_⟩
  rcases h with ⟨_, rfl, _⟩ | ⟨x, rfl, hlc, _, hz, hc, hwf⟩
  · exact .inl rfl
  · by_cases h0 : len = 0
    · exact .inl h0
    right
    have c0 := hc 0 (by omega)
    obtain ⟨b, off, spot⟩ := x
    have hspot : spot = none := by simpa [Addr.add] using World.cell?_spot c0
    subst hspot
    refine ⟨b, off, rfl, ?_, fun i hi => ?_⟩
    · have := World.block_lt_of_cell? w _ c0
      simpa [Addr.add] using this
    · have hci := hc i (by omega)
      have hm : zs.getD i 0 ∈ zs := by
        have : i < zs.length := by omega
        rw [List.getD_eq_getElem?_getD, List.getElem?_eq_getElem this]
        exact List.getElem_mem this
      have hw := hwf _ hm
      simp [Lit.wf, IntKind.min, IntKind.max, IntKind.signed, IntKind.bits] at hw
      exact ⟨zs.getD i 0, by simpa using hw.1, by simpa using hw.2, by rw [Addr.add_lit] at hci; exact hci⟩

theorem big_any (a : Option Addr) (len cap : Nat) (w : World) (h : len ≤ 9223372036854775807) :
    Calls Tryd.prog 19 #[.slice a len cap] w fun e w' => e = .returned (.bool (decide (1048576 < (len : Int)))) ∧ w = w' := by
  go_enter Tryd.func19, Tryd.ntmps19
  go_wp2
  go_ret
  exact ⟨rfl, rfl⟩

def DrawS (N B : Nat) (w : World) (e : Ending) (w' : World) : Prop := ∃ s : ByteArray, e = .returned (.string s) ∧ s.size ≤ N ∧ Below B w w'
def DrawSS (N B : Nat) (w : World) (e : Ending) (w' : World) : Prop := ∃ s t : ByteArray, e = .returned (.tuple #[.string s, .string t]) ∧ s.size ≤ N ∧ t.size ≤ N ∧ Below B w w'
def DrawII (B : Nat) (w : World) (e : Ending) (w' : World) : Prop := ∃ n k : Int, e = .returned (.tuple #[.int .i64 n, .int .i64 k]) ∧ (Lit.int .i64 n).wf = true ∧ (Lit.int .i64 k).wf = true ∧ Below B w w'

theorem below_none {B : Nat} {a b : World} (h : a.grownBy b none) (hB : B ≤ a.heap.size) : Below B a b :=
  ⟨h.os, h.tape, h.output, h.size, fun k hk => h.block k (by omega) (by simp)⟩


end Go.Proofs.YtmekpinhhmknnaaDoor

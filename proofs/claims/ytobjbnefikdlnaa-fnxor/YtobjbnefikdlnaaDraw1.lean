/- The contracts of the draws of chapter 1: some string, some integers; nothing below B has turned. -/
import Derived.Test.YtobjbnefikdlnaaHurt
import Derived.Test.YtobjbnefikdlnaaHex
namespace Go.Proofs.Ytobjbnefikdlnaa
open Go.RowKit Go.My Go.Lib
set_option linter.unusedVariables false

/-- A slice that came in is a code, if it is no longer than the laws take. -/
theorem code_of_row {w : World} {a : Option Addr} {len cap : Nat} {zs : List Int} (h : IsRow .u8 w a len cap zs) (hl : len ≤ 1048576) : RdCode w.heap.size w a len := by
  refine ⟨hl, ?_⟩
  rcases h with ⟨_, rfl, _⟩ | ⟨x, rfl, hlc, _, hz, hc, hwf⟩
  · exact .inl rfl
  · by_cases h0 : len = 0
    · exact .inl h0
    right
    have c0 := hc 0 (by omega)
    obtain ⟨b, off, spot⟩ := x
    have hspot : spot = none := by simpa [Addr.add] using World.cell?_spot c0
    subst hspot
    refine ⟨b, off, rfl, ?_, fun i hi => ?_⟩
    · have := World.block_lt_of_cell? w _ c0
      simpa [Addr.add] using this
    · have hci := hc i (by omega)
      have hm : zs.getD i 0 ∈ zs := by
        have : i < zs.length := by omega
        rw [List.getD_eq_getElem?_getD, List.getElem?_eq_getElem this]
        exact List.getElem_mem this
      have hw := hwf _ hm
      simp [Lit.wf, IntKind.min, IntKind.max, IntKind.signed, IntKind.bits] at hw
      exact ⟨zs.getD i 0, by simpa using hw.1, by simpa using hw.2, by rw [Addr.add_lit] at hci; exact hci⟩

theorem big_any (a : Option Addr) (len cap : Nat) (w : World) (h : len ≤ 9223372036854775807) :
    Calls Try.prog 12 #[.slice a len cap] w fun e w' => e = .returned (.bool (decide (1048576 < (len : Int)))) ∧ w = w' := by
  go_enter Try.func12, Try.ntmps12
  go_wp2
  go_ret
  exact ⟨rfl, rfl⟩

def DrawS (N B : Nat) (w : World) (e : Ending) (w' : World) : Prop := ∃ s : ByteArray, e = .returned (.string s) ∧ s.size ≤ N ∧ Below B w w'
def DrawSS (N B : Nat) (w : World) (e : Ending) (w' : World) : Prop := ∃ s t : ByteArray, e = .returned (.tuple #[.string s, .string t]) ∧ s.size ≤ N ∧ t.size ≤ N ∧ Below B w w'
def DrawII (B : Nat) (w : World) (e : Ending) (w' : World) : Prop := ∃ n k : Int, e = .returned (.tuple #[.int .i64 n, .int .i64 k]) ∧ (Lit.int .i64 n).wf = true ∧ (Lit.int .i64 k).wf = true ∧ Below B w w'

theorem below_none {B : Nat} {a b : World} (h : a.grownBy b none) (hB : B ≤ a.heap.size) : Below B a b :=
  ⟨h.os, h.tape, h.output, h.size, fun k hk => h.block k (by omega) (by simp)⟩

theorem draw_hexOf (B : Nat) (a : Option Addr) (len cap : Nat) (w : World) (hB : B ≤ w.heap.size) (h : RdCode B w a len) : Calls Try.prog 13 #[.slice a len cap] w (DrawS 40 B w) := by
  go_enter Try.func13, Try.ntmps13
  go_wp2_with fail
  refine (open_any B a len cap _ hB h).mono ?_
  rintro e w1 ⟨rfl, hR1, hg1⟩
  go_wp2_with fail
  refine (bytes_any B _ 40 _ hR1 (by omega)).mono ?_
  rintro e w2 ⟨s, rfl, hs, hR2, hg2⟩
  go_wp2
  go_ret
  exact ⟨s, rfl, hs, (below_none hg1 hB).trans (grown_below hg2 hR1.1 hR1.2.1)⟩

theorem draw_bytesNum (B : Nat) (a : Option Addr) (len cap : Nat) (w : World) (hB : B ≤ w.heap.size) (h : RdCode B w a len) : Calls Try.prog 24 #[.slice a len cap] w (DrawS 9 B w) := by
  go_enter Try.func24, Try.ntmps24
  go_wp2_with fail
  refine (open_any B a len cap _ hB h).mono ?_
  rintro e w1 ⟨rfl, hR1, hg1⟩
  go_wp2_with fail
  refine (bytes_any B _ 9 _ hR1 (by omega)).mono ?_
  rintro e w2 ⟨s, rfl, hs, hR2, hg2⟩
  go_wp2
  go_ret
  exact ⟨s, rfl, hs, (below_none hg1 hB).trans (grown_below hg2 hR1.1 hR1.2.1)⟩

set_option maxHeartbeats 1000000 in
theorem draw_readHex (B : Nat) (a : Option Addr) (len cap : Nat) (w : World) (hB : B ≤ w.heap.size) (h : RdCode B w a len) : Calls Try.prog 15 #[.slice a len cap] w (DrawS 100 B w) := by
  go_enter Try.func15, Try.ntmps15
  go_wp2_with fail
  refine (open_any B a len cap _ hB h).mono ?_
  rintro e w1 ⟨rfl, hR1, hg1⟩
  have hb1 := below_none hg1 hB
  go_wp2_with fail
  refine (bytes_any B _ 12 _ hR1 (by omega)).mono ?_
  rintro e w2 ⟨s, rfl, hs, hR2, hg2⟩
  have hb2 := hb1.trans (grown_below hg2 hR1.1 hR1.2.1)
  have hgl := hR1.lt
  clear hg1 hg2 hb1 hR1
  go_wp2_with fail
  refine (hexOf_spec s _ (by omega)).mono ?_
  rintro e w3 ⟨rfl, hb3⟩
  have hR3 : Rd B w3 w.heap.size := hR2.kept (r := none) ⟨hb3.os, hb3.tape, hb3.output, hb3.size, fun k hk _ => hb3.block k hk⟩ (by simp) (by simp)
  have hb4 := hb2.trans (hb3.mono hR2.2.1)
  clear hb2 hb3 hR2
  have hsz : (str (hexL s.data.toList)).size ≤ 24 := by rw [str_size, hexL_length, len_data]; omega
  generalize str (hexL s.data.toList) = t at *
  go_wp2_with fail
  refine (once_any B _ _ _ hR3 (by omega) (by omega)).mono ?_
  rintro e w4 ⟨b, rfl, hR4, hg4⟩
  have hb5 := hb4.trans (grown_below hg4 hR3.1 hR3.2.1)
  clear hb4 hg4 hR3
  cases b with
  | false =>
    go_wp2
    go_ret
    exact ⟨t, rfl, by omega, hb5⟩
  | true =>
    go_wp2_with fail
    refine (hurt_any B _ t _ hR4 (by omega)).mono ?_
    rintro e w5 ⟨u, rfl, hu, hR5, hg5⟩
    go_wp2
    go_ret
    exact ⟨u, rfl, by omega, hb5.trans (grown_below hg5 hR4.1 hR4.2.1)⟩

end Go.Proofs.Ytobjbnefikdlnaa

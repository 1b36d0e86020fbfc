/- The contract of the reader's 'field': a text of 40 bytes at most. -/
import Derived.Test.YtfbcmckepdjdkaaDoorGM1
import Derived.Test.YtfbcmckepdjdkaaDoorGLim7
import Derived.Deep.OwnRows
import Derived.Lib.ConvBytes
namespace Go.Proofs.YtfbcmckepdjdkaaDoor
open Go.RowKit Go.My Go.Lib
set_option linter.unusedVariables false

theorem info_u8y : (Tryd.prog.info? 5).map (fun i => (i.zero, i.size, i.bytes)) = some (some (.int .u8 0), 1, 1) := by kernel_rfl
/-- 'string(make([]byte, n))', the two apart: the row that was made reads as noughts in every world that keeps its block. -/
theorem conv_madeF (W w' : World) (n : Nat) (hn : n ≤ 1048576) (h : w'.heap[W.heap.size]? = some (.cells (madeCells #[.int .u8 0] n) 5 (0, 0))) :
    (convert 39 9 (.slice (some ⟨W.heap.size, 0, none⟩) n n)).run Tryd.prog w' = .ok (.string (str (List.replicate n 0))) w' := by
  refine run_convert_own (P := Tryd.prog) w' 39 9 5 W.heap.size n _ _ Tryd.underlying39 Tryd.underlying5 Tryd.underlying9 ?_
  have hs : (madeCells #[Value.int .u8 0] n).size = n := by rw [← Array.length_toList, toList_madeCells_one, List.length_replicate]
  refine ⟨by rw [cellsOf_length, List.length_replicate]; omega, .inr ⟨W.heap.size, n, _, rfl, Nat.le_refl _, h, Nat.le_refl _, by unfold maxLen; omega, by rw [hs]; omega, ?_⟩⟩
  rw [toList_madeCells_one, ← fill_start]
  exact List.take_of_length_le (by rw [List.length_replicate]; omega)

theorem Rd.belowK {B g : Nat} {w w' : World} (h : Rd B w g) (hb : Below w.heap.size w w') : Rd B w' g := h.kept (r := none) ⟨hb.os, hb.tape, hb.output, hb.size, fun k hk _ => hb.block k hk⟩ (by simp) (by simp)
theorem grown_bel {w0 w w' : World} {r : Option Nat} (h : w0.grownBy w r) (hb : Below w.heap.size w w') : w0.grownBy w' r := grown_trans h ⟨hb.os, hb.tape, hb.output, hb.size, fun k hk _ => hb.block k hk⟩
theorem ext32 (s Z : ByteArray) (h : Z.size = 32) : ((s ++ Z).extract 0 32).size = 32 := by rw [ByteArray.size_extract, ByteArray.size_append, h]; omega
theorem dmid (n q : Nat) (hq : q < 10) : -7205759403792793600 ≤ digZ n q ∧ digZ n q ≤ 7205759403792793600 := by have := digZ_mid n q hq; omega

/-- Block G is a row of bytes, 32 at least, that may be written. -/
def SB (w : World) (G : Nat) : Prop := ∃ (cs : Array Value) (fr : Nat × Nat) (l : List UInt8), w.heap[G]? = some (.cells cs 5 fr) ∧ 32 ≤ fr.1 ∧ l.length = 32 ∧ ∀ j (hj : j < l.length), cs[j]? = some (.int .u8 (l[j].toNat : Int))
theorem SB.ofBytes (w : World) (X : ByteArray) (h : X.size = 32) : SB (Lib.bytesWorld w 5 X) w.heap.size := by
  have hl := len_data X
  refine ⟨_, _, X.data.toList, Lib.bytesWorld_at_new w _ X, ?_, by omega, ?_⟩
  · have : X.data.size = 32 := by rw [← Array.length_toList]; omega
    simp [Lib.bytesCells]
    omega
  · intro j hj
    have : X.data.size = 32 := by rw [← Array.length_toList]; omega
    have hj2 : j < X.data.size := by rw [← Array.length_toList]; exact hj
    unfold Lib.bytesCells
    rw [Array.getElem?_append_left (by simpa using hj2)]
    simp
    exact ⟨X.data[j], by simp, rfl⟩
theorem SB.at {w : World} {G : Nat} (h : SB w G) (j : Nat) (hj : j < 32) : ∃ n : Int, w.cell? ⟨G, j, none⟩ = some (.int .u8 n) ∧ w.frozen? ⟨G, j, none⟩ = false := by
  obtain ⟨cs, fr, l, hh, hf, hl, hc⟩ := h
  refine ⟨_, by simp only [World.cell?, hh]; exact hc j (by omega), ?_⟩
  obtain ⟨lo, hi⟩ := fr
  simp only [World.frozen?, hh]
  simp
  intro c
  simp at hf
  omega
theorem SB.kept {w w' : World} {G : Nat} {r : Option Nat} (h : SB w G) (hg : w.grownBy w' r) (hr : r ≠ some G) : SB w' G := by
  obtain ⟨cs, fr, l, hh, h2⟩ := h
  exact ⟨cs, fr, l, by rw [hg.block G (Array.getElem?_eq_some_iff.1 hh).1 (fun c => hr c.symm)]; exact hh, h2⟩
theorem SB.lt {w : World} {G : Nat} (h : SB w G) : G < w.heap.size := by obtain ⟨cs, fr, l, hh, h2⟩ := h; exact (Array.getElem?_eq_some_iff.1 hh).1
theorem SB.conv {w : World} {G : Nat} (h : SB w G) (cap : Nat) : ∃ t : ByteArray, (convert 39 9 (.slice (some ⟨G, 0, none⟩) 32 cap)).run Tryd.prog w = .ok (.string t) w ∧ t.size ≤ 40 := by
  obtain ⟨cs, fr, l, hh, hf, hl, hc⟩ := h
  refine ⟨str l, ?_, by rw [str_size]; omega⟩
  have := run_convert_bytes_back (P := Tryd.prog) w 39 9 5 ⟨G, 0, none⟩ cap l Tryd.underlying39 Tryd.underlying5 Tryd.underlying9 (fun j hj => by rw [Addr.add_lit]; simp only [World.cell?, hh]; simpa using hc j hj)
  rw [hl] at this
  exact this
theorem SB.set {w : World} {G : Nat} (h : SB w G) (j : Nat) (n : Int) (h0 : 0 ≤ n) (h1 : n < 256) : SB (w.setCell ⟨G, j, none⟩ (.int .u8 n)) G := by
  obtain ⟨cs, ⟨lo, hi⟩, l, hh, hf, hl, hc⟩ := h
  refine ⟨cs.setIfInBounds j (.int .u8 n), (lo, hi), l.set j (UInt8.ofNat n.toNat), ?_, hf, by rw [List.length_set]; exact hl, ?_⟩
  · have hlt := (Array.getElem?_eq_some_iff.1 hh).1
    simp [World.setCell, Array.getElem?_modify, hh]
  · intro k hk
    rw [List.length_set] at hk
    rw [Array.getElem?_setIfInBounds, List.getElem_set]
    by_cases hjk : j = k
    · subst hjk
      have hs : j < cs.size := (Array.getElem?_eq_some_iff.1 (hc j hk)).1
      simp [hs]
      omega
    · simp [hjk]
      simpa using hc k hk
theorem grown_setCell {w wr : World} {r : Option Nat} (h : w.grownBy wr r) (G j : Nat) (v : Value) (hG : w.heap.size ≤ G) : w.grownBy (wr.setCell ⟨G, j, none⟩ v) r :=
  ⟨h.os, h.tape, h.output, by simpa [World.setCell] using h.size, fun k hk hne => (Below.heap_setCell _ _ _ _ (by intro c; simp at c; omega)).trans (h.block k hk hne)⟩
theorem Rd.setOther {B g : Nat} {w : World} (h : Rd B w g) (G j : Nat) (v : Value) (hG : B ≤ G) (hne : G ≠ g) : Rd B (w.setCell ⟨G, j, none⟩ v) g :=
  h.kept (r := some G) ⟨rfl, rfl, rfl, by simp [World.setCell], fun k hk hne => Below.heap_setCell _ _ _ _ (fun c => hne (by rw [c]))⟩ (by simpa using hne) (by intro k hk; have := Option.some.inj hk; omega)

theorem conv_sb (w : World) (X : ByteArray) (h : X.size = 32) : ∃ (G cap : Nat) (w7 : World), (convert 9 39 (.string X)).run Tryd.prog w = .ok (.slice (some ⟨G, 0, none⟩) 32 cap) w7 ∧ SB w7 G ∧ w.heap.size ≤ G ∧ w.grownBy w7 none := by
  have e := Lib.run_convert_string_bytes (P := Tryd.prog) w 9 39 5 X Tryd.underlying9 Tryd.underlying39 Tryd.underlying5
  rw [h] at e
  refine ⟨_, _, _, e, SB.ofBytes w X h, Nat.le_refl _, ?_⟩
  refine ⟨?_, ?_, ?_, by rw [Lib.bytesWorld_size]; omega, fun k hk _ => Lib.bytesWorld_at_old w _ X k hk⟩
  all_goals (unfold Lib.bytesWorld World.freeze; split <;> rfl)
theorem write_ex (h : Nat → Int) (w : World) (hM : ∀ q, q < 10 → -7205759403792793600 ≤ h q ∧ h q ≤ 7205759403792793600) :
    Calls Tryd.prog 127 #[.agg (rwA .i64 10 h)] w fun e w' => ∃ X : ByteArray, e = .returned (.string X) ∧ X.size = 32 ∧ Below w.heap.size w w' :=
  (write_any h w hM).mono (by rintro e w' ⟨rfl, hb⟩; exact ⟨_, rfl, by rw [str_size, leB_len], hb⟩)

end Go.Proofs.YtfbcmckepdjdkaaDoor

/- The contract of the reader's 'field': a text of 40 bytes at most. -/
import Derived.Test.YtcaepcfgeelojaaDoorKey
import Derived.Test.YtcaepcfgeelojaaDoorLim7
import Derived.Deep.OwnRows
import Derived.Lib.ConvBytes
namespace Go.Proofs.YtcaepcfgeelojaaDoor
open Go.RowKit Go.My Go.Lib
set_option linter.unusedVariables false

theorem info_u8y : (Tryd.prog.info? 5).map (fun i => (i.zero, i.size, i.bytes)) = some (some (.int .u8 0), 1, 1) := by kernel_rfl
/-- 'string(make([]byte, n))', the two apart: the row that was made reads as noughts in every world that keeps its block. -/
theorem conv_madeF (W w' : World) (n : Nat) (hn : n ≤ 1048576) (h : w'.heap[W.heap.size]? = some (.cells (madeCells #[.int .u8 0] n) 5 (0, 0))) :
    (convert 22 9 (.slice (some ⟨W.heap.size, 0, none⟩) n n)).run Tryd.prog w' = .ok (.string (str (List.replicate n 0))) w' := by
  refine run_convert_own (P := Tryd.prog) w' 22 9 5 W.heap.size n _ _ Tryd.underlying22 Tryd.underlying5 Tryd.underlying9 ?_
  have hs : (madeCells #[Value.int .u8 0] n).size = n := by rw [← Array.length_toList, toList_madeCells_one, List.length_replicate]
  refine ⟨by rw [cellsOf_length, List.length_replicate]; omega, .inr ⟨W.heap.size, n, _, rfl, Nat.le_refl _, h, Nat.le_refl _, by unfold maxLen; omega, by rw [hs]; omega, ?_⟩⟩
  rw [toList_madeCells_one, ← fill_start]
  exact List.take_of_length_le (by rw [List.length_replicate]; omega)

theorem Rd.belowK {B g : Nat} {w w' : World} (h : Rd B w g) (hb : Below w.heap.size w w') : Rd B w' g := h.kept (r := none) ⟨hb.os, hb.tape, hb.output, hb.size, fun k hk _ => hb.block k hk⟩ (by simp) (by simp)
theorem grown_bel {w0 w w' : World} {r : Option Nat} (h : w0.grownBy w r) (hb : Below w.heap.size w w') : w0.grownBy w' r := grown_trans h ⟨hb.os, hb.tape, hb.output, hb.size, fun k hk _ => hb.block k hk⟩
theorem ext32 (s Z : ByteArray) (h : Z.size = 32) : ((s ++ Z).extract 0 32).size = 32 := by rw [ByteArray.size_extract, ByteArray.size_append, h]; omega
theorem dmid (n q : Nat) (hq : q < 10) : -7205759403792793600 ≤ digZ n q ∧ digZ n q ≤ 7205759403792793600 := by have := digZ_mid n q hq; omega

/-- Block G is a row of bytes, 32 at least, that may be written. -/
def SB (w : World) (G : Nat) : Prop := ∃ (cs : Array Value) (fr : Nat × Nat) (l : List UInt8), w.heap[G]? = some (.cells cs 5 fr) ∧ 32 ≤ fr.1 ∧ l.length = 32 ∧ ∀ j (hj : j < l.length), cs[j]? = some (.int .u8 (l[j].toNat : Int))
theorem SB.ofBytes (w : World) (X : ByteArray) (h : X.size = 32) : SB (Lib.bytesWorld w 5 X) w.heap.size := by
  have hl := len_data X
  refine ⟨_, _, X.data.toList, Lib.bytesWorld_at_new w _ X, ?_, by omega, ?_⟩
  · have : X.data.size = 32 := by rw [← Array.length_toList]; omega
    simp [Lib.bytesCells]
    omega
  · intro j hj
    have : X.data.size = 32 := by rw [← Array.length_toList]; omega
    have hj2 : j < X.data.size := by rw [← Array.length_toList]; exact hj
    unfold Lib.bytesCells
    rw [Array.getElem?_append_left (by simpa using hj2)]
    simp
    exact ⟨X.data[j], by simp [hj2], rfl⟩
theorem SB.at {w : World} {G : Nat} (h : SB w G) (j : Nat) (hj : j < 32) : ∃ n : Int, w.cell? ⟨G, j, none⟩ = some (.int .u8 n) ∧ w.frozen? ⟨G, j, none⟩ = false := by
  obtain ⟨cs, fr, l, hh, hf, hl, hc⟩ := h
  refine ⟨_, by simp only [World.cell?, hh]; exact hc j (by omega), ?_⟩
  obtain ⟨lo, hi⟩ := fr
  simp only [World.frozen?, hh]
  simp
  intro c
  simp at hf
  omega
theorem SB.kept {w w' : World} {G : Nat} {r : Option Nat} (h : SB w G) (hg : w.grownBy w' r) (hr : r ≠ some G) : SB w' G := by
  obtain ⟨cs, fr, l, hh, h2⟩ := h
  exact ⟨cs, fr, l, by rw [hg.block G (Array.getElem?_eq_some_iff.1 hh).1 (fun c => hr c.symm)]; exact hh, h2⟩
theorem SB.lt {w : World} {G : Nat} (h : SB w G) : G < w.heap.size := by obtain ⟨cs, fr, l, hh, h2⟩ := h; exact (Array.getElem?_eq_some_iff.1 hh).1
theorem SB.conv {w : World} {G : Nat} (h : SB w G) (cap : Nat) : ∃ t : ByteArray, (convert 22 9 (.slice (some ⟨G, 0, none⟩) 32 cap)).run Tryd.prog w = .ok (.string t) w ∧ t.size ≤ 40 := by
  obtain ⟨cs, fr, l, hh, hf, hl, hc⟩ := h
  refine ⟨str l, ?_, by rw [str_size]; omega⟩
  have := run_convert_bytes_back (P := Tryd.prog) w 22 9 5 ⟨G, 0, none⟩ cap l Tryd.underlying22 Tryd.underlying5 Tryd.underlying9 (fun j hj => by rw [Addr.add_lit]; simp only [World.cell?, hh]; simpa using hc j hj)
  rw [hl] at this
  exact this
theorem SB.set {w : World} {G : Nat} (h : SB w G) (j : Nat) (n : Int) (h0 : 0 ≤ n) (h1 : n < 256) : SB (w.setCell ⟨G, j, none⟩ (.int .u8 n)) G := by
  obtain ⟨cs, ⟨lo, hi⟩, l, hh, hf, hl, hc⟩ := h
  refine ⟨cs.setIfInBounds j (.int .u8 n), (lo, hi), l.set j (UInt8.ofNat n.toNat), ?_, hf, by rw [List.length_set]; exact hl, ?_⟩
  · have hlt := (Array.getElem?_eq_some_iff.1 hh).1
    simp [World.setCell, Array.getElem?_modify, hh]
  · intro k hk
    rw [List.length_set] at hk
    rw [Array.getElem?_setIfInBounds, List.getElem_set]
    by_cases hjk : j = k
    · subst hjk
      have hs : j < cs.size := (Array.getElem?_eq_some_iff.1 (hc j hk)).1
      simp [hs]
      omega
    · simp [hjk]
      simpa using hc k hk
theorem grown_setCell {w wr : World} {r : Option Nat} (h : w.grownBy wr r) (G j : Nat) (v : Value) (hG : w.heap.size ≤ G) : w.grownBy (wr.setCell ⟨G, j, none⟩ v) r :=
  ⟨h.os, h.tape, h.output, by simpa [World.setCell] using h.size, fun k hk hne => (Below.heap_setCell _ _ _ _ (by intro c; simp at c; omega)).trans (h.block k hk hne)⟩
theorem Rd.setOther {B g : Nat} {w : World} (h : Rd B w g) (G j : Nat) (v : Value) (hG : B ≤ G) (hne : G ≠ g) : Rd B (w.setCell ⟨G, j, none⟩ v) g :=
  h.kept (r := some G) ⟨rfl, rfl, rfl, by simp [World.setCell], fun k hk hne => Below.heap_setCell _ _ _ _ (fun c => hne (by rw [c]))⟩ (by simpa using hne) (by intro k hk; have := Option.some.inj hk; omega)

theorem conv_sb (w : World) (X : ByteArray) (h : X.size = 32) : ∃ (G cap : Nat) (w7 : World), (convert 9 22 (.string X)).run Tryd.prog w = .ok (.slice (some ⟨G, 0, none⟩) 32 cap) w7 ∧ SB w7 G ∧ w.heap.size ≤ G ∧ w.grownBy w7 none := by
  have e := Lib.run_convert_string_bytes (P := Tryd.prog) w 9 22 5 X Tryd.underlying9 Tryd.underlying22 Tryd.underlying5
  rw [h] at e
  refine ⟨_, _, _, e, SB.ofBytes w X h, Nat.le_refl _, ?_⟩
  refine ⟨?_, ?_, ?_, by rw [Lib.bytesWorld_size]; omega, fun k hk _ => Lib.bytesWorld_at_old w _ X k hk⟩
  all_goals (unfold Lib.bytesWorld World.freeze; split <;> rfl)
theorem write_ex (h : Nat → Int) (w : World) (hM : ∀ q, q < 10 → -7205759403792793600 ≤ h q ∧ h q ≤ 7205759403792793600) :
    Calls Tryd.prog 32 #[.agg (rwA .i64 10 h)] w fun e w' => ∃ X : ByteArray, e = .returned (.string X) ∧ X.size = 32 ∧ Below w.heap.size w w' :=
  (write_any h w hM).mono (by rintro e w' ⟨rfl, hb⟩; exact ⟨_, rfl, by rw [str_size, leB_len], hb⟩)

set_option maxHeartbeats 2000000 in
theorem field_any (B g : Nat) (w : World) (h : Rd B w g) : Calls Tryd.prog 46 #[.pointer (some ⟨g, 0, none⟩)] w (DrawnStr 40 B g w) := by
  obtain ⟨i0, hi, hz0, hz1, hz2⟩ := info_parts info_u8r
  obtain ⟨Z, hZe, hZ⟩ : ∃ Z : ByteArray, Z = str (List.replicate 32 0) ∧ Z.size = 32 := ⟨_, rfl, by rw [str_size, List.length_replicate]⟩
  have hlt := h.lt
  have hmk := fun W => Go.run_make_row' (P := Tryd.prog) 22 5 (.int .u8 0) 1 Tryd.underlying22 info_u8y rfl .i64 .i64 32 (by omega) (by omega) W
  simp only [show ((32 : Nat) : Int) = 32 from rfl] at hmk
  have hcvK : ∀ (W w' : World) (h : w'.heap[W.heap.size]? = some (.cells (madeCells #[.int .u8 0] 32) 5 (0, 0))), (convert 22 9 (.slice (some ⟨W.heap.size, 0, none⟩) 32 32)).run Tryd.prog w' = .ok (.string Z) w' := fun W w' h => by rw [hZe]; exact conv_madeF W w' 32 (by omega) h
  have hcv0 := fun W => hcvK W (W.alloc (.cells (madeCells #[.int .u8 0] 32) 5)) (heap_alloc_new W _)
  have hcvd := hcvK w (w.alloc (.cells (madeCells #[.int .u8 0] 32) 5)).drew (heap_alloc_new w _)
  have HCV := Lib.hid hcvK
  have hZ' : (Z.size : Int) = 32 := by omega
  have HZ := Lib.hid hZ
  clear hcvK hZe hZ
  have C1 := Lib.hid (fun o => key_any B g (w.alloc o).drew (h.alloc o).drew)
  have C2 := Lib.hid (key_any B g w.drew h.drew)
  go_enter Tryd.func46, Tryd.ntmps46
  go_wp2_with fail
  go_region_with (first
    | (go_at_call 39; (refine (C1.out _).mono ?_; rintro e w3 ⟨s, rfl, hs, hR3, hg3⟩; have hcv1 := HCV.out w w3 ((hg3.block w.heap.size (by simp) (by simp; omega)).trans (heap_alloc_new w _)); have hs' : (s.size : Int) ≤ 40 := (by omega); have hss : ¬ 9223372036854775807 < s.size + Z.size := (by have := HZ.out; omega); have R := grown_trans (grown_drew (World.grownBy_alloc w _ _)) hg3; clear hg3 hs))
    | (go_at_call 39; (refine C2.out.mono ?_; rintro e w3 ⟨s, rfl, hs, hR3, hg3⟩; have hs' : (s.size : Int) ≤ 40 := (by omega); have hss : ¬ 9223372036854775807 < s.size + Z.size := (by have := HZ.out; omega); have R := drew_grown hg3; clear hg3 hs))
    | (go_at_call 34; (refine (read_any _ _ (ext32 _ _ HZ.out)).mono ?_; rintro e w5 ⟨rfl, hb5⟩; first | (have hR5 := Rd.belowK hR3 hb5; have R5 := grown_bel R hb5) | (have hR5 := Rd.belowK (hR3.alloc _) hb5; have R5 := grown_bel (grown_trans R (World.grownBy_alloc w3 _ _)) hb5)))
    | (go_at_call 32; (refine (write_ex (digZ _) _ (dmid _)).mono ?_; rintro e w6 ⟨X, rfl, hX, hb6⟩; have hR6 := Rd.belowK hR5 hb6; have R6 := grown_bel R5 hb6; obtain ⟨G, cap, w7, hcx, hSB, hG, hg7⟩ := conv_sb w6 X hX; have hR7 := hR6.kept hg7 (by simp) (by simp); have R7 := grown_trans R6 (show w6.grownBy w7 (some g) from ⟨hg7.os, hg7.tape, hg7.output, hg7.size, fun k hk _ => hg7.block k hk (by simp)⟩); have hgG : g < G := Nat.lt_of_lt_of_le hR6.lt hG; have hwG : w.heap.size ≤ G := Nat.le_trans R6.size hG; clear hb6 hb5 hg7 hR6 R6 R5 hR5 hX hG)))
  all_goals
    have HB := Lib.hid (And.intro hgG hwG)
    have HBG := Lib.hid (show B ≤ G from Nat.le_trans h.1 (Nat.le_of_lt hgG))
    clear hgG hwG R hR3 hs' hss
    go_wp2_with fail
    refine (below_any B g 12 _ hR7 (by omega) (by omega)).mono ?_
    rintro e w8 ⟨x, rfl, hx0, hx1, hR8, hg8⟩
    have hSB8 := hSB.kept hg8 (by have := HB.out.1; simp; omega)
    have R8 := grown_trans R7 hg8
    clear R7 hg8 hSB hR7
    by_cases h0 : x = 0
    · subst h0
      go_wp2
      go_loopw [4] (fun i wr => ∃ k : Nat, k ≤ 32 ∧ i = .int .i64 k ∧ SB wr G ∧ Rd B wr g ∧ w.grownBy wr (some g)) (fun i _ => 32 - (intOf i).toNat)
      case atStart => exact ⟨0, by omega, rfl, hSB8, hR8, R8⟩
      case round =>
      clear hSB8 hR8 R8
      obtain ⟨k, hk, rfl, hS, hR, hgr⟩ := hrel
      by_cases hlt : k < 32
      · have hk0 : (k : Int) < 32 := by omega
        obtain ⟨n, hc, hf⟩ := hS.at k hlt
        have S2 := Lib.hid (hS.set k 255 (by omega) (by omega))
        have R2 := Lib.hid (hR.setOther G k (.int .u8 255) HBG.out (by have := HB.out.1; omega))
        have G2 := Lib.hid (grown_setCell hgr G k (.int .u8 255) HB.out.2)
        clear hS hR hgr
        go_wp2
        go_roundw
        case rel => exact ⟨k + 1, by omega, by go_num, S2.out, R2.out, G2.out⟩
        case measure => simp [intOf]; omega
      · obtain rfl : k = 32 := by omega
        obtain ⟨n, hc, hf⟩ := hS.at 31 (by omega)
        have S2 := Lib.hid (hS.set 31 127 (by omega) (by omega))
        have R2 := Lib.hid (hR.setOther G 31 (.int .u8 127) HBG.out (by have := HB.out.1; omega))
        have G2 := Lib.hid (grown_setCell hgr G 31 (.int .u8 127) HB.out.2)
        clear hS hR hgr hk hlt
        go_wp2_with fail
        refine (below_any B g 10 _ R2.out (by omega) (by omega)).mono ?_
        rintro e w9 ⟨y, rfl, hy0, hy1, hR9, hg9⟩
        have hS9 := S2.out.kept hg9 (by have := HB.out.1; simp; omega)
        have R9 := grown_trans G2.out hg9
        clear hc hf hg9 S2 R2 G2
        obtain ⟨n0, hc0, hf0⟩ := hS9.at 0 (by omega)
        have S3 := hS9.set 0 (230 + y) (by omega) (by omega)
        have R3 := Lib.hid (hR9.setOther G 0 (.int .u8 (230 + y)) HBG.out (by have := HB.out.1; omega))
        have G3 := Lib.hid (grown_setCell R9 G 0 (.int .u8 (230 + y)) HB.out.2)
        obtain ⟨t, hcv, ht⟩ := S3.conv cap
        clear hS9 R9 hR9 S3
        go_wp2
        go_ret
        exact ⟨t, rfl, ht, R3.out, G3.out⟩
    by_cases h1 : x = 1
    · subst h1
      go_wp2
      go_ret
      exact ⟨Z, rfl, by have := HZ.out; omega, hR8.alloc _, grown_trans R8 (World.grownBy_alloc w8 _ _)⟩
    have e0 : (x == 0) = false := by simpa using h0
    have e1 : (x == 1) = false := by simpa using h1
    by_cases h2 : x = 2
    · subst h2
      go_wp2_with fail
      refine (key_any B g _ hR8).mono ?_
      rintro e w9 ⟨u, rfl, hu, hR9, hg9⟩
      go_wp2
      go_ret
      exact ⟨u, rfl, hu, hR9, grown_trans R8 hg9⟩
    have e2 : (x == 2) = false := by simpa using h2
    obtain ⟨t, hcv, ht⟩ := hSB8.conv cap
    clear h0 h1 h2 hSB8
    go_wp2
    go_ret
    exact ⟨t, rfl, ht, hR8, R8⟩

end Go.Proofs.YtcaepcfgeelojaaDoor

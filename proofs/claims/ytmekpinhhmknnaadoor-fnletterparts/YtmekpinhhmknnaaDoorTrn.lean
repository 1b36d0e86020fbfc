/- A text with a byte changed: as long as it was. -/
import Derived.Test.YtmekpinhhmknnaaDoorPlc
import Derived.Test.YtmekpinhhmknnaaDoorMath1
import Derived.Test.YtmekpinhhmknnaaDoorRowA
import Derived.Lib.ConvBytes
import Derived.Deep.RegionHeld3
import Derived.Deep.Cut
namespace Go.Proofs.YtmekpinhhmknnaaDoor
open Go.RowKit Go.My Go.Lib
set_option linter.unusedVariables false

/-- Block G is a row that begins with these bytes, which may be written. -/
def SBn (w : World) (G : Nat) (l : List UInt8) : Prop := ∃ (cs : Array Value) (fr : Nat × Nat), w.heap[G]? = some (.cells cs 5 fr) ∧ l.length ≤ fr.1 ∧ ∀ j (hj : j < l.length), cs[j]? = some (.int .u8 (l[j].toNat : Int))
theorem SBn.ofBytes (w : World) (X : ByteArray) : SBn (Lib.bytesWorld w 5 X) w.heap.size X.data.toList := by
  refine ⟨_, _, Lib.bytesWorld_at_new w _ X, ?_, ?_⟩
  · simp [Lib.bytesCells]
  · intro j hj
    have hj2 : j < X.data.size := by rw [← Array.length_toList]; exact hj
    unfold Lib.bytesCells
    rw [Array.getElem?_append_left (by simpa using hj2)]
    simp
    exact ⟨X.data[j], by simp, rfl⟩
theorem SBn.cell {w : World} {G : Nat} {l : List UInt8} (h : SBn w G l) (j : Nat) (hj : j < l.length) : w.cell? ⟨G, j, none⟩ = some (.int .u8 (l[j].toNat : Int)) := by
  obtain ⟨cs, fr, hh, hf, hc⟩ := h
  simp only [World.cell?, hh]
  exact hc j hj
theorem SBn.froz {w : World} {G : Nat} {l : List UInt8} (h : SBn w G l) (j : Nat) (hj : j < l.length) : w.frozen? ⟨G, j, none⟩ = false := by
  obtain ⟨cs, ⟨lo, hi⟩, hh, hf, hc⟩ := h
  simp only [World.frozen?, hh]
  simp
  intro c
  simp at hf
  omega
theorem SBn.below {w w' : World} {G : Nat} {l : List UInt8} (h : SBn w G l) (hb : Below w.heap.size w w') : SBn w' G l := by
  obtain ⟨cs, fr, hh, hf, hc⟩ := h
  exact ⟨cs, fr, (hb.block G (Array.getElem?_eq_some_iff.1 hh).1).trans hh, hf, hc⟩
theorem SBn.drew {w : World} {G : Nat} {l : List UInt8} (h : SBn w G l) : SBn w.drew G l := h
theorem SBn.set {w : World} {G : Nat} {l : List UInt8} (h : SBn w G l) (j : Nat) (c : UInt8) : SBn (w.setCell ⟨G, j, none⟩ (.int .u8 (c.toNat : Int))) G (l.set j c) := by
  obtain ⟨cs, ⟨lo, hi⟩, hh, hf, hc⟩ := h
  refine ⟨cs.setIfInBounds j (.int .u8 (c.toNat : Int)), (lo, hi), ?_, by rw [List.length_set]; exact hf, ?_⟩
  · have hlt := (Array.getElem?_eq_some_iff.1 hh).1
    simp [World.setCell, Array.getElem?_modify, hh]
  · intro k hk
    rw [List.length_set] at hk
    rw [Array.getElem?_setIfInBounds, List.getElem_set]
    by_cases hjk : j = k
    · subst hjk
      have hs : j < cs.size := (Array.getElem?_eq_some_iff.1 (hc j hk)).1
      simp [hs]
    · simp [hjk]
      simpa using hc k hk
theorem SBn.conv {w : World} {G n : Nat} {l : List UInt8} (h : SBn w G l) (hn : l.length = n) (cap : Nat) : (convert 51 9 (.slice (some ⟨G, 0, none⟩) n cap)).run Tryd.prog w = .ok (.string (str l)) w := by
  subst hn
  obtain ⟨cs, fr, hh, hf, hc⟩ := h
  exact run_convert_bytes_back (P := Tryd.prog) w 51 9 5 ⟨G, 0, none⟩ cap l Tryd.underlying51 Tryd.underlying5 Tryd.underlying9 (fun j hj => by rw [Addr.add_lit]; simp only [World.cell?, hh]; simpa using hc j hj)
theorem conv_sbn (w : World) (X : ByteArray) : ∃ (G cap : Nat) (w7 : World), (convert 9 51 (.string X)).run Tryd.prog w = .ok (.slice (some ⟨G, 0, none⟩) X.size cap) w7 ∧ SBn w7 G X.data.toList ∧ w.heap.size ≤ G ∧ Below w.heap.size w w7 := by
  have e := Lib.run_convert_string_bytes (P := Tryd.prog) w 9 51 5 X Tryd.underlying9 Tryd.underlying51 Tryd.underlying5
  refine ⟨_, _, _, e, SBn.ofBytes w X, Nat.le_refl _, ?_⟩
  refine ⟨?_, ?_, ?_, by rw [Lib.bytesWorld_size]; omega, fun k hk => Lib.bytesWorld_at_old w _ X k hk⟩
  all_goals (unfold Lib.bytesWorld World.freeze; split <;> rfl)

theorem u8_of (n : Int) (h0 : 0 ≤ n) : ∃ c : UInt8, IntKind.u8.wrap (IntKind.i64.wrap (1 + n.tmod 255)) = (c.toNat : Int) := by
  refine ⟨UInt8.ofNat (1 + n % 255).toNat, ?_⟩
  have h1 : 0 ≤ n % 255 := Int.emod_nonneg _ (by omega)
  have h2 : n % 255 < 255 := Int.emod_lt_of_pos _ (by omega)
  rw [Int.tmod_eq_emod_of_nonneg h0, UInt8.toNat_ofNat']
  simp [IntKind.wrap, IntKind.signed, IntKind.bits]
  omega

set_option maxRecDepth 20000 in
set_option maxHeartbeats 2000000 in
theorem turned_any (B : Nat) (s : ByteArray) (m : Nat) (a : Option Addr) (len cap : Nat) (w : World) (h : RdCode B w a len) (hB : B ≤ w.heap.size) (hm : m < s.size) (hs : s.size ≤ 1048576) :
    Calls Tryd.prog 23 #[.string s, .int .i64 (m : Int), .slice a len cap] w fun e w' => (∃ X : ByteArray, e = .returned (.string X) ∧ X.size = s.size) ∧ Below w.heap.size w w' := by
  obtain ⟨G, cp, w7, hcv, hS, hG, hb7⟩ := conv_sbn w s
  have hl : s.data.toList.length = s.size := by rw [Array.length_toList]; rfl
  have hm' : m < s.data.toList.length := by omega
  have m0 : (0 : Int) ≤ (m : Int) := by omega
  have m1 : (m : Int) < (s.size : Int) := by omega
  have ms : (s.size : Int) ≤ 1048576 := by omega
  have HBO := Lib.hid (fun W (hW : Below w.heap.size w W) => byteOf_any B 3 a len cap W (h.below (hW.mono hB)) (by omega))
  have HB7 := Lib.hid hb7
  have HS := Lib.hid hS
  have HG := Lib.hid hG
  have k0 := hS.cell m hm'
  obtain ⟨x, hx⟩ : ∃ x, s.data.toList[m] = x := ⟨_, rfl⟩
  rw [hx] at k0
  have hBx : Below w.heap.size w w7 := hb7
  have hSx := hS
  clear h hB hb7 hS hG hx
  go_enter Tryd.func23, Tryd.ntmps23
  go_upto_region 2 with (fail)
  have f0 := HS.out.froz m hm'
  clear hm'
  go_region_with (go_at_call 49; refine (HBO.out _ (by first | exact hBx | exact hBx.drew)).mono ?_; rintro e wz ⟨⟨n, rfl, hn0, hn1⟩, hbz⟩; obtain ⟨c, hc⟩ := u8_of n hn0; have hxr := xor_u8 x c; generalize x ^^^ c = y at hxr; have hSx := (by first | exact hSx.below hbz | exact hSx.drew.below hbz); have k0 := (hbz.cell (p := ⟨G, m, none⟩) (World.block_lt_of_cell? _ _ k0)).trans k0; have f0 := hSx.froz m (by omega); have hBx := below_nx hbz (by first | exact hBx | exact hBx.drew) (by exact hBx.size))
  all_goals
    have hcv2 := SBn.conv (n := s.size) (hSx.set m y) (by rw [List.length_set]; exact hl) cp
    have hBz := hBx.setCell (p := ⟨G, m, none⟩) HG.out (.int .u8 (y.toNat : Int))
    go_wp2
    go_ret
    refine ⟨⟨_, rfl, ?_⟩, hBz⟩
    show (str _).data.size = _
    simp [str, hl]

end Go.Proofs.YtmekpinhhmknnaaDoor

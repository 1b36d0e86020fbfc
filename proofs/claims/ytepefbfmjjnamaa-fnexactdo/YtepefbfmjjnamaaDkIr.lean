/- ReadFile, of the program and of the specification. -/
import Derived.Test.YtepefbfmjjnamaaDkIk
import Derived.Test.YtepefbfmjjnamaaDkR
namespace Go.Proofs.Ytepefbfmjjnamaa
open Go.RowKit Go.My Go.Lib
set_option linter.unusedVariables false

def rdS (d : DiskT) (n : ByteArray) : ByteArray := if diskB d then dataOf d.live n else ByteArray.mk #[]
def rdB (d : DiskT) (n : ByteArray) : Bool := diskB d && (idxL d.live n).isSome
theorem diskB_live {d : DiskT} (h : diskB d = true) : filesB d.live = true := by
  unfold diskB at h
  simp only [Bool.and_eq_true] at h
  exact h.1.1.1

set_option maxRecDepth 20000 in
set_option maxHeartbeats 2000000 in
theorem readFile_i (v1 v2 v3 : Value) (d : DiskT) (n : ByteArray) (w : World) (h : DiskAt 0 v1 v2 v3 d w) (hd : d.fit) :
    Calls Try.prog 25 #[.agg #[v1, v2, v3], .string n] w fun e w' => e = .returned (.tuple #[.string (rdS d n), .bool (rdB d n)]) ∧ Below w.heap.size w w' := by
  have C := Lib.hid (fun W (hW : Below w.heap.size w W) => driveOf_i v1 v2 v3 d W (h.below hW) hd)
  obtain ⟨p1, m1, rfl, _, _, _⟩ := h.live.open
  obtain ⟨p2, m2, rfl, _, _, _⟩ := h.safe.open
  obtain ⟨p3, m3, rfl, _, _, _⟩ := h.ops.open
  have HD := Lib.hid hd
  clear h hd
  go_enter Try.func25, Try.ntmps25
  go_wp2_with fail
  refine (C.out _ ?_).mono ?_
  · exact (Below.refl _ _).alloc (Nat.le_refl _) _
  rintro e w2 ⟨a, b, c, rfl, ⟨pa, na, ca, rfl⟩, ⟨pb, nb, cb, rfl⟩, ⟨pc, nc, cc, rfl⟩, hb2, hf⟩
  have HB : Hid (Below w.heap.size w w2) := ((Below.refl w.heap.size w).alloc (Nat.le_refl _) _).trans (hb2.mono (by simp))
  clear hb2 C
  cases hk : diskB d with
  | false =>
    have HS : Hid (rdS d n = ByteArray.mk #[]) := by show _ = _; unfold rdS; rw [hk]; rfl
    have HT : Hid (rdB d n = false) := by show _ = _; unfold rdB; rw [hk]; rfl
    clear hk hf
    go_wp2
    go_ret2
    exact ⟨by rw [HS.out, HT.out]; rfl, HB.out.alloc HB.out.size _⟩
  | true =>
    have HS : Hid (rdS d n = dataOf d.live n) := by show _ = _; unfold rdS; rw [hk]; rfl
    have HT : Hid (rdB d n = (idxL d.live n).isSome) := by show _ = _; unfold rdB; rw [hk]; rfl
    have hl := sorted_of (diskB_live hk)
    have f1 := (hf hk).1
    have hBA : Below w2.heap.size w2 (w2.alloc (.cells #[.slice pa na ca, .slice pb nb cb, .slice pc nc cc] 79)) := (Below.refl _ _).alloc (Nat.le_refl _) _
    have CR := Lib.hid (fun W (hW : Below w2.heap.size w2 W) => read_i (.slice pa na ca) d.live n W (f1.below hW) HD.out.small.live hl)
    have CH := Lib.hid (fun W (hW : Below w2.heap.size w2 W) => has_i (.slice pa na ca) d.live n W (f1.below hW) HD.out.small.live hl)
    obtain ⟨R, hR⟩ : ∃ R, dataOf d.live n = R := ⟨_, rfl⟩
    obtain ⟨Q, hQ⟩ : ∃ Q, (idxL d.live n).isSome = Q := ⟨_, rfl⟩
    rw [hR] at HS CR
    rw [hQ] at HT CH
    have hx : (w2.alloc (.cells #[.slice pa na ca, .slice pb nb cb, .slice pc nc cc] 79)).heap[w2.heap.size]? = some _ := heap_alloc_new w2 _
    obtain ⟨⟨b0, _, _⟩, _⟩ := dk_cells hx
    have hBx : Below w2.heap.size w2 (w2.alloc (.cells #[.slice pa na ca, .slice pb nb cb, .slice pc nc cc] 79)) := hBA
    clear hk hf hl f1 hR hQ hx hBA
    go_wp2_with fail
    go_region_held3 (fun w' => w'.cell? ⟨w2.heap.size, 0, none⟩ = some (.slice pa na ca)) (first | exact b0) (first
      | (go_at_call 67; refine (CR.out _ (by first | exact hBx | exact hBx.drew)).mono ?_; rintro e wz ⟨rfl, hbz⟩; have b0 := (hbz.cell (p := ⟨w2.heap.size, 0, none⟩) (World.block_lt_of_cell? _ _ b0)).trans b0; have hBx := below_nx hbz (by first | exact hBx | exact hBx.drew) (by exact hBx.size))
      | (go_at_call 68; refine (CH.out _ (by first | exact hBx | exact hBx.drew)).mono ?_; rintro e wz ⟨rfl, hbz⟩; have b0 := (hbz.cell (p := ⟨w2.heap.size, 0, none⟩) (World.block_lt_of_cell? _ _ b0)).trans b0; have hBx := below_nx hbz (by first | exact hBx | exact hBx.drew) (by exact hBx.size)))
    all_goals
      go_wp2
      go_ret2
      exact ⟨by rw [HS.out, HT.out]; rfl, HB.out.trans (hBx.mono HB.out.size)⟩

set_option maxRecDepth 20000 in
set_option maxHeartbeats 2000000 in
theorem readFile_s (v1 v2 v3 : Value) (d : DiskT) (n : ByteArray) (w : World) (h : DiskAt 0 v1 v2 v3 d w) (hd : d.fit) :
    Calls Try.prog 47 #[.agg #[v1, v2, v3], .string n] w fun e w' => e = .returned (.tuple #[.string (rdS d n), .bool (rdB d n)]) ∧ Below w.heap.size w w' := by
  have C := Lib.hid (fun W (hW : Below w.heap.size w W) => disk_s v1 v2 v3 d W (h.below hW) hd)
  have CA := Lib.hid (fun W (hW : Below w.heap.size w W) => at_s v1 d.live n W (h.live.below hW) hd.small.live)
  have H := Lib.hid h
  have hlI : (d.live.length : Int) ≤ 1048576 := by have := hd.small.live; omega
  obtain ⟨p1, m1, rfl, _, _, hp1⟩ := h.live.open
  obtain ⟨p2, m2, rfl, _, _, _⟩ := h.safe.open
  obtain ⟨p3, m3, rfl, _, _, _⟩ := h.ops.open
  clear h hd
  go_enter Try.func47, Try.ntmps47
  go_wp2_with fail
  refine (C.out _ ?_).mono ?_
  · exact (Below.refl _ _).alloc (Nat.le_refl _) _
  rintro e w2 ⟨rfl, hb2⟩
  obtain ⟨hB2, x2⟩ := boxes1 w _ _ hb2
  have HB := Lib.hid hB2
  obtain ⟨⟨b0, b1, b2⟩, _⟩ := dk_cells x2
  clear hb2 C
  cases hk : diskB d with
  | false =>
    have HS : Hid (rdS d n = ByteArray.mk #[]) := by show _ = _; unfold rdS; rw [hk]; rfl
    have HT : Hid (rdB d n = false) := by show _ = _; unfold rdB; rw [hk]; rfl
    clear hk x2 hB2
    go_wp2
    go_ret2
    exact ⟨by rw [HS.out, HT.out]; rfl, HB.out⟩
  | true =>
    have HX := Lib.hid x2
    have HS : Hid (rdS d n = dataOf d.live n) := by show _ = _; unfold rdS; rw [hk]; rfl
    have HT : Hid (rdB d n = (idxL d.live n).isSome) := by show _ = _; unfold rdB; rw [hk]; rfl
    clear hk x2 hB2
    go_wp2_with fail
    refine (CA.out _ (by exact HB.out)).mono ?_
    rintro e w3 ⟨rfl, hb3⟩
    have HB3 := Lib.hid (HB.out.trans (hb3.mono HB.out.size))
    have x3 := (hb3.block _ (Array.getElem?_eq_some_iff.1 HX.out).1).trans HX.out
    obtain ⟨⟨b0, b1, b2⟩, _⟩ := dk_cells x3
    clear hb3 x3
    cases hi : idxL d.live n with
    | none =>
      have HV := Lib.hid (idxV_none hi)
      have HW := Lib.hid (dataOf_none hi)
      have HI := Lib.hid hi
      rw [HV.out]
      clear hi
      go_wp2
      go_ret2
      exact ⟨by rw [HS.out, HT.out, HW.out, HI.out]; rfl, HB3.out⟩
    | some j =>
      have hj := idx_lt hi
      have HV := Lib.hid (idxV_some hi)
      have hdo := dataOf_some hi
      obtain ⟨x, hx⟩ : ∃ x, d.live[j] = x := ⟨_, rfl⟩
      rw [hx] at hdo
      have hne : d.live ≠ [] := by intro c; rw [c] at hj; simp at hj
      obtain ⟨g, rfl, _, hg⟩ := hp1.resolve_left (fun c => hne c.1)
      have j0 : (0 : Int) ≤ (j : Int) := by omega
      have j1 : (j : Int) < (d.live.length : Int) := by omega
      have k1 : w3.cell? ⟨g, j * 2 + 1, none⟩ = some (.string x.2) := (H.out.live.below HB3.out).at fileC_len hj hx 1 (by omega) rfl
      have HDO := Lib.hid hdo
      have HI := Lib.hid hi
      rw [HV.out]
      clear hi hdo hx hne hp1 hg
      go_wp2
      go_ret2
      exact ⟨by rw [HS.out, HT.out, HDO.out, HI.out]; rfl, HB3.out⟩

end Go.Proofs.Ytepefbfmjjnamaa

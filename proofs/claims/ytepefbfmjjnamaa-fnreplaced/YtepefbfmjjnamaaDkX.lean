/- DiskOk of the specification. -/
import Derived.Test.YtepefbfmjjnamaaDkBi
import Derived.Test.YtepefbfmjjnamaaDkW
namespace Go.Proofs.Ytepefbfmjjnamaa
open Go.RowKit Go.My Go.Lib
set_option linter.unusedVariables false

/-- Texts and lists of a disk that a law takes. -/
structure DiskT.fit (d : DiskT) : Prop where
  small : d.small
  live : ∀ a ∈ d.live, a.1.size ≤ 1048576 ∧ a.2.size ≤ 1048576
  safe : ∀ a ∈ d.safe, a.1.size ≤ 1048576 ∧ a.2.size ≤ 1048576
  ops : ∀ a ∈ d.ops, (Lit.int .i64 a.1).wf = true ∧ a.2.1.size ≤ 1048576 ∧ a.2.2.1.size ≤ 1048576 ∧ a.2.2.2.size ≤ 1048576
  sums : dataSum d.live ≤ 1048576 ∧ dataSum d.safe ≤ 1048576

theorem runL_nil (l : List FileT) : runL l [] = some l := rfl
theorem runL_cons (l : List FileT) (op : DOpT) (ops : List DOpT) : runL l (op :: ops) = (match opDo l op with | none => none | some l' => if opB op && filesB l' then runL l' ops else none) := rfl
theorem runL_no {l : List FileT} {op : DOpT} {ops : List DOpT} (h : opDo l op = none) : runL l (op :: ops) = none := by rw [runL_cons, h]
theorem runL_bad {l l' : List FileT} {op : DOpT} {ops : List DOpT} (h : opDo l op = some l') (hb : (opB op && filesB l') = false) : runL l (op :: ops) = none := by rw [runL_cons, h]; simp only [hb]; rfl
theorem runL_ok {l l' : List FileT} {op : DOpT} {ops : List DOpT} (h : opDo l op = some l') (hb : (opB op && filesB l') = true) : runL l (op :: ops) = runL l' ops := by rw [runL_cons, h]; simp only [hb]; rfl

set_option maxRecDepth 20000 in
set_option maxHeartbeats 1500000 in
theorem disk_sn (v1 v2 v3 : Value) (d : DiskT) (w : World) (h : DiskIn v1 v2 v3 d w) (hf : d.fit) :
    Calls Try.prog 18 #[.agg #[v1, v2, v3]] w fun e w' => e = .returned (.bool (diskB d)) ∧ Below w.heap.size w w' := by
  have hb0 : Below w.heap.size w (w.alloc (.cells #[v1, v2, v3] 27)) := (boxes1 w _ _ (Below.refl _ _)).1
  have HD : Hid (diskB d = (filesB d.live && filesB d.safe && decide (d.ops.length ≤ 200) && decide (runL d.safe d.ops = some d.live))) := rfl
  have H := Lib.hid h
  have HF := Lib.hid hf
  have C1 := Lib.hid (fun W (hW : Below w.heap.size w W) => files_s v1 d.live W (h.live.below hW) hf.small.live (by have := hf.sums; omega) (fun a ha => by have := hf.live a ha; omega))
  have C2 := Lib.hid (fun W (hW : Below w.heap.size w W) => files_s v2 d.safe W (h.safe.below hW) hf.small.safe (by have := hf.sums; omega) (fun a ha => by have := hf.safe a ha; omega))
  obtain ⟨p1, cap1, rfl, _, _, _⟩ := h.live.open
  obtain ⟨p2, cap2, rfl, _, _, _⟩ := h.safe.open
  obtain ⟨p3, cap3, rfl, _, _, hp3⟩ := h.ops.open
  have ho3 : (d.ops.length : Int) ≤ 1048576 := by have := hf.small.ops; omega
  clear h hf
  go_enter Try.func18, Try.ntmps18
  go_wp2_with fail
  refine (C1.out _ (by exact hb0)).mono ?_
  rintro e w2 ⟨rfl, hb2⟩
  obtain ⟨hB2, bx2⟩ := boxes1 w _ _ hb2
  clear hb2 hb0 C1
  obtain ⟨⟨b0, b1, b2⟩, _⟩ := dk_cells bx2
  cases hlv : filesB d.live with
  | false =>
    rw [hlv] at HD
    have HR : Hid (diskB d = false) := HD.out
    clear hlv
    go_wp2
    go_ret
    exact ⟨by rw [HR.out]; rfl, hB2⟩
  | true =>
    rw [hlv] at HD
    clear hlv
    have HB2 := Lib.hid hB2
    go_wp2_with fail
    refine (C2.out _ (by exact hB2)).mono ?_
    rintro e w3 ⟨rfl, hb3⟩
    have hB3 := HB2.out.trans (hb3.mono HB2.out.size)
    have bx3 := (hb3.block _ (Array.getElem?_eq_some_iff.1 bx2).1).trans bx2
    clear b0 b1 b2 hb3 bx2 hB2 HB2 C2
    obtain ⟨⟨b0, b1, b2⟩, _⟩ := dk_cells bx3
    cases hsf : filesB d.safe with
    | false =>
      rw [hsf] at HD
      have HR : Hid (diskB d = false) := HD.out
      clear hsf
      go_wp2
      go_ret
      exact ⟨by rw [HR.out]; rfl, hB3⟩
    | true =>
      rw [hsf] at HD
      have HSF := Lib.hid hsf
      clear hsf
      by_cases h200 : d.ops.length ≤ 200
      case neg =>
        have h2' : (200 : Int) < (d.ops.length : Int) := by omega
        have h2d : decide (200 < (d.ops.length : Int)) = true := by simp; omega
        rw [decide_eq_false h200] at HD
        have HR : Hid (diskB d = false) := HD.out
        clear h200
        go_wp2
        go_ret
        exact ⟨by rw [HR.out]; rfl, hB3⟩
      have h2' : ¬ (200 : Int) < (d.ops.length : Int) := by omega
      have h2d : decide (200 < (d.ops.length : Int)) = false := by simp; omega
      rw [decide_eq_true h200] at HD
      have HR : Hid (diskB d = decide (runL d.safe d.ops = some d.live)) := HD.out
      have HX3 := Lib.hid (And.intro hB3 bx3)
      clear h200
      have hSA : FilesAt 0 (.slice p2 d.safe.length cap2) d.safe w3 := (H.out.below hB3).safe
      go_wp2
      go_loopw [3, 4] (fun x i wr => ∃ (j : Nat) (C : List FileT), j ≤ d.ops.length ∧ i = .int .i64 j ∧ FilesAt 0 x C wr ∧ filesB C = true ∧ runL C (d.ops.drop j) = runL d.safe d.ops ∧ wr.heap[w.heap.size]? = some (.cells #[.slice p1 d.live.length cap1, .slice p2 d.safe.length cap2, .slice p3 d.ops.length cap3] 27 (0, 0)) ∧ Below w.heap.size w wr) (fun _ i _ => d.ops.length - (intOf i).toNat)
      case atStart => exact ⟨0, d.safe, Nat.zero_le _, rfl, hSA, HSF.out, rfl, HX3.out.2, HX3.out.1⟩
      case round =>
        clear hSA HX3 HSF bx3 hB3 b0 b1 b2
        obtain ⟨j, C, hj, rfl, hC, hCB, hrun, bx, hB⟩ := hrel
        have hFB := filesB_of hCB
        obtain ⟨⟨b0, b1, b2⟩, _⟩ := dk_cells bx
        have HX := Lib.hid (And.intro hB bx)
        clear bx hCB
        by_cases hlt : j < d.ops.length
        · have hne : d.ops ≠ [] := by intro c; rw [c] at hlt; simp at hlt
          obtain ⟨g, oo, rfl⟩ := hp3.resolve_left hne
          have j0 : (0 : Int) ≤ (j : Int) := by omega
          have j1 : (j : Int) < (d.ops.length : Int) := by omega
          obtain ⟨x, hx⟩ : ∃ x, d.ops[j] = x := ⟨_, rfl⟩
          have HOP : Hid (∀ W, Below w.heap.size w W → W.cell? ⟨g, oo + j * 4, none⟩ = some (.int .i64 x.1) ∧ W.cell? ⟨g, oo + j * 4 + 1, none⟩ = some (.string x.2.1) ∧ W.cell? ⟨g, oo + j * 4 + 2, none⟩ = some (.string x.2.2.1) ∧ W.cell? ⟨g, oo + j * 4 + 3, none⟩ = some (.string x.2.2.2)) := fun W hW =>
            (H.out.ops.below hW).at hlt hx
          have hxf := HF.out.ops x (by rw [← hx]; exact List.getElem_mem hlt)
          have HRUN : Hid (runL C (x :: d.ops.drop (j + 1)) = runL d.safe d.ops) := by
            have e := hrun
            rw [List.drop_eq_getElem_cons hlt, hx] at e
            exact e
          have HXF := Lib.hid hxf
          have HFB := Lib.hid hFB
          have D1 := Lib.hid (do_s u3 C x.1 x.2.1 x.2.2.1 x.2.2.2 wr hC (by have := hFB.len; omega) (by omega) (fun a ha => by have := data_le ha; have := hFB.sum; omega))
          obtain ⟨o0, o1, o2, o3⟩ := HOP.out wr hB
          clear hx hne hp3 hrun hxf hFB hB
          go_wp2_with fail
          refine D1.out.mono ?_
          rintro e w4 ⟨v4, l4, b4, rfl, hr4, hop4, hb4⟩
          have hB4 := HX.out.1.trans (hb4.mono HX.out.1.size)
          have bx4 := (hb4.block _ (Array.getElem?_eq_some_iff.1 HX.out.2).1).trans HX.out.2
          clear b0 b1 b2 o0 o1 o2 o3 D1 hb4
          obtain ⟨⟨b0, b1, b2⟩, _⟩ := dk_cells bx4
          obtain ⟨o0, o1, o2, o3⟩ := HOP.out w4 hB4
          cases b4 with
          | false =>
            have HNO : Hid (diskB d = false) := by
              show _ = _
              rw [HR.out, ← HRUN.out, runL_no (by simpa using hop4)]
              exact decide_eq_false (fun c => by cases c)
            clear hop4 hr4 bx4
            go_wp2
            go_ret
            exact ⟨by rw [HNO.out]; rfl, hB4⟩
          | true =>
            have hop : opDo C x = some l4 := by simpa using hop4
            have hsm := opDo_small HFB.out hop (Nat.le_trans HXF.out.2.1 (by decide)) (Nat.le_trans HXF.out.2.2.1 (by decide)) HXF.out.2.2.2
            have FM := Lib.hid (form_s x.1 x.2.1 x.2.2.1 x.2.2.2 w4 HXF.out.1 (by have := HXF.out; omega) (by have := HXF.out; omega))
            have HOPD := Lib.hid hop
            have HX4 := Lib.hid (And.intro hB4 bx4)
            have HR4 := Lib.hid (hr4.mono (Nat.zero_le _))
            have HSM := Lib.hid hsm
            clear hop4 hop hsm hr4 bx4 hB4
            go_wp2_with fail
            refine FM.out.mono ?_
            rintro e w5 ⟨rfl, hb5⟩
            have hB5 := HX4.out.1.trans (hb5.mono HX4.out.1.size)
            have bx5 := (hb5.block _ (Array.getElem?_eq_some_iff.1 HX4.out.2).1).trans HX4.out.2
            have HR5 := Lib.hid (HR4.out.below hb5)
            clear b0 b1 b2 o0 o1 o2 o3 hb5 FM HX4 HR4
            obtain ⟨bo, hbo⟩ : ∃ b, opB x = b := ⟨_, rfl⟩
            rw [show opB (x.1, x.2.1, x.2.2.1, x.2.2.2) = bo from hbo]
            cases bo with
            | false =>
              have HNO : Hid (diskB d = false) := by
                show _ = _
                rw [HR.out, ← HRUN.out, runL_bad HOPD.out (by rw [hbo]; rfl)]
                exact decide_eq_false (fun c => by cases c)
              clear hbo bx5
              go_wp2
              go_ret
              exact ⟨by rw [HNO.out]; rfl, hB5⟩
            | true =>
              have FS := Lib.hid (files_s v4 l4 w5 HR5.out (by have := HSM.out.1; omega) (by have := HSM.out.2.1; omega) (fun a ha => by have := HSM.out.2.2 a ha; omega))
              have HBO := Lib.hid hbo
              have HX5 := Lib.hid (And.intro hB5 bx5)
              clear hbo bx5 hB5
              go_wp2_with fail
              refine FS.out.mono ?_
              rintro e w6 ⟨rfl, hb6⟩
              have hB6 := HX5.out.1.trans (hb6.mono HX5.out.1.size)
              have bx6 := (hb6.block _ (Array.getElem?_eq_some_iff.1 HX5.out.2).1).trans HX5.out.2
              have hR6 := HR5.out.below hb6
              clear hb6 FS HX5 HR5
              obtain ⟨bf, hbf⟩ : ∃ b, filesB l4 = b := ⟨_, rfl⟩
              rw [hbf]
              cases bf with
              | false =>
                have HNO : Hid (diskB d = false) := by
                  show _ = _
                  rw [HR.out, ← HRUN.out, runL_bad HOPD.out (by rw [hbf, Bool.and_false])]
                  exact decide_eq_false (fun c => by cases c)
                clear hbf bx6 hR6
                go_wp2
                go_ret
                exact ⟨by rw [HNO.out]; rfl, hB6⟩
              | true =>
                have HRU : Hid (runL l4 (d.ops.drop (j + 1)) = runL d.safe d.ops) := by
                  show _ = _
                  rw [← HRUN.out, runL_ok HOPD.out (by rw [hbf, HBO.out]; rfl)]
                have HALL := Lib.hid (And.intro hR6 (And.intro hbf (And.intro bx6 hB6)))
                clear hbf bx6 hR6 hB6
                go_wp2
                go_roundw
                case rel => exact ⟨j + 1, l4, by omega, by go_num, HALL.out.1, HALL.out.2.1, HRU.out, HALL.out.2.2.1, HALL.out.2.2.2⟩
                case measure => simp [intOf]; omega
        · obtain rfl : j = d.ops.length := by omega
          rw [List.drop_length] at hrun
          have SM := Lib.hid (same_s u3 (.slice p1 d.live.length cap1) C d.live wr hC (H.out.below hB).live (by have := hFB.len; omega) HF.out.small.live)
          have HE : Hid (diskB d = decide (C = d.live)) := by
            show _ = _
            rw [HR.out, ← hrun, runL_nil]
            exact decide_eq_decide.2 ⟨fun c => Option.some.inj c, fun c => by rw [c]⟩
          clear hrun hC hFB hp3
          go_wp2_with fail
          refine SM.out.mono ?_
          rintro e w4 ⟨rfl, hb4⟩
          have hB4 := hB.trans (hb4.mono hB.size)
          clear hb4 hB
          go_wp2
          go_ret
          exact ⟨by rw [HE.out]; rfl, hB4⟩
theorem disk_s (v1 v2 v3 : Value) (d : DiskT) (w : World) (h : DiskAt 0 v1 v2 v3 d w) (hf : d.fit) :
    Calls Try.prog 18 #[.agg #[v1, v2, v3]] w fun e w' => e = .returned (.bool (diskB d)) ∧ Below w.heap.size w w' :=
  disk_sn v1 v2 v3 d w h.toIn hf

end Go.Proofs.Ytepefbfmjjnamaa

/- The specification: an operation on a right disk; Do. -/
import Derived.Test.YtepefbfmjjnamaaDkH
import Derived.Test.YtepefbfmjjnamaaDkU
namespace Go.Proofs.Ytepefbfmjjnamaa
open Go.RowKit Go.My Go.Lib
set_option linter.unusedVariables false

def actD (d : DiskT) (op : DOpT) : DiskT := ⟨doL d.live d.ops op, d.safe, doO d.live d.ops op⟩
theorem actD_no {d : DiskT} {op : DOpT} (h : doC d.live d.ops op ≠ 0) : actD d op = d := by unfold actD doL doO; rw [if_neg h, if_neg h]
theorem actD_yes {d : DiskT} {op : DOpT} (h : doC d.live d.ops op = 0) : actD d op = ⟨aftL d.live op, d.safe, d.ops ++ [op]⟩ := by unfold actD doL doO; rw [if_pos h, if_pos h]

set_option maxRecDepth 20000 in
set_option maxHeartbeats 4000000 in
theorem act_s (v1 v2 v3 : Value) (d : DiskT) (k : Int) (n t x : ByteArray) (w : World) (h : DiskAt 0 v1 v2 v3 d w) (hf : filesB d.live = true) (h200 : d.ops.length ≤ 200) (hs : d.small) (hk : (Lit.int .i64 k).wf = true) (hn : n.size ≤ 1048576) (ht : t.size ≤ 1048576) (hx : x.size ≤ 1048576) :
    Calls Try.prog 66 #[.agg #[v1, v2, v3], .agg #[.int .i64 k, .string n, .string t, .string x]] w fun e w' => ∃ u1 u2 u3, e = .returned (.tuple #[.agg #[u1, u2, u3], .int .i64 (doC d.live d.ops (k, n, t, x))]) ∧ DiskAt w.heap.size u1 u2 u3 (actD d (k, n, t, x)) w' ∧ Below w.heap.size w w' := by
  have hFB := filesB_of hf
  have CC := Lib.hid (fun W (hW : Below w.heap.size w W) => copy_s v1 v2 v3 d W (h.below hW) hs)
  have CF := Lib.hid (fun W => form_s k n t x W hk (by omega) (by omega))
  have CD := Lib.hid (fun W (hW : Below w.heap.size w W) => do_s v1 d.live k n t x W (h.live.below hW) hs.live (by omega) (fun a ha => by have := data_le ha; have := hFB.sum; omega))
  have HSM := Lib.hid (show ∀ l', opDo d.live (k, n, t, x) = some l' → l'.length ≤ 61 ∧ dataSum l' ≤ 2000000 ∧ ∀ a ∈ l', a.1.size ≤ 1048576 from fun l' hh => opDo_small hFB hh hn ht hx)
  have HCC : Hid (doC d.live d.ops (k, n, t, x) = (if opB (k, n, t, x) = false then 2 else if findB d.live (k, n, t, x) = false then 3 else if 200 ≤ d.ops.length then 4 else if filesB (aftL d.live (k, n, t, x)) = false then 4 else 0)) := rfl
  have HNO := Lib.hid (fun h => actD_no (d := d) (op := (k, n, t, x)) h)
  have HYES := Lib.hid (fun h => actD_yes (d := d) (op := (k, n, t, x)) h)
  have HOA := Lib.hid (opDo_aft d.live (k, n, t, x))
  have HFB := Lib.hid (And.intro h200 hFB)
  obtain ⟨p1, m1, rfl, _⟩ := h.live.open
  obtain ⟨p2, m2, rfl, _⟩ := h.safe.open
  obtain ⟨p3, m3, rfl, _⟩ := h.ops.open
  clear h hf hs hk hn ht hx hFB h200
  obtain ⟨C, hC⟩ : ∃ C, doC d.live d.ops (k, n, t, x) = C := ⟨_, rfl⟩
  rw [hC] at HCC HNO HYES ⊢
  clear hC
  generalize actD d (k, n, t, x) = AD at HNO HYES ⊢
  have hB0 : Below w.heap.size w (((w.alloc (.cells #[.slice p1 d.live.length m1, .slice p2 d.safe.length m2, .slice p3 d.ops.length m3] 27)).alloc (.cells #[.int .i64 k, .string n, .string t, .string x] 36)).alloc (.cells #[.slice none 0 0, .slice none 0 0, .slice none 0 0] 27)) := (((Below.refl _ _).alloc (Nat.le_refl _) _).alloc (by simp) _).alloc (by simp; omega) _
  go_enter Try.func66, Try.ntmps66
  go_wp2_with fail
  refine (CF.out _).mono ?_
  rintro e w2 ⟨rfl, hb2⟩
  obtain ⟨hB2, xA, xO, xR, hsz2⟩ := boxes3 w _ _ _ _ hb2
  obtain ⟨⟨b0, b1, b2⟩, _⟩ := dk_cells xA
  obtain ⟨⟨o0, o1, o2, o3⟩, _⟩ := dop_cells xO
  obtain ⟨⟨r0, r1, r2⟩, rf⟩ := dk_cells xR
  have rf0 := rf 0
  have rf1 := rf 1
  have rf2 := rf 2
  have HX := Lib.hid (And.intro xA (And.intro xO xR))
  clear xA xO xR rf hb2
  cases c1 : opB (k, n, t, x) with
  | false =>
    have HR : Hid (C = 2) := by show _ = _; rw [HCC.out, if_pos c1]
    clear c1
    go_wp2_with fail
    refine (CC.out _ hB2).mono ?_
    rintro e wz ⟨u1, u2, u3, rfl, hD, hbz⟩
    obtain ⟨q1, n1, rfl, _⟩ := hD.live.open
    obtain ⟨q2, n2, rfl, _⟩ := hD.safe.open
    obtain ⟨q3, n3, rfl, _⟩ := hD.ops.open
    have yR := (hbz.block (w.heap.size + 1 + 1) (Array.getElem?_eq_some_iff.1 HX.out.2.2).1).trans HX.out.2.2
    have hBz := hB2.trans (hbz.mono hB2.size)
    have HD := Lib.hid (hD.mono hB2.size)
    have HY := Lib.hid yR
    have HBZ := Lib.hid hBz
    have HAD := Lib.hid (HNO.out (by rw [HR.out]; decide))
    clear b0 b1 b2 o0 o1 o2 o3 r0 r1 r2 rf0 rf1 rf2
    obtain ⟨⟨r0, r1, r2⟩, rf⟩ := dk_cells yR
    have rf0 := rf 0
    have rf1 := rf 1
    have rf2 := rf 2
    clear hD hbz hBz yR rf
    go_wp2
    refine bodyPost_ret (v := .tuple #[.agg #[.slice q1 d.live.length n1, .slice q2 d.safe.length n2, .slice q3 d.ops.length n3], .int .i64 2]) (results_row_u Try.results66 _ _ (w.heap.size + 1 + 1) 27 _ (0, 0) _ rfl (set3 HY.out _ _ _) Try.underlying27 rfl (by kernel_rfl)) rfl ⟨_, _, _, by rw [HR.out], by rw [HAD.out]; exact ⟨RowL.kept HD.out.live (grw_set3 _ _ _ _ _) (rowK HD.out.live HY.out (by decide)), RowL.kept HD.out.safe (grw_set3 _ _ _ _ _) (rowK HD.out.safe HY.out (by decide)), RowL.kept HD.out.ops (grw_set3 _ _ _ _ _) (rowK HD.out.ops HY.out (by decide))⟩, below_grw HBZ.out (grw_set3 _ _ _ _ _) HBZ.out.size (fun q hq => by cases hq; omega)⟩
  | true =>
    rw [if_neg (by rw [c1]; decide)] at HCC
    have HB2 := Lib.hid hB2
    clear c1
    go_wp2_with fail
    refine (CD.out _ hB2).mono ?_
    rintro e w3 ⟨v', l', b, rfl, hl', hop, hb3⟩
    have hB3 := hB2.trans (hb3.mono hB2.size)
    have xA := (hb3.block _ (Array.getElem?_eq_some_iff.1 HX.out.1).1).trans HX.out.1
    have xO := (hb3.block _ (Array.getElem?_eq_some_iff.1 HX.out.2.1).1).trans HX.out.2.1
    have xR := (hb3.block _ (Array.getElem?_eq_some_iff.1 HX.out.2.2).1).trans HX.out.2.2
    have hL' := hl'.mono HB2.out.size
    have HOP := Lib.hid hop
    clear b0 b1 b2 o0 o1 o2 o3 r0 r1 r2 rf0 rf1 rf2 hb3 hB2 hl' hop HX
    obtain ⟨⟨b0, b1, b2⟩, _⟩ := dk_cells xA
    obtain ⟨⟨o0, o1, o2, o3⟩, _⟩ := dop_cells xO
    obtain ⟨⟨r0, r1, r2⟩, rf⟩ := dk_cells xR
    have rf0 := rf 0
    have rf1 := rf 1
    have rf2 := rf 2
    have HX := Lib.hid (And.intro xA (And.intro xO xR))
    clear xA xO xR rf
    obtain ⟨pl, cl, rfl, _⟩ := hL'.open
    cases b with
    | false =>
      have HR : Hid (C = 3) := by
        show _ = _
        have := HOA.out.symm.trans HOP.out
        cases c2 : findB d.live (k, n, t, x) with
        | true => rw [c2] at this; cases this
        | false => rw [HCC.out, if_pos c2]
      go_wp2_with fail
      refine (CC.out _ hB3).mono ?_
      rintro e wz ⟨u1, u2, u3, rfl, hD, hbz⟩
      obtain ⟨q1, n1, rfl, _⟩ := hD.live.open
      obtain ⟨q2, n2, rfl, _⟩ := hD.safe.open
      obtain ⟨q3, n3, rfl, _⟩ := hD.ops.open
      have yR := (hbz.block (w.heap.size + 1 + 1) (Array.getElem?_eq_some_iff.1 HX.out.2.2).1).trans HX.out.2.2
      have hBz := hB3.trans (hbz.mono hB3.size)
      have HD := Lib.hid (hD.mono hB3.size)
      have HY := Lib.hid yR
      have HBZ := Lib.hid hBz
      have HAD := Lib.hid (HNO.out (by rw [HR.out]; decide))
      clear b0 b1 b2 o0 o1 o2 o3 r0 r1 r2 rf0 rf1 rf2
      obtain ⟨⟨r0, r1, r2⟩, rf⟩ := dk_cells yR
      have rf0 := rf 0
      have rf1 := rf 1
      have rf2 := rf 2
      clear hD hbz hBz yR rf
      go_wp2
      refine bodyPost_ret (v := .tuple #[.agg #[.slice q1 d.live.length n1, .slice q2 d.safe.length n2, .slice q3 d.ops.length n3], .int .i64 3]) (results_row_u Try.results66 _ _ (w.heap.size + 1 + 1) 27 _ (0, 0) _ rfl (set3 HY.out _ _ _) Try.underlying27 rfl (by kernel_rfl)) rfl ⟨_, _, _, by rw [HR.out], by rw [HAD.out]; exact ⟨RowL.kept HD.out.live (grw_set3 _ _ _ _ _) (rowK HD.out.live HY.out (by decide)), RowL.kept HD.out.safe (grw_set3 _ _ _ _ _) (rowK HD.out.safe HY.out (by decide)), RowL.kept HD.out.ops (grw_set3 _ _ _ _ _) (rowK HD.out.ops HY.out (by decide))⟩, below_grw HBZ.out (grw_set3 _ _ _ _ _) HBZ.out.size (fun q hq => by cases hq; omega)⟩
    | true =>
      have hfb : findB d.live (k, n, t, x) = true ∧ aftL d.live (k, n, t, x) = l' := by
        have := HOA.out.symm.trans HOP.out
        cases c2 : findB d.live (k, n, t, x) with
        | true => rw [c2] at this; exact ⟨rfl, Option.some.inj this⟩
        | false => rw [c2] at this; cases this
      rw [if_neg (by rw [hfb.1]; decide)] at HCC
      rw [hfb.2] at HCC HYES
      have HSL := Lib.hid (HSM.out l' HOP.out)
      have CK := Lib.hid (fun W (hW : Below w3.heap.size w3 W) => files_s (.slice pl l'.length cl) l' W ((hL'.mono (Nat.zero_le _)).below hW) (by have := HSL.out.1; omega) (by have := HSL.out.2.1; omega) (fun a ha => by have := HSL.out.2.2 a ha; omega))
      have HL' := Lib.hid hL'
      have hl61 : l'.length ≤ 61 := HSL.out.1
      clear hfb hL'
      have hoI : (d.ops.length : Int) ≤ 200 := by have := HFB.out.1; omega
      by_cases c3 : 200 ≤ d.ops.length
      · have hEq : (d.ops.length : Int) = 200 := by omega
        have hEq' : ((d.ops.length : Int) == 200) = true := by rw [hEq]; rfl
        have HR : Hid (C = 4) := by show _ = _; rw [HCC.out, if_pos c3]
        clear c3
        go_wp2_with fail
        refine (CC.out _ hB3).mono ?_
        rintro e wz ⟨u1, u2, u3, rfl, hD, hbz⟩
        obtain ⟨q1, n1, rfl, _⟩ := hD.live.open
        obtain ⟨q2, n2, rfl, _⟩ := hD.safe.open
        obtain ⟨q3, n3, rfl, _⟩ := hD.ops.open
        have yR := (hbz.block (w.heap.size + 1 + 1) (Array.getElem?_eq_some_iff.1 HX.out.2.2).1).trans HX.out.2.2
        have hBz := hB3.trans (hbz.mono hB3.size)
        have HD := Lib.hid (hD.mono hB3.size)
        have HY := Lib.hid yR
        have HBZ := Lib.hid hBz
        have HAD := Lib.hid (HNO.out (by rw [HR.out]; decide))
        clear b0 b1 b2 o0 o1 o2 o3 r0 r1 r2 rf0 rf1 rf2
        obtain ⟨⟨r0, r1, r2⟩, rf⟩ := dk_cells yR
        have rf0 := rf 0
        have rf1 := rf 1
        have rf2 := rf 2
        clear hD hbz hBz yR rf
        go_wp2
        refine bodyPost_ret (v := .tuple #[.agg #[.slice q1 d.live.length n1, .slice q2 d.safe.length n2, .slice q3 d.ops.length n3], .int .i64 4]) (results_row_u Try.results66 _ _ (w.heap.size + 1 + 1) 27 _ (0, 0) _ rfl (set3 HY.out _ _ _) Try.underlying27 rfl (by kernel_rfl)) rfl ⟨_, _, _, by rw [HR.out], by rw [HAD.out]; exact ⟨RowL.kept HD.out.live (grw_set3 _ _ _ _ _) (rowK HD.out.live HY.out (by decide)), RowL.kept HD.out.safe (grw_set3 _ _ _ _ _) (rowK HD.out.safe HY.out (by decide)), RowL.kept HD.out.ops (grw_set3 _ _ _ _ _) (rowK HD.out.ops HY.out (by decide))⟩, below_grw HBZ.out (grw_set3 _ _ _ _ _) HBZ.out.size (fun q hq => by cases hq; omega)⟩
      · rw [if_neg c3] at HCC
        have hEq' : ((d.ops.length : Int) == 200) = false := by
          have : ¬ ((d.ops.length : Int) = 200) := by omega
          simpa using this
        have HC3 := Lib.hid c3
        clear c3
        have HB3 := Lib.hid hB3
        obtain ⟨fb, hfb⟩ : ∃ b, filesB l' = b := ⟨_, rfl⟩
        rw [hfb] at HCC CK
        clear hfb
        go_wp2_with fail
        refine (CK.out _ (Below.refl _ _)).mono ?_
        rintro e w4 ⟨rfl, hb4⟩
        have hB4 := hB3.trans (hb4.mono hB3.size)
        have xA := (hb4.block _ (Array.getElem?_eq_some_iff.1 HX.out.1).1).trans HX.out.1
        have xO := (hb4.block _ (Array.getElem?_eq_some_iff.1 HX.out.2.1).1).trans HX.out.2.1
        have xR := (hb4.block _ (Array.getElem?_eq_some_iff.1 HX.out.2.2).1).trans HX.out.2.2
        have HL4 := Lib.hid (HL'.out.below hb4)
        clear b0 b1 b2 o0 o1 o2 o3 r0 r1 r2 rf0 rf1 rf2 hb4 hB3 HX
        obtain ⟨⟨b0, b1, b2⟩, _⟩ := dk_cells xA
        obtain ⟨⟨o0, o1, o2, o3⟩, _⟩ := dop_cells xO
        obtain ⟨⟨r0, r1, r2⟩, rf⟩ := dk_cells xR
        have rf0 := rf 0
        have rf1 := rf 1
        have rf2 := rf 2
        have HX := Lib.hid (And.intro xA (And.intro xO xR))
        clear xA xO xR rf
        cases fb with
        | false =>
          have HR : Hid (C = 4) := by show _ = _; rw [HCC.out, if_pos rfl]
          go_wp2_with fail
          refine (CC.out _ hB4).mono ?_
          rintro e wz ⟨u1, u2, u3, rfl, hD, hbz⟩
          obtain ⟨q1, n1, rfl, _⟩ := hD.live.open
          obtain ⟨q2, n2, rfl, _⟩ := hD.safe.open
          obtain ⟨q3, n3, rfl, _⟩ := hD.ops.open
          have yR := (hbz.block (w.heap.size + 1 + 1) (Array.getElem?_eq_some_iff.1 HX.out.2.2).1).trans HX.out.2.2
          have hBz := hB4.trans (hbz.mono hB4.size)
          have HD := Lib.hid (hD.mono hB4.size)
          have HY := Lib.hid yR
          have HBZ := Lib.hid hBz
          have HAD := Lib.hid (HNO.out (by rw [HR.out]; decide))
          clear b0 b1 b2 o0 o1 o2 o3 r0 r1 r2 rf0 rf1 rf2
          obtain ⟨⟨r0, r1, r2⟩, rf⟩ := dk_cells yR
          have rf0 := rf 0
          have rf1 := rf 1
          have rf2 := rf 2
          clear hD hbz hBz yR rf
          go_wp2
          refine bodyPost_ret (v := .tuple #[.agg #[.slice q1 d.live.length n1, .slice q2 d.safe.length n2, .slice q3 d.ops.length n3], .int .i64 4]) (results_row_u Try.results66 _ _ (w.heap.size + 1 + 1) 27 _ (0, 0) _ rfl (set3 HY.out _ _ _) Try.underlying27 rfl (by kernel_rfl)) rfl ⟨_, _, _, by rw [HR.out], by rw [HAD.out]; exact ⟨RowL.kept HD.out.live (grw_set3 _ _ _ _ _) (rowK HD.out.live HY.out (by decide)), RowL.kept HD.out.safe (grw_set3 _ _ _ _ _) (rowK HD.out.safe HY.out (by decide)), RowL.kept HD.out.ops (grw_set3 _ _ _ _ _) (rowK HD.out.ops HY.out (by decide))⟩, below_grw HBZ.out (grw_set3 _ _ _ _ _) HBZ.out.size (fun q hq => by cases hq; omega)⟩
        | true =>
          have HR : Hid (C = 0) := by show _ = _; rw [HCC.out, if_neg (by decide)]
          have HAD := Lib.hid (HYES.out HR.out)
          go_wp2_with fail
          refine (CC.out _ hB4).mono ?_
          rintro e w5 ⟨u1, u2, u3, rfl, hD, hb5⟩
          obtain ⟨q1, n1, rfl, _⟩ := hD.live.open
          obtain ⟨q2, n2, rfl, _⟩ := hD.safe.open
          obtain ⟨q3, n3, rfl, _⟩ := hD.ops.open
          have hB5 := hB4.trans (hb5.mono hB4.size)
          have hb6 : Below w5.heap.size w5 (w5.alloc (.cells #[.slice pl l'.length cl, .slice q2 d.safe.length n2, .slice q3 d.ops.length n3] 27)) := (Below.refl _ _).alloc (Nat.le_refl _) _
          have e6 := heap_alloc_new w5 (.cells #[.slice pl l'.length cl, .slice q2 d.safe.length n2, .slice q3 d.ops.length n3] 27)
          have hs6' : (w5.alloc (.cells #[.slice pl l'.length cl, .slice q2 d.safe.length n2, .slice q3 d.ops.length n3] 27)).heap.size = w5.heap.size + 1 := by simp
          have hb56 := hb5.trans (hb6.mono hb5.size)
          have xO6 := (hb56.block _ (Array.getElem?_eq_some_iff.1 HX.out.2.1).1).trans HX.out.2.1
          have xR6 := (hb56.block _ (Array.getElem?_eq_some_iff.1 HX.out.2.2).1).trans HX.out.2.2
          have hT : w.heap.size + 1 + 1 + 1 ≤ w5.heap.size := Nat.le_trans (Array.getElem?_eq_some_iff.1 HX.out.2.2).1 hb5.size
          have L6 := RowL.below HL4.out hb56
          have S6 := RowL.below hD.safe hb6
          have O6 := RowL.below hD.ops hb6
          have hB6 : Below w.heap.size w (w5.alloc (.cells #[.slice pl l'.length cl, .slice q2 d.safe.length n2, .slice q3 d.ops.length n3] 27)) := hB5.trans (hb6.mono hB5.size)
          have h4 : w.heap.size ≤ w4.heap.size ∧ w4.heap.size ≤ w5.heap.size := ⟨hB4.size, hb5.size⟩
          have HH := Lib.hid (And.intro hT h4)
          have HB4 := Lib.hid hB4
          have HXX := Lib.hid (And.intro e6 (And.intro hs6' (And.intro L6 (And.intro S6 (And.intro O6 (And.intro xO6 (And.intro xR6 hB6)))))))
          clear b0 b1 b2 o0 o1 o2 o3 r0 r1 r2 rf0 rf1 rf2 hb5 hb6 hb56 hB4 hB5 hD hT h4 e6 hs6' L6 S6 O6 xO6 xR6 hB6
          go_upto_region 10 with (fail)
          obtain ⟨e6, hs6', L6, S6, O6, xO6, xR6, hB6⟩ := HXX.out
          clear HXX
          generalize (w5.alloc (.cells #[.slice pl l'.length cl, .slice q2 d.safe.length n2, .slice q3 d.ops.length n3] 27)) = W6 at e6 hs6' L6 S6 O6 xO6 xR6 hB6 ⊢
          obtain ⟨⟨t0, t1, t2⟩, tf⟩ := dk_cells e6
          have tf2 := tf 2
          obtain ⟨⟨o0, o1, o2, o3⟩, _⟩ := dop_cells xO6
          obtain ⟨i0, hi, hz0, hz1, hz2⟩ := info_parts info_DOp
          have hR6 : W6.ownsRow w4.heap.size 36 4 (.slice q3 d.ops.length n3) d.ops.length (d.ops.flatMap dOpC) := O6
          have E7 := Lib.hid (show ∀ w7 : World, (W6.alloc (.cells #[.int .i64 k, .string n, .string t, .string x] 36)).grownBy w7 (Value.slice q3 d.ops.length n3).ownBlock → w7.heap[w5.heap.size]? = some (.cells #[.slice pl l'.length cl, .slice q2 d.safe.length n2, .slice q3 d.ops.length n3] 27 (0, 0)) from fun w7 hg7 => by
            have b := (Below.refl W6.heap.size W6).alloc (Nat.le_refl _) (.cells #[.int .i64 k, .string n, .string t, .string x] 36)
            rw [hg7.block w5.heap.size (by simp; omega) (fun c => row_kind O6 e6 (by decide) c.symm)]
            exact (b.block w5.heap.size (by omega)).trans e6)
          have HF := Lib.hid (And.intro L6 (And.intro S6 (And.intro O6 (And.intro xR6 (And.intro hB6 hs6')))))
          have hsW : w4.heap.size ≤ W6.heap.size := by have := HH.out.2.2; omega
          have hol : d.ops.length < 200 := by have := HC3.out; omega
          clear L6 S6 O6 xR6 xO6 e6 hB6 hs6' tf
          go_upto_region 11 with (at_builtin; refine wpList_append_lies _ rfl _ _ 25 rfl w4.heap.size 36 i0 (.agg #[.int .i64 0, .string ByteArray.empty, .string ByteArray.empty, .string ByteArray.empty]) 4 56 Try.underlying25 hi hz0 hz1 hz2 rfl (by decide) (.slice q3 d.ops.length n3) d.ops.length _ rfl (hR6.alloc _) ⟨W6.heap.size, 0, none⟩ 1 1 [_, _, _, _] rfl rfl (World.news_of_block (cs := #[_, _, _, _]) (t := 36) (fr := (0, 0)) (heap_alloc_new W6 _)) (by simp [Value.oneCell']) (by omega) (by unfold maxLen; omega) (by omega) (by simp; omega) (W6.heap.size + 1) (by simp) ?_; intro g2 cap2 w7 hown2 hgrow2 hat hlt2; have e7 := E7.out _ hgrow2; have d27 : w7.cell? ⟨w5.heap.size, 2, none⟩ = some (.slice q3 d.ops.length n3) := cell_of_row w7 _ 2 _ _ (0, 0) e7; have f27 : w7.frozen? ⟨w5.heap.size, 2, none⟩ = false := frozen_of_row w7 _ 2 _ _ e7)
          obtain ⟨L6, S6, O6, xR6, hB6, hs6'⟩ := HF.out
          have R := row_push (b := (k, n, t, x)) hR6 (Below.refl _ _) hsW rfl rfl hown2 hgrow2
          have gA : W6.grownBy w7 (Value.slice q3 d.ops.length n3).ownBlock := grw_trans (grw_of_below ((Below.refl W6.heap.size W6).alloc (Nat.le_refl _) _) _) hgrow2
          have L7 := RowL.kept L6 gA (row_types L6 O6 (by decide))
          have S7 := RowL.kept S6 gA (row_types S6 O6 (by decide))
          have hr4 : w.heap.size + 1 + 1 < w4.heap.size := (Array.getElem?_eq_some_iff.1 HX.out.2.2).1
          have xR7 := (R.2.block (w.heap.size + 1 + 1) hr4).trans xR6
          have hB7 := hB6.trans (R.2.mono HH.out.2.1)
          have hT5 := HH.out.1
          have h45 := HH.out.2
          have g8 : w7.grownBy (w7.setCell ⟨w5.heap.size, 2, none⟩ (.slice (some ⟨g2, 0, none⟩) (d.ops.length + 1) cap2)) (some w5.heap.size) := grw_set (grw_refl _ _) _ _
          have e8 := heap_setCell_same w7 w5.heap.size 2 _ _ (.slice (some ⟨g2, 0, none⟩) (d.ops.length + 1) cap2) e7
          have L8 := RowL.kept L7 g8 (rowK L7 e7 (by decide))
          have S8 := RowL.kept S7 g8 (rowK S7 e7 (by decide))
          have O8 := RowL.kept R.1 g8 (rowK R.1 e7 (by decide))
          have xR8 := (g8.block (w.heap.size + 1 + 1) (by have := R.2.size; omega) (fun c => by have := Option.some.inj c; omega)).trans xR7
          have hB8 := below_grw hB7 g8 hB7.size (fun q hq => by have := Option.some.inj hq; omega)
          clear R gA L7 S7 xR7 hB7 g8 e7 d27 f27 hown2 hgrow2 hat hlt2 L6 S6 O6 xR6 hB6 hs6' hR6 t0 t1 t2 tf2 o0 o1 o2 o3 E7 HF hi hz0 hz1 hz2
          generalize w7.setCell ⟨w5.heap.size, 2, none⟩ (.slice (some ⟨g2, 0, none⟩) (d.ops.length + 1) cap2) = w8 at e8 L8 S8 O8 xR8 hB8 ⊢
          have HQ := Lib.hid (And.intro L8 (And.intro S8 (And.intro O8 (And.intro xR8 hB8))))
          obtain ⟨⟨t0, t1, t2⟩, _⟩ := dk_cells e8
          obtain ⟨⟨r0, r1, r2⟩, rf⟩ := dk_cells xR8
          have rf0 := rf 0
          have rf1 := rf 1
          have rf2 := rf 2
          clear rf L8 S8 O8 xR8 hB8 e8
          go_wp2
          obtain ⟨L8, S8, O8, xR8, hB8⟩ := HQ.out
          refine bodyPost_ret (v := .tuple #[.agg #[.slice pl l'.length cl, .slice q2 d.safe.length n2, .slice (some ⟨g2, 0, none⟩) (d.ops.length + 1) cap2], .int .i64 0]) (results_row_u Try.results66 _ _ (w.heap.size + 1 + 1) 27 _ (0, 0) _ rfl (set3 xR8 _ _ _) Try.underlying27 rfl (by kernel_rfl)) rfl ⟨_, _, _, by rw [HR.out], by rw [HAD.out]; exact ⟨RowL.kept L8 (grw_set3 _ _ _ _ _) (rowK L8 xR8 (by decide)), RowL.kept (S8.mono HH.out.2.1) (grw_set3 _ _ _ _ _) (rowK S8 xR8 (by decide)), RowL.kept (O8.mono HH.out.2.1) (grw_set3 _ _ _ _ _) (rowK O8 xR8 (by decide))⟩, below_grw hB8 (grw_set3 _ _ _ _ _) hB8.size (fun q hq => by cases hq; omega)⟩

theorem doD_act {d : DiskT} {op : DOpT} (h : diskB d = true) : doD d op = actD d op := doD_yes h
set_option maxRecDepth 20000 in
set_option maxHeartbeats 2000000 in
theorem doD_s (v1 v2 v3 : Value) (d : DiskT) (k : Int) (n t x : ByteArray) (w : World) (h : DiskAt 0 v1 v2 v3 d w) (hd : d.fit) (hk : (Lit.int .i64 k).wf = true) (hn : n.size ≤ 1048576) (ht : t.size ≤ 1048576) (hx : x.size ≤ 1048576) :
    Calls Try.prog 24 #[.agg #[v1, v2, v3], .agg #[.int .i64 k, .string n, .string t, .string x]] w fun e w' => ∃ u1 u2 u3, e = .returned (.tuple #[.agg #[u1, u2, u3], .int .i64 (doR d (k, n, t, x))]) ∧ DiskAt w.heap.size u1 u2 u3 (doD d (k, n, t, x)) w' ∧ Below w.heap.size w w' := by
  have C := Lib.hid (fun W (hW : Below w.heap.size w W) => disk_s v1 v2 v3 d W (h.below hW) hd)
  have CA := Lib.hid (fun W (hW : Below w.heap.size w W) (hb : diskB d = true) => act_s v1 v2 v3 d k n t x W (h.below hW) (diskB_live hb) (diskB_ops hb) hd.small hk hn ht hx)
  obtain ⟨p1, m1, rfl, _, _, _⟩ := h.live.open
  obtain ⟨p2, m2, rfl, _, _, _⟩ := h.safe.open
  obtain ⟨p3, m3, rfl, _, _, _⟩ := h.ops.open
  clear h hd hk hn ht hx
  go_enter Try.func24, Try.ntmps24
  go_wp2_with fail
  refine (C.out _ ?_).mono ?_
  · exact (((Below.refl _ _).alloc (Nat.le_refl _) _).alloc (by simp) _).alloc (by simp; omega) _
  rintro e w2 ⟨rfl, hb2⟩
  obtain ⟨hB2, xA, xO, xR, hsz2⟩ := boxes3 w _ _ _ _ hb2
  have HB2 := Lib.hid hB2
  have HXR := Lib.hid xR
  obtain ⟨⟨r0, r1, r2⟩, rf⟩ := dk_cells xR
  obtain ⟨⟨b0, b1, b2⟩, _⟩ := dk_cells xA
  obtain ⟨⟨o0, o1, o2, o3⟩, _⟩ := dop_cells xO
  have rf0 := rf 0
  have rf1 := rf 1
  have rf2 := rf 2
  clear hb2 C hB2 xA xR rf xO
  cases hk : diskB d with
  | false =>
    have HV := Lib.hid (doD_no (op := (k, n, t, x)) hk)
    have HR := Lib.hid (doR_no (op := (k, n, t, x)) hk)
    clear hk
    go_wp2
    have gz := grw_set3 w2 (w.heap.size + 1 + 1) (.slice none 0 0) (.slice none 0 0) (.slice none 0 0)
    refine bodyPost_ret (v := .tuple #[.agg #[.slice none 0 0, .slice none 0 0, .slice none 0 0], .int .i64 1]) (results_row_u Try.results24 _ _ (w.heap.size + 1 + 1) 27 _ (0, 0) _ rfl (set3 HXR.out (.slice none 0 0) (.slice none 0 0) (.slice none 0 0)) Try.underlying27 rfl (by kernel_rfl)) rfl ⟨_, _, _, by rw [HR.out], by rw [HV.out]; exact nilDisk _ _, below_grw HB2.out gz HB2.out.size (fun q hq => by cases hq; omega)⟩
  | true =>
    have HV := Lib.hid (doD_act (op := (k, n, t, x)) hk)
    have HR := Lib.hid (doR_yes (op := (k, n, t, x)) hk)
    have CA2 := Lib.hid (CA.out w2 HB2.out hk)
    generalize doC d.live d.ops (k, n, t, x) = R at CA2 HR
    generalize actD d (k, n, t, x) = AD at CA2 HV
    clear hk CA
    go_wp2_with fail
    refine CA2.out.mono ?_
    rintro e w4 ⟨u1, u2, u3, rfl, hD, hb4⟩
    obtain ⟨q1, n1, rfl, _⟩ := hD.live.open
    obtain ⟨q2, n2, rfl, _⟩ := hD.safe.open
    obtain ⟨q3, n3, rfl, _⟩ := hD.ops.open
    have yR := (hb4.block (w.heap.size + 1 + 1) (Array.getElem?_eq_some_iff.1 HXR.out).1).trans HXR.out
    have hB4 := HB2.out.trans (hb4.mono HB2.out.size)
    have HD := Lib.hid (hD.mono HB2.out.size)
    have HY := Lib.hid yR
    have HB4 := Lib.hid hB4
    clear b0 b1 b2 o0 o1 o2 o3 r0 r1 r2 rf0 rf1 rf2
    obtain ⟨⟨r0, r1, r2⟩, rf⟩ := dk_cells yR
    have rf0 := rf 0
    have rf1 := rf 1
    have rf2 := rf 2
    clear hD hb4 hB4 yR rf CA2
    go_wp2
    refine bodyPost_ret (v := .tuple #[.agg #[.slice q1 AD.live.length n1, .slice q2 AD.safe.length n2, .slice q3 AD.ops.length n3], .int .i64 R]) (results_row_u Try.results24 _ _ (w.heap.size + 1 + 1) 27 _ (0, 0) _ rfl (set3 HY.out _ _ _) Try.underlying27 rfl (by kernel_rfl)) rfl ⟨_, _, _, by rw [HR.out], by rw [HV.out]; exact ⟨RowL.kept HD.out.live (grw_set3 _ _ _ _ _) (rowK HD.out.live HY.out (by decide)), RowL.kept HD.out.safe (grw_set3 _ _ _ _ _) (rowK HD.out.safe HY.out (by decide)), RowL.kept HD.out.ops (grw_set3 _ _ _ _ _) (rowK HD.out.ops HY.out (by decide))⟩, below_grw HB4.out (grw_set3 _ _ _ _ _) HB4.out.size (fun q hq => by cases hq; omega)⟩

end Go.Proofs.Ytepefbfmjjnamaa

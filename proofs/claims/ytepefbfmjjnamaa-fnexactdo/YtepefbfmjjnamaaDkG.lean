/- The program: Do. -/
import Derived.Test.YtepefbfmjjnamaaDkC
import Derived.Test.YtepefbfmjjnamaaDkIr
namespace Go.Proofs.Ytepefbfmjjnamaa
open Go.RowKit Go.My Go.Lib
set_option linter.unusedVariables false

theorem dop_cells {w : World} {k : Nat} {x y z u : Value} {T : TypeId} (h : w.heap[k]? = some (.cells #[x, y, z, u] T (0, 0))) : (w.cell? ⟨k, 0, none⟩ = some x ∧ w.cell? ⟨k, 1, none⟩ = some y ∧ w.cell? ⟨k, 2, none⟩ = some z ∧ w.cell? ⟨k, 3, none⟩ = some u) ∧ ∀ j, w.frozen? ⟨k, j, none⟩ = false :=
  ⟨⟨cell_of_row w k 0 _ _ (0, 0) h, cell_of_row w k 1 _ _ (0, 0) h, cell_of_row w k 2 _ _ (0, 0) h, cell_of_row w k 3 _ _ (0, 0) h⟩, fun j => frozen_of_row w k j _ _ h⟩
/-- The disk behind an operation, and the answer. -/
def doD (d : DiskT) (op : DOpT) : DiskT := if diskB d then ⟨doL d.live d.ops op, d.safe, doO d.live d.ops op⟩ else ⟨[], [], []⟩
def doR (d : DiskT) (op : DOpT) : Int := if diskB d then doC d.live d.ops op else 1
theorem doD_yes {d : DiskT} {op : DOpT} (h : diskB d = true) : doD d op = ⟨doL d.live d.ops op, d.safe, doO d.live d.ops op⟩ := by unfold doD; rw [if_pos h]
theorem doD_no {d : DiskT} {op : DOpT} (h : diskB d = false) : doD d op = ⟨[], [], []⟩ := by unfold doD; rw [if_neg (by rw [h]; decide)]
theorem doR_yes {d : DiskT} {op : DOpT} (h : diskB d = true) : doR d op = doC d.live d.ops op := by unfold doR; rw [if_pos h]
theorem doR_no {d : DiskT} {op : DOpT} (h : diskB d = false) : doR d op = 1 := by unfold doR; rw [if_neg (by rw [h]; decide)]
theorem diskB_ops {d : DiskT} (h : diskB d = true) : d.ops.length ≤ 200 := by
  unfold diskB at h
  rw [Bool.and_eq_true, Bool.and_eq_true, Bool.and_eq_true] at h
  exact of_decide_eq_true h.1.2
theorem doL_ok (l : List FileT) (ops : List DOpT) (op : DOpT) (h : filesB l = true) : filesB (doL l ops op) = true := by
  unfold doL
  by_cases c : doC l ops op = 0
  · rw [if_pos c]
    have c2 := ((doC_zero l ops op).1 c).2
    exact run_files c2 h
  · rw [if_neg c]; exact h
theorem doO_len (l : List FileT) (ops : List DOpT) (op : DOpT) (h : ops.length ≤ 200) : (doO l ops op).length ≤ 200 := by
  unfold doO
  by_cases c : doC l ops op = 0
  · rw [if_pos c, List.length_append]
    have c2 := ((doC_zero l ops op).1 c).1
    show _ + 1 ≤ _
    omega
  · rw [if_neg c]; exact h
theorem doD_small {d : DiskT} {op : DOpT} (hd : d.small) : (doD d op).small := by
  cases h : diskB d with
  | false => rw [doD_no h]; exact ⟨by simp, by simp, by simp⟩
  | true =>
    rw [doD_yes h]
    have h1 := (filesB_of (doL_ok d.live d.ops op (diskB_live h))).len
    have h2 := doO_len d.live d.ops op (diskB_ops h)
    exact ⟨by show (doL d.live d.ops op).length ≤ _; omega, hd.safe, by show (doO d.live d.ops op).length ≤ _; omega⟩

set_option maxRecDepth 20000 in
set_option maxHeartbeats 2000000 in
theorem doD_i (v1 v2 v3 : Value) (d : DiskT) (k : Int) (n t x : ByteArray) (w : World) (h : DiskAt 0 v1 v2 v3 d w) (hd : d.fit) (hn : n.size ≤ 1048576) (ht : t.size ≤ 1048576) (hx : x.size ≤ 1048576) :
    Calls Try.prog 23 #[.agg #[v1, v2, v3], .agg #[.int .i64 k, .string n, .string t, .string x]] w fun e w' => ∃ u1 u2 u3, e = .returned (.tuple #[.agg #[u1, u2, u3], .int .i64 (doR d (k, n, t, x))]) ∧ DiskAt w.heap.size u1 u2 u3 (doD d (k, n, t, x)) w' ∧ ApartV u1 u2 ∧ Below w.heap.size w w' := by
  have C := Lib.hid (fun W (hW : Below w.heap.size w W) => driveOf_i v1 v2 v3 d W (h.below hW) hd)
  have HL := Lib.hid hd.small
  have HSM := Lib.hid (doD_small (op := (k, n, t, x)) hd.small)
  have HSF := Lib.hid h.safe
  have HN := Lib.hid (And.intro hn (And.intro ht hx))
  obtain ⟨p1, m1, rfl, _, _, _⟩ := h.live.open
  obtain ⟨p2, m2, rfl, _, _, _⟩ := h.safe.open
  obtain ⟨p3, m3, rfl, _, _, _⟩ := h.ops.open
  clear h hd hn ht hx
  go_enter Try.func23, Try.ntmps23
  go_wp2_with fail
  refine (C.out _ ?_).mono ?_
  · exact (((Below.refl _ _).alloc (Nat.le_refl _) _).alloc (by simp) _).alloc (by simp; omega) _
  rintro e w2 ⟨a, b, c, rfl, ⟨pa, na, ca, rfl⟩, ⟨pb, nb, cb, rfl⟩, ⟨pc, nc, cc, rfl⟩, hb2, hf⟩
  obtain ⟨hB2, xA, xO, xR, hsz2⟩ := boxes3 w _ _ _ _ hb2
  have HB2 := Lib.hid hB2
  have hlt2 : w.heap.size + 1 + 1 < w2.heap.size := (Array.getElem?_eq_some_iff.1 xR).1
  have hb3 : Below w2.heap.size w2 (w2.alloc (.cells #[.slice pa na ca, .slice pb nb cb, .slice pc nc cc] 79)) := (Below.refl _ _).alloc (Nat.le_refl _) _
  have hs3 : (w2.alloc (.cells #[.slice pa na ca, .slice pb nb cb, .slice pc nc cc] 79)).heap.size = w2.heap.size + 1 := by simp
  have yR := (hb3.block _ hlt2).trans xR
  have yO := (hb3.block _ (Array.getElem?_eq_some_iff.1 xO).1).trans xO
  have HB3 := Lib.hid hb3
  have HYR := Lib.hid (And.intro yR hs3)
  have HXR := Lib.hid xR
  have HYO := Lib.hid yO
  clear hb2 C hB2 hb3 hs3 xR xA xO hsz2
  cases hk : diskB d with
  | false =>
    have HV := Lib.hid (doD_no (op := (k, n, t, x)) hk)
    have HR := Lib.hid (doR_no (op := (k, n, t, x)) hk)
    clear hk hf
    obtain ⟨⟨r0, r1, r2⟩, rf⟩ := dk_cells HXR.out
    have rf0 := rf 0
    have rf1 := rf 1
    have rf2 := rf 2
    clear yR rf yO
    go_wp2
    have gz := grw_set3 w2 (w.heap.size + 1 + 1) (.slice none 0 0) (.slice none 0 0) (.slice none 0 0)
    have hBz := below_grw HB2.out gz HB2.out.size (fun q hq => by cases hq; omega)
    have hAl := (Below.refl _ ((((w2.setCell ⟨w.heap.size + 1 + 1, 0, none⟩ (.slice none 0 0)).setCell ⟨w.heap.size + 1 + 1, 1, none⟩ (.slice none 0 0)).setCell ⟨w.heap.size + 1 + 1, 2, none⟩ (.slice none 0 0)))).alloc (Nat.le_refl _) (.cells #[.slice pa na ca, .slice pb nb cb, .slice pc nc cc] 79)
    have hfin := (hAl.block (w.heap.size + 1 + 1) (Nat.lt_of_lt_of_le hlt2 gz.size)).trans (set3 HXR.out (.slice none 0 0) (.slice none 0 0) (.slice none 0 0))
    refine bodyPost_ret (v := .tuple #[.agg #[.slice none 0 0, .slice none 0 0, .slice none 0 0], .int .i64 1]) (results_row_u Try.results23 _ _ (w.heap.size + 1 + 1) 27 _ (0, 0) _ rfl hfin Try.underlying27 rfl (by kernel_rfl)) rfl ⟨_, _, _, by rw [HR.out], by rw [HV.out]; exact nilDisk _ _, .inl rfl, hBz.trans (hAl.mono hBz.size)⟩
  | true =>
    have HV := Lib.hid (doD_yes (op := (k, n, t, x)) hk)
    have HR := Lib.hid (doR_yes (op := (k, n, t, x)) hk)
    have HLV := Lib.hid (diskB_live hk)
    obtain ⟨f1, f2, f3, hb⟩ := hf hk
    injection hb with hb1 hb2 hb3
    subst hb1 hb2 hb3
    have hs0 : (((w.alloc (.cells #[.slice p1 d.live.length m1, .slice pb d.safe.length cb, .slice p3 d.ops.length m3] 27)).alloc (.cells #[.int .i64 k, .string n, .string t, .string x] 36)).alloc (.cells #[.slice none 0 0, .slice none 0 0, .slice none 0 0] 27)).heap.size = w.heap.size + 1 + 1 + 1 := by simp
    rw [hs0] at f3
    have hlt3 : w.heap.size + 1 + 1 + 1 ≤ w2.heap.size := hlt2
    have F1 := f1.below HB3.out
    have F3 := f3.below HB3.out
    have xD := heap_alloc_new w2 (.cells #[.slice pa na ca, .slice pb d.safe.length cb, .slice pc nc cc] 79)
    have hdr : DrvAt (w.heap.size + 1 + 1 + 1) w2.heap.size (.slice pb d.safe.length cb) d.live d.ops (w2.alloc (.cells #[.slice pa na ca, .slice pb d.safe.length cb, .slice pc nc cc] 79)) := by
      refine ⟨_, _, xD, hlt3, F1, F3, row_kind F1 xD (by decide), row_kind F3 xD (by decide), row_types F1 F3 (by decide)⟩
    have CD := Lib.hid (do_i (w.heap.size + 1 + 1 + 1) w2.heap.size (.slice pb d.safe.length cb) d.live d.ops k n t x _ hdr HLV.out HL.out.ops HN.out.1 HN.out.2.1 HN.out.2.2 (by rw [HYR.out.2]; omega))
    rw [HV.out] at HSM
    have HUP : Hid (doL d.live d.ops (k, n, t, x) = (if doC d.live d.ops (k, n, t, x) = 0 then aftL d.live (k, n, t, x) else d.live) ∧ doO d.live d.ops (k, n, t, x) = (if doC d.live d.ops (k, n, t, x) = 0 then d.ops ++ [(k, n, t, x)] else d.ops)) := ⟨rfl, rfl⟩
    obtain ⟨⟨o0, o1, o2, o3⟩, _⟩ := dop_cells yO
    generalize doC d.live d.ops (k, n, t, x) = R at CD HR HUP
    generalize doL d.live d.ops (k, n, t, x) = L at HV HUP HSM
    generalize doO d.live d.ops (k, n, t, x) = O at HV HUP HSM
    clear hf hk f1 f2 f3 F1 F3 xD hdr hs0 yR yO
    go_wp2_with fail
    refine CD.out.mono ?_
    rintro e w3 ⟨rfl, hok, hno, hb4⟩
    have hD3 : DrvAt (w.heap.size + 1 + 1 + 1) w2.heap.size (.slice pb d.safe.length cb) L O w3 := by
      by_cases c : R = 0
      · rw [HUP.out.1, HUP.out.2, if_pos c, if_pos c]; exact hok c
      · rw [HUP.out.1, HUP.out.2, if_neg c, if_neg c]; exact hno c
    have hB3 : Below w.heap.size w w3 := (HB2.out.trans (HB3.out.mono HB2.out.size)).trans (hb4.mono (by omega))
    have zR := (hb4.block (w.heap.size + 1 + 1) (by omega)).trans HYR.out.1
    obtain ⟨vl, vo, hg3, _, F1, F3, _, _, _⟩ := hD3
    have C2 := Lib.hid (diskOf_i w2.heap.size _ _ _ ⟨L, d.safe, O⟩ w3 hg3 ⟨F1, HSF.out.below hB3, F3.mono (Nat.zero_le _)⟩ HSM.out)
    have HB3' := Lib.hid hB3
    have HZ := Lib.hid zR
    clear F1 F3 hok hno hb4 hg3 hB3 zR CD o0 o1 o2 o3
    go_wp2_with fail
    refine C2.out.mono ?_
    rintro e w4 ⟨u1, u2, u3, rfl, hD, ap, hb4⟩
    obtain ⟨q1, n1, rfl, _⟩ := hD.live.open
    obtain ⟨q2, n2, rfl, _⟩ := hD.safe.open
    obtain ⟨q3, n3, rfl, _⟩ := hD.ops.open
    have yR := (hb4.block (w.heap.size + 1 + 1) (Array.getElem?_eq_some_iff.1 HZ.out).1).trans HZ.out
    have hB4 := HB3'.out.trans (hb4.mono HB3'.out.size)
    have HD := Lib.hid (hD.mono HB3'.out.size)
    have HY := Lib.hid yR
    have HB4 := Lib.hid hB4
    have HA := Lib.hid ap
    obtain ⟨⟨r0, r1, r2⟩, rf⟩ := dk_cells yR
    have rf0 := rf 0
    have rf1 := rf 1
    have rf2 := rf 2
    clear hD ap hb4 hB4 yR rf
    go_wp2
    refine bodyPost_ret (v := .tuple #[.agg #[.slice q1 L.length n1, .slice q2 d.safe.length n2, .slice q3 O.length n3], .int .i64 R]) (results_row_u Try.results23 _ _ (w.heap.size + 1 + 1) 27 _ (0, 0) _ rfl (set3 HY.out _ _ _) Try.underlying27 rfl (by kernel_rfl)) rfl ⟨_, _, _, by rw [HR.out], by rw [HV.out]; exact ⟨RowL.kept HD.out.live (grw_set3 _ _ _ _ _) (rowK HD.out.live HY.out (by decide)), RowL.kept HD.out.safe (grw_set3 _ _ _ _ _) (rowK HD.out.safe HY.out (by decide)), RowL.kept HD.out.ops (grw_set3 _ _ _ _ _) (rowK HD.out.ops HY.out (by decide))⟩, HA.out, below_grw HB4.out (grw_set3 _ _ _ _ _) HB4.out.size (fun q hq => by cases hq; omega)⟩

end Go.Proofs.Ytepefbfmjjnamaa

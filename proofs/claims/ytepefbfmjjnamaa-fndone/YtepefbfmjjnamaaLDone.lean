/- Proved: for every code FnDone returns true: Do answers as the specification does; what is appended, renamed or removed is so when it is read behind it, in one operation more, and a disk on which nothing was done keeps its files (codes of more than 2^20 bytes are passed over by the law itself). No condition. -/
import Derived.Test.YtepefbfmjjnamaaRows
import Derived.WalkKit
import Derived.ProofKit
import Derived.OpenShut
import Derived.ShutString
import Derived.ChangeOld
import Derived.Below
import Derived.Test.YtepefbfmjjnamaaMrgC
import Derived.Test.YtepefbfmjjnamaaMrgA
namespace Go.Proofs.Ytepefbfmjjnamaa.fnDone
open Go.ChangeShapes Go.WideShapes Go.ChangeAt Go.RowKit Go.My Go.Lib
set_option linter.unusedVariables false

theorem own : ownKnob Try.prog.godebug = none := by kernel_rfl
theorem laidOut : laidOutB Try.prog = true := by kernel_rfl
/-- What stands between two steps. -/
structure LJ (k3 k4 k5 : Nat) (x1 x2 x3 y1 y2 y3 : Value) (d E : DiskT) (k : Int) (n t x : ByteArray) (w0 w : World) : Prop where
  b3 : w.heap[k3]? = some (.cells #[x1, x2, x3] 27 (0, 0))
  b4 : w.heap[k4]? = some (.cells #[.int .i64 k, .string n, .string t, .string x] 36 (0, 0))
  b5 : w.heap[k5]? = some (.cells #[y1, y2, y3] 27 (0, 0))
  D : DiskIn x1 x2 x3 d w
  A : DiskIn y1 y2 y3 E w
  G : Below w0.heap.size w0 w
theorem LJ.below {k3 k4 k5 : Nat} {x1 x2 x3 y1 y2 y3 : Value} {d E : DiskT} {k : Int} {n t x : ByteArray} {w0 w wz : World} (h : LJ k3 k4 k5 x1 x2 x3 y1 y2 y3 d E k n t x w0 w) (hb : Below w.heap.size w wz) : LJ k3 k4 k5 x1 x2 x3 y1 y2 y3 d E k n t x w0 wz :=
  ⟨(hb.block _ (Array.getElem?_eq_some_iff.1 h.b3).1).trans h.b3, (hb.block _ (Array.getElem?_eq_some_iff.1 h.b4).1).trans h.b4, (hb.block _ (Array.getElem?_eq_some_iff.1 h.b5).1).trans h.b5, h.D.below hb, h.A.below hb, h.G.trans (hb.mono h.G.size)⟩
theorem same_self (v1 v2 : Value) (l : List FileT) (w : World) (h1 : FilesAt 0 v1 l w) (h2 : FilesAt 0 v2 l w) (hl : l.length ≤ 1048576) :
    Calls Try.prog 21 #[v1, v2] w fun e w' => e = .returned (.bool true) ∧ Below w.heap.size w w' := by
  have q := sameFiles_any v1 v2 l l w h1 h2 hl hl
  rw [decide_eq_true (show l = l from rfl)] at q
  exact q
theorem rdS_yes {d : DiskT} {n : ByteArray} (h : diskB d = true) : rdS d n = dataOf d.live n := by unfold rdS; rw [if_pos h]
theorem rdB_yes {d : DiskT} {n : ByteArray} (h : diskB d = true) : rdB d n = (idxL d.live n).isSome := by unfold rdB; rw [h]; rfl
theorem done_is {d : DiskT} {op : DOpT} (hk : diskB d = true) (h : doC d.live d.ops op = 0) : doD d op = ⟨aftL d.live op, d.safe, d.ops ++ [op]⟩ := by
  rw [doD_yes hk]
  unfold doL doO
  rw [if_pos h, if_pos h]
theorem not_done {d : DiskT} {op : DOpT} (hk : diskB d = true) (h : doC d.live d.ops op ≠ 0) : doD d op = d := by
  rw [doD_yes hk]
  unfold doL doO
  rw [if_neg h, if_neg h]
theorem kinds {d : DiskT} {op : DOpT} (h : doC d.live d.ops op = 0) : op.1 = 1 ∨ op.1 = 2 ∨ op.1 = 3 := by
  have h1 : opB op = true := by
    cases c : opB op with
    | true => rfl
    | false => unfold doC at h; rw [c, if_pos rfl] at h; cases h
  unfold opB at h1
  simp only [Bool.and_eq_true, decide_eq_true_eq] at h1
  omega

set_option maxRecDepth 100000 in
set_option maxHeartbeats 16000000 in
theorem walk (w : World) (a0 : Option Addr) (len0 cap0 : Nat) (z0 : List Int) (w0 : IsRow .u8 w a0 len0 cap0 z0) :
    Calls Try.prog 4 #[.slice a0 len0 cap0] w fun e w' => e = .returned (.bool true) ∧ Below w.heap.size w w' := by
  have hmax : len0 ≤ 9223372036854775807 := by
    rcases w0 with ⟨_, rfl, _⟩ | ⟨x, _, h1, h2, _⟩
    · omega
    · unfold maxLen at h2; omega
  by_cases hl : len0 ≤ 1048576
  case neg =>
    have hd : decide (1048576 < (len0 : Int)) = true := by simp; omega
    go_enter Try.func4, Try.ntmps4
    go_wp2_with fail
    refine (big_any _ _ _ _ hmax).mono ?_
    rintro e w' ⟨rfl, rfl⟩
    rw [hd]
    go_wp2
    go_ret
    exact ⟨rfl, Below.refl _ _⟩
  have hd : decide (1048576 < (len0 : Int)) = false := by simp; omega
  have hc := code_of_row w0 hl
  clear w0 hl
  go_enter Try.func4, Try.ntmps4
  go_wp2_with fail
  refine (big_any _ _ _ _ hmax).mono ?_
  rintro e w' ⟨rfl, rfl⟩
  rw [hd]
  clear hd hmax
  go_wp2_with fail
  refine (draw_do w.heap.size a0 len0 cap0 _ (Nat.le_refl _) hc).mono ?_
  rintro e wd ⟨u1, u2, u3, d, k, n, t, x, rfl, hf, hdk, hop, hb⟩
  obtain ⟨p1, m1, rfl, _⟩ := hdk.live.open
  obtain ⟨p2, m2, rfl, _⟩ := hdk.safe.open
  obtain ⟨p3, m3, rfl, _⟩ := hdk.ops.open
  have HF := Lib.hid hf
  have HO := Lib.hid hop
  have hal : Below wd.heap.size wd ((wd.alloc (.cells #[.slice p1 d.live.length m1, .slice p2 d.safe.length m2, .slice p3 d.ops.length m3] 27)).alloc (.cells #[.int .i64 k, .string n, .string t, .string x] 36)) := ((Below.refl _ _).alloc (Nat.le_refl _) _).alloc (by simp) _
  obtain ⟨_, x1, x2⟩ := boxes2 wd (.cells #[.slice p1 d.live.length m1, .slice p2 d.safe.length m2, .slice p3 d.ops.length m3] 27) (.cells #[.int .i64 k, .string n, .string t, .string x] 36) _ (Below.refl _ _)
  have HI := Lib.hid (And.intro x1 (And.intro x2 (And.intro (hdk.below hal) (hb.trans (hal.mono hb.size)))))
  clear hc hf hdk hal hb hop x1 x2
  go_upto_region 4 with (fail)
  generalize (wd.alloc (.cells #[.slice p1 d.live.length m1, .slice p2 d.safe.length m2, .slice p3 d.ops.length m3] 27)).alloc (.cells #[.int .i64 k, .string n, .string t, .string x] 36) = w4 at HI ⊢
  generalize wd.heap.size + 1 = k4 at HI ⊢
  generalize wd.heap.size = k3 at HI ⊢
  obtain ⟨c, hc⟩ : ∃ c, doR d (k, n, t, x) = c := ⟨_, rfl⟩
  obtain ⟨E, hE⟩ : ∃ E, doD d (k, n, t, x) = E := ⟨_, rfl⟩
  have C4 := Lib.hid (doD_in (.slice p1 d.live.length m1) (.slice p2 d.safe.length m2) (.slice p3 d.ops.length m3) d k n t x w4 HI.out.2.2.1 HF.out (Nat.le_trans HO.out.2.1 (by decide)) (Nat.le_trans HO.out.2.2.1 (by decide)) (Nat.le_trans HO.out.2.2.2 (by decide)))
  have C5 := Lib.hid (fun W (hW : DiskIn (.slice p1 d.live.length m1) (.slice p2 d.safe.length m2) (.slice p3 d.ops.length m3) d W) => doD_sn (.slice p1 d.live.length m1) (.slice p2 d.safe.length m2) (.slice p3 d.ops.length m3) d k n t x W hW HF.out HO.out.1 (Nat.le_trans HO.out.2.1 (by decide)) (Nat.le_trans HO.out.2.2.1 (by decide)) (Nat.le_trans HO.out.2.2.2 (by decide)))
  have HEF := Lib.hid (show E.fit by rw [← hE]; exact fit_doD HF.out ⟨HO.out.1, Nat.le_trans HO.out.2.1 (by decide), Nat.le_trans HO.out.2.2.1 (by decide), Nat.le_trans HO.out.2.2.2 (by decide)⟩)
  rw [hc, hE] at C4
  rw [hc] at C5
  have HC := Lib.hid hc
  have HE := Lib.hid hE
  clear hc hE
  obtain ⟨⟨b0, b1, b2⟩, _⟩ := dk_cells HI.out.1
  obtain ⟨⟨o0, o1, o2, o3⟩, _⟩ := dop_cells HI.out.2.1
  go_wp2_with fail
  refine C4.out.mono ?_
  rintro e w5 ⟨y1, y2, y3, rfl, hA, _, hb⟩
  obtain ⟨q1, c1, rfl, _⟩ := hA.live.open
  obtain ⟨q2, c2, rfl, _⟩ := hA.safe.open
  obtain ⟨q3, c3, rfl, _⟩ := hA.ops.open
  have hal : Below w5.heap.size w5 (w5.alloc (.cells #[.slice q1 E.live.length c1, .slice q2 E.safe.length c2, .slice q3 E.ops.length c3] 27)) := (Below.refl _ _).alloc (Nat.le_refl _) _
  have hb2 := hb.trans (hal.mono hb.size)
  have HJ := Lib.hid (show LJ k3 k4 w5.heap.size (.slice p1 d.live.length m1) (.slice p2 d.safe.length m2) (.slice p3 d.ops.length m3) (.slice q1 E.live.length c1) (.slice q2 E.safe.length c2) (.slice q3 E.ops.length c3) d E k n t x w (w5.alloc (.cells #[.slice q1 E.live.length c1, .slice q2 E.safe.length c2, .slice q3 E.ops.length c3] 27)) from
    ⟨(hb2.block _ (Array.getElem?_eq_some_iff.1 HI.out.1).1).trans HI.out.1, (hb2.block _ (Array.getElem?_eq_some_iff.1 HI.out.2.1).1).trans HI.out.2.1, heap_alloc_new w5 _, HI.out.2.2.1.below hb2, hA.toIn.below hal, HI.out.2.2.2.trans (hb2.mono HI.out.2.2.2.size)⟩)
  clear hal hb2 hb hA HI C4 b0 b1 b2 o0 o1 o2 o3
  go_upto_region 5 with (fail)
  generalize w5.alloc (.cells #[.slice q1 E.live.length c1, .slice q2 E.safe.length c2, .slice q3 E.ops.length c3] 27) = w6 at HJ ⊢
  generalize w5.heap.size = k5 at HJ ⊢
  obtain ⟨⟨b0, b1, b2⟩, _⟩ := dk_cells HJ.out.b3
  obtain ⟨⟨o0, o1, o2, o3⟩, _⟩ := dop_cells HJ.out.b4
  go_wp2_with fail
  refine (C5.out _ HJ.out.D).mono ?_
  rintro e w7 ⟨y1, y2, y3, rfl, hS, hb⟩
  obtain ⟨s1, v1, rfl, _⟩ := hS.live.open
  obtain ⟨s2, v2, rfl, _⟩ := hS.safe.open
  obtain ⟨s3, v3, rfl, _⟩ := hS.ops.open
  clear hS b0 b1 b2 o0 o1 o2 o3
  generalize (doD d (k, n, t, x)).live.length = l1
  generalize (doD d (k, n, t, x)).safe.length = l2
  generalize (doD d (k, n, t, x)).ops.length = l3
  have hal : Below w7.heap.size w7 (w7.alloc (.cells #[.slice s1 l1 v1, .slice s2 l2 v2, .slice s3 l3 v3] 27)) := (Below.refl _ _).alloc (Nat.le_refl _) _
  have HJ := Lib.hid ((HJ.out.below hb).below hal)
  clear hb hal C5
  go_upto_region 6 with (fail)
  generalize w7.alloc (.cells #[.slice s1 l1 v1, .slice s2 l2 v2, .slice s3 l3 v3] 27) = w8 at HJ ⊢
  generalize w7.heap.size = k7
  have hqn : (c != c) = false := by simp
  have hqe : (c == c) = true := by simp
  obtain ⟨K, hK⟩ : ∃ K, diskB d = K := ⟨_, rfl⟩
  have C6 := Lib.hid (disk_sn (.slice p1 d.live.length m1) (.slice p2 d.safe.length m2) (.slice p3 d.ops.length m3) d w8 HJ.out.D HF.out)
  rw [hK] at C6
  have HK := Lib.hid hK
  clear hK
  obtain ⟨⟨b0, b1, b2⟩, _⟩ := dk_cells HJ.out.b3
  go_wp2_with fail
  refine C6.out.mono ?_
  rintro e w9 ⟨rfl, hb⟩
  have HJ := Lib.hid (HJ.out.below hb)
  clear hb b0 b1 b2 C6
  cases K with
  | false =>
    go_wp2
    go_ret
    exact ⟨by first | rfl | (rw [hqe]; rfl) | simp, HJ.out.G⟩
  | true =>
    have hk : diskB d = true := HK.out
    have hcc : c = doC d.live d.ops (k, n, t, x) := by rw [← HC.out]; exact doR_yes hk
    by_cases hz : c = 0
    case neg =>
      have hz' : (c != 0) = true := by simpa using hz
      have hEd : E = d := by rw [← HE.out]; exact not_done hk (by rw [← hcc]; exact hz)
      subst hEd
      have hll : ((E.ops.length : Int) == (E.ops.length : Int)) = true := by simp
      have CF := Lib.hid (fun W (v1 v2 : Value) (l : List FileT) (h1 : FilesAt 0 v1 l W) (h2 : FilesAt 0 v2 l W) (hl : l.length ≤ 1048576) => same_self v1 v2 l W h1 h2 hl)
      clear hz hcc
      obtain ⟨⟨b0, b1, b2⟩, _⟩ := dk_cells HJ.out.b3
      obtain ⟨⟨a0, a1, a2⟩, _⟩ := dk_cells HJ.out.b5
      have CS := Lib.hid (CF.out _ _ _ E.live HJ.out.A.live HJ.out.D.live (by have := HF.out.small.live; omega))
      go_wp2_with fail
      refine CS.out.mono ?_
      rintro e wa ⟨rfl, hb⟩
      have HJ := Lib.hid (HJ.out.below hb)
      clear hb a0 a1 a2 b0 b1 b2 CS
      obtain ⟨⟨b0, b1, b2⟩, _⟩ := dk_cells HJ.out.b3
      obtain ⟨⟨a0, a1, a2⟩, _⟩ := dk_cells HJ.out.b5
      have CS := Lib.hid (CF.out _ _ _ E.safe HJ.out.A.safe HJ.out.D.safe (by have := HF.out.small.safe; omega))
      go_wp2_with fail
      refine CS.out.mono ?_
      rintro e wb ⟨rfl, hb⟩
      have HJ := Lib.hid (HJ.out.below hb)
      clear hb a0 a1 a2 b0 b1 b2 CS
      obtain ⟨⟨b0, b1, b2⟩, _⟩ := dk_cells HJ.out.b3
      obtain ⟨⟨a0, a1, a2⟩, _⟩ := dk_cells HJ.out.b5
      go_wp2
      go_ret
      exact ⟨by first | rfl | (rw [hll]; rfl) | simp, HJ.out.G⟩
    case pos =>
      subst hz
      have hdc : doC d.live d.ops (k, n, t, x) = 0 := hcc.symm
      have hEE : E = ⟨aftL d.live (k, n, t, x), d.safe, d.ops ++ [(k, n, t, x)]⟩ := by rw [← HE.out]; exact done_is hk hdc
      have hkE : diskB E = true := by rw [← HE.out]; exact done_ok hk hdc
      have hkin := kinds hdc
      have HDC := Lib.hid hdc
      have CR := Lib.hid (fun W v1 v2 v3 (F : DiskT) (m : ByteArray) (h : DiskIn v1 v2 v3 F W) (hf : F.fit) (hF : diskB F = true) => by
        have q := readFile_in v1 v2 v3 F m W h hf
        rw [rdS_yes hF, rdB_yes hF] at q
        exact q)
      have CF := Lib.hid (fun W (v1 v2 : Value) (l : List FileT) (h1 : FilesAt 0 v1 l W) (h2 : FilesAt 0 v2 l W) (hl : l.length ≤ 1048576) => same_self v1 v2 l W h1 h2 hl)
      have CO := Lib.hid (fun W (h : DiskIn (.slice q1 E.live.length c1) (.slice q2 E.safe.length c2) (.slice q3 E.ops.length c3) E W) => diskOk_in (.slice q1 E.live.length c1) (.slice q2 E.safe.length c2) (.slice q3 E.ops.length c3) E W h HEF.out)
      rw [hkE] at CO
      have HkE := Lib.hid hkE
      have HEE := Lib.hid hEE
      have Hsafe := Lib.hid (show E.safe = d.safe by rw [hEE])
      have hlen : ((E.ops.length : Int) == (d.ops.length : Int) + 1) = true := by rw [hEE]; simp
      have hlen2 : (d.ops.length : Int) + 1 ≤ 1048577 := by have := HF.out.small.ops; omega
      obtain ⟨S, hS⟩ : ∃ S, dataOf E.live n = S := ⟨_, rfl⟩
      obtain ⟨H, hH⟩ : ∃ H, (idxL E.live n).isSome = H := ⟨_, rfl⟩
      obtain ⟨S0, hS0⟩ : ∃ S0, dataOf d.live n = S0 := ⟨_, rfl⟩
      obtain ⟨H0, hH0⟩ : ∃ H0, (idxL d.live n).isSome = H0 := ⟨_, rfl⟩
      obtain ⟨ST, hST⟩ : ∃ S, dataOf E.live t = S := ⟨_, rfl⟩
      obtain ⟨HT, hHT⟩ : ∃ H, (idxL E.live t).isSome = H := ⟨_, rfl⟩
      have CA := Lib.hid (fun W (h : DiskIn (.slice q1 E.live.length c1) (.slice q2 E.safe.length c2) (.slice q3 E.ops.length c3) E W) => CR.out W (.slice q1 E.live.length c1) (.slice q2 E.safe.length c2) (.slice q3 E.ops.length c3) E n h HEF.out HkE.out)
      have CD := Lib.hid (fun W (h : DiskIn (.slice p1 d.live.length m1) (.slice p2 d.safe.length m2) (.slice p3 d.ops.length m3) d W) => CR.out W (.slice p1 d.live.length m1) (.slice p2 d.safe.length m2) (.slice p3 d.ops.length m3) d n h HF.out hk)
      have CT := Lib.hid (fun W (h : DiskIn (.slice q1 E.live.length c1) (.slice q2 E.safe.length c2) (.slice q3 E.ops.length c3) E W) => CR.out W (.slice q1 E.live.length c1) (.slice q2 E.safe.length c2) (.slice q3 E.ops.length c3) E t h HEF.out HkE.out)
      rw [hS, hH] at CA
      rw [hS0, hH0] at CD
      rw [hST, hHT] at CT
      have hs0 : S0.size ≤ 1048576 := by
        rw [← hS0]
        have h1 := cut_data d.live n
        have h2 := HF.out.sums.1
        omega
      clear hdc hcc hEE hkE hk
      obtain ⟨⟨o0, o1, o2, o3⟩, _⟩ := dop_cells HJ.out.b4
      obtain ⟨⟨a0, a1, a2⟩, _⟩ := dk_cells HJ.out.b5
      go_wp2_with fail
      refine (CA.out _ HJ.out.A).mono ?_
      rintro e wa ⟨rfl, hb⟩
      have HJ := Lib.hid (HJ.out.below hb)
      clear hb a0 a1 a2 o0 o1 o2 o3
      obtain ⟨⟨o0, o1, o2, o3⟩, _⟩ := dop_cells HJ.out.b4
      obtain ⟨⟨b0, b1, b2⟩, _⟩ := dk_cells HJ.out.b3
      go_wp2_with fail
      refine (CD.out _ HJ.out.D).mono ?_
      rintro e wb ⟨rfl, hb⟩
      have HJ := Lib.hid (HJ.out.below hb)
      clear hb b0 b1 b2 o0 o1 o2 o3
      go_upto_region 12 with (fail)
      rcases hkin with hk1 | hk2 | hk3
      · have hk1 : k = 1 := hk1
        subst hk1
        have sa := seen_append HDC.out rfl
        have eL : aftL d.live (1, n, t, x) = E.live := by rw [HEE.out]
        rw [eL, hH, hS, hS0] at sa
        obtain ⟨rfl, hS1⟩ : H = true ∧ S = S0 ++ x := sa
        have hx : x.size ≤ 8 := HO.out.2.2.2
        have hadd : S0.size + x.size ≤ 1048584 := by omega
        have hq : ((S0 ++ x).toList != (S0 ++ x).toList) = false := by simp
        subst hS1
        clear eL
        obtain ⟨⟨o0, o1, o2, o3⟩, _⟩ := dop_cells HJ.out.b4
        obtain ⟨⟨a0, a1, a2⟩, _⟩ := dk_cells HJ.out.b5
        go_wp2_with fail
        refine (CO.out _ HJ.out.A).mono ?_
        rintro e wy ⟨rfl, hb⟩
        have HJ := Lib.hid (HJ.out.below hb)
        clear hb a0 a1 a2
        obtain ⟨⟨b0, b1, b2⟩, _⟩ := dk_cells HJ.out.b3
        obtain ⟨⟨a0, a1, a2⟩, _⟩ := dk_cells HJ.out.b5
        have CS := Lib.hid (CF.out _ (.slice q2 E.safe.length c2) (.slice p2 d.safe.length m2) d.safe (by have h := HJ.out.A.safe; rw [show E.safe = d.safe from Hsafe.out] at h ⊢; exact h) HJ.out.D.safe (by have := HF.out.small.safe; omega))
        go_wp2_with fail
        refine CS.out.mono ?_
        rintro e wz ⟨rfl, hb⟩
        have HJ := Lib.hid (HJ.out.below hb)
        clear hb a0 a1 a2 b0 b1 b2 CS
        obtain ⟨⟨b0, b1, b2⟩, _⟩ := dk_cells HJ.out.b3
        obtain ⟨⟨a0, a1, a2⟩, _⟩ := dk_cells HJ.out.b5
        go_wp2
        go_ret
        exact ⟨by first | rfl | (rw [hlen]; rfl) | simp, HJ.out.G⟩
      · have hk2 : k = 2 := hk2
        subst hk2
        have sa := seen_rename HDC.out rfl
        have eL : aftL d.live (2, n, t, x) = E.live := by rw [HEE.out]
        rw [eL, hHT, hST, hS0, hH] at sa
        obtain ⟨rfl, hS1, hH1⟩ : HT = true ∧ ST = S0 ∧ H = decide (t = n) := sa
        subst hS1
        have hq : (ST.toList != ST.toList) = false := by simp
        have h21 : ((2 : Int) == 1) = false := by decide
        by_cases htn : t = n
        · have hH2 : H = true := by rw [hH1]; exact decide_eq_true htn
          have hq2 : (t.toList == n.toList) = true := by rw [htn]; simp
          subst hH2
          clear eL hH1 htn
          obtain ⟨⟨o0, o1, o2, o3⟩, _⟩ := dop_cells HJ.out.b4
          obtain ⟨⟨a0, a1, a2⟩, _⟩ := dk_cells HJ.out.b5
          go_wp2_with fail
          refine (CT.out _ HJ.out.A).mono ?_
          rintro e wt ⟨rfl, hb⟩
          have HJ := Lib.hid (HJ.out.below hb)
          clear hb a0 a1 a2 o0 o1 o2 o3
          obtain ⟨⟨o0, o1, o2, o3⟩, _⟩ := dop_cells HJ.out.b4
          obtain ⟨⟨a0, a1, a2⟩, _⟩ := dk_cells HJ.out.b5
          go_wp2_with fail
          refine (CO.out _ HJ.out.A).mono ?_
          rintro e wy ⟨rfl, hb⟩
          have HJ := Lib.hid (HJ.out.below hb)
          clear hb a0 a1 a2
          obtain ⟨⟨b0, b1, b2⟩, _⟩ := dk_cells HJ.out.b3
          obtain ⟨⟨a0, a1, a2⟩, _⟩ := dk_cells HJ.out.b5
          have CS := Lib.hid (CF.out _ (.slice q2 E.safe.length c2) (.slice p2 d.safe.length m2) d.safe (by have h := HJ.out.A.safe; rw [show E.safe = d.safe from Hsafe.out] at h ⊢; exact h) HJ.out.D.safe (by have := HF.out.small.safe; omega))
          go_wp2_with fail
          refine CS.out.mono ?_
          rintro e wz ⟨rfl, hb⟩
          have HJ := Lib.hid (HJ.out.below hb)
          clear hb a0 a1 a2 b0 b1 b2 CS
          obtain ⟨⟨b0, b1, b2⟩, _⟩ := dk_cells HJ.out.b3
          obtain ⟨⟨a0, a1, a2⟩, _⟩ := dk_cells HJ.out.b5
          go_wp2
          go_ret
          exact ⟨by first | rfl | (rw [hlen]; rfl) | simp, HJ.out.G⟩
        · have hH2 : H = false := by rw [hH1]; exact decide_eq_false htn
          have hq2 : (t.toList == n.toList) = false := neq_lst htn
          subst hH2
          clear eL hH1 htn
          obtain ⟨⟨o0, o1, o2, o3⟩, _⟩ := dop_cells HJ.out.b4
          obtain ⟨⟨a0, a1, a2⟩, _⟩ := dk_cells HJ.out.b5
          go_wp2_with fail
          refine (CT.out _ HJ.out.A).mono ?_
          rintro e wt ⟨rfl, hb⟩
          have HJ := Lib.hid (HJ.out.below hb)
          clear hb a0 a1 a2 o0 o1 o2 o3
          obtain ⟨⟨o0, o1, o2, o3⟩, _⟩ := dop_cells HJ.out.b4
          obtain ⟨⟨a0, a1, a2⟩, _⟩ := dk_cells HJ.out.b5
          go_wp2_with fail
          refine (CO.out _ HJ.out.A).mono ?_
          rintro e wy ⟨rfl, hb⟩
          have HJ := Lib.hid (HJ.out.below hb)
          clear hb a0 a1 a2
          obtain ⟨⟨b0, b1, b2⟩, _⟩ := dk_cells HJ.out.b3
          obtain ⟨⟨a0, a1, a2⟩, _⟩ := dk_cells HJ.out.b5
          have CS := Lib.hid (CF.out _ (.slice q2 E.safe.length c2) (.slice p2 d.safe.length m2) d.safe (by have h := HJ.out.A.safe; rw [show E.safe = d.safe from Hsafe.out] at h ⊢; exact h) HJ.out.D.safe (by have := HF.out.small.safe; omega))
          go_wp2_with fail
          refine CS.out.mono ?_
          rintro e wz ⟨rfl, hb⟩
          have HJ := Lib.hid (HJ.out.below hb)
          clear hb a0 a1 a2 b0 b1 b2 CS
          obtain ⟨⟨b0, b1, b2⟩, _⟩ := dk_cells HJ.out.b3
          obtain ⟨⟨a0, a1, a2⟩, _⟩ := dk_cells HJ.out.b5
          go_wp2
          go_ret
          exact ⟨by first | rfl | (rw [hlen]; rfl) | simp, HJ.out.G⟩
      · have hk3 : k = 3 := hk3
        subst hk3
        have sa := seen_remove (d := d) (op := (3, n, t, x)) (show (3 : Int) ≠ 1 by decide) (show (3 : Int) ≠ 2 by decide)
        have eL : aftL d.live (3, n, t, x) = E.live := by rw [HEE.out]
        rw [eL, hH] at sa
        obtain rfl : H = false := sa
        have h31 : ((3 : Int) == 1) = false := by decide
        have h32 : ((3 : Int) == 2) = false := by decide
        clear eL
        obtain ⟨⟨o0, o1, o2, o3⟩, _⟩ := dop_cells HJ.out.b4
        obtain ⟨⟨a0, a1, a2⟩, _⟩ := dk_cells HJ.out.b5
        go_wp2_with fail
        refine (CO.out _ HJ.out.A).mono ?_
        rintro e wy ⟨rfl, hb⟩
        have HJ := Lib.hid (HJ.out.below hb)
        clear hb a0 a1 a2
        obtain ⟨⟨b0, b1, b2⟩, _⟩ := dk_cells HJ.out.b3
        obtain ⟨⟨a0, a1, a2⟩, _⟩ := dk_cells HJ.out.b5
        have CS := Lib.hid (CF.out _ (.slice q2 E.safe.length c2) (.slice p2 d.safe.length m2) d.safe (by have h := HJ.out.A.safe; rw [show E.safe = d.safe from Hsafe.out] at h ⊢; exact h) HJ.out.D.safe (by have := HF.out.small.safe; omega))
        go_wp2_with fail
        refine CS.out.mono ?_
        rintro e wz ⟨rfl, hb⟩
        have HJ := Lib.hid (HJ.out.below hb)
        clear hb a0 a1 a2 b0 b1 b2 CS
        obtain ⟨⟨b0, b1, b2⟩, _⟩ := dk_cells HJ.out.b3
        obtain ⟨⟨a0, a1, a2⟩, _⟩ := dk_cells HJ.out.b5
        go_wp2
        go_ret
        exact ⟨by first | rfl | (rw [hlen]; rfl) | simp, HJ.out.G⟩

set_option maxRecDepth 100000 in
theorem lifted (os : Os) (started : os.Started) (H : Type) (enc : TypeId × Value → H) :
    ReturnsInHanded {} Try.checked os 4 .any (Rows.fnDoneSpec.pre6 enc Try.prog Try.f4 Rows.fnDoneRow.domain false) (Rows.fnDoneSpec.post enc Try.prog Try.f4 false true false false) := by
  refine returnsInHanded_of_change (C := Try.checked) own started (by kernel_rfl) Try.func4
    (ChangeSpec.witness6 (enc := enc) (C := Try.checked) false ⟨#[], #[.slice none 0 0], []⟩ 8 (by kernel_rfl) (by kernel_rfl) (by kernel_rfl) (by kernel_rfl)) ?_
  intro W base args ds gs before hval0 hW hcnd _
  have hval : ∀ (j : Nat) t v, Try.f4.params[j]? = some t → args[j]? = some v → Value.okWide Try.prog W .any base t v := hval0
  have hW' := hW
  obtain ⟨p, q, hA0, hV, rfl, hfz, hnd⟩ := hW
  have hA : DataW.TrodAll enc Try.prog W 0 (fun _ => true) true Try.f4.params.toList args.toList ds p := hA0
  rw [Try.params4] at hA hval
  obtain ⟨v0, vs0, d0, ds0, p0, q0, hargs, rfl, rfl, h0, r0⟩ := trodAll_cons hA
  obtain ⟨rfl, rfl, rfl⟩ := trodAll_nil r0
  obtain rfl : args = #[v0] := by cases args; simp_all
  obtain ⟨rfl, rfl⟩ := trodVars_none hV
  obtain ⟨a0, len0, cap0, rfl⟩ := okWide_slice Try.underlying22 (hval 0 22 v0 rfl rfl)
  have k0 := h0
  have lt0 : ∀ x ∈ p0, x.block < W.heap.size := by obtain ⟨m, hm⟩ := k0; exact DataW.trod_lt m _ _ _ hm
  obtain ⟨z0, w0⟩ : ∃ zs, My.IsRow .u8 W a0 len0 cap0 zs := by
    obtain ⟨fuel, hf⟩ := h0
    rcases open_ints Try.underlying22 Try.underlying5 (by kernel_rfl) hf with ⟨hcs, _⟩ | ⟨x, l, c, zs, hcs, _, hl, hm, hz, _, hcell, hwz⟩
    · simp [Value.cells] at hcs
      obtain ⟨rfl, rfl, rfl⟩ := hcs
      exact ⟨[], .inl ⟨rfl, rfl, rfl, rfl⟩⟩
    · simp [Value.cells] at hcs
      obtain ⟨rfl, rfl, rfl⟩ := hcs
      exact ⟨zs, .inr ⟨_, rfl, hl, hm, by simpa using hz, hcell, hwz⟩⟩
  clear hA0 hval0
  refine (walk W a0 len0 cap0 z0 w0).mono fun e W' ⟨he, bel⟩ => ?_
  subst he
  exact ⟨_, rfl, _, _, _, [], _, [], hW', trodAll_mk1 (shut_bool Try.underlying4 _), (trodAll_cons_mk (Below.trod laidOut (by kernel_rfl) (of_decide_eq_true (by kernel_rfl)) k0 bel lt0) trodAll_mk0), rfl, bel.frame _, fun h => by cases h⟩

theorem proved : Rows.FnDoneSaid :=
  OpenClaim.holds_of_wide 4 Try.f4 rfl rfl rfl rfl rfl rfl rfl ⟨rfl, rfl, rfl, rfl, rfl⟩ rfl rfl rfl rfl rfl (by kernel_rfl) Try.func4 (by kernel_rfl)
    (of_decide_eq_true (by kernel_rfl)) (by unfold Func.isWrapper; first | (rw [if_pos (by decide +kernel)]; kernel_rfl) | (rw [if_neg (by decide +kernel)]; exact ⟨rfl, rfl⟩))
    (fun os started H enc _ => lifted os started H enc)
end Go.Proofs.Ytepefbfmjjnamaa.fnDone

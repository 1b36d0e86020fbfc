/- Proved: for every code FnReplaced returns true: Replace answers as the specification does, and a file that is replaced is, behind any loss of power, the old one or the new one (codes of more than 2^20 bytes are passed over by the law itself). No condition. -/
import Derived.Test.YtepefbfmjjnamaaRows
import Derived.WalkKit
import Derived.ProofKit
import Derived.OpenShut
import Derived.ShutString
import Derived.ChangeOld
import Derived.Below
import Derived.Test.YtepefbfmjjnamaaMrgC
namespace Go.Proofs.Ytepefbfmjjnamaa.fnReplaced
open Go.ChangeShapes Go.WideShapes Go.ChangeAt Go.RowKit Go.My Go.Lib
set_option linter.unusedVariables false

theorem own : ownKnob Try.prog.godebug = none := by kernel_rfl
theorem laidOut : laidOutB Try.prog = true := by kernel_rfl
/-- What stands between two steps. -/
structure RJ (B k3 k6 : Nat) (x1 x2 x3 y1 y2 y3 : Value) (d E : DiskT) (a0 : Option Addr) (len0 : Nat) (w0 w : World) : Prop where
  b3 : w.heap[k3]? = some (.cells #[x1, x2, x3] 27 (0, 0))
  b6 : w.heap[k6]? = some (.cells #[y1, y2, y3] 27 (0, 0))
  D : DiskIn x1 x2 x3 d w
  A : DiskIn y1 y2 y3 E w
  C : RdCode B w a0 len0
  G : Below B w0 w
  s : B ≤ w.heap.size
theorem RJ.below {B k3 k6 : Nat} {x1 x2 x3 y1 y2 y3 : Value} {d E : DiskT} {a0 : Option Addr} {len0 : Nat} {w0 w wz : World} (h : RJ B k3 k6 x1 x2 x3 y1 y2 y3 d E a0 len0 w0 w) (hb : Below w.heap.size w wz) : RJ B k3 k6 x1 x2 x3 y1 y2 y3 d E a0 len0 w0 wz :=
  ⟨(hb.block _ (Array.getElem?_eq_some_iff.1 h.b3).1).trans h.b3, (hb.block _ (Array.getElem?_eq_some_iff.1 h.b6).1).trans h.b6, h.D.below hb, h.A.below hb, h.C.below (hb.mono h.s), h.G.trans (hb.mono h.s), Nat.le_trans h.s hb.size⟩
theorem rdS_yes {d : DiskT} {n : ByteArray} (h : diskB d = true) : rdS d n = dataOf d.live n := by unfold rdS; rw [if_pos h]
theorem rdB_yes {d : DiskT} {n : ByteArray} (h : diskB d = true) : rdB d n = (idxL d.live n).isSome := by unfold rdB; rw [h]; rfl
/-- What is read of a disk that is right. -/
theorem read_ok (v1 v2 v3 : Value) (d : DiskT) (n : ByteArray) (w : World) (h : DiskIn v1 v2 v3 d w) (hd : d.fit) (hk : diskB d = true) :
    Calls Try.prog 25 #[.agg #[v1, v2, v3], .string n] w fun e w' => e = .returned (.tuple #[.string (dataOf d.live n), .bool (idxL d.live n).isSome]) ∧ Below w.heap.size w w' := by
  have q := readFile_in v1 v2 v3 d n w h hd
  rw [rdS_yes hk, rdB_yes hk] at q
  exact q
theorem crash_left {E : DiskT} {L L2 : List FileT} {n x : ByteArray} (hE : E = ⟨L2, L, [(1, n ++ dotNew, ByteArray.mk #[], x), renO n]⟩) (hL : filesB L = true) (h : (idxL L (n ++ dotNew)).isSome = false) (R : RepF L L2 n x) (hfit : E.fit) {K : List Int} (hK : K ∈ kp 2) (T : Int) (hT : 0 ≤ T) (v1 v2 v3 vk : Value) (w : World) (hD : DiskIn v1 v2 v3 E w) (hKR : RowL 0 2 1 numC vk K w) :
    Calls Try.prog 19 #[.agg #[v1, v2, v3], vk, .int .i64 T] w fun e w' => ∃ u1 u2 u3 M, e = .returned (.tuple #[.agg #[u1, u2, u3], .bool true]) ∧ DiskAt w.heap.size u1 u2 u3 ⟨M, M, []⟩ w' ∧ filesB M = true ∧ (((idxL M n).isSome = (idxL L n).isSome ∧ dataOf M n = dataOf L n) ∨ ((idxL M n).isSome = true ∧ dataOf M n = x)) ∧ Below w.heap.size w w' := by
  subst hE
  obtain ⟨M, e1, e2, hM, hh⟩ := rep_left hL h R hK T hT
  have q := crD_in v1 v2 v3 vk ⟨L2, L, [(1, n ++ dotNew, ByteArray.mk #[], x), renO n]⟩ K T w hD hfit hKR (by have := kp_len hK; omega)
  rw [e1, e2] at q
  refine q.mono ?_
  rintro e w' ⟨u1, u2, u3, rfl, hd, _, hb⟩
  exact ⟨u1, u2, u3, M, rfl, hd, hM, hh, hb⟩
theorem fit_new {L L2 : List FileT} {n x : ByteArray} (hL : filesB L = true) (R : RepF L L2 n x) (hn : n.size ≤ 98) (hx : x.size ≤ 3) : (DiskT.mk L2 L [(1, n ++ dotNew, ByteArray.mk #[], x), renO n]).fit := by
  refine fit_of_files R.f2 hL (by show 2 ≤ 200; omega) (fun a ha => ?_)
  have hs : (n ++ dotNew).size ≤ 1048576 := by rw [ByteArray.size_append, dotNew_size]; omega
  rcases List.mem_cons.1 ha with rfl | ha
  · exact ⟨by show (Lit.int .i64 1).wf = true; decide, hs, Nat.zero_le _, by show x.size ≤ _; omega⟩
  · rw [List.mem_singleton.1 ha]
    exact ⟨by show (Lit.int .i64 2).wf = true; decide, hs, by show n.size ≤ _; omega, Nat.zero_le _⟩
theorem fit_same {l : List FileT} (h : filesB l = true) : (DiskT.mk l l []).fit := fit_of_files h h (by simp) (fun a ha => by cases ha)

set_option maxRecDepth 100000 in
set_option maxHeartbeats 16000000 in
theorem walk (w : World) (a0 : Option Addr) (len0 cap0 : Nat) (z0 : List Int) (w0 : IsRow .u8 w a0 len0 cap0 z0) :
    Calls Try.prog 5 #[.slice a0 len0 cap0] w fun e w' => e = .returned (.bool true) ∧ Below w.heap.size w w' := by
  have hmax : len0 ≤ 9223372036854775807 := by
    rcases w0 with ⟨_, rfl, _⟩ | ⟨x, _, h1, h2, _⟩
    · omega
    · unfold maxLen at h2; omega
  by_cases hl : len0 ≤ 1048576
  case neg =>
    have hd : decide (1048576 < (len0 : Int)) = true := by simp; omega
    go_enter Try.func5, Try.ntmps5
    go_wp2_with fail
    refine (big_any _ _ _ _ hmax).mono ?_
    rintro e w' ⟨rfl, rfl⟩
    rw [hd]
    go_wp2
    go_ret
    exact ⟨rfl, Below.refl _ _⟩
  have hd : decide (1048576 < (len0 : Int)) = false := by simp; omega
  have hc := code_of_row w0 hl
  have hlI : (len0 : Int) ≤ 1048576 := by omega
  clear w0 hl
  go_enter Try.func5, Try.ntmps5
  go_wp2_with fail
  refine (big_any _ _ _ _ hmax).mono ?_
  rintro e w' ⟨rfl, rfl⟩
  rw [hd]
  clear hd hmax
  go_wp2_with fail
  refine (draw_rep w.heap.size a0 len0 cap0 _ (Nat.le_refl _) hc).mono ?_
  rintro e wd ⟨u1, u2, u3, d, n, x, rfl, hf, hdk, hn, hx, hb⟩
  have HC := Lib.hid (hc.below hb)
  obtain ⟨p1, m1, rfl, _⟩ := hdk.live.open
  obtain ⟨p2, m2, rfl, _⟩ := hdk.safe.open
  obtain ⟨p3, m3, rfl, _⟩ := hdk.ops.open
  have HF := Lib.hid hf
  have hal : Below wd.heap.size wd (wd.alloc (.cells #[.slice p1 d.live.length m1, .slice p2 d.safe.length m2, .slice p3 d.ops.length m3] 27)) := (Below.refl _ _).alloc (Nat.le_refl _) _
  have HI := Lib.hid (And.intro (heap_alloc_new wd (.cells #[.slice p1 d.live.length m1, .slice p2 d.safe.length m2, .slice p3 d.ops.length m3] 27)) (And.intro (hdk.below hal) (And.intro (hb.trans (hal.mono hb.size)) (HC.out.below (hal.mono hb.size)))))
  have hk3 : w.heap.size ≤ wd.heap.size := hb.size
  clear hc hf hdk hal hb HC
  go_upto_region 4 with (fail)
  generalize wd.alloc (.cells #[.slice p1 d.live.length m1, .slice p2 d.safe.length m2, .slice p3 d.ops.length m3] 27) = w4 at HI ⊢
  generalize wd.heap.size = k3 at HI hk3 ⊢
  obtain ⟨L, hL, hfL⟩ := sync_is d
  have CY := Lib.hid (show Calls Try.prog 20 #[.agg #[.slice p1 d.live.length m1, .slice p2 d.safe.length m2, .slice p3 d.ops.length m3]] w4 (fun e w' => ∃ u1 u2 u3, e = .returned (.agg #[u1, u2, u3]) ∧ DiskAt w4.heap.size u1 u2 u3 ⟨L, L, []⟩ w' ∧ ApartV u1 u2 ∧ Below w4.heap.size w4 w') from by
    have q := syncD_in _ _ _ d w4 HI.out.2.1 HF.out
    rw [hL] at q
    exact q)
  have HL := Lib.hid (And.intro hfL (And.intro (fit_same hfL) (ok_synced hfL)))
  clear hL hfL
  obtain ⟨⟨b0, b1, b2⟩, _⟩ := dk_cells HI.out.1
  go_wp2_with fail
  refine CY.out.mono ?_
  rintro e w5 ⟨s1, s2, s3, rfl, hS, _, hb⟩
  obtain ⟨q1, c1, e1, _⟩ := hS.live.open
  have e1 : s1 = .slice q1 L.length c1 := e1
  subst e1
  obtain ⟨q2, c2, e2, _⟩ := hS.safe.open
  have e2 : s2 = .slice q2 L.length c2 := e2
  subst e2
  obtain ⟨q3, c3, e3, _⟩ := hS.ops.open
  have e3 : s3 = .slice q3 0 c3 := e3
  subst e3
  have hbk := (hb.block _ (Array.getElem?_eq_some_iff.1 HI.out.1).1).trans HI.out.1
  have gz := grw_set3 w5 k3 (.slice q1 L.length c1) (.slice q2 L.length c2) (.slice q3 0 c3)
  have hs5 : w.heap.size ≤ w5.heap.size := Nat.le_trans HI.out.2.2.1.size hb.size
  have h5 := HI.out.2.2.1.trans (hb.mono HI.out.2.2.1.size)
  have HI2 := Lib.hid (And.intro (set3 hbk (.slice q1 L.length c1) (.slice q2 L.length c2) (.slice q3 0 c3)) (And.intro (hS.toIn.row hbk ⟨_, _, _, rfl⟩ ⟨_, _, _, rfl⟩ ⟨_, _, _, rfl⟩ gz) (And.intro (below_grw h5 gz hs5 (fun q hq => by rw [← Option.some.inj hq]; exact hk3)) (HI.out.2.2.2.below (below_grw (hb.mono HI.out.2.2.1.size) gz hs5 (fun q hq => by rw [← Option.some.inj hq]; exact hk3))))))
  clear b0 b1 b2
  obtain ⟨⟨b0, b1, b2⟩, bf⟩ := dk_cells hbk
  have bf0 := bf 0
  have bf1 := bf 1
  have bf2 := bf 2
  clear bf hbk gz hs5 h5 hb hS CY HI
  go_upto_region 5 with (fail)
  clear b0 b1 b2 bf0 bf1 bf2
  generalize ((w5.setCell ⟨k3, 0, none⟩ (.slice q1 L.length c1)).setCell ⟨k3, 1, none⟩ (.slice q2 L.length c2)).setCell ⟨k3, 2, none⟩ (.slice q3 0 c3) = w6 at HI2 ⊢
  obtain ⟨c, hc⟩ : ∃ c, repR ⟨L, L, []⟩ n x = c := ⟨_, rfl⟩
  obtain ⟨E, hE⟩ : ∃ E, repD ⟨L, L, []⟩ n x = E := ⟨_, rfl⟩
  have C5 := Lib.hid (repD_in (.slice q1 L.length c1) (.slice q2 L.length c2) (.slice q3 0 c3) ⟨L, L, []⟩ n x w6 HI2.out.2.1 HL.out.2.1 (Nat.le_trans hn (by decide)) (Nat.le_trans hx (by decide)))
  have C6 := Lib.hid (fun W (hW : DiskIn (.slice q1 L.length c1) (.slice q2 L.length c2) (.slice q3 0 c3) ⟨L, L, []⟩ W) => repD_sn (.slice q1 L.length c1) (.slice q2 L.length c2) (.slice q3 0 c3) ⟨L, L, []⟩ n x W hW HL.out.2.1 (Nat.le_trans hn (by decide)) (Nat.le_trans hx (by decide)))
  rw [hc, hE] at C5
  rw [hc] at C6
  have HC := Lib.hid hc
  have HE := Lib.hid hE
  clear hc hE
  obtain ⟨⟨b0, b1, b2⟩, _⟩ := dk_cells HI2.out.1
  go_wp2_with fail
  refine C5.out.mono ?_
  rintro e w7 ⟨y1, y2, y3, rfl, hA, _, hb⟩
  obtain ⟨g1, h1, rfl, _⟩ := hA.live.open
  obtain ⟨g2, h2, rfl, _⟩ := hA.safe.open
  obtain ⟨g3, h3, rfl, _⟩ := hA.ops.open
  have hal : Below w7.heap.size w7 (w7.alloc (.cells #[.slice g1 E.live.length h1, .slice g2 E.safe.length h2, .slice g3 E.ops.length h3] 27)) := (Below.refl _ _).alloc (Nat.le_refl _) _
  have hb2 := hb.trans (hal.mono hb.size)
  have HJ := Lib.hid (show RJ w.heap.size k3 w7.heap.size (.slice q1 L.length c1) (.slice q2 L.length c2) (.slice q3 0 c3) (.slice g1 E.live.length h1) (.slice g2 E.safe.length h2) (.slice g3 E.ops.length h3) ⟨L, L, []⟩ E a0 len0 w (w7.alloc (.cells #[.slice g1 E.live.length h1, .slice g2 E.safe.length h2, .slice g3 E.ops.length h3] 27)) from
    ⟨(hb2.block _ (Array.getElem?_eq_some_iff.1 HI2.out.1).1).trans HI2.out.1, heap_alloc_new w7 _, HI2.out.2.1.below hb2, hA.toIn.below hal, HI2.out.2.2.2.below (hb2.mono HI2.out.2.2.1.size), HI2.out.2.2.1.trans (hb2.mono HI2.out.2.2.1.size), Nat.le_trans HI2.out.2.2.1.size hb2.size⟩)
  clear hal hb2 hb hA HI2 C5 b0 b1 b2
  go_upto_region 6 with (fail)
  generalize w7.alloc (.cells #[.slice g1 E.live.length h1, .slice g2 E.safe.length h2, .slice g3 E.ops.length h3] 27) = w8 at HJ ⊢
  generalize w7.heap.size = k6 at HJ ⊢
  obtain ⟨⟨b0, b1, b2⟩, _⟩ := dk_cells HJ.out.b3
  go_wp2_with fail
  refine (C6.out _ HJ.out.D).mono ?_
  rintro e w9 ⟨y1, y2, y3, rfl, hS, hb⟩
  obtain ⟨t1, v1, rfl, _⟩ := hS.live.open
  obtain ⟨t2, v2, rfl, _⟩ := hS.safe.open
  obtain ⟨t3, v3, rfl, _⟩ := hS.ops.open
  clear hS b0 b1 b2
  generalize (repD ⟨L, L, []⟩ n x).live.length = l1
  generalize (repD ⟨L, L, []⟩ n x).safe.length = l2
  generalize (repD ⟨L, L, []⟩ n x).ops.length = l3
  have hal : Below w9.heap.size w9 (w9.alloc (.cells #[.slice t1 l1 v1, .slice t2 l2 v2, .slice t3 l3 v3] 27)) := (Below.refl _ _).alloc (Nat.le_refl _) _
  have HJ := Lib.hid ((HJ.out.below hb).below hal)
  clear hb hal C6
  go_upto_region 7 with (fail)
  generalize w9.alloc (.cells #[.slice t1 l1 v1, .slice t2 l2 v2, .slice t3 l3 v3] 27) = wa at HJ ⊢
  generalize w9.heap.size = k8
  have hqn : (c != c) = false := by simp
  have hqe : (c == c) = true := by simp
  by_cases hz : c = 0
  case neg =>
    have hz' : (c != 0) = true := by simpa using hz
    go_wp2
    go_ret
    exact ⟨by first | rfl | (rw [hqe]; rfl) | simp, HJ.out.G⟩
  case pos =>
    subst hz
    have HAC := Lib.hid (show allC L [] (repO L n x) = 0 from (repR_yes (d := ⟨L, L, []⟩) HL.out.2.2).symm.trans HC.out)
    have CR := Lib.hid (fun W m (h : DiskIn (.slice q1 L.length c1) (.slice q2 L.length c2) (.slice q3 0 c3) ⟨L, L, []⟩ W) => read_ok _ _ _ ⟨L, L, []⟩ m W h HL.out.2.1 HL.out.2.2)
    have hadd : n.size + 4 ≤ 102 := by omega
    obtain ⟨⟨b0, b1, b2⟩, _⟩ := dk_cells HJ.out.b3
    go_wp2_with fail
    refine (CR.out _ _ HJ.out.D).mono ?_
    rintro e wb ⟨rfl, hb⟩
    have HJ := Lib.hid (HJ.out.below hb)
    clear hb b0 b1 b2
    obtain ⟨P, hP⟩ : ∃ P, (idxL L (n ++ dotNew)).isSome = P := ⟨_, rfl⟩
    rw [show ((idxL (DiskT.mk L L []).live (n ++ ⟨#[46, 110, 101, 119]⟩)).isSome) = P from hP]
    generalize dataOf (DiskT.mk L L []).live (n ++ ⟨#[46, 110, 101, 119]⟩) = S9
    cases P with
    | true =>
      go_wp2
      go_ret
      exact ⟨rfl, HJ.out.G⟩
    | false =>
      obtain ⟨L2, hR⟩ := rep_facts HL.out.1 hP HAC.out
      have hEE : E = ⟨L2, L, [(1, n ++ dotNew, ByteArray.mk #[], x), renO n]⟩ := by
        rw [← HE.out, repD_yes (d := ⟨L, L, []⟩) HL.out.2.2]
        unfold allD
        rw [if_pos HAC.out, show repO (DiskT.mk L L []).live n x = [(1, n ++ dotNew, ByteArray.mk #[], x), renO n] from hR.ops]
        show DiskT.mk (allL L [(1, n ++ dotNew, ByteArray.mk #[], x), renO n]) L [(1, n ++ dotNew, ByteArray.mk #[], x), renO n] = _
        rw [hR.all]
      have HR := Lib.hid (And.intro hP hR)
      have HEE := Lib.hid hEE
      have HEF := Lib.hid (show E.fit by rw [hEE]; exact fit_new HL.out.1 hR hn hx)
      have HEK := Lib.hid (show diskB E = true by rw [hEE]; exact hR.ok)
      have hlen : (E.ops.length : Int) = 2 := by rw [hEE]; rfl
      clear hEE hP hR HE HC HAC hadd
      obtain ⟨S0, hS0⟩ : ∃ S0, dataOf L n = S0 := ⟨_, rfl⟩
      obtain ⟨W0, hW0⟩ : ∃ W0, (idxL L n).isSome = W0 := ⟨_, rfl⟩
      obtain ⟨⟨b0, b1, b2⟩, _⟩ := dk_cells HJ.out.b3
      go_wp2_with fail
      refine (CR.out _ _ HJ.out.D).mono ?_
      rintro e wc ⟨rfl, hb⟩
      have HJ := Lib.hid (HJ.out.below hb)
      clear hb b0 b1 b2 CR
      rw [show ((idxL (DiskT.mk L L []).live n).isSome) = W0 from hW0, show dataOf (DiskT.mk L L []).live n = S0 from hS0]
      have HSW := Lib.hid (And.intro hS0 hW0)
      clear hS0 hW0
      obtain ⟨i0, hi, hz0, hz1, hz2⟩ := info_parts info_I64
      have hlit0 : RowL wc.heap.size 2 1 numC (.slice (some ⟨wc.heap.size, 0, none⟩) 0 0) ([] : List Int) (wc.alloc (.cells #[] 2)) := World.ownsRow_lit wc #[] 0 (Nat.le_refl _) (by unfold maxLen; omega) rfl
      have HL0 := Lib.hid (And.intro hlit0 ((Below.refl wc.heap.size wc).alloc (Nat.le_refl _) (.cells #[] 2)))
      clear hlit0
      go_wp2
      go_loopw [14, 15] (fun a i wr => ∃ (j : Nat) (K : List Int), j ≤ 2 ∧ K ∈ kp j ∧ i = .int .i64 j ∧ RowL wc.heap.size 2 1 numC a K wr ∧ Below wc.heap.size wc wr) (fun _ i _ => 2 - (RowKit.intOf i).toNat)
      case atStart => exact ⟨0, [], Nat.zero_le _, List.mem_singleton.2 rfl, rfl, HL0.out.1, HL0.out.2⟩
      case round =>
        clear HL0
        obtain ⟨j, K, hj, hK, rfl, hKR, hb⟩ := hrel
        have HJR := Lib.hid (HJ.out.below hb)
        obtain ⟨⟨a1, a2, a3⟩, _⟩ := dk_cells HJR.out.b6
        obtain ⟨pa, ca, rfl, _⟩ := hKR.open
        have HKR := Lib.hid (And.intro hK (And.intro hKR hb))
        clear hK hKR hb
        by_cases hlt : j < 2
        · have j1 : (j : Int) < (E.ops.length : Int) := by omega
          by_cases hl0 : len0 = 0
          · subst hl0
            go_wp2
            go_roundw
            case rel => exact ⟨j + 1, K, by omega, kp_same HKR.out.1, by go_num, HKR.out.2.1, HKR.out.2.2⟩
            case measure => simp [RowKit.intOf]; omega
          · have hl1 : (0 : Int) < (len0 : Int) := by omega
            obtain ⟨bc, off, rfl, hbc, hcells⟩ := HJR.out.C.2.resolve_left hl0
            have hm := Nat.mod_lt j (Nat.pos_of_ne_zero hl0)
            obtain ⟨nv, hn0, hn1, hcell⟩ := hcells _ hm
            clear hcells
            go_upto_region 18 with (fail)
            · have hR3 : wr.ownsRow wc.heap.size 2 1 (.slice pa K.length ca) K.length (K.flatMap numC) := HKR.out.2.1
              have hwr : wc.heap.size ≤ wr.heap.size := HKR.out.2.2.size
              have hKl := kp_len HKR.out.1
              go_wp2_with (at_builtin; refine wpList_append_lies _ rfl _ _ 30 rfl wc.heap.size 2 i0 (.int .i64 0) 1 8 Try.underlying30 hi hz0 hz1 hz2 rfl (by decide) (.slice pa K.length ca) K.length _ rfl (hR3.alloc _) ⟨wr.heap.size, 0, none⟩ 1 1 [_] rfl rfl (World.news_of_block (cs := #[_]) (t := 2) (fr := (0, 0)) (heap_alloc_new wr _)) (by simp [Value.oneCell']) (by omega) (by unfold maxLen; omega) (by omega) (by simp; omega) (wr.heap.size + 1) (by simp) ?_; intro gg cap2 w7 hown2 hgrow2 hat hlt2)
              have R := row_push (b := (j : Int)) HKR.out.2.1 HKR.out.2.2 hwr rfl rfl hown2 hgrow2
              have HN := Lib.hid R
              clear R hown2 hgrow2 hat hlt2 hR3 hcell
              go_wp2
              go_roundw
              case rel => exact ⟨j + 1, K ++ [(j : Int)], by omega, kp_more HKR.out.1, by go_num, HN.out.1, HN.out.2⟩
              case measure => simp [RowKit.intOf]; omega
            · go_roundw
              case rel => exact ⟨j + 1, K, by omega, kp_same HKR.out.1, by go_num, HKR.out.2.1, HKR.out.2.2⟩
              case measure => simp [RowKit.intOf]; omega
        · obtain rfl : j = 2 := by omega
          have HKP := Lib.hid (show RowL 0 2 1 numC (.slice pa K.length ca) K wr from HKR.out.2.1.mono (Nat.zero_le _))
          have hKl := kp_len HKR.out.1
          go_wp2_with fail
          refine (crash_left HEE.out HL.out.1 HR.out.1 HR.out.2 HEF.out HKR.out.1 _ ?hT _ _ _ _ _ HJR.out.A HKP.out).mono ?_
          case hT => first | exact Int.tmod_nonneg _ (by omega) | omega
          rintro e wx ⟨u1, u2, u3, M, rfl, hM, hfM, hh, hb⟩
          obtain ⟨z1, b1, e1, _⟩ := hM.live.open
          have e1 : u1 = .slice z1 M.length b1 := e1
          subst e1
          obtain ⟨z2, b2, e2, _⟩ := hM.safe.open
          have e2 : u2 = .slice z2 M.length b2 := e2
          subst e2
          obtain ⟨z3, b3, e3, _⟩ := hM.ops.open
          have e3 : u3 = .slice z3 0 b3 := e3
          subst e3
          have hal : Below wx.heap.size wx (wx.alloc (.cells #[.slice z1 M.length b1, .slice z2 M.length b2, .slice z3 0 b3] 27)) := (Below.refl _ _).alloc (Nat.le_refl _) _
          have HJ := Lib.hid ((HJR.out.below hb).below hal)
          have HB := Lib.hid (And.intro (heap_alloc_new wx (.cells #[.slice z1 M.length b1, .slice z2 M.length b2, .slice z3 0 b3] 27)) (hM.toIn.below hal))
          clear hal hb hM a1 a2 a3
          go_upto_region 20 with (fail)
          generalize wx.alloc (.cells #[.slice z1 M.length b1, .slice z2 M.length b2, .slice z3 0 b3] 27) = wy at HJ HB ⊢
          generalize wx.heap.size = k16 at HB ⊢
          have CM := Lib.hid (read_ok _ _ _ ⟨M, M, []⟩ n wy HB.out.2 (fit_same hfM) (ok_synced hfM))
          have CE := Lib.hid (fun W (h : DiskIn (.slice g1 E.live.length h1) (.slice g2 E.safe.length h2) (.slice g3 E.ops.length h3) E W) => show Calls Try.prog 25 #[.agg #[.slice g1 E.live.length h1, .slice g2 E.safe.length h2, .slice g3 E.ops.length h3], .string n] W (fun e w' => e = .returned (.tuple #[.string x, .bool true]) ∧ Below W.heap.size W w') from by
            have q := read_ok _ _ _ E n W h HEF.out HEK.out
            rw [show dataOf E.live n = x from by rw [HEE.out]; exact HR.out.2.data, show (idxL E.live n).isSome = true from by rw [HEE.out]; exact HR.out.2.there] at q
            exact q)
          have hqx : (x.toList == x.toList) = true := by simp
          have hqW : (W0 == W0) = true := by simp
          have hqS : (S0.toList == S0.toList) = true := by simp
          obtain ⟨S, hS⟩ : ∃ S, dataOf M n = S := ⟨_, rfl⟩
          obtain ⟨T, hT⟩ : ∃ T, (idxL M n).isSome = T := ⟨_, rfl⟩
          rw [show dataOf (DiskT.mk M M []).live n = S from hS, show (idxL (DiskT.mk M M []).live n).isSome = T from hT] at CM
          rw [hS, hT, HSW.out.1, HSW.out.2] at hh
          clear hS hT
          obtain ⟨⟨a1, a2, a3⟩, _⟩ := dk_cells HB.out.1
          go_wp2_with fail
          refine CM.out.mono ?_
          rintro e wz ⟨rfl, hb⟩
          have HJ := Lib.hid (HJ.out.below hb)
          clear hb a1 a2 a3 CM
          obtain ⟨⟨a1, a2, a3⟩, _⟩ := dk_cells HJ.out.b6
          go_wp2_with fail
          refine (CE.out _ HJ.out.A).mono ?_
          rintro e wt ⟨rfl, hb⟩
          have HJ := Lib.hid (HJ.out.below hb)
          clear hb a1 a2 a3 CE
          rcases hh with ⟨rfl, rfl⟩ | ⟨rfl, rfl⟩
          · cases T with
            | true =>
              go_wp2
              go_ret
              exact ⟨rfl, HJ.out.G⟩
            | false =>
              go_wp2
              go_ret
              exact ⟨rfl, HJ.out.G⟩
          · cases W0 with
            | true =>
              by_cases hs : S = S0
              · subst hs
                go_wp2
                go_ret
                exact ⟨rfl, HJ.out.G⟩
              · have hs' : (S.toList == S0.toList) = false := neq_lst hs
                go_wp2
                go_ret
                exact ⟨rfl, HJ.out.G⟩
            | false =>
              go_wp2
              go_ret
              exact ⟨rfl, HJ.out.G⟩

set_option maxRecDepth 100000 in
theorem lifted (os : Os) (started : os.Started) (H : Type) (enc : TypeId × Value → H) :
    ReturnsInHanded {} Try.checked os 5 .any (Rows.fnReplacedSpec.pre6 enc Try.prog Try.f5 Rows.fnReplacedRow.domain false) (Rows.fnReplacedSpec.post enc Try.prog Try.f5 false true false false) := by
  refine returnsInHanded_of_change (C := Try.checked) own started (by kernel_rfl) Try.func5
    (ChangeSpec.witness6 (enc := enc) (C := Try.checked) false ⟨#[], #[.slice none 0 0], []⟩ 8 (by kernel_rfl) (by kernel_rfl) (by kernel_rfl) (by kernel_rfl)) ?_
  intro W base args ds gs before hval0 hW hcnd _
  have hval : ∀ (j : Nat) t v, Try.f5.params[j]? = some t → args[j]? = some v → Value.okWide Try.prog W .any base t v := hval0
  have hW' := hW
  obtain ⟨p, q, hA0, hV, rfl, hfz, hnd⟩ := hW
  have hA : DataW.TrodAll enc Try.prog W 0 (fun _ => true) true Try.f5.params.toList args.toList ds p := hA0
  rw [Try.params5] at hA hval
  obtain ⟨v0, vs0, d0, ds0, p0, q0, hargs, rfl, rfl, h0, r0⟩ := trodAll_cons hA
  obtain ⟨rfl, rfl, rfl⟩ := trodAll_nil r0
  obtain rfl : args = #[v0] := by cases args; simp_all
  obtain ⟨rfl, rfl⟩ := trodVars_none hV
  obtain ⟨a0, len0, cap0, rfl⟩ := okWide_slice Try.underlying22 (hval 0 22 v0 rfl rfl)
  have k0 := h0
  have lt0 : ∀ x ∈ p0, x.block < W.heap.size := by obtain ⟨m, hm⟩ := k0; exact DataW.trod_lt m _ _ _ hm
  obtain ⟨z0, w0⟩ : ∃ zs, My.IsRow .u8 W a0 len0 cap0 zs := by
    obtain ⟨fuel, hf⟩ := h0
    rcases open_ints Try.underlying22 Try.underlying5 (by kernel_rfl) hf with ⟨hcs, _⟩ | ⟨x, l, c, zs, hcs, _, hl, hm, hz, _, hcell, hwz⟩
    · simp [Value.cells] at hcs
      obtain ⟨rfl, rfl, rfl⟩ := hcs
      exact ⟨[], .inl ⟨rfl, rfl, rfl, rfl⟩⟩
    · simp [Value.cells] at hcs
      obtain ⟨rfl, rfl, rfl⟩ := hcs
      exact ⟨zs, .inr ⟨_, rfl, hl, hm, by simpa using hz, hcell, hwz⟩⟩
  clear hA0 hval0
  refine (walk W a0 len0 cap0 z0 w0).mono fun e W' ⟨he, bel⟩ => ?_
  subst he
  exact ⟨_, rfl, _, _, _, [], _, [], hW', trodAll_mk1 (shut_bool Try.underlying4 _), (trodAll_cons_mk (Below.trod laidOut (by kernel_rfl) (of_decide_eq_true (by kernel_rfl)) k0 bel lt0) trodAll_mk0), rfl, bel.frame _, fun h => by cases h⟩

theorem proved : Rows.FnReplacedSaid :=
  OpenClaim.holds_of_wide 5 Try.f5 rfl rfl rfl rfl rfl rfl rfl ⟨rfl, rfl, rfl, rfl, rfl⟩ rfl rfl rfl rfl rfl (by kernel_rfl) Try.func5 (by kernel_rfl)
    (of_decide_eq_true (by kernel_rfl)) (by unfold Func.isWrapper; first | (rw [if_pos (by decide +kernel)]; kernel_rfl) | (rw [if_neg (by decide +kernel)]; exact ⟨rfl, rfl⟩))
    (fun os started H enc _ => lifted os started H enc)
end Go.Proofs.Ytepefbfmjjnamaa.fnReplaced

/- Proved: for every code FnCrashed returns true: a loss of power that keeps every operation leaves the files as they are, one that keeps none those that are safe; Sync makes all files safe and forgets the operations (codes of more than 2^20 bytes are passed over by the law itself). No condition. -/
import Derived.Test.YtepefbfmjjnamaaRows
import Derived.WalkKit
import Derived.ProofKit
import Derived.OpenShut
import Derived.ShutString
import Derived.ChangeOld
import Derived.Below
import Derived.Test.YtepefbfmjjnamaaMrgC
import Derived.Test.YtepefbfmjjnamaaMrgA
namespace Go.Proofs.Ytepefbfmjjnamaa.fnCrashed
open Go.ChangeShapes Go.WideShapes Go.ChangeAt Go.RowKit Go.My Go.Lib
set_option linter.unusedVariables false

theorem own : ownKnob Try.prog.godebug = none := by kernel_rfl
theorem laidOut : laidOutB Try.prog = true := by kernel_rfl
theorem neB (K : Bool) (w : World) : (do eqGuard .neq 4 (.tmp 16) (.tmp 18) (.bool K) (.bool K); binOp .neq 4 (.bool K) (.bool K) : Sem Value).run Try.prog w = .ok (.bool false) w := by cases K <;> kernel_rfl
theorem cfIOk (args : Array Value) (w : World) : (callFunc 17 args).run Try.prog w = .ok (.enter 17 args) w := cf_of Try.func17 (by kernel_rfl) (by kernel_rfl) args w
theorem cfSOk (args : Array Value) (w : World) : (callFunc 18 args).run Try.prog w = .ok (.enter 18 args) w := cf_of Try.func18 (by kernel_rfl) (by kernel_rfl) args w
theorem allK_next (j : Nat) : allK (j + 1) = allK j ++ [(j : Int)] := by unfold allK; rw [List.range_succ, List.map_append]; rfl
structure InvK (W1 : World) (A : Value) (K : Bool) (v : Nat → Value) (L : Nat → Bool) (w : World) : Prop where
  G : Below W1.heap.size W1 w
  f0 : L 0 = true → v 0 = A
  f1 : L 1 = true → v 1 = .bool K
  f2 : L 2 = true → v 2 = A
  f3 : L 3 = true → v 3 = .bool K
  f4 : L 4 = true → v 4 = .bool false
theorem InvK.grow {W1 : World} {A : Value} {K : Bool} {v : Nat → Value} {L : Nat → Bool} {w w' : World} (h : InvK W1 A K v L w) (hb : Below w.heap.size w w') : InvK W1 A K v L w' :=
  ⟨h.G.trans (hb.mono h.G.size), h.f0, h.f1, h.f2, h.f3, h.f4⟩

set_option maxRecDepth 100000 in
set_option maxHeartbeats 8000000 in
theorem walk (w : World) (a0 : Option Addr) (len0 cap0 : Nat) (z0 : List Int) (w0 : IsRow .u8 w a0 len0 cap0 z0) :
    Calls Try.prog 3 #[.slice a0 len0 cap0] w fun e w' => e = .returned (.bool true) ∧ Below w.heap.size w w' := by
  have hmax : len0 ≤ 9223372036854775807 := by
    rcases w0 with ⟨_, rfl, _⟩ | ⟨x, _, h1, h2, _⟩
    · omega
    · unfold maxLen at h2; omega
  by_cases hl : len0 ≤ 1048576
  case neg =>
    have hd : decide (1048576 < (len0 : Int)) = true := by simp; omega
    go_enter Try.func3, Try.ntmps3
    go_wp2_with fail
    refine (big_any _ _ _ _ hmax).mono ?_
    rintro e w' ⟨rfl, rfl⟩
    rw [hd]
    go_wp2
    go_ret
    exact ⟨rfl, Below.refl _ _⟩
  have hd : decide (1048576 < (len0 : Int)) = false := by simp; omega
  have hc := code_of_row w0 hl
  clear w0 hl
  go_enter Try.func3, Try.ntmps3
  go_wp2_with fail
  refine (big_any _ _ _ _ hmax).mono ?_
  rintro e w' ⟨rfl, rfl⟩
  rw [hd]
  clear hd hmax
  go_wp2_with fail
  refine (draw_diskOk w.heap.size a0 len0 cap0 _ (Nat.le_refl _) hc).mono ?_
  rintro e wd ⟨u1, u2, u3, d, rfl, hf, hdk, hb⟩
  obtain ⟨p1, m1, rfl, _⟩ := hdk.live.open
  obtain ⟨p2, m2, rfl, _⟩ := hdk.safe.open
  obtain ⟨p3, m3, rfl, _⟩ := hdk.ops.open
  have HF := Lib.hid hf
  have hal : Below wd.heap.size wd (wd.alloc (.cells #[.slice p1 d.live.length m1, .slice p2 d.safe.length m2, .slice p3 d.ops.length m3] 27)) := (Below.refl _ _).alloc (Nat.le_refl _) _
  have HX := Lib.hid (heap_alloc_new wd (.cells #[.slice p1 d.live.length m1, .slice p2 d.safe.length m2, .slice p3 d.ops.length m3] 27))
  have HD := Lib.hid (hdk.below hal)
  have HB := Lib.hid (hb.trans (hal.mono hb.size))
  have hn : (d.ops.length : Int) ≤ 1048576 := by have := hf.small.ops; omega
  clear hc hf hdk hal hb
  go_upto_region 4 with (fail)
  generalize wd.alloc (.cells #[.slice p1 d.live.length m1, .slice p2 d.safe.length m2, .slice p3 d.ops.length m3] 27) = wA at HX HD HB ⊢
  generalize wd.heap.size = kD at HX ⊢
  obtain ⟨K, hK⟩ : ∃ K, diskB d = K := ⟨_, rfl⟩
  have CI := Lib.hid (fun W (hW : Below wA.heap.size wA W) => diskOk_in _ _ _ d W (HD.out.below hW) HF.out)
  have CS := Lib.hid (fun W (hW : Below wA.heap.size wA W) => disk_sn _ _ _ d W (HD.out.below hW) HF.out)
  rw [hK] at CI CS
  have HK := Lib.hid hK
  clear hK
  refine region_invL 5 [some 15, some 16, some 17, some 18, some 19] (InvK wA (.agg #[.slice p1 d.live.length m1, .slice p2 d.safe.length m2, .slice p3 d.ops.length m3]) K) (by kernel_rfl) rfl (by kernel_rfl) (by kernel_rfl) (by kernel_rfl) ?_ ?_ ?_
  · exact ⟨(Below.refl _ _).drew, (fun h => by cases h), (fun h => by cases h), (fun h => by cases h), (fun h => by cases h), (fun h => by cases h)⟩
  · intro i o v L w1 hoi hL hI hdep
    have hi : i < 5 := (Array.getElem?_eq_some_iff.1 hoi).1
    have hc : i = 0 ∨ i = 1 ∨ i = 2 ∨ i = 3 ∨ i = 4 := by omega
    rcases hc with rfl | rfl | rfl | rfl | rfl
    · obtain rfl := Option.some.inj hoi
      refine ⟨rfl, wpLoadT rfl (at_old (by kernel_rfl)) (ldDkI ((hI.G.block _ (Array.getElem?_eq_some_iff.1 HX.out).1).trans HX.out)) ⟨_, rfl, ?_⟩⟩
      exact ⟨hI.G, fun _ => rfl, hI.f1, hI.f2, hI.f3, hI.f4⟩
    · obtain rfl := Option.some.inj hoi
      refine ⟨rfl, wpCallT rfl cfIOk (argsT1 ((at_new (by kernel_rfl) 0 (Nat.le_of_ble_eq_true rfl) rfl (by decide) (hdep 0 (dep_of (by kernel_rfl)))).trans (hI.f0 (hdep 0 (dep_of (by kernel_rfl)))))) ((CI.out _ hI.G).mono ?_)⟩
      rintro e w2 ⟨rfl, hb⟩
      have hI := hI.grow hb
      exact ⟨_, rfl, _, rfl, ⟨hI.G, hI.f0, fun _ => rfl, hI.f2, hI.f3, hI.f4⟩⟩
    · obtain rfl := Option.some.inj hoi
      refine ⟨rfl, wpLoadT rfl (at_old (by kernel_rfl)) (ldDkI ((hI.G.block _ (Array.getElem?_eq_some_iff.1 HX.out).1).trans HX.out)) ⟨_, rfl, ?_⟩⟩
      exact ⟨hI.G, hI.f0, hI.f1, fun _ => rfl, hI.f3, hI.f4⟩
    · obtain rfl := Option.some.inj hoi
      refine ⟨rfl, wpCallT rfl cfSOk (argsT1 ((at_new (by kernel_rfl) 2 (Nat.le_of_ble_eq_true rfl) rfl (by decide) (hdep 2 (dep_of (by kernel_rfl)))).trans (hI.f2 (hdep 2 (dep_of (by kernel_rfl)))))) ((CS.out _ hI.G).mono ?_)⟩
      rintro e w2 ⟨rfl, hb⟩
      have hI := hI.grow hb
      exact ⟨_, rfl, _, rfl, ⟨hI.G, hI.f0, hI.f1, hI.f2, fun _ => rfl, hI.f4⟩⟩
    · obtain rfl := Option.some.inj hoi
      refine ⟨rfl, wpBinT rfl ((at_new (by kernel_rfl) 1 (Nat.le_of_ble_eq_true rfl) rfl (by decide) (hdep 1 (dep_of (by kernel_rfl)))).trans (hI.f1 (hdep 1 (dep_of (by kernel_rfl))))) ((at_new (by kernel_rfl) 3 (Nat.le_of_ble_eq_true rfl) rfl (by decide) (hdep 3 (dep_of (by kernel_rfl)))).trans (hI.f3 (hdep 3 (dep_of (by kernel_rfl))))) (neB K w1) ⟨_, rfl, ?_⟩⟩
      exact ⟨hI.G, hI.f0, hI.f1, hI.f2, hI.f3, fun _ => rfl⟩
  intro v w5 hI
  have eR := hI.f4 rfl
  have hb9 := hI.G
  clear hI
  simp only [Go.My.putL, Nat.zero_add, Nat.reduceAdd, eR, Act.put, List.setIfInBounds_toArray, List.set_cons_zero, List.set_cons_succ]
  generalize v 0 = y20 at *
  generalize v 1 = y21 at *
  generalize v 2 = y22 at *
  generalize v 3 = y23 at *
  clear eR
  have HX := Lib.hid ((hb9.block _ (Array.getElem?_eq_some_iff.1 HX.out).1).trans HX.out)
  have HD := Lib.hid (HD.out.below hb9)
  have HB := Lib.hid (HB.out.trans (hb9.mono HB.out.size))
  have CI5 := Lib.hid (fun W (hW : Below w5.heap.size w5 W) => CI.out W (hb9.trans (hW.mono hb9.size)))
  clear hb9 CI CS
  obtain ⟨i0, hi, hz0, hz1, hz2⟩ := info_parts info_I64
  have hlit0 : RowL w5.heap.size 2 1 numC (.slice (some ⟨w5.heap.size, 0, none⟩) 0 0) (allK 0) (w5.alloc (.cells #[] 2)) := World.ownsRow_lit w5 #[] 0 (Nat.le_refl _) (by unfold maxLen; omega) rfl
  have HL0 := Lib.hid (And.intro hlit0 ((Below.refl w5.heap.size w5).alloc (Nat.le_refl _) (.cells #[] 2)))
  clear hlit0
  go_wp2
  go_loopw [4, 5] (fun a i wr => ∃ j : Nat, j ≤ d.ops.length ∧ i = .int .i64 j ∧ RowL w5.heap.size 2 1 numC a (allK j) wr ∧ Below w5.heap.size w5 wr) (fun _ i _ => d.ops.length - (RowKit.intOf i).toNat)
  case atStart => exact ⟨0, Nat.zero_le _, rfl, HL0.out.1, HL0.out.2⟩
  case round =>
    clear HL0
    obtain ⟨j, hj, rfl, hR, hb⟩ := hrel
    have HXr := Lib.hid ((hb.block _ (Array.getElem?_eq_some_iff.1 HX.out).1).trans HX.out)
    obtain ⟨⟨b0, b1, b2⟩, _⟩ := dk_cells HXr.out
    by_cases hlt : j < d.ops.length
    · have j1 : (j : Int) < (d.ops.length : Int) := by omega
      obtain ⟨pa, ca, rfl, _⟩ := hR.open
      rw [allK_len] at hR ⊢
      have hR2 : wr.ownsRow w5.heap.size 2 1 (.slice pa j ca) (allK j).length ((allK j).flatMap numC) := hR
      have hR3 := hR2
      rw [allK_len] at hR3
      have hwr : w5.heap.size ≤ wr.heap.size := hb.size
      have HBR := Lib.hid hb
      have HRR := Lib.hid hR2
      clear hR hR2 hb
      go_wp2_with (at_builtin; refine wpList_append_lies _ rfl _ _ 30 rfl w5.heap.size 2 i0 (.int .i64 0) 1 8 Try.underlying30 hi hz0 hz1 hz2 rfl (by decide) (.slice pa j ca) j _ rfl (hR3.alloc _) ⟨wr.heap.size, 0, none⟩ 1 1 [_] rfl rfl (World.news_of_block (cs := #[_]) (t := 2) (fr := (0, 0)) (heap_alloc_new wr _)) (by simp [Value.oneCell']) (by omega) (by unfold maxLen; omega) (by omega) (by simp; omega) (wr.heap.size + 1) (by simp) ?_; intro g2 cap2 w7 hown2 hgrow2 hat hlt2)
      have R := row_push (b := (j : Int)) HRR.out HBR.out hwr (by rw [allK_len]) rfl hown2 hgrow2
      have HR := Lib.hid (show RowL w5.heap.size 2 1 numC (.slice (some ⟨g2, 0, none⟩) (j + 1) cap2) (allK (j + 1)) w7 ∧ Below w5.heap.size w5 w7 from ⟨by rw [allK_next]; exact R.1, R.2⟩)
      clear R hown2 hgrow2 hat hlt2 hR3 b0 b1 b2
      go_wp2
      go_roundw
      case rel => exact ⟨j + 1, by omega, by go_num, HR.out.1, HR.out.2⟩
      case measure => simp [RowKit.intOf]; omega
    · obtain rfl : j = d.ops.length := by omega
      obtain ⟨pa, ca, rfl, _⟩ := hR.open
      rw [allK_len] at hR ⊢
      have HKP := Lib.hid (hR.mono (Nat.zero_le _))
      have HX := Lib.hid HXr.out
      have HD := Lib.hid (HD.out.below hb)
      have HB := Lib.hid (HB.out.trans (hb.mono HB.out.size))
      have HB5 := Lib.hid hb
      have hln : (allK d.ops.length).length ≤ 1048576 := by rw [allK_len]; omega
      have HLN := Lib.hid hln
      clear hR hb hlt hln HXr
      cases K with
      | false =>
        have hk : diskB d = false := HK.out
        have Cc := Lib.hid (show Calls Try.prog 19 #[(.agg #[.slice p1 d.live.length m1, .slice p2 d.safe.length m2, .slice p3 d.ops.length m3]), (.slice pa d.ops.length ca), .int .i64 1099511627776] wr (fun e w' => ∃ u1 u2 u3, e = .returned (.tuple #[.agg #[u1, u2, u3], .bool false]) ∧ DiskAt wr.heap.size u1 u2 u3 ⟨[], [], []⟩ w' ∧ ApartV u1 u2 ∧ Below wr.heap.size wr w') from by
          have q := crD_in _ _ _ (.slice pa d.ops.length ca) d (allK d.ops.length) 1099511627776 wr HD.out HF.out HKP.out HLN.out
          rw [crB_all HF.out, hk, crD_no ((crB_all HF.out).trans hk)] at q
          exact q)
        obtain ⟨⟨b0, b1, b2⟩, _⟩ := dk_cells HX.out
        go_wp2_with fail
        refine Cc.out.mono ?_
        rintro e wc ⟨c1, c2, c3, rfl, hc, _, hbc⟩
        have HC := Lib.hid (hc.mono (Nat.zero_le _))
        have HX := Lib.hid ((hbc.block _ (Array.getElem?_eq_some_iff.1 HX.out).1).trans HX.out)
        have HD := Lib.hid (HD.out.below hbc)
        have HB := Lib.hid (HB.out.trans (hbc.mono HB.out.size))
        have HB5 := Lib.hid (HB5.out.trans (hbc.mono HB5.out.size))
        obtain ⟨qc1, nc1, eq1, _⟩ := hc.live.open
        have eq1 : c1 = .slice qc1 0 nc1 := eq1
        subst eq1
        obtain ⟨qc2, nc2, eq2, _⟩ := hc.safe.open
        have eq2 : c2 = .slice qc2 0 nc2 := eq2
        subst eq2
        obtain ⟨qc3, nc3, eq3, _⟩ := hc.ops.open
        have eq3 : c3 = .slice qc3 0 nc3 := eq3
        subst eq3
        have hal : Below wc.heap.size wc (wc.alloc (.cells #[.slice qc1 0 nc1, .slice qc2 0 nc2, .slice qc3 0 nc3] 27)) := (Below.refl _ _).alloc (Nat.le_refl _) _
        have HBC := Lib.hid (heap_alloc_new wc (.cells #[.slice qc1 0 nc1, .slice qc2 0 nc2, .slice qc3 0 nc3] 27))
        have HX := Lib.hid ((hal.block _ (Array.getElem?_eq_some_iff.1 HX.out).1).trans HX.out)
        have HD := Lib.hid (HD.out.below hal)
        have HC := Lib.hid (HC.out.below hal)
        have HB := Lib.hid (HB.out.trans (hal.mono HB.out.size))
        have HB5 := Lib.hid (HB5.out.trans (hal.mono HB5.out.size))
        clear hal hbc hc b0 b1 b2 Cc
        obtain ⟨wcA, hwcA⟩ : ∃ W, wc.alloc (.cells #[.slice qc1 0 nc1, .slice qc2 0 nc2, .slice qc3 0 nc3] 27) = W := ⟨_, rfl⟩
        go_upto_region 12 with (fail)
        rw [hwcA] at HX HD HB HB5 HBC HC
        try rw [hwcA]
        generalize wc.heap.size = kC at HBC ⊢
        clear hwcA
        have Ce := Lib.hid (show Calls Try.prog 19 #[(.agg #[.slice p1 d.live.length m1, .slice p2 d.safe.length m2, .slice p3 d.ops.length m3]), (.slice none 0 0), .int .i64 0] wcA (fun e w' => ∃ u1 u2 u3, e = .returned (.tuple #[.agg #[u1, u2, u3], .bool false]) ∧ DiskAt wcA.heap.size u1 u2 u3 ⟨[], [], []⟩ w' ∧ ApartV u1 u2 ∧ Below wcA.heap.size wcA w') from by
          have q := crD_in _ _ _ (.slice none 0 0) d [] 0 wcA HD.out HF.out (RowL.nil _ _ _ _ _) (Nat.zero_le _)
          rw [crB_nil, hk, crD_no (crB_nil.trans hk)] at q
          exact q)
        obtain ⟨⟨b0, b1, b2⟩, _⟩ := dk_cells HX.out
        go_wp2_with fail
        refine Ce.out.mono ?_
        rintro e we ⟨e1, e2, e3, rfl, he, _, hbe⟩
        have HE := Lib.hid (he.mono (Nat.zero_le _))
        have HX := Lib.hid ((hbe.block _ (Array.getElem?_eq_some_iff.1 HX.out).1).trans HX.out)
        have HBC := Lib.hid ((hbe.block _ (Array.getElem?_eq_some_iff.1 HBC.out).1).trans HBC.out)
        have HD := Lib.hid (HD.out.below hbe)
        have HC := Lib.hid (HC.out.below hbe)
        have HB := Lib.hid (HB.out.trans (hbe.mono HB.out.size))
        have HB5 := Lib.hid (HB5.out.trans (hbe.mono HB5.out.size))
        obtain ⟨qe1, ne1, eq1, _⟩ := he.live.open
        have eq1 : e1 = .slice qe1 0 ne1 := eq1
        subst eq1
        obtain ⟨qe2, ne2, eq2, _⟩ := he.safe.open
        have eq2 : e2 = .slice qe2 0 ne2 := eq2
        subst eq2
        obtain ⟨qe3, ne3, eq3, _⟩ := he.ops.open
        have eq3 : e3 = .slice qe3 0 ne3 := eq3
        subst eq3
        have hal : Below we.heap.size we (we.alloc (.cells #[.slice qe1 0 ne1, .slice qe2 0 ne2, .slice qe3 0 ne3] 27)) := (Below.refl _ _).alloc (Nat.le_refl _) _
        have HBE := Lib.hid (heap_alloc_new we (.cells #[.slice qe1 0 ne1, .slice qe2 0 ne2, .slice qe3 0 ne3] 27))
        have HX := Lib.hid ((hal.block _ (Array.getElem?_eq_some_iff.1 HX.out).1).trans HX.out)
        have HBC := Lib.hid ((hal.block _ (Array.getElem?_eq_some_iff.1 HBC.out).1).trans HBC.out)
        have HD := Lib.hid (HD.out.below hal)
        have HC := Lib.hid (HC.out.below hal)
        have HE := Lib.hid (HE.out.below hal)
        have HB := Lib.hid (HB.out.trans (hal.mono HB.out.size))
        have HB5 := Lib.hid (HB5.out.trans (hal.mono HB5.out.size))
        clear hal hbe he b0 b1 b2 Ce
        obtain ⟨weA, hweA⟩ : ∃ W, we.alloc (.cells #[.slice qe1 0 ne1, .slice qe2 0 ne2, .slice qe3 0 ne3] 27) = W := ⟨_, rfl⟩
        go_upto_region 13 with (fail)
        rw [hweA] at HX HD HB HB5 HBC HC HBE HE
        try rw [hweA]
        generalize we.heap.size = kE at HBE ⊢
        clear hweA
        obtain ⟨⟨b0, b1, b2⟩, _⟩ := dk_cells HX.out
        go_wp2_with fail
        refine (CI5.out _ HB5.out).mono ?_
        rintro e wf ⟨rfl, hbf⟩
        have HX := Lib.hid ((hbf.block _ (Array.getElem?_eq_some_iff.1 HX.out).1).trans HX.out)
        have HBC := Lib.hid ((hbf.block _ (Array.getElem?_eq_some_iff.1 HBC.out).1).trans HBC.out)
        have HBE := Lib.hid ((hbf.block _ (Array.getElem?_eq_some_iff.1 HBE.out).1).trans HBE.out)
        have HD := Lib.hid (HD.out.below hbf)
        have HC := Lib.hid (HC.out.below hbf)
        have HE := Lib.hid (HE.out.below hbf)
        have HB := Lib.hid (HB.out.trans (hbf.mono HB.out.size))
        have HB5 := Lib.hid (HB5.out.trans (hbf.mono HB5.out.size))
        clear hbf b0 b1 b2
        obtain ⟨⟨x0, x1, x2⟩, _⟩ := dk_cells HBC.out
        go_wp2
        go_ret
        exact ⟨rfl, HB.out⟩
      | true =>
        have hk : diskB d = true := HK.out
        have Cc := Lib.hid (show Calls Try.prog 19 #[(.agg #[.slice p1 d.live.length m1, .slice p2 d.safe.length m2, .slice p3 d.ops.length m3]), (.slice pa d.ops.length ca), .int .i64 1099511627776] wr (fun e w' => ∃ u1 u2 u3, e = .returned (.tuple #[.agg #[u1, u2, u3], .bool true]) ∧ DiskAt wr.heap.size u1 u2 u3 ⟨d.live, d.live, []⟩ w' ∧ ApartV u1 u2 ∧ Below wr.heap.size wr w') from by
          have q := crD_in _ _ _ (.slice pa d.ops.length ca) d (allK d.ops.length) 1099511627776 wr HD.out HF.out HKP.out HLN.out
          rw [crB_all HF.out, hk, crD_all HF.out hk] at q
          exact q)
        obtain ⟨⟨b0, b1, b2⟩, _⟩ := dk_cells HX.out
        go_wp2_with fail
        refine Cc.out.mono ?_
        rintro e wc ⟨c1, c2, c3, rfl, hc, _, hbc⟩
        have HC := Lib.hid (hc.mono (Nat.zero_le _))
        have HX := Lib.hid ((hbc.block _ (Array.getElem?_eq_some_iff.1 HX.out).1).trans HX.out)
        have HD := Lib.hid (HD.out.below hbc)
        have HB := Lib.hid (HB.out.trans (hbc.mono HB.out.size))
        have HB5 := Lib.hid (HB5.out.trans (hbc.mono HB5.out.size))
        obtain ⟨c1, c1c, rfl, _⟩ := hc.live.open
        obtain ⟨c2, c2c, rfl, _⟩ := hc.safe.open
        obtain ⟨qc3, nc3, eq3, _⟩ := hc.ops.open
        have eq3 : c3 = .slice qc3 0 nc3 := eq3
        subst eq3
        have hal : Below wc.heap.size wc (wc.alloc (.cells #[.slice c1 d.live.length c1c, .slice c2 d.live.length c2c, .slice qc3 0 nc3] 27)) := (Below.refl _ _).alloc (Nat.le_refl _) _
        have HBC := Lib.hid (heap_alloc_new wc (.cells #[.slice c1 d.live.length c1c, .slice c2 d.live.length c2c, .slice qc3 0 nc3] 27))
        have HX := Lib.hid ((hal.block _ (Array.getElem?_eq_some_iff.1 HX.out).1).trans HX.out)
        have HD := Lib.hid (HD.out.below hal)
        have HC := Lib.hid (HC.out.below hal)
        have HB := Lib.hid (HB.out.trans (hal.mono HB.out.size))
        have HB5 := Lib.hid (HB5.out.trans (hal.mono HB5.out.size))
        clear hal hbc hc b0 b1 b2 Cc
        obtain ⟨wcA, hwcA⟩ : ∃ W, wc.alloc (.cells #[.slice c1 d.live.length c1c, .slice c2 d.live.length c2c, .slice qc3 0 nc3] 27) = W := ⟨_, rfl⟩
        go_upto_region 12 with (fail)
        rw [hwcA] at HX HD HB HB5 HBC HC
        try rw [hwcA]
        generalize wc.heap.size = kC at HBC ⊢
        clear hwcA
        have Ce := Lib.hid (show Calls Try.prog 19 #[(.agg #[.slice p1 d.live.length m1, .slice p2 d.safe.length m2, .slice p3 d.ops.length m3]), (.slice none 0 0), .int .i64 0] wcA (fun e w' => ∃ u1 u2 u3, e = .returned (.tuple #[.agg #[u1, u2, u3], .bool true]) ∧ DiskAt wcA.heap.size u1 u2 u3 ⟨d.safe, d.safe, []⟩ w' ∧ ApartV u1 u2 ∧ Below wcA.heap.size wcA w') from by
          have q := crD_in _ _ _ (.slice none 0 0) d [] 0 wcA HD.out HF.out (RowL.nil _ _ _ _ _) (Nat.zero_le _)
          rw [crB_nil, hk, crD_nil hk] at q
          exact q)
        obtain ⟨⟨b0, b1, b2⟩, _⟩ := dk_cells HX.out
        go_wp2_with fail
        refine Ce.out.mono ?_
        rintro e we ⟨e1, e2, e3, rfl, he, _, hbe⟩
        have HE := Lib.hid (he.mono (Nat.zero_le _))
        have HX := Lib.hid ((hbe.block _ (Array.getElem?_eq_some_iff.1 HX.out).1).trans HX.out)
        have HBC := Lib.hid ((hbe.block _ (Array.getElem?_eq_some_iff.1 HBC.out).1).trans HBC.out)
        have HD := Lib.hid (HD.out.below hbe)
        have HC := Lib.hid (HC.out.below hbe)
        have HB := Lib.hid (HB.out.trans (hbe.mono HB.out.size))
        have HB5 := Lib.hid (HB5.out.trans (hbe.mono HB5.out.size))
        obtain ⟨e1, e1c, rfl, _⟩ := he.live.open
        obtain ⟨e2, e2c, rfl, _⟩ := he.safe.open
        obtain ⟨qe3, ne3, eq3, _⟩ := he.ops.open
        have eq3 : e3 = .slice qe3 0 ne3 := eq3
        subst eq3
        have hal : Below we.heap.size we (we.alloc (.cells #[.slice e1 d.safe.length e1c, .slice e2 d.safe.length e2c, .slice qe3 0 ne3] 27)) := (Below.refl _ _).alloc (Nat.le_refl _) _
        have HBE := Lib.hid (heap_alloc_new we (.cells #[.slice e1 d.safe.length e1c, .slice e2 d.safe.length e2c, .slice qe3 0 ne3] 27))
        have HX := Lib.hid ((hal.block _ (Array.getElem?_eq_some_iff.1 HX.out).1).trans HX.out)
        have HBC := Lib.hid ((hal.block _ (Array.getElem?_eq_some_iff.1 HBC.out).1).trans HBC.out)
        have HD := Lib.hid (HD.out.below hal)
        have HC := Lib.hid (HC.out.below hal)
        have HE := Lib.hid (HE.out.below hal)
        have HB := Lib.hid (HB.out.trans (hal.mono HB.out.size))
        have HB5 := Lib.hid (HB5.out.trans (hal.mono HB5.out.size))
        clear hal hbe he b0 b1 b2 Ce
        obtain ⟨weA, hweA⟩ : ∃ W, we.alloc (.cells #[.slice e1 d.safe.length e1c, .slice e2 d.safe.length e2c, .slice qe3 0 ne3] 27) = W := ⟨_, rfl⟩
        go_upto_region 13 with (fail)
        rw [hweA] at HX HD HB HB5 HBC HC HBE HE
        try rw [hweA]
        generalize we.heap.size = kE at HBE ⊢
        clear hweA
        obtain ⟨⟨b0, b1, b2⟩, _⟩ := dk_cells HX.out
        go_wp2_with fail
        refine (CI5.out _ HB5.out).mono ?_
        rintro e wf ⟨rfl, hbf⟩
        have HX := Lib.hid ((hbf.block _ (Array.getElem?_eq_some_iff.1 HX.out).1).trans HX.out)
        have HBC := Lib.hid ((hbf.block _ (Array.getElem?_eq_some_iff.1 HBC.out).1).trans HBC.out)
        have HBE := Lib.hid ((hbf.block _ (Array.getElem?_eq_some_iff.1 HBE.out).1).trans HBE.out)
        have HD := Lib.hid (HD.out.below hbf)
        have HC := Lib.hid (HC.out.below hbf)
        have HE := Lib.hid (HE.out.below hbf)
        have HB := Lib.hid (HB.out.trans (hbf.mono HB.out.size))
        have HB5 := Lib.hid (HB5.out.trans (hbf.mono HB5.out.size))
        clear hbf b0 b1 b2
        obtain ⟨⟨b0, b1, b2⟩, _⟩ := dk_cells HX.out
        have CY := Lib.hid (show Calls Try.prog 20 #[(.agg #[.slice p1 d.live.length m1, .slice p2 d.safe.length m2, .slice p3 d.ops.length m3])] wf (fun e w' => ∃ u1 u2 u3, e = .returned (.agg #[u1, u2, u3]) ∧ DiskAt wf.heap.size u1 u2 u3 ⟨d.live, d.live, []⟩ w' ∧ ApartV u1 u2 ∧ Below wf.heap.size wf w') from by
          have q := syncD_in _ _ _ d wf HD.out HF.out
          rw [syncV_yes hk] at q
          exact q)
        go_wp2_with fail
        refine CY.out.mono ?_
        rintro e ws ⟨s1, s2, s3, rfl, hs, _, hbs⟩
        have HS := Lib.hid (hs.mono (Nat.zero_le _))
        have HX := Lib.hid ((hbs.block _ (Array.getElem?_eq_some_iff.1 HX.out).1).trans HX.out)
        have HBC := Lib.hid ((hbs.block _ (Array.getElem?_eq_some_iff.1 HBC.out).1).trans HBC.out)
        have HBE := Lib.hid ((hbs.block _ (Array.getElem?_eq_some_iff.1 HBE.out).1).trans HBE.out)
        have HD := Lib.hid (HD.out.below hbs)
        have HC := Lib.hid (HC.out.below hbs)
        have HE := Lib.hid (HE.out.below hbs)
        have HB := Lib.hid (HB.out.trans (hbs.mono HB.out.size))
        have HB5 := Lib.hid (HB5.out.trans (hbs.mono HB5.out.size))
        obtain ⟨s1, s1c, rfl, _⟩ := hs.live.open
        obtain ⟨s2, s2c, rfl, _⟩ := hs.safe.open
        obtain ⟨qs3, ns3, e3, _⟩ := hs.ops.open
        have e3 : s3 = .slice qs3 0 ns3 := e3
        subst e3
        have hal : Below ws.heap.size ws (ws.alloc (.cells #[.slice s1 d.live.length s1c, .slice s2 d.live.length s2c, .slice qs3 0 ns3] 27)) := (Below.refl _ _).alloc (Nat.le_refl _) _
        have HBS := Lib.hid (heap_alloc_new ws (.cells #[.slice s1 d.live.length s1c, .slice s2 d.live.length s2c, .slice qs3 0 ns3] 27))
        have HX := Lib.hid ((hal.block _ (Array.getElem?_eq_some_iff.1 HX.out).1).trans HX.out)
        have HBC := Lib.hid ((hal.block _ (Array.getElem?_eq_some_iff.1 HBC.out).1).trans HBC.out)
        have HBE := Lib.hid ((hal.block _ (Array.getElem?_eq_some_iff.1 HBE.out).1).trans HBE.out)
        have HD := Lib.hid (HD.out.below hal)
        have HC := Lib.hid (HC.out.below hal)
        have HE := Lib.hid (HE.out.below hal)
        have HS := Lib.hid (HS.out.below hal)
        have HB := Lib.hid (HB.out.trans (hal.mono HB.out.size))
        have HB5 := Lib.hid (HB5.out.trans (hal.mono HB5.out.size))
        clear hal hbs hs b0 b1 b2 CY
        go_upto_region 18 with (fail)
        generalize ws.alloc (.cells #[.slice s1 d.live.length s1c, .slice s2 d.live.length s2c, .slice qs3 0 ns3] 27) = wt at HX HD HB HB5 HBC HC HBE HE HBS HS ⊢
        generalize ws.heap.size = kS at HBS ⊢
        obtain ⟨⟨b0, b1, b2⟩, _⟩ := dk_cells HX.out
        obtain ⟨⟨x0, x1, x2⟩, _⟩ := dk_cells HBC.out
        obtain ⟨⟨y0, y1, y2⟩, _⟩ := dk_cells HBE.out
        obtain ⟨⟨z0, z1, z2⟩, _⟩ := dk_cells HBS.out
        have CF := Lib.hid (sameFiles_any _ _ d.live d.live wt HC.out.live HD.out.live (by have := HF.out.small.live; have := HF.out.small.safe; omega) (by have := HF.out.small.live; have := HF.out.small.safe; omega))
        rw [decide_eq_true (show d.live = d.live from rfl)] at CF
        go_wp2_with fail
        refine CF.out.mono ?_
        rintro e wg ⟨rfl, hbq⟩
        have HX := Lib.hid ((hbq.block _ (Array.getElem?_eq_some_iff.1 HX.out).1).trans HX.out)
        have HBC := Lib.hid ((hbq.block _ (Array.getElem?_eq_some_iff.1 HBC.out).1).trans HBC.out)
        have HBE := Lib.hid ((hbq.block _ (Array.getElem?_eq_some_iff.1 HBE.out).1).trans HBE.out)
        have HBS := Lib.hid ((hbq.block _ (Array.getElem?_eq_some_iff.1 HBS.out).1).trans HBS.out)
        have HD := Lib.hid (HD.out.below hbq)
        have HC := Lib.hid (HC.out.below hbq)
        have HE := Lib.hid (HE.out.below hbq)
        have HS := Lib.hid (HS.out.below hbq)
        have HB := Lib.hid (HB.out.trans (hbq.mono HB.out.size))
        have HB5 := Lib.hid (HB5.out.trans (hbq.mono HB5.out.size))
        clear hbq b0 b1 b2 x0 x1 x2 y0 y1 y2 z0 z1 z2 CF
        obtain ⟨⟨b0, b1, b2⟩, _⟩ := dk_cells HX.out
        obtain ⟨⟨x0, x1, x2⟩, _⟩ := dk_cells HBC.out
        obtain ⟨⟨y0, y1, y2⟩, _⟩ := dk_cells HBE.out
        obtain ⟨⟨z0, z1, z2⟩, _⟩ := dk_cells HBS.out
        have CF := Lib.hid (sameFiles_any _ _ d.live d.live wg HC.out.safe HD.out.live (by have := HF.out.small.live; have := HF.out.small.safe; omega) (by have := HF.out.small.live; have := HF.out.small.safe; omega))
        rw [decide_eq_true (show d.live = d.live from rfl)] at CF
        go_wp2_with fail
        refine CF.out.mono ?_
        rintro e wh ⟨rfl, hbq⟩
        have HX := Lib.hid ((hbq.block _ (Array.getElem?_eq_some_iff.1 HX.out).1).trans HX.out)
        have HBC := Lib.hid ((hbq.block _ (Array.getElem?_eq_some_iff.1 HBC.out).1).trans HBC.out)
        have HBE := Lib.hid ((hbq.block _ (Array.getElem?_eq_some_iff.1 HBE.out).1).trans HBE.out)
        have HBS := Lib.hid ((hbq.block _ (Array.getElem?_eq_some_iff.1 HBS.out).1).trans HBS.out)
        have HD := Lib.hid (HD.out.below hbq)
        have HC := Lib.hid (HC.out.below hbq)
        have HE := Lib.hid (HE.out.below hbq)
        have HS := Lib.hid (HS.out.below hbq)
        have HB := Lib.hid (HB.out.trans (hbq.mono HB.out.size))
        have HB5 := Lib.hid (HB5.out.trans (hbq.mono HB5.out.size))
        clear hbq b0 b1 b2 x0 x1 x2 y0 y1 y2 z0 z1 z2 CF
        obtain ⟨⟨b0, b1, b2⟩, _⟩ := dk_cells HX.out
        obtain ⟨⟨x0, x1, x2⟩, _⟩ := dk_cells HBC.out
        obtain ⟨⟨y0, y1, y2⟩, _⟩ := dk_cells HBE.out
        obtain ⟨⟨z0, z1, z2⟩, _⟩ := dk_cells HBS.out
        have CF := Lib.hid (sameFiles_any _ _ d.safe d.safe wh HE.out.live HD.out.safe (by have := HF.out.small.live; have := HF.out.small.safe; omega) (by have := HF.out.small.live; have := HF.out.small.safe; omega))
        rw [decide_eq_true (show d.safe = d.safe from rfl)] at CF
        go_wp2_with fail
        refine CF.out.mono ?_
        rintro e wi ⟨rfl, hbq⟩
        have HX := Lib.hid ((hbq.block _ (Array.getElem?_eq_some_iff.1 HX.out).1).trans HX.out)
        have HBC := Lib.hid ((hbq.block _ (Array.getElem?_eq_some_iff.1 HBC.out).1).trans HBC.out)
        have HBE := Lib.hid ((hbq.block _ (Array.getElem?_eq_some_iff.1 HBE.out).1).trans HBE.out)
        have HBS := Lib.hid ((hbq.block _ (Array.getElem?_eq_some_iff.1 HBS.out).1).trans HBS.out)
        have HD := Lib.hid (HD.out.below hbq)
        have HC := Lib.hid (HC.out.below hbq)
        have HE := Lib.hid (HE.out.below hbq)
        have HS := Lib.hid (HS.out.below hbq)
        have HB := Lib.hid (HB.out.trans (hbq.mono HB.out.size))
        have HB5 := Lib.hid (HB5.out.trans (hbq.mono HB5.out.size))
        clear hbq b0 b1 b2 x0 x1 x2 y0 y1 y2 z0 z1 z2 CF
        obtain ⟨⟨b0, b1, b2⟩, _⟩ := dk_cells HX.out
        obtain ⟨⟨x0, x1, x2⟩, _⟩ := dk_cells HBC.out
        obtain ⟨⟨y0, y1, y2⟩, _⟩ := dk_cells HBE.out
        obtain ⟨⟨z0, z1, z2⟩, _⟩ := dk_cells HBS.out
        have CF := Lib.hid (sameFiles_any _ _ d.live d.live wi HS.out.safe HD.out.live (by have := HF.out.small.live; have := HF.out.small.safe; omega) (by have := HF.out.small.live; have := HF.out.small.safe; omega))
        rw [decide_eq_true (show d.live = d.live from rfl)] at CF
        go_wp2_with fail
        refine CF.out.mono ?_
        rintro e wj ⟨rfl, hbq⟩
        have HX := Lib.hid ((hbq.block _ (Array.getElem?_eq_some_iff.1 HX.out).1).trans HX.out)
        have HBC := Lib.hid ((hbq.block _ (Array.getElem?_eq_some_iff.1 HBC.out).1).trans HBC.out)
        have HBE := Lib.hid ((hbq.block _ (Array.getElem?_eq_some_iff.1 HBE.out).1).trans HBE.out)
        have HBS := Lib.hid ((hbq.block _ (Array.getElem?_eq_some_iff.1 HBS.out).1).trans HBS.out)
        have HD := Lib.hid (HD.out.below hbq)
        have HC := Lib.hid (HC.out.below hbq)
        have HE := Lib.hid (HE.out.below hbq)
        have HS := Lib.hid (HS.out.below hbq)
        have HB := Lib.hid (HB.out.trans (hbq.mono HB.out.size))
        have HB5 := Lib.hid (HB5.out.trans (hbq.mono HB5.out.size))
        clear hbq b0 b1 b2 x0 x1 x2 y0 y1 y2 z0 z1 z2 CF
        obtain ⟨⟨z0, z1, z2⟩, _⟩ := dk_cells HBS.out
        go_wp2
        go_ret
        exact ⟨rfl, HB.out⟩

set_option maxRecDepth 100000 in
theorem lifted (os : Os) (started : os.Started) (H : Type) (enc : TypeId × Value → H) :
    ReturnsInHanded {} Try.checked os 3 .any (Rows.fnCrashedSpec.pre6 enc Try.prog Try.f3 Rows.fnCrashedRow.domain false) (Rows.fnCrashedSpec.post enc Try.prog Try.f3 false true false false) := by
  refine returnsInHanded_of_change (C := Try.checked) own started (by kernel_rfl) Try.func3
    (ChangeSpec.witness6 (enc := enc) (C := Try.checked) false ⟨#[], #[.slice none 0 0], []⟩ 8 (by kernel_rfl) (by kernel_rfl) (by kernel_rfl) (by kernel_rfl)) ?_
  intro W base args ds gs before hval0 hW hcnd _
  have hval : ∀ (j : Nat) t v, Try.f3.params[j]? = some t → args[j]? = some v → Value.okWide Try.prog W .any base t v := hval0
  have hW' := hW
  obtain ⟨p, q, hA0, hV, rfl, hfz, hnd⟩ := hW
  have hA : DataW.TrodAll enc Try.prog W 0 (fun _ => true) true Try.f3.params.toList args.toList ds p := hA0
  rw [Try.params3] at hA hval
  obtain ⟨v0, vs0, d0, ds0, p0, q0, hargs, rfl, rfl, h0, r0⟩ := trodAll_cons hA
  obtain ⟨rfl, rfl, rfl⟩ := trodAll_nil r0
  obtain rfl : args = #[v0] := by cases args; simp_all
  obtain ⟨rfl, rfl⟩ := trodVars_none hV
  obtain ⟨a0, len0, cap0, rfl⟩ := okWide_slice Try.underlying22 (hval 0 22 v0 rfl rfl)
  have k0 := h0
  have lt0 : ∀ x ∈ p0, x.block < W.heap.size := by obtain ⟨m, hm⟩ := k0; exact DataW.trod_lt m _ _ _ hm
  obtain ⟨z0, w0⟩ : ∃ zs, My.IsRow .u8 W a0 len0 cap0 zs := by
    obtain ⟨fuel, hf⟩ := h0
    rcases open_ints Try.underlying22 Try.underlying5 (by kernel_rfl) hf with ⟨hcs, _⟩ | ⟨x, l, c, zs, hcs, _, hl, hm, hz, _, hcell, hwz⟩
    · simp [Value.cells] at hcs
      obtain ⟨rfl, rfl, rfl⟩ := hcs
      exact ⟨[], .inl ⟨rfl, rfl, rfl, rfl⟩⟩
    · simp [Value.cells] at hcs
      obtain ⟨rfl, rfl, rfl⟩ := hcs
      exact ⟨zs, .inr ⟨_, rfl, hl, hm, by simpa using hz, hcell, hwz⟩⟩
  clear hA0 hval0
  refine (walk W a0 len0 cap0 z0 w0).mono fun e W' ⟨he, bel⟩ => ?_
  subst he
  exact ⟨_, rfl, _, _, _, [], _, [], hW', trodAll_mk1 (shut_bool Try.underlying4 _), (trodAll_cons_mk (Below.trod laidOut (by kernel_rfl) (of_decide_eq_true (by kernel_rfl)) k0 bel lt0) trodAll_mk0), rfl, bel.frame _, fun h => by cases h⟩

theorem proved : Rows.FnCrashedSaid :=
  OpenClaim.holds_of_wide 3 Try.f3 rfl rfl rfl rfl rfl rfl rfl ⟨rfl, rfl, rfl, rfl, rfl⟩ rfl rfl rfl rfl rfl (by kernel_rfl) Try.func3 (by kernel_rfl)
    (of_decide_eq_true (by kernel_rfl)) (by unfold Func.isWrapper; first | (rw [if_pos (by decide +kernel)]; kernel_rfl) | (rw [if_neg (by decide +kernel)]; exact ⟨rfl, rfl⟩))
    (fun os started H enc _ => lifted os started H enc)
end Go.Proofs.Ytepefbfmjjnamaa.fnCrashed

/- Devices' checks of the specification: pairs, one held session. -/
import Derived.Test.YtkglgficmealnaaDvF
import Derived.Test.YtkglgficmealnaaMrgA
namespace Go.Proofs.Ytkglgficmealnaa
open Go.RowKit Go.My Go.Lib
set_option linter.unusedVariables false
set_option maxRecDepth 100000

theorem pairOk_s (k p : ByteArray) (w : World) : Calls Try.prog 44 #[.agg #[.string k, .string p]] w fun e w' => e = .returned (.bool (pairB k p)) ∧ Below w.heap.size w w' := by
  have hb0 : Below w.heap.size w (w.alloc (.cells #[.string k, .string p] 43)) := (Below.refl _ _).alloc (Nat.le_refl _) _
  have HV := Lib.hid (show pairB k p = (k32 k && k32 p) from rfl)
  go_enter Try.func44, Try.ntmps44
  go_wp2_with fail
  refine (l1Key_b k _).mono ?_
  rintro e w1 ⟨rfl, rfl⟩
  cases n1 : k32 k with
  | false =>
    go_wp2
    go_ret
    exact ⟨by rw [HV.out, n1]; rfl, hb0⟩
  | true =>
  go_wp2_with fail
  refine (l1Key_b p _).mono ?_
  rintro e w1 ⟨rfl, rfl⟩
  go_wp2
  go_ret
  exact ⟨by rw [HV.out, n1]; rfl, hb0⟩

theorem heldNo (P Q : Bool) (h : P = false) : (P && Q) = false := by rw [h]; rfl
set_option maxHeartbeats 8000000 in
theorem heldOk_s (a : HeldT) (w : World) (h : heldQ 0 a w) (hm : heldW a) : Calls Try.prog 69 #[.agg (heldC a).toArray] w fun e w' => e = .returned (.bool (heldB a)) ∧ Below w.heap.size w w' := by
  obtain ⟨id, ad, r, o, p, t, k, n, v, q, m, u, K, has, pa, pb, one⟩ := a
  have h : SkipsAt 0 u K w := h
  obtain ⟨hm1, hm2, hm3, hm4⟩ := hm
  have hm1 : id.size ≤ 1048576 := hm1
  have hm2 : K.length ≤ 1048576 := hm2
  show Calls _ _ #[.agg #[.string id, .string ad, .string r, .string o, .string p, .string t, .string k, .int .i64 n, .int .i64 v, .string q, .int .i64 m, u, .bool has, .string pa, .string pb, .int .i64 one]] _ _
  have hb0 : Below w.heap.size w (w.alloc (.cells #[.string id, .string ad, .string r, .string o, .string p, .string t, .string k, .int .i64 n, .int .i64 v, .string q, .int .i64 m, u, .bool has, .string pa, .string pb, .int .i64 one] 94)) := (Below.refl _ _).alloc (Nat.le_refl _) _
  have hbx : (w.alloc (.cells #[.string id, .string ad, .string r, .string o, .string p, .string t, .string k, .int .i64 n, .int .i64 v, .string q, .int .i64 m, u, .bool has, .string pa, .string pb, .int .i64 one] 94)).heap[w.heap.size]? = some (.cells #[.string id, .string ad, .string r, .string o, .string p, .string t, .string k, .int .i64 n, .int .i64 v, .string q, .int .i64 m, u, .bool has, .string pa, .string pb, .int .i64 one] 94 (0, 0)) := heap_alloc_new w _
  have CH := Lib.hid (readHex_spec id (w.alloc (.cells #[.string id, .string ad, .string r, .string o, .string p, .string t, .string k, .int .i64 n, .int .i64 v, .string q, .int .i64 m, u, .bool has, .string pa, .string pb, .int .i64 one] 94)) hm1)
  have HK := Lib.hid (h.below hb0)
  have HX := Lib.hid (And.intro hb0 hbx)
  have c0 : _ = some (Value.string id) := cell_of_row _ w.heap.size 0 _ _ _ hbx
  obtain ⟨pu, cu, rfl, _, _, _⟩ := h.open
  have HV := Lib.hid (show heldB ⟨id, ad, r, o, p, t, k, n, v, q, m, .slice pu K.length cu, K, has, pa, pb, one⟩ = (idB id && decide (ad.size = 64) && sesB r o p t k n v q m K && decide (HasP has pa pb one)) from rfl)
  have HB := Lib.hid (fun (w : World) => initOk_s pa pb one w _ rfl hm3 hm4)
  have HI := Lib.hid (idB_cases id)
  clear hb0 hbx h hm1 hm3 hm4
  go_enter Try.func69, Try.ntmps69
  go_wp2_with fail
  refine CH.out.mono ?_
  rintro e w1 ⟨rfl, hb⟩
  have hbx := (hb.block _ (Array.getElem?_eq_some_iff.1 HX.out.2).1).trans HX.out.2
  have HB0 := Lib.hid (HX.out.1.trans (hb.mono HX.out.1.size))
  have CS := Lib.hid (sesOk_s r o p t k n v q m _ K w1 (HK.out.below hb) hm2)
  clear c0 HX hb HK CH
  have c0 : w1.cell? ⟨w.heap.size, 0, none⟩ = some (.string id) := cell_of_row w1 w.heap.size 0 _ _ (0, 0) hbx
  have c1 : w1.cell? ⟨w.heap.size, 1, none⟩ = some (.string ad) := cell_of_row w1 w.heap.size 1 _ _ (0, 0) hbx
  have c2 : w1.cell? ⟨w.heap.size, 2, none⟩ = some (.string r) := cell_of_row w1 w.heap.size 2 _ _ (0, 0) hbx
  have c3 : w1.cell? ⟨w.heap.size, 3, none⟩ = some (.string o) := cell_of_row w1 w.heap.size 3 _ _ (0, 0) hbx
  have c4 : w1.cell? ⟨w.heap.size, 4, none⟩ = some (.string p) := cell_of_row w1 w.heap.size 4 _ _ (0, 0) hbx
  have c5 : w1.cell? ⟨w.heap.size, 5, none⟩ = some (.string t) := cell_of_row w1 w.heap.size 5 _ _ (0, 0) hbx
  have c6 : w1.cell? ⟨w.heap.size, 6, none⟩ = some (.string k) := cell_of_row w1 w.heap.size 6 _ _ (0, 0) hbx
  have c7 : w1.cell? ⟨w.heap.size, 7, none⟩ = some (.int .i64 n) := cell_of_row w1 w.heap.size 7 _ _ (0, 0) hbx
  have c8 : w1.cell? ⟨w.heap.size, 8, none⟩ = some (.int .i64 v) := cell_of_row w1 w.heap.size 8 _ _ (0, 0) hbx
  have c9 : w1.cell? ⟨w.heap.size, 9, none⟩ = some (.string q) := cell_of_row w1 w.heap.size 9 _ _ (0, 0) hbx
  have c10 : w1.cell? ⟨w.heap.size, 10, none⟩ = some (.int .i64 m) := cell_of_row w1 w.heap.size 10 _ _ (0, 0) hbx
  have c11 : w1.cell? ⟨w.heap.size, 11, none⟩ = some (.slice pu K.length cu) := cell_of_row w1 w.heap.size 11 _ _ (0, 0) hbx
  have c12 : w1.cell? ⟨w.heap.size, 12, none⟩ = some (.bool has) := cell_of_row w1 w.heap.size 12 _ _ (0, 0) hbx
  have c13 : w1.cell? ⟨w.heap.size, 13, none⟩ = some (.string pa) := cell_of_row w1 w.heap.size 13 _ _ (0, 0) hbx
  have c14 : w1.cell? ⟨w.heap.size, 14, none⟩ = some (.string pb) := cell_of_row w1 w.heap.size 14 _ _ (0, 0) hbx
  have c15 : w1.cell? ⟨w.heap.size, 15, none⟩ = some (.int .i64 one) := cell_of_row w1 w.heap.size 15 _ _ (0, 0) hbx
  have HX := Lib.hid hbx
  clear hbx
  rcases HI.out with ⟨l, e1, e2⟩ | ⟨l, e1, el, ev, e2⟩
  · rw [e1]
    clear e1 HI
    go_wp2
    go_ret
    exact ⟨by rw [HV.out, e2]; rfl, HB0.out⟩
  rw [e1]
  clear e1 HI
  have hl8 : (str l).size = l.length := str_size l
  by_cases h1 : id.size = 16
  case neg =>
    have h8 : ¬ ((str l).size = 8) := by omega
    clear hl8 el ev
    go_wp2
    go_ret
    exact ⟨by rw [HV.out, e2, decide_eq_false h1]; rfl, HB0.out⟩
  have h8 : (str l).size = 8 := by omega
  clear hl8 el ev
  by_cases h2 : ad.size = 64
  case neg =>
    go_wp2
    go_ret
    exact ⟨by rw [HV.out, decide_eq_false h2]; simp, HB0.out⟩
  have HW := Lib.hid (show heldB ⟨id, ad, r, o, p, t, k, n, v, q, m, .slice pu K.length cu, K, has, pa, pb, one⟩ = (sesB r o p t k n v q m K && decide (HasP has pa pb one)) from by rw [HV.out, e2, decide_eq_true h1, decide_eq_true h2]; rfl)
  clear e2 HV
  go_wp2_with fail
  refine CS.out.mono ?_
  rintro e w2 ⟨rfl, hb⟩
  have hbx := (hb.block _ (Array.getElem?_eq_some_iff.1 HX.out).1).trans HX.out
  have HB1 := Lib.hid (HB0.out.trans (hb.mono HB0.out.size))
  clear c0 c1 c2 c3 c4 c5 c6 c7 c8 c9 c10 c11 c12 c13 c14 c15 HX hb CS h1 h2 HB0 h8
  have c12 : w2.cell? ⟨w.heap.size, 12, none⟩ = some (.bool has) := cell_of_row w2 w.heap.size 12 _ _ (0, 0) hbx
  have c13 : w2.cell? ⟨w.heap.size, 13, none⟩ = some (.string pa) := cell_of_row w2 w.heap.size 13 _ _ (0, 0) hbx
  have c14 : w2.cell? ⟨w.heap.size, 14, none⟩ = some (.string pb) := cell_of_row w2 w.heap.size 14 _ _ (0, 0) hbx
  have c15 : w2.cell? ⟨w.heap.size, 15, none⟩ = some (.int .i64 one) := cell_of_row w2 w.heap.size 15 _ _ (0, 0) hbx
  have HX := Lib.hid hbx
  clear hbx
  cases n1 : sesB r o p t k n v q m K with
  | false =>
    go_wp2
    go_ret
    exact ⟨by rw [HW.out, n1]; rfl, HB1.out⟩
  | true =>
  have HZ := Lib.hid (show heldB ⟨id, ad, r, o, p, t, k, n, v, q, m, .slice pu K.length cu, K, has, pa, pb, one⟩ = decide (HasP has pa pb one) from by rw [HW.out, n1]; rfl)
  clear n1 HW
  cases has
  case true =>
    rw [hasP_t] at HZ
    go_wp2_with fail
    refine (HB.out _).mono ?_
    rintro e w3 ⟨rfl, hb⟩
    have hbx := (hb.block _ (Array.getElem?_eq_some_iff.1 HX.out).1).trans HX.out
    have HB2 := Lib.hid (HB1.out.trans (hb.mono HB1.out.size))
    clear hb HB1 HB c12 c13 c14 c15
    have c12 : w3.cell? ⟨w.heap.size, 12, none⟩ = some (.bool true) := cell_of_row w3 w.heap.size 12 _ _ (0, 0) hbx
    obtain ⟨b, eb⟩ : ∃ b, heldB ⟨id, ad, r, o, p, t, k, n, v, q, m, .slice pu K.length cu, K, true, pa, pb, one⟩ = b := ⟨_, rfl⟩
    have HE := Lib.hid eb
    rw [show decide (InitP pa pb one) = b from HZ.out.symm.trans eb]
    clear eb HZ
    cases b
    · go_wp2
      go_ret
      exact ⟨by rw [HE.out]; rfl, HB2.out⟩
    · go_wp2
      go_ret
      exact ⟨by rw [HE.out]; rfl, HB2.out⟩
  case false =>
    rw [hasP_f] at HZ
    by_cases k1 : pa.toList = []
    case neg =>
      have HZ := Lib.hid (HZ.out.trans (decide_eq_false (p := InitZ pa pb one) (fun c => k1 c.1)))
      go_wp2
      go_ret
      exact ⟨by rw [HZ.out]; rfl, HB1.out⟩
    by_cases k2 : pb.toList = []
    case neg =>
      have HZ := Lib.hid (HZ.out.trans (decide_eq_false (p := InitZ pa pb one) (fun c => k2 c.2.1)))
      go_wp2
      go_ret
      exact ⟨by rw [HZ.out]; rfl, HB1.out⟩
    by_cases k3 : one = 0
    case neg =>
      have HZ := Lib.hid (HZ.out.trans (decide_eq_false (p := InitZ pa pb one) (fun c => k3 c.2.2)))
      go_wp2
      go_ret
      exact ⟨by rw [HZ.out]; rfl, HB1.out⟩
    have HZ := Lib.hid (HZ.out.trans (decide_eq_true (p := InitZ pa pb one) ⟨k1, k2, k3⟩))
    go_wp2
    go_ret
    exact ⟨by rw [HZ.out]; rfl, HB1.out⟩
end Go.Proofs.Ytkglgficmealnaa

/- The specification: one peer. -/
namespace Go.Proofs.Ytkglgficmealnaa
open Go.RowKit Go.My Go.Lib
set_option linter.unusedVariables false
set_option maxRecDepth 100000

theorem l9Id_s (n : Int) (w : World) : Calls Try.prog 42 #[.int .i64 n] w fun e w' => e = .returned (.bool (decide (1 ≤ n ∧ n ≤ 9))) ∧ w = w' := by
  rw [show decide (1 ≤ n ∧ n ≤ 9) = (decide (1 ≤ n) && decide (n ≤ 9)) from (idIn n).symm]
  go_enter Try.func42, Try.ntmps42
  go_wp2_with fail
  refine (in_any n 1 9 _).mono ?_
  rintro e w1 ⟨rfl, rfl⟩
  go_wp2
  go_ret
  exact ⟨rfl, rfl⟩
theorem take_mem {α : Type} {l : List α} {j k : Nat} (hk : k < j) (h : k < l.length) : l[k] ∈ l.take j := by
  rw [List.mem_iff_getElem]
  exact ⟨k, by rw [List.length_take]; omega, List.getElem_take⟩
theorem any_take {l : List HeldT} {n : ByteArray} {j : Nat} (h : ∀ q (hq : q < j) (hl : q < l.length), l[q].id ≠ n) : (l.take j).any (fun x => decide (x.id = n)) = false :=
  any_no (fun q hq => by
    rw [List.getElem_take]
    rw [List.length_take] at hq
    exact h q (by omega) (by omega))

set_option maxHeartbeats 8000000 in
theorem peerOk_s (a : PeerT) (w : World) (h : peerQ 0 a w) (hm : peerW a) : Calls Try.prog 45 #[.agg (peerC a).toArray] w fun e w' => e = .returned (.bool (peerB a)) ∧ Below w.heap.size w w' := by
  obtain ⟨i, s, v, l⟩ := a
  obtain ⟨hr, hq⟩ := h
  obtain ⟨hm1, hm2⟩ := hm
  have hr : RowL 0 94 16 heldC v l w := hr
  have hm1 : l.length ≤ 1048576 := hm1
  obtain ⟨p, cap, rfl, hcm, hlc, hp⟩ := hr.open
  show Calls _ _ #[.agg #[.int .i64 i, .string s, .slice p l.length cap]] _ _
  have hb0 : Below w.heap.size w (w.alloc (.cells #[.int .i64 i, .string s, .slice p l.length cap] 78)) := (Below.refl _ _).alloc (Nat.le_refl _) _
  have hbx : (w.alloc (.cells #[.int .i64 i, .string s, .slice p l.length cap] 78)).heap[w.heap.size]? = some (.cells #[.int .i64 i, .string s, .slice p l.length cap] 78 (0, 0)) := heap_alloc_new w _
  have HX := Lib.hid (And.intro hb0 hbx)
  have HR := Lib.hid (And.intro hr (And.intro hq hm2))
  have HV := Lib.hid (show peerB ⟨i, s, .slice p l.length cap, l⟩ = (decide (1 ≤ i ∧ i ≤ 9) && k32 s && (decide (1 ≤ l.length) && decide (l.length ≤ 4)) && heldsB l) from rfl)
  have hlI : (l.length : Int) ≤ 1048576 := by omega
  clear hb0 hbx hr hq hm2 hlc hcm
  go_enter Try.func45, Try.ntmps45
  go_wp2
  go_loopw [3] (fun i1 wr => ∃ j : Nat, j ≤ l.length ∧ i1 = .int .i64 j ∧ heldsB (l.take j) = true ∧ Below w.heap.size w wr ∧ wr.heap[w.heap.size]? = some (.cells #[.int .i64 i, .string s, .slice p l.length cap] 78 (0, 0))) (fun i1 _ => l.length - (intOf i1).toNat)
  case atStart => exact ⟨0, Nat.zero_le _, rfl, rfl, HX.out⟩
  case round =>
    obtain ⟨j, hj, rfl, hall, hB⟩ := hrel
    have HA := Lib.hid hall
    have HB := Lib.hid hB
    clear hall hB
    obtain ⟨⟨c0, c1, c2⟩, _⟩ := dk_cells HB.out.2
    by_cases hlt : j < l.length
    case neg =>
      obtain rfl : j = l.length := by omega
      have HF := Lib.hid (show peerB ⟨i, s, .slice p l.length cap, l⟩ = (decide (1 ≤ i ∧ i ≤ 9) && k32 s && (decide (1 ≤ l.length) && decide (l.length ≤ 4))) from by
        have := HA.out
        rw [List.take_length] at this
        rw [HV.out, this, Bool.and_true])
      clear HV HA
      go_wp2_with fail
      refine (l9Id_s i _).mono ?_
      rintro e w' ⟨rfl, rfl⟩
      generalize decide (1 ≤ i ∧ i ≤ 9) = B1 at HF ⊢
      cases B1 with
      | false =>
        go_wp2
        go_ret
        exact ⟨by rw [HF.out]; rfl, HB.out.1⟩
      | true =>
      go_wp2_with fail
      refine (l1Key_b s _).mono ?_
      rintro e w' ⟨rfl, rfl⟩
      generalize k32 s = B2 at HF ⊢
      cases B2 with
      | false =>
        go_wp2
        go_ret
        exact ⟨by rw [HF.out]; rfl, HB.out.1⟩
      | true =>
      have e1 : decide ((1 : Int) ≤ (l.length : Int)) = decide (1 ≤ l.length) := decide_eq_decide.2 (by omega)
      have e2 : decide ((l.length : Int) ≤ 4) = decide (l.length ≤ 4) := decide_eq_decide.2 (by omega)
      have HE := Lib.hid (And.intro e1 e2)
      clear e1 e2
      go_wp2_with fail
      refine (in_any l.length 1 4 _).mono ?_
      rintro e w' ⟨rfl, rfl⟩
      rw [HE.out.1, HE.out.2]
      go_wp2
      go_ret
      exact ⟨by rw [HF.out]; rfl, HB.out.1⟩
    have hne : l ≠ [] := by intro c; rw [c] at hlt; simp at hlt
    obtain ⟨g, rfl, _, hg⟩ := hp.resolve_left (fun c => hne c.1)
    have j0 : (0 : Int) ≤ (j : Int) := by omega
    have j1 : (j : Int) < (l.length : Int) := by omega
    obtain ⟨x, hx⟩ : ∃ x, l[j] = x := ⟨_, rfl⟩
    have hxm : x ∈ l := by rw [← hx]; exact List.getElem_mem hlt
    have RNG := Lib.hid (show wr.rangeAt g (j * 16) (heldC x) from by have := row_range (HR.out.1.below HB.out.1) heldC_len hlt; rw [hx] at this; exact this)
    have CH := Lib.hid (heldOk_s x wr ((HR.out.2.1 x hxm).below HB.out.1) (HR.out.2.2 x hxm))
    have HT := Lib.hid (show heldsB (l.take (j + 1)) = (heldB x && !((l.take j).any fun y => decide (y.id = x.id))) from by rw [heldsB_next hlt HA.out, hx])
    have HBAD := Lib.hid (fun (h0 : heldsB (l.take (j + 1)) = false) => show peerB ⟨i, s, .slice (some ⟨g, 0, none⟩) l.length cap, l⟩ = false from by rw [HV.out, heldsB_bad h0, Bool.and_false])
    have HJX := Lib.hid hx
    generalize heldB x = b at CH HT
    clear hx hxm hne hp hg HA HV
    go_wp2_with (first | (with_reducible refine wpList_load_mid (op := ⟨some 16, _, _, _, _, _⟩) rfl 94 _ rfl g (j * 16) rfl (heldC x) _ RNG.out Try.underlying94 rfl (szHeldJ x) ?_) | fail)
    refine CH.out.mono ?_
    rintro e w2 ⟨rfl, hb⟩
    have HB2 := Lib.hid (And.intro (HB.out.1.trans (hb.mono HB.out.1.size)) ((hb.block _ (Array.getElem?_eq_some_iff.1 HB.out.2).1).trans HB.out.2))
    clear hb c0 c1 c2 HB RNG CH
    cases b with
    | false =>
      have HF := Lib.hid (HBAD.out (by rw [HT.out]; rfl))
      go_wp2
      go_ret
      exact ⟨by rw [HF.out]; rfl, HB2.out.1⟩
    | true =>
    go_wp2
    go_loopw [4] (fun i1 ws => ∃ k : Nat, k ≤ j ∧ i1 = .int .i64 k ∧ (∀ q (hq : q < k) (hl : q < l.length), l[q].id ≠ x.id) ∧ Below w.heap.size w ws ∧ ws.heap[w.heap.size]? = some (.cells #[.int .i64 i, .string s, .slice (some ⟨g, 0, none⟩) l.length cap] 78 (0, 0))) (fun i1 _ => j - (intOf i1).toNat)
    case atStart => exact ⟨0, Nat.zero_le _, rfl, (fun q hq => by omega), HB2.out⟩
    case round =>
      obtain ⟨k, hk, rfl, hno, hB⟩ := hrel
      have HNO := Lib.hid hno
      have HB3 := Lib.hid hB
      clear hno hB
      obtain ⟨⟨c0, c1, c2⟩, _⟩ := dk_cells HB3.out.2
      by_cases hkj : k < j
      case neg =>
        obtain rfl : k = j := by omega
        have HF := Lib.hid (show heldsB (l.take (k + 1)) = true from by rw [HT.out, any_take HNO.out]; rfl)
        go_wp2
        go_roundw
        case rel => exact ⟨k + 1, by omega, by go_num, HF.out, HB3.out⟩
        case measure => simp [intOf]; omega
      have hkl : k < l.length := by omega
      have l0 : (0 : Int) ≤ (k : Int) := by omega
      have l1 : (k : Int) < (j : Int) := by omega
      have l2 : (k : Int) < (l.length : Int) := by omega
      obtain ⟨y, hy⟩ : ∃ y, l[k] = y := ⟨_, rfl⟩
      have hA := HR.out.1.below HB3.out.1
      have b0 := hA.at heldC_len hkl hy 0 (by omega) (u := .string y.id) rfl
      have a0 := hA.at heldC_len hlt HJX.out 0 (by omega) (u := .string x.id) rfl
      rw [Nat.add_zero] at a0 b0
      have HY := Lib.hid hy
      clear hA hy
      by_cases e1 : y.id = x.id
      · have q1 : (y.id.toList == x.id.toList) = true := by rw [e1]; exact beq_self_eq_true _
        have HF := Lib.hid (HBAD.out (by rw [HT.out, any_yes (take_mem hkj hkl) (by rw [HY.out]; exact e1)]; rfl))
        clear e1
        go_upto_region 9 with (fail)
        go_quiet (fail)
        go_wp2
        go_ret
        exact ⟨by rw [HF.out]; rfl, below_drewN HB3.out.1 _⟩
      · have q1 : (y.id.toList == x.id.toList) = false := neq_b e1
        have HNE := Lib.hid e1
        clear e1
        go_upto_region 9 with (fail)
        go_quiet (fail)
        go_wp2
        go_roundw
        case rel => exact ⟨k + 1, by omega, by go_num, (fun q hq hl => by
          by_cases c : q = k
          · subst c; rw [HY.out]; exact HNE.out
          · exact HNO.out q (by omega) hl), below_drewN HB3.out.1 _, HB3.out.2⟩
        case measure => simp [intOf]; omega
end Go.Proofs.Ytkglgficmealnaa

/- The specification: DeviceOk: the one-time keys. -/
namespace Go.My
open Go.RowKit
set_option linter.unusedVariables false
section
variable {P : Program} {ops : Array Oper} {a0 : Act}
/-- A guard that has yielded nothing of its kind. -/
theorem unwanted_ne {o : Oper} {n : Nat} (hd : apartB ops n = true) {v : Nat → Value} {L : Nat → Bool} {k : Tmp} {y : Value} (j : Nat) {b : Bool} (hg : o.guard = some (j, b)) (hk : k < a0.tmps.size) (hj : dstOf ops j = some k) (hjs : j < n) (hl : L j = true) (hv : v j = y) (hy : y = .bool b → False) : Region.wanted o (yielded ops (putAll ops v L a0 n).tmps) = false := by
  have h1 := (at_new (a0 := a0) hd (v := v) j hk hj hjs hl).trans hv
  have h2 : (ops[j]?).bind (·.dst) = some k := hj
  have h3 : (putAll ops v L a0 n).tmps[k]?.getD undef = y := by
    simpa only [Act.eval, Array.getD_eq_getD_getElem?] using h1
  unfold Region.wanted
  rw [hg]
  show (yielded ops _ j == some b) = false
  unfold yielded
  rw [h2]
  show ((match (putAll ops v L a0 n).tmps[k]? with | some (.bool b) => some b | _ => none) == some b) = false
  cases c : (putAll ops v L a0 n).tmps[k]? with
  | none => rfl
  | some t =>
    rw [c] at h3
    have h3 : t = y := h3
    subst h3
    cases t with
    | bool d =>
      have : d ≠ b := fun e => hy (by rw [e])
      simpa using this
    | _ => rfl
theorem argsT1cc {a : Act} {k : Tmp} {y c d : Value} (h : a.eval (.tmp k) = y) : #[Operand.tmp k, .const c, .const d].map a.eval = #[y, c, d] := by
  have h2 : a.eval (.const c) = c := rfl
  have h3 : a.eval (.const d) = d := rfl
  simp only [List.map_toArray, List.map_cons, List.map_nil, h, h2, h3]
end
end Go.My
namespace Go.Proofs.Ytkglgficmealnaa
open Go.RowKit Go.My Go.Lib
set_option linter.unusedVariables false
set_option maxRecDepth 100000

theorem fdOne0 (q : Nat) (w : World) : (Instr.fieldAt 74 (.pointer (some ⟨q, 0, none⟩)) 0).run Try.prog w = .ok (.pointer (some ⟨q, 0, none⟩)) w := by simp [Instr.fieldAt, go_sem]
theorem fdOneN (q o : Nat) (w : World) : (Instr.fieldAt 74 (.pointer (some ⟨q, o, none⟩)) 0).run Try.prog w = .ok (.pointer (some ⟨q, o, none⟩)) w := by simp [Instr.fieldAt, go_sem]
theorem fdOne1 (q : Nat) (w : World) : (Instr.fieldAt 74 (.pointer (some ⟨q, 0, none⟩)) 1).run Try.prog w = .ok (.pointer (some ⟨q, 1, none⟩)) w := by simp [Instr.fieldAt, go_sem]
theorem fdDev4 (q : Nat) (w : World) : (Instr.fieldAt 47 (.pointer (some ⟨q, 0, none⟩)) 4).run Try.prog w = .ok (.pointer (some ⟨q, 6, none⟩)) w := by simp [Instr.fieldAt, go_sem]
theorem ldI6 {g j : Nat} {n : Int} {w : World} (h : w.cell? ⟨g, j, none⟩ = some (.int .i64 n)) : (Instr.loadAt 2 (.pointer (some ⟨g, j, none⟩))).run Try.prog w = .ok (.int .i64 n) w := by simp [Instr.loadAt, go_sem, h]
theorem ldOnes {g j n m : Nat} {p : Option Addr} {w : World} (h : w.cell? ⟨g, j, none⟩ = some (.slice p n m)) : (Instr.loadAt 44 (.pointer (some ⟨g, j, none⟩))).run Try.prog w = .ok (.slice p n m) w := by simp [Instr.loadAt, go_sem, h]
theorem szPairK (k p : ByteArray) : (Try.prog.info? 43).map (·.size) = some ([.string k, .string p] : List Value).length := by kernel_rfl
theorem cfIn (args : Array Value) (w : World) : (callFunc 43 args).run Try.prog w = .ok (.enter 43 args) w := cf_of Try.func43 (by kernel_rfl) (by kernel_rfl) args w
theorem cfPairOk (args : Array Value) (w : World) : (callFunc 44 args).run Try.prog w = .ok (.enter 44 args) w := cf_of Try.func44 (by kernel_rfl) (by kernel_rfl) args w
theorem gtZ (k : Tmp) (j : Nat) (z : Bool) (hz : decide (0 < j) = z) (w : World) : (do eqGuard .gtr 3 (.tmp k) (.const (.int .i64 0)) (.int .i64 j) (.int .i64 0); binOp .gtr 3 (.int .i64 j) (.int .i64 0) : Sem Value).run Try.prog w = .ok (.bool z) w := by
  rw [← hz, show decide (0 < j) = decide ((0 : Int) < (j : Int)) from decide_eq_decide.2 (by omega)]
  kernel_rfl
theorem subJ0 (k : Tmp) (j : Int) (w : World) : (do eqGuard .sub 3 (.tmp k) (.const (.int .i64 1)) (.int .i64 j) (.int .i64 1); binOp .sub 3 (.int .i64 j) (.int .i64 1) : Sem Value).run Try.prog w = .ok (.int .i64 (IntKind.i64.wrap (j - 1))) w := by kernel_rfl
theorem subJ (k : Tmp) (j : Nat) (h0 : 0 < j) (h1 : j ≤ 1048576) (w : World) : (do eqGuard .sub 3 (.tmp k) (.const (.int .i64 1)) (.int .i64 j) (.int .i64 1); binOp .sub 3 (.int .i64 j) (.int .i64 1) : Sem Value).run Try.prog w = .ok (.int .i64 ((j - 1 : Nat) : Int)) w := by
  have e : IntKind.i64.wrap ((j : Int) - 1) = ((j - 1 : Nat) : Int) := by rw [IntWalk.i64_in _ (by omega)]; omega
  exact (subJ0 k j w).trans (by rw [e])
theorem geqI (k l : Tmp) (x y : Int) (b : Bool) (hb : decide (y ≤ x) = b) (w : World) : (do eqGuard .geq 2 (.tmp k) (.tmp l) (.int .i64 x) (.int .i64 y); binOp .geq 2 (.int .i64 x) (.int .i64 y) : Sem Value).run Try.prog w = .ok (.bool b) w := by
  rw [← hb]
  kernel_rfl

structure On7 (W1 : World) (dv : Nat) (kx : Nat) (g : Nat) (n : Nat) (c : Nat) (j : Nat) (xi : Int) (k1 : ByteArray) (k2 : ByteArray) (yi : Int) (b1 : Bool) (b2 : Bool) (u : Bool) (z : Bool) (ge : Bool) (f : Nat → Value) (L : Nat → Bool) (w : World) : Prop where
  G : Below W1.heap.size W1 w
  f0 : L 0 = true → f 0 = .pointer (some ⟨kx, 0, none⟩)
  f1 : L 1 = true → f 1 = .int .i64 xi
  f2 : L 2 = true → f 2 = .bool b1
  f3 : L 3 = true → f 3 = .bool !b1
  f4 : L 4 = true → f 4 = .bool !b1
  f5 : b1 = true → L 5 = true → f 5 = .pointer (some ⟨kx, 1, none⟩)
  f6 : b1 = true → L 6 = true → f 6 = .agg #[.string k1, .string k2]
  f7 : b1 = true → L 7 = true → f 7 = .bool b2
  f8 : b1 = true → L 8 = true → f 8 = .bool !b2
  f9 : L 9 = true → f 9 = .bool u
  f10 : L 10 = true → f 10 = .bool u
  f11 : u = false → L 11 = true → f 11 = .int .i64 j
  f12 : u = false → L 12 = true → f 12 = .bool z
  f13 : L 13 = true → f 13 = if u then undef else .bool z
  f14 : u = false → z = true → L 14 = true → f 14 = .pointer (some ⟨dv, 6, none⟩)
  f15 : u = false → z = true → L 15 = true → f 15 = .slice (some ⟨g, 0, none⟩) n c
  f16 : u = false → z = true → L 16 = true → f 16 = .int .i64 j
  f17 : u = false → z = true → L 17 = true → f 17 = .int .i64 ((j - 1 : Nat) : Int)
  f18 : u = false → z = true → L 18 = true → f 18 = .pointer (some ⟨g, (j - 1) * 3, none⟩)
  f19 : u = false → z = true → L 19 = true → f 19 = .pointer (some ⟨g, (j - 1) * 3, none⟩)
  f20 : u = false → z = true → L 20 = true → f 20 = .int .i64 yi
  f21 : u = false → z = true → L 21 = true → f 21 = .pointer (some ⟨kx, 0, none⟩)
  f22 : u = false → z = true → L 22 = true → f 22 = .int .i64 xi
  f23 : u = false → z = true → L 23 = true → f 23 = .bool ge
  f24 : u = false → L 24 = true → f 24 = .bool (z && ge)
  f25 : L 25 = true → f 25 = .bool (u || (z && ge))
theorem On7.grow {W1 : World} {dv : Nat} {kx : Nat} {g : Nat} {n : Nat} {c : Nat} {j : Nat} {xi : Int} {k1 : ByteArray} {k2 : ByteArray} {yi : Int} {b1 : Bool} {b2 : Bool} {u : Bool} {z : Bool} {ge : Bool} {f : Nat → Value} {L : Nat → Bool} {w w' : World} (h : On7 W1 dv kx g n c j xi k1 k2 yi b1 b2 u z ge f L w) (hb : Below w.heap.size w w') : On7 W1 dv kx g n c j xi k1 k2 yi b1 b2 u z ge f L w' := ⟨h.G.trans (hb.mono h.G.size), h.f0, h.f1, h.f2, h.f3, h.f4, h.f5, h.f6, h.f7, h.f8, h.f9, h.f10, h.f11, h.f12, h.f13, h.f14, h.f15, h.f16, h.f17, h.f18, h.f19, h.f20, h.f21, h.f22, h.f23, h.f24, h.f25⟩

end Go.Proofs.Ytkglgficmealnaa

/- The specification: DeviceOk. -/
namespace Go.Proofs.Ytkglgficmealnaa
open Go.RowKit Go.My Go.Lib
set_option linter.unusedVariables false
set_option maxRecDepth 100000

theorem fdDev5 (q : Nat) (w : World) : (Instr.fieldAt 47 (.pointer (some ⟨q, 0, none⟩)) 5).run Try.prog w = .ok (.pointer (some ⟨q, 7, none⟩)) w := by simp [Instr.fieldAt, go_sem]
theorem fdDev0 (q : Nat) (w : World) : (Instr.fieldAt 47 (.pointer (some ⟨q, 0, none⟩)) 0).run Try.prog w = .ok (.pointer (some ⟨q, 0, none⟩)) w := by simp [Instr.fieldAt, go_sem]
theorem fdPeerN (q o : Nat) (w : World) : (Instr.fieldAt 78 (.pointer (some ⟨q, o, none⟩)) 0).run Try.prog w = .ok (.pointer (some ⟨q, o, none⟩)) w := by simp [Instr.fieldAt, go_sem]
theorem ldPeers {g j n m : Nat} {p : Option Addr} {w : World} (h : w.cell? ⟨g, j, none⟩ = some (.slice p n m)) : (Instr.loadAt 45 (.pointer (some ⟨g, j, none⟩))).run Try.prog w = .ok (.slice p n m) w := by simp [Instr.loadAt, go_sem, h]
theorem szPeerJ (a : PeerT) : (Try.prog.info? 78).map (·.size) = some (peerC a).length := by kernel_rfl
theorem cfPeer (args : Array Value) (w : World) : (callFunc 45 args).run Try.prog w = .ok (.enter 45 args) w := cf_of Try.func45 (by kernel_rfl) (by kernel_rfl) args w
theorem eqI60 (k l : Tmp) (x y : Int) (w : World) : (do eqGuard .eql 2 (.tmp k) (.tmp l) (.int .i64 x) (.int .i64 y); binOp .eql 2 (.int .i64 x) (.int .i64 y) : Sem Value).run Try.prog w = .ok (.bool (x == y)) w := by kernel_rfl
theorem eqI6 (k l : Tmp) (x y : Int) (b : Bool) (hb : decide (x = y) = b) (w : World) : (do eqGuard .eql 2 (.tmp k) (.tmp l) (.int .i64 x) (.int .i64 y); binOp .eql 2 (.int .i64 x) (.int .i64 y) : Sem Value).run Try.prog w = .ok (.bool b) w :=
  (eqI60 k l x y w).trans (by rw [← hb]; rfl)
structure Pn12 (W1 : World) (dv : Nat) (g : Nat) (n : Nat) (c : Nat) (j : Nat) (x : PeerT) (own : Int) (yi : Int) (b1 : Bool) (b2 : Bool) (u : Bool) (z : Bool) (ge : Bool) (f : Nat → Value) (L : Nat → Bool) (w : World) : Prop where
  G : Below W1.heap.size W1 w
  f0 : L 0 = true → f 0 = .pointer (some ⟨dv, 7, none⟩)
  f1 : L 1 = true → f 1 = .slice (some ⟨g, 0, none⟩) n c
  f2 : L 2 = true → f 2 = .int .i64 j
  f3 : L 3 = true → f 3 = .pointer (some ⟨g, j * 3, none⟩)
  f4 : L 4 = true → f 4 = .agg (peerC x).toArray
  f5 : L 5 = true → f 5 = .bool b1
  f6 : L 6 = true → f 6 = .bool !b1
  f7 : L 7 = true → f 7 = .bool !b1
  f8 : b1 = true → L 8 = true → f 8 = .pointer (some ⟨dv, 7, none⟩)
  f9 : b1 = true → L 9 = true → f 9 = .slice (some ⟨g, 0, none⟩) n c
  f10 : b1 = true → L 10 = true → f 10 = .int .i64 j
  f11 : b1 = true → L 11 = true → f 11 = .pointer (some ⟨g, j * 3, none⟩)
  f12 : b1 = true → L 12 = true → f 12 = .pointer (some ⟨g, j * 3, none⟩)
  f13 : b1 = true → L 13 = true → f 13 = .int .i64 x.id
  f14 : b1 = true → L 14 = true → f 14 = .pointer (some ⟨dv, 0, none⟩)
  f15 : b1 = true → L 15 = true → f 15 = .int .i64 own
  f16 : b1 = true → L 16 = true → f 16 = .bool b2
  f17 : L 17 = true → f 17 = .bool u
  f18 : L 18 = true → f 18 = .bool u
  f19 : u = false → L 19 = true → f 19 = .int .i64 j
  f20 : u = false → L 20 = true → f 20 = .bool z
  f21 : L 21 = true → f 21 = if u then undef else .bool z
  f22 : u = false → z = true → L 22 = true → f 22 = .pointer (some ⟨dv, 7, none⟩)
  f23 : u = false → z = true → L 23 = true → f 23 = .slice (some ⟨g, 0, none⟩) n c
  f24 : u = false → z = true → L 24 = true → f 24 = .int .i64 j
  f25 : u = false → z = true → L 25 = true → f 25 = .int .i64 ((j - 1 : Nat) : Int)
  f26 : u = false → z = true → L 26 = true → f 26 = .pointer (some ⟨g, (j - 1) * 3, none⟩)
  f27 : u = false → z = true → L 27 = true → f 27 = .pointer (some ⟨g, (j - 1) * 3, none⟩)
  f28 : u = false → z = true → L 28 = true → f 28 = .int .i64 yi
  f29 : u = false → z = true → L 29 = true → f 29 = .pointer (some ⟨dv, 7, none⟩)
  f30 : u = false → z = true → L 30 = true → f 30 = .slice (some ⟨g, 0, none⟩) n c
  f31 : u = false → z = true → L 31 = true → f 31 = .int .i64 j
  f32 : u = false → z = true → L 32 = true → f 32 = .pointer (some ⟨g, j * 3, none⟩)
  f33 : u = false → z = true → L 33 = true → f 33 = .pointer (some ⟨g, j * 3, none⟩)
  f34 : u = false → z = true → L 34 = true → f 34 = .int .i64 x.id
  f35 : u = false → z = true → L 35 = true → f 35 = .bool ge
  f36 : u = false → L 36 = true → f 36 = .bool (z && ge)
  f37 : L 37 = true → f 37 = .bool (u || (z && ge))
theorem Pn12.grow {W1 : World} {dv : Nat} {g : Nat} {n : Nat} {c : Nat} {j : Nat} {x : PeerT} {own : Int} {yi : Int} {b1 : Bool} {b2 : Bool} {u : Bool} {z : Bool} {ge : Bool} {f : Nat → Value} {L : Nat → Bool} {w w' : World} (h : Pn12 W1 dv g n c j x own yi b1 b2 u z ge f L w) (hb : Below w.heap.size w w') : Pn12 W1 dv g n c j x own yi b1 b2 u z ge f L w' := ⟨h.G.trans (hb.mono h.G.size), h.f0, h.f1, h.f2, h.f3, h.f4, h.f5, h.f6, h.f7, h.f8, h.f9, h.f10, h.f11, h.f12, h.f13, h.f14, h.f15, h.f16, h.f17, h.f18, h.f19, h.f20, h.f21, h.f22, h.f23, h.f24, h.f25, h.f26, h.f27, h.f28, h.f29, h.f30, h.f31, h.f32, h.f33, h.f34, h.f35, h.f36, h.f37⟩
theorem on_step (la xi : Int) (pb r z : Bool) (h0 : 0 ≤ la) (hz : z = false → la = 0) : (decide (la < xi) && (decide (xi ≤ 999) && pb) && r) = (!((!(decide (1 ≤ xi) && decide (xi ≤ 999)) || !pb) || (z && decide (xi ≤ la))) && r) := by
  by_cases a : la < xi
  · rw [decide_eq_true a, decide_eq_true (show 1 ≤ xi by omega), decide_eq_false (show ¬ xi ≤ la by omega)]
    cases decide (xi ≤ 999) <;> cases pb <;> cases z <;> rfl
  · rw [decide_eq_false a, decide_eq_true (show xi ≤ la by omega)]
    cases z with
    | false =>
      have := hz rfl
      rw [decide_eq_false (show ¬ 1 ≤ xi by omega)]
      rfl
    | true => cases (!(decide (1 ≤ xi) && decide (xi ≤ 999)) || !pb) <;> rfl
theorem pe_step (la xi : Int) (pb b2 r z : Bool) (h0 : 0 ≤ la) (hz : z = false → la = 0) (hp : pb = true → 1 ≤ xi) : (decide (la < xi) && (!b2 && pb) && r) = (!((!pb || b2) || (z && decide (xi ≤ la))) && r) := by
  by_cases a : la < xi
  · rw [decide_eq_true a, decide_eq_false (show ¬ xi ≤ la by omega)]
    cases b2 <;> cases pb <;> cases z <;> rfl
  · rw [decide_eq_false a, decide_eq_true (show xi ≤ la by omega)]
    cases pb with
    | false => rfl
    | true =>
      have h1 := hp rfl
      cases z with
      | false => have := hz rfl; omega
      | true => cases b2 <;> rfl
theorem userIn (u : Int) : (decide (0 ≤ u) && decide (u ≤ 1)) = userB u := by
  unfold userB
  rw [← Bool.decide_or, ← Bool.decide_and]
  exact decide_eq_decide.2 (by omega)
theorem peerB_id {a : PeerT} (h : peerB a = true) : 1 ≤ a.id := by
  unfold peerB at h
  simp only [Bool.and_eq_true, decide_eq_true_eq] at h
  exact h.1.1.1.1

set_option maxHeartbeats 16000000 in
theorem deviceOk_s (a : DevT) (w : World) (h : devQ 0 a w) (hm : devW a) : Calls Try.prog 18 #[.agg (devC a).toArray] w fun e w' => e = .returned (.bool (devB a)) ∧ Below w.heap.size w w' := by
  obtain ⟨i, us, ik, ip, sk, sp, vo, ones, vp, peers⟩ := a
  obtain ⟨h1, h2, h3⟩ := h
  obtain ⟨hm1, hm2, hm3⟩ := hm
  obtain ⟨po, co, eo, hcmo, hlco, hpo⟩ := h1.open
  obtain ⟨pp, cp, ep, hcmp, hlcp, hpp⟩ := h2.open
  obtain rfl : vo = .slice po ones.length co := eo
  obtain rfl : vp = .slice pp peers.length cp := ep
  have hm1 : ones.length ≤ 1048576 := hm1
  have hm2 : peers.length ≤ 1048576 := hm2
  show Calls _ _ #[.agg #[.int .i64 i, .int .i64 us, .string ik, .string ip, .string sk, .string sp, .slice po ones.length co, .slice pp peers.length cp]] _ _
  have hb0 : Below w.heap.size w (w.alloc (.cells #[.int .i64 i, .int .i64 us, .string ik, .string ip, .string sk, .string sp, .slice po ones.length co, .slice pp peers.length cp] 47)) := (Below.refl _ _).alloc (Nat.le_refl _) _
  have hbx : (w.alloc (.cells #[.int .i64 i, .int .i64 us, .string ik, .string ip, .string sk, .string sp, .slice po ones.length co, .slice pp peers.length cp] 47)).heap[w.heap.size]? = some (.cells #[.int .i64 i, .int .i64 us, .string ik, .string ip, .string sk, .string sp, .slice po ones.length co, .slice pp peers.length cp] 47 (0, 0)) := heap_alloc_new w _
  have HX := Lib.hid (And.intro hb0 hbx)
  have c0 : _ = some (Value.int .i64 i) := cell_of_row _ w.heap.size 0 _ _ _ hbx
  have c1 : _ = some (Value.int .i64 us) := cell_of_row _ w.heap.size 1 _ _ _ hbx
  have c2 : _ = some (Value.string ik) := cell_of_row _ w.heap.size 2 _ _ _ hbx
  have c3 : _ = some (Value.string ip) := cell_of_row _ w.heap.size 3 _ _ _ hbx
  have c4 : _ = some (Value.string sk) := cell_of_row _ w.heap.size 4 _ _ _ hbx
  have c5 : _ = some (Value.string sp) := cell_of_row _ w.heap.size 5 _ _ _ hbx
  have c6 : _ = some (Value.slice po ones.length co) := cell_of_row _ w.heap.size 6 _ _ _ hbx
  have c7 : _ = some (Value.slice pp peers.length cp) := cell_of_row _ w.heap.size 7 _ _ _ hbx
  have HV := Lib.hid (show devB ⟨i, us, ik, ip, sk, sp, .slice po ones.length co, ones, .slice pp peers.length cp, peers⟩ = (decide (1 ≤ i ∧ i ≤ 9) && userB us && pairB ik ip && pairB sk sp && (decide (ones.length ≤ 5) && runB 0 (ones.map oneF)) && runB 0 (peers.map (peerF i))) from rfl)
  have H1 := Lib.hid (show RowL 0 74 3 oneC (.slice po ones.length co) ones w from h1)
  have H2 := Lib.hid (show RowL 0 78 3 peerC (.slice pp peers.length cp) peers w from h2)
  have H3 := Lib.hid (show ∀ x ∈ peers, peerQ 0 x w ∧ peerW x from fun x hx => ⟨h3 x hx, hm3 x hx⟩)
  have hoI : (ones.length : Int) ≤ 1048576 := by omega
  have hpI : (peers.length : Int) ≤ 1048576 := by omega
  have hpo : (ones = [] ∧ _) ∨ _ := hpo
  have hpp : (peers = [] ∧ _) ∨ _ := hpp
  clear hb0 hbx h1 h2 h3 hm3 hcmo hlco hcmp hlcp
  go_enter Try.func18, Try.ntmps18
  go_wp2_with fail
  refine (l9Id_s i _).mono ?_
  rintro e w' ⟨rfl, rfl⟩
  generalize decide (1 ≤ i ∧ i ≤ 9) = B1 at HV ⊢
  cases B1 with
  | false =>
    go_wp2
    go_ret
    exact ⟨by rw [HV.out]; rfl, HX.out.1⟩
  | true =>
  go_wp2_with fail
  refine (in_any us 0 1 _).mono ?_
  rintro e w' ⟨rfl, rfl⟩
  rw [userIn us]
  generalize userB us = B2 at HV ⊢
  cases B2 with
  | false =>
    go_wp2
    go_ret
    exact ⟨by rw [HV.out]; rfl, HX.out.1⟩
  | true =>
  go_wp2_with fail
  refine (pairOk_s ik ip _).mono ?_
  rintro e w1 ⟨rfl, hb⟩
  have hbx := (hb.block _ (Array.getElem?_eq_some_iff.1 HX.out.2).1).trans HX.out.2
  have HX := Lib.hid (And.intro (HX.out.1.trans (hb.mono HX.out.1.size)) hbx)
  clear hb c0 c1 c2 c3 c4 c5 c6 c7
  have c0 : w1.cell? ⟨w.heap.size, 0, none⟩ = some (.int .i64 i) := cell_of_row w1 w.heap.size 0 _ _ (0, 0) hbx
  have c1 : w1.cell? ⟨w.heap.size, 1, none⟩ = some (.int .i64 us) := cell_of_row w1 w.heap.size 1 _ _ (0, 0) hbx
  have c2 : w1.cell? ⟨w.heap.size, 2, none⟩ = some (.string ik) := cell_of_row w1 w.heap.size 2 _ _ (0, 0) hbx
  have c3 : w1.cell? ⟨w.heap.size, 3, none⟩ = some (.string ip) := cell_of_row w1 w.heap.size 3 _ _ (0, 0) hbx
  have c4 : w1.cell? ⟨w.heap.size, 4, none⟩ = some (.string sk) := cell_of_row w1 w.heap.size 4 _ _ (0, 0) hbx
  have c5 : w1.cell? ⟨w.heap.size, 5, none⟩ = some (.string sp) := cell_of_row w1 w.heap.size 5 _ _ (0, 0) hbx
  have c6 : w1.cell? ⟨w.heap.size, 6, none⟩ = some (.slice po ones.length co) := cell_of_row w1 w.heap.size 6 _ _ (0, 0) hbx
  have c7 : w1.cell? ⟨w.heap.size, 7, none⟩ = some (.slice pp peers.length cp) := cell_of_row w1 w.heap.size 7 _ _ (0, 0) hbx
  clear hbx
  generalize pairB ik ip = B3 at HV ⊢
  cases B3 with
  | false =>
    go_wp2
    go_ret
    exact ⟨by rw [HV.out]; rfl, HX.out.1⟩
  | true =>
  go_wp2_with fail
  refine (pairOk_s sk sp _).mono ?_
  rintro e w2 ⟨rfl, hb⟩
  have hbx := (hb.block _ (Array.getElem?_eq_some_iff.1 HX.out.2).1).trans HX.out.2
  have HX := Lib.hid (And.intro (HX.out.1.trans (hb.mono HX.out.1.size)) hbx)
  clear hb c0 c1 c2 c3 c4 c5 c6 c7
  have c0 : w2.cell? ⟨w.heap.size, 0, none⟩ = some (.int .i64 i) := cell_of_row w2 w.heap.size 0 _ _ (0, 0) hbx
  have c1 : w2.cell? ⟨w.heap.size, 1, none⟩ = some (.int .i64 us) := cell_of_row w2 w.heap.size 1 _ _ (0, 0) hbx
  have c2 : w2.cell? ⟨w.heap.size, 2, none⟩ = some (.string ik) := cell_of_row w2 w.heap.size 2 _ _ (0, 0) hbx
  have c3 : w2.cell? ⟨w.heap.size, 3, none⟩ = some (.string ip) := cell_of_row w2 w.heap.size 3 _ _ (0, 0) hbx
  have c4 : w2.cell? ⟨w.heap.size, 4, none⟩ = some (.string sk) := cell_of_row w2 w.heap.size 4 _ _ (0, 0) hbx
  have c5 : w2.cell? ⟨w.heap.size, 5, none⟩ = some (.string sp) := cell_of_row w2 w.heap.size 5 _ _ (0, 0) hbx
  have c6 : w2.cell? ⟨w.heap.size, 6, none⟩ = some (.slice po ones.length co) := cell_of_row w2 w.heap.size 6 _ _ (0, 0) hbx
  have c7 : w2.cell? ⟨w.heap.size, 7, none⟩ = some (.slice pp peers.length cp) := cell_of_row w2 w.heap.size 7 _ _ (0, 0) hbx
  clear hbx
  generalize pairB sk sp = B4 at HV ⊢
  cases B4 with
  | false =>
    go_wp2
    go_ret
    exact ⟨by rw [HV.out]; rfl, HX.out.1⟩
  | true =>
  by_cases h5 : 5 < ones.length
  case pos =>
    have q5 : (5 : Int) < (ones.length : Int) := by omega
    have HF := Lib.hid (show decide (ones.length ≤ 5) = false from decide_eq_false (by omega))
    clear h5
    go_wp2
    go_ret
    exact ⟨by rw [HV.out, HF.out]; rfl, HX.out.1⟩
  have q5 : ¬ (5 : Int) < (ones.length : Int) := by omega
  have HV := Lib.hid (HV.out.trans (show _ = (runB 0 (ones.map oneF) && runB 0 (peers.map (peerF i))) from by rw [decide_eq_true (show ones.length ≤ 5 by omega)]; rfl))
  clear h5
  go_wp2
  clear q5 c0 c1 c2 c3 c4 c5 c6 c7
  go_loopw [3] (fun i1 wr => ∃ (j : Nat) (la : Int), j ≤ ones.length ∧ i1 = .int .i64 j ∧ 0 ≤ la ∧ (j = 0 → la = 0) ∧ (0 < j → ∃ y, ones[j - 1]? = some y ∧ y.1 = la) ∧ runB 0 (ones.map oneF) = runB la ((ones.drop j).map oneF) ∧ Below w.heap.size w wr ∧ wr.heap[w.heap.size]? = some (.cells #[.int .i64 i, .int .i64 us, .string ik, .string ip, .string sk, .string sp, .slice po ones.length co, .slice pp peers.length cp] 47 (0, 0))) (fun i1 _ => ones.length - (intOf i1).toNat)
  case atStart => exact ⟨0, 0, Nat.zero_le _, rfl, Int.le_refl _, (fun _ => rfl), (fun c => absurd c (Nat.lt_irrefl 0)), rfl, HX.out⟩
  case round =>
    obtain ⟨j, la, hj, rfl, hla, hla0, hprev, hrun, hB⟩ := hrel
    have HU := Lib.hid hrun
    have HB := Lib.hid hB
    have HLA := Lib.hid (And.intro hla (And.intro hla0 hprev))
    clear hrun hB hla hla0 hprev
    have hbx := HB.out.2
    have c0 : wr.cell? ⟨w.heap.size, 0, none⟩ = some (.int .i64 i) := cell_of_row wr w.heap.size 0 _ _ (0, 0) hbx
    have c1 : wr.cell? ⟨w.heap.size, 1, none⟩ = some (.int .i64 us) := cell_of_row wr w.heap.size 1 _ _ (0, 0) hbx
    have c2 : wr.cell? ⟨w.heap.size, 2, none⟩ = some (.string ik) := cell_of_row wr w.heap.size 2 _ _ (0, 0) hbx
    have c3 : wr.cell? ⟨w.heap.size, 3, none⟩ = some (.string ip) := cell_of_row wr w.heap.size 3 _ _ (0, 0) hbx
    have c4 : wr.cell? ⟨w.heap.size, 4, none⟩ = some (.string sk) := cell_of_row wr w.heap.size 4 _ _ (0, 0) hbx
    have c5 : wr.cell? ⟨w.heap.size, 5, none⟩ = some (.string sp) := cell_of_row wr w.heap.size 5 _ _ (0, 0) hbx
    have c6 : wr.cell? ⟨w.heap.size, 6, none⟩ = some (.slice po ones.length co) := cell_of_row wr w.heap.size 6 _ _ (0, 0) hbx
    have c7 : wr.cell? ⟨w.heap.size, 7, none⟩ = some (.slice pp peers.length cp) := cell_of_row wr w.heap.size 7 _ _ (0, 0) hbx
    clear hbx
    by_cases hlt : j < ones.length
    case pos =>
      have hne : ones ≠ [] := by intro c; rw [c] at hlt; simp at hlt
      obtain ⟨g, rfl, _, hg⟩ := hpo.resolve_left (fun c => hne c.1)
      have j0 : (0 : Int) ≤ (j : Int) := by omega
      have j1 : (j : Int) < (ones.length : Int) := by omega
      obtain ⟨x, hx⟩ : ∃ x, ones[j] = x := ⟨_, rfl⟩
      have hA := H1.out.below HB.out.1
      have a0 : wr.cell? ⟨g, j * 3, none⟩ = some (.int .i64 x.1) := hA.at oneC_len hlt hx 0 (by omega) rfl
      have a1 : wr.cell? ⟨g, j * 3 + 1, none⟩ = some (.string x.2.1) := hA.at oneC_len hlt hx 1 (by omega) rfl
      have a2 : wr.cell? ⟨g, j * 3 + 2, none⟩ = some (.string x.2.2) := hA.at oneC_len hlt hx 2 (by omega) rfl
      obtain ⟨z, hz⟩ : ∃ z, decide (0 < j) = z := ⟨_, rfl⟩
      have hzf : z = false → la = 0 := fun c => HLA.out.2.1 (by have := of_decide_eq_false (hz.trans c); omega)
      have ht := HU.out.trans (run_next hlt la)
      rw [hx] at ht
      have HT := Lib.hid (ht.trans (on_step la x.1 (pairB x.2.1 x.2.2) (runB x.1 ((ones.drop (j + 1)).map oneF)) z HLA.out.1 hzf))
      clear ht
      have hal : Below wr.heap.size wr (wr.alloc (.cells #[.int .i64 x.1, .string x.2.1, .string x.2.2] 74)) := below_box wr _
      obtain ⟨W, eW⟩ : ∃ W, wr.alloc (.cells #[.int .i64 x.1, .string x.2.1, .string x.2.2] 74) = W := ⟨_, rfl⟩
      have hWx : W.heap[wr.heap.size]? = some (.cells #[.int .i64 x.1, .string x.2.1, .string x.2.2] 74 (0, 0)) := by rw [← eW]; exact heap_alloc_new wr _
      have hWB : Below w.heap.size w W := by rw [← eW]; exact HB.out.1.trans (hal.mono HB.out.1.size)
      have hWD : W.heap[w.heap.size]? = some (.cells #[.int .i64 i, .int .i64 us, .string ik, .string ip, .string sk, .string sp, .slice (some ⟨g, 0, none⟩) ones.length co, .slice pp peers.length cp] 47 (0, 0)) := by rw [← eW]; exact (hal.block _ (Array.getElem?_eq_some_iff.1 HB.out.2).1).trans HB.out.2
      have RX := Lib.hid (show ∀ W2, Below W.heap.size W W2 → W2.heap[wr.heap.size]? = some (.cells #[.int .i64 x.1, .string x.2.1, .string x.2.2] 74 (0, 0)) from fun W2 h2 => (h2.block _ (Array.getElem?_eq_some_iff.1 hWx).1).trans hWx)
      have RI := Lib.hid (show ∀ W2, Below W.heap.size W W2 → W2.cell? ⟨wr.heap.size, 0, none⟩ = some (.int .i64 x.1) from fun W2 h2 => cell_of_row W2 _ 0 _ _ (0, 0) (RX.out W2 h2))
      have RQ := Lib.hid (show ∀ W2, Below W.heap.size W W2 → W2.rangeAt wr.heap.size 1 [.string x.2.1, .string x.2.2] from fun W2 h2 => range_of_row (RX.out W2 h2) (fun k v hk => by
        match k, hk with
        | 0, hk => exact hk
        | 1, hk => exact hk))
      have RO := Lib.hid (show ∀ W2, Below W.heap.size W W2 → W2.cell? ⟨w.heap.size, 6, none⟩ = some (.slice (some ⟨g, 0, none⟩) ones.length co) from fun W2 h2 => cell_of_row W2 _ 6 _ _ (0, 0) ((h2.block _ (Array.getElem?_eq_some_iff.1 hWD).1).trans hWD))
      have RY := Lib.hid (show z = true → ∀ W2, Below W.heap.size W W2 → W2.cell? ⟨g, (j - 1) * 3, none⟩ = some (.int .i64 la) from fun hz1 W2 h2 => by
        obtain ⟨y, ey, el⟩ := HLA.out.2.2 (of_decide_eq_true (hz.trans hz1))
        have hl2 : j - 1 < ones.length := by omega
        have ey2 : ones[j - 1] = y := by rw [List.getElem?_eq_getElem hl2] at ey; exact Option.some.inj ey
        rw [← el]
        exact (H1.out.below (hWB.trans (h2.mono hWB.size))).at oneC_len hl2 ey2 0 (by omega) rfl)
      have CI := Lib.hid (in_any x.1 1 999)
      have CP := Lib.hid (fun W2 (h2 : Below W.heap.size W W2) => pairOk_s x.2.1 x.2.2 W2)
      have HZ := Lib.hid hz
      have HZP := Lib.hid (show z = true → 0 < j from fun c => of_decide_eq_true (hz.trans c))
      have HJM := Lib.hid (show j ≤ 1048576 by omega)
      have HJN := Lib.hid (show z = true → j - 1 < ones.length from fun _ => by omega)
      have HNM := Lib.hid hm1
      have HWB := Lib.hid (And.intro hWB hWD)
      have HN1 := Lib.hid (show (0 < j + 1 → ∃ y, ones[j + 1 - 1]? = some y ∧ y.1 = x.1) from fun _ => ⟨x, by rw [Nat.add_sub_cancel, List.getElem?_eq_getElem hlt, hx], rfl⟩)
      have HP1 := Lib.hid (show (decide (1 ≤ x.1) && decide (x.1 ≤ 999)) = true → 0 ≤ x.1 from fun c => by
        have := of_decide_eq_true (Bool.and_eq_true _ _ ▸ c).1
        omega)
      obtain ⟨b1, e1⟩ : ∃ b, (decide (1 ≤ x.1) && decide (x.1 ≤ 999)) = b := ⟨_, rfl⟩
      obtain ⟨b2, e2⟩ : ∃ b, pairB x.2.1 x.2.2 = b := ⟨_, rfl⟩
      obtain ⟨ge, e3⟩ : ∃ b, decide (x.1 ≤ la) = b := ⟨_, rfl⟩
      obtain ⟨u, e4⟩ : ∃ b, (!b1 || !b2) = b := ⟨_, rfl⟩
      rw [e1] at CI HP1 HT
      rw [e2] at CP HT
      rw [e3, e4] at HT
      have HGE := Lib.hid e3
      have HUV := Lib.hid e4.symm
      clear hA hx hal hWx hWB hWD hz hzf hne hpo hg HX HU HLA e1 e2 e3 e4
      go_upto_region 7 with (fail)
      refine region_invLH 26 [some 46, some 47, some 48, some 49, some 50, some 51, some 52, some 53, some 54, some 55, some 56, some 57, some 58, some 59, some 60, some 61, some 62, some 63, some 64, some 65, some 66, some 67, some 68, some 69, some 70, some 71] (On7 W w.heap.size wr.heap.size g ones.length co j x.1 x.2.1 x.2.2 la b1 b2 u z ge) (by kernel_rfl) rfl (by kernel_rfl) (by kernel_rfl) (by kernel_rfl) ?_ ?_ ?_
      · exact ⟨(Below.refl _ _).drew, (fun h => by cases h), (fun h => by cases h), (fun h => by cases h), (fun h => by cases h), (fun h => by cases h), (fun _ h => by cases h), (fun _ h => by cases h), (fun _ h => by cases h), (fun _ h => by cases h), (fun h => by cases h), (fun h => by cases h), (fun _ h => by cases h), (fun _ h => by cases h), (fun h => by cases h), (fun _ _ h => by cases h), (fun _ _ h => by cases h), (fun _ _ h => by cases h), (fun _ _ h => by cases h), (fun _ _ h => by cases h), (fun _ _ h => by cases h), (fun _ _ h => by cases h), (fun _ _ h => by cases h), (fun _ _ h => by cases h), (fun _ _ h => by cases h), (fun _ h => by cases h), (fun h => by cases h)⟩
      · intro i0 o f L w1 hoi hL hI hdep
        have hi : i0 < 26 := (Array.getElem?_eq_some_iff.1 hoi).1
        have hc : i0 = 0 ∨ i0 = 1 ∨ i0 = 2 ∨ i0 = 3 ∨ i0 = 4 ∨ i0 = 5 ∨ i0 = 6 ∨ i0 = 7 ∨ i0 = 8 ∨ i0 = 9 ∨ i0 = 10 ∨ i0 = 11 ∨ i0 = 12 ∨ i0 = 13 ∨ i0 = 14 ∨ i0 = 15 ∨ i0 = 16 ∨ i0 = 17 ∨ i0 = 18 ∨ i0 = 19 ∨ i0 = 20 ∨ i0 = 21 ∨ i0 = 22 ∨ i0 = 23 ∨ i0 = 24 ∨ i0 = 25 := by omega
        clear hi
        rcases hc with rfl | rfl | rfl | rfl | rfl | rfl | rfl | rfl | rfl | rfl | rfl | rfl | rfl | rfl | rfl | rfl | rfl | rfl | rfl | rfl | rfl | rfl | rfl | rfl | rfl | rfl
        · obtain rfl := Option.some.inj hoi
          refine .inl ⟨wanted_free rfl, wpFieldT rfl (at_old (by kernel_rfl)) (fdOne0 _ w1) ⟨_, rfl, ?_⟩⟩
          exact ⟨hI.G, (fun _ => rfl), hI.f1, hI.f2, hI.f3, hI.f4, hI.f5, hI.f6, hI.f7, hI.f8, hI.f9, hI.f10, hI.f11, hI.f12, hI.f13, hI.f14, hI.f15, hI.f16, hI.f17, hI.f18, hI.f19, hI.f20, hI.f21, hI.f22, hI.f23, hI.f24, hI.f25⟩
        · obtain rfl := Option.some.inj hoi
          refine .inl ⟨wanted_free rfl, wpLoadT rfl ((at_new (by kernel_rfl) 0 (Nat.le_of_ble_eq_true rfl) rfl (by decide) (hdep 0 (dep_of (by kernel_rfl)))).trans (hI.f0 (hdep 0 (dep_of (by kernel_rfl))))) (ldI6 (RI.out w1 hI.G)) ⟨_, rfl, ?_⟩⟩
          exact ⟨hI.G, hI.f0, (fun _ => rfl), hI.f2, hI.f3, hI.f4, hI.f5, hI.f6, hI.f7, hI.f8, hI.f9, hI.f10, hI.f11, hI.f12, hI.f13, hI.f14, hI.f15, hI.f16, hI.f17, hI.f18, hI.f19, hI.f20, hI.f21, hI.f22, hI.f23, hI.f24, hI.f25⟩
        · obtain rfl := Option.some.inj hoi
          refine .inl ⟨wanted_free rfl, wpCallT rfl cfIn (argsT1cc ((at_new (by kernel_rfl) 1 (Nat.le_of_ble_eq_true rfl) rfl (by decide) (hdep 1 (dep_of (by kernel_rfl)))).trans (hI.f1 (hdep 1 (dep_of (by kernel_rfl)))))) ((CI.out w1).mono ?_)⟩
          rintro e w2 ⟨rfl, rfl⟩
          exact ⟨_, rfl, _, rfl, ⟨hI.G, hI.f0, hI.f1, (fun _ => rfl), hI.f3, hI.f4, hI.f5, hI.f6, hI.f7, hI.f8, hI.f9, hI.f10, hI.f11, hI.f12, hI.f13, hI.f14, hI.f15, hI.f16, hI.f17, hI.f18, hI.f19, hI.f20, hI.f21, hI.f22, hI.f23, hI.f24, hI.f25⟩⟩
        · obtain rfl := Option.some.inj hoi
          refine .inl ⟨wanted_free rfl, wpUnT rfl ((at_new (by kernel_rfl) 2 (Nat.le_of_ble_eq_true rfl) rfl (by decide) (hdep 2 (dep_of (by kernel_rfl)))).trans (hI.f2 (hdep 2 (dep_of (by kernel_rfl))))) (notB b1 w1) ⟨_, rfl, ?_⟩⟩
          exact ⟨hI.G, hI.f0, hI.f1, hI.f2, (fun _ => rfl), hI.f4, hI.f5, hI.f6, hI.f7, hI.f8, hI.f9, hI.f10, hI.f11, hI.f12, hI.f13, hI.f14, hI.f15, hI.f16, hI.f17, hI.f18, hI.f19, hI.f20, hI.f21, hI.f22, hI.f23, hI.f24, hI.f25⟩
        · obtain rfl := Option.some.inj hoi
          refine .inl ⟨wanted_free rfl, wpMoveT rfl ((at_new (by kernel_rfl) 3 (Nat.le_of_ble_eq_true rfl) rfl (by decide) (hdep 3 (dep_of (by kernel_rfl)))).trans (hI.f3 (hdep 3 (dep_of (by kernel_rfl))))) ⟨_, rfl, ?_⟩⟩
          exact ⟨hI.G, hI.f0, hI.f1, hI.f2, hI.f3, (fun _ => rfl), hI.f5, hI.f6, hI.f7, hI.f8, hI.f9, hI.f10, hI.f11, hI.f12, hI.f13, hI.f14, hI.f15, hI.f16, hI.f17, hI.f18, hI.f19, hI.f20, hI.f21, hI.f22, hI.f23, hI.f24, hI.f25⟩
        · obtain rfl := Option.some.inj hoi
          cases b1
          · exact .inr ⟨unwanted_at (k := 50) (by kernel_rfl) 4 rfl (Nat.le_of_ble_eq_true rfl) rfl (by decide) (hdep 4 (dep_of (by kernel_rfl))) (hI.f4 (hdep 4 (dep_of (by kernel_rfl)))), ⟨hI.G, hI.f0, hI.f1, hI.f2, hI.f3, hI.f4, (fun h => by cases h), hI.f6, hI.f7, hI.f8, hI.f9, hI.f10, hI.f11, hI.f12, hI.f13, hI.f14, hI.f15, hI.f16, hI.f17, hI.f18, hI.f19, hI.f20, hI.f21, hI.f22, hI.f23, hI.f24, hI.f25⟩⟩
          · refine .inl ⟨wanted_at (k := 50) (by kernel_rfl) 4 rfl (Nat.le_of_ble_eq_true rfl) rfl (by decide) (hdep 4 (dep_of (by kernel_rfl))) (hI.f4 (hdep 4 (dep_of (by kernel_rfl)))), wpFieldT rfl (at_old (by kernel_rfl)) (fdOne1 _ w1) ⟨_, rfl, ?_⟩⟩
            exact ⟨hI.G, hI.f0, hI.f1, hI.f2, hI.f3, hI.f4, (fun _ _ => rfl), hI.f6, hI.f7, hI.f8, hI.f9, hI.f10, hI.f11, hI.f12, hI.f13, hI.f14, hI.f15, hI.f16, hI.f17, hI.f18, hI.f19, hI.f20, hI.f21, hI.f22, hI.f23, hI.f24, hI.f25⟩
        · obtain rfl := Option.some.inj hoi
          cases b1
          · exact .inr ⟨unwanted_at (k := 50) (by kernel_rfl) 4 rfl (Nat.le_of_ble_eq_true rfl) rfl (by decide) (hdep 4 (dep_of (by kernel_rfl))) (hI.f4 (hdep 4 (dep_of (by kernel_rfl)))), ⟨hI.G, hI.f0, hI.f1, hI.f2, hI.f3, hI.f4, hI.f5, (fun h => by cases h), hI.f7, hI.f8, hI.f9, hI.f10, hI.f11, hI.f12, hI.f13, hI.f14, hI.f15, hI.f16, hI.f17, hI.f18, hI.f19, hI.f20, hI.f21, hI.f22, hI.f23, hI.f24, hI.f25⟩⟩
          · refine .inl ⟨wanted_at (k := 50) (by kernel_rfl) 4 rfl (Nat.le_of_ble_eq_true rfl) rfl (by decide) (hdep 4 (dep_of (by kernel_rfl))) (hI.f4 (hdep 4 (dep_of (by kernel_rfl)))), wpLoadT rfl ((at_new (by kernel_rfl) 5 (Nat.le_of_ble_eq_true rfl) rfl (by decide) (hdep 5 (dep_of (by kernel_rfl)))).trans (hI.f5 rfl (hdep 5 (dep_of (by kernel_rfl))))) (run_loadAt_mid w1 _ 1 43 [.string x.2.1, .string x.2.2] _ (RQ.out w1 hI.G) Try.underlying43 rfl (szPairK _ _)) ⟨_, rfl, ?_⟩⟩
            exact ⟨hI.G, hI.f0, hI.f1, hI.f2, hI.f3, hI.f4, hI.f5, (fun _ _ => rfl), hI.f7, hI.f8, hI.f9, hI.f10, hI.f11, hI.f12, hI.f13, hI.f14, hI.f15, hI.f16, hI.f17, hI.f18, hI.f19, hI.f20, hI.f21, hI.f22, hI.f23, hI.f24, hI.f25⟩
        · obtain rfl := Option.some.inj hoi
          cases b1
          · exact .inr ⟨unwanted_at (k := 50) (by kernel_rfl) 4 rfl (Nat.le_of_ble_eq_true rfl) rfl (by decide) (hdep 4 (dep_of (by kernel_rfl))) (hI.f4 (hdep 4 (dep_of (by kernel_rfl)))), ⟨hI.G, hI.f0, hI.f1, hI.f2, hI.f3, hI.f4, hI.f5, hI.f6, (fun h => by cases h), hI.f8, hI.f9, hI.f10, hI.f11, hI.f12, hI.f13, hI.f14, hI.f15, hI.f16, hI.f17, hI.f18, hI.f19, hI.f20, hI.f21, hI.f22, hI.f23, hI.f24, hI.f25⟩⟩
          · refine .inl ⟨wanted_at (k := 50) (by kernel_rfl) 4 rfl (Nat.le_of_ble_eq_true rfl) rfl (by decide) (hdep 4 (dep_of (by kernel_rfl))) (hI.f4 (hdep 4 (dep_of (by kernel_rfl)))), wpCallT rfl cfPairOk (argsT1 ((at_new (by kernel_rfl) 6 (Nat.le_of_ble_eq_true rfl) rfl (by decide) (hdep 6 (dep_of (by kernel_rfl)))).trans (hI.f6 rfl (hdep 6 (dep_of (by kernel_rfl)))))) ((CP.out w1 hI.G).mono ?_)⟩
            rintro e w2 ⟨rfl, hb⟩
            have hI := hI.grow hb
            exact ⟨_, rfl, _, rfl, ⟨hI.G, hI.f0, hI.f1, hI.f2, hI.f3, hI.f4, hI.f5, hI.f6, (fun _ _ => rfl), hI.f8, hI.f9, hI.f10, hI.f11, hI.f12, hI.f13, hI.f14, hI.f15, hI.f16, hI.f17, hI.f18, hI.f19, hI.f20, hI.f21, hI.f22, hI.f23, hI.f24, hI.f25⟩⟩
        · obtain rfl := Option.some.inj hoi
          cases b1
          · exact .inr ⟨unwanted_at (k := 50) (by kernel_rfl) 4 rfl (Nat.le_of_ble_eq_true rfl) rfl (by decide) (hdep 4 (dep_of (by kernel_rfl))) (hI.f4 (hdep 4 (dep_of (by kernel_rfl)))), ⟨hI.G, hI.f0, hI.f1, hI.f2, hI.f3, hI.f4, hI.f5, hI.f6, hI.f7, (fun h => by cases h), hI.f9, hI.f10, hI.f11, hI.f12, hI.f13, hI.f14, hI.f15, hI.f16, hI.f17, hI.f18, hI.f19, hI.f20, hI.f21, hI.f22, hI.f23, hI.f24, hI.f25⟩⟩
          · refine .inl ⟨wanted_at (k := 50) (by kernel_rfl) 4 rfl (Nat.le_of_ble_eq_true rfl) rfl (by decide) (hdep 4 (dep_of (by kernel_rfl))) (hI.f4 (hdep 4 (dep_of (by kernel_rfl)))), wpUnT rfl ((at_new (by kernel_rfl) 7 (Nat.le_of_ble_eq_true rfl) rfl (by decide) (hdep 7 (dep_of (by kernel_rfl)))).trans (hI.f7 rfl (hdep 7 (dep_of (by kernel_rfl))))) (notB b2 w1) ⟨_, rfl, ?_⟩⟩
            exact ⟨hI.G, hI.f0, hI.f1, hI.f2, hI.f3, hI.f4, hI.f5, hI.f6, hI.f7, (fun _ _ => rfl), hI.f9, hI.f10, hI.f11, hI.f12, hI.f13, hI.f14, hI.f15, hI.f16, hI.f17, hI.f18, hI.f19, hI.f20, hI.f21, hI.f22, hI.f23, hI.f24, hI.f25⟩
        · obtain rfl := Option.some.inj hoi
          refine .inl ⟨wanted_free rfl, wpPickKT (x := .bool !b2) rfl ((at_new (by kernel_rfl) 4 (Nat.le_of_ble_eq_true rfl) rfl (by decide) (hdep 4 (dep_of (by kernel_rfl)))).trans (hI.f4 (hdep 4 (dep_of (by kernel_rfl))))) (fun hb => (at_new (by kernel_rfl) 8 (Nat.le_of_ble_eq_true rfl) rfl (by decide) (hdep 8 (dep_of (by kernel_rfl)))).trans (hI.f8 (by simpa using hb) (hdep 8 (dep_of (by kernel_rfl))))) ⟨_, rfl, ?_⟩⟩
          exact ⟨hI.G, hI.f0, hI.f1, hI.f2, hI.f3, hI.f4, hI.f5, hI.f6, hI.f7, hI.f8, (fun _ => by rw [HUV.out]; cases b1 <;> rfl), hI.f10, hI.f11, hI.f12, hI.f13, hI.f14, hI.f15, hI.f16, hI.f17, hI.f18, hI.f19, hI.f20, hI.f21, hI.f22, hI.f23, hI.f24, hI.f25⟩
        · obtain rfl := Option.some.inj hoi
          refine .inl ⟨wanted_free rfl, wpMoveT rfl ((at_new (by kernel_rfl) 9 (Nat.le_of_ble_eq_true rfl) rfl (by decide) (hdep 9 (dep_of (by kernel_rfl)))).trans (hI.f9 (hdep 9 (dep_of (by kernel_rfl))))) ⟨_, rfl, ?_⟩⟩
          exact ⟨hI.G, hI.f0, hI.f1, hI.f2, hI.f3, hI.f4, hI.f5, hI.f6, hI.f7, hI.f8, hI.f9, (fun _ => rfl), hI.f11, hI.f12, hI.f13, hI.f14, hI.f15, hI.f16, hI.f17, hI.f18, hI.f19, hI.f20, hI.f21, hI.f22, hI.f23, hI.f24, hI.f25⟩
        · obtain rfl := Option.some.inj hoi
          cases u
          · refine .inl ⟨wanted_at (k := 56) (by kernel_rfl) 10 rfl (Nat.le_of_ble_eq_true rfl) rfl (by decide) (hdep 10 (dep_of (by kernel_rfl))) (hI.f10 (hdep 10 (dep_of (by kernel_rfl)))), wpMoveT rfl (at_old (by kernel_rfl)) ⟨_, rfl, ?_⟩⟩
            exact ⟨hI.G, hI.f0, hI.f1, hI.f2, hI.f3, hI.f4, hI.f5, hI.f6, hI.f7, hI.f8, hI.f9, hI.f10, (fun _ _ => rfl), hI.f12, hI.f13, hI.f14, hI.f15, hI.f16, hI.f17, hI.f18, hI.f19, hI.f20, hI.f21, hI.f22, hI.f23, hI.f24, hI.f25⟩
          · exact .inr ⟨unwanted_at (k := 56) (by kernel_rfl) 10 rfl (Nat.le_of_ble_eq_true rfl) rfl (by decide) (hdep 10 (dep_of (by kernel_rfl))) (hI.f10 (hdep 10 (dep_of (by kernel_rfl)))), ⟨hI.G, hI.f0, hI.f1, hI.f2, hI.f3, hI.f4, hI.f5, hI.f6, hI.f7, hI.f8, hI.f9, hI.f10, (fun h => by cases h), hI.f12, hI.f13, hI.f14, hI.f15, hI.f16, hI.f17, hI.f18, hI.f19, hI.f20, hI.f21, hI.f22, hI.f23, hI.f24, hI.f25⟩⟩
        · obtain rfl := Option.some.inj hoi
          cases u
          · refine .inl ⟨wanted_at (k := 56) (by kernel_rfl) 10 rfl (Nat.le_of_ble_eq_true rfl) rfl (by decide) (hdep 10 (dep_of (by kernel_rfl))) (hI.f10 (hdep 10 (dep_of (by kernel_rfl)))), wpBinKT rfl ((at_new (by kernel_rfl) 11 (Nat.le_of_ble_eq_true rfl) rfl (by decide) (hdep 11 (dep_of (by kernel_rfl)))).trans (hI.f11 rfl (hdep 11 (dep_of (by kernel_rfl))))) (gtZ 57 j z HZ.out w1) ⟨_, rfl, ?_⟩⟩
            exact ⟨hI.G, hI.f0, hI.f1, hI.f2, hI.f3, hI.f4, hI.f5, hI.f6, hI.f7, hI.f8, hI.f9, hI.f10, hI.f11, (fun _ _ => rfl), hI.f13, hI.f14, hI.f15, hI.f16, hI.f17, hI.f18, hI.f19, hI.f20, hI.f21, hI.f22, hI.f23, hI.f24, hI.f25⟩
          · exact .inr ⟨unwanted_at (k := 56) (by kernel_rfl) 10 rfl (Nat.le_of_ble_eq_true rfl) rfl (by decide) (hdep 10 (dep_of (by kernel_rfl))) (hI.f10 (hdep 10 (dep_of (by kernel_rfl)))), ⟨hI.G, hI.f0, hI.f1, hI.f2, hI.f3, hI.f4, hI.f5, hI.f6, hI.f7, hI.f8, hI.f9, hI.f10, hI.f11, (fun h => by cases h), hI.f13, hI.f14, hI.f15, hI.f16, hI.f17, hI.f18, hI.f19, hI.f20, hI.f21, hI.f22, hI.f23, hI.f24, hI.f25⟩⟩
        · obtain rfl := Option.some.inj hoi
          cases u
          · refine .inl ⟨wanted_at (k := 56) (by kernel_rfl) 10 rfl (Nat.le_of_ble_eq_true rfl) rfl (by decide) (hdep 10 (dep_of (by kernel_rfl))) (hI.f10 (hdep 10 (dep_of (by kernel_rfl)))), wpMoveT rfl ((at_new (by kernel_rfl) 12 (Nat.le_of_ble_eq_true rfl) rfl (by decide) (hdep 12 (dep_of (by kernel_rfl)))).trans (hI.f12 rfl (hdep 12 (dep_of (by kernel_rfl))))) ⟨_, rfl, ?_⟩⟩
            exact ⟨hI.G, hI.f0, hI.f1, hI.f2, hI.f3, hI.f4, hI.f5, hI.f6, hI.f7, hI.f8, hI.f9, hI.f10, hI.f11, hI.f12, (fun _ => rfl), hI.f14, hI.f15, hI.f16, hI.f17, hI.f18, hI.f19, hI.f20, hI.f21, hI.f22, hI.f23, hI.f24, hI.f25⟩
          · exact .inr ⟨unwanted_at (k := 56) (by kernel_rfl) 10 rfl (Nat.le_of_ble_eq_true rfl) rfl (by decide) (hdep 10 (dep_of (by kernel_rfl))) (hI.f10 (hdep 10 (dep_of (by kernel_rfl)))), ⟨hI.G, hI.f0, hI.f1, hI.f2, hI.f3, hI.f4, hI.f5, hI.f6, hI.f7, hI.f8, hI.f9, hI.f10, hI.f11, hI.f12, (fun _ => rfl), hI.f14, hI.f15, hI.f16, hI.f17, hI.f18, hI.f19, hI.f20, hI.f21, hI.f22, hI.f23, hI.f24, hI.f25⟩⟩
        · obtain rfl := Option.some.inj hoi
          cases u
          · cases z
            · exact .inr ⟨unwanted_at (k := 59) (by kernel_rfl) 13 rfl (Nat.le_of_ble_eq_true rfl) rfl (by decide) (hdep 13 (dep_of (by kernel_rfl))) (hI.f13 (hdep 13 (dep_of (by kernel_rfl)))), ⟨hI.G, hI.f0, hI.f1, hI.f2, hI.f3, hI.f4, hI.f5, hI.f6, hI.f7, hI.f8, hI.f9, hI.f10, hI.f11, hI.f12, hI.f13, (fun _ h => by cases h), hI.f15, hI.f16, hI.f17, hI.f18, hI.f19, hI.f20, hI.f21, hI.f22, hI.f23, hI.f24, hI.f25⟩⟩
            · refine .inl ⟨wanted_at (k := 59) (by kernel_rfl) 13 rfl (Nat.le_of_ble_eq_true rfl) rfl (by decide) (hdep 13 (dep_of (by kernel_rfl))) (hI.f13 (hdep 13 (dep_of (by kernel_rfl)))), wpFieldT rfl (at_old (by kernel_rfl)) (fdDev4 _ w1) ⟨_, rfl, ?_⟩⟩
              exact ⟨hI.G, hI.f0, hI.f1, hI.f2, hI.f3, hI.f4, hI.f5, hI.f6, hI.f7, hI.f8, hI.f9, hI.f10, hI.f11, hI.f12, hI.f13, (fun _ _ _ => rfl), hI.f15, hI.f16, hI.f17, hI.f18, hI.f19, hI.f20, hI.f21, hI.f22, hI.f23, hI.f24, hI.f25⟩
          · exact .inr ⟨unwanted_ne (k := 59) (by kernel_rfl) 13 rfl (Nat.le_of_ble_eq_true rfl) rfl (by decide) (hdep 13 (dep_of (by kernel_rfl))) (hI.f13 (hdep 13 (dep_of (by kernel_rfl)))) (fun h => by cases h), ⟨hI.G, hI.f0, hI.f1, hI.f2, hI.f3, hI.f4, hI.f5, hI.f6, hI.f7, hI.f8, hI.f9, hI.f10, hI.f11, hI.f12, hI.f13, (fun h => by cases h), hI.f15, hI.f16, hI.f17, hI.f18, hI.f19, hI.f20, hI.f21, hI.f22, hI.f23, hI.f24, hI.f25⟩⟩
        · obtain rfl := Option.some.inj hoi
          cases u
          · cases z
            · exact .inr ⟨unwanted_at (k := 59) (by kernel_rfl) 13 rfl (Nat.le_of_ble_eq_true rfl) rfl (by decide) (hdep 13 (dep_of (by kernel_rfl))) (hI.f13 (hdep 13 (dep_of (by kernel_rfl)))), ⟨hI.G, hI.f0, hI.f1, hI.f2, hI.f3, hI.f4, hI.f5, hI.f6, hI.f7, hI.f8, hI.f9, hI.f10, hI.f11, hI.f12, hI.f13, hI.f14, (fun _ h => by cases h), hI.f16, hI.f17, hI.f18, hI.f19, hI.f20, hI.f21, hI.f22, hI.f23, hI.f24, hI.f25⟩⟩
            · refine .inl ⟨wanted_at (k := 59) (by kernel_rfl) 13 rfl (Nat.le_of_ble_eq_true rfl) rfl (by decide) (hdep 13 (dep_of (by kernel_rfl))) (hI.f13 (hdep 13 (dep_of (by kernel_rfl)))), wpLoadT rfl ((at_new (by kernel_rfl) 14 (Nat.le_of_ble_eq_true rfl) rfl (by decide) (hdep 14 (dep_of (by kernel_rfl)))).trans (hI.f14 rfl rfl (hdep 14 (dep_of (by kernel_rfl))))) (ldOnes (RO.out w1 hI.G)) ⟨_, rfl, ?_⟩⟩
              exact ⟨hI.G, hI.f0, hI.f1, hI.f2, hI.f3, hI.f4, hI.f5, hI.f6, hI.f7, hI.f8, hI.f9, hI.f10, hI.f11, hI.f12, hI.f13, hI.f14, (fun _ _ _ => rfl), hI.f16, hI.f17, hI.f18, hI.f19, hI.f20, hI.f21, hI.f22, hI.f23, hI.f24, hI.f25⟩
          · exact .inr ⟨unwanted_ne (k := 59) (by kernel_rfl) 13 rfl (Nat.le_of_ble_eq_true rfl) rfl (by decide) (hdep 13 (dep_of (by kernel_rfl))) (hI.f13 (hdep 13 (dep_of (by kernel_rfl)))) (fun h => by cases h), ⟨hI.G, hI.f0, hI.f1, hI.f2, hI.f3, hI.f4, hI.f5, hI.f6, hI.f7, hI.f8, hI.f9, hI.f10, hI.f11, hI.f12, hI.f13, hI.f14, (fun h => by cases h), hI.f16, hI.f17, hI.f18, hI.f19, hI.f20, hI.f21, hI.f22, hI.f23, hI.f24, hI.f25⟩⟩
        · obtain rfl := Option.some.inj hoi
          cases u
          · cases z
            · exact .inr ⟨unwanted_at (k := 59) (by kernel_rfl) 13 rfl (Nat.le_of_ble_eq_true rfl) rfl (by decide) (hdep 13 (dep_of (by kernel_rfl))) (hI.f13 (hdep 13 (dep_of (by kernel_rfl)))), ⟨hI.G, hI.f0, hI.f1, hI.f2, hI.f3, hI.f4, hI.f5, hI.f6, hI.f7, hI.f8, hI.f9, hI.f10, hI.f11, hI.f12, hI.f13, hI.f14, hI.f15, (fun _ h => by cases h), hI.f17, hI.f18, hI.f19, hI.f20, hI.f21, hI.f22, hI.f23, hI.f24, hI.f25⟩⟩
            · refine .inl ⟨wanted_at (k := 59) (by kernel_rfl) 13 rfl (Nat.le_of_ble_eq_true rfl) rfl (by decide) (hdep 13 (dep_of (by kernel_rfl))) (hI.f13 (hdep 13 (dep_of (by kernel_rfl)))), wpMoveT rfl (at_old (by kernel_rfl)) ⟨_, rfl, ?_⟩⟩
              exact ⟨hI.G, hI.f0, hI.f1, hI.f2, hI.f3, hI.f4, hI.f5, hI.f6, hI.f7, hI.f8, hI.f9, hI.f10, hI.f11, hI.f12, hI.f13, hI.f14, hI.f15, (fun _ _ _ => rfl), hI.f17, hI.f18, hI.f19, hI.f20, hI.f21, hI.f22, hI.f23, hI.f24, hI.f25⟩
          · exact .inr ⟨unwanted_ne (k := 59) (by kernel_rfl) 13 rfl (Nat.le_of_ble_eq_true rfl) rfl (by decide) (hdep 13 (dep_of (by kernel_rfl))) (hI.f13 (hdep 13 (dep_of (by kernel_rfl)))) (fun h => by cases h), ⟨hI.G, hI.f0, hI.f1, hI.f2, hI.f3, hI.f4, hI.f5, hI.f6, hI.f7, hI.f8, hI.f9, hI.f10, hI.f11, hI.f12, hI.f13, hI.f14, hI.f15, (fun h => by cases h), hI.f17, hI.f18, hI.f19, hI.f20, hI.f21, hI.f22, hI.f23, hI.f24, hI.f25⟩⟩
        · obtain rfl := Option.some.inj hoi
          cases u
          · cases z
            · exact .inr ⟨unwanted_at (k := 59) (by kernel_rfl) 13 rfl (Nat.le_of_ble_eq_true rfl) rfl (by decide) (hdep 13 (dep_of (by kernel_rfl))) (hI.f13 (hdep 13 (dep_of (by kernel_rfl)))), ⟨hI.G, hI.f0, hI.f1, hI.f2, hI.f3, hI.f4, hI.f5, hI.f6, hI.f7, hI.f8, hI.f9, hI.f10, hI.f11, hI.f12, hI.f13, hI.f14, hI.f15, hI.f16, (fun _ h => by cases h), hI.f18, hI.f19, hI.f20, hI.f21, hI.f22, hI.f23, hI.f24, hI.f25⟩⟩
            · refine .inl ⟨wanted_at (k := 59) (by kernel_rfl) 13 rfl (Nat.le_of_ble_eq_true rfl) rfl (by decide) (hdep 13 (dep_of (by kernel_rfl))) (hI.f13 (hdep 13 (dep_of (by kernel_rfl)))), wpBinKT rfl ((at_new (by kernel_rfl) 16 (Nat.le_of_ble_eq_true rfl) rfl (by decide) (hdep 16 (dep_of (by kernel_rfl)))).trans (hI.f16 rfl rfl (hdep 16 (dep_of (by kernel_rfl))))) (subJ 62 j (HZP.out rfl) HJM.out w1) ⟨_, rfl, ?_⟩⟩
              exact ⟨hI.G, hI.f0, hI.f1, hI.f2, hI.f3, hI.f4, hI.f5, hI.f6, hI.f7, hI.f8, hI.f9, hI.f10, hI.f11, hI.f12, hI.f13, hI.f14, hI.f15, hI.f16, (fun _ _ _ => rfl), hI.f18, hI.f19, hI.f20, hI.f21, hI.f22, hI.f23, hI.f24, hI.f25⟩
          · exact .inr ⟨unwanted_ne (k := 59) (by kernel_rfl) 13 rfl (Nat.le_of_ble_eq_true rfl) rfl (by decide) (hdep 13 (dep_of (by kernel_rfl))) (hI.f13 (hdep 13 (dep_of (by kernel_rfl)))) (fun h => by cases h), ⟨hI.G, hI.f0, hI.f1, hI.f2, hI.f3, hI.f4, hI.f5, hI.f6, hI.f7, hI.f8, hI.f9, hI.f10, hI.f11, hI.f12, hI.f13, hI.f14, hI.f15, hI.f16, (fun h => by cases h), hI.f18, hI.f19, hI.f20, hI.f21, hI.f22, hI.f23, hI.f24, hI.f25⟩⟩
        · obtain rfl := Option.some.inj hoi
          cases u
          · cases z
            · exact .inr ⟨unwanted_at (k := 59) (by kernel_rfl) 13 rfl (Nat.le_of_ble_eq_true rfl) rfl (by decide) (hdep 13 (dep_of (by kernel_rfl))) (hI.f13 (hdep 13 (dep_of (by kernel_rfl)))), ⟨hI.G, hI.f0, hI.f1, hI.f2, hI.f3, hI.f4, hI.f5, hI.f6, hI.f7, hI.f8, hI.f9, hI.f10, hI.f11, hI.f12, hI.f13, hI.f14, hI.f15, hI.f16, hI.f17, (fun _ h => by cases h), hI.f19, hI.f20, hI.f21, hI.f22, hI.f23, hI.f24, hI.f25⟩⟩
            · refine .inl ⟨wanted_at (k := 59) (by kernel_rfl) 13 rfl (Nat.le_of_ble_eq_true rfl) rfl (by decide) (hdep 13 (dep_of (by kernel_rfl))) (hI.f13 (hdep 13 (dep_of (by kernel_rfl)))), wpIdxT rfl ((at_new (by kernel_rfl) 15 (Nat.le_of_ble_eq_true rfl) rfl (by decide) (hdep 15 (dep_of (by kernel_rfl)))).trans (hI.f15 rfl rfl (hdep 15 (dep_of (by kernel_rfl))))) ((at_new (by kernel_rfl) 17 (Nat.le_of_ble_eq_true rfl) rfl (by decide) (hdep 17 (dep_of (by kernel_rfl)))).trans (hI.f17 rfl rfl (hdep 17 (dep_of (by kernel_rfl))))) ((fun w1 => ixOne g ones.length co (j - 1) w1 (HJN.out rfl) HNM.out) w1) ⟨_, rfl, ?_⟩⟩
              exact ⟨hI.G, hI.f0, hI.f1, hI.f2, hI.f3, hI.f4, hI.f5, hI.f6, hI.f7, hI.f8, hI.f9, hI.f10, hI.f11, hI.f12, hI.f13, hI.f14, hI.f15, hI.f16, hI.f17, (fun _ _ _ => rfl), hI.f19, hI.f20, hI.f21, hI.f22, hI.f23, hI.f24, hI.f25⟩
          · exact .inr ⟨unwanted_ne (k := 59) (by kernel_rfl) 13 rfl (Nat.le_of_ble_eq_true rfl) rfl (by decide) (hdep 13 (dep_of (by kernel_rfl))) (hI.f13 (hdep 13 (dep_of (by kernel_rfl)))) (fun h => by cases h), ⟨hI.G, hI.f0, hI.f1, hI.f2, hI.f3, hI.f4, hI.f5, hI.f6, hI.f7, hI.f8, hI.f9, hI.f10, hI.f11, hI.f12, hI.f13, hI.f14, hI.f15, hI.f16, hI.f17, (fun h => by cases h), hI.f19, hI.f20, hI.f21, hI.f22, hI.f23, hI.f24, hI.f25⟩⟩
        · obtain rfl := Option.some.inj hoi
          cases u
          · cases z
            · exact .inr ⟨unwanted_at (k := 59) (by kernel_rfl) 13 rfl (Nat.le_of_ble_eq_true rfl) rfl (by decide) (hdep 13 (dep_of (by kernel_rfl))) (hI.f13 (hdep 13 (dep_of (by kernel_rfl)))), ⟨hI.G, hI.f0, hI.f1, hI.f2, hI.f3, hI.f4, hI.f5, hI.f6, hI.f7, hI.f8, hI.f9, hI.f10, hI.f11, hI.f12, hI.f13, hI.f14, hI.f15, hI.f16, hI.f17, hI.f18, (fun _ h => by cases h), hI.f20, hI.f21, hI.f22, hI.f23, hI.f24, hI.f25⟩⟩
            · refine .inl ⟨wanted_at (k := 59) (by kernel_rfl) 13 rfl (Nat.le_of_ble_eq_true rfl) rfl (by decide) (hdep 13 (dep_of (by kernel_rfl))) (hI.f13 (hdep 13 (dep_of (by kernel_rfl)))), wpFieldT rfl ((at_new (by kernel_rfl) 18 (Nat.le_of_ble_eq_true rfl) rfl (by decide) (hdep 18 (dep_of (by kernel_rfl)))).trans (hI.f18 rfl rfl (hdep 18 (dep_of (by kernel_rfl))))) (fdOneN g ((j - 1) * 3) w1) ⟨_, rfl, ?_⟩⟩
              exact ⟨hI.G, hI.f0, hI.f1, hI.f2, hI.f3, hI.f4, hI.f5, hI.f6, hI.f7, hI.f8, hI.f9, hI.f10, hI.f11, hI.f12, hI.f13, hI.f14, hI.f15, hI.f16, hI.f17, hI.f18, (fun _ _ _ => rfl), hI.f20, hI.f21, hI.f22, hI.f23, hI.f24, hI.f25⟩
          · exact .inr ⟨unwanted_ne (k := 59) (by kernel_rfl) 13 rfl (Nat.le_of_ble_eq_true rfl) rfl (by decide) (hdep 13 (dep_of (by kernel_rfl))) (hI.f13 (hdep 13 (dep_of (by kernel_rfl)))) (fun h => by cases h), ⟨hI.G, hI.f0, hI.f1, hI.f2, hI.f3, hI.f4, hI.f5, hI.f6, hI.f7, hI.f8, hI.f9, hI.f10, hI.f11, hI.f12, hI.f13, hI.f14, hI.f15, hI.f16, hI.f17, hI.f18, (fun h => by cases h), hI.f20, hI.f21, hI.f22, hI.f23, hI.f24, hI.f25⟩⟩
        · obtain rfl := Option.some.inj hoi
          cases u
          · cases z
            · exact .inr ⟨unwanted_at (k := 59) (by kernel_rfl) 13 rfl (Nat.le_of_ble_eq_true rfl) rfl (by decide) (hdep 13 (dep_of (by kernel_rfl))) (hI.f13 (hdep 13 (dep_of (by kernel_rfl)))), ⟨hI.G, hI.f0, hI.f1, hI.f2, hI.f3, hI.f4, hI.f5, hI.f6, hI.f7, hI.f8, hI.f9, hI.f10, hI.f11, hI.f12, hI.f13, hI.f14, hI.f15, hI.f16, hI.f17, hI.f18, hI.f19, (fun _ h => by cases h), hI.f21, hI.f22, hI.f23, hI.f24, hI.f25⟩⟩
            · refine .inl ⟨wanted_at (k := 59) (by kernel_rfl) 13 rfl (Nat.le_of_ble_eq_true rfl) rfl (by decide) (hdep 13 (dep_of (by kernel_rfl))) (hI.f13 (hdep 13 (dep_of (by kernel_rfl)))), wpLoadT rfl ((at_new (by kernel_rfl) 19 (Nat.le_of_ble_eq_true rfl) rfl (by decide) (hdep 19 (dep_of (by kernel_rfl)))).trans (hI.f19 rfl rfl (hdep 19 (dep_of (by kernel_rfl))))) (ldI6 (RY.out rfl w1 hI.G)) ⟨_, rfl, ?_⟩⟩
              exact ⟨hI.G, hI.f0, hI.f1, hI.f2, hI.f3, hI.f4, hI.f5, hI.f6, hI.f7, hI.f8, hI.f9, hI.f10, hI.f11, hI.f12, hI.f13, hI.f14, hI.f15, hI.f16, hI.f17, hI.f18, hI.f19, (fun _ _ _ => rfl), hI.f21, hI.f22, hI.f23, hI.f24, hI.f25⟩
          · exact .inr ⟨unwanted_ne (k := 59) (by kernel_rfl) 13 rfl (Nat.le_of_ble_eq_true rfl) rfl (by decide) (hdep 13 (dep_of (by kernel_rfl))) (hI.f13 (hdep 13 (dep_of (by kernel_rfl)))) (fun h => by cases h), ⟨hI.G, hI.f0, hI.f1, hI.f2, hI.f3, hI.f4, hI.f5, hI.f6, hI.f7, hI.f8, hI.f9, hI.f10, hI.f11, hI.f12, hI.f13, hI.f14, hI.f15, hI.f16, hI.f17, hI.f18, hI.f19, (fun h => by cases h), hI.f21, hI.f22, hI.f23, hI.f24, hI.f25⟩⟩
        · obtain rfl := Option.some.inj hoi
          cases u
          · cases z
            · exact .inr ⟨unwanted_at (k := 59) (by kernel_rfl) 13 rfl (Nat.le_of_ble_eq_true rfl) rfl (by decide) (hdep 13 (dep_of (by kernel_rfl))) (hI.f13 (hdep 13 (dep_of (by kernel_rfl)))), ⟨hI.G, hI.f0, hI.f1, hI.f2, hI.f3, hI.f4, hI.f5, hI.f6, hI.f7, hI.f8, hI.f9, hI.f10, hI.f11, hI.f12, hI.f13, hI.f14, hI.f15, hI.f16, hI.f17, hI.f18, hI.f19, hI.f20, (fun _ h => by cases h), hI.f22, hI.f23, hI.f24, hI.f25⟩⟩
            · refine .inl ⟨wanted_at (k := 59) (by kernel_rfl) 13 rfl (Nat.le_of_ble_eq_true rfl) rfl (by decide) (hdep 13 (dep_of (by kernel_rfl))) (hI.f13 (hdep 13 (dep_of (by kernel_rfl)))), wpFieldT rfl (at_old (by kernel_rfl)) (fdOne0 _ w1) ⟨_, rfl, ?_⟩⟩
              exact ⟨hI.G, hI.f0, hI.f1, hI.f2, hI.f3, hI.f4, hI.f5, hI.f6, hI.f7, hI.f8, hI.f9, hI.f10, hI.f11, hI.f12, hI.f13, hI.f14, hI.f15, hI.f16, hI.f17, hI.f18, hI.f19, hI.f20, (fun _ _ _ => rfl), hI.f22, hI.f23, hI.f24, hI.f25⟩
          · exact .inr ⟨unwanted_ne (k := 59) (by kernel_rfl) 13 rfl (Nat.le_of_ble_eq_true rfl) rfl (by decide) (hdep 13 (dep_of (by kernel_rfl))) (hI.f13 (hdep 13 (dep_of (by kernel_rfl)))) (fun h => by cases h), ⟨hI.G, hI.f0, hI.f1, hI.f2, hI.f3, hI.f4, hI.f5, hI.f6, hI.f7, hI.f8, hI.f9, hI.f10, hI.f11, hI.f12, hI.f13, hI.f14, hI.f15, hI.f16, hI.f17, hI.f18, hI.f19, hI.f20, (fun h => by cases h), hI.f22, hI.f23, hI.f24, hI.f25⟩⟩
        · obtain rfl := Option.some.inj hoi
          cases u
          · cases z
            · exact .inr ⟨unwanted_at (k := 59) (by kernel_rfl) 13 rfl (Nat.le_of_ble_eq_true rfl) rfl (by decide) (hdep 13 (dep_of (by kernel_rfl))) (hI.f13 (hdep 13 (dep_of (by kernel_rfl)))), ⟨hI.G, hI.f0, hI.f1, hI.f2, hI.f3, hI.f4, hI.f5, hI.f6, hI.f7, hI.f8, hI.f9, hI.f10, hI.f11, hI.f12, hI.f13, hI.f14, hI.f15, hI.f16, hI.f17, hI.f18, hI.f19, hI.f20, hI.f21, (fun _ h => by cases h), hI.f23, hI.f24, hI.f25⟩⟩
            · refine .inl ⟨wanted_at (k := 59) (by kernel_rfl) 13 rfl (Nat.le_of_ble_eq_true rfl) rfl (by decide) (hdep 13 (dep_of (by kernel_rfl))) (hI.f13 (hdep 13 (dep_of (by kernel_rfl)))), wpLoadT rfl ((at_new (by kernel_rfl) 21 (Nat.le_of_ble_eq_true rfl) rfl (by decide) (hdep 21 (dep_of (by kernel_rfl)))).trans (hI.f21 rfl rfl (hdep 21 (dep_of (by kernel_rfl))))) (ldI6 (RI.out w1 hI.G)) ⟨_, rfl, ?_⟩⟩
              exact ⟨hI.G, hI.f0, hI.f1, hI.f2, hI.f3, hI.f4, hI.f5, hI.f6, hI.f7, hI.f8, hI.f9, hI.f10, hI.f11, hI.f12, hI.f13, hI.f14, hI.f15, hI.f16, hI.f17, hI.f18, hI.f19, hI.f20, hI.f21, (fun _ _ _ => rfl), hI.f23, hI.f24, hI.f25⟩
          · exact .inr ⟨unwanted_ne (k := 59) (by kernel_rfl) 13 rfl (Nat.le_of_ble_eq_true rfl) rfl (by decide) (hdep 13 (dep_of (by kernel_rfl))) (hI.f13 (hdep 13 (dep_of (by kernel_rfl)))) (fun h => by cases h), ⟨hI.G, hI.f0, hI.f1, hI.f2, hI.f3, hI.f4, hI.f5, hI.f6, hI.f7, hI.f8, hI.f9, hI.f10, hI.f11, hI.f12, hI.f13, hI.f14, hI.f15, hI.f16, hI.f17, hI.f18, hI.f19, hI.f20, hI.f21, (fun h => by cases h), hI.f23, hI.f24, hI.f25⟩⟩
        · obtain rfl := Option.some.inj hoi
          cases u
          · cases z
            · exact .inr ⟨unwanted_at (k := 59) (by kernel_rfl) 13 rfl (Nat.le_of_ble_eq_true rfl) rfl (by decide) (hdep 13 (dep_of (by kernel_rfl))) (hI.f13 (hdep 13 (dep_of (by kernel_rfl)))), ⟨hI.G, hI.f0, hI.f1, hI.f2, hI.f3, hI.f4, hI.f5, hI.f6, hI.f7, hI.f8, hI.f9, hI.f10, hI.f11, hI.f12, hI.f13, hI.f14, hI.f15, hI.f16, hI.f17, hI.f18, hI.f19, hI.f20, hI.f21, hI.f22, (fun _ h => by cases h), hI.f24, hI.f25⟩⟩
            · refine .inl ⟨wanted_at (k := 59) (by kernel_rfl) 13 rfl (Nat.le_of_ble_eq_true rfl) rfl (by decide) (hdep 13 (dep_of (by kernel_rfl))) (hI.f13 (hdep 13 (dep_of (by kernel_rfl)))), wpBinT rfl ((at_new (by kernel_rfl) 20 (Nat.le_of_ble_eq_true rfl) rfl (by decide) (hdep 20 (dep_of (by kernel_rfl)))).trans (hI.f20 rfl rfl (hdep 20 (dep_of (by kernel_rfl))))) ((at_new (by kernel_rfl) 22 (Nat.le_of_ble_eq_true rfl) rfl (by decide) (hdep 22 (dep_of (by kernel_rfl)))).trans (hI.f22 rfl rfl (hdep 22 (dep_of (by kernel_rfl))))) (geqI 66 68 la x.1 ge HGE.out w1) ⟨_, rfl, ?_⟩⟩
              exact ⟨hI.G, hI.f0, hI.f1, hI.f2, hI.f3, hI.f4, hI.f5, hI.f6, hI.f7, hI.f8, hI.f9, hI.f10, hI.f11, hI.f12, hI.f13, hI.f14, hI.f15, hI.f16, hI.f17, hI.f18, hI.f19, hI.f20, hI.f21, hI.f22, (fun _ _ _ => rfl), hI.f24, hI.f25⟩
          · exact .inr ⟨unwanted_ne (k := 59) (by kernel_rfl) 13 rfl (Nat.le_of_ble_eq_true rfl) rfl (by decide) (hdep 13 (dep_of (by kernel_rfl))) (hI.f13 (hdep 13 (dep_of (by kernel_rfl)))) (fun h => by cases h), ⟨hI.G, hI.f0, hI.f1, hI.f2, hI.f3, hI.f4, hI.f5, hI.f6, hI.f7, hI.f8, hI.f9, hI.f10, hI.f11, hI.f12, hI.f13, hI.f14, hI.f15, hI.f16, hI.f17, hI.f18, hI.f19, hI.f20, hI.f21, hI.f22, (fun h => by cases h), hI.f24, hI.f25⟩⟩
        · obtain rfl := Option.some.inj hoi
          cases u
          · refine .inl ⟨wanted_at (k := 56) (by kernel_rfl) 10 rfl (Nat.le_of_ble_eq_true rfl) rfl (by decide) (hdep 10 (dep_of (by kernel_rfl))) (hI.f10 (hdep 10 (dep_of (by kernel_rfl)))), wpPickT (x := f 23) rfl ((at_new (by kernel_rfl) 13 (Nat.le_of_ble_eq_true rfl) rfl (by decide) (hdep 13 (dep_of (by kernel_rfl)))).trans (hI.f13 (hdep 13 (dep_of (by kernel_rfl))))) (at_new (by kernel_rfl) 23 (Nat.le_of_ble_eq_true rfl) rfl (by decide) (hdep 23 (dep_of (by kernel_rfl)))) ⟨_, rfl, ?_⟩⟩
            exact ⟨hI.G, hI.f0, hI.f1, hI.f2, hI.f3, hI.f4, hI.f5, hI.f6, hI.f7, hI.f8, hI.f9, hI.f10, hI.f11, hI.f12, hI.f13, hI.f14, hI.f15, hI.f16, hI.f17, hI.f18, hI.f19, hI.f20, hI.f21, hI.f22, hI.f23, (fun _ _ => by cases z with | false => rfl | true => exact hI.f23 rfl rfl (hdep 23 (dep_of (by kernel_rfl)))), hI.f25⟩
          · exact .inr ⟨unwanted_at (k := 56) (by kernel_rfl) 10 rfl (Nat.le_of_ble_eq_true rfl) rfl (by decide) (hdep 10 (dep_of (by kernel_rfl))) (hI.f10 (hdep 10 (dep_of (by kernel_rfl)))), ⟨hI.G, hI.f0, hI.f1, hI.f2, hI.f3, hI.f4, hI.f5, hI.f6, hI.f7, hI.f8, hI.f9, hI.f10, hI.f11, hI.f12, hI.f13, hI.f14, hI.f15, hI.f16, hI.f17, hI.f18, hI.f19, hI.f20, hI.f21, hI.f22, hI.f23, (fun h => by cases h), hI.f25⟩⟩
        · obtain rfl := Option.some.inj hoi
          refine .inl ⟨wanted_free rfl, wpPickKT (x := .bool (z && ge)) rfl ((at_new (by kernel_rfl) 10 (Nat.le_of_ble_eq_true rfl) rfl (by decide) (hdep 10 (dep_of (by kernel_rfl)))).trans (hI.f10 (hdep 10 (dep_of (by kernel_rfl))))) (fun hb => (at_new (by kernel_rfl) 24 (Nat.le_of_ble_eq_true rfl) rfl (by decide) (hdep 24 (dep_of (by kernel_rfl)))).trans (hI.f24 hb (hdep 24 (dep_of (by kernel_rfl))))) ⟨_, rfl, ?_⟩⟩
          exact ⟨hI.G, hI.f0, hI.f1, hI.f2, hI.f3, hI.f4, hI.f5, hI.f6, hI.f7, hI.f8, hI.f9, hI.f10, hI.f11, hI.f12, hI.f13, hI.f14, hI.f15, hI.f16, hI.f17, hI.f18, hI.f19, hI.f20, hI.f21, hI.f22, hI.f23, hI.f24, (fun _ => by cases u <;> rfl)⟩
      intro f w5 hI
      have eL := hI.f25 rfl
      have HN := Lib.hid (And.intro (HWB.out.1.trans (hI.G.mono HWB.out.1.size)) ((hI.G.block _ (Array.getElem?_eq_some_iff.1 HWB.out.2).1).trans HWB.out.2))
      clear hI
      simp only [Go.My.putL, Nat.zero_add, Nat.reduceAdd, eL, Act.put, List.setIfInBounds_toArray, List.set_cons_zero, List.set_cons_succ]
      generalize f 0 = y90 at *
      generalize f 1 = y91 at *
      generalize f 2 = y92 at *
      generalize f 3 = y93 at *
      generalize f 4 = y94 at *
      generalize f 5 = y95 at *
      generalize f 6 = y96 at *
      generalize f 7 = y97 at *
      generalize f 8 = y98 at *
      generalize f 9 = y99 at *
      generalize f 10 = y910 at *
      generalize f 11 = y911 at *
      generalize f 12 = y912 at *
      generalize f 13 = y913 at *
      generalize f 14 = y914 at *
      generalize f 15 = y915 at *
      generalize f 16 = y916 at *
      generalize f 17 = y917 at *
      generalize f 18 = y918 at *
      generalize f 19 = y919 at *
      generalize f 20 = y920 at *
      generalize f 21 = y921 at *
      generalize f 22 = y922 at *
      generalize f 23 = y923 at *
      generalize f 24 = y924 at *
      clear eL
      have hun : u = false → b1 = true := fun c => by have := HUV.out; rw [c] at this; cases b1; cases this; rfl
      have HUN := Lib.hid hun
      clear hun HWB CP CI RX RI RQ RO RY a0 a1 a2 c0 c1 c2 c3 c4 c5 c6 c7 eW HZ HZP HJN HGE HUV
      cases hr : (u || (z && ge)) with
      | true =>
        have HF := Lib.hid (show runB 0 (ones.map oneF) = false from by rw [HT.out, hr]; rfl)
        go_wp2
        go_ret
        exact ⟨by rw [HV.out, HF.out]; rfl, HN.out.1⟩
      | false =>
        have HF := Lib.hid (show runB 0 (ones.map oneF) = runB x.1 ((ones.drop (j + 1)).map oneF) from by rw [HT.out, hr]; rfl)
        have HP2 := Lib.hid (HP1.out (HUN.out (by cases u; rfl; cases hr)))
        go_wp2
        go_roundw
        case rel => exact ⟨j + 1, x.1, by omega, by go_num, HP2.out, (fun c => by omega), HN1.out, HF.out, HN.out⟩
        case measure => simp [intOf]; omega
    case neg =>
    obtain rfl : j = ones.length := by omega
    have HV := Lib.hid (HV.out.trans (show _ = runB 0 (peers.map (peerF i)) from by rw [HU.out, run_end ones la]; rfl))
    have HX := HB
    clear HU HB HLA hpo
    go_wp2
    clear c0 c1 c2 c3 c4 c5 c6 c7
    go_loopw [5] (fun i1 wr => ∃ (j : Nat) (la : Int), j ≤ peers.length ∧ i1 = .int .i64 j ∧ 0 ≤ la ∧ (j = 0 → la = 0) ∧ (0 < j → ∃ y, peers[j - 1]? = some y ∧ y.id = la) ∧ runB 0 (peers.map (peerF i)) = runB la ((peers.drop j).map (peerF i)) ∧ Below w.heap.size w wr ∧ wr.heap[w.heap.size]? = some (.cells #[.int .i64 i, .int .i64 us, .string ik, .string ip, .string sk, .string sp, .slice po ones.length co, .slice pp peers.length cp] 47 (0, 0))) (fun i1 _ => peers.length - (intOf i1).toNat)
    case atStart => exact ⟨0, 0, Nat.zero_le _, rfl, Int.le_refl _, (fun _ => rfl), (fun c => absurd c (Nat.lt_irrefl 0)), rfl, HX.out⟩
    case round =>
      obtain ⟨j, la, hj, rfl, hla, hla0, hprev, hrun, hB⟩ := hrel
      have HU := Lib.hid hrun
      have HB := Lib.hid hB
      have HLA := Lib.hid (And.intro hla (And.intro hla0 hprev))
      clear hrun hB hla hla0 hprev
      have hbx := HB.out.2
      have c0 : wr.cell? ⟨w.heap.size, 0, none⟩ = some (.int .i64 i) := cell_of_row wr w.heap.size 0 _ _ (0, 0) hbx
      have c1 : wr.cell? ⟨w.heap.size, 1, none⟩ = some (.int .i64 us) := cell_of_row wr w.heap.size 1 _ _ (0, 0) hbx
      have c2 : wr.cell? ⟨w.heap.size, 2, none⟩ = some (.string ik) := cell_of_row wr w.heap.size 2 _ _ (0, 0) hbx
      have c3 : wr.cell? ⟨w.heap.size, 3, none⟩ = some (.string ip) := cell_of_row wr w.heap.size 3 _ _ (0, 0) hbx
      have c4 : wr.cell? ⟨w.heap.size, 4, none⟩ = some (.string sk) := cell_of_row wr w.heap.size 4 _ _ (0, 0) hbx
      have c5 : wr.cell? ⟨w.heap.size, 5, none⟩ = some (.string sp) := cell_of_row wr w.heap.size 5 _ _ (0, 0) hbx
      have c6 : wr.cell? ⟨w.heap.size, 6, none⟩ = some (.slice po ones.length co) := cell_of_row wr w.heap.size 6 _ _ (0, 0) hbx
      have c7 : wr.cell? ⟨w.heap.size, 7, none⟩ = some (.slice pp peers.length cp) := cell_of_row wr w.heap.size 7 _ _ (0, 0) hbx
      clear hbx
      by_cases hlt : j < peers.length
      case neg =>
        obtain rfl : j = peers.length := by omega
        have HF := Lib.hid (HU.out.trans (run_end peers la))
        go_wp2
        go_ret
        exact ⟨by rw [HV.out, HF.out]; rfl, HB.out.1⟩
      have hne : peers ≠ [] := by intro c; rw [c] at hlt; simp at hlt
      obtain ⟨g, rfl, _, hg⟩ := hpp.resolve_left (fun c => hne c.1)
      have j0 : (0 : Int) ≤ (j : Int) := by omega
      have j1 : (j : Int) < (peers.length : Int) := by omega
      obtain ⟨x, hx⟩ : ∃ x, peers[j] = x := ⟨_, rfl⟩
      have hxm : x ∈ peers := by rw [← hx]; exact List.getElem_mem hlt
      obtain ⟨z, hz⟩ : ∃ z, decide (0 < j) = z := ⟨_, rfl⟩
      have hzf : z = false → la = 0 := fun c => HLA.out.2.1 (by have := of_decide_eq_false (hz.trans c); omega)
      have ht := HU.out.trans (run_next hlt la)
      rw [hx] at ht
      have HT := Lib.hid (ht.trans (pe_step la x.id (peerB x) (decide (x.id = i)) (runB x.id ((peers.drop (j + 1)).map (peerF i))) z HLA.out.1 hzf peerB_id))
      clear ht
      obtain ⟨W, eW⟩ : ∃ W, W = wr := ⟨_, rfl⟩
      have hWB : Below w.heap.size w W := by rw [eW]; exact HB.out.1
      have hWD : W.heap[w.heap.size]? = some (.cells #[.int .i64 i, .int .i64 us, .string ik, .string ip, .string sk, .string sp, .slice po ones.length co, .slice (some ⟨g, 0, none⟩) peers.length cp] 47 (0, 0)) := by rw [eW]; exact HB.out.2
      have RX := Lib.hid (show ∀ W2, Below W.heap.size W W2 → W2.rangeAt g (j * 3) (peerC x) from fun W2 h2 => by have := row_range (H2.out.below (hWB.trans (h2.mono hWB.size))) peerC_len hlt; rw [hx] at this; exact this)
      have RI := Lib.hid (show ∀ W2, Below W.heap.size W W2 → W2.cell? ⟨g, j * 3, none⟩ = some (.int .i64 x.id) from fun W2 h2 => RX.out W2 h2 0 _ rfl)
      have RO := Lib.hid (show ∀ W2, Below W.heap.size W W2 → W2.cell? ⟨w.heap.size, 7, none⟩ = some (.slice (some ⟨g, 0, none⟩) peers.length cp) from fun W2 h2 => cell_of_row W2 _ 7 _ _ (0, 0) ((h2.block _ (Array.getElem?_eq_some_iff.1 hWD).1).trans hWD))
      have RW := Lib.hid (show ∀ W2, Below W.heap.size W W2 → W2.cell? ⟨w.heap.size, 0, none⟩ = some (.int .i64 i) from fun W2 h2 => cell_of_row W2 _ 0 _ _ (0, 0) ((h2.block _ (Array.getElem?_eq_some_iff.1 hWD).1).trans hWD))
      have RY := Lib.hid (show z = true → ∀ W2, Below W.heap.size W W2 → W2.cell? ⟨g, (j - 1) * 3, none⟩ = some (.int .i64 la) from fun hz1 W2 h2 => by
        obtain ⟨y, ey, el⟩ := HLA.out.2.2 (of_decide_eq_true (hz.trans hz1))
        have hl2 : j - 1 < peers.length := by omega
        have ey2 : peers[j - 1] = y := by rw [List.getElem?_eq_getElem hl2] at ey; exact Option.some.inj ey
        rw [← el]
        exact (H2.out.below (hWB.trans (h2.mono hWB.size))).at peerC_len hl2 ey2 0 (by omega) rfl)
      have CP := Lib.hid (fun W2 (h2 : Below W.heap.size W W2) => peerOk_s x W2 ((H3.out x hxm).1.below (hWB.trans (h2.mono hWB.size))) (H3.out x hxm).2)
      have HZ := Lib.hid hz
      have HZP := Lib.hid (show z = true → 0 < j from fun c => of_decide_eq_true (hz.trans c))
      have HJM := Lib.hid (show j ≤ 1048576 by omega)
      have HJL := Lib.hid hlt
      have HJN := Lib.hid (show z = true → j - 1 < peers.length from fun _ => by omega)
      have HNM := Lib.hid hm2
      have HWB := Lib.hid (And.intro hWB hWD)
      have HN1 := Lib.hid (show (0 < j + 1 → ∃ y, peers[j + 1 - 1]? = some y ∧ y.id = x.id) from fun _ => ⟨x, by rw [Nat.add_sub_cancel, List.getElem?_eq_getElem hlt, hx], rfl⟩)
      have HP1 := Lib.hid (show peerB x = true → 0 ≤ x.id from fun c => by have := peerB_id c; omega)
      obtain ⟨b1, e1⟩ : ∃ b, peerB x = b := ⟨_, rfl⟩
      obtain ⟨b2, e2⟩ : ∃ b, decide (x.id = i) = b := ⟨_, rfl⟩
      obtain ⟨ge, e3⟩ : ∃ b, decide (x.id ≤ la) = b := ⟨_, rfl⟩
      obtain ⟨u, e4⟩ : ∃ b, (!b1 || b2) = b := ⟨_, rfl⟩
      rw [e1] at CP HP1 HT
      rw [e2, e3, e4] at HT
      have HGE := Lib.hid e3
      have HEQ := Lib.hid e2
      have HUV := Lib.hid e4.symm
      clear hx hxm hWB hWD hz hzf hne hpp hg HX HU HLA HB e1 e2 e3 e4
      subst eW
      go_upto_region 12 with (fail)
      refine region_invLH 38 [some 79, some 80, some 81, some 82, some 83, some 84, some 85, some 86, some 87, some 88, some 89, some 90, some 91, some 92, some 93, some 94, some 95, some 96, some 97, some 98, some 99, some 100, some 101, some 102, some 103, some 104, some 105, some 106, some 107, some 108, some 109, some 110, some 111, some 112, some 113, some 114, some 115, some 116] (Pn12 W w.heap.size g peers.length cp j x i la b1 b2 u z ge) (by kernel_rfl) rfl (by kernel_rfl) (by kernel_rfl) (by kernel_rfl) ?_ ?_ ?_
      · exact ⟨(Below.refl _ _).drew, (fun h => by cases h), (fun h => by cases h), (fun h => by cases h), (fun h => by cases h), (fun h => by cases h), (fun h => by cases h), (fun h => by cases h), (fun h => by cases h), (fun _ h => by cases h), (fun _ h => by cases h), (fun _ h => by cases h), (fun _ h => by cases h), (fun _ h => by cases h), (fun _ h => by cases h), (fun _ h => by cases h), (fun _ h => by cases h), (fun _ h => by cases h), (fun h => by cases h), (fun h => by cases h), (fun _ h => by cases h), (fun _ h => by cases h), (fun h => by cases h), (fun _ _ h => by cases h), (fun _ _ h => by cases h), (fun _ _ h => by cases h), (fun _ _ h => by cases h), (fun _ _ h => by cases h), (fun _ _ h => by cases h), (fun _ _ h => by cases h), (fun _ _ h => by cases h), (fun _ _ h => by cases h), (fun _ _ h => by cases h), (fun _ _ h => by cases h), (fun _ _ h => by cases h), (fun _ _ h => by cases h), (fun _ _ h => by cases h), (fun _ h => by cases h), (fun h => by cases h)⟩
      · intro i0 o f L w1 hoi hL hI hdep
        have hi : i0 < 38 := (Array.getElem?_eq_some_iff.1 hoi).1
        have hc : i0 = 0 ∨ i0 = 1 ∨ i0 = 2 ∨ i0 = 3 ∨ i0 = 4 ∨ i0 = 5 ∨ i0 = 6 ∨ i0 = 7 ∨ i0 = 8 ∨ i0 = 9 ∨ i0 = 10 ∨ i0 = 11 ∨ i0 = 12 ∨ i0 = 13 ∨ i0 = 14 ∨ i0 = 15 ∨ i0 = 16 ∨ i0 = 17 ∨ i0 = 18 ∨ i0 = 19 ∨ i0 = 20 ∨ i0 = 21 ∨ i0 = 22 ∨ i0 = 23 ∨ i0 = 24 ∨ i0 = 25 ∨ i0 = 26 ∨ i0 = 27 ∨ i0 = 28 ∨ i0 = 29 ∨ i0 = 30 ∨ i0 = 31 ∨ i0 = 32 ∨ i0 = 33 ∨ i0 = 34 ∨ i0 = 35 ∨ i0 = 36 ∨ i0 = 37 := by omega
        clear hi
        rcases hc with rfl | rfl | rfl | rfl | rfl | rfl | rfl | rfl | rfl | rfl | rfl | rfl | rfl | rfl | rfl | rfl | rfl | rfl | rfl | rfl | rfl | rfl | rfl | rfl | rfl | rfl | rfl | rfl | rfl | rfl | rfl | rfl | rfl | rfl | rfl | rfl | rfl | rfl
        · obtain rfl := Option.some.inj hoi
          refine .inl ⟨wanted_free rfl, wpFieldT rfl (at_old (by kernel_rfl)) (fdDev5 _ w1) ⟨_, rfl, ?_⟩⟩
          exact ⟨hI.G, (fun _ => rfl), hI.f1, hI.f2, hI.f3, hI.f4, hI.f5, hI.f6, hI.f7, hI.f8, hI.f9, hI.f10, hI.f11, hI.f12, hI.f13, hI.f14, hI.f15, hI.f16, hI.f17, hI.f18, hI.f19, hI.f20, hI.f21, hI.f22, hI.f23, hI.f24, hI.f25, hI.f26, hI.f27, hI.f28, hI.f29, hI.f30, hI.f31, hI.f32, hI.f33, hI.f34, hI.f35, hI.f36, hI.f37⟩
        · obtain rfl := Option.some.inj hoi
          refine .inl ⟨wanted_free rfl, wpLoadT rfl ((at_new (by kernel_rfl) 0 (Nat.le_of_ble_eq_true rfl) rfl (by decide) (hdep 0 (dep_of (by kernel_rfl)))).trans (hI.f0 (hdep 0 (dep_of (by kernel_rfl))))) (ldPeers (RO.out w1 hI.G)) ⟨_, rfl, ?_⟩⟩
          exact ⟨hI.G, hI.f0, (fun _ => rfl), hI.f2, hI.f3, hI.f4, hI.f5, hI.f6, hI.f7, hI.f8, hI.f9, hI.f10, hI.f11, hI.f12, hI.f13, hI.f14, hI.f15, hI.f16, hI.f17, hI.f18, hI.f19, hI.f20, hI.f21, hI.f22, hI.f23, hI.f24, hI.f25, hI.f26, hI.f27, hI.f28, hI.f29, hI.f30, hI.f31, hI.f32, hI.f33, hI.f34, hI.f35, hI.f36, hI.f37⟩
        · obtain rfl := Option.some.inj hoi
          refine .inl ⟨wanted_free rfl, wpMoveT rfl (at_old (by kernel_rfl)) ⟨_, rfl, ?_⟩⟩
          exact ⟨hI.G, hI.f0, hI.f1, (fun _ => rfl), hI.f3, hI.f4, hI.f5, hI.f6, hI.f7, hI.f8, hI.f9, hI.f10, hI.f11, hI.f12, hI.f13, hI.f14, hI.f15, hI.f16, hI.f17, hI.f18, hI.f19, hI.f20, hI.f21, hI.f22, hI.f23, hI.f24, hI.f25, hI.f26, hI.f27, hI.f28, hI.f29, hI.f30, hI.f31, hI.f32, hI.f33, hI.f34, hI.f35, hI.f36, hI.f37⟩
        · obtain rfl := Option.some.inj hoi
          refine .inl ⟨wanted_free rfl, wpIdxT rfl ((at_new (by kernel_rfl) 1 (Nat.le_of_ble_eq_true rfl) rfl (by decide) (hdep 1 (dep_of (by kernel_rfl)))).trans (hI.f1 (hdep 1 (dep_of (by kernel_rfl))))) ((at_new (by kernel_rfl) 2 (Nat.le_of_ble_eq_true rfl) rfl (by decide) (hdep 2 (dep_of (by kernel_rfl)))).trans (hI.f2 (hdep 2 (dep_of (by kernel_rfl))))) ((fun w1 => ixPeer g peers.length cp j w1 HJL.out HNM.out) w1) ⟨_, rfl, ?_⟩⟩
          exact ⟨hI.G, hI.f0, hI.f1, hI.f2, (fun _ => rfl), hI.f4, hI.f5, hI.f6, hI.f7, hI.f8, hI.f9, hI.f10, hI.f11, hI.f12, hI.f13, hI.f14, hI.f15, hI.f16, hI.f17, hI.f18, hI.f19, hI.f20, hI.f21, hI.f22, hI.f23, hI.f24, hI.f25, hI.f26, hI.f27, hI.f28, hI.f29, hI.f30, hI.f31, hI.f32, hI.f33, hI.f34, hI.f35, hI.f36, hI.f37⟩
        · obtain rfl := Option.some.inj hoi
          refine .inl ⟨wanted_free rfl, wpLoadT rfl ((at_new (by kernel_rfl) 3 (Nat.le_of_ble_eq_true rfl) rfl (by decide) (hdep 3 (dep_of (by kernel_rfl)))).trans (hI.f3 (hdep 3 (dep_of (by kernel_rfl))))) (run_loadAt_mid w1 _ _ 78 (peerC x) _ (RX.out w1 hI.G) Try.underlying78 rfl (szPeerJ x)) ⟨_, rfl, ?_⟩⟩
          exact ⟨hI.G, hI.f0, hI.f1, hI.f2, hI.f3, (fun _ => rfl), hI.f5, hI.f6, hI.f7, hI.f8, hI.f9, hI.f10, hI.f11, hI.f12, hI.f13, hI.f14, hI.f15, hI.f16, hI.f17, hI.f18, hI.f19, hI.f20, hI.f21, hI.f22, hI.f23, hI.f24, hI.f25, hI.f26, hI.f27, hI.f28, hI.f29, hI.f30, hI.f31, hI.f32, hI.f33, hI.f34, hI.f35, hI.f36, hI.f37⟩
        · obtain rfl := Option.some.inj hoi
          refine .inl ⟨wanted_free rfl, wpCallT rfl cfPeer (argsT1 ((at_new (by kernel_rfl) 4 (Nat.le_of_ble_eq_true rfl) rfl (by decide) (hdep 4 (dep_of (by kernel_rfl)))).trans (hI.f4 (hdep 4 (dep_of (by kernel_rfl)))))) ((CP.out w1 hI.G).mono ?_)⟩
          rintro e w2 ⟨rfl, hb⟩
          have hI := hI.grow hb
          exact ⟨_, rfl, _, rfl, ⟨hI.G, hI.f0, hI.f1, hI.f2, hI.f3, hI.f4, (fun _ => rfl), hI.f6, hI.f7, hI.f8, hI.f9, hI.f10, hI.f11, hI.f12, hI.f13, hI.f14, hI.f15, hI.f16, hI.f17, hI.f18, hI.f19, hI.f20, hI.f21, hI.f22, hI.f23, hI.f24, hI.f25, hI.f26, hI.f27, hI.f28, hI.f29, hI.f30, hI.f31, hI.f32, hI.f33, hI.f34, hI.f35, hI.f36, hI.f37⟩⟩
        · obtain rfl := Option.some.inj hoi
          refine .inl ⟨wanted_free rfl, wpUnT rfl ((at_new (by kernel_rfl) 5 (Nat.le_of_ble_eq_true rfl) rfl (by decide) (hdep 5 (dep_of (by kernel_rfl)))).trans (hI.f5 (hdep 5 (dep_of (by kernel_rfl))))) (notB b1 w1) ⟨_, rfl, ?_⟩⟩
          exact ⟨hI.G, hI.f0, hI.f1, hI.f2, hI.f3, hI.f4, hI.f5, (fun _ => rfl), hI.f7, hI.f8, hI.f9, hI.f10, hI.f11, hI.f12, hI.f13, hI.f14, hI.f15, hI.f16, hI.f17, hI.f18, hI.f19, hI.f20, hI.f21, hI.f22, hI.f23, hI.f24, hI.f25, hI.f26, hI.f27, hI.f28, hI.f29, hI.f30, hI.f31, hI.f32, hI.f33, hI.f34, hI.f35, hI.f36, hI.f37⟩
        · obtain rfl := Option.some.inj hoi
          refine .inl ⟨wanted_free rfl, wpMoveT rfl ((at_new (by kernel_rfl) 6 (Nat.le_of_ble_eq_true rfl) rfl (by decide) (hdep 6 (dep_of (by kernel_rfl)))).trans (hI.f6 (hdep 6 (dep_of (by kernel_rfl))))) ⟨_, rfl, ?_⟩⟩
          exact ⟨hI.G, hI.f0, hI.f1, hI.f2, hI.f3, hI.f4, hI.f5, hI.f6, (fun _ => rfl), hI.f8, hI.f9, hI.f10, hI.f11, hI.f12, hI.f13, hI.f14, hI.f15, hI.f16, hI.f17, hI.f18, hI.f19, hI.f20, hI.f21, hI.f22, hI.f23, hI.f24, hI.f25, hI.f26, hI.f27, hI.f28, hI.f29, hI.f30, hI.f31, hI.f32, hI.f33, hI.f34, hI.f35, hI.f36, hI.f37⟩
        · obtain rfl := Option.some.inj hoi
          cases b1
          · exact .inr ⟨unwanted_at (k := 86) (by kernel_rfl) 7 rfl (Nat.le_of_ble_eq_true rfl) rfl (by decide) (hdep 7 (dep_of (by kernel_rfl))) (hI.f7 (hdep 7 (dep_of (by kernel_rfl)))), ⟨hI.G, hI.f0, hI.f1, hI.f2, hI.f3, hI.f4, hI.f5, hI.f6, hI.f7, (fun h => by cases h), hI.f9, hI.f10, hI.f11, hI.f12, hI.f13, hI.f14, hI.f15, hI.f16, hI.f17, hI.f18, hI.f19, hI.f20, hI.f21, hI.f22, hI.f23, hI.f24, hI.f25, hI.f26, hI.f27, hI.f28, hI.f29, hI.f30, hI.f31, hI.f32, hI.f33, hI.f34, hI.f35, hI.f36, hI.f37⟩⟩
          · refine .inl ⟨wanted_at (k := 86) (by kernel_rfl) 7 rfl (Nat.le_of_ble_eq_true rfl) rfl (by decide) (hdep 7 (dep_of (by kernel_rfl))) (hI.f7 (hdep 7 (dep_of (by kernel_rfl)))), wpFieldT rfl (at_old (by kernel_rfl)) (fdDev5 _ w1) ⟨_, rfl, ?_⟩⟩
            exact ⟨hI.G, hI.f0, hI.f1, hI.f2, hI.f3, hI.f4, hI.f5, hI.f6, hI.f7, (fun _ _ => rfl), hI.f9, hI.f10, hI.f11, hI.f12, hI.f13, hI.f14, hI.f15, hI.f16, hI.f17, hI.f18, hI.f19, hI.f20, hI.f21, hI.f22, hI.f23, hI.f24, hI.f25, hI.f26, hI.f27, hI.f28, hI.f29, hI.f30, hI.f31, hI.f32, hI.f33, hI.f34, hI.f35, hI.f36, hI.f37⟩
        · obtain rfl := Option.some.inj hoi
          cases b1
          · exact .inr ⟨unwanted_at (k := 86) (by kernel_rfl) 7 rfl (Nat.le_of_ble_eq_true rfl) rfl (by decide) (hdep 7 (dep_of (by kernel_rfl))) (hI.f7 (hdep 7 (dep_of (by kernel_rfl)))), ⟨hI.G, hI.f0, hI.f1, hI.f2, hI.f3, hI.f4, hI.f5, hI.f6, hI.f7, hI.f8, (fun h => by cases h), hI.f10, hI.f11, hI.f12, hI.f13, hI.f14, hI.f15, hI.f16, hI.f17, hI.f18, hI.f19, hI.f20, hI.f21, hI.f22, hI.f23, hI.f24, hI.f25, hI.f26, hI.f27, hI.f28, hI.f29, hI.f30, hI.f31, hI.f32, hI.f33, hI.f34, hI.f35, hI.f36, hI.f37⟩⟩
          · refine .inl ⟨wanted_at (k := 86) (by kernel_rfl) 7 rfl (Nat.le_of_ble_eq_true rfl) rfl (by decide) (hdep 7 (dep_of (by kernel_rfl))) (hI.f7 (hdep 7 (dep_of (by kernel_rfl)))), wpLoadT rfl ((at_new (by kernel_rfl) 8 (Nat.le_of_ble_eq_true rfl) rfl (by decide) (hdep 8 (dep_of (by kernel_rfl)))).trans (hI.f8 rfl (hdep 8 (dep_of (by kernel_rfl))))) (ldPeers (RO.out w1 hI.G)) ⟨_, rfl, ?_⟩⟩
            exact ⟨hI.G, hI.f0, hI.f1, hI.f2, hI.f3, hI.f4, hI.f5, hI.f6, hI.f7, hI.f8, (fun _ _ => rfl), hI.f10, hI.f11, hI.f12, hI.f13, hI.f14, hI.f15, hI.f16, hI.f17, hI.f18, hI.f19, hI.f20, hI.f21, hI.f22, hI.f23, hI.f24, hI.f25, hI.f26, hI.f27, hI.f28, hI.f29, hI.f30, hI.f31, hI.f32, hI.f33, hI.f34, hI.f35, hI.f36, hI.f37⟩
        · obtain rfl := Option.some.inj hoi
          cases b1
          · exact .inr ⟨unwanted_at (k := 86) (by kernel_rfl) 7 rfl (Nat.le_of_ble_eq_true rfl) rfl (by decide) (hdep 7 (dep_of (by kernel_rfl))) (hI.f7 (hdep 7 (dep_of (by kernel_rfl)))), ⟨hI.G, hI.f0, hI.f1, hI.f2, hI.f3, hI.f4, hI.f5, hI.f6, hI.f7, hI.f8, hI.f9, (fun h => by cases h), hI.f11, hI.f12, hI.f13, hI.f14, hI.f15, hI.f16, hI.f17, hI.f18, hI.f19, hI.f20, hI.f21, hI.f22, hI.f23, hI.f24, hI.f25, hI.f26, hI.f27, hI.f28, hI.f29, hI.f30, hI.f31, hI.f32, hI.f33, hI.f34, hI.f35, hI.f36, hI.f37⟩⟩
          · refine .inl ⟨wanted_at (k := 86) (by kernel_rfl) 7 rfl (Nat.le_of_ble_eq_true rfl) rfl (by decide) (hdep 7 (dep_of (by kernel_rfl))) (hI.f7 (hdep 7 (dep_of (by kernel_rfl)))), wpMoveT rfl (at_old (by kernel_rfl)) ⟨_, rfl, ?_⟩⟩
            exact ⟨hI.G, hI.f0, hI.f1, hI.f2, hI.f3, hI.f4, hI.f5, hI.f6, hI.f7, hI.f8, hI.f9, (fun _ _ => rfl), hI.f11, hI.f12, hI.f13, hI.f14, hI.f15, hI.f16, hI.f17, hI.f18, hI.f19, hI.f20, hI.f21, hI.f22, hI.f23, hI.f24, hI.f25, hI.f26, hI.f27, hI.f28, hI.f29, hI.f30, hI.f31, hI.f32, hI.f33, hI.f34, hI.f35, hI.f36, hI.f37⟩
        · obtain rfl := Option.some.inj hoi
          cases b1
          · exact .inr ⟨unwanted_at (k := 86) (by kernel_rfl) 7 rfl (Nat.le_of_ble_eq_true rfl) rfl (by decide) (hdep 7 (dep_of (by kernel_rfl))) (hI.f7 (hdep 7 (dep_of (by kernel_rfl)))), ⟨hI.G, hI.f0, hI.f1, hI.f2, hI.f3, hI.f4, hI.f5, hI.f6, hI.f7, hI.f8, hI.f9, hI.f10, (fun h => by cases h), hI.f12, hI.f13, hI.f14, hI.f15, hI.f16, hI.f17, hI.f18, hI.f19, hI.f20, hI.f21, hI.f22, hI.f23, hI.f24, hI.f25, hI.f26, hI.f27, hI.f28, hI.f29, hI.f30, hI.f31, hI.f32, hI.f33, hI.f34, hI.f35, hI.f36, hI.f37⟩⟩
          · refine .inl ⟨wanted_at (k := 86) (by kernel_rfl) 7 rfl (Nat.le_of_ble_eq_true rfl) rfl (by decide) (hdep 7 (dep_of (by kernel_rfl))) (hI.f7 (hdep 7 (dep_of (by kernel_rfl)))), wpIdxT rfl ((at_new (by kernel_rfl) 9 (Nat.le_of_ble_eq_true rfl) rfl (by decide) (hdep 9 (dep_of (by kernel_rfl)))).trans (hI.f9 rfl (hdep 9 (dep_of (by kernel_rfl))))) ((at_new (by kernel_rfl) 10 (Nat.le_of_ble_eq_true rfl) rfl (by decide) (hdep 10 (dep_of (by kernel_rfl)))).trans (hI.f10 rfl (hdep 10 (dep_of (by kernel_rfl))))) ((fun w1 => ixPeer g peers.length cp j w1 HJL.out HNM.out) w1) ⟨_, rfl, ?_⟩⟩
            exact ⟨hI.G, hI.f0, hI.f1, hI.f2, hI.f3, hI.f4, hI.f5, hI.f6, hI.f7, hI.f8, hI.f9, hI.f10, (fun _ _ => rfl), hI.f12, hI.f13, hI.f14, hI.f15, hI.f16, hI.f17, hI.f18, hI.f19, hI.f20, hI.f21, hI.f22, hI.f23, hI.f24, hI.f25, hI.f26, hI.f27, hI.f28, hI.f29, hI.f30, hI.f31, hI.f32, hI.f33, hI.f34, hI.f35, hI.f36, hI.f37⟩
        · obtain rfl := Option.some.inj hoi
          cases b1
          · exact .inr ⟨unwanted_at (k := 86) (by kernel_rfl) 7 rfl (Nat.le_of_ble_eq_true rfl) rfl (by decide) (hdep 7 (dep_of (by kernel_rfl))) (hI.f7 (hdep 7 (dep_of (by kernel_rfl)))), ⟨hI.G, hI.f0, hI.f1, hI.f2, hI.f3, hI.f4, hI.f5, hI.f6, hI.f7, hI.f8, hI.f9, hI.f10, hI.f11, (fun h => by cases h), hI.f13, hI.f14, hI.f15, hI.f16, hI.f17, hI.f18, hI.f19, hI.f20, hI.f21, hI.f22, hI.f23, hI.f24, hI.f25, hI.f26, hI.f27, hI.f28, hI.f29, hI.f30, hI.f31, hI.f32, hI.f33, hI.f34, hI.f35, hI.f36, hI.f37⟩⟩
          · refine .inl ⟨wanted_at (k := 86) (by kernel_rfl) 7 rfl (Nat.le_of_ble_eq_true rfl) rfl (by decide) (hdep 7 (dep_of (by kernel_rfl))) (hI.f7 (hdep 7 (dep_of (by kernel_rfl)))), wpFieldT rfl ((at_new (by kernel_rfl) 11 (Nat.le_of_ble_eq_true rfl) rfl (by decide) (hdep 11 (dep_of (by kernel_rfl)))).trans (hI.f11 rfl (hdep 11 (dep_of (by kernel_rfl))))) (fdPeerN g (j * 3) w1) ⟨_, rfl, ?_⟩⟩
            exact ⟨hI.G, hI.f0, hI.f1, hI.f2, hI.f3, hI.f4, hI.f5, hI.f6, hI.f7, hI.f8, hI.f9, hI.f10, hI.f11, (fun _ _ => rfl), hI.f13, hI.f14, hI.f15, hI.f16, hI.f17, hI.f18, hI.f19, hI.f20, hI.f21, hI.f22, hI.f23, hI.f24, hI.f25, hI.f26, hI.f27, hI.f28, hI.f29, hI.f30, hI.f31, hI.f32, hI.f33, hI.f34, hI.f35, hI.f36, hI.f37⟩
        · obtain rfl := Option.some.inj hoi
          cases b1
          · exact .inr ⟨unwanted_at (k := 86) (by kernel_rfl) 7 rfl (Nat.le_of_ble_eq_true rfl) rfl (by decide) (hdep 7 (dep_of (by kernel_rfl))) (hI.f7 (hdep 7 (dep_of (by kernel_rfl)))), ⟨hI.G, hI.f0, hI.f1, hI.f2, hI.f3, hI.f4, hI.f5, hI.f6, hI.f7, hI.f8, hI.f9, hI.f10, hI.f11, hI.f12, (fun h => by cases h), hI.f14, hI.f15, hI.f16, hI.f17, hI.f18, hI.f19, hI.f20, hI.f21, hI.f22, hI.f23, hI.f24, hI.f25, hI.f26, hI.f27, hI.f28, hI.f29, hI.f30, hI.f31, hI.f32, hI.f33, hI.f34, hI.f35, hI.f36, hI.f37⟩⟩
          · refine .inl ⟨wanted_at (k := 86) (by kernel_rfl) 7 rfl (Nat.le_of_ble_eq_true rfl) rfl (by decide) (hdep 7 (dep_of (by kernel_rfl))) (hI.f7 (hdep 7 (dep_of (by kernel_rfl)))), wpLoadT rfl ((at_new (by kernel_rfl) 12 (Nat.le_of_ble_eq_true rfl) rfl (by decide) (hdep 12 (dep_of (by kernel_rfl)))).trans (hI.f12 rfl (hdep 12 (dep_of (by kernel_rfl))))) (ldI6 (RI.out w1 hI.G)) ⟨_, rfl, ?_⟩⟩
            exact ⟨hI.G, hI.f0, hI.f1, hI.f2, hI.f3, hI.f4, hI.f5, hI.f6, hI.f7, hI.f8, hI.f9, hI.f10, hI.f11, hI.f12, (fun _ _ => rfl), hI.f14, hI.f15, hI.f16, hI.f17, hI.f18, hI.f19, hI.f20, hI.f21, hI.f22, hI.f23, hI.f24, hI.f25, hI.f26, hI.f27, hI.f28, hI.f29, hI.f30, hI.f31, hI.f32, hI.f33, hI.f34, hI.f35, hI.f36, hI.f37⟩
        · obtain rfl := Option.some.inj hoi
          cases b1
          · exact .inr ⟨unwanted_at (k := 86) (by kernel_rfl) 7 rfl (Nat.le_of_ble_eq_true rfl) rfl (by decide) (hdep 7 (dep_of (by kernel_rfl))) (hI.f7 (hdep 7 (dep_of (by kernel_rfl)))), ⟨hI.G, hI.f0, hI.f1, hI.f2, hI.f3, hI.f4, hI.f5, hI.f6, hI.f7, hI.f8, hI.f9, hI.f10, hI.f11, hI.f12, hI.f13, (fun h => by cases h), hI.f15, hI.f16, hI.f17, hI.f18, hI.f19, hI.f20, hI.f21, hI.f22, hI.f23, hI.f24, hI.f25, hI.f26, hI.f27, hI.f28, hI.f29, hI.f30, hI.f31, hI.f32, hI.f33, hI.f34, hI.f35, hI.f36, hI.f37⟩⟩
          · refine .inl ⟨wanted_at (k := 86) (by kernel_rfl) 7 rfl (Nat.le_of_ble_eq_true rfl) rfl (by decide) (hdep 7 (dep_of (by kernel_rfl))) (hI.f7 (hdep 7 (dep_of (by kernel_rfl)))), wpFieldT rfl (at_old (by kernel_rfl)) (fdDev0 _ w1) ⟨_, rfl, ?_⟩⟩
            exact ⟨hI.G, hI.f0, hI.f1, hI.f2, hI.f3, hI.f4, hI.f5, hI.f6, hI.f7, hI.f8, hI.f9, hI.f10, hI.f11, hI.f12, hI.f13, (fun _ _ => rfl), hI.f15, hI.f16, hI.f17, hI.f18, hI.f19, hI.f20, hI.f21, hI.f22, hI.f23, hI.f24, hI.f25, hI.f26, hI.f27, hI.f28, hI.f29, hI.f30, hI.f31, hI.f32, hI.f33, hI.f34, hI.f35, hI.f36, hI.f37⟩
        · obtain rfl := Option.some.inj hoi
          cases b1
          · exact .inr ⟨unwanted_at (k := 86) (by kernel_rfl) 7 rfl (Nat.le_of_ble_eq_true rfl) rfl (by decide) (hdep 7 (dep_of (by kernel_rfl))) (hI.f7 (hdep 7 (dep_of (by kernel_rfl)))), ⟨hI.G, hI.f0, hI.f1, hI.f2, hI.f3, hI.f4, hI.f5, hI.f6, hI.f7, hI.f8, hI.f9, hI.f10, hI.f11, hI.f12, hI.f13, hI.f14, (fun h => by cases h), hI.f16, hI.f17, hI.f18, hI.f19, hI.f20, hI.f21, hI.f22, hI.f23, hI.f24, hI.f25, hI.f26, hI.f27, hI.f28, hI.f29, hI.f30, hI.f31, hI.f32, hI.f33, hI.f34, hI.f35, hI.f36, hI.f37⟩⟩
          · refine .inl ⟨wanted_at (k := 86) (by kernel_rfl) 7 rfl (Nat.le_of_ble_eq_true rfl) rfl (by decide) (hdep 7 (dep_of (by kernel_rfl))) (hI.f7 (hdep 7 (dep_of (by kernel_rfl)))), wpLoadT rfl ((at_new (by kernel_rfl) 14 (Nat.le_of_ble_eq_true rfl) rfl (by decide) (hdep 14 (dep_of (by kernel_rfl)))).trans (hI.f14 rfl (hdep 14 (dep_of (by kernel_rfl))))) (ldI6 (RW.out w1 hI.G)) ⟨_, rfl, ?_⟩⟩
            exact ⟨hI.G, hI.f0, hI.f1, hI.f2, hI.f3, hI.f4, hI.f5, hI.f6, hI.f7, hI.f8, hI.f9, hI.f10, hI.f11, hI.f12, hI.f13, hI.f14, (fun _ _ => rfl), hI.f16, hI.f17, hI.f18, hI.f19, hI.f20, hI.f21, hI.f22, hI.f23, hI.f24, hI.f25, hI.f26, hI.f27, hI.f28, hI.f29, hI.f30, hI.f31, hI.f32, hI.f33, hI.f34, hI.f35, hI.f36, hI.f37⟩
        · obtain rfl := Option.some.inj hoi
          cases b1
          · exact .inr ⟨unwanted_at (k := 86) (by kernel_rfl) 7 rfl (Nat.le_of_ble_eq_true rfl) rfl (by decide) (hdep 7 (dep_of (by kernel_rfl))) (hI.f7 (hdep 7 (dep_of (by kernel_rfl)))), ⟨hI.G, hI.f0, hI.f1, hI.f2, hI.f3, hI.f4, hI.f5, hI.f6, hI.f7, hI.f8, hI.f9, hI.f10, hI.f11, hI.f12, hI.f13, hI.f14, hI.f15, (fun h => by cases h), hI.f17, hI.f18, hI.f19, hI.f20, hI.f21, hI.f22, hI.f23, hI.f24, hI.f25, hI.f26, hI.f27, hI.f28, hI.f29, hI.f30, hI.f31, hI.f32, hI.f33, hI.f34, hI.f35, hI.f36, hI.f37⟩⟩
          · refine .inl ⟨wanted_at (k := 86) (by kernel_rfl) 7 rfl (Nat.le_of_ble_eq_true rfl) rfl (by decide) (hdep 7 (dep_of (by kernel_rfl))) (hI.f7 (hdep 7 (dep_of (by kernel_rfl)))), wpBinT rfl ((at_new (by kernel_rfl) 13 (Nat.le_of_ble_eq_true rfl) rfl (by decide) (hdep 13 (dep_of (by kernel_rfl)))).trans (hI.f13 rfl (hdep 13 (dep_of (by kernel_rfl))))) ((at_new (by kernel_rfl) 15 (Nat.le_of_ble_eq_true rfl) rfl (by decide) (hdep 15 (dep_of (by kernel_rfl)))).trans (hI.f15 rfl (hdep 15 (dep_of (by kernel_rfl))))) (eqI6 92 94 x.id i b2 HEQ.out w1) ⟨_, rfl, ?_⟩⟩
            exact ⟨hI.G, hI.f0, hI.f1, hI.f2, hI.f3, hI.f4, hI.f5, hI.f6, hI.f7, hI.f8, hI.f9, hI.f10, hI.f11, hI.f12, hI.f13, hI.f14, hI.f15, (fun _ _ => rfl), hI.f17, hI.f18, hI.f19, hI.f20, hI.f21, hI.f22, hI.f23, hI.f24, hI.f25, hI.f26, hI.f27, hI.f28, hI.f29, hI.f30, hI.f31, hI.f32, hI.f33, hI.f34, hI.f35, hI.f36, hI.f37⟩
        · obtain rfl := Option.some.inj hoi
          refine .inl ⟨wanted_free rfl, wpPickKT (x := .bool b2) rfl ((at_new (by kernel_rfl) 7 (Nat.le_of_ble_eq_true rfl) rfl (by decide) (hdep 7 (dep_of (by kernel_rfl)))).trans (hI.f7 (hdep 7 (dep_of (by kernel_rfl))))) (fun hb => (at_new (by kernel_rfl) 16 (Nat.le_of_ble_eq_true rfl) rfl (by decide) (hdep 16 (dep_of (by kernel_rfl)))).trans (hI.f16 (by simpa using hb) (hdep 16 (dep_of (by kernel_rfl))))) ⟨_, rfl, ?_⟩⟩
          exact ⟨hI.G, hI.f0, hI.f1, hI.f2, hI.f3, hI.f4, hI.f5, hI.f6, hI.f7, hI.f8, hI.f9, hI.f10, hI.f11, hI.f12, hI.f13, hI.f14, hI.f15, hI.f16, (fun _ => by rw [HUV.out]; cases b1 <;> rfl), hI.f18, hI.f19, hI.f20, hI.f21, hI.f22, hI.f23, hI.f24, hI.f25, hI.f26, hI.f27, hI.f28, hI.f29, hI.f30, hI.f31, hI.f32, hI.f33, hI.f34, hI.f35, hI.f36, hI.f37⟩
        · obtain rfl := Option.some.inj hoi
          refine .inl ⟨wanted_free rfl, wpMoveT rfl ((at_new (by kernel_rfl) 17 (Nat.le_of_ble_eq_true rfl) rfl (by decide) (hdep 17 (dep_of (by kernel_rfl)))).trans (hI.f17 (hdep 17 (dep_of (by kernel_rfl))))) ⟨_, rfl, ?_⟩⟩
          exact ⟨hI.G, hI.f0, hI.f1, hI.f2, hI.f3, hI.f4, hI.f5, hI.f6, hI.f7, hI.f8, hI.f9, hI.f10, hI.f11, hI.f12, hI.f13, hI.f14, hI.f15, hI.f16, hI.f17, (fun _ => rfl), hI.f19, hI.f20, hI.f21, hI.f22, hI.f23, hI.f24, hI.f25, hI.f26, hI.f27, hI.f28, hI.f29, hI.f30, hI.f31, hI.f32, hI.f33, hI.f34, hI.f35, hI.f36, hI.f37⟩
        · obtain rfl := Option.some.inj hoi
          cases u
          · refine .inl ⟨wanted_at (k := 97) (by kernel_rfl) 18 rfl (Nat.le_of_ble_eq_true rfl) rfl (by decide) (hdep 18 (dep_of (by kernel_rfl))) (hI.f18 (hdep 18 (dep_of (by kernel_rfl)))), wpMoveT rfl (at_old (by kernel_rfl)) ⟨_, rfl, ?_⟩⟩
            exact ⟨hI.G, hI.f0, hI.f1, hI.f2, hI.f3, hI.f4, hI.f5, hI.f6, hI.f7, hI.f8, hI.f9, hI.f10, hI.f11, hI.f12, hI.f13, hI.f14, hI.f15, hI.f16, hI.f17, hI.f18, (fun _ _ => rfl), hI.f20, hI.f21, hI.f22, hI.f23, hI.f24, hI.f25, hI.f26, hI.f27, hI.f28, hI.f29, hI.f30, hI.f31, hI.f32, hI.f33, hI.f34, hI.f35, hI.f36, hI.f37⟩
          · exact .inr ⟨unwanted_at (k := 97) (by kernel_rfl) 18 rfl (Nat.le_of_ble_eq_true rfl) rfl (by decide) (hdep 18 (dep_of (by kernel_rfl))) (hI.f18 (hdep 18 (dep_of (by kernel_rfl)))), ⟨hI.G, hI.f0, hI.f1, hI.f2, hI.f3, hI.f4, hI.f5, hI.f6, hI.f7, hI.f8, hI.f9, hI.f10, hI.f11, hI.f12, hI.f13, hI.f14, hI.f15, hI.f16, hI.f17, hI.f18, (fun h => by cases h), hI.f20, hI.f21, hI.f22, hI.f23, hI.f24, hI.f25, hI.f26, hI.f27, hI.f28, hI.f29, hI.f30, hI.f31, hI.f32, hI.f33, hI.f34, hI.f35, hI.f36, hI.f37⟩⟩
        · obtain rfl := Option.some.inj hoi
          cases u
          · refine .inl ⟨wanted_at (k := 97) (by kernel_rfl) 18 rfl (Nat.le_of_ble_eq_true rfl) rfl (by decide) (hdep 18 (dep_of (by kernel_rfl))) (hI.f18 (hdep 18 (dep_of (by kernel_rfl)))), wpBinKT rfl ((at_new (by kernel_rfl) 19 (Nat.le_of_ble_eq_true rfl) rfl (by decide) (hdep 19 (dep_of (by kernel_rfl)))).trans (hI.f19 rfl (hdep 19 (dep_of (by kernel_rfl))))) (gtZ 98 j z HZ.out w1) ⟨_, rfl, ?_⟩⟩
            exact ⟨hI.G, hI.f0, hI.f1, hI.f2, hI.f3, hI.f4, hI.f5, hI.f6, hI.f7, hI.f8, hI.f9, hI.f10, hI.f11, hI.f12, hI.f13, hI.f14, hI.f15, hI.f16, hI.f17, hI.f18, hI.f19, (fun _ _ => rfl), hI.f21, hI.f22, hI.f23, hI.f24, hI.f25, hI.f26, hI.f27, hI.f28, hI.f29, hI.f30, hI.f31, hI.f32, hI.f33, hI.f34, hI.f35, hI.f36, hI.f37⟩
          · exact .inr ⟨unwanted_at (k := 97) (by kernel_rfl) 18 rfl (Nat.le_of_ble_eq_true rfl) rfl (by decide) (hdep 18 (dep_of (by kernel_rfl))) (hI.f18 (hdep 18 (dep_of (by kernel_rfl)))), ⟨hI.G, hI.f0, hI.f1, hI.f2, hI.f3, hI.f4, hI.f5, hI.f6, hI.f7, hI.f8, hI.f9, hI.f10, hI.f11, hI.f12, hI.f13, hI.f14, hI.f15, hI.f16, hI.f17, hI.f18, hI.f19, (fun h => by cases h), hI.f21, hI.f22, hI.f23, hI.f24, hI.f25, hI.f26, hI.f27, hI.f28, hI.f29, hI.f30, hI.f31, hI.f32, hI.f33, hI.f34, hI.f35, hI.f36, hI.f37⟩⟩
        · obtain rfl := Option.some.inj hoi
          cases u
          · refine .inl ⟨wanted_at (k := 97) (by kernel_rfl) 18 rfl (Nat.le_of_ble_eq_true rfl) rfl (by decide) (hdep 18 (dep_of (by kernel_rfl))) (hI.f18 (hdep 18 (dep_of (by kernel_rfl)))), wpMoveT rfl ((at_new (by kernel_rfl) 20 (Nat.le_of_ble_eq_true rfl) rfl (by decide) (hdep 20 (dep_of (by kernel_rfl)))).trans (hI.f20 rfl (hdep 20 (dep_of (by kernel_rfl))))) ⟨_, rfl, ?_⟩⟩
            exact ⟨hI.G, hI.f0, hI.f1, hI.f2, hI.f3, hI.f4, hI.f5, hI.f6, hI.f7, hI.f8, hI.f9, hI.f10, hI.f11, hI.f12, hI.f13, hI.f14, hI.f15, hI.f16, hI.f17, hI.f18, hI.f19, hI.f20, (fun _ => rfl), hI.f22, hI.f23, hI.f24, hI.f25, hI.f26, hI.f27, hI.f28, hI.f29, hI.f30, hI.f31, hI.f32, hI.f33, hI.f34, hI.f35, hI.f36, hI.f37⟩
          · exact .inr ⟨unwanted_at (k := 97) (by kernel_rfl) 18 rfl (Nat.le_of_ble_eq_true rfl) rfl (by decide) (hdep 18 (dep_of (by kernel_rfl))) (hI.f18 (hdep 18 (dep_of (by kernel_rfl)))), ⟨hI.G, hI.f0, hI.f1, hI.f2, hI.f3, hI.f4, hI.f5, hI.f6, hI.f7, hI.f8, hI.f9, hI.f10, hI.f11, hI.f12, hI.f13, hI.f14, hI.f15, hI.f16, hI.f17, hI.f18, hI.f19, hI.f20, (fun _ => rfl), hI.f22, hI.f23, hI.f24, hI.f25, hI.f26, hI.f27, hI.f28, hI.f29, hI.f30, hI.f31, hI.f32, hI.f33, hI.f34, hI.f35, hI.f36, hI.f37⟩⟩
        · obtain rfl := Option.some.inj hoi
          cases u
          · cases z
            · exact .inr ⟨unwanted_at (k := 100) (by kernel_rfl) 21 rfl (Nat.le_of_ble_eq_true rfl) rfl (by decide) (hdep 21 (dep_of (by kernel_rfl))) (hI.f21 (hdep 21 (dep_of (by kernel_rfl)))), ⟨hI.G, hI.f0, hI.f1, hI.f2, hI.f3, hI.f4, hI.f5, hI.f6, hI.f7, hI.f8, hI.f9, hI.f10, hI.f11, hI.f12, hI.f13, hI.f14, hI.f15, hI.f16, hI.f17, hI.f18, hI.f19, hI.f20, hI.f21, (fun _ h => by cases h), hI.f23, hI.f24, hI.f25, hI.f26, hI.f27, hI.f28, hI.f29, hI.f30, hI.f31, hI.f32, hI.f33, hI.f34, hI.f35, hI.f36, hI.f37⟩⟩
            · refine .inl ⟨wanted_at (k := 100) (by kernel_rfl) 21 rfl (Nat.le_of_ble_eq_true rfl) rfl (by decide) (hdep 21 (dep_of (by kernel_rfl))) (hI.f21 (hdep 21 (dep_of (by kernel_rfl)))), wpFieldT rfl (at_old (by kernel_rfl)) (fdDev5 _ w1) ⟨_, rfl, ?_⟩⟩
              exact ⟨hI.G, hI.f0, hI.f1, hI.f2, hI.f3, hI.f4, hI.f5, hI.f6, hI.f7, hI.f8, hI.f9, hI.f10, hI.f11, hI.f12, hI.f13, hI.f14, hI.f15, hI.f16, hI.f17, hI.f18, hI.f19, hI.f20, hI.f21, (fun _ _ _ => rfl), hI.f23, hI.f24, hI.f25, hI.f26, hI.f27, hI.f28, hI.f29, hI.f30, hI.f31, hI.f32, hI.f33, hI.f34, hI.f35, hI.f36, hI.f37⟩
          · exact .inr ⟨unwanted_ne (k := 100) (by kernel_rfl) 21 rfl (Nat.le_of_ble_eq_true rfl) rfl (by decide) (hdep 21 (dep_of (by kernel_rfl))) (hI.f21 (hdep 21 (dep_of (by kernel_rfl)))) (fun h => by cases h), ⟨hI.G, hI.f0, hI.f1, hI.f2, hI.f3, hI.f4, hI.f5, hI.f6, hI.f7, hI.f8, hI.f9, hI.f10, hI.f11, hI.f12, hI.f13, hI.f14, hI.f15, hI.f16, hI.f17, hI.f18, hI.f19, hI.f20, hI.f21, (fun h => by cases h), hI.f23, hI.f24, hI.f25, hI.f26, hI.f27, hI.f28, hI.f29, hI.f30, hI.f31, hI.f32, hI.f33, hI.f34, hI.f35, hI.f36, hI.f37⟩⟩
        · obtain rfl := Option.some.inj hoi
          cases u
          · cases z
            · exact .inr ⟨unwanted_at (k := 100) (by kernel_rfl) 21 rfl (Nat.le_of_ble_eq_true rfl) rfl (by decide) (hdep 21 (dep_of (by kernel_rfl))) (hI.f21 (hdep 21 (dep_of (by kernel_rfl)))), ⟨hI.G, hI.f0, hI.f1, hI.f2, hI.f3, hI.f4, hI.f5, hI.f6, hI.f7, hI.f8, hI.f9, hI.f10, hI.f11, hI.f12, hI.f13, hI.f14, hI.f15, hI.f16, hI.f17, hI.f18, hI.f19, hI.f20, hI.f21, hI.f22, (fun _ h => by cases h), hI.f24, hI.f25, hI.f26, hI.f27, hI.f28, hI.f29, hI.f30, hI.f31, hI.f32, hI.f33, hI.f34, hI.f35, hI.f36, hI.f37⟩⟩
            · refine .inl ⟨wanted_at (k := 100) (by kernel_rfl) 21 rfl (Nat.le_of_ble_eq_true rfl) rfl (by decide) (hdep 21 (dep_of (by kernel_rfl))) (hI.f21 (hdep 21 (dep_of (by kernel_rfl)))), wpLoadT rfl ((at_new (by kernel_rfl) 22 (Nat.le_of_ble_eq_true rfl) rfl (by decide) (hdep 22 (dep_of (by kernel_rfl)))).trans (hI.f22 rfl rfl (hdep 22 (dep_of (by kernel_rfl))))) (ldPeers (RO.out w1 hI.G)) ⟨_, rfl, ?_⟩⟩
              exact ⟨hI.G, hI.f0, hI.f1, hI.f2, hI.f3, hI.f4, hI.f5, hI.f6, hI.f7, hI.f8, hI.f9, hI.f10, hI.f11, hI.f12, hI.f13, hI.f14, hI.f15, hI.f16, hI.f17, hI.f18, hI.f19, hI.f20, hI.f21, hI.f22, (fun _ _ _ => rfl), hI.f24, hI.f25, hI.f26, hI.f27, hI.f28, hI.f29, hI.f30, hI.f31, hI.f32, hI.f33, hI.f34, hI.f35, hI.f36, hI.f37⟩
          · exact .inr ⟨unwanted_ne (k := 100) (by kernel_rfl) 21 rfl (Nat.le_of_ble_eq_true rfl) rfl (by decide) (hdep 21 (dep_of (by kernel_rfl))) (hI.f21 (hdep 21 (dep_of (by kernel_rfl)))) (fun h => by cases h), ⟨hI.G, hI.f0, hI.f1, hI.f2, hI.f3, hI.f4, hI.f5, hI.f6, hI.f7, hI.f8, hI.f9, hI.f10, hI.f11, hI.f12, hI.f13, hI.f14, hI.f15, hI.f16, hI.f17, hI.f18, hI.f19, hI.f20, hI.f21, hI.f22, (fun h => by cases h), hI.f24, hI.f25, hI.f26, hI.f27, hI.f28, hI.f29, hI.f30, hI.f31, hI.f32, hI.f33, hI.f34, hI.f35, hI.f36, hI.f37⟩⟩
        · obtain rfl := Option.some.inj hoi
          cases u
          · cases z
            · exact .inr ⟨unwanted_at (k := 100) (by kernel_rfl) 21 rfl (Nat.le_of_ble_eq_true rfl) rfl (by decide) (hdep 21 (dep_of (by kernel_rfl))) (hI.f21 (hdep 21 (dep_of (by kernel_rfl)))), ⟨hI.G, hI.f0, hI.f1, hI.f2, hI.f3, hI.f4, hI.f5, hI.f6, hI.f7, hI.f8, hI.f9, hI.f10, hI.f11, hI.f12, hI.f13, hI.f14, hI.f15, hI.f16, hI.f17, hI.f18, hI.f19, hI.f20, hI.f21, hI.f22, hI.f23, (fun _ h => by cases h), hI.f25, hI.f26, hI.f27, hI.f28, hI.f29, hI.f30, hI.f31, hI.f32, hI.f33, hI.f34, hI.f35, hI.f36, hI.f37⟩⟩
            · refine .inl ⟨wanted_at (k := 100) (by kernel_rfl) 21 rfl (Nat.le_of_ble_eq_true rfl) rfl (by decide) (hdep 21 (dep_of (by kernel_rfl))) (hI.f21 (hdep 21 (dep_of (by kernel_rfl)))), wpMoveT rfl (at_old (by kernel_rfl)) ⟨_, rfl, ?_⟩⟩
              exact ⟨hI.G, hI.f0, hI.f1, hI.f2, hI.f3, hI.f4, hI.f5, hI.f6, hI.f7, hI.f8, hI.f9, hI.f10, hI.f11, hI.f12, hI.f13, hI.f14, hI.f15, hI.f16, hI.f17, hI.f18, hI.f19, hI.f20, hI.f21, hI.f22, hI.f23, (fun _ _ _ => rfl), hI.f25, hI.f26, hI.f27, hI.f28, hI.f29, hI.f30, hI.f31, hI.f32, hI.f33, hI.f34, hI.f35, hI.f36, hI.f37⟩
          · exact .inr ⟨unwanted_ne (k := 100) (by kernel_rfl) 21 rfl (Nat.le_of_ble_eq_true rfl) rfl (by decide) (hdep 21 (dep_of (by kernel_rfl))) (hI.f21 (hdep 21 (dep_of (by kernel_rfl)))) (fun h => by cases h), ⟨hI.G, hI.f0, hI.f1, hI.f2, hI.f3, hI.f4, hI.f5, hI.f6, hI.f7, hI.f8, hI.f9, hI.f10, hI.f11, hI.f12, hI.f13, hI.f14, hI.f15, hI.f16, hI.f17, hI.f18, hI.f19, hI.f20, hI.f21, hI.f22, hI.f23, (fun h => by cases h), hI.f25, hI.f26, hI.f27, hI.f28, hI.f29, hI.f30, hI.f31, hI.f32, hI.f33, hI.f34, hI.f35, hI.f36, hI.f37⟩⟩
        · obtain rfl := Option.some.inj hoi
          cases u
          · cases z
            · exact .inr ⟨unwanted_at (k := 100) (by kernel_rfl) 21 rfl (Nat.le_of_ble_eq_true rfl) rfl (by decide) (hdep 21 (dep_of (by kernel_rfl))) (hI.f21 (hdep 21 (dep_of (by kernel_rfl)))), ⟨hI.G, hI.f0, hI.f1, hI.f2, hI.f3, hI.f4, hI.f5, hI.f6, hI.f7, hI.f8, hI.f9, hI.f10, hI.f11, hI.f12, hI.f13, hI.f14, hI.f15, hI.f16, hI.f17, hI.f18, hI.f19, hI.f20, hI.f21, hI.f22, hI.f23, hI.f24, (fun _ h => by cases h), hI.f26, hI.f27, hI.f28, hI.f29, hI.f30, hI.f31, hI.f32, hI.f33, hI.f34, hI.f35, hI.f36, hI.f37⟩⟩
            · refine .inl ⟨wanted_at (k := 100) (by kernel_rfl) 21 rfl (Nat.le_of_ble_eq_true rfl) rfl (by decide) (hdep 21 (dep_of (by kernel_rfl))) (hI.f21 (hdep 21 (dep_of (by kernel_rfl)))), wpBinKT rfl ((at_new (by kernel_rfl) 24 (Nat.le_of_ble_eq_true rfl) rfl (by decide) (hdep 24 (dep_of (by kernel_rfl)))).trans (hI.f24 rfl rfl (hdep 24 (dep_of (by kernel_rfl))))) (subJ 103 j (HZP.out rfl) HJM.out w1) ⟨_, rfl, ?_⟩⟩
              exact ⟨hI.G, hI.f0, hI.f1, hI.f2, hI.f3, hI.f4, hI.f5, hI.f6, hI.f7, hI.f8, hI.f9, hI.f10, hI.f11, hI.f12, hI.f13, hI.f14, hI.f15, hI.f16, hI.f17, hI.f18, hI.f19, hI.f20, hI.f21, hI.f22, hI.f23, hI.f24, (fun _ _ _ => rfl), hI.f26, hI.f27, hI.f28, hI.f29, hI.f30, hI.f31, hI.f32, hI.f33, hI.f34, hI.f35, hI.f36, hI.f37⟩
          · exact .inr ⟨unwanted_ne (k := 100) (by kernel_rfl) 21 rfl (Nat.le_of_ble_eq_true rfl) rfl (by decide) (hdep 21 (dep_of (by kernel_rfl))) (hI.f21 (hdep 21 (dep_of (by kernel_rfl)))) (fun h => by cases h), ⟨hI.G, hI.f0, hI.f1, hI.f2, hI.f3, hI.f4, hI.f5, hI.f6, hI.f7, hI.f8, hI.f9, hI.f10, hI.f11, hI.f12, hI.f13, hI.f14, hI.f15, hI.f16, hI.f17, hI.f18, hI.f19, hI.f20, hI.f21, hI.f22, hI.f23, hI.f24, (fun h => by cases h), hI.f26, hI.f27, hI.f28, hI.f29, hI.f30, hI.f31, hI.f32, hI.f33, hI.f34, hI.f35, hI.f36, hI.f37⟩⟩
        · obtain rfl := Option.some.inj hoi
          cases u
          · cases z
            · exact .inr ⟨unwanted_at (k := 100) (by kernel_rfl) 21 rfl (Nat.le_of_ble_eq_true rfl) rfl (by decide) (hdep 21 (dep_of (by kernel_rfl))) (hI.f21 (hdep 21 (dep_of (by kernel_rfl)))), ⟨hI.G, hI.f0, hI.f1, hI.f2, hI.f3, hI.f4, hI.f5, hI.f6, hI.f7, hI.f8, hI.f9, hI.f10, hI.f11, hI.f12, hI.f13, hI.f14, hI.f15, hI.f16, hI.f17, hI.f18, hI.f19, hI.f20, hI.f21, hI.f22, hI.f23, hI.f24, hI.f25, (fun _ h => by cases h), hI.f27, hI.f28, hI.f29, hI.f30, hI.f31, hI.f32, hI.f33, hI.f34, hI.f35, hI.f36, hI.f37⟩⟩
            · refine .inl ⟨wanted_at (k := 100) (by kernel_rfl) 21 rfl (Nat.le_of_ble_eq_true rfl) rfl (by decide) (hdep 21 (dep_of (by kernel_rfl))) (hI.f21 (hdep 21 (dep_of (by kernel_rfl)))), wpIdxT rfl ((at_new (by kernel_rfl) 23 (Nat.le_of_ble_eq_true rfl) rfl (by decide) (hdep 23 (dep_of (by kernel_rfl)))).trans (hI.f23 rfl rfl (hdep 23 (dep_of (by kernel_rfl))))) ((at_new (by kernel_rfl) 25 (Nat.le_of_ble_eq_true rfl) rfl (by decide) (hdep 25 (dep_of (by kernel_rfl)))).trans (hI.f25 rfl rfl (hdep 25 (dep_of (by kernel_rfl))))) ((fun w1 => ixPeer g peers.length cp (j - 1) w1 (HJN.out rfl) HNM.out) w1) ⟨_, rfl, ?_⟩⟩
              exact ⟨hI.G, hI.f0, hI.f1, hI.f2, hI.f3, hI.f4, hI.f5, hI.f6, hI.f7, hI.f8, hI.f9, hI.f10, hI.f11, hI.f12, hI.f13, hI.f14, hI.f15, hI.f16, hI.f17, hI.f18, hI.f19, hI.f20, hI.f21, hI.f22, hI.f23, hI.f24, hI.f25, (fun _ _ _ => rfl), hI.f27, hI.f28, hI.f29, hI.f30, hI.f31, hI.f32, hI.f33, hI.f34, hI.f35, hI.f36, hI.f37⟩
          · exact .inr ⟨unwanted_ne (k := 100) (by kernel_rfl) 21 rfl (Nat.le_of_ble_eq_true rfl) rfl (by decide) (hdep 21 (dep_of (by kernel_rfl))) (hI.f21 (hdep 21 (dep_of (by kernel_rfl)))) (fun h => by cases h), ⟨hI.G, hI.f0, hI.f1, hI.f2, hI.f3, hI.f4, hI.f5, hI.f6, hI.f7, hI.f8, hI.f9, hI.f10, hI.f11, hI.f12, hI.f13, hI.f14, hI.f15, hI.f16, hI.f17, hI.f18, hI.f19, hI.f20, hI.f21, hI.f22, hI.f23, hI.f24, hI.f25, (fun h => by cases h), hI.f27, hI.f28, hI.f29, hI.f30, hI.f31, hI.f32, hI.f33, hI.f34, hI.f35, hI.f36, hI.f37⟩⟩
        · obtain rfl := Option.some.inj hoi
          cases u
          · cases z
            · exact .inr ⟨unwanted_at (k := 100) (by kernel_rfl) 21 rfl (Nat.le_of_ble_eq_true rfl) rfl (by decide) (hdep 21 (dep_of (by kernel_rfl))) (hI.f21 (hdep 21 (dep_of (by kernel_rfl)))), ⟨hI.G, hI.f0, hI.f1, hI.f2, hI.f3, hI.f4, hI.f5, hI.f6, hI.f7, hI.f8, hI.f9, hI.f10, hI.f11, hI.f12, hI.f13, hI.f14, hI.f15, hI.f16, hI.f17, hI.f18, hI.f19, hI.f20, hI.f21, hI.f22, hI.f23, hI.f24, hI.f25, hI.f26, (fun _ h => by cases h), hI.f28, hI.f29, hI.f30, hI.f31, hI.f32, hI.f33, hI.f34, hI.f35, hI.f36, hI.f37⟩⟩
            · refine .inl ⟨wanted_at (k := 100) (by kernel_rfl) 21 rfl (Nat.le_of_ble_eq_true rfl) rfl (by decide) (hdep 21 (dep_of (by kernel_rfl))) (hI.f21 (hdep 21 (dep_of (by kernel_rfl)))), wpFieldT rfl ((at_new (by kernel_rfl) 26 (Nat.le_of_ble_eq_true rfl) rfl (by decide) (hdep 26 (dep_of (by kernel_rfl)))).trans (hI.f26 rfl rfl (hdep 26 (dep_of (by kernel_rfl))))) (fdPeerN g ((j - 1) * 3) w1) ⟨_, rfl, ?_⟩⟩
              exact ⟨hI.G, hI.f0, hI.f1, hI.f2, hI.f3, hI.f4, hI.f5, hI.f6, hI.f7, hI.f8, hI.f9, hI.f10, hI.f11, hI.f12, hI.f13, hI.f14, hI.f15, hI.f16, hI.f17, hI.f18, hI.f19, hI.f20, hI.f21, hI.f22, hI.f23, hI.f24, hI.f25, hI.f26, (fun _ _ _ => rfl), hI.f28, hI.f29, hI.f30, hI.f31, hI.f32, hI.f33, hI.f34, hI.f35, hI.f36, hI.f37⟩
          · exact .inr ⟨unwanted_ne (k := 100) (by kernel_rfl) 21 rfl (Nat.le_of_ble_eq_true rfl) rfl (by decide) (hdep 21 (dep_of (by kernel_rfl))) (hI.f21 (hdep 21 (dep_of (by kernel_rfl)))) (fun h => by cases h), ⟨hI.G, hI.f0, hI.f1, hI.f2, hI.f3, hI.f4, hI.f5, hI.f6, hI.f7, hI.f8, hI.f9, hI.f10, hI.f11, hI.f12, hI.f13, hI.f14, hI.f15, hI.f16, hI.f17, hI.f18, hI.f19, hI.f20, hI.f21, hI.f22, hI.f23, hI.f24, hI.f25, hI.f26, (fun h => by cases h), hI.f28, hI.f29, hI.f30, hI.f31, hI.f32, hI.f33, hI.f34, hI.f35, hI.f36, hI.f37⟩⟩
        · obtain rfl := Option.some.inj hoi
          cases u
          · cases z
            · exact .inr ⟨unwanted_at (k := 100) (by kernel_rfl) 21 rfl (Nat.le_of_ble_eq_true rfl) rfl (by decide) (hdep 21 (dep_of (by kernel_rfl))) (hI.f21 (hdep 21 (dep_of (by kernel_rfl)))), ⟨hI.G, hI.f0, hI.f1, hI.f2, hI.f3, hI.f4, hI.f5, hI.f6, hI.f7, hI.f8, hI.f9, hI.f10, hI.f11, hI.f12, hI.f13, hI.f14, hI.f15, hI.f16, hI.f17, hI.f18, hI.f19, hI.f20, hI.f21, hI.f22, hI.f23, hI.f24, hI.f25, hI.f26, hI.f27, (fun _ h => by cases h), hI.f29, hI.f30, hI.f31, hI.f32, hI.f33, hI.f34, hI.f35, hI.f36, hI.f37⟩⟩
            · refine .inl ⟨wanted_at (k := 100) (by kernel_rfl) 21 rfl (Nat.le_of_ble_eq_true rfl) rfl (by decide) (hdep 21 (dep_of (by kernel_rfl))) (hI.f21 (hdep 21 (dep_of (by kernel_rfl)))), wpLoadT rfl ((at_new (by kernel_rfl) 27 (Nat.le_of_ble_eq_true rfl) rfl (by decide) (hdep 27 (dep_of (by kernel_rfl)))).trans (hI.f27 rfl rfl (hdep 27 (dep_of (by kernel_rfl))))) (ldI6 (RY.out rfl w1 hI.G)) ⟨_, rfl, ?_⟩⟩
              exact ⟨hI.G, hI.f0, hI.f1, hI.f2, hI.f3, hI.f4, hI.f5, hI.f6, hI.f7, hI.f8, hI.f9, hI.f10, hI.f11, hI.f12, hI.f13, hI.f14, hI.f15, hI.f16, hI.f17, hI.f18, hI.f19, hI.f20, hI.f21, hI.f22, hI.f23, hI.f24, hI.f25, hI.f26, hI.f27, (fun _ _ _ => rfl), hI.f29, hI.f30, hI.f31, hI.f32, hI.f33, hI.f34, hI.f35, hI.f36, hI.f37⟩
          · exact .inr ⟨unwanted_ne (k := 100) (by kernel_rfl) 21 rfl (Nat.le_of_ble_eq_true rfl) rfl (by decide) (hdep 21 (dep_of (by kernel_rfl))) (hI.f21 (hdep 21 (dep_of (by kernel_rfl)))) (fun h => by cases h), ⟨hI.G, hI.f0, hI.f1, hI.f2, hI.f3, hI.f4, hI.f5, hI.f6, hI.f7, hI.f8, hI.f9, hI.f10, hI.f11, hI.f12, hI.f13, hI.f14, hI.f15, hI.f16, hI.f17, hI.f18, hI.f19, hI.f20, hI.f21, hI.f22, hI.f23, hI.f24, hI.f25, hI.f26, hI.f27, (fun h => by cases h), hI.f29, hI.f30, hI.f31, hI.f32, hI.f33, hI.f34, hI.f35, hI.f36, hI.f37⟩⟩
        · obtain rfl := Option.some.inj hoi
          cases u
          · cases z
            · exact .inr ⟨unwanted_at (k := 100) (by kernel_rfl) 21 rfl (Nat.le_of_ble_eq_true rfl) rfl (by decide) (hdep 21 (dep_of (by kernel_rfl))) (hI.f21 (hdep 21 (dep_of (by kernel_rfl)))), ⟨hI.G, hI.f0, hI.f1, hI.f2, hI.f3, hI.f4, hI.f5, hI.f6, hI.f7, hI.f8, hI.f9, hI.f10, hI.f11, hI.f12, hI.f13, hI.f14, hI.f15, hI.f16, hI.f17, hI.f18, hI.f19, hI.f20, hI.f21, hI.f22, hI.f23, hI.f24, hI.f25, hI.f26, hI.f27, hI.f28, (fun _ h => by cases h), hI.f30, hI.f31, hI.f32, hI.f33, hI.f34, hI.f35, hI.f36, hI.f37⟩⟩
            · refine .inl ⟨wanted_at (k := 100) (by kernel_rfl) 21 rfl (Nat.le_of_ble_eq_true rfl) rfl (by decide) (hdep 21 (dep_of (by kernel_rfl))) (hI.f21 (hdep 21 (dep_of (by kernel_rfl)))), wpFieldT rfl (at_old (by kernel_rfl)) (fdDev5 _ w1) ⟨_, rfl, ?_⟩⟩
              exact ⟨hI.G, hI.f0, hI.f1, hI.f2, hI.f3, hI.f4, hI.f5, hI.f6, hI.f7, hI.f8, hI.f9, hI.f10, hI.f11, hI.f12, hI.f13, hI.f14, hI.f15, hI.f16, hI.f17, hI.f18, hI.f19, hI.f20, hI.f21, hI.f22, hI.f23, hI.f24, hI.f25, hI.f26, hI.f27, hI.f28, (fun _ _ _ => rfl), hI.f30, hI.f31, hI.f32, hI.f33, hI.f34, hI.f35, hI.f36, hI.f37⟩
          · exact .inr ⟨unwanted_ne (k := 100) (by kernel_rfl) 21 rfl (Nat.le_of_ble_eq_true rfl) rfl (by decide) (hdep 21 (dep_of (by kernel_rfl))) (hI.f21 (hdep 21 (dep_of (by kernel_rfl)))) (fun h => by cases h), ⟨hI.G, hI.f0, hI.f1, hI.f2, hI.f3, hI.f4, hI.f5, hI.f6, hI.f7, hI.f8, hI.f9, hI.f10, hI.f11, hI.f12, hI.f13, hI.f14, hI.f15, hI.f16, hI.f17, hI.f18, hI.f19, hI.f20, hI.f21, hI.f22, hI.f23, hI.f24, hI.f25, hI.f26, hI.f27, hI.f28, (fun h => by cases h), hI.f30, hI.f31, hI.f32, hI.f33, hI.f34, hI.f35, hI.f36, hI.f37⟩⟩
        · obtain rfl := Option.some.inj hoi
          cases u
          · cases z
            · exact .inr ⟨unwanted_at (k := 100) (by kernel_rfl) 21 rfl (Nat.le_of_ble_eq_true rfl) rfl (by decide) (hdep 21 (dep_of (by kernel_rfl))) (hI.f21 (hdep 21 (dep_of (by kernel_rfl)))), ⟨hI.G, hI.f0, hI.f1, hI.f2, hI.f3, hI.f4, hI.f5, hI.f6, hI.f7, hI.f8, hI.f9, hI.f10, hI.f11, hI.f12, hI.f13, hI.f14, hI.f15, hI.f16, hI.f17, hI.f18, hI.f19, hI.f20, hI.f21, hI.f22, hI.f23, hI.f24, hI.f25, hI.f26, hI.f27, hI.f28, hI.f29, (fun _ h => by cases h), hI.f31, hI.f32, hI.f33, hI.f34, hI.f35, hI.f36, hI.f37⟩⟩
            · refine .inl ⟨wanted_at (k := 100) (by kernel_rfl) 21 rfl (Nat.le_of_ble_eq_true rfl) rfl (by decide) (hdep 21 (dep_of (by kernel_rfl))) (hI.f21 (hdep 21 (dep_of (by kernel_rfl)))), wpLoadT rfl ((at_new (by kernel_rfl) 29 (Nat.le_of_ble_eq_true rfl) rfl (by decide) (hdep 29 (dep_of (by kernel_rfl)))).trans (hI.f29 rfl rfl (hdep 29 (dep_of (by kernel_rfl))))) (ldPeers (RO.out w1 hI.G)) ⟨_, rfl, ?_⟩⟩
              exact ⟨hI.G, hI.f0, hI.f1, hI.f2, hI.f3, hI.f4, hI.f5, hI.f6, hI.f7, hI.f8, hI.f9, hI.f10, hI.f11, hI.f12, hI.f13, hI.f14, hI.f15, hI.f16, hI.f17, hI.f18, hI.f19, hI.f20, hI.f21, hI.f22, hI.f23, hI.f24, hI.f25, hI.f26, hI.f27, hI.f28, hI.f29, (fun _ _ _ => rfl), hI.f31, hI.f32, hI.f33, hI.f34, hI.f35, hI.f36, hI.f37⟩
          · exact .inr ⟨unwanted_ne (k := 100) (by kernel_rfl) 21 rfl (Nat.le_of_ble_eq_true rfl) rfl (by decide) (hdep 21 (dep_of (by kernel_rfl))) (hI.f21 (hdep 21 (dep_of (by kernel_rfl)))) (fun h => by cases h), ⟨hI.G, hI.f0, hI.f1, hI.f2, hI.f3, hI.f4, hI.f5, hI.f6, hI.f7, hI.f8, hI.f9, hI.f10, hI.f11, hI.f12, hI.f13, hI.f14, hI.f15, hI.f16, hI.f17, hI.f18, hI.f19, hI.f20, hI.f21, hI.f22, hI.f23, hI.f24, hI.f25, hI.f26, hI.f27, hI.f28, hI.f29, (fun h => by cases h), hI.f31, hI.f32, hI.f33, hI.f34, hI.f35, hI.f36, hI.f37⟩⟩
        · obtain rfl := Option.some.inj hoi
          cases u
          · cases z
            · exact .inr ⟨unwanted_at (k := 100) (by kernel_rfl) 21 rfl (Nat.le_of_ble_eq_true rfl) rfl (by decide) (hdep 21 (dep_of (by kernel_rfl))) (hI.f21 (hdep 21 (dep_of (by kernel_rfl)))), ⟨hI.G, hI.f0, hI.f1, hI.f2, hI.f3, hI.f4, hI.f5, hI.f6, hI.f7, hI.f8, hI.f9, hI.f10, hI.f11, hI.f12, hI.f13, hI.f14, hI.f15, hI.f16, hI.f17, hI.f18, hI.f19, hI.f20, hI.f21, hI.f22, hI.f23, hI.f24, hI.f25, hI.f26, hI.f27, hI.f28, hI.f29, hI.f30, (fun _ h => by cases h), hI.f32, hI.f33, hI.f34, hI.f35, hI.f36, hI.f37⟩⟩
            · refine .inl ⟨wanted_at (k := 100) (by kernel_rfl) 21 rfl (Nat.le_of_ble_eq_true rfl) rfl (by decide) (hdep 21 (dep_of (by kernel_rfl))) (hI.f21 (hdep 21 (dep_of (by kernel_rfl)))), wpMoveT rfl (at_old (by kernel_rfl)) ⟨_, rfl, ?_⟩⟩
              exact ⟨hI.G, hI.f0, hI.f1, hI.f2, hI.f3, hI.f4, hI.f5, hI.f6, hI.f7, hI.f8, hI.f9, hI.f10, hI.f11, hI.f12, hI.f13, hI.f14, hI.f15, hI.f16, hI.f17, hI.f18, hI.f19, hI.f20, hI.f21, hI.f22, hI.f23, hI.f24, hI.f25, hI.f26, hI.f27, hI.f28, hI.f29, hI.f30, (fun _ _ _ => rfl), hI.f32, hI.f33, hI.f34, hI.f35, hI.f36, hI.f37⟩
          · exact .inr ⟨unwanted_ne (k := 100) (by kernel_rfl) 21 rfl (Nat.le_of_ble_eq_true rfl) rfl (by decide) (hdep 21 (dep_of (by kernel_rfl))) (hI.f21 (hdep 21 (dep_of (by kernel_rfl)))) (fun h => by cases h), ⟨hI.G, hI.f0, hI.f1, hI.f2, hI.f3, hI.f4, hI.f5, hI.f6, hI.f7, hI.f8, hI.f9, hI.f10, hI.f11, hI.f12, hI.f13, hI.f14, hI.f15, hI.f16, hI.f17, hI.f18, hI.f19, hI.f20, hI.f21, hI.f22, hI.f23, hI.f24, hI.f25, hI.f26, hI.f27, hI.f28, hI.f29, hI.f30, (fun h => by cases h), hI.f32, hI.f33, hI.f34, hI.f35, hI.f36, hI.f37⟩⟩
        · obtain rfl := Option.some.inj hoi
          cases u
          · cases z
            · exact .inr ⟨unwanted_at (k := 100) (by kernel_rfl) 21 rfl (Nat.le_of_ble_eq_true rfl) rfl (by decide) (hdep 21 (dep_of (by kernel_rfl))) (hI.f21 (hdep 21 (dep_of (by kernel_rfl)))), ⟨hI.G, hI.f0, hI.f1, hI.f2, hI.f3, hI.f4, hI.f5, hI.f6, hI.f7, hI.f8, hI.f9, hI.f10, hI.f11, hI.f12, hI.f13, hI.f14, hI.f15, hI.f16, hI.f17, hI.f18, hI.f19, hI.f20, hI.f21, hI.f22, hI.f23, hI.f24, hI.f25, hI.f26, hI.f27, hI.f28, hI.f29, hI.f30, hI.f31, (fun _ h => by cases h), hI.f33, hI.f34, hI.f35, hI.f36, hI.f37⟩⟩
            · refine .inl ⟨wanted_at (k := 100) (by kernel_rfl) 21 rfl (Nat.le_of_ble_eq_true rfl) rfl (by decide) (hdep 21 (dep_of (by kernel_rfl))) (hI.f21 (hdep 21 (dep_of (by kernel_rfl)))), wpIdxT rfl ((at_new (by kernel_rfl) 30 (Nat.le_of_ble_eq_true rfl) rfl (by decide) (hdep 30 (dep_of (by kernel_rfl)))).trans (hI.f30 rfl rfl (hdep 30 (dep_of (by kernel_rfl))))) ((at_new (by kernel_rfl) 31 (Nat.le_of_ble_eq_true rfl) rfl (by decide) (hdep 31 (dep_of (by kernel_rfl)))).trans (hI.f31 rfl rfl (hdep 31 (dep_of (by kernel_rfl))))) ((fun w1 => ixPeer g peers.length cp j w1 HJL.out HNM.out) w1) ⟨_, rfl, ?_⟩⟩
              exact ⟨hI.G, hI.f0, hI.f1, hI.f2, hI.f3, hI.f4, hI.f5, hI.f6, hI.f7, hI.f8, hI.f9, hI.f10, hI.f11, hI.f12, hI.f13, hI.f14, hI.f15, hI.f16, hI.f17, hI.f18, hI.f19, hI.f20, hI.f21, hI.f22, hI.f23, hI.f24, hI.f25, hI.f26, hI.f27, hI.f28, hI.f29, hI.f30, hI.f31, (fun _ _ _ => rfl), hI.f33, hI.f34, hI.f35, hI.f36, hI.f37⟩
          · exact .inr ⟨unwanted_ne (k := 100) (by kernel_rfl) 21 rfl (Nat.le_of_ble_eq_true rfl) rfl (by decide) (hdep 21 (dep_of (by kernel_rfl))) (hI.f21 (hdep 21 (dep_of (by kernel_rfl)))) (fun h => by cases h), ⟨hI.G, hI.f0, hI.f1, hI.f2, hI.f3, hI.f4, hI.f5, hI.f6, hI.f7, hI.f8, hI.f9, hI.f10, hI.f11, hI.f12, hI.f13, hI.f14, hI.f15, hI.f16, hI.f17, hI.f18, hI.f19, hI.f20, hI.f21, hI.f22, hI.f23, hI.f24, hI.f25, hI.f26, hI.f27, hI.f28, hI.f29, hI.f30, hI.f31, (fun h => by cases h), hI.f33, hI.f34, hI.f35, hI.f36, hI.f37⟩⟩
        · obtain rfl := Option.some.inj hoi
          cases u
          · cases z
            · exact .inr ⟨unwanted_at (k := 100) (by kernel_rfl) 21 rfl (Nat.le_of_ble_eq_true rfl) rfl (by decide) (hdep 21 (dep_of (by kernel_rfl))) (hI.f21 (hdep 21 (dep_of (by kernel_rfl)))), ⟨hI.G, hI.f0, hI.f1, hI.f2, hI.f3, hI.f4, hI.f5, hI.f6, hI.f7, hI.f8, hI.f9, hI.f10, hI.f11, hI.f12, hI.f13, hI.f14, hI.f15, hI.f16, hI.f17, hI.f18, hI.f19, hI.f20, hI.f21, hI.f22, hI.f23, hI.f24, hI.f25, hI.f26, hI.f27, hI.f28, hI.f29, hI.f30, hI.f31, hI.f32, (fun _ h => by cases h), hI.f34, hI.f35, hI.f36, hI.f37⟩⟩
            · refine .inl ⟨wanted_at (k := 100) (by kernel_rfl) 21 rfl (Nat.le_of_ble_eq_true rfl) rfl (by decide) (hdep 21 (dep_of (by kernel_rfl))) (hI.f21 (hdep 21 (dep_of (by kernel_rfl)))), wpFieldT rfl ((at_new (by kernel_rfl) 32 (Nat.le_of_ble_eq_true rfl) rfl (by decide) (hdep 32 (dep_of (by kernel_rfl)))).trans (hI.f32 rfl rfl (hdep 32 (dep_of (by kernel_rfl))))) (fdPeerN g (j * 3) w1) ⟨_, rfl, ?_⟩⟩
              exact ⟨hI.G, hI.f0, hI.f1, hI.f2, hI.f3, hI.f4, hI.f5, hI.f6, hI.f7, hI.f8, hI.f9, hI.f10, hI.f11, hI.f12, hI.f13, hI.f14, hI.f15, hI.f16, hI.f17, hI.f18, hI.f19, hI.f20, hI.f21, hI.f22, hI.f23, hI.f24, hI.f25, hI.f26, hI.f27, hI.f28, hI.f29, hI.f30, hI.f31, hI.f32, (fun _ _ _ => rfl), hI.f34, hI.f35, hI.f36, hI.f37⟩
          · exact .inr ⟨unwanted_ne (k := 100) (by kernel_rfl) 21 rfl (Nat.le_of_ble_eq_true rfl) rfl (by decide) (hdep 21 (dep_of (by kernel_rfl))) (hI.f21 (hdep 21 (dep_of (by kernel_rfl)))) (fun h => by cases h), ⟨hI.G, hI.f0, hI.f1, hI.f2, hI.f3, hI.f4, hI.f5, hI.f6, hI.f7, hI.f8, hI.f9, hI.f10, hI.f11, hI.f12, hI.f13, hI.f14, hI.f15, hI.f16, hI.f17, hI.f18, hI.f19, hI.f20, hI.f21, hI.f22, hI.f23, hI.f24, hI.f25, hI.f26, hI.f27, hI.f28, hI.f29, hI.f30, hI.f31, hI.f32, (fun h => by cases h), hI.f34, hI.f35, hI.f36, hI.f37⟩⟩
        · obtain rfl := Option.some.inj hoi
          cases u
          · cases z
            · exact .inr ⟨unwanted_at (k := 100) (by kernel_rfl) 21 rfl (Nat.le_of_ble_eq_true rfl) rfl (by decide) (hdep 21 (dep_of (by kernel_rfl))) (hI.f21 (hdep 21 (dep_of (by kernel_rfl)))), ⟨hI.G, hI.f0, hI.f1, hI.f2, hI.f3, hI.f4, hI.f5, hI.f6, hI.f7, hI.f8, hI.f9, hI.f10, hI.f11, hI.f12, hI.f13, hI.f14, hI.f15, hI.f16, hI.f17, hI.f18, hI.f19, hI.f20, hI.f21, hI.f22, hI.f23, hI.f24, hI.f25, hI.f26, hI.f27, hI.f28, hI.f29, hI.f30, hI.f31, hI.f32, hI.f33, (fun _ h => by cases h), hI.f35, hI.f36, hI.f37⟩⟩
            · refine .inl ⟨wanted_at (k := 100) (by kernel_rfl) 21 rfl (Nat.le_of_ble_eq_true rfl) rfl (by decide) (hdep 21 (dep_of (by kernel_rfl))) (hI.f21 (hdep 21 (dep_of (by kernel_rfl)))), wpLoadT rfl ((at_new (by kernel_rfl) 33 (Nat.le_of_ble_eq_true rfl) rfl (by decide) (hdep 33 (dep_of (by kernel_rfl)))).trans (hI.f33 rfl rfl (hdep 33 (dep_of (by kernel_rfl))))) (ldI6 (RI.out w1 hI.G)) ⟨_, rfl, ?_⟩⟩
              exact ⟨hI.G, hI.f0, hI.f1, hI.f2, hI.f3, hI.f4, hI.f5, hI.f6, hI.f7, hI.f8, hI.f9, hI.f10, hI.f11, hI.f12, hI.f13, hI.f14, hI.f15, hI.f16, hI.f17, hI.f18, hI.f19, hI.f20, hI.f21, hI.f22, hI.f23, hI.f24, hI.f25, hI.f26, hI.f27, hI.f28, hI.f29, hI.f30, hI.f31, hI.f32, hI.f33, (fun _ _ _ => rfl), hI.f35, hI.f36, hI.f37⟩
          · exact .inr ⟨unwanted_ne (k := 100) (by kernel_rfl) 21 rfl (Nat.le_of_ble_eq_true rfl) rfl (by decide) (hdep 21 (dep_of (by kernel_rfl))) (hI.f21 (hdep 21 (dep_of (by kernel_rfl)))) (fun h => by cases h), ⟨hI.G, hI.f0, hI.f1, hI.f2, hI.f3, hI.f4, hI.f5, hI.f6, hI.f7, hI.f8, hI.f9, hI.f10, hI.f11, hI.f12, hI.f13, hI.f14, hI.f15, hI.f16, hI.f17, hI.f18, hI.f19, hI.f20, hI.f21, hI.f22, hI.f23, hI.f24, hI.f25, hI.f26, hI.f27, hI.f28, hI.f29, hI.f30, hI.f31, hI.f32, hI.f33, (fun h => by cases h), hI.f35, hI.f36, hI.f37⟩⟩
        · obtain rfl := Option.some.inj hoi
          cases u
          · cases z
            · exact .inr ⟨unwanted_at (k := 100) (by kernel_rfl) 21 rfl (Nat.le_of_ble_eq_true rfl) rfl (by decide) (hdep 21 (dep_of (by kernel_rfl))) (hI.f21 (hdep 21 (dep_of (by kernel_rfl)))), ⟨hI.G, hI.f0, hI.f1, hI.f2, hI.f3, hI.f4, hI.f5, hI.f6, hI.f7, hI.f8, hI.f9, hI.f10, hI.f11, hI.f12, hI.f13, hI.f14, hI.f15, hI.f16, hI.f17, hI.f18, hI.f19, hI.f20, hI.f21, hI.f22, hI.f23, hI.f24, hI.f25, hI.f26, hI.f27, hI.f28, hI.f29, hI.f30, hI.f31, hI.f32, hI.f33, hI.f34, (fun _ h => by cases h), hI.f36, hI.f37⟩⟩
            · refine .inl ⟨wanted_at (k := 100) (by kernel_rfl) 21 rfl (Nat.le_of_ble_eq_true rfl) rfl (by decide) (hdep 21 (dep_of (by kernel_rfl))) (hI.f21 (hdep 21 (dep_of (by kernel_rfl)))), wpBinT rfl ((at_new (by kernel_rfl) 28 (Nat.le_of_ble_eq_true rfl) rfl (by decide) (hdep 28 (dep_of (by kernel_rfl)))).trans (hI.f28 rfl rfl (hdep 28 (dep_of (by kernel_rfl))))) ((at_new (by kernel_rfl) 34 (Nat.le_of_ble_eq_true rfl) rfl (by decide) (hdep 34 (dep_of (by kernel_rfl)))).trans (hI.f34 rfl rfl (hdep 34 (dep_of (by kernel_rfl))))) (geqI 107 113 la x.id ge HGE.out w1) ⟨_, rfl, ?_⟩⟩
              exact ⟨hI.G, hI.f0, hI.f1, hI.f2, hI.f3, hI.f4, hI.f5, hI.f6, hI.f7, hI.f8, hI.f9, hI.f10, hI.f11, hI.f12, hI.f13, hI.f14, hI.f15, hI.f16, hI.f17, hI.f18, hI.f19, hI.f20, hI.f21, hI.f22, hI.f23, hI.f24, hI.f25, hI.f26, hI.f27, hI.f28, hI.f29, hI.f30, hI.f31, hI.f32, hI.f33, hI.f34, (fun _ _ _ => rfl), hI.f36, hI.f37⟩
          · exact .inr ⟨unwanted_ne (k := 100) (by kernel_rfl) 21 rfl (Nat.le_of_ble_eq_true rfl) rfl (by decide) (hdep 21 (dep_of (by kernel_rfl))) (hI.f21 (hdep 21 (dep_of (by kernel_rfl)))) (fun h => by cases h), ⟨hI.G, hI.f0, hI.f1, hI.f2, hI.f3, hI.f4, hI.f5, hI.f6, hI.f7, hI.f8, hI.f9, hI.f10, hI.f11, hI.f12, hI.f13, hI.f14, hI.f15, hI.f16, hI.f17, hI.f18, hI.f19, hI.f20, hI.f21, hI.f22, hI.f23, hI.f24, hI.f25, hI.f26, hI.f27, hI.f28, hI.f29, hI.f30, hI.f31, hI.f32, hI.f33, hI.f34, (fun h => by cases h), hI.f36, hI.f37⟩⟩
        · obtain rfl := Option.some.inj hoi
          cases u
          · refine .inl ⟨wanted_at (k := 97) (by kernel_rfl) 18 rfl (Nat.le_of_ble_eq_true rfl) rfl (by decide) (hdep 18 (dep_of (by kernel_rfl))) (hI.f18 (hdep 18 (dep_of (by kernel_rfl)))), wpPickT (x := f 35) rfl ((at_new (by kernel_rfl) 21 (Nat.le_of_ble_eq_true rfl) rfl (by decide) (hdep 21 (dep_of (by kernel_rfl)))).trans (hI.f21 (hdep 21 (dep_of (by kernel_rfl))))) (at_new (by kernel_rfl) 35 (Nat.le_of_ble_eq_true rfl) rfl (by decide) (hdep 35 (dep_of (by kernel_rfl)))) ⟨_, rfl, ?_⟩⟩
            exact ⟨hI.G, hI.f0, hI.f1, hI.f2, hI.f3, hI.f4, hI.f5, hI.f6, hI.f7, hI.f8, hI.f9, hI.f10, hI.f11, hI.f12, hI.f13, hI.f14, hI.f15, hI.f16, hI.f17, hI.f18, hI.f19, hI.f20, hI.f21, hI.f22, hI.f23, hI.f24, hI.f25, hI.f26, hI.f27, hI.f28, hI.f29, hI.f30, hI.f31, hI.f32, hI.f33, hI.f34, hI.f35, (fun _ _ => by cases z with | false => rfl | true => exact hI.f35 rfl rfl (hdep 35 (dep_of (by kernel_rfl)))), hI.f37⟩
          · exact .inr ⟨unwanted_at (k := 97) (by kernel_rfl) 18 rfl (Nat.le_of_ble_eq_true rfl) rfl (by decide) (hdep 18 (dep_of (by kernel_rfl))) (hI.f18 (hdep 18 (dep_of (by kernel_rfl)))), ⟨hI.G, hI.f0, hI.f1, hI.f2, hI.f3, hI.f4, hI.f5, hI.f6, hI.f7, hI.f8, hI.f9, hI.f10, hI.f11, hI.f12, hI.f13, hI.f14, hI.f15, hI.f16, hI.f17, hI.f18, hI.f19, hI.f20, hI.f21, hI.f22, hI.f23, hI.f24, hI.f25, hI.f26, hI.f27, hI.f28, hI.f29, hI.f30, hI.f31, hI.f32, hI.f33, hI.f34, hI.f35, (fun h => by cases h), hI.f37⟩⟩
        · obtain rfl := Option.some.inj hoi
          refine .inl ⟨wanted_free rfl, wpPickKT (x := .bool (z && ge)) rfl ((at_new (by kernel_rfl) 18 (Nat.le_of_ble_eq_true rfl) rfl (by decide) (hdep 18 (dep_of (by kernel_rfl)))).trans (hI.f18 (hdep 18 (dep_of (by kernel_rfl))))) (fun hb => (at_new (by kernel_rfl) 36 (Nat.le_of_ble_eq_true rfl) rfl (by decide) (hdep 36 (dep_of (by kernel_rfl)))).trans (hI.f36 hb (hdep 36 (dep_of (by kernel_rfl))))) ⟨_, rfl, ?_⟩⟩
          exact ⟨hI.G, hI.f0, hI.f1, hI.f2, hI.f3, hI.f4, hI.f5, hI.f6, hI.f7, hI.f8, hI.f9, hI.f10, hI.f11, hI.f12, hI.f13, hI.f14, hI.f15, hI.f16, hI.f17, hI.f18, hI.f19, hI.f20, hI.f21, hI.f22, hI.f23, hI.f24, hI.f25, hI.f26, hI.f27, hI.f28, hI.f29, hI.f30, hI.f31, hI.f32, hI.f33, hI.f34, hI.f35, hI.f36, (fun _ => by cases u <;> rfl)⟩
      intro f w5 hI
      have eL := hI.f37 rfl
      have HN := Lib.hid (And.intro (HWB.out.1.trans (hI.G.mono HWB.out.1.size)) ((hI.G.block _ (Array.getElem?_eq_some_iff.1 HWB.out.2).1).trans HWB.out.2))
      clear hI
      simp only [Go.My.putL, Nat.zero_add, Nat.reduceAdd, eL, Act.put, List.setIfInBounds_toArray, List.set_cons_zero, List.set_cons_succ]
      generalize f 0 = y90 at *
      generalize f 1 = y91 at *
      generalize f 2 = y92 at *
      generalize f 3 = y93 at *
      generalize f 4 = y94 at *
      generalize f 5 = y95 at *
      generalize f 6 = y96 at *
      generalize f 7 = y97 at *
      generalize f 8 = y98 at *
      generalize f 9 = y99 at *
      generalize f 10 = y910 at *
      generalize f 11 = y911 at *
      generalize f 12 = y912 at *
      generalize f 13 = y913 at *
      generalize f 14 = y914 at *
      generalize f 15 = y915 at *
      generalize f 16 = y916 at *
      generalize f 17 = y917 at *
      generalize f 18 = y918 at *
      generalize f 19 = y919 at *
      generalize f 20 = y920 at *
      generalize f 21 = y921 at *
      generalize f 22 = y922 at *
      generalize f 23 = y923 at *
      generalize f 24 = y924 at *
      generalize f 25 = y925 at *
      generalize f 26 = y926 at *
      generalize f 27 = y927 at *
      generalize f 28 = y928 at *
      generalize f 29 = y929 at *
      generalize f 30 = y930 at *
      generalize f 31 = y931 at *
      generalize f 32 = y932 at *
      generalize f 33 = y933 at *
      generalize f 34 = y934 at *
      generalize f 35 = y935 at *
      generalize f 36 = y936 at *
      clear eL
      have hun : u = false → b1 = true := fun c => by have := HUV.out; rw [c] at this; cases b1; cases this; rfl
      have HUN := Lib.hid hun
      clear hun HWB CP RX RI RO RW RY c0 c1 c2 c3 c4 c5 c6 c7 HZ HZP HJN HGE HEQ HUV
      cases hr : (u || (z && ge)) with
      | true =>
        have HF := Lib.hid (show runB 0 (peers.map (peerF i)) = false from by rw [HT.out, hr]; rfl)
        go_wp2
        go_ret
        exact ⟨by rw [HV.out, HF.out]; rfl, HN.out.1⟩
      | false =>
        have HF := Lib.hid (show runB 0 (peers.map (peerF i)) = runB x.id ((peers.drop (j + 1)).map (peerF i)) from by rw [HT.out, hr]; rfl)
        have HP2 := Lib.hid (HP1.out (HUN.out (by cases u; rfl; cases hr)))
        go_wp2
        go_roundw
        case rel => exact ⟨j + 1, x.id, by omega, by go_num, HP2.out, (fun c => by omega), HN1.out, HF.out, HN.out⟩
        case measure => simp [intOf]; omega
end Go.Proofs.Ytkglgficmealnaa

/- Pure: what a device is found to be does not hang on where its lists lie. -/
namespace Go.Proofs.Ytkglgficmealnaa
open Go.RowKit Go.My Go.Lib
set_option linter.unusedVariables false

theorem heldsB_G (l : List HeldT) : heldsB (l.map heldG) = heldsB l := by
  unfold heldsB
  rw [List.all_map, List.map_map]
  rfl
theorem peerB_G (a : PeerT) : peerB (peerG a) = peerB a := by
  unfold peerB
  have h1 : (peerG a).L = a.L.map heldG := rfl
  rw [h1, heldsB_G, List.length_map]
  rfl
theorem devB_G (a : DevT) : devB (devG a) = devB a := by
  unfold devB
  have h1 : (devG a).peers = a.peers.map peerG := rfl
  have h2 : (peerF a.id ∘ peerG) = peerF a.id := funext fun x => by
    show (x.id, !decide (x.id = a.id) && peerB (peerG x)) = _
    rw [peerB_G]
    rfl
  rw [h1, List.map_map]
  show (_ && runB 0 (a.peers.map (peerF a.id ∘ peerG))) = _
  rw [h2]
  rfl
theorem peerW_G {a : PeerT} (h : peerW (peerG a)) : peerW a := by
  obtain ⟨h1, h2⟩ := h
  refine ⟨?_, fun x hx => h2 (heldG x) (List.mem_map.2 ⟨x, hx, rfl⟩)⟩
  have : (a.L.map heldG).length ≤ 1048576 := h1
  rwa [List.length_map] at this
theorem peerW_G' {a : PeerT} (h : peerW a) : peerW (peerG a) := by
  refine ⟨?_, fun x hx => ?_⟩
  · show (a.L.map heldG).length ≤ 1048576
    rw [List.length_map]
    exact h.1
  · obtain ⟨y, hy, rfl⟩ := List.mem_map.1 hx
    exact h.2 y hy
theorem devW_G {a : DevT} (h : devW (devG a)) : devW a := by
  obtain ⟨h1, h2, h3⟩ := h
  refine ⟨h1, ?_, fun x hx => peerW_G (h3 (peerG x) (List.mem_map.2 ⟨x, hx, rfl⟩))⟩
  have : (a.peers.map peerG).length ≤ 1048576 := h2
  rwa [List.length_map] at this
theorem devW_G' {a : DevT} (h : devW a) : devW (devG a) := by
  refine ⟨h.1, ?_, fun x hx => ?_⟩
  · show (a.peers.map peerG).length ≤ 1048576
    rw [List.length_map]
    exact h.2.1
  · obtain ⟨y, hy, rfl⟩ := List.mem_map.1 hx
    exact peerW_G' (h.2.2 y hy)
/-- An argument that the law does not pass over. -/
theorem devW_of {a : DevT} {w : World} (h : devA a w) (hm : devM a) : devW a := by
  refine ⟨hm.1, hm.2.1, fun x hx => ?_⟩
  have hp := peerM_of (hm.2.2 x hx)
  have ha := h.2.2.2.1 x hx
  refine ⟨hp.1, fun y hy => ?_⟩
  have hh := hp.2 y hy
  have hA := ha.2.1 y hy
  exact ⟨hh.2, hh.1, (by have := hA.2.2.2.1; unfold maxLen at this; omega), (by have := hA.2.2.2.2; unfold maxLen at this; omega)⟩
/-- A copy is found to be what the argument is. -/
theorem devB_same {a b : DevT} (h : devG b = devG a) : devB b = devB a := by rw [← devB_G b, h, devB_G a]
theorem devW_same {a b : DevT} (h : devG b = devG a) (hw : devW a) : devW b := devW_G (by rw [h]; exact devW_G' hw)
theorem devM_same {a b : DevT} (h : devG b = devG a) (hm : devM a) : devM b := by
  have h1 : b.ones = a.ones := by injection h
  have h2 : b.peers.map peerG = a.peers.map peerG := by injection h
  obtain ⟨m1, m2, m3⟩ := hm
  refine ⟨by rw [h1]; exact m1, ?_, fun x hx => ?_⟩
  · have := congrArg List.length h2
    rw [List.length_map, List.length_map] at this
    rw [this]
    exact m2
  · have hx2 : peerG x ∈ a.peers.map peerG := by rw [← h2]; exact List.mem_map.2 ⟨x, hx, rfl⟩
    obtain ⟨y, hy, e⟩ := List.mem_map.1 hx2
    rw [← e]
    exact m3 y hy
end Go.Proofs.Ytkglgficmealnaa

/- The exact laws' helpers for lists of numbers of 64 bits. -/
import Derived.Test.YtepefbfmjjnamaaRowB
import Derived.Test.YtepefbfmjjnamaaRowC
import Derived.Test.YtepefbfmjjnamaaMrgA
import Derived.Test.YtepefbfmjjnamaaMrgB
import Derived.Test.YtepefbfmjjnamaaRd
namespace Go.Proofs.Ytepefbfmjjnamaa
open Go.RowKit Go.My Go.Lib
set_option linter.unusedVariables false

def numC (a : Int) : List Value := [.int .i64 a]
theorem numC_len (a : Int) : (numC a).length = 1 := rfl
theorem rowl_num {B e g cap n : Nat} {l : List Int} {w : World} (h : RowL B e 1 numC (.slice (some ⟨g, 0, none⟩) n cap) l w) (i : Nat) (hi : i < l.length) : w.cell? ⟨g, i, none⟩ = some (.int .i64 l[i]) := by
  have := h.cell numC_len i hi 0 (by omega) (.int .i64 l[i]) rfl
  simpa using this
theorem rowl_putNum {B e g cap n : Nat} {l : List Int} {w : World} (h : RowL B e 1 numC (.slice (some ⟨g, 0, none⟩) n cap) l w) (i : Nat) (hi : i < l.length) (b : Int) : RowL B e 1 numC (.slice (some ⟨g, 0, none⟩) n cap) (l.set i b) (w.setCell ⟨g, i, none⟩ (.int .i64 b)) := by
  have := h.set numC_len i hi 0 (by omega) (.int .i64 b) b rfl
  simpa using this
theorem info_I64 : (Try.prog.info? 2).map (fun i => (i.zero, i.size, i.bytes)) = some (some (.int .i64 0), 1, 8) := by kernel_rfl

set_option maxHeartbeats 1000000 in
theorem toInt64S_any (v : Value) (l : List Int) (w : World) (h : ArgL 1 numC v l w) (hl : l.length ≤ 1048576) : Calls Try.prog 44 #[v] w fun e w' => ∃ v', e = .returned v' ∧ RowL w.heap.size 2 1 numC v' l w' ∧ Below w.heap.size w w' := by
  obtain ⟨i0, hi, hz0, hz1, hz2⟩ := info_parts info_I64
  have H := Lib.hid h
  obtain ⟨p, cap, rfl, hlc, hcm, hp⟩ := h
  have hlI : (l.length : Int) ≤ 1048576 := by omega
  have hl0 : (0 : Int) ≤ (l.length : Int) := by omega
  clear hcm hlc
  go_enter Try.func44, Try.ntmps44
  go_wp2_with (at_make; refine wpList_make_full _ rfl _ _ 30 rfl w.heap.size 2 i0 (.int .i64 0) 1 Try.underlying30 hi hz0 hz1 .i64 .i64 _ _ l.length rfl rfl rfl rfl ?c2 ?c3 ?c4 ?_)
  case c2 => rw [hz2]; omega
  case c3 => unfold maxLen; omega
  case c4 => exact Nat.le_refl _
  intro w1 hown hgrow
  have hb1 : Below w.heap.size w w1 := (Below.refl _ _).grown hgrow (Nat.le_refl _) (by simp)
  clear hgrow
  obtain ⟨Z, hZ⟩ : ∃ Z, Z = List.replicate l.length (0 : Int) := ⟨_, rfl⟩
  have hZl : Z.length = l.length := by rw [hZ, List.length_replicate]
  have hR0 : RowL w.heap.size 2 1 numC (.slice (some ⟨w.heap.size, 0, none⟩) l.length l.length) (l.take 0 ++ Z.drop 0) w1 := by
    have e := made_flat #[.int .i64 0] numC 0 l.length rfl
    rw [show l.length * (#[Value.int .i64 0] : Array Value).size = l.length from Nat.mul_one _] at e
    unfold RowL
    rw [List.take_zero, List.nil_append, List.drop_zero, hZl, hZ, ← e]
    exact hown
  have HZ := Lib.hid hZl
  clear hown hZ hZl
  go_wp2
  go_loopw [4] (fun i wr => ∃ j : Nat, j ≤ l.length ∧ i = .int .i64 j ∧ RowL w.heap.size 2 1 numC (.slice (some ⟨w.heap.size, 0, none⟩) l.length l.length) (l.take j ++ Z.drop j) wr ∧ Below w.heap.size w wr) (fun i _ => l.length - (RowKit.intOf i).toNat)
  case atStart => exact ⟨0, Nat.zero_le _, rfl, hR0, hb1⟩
  case round =>
    clear hR0 hb1
    obtain ⟨j, hj, rfl, hR, hB⟩ := hrel
    by_cases hlt : j < l.length
    · have hne : l ≠ [] := by intro c; rw [c] at hlt; simp at hlt
      obtain ⟨b, o, rfl, hbl, hc⟩ := hp.resolve_left hne
      have j0 : (0 : Int) ≤ (j : Int) := by omega
      have j1 : (j : Int) < (l.length : Int) := by omega
      have hln := tkp_len HZ.out j hj
      have hps := tkp_put HZ.out j hlt
      have a0 := (hB.cell (p := ⟨b, o + (j * 1 + 0), none⟩) hbl).trans (hc j hlt 0 (.int .i64 l[j]) rfl)
      rw [show o + (j * 1 + 0) = o + j from by omega] at a0
      have PW := Lib.hid (rowl_putNum hR j (by rw [hln]; exact hlt) l[j])
      rw [hps] at PW
      have z0 := hR.frozen j
      have c0 := rowl_num hR j (by rw [hln]; exact hlt)
      generalize (l.take j ++ Z.drop j)[j]'(by rw [hln]; exact hlt) = y0 at *
      generalize l[j] = x at *
      have HB2 := Lib.hid hB
      clear hR hc hln hps hne hp hB
      go_wp2
      go_roundw
      case rel => exact ⟨j + 1, by omega, by go_num, PW.out, HB2.out.setCell (p := ⟨w.heap.size, j, none⟩) (Nat.le_refl _) _⟩
      case measure => simp [RowKit.intOf]; omega
    · obtain rfl : j = l.length := by omega
      rw [List.take_length, List.drop_eq_nil_of_le (by rw [HZ.out]; exact Nat.le_refl _), List.append_nil] at hR
      go_wp2
      go_ret
      exact ⟨_, rfl, hR, hB⟩

set_option maxHeartbeats 1000000 in
theorem eqInt64S_same (v1 v2 : Value) (l : List Int) (w : World) (h1 : RowL 0 2 1 numC v1 l w) (h2 : RowL 0 2 1 numC v2 l w) (hl : l.length ≤ 4611686018427387904) :
    Calls Try.prog 45 #[v1, v2] w fun e w' => e = .returned (.bool true) ∧ Below w.heap.size w w' := by
  obtain ⟨p1, cap1, rfl, hm1, _, hp1⟩ := h1.open
  obtain ⟨p2, cap2, rfl, hm2, _, hp2⟩ := h2.open
  have H1 := Lib.hid h1
  have H2 := Lib.hid h2
  have hlI : (l.length : Int) ≤ 4611686018427387904 := by omega
  clear h1 h2 hm1 hm2
  go_enter Try.func45, Try.ntmps45
  go_wp2
  go_loopw [5] (fun i wr => ∃ j : Nat, j ≤ l.length ∧ i = .int .i64 j ∧ Below w.heap.size w wr) (fun i _ => l.length - (RowKit.intOf i).toNat)
  case atStart => exact ⟨0, Nat.zero_le _, rfl, Below.refl _ _⟩
  case round =>
    obtain ⟨j, hj, rfl, hb⟩ := hrel
    by_cases hlt : j < l.length
    · have hne : l ≠ [] := by intro c; rw [c] at hlt; simp at hlt
      obtain ⟨g1, rfl, _, hg1⟩ := hp1.resolve_left (fun c => hne c.1)
      obtain ⟨g2, rfl, _, hg2⟩ := hp2.resolve_left (fun c => hne c.1)
      have j0 : (0 : Int) ≤ (j : Int) := by omega
      have j1 : (j : Int) < (l.length : Int) := by omega
      have c1 := rowl_num (H1.out.below hb) j hlt
      have c2 := rowl_num (H2.out.below hb) j hlt
      generalize l[j] = s at *
      go_wp2
      go_region
      all_goals
        go_wp2
        go_roundw
        case rel => exact ⟨j + 1, by omega, by go_num, hb.drew⟩
        case measure => simp [RowKit.intOf]; omega
    · obtain rfl : j = l.length := by omega
      go_wp2
      go_ret
      exact ⟨rfl, hb⟩

set_option maxHeartbeats 1000000 in
/-- 'markInt64S' writes into the list and answers the next mark. -/
theorem markInt64S_any (v : Value) (l : List Int) (k : Nat) (w : World) (h : RowL 0 2 1 numC v l w) (hl : k + l.length ≤ 4611686018427387904) :
    Calls Try.prog 46 #[v, .int .i64 k] w fun e w' => e = .returned (.int .i64 ((k + l.length : Nat) : Int)) ∧ w.grownBy w' v.ownBlock := by
  obtain ⟨p, cap, rfl, hm, _, hp⟩ := h.open
  have H := Lib.hid h
  have hlI : (k : Int) + (l.length : Int) ≤ 4611686018427387904 := by omega
  clear h hm
  go_enter Try.func46, Try.ntmps46
  go_wp2
  go_loopw [1, 5] (fun q i wr => ∃ (j : Nat) (m : List Int), j ≤ l.length ∧ m.length = l.length ∧ i = .int .i64 j ∧ q = .int .i64 ((k + j : Nat) : Int) ∧ RowL 0 2 1 numC (.slice p l.length cap) m wr ∧ w.grownBy wr (Value.slice p l.length cap).ownBlock) (fun _ i _ => l.length - (RowKit.intOf i).toNat)
  case atStart => exact ⟨0, l, Nat.zero_le _, rfl, rfl, rfl, H.out, grw_refl _ _⟩
  case round =>
    obtain ⟨j, m, hj, hml, rfl, rfl, hR, hG⟩ := hrel
    by_cases hlt : j < l.length
    · have hne : l ≠ [] := by intro c; rw [c] at hlt; simp at hlt
      obtain ⟨g, rfl, _, hg⟩ := hp.resolve_left (fun c => hne c.1)
      have j0 : (0 : Int) ≤ (j : Int) := by omega
      have j1 : (j : Int) < (l.length : Int) := by omega
      have hjm : j < m.length := by omega
      have e1 : ((k + j : Nat) : Int) = (k : Int) + (j : Int) := by omega
      have PW := Lib.hid (rowl_putNum hR j hjm ((k + j : Nat) : Int))
      have ML := Lib.hid (show (m.set j ((k + j : Nat) : Int)).length = l.length by rw [List.length_set]; exact hml)
      have hfz := hR.frozen j
      have hce := rowl_num hR j hjm
      generalize m[j] = s0 at *
      have GW := Lib.hid (grw_set (show w.grownBy wr (some g) from hG) j (.int .i64 ((k + j : Nat) : Int)))
      clear hR hG hml hjm hne hp hg
      go_wp2
      go_roundw
      case rel => exact ⟨j + 1, _, by omega, ML.out, by go_num, by go_num, PW.out, GW.out⟩
      case measure => simp [RowKit.intOf]; omega
    · obtain rfl : j = l.length := by omega
      go_wp2
      go_ret
      exact ⟨rfl, hG⟩

end Go.Proofs.Ytepefbfmjjnamaa

/- The program: a loss of power. -/
namespace Go.Proofs.Ytepefbfmjjnamaa
open Go.RowKit Go.My Go.Lib
set_option linter.unusedVariables false

set_option maxRecDepth 20000 in
set_option maxHeartbeats 2000000 in
theorem indexesOk_i (v : Value) (keep : List Int) (n : Nat) (w : World) (h : RowL 0 2 1 numC v keep w) (hl : keep.length ≤ 1048576) (hn : n ≤ 1048576) :
    Calls Try.prog 100 #[v, .int .i64 (n : Int)] w fun e w' => e = .returned (.bool (idxB (-1) keep n)) ∧ Below w.heap.size w w' := by
  obtain ⟨p, cap, rfl, hm, _, hp⟩ := h.open
  have H := Lib.hid h
  have hlI : (keep.length : Int) ≤ 1048576 := by omega
  clear h hm
  go_enter Try.func100, Try.ntmps100
  go_wp2
  go_loopw [5, 10] (fun q i wr => ∃ j : Nat, j ≤ keep.length ∧ i = .int .i64 j ∧ q = .int .i64 (lastAt keep j) ∧ (∀ i, i < j → lastAt keep i < keep.getD i 0 ∧ keep.getD i 0 < (n : Int)) ∧ Below w.heap.size w wr) (fun _ i _ => keep.length - (RowKit.intOf i).toNat)
  case atStart => exact ⟨0, Nat.zero_le _, rfl, rfl, fun i hi => by omega, Below.refl _ _⟩
  case round =>
    obtain ⟨j, hj, rfl, rfl, hall, hB⟩ := hrel
    by_cases hlt : j < keep.length
    · have hne : keep ≠ [] := by intro c; rw [c] at hlt; simp at hlt
      obtain ⟨g, rfl, _, hg⟩ := hp.resolve_left (fun c => hne c.1)
      have j0 : (0 : Int) ≤ (j : Int) := by omega
      have j1 : (j : Int) < (keep.length : Int) := by omega
      have c0 := rowl_num (H.out.below hB) j hlt
      have HG : Hid (keep.getD j 0 = keep[j]) := by show _ = _; rw [List.getD_eq_getElem?_getD, List.getElem?_eq_getElem hlt]; rfl
      have HALL := Lib.hid hall
      have HBAD := Lib.hid (fun h => idx_bad (n := n) hlt h)
      have HNX : Hid (lastAt keep (j + 1) = keep[j]) := HG.out
      rw [HG.out] at HBAD
      clear hall hne hp hg
      obtain ⟨x, hx⟩ : ∃ x, keep[j] = x := ⟨_, rfl⟩
      obtain ⟨y, hy⟩ : ∃ y, lastAt keep j = y := ⟨_, rfl⟩
      rw [hx] at HG HBAD HNX c0
      rw [hy] at HBAD ⊢
      have HY := Lib.hid hy
      clear hx hy
      by_cases q1 : x ≤ y
      · have HR := Lib.hid (HBAD.out (by omega))
        go_wp2
        go_ret
        exact ⟨by rw [HR.out]; rfl, hB⟩
      by_cases q2 : x ≥ (n : Int)
      · have HR := Lib.hid (HBAD.out (by omega))
        go_wp2
        go_ret
        exact ⟨by rw [HR.out]; rfl, hB⟩
      have HQ : Hid (y < x ∧ x < (n : Int)) := ⟨by omega, by omega⟩
      go_wp2
      go_roundw
      case rel =>
        refine ⟨j + 1, by omega, by go_num, by rw [HNX.out], fun i hi => ?_, hB⟩
        by_cases c : i = j
        · subst c; rw [HG.out, HY.out]; exact HQ.out
        · exact HALL.out i (by omega)
      case measure => simp [RowKit.intOf]; omega
    · obtain rfl : j = keep.length := by omega
      have HR := Lib.hid ((idx_all keep n).2 hall)
      go_wp2
      go_ret
      exact ⟨by rw [HR.out]; rfl, hB⟩

theorem keptO_in {d : DiskT} {keep : List Int} {T j q : Nat} (hk : keep.getD j 0 = (q : Int)) (hq : q < d.ops.length) : keptO d.ops keep T j = if j + 1 = keep.length then tearO T d.ops[q] else d.ops[q] := by
  unfold keptO
  rw [hk, show ((q : Int)).toNat = q from rfl]
  have e : d.ops.getD q dOpZ = d.ops[q] := by rw [List.getD_eq_getElem?_getD, List.getElem?_eq_getElem hq]; rfl
  rw [e]

set_option maxRecDepth 20000 in
set_option maxHeartbeats 4000000 in
theorem crash_i (dv : Nat) (v1 v2 v3 vk : Value) (d : DiskT) (keep : List Int) (torn : Int) (w : World) (hdv : w.heap[dv]? = some (.cells #[v1, v2, v3] 79 (0, 0))) (h : DiskAt 0 v1 v2 v3 d w) (hd : d.fit) (hk : diskB d = true) (hK : RowL 0 2 1 numC vk keep w) (hlen : keep.length ≤ 1048576) :
    Calls Try.prog 59 #[.pointer (some ⟨dv, 0, none⟩), vk, .int .i64 torn] w fun e w' => e = .returned (.bool (crB d keep torn)) ∧ (crB d keep torn = true → ∃ u, w'.heap[dv]? = some (.cells #[u, u, .slice none 0 0] 79 (0, 0)) ∧ FilesAt 0 u (crL d keep torn.toNat keep.length) w') ∧ w.grownBy w' (some dv) := by
  have HC : Hid (crB d keep torn = (true && decide (0 ≤ torn) && idxB (-1) keep d.ops.length && filesB (crL d keep torn.toNat keep.length))) := by show _ = _; unfold crB; rw [hk]
  have h200 := diskB_ops hk
  have hfs : filesB d.safe = true := by
    unfold diskB at hk
    simp only [Bool.and_eq_true, decide_eq_true_eq] at hk
    exact hk.1.1.2
  have CX := Lib.hid (fun W (hW : Below w.heap.size w W) => indexesOk_i vk keep d.ops.length W (hK.below hW) hlen (by omega))
  have H := Lib.hid (And.intro hdv (And.intro h (And.intro hd hK)))
  have hoI : (d.ops.length : Int) ≤ 200 := by omega
  have hkI : (keep.length : Int) ≤ 1048576 := by omega
  have hdlt : dv < w.heap.size := (Array.getElem?_eq_some_iff.1 hdv).1
  obtain ⟨p1, m1, rfl, _, _, _⟩ := h.live.open
  obtain ⟨p2, m2, rfl, _, _, _⟩ := h.safe.open
  obtain ⟨p3, m3, rfl, _, _, hp3⟩ := h.ops.open
  obtain ⟨pk, mk, rfl, _, _, hpk⟩ := hK.open
  obtain ⟨⟨d0, d1, d2⟩, _⟩ := dk_cells hdv
  clear hdv h hK
  by_cases ht : torn < 0
  · have HR : Hid (crB d keep torn = false) := by show _ = _; rw [HC.out, decide_eq_false (by omega)]; rfl
    clear hk HC CX hd
    go_enter Try.func59, Try.ntmps59
    go_wp2
    go_ret
    exact ⟨by rw [HR.out]; rfl, fun c => (by rw [HR.out] at c; cases c), grw_refl _ _⟩
  obtain ⟨T, rfl⟩ : ∃ T : Nat, torn = (T : Int) := ⟨torn.toNat, by omega⟩
  rw [decide_eq_true (by omega), show ((T : Int)).toNat = T from rfl] at HC
  have HM := Lib.hid (mid_all hd hfs keep T)
  have HKS := Lib.hid (kept_small hd keep T)
  have HKN := Lib.hid (fun h j hj => keep_nat (keep := keep) (n := d.ops.length) h (j := j) hj)
  have HKI := Lib.hid (fun j q hk hq => keptO_in (d := d) (keep := keep) (T := T) (j := j) (q := q) hk hq)
  have HK2 := Lib.hid (fun h => keep_len (keep := keep) (n := d.ops.length) h)
  obtain ⟨I, hI⟩ : ∃ I, idxB (-1) keep d.ops.length = I := ⟨_, rfl⟩
  rw [hI] at HC CX HKN HK2
  show Calls _ _ _ _ (fun e w' => e = .returned (.bool (crB d keep (T : Int))) ∧ (crB d keep (T : Int) = true → ∃ u, w'.heap[dv]? = some (.cells #[u, u, .slice none 0 0] 79 (0, 0)) ∧ FilesAt 0 u (crL d keep T keep.length) w') ∧ w.grownBy w' (some dv))
  generalize crB d keep (T : Int) = R at HC ⊢
  clear hk hd hI
  go_enter Try.func59, Try.ntmps59
  go_wp2_with fail
  refine (CX.out _ (Below.refl _ _)).mono ?_
  rintro e w1 ⟨rfl, hB1⟩
  have HB1 := Lib.hid hB1
  cases I with
  | false =>
    have HR : Hid (R = false) := by show _ = _; rw [HC.out]; rfl
    clear hB1 d0 d1 d2
    go_wp2
    go_ret
    exact ⟨by rw [HR.out]; rfl, fun c => (by rw [HR.out] at c; cases c), grw_of_below HB1.out _⟩
  | true =>
    have HR : Hid (R = filesB (crL d keep T keep.length)) := HC.out
    have HKS2 : Hid (keep.length ≤ 200) := Nat.le_trans (HK2.out (by simp)) h200
    clear HC CX d0 d1 d2
    obtain ⟨⟨d0, d1, d2⟩, _⟩ := dk_cells ((hB1.block dv hdlt).trans H.out.1)
    clear hB1
    go_upto_region 5 with (fail)
    clear d0 d1 d2
    go_loopw [7, 29] (fun f i wr => ∃ j : Nat, j ≤ keep.length ∧ i = .int .i64 j ∧ FilesAt 0 f (crL d keep T j) wr ∧ Below w.heap.size w wr) (fun _ i _ => keep.length - (RowKit.intOf i).toNat)
    case atStart => exact ⟨0, Nat.zero_le _, rfl, H.out.2.1.safe.below HB1.out, HB1.out⟩
    case round =>
      obtain ⟨j, hj, rfl, hF, hB⟩ := hrel
      have HMJ := Lib.hid (HM.out j)
      have HF := Lib.hid hF
      have HB := Lib.hid hB
      obtain ⟨pf, cf, rfl, _⟩ := hF.open
      obtain ⟨⟨d0, d1, d2⟩, _⟩ := dk_cells ((hB.block dv hdlt).trans H.out.1)
      by_cases hlt : j < keep.length
      · have hne : keep ≠ [] := by intro c; rw [c] at hlt; simp at hlt
        obtain ⟨gk, rfl, _, hgk⟩ := hpk.resolve_left (fun c => hne c.1)
        have j0 : (0 : Int) ≤ (j : Int) := by omega
        have j1 : (j : Int) < (keep.length : Int) := by omega
        obtain ⟨q, hq, hqn⟩ := HKN.out (by simp) j hlt
        have ck := rowl_num (H.out.2.2.2.below hB) j hlt
        have hG : keep[j] = (q : Int) := by rw [← hq, List.getD_eq_getElem?_getD, List.getElem?_eq_getElem hlt]; rfl
        rw [hG] at ck
        have hne2 : d.ops ≠ [] := by intro c; rw [c] at hqn; simp at hqn
        obtain ⟨go, rfl, _, hgo⟩ := hp3.resolve_left (fun c => hne2 (by first | exact c.1 | exact c))
        have q0 : (0 : Int) ≤ (q : Int) := by omega
        have q1 : (q : Int) < (d.ops.length : Int) := by omega
        obtain ⟨x, hx⟩ : ∃ x, d.ops[q] = x := ⟨_, rfl⟩
        have hA := H.out.2.1.ops.below hB
        have c0 : wr.cell? ⟨go, q * 4, none⟩ = some (.int .i64 x.1) := hA.at dOpC_len hqn hx 0 (by omega) rfl
        have c1 : wr.cell? ⟨go, q * 4 + 1, none⟩ = some (.string x.2.1) := hA.at dOpC_len hqn hx 1 (by omega) rfl
        have c2 : wr.cell? ⟨go, q * 4 + 2, none⟩ = some (.string x.2.2.1) := hA.at dOpC_len hqn hx 2 (by omega) rfl
        have c3 : wr.cell? ⟨go, q * 4 + 3, none⟩ = some (.string x.2.2.2) := hA.at dOpC_len hqn hx 3 (by omega) rfl
        have HO := Lib.hid (HKI.out j q hq hqn)
        rw [hx] at HO
        have HJ := Lib.hid hlt
        have HLEN := Lib.hid (Nat.le_of_lt (Nat.lt_of_lt_of_le hlt HKS2.out))
        have hxs : (x.2.2.2.size : Int) ≤ 1048576 := by have := (H.out.2.2.1.ops _ (List.getElem_mem hqn)).2.2.2; rw [hx] at this; omega
        clear hA hG hne hne2 hgk hgo hx hF hB hpk hp3 hq
        go_upto_region 8 with (fail)
        have HCL : Hid ((crL d keep T j).length ≤ 1048576) := by have := HMJ.out.len; have := HLEN.out; show _ ≤ _; omega
        have HDS : Hid ((dataOf (crL d keep T j) x.2.1).size ≤ 1099511627776) := by
          have h1 := dataOf_le (crL d keep T j) x.2.1
          have h2 := HMJ.out.sum
          have h3 := HLEN.out
          have h4 : j * 1048576 ≤ 200 * 1048576 := Nat.mul_le_mul_right _ (by omega)
          show _ ≤ _
          omega
        by_cases hl : j + 1 = keep.length
        · have e1 : (j : Int) = (keep.length : Int) - 1 := by omega
          have e2 : ((j : Int) == (keep.length : Int) - 1) = true := by simpa using e1
          rw [if_pos hl] at HO
          go_upto_region 9 with (fail)
          clear e1 e2
          go_upto_region 10 with (fail)
          have hm : (min (T : Int) (x.2.2.2.size : Int)).toNat = min T x.2.2.2.size := by omega
          have HO : Hid (keptO d.ops keep T j = (x.1, x.2.1, x.2.2.1, x.2.2.2.extract 0 (min (T : Int) (x.2.2.2.size : Int)).toNat)) := by show _ = _; rw [HO.out, hm]; rfl
          have HBS : Hid ((x.2.2.2.extract 0 (min (T : Int) (x.2.2.2.size : Int)).toNat).size ≤ 1099511627776) := by show _ ≤ _; rw [ByteArray.size_extract]; omega
          clear hm
          generalize x.2.2.2.extract 0 (min (T : Int) (x.2.2.2.size : Int)).toNat = b at HO HBS ⊢
          have b0 : Below wr.heap.size wr (wr.alloc (.cells #[.int .i64 x.1, .string x.2.1, .string x.2.2.1, .string b] 36)) := (Below.refl _ _).alloc (Nat.le_refl _) _
          have e5 := heap_alloc_new wr (.cells #[.int .i64 x.1, .string x.2.1, .string x.2.2.1, .string b] 36)
          have HF5 := Lib.hid (HF.out.below b0)
          have HB5 := Lib.hid (HB.out.trans (b0.mono HB.out.size))
          have CF := Lib.hid (finds_i (.slice pf (crL d keep T j).length cf) (crL d keep T j) x.1 x.2.1 x.2.2.1 b _ HF5.out HCL.out HMJ.out.srt)
          generalize wr.alloc (.cells #[.int .i64 x.1, .string x.2.1, .string x.2.2.1, .string b] 36) = W5 at e5 HF5 HB5 CF ⊢
          have HE5 := Lib.hid e5
          obtain ⟨⟨o0, o1, o2, o3⟩, _⟩ := dop_cells e5
          clear b0 e5 c0 c1 c2 c3 ck
          go_wp2_with fail
          refine CF.out.mono ?_
          rintro e w6 ⟨rfl, hb6⟩
          have HF6 := Lib.hid (HF5.out.below hb6)
          have HB6 := Lib.hid (HB5.out.trans (hb6.mono HB5.out.size))
          obtain ⟨⟨q0', q1', q2', q3'⟩, _⟩ := dop_cells ((hb6.block _ (Array.getElem?_eq_some_iff.1 HE5.out).1).trans HE5.out)
          have HNX : Hid (crL d keep T (j + 1) = crF (crL d keep T j) (x.1, x.2.1, x.2.2.1, b)) := by show crF (crL d keep T j) (keptO d.ops keep T j) = _; rw [HO.out]
          clear hb6 o0 o1 o2 o3 CF
          cases hfb : findB (crL d keep T j) (x.1, x.2.1, x.2.2.1, b) with
          | true =>
            have HN2 : Hid (crL d keep T (j + 1) = aftL (crL d keep T j) (x.1, x.2.1, x.2.2.1, b)) := by show _ = _; rw [HNX.out]; unfold crF; rw [if_pos hfb]
            have CA := Lib.hid (after_i (.slice pf (crL d keep T j).length cf) (crL d keep T j) x.1 x.2.1 x.2.2.1 b w6 HF6.out HCL.out HMJ.out.srt HBS.out HDS.out)
            clear hfb
            go_wp2_with fail
            refine CA.out.mono ?_
            rintro e w7 ⟨u, rfl, hu, hb7⟩
            obtain ⟨pu, cu, rfl, _⟩ := hu.open
            have HU := Lib.hid (hu.mono (Nat.zero_le _))
            have HB7 := Lib.hid (HB6.out.trans (hb7.mono HB6.out.size))
            clear hu hb7 CA q0' q1' q2' q3'
            go_wp2
            go_roundw
            case rel => exact ⟨j + 1, HJ.out, by go_num, by rw [HN2.out]; exact HU.out, HB7.out⟩
            case measure => have := HJ.out; simp [RowKit.intOf]; omega
          | false =>
            have HN2 : Hid (crL d keep T (j + 1) = crL d keep T j) := by show _ = _; rw [HNX.out]; unfold crF; rw [if_neg (by rw [hfb]; decide)]
            clear hfb
            go_wp2
            go_roundw
            case rel => exact ⟨j + 1, HJ.out, by go_num, by rw [HN2.out]; exact HF6.out, HB6.out⟩
            case measure => have := HJ.out; simp [RowKit.intOf]; omega
        · have e1 : ¬ (j : Int) = (keep.length : Int) - 1 := by omega
          have e2 : ((j : Int) == (keep.length : Int) - 1) = false := by simpa using e1
          rw [if_neg hl] at HO
          go_upto_region 10 with (fail)
          clear e1 e2
          have HO : Hid (keptO d.ops keep T j = (x.1, x.2.1, x.2.2.1, x.2.2.2)) := HO.out
          have HBS : Hid (x.2.2.2.size ≤ 1099511627776) := by show _ ≤ _; omega
          have b0 : Below wr.heap.size wr (wr.alloc (.cells #[.int .i64 x.1, .string x.2.1, .string x.2.2.1, .string x.2.2.2] 36)) := (Below.refl _ _).alloc (Nat.le_refl _) _
          have e5 := heap_alloc_new wr (.cells #[.int .i64 x.1, .string x.2.1, .string x.2.2.1, .string x.2.2.2] 36)
          have HF5 := Lib.hid (HF.out.below b0)
          have HB5 := Lib.hid (HB.out.trans (b0.mono HB.out.size))
          have CF := Lib.hid (finds_i (.slice pf (crL d keep T j).length cf) (crL d keep T j) x.1 x.2.1 x.2.2.1 x.2.2.2 _ HF5.out HCL.out HMJ.out.srt)
          generalize wr.alloc (.cells #[.int .i64 x.1, .string x.2.1, .string x.2.2.1, .string x.2.2.2] 36) = W5 at e5 HF5 HB5 CF ⊢
          have HE5 := Lib.hid e5
          obtain ⟨⟨o0, o1, o2, o3⟩, _⟩ := dop_cells e5
          clear b0 e5 c0 c1 c2 c3 ck
          go_wp2_with fail
          refine CF.out.mono ?_
          rintro e w6 ⟨rfl, hb6⟩
          have HF6 := Lib.hid (HF5.out.below hb6)
          have HB6 := Lib.hid (HB5.out.trans (hb6.mono HB5.out.size))
          obtain ⟨⟨q0', q1', q2', q3'⟩, _⟩ := dop_cells ((hb6.block _ (Array.getElem?_eq_some_iff.1 HE5.out).1).trans HE5.out)
          have HNX : Hid (crL d keep T (j + 1) = crF (crL d keep T j) (x.1, x.2.1, x.2.2.1, x.2.2.2)) := by show crF (crL d keep T j) (keptO d.ops keep T j) = _; rw [HO.out]
          clear hb6 o0 o1 o2 o3 CF
          cases hfb : findB (crL d keep T j) (x.1, x.2.1, x.2.2.1, x.2.2.2) with
          | true =>
            have HN2 : Hid (crL d keep T (j + 1) = aftL (crL d keep T j) (x.1, x.2.1, x.2.2.1, x.2.2.2)) := by show _ = _; rw [HNX.out]; unfold crF; rw [if_pos hfb]
            have CA := Lib.hid (after_i (.slice pf (crL d keep T j).length cf) (crL d keep T j) x.1 x.2.1 x.2.2.1 x.2.2.2 w6 HF6.out HCL.out HMJ.out.srt HBS.out HDS.out)
            clear hfb
            go_wp2_with fail
            refine CA.out.mono ?_
            rintro e w7 ⟨u, rfl, hu, hb7⟩
            obtain ⟨pu, cu, rfl, _⟩ := hu.open
            have HU := Lib.hid (hu.mono (Nat.zero_le _))
            have HB7 := Lib.hid (HB6.out.trans (hb7.mono HB6.out.size))
            clear hu hb7 CA q0' q1' q2' q3'
            go_wp2
            go_roundw
            case rel => exact ⟨j + 1, HJ.out, by go_num, by rw [HN2.out]; exact HU.out, HB7.out⟩
            case measure => have := HJ.out; simp [RowKit.intOf]; omega
          | false =>
            have HN2 : Hid (crL d keep T (j + 1) = crL d keep T j) := by show _ = _; rw [HNX.out]; unfold crF; rw [if_neg (by rw [hfb]; decide)]
            clear hfb
            go_wp2
            go_roundw
            case rel => exact ⟨j + 1, HJ.out, by go_num, by rw [HN2.out]; exact HF6.out, HB6.out⟩
            case measure => have := HJ.out; simp [RowKit.intOf]; omega
      · obtain rfl : j = keep.length := by omega
        have HCL : Hid ((crL d keep T keep.length).length ≤ 1048576) := by have := HMJ.out.len; have := HKS2.out; show _ ≤ _; omega
        have CO := Lib.hid (ok_i (.slice pf (crL d keep T keep.length).length cf) (crL d keep T keep.length) wr HF.out HCL.out (by have := HMJ.out.sum; have := HKS2.out; have h4 : keep.length * 1048576 ≤ 200 * 1048576 := Nat.mul_le_mul_right _ (by omega); omega) (fun a ha => by have := HMJ.out.nam a ha; omega))
        generalize hFF : crL d keep T keep.length = F at CO HF HR ⊢
        have HFF := Lib.hid hFF
        clear hF hB hFF
        go_wp2_with fail
        refine CO.out.mono ?_
        rintro e w3 ⟨rfl, hb3⟩
        have HF3 := Lib.hid (HF.out.below hb3)
        have HB3 := Lib.hid (HB.out.trans (hb3.mono HB.out.size))
        clear hb3 CO d0 d1 d2
        obtain ⟨⟨d0, d1, d2⟩, df⟩ := dk_cells ((HB3.out.block dv hdlt).trans H.out.1)
        have df0 := df 0
        have df1 := df 1
        have df2 := df 2
        clear df
        cases hfo : filesB F with
        | false =>
          rw [hfo] at HR
          clear hfo
          go_wp2
          go_ret
          exact ⟨by rw [HR.out]; rfl, fun c => (by rw [HR.out] at c; cases c), grw_of_below HB3.out _⟩
        | true =>
          rw [hfo] at HR
          clear hfo
          have HXD := Lib.hid ((HB3.out.block dv hdlt).trans H.out.1)
          go_wp2
          go_ret
          have gz := grw_set3 w3 dv (.slice pf F.length cf) (.slice pf F.length cf) (.slice none 0 0)
          exact ⟨by rw [HR.out]; rfl, fun _ => ⟨_, set3 HXD.out _ _ _, by rw [HFF.out]; exact RowL.kept HF3.out gz (rowK HF3.out HXD.out (by decide))⟩, grw_trans (grw_of_below HB3.out _) gz⟩

end Go.Proofs.Ytepefbfmjjnamaa

/- The program: Crash. -/
namespace Go.Proofs.Ytepefbfmjjnamaa
open Go.RowKit Go.My Go.Lib
set_option linter.unusedVariables false

theorem crB_no {d : DiskT} {keep : List Int} {torn : Int} (h : diskB d = false) : crB d keep torn = false := by unfold crB; rw [h]; rfl
theorem crB_files {d : DiskT} {keep : List Int} {torn : Int} (h : crB d keep torn = true) : filesB (crL d keep torn.toNat keep.length) = true := by
  unfold crB at h
  rw [Bool.and_eq_true] at h
  exact h.2
theorem crD_small {d : DiskT} {keep : List Int} {torn : Int} : (crD d keep torn).small := by
  cases c : crB d keep torn with
  | false => rw [crD_no c]; exact ⟨by simp, by simp, by simp⟩
  | true =>
    rw [crD_yes c]
    have := (filesB_of (crB_files c)).len
    exact ⟨by show (crL _ _ _ _).length ≤ _; omega, by show (crL _ _ _ _).length ≤ _; omega, by simp⟩

set_option maxRecDepth 20000 in
set_option maxHeartbeats 4000000 in
theorem crD_in (v1 v2 v3 vk : Value) (d : DiskT) (keep : List Int) (torn : Int) (w : World) (h : DiskIn v1 v2 v3 d w) (hd : d.fit) (hK : RowL 0 2 1 numC vk keep w) (hlen : keep.length ≤ 1048576) :
    Calls Try.prog 19 #[.agg #[v1, v2, v3], vk, .int .i64 torn] w fun e w' => ∃ u1 u2 u3, e = .returned (.tuple #[.agg #[u1, u2, u3], .bool (crB d keep torn)]) ∧ DiskAt w.heap.size u1 u2 u3 (crD d keep torn) w' ∧ ApartV u1 u2 ∧ Below w.heap.size w w' := by
  have C := Lib.hid (fun W (hW : Below w.heap.size w W) => driveOf_in v1 v2 v3 d W (h.below hW) hd)
  have HL := Lib.hid (And.intro hd hlen)
  have HSM := Lib.hid (crD_small (d := d) (keep := keep) (torn := torn))
  have HSF := Lib.hid (And.intro h.safe hK)
  have hno := fun hk => crB_no (d := d) (keep := keep) (torn := torn) hk
  obtain ⟨p1, m1, rfl, _, _, _⟩ := h.live.open
  obtain ⟨p2, m2, rfl, _, _, _⟩ := h.safe.open
  obtain ⟨p3, m3, rfl, _, _, _⟩ := h.ops.open
  obtain ⟨pk, mk, rfl, _⟩ := hK.open
  clear h hd hK hlen
  go_enter Try.func19, Try.ntmps19
  go_wp2_with fail
  refine (C.out _ ?_).mono ?_
  · exact ((Below.refl _ _).alloc (Nat.le_refl _) _).alloc (by simp) _
  rintro e w2 ⟨a, b, c, rfl, ⟨pa, na, ca, rfl⟩, ⟨pb, nb, cb, rfl⟩, ⟨pc, nc, cc, rfl⟩, hb2, hf⟩
  obtain ⟨hB2, xA, xR⟩ := boxes2 w _ _ _ hb2
  have HB2 := Lib.hid hB2
  have hlt2 : w.heap.size + 1 < w2.heap.size := (Array.getElem?_eq_some_iff.1 xR).1
  have hb3 : Below w2.heap.size w2 (w2.alloc (.cells #[.slice pa na ca, .slice pb nb cb, .slice pc nc cc] 79)) := (Below.refl _ _).alloc (Nat.le_refl _) _
  have hs3 : (w2.alloc (.cells #[.slice pa na ca, .slice pb nb cb, .slice pc nc cc] 79)).heap.size = w2.heap.size + 1 := by simp
  have yR := (hb3.block _ hlt2).trans xR
  have HB3 := Lib.hid hb3
  have HYR := Lib.hid (And.intro yR hs3)
  have HXR := Lib.hid xR
  clear hb2 C hB2 hb3 hs3 xR xA
  cases hk : diskB d with
  | false =>
    have HV := Lib.hid (crD_no (hno hk))
    have HR := Lib.hid (hno hk)
    clear hk hf
    obtain ⟨⟨r0, r1, r2⟩, rf⟩ := dk_cells HXR.out
    have rf0 := rf 0
    have rf1 := rf 1
    have rf2 := rf 2
    clear yR rf
    go_wp2
    have gz := grw_set3 w2 (w.heap.size + 1) (.slice none 0 0) (.slice none 0 0) (.slice none 0 0)
    have hBz := below_grw HB2.out gz HB2.out.size (fun q hq => by cases hq; omega)
    have hAl := (Below.refl _ ((((w2.setCell ⟨w.heap.size + 1, 0, none⟩ (.slice none 0 0)).setCell ⟨w.heap.size + 1, 1, none⟩ (.slice none 0 0)).setCell ⟨w.heap.size + 1, 2, none⟩ (.slice none 0 0)))).alloc (Nat.le_refl _) (.cells #[.slice pa na ca, .slice pb nb cb, .slice pc nc cc] 79)
    have hfin := (hAl.block (w.heap.size + 1) (Nat.lt_of_lt_of_le hlt2 gz.size)).trans (set3 HXR.out (.slice none 0 0) (.slice none 0 0) (.slice none 0 0))
    refine bodyPost_ret (v := .tuple #[.agg #[.slice none 0 0, .slice none 0 0, .slice none 0 0], .bool false]) (results_row_u Try.results19 _ _ (w.heap.size + 1) 27 _ (0, 0) _ rfl hfin Try.underlying27 rfl (by kernel_rfl)) rfl ⟨_, _, _, by rw [HR.out], by rw [HV.out]; exact nilDisk _ _, .inl rfl, hBz.trans (hAl.mono hBz.size)⟩
  | true =>
    have HV := Lib.hid (fun hc => crD_yes (d := d) (keep := keep) (torn := torn) hc)
    have HVN := Lib.hid (fun hc => crD_no (d := d) (keep := keep) (torn := torn) hc)
    obtain ⟨f1, f2, f3, hb⟩ := hf hk
    injection hb with hb1 hb2 hb3
    subst hb1 hb2 hb3
    have hB3 : Below w.heap.size w _ := HB2.out.trans (HB3.out.mono HB2.out.size)
    have xD := heap_alloc_new w2 (.cells #[.slice pa na ca, .slice pb d.safe.length cb, .slice pc nc cc] 79)
    have CC := Lib.hid (crash_i w2.heap.size (.slice pa na ca) (.slice pb d.safe.length cb) (.slice pc nc cc) (.slice pk keep.length mk) d keep torn _ xD ⟨(f1.below HB3.out).mono (Nat.zero_le _), (f2.below HB3.out).mono (Nat.zero_le _), (f3.below HB3.out).mono (Nat.zero_le _)⟩ HL.out.1 hk (HSF.out.2.below hB3) HL.out.2)
    have HDV := Lib.hid (And.intro hB3 HYR.out)
    clear hf hk hno f1 f2 f3 xD hB3 yR
    go_wp2_with fail
    refine CC.out.mono ?_
    rintro e w3 ⟨rfl, hyes, hgr⟩
    have zR := (hgr.block (w.heap.size + 1) (by rw [HYR.out.2]; omega) (fun c => by have := Option.some.inj c; omega)).trans HYR.out.1
    have hB3 : Below w.heap.size w w3 := HDV.out.1.grown hgr HDV.out.1.size (fun q hq => by have := Option.some.inj hq; omega)
    have HB3' := Lib.hid hB3
    have HZ := Lib.hid zR
    have HYES := Lib.hid hyes
    clear hyes hgr zR hB3 CC
    cases hc : crB d keep torn with
    | false =>
      have HW := Lib.hid (HVN.out hc)
      have HCB := Lib.hid hc
      obtain ⟨⟨r0, r1, r2⟩, rf⟩ := dk_cells HZ.out
      have rf0 := rf 0
      have rf1 := rf 1
      have rf2 := rf 2
      clear hc rf
      go_wp2
      refine bodyPost_ret (v := .tuple #[.agg #[.slice none 0 0, .slice none 0 0, .slice none 0 0], .bool false]) (results_row_u Try.results19 _ _ (w.heap.size + 1) 27 _ (0, 0) _ rfl (set3 HZ.out _ _ _) Try.underlying27 rfl (by kernel_rfl)) rfl ⟨_, _, _, by first | rfl | rw [HCB.out], by rw [HW.out]; exact nilDisk _ _, .inl rfl, below_grw HB3'.out (grw_set3 _ _ _ _ _) HB3'.out.size (fun q hq => by cases hq; omega)⟩
    | true =>
      have HW := Lib.hid (HV.out hc)
      obtain ⟨u, hg3, hu⟩ := HYES.out hc
      rw [HW.out] at HSM
      have C2 := Lib.hid (diskOf_i w2.heap.size u u (.slice none 0 0) ⟨crL d keep torn.toNat keep.length, crL d keep torn.toNat keep.length, []⟩ w3 hg3 ⟨hu, hu, RowL.nil _ _ _ _ _⟩ HSM.out)
      have HCB := Lib.hid hc
      clear hc hu hg3
      generalize crL d keep torn.toNat keep.length = F at C2 HW HSM
      go_wp2_with fail
      refine C2.out.mono ?_
      rintro e w8 ⟨u1, u2, u3, rfl, hD, ap, hb8⟩
      obtain ⟨q1, n1, rfl, _⟩ := hD.live.open
      obtain ⟨q2, n2, rfl, _⟩ := hD.safe.open
      obtain ⟨q3, n3, rfl, _⟩ := hD.ops.open
      have yR := (hb8.block (w.heap.size + 1) (Array.getElem?_eq_some_iff.1 HZ.out).1).trans HZ.out
      have hB4 := HB3'.out.trans (hb8.mono HB3'.out.size)
      have HD := Lib.hid (hD.mono HB3'.out.size)
      have HY := Lib.hid yR
      have HB8 := Lib.hid hB4
      have HA := Lib.hid ap
      obtain ⟨⟨r0, r1, r2⟩, rf⟩ := dk_cells yR
      have rf0 := rf 0
      have rf1 := rf 1
      have rf2 := rf 2
      clear hD ap hb8 hB4 yR rf
      go_wp2
      refine bodyPost_ret (v := .tuple #[.agg #[.slice q1 F.length n1, .slice q2 F.length n2, .slice q3 0 n3], .bool true]) (results_row_u Try.results19 _ _ (w.heap.size + 1) 27 _ (0, 0) _ rfl (set3 HY.out _ _ _) Try.underlying27 rfl (by kernel_rfl)) rfl ⟨_, _, _, by first | rfl | rw [HCB.out], by rw [HW.out]; exact ⟨RowL.kept HD.out.live (grw_set3 _ _ _ _ _) (rowK HD.out.live HY.out (by decide)), RowL.kept HD.out.safe (grw_set3 _ _ _ _ _) (rowK HD.out.safe HY.out (by decide)), RowL.kept HD.out.ops (grw_set3 _ _ _ _ _) (rowK HD.out.ops HY.out (by decide))⟩, HA.out, below_grw HB8.out (grw_set3 _ _ _ _ _) HB8.out.size (fun q hq => by cases hq; omega)⟩
theorem crD_i (v1 v2 v3 vk : Value) (d : DiskT) (keep : List Int) (torn : Int) (w : World) (h : DiskAt 0 v1 v2 v3 d w) (hd : d.fit) (hK : RowL 0 2 1 numC vk keep w) (hlen : keep.length ≤ 1048576) :
    Calls Try.prog 19 #[.agg #[v1, v2, v3], vk, .int .i64 torn] w fun e w' => ∃ u1 u2 u3, e = .returned (.tuple #[.agg #[u1, u2, u3], .bool (crB d keep torn)]) ∧ DiskAt w.heap.size u1 u2 u3 (crD d keep torn) w' ∧ ApartV u1 u2 ∧ Below w.heap.size w w' :=
  crD_in v1 v2 v3 vk d keep torn w h.toIn hd hK hlen

end Go.Proofs.Ytepefbfmjjnamaa

/- The laws of disks: sameFiles, DrawDiskOk, what stays where all or nothing is kept. -/
namespace Go.Proofs.Ytepefbfmjjnamaa
open Go.RowKit Go.My Go.Lib
set_option linter.unusedVariables false

set_option maxRecDepth 20000 in
set_option maxHeartbeats 1500000 in
theorem sameFiles_any (v1 v2 : Value) (l1 l2 : List FileT) (w : World) (h1 : FilesAt 0 v1 l1 w) (h2 : FilesAt 0 v2 l2 w) (hl1 : l1.length ≤ 1048576) (hl2 : l2.length ≤ 1048576) :
    Calls Try.prog 21 #[v1, v2] w fun e w' => e = .returned (.bool (decide (l1 = l2))) ∧ Below w.heap.size w w' := by
  obtain ⟨p1, cap1, rfl, hm1, _, hp1⟩ := h1.open
  obtain ⟨p2, cap2, rfl, hm2, _, hp2⟩ := h2.open
  have H1 := Lib.hid h1
  have H2 := Lib.hid h2
  have hlI : (l1.length : Int) ≤ 1048576 := by omega
  have hlI2 : (l2.length : Int) ≤ 1048576 := by omega
  clear h1 h2 hm1 hm2
  by_cases hlen : l1.length = l2.length
  case neg =>
    have hq : ((l1.length : Int) != (l2.length : Int)) = true := by simp; omega
    have HF : Hid (decide (l1 = l2) = false) := decide_eq_false (fun c => hlen (by rw [c]))
    clear hlen
    go_enter Try.func21, Try.ntmps21
    go_wp2
    go_ret
    exact ⟨by rw [HF.out]; rfl, Below.refl _ _⟩
  have hq : ((l1.length : Int) != (l2.length : Int)) = false := by simp; omega
  have HLEN := Lib.hid hlen
  clear hlen
  go_enter Try.func21, Try.ntmps21
  go_wp2
  go_loopw [5] (fun i wr => ∃ j : Nat, j ≤ l1.length ∧ i = .int .i64 j ∧ l1.take j = l2.take j ∧ Below w.heap.size w wr) (fun i _ => l1.length - (RowKit.intOf i).toNat)
  case atStart => exact ⟨0, Nat.zero_le _, rfl, rfl, Below.refl _ _⟩
  case round =>
    obtain ⟨j, hj, rfl, hsm, hB⟩ := hrel
    have HSM := Lib.hid hsm
    clear hsm
    by_cases hlt : j < l1.length
    · have hlt2 : j < l2.length := by have := HLEN.out; omega
      have hne : l1 ≠ [] := by intro c; rw [c] at hlt; simp at hlt
      have hne2 : l2 ≠ [] := by intro c; rw [c] at hlt2; simp at hlt2
      obtain ⟨g1, rfl, _, hg1⟩ := hp1.resolve_left (fun c => hne c.1)
      obtain ⟨g2, rfl, _, hg2⟩ := hp2.resolve_left (fun c => hne2 c.1)
      have j0 : (0 : Int) ≤ (j : Int) := by omega
      have j1 : (j : Int) < (l1.length : Int) := by omega
      have j2 : (j : Int) < (l2.length : Int) := by omega
      obtain ⟨x, hx⟩ : ∃ x, l1[j] = x := ⟨_, rfl⟩
      obtain ⟨y, hy⟩ : ∃ y, l2[j] = y := ⟨_, rfl⟩
      have hA := H1.out.below hB
      have hC := H2.out.below hB
      have a0 : wr.cell? ⟨g1, j * 2, none⟩ = some (.string x.1) := hA.at fileC_len hlt hx 0 (by omega) rfl
      have a1 : wr.cell? ⟨g1, j * 2 + 1, none⟩ = some (.string x.2) := hA.at fileC_len hlt hx 1 (by omega) rfl
      have c0 : wr.cell? ⟨g2, j * 2, none⟩ = some (.string y.1) := hC.at fileC_len hlt2 hy 0 (by omega) rfl
      have c1 : wr.cell? ⟨g2, j * 2 + 1, none⟩ = some (.string y.2) := hC.at fileC_len hlt2 hy 1 (by omega) rfl
      have HT1 := Lib.hid (List.take_succ_eq_append_getElem hlt)
      have HT2 := Lib.hid (List.take_succ_eq_append_getElem hlt2)
      rw [hx] at HT1
      rw [hy] at HT2
      have HN : Hid (x ≠ y → decide (l1 = l2) = false) := fun c => decide_eq_false (fun e => c (by subst e; rw [← hx, ← hy]))
      clear hA hC hx hy hne hne2 hp1 hp2 hg1 hg2
      by_cases e1 : x.1 = y.1
      · have q1 : (x.1.toList == y.1.toList) = true := by rw [e1]; exact beq_self_eq_true _
        by_cases e2 : x.2 = y.2
        · have q2 : (x.2.toList == y.2.toList) = true := by rw [e2]; exact beq_self_eq_true _
          have HX : Hid (l1.take (j + 1) = l2.take (j + 1)) := by show _ = _; rw [HT1.out, HT2.out, HSM.out, show x = y from Prod.ext e1 e2]
          clear e1 e2
          go_wp2_with fail
          go_quiet (fail)
          go_wp2
          go_roundw
          case rel => exact ⟨j + 1, by omega, by go_num, HX.out, below_drewN hB _⟩
          case measure => simp [RowKit.intOf]; omega
        · have q2 : (x.2.toList == y.2.toList) = false := neq_lst e2
          have HF := Lib.hid (HN.out (fun c => e2 (by rw [c])))
          clear e1 e2
          go_wp2_with fail
          go_quiet (fail)
          go_wp2
          go_ret
          exact ⟨by rw [HF.out]; rfl, below_drewN hB _⟩
      · have q1 : (x.1.toList == y.1.toList) = false := neq_lst e1
        have HF := Lib.hid (HN.out (fun c => e1 (by rw [c])))
        clear e1
        go_wp2_with fail
        go_quiet (fail)
        go_wp2
        go_ret
        exact ⟨by rw [HF.out]; rfl, below_drewN hB _⟩
    · obtain rfl : j = l1.length := by omega
      have HT : Hid (decide (l1 = l2) = true) := decide_eq_true (by have := HSM.out; rw [List.take_length, HLEN.out, List.take_length] at this; exact this)
      go_wp2
      go_ret
      exact ⟨by rw [HT.out]; rfl, hB⟩

/-- All operations are kept, none is torn. -/
def allK (n : Nat) : List Int := (List.range n).map (fun i : Nat => (i : Int))
theorem allK_len (n : Nat) : (allK n).length = n := by simp [allK]
theorem allK_get {n j : Nat} (h : j < n) : (allK n).getD j 0 = (j : Int) := by
  rw [List.getD_eq_getElem?_getD, List.getElem?_eq_getElem (by rw [allK_len]; exact h)]
  simp [allK]
theorem allK_ok (n : Nat) : idxB (-1) (allK n) n = true := by
  refine (idx_all _ _).2 (fun i hi => ?_)
  rw [allK_len] at hi
  rw [allK_get hi]
  refine ⟨?_, by omega⟩
  cases i with
  | zero => show (-1 : Int) < _; omega
  | succ i => show (allK n).getD i 0 < _; rw [allK_get (by omega)]; omega
theorem allK_kept {d : DiskT} {T j : Nat} (hd : d.fit) (hT : 1048576 ≤ T) (hj : j < d.ops.length) : keptO d.ops (allK d.ops.length) T j = d.ops[j] := by
  rw [keptO_in (allK_get hj) hj]
  split
  · exact tear_same (by have := (hd.ops _ (List.getElem_mem hj)).2.2.2; omega)
  · rfl
theorem run_some {l l' : List FileT} {op : DOpT} {ops : List DOpT} (h : runL l (op :: ops) = some l') : crF l op = aftL l op ∧ runL (crF l op) ops = some l' := by
  rw [runL_kons, opDo_aft] at h
  cases c : findB l op with
  | false => rw [c] at h; cases h
  | true =>
    rw [c, if_pos rfl] at h
    have h : (if opB op && filesB (aftL l op) then runL (aftL l op) ops else none) = some l' := h
    by_cases c2 : (opB op && filesB (aftL l op)) = true
    · rw [if_pos c2] at h
      have e : crF l op = aftL l op := by unfold crF; rw [if_pos c]
      exact ⟨e, by rw [e]; exact h⟩
    · rw [if_neg c2] at h; cases h
theorem crL_run {d : DiskT} {T : Nat} (hd : d.fit) (hT : 1048576 ≤ T) {L : List FileT} (hr : runL d.safe d.ops = some L) : ∀ j, j ≤ d.ops.length → runL (crL d (allK d.ops.length) T j) (d.ops.drop j) = some L
  | 0, _ => by rw [List.drop_zero]; exact hr
  | j + 1, hj => by
    have ih := crL_run hd hT hr j (by omega)
    rw [List.drop_eq_getElem_cons (by omega : j < d.ops.length)] at ih
    have := (run_some ih).2
    show runL (crF (crL d (allK d.ops.length) T j) (keptO d.ops (allK d.ops.length) T j)) _ = _
    rw [allK_kept hd hT (by omega)]
    exact this
theorem crL_all {d : DiskT} {T : Nat} (hd : d.fit) (hT : 1048576 ≤ T) (hk : diskB d = true) : crL d (allK d.ops.length) T (allK d.ops.length).length = d.live := by
  have hr : runL d.safe d.ops = some d.live := by
    unfold diskB at hk
    simp only [Bool.and_eq_true, decide_eq_true_eq] at hk
    exact hk.2
  have := crL_run hd hT hr d.ops.length (Nat.le_refl _)
  rw [List.drop_length] at this
  rw [allK_len]
  exact Option.some.inj this
theorem crB_all {d : DiskT} (hd : d.fit) : crB d (allK d.ops.length) 1099511627776 = diskB d := by
  cases hk : diskB d with
  | false => exact crB_no hk
  | true =>
    unfold crB
    rw [hk, allK_ok, show (1099511627776 : Int).toNat = 1099511627776 from rfl, crL_all hd (by decide) hk, diskB_live hk]
    rfl
theorem crD_all {d : DiskT} (hd : d.fit) (hk : diskB d = true) : crD d (allK d.ops.length) 1099511627776 = ⟨d.live, d.live, []⟩ := by
  rw [crD_yes ((crB_all hd).trans hk), show (1099511627776 : Int).toNat = 1099511627776 from rfl, crL_all hd (by decide) hk]
theorem crB_nil {d : DiskT} : crB d [] 0 = diskB d := by
  cases hk : diskB d with
  | false => exact crB_no hk
  | true =>
    unfold crB
    rw [hk]
    show (true && decide ((0 : Int) ≤ 0) && true && filesB d.safe) = true
    rw [diskB_safe hk]
    rfl
theorem crD_nil {d : DiskT} (hk : diskB d = true) : crD d [] 0 = ⟨d.safe, d.safe, []⟩ := by
  rw [crD_yes (crB_nil.trans hk)]
  rfl

def DrawnDk (B : Nat) (w : World) (e : Ending) (w' : World) : Prop := ∃ u1 u2 u3 d, e = .returned (.agg #[u1, u2, u3]) ∧ DiskT.fit d ∧ DiskIn u1 u2 u3 d w' ∧ Below B w w'
set_option maxRecDepth 20000 in
set_option maxHeartbeats 1000000 in
theorem draw_diskOk (B : Nat) (a : Option Addr) (len cap : Nat) (w : World) (hB : B ≤ w.heap.size) (h : RdCode B w a len) : Calls Try.prog 16 #[.slice a len cap] w (DrawnDk B w) := by
  have hal : Below B w (w.alloc (.cells #[.slice none 0 0, .slice none 0 0, .slice none 0 0] 27)) := (Below.refl _ _).alloc hB _
  have hres := heap_alloc_new w (.cells #[.slice none 0 0, .slice none 0 0, .slice none 0 0] 27)
  go_enter Try.func16, Try.ntmps16
  go_wp2_with fail
  refine (open_any B a len cap _ (by simp; omega) (h.below hal)).mono ?_
  rintro e w1 ⟨rfl, hR1, hg1⟩
  rw [World.size_alloc] at hR1 ⊢
  have hb1 : Below B w w1 := hal.grown hg1 (by simp; omega) (fun q hq => by cases hq)
  have hr1 := (hg1.block w.heap.size (by simp) (by simp)).trans hres
  clear hal hg1 h hres
  go_wp2_with fail
  refine (disk_any B _ _ hR1).mono ?_
  rintro e w2 ⟨u1, u2, u3, d, rfl, hf, hd, hR2, hg2⟩
  have hr2 := (hg2.block w.heap.size (Array.getElem?_eq_some_iff.1 hr1).1 (fun c => by have := Option.some.inj c; omega)).trans hr1
  have hb2 : Below B w w2 := hb1.trans (grown_below hg2 (by omega) hR1.2.1)
  have HD := Lib.hid (And.intro hf (And.intro hd (And.intro hb2 hr2)))
  obtain ⟨s1, s2, s3⟩ := hd.sl
  obtain ⟨q1, n1, c1, rfl⟩ := s1
  obtain ⟨q2, n2, c2, rfl⟩ := s2
  obtain ⟨q3, n3, c3, rfl⟩ := s3
  obtain ⟨⟨r0, r1, r2⟩, rf⟩ := dk_cells hr2
  have rf0 := rf 0
  have rf1 := rf 1
  have rf2 := rf 2
  clear hf hd hb2 hr2 rf hR1 hR2 hg2 hr1 hb1
  have gz := grw_set3 w2 w.heap.size (.slice q1 n1 c1) (.slice q2 n2 c2) (.slice q3 n3 c3)
  have HE := Lib.hid (And.intro (HD.out.2.1.row HD.out.2.2.2 ⟨_, _, _, rfl⟩ ⟨_, _, _, rfl⟩ ⟨_, _, _, rfl⟩ gz) (And.intro (below_grw HD.out.2.2.1 gz (by have := HD.out.2.2.1.size; omega) (fun q hq => by have := Option.some.inj hq; omega)) (set3 HD.out.2.2.2 (.slice q1 n1 c1) (.slice q2 n2 c2) (.slice q3 n3 c3))))
  clear gz
  go_wp2
  refine bodyPost_ret (v := .agg #[.slice q1 n1 c1, .slice q2 n2 c2, .slice q3 n3 c3]) (results_cell_row Try.results16 _ _ w.heap.size 27 _ (0, 0) _ rfl HE.out.2.2 Try.underlying27 rfl (by kernel_rfl)) rfl ?_
  exact ⟨_, _, _, _, rfl, HD.out.1, HE.out.1, HE.out.2.1⟩

end Go.Proofs.Ytepefbfmjjnamaa

/- The laws over disks: further operations of a drawn region. -/
namespace Go.Proofs.Ytepefbfmjjnamaa
open Go.RowKit Go.My Go.Lib Go.ChangeShapes Go.WideShapes
set_option linter.unusedVariables false

theorem wpUnT {P : Program} {Q : Exit → Act → World → Prop} {o : Oper} {a : Act} {w : World} {K : Act → World → Prop} {op : UnOp} {T : TypeId} {k : Tmp} {x y : Value} (hop : o.op = .unOp op T (.tmp k)) (he : a.eval (.tmp k) = y) (hr : (Op.unary op y).run P w = .ok x w) (hK : K (a.put o.dst x) w) : o.wp P a w K Q :=
  wpVal (x := x) (w' := w) (by unfold execOp; simp only [hop]; simp only [he, Sem.run_bind, hr, Result.andThen_ok, Sem.run_pure]) hK
theorem notT {P : Program} (w : World) : (Op.unary .not (.bool true)).run P w = .ok (.bool false) w := by simp [Op.unary, go_sem]
theorem cfEqDisk (args : Array Value) (w : World) : (callFunc 37 args).run Try.prog w = .ok (.enter 37 args) w := cf_of Try.func37 (by kernel_rfl) (by kernel_rfl) args w

end Go.Proofs.Ytepefbfmjjnamaa

/- What every law's draws want: a code, the bound, the shapes of draws. -/
namespace Go.Proofs.Ytepefbfmjjnamaa
open Go.RowKit Go.My Go.Lib
set_option linter.unusedVariables false

/-- A slice that came in is a code, if it is no longer than the laws take. -/
theorem code_of_row {w : World} {a : Option Addr} {len cap : Nat} {zs : List Int} (h : IsRow .u8 w a len cap zs) (hl : len ≤ 1048576) : RdCode w.heap.size w a len := by
  refine ⟨hl, ?_⟩
  rcases h with ⟨_, rfl, _⟩ | ⟨x, rfl, hlc, _, hz, hc, hwf⟩
  · exact .inl rfl
  · by_cases h0 : len = 0
    · exact .inl h0
    right
    have c0 := hc 0 (by omega)
    obtain ⟨b, off, spot⟩ := x
    have hspot : spot = none := by simpa [Addr.add] using World.cell?_spot c0
    subst hspot
    refine ⟨b, off, rfl, ?_, fun i hi => ?_⟩
    · have := World.block_lt_of_cell? w _ c0
      simpa [Addr.add] using this
    · have hci := hc i (by omega)
      have hm : zs.getD i 0 ∈ zs := by
        have : i < zs.length := by omega
        rw [List.getD_eq_getElem?_getD, List.getElem?_eq_getElem this]
        exact List.getElem_mem this
      have hw := hwf _ hm
      simp [Lit.wf, IntKind.min, IntKind.max, IntKind.signed, IntKind.bits] at hw
      exact ⟨zs.getD i 0, by simpa using hw.1, by simpa using hw.2, by rw [Addr.add_lit] at hci; exact hci⟩

theorem big_any (a : Option Addr) (len cap : Nat) (w : World) (h : len ≤ 9223372036854775807) :
    Calls Try.prog 15 #[.slice a len cap] w fun e w' => e = .returned (.bool (decide (1048576 < (len : Int)))) ∧ w = w' := by
  go_enter Try.func15, Try.ntmps15
  go_wp2
  go_ret
  exact ⟨rfl, rfl⟩

def DrawS (N B : Nat) (w : World) (e : Ending) (w' : World) : Prop := ∃ s : ByteArray, e = .returned (.string s) ∧ s.size ≤ N ∧ Below B w w'
def DrawSS (N B : Nat) (w : World) (e : Ending) (w' : World) : Prop := ∃ s t : ByteArray, e = .returned (.tuple #[.string s, .string t]) ∧ s.size ≤ N ∧ t.size ≤ N ∧ Below B w w'
def DrawII (B : Nat) (w : World) (e : Ending) (w' : World) : Prop := ∃ n k : Int, e = .returned (.tuple #[.int .i64 n, .int .i64 k]) ∧ (Lit.int .i64 n).wf = true ∧ (Lit.int .i64 k).wf = true ∧ Below B w w'

theorem below_none {B : Nat} {a b : World} (h : a.grownBy b none) (hB : B ≤ a.heap.size) : Below B a b :=
  ⟨h.os, h.tape, h.output, h.size, fun k hk => h.block k (by omega) (by simp)⟩


end Go.Proofs.Ytepefbfmjjnamaa

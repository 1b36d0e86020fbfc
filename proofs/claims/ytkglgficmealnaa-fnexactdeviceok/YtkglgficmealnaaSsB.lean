/- A key put among the skipped keys; the skipped keys of a list. -/
import Derived.Test.YtkglgficmealnaaMp4
import Derived.Test.YtkglgficmealnaaSsA
import Derived.Test.YtkglgficmealnaaRegJ
import Derived.Deep.AppendLies
namespace Go.Proofs.Ytkglgficmealnaa
open Go.RowKit Go.My Go.Lib
set_option linter.unusedVariables false
set_option maxRecDepth 100000

def mkL (k : Mk) : List Value := [.string k.1, .int .i64 k.2]
theorem mkL_len (k : Mk) : (mkL k).length = 2 := rfl
theorem info_Mk : (Try.prog.info? 127).map (fun i => (i.zero, i.size, i.bytes)) = some (some (.agg #[.string ByteArray.empty, .int .i64 0]), 2, 24) := by kernel_rfl
theorem row_ord {B g cap : Nat} {L : List Mk} {w : World} (h : RowL B 127 2 mkL (.slice (some ⟨g, 0, none⟩) L.length cap) L w) (hl : L.length ≤ 1000000) : OrdAt g cap L w := by
  rcases h.2 with ⟨hv, _⟩ | ⟨q, c, cur, hv, hB, hg, hnc, hcm, hcs, htk⟩
  · cases hv
  · injection hv with e1 e2 e3
    injection e1 with e1
    injection e1 with e1
    subst e1 e3
    refine ⟨cur, hg, by omega, hnc, ⟨hl, hcm⟩, fun i k hi => ?_⟩
    obtain ⟨hi2, e⟩ := List.getElem?_eq_some_iff.1 hi
    subst e
    have key : ∀ j, j < 2 → cur[2 * i + j]? = (mkL L[i])[j]? := fun j hj => by
      have h1 := flat_get mkL_len L i hi2 j hj
      rw [← htk, List.getElem?_take, if_pos (by omega)] at h1
      rw [← h1, Array.getElem?_toList]
    exact ⟨key 0 (by omega), key 1 (by omega)⟩
theorem ord_row {B s m : Nat} {v : Value} {L : List Mk} {w : World} (h : OrdV B s m v L w) : RowL B 127 2 mkL v L w := by
  rcases h with ⟨rfl, rfl⟩ | ⟨g, cap, rfl, ⟨cur, hg, hcs, hlc, hm, hc⟩, _, _, hB⟩
  · exact ⟨rfl, .inl ⟨rfl, rfl⟩⟩
  · refine ⟨flat_len mkL_len L, .inr ⟨g, cap, cur, rfl, hB, hg, hlc, hm.2, by omega, ?_⟩⟩
    apply List.ext_getElem?
    intro i
    by_cases hi : i < L.length * 2
    · rw [List.getElem?_take, if_pos hi]
      obtain ⟨q, r, hr, rfl⟩ : ∃ q r, r < 2 ∧ i = 2 * q + r := ⟨i / 2, i % 2, by omega, by omega⟩
      have hq : q < L.length := by have h3 : 2 * q + r < L.length * 2 := hi; omega
      rw [flat_get mkL_len L q hq r hr, Array.getElem?_toList]
      have h2 := hc q _ (List.getElem?_eq_getElem hq)
      have hr2 : r = 0 ∨ r = 1 := by omega
      rcases hr2 with rfl | rfl
      · exact h2.1
      · exact h2.2
    · rw [List.getElem?_eq_none (by rw [List.length_take]; omega), List.getElem?_eq_none (by rw [flat_len mkL_len]; omega)]
theorem MapAt.kept {m : Nat} {kv : KV} {w w' : World} {r : Option Nat} (h : MapAt m kv w) (hg : w.grownBy w' r) (hk : r ≠ some m) : MapAt m kv w' := by
  obtain ⟨es, c, h1, h2⟩ := h
  exact ⟨es, c, (hg.block m (Array.getElem?_eq_some_iff.1 h1).1 (fun e => hk e.symm)).trans h1, h2⟩
theorem BlkAt.kept {k : Nat} {cs : Array Value} {T : TypeId} {w w' : World} {r : Option Nat} (h : BlkAt k cs T w) (hg : w.grownBy w' r) (hk : r ≠ some k) : BlkAt k cs T w' := (hg.block k h.lt (fun e => hk e.symm)).trans h
theorem OrdV.own {B s m : Nat} {v : Value} {L : List Mk} {w : World} (h : OrdV B s m v L w) : v.ownBlock ≠ some s ∧ v.ownBlock ≠ some m ∧ ∀ q, v.ownBlock = some q → B ≤ q := by
  rcases h with ⟨rfl, _⟩ | ⟨g, cap, rfl, _, h1, h2, h3⟩
  · exact ⟨(fun c => by cases c), (fun c => by cases c), fun q c => by cases c⟩
  · exact ⟨fun c => h1 (Option.some.inj c), fun c => h2 (Option.some.inj c), fun q c => by rw [← Option.some.inj c]; exact h3⟩
theorem fdOrd (s : Nat) (w : World) : (Instr.fieldAt 103 (.pointer (some ⟨s, 0, none⟩)) 1).run Try.prog w = .ok (.pointer (some ⟨s, 1, none⟩)) w := by simp [Instr.fieldAt, go_sem]
theorem ldOrd {s : Nat} {x : Value} {p : Option Addr} {n c : Nat} {w : World} (h : BlkAt s #[x, .slice p n c] 103 w) : (Instr.loadAt 101 (.pointer (some ⟨s, 1, none⟩))).run Try.prog w = .ok (.slice p n c) w := by
  have c1 := h.cell (j := 1) rfl
  simp [Instr.loadAt, go_sem, c1]
theorem litMk (a : Mk) (w : World) : (Instr.buildSlice 101 1 #[(0, mkV a)]).run Try.prog w = .ok (.slice (some ⟨w.heap.size, 0, none⟩) 1 1) (w.alloc (.cells (mkC a) 127)) := by simp [Instr.buildSlice, go_sem]
section
variable {P : Program} {Q : Exit → Act → World → Prop} {o : Oper} {a : Act} {w w' : World} {K : Act → World → Prop}
theorem wpNilT {k : Tmp} {p : Addr} (hop : o.op = .nilCheck (.tmp k)) (he : a.eval (.tmp k) = .pointer (some p)) (hK : K (a.put o.dst (.pointer (some p))) w) : o.wp P a w K Q :=
  wpVal (x := .pointer (some p)) (w' := w) (by unfold execOp; simp only [hop]; simp only [he, Sem.run_pure]) hK
theorem wpLit1T {T : TypeId} {k : Tmp} {x y : Value} (hop : o.op = .buildSlice T 1 #[(0, .tmp k)]) (he : a.eval (.tmp k) = y) (hr : (Instr.buildSlice T 1 #[(0, y)]).run P w = .ok x w') (hK : K (a.put o.dst x) w') : o.wp P a w K Q :=
  wpVal (x := x) (w' := w') (by unfold execOp; simp only [hop]; simp only [List.map_toArray, List.map_cons, List.map_nil, he, Sem.run_bind, hr, Result.andThen_ok, Sem.run_pure]) hK
theorem wpCellT {T : TypeId} {d k : Tmp} {g j : Nat} {y : Value} (hop : o.op = .store T (.tmp d) (.tmp k)) (h1 : a.eval (.tmp d) = .pointer (some ⟨g, j, none⟩)) (h2 : a.eval (.tmp k) = y)
    (hr : (Instr.storeAt T (.pointer (some ⟨g, j, none⟩)) y).run P w = .ok () (w.setCell ⟨g, j, none⟩ y)) (hK : K (a.put o.dst undef) (w.setCell ⟨g, j, none⟩ y)) : o.wp P a w K Q := by
  unfold Oper.wp execOp
  simp only [hop, h1, h2, Sem.run_bind, hr, Result.andThen_ok, Sem.run_pure, Oper.upon]
  exact hK
end
theorem stOrd {s : Nat} {x y : Value} {p : Option Addr} {n c : Nat} {w : World} (h : BlkAt s #[x, y] 103 w) : (Instr.storeAt 101 (.pointer (some ⟨s, 1, none⟩)) (.slice p n c)).run Try.prog w = .ok () (w.setCell ⟨s, 1, none⟩ (.slice p n c)) := by
  have c1 := h.cell (j := 1) rfl
  have f1 := h.froz (j := 1)
  simp [Instr.storeAt, go_sem, c1, f1]

theorem kvPut_unlike' {kv kvq : KV} {b : Mk} {key : ByteArray} (e : kvPut kv b key = kvq ++ [(b, key)]) (hd : kvq.Pairwise (fun x y => x.1 ≠ y.1)) (hno : ∀ a, a ∈ kvq → a.1 ≠ b) : (kvPut kv b key).Pairwise (fun x y => x.1 ≠ y.1) := by
  rw [e]
  refine List.pairwise_append.2 ⟨hd, List.pairwise_singleton _ _, fun x hx y hy => ?_⟩
  rw [List.mem_singleton.1 hy]
  exact hno x hx

/-- The mark comes behind the others. -/
structure PutD (X : World) (B s m kb : Nat) (v : Value) (L0 : List Mk) (a : Mk) (kvn : KV) (f : Nat → Value) (L : Nat → Bool) (w : World) : Prop where
  G : Below B X w
  S : B ≤ w.heap.size
  mp : MapAt m kvn w
  sk : L 10 = false → BlkAt s #[.map (some m), v] 103 w
  kb : L 7 = false → BlkAt kb (mkC a) 127 w
  od : L 7 = false → OrdV B s m v L0 w
  f0 : L 0 = true → f 0 = .pointer (some ⟨s, 0, none⟩)
  f1 : L 1 = true → f 1 = .pointer (some ⟨s, 0, none⟩)
  f2 : L 2 = true → f 2 = .pointer (some ⟨s, 0, none⟩)
  f3 : L 3 = true → f 3 = .pointer (some ⟨s, 1, none⟩)
  f4 : L 4 = true → f 4 = v
  f5 : L 5 = true → f 5 = mkV a
  f6 : L 6 = true → ∃ q, f 6 = .slice (some ⟨q, 0, none⟩) 1 1 ∧ (L 7 = false → BlkAt q (mkC a) 127 w)
  f7 : L 7 = true → ∃ g cap, f 7 = .slice (some ⟨g, 0, none⟩) (L0.length + 1) cap ∧ OrdAt g cap (L0 ++ [a]) w ∧ g ≠ s ∧ g ≠ m ∧ B ≤ g
  f8 : L 8 = true → f 8 = .pointer (some ⟨s, 0, none⟩)
  f9 : L 9 = true → f 9 = .pointer (some ⟨s, 1, none⟩)
  fA : L 10 = true → ∃ g cap, BlkAt s #[.map (some m), .slice (some ⟨g, 0, none⟩) (L0.length + 1) cap] 103 w ∧ OrdAt g cap (L0 ++ [a]) w ∧ g ≠ s ∧ g ≠ m ∧ B ≤ g
  d4 : L 10 = true → L 4 = true
  d5 : L 7 = true → L 5 = true
  d7 : L 10 = true → L 7 = true
  e4 : L 7 = true → L 4 = true
  e5 : L 6 = true → L 5 = true
theorem PutD.grow {X : World} {B s m kb : Nat} {v : Value} {L0 : List Mk} {a : Mk} {kvn : KV} {f : Nat → Value} {L : Nat → Bool} {w w' : World} (h : PutD X B s m kb v L0 a kvn f L w) (hb : Below w.heap.size w w') : PutD X B s m kb v L0 a kvn f L w' where
  G := h.G.trans (hb.mono h.S)
  S := Nat.le_trans h.S hb.size
  mp := h.mp.below hb
  sk := fun q => BlkAt.below hb (h.sk q)
  kb := fun q => BlkAt.below hb (h.kb q)
  od := fun q => (h.od q).below hb
  f0 := h.f0
  f1 := h.f1
  f2 := h.f2
  f3 := h.f3
  f4 := h.f4
  f5 := h.f5
  f6 := fun q => by
    obtain ⟨g, e, hg⟩ := h.f6 q
    exact ⟨g, e, fun z => BlkAt.below hb (hg z)⟩
  f7 := fun q => by
    obtain ⟨g, c, e, hO, h1⟩ := h.f7 q
    exact ⟨g, c, e, hO.below hb, h1⟩
  f8 := h.f8
  f9 := h.f9
  fA := fun q => by
    obtain ⟨g, c, e, hO, h1⟩ := h.fA q
    exact ⟨g, c, BlkAt.below hb e, hO.below hb, h1⟩
  d4 := h.d4
  d5 := h.d5
  d7 := h.d7
  e4 := h.e4
  e5 := h.e5

set_option maxHeartbeats 4000000 in
theorem put_i (B s : Nat) (kv : KV) (b : Mk) (key : ByteArray) (w : World) (h : SkAt B s kv w) (hBw : B ≤ w.heap.size) (hl : kv.length ≤ 19) :
    Calls Try.prog 80 #[.pointer (some ⟨s, 0, none⟩), mkV b, .string key] w fun e w' => e = .returned (.tuple #[]) ∧ SkAt B s (kvPut kv b key) w' ∧ Below B w w' := by
  have hb0 := below_box w (.cells (mkC b) 127)
  have bk := BlkAt.box w (mkC b) 127
  have h0 := h.toN.below hb0
  have HB0 : Below B w (w.alloc (.cells (mkC b) 127)) := hb0.mono hBw
  have hS0 : B ≤ (w.alloc (.cells (mkC b) 127)).heap.size := by simp; omega
  have hns : w.heap.size ≠ s := by obtain ⟨m, v, hs, _⟩ := h; have := hs.lt; omega
  have C1 := Lib.hid (remove_n B w.heap.size s kv b _ h0 hS0)
  clear h h0 hb0
  have BK := Lib.hid bk
  have c0 := bk.cell (j := 0) rfl
  have c1 := bk.cell (j := 1) rfl
  clear bk
  generalize hkb : w.heap.size = kb at *
  go_enter Try.func80, Try.ntmps80
  go_wp2_with fail
  refine C1.out.mono ?_
  rintro e w2 ⟨rfl, hs2, hb2, hkp⟩
  obtain ⟨m, v, hs, hm, ho, hsm, hBs, hBm, hd, hsN, hmN, hvN⟩ := hs2
  have bk2 := hkp.blk (Nat.le_refl _) BK.out
  obtain ⟨p, n, c, rfl⟩ : ∃ p n c, v = .slice p n c := by
    rcases ho with ⟨rfl, _⟩ | ⟨g, cap, rfl, _⟩
    · exact ⟨_, _, _, rfl⟩
    · exact ⟨_, _, _, rfl⟩
  have HB2 := HB0.trans hb2
  have hS2 := Nat.le_trans hS0 hb2.size
  have hno : ∀ a, a ∈ kv.filter (fun x => decide (x.1 ≠ b)) → a.1 ≠ b := fun a ha => of_decide_eq_true (List.mem_filter.1 ha).2
  have hql : (kv.filter (fun x => decide (x.1 ≠ b))).length ≤ 19 := Nat.le_trans (List.length_filter_le _ _) hl
  have HPU := Lib.hid (show kvPut kv b key = kv.filter (fun x => decide (x.1 ≠ b)) ++ [(b, key)] from rfl)
  generalize kv.filter (fun x => decide (x.1 ≠ b)) = kvq at *
  have hks : kb ≠ s := by omega
  have hkm : kb ≠ m := by omega
  clear hb2 hkp hS0 C1 hsN hmN hvN hns c0 c1 HB0
  go_upto_region 2 with (fail)
  refine region_rest 6 (kdAt [.val (.pointer (some ⟨s, 0, none⟩)), .val (.pointer (some ⟨s, 0, none⟩)), .val (.pointer (some ⟨s, 0, none⟩)), .val (.map (some m)), .val (mkV b), .val (.string key)]) [some 9, some 10, some 11, some 12, some 13, some 14] (by kernel_rfl) (by decide) (by kernel_rfl) (by kernel_rfl) (by kernel_rfl) (by kernel_rfl) (by kernel_rfl) _ (fun a w h => anyStep (n := 0) (i := 6) (by kernel_rfl) rfl (fun a w h => anyEnd (by kernel_rfl) h) h) ?_ ?_
  · repeat refine allS ?_ ?_
    · exact all0
    · exact stepMove rfl rfl rfl rfl (src_old (by kernel_rfl) rfl)
    · exact stepNil rfl rfl rfl rfl (src_new 0 (by decide) rfl rfl (by kernel_rfl))
    · exact stepField (.pointer (some ⟨s, 0, none⟩)) rfl rfl rfl rfl (src_new 1 (by decide) rfl rfl (by kernel_rfl)) (fun w => fdKeys s w)
    · exact stepLoad (.pointer (some ⟨s, 0, none⟩)) rfl rfl rfl rfl (src_new 2 (by decide) rfl rfl (by kernel_rfl)) (fun w hk => ldMap ((BlkAt.below (hk.below (nh0 rfl)) hs).cell (j := 0) rfl))
    · exact stepLoad (.pointer (some ⟨kb, 0, none⟩)) rfl rfl rfl rfl (src_old (by kernel_rfl) rfl) (fun w hk => ldMk (BlkAt.below (hk.below (nh0 rfl)) bk2))
    · exact stepMove rfl rfl rfl rfl (src_old (by kernel_rfl) rfl)
  intro vv x1 hok hk
  replace hk := hk.all
  have v0 := okVal hok (j := 0) rfl rfl
  have v1 := okVal hok (j := 1) rfl rfl
  have v2 := okVal hok (j := 2) rfl rfl
  have v3 := okVal hok (j := 3) rfl rfl
  have v4 := okVal hok (j := 4) rfl rfl
  have v5 := okVal hok (j := 5) rfl rfl
  clear hok
  simp only [putL, Nat.zero_add, Nat.reduceAdd, v0, v1, v2, v3, v4, v5, Act.put, List.setIfInBounds_toArray, List.set_cons_zero, List.set_cons_succ]
  clear v0 v1 v2 v3 v4 v5
  have hbx := hk.below (nh0 rfl)
  have hs1 := BlkAt.below hbx hs
  have bk1 := BlkAt.below hbx bk2
  have hm1 := hm.below hbx
  have ho1 := ho.below hbx
  have HB1 := HB2.trans (hbx.mono hS2)
  have hS1 := Nat.le_trans hS2 hbx.size
  clear hk hbx hs bk2 hm ho HB2
  obtain ⟨w4, hrun, hm4, g4⟩ := put_map m kvq x1 hm1 b key hno
  have hs4 := BlkAt.grM g4 hsm hs1
  have bk4 := BlkAt.grM g4 hkm bk1
  have ho4 := ho1.grown g4 (.inr rfl)
  have HB4 := Lib.hid (HB1.grown g4 hS1 (by intro k hk; have := Option.some.inj hk; omega))
  have hS4 := Nat.le_trans hS1 g4.size
  clear hs1 bk1 hm1 ho1 HB1 g4 hS1 hS2
  go_upto_region 3 with (fail)
  clear hrun
  have hQL : (kvq.map (·.1)).length ≤ 19 := by rw [List.length_map]; exact hql
  obtain ⟨i0, hi, hz0, hz1, hz2⟩ := info_parts info_Mk
  refine region_invL 11 [some 15, some 16, some 17, some 18, some 19, some 20, some 21, some 22, some 23, some 24, none] (PutD w4 B s m kb (.slice p n c) (kvq.map (·.1)) b (kvq ++ [(b, key)])) (by kernel_rfl) rfl (by kernel_rfl) (by kernel_rfl) (by kernel_rfl) ?_ ?_ ?_
  · exact ⟨(Below.refl _ _).drew, hS4, hm4, (fun _ => hs4), (fun _ => bk4), (fun _ => ho4.below (Below.refl _ _).drew), (fun h => by cases h), (fun h => by cases h), (fun h => by cases h), (fun h => by cases h), (fun h => by cases h), (fun h => by cases h), (fun h => by cases h), (fun h => by cases h), (fun h => by cases h), (fun h => by cases h), (fun h => by cases h), (fun h => by cases h), (fun h => by cases h), (fun h => by cases h), (fun h => by cases h), (fun h => by cases h)⟩
  · intro i o f L w1 hoi hL hI hdep
    have hi' : i < 11 := (Array.getElem?_eq_some_iff.1 hoi).1
    have hc : i = 0 ∨ i = 1 ∨ i = 2 ∨ i = 3 ∨ i = 4 ∨ i = 5 ∨ i = 6 ∨ i = 7 ∨ i = 8 ∨ i = 9 ∨ i = 10 := by omega
    rcases hc with rfl | rfl | rfl | rfl | rfl | rfl | rfl | rfl | rfl | rfl | rfl
    · obtain rfl := Option.some.inj hoi
      refine ⟨rfl, wpMoveT rfl (at_old (by kernel_rfl)) ⟨_, rfl, ?_⟩⟩
      exact ⟨hI.G, hI.S, hI.mp, hI.sk, hI.kb, hI.od, fun _ => rfl, hI.f1, hI.f2, hI.f3, hI.f4, hI.f5, hI.f6, hI.f7, hI.f8, hI.f9, hI.fA, hI.d4, hI.d5, hI.d7, hI.e4, hI.e5⟩
    · obtain rfl := Option.some.inj hoi
      refine ⟨rfl, wpMoveT rfl (at_old (by kernel_rfl)) ⟨_, rfl, ?_⟩⟩
      exact ⟨hI.G, hI.S, hI.mp, hI.sk, hI.kb, hI.od, hI.f0, fun _ => rfl, hI.f2, hI.f3, hI.f4, hI.f5, hI.f6, hI.f7, hI.f8, hI.f9, hI.fA, hI.d4, hI.d5, hI.d7, hI.e4, hI.e5⟩
    · obtain rfl := Option.some.inj hoi
      refine ⟨rfl, wpNilT rfl ((at_new (by kernel_rfl) 1 (Nat.le_of_ble_eq_true rfl) rfl (by decide) (hdep 1 (dep_of (by kernel_rfl)))).trans (hI.f1 (hdep 1 (dep_of (by kernel_rfl))))) ⟨_, rfl, ?_⟩⟩
      exact ⟨hI.G, hI.S, hI.mp, hI.sk, hI.kb, hI.od, hI.f0, hI.f1, fun _ => rfl, hI.f3, hI.f4, hI.f5, hI.f6, hI.f7, hI.f8, hI.f9, hI.fA, hI.d4, hI.d5, hI.d7, hI.e4, hI.e5⟩
    · obtain rfl := Option.some.inj hoi
      refine ⟨rfl, wpFieldT rfl ((at_new (by kernel_rfl) 2 (Nat.le_of_ble_eq_true rfl) rfl (by decide) (hdep 2 (dep_of (by kernel_rfl)))).trans (hI.f2 (hdep 2 (dep_of (by kernel_rfl))))) (fdOrd _ w1) ⟨_, rfl, ?_⟩⟩
      exact ⟨hI.G, hI.S, hI.mp, hI.sk, hI.kb, hI.od, hI.f0, hI.f1, hI.f2, fun _ => rfl, hI.f4, hI.f5, hI.f6, hI.f7, hI.f8, hI.f9, hI.fA, hI.d4, hI.d5, hI.d7, hI.e4, hI.e5⟩
    · obtain rfl := Option.some.inj hoi
      have n10 : L 10 = false := by cases q : L 10 with | false => rfl | true => have := hI.d4 q; rw [hL] at this; cases this
      refine ⟨rfl, wpLoadT rfl ((at_new (by kernel_rfl) 3 (Nat.le_of_ble_eq_true rfl) rfl (by decide) (hdep 3 (dep_of (by kernel_rfl)))).trans (hI.f3 (hdep 3 (dep_of (by kernel_rfl))))) (ldOrd (hI.sk n10)) ⟨_, rfl, ?_⟩⟩
      exact ⟨hI.G, hI.S, hI.mp, hI.sk, hI.kb, hI.od, hI.f0, hI.f1, hI.f2, hI.f3, fun _ => rfl, hI.f5, hI.f6, hI.f7, hI.f8, hI.f9, hI.fA, (fun _ => rfl), hI.d5, hI.d7, (fun _ => rfl), hI.e5⟩
    · obtain rfl := Option.some.inj hoi
      have n7 : L 7 = false := by cases q : L 7 with | false => rfl | true => have := hI.d5 q; rw [hL] at this; cases this
      refine ⟨rfl, wpLoadT rfl (at_old (by kernel_rfl)) (ldMk (hI.kb n7)) ⟨_, rfl, ?_⟩⟩
      exact ⟨hI.G, hI.S, hI.mp, hI.sk, hI.kb, hI.od, hI.f0, hI.f1, hI.f2, hI.f3, hI.f4, fun _ => rfl, hI.f6, hI.f7, hI.f8, hI.f9, hI.fA, hI.d4, (fun _ => rfl), hI.d7, hI.e4, (fun _ => rfl)⟩
    · obtain rfl := Option.some.inj hoi
      have hI2 := hI.grow (below_box w1 (.cells (mkC b) 127))
      refine ⟨rfl, wpLit1T rfl ((at_new (by kernel_rfl) 5 (Nat.le_of_ble_eq_true rfl) rfl (by decide) (hdep 5 (dep_of (by kernel_rfl)))).trans (hI.f5 (hdep 5 (dep_of (by kernel_rfl))))) (litMk b w1) ⟨_, rfl, ?_⟩⟩
      exact ⟨hI2.G, hI2.S, hI2.mp, hI2.sk, hI2.kb, hI2.od, hI2.f0, hI2.f1, hI2.f2, hI2.f3, hI2.f4, hI2.f5, fun _ => ⟨_, rfl, fun _ => BlkAt.box w1 _ _⟩, hI2.f7, hI2.f8, hI2.f9, hI2.fA, hI.d4, hI.d5, hI.d7, hI.e4, (fun _ => (hdep 5 (dep_of (by kernel_rfl))))⟩
    · obtain rfl := Option.some.inj hoi
      obtain ⟨q, eq, hq⟩ := hI.f6 (hdep 6 (dep_of (by kernel_rfl)))
      have hod := hI.od hL
      have hn10 : L 10 = false := by cases q : L 10 with | false => rfl | true => have := hI.d7 q; rw [hL] at this; cases this
      have hrow : w1.ownsRow B 127 2 (.slice p n c) (kvq.map (·.1)).length ((kvq.map (·.1)).flatMap mkL) := ord_row hod
      refine ⟨rfl, wp_append_lies w1 _ _ 101 rfl B 127 i0 (.agg #[.string ByteArray.empty, .int .i64 0]) 2 24 Try.underlying101 hi hz0 hz1 hz2 rfl (by decide) (.slice p n c) (kvq.map (·.1)).length ((kvq.map (·.1)).flatMap mkL) ((at_new (by kernel_rfl) 4 (Nat.le_of_ble_eq_true rfl) rfl (by decide) (hdep 4 (dep_of (by kernel_rfl)))).trans (hI.f4 (hdep 4 (dep_of (by kernel_rfl))))) hrow ⟨q, 0, none⟩ 1 1 (mkL b) ((at_new (by kernel_rfl) 6 (Nat.le_of_ble_eq_true rfl) rfl (by decide) (hdep 6 (dep_of (by kernel_rfl)))).trans eq) rfl (World.news_of_block (cs := mkC b) (t := 127) (fr := (0, 0)) (hq hL)) (by intro u hu; simp only [mkL, List.mem_cons, List.not_mem_nil, or_false] at hu; rcases hu with rfl | rfl <;> rfl) (by omega) (by unfold maxLen; omega) (by omega) hI.S _ rfl (fun g cap w' hown hgr hat hlt => ?_)⟩
      have ho := hod.own
      have hg : g ≠ s ∧ g ≠ m ∧ B ≤ g := by
        rcases hat with e | rfl
        · exact ⟨fun c => ho.1 (by rw [e, c]), fun c => ho.2.1 (by rw [e, c]), ho.2.2 g e⟩
        · have := (hI.sk hn10).lt; have := hI.mp.lt; exact ⟨by omega, by omega, hI.S⟩
      have hrw : RowL B 127 2 mkL (.slice (some ⟨g, 0, none⟩) (kvq.map (·.1) ++ [b]).length cap) (kvq.map (·.1) ++ [b]) w' := by
        unfold RowL
        rw [List.length_append, List.flatMap_append]
        exact hown
      have hord := row_ord hrw (by rw [List.length_append]; show _ + 1 ≤ _; omega)
      exact ⟨_, rfl, ⟨below_grw hI.G hgr hI.S (fun k hk => ho.2.2 k hk), Nat.le_trans hI.S hgr.size, hI.mp.kept hgr ho.2.1, fun _ => BlkAt.kept (hI.sk hn10) hgr ho.1, (fun h => by cases h), (fun h => by cases h), hI.f0, hI.f1, hI.f2, hI.f3, hI.f4, hI.f5, (fun h => by obtain ⟨q2, e2, _⟩ := hI.f6 h; exact ⟨q2, e2, fun z => by cases z⟩), fun _ => ⟨g, cap, rfl, hord, hg⟩, hI.f8, hI.f9, (fun h => by have h : L 10 = true := h; rw [hn10] at h; cases h), hI.d4, (fun _ => hI.e5 (hdep 6 (dep_of (by kernel_rfl)))), (fun _ => rfl), (fun _ => (hdep 4 (dep_of (by kernel_rfl)))), hI.e5⟩⟩
    · obtain rfl := Option.some.inj hoi
      refine ⟨rfl, wpNilT rfl ((at_new (by kernel_rfl) 0 (Nat.le_of_ble_eq_true rfl) rfl (by decide) (hdep 0 (dep_of (by kernel_rfl)))).trans (hI.f0 (hdep 0 (dep_of (by kernel_rfl))))) ⟨_, rfl, ?_⟩⟩
      exact ⟨hI.G, hI.S, hI.mp, hI.sk, hI.kb, hI.od, hI.f0, hI.f1, hI.f2, hI.f3, hI.f4, hI.f5, hI.f6, hI.f7, fun _ => rfl, hI.f9, hI.fA, hI.d4, hI.d5, hI.d7, hI.e4, hI.e5⟩
    · obtain rfl := Option.some.inj hoi
      refine ⟨rfl, wpFieldT rfl ((at_new (by kernel_rfl) 8 (Nat.le_of_ble_eq_true rfl) rfl (by decide) (hdep 8 (dep_of (by kernel_rfl)))).trans (hI.f8 (hdep 8 (dep_of (by kernel_rfl))))) (fdOrd _ w1) ⟨_, rfl, ?_⟩⟩
      exact ⟨hI.G, hI.S, hI.mp, hI.sk, hI.kb, hI.od, hI.f0, hI.f1, hI.f2, hI.f3, hI.f4, hI.f5, hI.f6, hI.f7, hI.f8, fun _ => rfl, hI.fA, hI.d4, hI.d5, hI.d7, hI.e4, hI.e5⟩
    · obtain rfl := Option.some.inj hoi
      obtain ⟨g, cap, eg, hO, hgs, hgm, hgB⟩ := hI.f7 (hdep 7 (dep_of (by kernel_rfl)))
      have hsk := hI.sk hL
      refine ⟨rfl, wpCellT rfl ((at_new (by kernel_rfl) 9 (Nat.le_of_ble_eq_true rfl) rfl (by decide) (hdep 9 (dep_of (by kernel_rfl)))).trans (hI.f9 (hdep 9 (dep_of (by kernel_rfl))))) ((at_new (by kernel_rfl) 7 (Nat.le_of_ble_eq_true rfl) rfl (by decide) (hdep 7 (dep_of (by kernel_rfl)))).trans eg) (stOrd hsk) ⟨_, rfl, ?_⟩⟩
      exact ⟨hI.G.setCell (p := ⟨s, 1, none⟩) hBs _, by simpa [World.setCell] using hI.S, hI.mp.grown (grown_set s 1 _) (Ne.symm hsm), (fun h => by cases h), (fun h => BlkAt.grM (grown_set s 1 _) hks (hI.kb h)), (fun h => (hI.od h).grown (grown_set s 1 _) (.inl rfl)), hI.f0, hI.f1, hI.f2, hI.f3, hI.f4, hI.f5, (fun h => by obtain ⟨q2, e2, h2⟩ := hI.f6 h; exact ⟨q2, e2, fun z => by have h7 := hdep 7 (dep_of (by kernel_rfl)); have z : L 7 = false := z; rw [h7] at z; cases z⟩), (fun _ => ⟨g, cap, eg, hO.grown (grown_set s 1 _) hgs, hgs, hgm, hgB⟩), hI.f8, hI.f9, fun _ => ⟨g, cap, BlkAt.set hsk 1 _, hO.grown (grown_set s 1 _) hgs, hgs, hgm, hgB⟩, (fun _ => hI.e4 (hdep 7 (dep_of (by kernel_rfl)))), hI.d5, (fun _ => (hdep 7 (dep_of (by kernel_rfl)))), hI.e4, hI.e5⟩
  intro f w5 hI
  obtain ⟨g, cap, hs5, hO5, hgs, hgm, hgB⟩ := hI.fA rfl
  have hm5 := hI.mp
  have HB5 := Lib.hid (HB4.out.trans hI.G)
  clear hI
  simp only [Go.My.putL, Nat.zero_add, Nat.reduceAdd, Act.put, List.setIfInBounds_toArray, List.set_cons_zero, List.set_cons_succ]
  generalize f 0 = y20 at *
  generalize f 1 = y21 at *
  generalize f 2 = y22 at *
  generalize f 3 = y23 at *
  generalize f 4 = y24 at *
  generalize f 5 = y25 at *
  generalize f 6 = y26 at *
  generalize f 7 = y27 at *
  generalize f 8 = y28 at *
  generalize f 9 = y29 at *
  have hQI : ((kvq.map (·.1)).length : Int) ≤ 19 := by omega
  have c5 := hs5.cell (j := 1) rfl
  simp at c5
  have HSK : Hid (SkAt B s (kvPut kv b key) w5) := by
    refine ⟨m, _, hs5, by rw [HPU.out]; exact hm5, .inr ⟨g, cap, ?_, ?_, hgs, hgm, hgB⟩, hsm, hBs, hBm, kvPut_unlike' HPU.out hd hno⟩
    · rw [HPU.out, List.map_append, List.length_append]; rfl
    · rw [HPU.out, List.map_append]; exact hO5
  clear hs5 hO5 hm5 hs4 bk4 ho4 hm4
  go_wp2
  go_loopw [] (fun wr => w5 = wr) (fun _ => 0)
  case atStart => exact rfl
  case round =>
    obtain rfl := hrel
    go_wp2
    go_end0
    exact ⟨rfl, HSK.out, HB5.out⟩

end Go.Proofs.Ytkglgficmealnaa

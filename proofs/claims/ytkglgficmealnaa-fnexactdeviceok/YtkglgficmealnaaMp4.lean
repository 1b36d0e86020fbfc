/- A mark removed from the skipped keys. -/
import Derived.Test.YtkglgficmealnaaMp3
import Derived.Test.YtkglgficmealnaaRegE
import Derived.Test.YtkglgficmealnaaRegF
import Derived.Deep.Cut
namespace Go.Proofs.Ytkglgficmealnaa
open Go.RowKit Go.My Go.Lib
set_option linter.unusedVariables false
set_option maxRecDepth 100000

theorem index_nil (kb : Nat) (w : World) :
    Calls Try.prog 106 #[.slice none 0 0, .func (.func 99) #[] #[.pointer (some ⟨kb, 0, none⟩)]] w fun e w' => e = .returned (.int .i64 (-1)) ∧ w = w' := by
  go_enter Try.func106, Try.ntmps106
  go_wp2
  go_loopw [8] (fun i wr => i = .int .i64 0 ∧ w = wr) (fun _ _ => 0)
  case atStart => exact ⟨rfl, rfl⟩
  case round =>
    obtain ⟨rfl, rfl⟩ := hrel
    go_wp2
    go_ret
    exact ⟨rfl, rfl⟩
theorem delete_nil (kb : Nat) (w : World) :
    Calls Try.prog 98 #[.slice none 0 0, .func (.func 99) #[] #[.pointer (some ⟨kb, 0, none⟩)]] w fun e w' => e = .returned (.slice none 0 0) ∧ w = w' := by
  go_enter Try.func98, Try.ntmps98
  go_wp2_with fail
  refine (index_nil kb w).mono ?_
  rintro e w1 ⟨rfl, rfl⟩
  go_wp2
  go_ret
  exact ⟨rfl, rfl⟩

/-- The list of marks as a value: none yet, or a block of them from B on that is neither s nor m. -/
def OrdV (B s m : Nat) (v : Value) (L : List Mk) (w : World) : Prop := (v = .slice none 0 0 ∧ L = []) ∨ ∃ g cap, v = .slice (some ⟨g, 0, none⟩) L.length cap ∧ OrdAt g cap L w ∧ g ≠ s ∧ g ≠ m ∧ B ≤ g
/-- Block s is the skipped keys: just these marks and keys, in this order; its blocks lie from B on. -/
def SkAt (B s : Nat) (kv : KV) (w : World) : Prop := ∃ m v, BlkAt s #[.map (some m), v] 103 w ∧ MapAt m kv w ∧ OrdV B s m v (kv.map (·.1)) w ∧ s ≠ m ∧ B ≤ s ∧ B ≤ m ∧ kv.Pairwise (fun x y => x.1 ≠ y.1)
theorem OrdV.grown {B s m k : Nat} {v : Value} {L : List Mk} {w w' : World} (h : OrdV B s m v L w) (hg : w.grownBy w' (some k)) (hk : k = s ∨ k = m) : OrdV B s m v L w' := by
  rcases h with h | ⟨g, cap, h1, h2, h3, h4, h5⟩
  · exact .inl h
  · exact .inr ⟨g, cap, h1, h2.grown hg (by rcases hk with rfl | rfl <;> assumption), h3, h4, h5⟩
theorem OrdV.below {B s m : Nat} {v : Value} {L : List Mk} {w w' : World} (h : OrdV B s m v L w) (hb : Below w.heap.size w w') : OrdV B s m v L w' := by
  rcases h with h | ⟨g, cap, h1, h2, h3⟩
  · exact .inl h
  · exact .inr ⟨g, cap, h1, h2.below hb, h3⟩
theorem nodup_of {kv : KV} (h : kv.Pairwise (fun x y => x.1 ≠ y.1)) : (kv.map (·.1)).Nodup := List.pairwise_map.2 h
theorem map_filter {kv : KV} (b : Mk) : (kv.filter (fun x => decide (x.1 ≠ b))).map (·.1) = (kv.map (·.1)).filter (fun x => decide (x ≠ b)) := by
  rw [List.filter_map]
  rfl

theorem ldMap {g j m : Nat} {w : World} (h : w.cell? ⟨g, j, none⟩ = some (.map (some m))) : (Instr.loadAt 100 (.pointer (some ⟨g, j, none⟩))).run Try.prog w = .ok (.map (some m)) w := by
  simp [Instr.loadAt, go_sem, h]
theorem ldMk {g : Nat} {b : Mk} {w : World} (h : BlkAt g (mkC b) 127 w) : (Instr.loadAt 127 (.pointer (some ⟨g, 0, none⟩))).run Try.prog w = .ok (mkV b) w := by
  have c0 := h.cell (j := 0) rfl
  have c1 := h.cell (j := 1) rfl
  simp at c0 c1
  simp [Instr.loadAt, go_sem, c0, c1]
theorem fdKeys (s : Nat) (w : World) : (Instr.fieldAt 103 (.pointer (some ⟨s, 0, none⟩)) 0).run Try.prog w = .ok (.pointer (some ⟨s, 0, none⟩)) w := by simp [Instr.fieldAt, go_sem]
theorem belowSz {B : Nat} {u v : World} (h : Below B u v) (hB : B ≤ u.heap.size) : B ≤ v.heap.size := Nat.le_trans hB h.size
/-- What lies from N on is as it was. -/
def Kp (N : Nat) (w w' : World) : Prop := w.heap.size ≤ w'.heap.size ∧ ∀ k, N ≤ k → k < w.heap.size → w'.heap[k]? = w.heap[k]?
theorem Kp.refl (N : Nat) (w : World) : Kp N w w := ⟨Nat.le_refl _, fun _ _ _ => rfl⟩
theorem Kp.below {N : Nat} {w a b : World} (h : Kp N w a) (hb : Below a.heap.size a b) : Kp N w b := ⟨Nat.le_trans h.1 hb.size, fun k h1 h2 => (hb.block k (Nat.lt_of_lt_of_le h2 h.1)).trans (h.2 k h1 h2)⟩
theorem Kp.grown {N q : Nat} {w a b : World} (h : Kp N w a) (hg : a.grownBy b (some q)) (hq : q < N) : Kp N w b := ⟨Nat.le_trans h.1 hg.size, fun k h1 h2 => (hg.block k (Nat.lt_of_lt_of_le h2 h.1) (fun c => by have := Option.some.inj c; omega)).trans (h.2 k h1 h2)⟩
theorem Kp.blk {N k : Nat} {cs : Array Value} {T : TypeId} {w a : World} (h : Kp N w a) (hk : N ≤ k) (hb : BlkAt k cs T w) : BlkAt k cs T a := (h.2 k hk hb.lt).trans hb
set_option maxHeartbeats 4000000 in
theorem remove_nil (B s m : Nat) (kv : KV) (b : Mk) (w : World) (hs : BlkAt s #[.map (some m), .slice none 0 0] 103 w) (hm : MapAt m kv w) (hsm : s ≠ m) (hBs : B ≤ s) (hBm : B ≤ m) (hd : kv.Pairwise (fun x y => x.1 ≠ y.1)) (hBw : B ≤ w.heap.size) (N : Nat) (hsN : s < N) (hmN : m < N) :
    Calls Try.prog 89 #[.pointer (some ⟨s, 0, none⟩), mkV b] w fun e w' => e = .returned (.tuple #[]) ∧ BlkAt s #[.map (some m), .slice none 0 0] 103 w' ∧ MapAt m (kv.filter (fun x => decide (x.1 ≠ b))) w' ∧ Below B w w' ∧ Kp N w w' := by
  have ls := hs.lt
  have lm := hm.lt
  have hmf : ∀ (fn : Fn) (first cap : Array Value) (w : World), (Instr.makeFunc fn first cap).run Try.prog w = .ok (.func fn first cap) w := fun _ _ _ _ => rfl
  have hb0 := below_box w (.cells (mkC b) 127)
  have bk := BlkAt.box w (mkC b) 127
  have hs0 := BlkAt.below hb0 hs
  have hm0 := hm.below hb0
  have HB0 : Below B w (w.alloc (.cells (mkC b) 127)) := hb0.mono hBw
  have KP0 := Lib.hid ((Kp.refl N w).below hb0)
  have hks : w.heap.size ≠ s := by omega
  have hkm : w.heap.size ≠ m := by omega
  have hkB : B ≤ w.heap.size := hBw
  have hBwH := Lib.hid hBw
  clear hs hm ls lm hb0
  obtain ⟨kb, hkb⟩ : ∃ kb, w.heap.size = kb := ⟨_, rfl⟩
  have hBw0 : B ≤ w.heap.size := hBw
  rw [hkb] at bk hks hkm 
  clear hBwH
  go_enter Try.func89, Try.ntmps89
  go_upto_region 1 with (fail)
  refine region_rest 5 (kdAt [.val (.pointer (some ⟨s, 0, none⟩)), .val (.pointer (some ⟨s, 0, none⟩)), .val (.pointer (some ⟨s, 0, none⟩)), .val (.map (some m)), .val (mkV b)]) [some 4, some 5, some 6, some 7, some 8] (by kernel_rfl) (by decide) (by kernel_rfl) (by kernel_rfl) (by kernel_rfl) (by kernel_rfl) (by kernel_rfl) _ (fun a w h => anyStep (n := 0) (i := 5) (by kernel_rfl) rfl (fun a w h => anyEnd (by kernel_rfl) h) h) ?_ ?_
  · repeat refine allS ?_ ?_
    · exact all0
    · exact stepMove rfl rfl rfl rfl (src_old (by kernel_rfl) rfl)
    · exact stepNil rfl rfl rfl rfl (src_new 0 (by decide) rfl rfl (by kernel_rfl))
    · exact stepField (.pointer (some ⟨s, 0, none⟩)) rfl rfl rfl rfl (src_new 1 (by decide) rfl rfl (by kernel_rfl)) (fun w => fdKeys s w)
    · exact stepLoad (.pointer (some ⟨s, 0, none⟩)) rfl rfl rfl rfl (src_new 2 (by decide) rfl rfl (by kernel_rfl)) (fun w hk => ldMap ((BlkAt.below (hk.below (nh0 rfl)) hs0).cell (j := 0) rfl))
    · exact stepLoad (.pointer (some ⟨kb, 0, none⟩)) rfl rfl rfl rfl (src_old (by kernel_rfl) rfl) (fun w hk => ldMk (BlkAt.below (hk.below (nh0 rfl)) bk))
  intro vv x1 hok hk
  replace hk := hk.all
  have v0 := okVal hok (j := 0) rfl rfl
  have v1 := okVal hok (j := 1) rfl rfl
  have v2 := okVal hok (j := 2) rfl rfl
  have v3 := okVal hok (j := 3) rfl rfl
  have v4 := okVal hok (j := 4) rfl rfl
  clear hok
  simp only [putL, Nat.zero_add, Nat.reduceAdd, v0, v1, v2, v3, v4, Act.put, List.setIfInBounds_toArray, List.set_cons_zero, List.set_cons_succ]
  clear v0 v1 v2 v3 v4
  have hbx := hk.below (nh0 rfl)
  have hs1 := BlkAt.below hbx hs0
  have bk1 := BlkAt.below hbx bk
  have hm1 := hm0.below hbx
  have HB1 := HB0.trans (hbx.mono (belowSz HB0 hBw0))
  have KP1 := Lib.hid (KP0.out.below hbx)
  clear hk hbx hs0 bk hm0 HB0
  obtain ⟨w2, hrun, hm2, g2⟩ := del_map m kv x1 hm1 b 0 hd
  have hs2 := BlkAt.grM g2 hsm hs1
  have bk2 := BlkAt.grM g2 hkm bk1
  have HB2 := HB1.grown g2 (belowSz HB1 hBw0) (by intro k hk; have := Option.some.inj hk; omega)
  have KP2 := Lib.hid (KP1.out.grown g2 hmN)
  have c1 := hs2.cell (j := 1) rfl
  have f1 := hs2.froz (j := 1)
  go_wp2_with fail
  refine (delete_nil kb w2).mono ?_
  rintro e w3 ⟨rfl, rfl⟩
  go_wp2
  go_end0
  exact ⟨rfl, hs2.set 1 _, hm2.grown (grown_set s 1 _) (Ne.symm hsm), HB2.setCell (p := ⟨s, 1, none⟩) hBs _, KP2.out.grown (grown_set s 1 _) hsN⟩

set_option maxHeartbeats 4000000 in
theorem remove_row (B s m g cap : Nat) (L : List Mk) (hnd : L.Nodup) (kv : KV) (b : Mk) (w : World) (hs : BlkAt s #[.map (some m), .slice (some ⟨g, 0, none⟩) L.length cap] 103 w) (hm : MapAt m kv w) (hO : OrdAt g cap L w) (hgs : g ≠ s) (hgm : g ≠ m) (hBg : B ≤ g) (hsm : s ≠ m) (hBs : B ≤ s) (hBm : B ≤ m) (hd : kv.Pairwise (fun x y => x.1 ≠ y.1)) (hBw : B ≤ w.heap.size) (N : Nat) (hsN : s < N) (hmN : m < N) (hgN : g < N) :
    Calls Try.prog 89 #[.pointer (some ⟨s, 0, none⟩), mkV b] w fun e w' => e = .returned (.tuple #[]) ∧ BlkAt s #[.map (some m), .slice (some ⟨g, 0, none⟩) (L.filter (fun x => decide (x ≠ b))).length cap] 103 w' ∧ MapAt m (kv.filter (fun x => decide (x.1 ≠ b))) w' ∧ OrdAt g cap (L.filter (fun x => decide (x ≠ b))) w' ∧ Below B w w' ∧ Kp N w w' := by
  have ls := hs.lt
  have lm := hm.lt
  have lg := hO.lt
  have hmf : ∀ (fn : Fn) (first cap : Array Value) (w : World), (Instr.makeFunc fn first cap).run Try.prog w = .ok (.func fn first cap) w := fun _ _ _ _ => rfl
  have hb0 := below_box w (.cells (mkC b) 127)
  have bk := BlkAt.box w (mkC b) 127
  have hs0 := BlkAt.below hb0 hs
  have hm0 := hm.below hb0
  have hO0 := hO.below hb0
  have HB0 : Below B w (w.alloc (.cells (mkC b) 127)) := hb0.mono hBw
  have KP0 := Lib.hid ((Kp.refl N w).below hb0)
  have hks : w.heap.size ≠ s := by omega
  have hkm : w.heap.size ≠ m := by omega
  have hkg : w.heap.size ≠ g := by omega
  have hkB : B ≤ w.heap.size := hBw
  have hBwH := Lib.hid hBw
  clear hs hm hO lg ls lm hb0
  obtain ⟨kb, hkb⟩ : ∃ kb, w.heap.size = kb := ⟨_, rfl⟩
  have hBw0 : B ≤ w.heap.size := hBw
  rw [hkb] at bk hks hkm hkg 
  clear hBwH
  have D := Lib.hid (fun w hO bk => delete_i g cap L kb b w hO bk hnd hkg)
  generalize L.filter (fun x => decide (x ≠ b)) = F at *
  go_enter Try.func89, Try.ntmps89
  go_upto_region 1 with (fail)
  refine region_rest 5 (kdAt [.val (.pointer (some ⟨s, 0, none⟩)), .val (.pointer (some ⟨s, 0, none⟩)), .val (.pointer (some ⟨s, 0, none⟩)), .val (.map (some m)), .val (mkV b)]) [some 4, some 5, some 6, some 7, some 8] (by kernel_rfl) (by decide) (by kernel_rfl) (by kernel_rfl) (by kernel_rfl) (by kernel_rfl) (by kernel_rfl) _ (fun a w h => anyStep (n := 0) (i := 5) (by kernel_rfl) rfl (fun a w h => anyEnd (by kernel_rfl) h) h) ?_ ?_
  · repeat refine allS ?_ ?_
    · exact all0
    · exact stepMove rfl rfl rfl rfl (src_old (by kernel_rfl) rfl)
    · exact stepNil rfl rfl rfl rfl (src_new 0 (by decide) rfl rfl (by kernel_rfl))
    · exact stepField (.pointer (some ⟨s, 0, none⟩)) rfl rfl rfl rfl (src_new 1 (by decide) rfl rfl (by kernel_rfl)) (fun w => fdKeys s w)
    · exact stepLoad (.pointer (some ⟨s, 0, none⟩)) rfl rfl rfl rfl (src_new 2 (by decide) rfl rfl (by kernel_rfl)) (fun w hk => ldMap ((BlkAt.below (hk.below (nh0 rfl)) hs0).cell (j := 0) rfl))
    · exact stepLoad (.pointer (some ⟨kb, 0, none⟩)) rfl rfl rfl rfl (src_old (by kernel_rfl) rfl) (fun w hk => ldMk (BlkAt.below (hk.below (nh0 rfl)) bk))
  intro vv x1 hok hk
  replace hk := hk.all
  have v0 := okVal hok (j := 0) rfl rfl
  have v1 := okVal hok (j := 1) rfl rfl
  have v2 := okVal hok (j := 2) rfl rfl
  have v3 := okVal hok (j := 3) rfl rfl
  have v4 := okVal hok (j := 4) rfl rfl
  clear hok
  simp only [putL, Nat.zero_add, Nat.reduceAdd, v0, v1, v2, v3, v4, Act.put, List.setIfInBounds_toArray, List.set_cons_zero, List.set_cons_succ]
  clear v0 v1 v2 v3 v4
  have hbx := hk.below (nh0 rfl)
  have hs1 := BlkAt.below hbx hs0
  have bk1 := BlkAt.below hbx bk
  have hm1 := hm0.below hbx
  have hO1 := hO0.below hbx
  have HB1 := HB0.trans (hbx.mono (belowSz HB0 hBw0))
  have KP1 := Lib.hid (KP0.out.below hbx)
  clear hk hbx hs0 bk hm0 HB0 hO0
  obtain ⟨w2, hrun, hm2, g2⟩ := del_map m kv x1 hm1 b 0 hd
  have hs2 := BlkAt.grM g2 hsm hs1
  have bk2 := BlkAt.grM g2 hkm bk1
  have hO2 := hO1.grown g2 hgm
  have HB2 := HB1.grown g2 (belowSz HB1 hBw0) (by intro k hk; have := Option.some.inj hk; omega)
  have KP2 := Lib.hid (KP1.out.grown g2 hmN)
  have c1 := hs2.cell (j := 1) rfl
  have f1 := hs2.froz (j := 1)
  go_wp2_with fail
  refine (D.out w2 hO2 bk2).mono ?_
  rintro e w3 ⟨rfl, hO3, g3⟩
  have hs3 := BlkAt.grM g3 (Ne.symm hgs) hs2
  have hm3 := hm2.grown g3 (Ne.symm hgm)
  have HB3 := HB2.grown g3 (belowSz HB2 hBw0) (by intro k hk; have := Option.some.inj hk; omega)
  have KP3 := Lib.hid (KP2.out.grown g3 hgN)
  clear c1 f1
  have c1 := hs3.cell (j := 1) rfl
  have f1 := hs3.froz (j := 1)
  go_wp2
  go_end0
  exact ⟨rfl, hs3.set 1 _, hm3.grown (grown_set s 1 _) (Ne.symm hsm), hO3.grown (grown_set s 1 _) hgs, HB3.setCell (p := ⟨s, 1, none⟩) hBs _, KP3.out.grown (grown_set s 1 _) hsN⟩

/-- .. and all of it lies below N. -/
def SkN (B N s : Nat) (kv : KV) (w : World) : Prop := ∃ m v, BlkAt s #[.map (some m), v] 103 w ∧ MapAt m kv w ∧ OrdV B s m v (kv.map (·.1)) w ∧ s ≠ m ∧ B ≤ s ∧ B ≤ m ∧ kv.Pairwise (fun x y => x.1 ≠ y.1) ∧ s < N ∧ m < N ∧ ∀ q, v.ownBlock = some q → q < N
theorem SkN.at {B N s : Nat} {kv : KV} {w : World} (h : SkN B N s kv w) : SkAt B s kv w := by
  obtain ⟨m, v, h1, h2, h3, h4, h5, h6, h7, _⟩ := h
  exact ⟨m, v, h1, h2, h3, h4, h5, h6, h7⟩
theorem SkAt.toN {B s : Nat} {kv : KV} {w : World} (h : SkAt B s kv w) : SkN B w.heap.size s kv w := by
  obtain ⟨m, v, h1, h2, h3, h4, h5, h6, h7⟩ := h
  refine ⟨m, v, h1, h2, h3, h4, h5, h6, h7, h1.lt, h2.lt, fun q hq => ?_⟩
  rcases h3 with ⟨rfl, _⟩ | ⟨g, cap, rfl, hO, _⟩
  · cases hq
  · rw [← Option.some.inj hq]; exact hO.lt
theorem SkN.below {B N s : Nat} {kv : KV} {w w' : World} (h : SkN B N s kv w) (hb : Below w.heap.size w w') : SkN B N s kv w' := by
  obtain ⟨m, v, h1, h2, h3, h4⟩ := h
  exact ⟨m, v, BlkAt.below hb h1, h2.below hb, h3.below hb, h4⟩
theorem SkAt.below {B s : Nat} {kv : KV} {w w' : World} (h : SkAt B s kv w) (hb : Below w.heap.size w w') : SkAt B s kv w' := by
  obtain ⟨m, v, h1, h2, h3, h4⟩ := h
  exact ⟨m, v, BlkAt.below hb h1, h2.below hb, h3.below hb, h4⟩
theorem remove_n (B N s : Nat) (kv : KV) (b : Mk) (w : World) (h : SkN B N s kv w) (hBw : B ≤ w.heap.size) :
    Calls Try.prog 89 #[.pointer (some ⟨s, 0, none⟩), mkV b] w fun e w' => e = .returned (.tuple #[]) ∧ SkN B N s (kv.filter (fun x => decide (x.1 ≠ b))) w' ∧ Below B w w' ∧ Kp N w w' := by
  obtain ⟨m, v, hs, hm, ho, hsm, hBs, hBm, hd, hsN, hmN, hvN⟩ := h
  have hd' := hd.filter (fun x => decide (x.1 ≠ b))
  rcases ho with ⟨rfl, hL⟩ | ⟨g, cap, rfl, hO, hgs, hgm, hBg⟩
  · refine (remove_nil B s m kv b w hs hm hsm hBs hBm hd hBw N hsN hmN).mono ?_
    rintro e w' ⟨rfl, h1, h2, h3, h4⟩
    exact ⟨rfl, ⟨m, _, h1, h2, .inl ⟨rfl, by rw [map_filter, hL]; rfl⟩, hsm, hBs, hBm, hd', hsN, hmN, fun q c => by cases c⟩, h3, h4⟩
  · have hgN : g < N := hvN g rfl
    refine (remove_row B s m g cap _ (nodup_of hd) kv b w hs hm hO hgs hgm hBg hsm hBs hBm hd hBw N hsN hmN hgN).mono ?_
    rintro e w' ⟨rfl, h1, h2, h3, h4, h5⟩
    exact ⟨rfl, ⟨m, _, h1, h2, .inr ⟨g, cap, by rw [map_filter], by rw [map_filter]; exact h3, hgs, hgm, hBg⟩, hsm, hBs, hBm, hd', hsN, hmN, fun q c => by rw [← Option.some.inj c]; exact hgN⟩, h4, h5⟩
theorem remove_i (B s : Nat) (kv : KV) (b : Mk) (w : World) (h : SkAt B s kv w) (hBw : B ≤ w.heap.size) :
    Calls Try.prog 89 #[.pointer (some ⟨s, 0, none⟩), mkV b] w fun e w' => e = .returned (.tuple #[]) ∧ SkAt B s (kv.filter (fun x => decide (x.1 ≠ b))) w' ∧ Below B w w' := by
  refine (remove_n B _ s kv b w h.toN hBw).mono ?_
  rintro e w' ⟨rfl, h1, h2, _⟩
  exact ⟨rfl, h1.at, h2⟩

end Go.Proofs.Ytkglgficmealnaa

/- What is drawn of bent bytes; the draws of chapter 5: bounds alone. -/
import Derived.Test.YtmolcpojdojmlaaDoorDrawE
import Derived.Test.YtmolcpojdojmlaaDoorWireL
namespace Go.Proofs.YtmolcpojdojmlaaDoor
open Go.RowKit Go.My Go.Lib
set_option linter.unusedVariables false
set_option maxRecDepth 100000

set_option maxHeartbeats 2000000 in
theorem bent_any (B g : Nat) (s : ByteArray) (w : World) (h : Rd B w g) (hs : s.size ≤ 100000) : Calls Tryd.prog 30 #[.pointer (some ⟨g, 0, none⟩), .string s] w (DrawnStr (s.size + 1) B g w) := by
  have hs1 : (s.size : Int) ≤ 100000 := by omega
  have hw1 : IntKind.i64.wrap ((s.size : Int) + 1) = (s.size : Int) + 1 := IntWalk.i64_in _ (by omega)
  go_enter Tryd.func30, Tryd.ntmps30
  go_wp2_with fail
  refine (below_any B g 6 _ h (by omega) (by omega)).mono ?_
  rintro e w1 ⟨n, rfl, hn0, hn1, hR1, hg1⟩
  by_cases n0 : n = 0
  · subst n0
    go_wp2_with fail
    refine (hurt_any B g s _ hR1 hs).mono ?_
    rintro e w2 ⟨t, rfl, ht, hR2, hg2⟩
    go_wp2
    go_ret
    exact ⟨t, rfl, ht, hR2, grown_trans hg1 hg2⟩
  have e0 : (n == 0) = false := by simpa using n0
  by_cases n1 : n = 1
  · subst n1
    go_wp2_with fail
    refine (below_any B g _ _ hR1 (by omega) (by omega)).mono ?_
    rintro e w2 ⟨m, rfl, hm0, hm1, hR2, hg2⟩
    obtain ⟨r, rfl⟩ : ∃ r : Nat, m = (r : Int) := ⟨m.toNat, by omega⟩
    have hr : (r : Int) ≤ (s.size : Int) := by omega
    go_wp2
    go_ret
    exact ⟨_, rfl, by rw [ByteArray.size_extract]; omega, hR2, grown_trans hg1 hg2⟩
  have e1 : (n == 1) = false := by simpa using n1
  go_wp2
  go_ret
  exact ⟨s, rfl, by omega, hR1, hg1⟩

theorem BlkAt.gr0 {k : Nat} {cs : Array Value} {T : TypeId} {V W : World} (hg : V.grownBy W none) (h : BlkAt k cs T V) : BlkAt k cs T W := (hg.block k h.lt (fun e => by cases e)).trans h
theorem headSz (p : ByteArray) (a b : Int) : (Tryd.prog.info? 25).map (·.size) = some (headA p a b).size := by kernel_rfl
theorem headOne (p : ByteArray) (a b : Int) : (headA p a b).all (·.oneCell') = true := by kernel_rfl

set_option maxHeartbeats 2000000 in
theorem draw_msg (B : Nat) (c : Option Addr) (len cap : Nat) (w : World) (hB : B ≤ w.heap.size) (h : RdCode B w c len) : Calls Tryd.prog 10 #[.slice c len cap] w (fun e w' => ∃ (p : ByteArray) (a b : Int) (x : ByteArray), e = .returned (.agg (msgA p a b x)) ∧ (p.size ≤ 40 ∧ wfI a ∧ wfI b ∧ x.size ≤ 433) ∧ Below B w w') := by
  go_enter Tryd.func10, Tryd.ntmps10
  go_wp2_with fail
  have hb0 : Below B w (w.alloc (.cells #[.string ⟨#[]⟩, .int .i64 0, .int .i64 0, .string ⟨#[]⟩] 27)) := (Below.refl B w).alloc hB _
  have bq := BlkAt.box w #[.string ⟨#[]⟩, .int .i64 0, .int .i64 0, .string ⟨#[]⟩] 27
  have hB1 : B ≤ (w.alloc (.cells #[.string ⟨#[]⟩, .int .i64 0, .int .i64 0, .string ⟨#[]⟩] 27)).heap.size := by simp; omega
  refine (open_any B c len cap _ hB1 (h.below hb0)).mono ?_
  rintro e w1 ⟨rfl, hR1, hg1⟩
  have hb1 := hb0.trans (below_none hg1 hB1)
  have bq := BlkAt.gr0 hg1 bq
  have hlt := hR1.lt
  have kq : w.heap.size ≠ (w.alloc (.cells #[.string ⟨#[]⟩, .int .i64 0, .int .i64 0, .string ⟨#[]⟩] 27)).heap.size := by simp
  generalize (w.alloc (.cells #[.string ⟨#[]⟩, .int .i64 0, .int .i64 0, .string ⟨#[]⟩] 27)).heap.size = g at *
  clear hg1
  go_wp2_with fail
  refine (msg_any B _ _ hR1).mono ?_
  rintro e w2 ⟨p, a, b, x, rfl, hb, hR2, hg2⟩
  have hb2 := hb1.trans (grown_below hg2 hR1.1 hR1.2.1)
  have bq := bq.grown hg2 kq
  go_wp2_with (first
    | ((with_reducible refine wpList_store_row' (o := ⟨none, .store 27 _ _, _, _, _, _⟩) rfl 27 _ _ rfl w.heap.size (msgA p a b x) rfl rfl 27 #[.string ⟨#[]⟩, .int .i64 0, .int .i64 0, .string ⟨#[]⟩] bq.hN (msgSz p a b x) rfl (msgOne p a b x) ?_); intro wa hwa hsa hga)
    | fail)
  have qa : BlkAt w.heap.size (msgA p a b x) 27 wa := hwa
  have d0 := qa.cell (j := 0) rfl
  have d1 := qa.cell (j := 1) rfl
  have d2 := qa.cell (j := 2) rfl
  have d3 := qa.cell (j := 3) rfl
  refine bodyPost_ret (v := .agg (msgA p a b x)) (by simp [results, Tryd.results10, go_sem, d0, d1, d2, d3]) rfl ?_
  exact ⟨_, _, _, _, rfl, hb, hb2.grown hga hR2.2.1 (by intro j hj; have := Option.some.inj hj; omega)⟩

set_option maxHeartbeats 2000000 in
theorem draw_env (B : Nat) (c : Option Addr) (len cap : Nat) (w : World) (hB : B ≤ w.heap.size) (h : RdCode B w c len) : Calls Tryd.prog 17 #[.slice c len cap] w (fun e w' => ∃ (f t : Int) (z : Bool) (p q : ByteArray) (o : Int) (u : ByteArray) (a b : Int) (x : ByteArray), e = .returned (.agg (envA f t z p q o u a b x)) ∧ (wfI f ∧ wfI t ∧ p.size ≤ 40 ∧ q.size ≤ 40 ∧ wfI o ∧ u.size ≤ 40 ∧ wfI a ∧ wfI b ∧ x.size ≤ 433) ∧ Below B w w') := by
  go_enter Tryd.func17, Tryd.ntmps17
  go_wp2_with fail
  have hb0 : Below B w (w.alloc (.cells zeroE 29)) := (Below.refl B w).alloc hB _
  have bq := BlkAt.box w zeroE 29
  have hB1 : B ≤ (w.alloc (.cells zeroE 29)).heap.size := by simp; omega
  refine (open_any B c len cap _ hB1 (h.below hb0)).mono ?_
  rintro e w1 ⟨rfl, hR1, hg1⟩
  have hb1 := hb0.trans (below_none hg1 hB1)
  have bq := BlkAt.gr0 hg1 bq
  have hlt := hR1.lt
  have kq : w.heap.size ≠ (w.alloc (.cells zeroE 29)).heap.size := by simp
  generalize (w.alloc (.cells zeroE 29)).heap.size = g at *
  clear hg1
  go_wp2_with fail
  refine (env_any B _ _ hR1).mono ?_
  rintro e w2 ⟨f, t, z, p, q, o, u, a, b, x, rfl, hb, hR2, hg2⟩
  have hb2 := hb1.trans (grown_below hg2 hR1.1 hR1.2.1)
  have bq := bq.grown hg2 kq
  go_wp2_with (first
    | ((with_reducible refine wpList_store_row' (o := ⟨none, .store 29 _ _, _, _, _, _⟩) rfl 29 _ _ rfl w.heap.size (envA f t z p q o u a b x) rfl rfl 29 zeroE bq.hN (envSz f t z p q o u a b x) rfl (envOne f t z p q o u a b x) ?_); intro wa hwa hsa hga)
    | fail)
  have qa : BlkAt w.heap.size (envA f t z p q o u a b x) 29 wa := hwa
  have d0 := qa.cell (j := 0) rfl
  have d1 := qa.cell (j := 1) rfl
  have d2 := qa.cell (j := 2) rfl
  have d3 := qa.cell (j := 3) rfl
  have d4 := qa.cell (j := 4) rfl
  have d5 := qa.cell (j := 5) rfl
  have d6 := qa.cell (j := 6) rfl
  have d7 := qa.cell (j := 7) rfl
  have d8 := qa.cell (j := 8) rfl
  have d9 := qa.cell (j := 9) rfl
  refine bodyPost_ret (v := .agg (envA f t z p q o u a b x)) (by simp [results, Tryd.results17, go_sem, d0, d1, d2, d3, d4, d5, d6, d7, d8, d9]) rfl ?_
  exact ⟨_, _, _, _, _, _, _, _, _, _, rfl, hb, hb2.grown hga hR2.2.1 (by intro j hj; have := Option.some.inj hj; omega)⟩

end Go.Proofs.YtmolcpojdojmlaaDoor

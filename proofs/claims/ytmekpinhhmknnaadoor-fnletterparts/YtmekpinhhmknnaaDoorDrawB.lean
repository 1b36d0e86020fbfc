/- What is drawn of bent bytes; the draws of chapter 5: bounds alone. -/
import Derived.Test.YtmekpinhhmknnaaDoorDrawE
import Derived.Test.YtmekpinhhmknnaaDoorWireL
namespace Go.Proofs.YtmekpinhhmknnaaDoor
open Go.RowKit Go.My Go.Lib
set_option linter.unusedVariables false
set_option maxRecDepth 100000

theorem BlkAt.gr0 {k : Nat} {cs : Array Value} {T : TypeId} {V W : World} (hg : V.grownBy W none) (h : BlkAt k cs T V) : BlkAt k cs T W := (hg.block k h.lt (fun e => by cases e)).trans h
theorem headSz (p : ByteArray) (a b : Int) : (Tryd.prog.info? 40).map (·.size) = some (headA p a b).size := by kernel_rfl
theorem headOne (p : ByteArray) (a b : Int) : (headA p a b).all (·.oneCell') = true := by kernel_rfl

set_option maxHeartbeats 2000000 in
theorem draw_env (B : Nat) (c : Option Addr) (len cap : Nat) (w : World) (hB : B ≤ w.heap.size) (h : RdCode B w c len) : Calls Tryd.prog 48 #[.slice c len cap] w (fun e w' => ∃ (f t : Int) (z : Bool) (p q : ByteArray) (o : Int) (u : ByteArray) (a b : Int) (x : ByteArray), e = .returned (.agg (envA f t z p q o u a b x)) ∧ (wfI f ∧ wfI t ∧ p.size ≤ 40 ∧ q.size ≤ 40 ∧ wfI o ∧ u.size ≤ 40 ∧ wfI a ∧ wfI b ∧ x.size ≤ 433) ∧ Below B w w') := by
  go_enter Tryd.func48, Tryd.ntmps48
  go_wp2_with fail
  have hb0 : Below B w (w.alloc (.cells zeroE 44)) := (Below.refl B w).alloc hB _
  have bq := BlkAt.box w zeroE 44
  have hB1 : B ≤ (w.alloc (.cells zeroE 44)).heap.size := by simp; omega
  refine (open_any B c len cap _ hB1 (h.below hb0)).mono ?_
  rintro e w1 ⟨rfl, hR1, hg1⟩
  have hb1 := hb0.trans (below_none hg1 hB1)
  have bq := BlkAt.gr0 hg1 bq
  have hlt := hR1.lt
  have kq : w.heap.size ≠ (w.alloc (.cells zeroE 44)).heap.size := by simp
  generalize (w.alloc (.cells zeroE 44)).heap.size = g at *
  clear hg1
  go_wp2_with fail
  refine (env_any B _ _ hR1).mono ?_
  rintro e w2 ⟨f, t, z, p, q, o, u, a, b, x, rfl, hb, hR2, hg2⟩
  have hb2 := hb1.trans (grown_below hg2 hR1.1 hR1.2.1)
  have bq := bq.grown hg2 kq
  go_wp2_with (first
    | ((with_reducible refine wpList_store_row' (o := ⟨none, .store 44 _ _, _, _, _, _⟩) rfl 44 _ _ rfl w.heap.size (envA f t z p q o u a b x) rfl rfl 44 zeroE bq.hN (envSz f t z p q o u a b x) rfl (envOne f t z p q o u a b x) ?_); intro wa hwa hsa hga)
    | fail)
  have qa : BlkAt w.heap.size (envA f t z p q o u a b x) 44 wa := hwa
  have d0 := qa.cell (j := 0) rfl
  have d1 := qa.cell (j := 1) rfl
  have d2 := qa.cell (j := 2) rfl
  have d3 := qa.cell (j := 3) rfl
  have d4 := qa.cell (j := 4) rfl
  have d5 := qa.cell (j := 5) rfl
  have d6 := qa.cell (j := 6) rfl
  have d7 := qa.cell (j := 7) rfl
  have d8 := qa.cell (j := 8) rfl
  have d9 := qa.cell (j := 9) rfl
  refine bodyPost_ret (v := .agg (envA f t z p q o u a b x)) (by simp [results, Tryd.results48, go_sem, d0, d1, d2, d3, d4, d5, d6, d7, d8, d9]) rfl ?_
  exact ⟨_, _, _, _, _, _, _, _, _, _, rfl, hb, hb2.grown hga hR2.2.1 (by intro j hj; have := Option.some.inj hj; omega)⟩

end Go.Proofs.YtmekpinhhmknnaaDoor

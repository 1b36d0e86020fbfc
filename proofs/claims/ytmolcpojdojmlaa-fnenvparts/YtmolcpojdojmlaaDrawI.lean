/- What is drawn of initial keys: bounds alone. -/
import Derived.Test.YtmolcpojdojmlaaDrawB
import Derived.Test.YtmolcpojdojmlaaDrawR
namespace Go.Proofs.Ytmolcpojdojmlaa
open Go.RowKit Go.My Go.Lib
set_option linter.unusedVariables false
set_option maxRecDepth 100000

theorem initSz (p q : ByteArray) (o : Int) : (Try.prog.info? 25).map (·.size) = some (initA p q o).size := by kernel_rfl
theorem initOne (p q : ByteArray) (o : Int) : (initA p q o).all (·.oneCell') = true := by kernel_rfl
set_option maxHeartbeats 2000000 in
theorem draw_init (B : Nat) (c : Option Addr) (len cap : Nat) (w : World) (hB : B ≤ w.heap.size) (h : RdCode B w c len) : Calls Try.prog 8 #[.slice c len cap] w (fun e w' => ∃ (p q : ByteArray) (o : Int), e = .returned (.agg (initA p q o)) ∧ (p.size ≤ 40 ∧ q.size ≤ 40 ∧ wfI o) ∧ Below B w w') := by
  go_enter Try.func8, Try.ntmps8
  go_wp2_with fail
  have hb0 : Below B w (w.alloc (.cells #[.string ⟨#[]⟩, .string ⟨#[]⟩, .int .i64 0] 25)) := (Below.refl B w).alloc hB _
  have bq := BlkAt.box w #[.string ⟨#[]⟩, .string ⟨#[]⟩, .int .i64 0] 25
  have hB1 : B ≤ (w.alloc (.cells #[.string ⟨#[]⟩, .string ⟨#[]⟩, .int .i64 0] 25)).heap.size := by simp; omega
  refine (open_any B c len cap _ hB1 (h.below hb0)).mono ?_
  rintro e w1 ⟨rfl, hR1, hg1⟩
  have hb1 := hb0.trans (below_none hg1 hB1)
  have bq := BlkAt.gr0 hg1 bq
  have kq : w.heap.size ≠ (w.alloc (.cells #[.string ⟨#[]⟩, .string ⟨#[]⟩, .int .i64 0] 25)).heap.size := by simp
  generalize (w.alloc (.cells #[.string ⟨#[]⟩, .string ⟨#[]⟩, .int .i64 0] 25)).heap.size = g at *
  clear hg1
  go_wp2_with fail
  refine (key_any B _ _ hR1).mono ?_
  rintro e w2 ⟨p, rfl, hp, hR2, hg2⟩
  have hb2 := hb1.trans (grown_below hg2 hR1.1 hR1.2.1)
  have bq := bq.grown hg2 kq
  go_wp2_with fail
  refine (key_any B _ _ hR2).mono ?_
  rintro e w3 ⟨q, rfl, hq, hR3, hg3⟩
  have hb3 := hb2.trans (grown_below hg3 hR2.1 hR2.2.1)
  have bq := bq.grown hg3 kq
  go_wp2_with fail
  refine (off_any B _ 0 999 _ hR3 (by omega) (by omega) (by omega)).mono ?_
  rintro e w4 ⟨o, rfl, ho, hR4, hg4⟩
  have hb4 := hb3.trans (grown_below hg4 hR3.1 hR3.2.1)
  have bq := bq.grown hg4 kq
  go_wp2_with (first
    | ((with_reducible refine wpList_store_row' (o := ⟨none, .store 25 _ _, _, _, _, _⟩) rfl 25 _ _ rfl w.heap.size (initA p q o) rfl rfl 25 #[.string ⟨#[]⟩, .string ⟨#[]⟩, .int .i64 0] bq.hN (initSz p q o) rfl (initOne p q o) ?_); intro wa hwa hsa hga)
    | fail)
  have qa : BlkAt w.heap.size (initA p q o) 25 wa := hwa
  have d0 := qa.cell (j := 0) rfl
  have d1 := qa.cell (j := 1) rfl
  have d2 := qa.cell (j := 2) rfl
  refine bodyPost_ret (v := .agg (initA p q o)) (by simp [results, Try.results8, go_sem, d0, d1, d2]) rfl ?_
  exact ⟨_, _, _, rfl, ⟨hp, hq, ho⟩, hb4.grown hga hR4.2.1 (by intro j hj; have := Option.some.inj hj; omega)⟩

end Go.Proofs.Ytmolcpojdojmlaa

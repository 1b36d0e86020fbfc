/- What is drawn of envelopes and of bent bytes: bounds alone. -/
import Derived.Test.YtmekpinhhmknnaaDoorDrawN
import Derived.Test.YtmekpinhhmknnaaDoorRdM7
namespace Go.Proofs.YtmekpinhhmknnaaDoor
open Go.RowKit Go.My Go.Lib
set_option linter.unusedVariables false
set_option maxRecDepth 100000

set_option maxHeartbeats 8000000 in
theorem env_any (B g : Nat) (w : World) (h : Rd B w g) : Calls Tryd.prog 67 #[.pointer (some ⟨g, 0, none⟩)] w (DrawnEnv B g w) := by
  go_enter Tryd.func67, Tryd.ntmps67
  go_wp2_with fail
  have hlt := h.lt
  have hB0 : B ≤ w.heap.size := h.2.1
  have w00 : wfI 0 := wfI_mid (by omega) (by omega)
  have hR := h.alloc (.cells zeroE 44)
  have hG : w.grownBy (w.alloc (.cells zeroE 44)) (some g) := World.grownBy_alloc w _ _
  have q := BlkAt.box w zeroE 44
  have kq : w.heap.size ≠ g := by omega
  refine (below_any B g 4 _ hR (by omega) (by omega)).mono ?_
  rintro e w1 ⟨f0, rfl, hf0, hf1, hR, hg⟩
  have hG := grown_trans hG hg
  have q := q.grown hg kq
  clear hg
  have wf0 : IntKind.i64.wrap (1 + f0) = 1 + f0 := IntWalk.i64_in _ (by omega)
  go_wp2_with fail
  refine (below_any B g 4 _ hR (by omega) (by omega)).mono ?_
  rintro e w2 ⟨t0, rfl, ht0, ht1, hR, hg⟩
  have hG := grown_trans hG hg
  have q := q.grown hg kq
  clear hg
  have wt0 : IntKind.i64.wrap (1 + t0) = 1 + t0 := IntWalk.i64_in _ (by omega)
  go_wp2_with fail
  refine (once_any B g 2 _ hR (by omega) (by omega)).mono ?_
  rintro e w3 ⟨z, rfl, hR, hg⟩
  have hG := grown_trans hG hg
  have q := q.grown hg kq
  clear hg
  go_wp2_with fail
  refine (msg_any B g _ hR).mono ?_
  rintro e w4 ⟨u, a, b, x, rfl, ⟨hu, wa0, wb0, hx⟩, hR, hg⟩
  have hG := grown_trans hG hg
  have q := q.grown hg kq
  clear hg
  have wf : wfI (1 + f0) := wfI_mid (by omega) (by omega)
  have wt : wfI (1 + t0) := wfI_mid (by omega) (by omega)
  have wt2 : wfI (1 + f0 + 1) := wfI_mid (by omega) (by omega)
  have w1f : IntKind.i64.wrap (1 + f0 + 1) = 1 + f0 + 1 := IntWalk.i64_in _ (by omega)
  have hl4 := hR.lt
  have hs4 := hG.size
  have hlq := q.lt
  have hqk : w.heap.size ≠ w4.heap.size := by omega
  have hkw : w.heap.size ≤ w4.heap.size := by omega
  have hkB : B ≤ w4.heap.size := by omega
  have ko : w4.heap.size ≠ g := by omega
  clear hf0 hf1 ht0 ht1 hl4 hs4 hlq hlt
  by_cases hft : t0 = f0
  · subst hft
    have eft : ((1 + t0 : Int) == 1 + t0) = true := by simp
    generalize 1 + t0 = f at *
    skip
    have o := BlkAt.box w4 (envA f (f + 1) z ⟨#[]⟩ ⟨#[]⟩ 0 u a b x) 44
    have q := q.past (.cells (envA f (f + 1) z ⟨#[]⟩ ⟨#[]⟩ 0 u a b x) 44)
    have hR := hR.alloc (.cells (envA f (f + 1) z ⟨#[]⟩ ⟨#[]⟩ 0 u a b x) 44)
    have hG := grown_alloc hG (.cells (envA f (f + 1) z ⟨#[]⟩ ⟨#[]⟩ 0 u a b x) 44)
    cases z with
    | false =>
      go_wp2_with fail
      refine (below_any B g 24 _ hR (by omega) (by omega)).mono ?_
      rintro e w9 ⟨n, rfl, hn0, hn1, hR, hg⟩
      have hG := grown_trans hG hg
      have q := q.grown hg kq
      have o := o.grown hg ko
      clear hg
      generalize w4.heap.size = k at *
      by_cases n0 : n = 0
      · subst n0
        go_wp2_with fail
        refine (off_any B g 1 9 _ hR (by omega) (by omega) (by omega)).mono ?_
        rintro e wb ⟨y, rfl, hy, hR, hg⟩
        have hG := grown_trans hG hg
        have q := q.grown hg kq
        have o := o.grown hg ko
        clear hg
        have c0 := o.cell (j := 0) rfl
        have f0 := o.froz (j := 0)
        have oX : BlkAt k (envA y (f + 1) false ⟨#[]⟩ ⟨#[]⟩ 0 u a b x) 44 _ := (o.set 0 (.int .i64 y))
        have qX := (q.other (l := k) 0 (.int .i64 y) hqk)
        have hRX := (hR.setNew k 0 (.int .i64 y) ko hkB)
        have hGX := (grown_setNew hG k 0 (.int .i64 y) hkw)
        go_wp2_with (first
          | (with_reducible refine wpList_load_row (o := ⟨some 47, _, _, _, _, _⟩) rfl 44 _ rfl k rfl 44 (envA y (f + 1) false ⟨#[]⟩ ⟨#[]⟩ 0 u a b x) (0, 0) _ oX.hN Tryd.underlying44 rfl (envSz y (f + 1) false ⟨#[]⟩ ⟨#[]⟩ 0 u a b x) ?_)
          | ((with_reducible refine wpList_store_row' (o := ⟨none, .store 44 _ _, _, _, _, _⟩) rfl 44 _ _ rfl w.heap.size (envA y (f + 1) false ⟨#[]⟩ ⟨#[]⟩ 0 u a b x) rfl rfl 44 zeroE qX.hN (envSz y (f + 1) false ⟨#[]⟩ ⟨#[]⟩ 0 u a b x) rfl (envOne y (f + 1) false ⟨#[]⟩ ⟨#[]⟩ 0 u a b x) ?_); intro wa hwa hsa hga)
          | fail)
        have qa : BlkAt w.heap.size (envA y (f + 1) false ⟨#[]⟩ ⟨#[]⟩ 0 u a b x) 44 wa := hwa
        have d0 := qa.cell (j := 0) rfl
        have d1 := qa.cell (j := 1) rfl
        have d2 := qa.cell (j := 2) rfl
        have d3 := qa.cell (j := 3) rfl
        have d4 := qa.cell (j := 4) rfl
        have d5 := qa.cell (j := 5) rfl
        have d6 := qa.cell (j := 6) rfl
        have d7 := qa.cell (j := 7) rfl
        have d8 := qa.cell (j := 8) rfl
        have d9 := qa.cell (j := 9) rfl
        refine bodyPost_ret (v := .agg (envA y (f + 1) false ⟨#[]⟩ ⟨#[]⟩ 0 u a b x)) (by simp [results, Tryd.results67, go_sem, d0, d1, d2, d3, d4, d5, d6, d7, d8, d9]) rfl ?_
        exact ⟨_, _, _, _, _, _, _, _, _, _, rfl, ⟨hy, wt2, Nat.zero_le _, Nat.zero_le _, w00, hu, wa0, wb0, hx⟩, hRX.kept hga (fun e => kq (Option.some.inj e)) (fun j hj => by have := Option.some.inj hj; omega), grown_new hGX hga (Nat.le_refl _)⟩
      have e0 : (n == 0) = false := by simpa using n0
      by_cases n1 : n = 1
      · subst n1
        go_wp2_with fail
        refine (off_any B g 0 999 _ hR (by omega) (by omega) (by omega)).mono ?_
        rintro e wb ⟨y, rfl, hy, hR, hg⟩
        have hG := grown_trans hG hg
        have q := q.grown hg kq
        have o := o.grown hg ko
        clear hg
        have c5 := o.cell (j := 5) rfl
        have f5 := o.froz (j := 5)
        have oX : BlkAt k (envA f (f + 1) false ⟨#[]⟩ ⟨#[]⟩ y u a b x) 44 _ := (o.set 5 (.int .i64 y))
        have qX := (q.other (l := k) 5 (.int .i64 y) hqk)
        have hRX := (hR.setNew k 5 (.int .i64 y) ko hkB)
        have hGX := (grown_setNew hG k 5 (.int .i64 y) hkw)
        go_wp2_with (first
          | (with_reducible refine wpList_load_row (o := ⟨some 47, _, _, _, _, _⟩) rfl 44 _ rfl k rfl 44 (envA f (f + 1) false ⟨#[]⟩ ⟨#[]⟩ y u a b x) (0, 0) _ oX.hN Tryd.underlying44 rfl (envSz f (f + 1) false ⟨#[]⟩ ⟨#[]⟩ y u a b x) ?_)
          | ((with_reducible refine wpList_store_row' (o := ⟨none, .store 44 _ _, _, _, _, _⟩) rfl 44 _ _ rfl w.heap.size (envA f (f + 1) false ⟨#[]⟩ ⟨#[]⟩ y u a b x) rfl rfl 44 zeroE qX.hN (envSz f (f + 1) false ⟨#[]⟩ ⟨#[]⟩ y u a b x) rfl (envOne f (f + 1) false ⟨#[]⟩ ⟨#[]⟩ y u a b x) ?_); intro wa hwa hsa hga)
          | fail)
        have qa : BlkAt w.heap.size (envA f (f + 1) false ⟨#[]⟩ ⟨#[]⟩ y u a b x) 44 wa := hwa
        have d0 := qa.cell (j := 0) rfl
        have d1 := qa.cell (j := 1) rfl
        have d2 := qa.cell (j := 2) rfl
        have d3 := qa.cell (j := 3) rfl
        have d4 := qa.cell (j := 4) rfl
        have d5 := qa.cell (j := 5) rfl
        have d6 := qa.cell (j := 6) rfl
        have d7 := qa.cell (j := 7) rfl
        have d8 := qa.cell (j := 8) rfl
        have d9 := qa.cell (j := 9) rfl
        refine bodyPost_ret (v := .agg (envA f (f + 1) false ⟨#[]⟩ ⟨#[]⟩ y u a b x)) (by simp [results, Tryd.results67, go_sem, d0, d1, d2, d3, d4, d5, d6, d7, d8, d9]) rfl ?_
        exact ⟨_, _, _, _, _, _, _, _, _, _, rfl, ⟨wf, wt2, Nat.zero_le _, Nat.zero_le _, hy, hu, wa0, wb0, hx⟩, hRX.kept hga (fun e => kq (Option.some.inj e)) (fun j hj => by have := Option.some.inj hj; omega), grown_new hGX hga (Nat.le_refl _)⟩
      have e1 : (n == 1) = false := by simpa using n1
      have oX := o
      have qX := q
      have hRX := hR
      have hGX := hG
      go_wp2_with (first
        | (with_reducible refine wpList_load_row (o := ⟨some 47, _, _, _, _, _⟩) rfl 44 _ rfl k rfl 44 (envA f (f + 1) false ⟨#[]⟩ ⟨#[]⟩ 0 u a b x) (0, 0) _ oX.hN Tryd.underlying44 rfl (envSz f (f + 1) false ⟨#[]⟩ ⟨#[]⟩ 0 u a b x) ?_)
        | ((with_reducible refine wpList_store_row' (o := ⟨none, .store 44 _ _, _, _, _, _⟩) rfl 44 _ _ rfl w.heap.size (envA f (f + 1) false ⟨#[]⟩ ⟨#[]⟩ 0 u a b x) rfl rfl 44 zeroE qX.hN (envSz f (f + 1) false ⟨#[]⟩ ⟨#[]⟩ 0 u a b x) rfl (envOne f (f + 1) false ⟨#[]⟩ ⟨#[]⟩ 0 u a b x) ?_); intro wa hwa hsa hga)
        | fail)
      have qa : BlkAt w.heap.size (envA f (f + 1) false ⟨#[]⟩ ⟨#[]⟩ 0 u a b x) 44 wa := hwa
      have d0 := qa.cell (j := 0) rfl
      have d1 := qa.cell (j := 1) rfl
      have d2 := qa.cell (j := 2) rfl
      have d3 := qa.cell (j := 3) rfl
      have d4 := qa.cell (j := 4) rfl
      have d5 := qa.cell (j := 5) rfl
      have d6 := qa.cell (j := 6) rfl
      have d7 := qa.cell (j := 7) rfl
      have d8 := qa.cell (j := 8) rfl
      have d9 := qa.cell (j := 9) rfl
      refine bodyPost_ret (v := .agg (envA f (f + 1) false ⟨#[]⟩ ⟨#[]⟩ 0 u a b x)) (by simp [results, Tryd.results67, go_sem, d0, d1, d2, d3, d4, d5, d6, d7, d8, d9]) rfl ?_
      exact ⟨_, _, _, _, _, _, _, _, _, _, rfl, ⟨wf, wt2, Nat.zero_le _, Nat.zero_le _, w00, hu, wa0, wb0, hx⟩, hRX.kept hga (fun e => kq (Option.some.inj e)) (fun j hj => by have := Option.some.inj hj; omega), grown_new hGX hga (Nat.le_refl _)⟩
    | true =>
      go_wp2_with fail
      refine (key_any B g _ hR).mono ?_
      rintro e w5 ⟨p1, rfl, hp1, hR, hg⟩
      have hG := grown_trans hG hg
      have q := q.grown hg kq
      have o := o.grown hg ko
      clear hg
      generalize w4.heap.size = k at *
      go_wp2_with fail
      refine (key_any B g _ hR).mono ?_
      rintro e w6 ⟨q1, rfl, hq1, hR, hg⟩
      have hG := grown_trans hG hg
      have q := q.grown hg kq
      have o := o.grown hg ko
      clear hg
      go_wp2_with fail
      refine (below_any B g 4 _ hR (by omega) (by omega)).mono ?_
      rintro e w7 ⟨o1, rfl, ho0, ho1, hR, hg⟩
      have hG := grown_trans hG hg
      have q := q.grown hg kq
      have o := o.grown hg ko
      clear hg
      have wo1 : wfI o1 := wfI_mid ho0 (by omega)
      clear ho0 ho1
      have c3 := o.cell (j := 3) rfl
      have f3 := o.froz (j := 3)
      have c4 := o.cell (j := 4) rfl
      have f4 := o.froz (j := 4)
      have c5 := o.cell (j := 5) rfl
      have f5 := o.froz (j := 5)
      have oX : BlkAt k (envA f (f + 1) true p1 q1 o1 u a b x) 44 _ := (((o.set 3 (.string p1)).set 4 (.string q1)).set 5 (.int .i64 o1))
      have qX := (((q.other (l := k) 3 (.string p1) hqk).other (l := k) 4 (.string q1) hqk).other (l := k) 5 (.int .i64 o1) hqk)
      have hRX := (((hR.setNew k 3 (.string p1) ko hkB).setNew k 4 (.string q1) ko hkB).setNew k 5 (.int .i64 o1) ko hkB)
      have hGX := (grown_setNew (grown_setNew (grown_setNew hG k 3 (.string p1) hkw) k 4 (.string q1) hkw) k 5 (.int .i64 o1) hkw)
      clear o q hR hG
      have o := oX
      have q := qX
      have hR := hRX
      have hG := hGX
      clear oX qX hRX hGX
      go_wp2_with fail
      refine (below_any B g 24 _ hR (by omega) (by omega)).mono ?_
      rintro e w9 ⟨n, rfl, hn0, hn1, hR, hg⟩
      have hG := grown_trans hG hg
      have q := q.grown hg kq
      have o := o.grown hg ko
      clear hg
      by_cases n0 : n = 0
      · subst n0
        go_wp2_with fail
        refine (off_any B g 1 9 _ hR (by omega) (by omega) (by omega)).mono ?_
        rintro e wb ⟨y, rfl, hy, hR, hg⟩
        have hG := grown_trans hG hg
        have q := q.grown hg kq
        have o := o.grown hg ko
        clear hg
        have c0 := o.cell (j := 0) rfl
        have f0 := o.froz (j := 0)
        have oX : BlkAt k (envA y (f + 1) true p1 q1 o1 u a b x) 44 _ := (o.set 0 (.int .i64 y))
        have qX := (q.other (l := k) 0 (.int .i64 y) hqk)
        have hRX := (hR.setNew k 0 (.int .i64 y) ko hkB)
        have hGX := (grown_setNew hG k 0 (.int .i64 y) hkw)
        go_wp2_with (first
          | (with_reducible refine wpList_load_row (o := ⟨some 47, _, _, _, _, _⟩) rfl 44 _ rfl k rfl 44 (envA y (f + 1) true p1 q1 o1 u a b x) (0, 0) _ oX.hN Tryd.underlying44 rfl (envSz y (f + 1) true p1 q1 o1 u a b x) ?_)
          | ((with_reducible refine wpList_store_row' (o := ⟨none, .store 44 _ _, _, _, _, _⟩) rfl 44 _ _ rfl w.heap.size (envA y (f + 1) true p1 q1 o1 u a b x) rfl rfl 44 zeroE qX.hN (envSz y (f + 1) true p1 q1 o1 u a b x) rfl (envOne y (f + 1) true p1 q1 o1 u a b x) ?_); intro wa hwa hsa hga)
          | fail)
        have qa : BlkAt w.heap.size (envA y (f + 1) true p1 q1 o1 u a b x) 44 wa := hwa
        have d0 := qa.cell (j := 0) rfl
        have d1 := qa.cell (j := 1) rfl
        have d2 := qa.cell (j := 2) rfl
        have d3 := qa.cell (j := 3) rfl
        have d4 := qa.cell (j := 4) rfl
        have d5 := qa.cell (j := 5) rfl
        have d6 := qa.cell (j := 6) rfl
        have d7 := qa.cell (j := 7) rfl
        have d8 := qa.cell (j := 8) rfl
        have d9 := qa.cell (j := 9) rfl
        refine bodyPost_ret (v := .agg (envA y (f + 1) true p1 q1 o1 u a b x)) (by simp [results, Tryd.results67, go_sem, d0, d1, d2, d3, d4, d5, d6, d7, d8, d9]) rfl ?_
        exact ⟨_, _, _, _, _, _, _, _, _, _, rfl, ⟨hy, wt2, hp1, hq1, wo1, hu, wa0, wb0, hx⟩, hRX.kept hga (fun e => kq (Option.some.inj e)) (fun j hj => by have := Option.some.inj hj; omega), grown_new hGX hga (Nat.le_refl _)⟩
      have e0 : (n == 0) = false := by simpa using n0
      by_cases n1 : n = 1
      · subst n1
        go_wp2_with fail
        refine (off_any B g 0 999 _ hR (by omega) (by omega) (by omega)).mono ?_
        rintro e wb ⟨y, rfl, hy, hR, hg⟩
        have hG := grown_trans hG hg
        have q := q.grown hg kq
        have o := o.grown hg ko
        clear hg
        have c5 := o.cell (j := 5) rfl
        have f5 := o.froz (j := 5)
        have oX : BlkAt k (envA f (f + 1) true p1 q1 y u a b x) 44 _ := (o.set 5 (.int .i64 y))
        have qX := (q.other (l := k) 5 (.int .i64 y) hqk)
        have hRX := (hR.setNew k 5 (.int .i64 y) ko hkB)
        have hGX := (grown_setNew hG k 5 (.int .i64 y) hkw)
        go_wp2_with (first
          | (with_reducible refine wpList_load_row (o := ⟨some 47, _, _, _, _, _⟩) rfl 44 _ rfl k rfl 44 (envA f (f + 1) true p1 q1 y u a b x) (0, 0) _ oX.hN Tryd.underlying44 rfl (envSz f (f + 1) true p1 q1 y u a b x) ?_)
          | ((with_reducible refine wpList_store_row' (o := ⟨none, .store 44 _ _, _, _, _, _⟩) rfl 44 _ _ rfl w.heap.size (envA f (f + 1) true p1 q1 y u a b x) rfl rfl 44 zeroE qX.hN (envSz f (f + 1) true p1 q1 y u a b x) rfl (envOne f (f + 1) true p1 q1 y u a b x) ?_); intro wa hwa hsa hga)
          | fail)
        have qa : BlkAt w.heap.size (envA f (f + 1) true p1 q1 y u a b x) 44 wa := hwa
        have d0 := qa.cell (j := 0) rfl
        have d1 := qa.cell (j := 1) rfl
        have d2 := qa.cell (j := 2) rfl
        have d3 := qa.cell (j := 3) rfl
        have d4 := qa.cell (j := 4) rfl
        have d5 := qa.cell (j := 5) rfl
        have d6 := qa.cell (j := 6) rfl
        have d7 := qa.cell (j := 7) rfl
        have d8 := qa.cell (j := 8) rfl
        have d9 := qa.cell (j := 9) rfl
        refine bodyPost_ret (v := .agg (envA f (f + 1) true p1 q1 y u a b x)) (by simp [results, Tryd.results67, go_sem, d0, d1, d2, d3, d4, d5, d6, d7, d8, d9]) rfl ?_
        exact ⟨_, _, _, _, _, _, _, _, _, _, rfl, ⟨wf, wt2, hp1, hq1, hy, hu, wa0, wb0, hx⟩, hRX.kept hga (fun e => kq (Option.some.inj e)) (fun j hj => by have := Option.some.inj hj; omega), grown_new hGX hga (Nat.le_refl _)⟩
      have e1 : (n == 1) = false := by simpa using n1
      have oX := o
      have qX := q
      have hRX := hR
      have hGX := hG
      go_wp2_with (first
        | (with_reducible refine wpList_load_row (o := ⟨some 47, _, _, _, _, _⟩) rfl 44 _ rfl k rfl 44 (envA f (f + 1) true p1 q1 o1 u a b x) (0, 0) _ oX.hN Tryd.underlying44 rfl (envSz f (f + 1) true p1 q1 o1 u a b x) ?_)
        | ((with_reducible refine wpList_store_row' (o := ⟨none, .store 44 _ _, _, _, _, _⟩) rfl 44 _ _ rfl w.heap.size (envA f (f + 1) true p1 q1 o1 u a b x) rfl rfl 44 zeroE qX.hN (envSz f (f + 1) true p1 q1 o1 u a b x) rfl (envOne f (f + 1) true p1 q1 o1 u a b x) ?_); intro wa hwa hsa hga)
        | fail)
      have qa : BlkAt w.heap.size (envA f (f + 1) true p1 q1 o1 u a b x) 44 wa := hwa
      have d0 := qa.cell (j := 0) rfl
      have d1 := qa.cell (j := 1) rfl
      have d2 := qa.cell (j := 2) rfl
      have d3 := qa.cell (j := 3) rfl
      have d4 := qa.cell (j := 4) rfl
      have d5 := qa.cell (j := 5) rfl
      have d6 := qa.cell (j := 6) rfl
      have d7 := qa.cell (j := 7) rfl
      have d8 := qa.cell (j := 8) rfl
      have d9 := qa.cell (j := 9) rfl
      refine bodyPost_ret (v := .agg (envA f (f + 1) true p1 q1 o1 u a b x)) (by simp [results, Tryd.results67, go_sem, d0, d1, d2, d3, d4, d5, d6, d7, d8, d9]) rfl ?_
      exact ⟨_, _, _, _, _, _, _, _, _, _, rfl, ⟨wf, wt2, hp1, hq1, wo1, hu, wa0, wb0, hx⟩, hRX.kept hga (fun e => kq (Option.some.inj e)) (fun j hj => by have := Option.some.inj hj; omega), grown_new hGX hga (Nat.le_refl _)⟩
  · have eft : ((1 + f0 : Int) == 1 + t0) = false := by simp; omega
    have eft2 : ¬ (1 + f0 : Int) = 1 + t0 := by omega
    clear hft w1f wt2 wf0 wt0
    generalize 1 + f0 = f at *
    generalize 1 + t0 = t at *
    have o := BlkAt.box w4 (envA f t z ⟨#[]⟩ ⟨#[]⟩ 0 u a b x) 44
    have q := q.past (.cells (envA f t z ⟨#[]⟩ ⟨#[]⟩ 0 u a b x) 44)
    have hR := hR.alloc (.cells (envA f t z ⟨#[]⟩ ⟨#[]⟩ 0 u a b x) 44)
    have hG := grown_alloc hG (.cells (envA f t z ⟨#[]⟩ ⟨#[]⟩ 0 u a b x) 44)
    cases z with
    | false =>
      go_wp2_with fail
      refine (below_any B g 24 _ hR (by omega) (by omega)).mono ?_
      rintro e w9 ⟨n, rfl, hn0, hn1, hR, hg⟩
      have hG := grown_trans hG hg
      have q := q.grown hg kq
      have o := o.grown hg ko
      clear hg
      generalize w4.heap.size = k at *
      by_cases n0 : n = 0
      · subst n0
        go_wp2_with fail
        refine (off_any B g 1 9 _ hR (by omega) (by omega) (by omega)).mono ?_
        rintro e wb ⟨y, rfl, hy, hR, hg⟩
        have hG := grown_trans hG hg
        have q := q.grown hg kq
        have o := o.grown hg ko
        clear hg
        have c0 := o.cell (j := 0) rfl
        have f0 := o.froz (j := 0)
        have oX : BlkAt k (envA y t false ⟨#[]⟩ ⟨#[]⟩ 0 u a b x) 44 _ := (o.set 0 (.int .i64 y))
        have qX := (q.other (l := k) 0 (.int .i64 y) hqk)
        have hRX := (hR.setNew k 0 (.int .i64 y) ko hkB)
        have hGX := (grown_setNew hG k 0 (.int .i64 y) hkw)
        go_wp2_with (first
          | (with_reducible refine wpList_load_row (o := ⟨some 47, _, _, _, _, _⟩) rfl 44 _ rfl k rfl 44 (envA y t false ⟨#[]⟩ ⟨#[]⟩ 0 u a b x) (0, 0) _ oX.hN Tryd.underlying44 rfl (envSz y t false ⟨#[]⟩ ⟨#[]⟩ 0 u a b x) ?_)
          | ((with_reducible refine wpList_store_row' (o := ⟨none, .store 44 _ _, _, _, _, _⟩) rfl 44 _ _ rfl w.heap.size (envA y t false ⟨#[]⟩ ⟨#[]⟩ 0 u a b x) rfl rfl 44 zeroE qX.hN (envSz y t false ⟨#[]⟩ ⟨#[]⟩ 0 u a b x) rfl (envOne y t false ⟨#[]⟩ ⟨#[]⟩ 0 u a b x) ?_); intro wa hwa hsa hga)
          | fail)
        have qa : BlkAt w.heap.size (envA y t false ⟨#[]⟩ ⟨#[]⟩ 0 u a b x) 44 wa := hwa
        have d0 := qa.cell (j := 0) rfl
        have d1 := qa.cell (j := 1) rfl
        have d2 := qa.cell (j := 2) rfl
        have d3 := qa.cell (j := 3) rfl
        have d4 := qa.cell (j := 4) rfl
        have d5 := qa.cell (j := 5) rfl
        have d6 := qa.cell (j := 6) rfl
        have d7 := qa.cell (j := 7) rfl
        have d8 := qa.cell (j := 8) rfl
        have d9 := qa.cell (j := 9) rfl
        refine bodyPost_ret (v := .agg (envA y t false ⟨#[]⟩ ⟨#[]⟩ 0 u a b x)) (by simp [results, Tryd.results67, go_sem, d0, d1, d2, d3, d4, d5, d6, d7, d8, d9]) rfl ?_
        exact ⟨_, _, _, _, _, _, _, _, _, _, rfl, ⟨hy, wt, Nat.zero_le _, Nat.zero_le _, w00, hu, wa0, wb0, hx⟩, hRX.kept hga (fun e => kq (Option.some.inj e)) (fun j hj => by have := Option.some.inj hj; omega), grown_new hGX hga (Nat.le_refl _)⟩
      have e0 : (n == 0) = false := by simpa using n0
      by_cases n1 : n = 1
      · subst n1
        go_wp2_with fail
        refine (off_any B g 0 999 _ hR (by omega) (by omega) (by omega)).mono ?_
        rintro e wb ⟨y, rfl, hy, hR, hg⟩
        have hG := grown_trans hG hg
        have q := q.grown hg kq
        have o := o.grown hg ko
        clear hg
        have c5 := o.cell (j := 5) rfl
        have f5 := o.froz (j := 5)
        have oX : BlkAt k (envA f t false ⟨#[]⟩ ⟨#[]⟩ y u a b x) 44 _ := (o.set 5 (.int .i64 y))
        have qX := (q.other (l := k) 5 (.int .i64 y) hqk)
        have hRX := (hR.setNew k 5 (.int .i64 y) ko hkB)
        have hGX := (grown_setNew hG k 5 (.int .i64 y) hkw)
        go_wp2_with (first
          | (with_reducible refine wpList_load_row (o := ⟨some 47, _, _, _, _, _⟩) rfl 44 _ rfl k rfl 44 (envA f t false ⟨#[]⟩ ⟨#[]⟩ y u a b x) (0, 0) _ oX.hN Tryd.underlying44 rfl (envSz f t false ⟨#[]⟩ ⟨#[]⟩ y u a b x) ?_)
          | ((with_reducible refine wpList_store_row' (o := ⟨none, .store 44 _ _, _, _, _, _⟩) rfl 44 _ _ rfl w.heap.size (envA f t false ⟨#[]⟩ ⟨#[]⟩ y u a b x) rfl rfl 44 zeroE qX.hN (envSz f t false ⟨#[]⟩ ⟨#[]⟩ y u a b x) rfl (envOne f t false ⟨#[]⟩ ⟨#[]⟩ y u a b x) ?_); intro wa hwa hsa hga)
          | fail)
        have qa : BlkAt w.heap.size (envA f t false ⟨#[]⟩ ⟨#[]⟩ y u a b x) 44 wa := hwa
        have d0 := qa.cell (j := 0) rfl
        have d1 := qa.cell (j := 1) rfl
        have d2 := qa.cell (j := 2) rfl
        have d3 := qa.cell (j := 3) rfl
        have d4 := qa.cell (j := 4) rfl
        have d5 := qa.cell (j := 5) rfl
        have d6 := qa.cell (j := 6) rfl
        have d7 := qa.cell (j := 7) rfl
        have d8 := qa.cell (j := 8) rfl
        have d9 := qa.cell (j := 9) rfl
        refine bodyPost_ret (v := .agg (envA f t false ⟨#[]⟩ ⟨#[]⟩ y u a b x)) (by simp [results, Tryd.results67, go_sem, d0, d1, d2, d3, d4, d5, d6, d7, d8, d9]) rfl ?_
        exact ⟨_, _, _, _, _, _, _, _, _, _, rfl, ⟨wf, wt, Nat.zero_le _, Nat.zero_le _, hy, hu, wa0, wb0, hx⟩, hRX.kept hga (fun e => kq (Option.some.inj e)) (fun j hj => by have := Option.some.inj hj; omega), grown_new hGX hga (Nat.le_refl _)⟩
      have e1 : (n == 1) = false := by simpa using n1
      have oX := o
      have qX := q
      have hRX := hR
      have hGX := hG
      go_wp2_with (first
        | (with_reducible refine wpList_load_row (o := ⟨some 47, _, _, _, _, _⟩) rfl 44 _ rfl k rfl 44 (envA f t false ⟨#[]⟩ ⟨#[]⟩ 0 u a b x) (0, 0) _ oX.hN Tryd.underlying44 rfl (envSz f t false ⟨#[]⟩ ⟨#[]⟩ 0 u a b x) ?_)
        | ((with_reducible refine wpList_store_row' (o := ⟨none, .store 44 _ _, _, _, _, _⟩) rfl 44 _ _ rfl w.heap.size (envA f t false ⟨#[]⟩ ⟨#[]⟩ 0 u a b x) rfl rfl 44 zeroE qX.hN (envSz f t false ⟨#[]⟩ ⟨#[]⟩ 0 u a b x) rfl (envOne f t false ⟨#[]⟩ ⟨#[]⟩ 0 u a b x) ?_); intro wa hwa hsa hga)
        | fail)
      have qa : BlkAt w.heap.size (envA f t false ⟨#[]⟩ ⟨#[]⟩ 0 u a b x) 44 wa := hwa
      have d0 := qa.cell (j := 0) rfl
      have d1 := qa.cell (j := 1) rfl
      have d2 := qa.cell (j := 2) rfl
      have d3 := qa.cell (j := 3) rfl
      have d4 := qa.cell (j := 4) rfl
      have d5 := qa.cell (j := 5) rfl
      have d6 := qa.cell (j := 6) rfl
      have d7 := qa.cell (j := 7) rfl
      have d8 := qa.cell (j := 8) rfl
      have d9 := qa.cell (j := 9) rfl
      refine bodyPost_ret (v := .agg (envA f t false ⟨#[]⟩ ⟨#[]⟩ 0 u a b x)) (by simp [results, Tryd.results67, go_sem, d0, d1, d2, d3, d4, d5, d6, d7, d8, d9]) rfl ?_
      exact ⟨_, _, _, _, _, _, _, _, _, _, rfl, ⟨wf, wt, Nat.zero_le _, Nat.zero_le _, w00, hu, wa0, wb0, hx⟩, hRX.kept hga (fun e => kq (Option.some.inj e)) (fun j hj => by have := Option.some.inj hj; omega), grown_new hGX hga (Nat.le_refl _)⟩
    | true =>
      go_wp2_with fail
      refine (key_any B g _ hR).mono ?_
      rintro e w5 ⟨p1, rfl, hp1, hR, hg⟩
      have hG := grown_trans hG hg
      have q := q.grown hg kq
      have o := o.grown hg ko
      clear hg
      generalize w4.heap.size = k at *
      go_wp2_with fail
      refine (key_any B g _ hR).mono ?_
      rintro e w6 ⟨q1, rfl, hq1, hR, hg⟩
      have hG := grown_trans hG hg
      have q := q.grown hg kq
      have o := o.grown hg ko
      clear hg
      go_wp2_with fail
      refine (below_any B g 4 _ hR (by omega) (by omega)).mono ?_
      rintro e w7 ⟨o1, rfl, ho0, ho1, hR, hg⟩
      have hG := grown_trans hG hg
      have q := q.grown hg kq
      have o := o.grown hg ko
      clear hg
      have wo1 : wfI o1 := wfI_mid ho0 (by omega)
      clear ho0 ho1
      have c3 := o.cell (j := 3) rfl
      have f3 := o.froz (j := 3)
      have c4 := o.cell (j := 4) rfl
      have f4 := o.froz (j := 4)
      have c5 := o.cell (j := 5) rfl
      have f5 := o.froz (j := 5)
      have oX : BlkAt k (envA f t true p1 q1 o1 u a b x) 44 _ := (((o.set 3 (.string p1)).set 4 (.string q1)).set 5 (.int .i64 o1))
      have qX := (((q.other (l := k) 3 (.string p1) hqk).other (l := k) 4 (.string q1) hqk).other (l := k) 5 (.int .i64 o1) hqk)
      have hRX := (((hR.setNew k 3 (.string p1) ko hkB).setNew k 4 (.string q1) ko hkB).setNew k 5 (.int .i64 o1) ko hkB)
      have hGX := (grown_setNew (grown_setNew (grown_setNew hG k 3 (.string p1) hkw) k 4 (.string q1) hkw) k 5 (.int .i64 o1) hkw)
      clear o q hR hG
      have o := oX
      have q := qX
      have hR := hRX
      have hG := hGX
      clear oX qX hRX hGX
      go_wp2_with fail
      refine (below_any B g 24 _ hR (by omega) (by omega)).mono ?_
      rintro e w9 ⟨n, rfl, hn0, hn1, hR, hg⟩
      have hG := grown_trans hG hg
      have q := q.grown hg kq
      have o := o.grown hg ko
      clear hg
      by_cases n0 : n = 0
      · subst n0
        go_wp2_with fail
        refine (off_any B g 1 9 _ hR (by omega) (by omega) (by omega)).mono ?_
        rintro e wb ⟨y, rfl, hy, hR, hg⟩
        have hG := grown_trans hG hg
        have q := q.grown hg kq
        have o := o.grown hg ko
        clear hg
        have c0 := o.cell (j := 0) rfl
        have f0 := o.froz (j := 0)
        have oX : BlkAt k (envA y t true p1 q1 o1 u a b x) 44 _ := (o.set 0 (.int .i64 y))
        have qX := (q.other (l := k) 0 (.int .i64 y) hqk)
        have hRX := (hR.setNew k 0 (.int .i64 y) ko hkB)
        have hGX := (grown_setNew hG k 0 (.int .i64 y) hkw)
        go_wp2_with (first
          | (with_reducible refine wpList_load_row (o := ⟨some 47, _, _, _, _, _⟩) rfl 44 _ rfl k rfl 44 (envA y t true p1 q1 o1 u a b x) (0, 0) _ oX.hN Tryd.underlying44 rfl (envSz y t true p1 q1 o1 u a b x) ?_)
          | ((with_reducible refine wpList_store_row' (o := ⟨none, .store 44 _ _, _, _, _, _⟩) rfl 44 _ _ rfl w.heap.size (envA y t true p1 q1 o1 u a b x) rfl rfl 44 zeroE qX.hN (envSz y t true p1 q1 o1 u a b x) rfl (envOne y t true p1 q1 o1 u a b x) ?_); intro wa hwa hsa hga)
          | fail)
        have qa : BlkAt w.heap.size (envA y t true p1 q1 o1 u a b x) 44 wa := hwa
        have d0 := qa.cell (j := 0) rfl
        have d1 := qa.cell (j := 1) rfl
        have d2 := qa.cell (j := 2) rfl
        have d3 := qa.cell (j := 3) rfl
        have d4 := qa.cell (j := 4) rfl
        have d5 := qa.cell (j := 5) rfl
        have d6 := qa.cell (j := 6) rfl
        have d7 := qa.cell (j := 7) rfl
        have d8 := qa.cell (j := 8) rfl
        have d9 := qa.cell (j := 9) rfl
        refine bodyPost_ret (v := .agg (envA y t true p1 q1 o1 u a b x)) (by simp [results, Tryd.results67, go_sem, d0, d1, d2, d3, d4, d5, d6, d7, d8, d9]) rfl ?_
        exact ⟨_, _, _, _, _, _, _, _, _, _, rfl, ⟨hy, wt, hp1, hq1, wo1, hu, wa0, wb0, hx⟩, hRX.kept hga (fun e => kq (Option.some.inj e)) (fun j hj => by have := Option.some.inj hj; omega), grown_new hGX hga (Nat.le_refl _)⟩
      have e0 : (n == 0) = false := by simpa using n0
      by_cases n1 : n = 1
      · subst n1
        go_wp2_with fail
        refine (off_any B g 0 999 _ hR (by omega) (by omega) (by omega)).mono ?_
        rintro e wb ⟨y, rfl, hy, hR, hg⟩
        have hG := grown_trans hG hg
        have q := q.grown hg kq
        have o := o.grown hg ko
        clear hg
        have c5 := o.cell (j := 5) rfl
        have f5 := o.froz (j := 5)
        have oX : BlkAt k (envA f t true p1 q1 y u a b x) 44 _ := (o.set 5 (.int .i64 y))
        have qX := (q.other (l := k) 5 (.int .i64 y) hqk)
        have hRX := (hR.setNew k 5 (.int .i64 y) ko hkB)
        have hGX := (grown_setNew hG k 5 (.int .i64 y) hkw)
        go_wp2_with (first
          | (with_reducible refine wpList_load_row (o := ⟨some 47, _, _, _, _, _⟩) rfl 44 _ rfl k rfl 44 (envA f t true p1 q1 y u a b x) (0, 0) _ oX.hN Tryd.underlying44 rfl (envSz f t true p1 q1 y u a b x) ?_)
          | ((with_reducible refine wpList_store_row' (o := ⟨none, .store 44 _ _, _, _, _, _⟩) rfl 44 _ _ rfl w.heap.size (envA f t true p1 q1 y u a b x) rfl rfl 44 zeroE qX.hN (envSz f t true p1 q1 y u a b x) rfl (envOne f t true p1 q1 y u a b x) ?_); intro wa hwa hsa hga)
          | fail)
        have qa : BlkAt w.heap.size (envA f t true p1 q1 y u a b x) 44 wa := hwa
        have d0 := qa.cell (j := 0) rfl
        have d1 := qa.cell (j := 1) rfl
        have d2 := qa.cell (j := 2) rfl
        have d3 := qa.cell (j := 3) rfl
        have d4 := qa.cell (j := 4) rfl
        have d5 := qa.cell (j := 5) rfl
        have d6 := qa.cell (j := 6) rfl
        have d7 := qa.cell (j := 7) rfl
        have d8 := qa.cell (j := 8) rfl
        have d9 := qa.cell (j := 9) rfl
        refine bodyPost_ret (v := .agg (envA f t true p1 q1 y u a b x)) (by simp [results, Tryd.results67, go_sem, d0, d1, d2, d3, d4, d5, d6, d7, d8, d9]) rfl ?_
        exact ⟨_, _, _, _, _, _, _, _, _, _, rfl, ⟨wf, wt, hp1, hq1, hy, hu, wa0, wb0, hx⟩, hRX.kept hga (fun e => kq (Option.some.inj e)) (fun j hj => by have := Option.some.inj hj; omega), grown_new hGX hga (Nat.le_refl _)⟩
      have e1 : (n == 1) = false := by simpa using n1
      have oX := o
      have qX := q
      have hRX := hR
      have hGX := hG
      go_wp2_with (first
        | (with_reducible refine wpList_load_row (o := ⟨some 47, _, _, _, _, _⟩) rfl 44 _ rfl k rfl 44 (envA f t true p1 q1 o1 u a b x) (0, 0) _ oX.hN Tryd.underlying44 rfl (envSz f t true p1 q1 o1 u a b x) ?_)
        | ((with_reducible refine wpList_store_row' (o := ⟨none, .store 44 _ _, _, _, _, _⟩) rfl 44 _ _ rfl w.heap.size (envA f t true p1 q1 o1 u a b x) rfl rfl 44 zeroE qX.hN (envSz f t true p1 q1 o1 u a b x) rfl (envOne f t true p1 q1 o1 u a b x) ?_); intro wa hwa hsa hga)
        | fail)
      have qa : BlkAt w.heap.size (envA f t true p1 q1 o1 u a b x) 44 wa := hwa
      have d0 := qa.cell (j := 0) rfl
      have d1 := qa.cell (j := 1) rfl
      have d2 := qa.cell (j := 2) rfl
      have d3 := qa.cell (j := 3) rfl
      have d4 := qa.cell (j := 4) rfl
      have d5 := qa.cell (j := 5) rfl
      have d6 := qa.cell (j := 6) rfl
      have d7 := qa.cell (j := 7) rfl
      have d8 := qa.cell (j := 8) rfl
      have d9 := qa.cell (j := 9) rfl
      refine bodyPost_ret (v := .agg (envA f t true p1 q1 o1 u a b x)) (by simp [results, Tryd.results67, go_sem, d0, d1, d2, d3, d4, d5, d6, d7, d8, d9]) rfl ?_
      exact ⟨_, _, _, _, _, _, _, _, _, _, rfl, ⟨wf, wt, hp1, hq1, wo1, hu, wa0, wb0, hx⟩, hRX.kept hga (fun e => kq (Option.some.inj e)) (fun j hj => by have := Option.some.inj hj; omega), grown_new hGX hga (Nat.le_refl _)⟩

end Go.Proofs.YtmekpinhhmknnaaDoor

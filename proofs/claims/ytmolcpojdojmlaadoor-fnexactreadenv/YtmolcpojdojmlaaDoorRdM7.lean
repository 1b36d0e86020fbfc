/- The deferred recover, and the reading of a whole envelope. -/
import Derived.Test.YtmolcpojdojmlaaDoorRdM6
import Derived.Test.YtmolcpojdojmlaaDoorRdM4
import Derived.Test.YtmolcpojdojmlaaDoorMathS
import Derived.Laws.Rows
namespace Go.Proofs.YtmolcpojdojmlaaDoor
open Go.RowKit Go.My Go.Lib
set_option linter.unusedVariables false

theorem BlkAt.gr {k g : Nat} {cs : Array Value} {T : TypeId} {V W : World} (hg : V.grownBy W (some g)) (hk : k ≠ g) (h : BlkAt k cs T V) : BlkAt k cs T W := (hg.block k h.lt (fun e => hk (Option.some.inj e))).trans h
theorem BlkAt.h {k : Nat} {cs : Array Value} {T : TypeId} {W : World} (h : BlkAt k cs T W) : W.heap[k]? = some (.cells cs T (0, 0)) := h
theorem envSz0 : (Tryd.prog.info? 29).map (·.size) = some zeroE.size := by kernel_rfl
theorem envOne0 : zeroE.all (·.oneCell') = true := by kernel_rfl
theorem envSz (f t : Int) (z : Bool) (p q : ByteArray) (o : Int) (u : ByteArray) (a b : Int) (x : ByteArray) : (Tryd.prog.info? 29).map (·.size) = some (envA f t z p q o u a b x).size := by kernel_rfl
theorem envOne (f t : Int) (z : Bool) (p q : ByteArray) (o : Int) (u : ByteArray) (a b : Int) (x : ByteArray) : (envA f t z p q o u a b x).all (·.oneCell') = true := by kernel_rfl
set_option maxHeartbeats 4000000 in
set_option maxRecDepth 100000 in
theorem catchE_p (kv ko : Nat) (x0 x1 x2 x3 x4 x5 x6 x7 x8 x9 y : Value) (T : TypeId) (v : Value) (older : List PanicEntry) (w : World) (hv : BlkAt kv #[x0, x1, x2, x3, x4, x5, x6, x7, x8, x9] 29 w) (ho : BlkAt ko #[y] 4 w) (hko : kv ≠ ko) :
    CallsD Tryd.prog 42 #[.pointer (some ⟨kv, 0, none⟩), .pointer (some ⟨ko, 0, none⟩)] (.panicking ({ v := .iface T v, recovered := false } :: older)) w fun e u' w' =>
      e = .returned (.tuple #[]) ∧ u' = .panicking ({ v := .iface T v, recovered := true } :: older) ∧ BlkAt kv zeroE 29 w' ∧ BlkAt ko #[.bool false] 4 w' ∧ ∀ B, B ≤ w.heap.size → B ≤ kv → B ≤ ko → Below B w w' := by
  have hv1 := hv.past (.cells zeroE 29)
  have ho1 := ho.past (.cells zeroE 29)
  have hl := hv.lt
  have hl2 := ho.lt
  refine callsD_of_wpS Tryd.func42 rfl fun c₀ cs hu => ?_
  apply wpS_seq
  apply wpS_region
  simp only [Tryd.ntmps42]
  simp [wpOpsS, go_sem, recoverD, hu, Exit.thenS]
  refine wpS_cond (t := true) (by simp [Act.eval, Array.replicate]) ?_
  simp only [if_true]
  refine wpS_of_wp ?_
  simp only [Array.replicate_succ, Array.replicate_zero, List.push_toArray, List.append_toArray, List.nil_append, List.cons_append, List.setIfInBounds_toArray, List.set_cons_zero, List.set_cons_succ]
  go_wp2_with (first
    | (with_reducible refine wpList_load_row (o := ⟨some 5, _, _, _, _, _⟩) rfl 29 _ rfl w.heap.size rfl 29 zeroE (0, 0) _ (heap_alloc_new w _) Tryd.underlying29 rfl envSz0 ?_)
    | ((with_reducible refine wpList_store_row' (o := ⟨none, .store 29 _ _, _, _, _, _⟩) rfl 29 _ _ rfl kv zeroE rfl rfl 29 _ hv1.h envSz0 rfl envOne0 ?_); intro w2 hw2 hs2 hg2; have ho2 := BlkAt.gr hg2 (Ne.symm hko) ho1; have d2 := ho2.cell (j := 0) rfl; have f2 := ho2.froz (j := 0))
    | fail)
  have hv2 : BlkAt kv zeroE 29 w2 := hw2
  refine ⟨rfl, _, rfl, .tuple #[], by simp [results, Tryd.results42], rfl, rfl, ?_, ?_, ?_⟩
  · exact hv2.other 0 _ hko
  · exact ho2.set 0 _
  · intro B h1 h2 h3
    exact ((((Below.refl B w).alloc h1 _).grown hg2 (by simp; omega) (by intro k hk; have := Option.some.inj hk; omega)).setCell (p := ⟨ko, 0, none⟩) h3 _)

theorem catchE_i (kv ko : Nat) (w : World) :
    CallsD Tryd.prog 42 #[.pointer (some ⟨kv, 0, none⟩), .pointer (some ⟨ko, 0, none⟩)] .returning w fun e u' w' => e = .returned (.tuple #[]) ∧ u' = .returning ∧ w' = w := by
  refine callsD_of_wpS Tryd.func42 rfl fun c₀ cs hu => ?_
  apply wpS_seq
  apply wpS_region
  simp [wpOpsS, go_sem, recoverD, hu, Tryd.ntmps42, Exit.thenS]
  refine wpS_cond (t := false) (by simp [Act.eval, Array.replicate]) ?_
  simp only [Bool.false_eq_true, if_false]
  refine wpS_of_wp (wp_skip ?_)
  cases c₀
  simp_all [bodyPostS, results, Tryd.results42]

end Go.Proofs.YtmolcpojdojmlaaDoor

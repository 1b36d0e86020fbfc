/- The reading of a whole envelope, where bytes are left. -/
import Derived.Test.YtmolcpojdojmlaaDoorRdM7
namespace Go.Proofs.YtmolcpojdojmlaaDoor
open Go.RowKit Go.My Go.Lib
set_option linter.unusedVariables false

set_option maxHeartbeats 8000000 in
set_option maxRecDepth 100000 in
theorem wholeE_left (s : ByteArray) (w : World) (T : TypeId) (v : Value) (hE : TabE T v w) (f t : Int) (z : Bool) (p q : ByteArray) (o : Int) (u : ByteArray) (a b : Int) (x r : ByteArray) (hr : 0 < r.size)
    (hm : ∀ w1 : World, RdAt (w.heap.size + 1 + 1) s w1 → TabE T v w1 → Calls Tryd.prog 23 #[.pointer (some ⟨w.heap.size + 1 + 1, 0, none⟩)] w1 fun e w' => e = .returned (.agg (envA f t z p q o u a b x)) ∧ RdAt (w.heap.size + 1 + 1) r w' ∧ But (w.heap.size + 1 + 1) w1 w') :
    Calls Tryd.prog 22 #[.string s, .func (.func 23) #[] #[]] w fun e w' => e = .returned (.tuple #[.agg zeroE, .bool false]) ∧ Below w.heap.size w w' := by
  have hmf : ∀ (fn : Fn) (first cap : Array Value) (w : World), (Instr.makeFunc fn first cap).run Tryd.prog w = .ok (.func fn first cap) w := fun _ _ _ _ => rfl
  have HM := Lib.hid hm
  clear hm
  have e1 : (w.alloc (.cells zeroE 29)).heap.size = w.heap.size + 1 := by simp
  have e2 : ((w.alloc (.cells zeroE 29)).alloc (.cells #[.bool false] 4)).heap.size = w.heap.size + 1 + 1 := by simp
  have v0 : BlkAt w.heap.size zeroE 29 (((w.alloc (.cells zeroE 29)).alloc (.cells #[.bool false] 4)).alloc (.cells #[.string s] 64)) := ((BlkAt.box _ _ _).past _).past _
  have o0 : BlkAt (w.heap.size + 1) #[.bool false] 4 (((w.alloc (.cells zeroE 29)).alloc (.cells #[.bool false] 4)).alloc (.cells #[.string s] 64)) := BlkAt.past (by rw [← e1]; exact BlkAt.box _ _ _) _
  have hR : RdAt (w.heap.size + 1 + 1) s (((w.alloc (.cells zeroE 29)).alloc (.cells #[.bool false] 4)).alloc (.cells #[.string s] 64)) := by rw [← e2]; exact BlkAt.box _ _ _
  have hB : Below w.heap.size w (((w.alloc (.cells zeroE 29)).alloc (.cells #[.bool false] 4)).alloc (.cells #[.string s] 64)) := ((below_box w _).alloc (by simp) _).alloc (by simp; omega) _
  have hE0 := TabE.below (((below_box w (.cells zeroE 29)).alloc (by simp) (.cells #[.bool false] 4)).alloc (by simp; omega) (.cells #[.string s] 64)) hE
  clear e1 e2
  go_enter_defers Tryd.func22, Tryd.ntmps22
  go_wp2_with fail
  refine (HM.out _ hR hE0).mono ?_
  rintro e w1 ⟨rfl, hR1, hb⟩
  have v0 := BlkAt.but hb (by omega) v0
  have o0 := BlkAt.but hb (by omega) o0
  have hB := hB.trans (hb.below w.heap.size hB.size (by omega))
  have hE0 := TabE.but hb (by have := hE.1; omega) hE0
  have he : r.toList.isEmpty = false := by rw [isE', decide_eq_false (by omega)]
  have he2 : ¬ r.toList = [] := fun e => by rw [e] at he; cases he
  clear hb hR
  go_wp2_with (first
    | ((with_reducible refine wpList_store_row' (o := ⟨none, .store 29 _ _, _, _, _, _⟩) rfl 29 _ _ rfl w.heap.size (envA f t z p q o u a b x) rfl rfl 29 zeroE v0.h (envSz f t z p q o u a b x) rfl (envOne f t z p q o u a b x) ?_); intro wa hwa hsa hga; have hRa := BlkAt.gr hga (show w.heap.size + 1 + 1 ≠ w.heap.size by omega) hR1; have rc := hRa.cell (j := 0) rfl)
    | fail)
  have va : BlkAt w.heap.size (envA f t z p q o u a b x) 29 wa := hwa
  have oa := BlkAt.gr hga (show w.heap.size + 1 ≠ w.heap.size by omega) o0
  have hBa : Below w.heap.size w wa := hB.grown hga hB.size (by intro k hk; have := Option.some.inj hk; omega)
  have hE0 : TabE T v wa := ⟨Nat.lt_of_lt_of_le hE0.1 hga.size, (World.cell?_of_block (w := w1) (a := ⟨0, 0, none⟩) (hga.block _ hE0.1 (show ¬ some (0 : Nat) = some w.heap.size from fun e => by have e1 := Option.some.inj e; have e2 := hE.1; omega))).trans hE0.2⟩
  clear v0 o0 hB hwa hsa hga
  have v0 := va
  have o0 := oa
  have hB := hBa
  refine (need_no (w.heap.size + 1 + 1) _ T v hE0).mono ?_
  rintro e w9 ⟨rfl, rfl⟩
  refine leaves_cons (f := 42) (args := #[.pointer (some ⟨w.heap.size, 0, none⟩), .pointer (some ⟨w.heap.size + 1, 0, none⟩)]) (by simp) (by simp [go_sem]) ?_
  refine (catchE_p w.heap.size (w.heap.size + 1) _ _ _ _ _ _ _ _ _ _ _ T v [] _ v0 o0 (by omega)).mono ?_
  rintro e u' w2 ⟨rfl, rfl, hv2, ho2, hbel⟩
  have c0 := hv2.cell (j := 0) rfl
  have c1 := hv2.cell (j := 1) rfl
  have c2 := hv2.cell (j := 2) rfl
  have c3 := hv2.cell (j := 3) rfl
  have c4 := hv2.cell (j := 4) rfl
  have c5 := hv2.cell (j := 5) rfl
  have c6 := hv2.cell (j := 6) rfl
  have c7 := hv2.cell (j := 7) rfl
  have c8 := hv2.cell (j := 8) rfl
  have c9 := hv2.cell (j := 9) rfl
  have d0 := ho2.cell (j := 0) rfl
  simp only [settle]
  refine ⟨.tuple #[.agg zeroE, .bool false], by simp [results, Tryd.results22, go_sem, *], rfl, ?_⟩
  exact hB.trans (hbel w.heap.size hB.size (Nat.le_refl _) (by omega))

end Go.Proofs.YtmolcpojdojmlaaDoor

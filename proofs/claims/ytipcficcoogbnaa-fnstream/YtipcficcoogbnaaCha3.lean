/- The specification's l4Rot, l4Quarter. -/
import Derived.Test.YtipcficcoogbnaaCha2
namespace Go.My
open Go.RowKit
set_option linter.unusedVariables false
section
variable {P : Program} {Q : Exit → Act → World → Prop} {ops : Array Oper} {m : Nat} {a0 : Act} {w0 : World} {D : Nat → Kd} {i : Nat} {o : Oper}
/-- A call of a slot and a constant. -/
theorem stepCallC {x y c : Value} {f : FuncId} {k : Tmp} {ats : Array TypeId} (hoi : ops[i]? = some o) (hg : o.guard = none) (hD : D i = .val x) (hop : o.op = .call { callee := .value (.func f), args := #[.tmp k, .const c], argTypes := ats })
    (hcf : ∀ args w, (callFunc f args).run P w = .ok (.enter f args) w) (hk : Src ops m a0 D o k y)
    (hc : ∀ w, Kept (Hits D) w0 w → Calls P f #[y, c] w fun e w' => e = .returned x ∧ Below w.heap.size w w') : StepOk P Q ops m a0 w0 D i := by
  refine ⟨o, hoi, hg, ?_⟩
  rw [hD]
  refine ⟨[(k, y)], srcN1 hk, fun a w ha hb => ?_⟩
  have h1 : a.eval (.tmp k) = y := ha (k, y) (by simp)
  have he : (execOp a.eval o).run P w = .ok (.enter f #[y, c]) w := by
    unfold execOp
    simp only [hop]
    have e : (do let d ← resolve a.eval { callee := .value (.func f), args := #[.tmp k, .const c], argTypes := ats } o.type; invoke d.target d.args : Sem Next) = callFunc f (#[] ++ #[Operand.tmp k, .const c].map a.eval ++ #[]) := rfl
    have h2 : a.eval (.const c) = c := rfl
    rw [e, show #[Operand.tmp k, .const c].map a.eval = #[y, c] by simp only [List.map_toArray, List.map_cons, List.map_nil, h1, h2], Array.empty_append, Array.append_empty]
    exact hcf _ _
  unfold Oper.wp
  rw [he]
  refine Calls.mono (hc w hb) ?_
  rintro e w' ⟨rfl, hb'⟩
  exact ⟨rfl, hb'⟩
end
end Go.My
namespace Go.Proofs.Ytipcficcoogbnaa
open Go.RowKit Go.My Go.Lib
set_option linter.unusedVariables false

theorem l4Rot_any (x : Int) (k : Nat) (w : World) (h0 : 0 ≤ x) (h1 : x ≤ 4294967295) (hr : 1 ≤ k) (hr2 : k ≤ 31) :
    Calls Try.prog 36 #[.int .u32 x, .int .u64 k] w fun e w' => e = .returned (.int .u32 (rot x k)) ∧ w = w' := by
  have hi1 : (1 : Int) ≤ k := by omega
  have hi2 : (k : Int) ≤ 31 := by omega
  go_enter Try.func36, Try.ntmps36
  go_wp2
  go_ret
  exact ⟨rfl, rfl⟩
theorem l4Rot_c (x R : Int) (k : Nat) (w : World) (h : 0 ≤ x ∧ x ≤ 4294967295) (hr : 1 ≤ k) (hr2 : k ≤ 31) (hR : R = rot x k) :
    Calls Try.prog 36 #[.int .u32 x, .int .u64 k] w fun e w' => e = .returned (.int .u32 R) ∧ Below w.heap.size w w' := by
  rw [hR]
  exact (l4Rot_any x k w h.1 h.2 hr hr2).mono fun e w' ⟨he, hw⟩ => ⟨he, hw ▸ Below.refl _ _⟩
theorem cfRot (args : Array Value) (w : World) : (callFunc 36 args).run Try.prog w = .ok (.enter 36 args) w := cf_of Try.func36 (by kernel_rfl) (by kernel_rfl) args w

set_option maxRecDepth 100000 in
set_option maxHeartbeats 4000000 in
theorem l4Quarter_any (g a b c d : Nat) (T : TypeId) (f0 : Nat → Int) (w : World) (hB : Blk g (rwA .u32 16 f0) T w) (ha : a < 16) (hb : b < 16) (hc : c < 16) (hd : d < 16) (h1 : a ≠ d) (h2 : c ≠ b) :
    Calls Try.prog 29 #[.slice (some ⟨g, 0, none⟩) 16 16, .int .i64 a, .int .i64 b, .int .i64 c, .int .i64 d] w fun e w' => e = .returned (.tuple #[]) ∧ Blk g (rwA .u32 16 (quartF f0 a b c d)) T w' ∧ w.grownBy w' (some g) := by
  have h1' : d ≠ a := fun k => h1 k.symm
  have h2' : b ≠ c := fun k => h2 k.symm
  obtain ⟨A0, eA0⟩ : ∃ A, A = add32 (f0 a) (f0 b) := ⟨_, rfl⟩
  obtain ⟨X0, eX0⟩ : ∃ X, X = xor32 (f0 d) A0 := ⟨_, rfl⟩
  obtain ⟨R0, eR0⟩ : ∃ R, R = rot X0 16 := ⟨_, rfl⟩
  obtain ⟨f1, ef1⟩ : ∃ f, f = updF (updF f0 a A0) d R0 := ⟨_, rfl⟩
  have em1 : f1 = mixF f0 a b d 16 := by rw [ef1, eR0, eX0, eA0]; rfl
  have EA0 := Lib.hid eA0
  have EX0 := Lib.hid eX0
  have ER0 := Lib.hid eR0
  have EF1 := Lib.hid ef1
  have BX0 : Hid (0 ≤ X0 ∧ X0 ≤ 4294967295) := by show _ ∧ _; rw [eX0]; exact xor32_bd _ _
  have u0 : updF f0 a A0 d = f0 d := updF_ne h1'
  have t0 : updF f0 a A0 a = A0 := updF_at _ _ _
  obtain ⟨A1, eA1⟩ : ∃ A, A = add32 (f1 c) (f1 d) := ⟨_, rfl⟩
  obtain ⟨X1, eX1⟩ : ∃ X, X = xor32 (f1 b) A1 := ⟨_, rfl⟩
  obtain ⟨R1, eR1⟩ : ∃ R, R = rot X1 12 := ⟨_, rfl⟩
  obtain ⟨f2, ef2⟩ : ∃ f, f = updF (updF f1 c A1) b R1 := ⟨_, rfl⟩
  have em2 : f2 = mixF f1 c d b 12 := by rw [ef2, eR1, eX1, eA1]; rfl
  have EA1 := Lib.hid eA1
  have EX1 := Lib.hid eX1
  have ER1 := Lib.hid eR1
  have EF2 := Lib.hid ef2
  have BX1 : Hid (0 ≤ X1 ∧ X1 ≤ 4294967295) := by show _ ∧ _; rw [eX1]; exact xor32_bd _ _
  have u1 : updF f1 c A1 b = f1 b := updF_ne h2'
  have t1 : updF f1 c A1 c = A1 := updF_at _ _ _
  obtain ⟨A2, eA2⟩ : ∃ A, A = add32 (f2 a) (f2 b) := ⟨_, rfl⟩
  obtain ⟨X2, eX2⟩ : ∃ X, X = xor32 (f2 d) A2 := ⟨_, rfl⟩
  obtain ⟨R2, eR2⟩ : ∃ R, R = rot X2 8 := ⟨_, rfl⟩
  obtain ⟨f3, ef3⟩ : ∃ f, f = updF (updF f2 a A2) d R2 := ⟨_, rfl⟩
  have em3 : f3 = mixF f2 a b d 8 := by rw [ef3, eR2, eX2, eA2]; rfl
  have EA2 := Lib.hid eA2
  have EX2 := Lib.hid eX2
  have ER2 := Lib.hid eR2
  have EF3 := Lib.hid ef3
  have BX2 : Hid (0 ≤ X2 ∧ X2 ≤ 4294967295) := by show _ ∧ _; rw [eX2]; exact xor32_bd _ _
  have u2 : updF f2 a A2 d = f2 d := updF_ne h1'
  have t2 : updF f2 a A2 a = A2 := updF_at _ _ _
  obtain ⟨A3, eA3⟩ : ∃ A, A = add32 (f3 c) (f3 d) := ⟨_, rfl⟩
  obtain ⟨X3, eX3⟩ : ∃ X, X = xor32 (f3 b) A3 := ⟨_, rfl⟩
  obtain ⟨R3, eR3⟩ : ∃ R, R = rot X3 7 := ⟨_, rfl⟩
  obtain ⟨f4, ef4⟩ : ∃ f, f = updF (updF f3 c A3) b R3 := ⟨_, rfl⟩
  have em4 : f4 = mixF f3 c d b 7 := by rw [ef4, eR3, eX3, eA3]; rfl
  have EA3 := Lib.hid eA3
  have EX3 := Lib.hid eX3
  have ER3 := Lib.hid eR3
  have EF4 := Lib.hid ef4
  have BX3 : Hid (0 ≤ X3 ∧ X3 ≤ 4294967295) := by show _ ∧ _; rw [eX3]; exact xor32_bd _ _
  have u3 : updF f3 c A3 b = f3 b := updF_ne h2'
  have t3 : updF f3 c A3 c = A3 := updF_at _ _ _
  have HE : Hid (f4 = quartF f0 a b c d) := by show _ = _; rw [em4, em3, em2, em1]; rfl
  clear eA0 eX0 eR0 ef1 em1 eA1 eX1 eR1 ef2 em2 eA2 eX2 eR2 ef3 em3 eA3 eX3 eR3 ef4 em4
  go_enter Try.func29, Try.ntmps29
  go_upto_region 0 with (fail)
  refine region_rest 12 (kdAt [.val (.slice (some ⟨g, 0, none⟩) 16 16), .val (.int .i64 a), .val (.slice (some ⟨g, 0, none⟩) 16 16), .val (.int .i64 a), .val (.pointer (some ⟨g, a, none⟩)), .val (.int .u32 (f0 a)), .val (.slice (some ⟨g, 0, none⟩) 16 16), .val (.int .i64 b), .val (.pointer (some ⟨g, b, none⟩)), .val (.int .u32 (f0 b)), .val (.int .u32 A0), .val (.pointer (some ⟨g, a, none⟩))]) [some 10, some 11, some 12, some 13, some 14, some 15, some 16, some 17, some 18, some 19, some 20, some 21] (by kernel_rfl) (by decide) (by kernel_rfl) (by kernel_rfl) (by kernel_rfl) (by kernel_rfl) (by kernel_rfl) _ (fun a w h => anyStep (n := 0) (i := 12) (by kernel_rfl) rfl (fun a w h => anyEnd (by kernel_rfl) h) h) ?_ ?_
  · repeat refine allS ?_ ?_
    · exact all0
    · exact stepMove rfl rfl rfl rfl (src_old (by kernel_rfl) rfl)
    · exact stepMove rfl rfl rfl rfl (src_old (by kernel_rfl) rfl)
    · exact stepMove rfl rfl rfl rfl (src_old (by kernel_rfl) rfl)
    · exact stepMove rfl rfl rfl rfl (src_old (by kernel_rfl) rfl)
    · exact stepIdx rfl rfl rfl rfl (src_new 2 (by decide) rfl rfl (by kernel_rfl)) (src_new 3 (by decide) rfl rfl (by kernel_rfl)) (fun w => idxS g a ha w)
    · exact stepLoad (.pointer (some ⟨g, a, none⟩)) rfl rfl rfl rfl (src_new 4 (by decide) rfl rfl (by kernel_rfl)) (fun w hk => ldW ((hB.below (hk.below (nh0 rfl))).u32v ha rfl))
    · exact stepMove rfl rfl rfl rfl (src_old (by kernel_rfl) rfl)
    · exact stepMove rfl rfl rfl rfl (src_old (by kernel_rfl) rfl)
    · exact stepIdx rfl rfl rfl rfl (src_new 6 (by decide) rfl rfl (by kernel_rfl)) (src_new 7 (by decide) rfl rfl (by kernel_rfl)) (fun w => idxS g b hb w)
    · exact stepLoad (.pointer (some ⟨g, b, none⟩)) rfl rfl rfl rfl (src_new 8 (by decide) rfl rfl (by kernel_rfl)) (fun w hk => ldW ((hB.below (hk.below (nh0 rfl))).u32v hb rfl))
    · exact stepBin rfl rfl rfl rfl (src_new 5 (by decide) rfl rfl (by kernel_rfl)) (src_new 9 (by decide) rfl rfl (by kernel_rfl)) (fun w => (EA0.out ▸ addW _ _ _ _) w)
    · exact stepIdx rfl rfl rfl rfl (src_new 0 (by decide) rfl rfl (by kernel_rfl)) (src_new 1 (by decide) rfl rfl (by kernel_rfl)) (fun w => idxS g a ha w)
  intro v x1 hok hk
  replace hk := hk.all
  have v0 := okVal hok (j := 0) rfl rfl
  have v1 := okVal hok (j := 1) rfl rfl
  have v2 := okVal hok (j := 2) rfl rfl
  have v3 := okVal hok (j := 3) rfl rfl
  have v4 := okVal hok (j := 4) rfl rfl
  have v5 := okVal hok (j := 5) rfl rfl
  have v6 := okVal hok (j := 6) rfl rfl
  have v7 := okVal hok (j := 7) rfl rfl
  have v8 := okVal hok (j := 8) rfl rfl
  have v9 := okVal hok (j := 9) rfl rfl
  have v10 := okVal hok (j := 10) rfl rfl
  have v11 := okVal hok (j := 11) rfl rfl
  clear hok
  simp only [putL, Nat.zero_add, Nat.reduceAdd, v0, v1, v2, v3, v4, v5, v6, v7, v8, v9, v10, v11, Act.put, List.setIfInBounds_toArray, List.set_cons_zero, List.set_cons_succ]
  clear v0 v1 v2 v3 v4 v5 v6 v7 v8 v9 v10 v11
  have fX := hB.below (hk.below (nh0 rfl))
  have gX : w.grownBy x1 (some g) := gr_of (hk.below (nh0 rfl))
  have cX := fX.u32 ha
  have zX := fX.froz (j := a)
  have p0 := fX.put32 ha A0
  have k0 := gr_trans2 gX (grown_put x1 g a (.int .u32 A0))
  clear hk fX gX
  clear hB
  go_upto_region 1 with (fail)
  generalize x1.setCell ⟨g, a, none⟩ (.int .u32 A0) = y0 at *
  clear cX zX
  refine region_rest 13 (kdAt [.val (.slice (some ⟨g, 0, none⟩) 16 16), .val (.int .i64 d), .val (.slice (some ⟨g, 0, none⟩) 16 16), .val (.int .i64 d), .val (.pointer (some ⟨g, d, none⟩)), .val (.int .u32 (f0 d)), .val (.slice (some ⟨g, 0, none⟩) 16 16), .val (.int .i64 a), .val (.pointer (some ⟨g, a, none⟩)), .val (.int .u32 A0), .val (.int .u32 X0), .val (.int .u32 R0), .val (.pointer (some ⟨g, d, none⟩))]) [some 22, some 23, some 24, some 25, some 26, some 27, some 28, some 29, some 30, some 31, some 32, some 33, some 34] (by kernel_rfl) (by decide) (by kernel_rfl) (by kernel_rfl) (by kernel_rfl) (by kernel_rfl) (by kernel_rfl) _ (fun a w h => anyStep (n := 0) (i := 13) (by kernel_rfl) rfl (fun a w h => anyEnd (by kernel_rfl) h) h) ?_ ?_
  · repeat refine allS ?_ ?_
    · exact all0
    · exact stepMove rfl rfl rfl rfl (src_old (by kernel_rfl) rfl)
    · exact stepMove rfl rfl rfl rfl (src_old (by kernel_rfl) rfl)
    · exact stepMove rfl rfl rfl rfl (src_old (by kernel_rfl) rfl)
    · exact stepMove rfl rfl rfl rfl (src_old (by kernel_rfl) rfl)
    · exact stepIdx rfl rfl rfl rfl (src_new 2 (by decide) rfl rfl (by kernel_rfl)) (src_new 3 (by decide) rfl rfl (by kernel_rfl)) (fun w => idxS g d hd w)
    · exact stepLoad (.pointer (some ⟨g, d, none⟩)) rfl rfl rfl rfl (src_new 4 (by decide) rfl rfl (by kernel_rfl)) (fun w hk => ldW ((p0.below (hk.below (nh0 rfl))).u32v hd u0))
    · exact stepMove rfl rfl rfl rfl (src_old (by kernel_rfl) rfl)
    · exact stepMove rfl rfl rfl rfl (src_old (by kernel_rfl) rfl)
    · exact stepIdx rfl rfl rfl rfl (src_new 6 (by decide) rfl rfl (by kernel_rfl)) (src_new 7 (by decide) rfl rfl (by kernel_rfl)) (fun w => idxS g a ha w)
    · exact stepLoad (.pointer (some ⟨g, a, none⟩)) rfl rfl rfl rfl (src_new 8 (by decide) rfl rfl (by kernel_rfl)) (fun w hk => ldW ((p0.below (hk.below (nh0 rfl))).u32v ha t0))
    · exact stepBin rfl rfl rfl rfl (src_new 5 (by decide) rfl rfl (by kernel_rfl)) (src_new 9 (by decide) rfl rfl (by kernel_rfl)) (fun w => (EX0.out ▸ xorW _ _ _ _) w)
    · exact stepCallC rfl rfl rfl rfl cfRot (src_new 10 (by decide) rfl rfl (by kernel_rfl)) (fun w hk => l4Rot_c X0 R0 16 w BX0.out (by decide) (by decide) ER0.out)
    · exact stepIdx rfl rfl rfl rfl (src_new 0 (by decide) rfl rfl (by kernel_rfl)) (src_new 1 (by decide) rfl rfl (by kernel_rfl)) (fun w => idxS g d hd w)
  intro v x2 hok hk
  replace hk := hk.all
  have v0 := okVal hok (j := 0) rfl rfl
  have v1 := okVal hok (j := 1) rfl rfl
  have v2 := okVal hok (j := 2) rfl rfl
  have v3 := okVal hok (j := 3) rfl rfl
  have v4 := okVal hok (j := 4) rfl rfl
  have v5 := okVal hok (j := 5) rfl rfl
  have v6 := okVal hok (j := 6) rfl rfl
  have v7 := okVal hok (j := 7) rfl rfl
  have v8 := okVal hok (j := 8) rfl rfl
  have v9 := okVal hok (j := 9) rfl rfl
  have v10 := okVal hok (j := 10) rfl rfl
  have v11 := okVal hok (j := 11) rfl rfl
  have v12 := okVal hok (j := 12) rfl rfl
  clear hok
  simp only [putL, Nat.zero_add, Nat.reduceAdd, v0, v1, v2, v3, v4, v5, v6, v7, v8, v9, v10, v11, v12, Act.put, List.setIfInBounds_toArray, List.set_cons_zero, List.set_cons_succ]
  clear v0 v1 v2 v3 v4 v5 v6 v7 v8 v9 v10 v11 v12
  have fX := p0.below (hk.below (nh0 rfl))
  have gX : w.grownBy x2 (some g) := gr_trans2 k0 (gr_of (hk.below (nh0 rfl)))
  have cX := fX.u32 hd
  have zX := fX.froz (j := d)
  have p1 := fX.put32 hd R0
  have k1 := gr_trans2 gX (grown_put x2 g d (.int .u32 R0))
  clear hk fX gX
  clear p0 k0
  go_upto_region 2 with (fail)
  generalize x2.setCell ⟨g, d, none⟩ (.int .u32 R0) = y1 at *
  clear cX zX
  rw [← EF1.out] at p1
  refine region_rest 12 (kdAt [.val (.slice (some ⟨g, 0, none⟩) 16 16), .val (.int .i64 c), .val (.slice (some ⟨g, 0, none⟩) 16 16), .val (.int .i64 c), .val (.pointer (some ⟨g, c, none⟩)), .val (.int .u32 (f1 c)), .val (.slice (some ⟨g, 0, none⟩) 16 16), .val (.int .i64 d), .val (.pointer (some ⟨g, d, none⟩)), .val (.int .u32 (f1 d)), .val (.int .u32 A1), .val (.pointer (some ⟨g, c, none⟩))]) [some 35, some 36, some 37, some 38, some 39, some 40, some 41, some 42, some 43, some 44, some 45, some 46] (by kernel_rfl) (by decide) (by kernel_rfl) (by kernel_rfl) (by kernel_rfl) (by kernel_rfl) (by kernel_rfl) _ (fun a w h => anyStep (n := 0) (i := 12) (by kernel_rfl) rfl (fun a w h => anyEnd (by kernel_rfl) h) h) ?_ ?_
  · repeat refine allS ?_ ?_
    · exact all0
    · exact stepMove rfl rfl rfl rfl (src_old (by kernel_rfl) rfl)
    · exact stepMove rfl rfl rfl rfl (src_old (by kernel_rfl) rfl)
    · exact stepMove rfl rfl rfl rfl (src_old (by kernel_rfl) rfl)
    · exact stepMove rfl rfl rfl rfl (src_old (by kernel_rfl) rfl)
    · exact stepIdx rfl rfl rfl rfl (src_new 2 (by decide) rfl rfl (by kernel_rfl)) (src_new 3 (by decide) rfl rfl (by kernel_rfl)) (fun w => idxS g c hc w)
    · exact stepLoad (.pointer (some ⟨g, c, none⟩)) rfl rfl rfl rfl (src_new 4 (by decide) rfl rfl (by kernel_rfl)) (fun w hk => ldW ((p1.below (hk.below (nh0 rfl))).u32v hc rfl))
    · exact stepMove rfl rfl rfl rfl (src_old (by kernel_rfl) rfl)
    · exact stepMove rfl rfl rfl rfl (src_old (by kernel_rfl) rfl)
    · exact stepIdx rfl rfl rfl rfl (src_new 6 (by decide) rfl rfl (by kernel_rfl)) (src_new 7 (by decide) rfl rfl (by kernel_rfl)) (fun w => idxS g d hd w)
    · exact stepLoad (.pointer (some ⟨g, d, none⟩)) rfl rfl rfl rfl (src_new 8 (by decide) rfl rfl (by kernel_rfl)) (fun w hk => ldW ((p1.below (hk.below (nh0 rfl))).u32v hd rfl))
    · exact stepBin rfl rfl rfl rfl (src_new 5 (by decide) rfl rfl (by kernel_rfl)) (src_new 9 (by decide) rfl rfl (by kernel_rfl)) (fun w => (EA1.out ▸ addW _ _ _ _) w)
    · exact stepIdx rfl rfl rfl rfl (src_new 0 (by decide) rfl rfl (by kernel_rfl)) (src_new 1 (by decide) rfl rfl (by kernel_rfl)) (fun w => idxS g c hc w)
  intro v x3 hok hk
  replace hk := hk.all
  have v0 := okVal hok (j := 0) rfl rfl
  have v1 := okVal hok (j := 1) rfl rfl
  have v2 := okVal hok (j := 2) rfl rfl
  have v3 := okVal hok (j := 3) rfl rfl
  have v4 := okVal hok (j := 4) rfl rfl
  have v5 := okVal hok (j := 5) rfl rfl
  have v6 := okVal hok (j := 6) rfl rfl
  have v7 := okVal hok (j := 7) rfl rfl
  have v8 := okVal hok (j := 8) rfl rfl
  have v9 := okVal hok (j := 9) rfl rfl
  have v10 := okVal hok (j := 10) rfl rfl
  have v11 := okVal hok (j := 11) rfl rfl
  clear hok
  simp only [putL, Nat.zero_add, Nat.reduceAdd, v0, v1, v2, v3, v4, v5, v6, v7, v8, v9, v10, v11, Act.put, List.setIfInBounds_toArray, List.set_cons_zero, List.set_cons_succ]
  clear v0 v1 v2 v3 v4 v5 v6 v7 v8 v9 v10 v11
  have fX := p1.below (hk.below (nh0 rfl))
  have gX : w.grownBy x3 (some g) := gr_trans2 k1 (gr_of (hk.below (nh0 rfl)))
  have cX := fX.u32 hc
  have zX := fX.froz (j := c)
  have p2 := fX.put32 hc A1
  have k2 := gr_trans2 gX (grown_put x3 g c (.int .u32 A1))
  clear hk fX gX
  clear p1 k1
  go_upto_region 3 with (fail)
  generalize x3.setCell ⟨g, c, none⟩ (.int .u32 A1) = y2 at *
  clear cX zX
  refine region_rest 13 (kdAt [.val (.slice (some ⟨g, 0, none⟩) 16 16), .val (.int .i64 b), .val (.slice (some ⟨g, 0, none⟩) 16 16), .val (.int .i64 b), .val (.pointer (some ⟨g, b, none⟩)), .val (.int .u32 (f1 b)), .val (.slice (some ⟨g, 0, none⟩) 16 16), .val (.int .i64 c), .val (.pointer (some ⟨g, c, none⟩)), .val (.int .u32 A1), .val (.int .u32 X1), .val (.int .u32 R1), .val (.pointer (some ⟨g, b, none⟩))]) [some 47, some 48, some 49, some 50, some 51, some 52, some 53, some 54, some 55, some 56, some 57, some 58, some 59] (by kernel_rfl) (by decide) (by kernel_rfl) (by kernel_rfl) (by kernel_rfl) (by kernel_rfl) (by kernel_rfl) _ (fun a w h => anyStep (n := 0) (i := 13) (by kernel_rfl) rfl (fun a w h => anyEnd (by kernel_rfl) h) h) ?_ ?_
  · repeat refine allS ?_ ?_
    · exact all0
    · exact stepMove rfl rfl rfl rfl (src_old (by kernel_rfl) rfl)
    · exact stepMove rfl rfl rfl rfl (src_old (by kernel_rfl) rfl)
    · exact stepMove rfl rfl rfl rfl (src_old (by kernel_rfl) rfl)
    · exact stepMove rfl rfl rfl rfl (src_old (by kernel_rfl) rfl)
    · exact stepIdx rfl rfl rfl rfl (src_new 2 (by decide) rfl rfl (by kernel_rfl)) (src_new 3 (by decide) rfl rfl (by kernel_rfl)) (fun w => idxS g b hb w)
    · exact stepLoad (.pointer (some ⟨g, b, none⟩)) rfl rfl rfl rfl (src_new 4 (by decide) rfl rfl (by kernel_rfl)) (fun w hk => ldW ((p2.below (hk.below (nh0 rfl))).u32v hb u1))
    · exact stepMove rfl rfl rfl rfl (src_old (by kernel_rfl) rfl)
    · exact stepMove rfl rfl rfl rfl (src_old (by kernel_rfl) rfl)
    · exact stepIdx rfl rfl rfl rfl (src_new 6 (by decide) rfl rfl (by kernel_rfl)) (src_new 7 (by decide) rfl rfl (by kernel_rfl)) (fun w => idxS g c hc w)
    · exact stepLoad (.pointer (some ⟨g, c, none⟩)) rfl rfl rfl rfl (src_new 8 (by decide) rfl rfl (by kernel_rfl)) (fun w hk => ldW ((p2.below (hk.below (nh0 rfl))).u32v hc t1))
    · exact stepBin rfl rfl rfl rfl (src_new 5 (by decide) rfl rfl (by kernel_rfl)) (src_new 9 (by decide) rfl rfl (by kernel_rfl)) (fun w => (EX1.out ▸ xorW _ _ _ _) w)
    · exact stepCallC rfl rfl rfl rfl cfRot (src_new 10 (by decide) rfl rfl (by kernel_rfl)) (fun w hk => l4Rot_c X1 R1 12 w BX1.out (by decide) (by decide) ER1.out)
    · exact stepIdx rfl rfl rfl rfl (src_new 0 (by decide) rfl rfl (by kernel_rfl)) (src_new 1 (by decide) rfl rfl (by kernel_rfl)) (fun w => idxS g b hb w)
  intro v x4 hok hk
  replace hk := hk.all
  have v0 := okVal hok (j := 0) rfl rfl
  have v1 := okVal hok (j := 1) rfl rfl
  have v2 := okVal hok (j := 2) rfl rfl
  have v3 := okVal hok (j := 3) rfl rfl
  have v4 := okVal hok (j := 4) rfl rfl
  have v5 := okVal hok (j := 5) rfl rfl
  have v6 := okVal hok (j := 6) rfl rfl
  have v7 := okVal hok (j := 7) rfl rfl
  have v8 := okVal hok (j := 8) rfl rfl
  have v9 := okVal hok (j := 9) rfl rfl
  have v10 := okVal hok (j := 10) rfl rfl
  have v11 := okVal hok (j := 11) rfl rfl
  have v12 := okVal hok (j := 12) rfl rfl
  clear hok
  simp only [putL, Nat.zero_add, Nat.reduceAdd, v0, v1, v2, v3, v4, v5, v6, v7, v8, v9, v10, v11, v12, Act.put, List.setIfInBounds_toArray, List.set_cons_zero, List.set_cons_succ]
  clear v0 v1 v2 v3 v4 v5 v6 v7 v8 v9 v10 v11 v12
  have fX := p2.below (hk.below (nh0 rfl))
  have gX : w.grownBy x4 (some g) := gr_trans2 k2 (gr_of (hk.below (nh0 rfl)))
  have cX := fX.u32 hb
  have zX := fX.froz (j := b)
  have p3 := fX.put32 hb R1
  have k3 := gr_trans2 gX (grown_put x4 g b (.int .u32 R1))
  clear hk fX gX
  clear p2 k2
  go_upto_region 4 with (fail)
  generalize x4.setCell ⟨g, b, none⟩ (.int .u32 R1) = y3 at *
  clear cX zX
  rw [← EF2.out] at p3
  refine region_rest 12 (kdAt [.val (.slice (some ⟨g, 0, none⟩) 16 16), .val (.int .i64 a), .val (.slice (some ⟨g, 0, none⟩) 16 16), .val (.int .i64 a), .val (.pointer (some ⟨g, a, none⟩)), .val (.int .u32 (f2 a)), .val (.slice (some ⟨g, 0, none⟩) 16 16), .val (.int .i64 b), .val (.pointer (some ⟨g, b, none⟩)), .val (.int .u32 (f2 b)), .val (.int .u32 A2), .val (.pointer (some ⟨g, a, none⟩))]) [some 60, some 61, some 62, some 63, some 64, some 65, some 66, some 67, some 68, some 69, some 70, some 71] (by kernel_rfl) (by decide) (by kernel_rfl) (by kernel_rfl) (by kernel_rfl) (by kernel_rfl) (by kernel_rfl) _ (fun a w h => anyStep (n := 0) (i := 12) (by kernel_rfl) rfl (fun a w h => anyEnd (by kernel_rfl) h) h) ?_ ?_
  · repeat refine allS ?_ ?_
    · exact all0
    · exact stepMove rfl rfl rfl rfl (src_old (by kernel_rfl) rfl)
    · exact stepMove rfl rfl rfl rfl (src_old (by kernel_rfl) rfl)
    · exact stepMove rfl rfl rfl rfl (src_old (by kernel_rfl) rfl)
    · exact stepMove rfl rfl rfl rfl (src_old (by kernel_rfl) rfl)
    · exact stepIdx rfl rfl rfl rfl (src_new 2 (by decide) rfl rfl (by kernel_rfl)) (src_new 3 (by decide) rfl rfl (by kernel_rfl)) (fun w => idxS g a ha w)
    · exact stepLoad (.pointer (some ⟨g, a, none⟩)) rfl rfl rfl rfl (src_new 4 (by decide) rfl rfl (by kernel_rfl)) (fun w hk => ldW ((p3.below (hk.below (nh0 rfl))).u32v ha rfl))
    · exact stepMove rfl rfl rfl rfl (src_old (by kernel_rfl) rfl)
    · exact stepMove rfl rfl rfl rfl (src_old (by kernel_rfl) rfl)
    · exact stepIdx rfl rfl rfl rfl (src_new 6 (by decide) rfl rfl (by kernel_rfl)) (src_new 7 (by decide) rfl rfl (by kernel_rfl)) (fun w => idxS g b hb w)
    · exact stepLoad (.pointer (some ⟨g, b, none⟩)) rfl rfl rfl rfl (src_new 8 (by decide) rfl rfl (by kernel_rfl)) (fun w hk => ldW ((p3.below (hk.below (nh0 rfl))).u32v hb rfl))
    · exact stepBin rfl rfl rfl rfl (src_new 5 (by decide) rfl rfl (by kernel_rfl)) (src_new 9 (by decide) rfl rfl (by kernel_rfl)) (fun w => (EA2.out ▸ addW _ _ _ _) w)
    · exact stepIdx rfl rfl rfl rfl (src_new 0 (by decide) rfl rfl (by kernel_rfl)) (src_new 1 (by decide) rfl rfl (by kernel_rfl)) (fun w => idxS g a ha w)
  intro v x5 hok hk
  replace hk := hk.all
  have v0 := okVal hok (j := 0) rfl rfl
  have v1 := okVal hok (j := 1) rfl rfl
  have v2 := okVal hok (j := 2) rfl rfl
  have v3 := okVal hok (j := 3) rfl rfl
  have v4 := okVal hok (j := 4) rfl rfl
  have v5 := okVal hok (j := 5) rfl rfl
  have v6 := okVal hok (j := 6) rfl rfl
  have v7 := okVal hok (j := 7) rfl rfl
  have v8 := okVal hok (j := 8) rfl rfl
  have v9 := okVal hok (j := 9) rfl rfl
  have v10 := okVal hok (j := 10) rfl rfl
  have v11 := okVal hok (j := 11) rfl rfl
  clear hok
  simp only [putL, Nat.zero_add, Nat.reduceAdd, v0, v1, v2, v3, v4, v5, v6, v7, v8, v9, v10, v11, Act.put, List.setIfInBounds_toArray, List.set_cons_zero, List.set_cons_succ]
  clear v0 v1 v2 v3 v4 v5 v6 v7 v8 v9 v10 v11
  have fX := p3.below (hk.below (nh0 rfl))
  have gX : w.grownBy x5 (some g) := gr_trans2 k3 (gr_of (hk.below (nh0 rfl)))
  have cX := fX.u32 ha
  have zX := fX.froz (j := a)
  have p4 := fX.put32 ha A2
  have k4 := gr_trans2 gX (grown_put x5 g a (.int .u32 A2))
  clear hk fX gX
  clear p3 k3
  go_upto_region 5 with (fail)
  generalize x5.setCell ⟨g, a, none⟩ (.int .u32 A2) = y4 at *
  clear cX zX
  refine region_rest 13 (kdAt [.val (.slice (some ⟨g, 0, none⟩) 16 16), .val (.int .i64 d), .val (.slice (some ⟨g, 0, none⟩) 16 16), .val (.int .i64 d), .val (.pointer (some ⟨g, d, none⟩)), .val (.int .u32 (f2 d)), .val (.slice (some ⟨g, 0, none⟩) 16 16), .val (.int .i64 a), .val (.pointer (some ⟨g, a, none⟩)), .val (.int .u32 A2), .val (.int .u32 X2), .val (.int .u32 R2), .val (.pointer (some ⟨g, d, none⟩))]) [some 72, some 73, some 74, some 75, some 76, some 77, some 78, some 79, some 80, some 81, some 82, some 83, some 84] (by kernel_rfl) (by decide) (by kernel_rfl) (by kernel_rfl) (by kernel_rfl) (by kernel_rfl) (by kernel_rfl) _ (fun a w h => anyStep (n := 0) (i := 13) (by kernel_rfl) rfl (fun a w h => anyEnd (by kernel_rfl) h) h) ?_ ?_
  · repeat refine allS ?_ ?_
    · exact all0
    · exact stepMove rfl rfl rfl rfl (src_old (by kernel_rfl) rfl)
    · exact stepMove rfl rfl rfl rfl (src_old (by kernel_rfl) rfl)
    · exact stepMove rfl rfl rfl rfl (src_old (by kernel_rfl) rfl)
    · exact stepMove rfl rfl rfl rfl (src_old (by kernel_rfl) rfl)
    · exact stepIdx rfl rfl rfl rfl (src_new 2 (by decide) rfl rfl (by kernel_rfl)) (src_new 3 (by decide) rfl rfl (by kernel_rfl)) (fun w => idxS g d hd w)
    · exact stepLoad (.pointer (some ⟨g, d, none⟩)) rfl rfl rfl rfl (src_new 4 (by decide) rfl rfl (by kernel_rfl)) (fun w hk => ldW ((p4.below (hk.below (nh0 rfl))).u32v hd u2))
    · exact stepMove rfl rfl rfl rfl (src_old (by kernel_rfl) rfl)
    · exact stepMove rfl rfl rfl rfl (src_old (by kernel_rfl) rfl)
    · exact stepIdx rfl rfl rfl rfl (src_new 6 (by decide) rfl rfl (by kernel_rfl)) (src_new 7 (by decide) rfl rfl (by kernel_rfl)) (fun w => idxS g a ha w)
    · exact stepLoad (.pointer (some ⟨g, a, none⟩)) rfl rfl rfl rfl (src_new 8 (by decide) rfl rfl (by kernel_rfl)) (fun w hk => ldW ((p4.below (hk.below (nh0 rfl))).u32v ha t2))
    · exact stepBin rfl rfl rfl rfl (src_new 5 (by decide) rfl rfl (by kernel_rfl)) (src_new 9 (by decide) rfl rfl (by kernel_rfl)) (fun w => (EX2.out ▸ xorW _ _ _ _) w)
    · exact stepCallC rfl rfl rfl rfl cfRot (src_new 10 (by decide) rfl rfl (by kernel_rfl)) (fun w hk => l4Rot_c X2 R2 8 w BX2.out (by decide) (by decide) ER2.out)
    · exact stepIdx rfl rfl rfl rfl (src_new 0 (by decide) rfl rfl (by kernel_rfl)) (src_new 1 (by decide) rfl rfl (by kernel_rfl)) (fun w => idxS g d hd w)
  intro v x6 hok hk
  replace hk := hk.all
  have v0 := okVal hok (j := 0) rfl rfl
  have v1 := okVal hok (j := 1) rfl rfl
  have v2 := okVal hok (j := 2) rfl rfl
  have v3 := okVal hok (j := 3) rfl rfl
  have v4 := okVal hok (j := 4) rfl rfl
  have v5 := okVal hok (j := 5) rfl rfl
  have v6 := okVal hok (j := 6) rfl rfl
  have v7 := okVal hok (j := 7) rfl rfl
  have v8 := okVal hok (j := 8) rfl rfl
  have v9 := okVal hok (j := 9) rfl rfl
  have v10 := okVal hok (j := 10) rfl rfl
  have v11 := okVal hok (j := 11) rfl rfl
  have v12 := okVal hok (j := 12) rfl rfl
  clear hok
  simp only [putL, Nat.zero_add, Nat.reduceAdd, v0, v1, v2, v3, v4, v5, v6, v7, v8, v9, v10, v11, v12, Act.put, List.setIfInBounds_toArray, List.set_cons_zero, List.set_cons_succ]
  clear v0 v1 v2 v3 v4 v5 v6 v7 v8 v9 v10 v11 v12
  have fX := p4.below (hk.below (nh0 rfl))
  have gX : w.grownBy x6 (some g) := gr_trans2 k4 (gr_of (hk.below (nh0 rfl)))
  have cX := fX.u32 hd
  have zX := fX.froz (j := d)
  have p5 := fX.put32 hd R2
  have k5 := gr_trans2 gX (grown_put x6 g d (.int .u32 R2))
  clear hk fX gX
  clear p4 k4
  go_upto_region 6 with (fail)
  generalize x6.setCell ⟨g, d, none⟩ (.int .u32 R2) = y5 at *
  clear cX zX
  rw [← EF3.out] at p5
  refine region_rest 12 (kdAt [.val (.slice (some ⟨g, 0, none⟩) 16 16), .val (.int .i64 c), .val (.slice (some ⟨g, 0, none⟩) 16 16), .val (.int .i64 c), .val (.pointer (some ⟨g, c, none⟩)), .val (.int .u32 (f3 c)), .val (.slice (some ⟨g, 0, none⟩) 16 16), .val (.int .i64 d), .val (.pointer (some ⟨g, d, none⟩)), .val (.int .u32 (f3 d)), .val (.int .u32 A3), .val (.pointer (some ⟨g, c, none⟩))]) [some 85, some 86, some 87, some 88, some 89, some 90, some 91, some 92, some 93, some 94, some 95, some 96] (by kernel_rfl) (by decide) (by kernel_rfl) (by kernel_rfl) (by kernel_rfl) (by kernel_rfl) (by kernel_rfl) _ (fun a w h => anyStep (n := 0) (i := 12) (by kernel_rfl) rfl (fun a w h => anyEnd (by kernel_rfl) h) h) ?_ ?_
  · repeat refine allS ?_ ?_
    · exact all0
    · exact stepMove rfl rfl rfl rfl (src_old (by kernel_rfl) rfl)
    · exact stepMove rfl rfl rfl rfl (src_old (by kernel_rfl) rfl)
    · exact stepMove rfl rfl rfl rfl (src_old (by kernel_rfl) rfl)
    · exact stepMove rfl rfl rfl rfl (src_old (by kernel_rfl) rfl)
    · exact stepIdx rfl rfl rfl rfl (src_new 2 (by decide) rfl rfl (by kernel_rfl)) (src_new 3 (by decide) rfl rfl (by kernel_rfl)) (fun w => idxS g c hc w)
    · exact stepLoad (.pointer (some ⟨g, c, none⟩)) rfl rfl rfl rfl (src_new 4 (by decide) rfl rfl (by kernel_rfl)) (fun w hk => ldW ((p5.below (hk.below (nh0 rfl))).u32v hc rfl))
    · exact stepMove rfl rfl rfl rfl (src_old (by kernel_rfl) rfl)
    · exact stepMove rfl rfl rfl rfl (src_old (by kernel_rfl) rfl)
    · exact stepIdx rfl rfl rfl rfl (src_new 6 (by decide) rfl rfl (by kernel_rfl)) (src_new 7 (by decide) rfl rfl (by kernel_rfl)) (fun w => idxS g d hd w)
    · exact stepLoad (.pointer (some ⟨g, d, none⟩)) rfl rfl rfl rfl (src_new 8 (by decide) rfl rfl (by kernel_rfl)) (fun w hk => ldW ((p5.below (hk.below (nh0 rfl))).u32v hd rfl))
    · exact stepBin rfl rfl rfl rfl (src_new 5 (by decide) rfl rfl (by kernel_rfl)) (src_new 9 (by decide) rfl rfl (by kernel_rfl)) (fun w => (EA3.out ▸ addW _ _ _ _) w)
    · exact stepIdx rfl rfl rfl rfl (src_new 0 (by decide) rfl rfl (by kernel_rfl)) (src_new 1 (by decide) rfl rfl (by kernel_rfl)) (fun w => idxS g c hc w)
  intro v x7 hok hk
  replace hk := hk.all
  have v0 := okVal hok (j := 0) rfl rfl
  have v1 := okVal hok (j := 1) rfl rfl
  have v2 := okVal hok (j := 2) rfl rfl
  have v3 := okVal hok (j := 3) rfl rfl
  have v4 := okVal hok (j := 4) rfl rfl
  have v5 := okVal hok (j := 5) rfl rfl
  have v6 := okVal hok (j := 6) rfl rfl
  have v7 := okVal hok (j := 7) rfl rfl
  have v8 := okVal hok (j := 8) rfl rfl
  have v9 := okVal hok (j := 9) rfl rfl
  have v10 := okVal hok (j := 10) rfl rfl
  have v11 := okVal hok (j := 11) rfl rfl
  clear hok
  simp only [putL, Nat.zero_add, Nat.reduceAdd, v0, v1, v2, v3, v4, v5, v6, v7, v8, v9, v10, v11, Act.put, List.setIfInBounds_toArray, List.set_cons_zero, List.set_cons_succ]
  clear v0 v1 v2 v3 v4 v5 v6 v7 v8 v9 v10 v11
  have fX := p5.below (hk.below (nh0 rfl))
  have gX : w.grownBy x7 (some g) := gr_trans2 k5 (gr_of (hk.below (nh0 rfl)))
  have cX := fX.u32 hc
  have zX := fX.froz (j := c)
  have p6 := fX.put32 hc A3
  have k6 := gr_trans2 gX (grown_put x7 g c (.int .u32 A3))
  clear hk fX gX
  clear p5 k5
  go_upto_region 7 with (fail)
  generalize x7.setCell ⟨g, c, none⟩ (.int .u32 A3) = y6 at *
  clear cX zX
  refine region_rest 13 (kdAt [.val (.slice (some ⟨g, 0, none⟩) 16 16), .val (.int .i64 b), .val (.slice (some ⟨g, 0, none⟩) 16 16), .val (.int .i64 b), .val (.pointer (some ⟨g, b, none⟩)), .val (.int .u32 (f3 b)), .val (.slice (some ⟨g, 0, none⟩) 16 16), .val (.int .i64 c), .val (.pointer (some ⟨g, c, none⟩)), .val (.int .u32 A3), .val (.int .u32 X3), .val (.int .u32 R3), .val (.pointer (some ⟨g, b, none⟩))]) [some 97, some 98, some 99, some 100, some 101, some 102, some 103, some 104, some 105, some 106, some 107, some 108, some 109] (by kernel_rfl) (by decide) (by kernel_rfl) (by kernel_rfl) (by kernel_rfl) (by kernel_rfl) (by kernel_rfl) _ (fun a w h => anyStep (n := 0) (i := 13) (by kernel_rfl) rfl (fun a w h => anyEnd (by kernel_rfl) h) h) ?_ ?_
  · repeat refine allS ?_ ?_
    · exact all0
    · exact stepMove rfl rfl rfl rfl (src_old (by kernel_rfl) rfl)
    · exact stepMove rfl rfl rfl rfl (src_old (by kernel_rfl) rfl)
    · exact stepMove rfl rfl rfl rfl (src_old (by kernel_rfl) rfl)
    · exact stepMove rfl rfl rfl rfl (src_old (by kernel_rfl) rfl)
    · exact stepIdx rfl rfl rfl rfl (src_new 2 (by decide) rfl rfl (by kernel_rfl)) (src_new 3 (by decide) rfl rfl (by kernel_rfl)) (fun w => idxS g b hb w)
    · exact stepLoad (.pointer (some ⟨g, b, none⟩)) rfl rfl rfl rfl (src_new 4 (by decide) rfl rfl (by kernel_rfl)) (fun w hk => ldW ((p6.below (hk.below (nh0 rfl))).u32v hb u3))
    · exact stepMove rfl rfl rfl rfl (src_old (by kernel_rfl) rfl)
    · exact stepMove rfl rfl rfl rfl (src_old (by kernel_rfl) rfl)
    · exact stepIdx rfl rfl rfl rfl (src_new 6 (by decide) rfl rfl (by kernel_rfl)) (src_new 7 (by decide) rfl rfl (by kernel_rfl)) (fun w => idxS g c hc w)
    · exact stepLoad (.pointer (some ⟨g, c, none⟩)) rfl rfl rfl rfl (src_new 8 (by decide) rfl rfl (by kernel_rfl)) (fun w hk => ldW ((p6.below (hk.below (nh0 rfl))).u32v hc t3))
    · exact stepBin rfl rfl rfl rfl (src_new 5 (by decide) rfl rfl (by kernel_rfl)) (src_new 9 (by decide) rfl rfl (by kernel_rfl)) (fun w => (EX3.out ▸ xorW _ _ _ _) w)
    · exact stepCallC rfl rfl rfl rfl cfRot (src_new 10 (by decide) rfl rfl (by kernel_rfl)) (fun w hk => l4Rot_c X3 R3 7 w BX3.out (by decide) (by decide) ER3.out)
    · exact stepIdx rfl rfl rfl rfl (src_new 0 (by decide) rfl rfl (by kernel_rfl)) (src_new 1 (by decide) rfl rfl (by kernel_rfl)) (fun w => idxS g b hb w)
  intro v x8 hok hk
  replace hk := hk.all
  have v0 := okVal hok (j := 0) rfl rfl
  have v1 := okVal hok (j := 1) rfl rfl
  have v2 := okVal hok (j := 2) rfl rfl
  have v3 := okVal hok (j := 3) rfl rfl
  have v4 := okVal hok (j := 4) rfl rfl
  have v5 := okVal hok (j := 5) rfl rfl
  have v6 := okVal hok (j := 6) rfl rfl
  have v7 := okVal hok (j := 7) rfl rfl
  have v8 := okVal hok (j := 8) rfl rfl
  have v9 := okVal hok (j := 9) rfl rfl
  have v10 := okVal hok (j := 10) rfl rfl
  have v11 := okVal hok (j := 11) rfl rfl
  have v12 := okVal hok (j := 12) rfl rfl
  clear hok
  simp only [putL, Nat.zero_add, Nat.reduceAdd, v0, v1, v2, v3, v4, v5, v6, v7, v8, v9, v10, v11, v12, Act.put, List.setIfInBounds_toArray, List.set_cons_zero, List.set_cons_succ]
  clear v0 v1 v2 v3 v4 v5 v6 v7 v8 v9 v10 v11 v12
  have fX := p6.below (hk.below (nh0 rfl))
  have gX : w.grownBy x8 (some g) := gr_trans2 k6 (gr_of (hk.below (nh0 rfl)))
  have cX := fX.u32 hb
  have zX := fX.froz (j := b)
  have p7 := fX.put32 hb R3
  have k7 := gr_trans2 gX (grown_put x8 g b (.int .u32 R3))
  clear hk fX gX
  clear p6 k6
  rw [← EF4.out] at p7
  go_wp2
  go_end0
  exact ⟨rfl, by rw [← HE.out]; exact p7, k7⟩

end Go.Proofs.Ytipcficcoogbnaa

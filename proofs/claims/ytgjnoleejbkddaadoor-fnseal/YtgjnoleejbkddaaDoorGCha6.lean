/- The specification's l4Le. -/
import Derived.Test.YtgjnoleejbkddaaDoorGM0
import Derived.Test.YtgjnoleejbkddaaDoorGCha5
namespace Go.My
open Go.RowKit
set_option linter.unusedVariables false
section
variable {P : Program} {Q : Exit → Act → World → Prop} {ops : Array Oper} {m : Nat} {a0 : Act} {w0 : World} {D : Nat → Kd} {i : Nat} {o : Oper}
theorem stepIndex {x y z : Value} {T : TypeId} {k l : Tmp} (hoi : ops[i]? = some o) (hg : o.guard = none) (hD : D i = .val z) (hop : o.op = .index T (.tmp k) (.tmp l)) (hk : Src ops m a0 D o k x) (hl : Src ops m a0 D o l y)
    (hr : ∀ w, (Instr.index T x y).run P w = .ok z w) : StepOk P Q ops m a0 w0 D i := by
  refine stepRun [(k, x), (l, y)] hoi hg hD (srcN2 hk hl) fun a w ha hb => ?_
  have h1 : a.eval (.tmp k) = x := ha (k, x) (by simp)
  have h2 : a.eval (.tmp l) = y := ha (l, y) (by simp)
  unfold execOp
  simp only [hop]
  simp only [h1, h2, Sem.run_bind, hr w, Result.andThen_ok, Sem.run_pure]
theorem stepConv' {x y : Value} {T U : TypeId} {k : Tmp} (hoi : ops[i]? = some o) (hg : o.guard = none) (hD : D i = .val x) (hop : o.op = .convert T U (.tmp k)) (hk : Src ops m a0 D o k y)
    (hl : ∀ w, (convert T U y).run P w = .ok x w) : StepOk P Q ops m a0 w0 D i := by
  refine stepRun [(k, y)] hoi hg hD (fun p hp => by rw [List.mem_singleton.1 hp]; exact hk) fun a w ha hb => ?_
  have := ha (k, y) (by simp)
  unfold execOp
  simp only [hop]
  simp only [this, Sem.run_bind, hl w, Result.andThen_ok, Sem.run_pure]
theorem stepBinR {c y z : Value} {bop : BinOp} {T U : TypeId} {l : Tmp} (hoi : ops[i]? = some o) (hg : o.guard = none) (hD : D i = .val z) (hop : o.op = .binOp bop T (.tmp l) (.const c) U) (hl : Src ops m a0 D o l y)
    (hr : ∀ w, (do eqGuard bop T (.tmp l) (.const c) y c; binOp bop T y c : Sem Value).run P w = .ok z w) : StepOk P Q ops m a0 w0 D i := by
  refine stepRun [(l, y)] hoi hg hD (srcN1 hl) fun a w ha hb => ?_
  have h2 : a.eval (.tmp l) = y := ha (l, y) (by simp)
  unfold execOp
  simp only [hop]
  simp only [h2]
  rw [Sem.run_bind]
  have := hr w
  simp only [Act.eval] at this ⊢
  rw [this]
  rfl
end
theorem orAdd32 (k x y : Nat) (hx : x < 2 ^ k) (h : x + 2 ^ k * y < 4294967296) : bits .or .u32 (x : Int) ((2 ^ k * y : Nat) : Int) = ((x + 2 ^ k * y : Nat) : Int) := by
  rw [u32_or_nat _ _ (by omega) (by omega), Nat.or_comm, nat_join k (2 ^ k * y) x (by rw [Nat.mul_mod_right]) hx]
  congr 1
  omega
theorem leN4 (l : List UInt8) (p : Nat) (h : p + 4 ≤ l.length) : leN ((l.drop p).take 4) = (l[p]'(by omega)).toNat + 256 * (l[p + 1]'(by omega)).toNat + 65536 * (l[p + 2]'(by omega)).toNat + 16777216 * (l[p + 3]'(by omega)).toNat := by
  have e : (l.drop p).take 4 = [l[p]'(by omega), l[p + 1]'(by omega), l[p + 2]'(by omega), l[p + 3]'(by omega)] := by
    apply List.ext_getElem
    · rw [List.length_take, List.length_drop]; simp; omega
    · intro i h1 h2
      have : i = 0 ∨ i = 1 ∨ i = 2 ∨ i = 3 := by simp at h2; omega
      rcases this with rfl | rfl | rfl | rfl <;> simp
  rw [e]
  simp only [leN]
  omega
end Go.My
namespace Go.Proofs.YtgjnoleejbkddaaDoor
open Go.RowKit Go.My Go.Lib
set_option linter.unusedVariables false
def wordP (s : ByteArray) (p : Nat) : Int := (leN ((s.data.toList.drop p).take 4) : Int)
theorem ixS (s : ByteArray) (p : Nat) (h : p < s.size) (w : World) : (Instr.index 9 (.string s) (.int .i64 p)).run Tryd.prog w = .ok (.int .u8 (s[p].toNat : Int)) w := by
  have h1 : (p : Int) < (s.size : Int) := by omega
  simp [Instr.index, go_sem, h]
theorem cvB (b : Nat) (h : b < 256) (w : World) : (convert 5 64 (.int .u8 b)).run Tryd.prog w = .ok (.int .u32 b) w := by
  have : IntKind.u32.wrap (b : Int) = (b : Int) := by rw [IntKind.wrap_u32]; omega
  simp [convert, go_sem, this]
theorem addP (p k : Nat) (h : p ≤ 100000) (hk : k ≤ 3) (x y : Operand) (w : World) : (do eqGuard .add 3 x y (.int .i64 p) (.int .i64 k); binOp .add 3 (.int .i64 p) (.int .i64 k) : Sem Value).run Tryd.prog w = .ok (.int .i64 (p + k : Nat)) w := by
  have : IntKind.i64.wrap ((p : Int) + (k : Int)) = ((p + k : Nat) : Int) := by rw [IntKind.wrap_i64]; omega
  simp [eqGuard, binOp, go_sem, this]
theorem shlC (b k : Nat) (h : b < 256) (hk : k ≤ 24) (x y : Operand) (w : World) : (do eqGuard .shl 64 x y (.int .u32 b) (.int .u64 k); binOp .shl 64 (.int .u32 b) (.int .u64 k) : Sem Value).run Tryd.prog w = .ok (.int .u32 (2 ^ k * b : Nat)) w := by
  have h1 : 2 ^ k * b < 2 ^ 24 * 256 := Nat.mul_lt_mul_of_le_of_lt (Nat.pow_le_pow_right (by decide) hk) h (by decide)
  have : IntKind.u32.wrap ((b : Int) * 2 ^ k) = ((2 ^ k * b : Nat) : Int) := by
    rw [show (b : Int) * 2 ^ k = ((2 ^ k * b : Nat) : Int) by rw [Int.natCast_mul, Int.natCast_pow, Int.mul_comm]; rfl, IntKind.wrap_u32]
    omega
  simp [eqGuard, binOp, go_sem]
  exact this

set_option maxRecDepth 100000 in
set_option maxHeartbeats 2000000 in
theorem l4Le_any (s : ByteArray) (p : Nat) (w : World) (h : p + 4 ≤ s.size) (hs : s.size ≤ 1000) :
    Calls Tryd.prog 46 #[.string s, .int .i64 p] w fun e w' => e = .returned (.int .u32 (wordP s p)) ∧ Below w.heap.size w w' := by
  obtain ⟨B0, e0⟩ : ∃ B, B = (s[p]'(by omega)).toNat := ⟨_, rfl⟩
  obtain ⟨B1, e1⟩ : ∃ B, B = (s[p + 1]'(by omega)).toNat := ⟨_, rfl⟩
  obtain ⟨B2, e2⟩ : ∃ B, B = (s[p + 2]'(by omega)).toNat := ⟨_, rfl⟩
  obtain ⟨B3, e3⟩ : ∃ B, B = (s[p + 3]'(by omega)).toNat := ⟨_, rfl⟩
  have l0 : B0 < 256 := by rw [e0]; exact UInt8.toNat_lt _
  have l1 : B1 < 256 := by rw [e1]; exact UInt8.toNat_lt _
  have l2 : B2 < 256 := by rw [e2]; exact UInt8.toNat_lt _
  have l3 : B3 < 256 := by rw [e3]; exact UInt8.toNat_lt _
  have hV : ((B0 + 2 ^ 8 * B1 + 2 ^ 16 * B2 + 2 ^ 24 * B3 : Nat) : Int) = wordP s p := by
    unfold wordP
    rw [leN4 s.data.toList p (by rw [len_data]; exact h), e0, e1, e2, e3]
    rfl
  have i0 : ∀ w, (Instr.index 9 (.string s) (.int .i64 p)).run Tryd.prog w = .ok (.int .u8 B0) w := fun w => by rw [e0]; exact ixS s p (by omega) w
  have i1 : ∀ w, (Instr.index 9 (.string s) (.int .i64 (p + 1 : Nat))).run Tryd.prog w = .ok (.int .u8 B1) w := fun w => by rw [e1]; exact ixS s (p + 1) (by omega) w
  have i2 : ∀ w, (Instr.index 9 (.string s) (.int .i64 (p + 2 : Nat))).run Tryd.prog w = .ok (.int .u8 B2) w := fun w => by rw [e2]; exact ixS s (p + 2) (by omega) w
  have i3 : ∀ w, (Instr.index 9 (.string s) (.int .i64 (p + 3 : Nat))).run Tryd.prog w = .ok (.int .u8 B3) w := fun w => by rw [e3]; exact ixS s (p + 3) (by omega) w
  have o1 := orAdd32 8 B0 B1 (by omega) (by omega)
  have o2 := orAdd32 16 (B0 + 2 ^ 8 * B1) B2 (by omega) (by omega)
  have o3 := orAdd32 24 (B0 + 2 ^ 8 * B1 + 2 ^ 16 * B2) B3 (by omega) (by omega)
  rw [← hV]
  clear e0 e1 e2 e3 hV
  go_enter Tryd.func46, Tryd.ntmps46
  go_upto_region 1 with (fail)
  refine region_all 26 (kdAt [.val (.string s), .val (.int .i64 p), .val (.int .u8 B0), .val (.int .u32 B0), .val (.string s), .val (.int .i64 p), .val (.int .i64 (p + 1 : Nat)), .val (.int .u8 B1), .val (.int .u32 B1), .val (.int .u32 (2 ^ 8 * B1 : Nat)), .val (.int .u32 (B0 + 2 ^ 8 * B1 : Nat)), .val (.string s), .val (.int .i64 p), .val (.int .i64 (p + 2 : Nat)), .val (.int .u8 B2), .val (.int .u32 B2), .val (.int .u32 (2 ^ 16 * B2 : Nat)), .val (.int .u32 (B0 + 2 ^ 8 * B1 + 2 ^ 16 * B2 : Nat)), .val (.string s), .val (.int .i64 p), .val (.int .i64 (p + 3 : Nat)), .val (.int .u8 B3), .val (.int .u32 B3), .val (.int .u32 (2 ^ 24 * B3 : Nat)), .val (.int .u32 (B0 + 2 ^ 8 * B1 + 2 ^ 16 * B2 + 2 ^ 24 * B3 : Nat)), .val (.int .u32 (B0 + 2 ^ 8 * B1 + 2 ^ 16 * B2 + 2 ^ 24 * B3 : Nat))]) [some 5, some 6, some 7, some 8, some 9, some 10, some 11, some 12, some 13, some 14, some 15, some 16, some 17, some 18, some 19, some 20, some 21, some 22, some 23, some 24, some 25, some 26, some 27, some 28, some 29, some 4] (by kernel_rfl) rfl (by kernel_rfl) (by kernel_rfl) (by kernel_rfl) (by kernel_rfl) ?_ ?_
  · repeat refine allS ?_ ?_
    · exact all0
    · exact stepMove rfl rfl rfl rfl (src_old (by kernel_rfl) rfl)
    · exact stepMove rfl rfl rfl rfl (src_old (by kernel_rfl) rfl)
    · exact stepIndex rfl rfl rfl rfl (src_new 0 (by decide) rfl rfl (by kernel_rfl)) (src_new 1 (by decide) rfl rfl (by kernel_rfl)) i0
    · exact stepConv' rfl rfl rfl rfl (src_new 2 (by decide) rfl rfl (by kernel_rfl)) (fun w => cvB B0 l0 w)
    · exact stepMove rfl rfl rfl rfl (src_old (by kernel_rfl) rfl)
    · exact stepMove rfl rfl rfl rfl (src_old (by kernel_rfl) rfl)
    · exact stepBinR rfl rfl rfl rfl (src_new 5 (by decide) rfl rfl (by kernel_rfl)) (fun w => addP p 1 (by omega) (by omega) _ _ w)
    · exact stepIndex rfl rfl rfl rfl (src_new 4 (by decide) rfl rfl (by kernel_rfl)) (src_new 6 (by decide) rfl rfl (by kernel_rfl)) i1
    · exact stepConv' rfl rfl rfl rfl (src_new 7 (by decide) rfl rfl (by kernel_rfl)) (fun w => cvB B1 l1 w)
    · exact stepBinR rfl rfl rfl rfl (src_new 8 (by decide) rfl rfl (by kernel_rfl)) (fun w => shlC B1 8 l1 (by omega) _ _ w)
    · exact stepBin rfl rfl rfl rfl (src_new 3 (by decide) rfl rfl (by kernel_rfl)) (src_new 9 (by decide) rfl rfl (by kernel_rfl)) (fun w => o1 ▸ orW _ _ _ _ w)
    · exact stepMove rfl rfl rfl rfl (src_old (by kernel_rfl) rfl)
    · exact stepMove rfl rfl rfl rfl (src_old (by kernel_rfl) rfl)
    · exact stepBinR rfl rfl rfl rfl (src_new 12 (by decide) rfl rfl (by kernel_rfl)) (fun w => addP p 2 (by omega) (by omega) _ _ w)
    · exact stepIndex rfl rfl rfl rfl (src_new 11 (by decide) rfl rfl (by kernel_rfl)) (src_new 13 (by decide) rfl rfl (by kernel_rfl)) i2
    · exact stepConv' rfl rfl rfl rfl (src_new 14 (by decide) rfl rfl (by kernel_rfl)) (fun w => cvB B2 l2 w)
    · exact stepBinR rfl rfl rfl rfl (src_new 15 (by decide) rfl rfl (by kernel_rfl)) (fun w => shlC B2 16 l2 (by omega) _ _ w)
    · exact stepBin rfl rfl rfl rfl (src_new 10 (by decide) rfl rfl (by kernel_rfl)) (src_new 16 (by decide) rfl rfl (by kernel_rfl)) (fun w => o2 ▸ orW _ _ _ _ w)
    · exact stepMove rfl rfl rfl rfl (src_old (by kernel_rfl) rfl)
    · exact stepMove rfl rfl rfl rfl (src_old (by kernel_rfl) rfl)
    · exact stepBinR rfl rfl rfl rfl (src_new 19 (by decide) rfl rfl (by kernel_rfl)) (fun w => addP p 3 (by omega) (by omega) _ _ w)
    · exact stepIndex rfl rfl rfl rfl (src_new 18 (by decide) rfl rfl (by kernel_rfl)) (src_new 20 (by decide) rfl rfl (by kernel_rfl)) i3
    · exact stepConv' rfl rfl rfl rfl (src_new 21 (by decide) rfl rfl (by kernel_rfl)) (fun w => cvB B3 l3 w)
    · exact stepBinR rfl rfl rfl rfl (src_new 22 (by decide) rfl rfl (by kernel_rfl)) (fun w => shlC B3 24 l3 (by omega) _ _ w)
    · exact stepBin rfl rfl rfl rfl (src_new 17 (by decide) rfl rfl (by kernel_rfl)) (src_new 23 (by decide) rfl rfl (by kernel_rfl)) (fun w => o3 ▸ orW _ _ _ _ w)
    · exact stepAssign rfl rfl rfl rfl (src_new 24 (by decide) rfl rfl (by kernel_rfl))
  intro v x1 hok hk
  replace hk := hk.all
  have v0 := okVal hok (j := 0) rfl rfl
  have v1 := okVal hok (j := 1) rfl rfl
  have v2 := okVal hok (j := 2) rfl rfl
  have v3 := okVal hok (j := 3) rfl rfl
  have v4 := okVal hok (j := 4) rfl rfl
  have v5 := okVal hok (j := 5) rfl rfl
  have v6 := okVal hok (j := 6) rfl rfl
  have v7 := okVal hok (j := 7) rfl rfl
  have v8 := okVal hok (j := 8) rfl rfl
  have v9 := okVal hok (j := 9) rfl rfl
  have v10 := okVal hok (j := 10) rfl rfl
  have v11 := okVal hok (j := 11) rfl rfl
  have v12 := okVal hok (j := 12) rfl rfl
  have v13 := okVal hok (j := 13) rfl rfl
  have v14 := okVal hok (j := 14) rfl rfl
  have v15 := okVal hok (j := 15) rfl rfl
  have v16 := okVal hok (j := 16) rfl rfl
  have v17 := okVal hok (j := 17) rfl rfl
  have v18 := okVal hok (j := 18) rfl rfl
  have v19 := okVal hok (j := 19) rfl rfl
  have v20 := okVal hok (j := 20) rfl rfl
  have v21 := okVal hok (j := 21) rfl rfl
  have v22 := okVal hok (j := 22) rfl rfl
  have v23 := okVal hok (j := 23) rfl rfl
  have v24 := okVal hok (j := 24) rfl rfl
  have v25 := okVal hok (j := 25) rfl rfl
  clear hok
  simp only [putL, Nat.zero_add, Nat.reduceAdd, v0, v1, v2, v3, v4, v5, v6, v7, v8, v9, v10, v11, v12, v13, v14, v15, v16, v17, v18, v19, v20, v21, v22, v23, v24, v25, Act.put, List.setIfInBounds_toArray, List.set_cons_zero, List.set_cons_succ]
  clear v0 v1 v2 v3 v4 v5 v6 v7 v8 v9 v10 v11 v12 v13 v14 v15 v16 v17 v18 v19 v20 v21 v22 v23 v24 v25
  have hB := hk.below (nh0 rfl)
  clear hk
  first | (go_wp2; go_ret) | go_ret
  exact ⟨rfl, hB⟩

end Go.Proofs.YtgjnoleejbkddaaDoor

/- OpenSeal of both sides. -/
import Derived.Test.YtgjnoleejbkddaaDoorGSea3
import Derived.Test.YtgjnoleejbkddaaDoorGCardO
namespace Go.My
open Go.RowKit
set_option linter.unusedVariables false
section
variable {P : Program} {Q : Exit → Act → World → Prop} {ops : Array Oper} {m : Nat} {a0 : Act} {w0 : World} {D : Nat → Kd} {i : Nat} {o : Oper}
theorem stepConstS {P : Program} {Q : Exit → Act → World → Prop} {ops : Array Oper} {m : Nat} {a0 : Act} {w0 : World} {D : Nat → Kd} {i : Nat} {o : Oper} {x : Value} (hoi : ops[i]? = some o) (hg : o.guard = none) (hD : D i = .val x) (hop : o.op = .assign (.const x)) : StepOk P Q ops m a0 w0 D i := by
  refine stepRun [] hoi hg hD (fun p hp => by cases hp) fun a w ha hb => ?_
  unfold execOp
  simp only [hop, Act.eval, Sem.run_pure]
theorem stepSliceL {x y z : Value} {T : TypeId} {k l : Tmp} (hoi : ops[i]? = some o) (hg : o.guard = none) (hD : D i = .val x) (hop : o.op = .slice T (.tmp k) (some (.tmp l)) none none) (hk : Src ops m a0 D o k y) (hl : Src ops m a0 D o l z)
    (hr : ∀ w, (Instr.sliceAt T y (some z) none none).run P w = .ok x w) : StepOk P Q ops m a0 w0 D i := by
  refine stepRun [(k, y), (l, z)] hoi hg hD (srcN2 hk hl) fun a w ha hb => ?_
  have h1 : a.eval (.tmp k) = y := ha (k, y) (by simp)
  have h2 : a.eval (.tmp l) = z := ha (l, z) (by simp)
  unfold execOp
  simp only [hop]
  simp only [h1, h2, Option.map_none, Option.map_some, Sem.run_bind, hr w, Result.andThen_ok, Sem.run_pure]
end
end Go.My
namespace Go.Proofs.YtgjnoleejbkddaaDoor
open Go.RowKit Go.My Go.Lib
set_option linter.unusedVariables false
set_option maxRecDepth 100000

theorem ldSk {g : Nat} {a m n : ByteArray} {w : World} (h : Blk g (skA a m n) 45 w) : (Instr.loadAt 45 (.pointer (some ⟨g, 0, none⟩))).run Tryd.prog w = .ok (.agg (skA a m n)) w := by
  have c0 := h.cell (j := 0) (v := .string a) rfl
  have c1 := h.cell (j := 1) (v := .string m) rfl
  have c2 := h.cell (j := 2) (v := .string n) rfl
  simp [Instr.loadAt, go_sem, c0, c1, c2]
theorem strNe (a b : ByteArray) (c : Bool) (hc : (a.toList != b.toList) = c) (k l : Operand) (w : World) : (do eqGuard .neq 9 k l (.string a) (.string b); binOp .neq 9 (.string a) (.string b) : Sem Value).run Tryd.prog w = .ok (.bool c) w := by
  subst hc
  simp [eqGuard, binOp, Op.stringOp, go_sem, bne]
theorem ne_dec (a b : ByteArray) : (a.toList != b.toList) = !decide (a = b) := by
  by_cases h : a = b
  · subst h; simp
  · have : a.toList ≠ b.toList := fun e => h (by rw [ByteArray.toList_eq, ByteArray.toList_eq] at e; rw [← str_of a, ← str_of b, e])
    simp [h, this]
theorem cfTag (args : Array Value) (w : World) : (callFunc 25 args).run Tryd.prog w = .ok (.enter 25 args) w := cf_of Tryd.func25 (by kernel_rfl) (by kernel_rfl) args w

set_option maxHeartbeats 2000000 in
theorem opened_short (k ad s : ByteArray) (w : World) (hk : k.size ≤ 1048576) (had : ad.size ≤ 1048576) (hs : s.size ≤ 1048576) (a b : Addr) (hT : TabO a b w) (h : s.size < 32) :
    Calls Tryd.prog 17 #[.string k, .string ad, .string s] w fun e w' => e = .returned (.tuple #[.string (ByteArray.mk #[]), .iface 91 (.pointer (some a))]) ∧ Below w.heap.size w w' := by
  have hF := hT.f
  have hw : IntKind.i64.wrap ((s.size : Int) - 32) = (s.size : Int) - 32 := IntWalk.i64_in _ (by omega)
  have h0 : (s.size : Int) - 32 < 0 := by omega
  clear hk had hs hT h
  go_enter Tryd.func17, Tryd.ntmps17
  go_wp2
  go_region
  all_goals (try go_wp2)
  all_goals
    go_ret2
    exact ⟨rfl, (Below.refl _ _).drew⟩

set_option maxHeartbeats 2000000 in
theorem opened_form (k ad s : ByteArray) (w : World) (hk : k.size ≤ 1048576) (had : ad.size ≤ 1048576) (hs : s.size ≤ 1048576) (a b : Addr) (hT : TabO a b w) (n : Nat) (hn : s.size = n + 32) (h : ¬ (k.size = 32 ∧ ad.size ≤ 300 ∧ n ≤ 400)) :
    Calls Tryd.prog 17 #[.string k, .string ad, .string s] w fun e w' => e = .returned (.tuple #[.string (ByteArray.mk #[]), .iface 91 (.pointer (some a))]) ∧ Below w.heap.size w w' := by
  have hF := hT.f
  have hw : IntKind.i64.wrap ((s.size : Int) - 32) = (n : Int) := by rw [IntWalk.i64_in _ (by omega)]; omega
  have h0 : ¬ (n : Int) < 0 := by omega
  have HO := Lib.hid (fun w => sealOk_i k ad n w hk had)
  have HD : Hid (decide (k.size = 32 ∧ ad.size ≤ 300 ∧ n ≤ 400) = false) := decide_eq_false h
  clear hk had hs hT h hn
  go_enter Tryd.func17, Tryd.ntmps17
  go_wp2_with fail
  refine (HO.out _).mono ?_
  rintro e w' ⟨rfl, rfl⟩
  rw [HD.out]
  go_wp2
  go_region
  all_goals (try go_wp2)
  all_goals
    go_ret2
    exact ⟨rfl, (Below.refl _ _).drew⟩

set_option maxHeartbeats 2000000 in
theorem opened_bad (k ad s : ByteArray) (w : World) (hk : k.size ≤ 1048576) (had : ad.size ≤ 1048576) (hs : s.size ≤ 1048576) (a b : Addr) (hT : TabO a b w) (n : Nat) (hn : s.size = n + 32) (h1 : k.size = 32) (h2 : ad.size ≤ 300) (h3 : n ≤ 400) (ht : tagV (skM k) ad (s.extract 0 n) ≠ s.extract n s.size) :
    Calls Tryd.prog 17 #[.string k, .string ad, .string s] w fun e w' => e = .returned (.tuple #[.string (ByteArray.mk #[]), .iface 91 (.pointer (some b))]) ∧ Below w.heap.size w w' := by
  have hw : IntKind.i64.wrap ((s.size : Int) - 32) = (n : Int) := by rw [IntWalk.i64_in _ (by omega)]; omega
  have h0 : ¬ (n : Int) < 0 := by omega
  have h00 : (0 : Int) ≤ (n : Int) := by omega
  have hle : (n : Int) ≤ (s.size : Int) := by omega
  have HLE : Hid (n ≤ s.size) := by show _ ≤ _; omega
  have HO := Lib.hid (fun w => sealOk_i k ad n w hk had)
  have HD : Hid (decide (k.size = 32 ∧ ad.size ≤ 300 ∧ n ≤ 400) = true) := decide_eq_true ⟨h1, h2, h3⟩
  have HT := Lib.hid hT
  have CK := Lib.hid (fun w ht => newSealKeys_i k w h1 ht)
  have zH : (s.extract 0 n).size = n := by rw [ByteArray.size_extract]; omega
  have CT := Lib.hid (fun w ht => (show Calls Tryd.prog 25 [Value.agg (skA (skC k) (skM k) (skN k)), .string ad, .string (s.extract 0 n)].toArray w fun e w' => e = .returned (.string (tagV (skM k) ad (s.extract 0 n))) ∧ Below w.heap.size w w' from tag_i (skC k) (skM k) (skN k) ad (s.extract 0 n) w ht (by rw [skM_size]; omega) h2 (by omega)))
  have CS := Lib.hid (fun w => (show Calls Tryd.prog 24 #[.string (skC k), .string (skN k), .string (s.extract 0 n)] w fun e w' => e = .returned (.string (seC k (s.extract 0 n))) ∧ Below w.heap.size w w' by rw [← strV_sk k (s.extract 0 n) (by omega)]; exact stream_i (skC k) (skN k) (s.extract 0 n) w (by rw [skC_size]; omega) (by rw [skN_size]; omega) (by omega)))
  have HC : Hid (((tagV (skM k) ad (s.extract 0 n)).toList != (s.extract n s.size).toList) = true) := by
    show _ = _
    rw [ne_dec]
    simp [ht]
  generalize tagV (skM k) ad (s.extract 0 n) = Y at *
  generalize seC k (s.extract 0 n) = X at *
  generalize skC k = A at *
  generalize skM k = M at *
  generalize skN k = N at *
  clear hk had hs hT hn h1 h2 h3 ht zH
  go_enter Tryd.func17, Tryd.ntmps17
  go_wp2_with fail
  refine (HO.out _).mono ?_
  rintro e w' ⟨rfl, rfl⟩
  rw [HD.out]
  go_wp2_with fail
  refine (CK.out _ HT.out.k).mono ?_
  rintro e w1 ⟨rfl, hb1⟩
  go_upto_region 5 with (first
    | ((with_reducible refine wpList_store_row' (o := ⟨none, .store 45 _ _, _, _, _, _⟩) rfl 45 _ _ rfl w1.heap.size (skA A M N) rfl rfl 45 skZ (heap_alloc_new w1 _) (skSz A M N) rfl (skOne A M N) ?_); intro w2 hw2 hs2 hg2)
    | fail)
  have f2 : Blk w1.heap.size (skA A M N) 45 w2 := hw2
  have hB2 : Below w.heap.size w w2 := (hb1.alloc hb1.size _).grown hg2 (by simp; have := hb1.size; omega) (by intro k hk; have := Option.some.inj hk; have := hb1.size; omega)
  clear hw2 hs2 hg2 hb1
  generalize w1.heap.size = g at *
  go_upto_region 6 with (fail)
  refine region_all 8 (kdAt [.val (.agg (skA A M N)), .val (.string ad), .val (.string (s.extract 0 n)), .val (.string Y), .val (.string s), .val (.int .i64 n), .val (.string (s.extract n s.size)), .val (.bool true)]) [some 29, some 30, some 31, some 32, some 33, some 34, some 35, some 36] (by kernel_rfl) rfl (by kernel_rfl) (by kernel_rfl) (by kernel_rfl) (by kernel_rfl) ?_ ?_
  · repeat refine allS ?_ ?_
    · exact all0
    · exact stepLoad (.pointer (some ⟨g, 0, none⟩)) rfl rfl rfl rfl (src_old (by kernel_rfl) rfl) (fun w hk => ldSk (f2.below (hk.below (nh0 rfl))))
    · exact stepMove rfl rfl rfl rfl (src_old (by kernel_rfl) rfl)
    · exact stepMove rfl rfl rfl rfl (src_old (by kernel_rfl) rfl)
    · exact stepCall (ks := [29, 30, 31]) [.agg (skA A M N), .string ad, .string (s.extract 0 n)] rfl rfl rfl rfl cfTag rfl (src3s (src_new 0 (by decide) rfl rfl (by kernel_rfl)) (src_new 1 (by decide) rfl rfl (by kernel_rfl)) (src_new 2 (by decide) rfl rfl (by kernel_rfl))) (fun w hk => CT.out w (HT.out.k.below (hB2.trans ((hk.below (nh0 rfl)).mono hB2.size)) HT.out.k.1))
    · exact stepMove rfl rfl rfl rfl (src_old (by kernel_rfl) rfl)
    · exact stepMove rfl rfl rfl rfl (src_old (by kernel_rfl) rfl)
    · exact stepSliceL rfl rfl rfl rfl (src_new 4 (by decide) rfl rfl (by kernel_rfl)) (src_new 5 (by decide) rfl rfl (by kernel_rfl)) (fun w => slLo s n HLE.out w)
    · exact stepBin rfl rfl rfl rfl (src_new 3 (by decide) rfl rfl (by kernel_rfl)) (src_new 6 (by decide) rfl rfl (by kernel_rfl)) (fun w => strNe Y (s.extract n s.size) true HC.out _ _ w)
  intro v x1 hok hk1
  replace hk1 := hk1.all
  have v0 := okVal hok (j := 0) rfl rfl
  have v1 := okVal hok (j := 1) rfl rfl
  have v2 := okVal hok (j := 2) rfl rfl
  have v3 := okVal hok (j := 3) rfl rfl
  have v4 := okVal hok (j := 4) rfl rfl
  have v5 := okVal hok (j := 5) rfl rfl
  have v6 := okVal hok (j := 6) rfl rfl
  have v7 := okVal hok (j := 7) rfl rfl
  clear hok
  simp only [putL, Nat.zero_add, Nat.reduceAdd, v0, v1, v2, v3, v4, v5, v6, v7, Act.put, List.setIfInBounds_toArray, List.set_cons_zero, List.set_cons_succ]
  clear v0 v1 v2 v3 v4 v5 v6 v7
  have f3 := f2.below (hk1.below (nh0 rfl))
  have hB3 := hB2.trans ((hk1.below (nh0 rfl)).mono hB2.size)
  clear hk1 f2 hB2
  have c0 := f3.cell (j := 0) (v := .string A) rfl
  have c1 := f3.cell (j := 1) (v := .string M) rfl
  have c2 := f3.cell (j := 2) (v := .string N) rfl
  have hTt := (HT.out.below hB3).t
  go_wp2
  go_region
  all_goals (try go_wp2)
  all_goals
    go_ret2
    exact ⟨rfl, hB3.drew⟩

set_option maxHeartbeats 2000000 in
theorem opened_ok (k ad s : ByteArray) (w : World) (hk : k.size ≤ 1048576) (had : ad.size ≤ 1048576) (hs : s.size ≤ 1048576) (a b : Addr) (hT : TabO a b w) (n : Nat) (hn : s.size = n + 32) (h1 : k.size = 32) (h2 : ad.size ≤ 300) (h3 : n ≤ 400) (ht : tagV (skM k) ad (s.extract 0 n) = s.extract n s.size) :
    Calls Tryd.prog 17 #[.string k, .string ad, .string s] w fun e w' => e = .returned (.tuple #[.string (seC k (s.extract 0 n)), .nilIface]) ∧ Below w.heap.size w w' := by
  have hw : IntKind.i64.wrap ((s.size : Int) - 32) = (n : Int) := by rw [IntWalk.i64_in _ (by omega)]; omega
  have h0 : ¬ (n : Int) < 0 := by omega
  have h00 : (0 : Int) ≤ (n : Int) := by omega
  have hle : (n : Int) ≤ (s.size : Int) := by omega
  have HLE : Hid (n ≤ s.size) := by show _ ≤ _; omega
  have HO := Lib.hid (fun w => sealOk_i k ad n w hk had)
  have HD : Hid (decide (k.size = 32 ∧ ad.size ≤ 300 ∧ n ≤ 400) = true) := decide_eq_true ⟨h1, h2, h3⟩
  have HT := Lib.hid hT
  have CK := Lib.hid (fun w ht => newSealKeys_i k w h1 ht)
  have zH : (s.extract 0 n).size = n := by rw [ByteArray.size_extract]; omega
  have CT := Lib.hid (fun w ht => (show Calls Tryd.prog 25 [Value.agg (skA (skC k) (skM k) (skN k)), .string ad, .string (s.extract 0 n)].toArray w fun e w' => e = .returned (.string (tagV (skM k) ad (s.extract 0 n))) ∧ Below w.heap.size w w' from tag_i (skC k) (skM k) (skN k) ad (s.extract 0 n) w ht (by rw [skM_size]; omega) h2 (by omega)))
  have CS := Lib.hid (fun w => (show Calls Tryd.prog 24 #[.string (skC k), .string (skN k), .string (s.extract 0 n)] w fun e w' => e = .returned (.string (seC k (s.extract 0 n))) ∧ Below w.heap.size w w' by rw [← strV_sk k (s.extract 0 n) (by omega)]; exact stream_i (skC k) (skN k) (s.extract 0 n) w (by rw [skC_size]; omega) (by rw [skN_size]; omega) (by omega)))
  have HC : Hid (((tagV (skM k) ad (s.extract 0 n)).toList != (s.extract n s.size).toList) = false) := by
    show _ = _
    rw [ne_dec]
    simp [ht]
  generalize tagV (skM k) ad (s.extract 0 n) = Y at *
  generalize seC k (s.extract 0 n) = X at *
  generalize skC k = A at *
  generalize skM k = M at *
  generalize skN k = N at *
  clear hk had hs hT hn h1 h2 h3 ht zH
  go_enter Tryd.func17, Tryd.ntmps17
  go_wp2_with fail
  refine (HO.out _).mono ?_
  rintro e w' ⟨rfl, rfl⟩
  rw [HD.out]
  go_wp2_with fail
  refine (CK.out _ HT.out.k).mono ?_
  rintro e w1 ⟨rfl, hb1⟩
  go_upto_region 5 with (first
    | ((with_reducible refine wpList_store_row' (o := ⟨none, .store 45 _ _, _, _, _, _⟩) rfl 45 _ _ rfl w1.heap.size (skA A M N) rfl rfl 45 skZ (heap_alloc_new w1 _) (skSz A M N) rfl (skOne A M N) ?_); intro w2 hw2 hs2 hg2)
    | fail)
  have f2 : Blk w1.heap.size (skA A M N) 45 w2 := hw2
  have hB2 : Below w.heap.size w w2 := (hb1.alloc hb1.size _).grown hg2 (by simp; have := hb1.size; omega) (by intro k hk; have := Option.some.inj hk; have := hb1.size; omega)
  clear hw2 hs2 hg2 hb1
  generalize w1.heap.size = g at *
  go_upto_region 6 with (fail)
  refine region_all 8 (kdAt [.val (.agg (skA A M N)), .val (.string ad), .val (.string (s.extract 0 n)), .val (.string Y), .val (.string s), .val (.int .i64 n), .val (.string (s.extract n s.size)), .val (.bool false)]) [some 29, some 30, some 31, some 32, some 33, some 34, some 35, some 36] (by kernel_rfl) rfl (by kernel_rfl) (by kernel_rfl) (by kernel_rfl) (by kernel_rfl) ?_ ?_
  · repeat refine allS ?_ ?_
    · exact all0
    · exact stepLoad (.pointer (some ⟨g, 0, none⟩)) rfl rfl rfl rfl (src_old (by kernel_rfl) rfl) (fun w hk => ldSk (f2.below (hk.below (nh0 rfl))))
    · exact stepMove rfl rfl rfl rfl (src_old (by kernel_rfl) rfl)
    · exact stepMove rfl rfl rfl rfl (src_old (by kernel_rfl) rfl)
    · exact stepCall (ks := [29, 30, 31]) [.agg (skA A M N), .string ad, .string (s.extract 0 n)] rfl rfl rfl rfl cfTag rfl (src3s (src_new 0 (by decide) rfl rfl (by kernel_rfl)) (src_new 1 (by decide) rfl rfl (by kernel_rfl)) (src_new 2 (by decide) rfl rfl (by kernel_rfl))) (fun w hk => CT.out w (HT.out.k.below (hB2.trans ((hk.below (nh0 rfl)).mono hB2.size)) HT.out.k.1))
    · exact stepMove rfl rfl rfl rfl (src_old (by kernel_rfl) rfl)
    · exact stepMove rfl rfl rfl rfl (src_old (by kernel_rfl) rfl)
    · exact stepSliceL rfl rfl rfl rfl (src_new 4 (by decide) rfl rfl (by kernel_rfl)) (src_new 5 (by decide) rfl rfl (by kernel_rfl)) (fun w => slLo s n HLE.out w)
    · exact stepBin rfl rfl rfl rfl (src_new 3 (by decide) rfl rfl (by kernel_rfl)) (src_new 6 (by decide) rfl rfl (by kernel_rfl)) (fun w => strNe Y (s.extract n s.size) false HC.out _ _ w)
  intro v x1 hok hk1
  replace hk1 := hk1.all
  have v0 := okVal hok (j := 0) rfl rfl
  have v1 := okVal hok (j := 1) rfl rfl
  have v2 := okVal hok (j := 2) rfl rfl
  have v3 := okVal hok (j := 3) rfl rfl
  have v4 := okVal hok (j := 4) rfl rfl
  have v5 := okVal hok (j := 5) rfl rfl
  have v6 := okVal hok (j := 6) rfl rfl
  have v7 := okVal hok (j := 7) rfl rfl
  clear hok
  simp only [putL, Nat.zero_add, Nat.reduceAdd, v0, v1, v2, v3, v4, v5, v6, v7, Act.put, List.setIfInBounds_toArray, List.set_cons_zero, List.set_cons_succ]
  clear v0 v1 v2 v3 v4 v5 v6 v7
  have f3 := f2.below (hk1.below (nh0 rfl))
  have hB3 := hB2.trans ((hk1.below (nh0 rfl)).mono hB2.size)
  clear hk1 f2 hB2
  have c0 := f3.cell (j := 0) (v := .string A) rfl
  have c1 := f3.cell (j := 1) (v := .string M) rfl
  have c2 := f3.cell (j := 2) (v := .string N) rfl
  go_wp2_with fail
  refine (CS.out _).mono ?_
  rintro e w4 ⟨rfl, hb4⟩
  have hB4 := hB3.trans (hb4.mono hB3.size)
  go_wp2
  go_ret2
  exact ⟨rfl, hB4⟩

set_option maxHeartbeats 2000000 in
theorem openSeal_i (k ad s : ByteArray) (w : World) (hk : k.size ≤ 1048576) (had : ad.size ≤ 1048576) (hs : s.size ≤ 1048576) (a b : Addr) (hT : TabO a b w) :
    Calls Tryd.prog 6 #[.string k, .string ad, .string s] w fun e w' => e = .returned (.tuple #[.string (osV k ad s), .bool (osB k ad s)]) ∧ Below w.heap.size w w' := by
  have HT := Lib.hid hT
  have bad : ∀ (c : Addr) (hc : c = a ∨ c = b), ¬ OsP k ad s → (∀ w1, TabO a b w1 → Calls Tryd.prog 17 #[.string k, .string ad, .string s] w1 fun e w' => e = .returned (.tuple #[.string (ByteArray.mk #[]), .iface 91 (.pointer (some c))]) ∧ Below w1.heap.size w1 w') → Calls Tryd.prog 6 #[.string k, .string ad, .string s] w fun e w' => e = .returned (.tuple #[.string (osV k ad s), .bool (osB k ad s)]) ∧ Below w.heap.size w w' := fun c hc hp H => by
    rw [osV_no hp, osB_no hp]
    have HH := Lib.hid (H w HT.out)
    clear hk had hs hT hp H
    by_cases hca : c = a
    · subst hca
      go_enter Tryd.func6, Tryd.ntmps6
      go_wp2_with fail
      refine HH.out.mono ?_
      rintro e w1 ⟨rfl, hb1⟩
      have hF := (HT.out.below hb1).f
      have hG := (HT.out.below hb1).t
      have q1 := eqlSame c w1
      go_wp2
      go_ret2
      exact ⟨rfl, hb1⟩
    · have hcb : c = b := hc.resolve_left hca
      subst hcb
      go_enter Tryd.func6, Tryd.ntmps6
      go_wp2_with fail
      refine HH.out.mono ?_
      rintro e w1 ⟨rfl, hb1⟩
      have hF := (HT.out.below hb1).f
      have hG := (HT.out.below hb1).t
      have q1 := eqlSame c w1
      have q2 := eqlOther c a w1 hca (HT.out.below hb1).tb (HT.out.below hb1).fb
      go_wp2
      go_ret2
      exact ⟨rfl, hb1⟩
  by_cases h0 : s.size < 32
  · exact bad a (.inl rfl) (fun c => by have := c.1.1; omega) (fun w1 ht => opened_short k ad s w1 hk had hs a b ht h0)
  obtain ⟨n, hn⟩ : ∃ n, s.size = n + 32 := ⟨s.size - 32, by omega⟩
  have e0 : osH s = s.extract 0 n := by unfold osH; rw [hn]; rfl
  have e1 : osT s = s.extract n s.size := by unfold osT; rw [show s.size - 32 = n by omega]
  by_cases h1 : k.size = 32 ∧ ad.size ≤ 300 ∧ n ≤ 400
  case neg => exact bad a (.inl rfl) (fun c => h1 ⟨c.1.2.1, c.1.2.2.1, by have := c.1.2.2.2; omega⟩) (fun w1 ht => opened_form k ad s w1 hk had hs a b ht n hn h1)
  by_cases h2 : tagV (skM k) ad (s.extract 0 n) = s.extract n s.size
  case neg => exact bad b (.inr rfl) (fun c => h2 (by rw [← e0, ← e1]; exact c.2)) (fun w1 ht => opened_bad k ad s w1 hk had hs a b ht n hn h1.1 h1.2.1 h1.2.2 h2)
  have hp : OsP k ad s := ⟨⟨by omega, h1.1, h1.2.1, by omega⟩, by rw [e0, e1]; exact h2⟩
  rw [osV_yes hp, osB_yes hp, e0]
  have HH := Lib.hid (opened_ok k ad s w hk had hs a b hT n hn h1.1 h1.2.1 h1.2.2 h2)
  generalize seC k (s.extract 0 n) = X at *
  clear hk had hs hT hp bad h0 h1 h2 e0 e1 hn
  go_enter Tryd.func6, Tryd.ntmps6
  go_wp2_with fail
  refine HH.out.mono ?_
  rintro e w1 ⟨rfl, hb1⟩
  have hF := (HT.out.below hb1).f
  have hG := (HT.out.below hb1).t
  have q1 := eqlNil a w1
  have q2 := eqlNil b w1
  go_wp2
  go_ret2
  exact ⟨rfl, hb1⟩

set_option maxHeartbeats 2000000 in
theorem openSeal_form (k ad s : ByteArray) (w : World) (hk : k.size ≤ 1048576) (had : ad.size ≤ 1048576) (hs : s.size ≤ 1048576) (b : Bool) (hb : decide (k.size = 32 ∧ ad.size ≤ 300) = b) (h : ¬ (b = true ∧ 32 ≤ s.size ∧ s.size ≤ 432)) :
    Calls Tryd.prog 5 #[.string k, .string ad, .string s] w fun e w' => e = .returned (.tuple #[.string (osV k ad s), .bool (osB k ad s)]) ∧ Below w.heap.size w w' := by
  have hp : ¬ OsP k ad s := fun c => h ⟨by rw [← hb]; exact decide_eq_true ⟨c.1.2.1, c.1.2.2.1⟩, c.1.1, by have := c.1.2.2.2; have := c.1.1; omega⟩
  rw [osV_no hp, osB_no hp]
  have HO := Lib.hid (fun w => l4Form_s k ad w had b hb)
  have hw : IntKind.i64.wrap ((s.size : Int) - 32) = (s.size : Int) - 32 := IntWalk.i64_in _ (by omega)
  clear hb hp hk had
  cases b with
  | false =>
    clear h hs
    go_enter Tryd.func5, Tryd.ntmps5
    go_wp2_with fail
    refine (HO.out _).mono ?_
    rintro e w' ⟨rfl, rfl⟩
    go_wp2
    go_ret2
    exact ⟨rfl, Below.refl _ _⟩
  | true =>
    by_cases h1 : s.size < 32
    · have h0 : (s.size : Int) - 32 < 0 := by omega
      clear h hs h1
      go_enter Tryd.func5, Tryd.ntmps5
      go_wp2_with fail
      refine (HO.out _).mono ?_
      rintro e w' ⟨rfl, rfl⟩
      go_wp2
      go_ret2
      exact ⟨rfl, Below.refl _ _⟩
    · have h0 : ¬ (s.size : Int) - 32 < 0 := by omega
      have h2 : (400 : Int) < (s.size : Int) - 32 := by
        have : ¬ s.size ≤ 432 := fun c => h ⟨rfl, by omega, c⟩
        omega
      clear h hs h1
      go_enter Tryd.func5, Tryd.ntmps5
      go_wp2_with fail
      refine (HO.out _).mono ?_
      rintro e w' ⟨rfl, rfl⟩
      go_wp2
      go_ret2
      exact ⟨rfl, Below.refl _ _⟩

set_option maxHeartbeats 2000000 in
theorem openSeal_bad (k ad s : ByteArray) (w : World) (hk : k.size ≤ 1048576) (had : ad.size ≤ 1048576) (hs : s.size ≤ 1048576) (n : Nat) (hn : s.size = n + 32) (h1 : k.size = 32) (h2 : ad.size ≤ 300) (h3 : n ≤ 400) (ht : tagV (skM k) ad (s.extract 0 n) ≠ s.extract n s.size) :
    Calls Tryd.prog 5 #[.string k, .string ad, .string s] w fun e w' => e = .returned (.tuple #[.string (osV k ad s), .bool (osB k ad s)]) ∧ Below w.heap.size w w' := by
  have e0 : osH s = s.extract 0 n := by unfold osH; rw [hn]; rfl
  have e1 : osT s = s.extract n s.size := by unfold osT; rw [show s.size - 32 = n by omega]
  have hp : ¬ OsP k ad s := fun c => ht (by rw [← e0, ← e1]; exact c.2)
  rw [osV_no hp, osB_no hp]
  clear hp
  clear e0 e1
  have hw : IntKind.i64.wrap ((s.size : Int) - 32) = (n : Int) := by rw [IntWalk.i64_in _ (by omega)]; omega
  have h0 : ¬ (n : Int) < 0 := by omega
  have h00 : (0 : Int) ≤ (n : Int) := by omega
  have hle : (n : Int) ≤ (s.size : Int) := by omega
  have h4 : ¬ (400 : Int) < (n : Int) := by omega
  have HLE : Hid (n ≤ s.size) := by show _ ≤ _; omega
  have HO := Lib.hid (fun w => l4Form_s k ad w had true (decide_eq_true ⟨h1, h2⟩))
  have CH := Lib.hid (fun w => (show Calls Tryd.prog 13 #[.string (ByteArray.mk #[]), .string k, .string (ByteArray.mk #[115, 101, 97, 108]), .int .i64 76] w fun e w' => e = .returned (.string (sk k)) ∧ Below w.heap.size w w' from l2Hkdf_spec e0S k sealT 76 w (by decide) (by omega) (by decide) (by omega)))
  have z := sk_size k
  have E1 : Hid (skC k = (sk k).extract 0 32) := rfl
  have E2 : Hid (skM k = (sk k).extract 32 64) := rfl
  have E3 : Hid (skN k = (sk k).extract 64 (sk k).size) := by show _ = _; rw [z]; rfl
  have zH : (s.extract 0 n).size = n := by rw [ByteArray.size_extract]; omega
  have CS := Lib.hid (fun w => (show Calls Tryd.prog 16 [Value.string (skC k), .string (skN k), .string (s.extract 0 n)].toArray w fun e w' => e = .returned (.string (seC k (s.extract 0 n))) ∧ Below w.heap.size w w' from l4Stream_s (skC k) (skN k) (s.extract 0 n) w (skC_size k) (skN_size k) (by omega)))
  have CT := Lib.hid (fun w => hmTag (skM k) ad (s.extract 0 n) w (by rw [skM_size]; omega) h2 (by omega))
  have CB := Lib.hid (fun w => beLen ad w h2)
  have zB : (str (beL ad.size 8)).size = 8 := by rw [str_size, beL_len]
  have hc1 : ¬ 9223372036854775807 < (str (beL ad.size 8)).size + ad.size := by omega
  have hc2 : ¬ 9223372036854775807 < (str (beL ad.size 8) ++ ad).size + (s.extract 0 n).size := by rw [ByteArray.size_append]; omega
  have HC : Hid (((tagV (skM k) ad (s.extract 0 n)).toList != (s.extract n s.size).toList) = true) := by
    show _ = _
    rw [ne_dec]
    simp [ht]
  generalize tagV (skM k) ad (s.extract 0 n) = Y at *
  generalize seC k (s.extract 0 n) = X at *
  generalize skC k = A at *
  generalize skM k = M at *
  generalize skN k = N at *
  generalize sk k = S at *
  generalize str (beL ad.size 8) = B8 at *
  clear hk had hs hn h1 h2 h3 ht zH zB
  go_enter Tryd.func5, Tryd.ntmps5
  go_wp2_with fail
  refine (HO.out _).mono ?_
  rintro e w' ⟨rfl, rfl⟩
  go_wp2_with fail
  refine (CH.out _).mono ?_
  rintro e w1 ⟨rfl, hB⟩
  go_upto_region 6 with (fail)
  refine region_all 14 (kdAt [.val (.string S), .val (.string M), .val (.string ad), .val (.int .i64 ad.size), .val (.string B8), .val (.string ad), .val (.string (B8 ++ ad)), .val (.string (s.extract 0 n)), .val (.string (B8 ++ ad ++ s.extract 0 n)), .val (.string Y), .val (.string s), .val (.int .i64 n), .val (.string (s.extract n s.size)), .val (.bool true)]) [some 31, some 32, some 33, some 34, some 35, some 36, some 37, some 38, some 39, some 40, some 41, some 42, some 43, some 44] (by kernel_rfl) rfl (by kernel_rfl) (by kernel_rfl) (by kernel_rfl) (by kernel_rfl) ?_ ?_
  · repeat refine allS ?_ ?_
    · exact all0
    · exact stepMove rfl rfl rfl rfl (src_old (by kernel_rfl) rfl)
    · exact stepSlice (some (.int .i64 32)) (some (.int .i64 64)) rfl rfl rfl rfl (src_new 0 (by decide) rfl rfl (by kernel_rfl)) (fun _ => rfl) (fun _ => rfl) (fun w => E2.out ▸ slBoth S 32 64 (by omega) (by omega) w)
    · exact stepMove rfl rfl rfl rfl (src_old (by kernel_rfl) rfl)
    · exact stepLen rfl rfl rfl rfl (src_new 2 (by decide) rfl rfl (by kernel_rfl)) Tryd.underlying9
    · exact stepCallC rfl rfl rfl rfl cfBe (src_new 3 (by decide) rfl rfl (by kernel_rfl)) (fun w hk => CB.out w)
    · exact stepMove rfl rfl rfl rfl (src_old (by kernel_rfl) rfl)
    · exact stepBin rfl rfl rfl rfl (src_new 4 (by decide) rfl rfl (by kernel_rfl)) (src_new 5 (by decide) rfl rfl (by kernel_rfl)) (fun w => strAdd B8 ad _ _ hc1 w)
    · exact stepMove rfl rfl rfl rfl (src_old (by kernel_rfl) rfl)
    · exact stepBin rfl rfl rfl rfl (src_new 6 (by decide) rfl rfl (by kernel_rfl)) (src_new 7 (by decide) rfl rfl (by kernel_rfl)) (fun w => strAdd (B8 ++ ad) (s.extract 0 n) _ _ hc2 w)
    · exact stepCall (ks := [32, 39]) [.string M, .string (B8 ++ ad ++ s.extract 0 n)] rfl rfl rfl rfl cfHm rfl (src2 (src_new 1 (by decide) rfl rfl (by kernel_rfl)) (src_new 8 (by decide) rfl rfl (by kernel_rfl))) (fun w hk => CT.out w)
    · exact stepMove rfl rfl rfl rfl (src_old (by kernel_rfl) rfl)
    · exact stepMove rfl rfl rfl rfl (src_old (by kernel_rfl) rfl)
    · exact stepSliceL rfl rfl rfl rfl (src_new 10 (by decide) rfl rfl (by kernel_rfl)) (src_new 11 (by decide) rfl rfl (by kernel_rfl)) (fun w => slLo s n HLE.out w)
    · exact stepBin rfl rfl rfl rfl (src_new 9 (by decide) rfl rfl (by kernel_rfl)) (src_new 12 (by decide) rfl rfl (by kernel_rfl)) (fun w => strNe Y (s.extract n s.size) true HC.out _ _ w)
  intro v x1 hok hk1
  replace hk1 := hk1.all
  have v0 := okVal hok (j := 0) rfl rfl
  have v1 := okVal hok (j := 1) rfl rfl
  have v2 := okVal hok (j := 2) rfl rfl
  have v3 := okVal hok (j := 3) rfl rfl
  have v4 := okVal hok (j := 4) rfl rfl
  have v5 := okVal hok (j := 5) rfl rfl
  have v6 := okVal hok (j := 6) rfl rfl
  have v7 := okVal hok (j := 7) rfl rfl
  have v8 := okVal hok (j := 8) rfl rfl
  have v9 := okVal hok (j := 9) rfl rfl
  have v10 := okVal hok (j := 10) rfl rfl
  have v11 := okVal hok (j := 11) rfl rfl
  have v12 := okVal hok (j := 12) rfl rfl
  have v13 := okVal hok (j := 13) rfl rfl
  clear hok
  simp only [putL, Nat.zero_add, Nat.reduceAdd, v0, v1, v2, v3, v4, v5, v6, v7, v8, v9, v10, v11, v12, v13, Act.put, List.setIfInBounds_toArray, List.set_cons_zero, List.set_cons_succ]
  clear v0 v1 v2 v3 v4 v5 v6 v7 v8 v9 v10 v11 v12 v13
  replace hB := hB.trans ((hk1.below (nh0 rfl)).mono hB.size)
  clear hk1
  go_wp2
  go_ret2
  exact ⟨rfl, hB⟩

set_option maxHeartbeats 2000000 in
theorem openSeal_ok (k ad s : ByteArray) (w : World) (hk : k.size ≤ 1048576) (had : ad.size ≤ 1048576) (hs : s.size ≤ 1048576) (n : Nat) (hn : s.size = n + 32) (h1 : k.size = 32) (h2 : ad.size ≤ 300) (h3 : n ≤ 400) (ht : tagV (skM k) ad (s.extract 0 n) = s.extract n s.size) :
    Calls Tryd.prog 5 #[.string k, .string ad, .string s] w fun e w' => e = .returned (.tuple #[.string (osV k ad s), .bool (osB k ad s)]) ∧ Below w.heap.size w w' := by
  have e0 : osH s = s.extract 0 n := by unfold osH; rw [hn]; rfl
  have e1 : osT s = s.extract n s.size := by unfold osT; rw [show s.size - 32 = n by omega]
  have hp : OsP k ad s := ⟨⟨by omega, h1, h2, by omega⟩, by rw [e0, e1]; exact ht⟩
  rw [osV_yes hp, osB_yes hp, e0]
  clear hp
  clear e0 e1
  have hw : IntKind.i64.wrap ((s.size : Int) - 32) = (n : Int) := by rw [IntWalk.i64_in _ (by omega)]; omega
  have h0 : ¬ (n : Int) < 0 := by omega
  have h00 : (0 : Int) ≤ (n : Int) := by omega
  have hle : (n : Int) ≤ (s.size : Int) := by omega
  have h4 : ¬ (400 : Int) < (n : Int) := by omega
  have HLE : Hid (n ≤ s.size) := by show _ ≤ _; omega
  have HO := Lib.hid (fun w => l4Form_s k ad w had true (decide_eq_true ⟨h1, h2⟩))
  have CH := Lib.hid (fun w => (show Calls Tryd.prog 13 #[.string (ByteArray.mk #[]), .string k, .string (ByteArray.mk #[115, 101, 97, 108]), .int .i64 76] w fun e w' => e = .returned (.string (sk k)) ∧ Below w.heap.size w w' from l2Hkdf_spec e0S k sealT 76 w (by decide) (by omega) (by decide) (by omega)))
  have z := sk_size k
  have E1 : Hid (skC k = (sk k).extract 0 32) := rfl
  have E2 : Hid (skM k = (sk k).extract 32 64) := rfl
  have E3 : Hid (skN k = (sk k).extract 64 (sk k).size) := by show _ = _; rw [z]; rfl
  have zH : (s.extract 0 n).size = n := by rw [ByteArray.size_extract]; omega
  have CS := Lib.hid (fun w => (show Calls Tryd.prog 16 [Value.string (skC k), .string (skN k), .string (s.extract 0 n)].toArray w fun e w' => e = .returned (.string (seC k (s.extract 0 n))) ∧ Below w.heap.size w w' from l4Stream_s (skC k) (skN k) (s.extract 0 n) w (skC_size k) (skN_size k) (by omega)))
  have CT := Lib.hid (fun w => hmTag (skM k) ad (s.extract 0 n) w (by rw [skM_size]; omega) h2 (by omega))
  have CB := Lib.hid (fun w => beLen ad w h2)
  have zB : (str (beL ad.size 8)).size = 8 := by rw [str_size, beL_len]
  have hc1 : ¬ 9223372036854775807 < (str (beL ad.size 8)).size + ad.size := by omega
  have hc2 : ¬ 9223372036854775807 < (str (beL ad.size 8) ++ ad).size + (s.extract 0 n).size := by rw [ByteArray.size_append]; omega
  have HC : Hid (((tagV (skM k) ad (s.extract 0 n)).toList != (s.extract n s.size).toList) = false) := by
    show _ = _
    rw [ne_dec]
    simp [ht]
  generalize tagV (skM k) ad (s.extract 0 n) = Y at *
  generalize seC k (s.extract 0 n) = X at *
  generalize skC k = A at *
  generalize skM k = M at *
  generalize skN k = N at *
  generalize sk k = S at *
  generalize str (beL ad.size 8) = B8 at *
  clear hk had hs hn h1 h2 h3 ht zH zB
  go_enter Tryd.func5, Tryd.ntmps5
  go_wp2_with fail
  refine (HO.out _).mono ?_
  rintro e w' ⟨rfl, rfl⟩
  go_wp2_with fail
  refine (CH.out _).mono ?_
  rintro e w1 ⟨rfl, hB⟩
  go_upto_region 6 with (fail)
  refine region_all 14 (kdAt [.val (.string S), .val (.string M), .val (.string ad), .val (.int .i64 ad.size), .val (.string B8), .val (.string ad), .val (.string (B8 ++ ad)), .val (.string (s.extract 0 n)), .val (.string (B8 ++ ad ++ s.extract 0 n)), .val (.string Y), .val (.string s), .val (.int .i64 n), .val (.string (s.extract n s.size)), .val (.bool false)]) [some 31, some 32, some 33, some 34, some 35, some 36, some 37, some 38, some 39, some 40, some 41, some 42, some 43, some 44] (by kernel_rfl) rfl (by kernel_rfl) (by kernel_rfl) (by kernel_rfl) (by kernel_rfl) ?_ ?_
  · repeat refine allS ?_ ?_
    · exact all0
    · exact stepMove rfl rfl rfl rfl (src_old (by kernel_rfl) rfl)
    · exact stepSlice (some (.int .i64 32)) (some (.int .i64 64)) rfl rfl rfl rfl (src_new 0 (by decide) rfl rfl (by kernel_rfl)) (fun _ => rfl) (fun _ => rfl) (fun w => E2.out ▸ slBoth S 32 64 (by omega) (by omega) w)
    · exact stepMove rfl rfl rfl rfl (src_old (by kernel_rfl) rfl)
    · exact stepLen rfl rfl rfl rfl (src_new 2 (by decide) rfl rfl (by kernel_rfl)) Tryd.underlying9
    · exact stepCallC rfl rfl rfl rfl cfBe (src_new 3 (by decide) rfl rfl (by kernel_rfl)) (fun w hk => CB.out w)
    · exact stepMove rfl rfl rfl rfl (src_old (by kernel_rfl) rfl)
    · exact stepBin rfl rfl rfl rfl (src_new 4 (by decide) rfl rfl (by kernel_rfl)) (src_new 5 (by decide) rfl rfl (by kernel_rfl)) (fun w => strAdd B8 ad _ _ hc1 w)
    · exact stepMove rfl rfl rfl rfl (src_old (by kernel_rfl) rfl)
    · exact stepBin rfl rfl rfl rfl (src_new 6 (by decide) rfl rfl (by kernel_rfl)) (src_new 7 (by decide) rfl rfl (by kernel_rfl)) (fun w => strAdd (B8 ++ ad) (s.extract 0 n) _ _ hc2 w)
    · exact stepCall (ks := [32, 39]) [.string M, .string (B8 ++ ad ++ s.extract 0 n)] rfl rfl rfl rfl cfHm rfl (src2 (src_new 1 (by decide) rfl rfl (by kernel_rfl)) (src_new 8 (by decide) rfl rfl (by kernel_rfl))) (fun w hk => CT.out w)
    · exact stepMove rfl rfl rfl rfl (src_old (by kernel_rfl) rfl)
    · exact stepMove rfl rfl rfl rfl (src_old (by kernel_rfl) rfl)
    · exact stepSliceL rfl rfl rfl rfl (src_new 10 (by decide) rfl rfl (by kernel_rfl)) (src_new 11 (by decide) rfl rfl (by kernel_rfl)) (fun w => slLo s n HLE.out w)
    · exact stepBin rfl rfl rfl rfl (src_new 9 (by decide) rfl rfl (by kernel_rfl)) (src_new 12 (by decide) rfl rfl (by kernel_rfl)) (fun w => strNe Y (s.extract n s.size) false HC.out _ _ w)
  intro v x1 hok hk1
  replace hk1 := hk1.all
  have v0 := okVal hok (j := 0) rfl rfl
  have v1 := okVal hok (j := 1) rfl rfl
  have v2 := okVal hok (j := 2) rfl rfl
  have v3 := okVal hok (j := 3) rfl rfl
  have v4 := okVal hok (j := 4) rfl rfl
  have v5 := okVal hok (j := 5) rfl rfl
  have v6 := okVal hok (j := 6) rfl rfl
  have v7 := okVal hok (j := 7) rfl rfl
  have v8 := okVal hok (j := 8) rfl rfl
  have v9 := okVal hok (j := 9) rfl rfl
  have v10 := okVal hok (j := 10) rfl rfl
  have v11 := okVal hok (j := 11) rfl rfl
  have v12 := okVal hok (j := 12) rfl rfl
  have v13 := okVal hok (j := 13) rfl rfl
  clear hok
  simp only [putL, Nat.zero_add, Nat.reduceAdd, v0, v1, v2, v3, v4, v5, v6, v7, v8, v9, v10, v11, v12, v13, Act.put, List.setIfInBounds_toArray, List.set_cons_zero, List.set_cons_succ]
  clear v0 v1 v2 v3 v4 v5 v6 v7 v8 v9 v10 v11 v12 v13
  replace hB := hB.trans ((hk1.below (nh0 rfl)).mono hB.size)
  clear hk1
  go_upto_region 8 with (fail)
  refine region_all 8 (kdAt [.val (.string S), .val (.string A), .val (.string S), .val (.string N), .val (.string (s.extract 0 n)), .val (.string X), .val (.string X), .val (.bool true)]) [some 45, some 46, some 47, some 48, some 49, some 50, some 6, some 7] (by kernel_rfl) rfl (by kernel_rfl) (by kernel_rfl) (by kernel_rfl) (by kernel_rfl) ?_ ?_
  · repeat refine allS ?_ ?_
    · exact all0
    · exact stepMove rfl rfl rfl rfl (src_old (by kernel_rfl) rfl)
    · exact stepSlice none (some (.int .i64 32)) rfl rfl rfl rfl (src_new 0 (by decide) rfl rfl (by kernel_rfl)) (fun _ => rfl) (fun _ => rfl) (fun w => E1.out ▸ slHi S 32 (by omega) w)
    · exact stepMove rfl rfl rfl rfl (src_old (by kernel_rfl) rfl)
    · exact stepSlice (some (.int .i64 64)) none rfl rfl rfl rfl (src_new 2 (by decide) rfl rfl (by kernel_rfl)) (fun _ => rfl) (fun _ => rfl) (fun w => E3.out ▸ slLo S 64 (by omega) w)
    · exact stepMove rfl rfl rfl rfl (src_old (by kernel_rfl) rfl)
    · exact stepCall (ks := [46, 48, 49]) [.string A, .string N, .string (s.extract 0 n)] rfl rfl rfl rfl cfL4 rfl (src3s (src_new 1 (by decide) rfl rfl (by kernel_rfl)) (src_new 3 (by decide) rfl rfl (by kernel_rfl)) (src_new 4 (by decide) rfl rfl (by kernel_rfl))) (fun w hk => CS.out w)
    · exact stepAssign rfl rfl rfl rfl (src_new 5 (by decide) rfl rfl (by kernel_rfl))
    · exact stepConstS rfl rfl rfl rfl
  intro v x2 hok hk1
  replace hk1 := hk1.all
  have v0 := okVal hok (j := 0) rfl rfl
  have v1 := okVal hok (j := 1) rfl rfl
  have v2 := okVal hok (j := 2) rfl rfl
  have v3 := okVal hok (j := 3) rfl rfl
  have v4 := okVal hok (j := 4) rfl rfl
  have v5 := okVal hok (j := 5) rfl rfl
  have v6 := okVal hok (j := 6) rfl rfl
  have v7 := okVal hok (j := 7) rfl rfl
  clear hok
  simp only [putL, Nat.zero_add, Nat.reduceAdd, v0, v1, v2, v3, v4, v5, v6, v7, Act.put, List.setIfInBounds_toArray, List.set_cons_zero, List.set_cons_succ]
  clear v0 v1 v2 v3 v4 v5 v6 v7
  replace hB := hB.trans ((hk1.below (nh0 rfl)).mono hB.size)
  clear hk1
  first | (go_wp2; go_ret2) | go_ret2
  exact ⟨rfl, hB⟩

theorem openSeal_s (k ad s : ByteArray) (w : World) (hk : k.size ≤ 1048576) (had : ad.size ≤ 1048576) (hs : s.size ≤ 1048576) : Calls Tryd.prog 5 #[.string k, .string ad, .string s] w fun e w' => e = .returned (.tuple #[.string (osV k ad s), .bool (osB k ad s)]) ∧ Below w.heap.size w w' := by
  by_cases h : decide (k.size = 32 ∧ ad.size ≤ 300) = true ∧ 32 ≤ s.size ∧ s.size ≤ 432
  case neg => exact openSeal_form k ad s w hk had hs _ rfl h
  obtain ⟨h1, h2, h3⟩ := h
  have h1 := of_decide_eq_true h1
  obtain ⟨n, hn⟩ : ∃ n, s.size = n + 32 := ⟨s.size - 32, by omega⟩
  by_cases h4 : tagV (skM k) ad (s.extract 0 n) = s.extract n s.size
  · exact openSeal_ok k ad s w hk had hs n hn h1.1 h1.2 (by omega) h4
  · exact openSeal_bad k ad s w hk had hs n hn h1.1 h1.2 (by omega) h4

end Go.Proofs.YtgjnoleejbkddaaDoor

/- Slices and lengths within regions; seals: the keys, the tag. -/
import Derived.Test.YtgjnoleejbkddaaDoorGM0
import Derived.Test.YtgjnoleejbkddaaDoorGChb3
import Derived.Test.YtgjnoleejbkddaaDoorGSha11
import Derived.Test.YtgjnoleejbkddaaDoorGM1
import Derived.Test.YtgjnoleejbkddaaDoorGMath4
namespace Go.My
open Go.RowKit
set_option linter.unusedVariables false
section
variable {P : Program} {Q : Exit → Act → World → Prop} {ops : Array Oper} {m : Nat} {a0 : Act} {w0 : World} {D : Nat → Kd} {i : Nat} {o : Oper}
theorem stepSlice {x y : Value} {T : TypeId} {k : Tmp} {lo hi : Option Operand} (lo' hi' : Option Value) (hoi : ops[i]? = some o) (hg : o.guard = none) (hD : D i = .val x) (hop : o.op = .slice T (.tmp k) lo hi none) (hk : Src ops m a0 D o k y)
    (hlo : ∀ a : Act, lo.map a.eval = lo') (hhi : ∀ a : Act, hi.map a.eval = hi') (hr : ∀ w, (Instr.sliceAt T y lo' hi' none).run P w = .ok x w) : StepOk P Q ops m a0 w0 D i := by
  refine stepRun [(k, y)] hoi hg hD (srcN1 hk) fun a w ha hb => ?_
  have h1 : a.eval (.tmp k) = y := ha (k, y) (by simp)
  unfold execOp
  simp only [hop]
  simp only [h1, hlo a, hhi a, Option.map_none, Sem.run_bind, hr w, Result.andThen_ok, Sem.run_pure]
theorem stepLen {s : ByteArray} {T : TypeId} {k : Tmp} (hoi : ops[i]? = some o) (hg : o.guard = none) (hD : D i = .val (.int .i64 s.size)) (hop : o.op = .call { callee := .builtin .len, args := #[.tmp k], argTypes := #[T] }) (hk : Src ops m a0 D o k (.string s))
    (hT : P.underlying T = some .string) : StepOk P Q ops m a0 w0 D i := by
  refine stepRun [(k, .string s)] hoi hg hD (srcN1 hk) fun a w ha hb => ?_
  have h1 : a.eval (.tmp k) = .string s := ha (k, .string s) (by simp)
  unfold execOp
  simp only [hop]
  have h2 : a.tmps[k]?.getD undef = .string s := by simpa [Act.eval] using h1
  simp [resolve, invoke, go_sem]
  rw [h2]
  simp [Builtin.len_, go_sem, run_underlying hT]
end
end Go.My
namespace Go.Proofs.YtgjnoleejbkddaaDoor
open Go.RowKit Go.My
set_option linter.unusedVariables false
theorem slHi (s : ByteArray) (b : Nat) (h : b ≤ s.size) (w : World) : (Instr.sliceAt 9 (.string s) none (some (.int .i64 b)) none).run Tryd.prog w = .ok (.string (s.extract 0 b)) w := by
  have h1 : (b : Int) ≤ (s.size : Int) := by omega
  simp [Instr.sliceAt, go_sem, h1]
theorem slLo (s : ByteArray) (a : Nat) (h : a ≤ s.size) (w : World) : (Instr.sliceAt 9 (.string s) (some (.int .i64 a)) none none).run Tryd.prog w = .ok (.string (s.extract a s.size)) w := by
  have h1 : (a : Int) ≤ (s.size : Int) := by omega
  simp [Instr.sliceAt, go_sem, h1]
theorem slBoth (s : ByteArray) (a b : Nat) (hab : a ≤ b) (h : b ≤ s.size) (w : World) : (Instr.sliceAt 9 (.string s) (some (.int .i64 a)) (some (.int .i64 b)) none).run Tryd.prog w = .ok (.string (s.extract a b)) w := by
  have h1 : (b : Int) ≤ (s.size : Int) := by omega
  have h2 : (a : Int) ≤ (b : Int) := by omega
  simp [Instr.sliceAt, go_sem, h1, h2]
end Go.Proofs.YtgjnoleejbkddaaDoor
namespace Go.Proofs.YtgjnoleejbkddaaDoor
open Go.RowKit Go.My Go.Lib
set_option linter.unusedVariables false
set_option maxRecDepth 100000

def sealT : ByteArray := ByteArray.mk #[115, 101, 97, 108]
def e0S : ByteArray := ByteArray.mk #[]
/-- The 76 bytes that a seal's keys are made of. -/
def sk (k : ByteArray) : ByteArray := str (expandL (hmacL e0S.data.toList k.data.toList) sealT.data.toList 76)
theorem sk_size (k : ByteArray) : (sk k).size = 76 := by unfold sk; rw [str_size, expandL_len]
theorem sk_hkdf (k : ByteArray) (h : k.size = 32) : str (hkdfV e0S.data.toList k.data.toList sealT.data.toList 76) = sk k := by
  have := hkdfV_yes2 (s := e0S) (k := k) (i := sealT) (n := 76) ⟨by decide, by omega, by decide, by omega⟩
  rw [show ((76 : Nat) : Int) = 76 from rfl] at this
  unfold sk
  rw [this]
abbrev skA (a m n : ByteArray) : Array Value := #[.string a, .string m, .string n]
abbrev skZ : Array Value := skA (ByteArray.mk #[]) (ByteArray.mk #[]) (ByteArray.mk #[])
theorem skSz (a m n : ByteArray) : (Tryd.prog.info? 45).map (·.size) = some (skA a m n).size := by kernel_rfl
theorem skOne (a m n : ByteArray) : (skA a m n).all (·.oneCell') = true := by kernel_rfl
theorem bSk (a m n : ByteArray) (w : World) : (Instr.build 45 #[(0, .string a), (1, .string m), (2, .string n)]).run Tryd.prog w = .ok (.agg (skA a m n)) w := by kernel_rfl
theorem srcN3s {C : Tmp → Value → Prop} {k l m : Tmp} {y z u : Value} (h : C k y) (h2 : C l z) (h3 : C m u) : ∀ p ∈ [(k, y), (l, z), (m, u)], C p.1 p.2 := fun p hp => by
  rcases List.mem_cons.1 hp with e | e
  · rw [e]; exact h
  · rcases List.mem_cons.1 e with e | e
    · rw [e]; exact h2
    · rw [List.mem_singleton.1 e]; exact h3
def skC (k : ByteArray) : ByteArray := (sk k).extract 0 32
def skM (k : ByteArray) : ByteArray := (sk k).extract 32 64
def skN (k : ByteArray) : ByteArray := (sk k).extract 64 76
theorem skC_size (k : ByteArray) : (skC k).size = 32 := by unfold skC; rw [ByteArray.size_extract, sk_size]; rfl
theorem skM_size (k : ByteArray) : (skM k).size = 32 := by unfold skM; rw [ByteArray.size_extract, sk_size]; rfl
theorem skN_size (k : ByteArray) : (skN k).size = 12 := by unfold skN; rw [ByteArray.size_extract, sk_size]; rfl

set_option maxHeartbeats 1000000 in
theorem newSealKeys_i (k : ByteArray) (w : World) (hk : k.size = 32) (hT : TabK w) :
    Calls Tryd.prog 23 #[.string k] w fun e w' => e = .returned (.agg (skA (skC k) (skM k) (skN k))) ∧ Below w.heap.size w w' := by
  have CH := Lib.hid (fun w h => (show Calls Tryd.prog 38 #[.string (ByteArray.mk #[]), .string k, .string (ByteArray.mk #[115, 101, 97, 108]), .int .i64 76] w fun e w' => e = .returned (.string (sk k)) ∧ Below w.heap.size w w' by rw [← sk_hkdf k hk]; exact hkdf_impl e0S k sealT 76 w h))
  have z := sk_size k
  have E1 : Hid (skC k = (sk k).extract 0 32) := rfl
  have E2 : Hid (skM k = (sk k).extract 32 64) := rfl
  have E3 : Hid (skN k = (sk k).extract 64 (sk k).size) := by show _ = _; rw [z]; rfl
  have hb0 : Below w.heap.size w (w.alloc (.cells skZ 45)) := (Below.refl _ _).alloc (Nat.le_refl _) _
  have f0 : Blk w.heap.size skZ 45 (w.alloc (.cells skZ 45)) := heap_alloc_new w _
  have HT := Lib.hid hT
  generalize skC k = A at *
  generalize skM k = M at *
  generalize skN k = N at *
  generalize sk k = S at *
  clear hk hT
  go_enter Tryd.func23, Tryd.ntmps23
  go_wp2_with fail
  refine (CH.out _ (HT.out.below hb0 HT.out.1)).mono ?_
  rintro e w1 ⟨rfl, hb1⟩
  have hB1 := hb0.trans (hb1.mono hb0.size)
  have f1 := f0.below hb1
  clear hb0 hb1 f0
  go_upto_region 2 with (fail)
  refine region_all 8 (kdAt [.val (.string S), .val (.string A), .val (.string S), .val (.string M), .val (.string S), .val (.string N), .val (.agg (skA A M N)), .old w.heap.size 45 (skA A M N)]) [some 6, some 7, some 8, some 9, some 10, some 11, some 12, none] (by kernel_rfl) rfl (by kernel_rfl) (by kernel_rfl) (by kernel_rfl) (by kernel_rfl) ?_ ?_
  · repeat refine allS ?_ ?_
    · exact all0
    · exact stepMove rfl rfl rfl rfl (src_old (by kernel_rfl) rfl)
    · exact stepSlice none (some (.int .i64 32)) rfl rfl rfl rfl (src_new 0 (by decide) rfl rfl (by kernel_rfl)) (fun _ => rfl) (fun _ => rfl) (fun w => E1.out ▸ slHi S 32 (by omega) w)
    · exact stepMove rfl rfl rfl rfl (src_old (by kernel_rfl) rfl)
    · exact stepSlice (some (.int .i64 32)) (some (.int .i64 64)) rfl rfl rfl rfl (src_new 2 (by decide) rfl rfl (by kernel_rfl)) (fun _ => rfl) (fun _ => rfl) (fun w => E2.out ▸ slBoth S 32 64 (by omega) (by omega) w)
    · exact stepMove rfl rfl rfl rfl (src_old (by kernel_rfl) rfl)
    · exact stepSlice (some (.int .i64 64)) none rfl rfl rfl rfl (src_new 4 (by decide) rfl rfl (by kernel_rfl)) (fun _ => rfl) (fun _ => rfl) (fun w => E3.out ▸ slLo S 64 (by omega) w)
    · exact stepBuild [(7, .string A), (9, .string M), (11, .string N)] #[(0, .string A), (1, .string M), (2, .string N)] rfl rfl rfl rfl (srcN3s (src_new 1 (by decide) rfl rfl (by kernel_rfl)) (src_new 3 (by decide) rfl rfl (by kernel_rfl)) (src_new 5 (by decide) rfl rfl (by kernel_rfl))) (fun a ha => by
        have h1 : a.eval (.tmp 7) = .string A := ha (7, .string A) (by simp)
        have h2 : a.eval (.tmp 9) = .string M := ha (9, .string M) (by simp)
        have h3 : a.eval (.tmp 11) = .string N := ha (11, .string N) (by simp)
        simp only [List.map_toArray, List.map_cons, List.map_nil, h1, h2, h3]) (fun w => bSk A M N w)
    · exact stepOld (d := 2) (k := 12) rfl rfl rfl rfl rfl (src_old (by kernel_rfl) rfl) f1 rfl (src_new 6 (by decide) rfl rfl (by kernel_rfl)) (skSz A M N) (skOne A M N) (one_old rfl)
  intro v x1 hok hk1
  replace hk1 := hk1.all
  have v0 := okVal hok (j := 0) rfl rfl
  have v1 := okVal hok (j := 1) rfl rfl
  have v2 := okVal hok (j := 2) rfl rfl
  have v3 := okVal hok (j := 3) rfl rfl
  have v4 := okVal hok (j := 4) rfl rfl
  have v5 := okVal hok (j := 5) rfl rfl
  have v6 := okVal hok (j := 6) rfl rfl
  have o7 := okOld hok (i := 7) rfl rfl
  clear hok
  simp only [putL, Nat.zero_add, Nat.reduceAdd, v0, v1, v2, v3, v4, v5, v6, Act.put, List.setIfInBounds_toArray, List.set_cons_zero, List.set_cons_succ]
  clear v0 v1 v2 v3 v4 v5 v6
  have hB2 : Below w.heap.size w x1 := hB1.trans (hk1.base hB1.size (fun k hk => nh1 rfl (by omega)))
  go_wp2
  refine bodyPost_ret (v := .agg (skA A M N)) ?_ rfl ⟨rfl, hB2⟩
  exact results_cell_row Tryd.results23 _ _ w.heap.size 45 _ (0, 0) _ rfl o7 Tryd.underlying45 rfl (skSz A M N)

/-- The tag over the length of what is added, that, and the data. -/
def tagV (m ad h : ByteArray) : ByteArray := str (hmacL m.data.toList (catL [str (beL ad.size 8), ad, h]))
theorem tagV_size (m ad h : ByteArray) : (tagV m ad h).size = 32 := by unfold tagV; rw [str_size, hmacL_len]
set_option maxHeartbeats 1000000 in
theorem tag_i (a m n ad h : ByteArray) (w : World) (hT : TabK w) (hm : m.size ≤ 1000) (had : ad.size ≤ 300) (hh : h.size ≤ 400) :
    Calls Tryd.prog 25 #[.agg (skA a m n), .string ad, .string h] w fun e w' => e = .returned (.string (tagV m ad h)) ∧ Below w.heap.size w w' := by
  have hb0 : Below w.heap.size w (w.alloc (.cells (skA a m n) 45)) := (Below.refl _ _).alloc (Nat.le_refl _) _
  have CM := Lib.hid (fun w h => newMac_any m w h hm)
  have CB := Lib.hid (fun w => (show Calls Tryd.prog 43 #[.int .u64 ad.size, .int .i64 8] w fun e w' => e = .returned (.string (str (beL ad.size 8))) ∧ Below w.heap.size w w' from be_impl ad.size 8 w (by unfold U64; omega) (by omega)))
  have zB : (str (beL ad.size 8)).size = 8 := by rw [str_size, beL_len]
  have HS := Lib.hid (And.intro had (And.intro hh zB))
  have HT := Lib.hid hT
  have HV : Hid (tagV m ad h = str (hmacL m.data.toList (catL [str (beL ad.size 8), ad, h]))) := rfl
  generalize tagV m ad h = V at *
  generalize str (beL ad.size 8) = B8 at *
  have hadI : (ad.size : Int) ≤ 300 := by omega
  clear hT hm had hh zB
  go_enter Tryd.func25, Tryd.ntmps25
  go_wp2_with fail
  refine (CM.out _ (HT.out.below hb0 HT.out.1)).mono ?_
  rintro e w1 ⟨g, i, o, rfl, hup⟩
  have hB1 := hb0.trans (hup.2.2.2.2.2.2.2.1.mono hb0.size)
  go_wp2_with fail
  refine (CB.out _).mono ?_
  rintro e w2 ⟨rfl, hb2⟩
  have hup2 := hup.below hb2
  have hB2 := hB1.trans (hb2.mono hB1.size)
  clear hup hB1 hb2
  go_wp2_with fail
  refine (mac_hash m [B8, ad, h] hup2 (by
    intro q hq
    simp only [List.mem_cons, List.not_mem_nil, or_false] at hq
    have := HS.out
    rcases hq with rfl | rfl | rfl <;> omega) (by simp)).mono ?_
  rintro e w3 ⟨rfl, hb3⟩
  rw [← HV.out]
  go_wp2
  go_ret
  exact ⟨rfl, hb0.trans (hb3.mono hb0.size)⟩

end Go.Proofs.YtgjnoleejbkddaaDoor

/- LetterPart of the specification. Written by py/prl.py. -/
import Derived.Test.YtmekpinhhmknnaaDoorPrl1
namespace Go.Proofs.YtmekpinhhmknnaaDoor
open Go.RowKit Go.My Go.Lib
set_option linter.unusedVariables false
theorem flEnv_0_0 (g : Nat) (w : World) : (Instr.fieldAt 44 (.pointer (some ⟨g, 0, none⟩)) 0).run Tryd.prog w = .ok (.pointer (some ⟨g, 0, none⟩)) w := by kernel_rfl
theorem flEnv_0_1 (g : Nat) (w : World) : (Instr.fieldAt 44 (.pointer (some ⟨g, 0, none⟩)) 1).run Tryd.prog w = .ok (.pointer (some ⟨g, 1, none⟩)) w := by kernel_rfl
theorem flEnv_0_4 (g : Nat) (w : World) : (Instr.fieldAt 44 (.pointer (some ⟨g, 0, none⟩)) 4).run Tryd.prog w = .ok (.pointer (some ⟨g, 6, none⟩)) w := by kernel_rfl
theorem flHead_6_1 (g : Nat) (w : World) : (Instr.fieldAt 40 (.pointer (some ⟨g, 6, none⟩)) 1).run Tryd.prog w = .ok (.pointer (some ⟨g, 7, none⟩)) w := by kernel_rfl
theorem flHead_6_2 (g : Nat) (w : World) : (Instr.fieldAt 40 (.pointer (some ⟨g, 6, none⟩)) 2).run Tryd.prog w = .ok (.pointer (some ⟨g, 8, none⟩)) w := by kernel_rfl
theorem flMsg_6_0 (g : Nat) (w : World) : (Instr.fieldAt 42 (.pointer (some ⟨g, 6, none⟩)) 0).run Tryd.prog w = .ok (.pointer (some ⟨g, 6, none⟩)) w := by kernel_rfl
theorem flMsg_6_1 (g : Nat) (w : World) : (Instr.fieldAt 42 (.pointer (some ⟨g, 6, none⟩)) 1).run Tryd.prog w = .ok (.pointer (some ⟨g, 9, none⟩)) w := by kernel_rfl
theorem cfDecS (args : Array Value) (w : World) : (callFunc 27 args).run Tryd.prog w = .ok (.enter 27 args) w := cf_of Tryd.func27 (by kernel_rfl) (by kernel_rfl) args w

set_option maxRecDepth 20000 in
set_option maxHeartbeats 4000000 in
theorem part_s (f t : Int) (z : Bool) (p q : ByteArray) (o : Int) (u : ByteArray) (a b : Int) (s : ByteArray) (w : World) (hb : BdE f t o a b s) (hp : p.size ≤ 9223372036854775807) (hq : q.size ≤ 9223372036854775807) (hu : u.size ≤ 9223372036854775807) (hs : s.size ≤ 9223372036854775807) :
    Calls Tryd.prog 13 #[.agg (envA f t z p q o u a b s)] w fun e w' => e = .returned (.string (partV f t z p q o u a b s)) ∧ Below w.heap.size w w' := by
  have hb0 := below_box w (.cells (envA f t z p q o u a b s) 44)
  have hS0 := BlkAt.box w (envA f t z p q o u a b s) 44
  have lf : (decV f).size ≤ 21 := decV_len hb.f.1 hb.f.2
  have lt : (decV t).size ≤ 21 := decV_len hb.t.1 hb.t.2
  have lo : (decV o).size ≤ 21 := decV_len hb.o.1 hb.o.2
  have la : (decV a).size ≤ 21 := decV_len hb.a.1 hb.a.2
  have lb : (decV b).size ≤ 21 := decV_len hb.b.1 hb.b.2
  have ls : (decV (s.size : Int)).size ≤ 21 := decV_len hb.s.1 hb.s.2
  by_cases hE : EnvP f t z p q o u a b s
  case neg =>
    have CO := Lib.hid (fun w => envOk_s f t z p q o u a b s w false (decide_eq_false hE) hp hq hu hs)
    have HV := Lib.hid (partV_no hE)
    clear hE hp hq hu hs
    go_enter Tryd.func13, Tryd.ntmps13
    go_wp2_with fail
    refine (CO.out _).mono ?_
    rintro e w2 ⟨rfl, hb2⟩
    go_wp2
    go_ret
    exact ⟨by rw [HV.out]; rfl, hb0.trans (hb2.mono hb0.size)⟩
  have CO := Lib.hid (fun w => envOk_s f t z p q o u a b s w true (decide_eq_true hE) hp hq hu hs)
  have HV := Lib.hid (partV_yes hE)
  clear hE hp hq hu hs
  cases z with
  | true =>
    go_enter Tryd.func13, Tryd.ntmps13
    go_wp2_with fail
    refine (CO.out _).mono ?_
    rintro e w2 ⟨rfl, hb2⟩
    have hS := BlkAt.below hb2 hS0
    have hB := hb0.trans (hb2.mono hb0.size)
    clear hb2 hb0 hS0
    go_upto_region 3 with (fail)
    refine region_all 9 (kdAt [.val (.pointer (some ⟨w.heap.size, 0, none⟩)), .val (.int .i64 f), .val (.string (decV f)), .val (.string ((decV f) ++ gtr)), .val (.pointer (some ⟨w.heap.size, 1, none⟩)), .val (.int .i64 t), .val (.string (decV t)), .val (.string (((decV f) ++ gtr) ++ (decV t))), .val (.string (((decV f) ++ gtr) ++ (decV t)))]) [some 7, some 8, some 9, some 10, some 11, some 12, some 13, some 14, some 3] (by kernel_rfl) rfl (by kernel_rfl) (by kernel_rfl) (by kernel_rfl) (by kernel_rfl) ?_ ?_
    · repeat refine allS ?_ ?_
      · exact all0
      · exact stepField (.pointer (some ⟨w.heap.size, 0, none⟩)) rfl rfl rfl rfl (src_old (by kernel_rfl) rfl) (fun w => flEnv_0_0 _ w)
      · exact stepLoad (.pointer (some ⟨w.heap.size, 0, none⟩)) rfl rfl rfl rfl (src_new 0 (by decide) rfl rfl (by kernel_rfl)) (fun w hk => ldI ((BlkAt.below (hk.below (nh0 rfl)) hS).cell rfl))
      · exact stepCall (ks := [8]) [.int .i64 f] rfl rfl rfl rfl cfDecS rfl (src1 (src_new 1 (by decide) rfl rfl (by kernel_rfl))) (fun w hk => dec_s f hb.f.1 hb.f.2 w)
      · exact stepBinRP rfl rfl rfl rfl (src_new 2 (by decide) rfl rfl (by kernel_rfl)) (fun w => strAdd (decV f) gtr _ _ (by simp only [gtr_size]; omega) w)
      · exact stepField (.pointer (some ⟨w.heap.size, 0, none⟩)) rfl rfl rfl rfl (src_old (by kernel_rfl) rfl) (fun w => flEnv_0_1 _ w)
      · exact stepLoad (.pointer (some ⟨w.heap.size, 1, none⟩)) rfl rfl rfl rfl (src_new 4 (by decide) rfl rfl (by kernel_rfl)) (fun w hk => ldI ((BlkAt.below (hk.below (nh0 rfl)) hS).cell rfl))
      · exact stepCall (ks := [12]) [.int .i64 t] rfl rfl rfl rfl cfDecS rfl (src1 (src_new 5 (by decide) rfl rfl (by kernel_rfl))) (fun w hk => dec_s t hb.t.1 hb.t.2 w)
      · exact stepBin rfl rfl rfl rfl (src_new 3 (by decide) rfl rfl (by kernel_rfl)) (src_new 6 (by decide) rfl rfl (by kernel_rfl)) (fun w => strAdd ((decV f) ++ gtr) (decV t) _ _ (by simp only [ByteArray.size_append, gtr_size]; omega) w)
      · exact stepAssign rfl rfl rfl rfl (src_new 7 (by decide) rfl rfl (by kernel_rfl))
    intro vv x3 hok hk
    replace hk := hk.all
    have v0 := okVal hok (j := 0) rfl rfl
    have v1 := okVal hok (j := 1) rfl rfl
    have v2 := okVal hok (j := 2) rfl rfl
    have v3 := okVal hok (j := 3) rfl rfl
    have v4 := okVal hok (j := 4) rfl rfl
    have v5 := okVal hok (j := 5) rfl rfl
    have v6 := okVal hok (j := 6) rfl rfl
    have v7 := okVal hok (j := 7) rfl rfl
    have v8 := okVal hok (j := 8) rfl rfl
    clear hok
    simp only [putL, Nat.zero_add, Nat.reduceAdd, v0, v1, v2, v3, v4, v5, v6, v7, v8, Act.put, List.setIfInBounds_toArray, List.set_cons_zero, List.set_cons_succ]
    clear v0 v1 v2 v3 v4 v5 v6 v7 v8
    replace hS := BlkAt.below (hk.below (nh0 rfl)) hS
    replace hB := hB.trans ((hk.below (nh0 rfl)).mono hB.size)
    clear hk
    have c2 := hS.cell (j := 2) (v := .bool true) rfl
    have c5 := hS.cell (j := 5) (v := .int .i64 o) rfl
    have q1 : ¬ 9223372036854775807 < (((decV f) ++ gtr) ++ (decV t)).size + 6 := (by simp only [ByteArray.size_append, gtr_size]; omega)
    have q2 : ¬ 9223372036854775807 < ((((decV f) ++ gtr) ++ (decV t)) ++ ini).size + (decV o).size := (by simp only [ByteArray.size_append, gtr_size, ini_size]; omega)
    go_wp2_with fail
    refine (dec_s o hb.o.1 hb.o.2 _).mono ?_
    rintro e y5 ⟨rfl, hb5⟩
    replace hS := BlkAt.below hb5 hS
    replace hB := hB.trans (hb5.mono hB.size)
    clear hb5 c5
    go_upto_region 6 with (fail)
    clear c2 q1 q2
    refine region_all 23 (kdAt [.val (.string ((((decV f) ++ gtr) ++ (decV t)) ++ ini ++ decV o)), .val (.string (((((decV f) ++ gtr) ++ (decV t)) ++ ini ++ decV o) ++ sp1)), .val (.pointer (some ⟨w.heap.size, 6, none⟩)), .val (.pointer (some ⟨w.heap.size, 6, none⟩)), .val (.pointer (some ⟨w.heap.size, 7, none⟩)), .val (.int .i64 a), .val (.string (decV a)), .val (.string ((((((decV f) ++ gtr) ++ (decV t)) ++ ini ++ decV o) ++ sp1) ++ (decV a))), .val (.string (((((((decV f) ++ gtr) ++ (decV t)) ++ ini ++ decV o) ++ sp1) ++ (decV a)) ++ sp1)), .val (.pointer (some ⟨w.heap.size, 6, none⟩)), .val (.pointer (some ⟨w.heap.size, 6, none⟩)), .val (.pointer (some ⟨w.heap.size, 8, none⟩)), .val (.int .i64 b), .val (.string (decV b)), .val (.string ((((((((decV f) ++ gtr) ++ (decV t)) ++ ini ++ decV o) ++ sp1) ++ (decV a)) ++ sp1) ++ (decV b))), .val (.string (((((((((decV f) ++ gtr) ++ (decV t)) ++ ini ++ decV o) ++ sp1) ++ (decV a)) ++ sp1) ++ (decV b)) ++ sp1)), .val (.pointer (some ⟨w.heap.size, 6, none⟩)), .val (.pointer (some ⟨w.heap.size, 9, none⟩)), .val (.string s), .val (.int .i64 (s.size : Int)), .val (.string (decV (s.size : Int))), .val (.string ((((((((((decV f) ++ gtr) ++ (decV t)) ++ ini ++ decV o) ++ sp1) ++ (decV a)) ++ sp1) ++ (decV b)) ++ sp1) ++ (decV (s.size : Int)))), .val (.string ((((((((((decV f) ++ gtr) ++ (decV t)) ++ ini ++ decV o) ++ sp1) ++ (decV a)) ++ sp1) ++ (decV b)) ++ sp1) ++ (decV (s.size : Int))))]) [some 24, some 25, some 26, some 27, some 28, some 29, some 30, some 31, some 32, some 33, some 34, some 35, some 36, some 37, some 38, some 39, some 40, some 41, some 42, some 43, some 44, some 45, some 2] (by kernel_rfl) rfl (by kernel_rfl) (by kernel_rfl) (by kernel_rfl) (by kernel_rfl) ?_ ?_
    · repeat refine allS ?_ ?_
      · exact all0
      · exact stepMove rfl rfl rfl rfl (src_old (by kernel_rfl) rfl)
      · exact stepBinRP rfl rfl rfl rfl (src_new 0 (by decide) rfl rfl (by kernel_rfl)) (fun w => strAdd ((((decV f) ++ gtr) ++ (decV t)) ++ ini ++ decV o) sp1 _ _ (by simp only [ByteArray.size_append, gtr_size, ini_size, spc_size]; omega) w)
      · exact stepField (.pointer (some ⟨w.heap.size, 0, none⟩)) rfl rfl rfl rfl (src_old (by kernel_rfl) rfl) (fun w => flEnv_0_4 _ w)
      · exact stepField (.pointer (some ⟨w.heap.size, 6, none⟩)) rfl rfl rfl rfl (src_new 2 (by decide) rfl rfl (by kernel_rfl)) (fun w => flMsg_6_0 _ w)
      · exact stepField (.pointer (some ⟨w.heap.size, 6, none⟩)) rfl rfl rfl rfl (src_new 3 (by decide) rfl rfl (by kernel_rfl)) (fun w => flHead_6_1 _ w)
      · exact stepLoad (.pointer (some ⟨w.heap.size, 7, none⟩)) rfl rfl rfl rfl (src_new 4 (by decide) rfl rfl (by kernel_rfl)) (fun w hk => ldI ((BlkAt.below (hk.below (nh0 rfl)) hS).cell rfl))
      · exact stepCall (ks := [29]) [.int .i64 a] rfl rfl rfl rfl cfDecS rfl (src1 (src_new 5 (by decide) rfl rfl (by kernel_rfl))) (fun w hk => dec_s a hb.a.1 hb.a.2 w)
      · exact stepBin rfl rfl rfl rfl (src_new 1 (by decide) rfl rfl (by kernel_rfl)) (src_new 6 (by decide) rfl rfl (by kernel_rfl)) (fun w => strAdd (((((decV f) ++ gtr) ++ (decV t)) ++ ini ++ decV o) ++ sp1) (decV a) _ _ (by simp only [ByteArray.size_append, gtr_size, ini_size, spc_size]; omega) w)
      · exact stepBinRP rfl rfl rfl rfl (src_new 7 (by decide) rfl rfl (by kernel_rfl)) (fun w => strAdd ((((((decV f) ++ gtr) ++ (decV t)) ++ ini ++ decV o) ++ sp1) ++ (decV a)) sp1 _ _ (by simp only [ByteArray.size_append, gtr_size, ini_size, spc_size]; omega) w)
      · exact stepField (.pointer (some ⟨w.heap.size, 0, none⟩)) rfl rfl rfl rfl (src_old (by kernel_rfl) rfl) (fun w => flEnv_0_4 _ w)
      · exact stepField (.pointer (some ⟨w.heap.size, 6, none⟩)) rfl rfl rfl rfl (src_new 9 (by decide) rfl rfl (by kernel_rfl)) (fun w => flMsg_6_0 _ w)
      · exact stepField (.pointer (some ⟨w.heap.size, 6, none⟩)) rfl rfl rfl rfl (src_new 10 (by decide) rfl rfl (by kernel_rfl)) (fun w => flHead_6_2 _ w)
      · exact stepLoad (.pointer (some ⟨w.heap.size, 8, none⟩)) rfl rfl rfl rfl (src_new 11 (by decide) rfl rfl (by kernel_rfl)) (fun w hk => ldI ((BlkAt.below (hk.below (nh0 rfl)) hS).cell rfl))
      · exact stepCall (ks := [36]) [.int .i64 b] rfl rfl rfl rfl cfDecS rfl (src1 (src_new 12 (by decide) rfl rfl (by kernel_rfl))) (fun w hk => dec_s b hb.b.1 hb.b.2 w)
      · exact stepBin rfl rfl rfl rfl (src_new 8 (by decide) rfl rfl (by kernel_rfl)) (src_new 13 (by decide) rfl rfl (by kernel_rfl)) (fun w => strAdd (((((((decV f) ++ gtr) ++ (decV t)) ++ ini ++ decV o) ++ sp1) ++ (decV a)) ++ sp1) (decV b) _ _ (by simp only [ByteArray.size_append, gtr_size, ini_size, spc_size]; omega) w)
      · exact stepBinRP rfl rfl rfl rfl (src_new 14 (by decide) rfl rfl (by kernel_rfl)) (fun w => strAdd ((((((((decV f) ++ gtr) ++ (decV t)) ++ ini ++ decV o) ++ sp1) ++ (decV a)) ++ sp1) ++ (decV b)) sp1 _ _ (by simp only [ByteArray.size_append, gtr_size, ini_size, spc_size]; omega) w)
      · exact stepField (.pointer (some ⟨w.heap.size, 0, none⟩)) rfl rfl rfl rfl (src_old (by kernel_rfl) rfl) (fun w => flEnv_0_4 _ w)
      · exact stepField (.pointer (some ⟨w.heap.size, 6, none⟩)) rfl rfl rfl rfl (src_new 16 (by decide) rfl rfl (by kernel_rfl)) (fun w => flMsg_6_1 _ w)
      · exact stepLoad (.pointer (some ⟨w.heap.size, 9, none⟩)) rfl rfl rfl rfl (src_new 17 (by decide) rfl rfl (by kernel_rfl)) (fun w hk => ldStr ((BlkAt.below (hk.below (nh0 rfl)) hS).cell rfl))
      · exact stepLenP rfl rfl rfl rfl (src_new 18 (by decide) rfl rfl (by kernel_rfl)) Tryd.underlying9
      · exact stepCall (ks := [43]) [.int .i64 (s.size : Int)] rfl rfl rfl rfl cfDecS rfl (src1 (src_new 19 (by decide) rfl rfl (by kernel_rfl))) (fun w hk => dec_s (s.size : Int) hb.s.1 hb.s.2 w)
      · exact stepBin rfl rfl rfl rfl (src_new 15 (by decide) rfl rfl (by kernel_rfl)) (src_new 20 (by decide) rfl rfl (by kernel_rfl)) (fun w => strAdd (((((((((decV f) ++ gtr) ++ (decV t)) ++ ini ++ decV o) ++ sp1) ++ (decV a)) ++ sp1) ++ (decV b)) ++ sp1) (decV (s.size : Int)) _ _ (by simp only [ByteArray.size_append, gtr_size, ini_size, spc_size]; omega) w)
      · exact stepAssign rfl rfl rfl rfl (src_new 21 (by decide) rfl rfl (by kernel_rfl))
    intro vv x6 hok hk
    replace hk := hk.all
    have v0 := okVal hok (j := 0) rfl rfl
    have v1 := okVal hok (j := 1) rfl rfl
    have v2 := okVal hok (j := 2) rfl rfl
    have v3 := okVal hok (j := 3) rfl rfl
    have v4 := okVal hok (j := 4) rfl rfl
    have v5 := okVal hok (j := 5) rfl rfl
    have v6 := okVal hok (j := 6) rfl rfl
    have v7 := okVal hok (j := 7) rfl rfl
    have v8 := okVal hok (j := 8) rfl rfl
    have v9 := okVal hok (j := 9) rfl rfl
    have v10 := okVal hok (j := 10) rfl rfl
    have v11 := okVal hok (j := 11) rfl rfl
    have v12 := okVal hok (j := 12) rfl rfl
    have v13 := okVal hok (j := 13) rfl rfl
    have v14 := okVal hok (j := 14) rfl rfl
    have v15 := okVal hok (j := 15) rfl rfl
    have v16 := okVal hok (j := 16) rfl rfl
    have v17 := okVal hok (j := 17) rfl rfl
    have v18 := okVal hok (j := 18) rfl rfl
    have v19 := okVal hok (j := 19) rfl rfl
    have v20 := okVal hok (j := 20) rfl rfl
    have v21 := okVal hok (j := 21) rfl rfl
    have v22 := okVal hok (j := 22) rfl rfl
    clear hok
    simp only [putL, Nat.zero_add, Nat.reduceAdd, v0, v1, v2, v3, v4, v5, v6, v7, v8, v9, v10, v11, v12, v13, v14, v15, v16, v17, v18, v19, v20, v21, v22, Act.put, List.setIfInBounds_toArray, List.set_cons_zero, List.set_cons_succ]
    clear v0 v1 v2 v3 v4 v5 v6 v7 v8 v9 v10 v11 v12 v13 v14 v15 v16 v17 v18 v19 v20 v21 v22
    replace hS := BlkAt.below (hk.below (nh0 rfl)) hS
    replace hB := hB.trans ((hk.below (nh0 rfl)).mono hB.size)
    clear hk
    go_wp2
    go_ret
    exact ⟨by rw [HV.out]; rfl, hB⟩
  | false =>
    go_enter Tryd.func13, Tryd.ntmps13
    go_wp2_with fail
    refine (CO.out _).mono ?_
    rintro e w2 ⟨rfl, hb2⟩
    have hS := BlkAt.below hb2 hS0
    have hB := hb0.trans (hb2.mono hb0.size)
    clear hb2 hb0 hS0
    go_upto_region 3 with (fail)
    refine region_all 9 (kdAt [.val (.pointer (some ⟨w.heap.size, 0, none⟩)), .val (.int .i64 f), .val (.string (decV f)), .val (.string ((decV f) ++ gtr)), .val (.pointer (some ⟨w.heap.size, 1, none⟩)), .val (.int .i64 t), .val (.string (decV t)), .val (.string (((decV f) ++ gtr) ++ (decV t))), .val (.string (((decV f) ++ gtr) ++ (decV t)))]) [some 7, some 8, some 9, some 10, some 11, some 12, some 13, some 14, some 3] (by kernel_rfl) rfl (by kernel_rfl) (by kernel_rfl) (by kernel_rfl) (by kernel_rfl) ?_ ?_
    · repeat refine allS ?_ ?_
      · exact all0
      · exact stepField (.pointer (some ⟨w.heap.size, 0, none⟩)) rfl rfl rfl rfl (src_old (by kernel_rfl) rfl) (fun w => flEnv_0_0 _ w)
      · exact stepLoad (.pointer (some ⟨w.heap.size, 0, none⟩)) rfl rfl rfl rfl (src_new 0 (by decide) rfl rfl (by kernel_rfl)) (fun w hk => ldI ((BlkAt.below (hk.below (nh0 rfl)) hS).cell rfl))
      · exact stepCall (ks := [8]) [.int .i64 f] rfl rfl rfl rfl cfDecS rfl (src1 (src_new 1 (by decide) rfl rfl (by kernel_rfl))) (fun w hk => dec_s f hb.f.1 hb.f.2 w)
      · exact stepBinRP rfl rfl rfl rfl (src_new 2 (by decide) rfl rfl (by kernel_rfl)) (fun w => strAdd (decV f) gtr _ _ (by simp only [gtr_size]; omega) w)
      · exact stepField (.pointer (some ⟨w.heap.size, 0, none⟩)) rfl rfl rfl rfl (src_old (by kernel_rfl) rfl) (fun w => flEnv_0_1 _ w)
      · exact stepLoad (.pointer (some ⟨w.heap.size, 1, none⟩)) rfl rfl rfl rfl (src_new 4 (by decide) rfl rfl (by kernel_rfl)) (fun w hk => ldI ((BlkAt.below (hk.below (nh0 rfl)) hS).cell rfl))
      · exact stepCall (ks := [12]) [.int .i64 t] rfl rfl rfl rfl cfDecS rfl (src1 (src_new 5 (by decide) rfl rfl (by kernel_rfl))) (fun w hk => dec_s t hb.t.1 hb.t.2 w)
      · exact stepBin rfl rfl rfl rfl (src_new 3 (by decide) rfl rfl (by kernel_rfl)) (src_new 6 (by decide) rfl rfl (by kernel_rfl)) (fun w => strAdd ((decV f) ++ gtr) (decV t) _ _ (by simp only [ByteArray.size_append, gtr_size]; omega) w)
      · exact stepAssign rfl rfl rfl rfl (src_new 7 (by decide) rfl rfl (by kernel_rfl))
    intro vv x3 hok hk
    replace hk := hk.all
    have v0 := okVal hok (j := 0) rfl rfl
    have v1 := okVal hok (j := 1) rfl rfl
    have v2 := okVal hok (j := 2) rfl rfl
    have v3 := okVal hok (j := 3) rfl rfl
    have v4 := okVal hok (j := 4) rfl rfl
    have v5 := okVal hok (j := 5) rfl rfl
    have v6 := okVal hok (j := 6) rfl rfl
    have v7 := okVal hok (j := 7) rfl rfl
    have v8 := okVal hok (j := 8) rfl rfl
    clear hok
    simp only [putL, Nat.zero_add, Nat.reduceAdd, v0, v1, v2, v3, v4, v5, v6, v7, v8, Act.put, List.setIfInBounds_toArray, List.set_cons_zero, List.set_cons_succ]
    clear v0 v1 v2 v3 v4 v5 v6 v7 v8
    replace hS := BlkAt.below (hk.below (nh0 rfl)) hS
    replace hB := hB.trans ((hk.below (nh0 rfl)).mono hB.size)
    clear hk
    have c2 := hS.cell (j := 2) (v := .bool false) rfl
    go_upto_region 6 with (fail)
    clear c2
    refine region_all 23 (kdAt [.val (.string (((decV f) ++ gtr) ++ (decV t))), .val (.string ((((decV f) ++ gtr) ++ (decV t)) ++ sp1)), .val (.pointer (some ⟨w.heap.size, 6, none⟩)), .val (.pointer (some ⟨w.heap.size, 6, none⟩)), .val (.pointer (some ⟨w.heap.size, 7, none⟩)), .val (.int .i64 a), .val (.string (decV a)), .val (.string (((((decV f) ++ gtr) ++ (decV t)) ++ sp1) ++ (decV a))), .val (.string ((((((decV f) ++ gtr) ++ (decV t)) ++ sp1) ++ (decV a)) ++ sp1)), .val (.pointer (some ⟨w.heap.size, 6, none⟩)), .val (.pointer (some ⟨w.heap.size, 6, none⟩)), .val (.pointer (some ⟨w.heap.size, 8, none⟩)), .val (.int .i64 b), .val (.string (decV b)), .val (.string (((((((decV f) ++ gtr) ++ (decV t)) ++ sp1) ++ (decV a)) ++ sp1) ++ (decV b))), .val (.string ((((((((decV f) ++ gtr) ++ (decV t)) ++ sp1) ++ (decV a)) ++ sp1) ++ (decV b)) ++ sp1)), .val (.pointer (some ⟨w.heap.size, 6, none⟩)), .val (.pointer (some ⟨w.heap.size, 9, none⟩)), .val (.string s), .val (.int .i64 (s.size : Int)), .val (.string (decV (s.size : Int))), .val (.string (((((((((decV f) ++ gtr) ++ (decV t)) ++ sp1) ++ (decV a)) ++ sp1) ++ (decV b)) ++ sp1) ++ (decV (s.size : Int)))), .val (.string (((((((((decV f) ++ gtr) ++ (decV t)) ++ sp1) ++ (decV a)) ++ sp1) ++ (decV b)) ++ sp1) ++ (decV (s.size : Int))))]) [some 24, some 25, some 26, some 27, some 28, some 29, some 30, some 31, some 32, some 33, some 34, some 35, some 36, some 37, some 38, some 39, some 40, some 41, some 42, some 43, some 44, some 45, some 2] (by kernel_rfl) rfl (by kernel_rfl) (by kernel_rfl) (by kernel_rfl) (by kernel_rfl) ?_ ?_
    · repeat refine allS ?_ ?_
      · exact all0
      · exact stepMove rfl rfl rfl rfl (src_old (by kernel_rfl) rfl)
      · exact stepBinRP rfl rfl rfl rfl (src_new 0 (by decide) rfl rfl (by kernel_rfl)) (fun w => strAdd (((decV f) ++ gtr) ++ (decV t)) sp1 _ _ (by simp only [ByteArray.size_append, gtr_size, spc_size]; omega) w)
      · exact stepField (.pointer (some ⟨w.heap.size, 0, none⟩)) rfl rfl rfl rfl (src_old (by kernel_rfl) rfl) (fun w => flEnv_0_4 _ w)
      · exact stepField (.pointer (some ⟨w.heap.size, 6, none⟩)) rfl rfl rfl rfl (src_new 2 (by decide) rfl rfl (by kernel_rfl)) (fun w => flMsg_6_0 _ w)
      · exact stepField (.pointer (some ⟨w.heap.size, 6, none⟩)) rfl rfl rfl rfl (src_new 3 (by decide) rfl rfl (by kernel_rfl)) (fun w => flHead_6_1 _ w)
      · exact stepLoad (.pointer (some ⟨w.heap.size, 7, none⟩)) rfl rfl rfl rfl (src_new 4 (by decide) rfl rfl (by kernel_rfl)) (fun w hk => ldI ((BlkAt.below (hk.below (nh0 rfl)) hS).cell rfl))
      · exact stepCall (ks := [29]) [.int .i64 a] rfl rfl rfl rfl cfDecS rfl (src1 (src_new 5 (by decide) rfl rfl (by kernel_rfl))) (fun w hk => dec_s a hb.a.1 hb.a.2 w)
      · exact stepBin rfl rfl rfl rfl (src_new 1 (by decide) rfl rfl (by kernel_rfl)) (src_new 6 (by decide) rfl rfl (by kernel_rfl)) (fun w => strAdd ((((decV f) ++ gtr) ++ (decV t)) ++ sp1) (decV a) _ _ (by simp only [ByteArray.size_append, gtr_size, spc_size]; omega) w)
      · exact stepBinRP rfl rfl rfl rfl (src_new 7 (by decide) rfl rfl (by kernel_rfl)) (fun w => strAdd (((((decV f) ++ gtr) ++ (decV t)) ++ sp1) ++ (decV a)) sp1 _ _ (by simp only [ByteArray.size_append, gtr_size, spc_size]; omega) w)
      · exact stepField (.pointer (some ⟨w.heap.size, 0, none⟩)) rfl rfl rfl rfl (src_old (by kernel_rfl) rfl) (fun w => flEnv_0_4 _ w)
      · exact stepField (.pointer (some ⟨w.heap.size, 6, none⟩)) rfl rfl rfl rfl (src_new 9 (by decide) rfl rfl (by kernel_rfl)) (fun w => flMsg_6_0 _ w)
      · exact stepField (.pointer (some ⟨w.heap.size, 6, none⟩)) rfl rfl rfl rfl (src_new 10 (by decide) rfl rfl (by kernel_rfl)) (fun w => flHead_6_2 _ w)
      · exact stepLoad (.pointer (some ⟨w.heap.size, 8, none⟩)) rfl rfl rfl rfl (src_new 11 (by decide) rfl rfl (by kernel_rfl)) (fun w hk => ldI ((BlkAt.below (hk.below (nh0 rfl)) hS).cell rfl))
      · exact stepCall (ks := [36]) [.int .i64 b] rfl rfl rfl rfl cfDecS rfl (src1 (src_new 12 (by decide) rfl rfl (by kernel_rfl))) (fun w hk => dec_s b hb.b.1 hb.b.2 w)
      · exact stepBin rfl rfl rfl rfl (src_new 8 (by decide) rfl rfl (by kernel_rfl)) (src_new 13 (by decide) rfl rfl (by kernel_rfl)) (fun w => strAdd ((((((decV f) ++ gtr) ++ (decV t)) ++ sp1) ++ (decV a)) ++ sp1) (decV b) _ _ (by simp only [ByteArray.size_append, gtr_size, spc_size]; omega) w)
      · exact stepBinRP rfl rfl rfl rfl (src_new 14 (by decide) rfl rfl (by kernel_rfl)) (fun w => strAdd (((((((decV f) ++ gtr) ++ (decV t)) ++ sp1) ++ (decV a)) ++ sp1) ++ (decV b)) sp1 _ _ (by simp only [ByteArray.size_append, gtr_size, spc_size]; omega) w)
      · exact stepField (.pointer (some ⟨w.heap.size, 0, none⟩)) rfl rfl rfl rfl (src_old (by kernel_rfl) rfl) (fun w => flEnv_0_4 _ w)
      · exact stepField (.pointer (some ⟨w.heap.size, 6, none⟩)) rfl rfl rfl rfl (src_new 16 (by decide) rfl rfl (by kernel_rfl)) (fun w => flMsg_6_1 _ w)
      · exact stepLoad (.pointer (some ⟨w.heap.size, 9, none⟩)) rfl rfl rfl rfl (src_new 17 (by decide) rfl rfl (by kernel_rfl)) (fun w hk => ldStr ((BlkAt.below (hk.below (nh0 rfl)) hS).cell rfl))
      · exact stepLenP rfl rfl rfl rfl (src_new 18 (by decide) rfl rfl (by kernel_rfl)) Tryd.underlying9
      · exact stepCall (ks := [43]) [.int .i64 (s.size : Int)] rfl rfl rfl rfl cfDecS rfl (src1 (src_new 19 (by decide) rfl rfl (by kernel_rfl))) (fun w hk => dec_s (s.size : Int) hb.s.1 hb.s.2 w)
      · exact stepBin rfl rfl rfl rfl (src_new 15 (by decide) rfl rfl (by kernel_rfl)) (src_new 20 (by decide) rfl rfl (by kernel_rfl)) (fun w => strAdd ((((((((decV f) ++ gtr) ++ (decV t)) ++ sp1) ++ (decV a)) ++ sp1) ++ (decV b)) ++ sp1) (decV (s.size : Int)) _ _ (by simp only [ByteArray.size_append, gtr_size, spc_size]; omega) w)
      · exact stepAssign rfl rfl rfl rfl (src_new 21 (by decide) rfl rfl (by kernel_rfl))
    intro vv x6 hok hk
    replace hk := hk.all
    have v0 := okVal hok (j := 0) rfl rfl
    have v1 := okVal hok (j := 1) rfl rfl
    have v2 := okVal hok (j := 2) rfl rfl
    have v3 := okVal hok (j := 3) rfl rfl
    have v4 := okVal hok (j := 4) rfl rfl
    have v5 := okVal hok (j := 5) rfl rfl
    have v6 := okVal hok (j := 6) rfl rfl
    have v7 := okVal hok (j := 7) rfl rfl
    have v8 := okVal hok (j := 8) rfl rfl
    have v9 := okVal hok (j := 9) rfl rfl
    have v10 := okVal hok (j := 10) rfl rfl
    have v11 := okVal hok (j := 11) rfl rfl
    have v12 := okVal hok (j := 12) rfl rfl
    have v13 := okVal hok (j := 13) rfl rfl
    have v14 := okVal hok (j := 14) rfl rfl
    have v15 := okVal hok (j := 15) rfl rfl
    have v16 := okVal hok (j := 16) rfl rfl
    have v17 := okVal hok (j := 17) rfl rfl
    have v18 := okVal hok (j := 18) rfl rfl
    have v19 := okVal hok (j := 19) rfl rfl
    have v20 := okVal hok (j := 20) rfl rfl
    have v21 := okVal hok (j := 21) rfl rfl
    have v22 := okVal hok (j := 22) rfl rfl
    clear hok
    simp only [putL, Nat.zero_add, Nat.reduceAdd, v0, v1, v2, v3, v4, v5, v6, v7, v8, v9, v10, v11, v12, v13, v14, v15, v16, v17, v18, v19, v20, v21, v22, Act.put, List.setIfInBounds_toArray, List.set_cons_zero, List.set_cons_succ]
    clear v0 v1 v2 v3 v4 v5 v6 v7 v8 v9 v10 v11 v12 v13 v14 v15 v16 v17 v18 v19 v20 v21 v22
    replace hS := BlkAt.below (hk.below (nh0 rfl)) hS
    replace hB := hB.trans ((hk.below (nh0 rfl)).mono hB.size)
    clear hk
    go_wp2
    go_ret
    exact ⟨by rw [HV.out]; rfl, hB⟩

end Go.Proofs.YtmekpinhhmknnaaDoor

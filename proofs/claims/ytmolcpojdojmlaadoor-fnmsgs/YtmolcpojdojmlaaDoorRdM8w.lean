/- The specification's ReadEnv: the walks. -/
import Derived.Test.YtmolcpojdojmlaaDoorRdM8
import Derived.Deep.Cut
namespace Go.Proofs.YtmolcpojdojmlaaDoor
open Go.RowKit Go.My Go.Lib
set_option linter.unusedVariables false

set_option maxHeartbeats 4000000 in
set_option maxRecDepth 100000 in
theorem readEnv_short (s : ByteArray) (w : World) (hs : s.size ≤ 1048576) (h : s.size < 41) : Calls Tryd.prog 6 #[.string s] w fun e w' => e = .returned (.tuple #[.agg (rdEA s), .bool (decide (RdEP s))]) ∧ Below w.heap.size w w' := by
  have hb0 := below_box w (.cells zeroE 29)
  have hn : ¬ RdEP s := fun c => by
    rcases c with d | d
    · have := rdEF_size d; omega
    · have := rdET_size d; omega
  have h' : (s.size : Int) < 41 := by omega
  rw [rdEA_no hn, decide_eq_false hn]
  clear hn h hs
  go_enter Tryd.func6, Tryd.ntmps6
  go_wp2
  refine bodyPost_ret (v := .tuple #[.agg zeroE, .bool false]) (by simp [results, Tryd.results6, go_sem]) rfl ⟨rfl, ?_⟩
  repeat (refine Below.setCell ?_ (p := ⟨_, _, none⟩) (by first | (simp; done) | (simp; omega)) _)
  first | exact hb0 | exact Below.alloc (Below.refl _ _) (Nat.le_refl _) _

set_option maxHeartbeats 4000000 in
set_option maxRecDepth 100000 in
theorem readEnv_short1 (s : ByteArray) (w : World) (hs : s.size ≤ 1048576) (h : 41 ≤ s.size) (hz : nE s = 1) (hl : s.size < 107) : Calls Tryd.prog 6 #[.string s] w fun e w' => e = .returned (.tuple #[.agg (rdEA s), .bool (decide (RdEP s))]) ∧ Below w.heap.size w w' := by
  have hb0 := below_box w (.cells zeroE 29)
  have hn : ¬ RdEP s := fun c => by
    rcases c with d | d
    · have := d.2.1; omega
    · have := rdET_size d; omega
  have a2 : 2 < s.size := by omega
  have a2' : (2 : Int) < (s.size : Int) := by omega
  unfold nE at hz
  rw [num_one s 2 a2] at hz
  have hz2 : s[2] = 1 := UInt8.toNat_inj.1 (by rw [hz]; rfl)
  have h' : ¬ (s.size : Int) < 41 := by omega
  have h41 : (41 : Int) ≤ (s.size : Int) := by omega
  have h107 : (s.size : Int) < 107 := by omega
  rw [rdEA_no hn, decide_eq_false hn]
  clear hn h hs hl
  go_enter Tryd.func6, Tryd.ntmps6
  go_wp2
  refine bodyPost_ret (v := .tuple #[.agg zeroE, .bool false]) (by simp [results, Tryd.results6, go_sem]) rfl ⟨rfl, ?_⟩
  repeat (refine Below.setCell ?_ (p := ⟨_, _, none⟩) (by first | (simp; done) | (simp; omega)) _)
  first | exact hb0 | exact Below.alloc (Below.refl _ _) (Nat.le_refl _) _

set_option maxHeartbeats 8000000 in
set_option maxRecDepth 100000 in
theorem readEnv_F (s : ByteArray) (w : World) (hs : s.size ≤ 1048576) (h : 41 ≤ s.size) (hz : nE s ≠ 1) : Calls Tryd.prog 6 #[.string s] w fun e w' => e = .returned (.tuple #[.agg (rdEA s), .bool (decide (RdEP s))]) ∧ Below w.heap.size w w' := by
  have a0 : 0 < s.size := by omega
  have a1 : 1 < s.size := by omega
  have a2 : 2 < s.size := by omega
  have a0' : (0 : Int) < (s.size : Int) := by omega
  have a1' : (1 : Int) < (s.size : Int) := by omega
  have a2' : (2 : Int) < (s.size : Int) := by omega
  obtain ⟨u, a, b, x, hx⟩ := rdMA_four (cut s 3 s.size)
  have HV := Lib.hid (envV_F s (by omega) u a b x hx)
  have HP : Hid (decide (RdEP s) = decide (RdEF s)) := Lib.hid (decide_eq_decide.2 ⟨fun c => c.elim id (fun d => absurd d.2.1 hz), .inl⟩)
  have hms := cut_size s 3 s.size (Nat.le_refl _)
  have HM := Lib.hid (fun w => readMsg_s (cut s 3 s.size) w (by omega))
  rw [hx] at HM
  have hf : fE s = (s[0]'a0).toNat := num_one s 0 a0
  have ht : tE s = (s[1]'a1).toNat := num_one s 1 a1
  have hRM : RdMP (cut s 3 s.size) → u = cut (cut s 3 s.size) 0 32 ∧ a = (numOf (cut (cut s 3 s.size) 32 34).data.toList : Nat) ∧ b = (numOf (cut (cut s 3 s.size) 34 36).data.toList : Nat) ∧ x = cut (cut s 3 s.size) 38 (cut s 3 s.size).size := fun c => by
    rw [rdMA_yes c] at hx
    obtain ⟨e0, e1, e2, e3⟩ := msgA_inj hx
    exact ⟨e0.symm, e1.symm, e2.symm, e3.symm⟩
  have HA : Hid (RdEF s → rdEA s = envA ((s[0]'a0).toNat : Nat) ((s[1]'a1).toNat : Nat) false ⟨#[]⟩ ⟨#[]⟩ 0 u a b x) := Lib.hid (fun c => by
    obtain ⟨e0, e1, e2, e3⟩ := hRM c.2.2.1
    rw [rdEA_F c]
    unfold envKA
    rw [hf, ht, e0, e1, e2, e3])
  have husz : u.size ≤ 1048576 ∧ x.size ≤ 1048576 := by
    by_cases c : RdMP (cut s 3 s.size)
    · obtain ⟨e0, _, _, e3⟩ := hRM c
      have := c.1
      exact ⟨by rw [e0, cut_size _ _ _ (by omega)]; omega, by rw [e3, cut_size _ _ _ (Nat.le_refl _)]; omega⟩
    · rw [rdMA_no c] at hx
      obtain ⟨rfl, _, _, rfl⟩ := msgA_inj hx
      exact ⟨Nat.zero_le _, Nat.zero_le _⟩
  rw [hf, ht] at HV
  have HB := Lib.hid (fun w => envBytes_s ((s[0]'a0).toNat : Nat) ((s[1]'a1).toNat : Nat) false ⟨#[]⟩ ⟨#[]⟩ 0 u a b x w (Nat.zero_le _) (Nat.zero_le _) (by omega) (by omega))

  have h2 : ¬ (s[2]'a2) = 1 := fun e => hz (by unfold nE; rw [num_one s 2 a2, e]; rfl)
  have h2' : ¬ (s[2]'a2).toNat = 1 := fun e => h2 (UInt8.toNat_inj.1 (by rw [e]; rfl))
  have h2i : (((s[2]'a2).toNat : Int) == 1) = false := by simp; omega
  have k6 : (3 : Int) ≤ (s.size : Int) := by omega
  have h41 : ¬ (s.size : Int) < 41 := by omega
  clear hRM hx hf ht husz hms
  rw [HP.out]
  have hz2 : (((((s[2]'a2).toNat : Nat) : Nat) : Int) == 1) = false := by simp; omega
  have l0 := (s[0]'a0).toNat_lt
  have l1 := (s[1]'a1).toNat_lt
  have HZ2 := Lib.hid hz2
  have HL0 := Lib.hid l0
  have HL1 := Lib.hid l1
  clear l0 l1 hz2
  by_cases hR : RdEF s
  · rw [HV.out.2 hR] at HB
    rw [HA.out hR, decide_eq_true hR]
    clear HV HA HP hR hz hs h
    go_enter Tryd.func6, Tryd.ntmps6
    go_upto_region 3 with (fail)
    refine region_all 12 (kdAt [.val (.string s), .val (.int .u8 ((s[0]'a0).toNat : Nat)), .val (.int .i64 ((s[0]'a0).toNat : Nat)), .val (.string s), .val (.int .u8 ((s[1]'a1).toNat : Nat)), .val (.int .i64 ((s[1]'a1).toNat : Nat)), .val (.string s), .val (.int .u8 ((s[2]'a2).toNat : Nat)), .val (.bool false), .val (.agg (envA ((s[0]'a0).toNat : Nat) ((s[1]'a1).toNat : Nat) false ⟨#[]⟩ ⟨#[]⟩ 0 ⟨#[]⟩ 0 0 ⟨#[]⟩)), .new 29 zeroE, .put 10 29 (envA ((s[0]'a0).toNat : Nat) ((s[1]'a1).toNat : Nat) false ⟨#[]⟩ ⟨#[]⟩ 0 ⟨#[]⟩ 0 0 ⟨#[]⟩)]) [some 20, some 21, some 22, some 23, some 24, some 25, some 26, some 27, some 28, some 29, some 4, none] (by kernel_rfl) rfl (by kernel_rfl) (by kernel_rfl) (by kernel_rfl) (by kernel_rfl) ?_ ?_
    · repeat refine allS ?_ ?_
      · exact all0
      · exact stepMove rfl rfl rfl rfl (src_old (by kernel_rfl) rfl)
      · exact stepIndexK rfl rfl rfl rfl (src_new 0 (by decide) rfl rfl (by kernel_rfl)) (fun w => ixE s 0 a0 w)
      · exact stepConvK rfl rfl rfl rfl (src_new 1 (by decide) rfl rfl (by kernel_rfl)) (fun w => cvE _ HL0.out w)
      · exact stepMove rfl rfl rfl rfl (src_old (by kernel_rfl) rfl)
      · exact stepIndexK rfl rfl rfl rfl (src_new 3 (by decide) rfl rfl (by kernel_rfl)) (fun w => ixE s 1 a1 w)
      · exact stepConvK rfl rfl rfl rfl (src_new 4 (by decide) rfl rfl (by kernel_rfl)) (fun w => cvE _ HL1.out w)
      · exact stepMove rfl rfl rfl rfl (src_old (by kernel_rfl) rfl)
      · exact stepIndexK rfl rfl rfl rfl (src_new 6 (by decide) rfl rfl (by kernel_rfl)) (fun w => ixE s 2 a2 w)
      · exact stepBinK rfl rfl rfl rfl (src_new 7 (by decide) rfl rfl (by kernel_rfl)) (fun w => eqE1 _ _ HZ2.out _ _ w)
      · exact stepBuild [(22, .int .i64 ((s[0]'a0).toNat : Nat)), (25, .int .i64 ((s[1]'a1).toNat : Nat)), (28, .bool false)] #[(0, .int .i64 ((s[0]'a0).toNat : Nat)), (1, .int .i64 ((s[1]'a1).toNat : Nat)), (2, .bool false)] rfl rfl rfl rfl (srcF3 (src_new 2 (by decide) rfl rfl (by kernel_rfl)) (src_new 5 (by decide) rfl rfl (by kernel_rfl)) (src_new 8 (by decide) rfl rfl (by kernel_rfl))) (fun a ha => by have e1 := ha (22, .int .i64 ((s[0]'a0).toNat : Nat)) (by simp); have e2 := ha (25, .int .i64 ((s[1]'a1).toNat : Nat)) (by simp); have e3 := ha (28, .bool false) (by simp); simp only at e1 e2 e3; simp only [List.map_toArray, List.map_cons, List.map_nil, e1, e2, e3]) (fun w => bEnv3 _ _ _ w)
      · exact stepNew rfl rfl rfl rfl nEnv
      · exact stepPut (Z := zeroE) (d := 4) (k := 29) rfl rfl rfl rfl rfl (by decide) rfl (by kernel_rfl) rfl rfl (src_new 9 (by decide) rfl rfl (by kernel_rfl)) (envSz ((s[0]'a0).toNat : Nat) ((s[1]'a1).toNat : Nat) false ⟨#[]⟩ ⟨#[]⟩ 0 ⟨#[]⟩ 0 0 ⟨#[]⟩) (envOne ((s[0]'a0).toNat : Nat) ((s[1]'a1).toNat : Nat) false ⟨#[]⟩ ⟨#[]⟩ 0 ⟨#[]⟩ 0 0 ⟨#[]⟩) (uniq_of rfl)
    intro v x1 hok hk
    replace hk := hk.all
    have v0 := okVal hok (j := 0) rfl rfl
    have v1 := okVal hok (j := 1) rfl rfl
    have v2 := okVal hok (j := 2) rfl rfl
    have v3 := okVal hok (j := 3) rfl rfl
    have v4 := okVal hok (j := 4) rfl rfl
    have v5 := okVal hok (j := 5) rfl rfl
    have v6 := okVal hok (j := 6) rfl rfl
    have v7 := okVal hok (j := 7) rfl rfl
    have v8 := okVal hok (j := 8) rfl rfl
    have v9 := okVal hok (j := 9) rfl rfl
    obtain ⟨g, v10, k8, l8⟩ := okRowB hok (i := 11) (j := 10) rfl rfl rfl rfl
    clear hok
    simp only [putL, Nat.zero_add, Nat.reduceAdd, v0, v1, v2, v3, v4, v5, v6, v7, v8, v9, v10, Act.put, List.setIfInBounds_toArray, List.set_cons_zero, List.set_cons_succ]
    clear v0 v1 v2 v3 v4 v5 v6 v7 v8 v9 v10
    have r1 : BlkAt w.heap.size zeroE 29 x1 := BlkAt.below (hk.below (nh0 rfl)) (BlkAt.box w zeroE 29)
    have o1 : BlkAt g #[.int .i64 ((s[0]'a0).toNat : Nat), .int .i64 ((s[1]'a1).toNat : Nat), .bool false, .string ⟨#[]⟩, .string ⟨#[]⟩, .int .i64 0, .string ⟨#[]⟩, .int .i64 0, .int .i64 0, .string ⟨#[]⟩] 29 x1 := k8
    have hB : Below w.heap.size w x1 := below_next (hk.below (nh0 rfl)) (below_box w (.cells zeroE 29)) (below_box w (.cells zeroE 29)).size
    have l9 : w.heap.size + 1 ≤ g := by simpa using l8
    have hne1 : w.heap.size ≠ g := by omega
    have hge : w.heap.size ≤ g := by omega
    clear hk k8 l8 l9
    have c2 := o1.cell (j := 2) rfl
    go_wp2_with fail
    refine (HM.out _).mono ?_
    rintro e w2 ⟨rfl, hb2⟩
    have r2 := BlkAt.below hb2 (by exact r1)
    have o2 : BlkAt g #[.int .i64 ((s[0]'a0).toNat : Nat), .int .i64 ((s[1]'a1).toNat : Nat), .bool false, .string ⟨#[]⟩, .string ⟨#[]⟩, .int .i64 0, .string ⟨#[]⟩, .int .i64 0, .int .i64 0, .string ⟨#[]⟩] 29 w2 := BlkAt.below hb2 (by exact o1)
    have hB2 := below_next hb2 (by exact hB) (by exact hB.size)
    clear hb2 c2
    have c6 := o2.cell (j := 6) rfl
    have c7 := o2.cell (j := 7) rfl
    have c8 := o2.cell (j := 8) rfl
    have c9 := o2.cell (j := 9) rfl
    have f6 := o2.froz (j := 6)
    have f7 := o2.froz (j := 7)
    have f8 := o2.froz (j := 8)
    have f9 := o2.froz (j := 9)
    have o3 : BlkAt g #[.int .i64 ((s[0]'a0).toNat : Nat), .int .i64 ((s[1]'a1).toNat : Nat), .bool false, .string ⟨#[]⟩, .string ⟨#[]⟩, .int .i64 0, .string u, .int .i64 a, .int .i64 b, .string x] 29 ((((w2.setCell ⟨g, 6, none⟩ (.string u)).setCell ⟨g, 7, none⟩ (.int .i64 a)).setCell ⟨g, 8, none⟩ (.int .i64 b)).setCell ⟨g, 9, none⟩ (.string x)) := ((((o2.set 6 (.string u)).set 7 (.int .i64 a)).set 8 (.int .i64 b)).set 9 (.string x))
    have r3 : BlkAt w.heap.size zeroE 29 ((((w2.setCell ⟨g, 6, none⟩ (.string u)).setCell ⟨g, 7, none⟩ (.int .i64 a)).setCell ⟨g, 8, none⟩ (.int .i64 b)).setCell ⟨g, 9, none⟩ (.string x)) := ((((r2.other (l := g) 6 (.string u) hne1).other (l := g) 7 (.int .i64 a) hne1).other (l := g) 8 (.int .i64 b) hne1).other (l := g) 9 (.string x) hne1)
    have hB3 : Below w.heap.size w ((((w2.setCell ⟨g, 6, none⟩ (.string u)).setCell ⟨g, 7, none⟩ (.int .i64 a)).setCell ⟨g, 8, none⟩ (.int .i64 b)).setCell ⟨g, 9, none⟩ (.string x)) := ((((hB2.setCell (p := ⟨g, 6, none⟩) hge (.string u)).setCell (p := ⟨g, 7, none⟩) hge (.int .i64 a)).setCell (p := ⟨g, 8, none⟩) hge (.int .i64 b)).setCell (p := ⟨g, 9, none⟩) hge (.string x))
    go_wp2_with (first
      | (with_reducible refine wpList_load_row (o := ⟨some 48, _, _, _, _, _⟩) rfl 29 _ rfl g rfl 29 #[.int .i64 ((s[0]'a0).toNat : Nat), .int .i64 ((s[1]'a1).toNat : Nat), .bool false, .string ⟨#[]⟩, .string ⟨#[]⟩, .int .i64 0, .string u, .int .i64 a, .int .i64 b, .string x] (0, 0) _ o3.h Tryd.underlying29 rfl (envSz ((s[0]'a0).toNat : Nat) ((s[1]'a1).toNat : Nat) false ⟨#[]⟩ ⟨#[]⟩ 0 u a b x) ?_)
      | fail)
    refine (HB.out _).mono ?_
    rintro e w3 ⟨rfl, hb3⟩
    clear c6 f6 c7 f7 c8 f8 c9 f9
    have r4 := BlkAt.below hb3 r3
    have o4 := BlkAt.below hb3 o3
    have hB4 := below_next hb3 hB3 hB3.size
    clear hb3 r2 o2 hB2 r3 o3 hB3
    go_wp2_with (first
      | (with_reducible refine wpList_load_row (o := ⟨some 53, _, _, _, _, _⟩) rfl 29 _ rfl g rfl 29 #[.int .i64 ((s[0]'a0).toNat : Nat), .int .i64 ((s[1]'a1).toNat : Nat), .bool false, .string ⟨#[]⟩, .string ⟨#[]⟩, .int .i64 0, .string u, .int .i64 a, .int .i64 b, .string x] (0, 0) _ o4.h Tryd.underlying29 rfl (envSz ((s[0]'a0).toNat : Nat) ((s[1]'a1).toNat : Nat) false ⟨#[]⟩ ⟨#[]⟩ 0 u a b x) ?_)
      | ((with_reducible refine wpList_store_row' (o := ⟨none, .store 29 _ _, _, _, _, _⟩) rfl 29 _ _ rfl w.heap.size (envA ((s[0]'a0).toNat : Nat) ((s[1]'a1).toNat : Nat) false ⟨#[]⟩ ⟨#[]⟩ 0 u a b x) rfl rfl 29 zeroE r4.h (envSz ((s[0]'a0).toNat : Nat) ((s[1]'a1).toNat : Nat) false ⟨#[]⟩ ⟨#[]⟩ 0 u a b x) rfl (envOne ((s[0]'a0).toNat : Nat) ((s[1]'a1).toNat : Nat) false ⟨#[]⟩ ⟨#[]⟩ 0 u a b x) ?_); intro wa hwa hsa hga)
      | fail)
    have qa : BlkAt w.heap.size (envA ((s[0]'a0).toNat : Nat) ((s[1]'a1).toNat : Nat) false ⟨#[]⟩ ⟨#[]⟩ 0 u a b x) 29 wa := hwa
    have c0 := qa.cell (j := 0) rfl
    have c1 := qa.cell (j := 1) rfl
    have c2 := qa.cell (j := 2) rfl
    have c3 := qa.cell (j := 3) rfl
    have c4 := qa.cell (j := 4) rfl
    have c5 := qa.cell (j := 5) rfl
    have c6 := qa.cell (j := 6) rfl
    have c7 := qa.cell (j := 7) rfl
    have c8 := qa.cell (j := 8) rfl
    have c9 := qa.cell (j := 9) rfl
    refine bodyPost_ret (v := .tuple #[.agg (envA ((s[0]'a0).toNat : Nat) ((s[1]'a1).toNat : Nat) false ⟨#[]⟩ ⟨#[]⟩ 0 u a b x), .bool true]) (by simp [results, Tryd.results6, go_sem, *]) rfl ⟨rfl, ?_⟩
    exact hB4.grown hga hB4.size (by intro k hk; have := Option.some.inj hk; omega)
  · have hne : envV ((s[0]'a0).toNat : Nat) ((s[1]'a1).toNat : Nat) false ⟨#[]⟩ ⟨#[]⟩ 0 u a b x ≠ s := fun e => hR (HV.out.1 e)
    rw [rdEA_no (fun c => hR (by have := decide_eq_true c; rw [HP.out] at this; exact of_decide_eq_true this)), decide_eq_false hR]
    clear HV HA HP hR hz hs h
    generalize envV ((s[0]'a0).toNat : Nat) ((s[1]'a1).toNat : Nat) false ⟨#[]⟩ ⟨#[]⟩ 0 u a b x = M at *
    have hne' := neq_list hne
    clear hne
    go_enter Tryd.func6, Tryd.ntmps6
    go_upto_region 3 with (fail)
    refine region_all 12 (kdAt [.val (.string s), .val (.int .u8 ((s[0]'a0).toNat : Nat)), .val (.int .i64 ((s[0]'a0).toNat : Nat)), .val (.string s), .val (.int .u8 ((s[1]'a1).toNat : Nat)), .val (.int .i64 ((s[1]'a1).toNat : Nat)), .val (.string s), .val (.int .u8 ((s[2]'a2).toNat : Nat)), .val (.bool false), .val (.agg (envA ((s[0]'a0).toNat : Nat) ((s[1]'a1).toNat : Nat) false ⟨#[]⟩ ⟨#[]⟩ 0 ⟨#[]⟩ 0 0 ⟨#[]⟩)), .new 29 zeroE, .put 10 29 (envA ((s[0]'a0).toNat : Nat) ((s[1]'a1).toNat : Nat) false ⟨#[]⟩ ⟨#[]⟩ 0 ⟨#[]⟩ 0 0 ⟨#[]⟩)]) [some 20, some 21, some 22, some 23, some 24, some 25, some 26, some 27, some 28, some 29, some 4, none] (by kernel_rfl) rfl (by kernel_rfl) (by kernel_rfl) (by kernel_rfl) (by kernel_rfl) ?_ ?_
    · repeat refine allS ?_ ?_
      · exact all0
      · exact stepMove rfl rfl rfl rfl (src_old (by kernel_rfl) rfl)
      · exact stepIndexK rfl rfl rfl rfl (src_new 0 (by decide) rfl rfl (by kernel_rfl)) (fun w => ixE s 0 a0 w)
      · exact stepConvK rfl rfl rfl rfl (src_new 1 (by decide) rfl rfl (by kernel_rfl)) (fun w => cvE _ HL0.out w)
      · exact stepMove rfl rfl rfl rfl (src_old (by kernel_rfl) rfl)
      · exact stepIndexK rfl rfl rfl rfl (src_new 3 (by decide) rfl rfl (by kernel_rfl)) (fun w => ixE s 1 a1 w)
      · exact stepConvK rfl rfl rfl rfl (src_new 4 (by decide) rfl rfl (by kernel_rfl)) (fun w => cvE _ HL1.out w)
      · exact stepMove rfl rfl rfl rfl (src_old (by kernel_rfl) rfl)
      · exact stepIndexK rfl rfl rfl rfl (src_new 6 (by decide) rfl rfl (by kernel_rfl)) (fun w => ixE s 2 a2 w)
      · exact stepBinK rfl rfl rfl rfl (src_new 7 (by decide) rfl rfl (by kernel_rfl)) (fun w => eqE1 _ _ HZ2.out _ _ w)
      · exact stepBuild [(22, .int .i64 ((s[0]'a0).toNat : Nat)), (25, .int .i64 ((s[1]'a1).toNat : Nat)), (28, .bool false)] #[(0, .int .i64 ((s[0]'a0).toNat : Nat)), (1, .int .i64 ((s[1]'a1).toNat : Nat)), (2, .bool false)] rfl rfl rfl rfl (srcF3 (src_new 2 (by decide) rfl rfl (by kernel_rfl)) (src_new 5 (by decide) rfl rfl (by kernel_rfl)) (src_new 8 (by decide) rfl rfl (by kernel_rfl))) (fun a ha => by have e1 := ha (22, .int .i64 ((s[0]'a0).toNat : Nat)) (by simp); have e2 := ha (25, .int .i64 ((s[1]'a1).toNat : Nat)) (by simp); have e3 := ha (28, .bool false) (by simp); simp only at e1 e2 e3; simp only [List.map_toArray, List.map_cons, List.map_nil, e1, e2, e3]) (fun w => bEnv3 _ _ _ w)
      · exact stepNew rfl rfl rfl rfl nEnv
      · exact stepPut (Z := zeroE) (d := 4) (k := 29) rfl rfl rfl rfl rfl (by decide) rfl (by kernel_rfl) rfl rfl (src_new 9 (by decide) rfl rfl (by kernel_rfl)) (envSz ((s[0]'a0).toNat : Nat) ((s[1]'a1).toNat : Nat) false ⟨#[]⟩ ⟨#[]⟩ 0 ⟨#[]⟩ 0 0 ⟨#[]⟩) (envOne ((s[0]'a0).toNat : Nat) ((s[1]'a1).toNat : Nat) false ⟨#[]⟩ ⟨#[]⟩ 0 ⟨#[]⟩ 0 0 ⟨#[]⟩) (uniq_of rfl)
    intro v x1 hok hk
    replace hk := hk.all
    have v0 := okVal hok (j := 0) rfl rfl
    have v1 := okVal hok (j := 1) rfl rfl
    have v2 := okVal hok (j := 2) rfl rfl
    have v3 := okVal hok (j := 3) rfl rfl
    have v4 := okVal hok (j := 4) rfl rfl
    have v5 := okVal hok (j := 5) rfl rfl
    have v6 := okVal hok (j := 6) rfl rfl
    have v7 := okVal hok (j := 7) rfl rfl
    have v8 := okVal hok (j := 8) rfl rfl
    have v9 := okVal hok (j := 9) rfl rfl
    obtain ⟨g, v10, k8, l8⟩ := okRowB hok (i := 11) (j := 10) rfl rfl rfl rfl
    clear hok
    simp only [putL, Nat.zero_add, Nat.reduceAdd, v0, v1, v2, v3, v4, v5, v6, v7, v8, v9, v10, Act.put, List.setIfInBounds_toArray, List.set_cons_zero, List.set_cons_succ]
    clear v0 v1 v2 v3 v4 v5 v6 v7 v8 v9 v10
    have r1 : BlkAt w.heap.size zeroE 29 x1 := BlkAt.below (hk.below (nh0 rfl)) (BlkAt.box w zeroE 29)
    have o1 : BlkAt g #[.int .i64 ((s[0]'a0).toNat : Nat), .int .i64 ((s[1]'a1).toNat : Nat), .bool false, .string ⟨#[]⟩, .string ⟨#[]⟩, .int .i64 0, .string ⟨#[]⟩, .int .i64 0, .int .i64 0, .string ⟨#[]⟩] 29 x1 := k8
    have hB : Below w.heap.size w x1 := below_next (hk.below (nh0 rfl)) (below_box w (.cells zeroE 29)) (below_box w (.cells zeroE 29)).size
    have l9 : w.heap.size + 1 ≤ g := by simpa using l8
    have hne1 : w.heap.size ≠ g := by omega
    have hge : w.heap.size ≤ g := by omega
    clear hk k8 l8 l9
    have c2 := o1.cell (j := 2) rfl
    go_wp2_with fail
    refine (HM.out _).mono ?_
    rintro e w2 ⟨rfl, hb2⟩
    have r2 := BlkAt.below hb2 (by exact r1)
    have o2 : BlkAt g #[.int .i64 ((s[0]'a0).toNat : Nat), .int .i64 ((s[1]'a1).toNat : Nat), .bool false, .string ⟨#[]⟩, .string ⟨#[]⟩, .int .i64 0, .string ⟨#[]⟩, .int .i64 0, .int .i64 0, .string ⟨#[]⟩] 29 w2 := BlkAt.below hb2 (by exact o1)
    have hB2 := below_next hb2 (by exact hB) (by exact hB.size)
    clear hb2 c2
    have c6 := o2.cell (j := 6) rfl
    have c7 := o2.cell (j := 7) rfl
    have c8 := o2.cell (j := 8) rfl
    have c9 := o2.cell (j := 9) rfl
    have f6 := o2.froz (j := 6)
    have f7 := o2.froz (j := 7)
    have f8 := o2.froz (j := 8)
    have f9 := o2.froz (j := 9)
    have o3 : BlkAt g #[.int .i64 ((s[0]'a0).toNat : Nat), .int .i64 ((s[1]'a1).toNat : Nat), .bool false, .string ⟨#[]⟩, .string ⟨#[]⟩, .int .i64 0, .string u, .int .i64 a, .int .i64 b, .string x] 29 ((((w2.setCell ⟨g, 6, none⟩ (.string u)).setCell ⟨g, 7, none⟩ (.int .i64 a)).setCell ⟨g, 8, none⟩ (.int .i64 b)).setCell ⟨g, 9, none⟩ (.string x)) := ((((o2.set 6 (.string u)).set 7 (.int .i64 a)).set 8 (.int .i64 b)).set 9 (.string x))
    have r3 : BlkAt w.heap.size zeroE 29 ((((w2.setCell ⟨g, 6, none⟩ (.string u)).setCell ⟨g, 7, none⟩ (.int .i64 a)).setCell ⟨g, 8, none⟩ (.int .i64 b)).setCell ⟨g, 9, none⟩ (.string x)) := ((((r2.other (l := g) 6 (.string u) hne1).other (l := g) 7 (.int .i64 a) hne1).other (l := g) 8 (.int .i64 b) hne1).other (l := g) 9 (.string x) hne1)
    have hB3 : Below w.heap.size w ((((w2.setCell ⟨g, 6, none⟩ (.string u)).setCell ⟨g, 7, none⟩ (.int .i64 a)).setCell ⟨g, 8, none⟩ (.int .i64 b)).setCell ⟨g, 9, none⟩ (.string x)) := ((((hB2.setCell (p := ⟨g, 6, none⟩) hge (.string u)).setCell (p := ⟨g, 7, none⟩) hge (.int .i64 a)).setCell (p := ⟨g, 8, none⟩) hge (.int .i64 b)).setCell (p := ⟨g, 9, none⟩) hge (.string x))
    go_wp2_with (first
      | (with_reducible refine wpList_load_row (o := ⟨some 48, _, _, _, _, _⟩) rfl 29 _ rfl g rfl 29 #[.int .i64 ((s[0]'a0).toNat : Nat), .int .i64 ((s[1]'a1).toNat : Nat), .bool false, .string ⟨#[]⟩, .string ⟨#[]⟩, .int .i64 0, .string u, .int .i64 a, .int .i64 b, .string x] (0, 0) _ o3.h Tryd.underlying29 rfl (envSz ((s[0]'a0).toNat : Nat) ((s[1]'a1).toNat : Nat) false ⟨#[]⟩ ⟨#[]⟩ 0 u a b x) ?_)
      | fail)
    refine (HB.out _).mono ?_
    rintro e w3 ⟨rfl, hb3⟩
    clear c6 f6 c7 f7 c8 f8 c9 f9
    have r4 := BlkAt.below hb3 r3
    have o4 := BlkAt.below hb3 o3
    have hB4 := below_next hb3 hB3 hB3.size
    clear hb3 r2 o2 hB2 r3 o3 hB3
    go_wp2_with (first
      | ((with_reducible refine wpList_store_row' (o := ⟨none, .store 29 _ _, _, _, _, _⟩) rfl 29 _ _ rfl w.heap.size zeroE rfl rfl 29 zeroE r4.h envSz0 rfl envOne0 ?_); intro wa hwa hsa hga)
      | fail)
    have qa : BlkAt w.heap.size zeroE 29 wa := hwa
    have c0 := qa.cell (j := 0) rfl
    have c1 := qa.cell (j := 1) rfl
    have c2 := qa.cell (j := 2) rfl
    have c3 := qa.cell (j := 3) rfl
    have c4 := qa.cell (j := 4) rfl
    have c5 := qa.cell (j := 5) rfl
    have c6 := qa.cell (j := 6) rfl
    have c7 := qa.cell (j := 7) rfl
    have c8 := qa.cell (j := 8) rfl
    have c9 := qa.cell (j := 9) rfl
    refine bodyPost_ret (v := .tuple #[.agg zeroE, .bool false]) (by simp [results, Tryd.results6, go_sem, *]) rfl ⟨rfl, ?_⟩
    exact hB4.grown hga hB4.size (by intro k hk; have := Option.some.inj hk; omega)

set_option maxHeartbeats 8000000 in
set_option maxRecDepth 100000 in
theorem readEnv_T (s : ByteArray) (w : World) (hs : s.size ≤ 1048576) (h : 107 ≤ s.size) (hz : nE s = 1) : Calls Tryd.prog 6 #[.string s] w fun e w' => e = .returned (.tuple #[.agg (rdEA s), .bool (decide (RdEP s))]) ∧ Below w.heap.size w w' := by
  have a0 : 0 < s.size := by omega
  have a1 : 1 < s.size := by omega
  have a2 : 2 < s.size := by omega
  have a0' : (0 : Int) < (s.size : Int) := by omega
  have a1' : (1 : Int) < (s.size : Int) := by omega
  have a2' : (2 : Int) < (s.size : Int) := by omega
  obtain ⟨u, a, b, x, hx⟩ := rdMA_four (cut s 69 s.size)
  have HV := Lib.hid (envV_T s (by omega) hz u a b x hx)
  have HP : Hid (decide (RdEP s) = decide (RdET s)) := Lib.hid (decide_eq_decide.2 ⟨fun c => c.elim (fun d => by have := d.2.1; omega) id, .inr⟩)
  have hms := cut_size s 69 s.size (Nat.le_refl _)
  have HM := Lib.hid (fun w => readMsg_s (cut s 69 s.size) w (by omega))
  rw [hx] at HM
  have hf : fE s = (s[0]'a0).toNat := num_one s 0 a0
  have ht : tE s = (s[1]'a1).toNat := num_one s 1 a1
  have hRM : RdMP (cut s 69 s.size) → u = cut (cut s 69 s.size) 0 32 ∧ a = (numOf (cut (cut s 69 s.size) 32 34).data.toList : Nat) ∧ b = (numOf (cut (cut s 69 s.size) 34 36).data.toList : Nat) ∧ x = cut (cut s 69 s.size) 38 (cut s 69 s.size).size := fun c => by
    rw [rdMA_yes c] at hx
    obtain ⟨e0, e1, e2, e3⟩ := msgA_inj hx
    exact ⟨e0.symm, e1.symm, e2.symm, e3.symm⟩
  have HA : Hid (RdET s → rdEA s = envA ((s[0]'a0).toNat : Nat) ((s[1]'a1).toNat : Nat) true (cut s 3 35) (cut s 35 67) (numOf (cut s 67 69).data.toList : Nat) u a b x) := Lib.hid (fun c => by
    obtain ⟨e0, e1, e2, e3⟩ := hRM c.2.2.1
    rw [rdEA_T c]
    unfold envKA
    rw [hf, ht, e0, e1, e2, e3])
  have husz : u.size ≤ 1048576 ∧ x.size ≤ 1048576 := by
    by_cases c : RdMP (cut s 69 s.size)
    · obtain ⟨e0, _, _, e3⟩ := hRM c
      have := c.1
      exact ⟨by rw [e0, cut_size _ _ _ (by omega)]; omega, by rw [e3, cut_size _ _ _ (Nat.le_refl _)]; omega⟩
    · rw [rdMA_no c] at hx
      obtain ⟨rfl, _, _, rfl⟩ := msgA_inj hx
      exact ⟨Nat.zero_le _, Nat.zero_le _⟩
  rw [hf, ht] at HV
  have HB := Lib.hid (fun w => envBytes_s ((s[0]'a0).toNat : Nat) ((s[1]'a1).toNat : Nat) true (cut s 3 35) (cut s 35 67) (numOf (cut s 67 69).data.toList : Nat) u a b x w (by rw [cut_size _ _ _ (by omega)]; omega) (by rw [cut_size _ _ _ (by omega)]; omega) (by omega) (by omega))

  have H67 := Lib.hid (show ∀ w, Calls Tryd.prog 21 #[.string s, .int .i64 67, .int .i64 2] w fun e w' => e = .returned (.int .i64 (numOf (cut s 67 69).data.toList : Nat)) ∧ w' = w from fun w => (at67_s s w (by omega) hs).mono (fun e w' h => ⟨h.1, h.2.symm⟩))
  have k3 : (35 : Int) ≤ (s.size : Int) := by omega
  have k4 : (67 : Int) ≤ (s.size : Int) := by omega
  have h2 : (s[2]'a2) = 1 := UInt8.toNat_inj.1 (by unfold nE at hz; rw [num_one s 2 a2] at hz; rw [hz]; rfl)
  have h107 : ¬ (s.size : Int) < 107 := by omega
  have e35 : cut s 3 35 = s.extract 3 35 := rfl
  have e67 : cut s 35 67 = s.extract 35 67 := rfl
  have k6 : (69 : Int) ≤ (s.size : Int) := by omega
  have h41 : ¬ (s.size : Int) < 41 := by omega
  clear hRM hx hf ht husz hms
  rw [HP.out]
  have hz2 : (((((s[2]'a2).toNat : Nat) : Nat) : Int) == 1) = true := by rw [h2]; rfl
  have l0 := (s[0]'a0).toNat_lt
  have l1 := (s[1]'a1).toNat_lt
  have HZ2 := Lib.hid hz2
  have HL0 := Lib.hid l0
  have HL1 := Lib.hid l1
  clear l0 l1 hz2
  by_cases hR : RdET s
  · rw [HV.out.2 hR] at HB
    rw [HA.out hR, decide_eq_true hR]
    clear HV HA HP hR hz hs h
    go_enter Tryd.func6, Tryd.ntmps6
    go_upto_region 3 with (fail)
    refine region_all 12 (kdAt [.val (.string s), .val (.int .u8 ((s[0]'a0).toNat : Nat)), .val (.int .i64 ((s[0]'a0).toNat : Nat)), .val (.string s), .val (.int .u8 ((s[1]'a1).toNat : Nat)), .val (.int .i64 ((s[1]'a1).toNat : Nat)), .val (.string s), .val (.int .u8 ((s[2]'a2).toNat : Nat)), .val (.bool true), .val (.agg (envA ((s[0]'a0).toNat : Nat) ((s[1]'a1).toNat : Nat) true ⟨#[]⟩ ⟨#[]⟩ 0 ⟨#[]⟩ 0 0 ⟨#[]⟩)), .new 29 zeroE, .put 10 29 (envA ((s[0]'a0).toNat : Nat) ((s[1]'a1).toNat : Nat) true ⟨#[]⟩ ⟨#[]⟩ 0 ⟨#[]⟩ 0 0 ⟨#[]⟩)]) [some 20, some 21, some 22, some 23, some 24, some 25, some 26, some 27, some 28, some 29, some 4, none] (by kernel_rfl) rfl (by kernel_rfl) (by kernel_rfl) (by kernel_rfl) (by kernel_rfl) ?_ ?_
    · repeat refine allS ?_ ?_
      · exact all0
      · exact stepMove rfl rfl rfl rfl (src_old (by kernel_rfl) rfl)
      · exact stepIndexK rfl rfl rfl rfl (src_new 0 (by decide) rfl rfl (by kernel_rfl)) (fun w => ixE s 0 a0 w)
      · exact stepConvK rfl rfl rfl rfl (src_new 1 (by decide) rfl rfl (by kernel_rfl)) (fun w => cvE _ HL0.out w)
      · exact stepMove rfl rfl rfl rfl (src_old (by kernel_rfl) rfl)
      · exact stepIndexK rfl rfl rfl rfl (src_new 3 (by decide) rfl rfl (by kernel_rfl)) (fun w => ixE s 1 a1 w)
      · exact stepConvK rfl rfl rfl rfl (src_new 4 (by decide) rfl rfl (by kernel_rfl)) (fun w => cvE _ HL1.out w)
      · exact stepMove rfl rfl rfl rfl (src_old (by kernel_rfl) rfl)
      · exact stepIndexK rfl rfl rfl rfl (src_new 6 (by decide) rfl rfl (by kernel_rfl)) (fun w => ixE s 2 a2 w)
      · exact stepBinK rfl rfl rfl rfl (src_new 7 (by decide) rfl rfl (by kernel_rfl)) (fun w => eqE1 _ _ HZ2.out _ _ w)
      · exact stepBuild [(22, .int .i64 ((s[0]'a0).toNat : Nat)), (25, .int .i64 ((s[1]'a1).toNat : Nat)), (28, .bool true)] #[(0, .int .i64 ((s[0]'a0).toNat : Nat)), (1, .int .i64 ((s[1]'a1).toNat : Nat)), (2, .bool true)] rfl rfl rfl rfl (srcF3 (src_new 2 (by decide) rfl rfl (by kernel_rfl)) (src_new 5 (by decide) rfl rfl (by kernel_rfl)) (src_new 8 (by decide) rfl rfl (by kernel_rfl))) (fun a ha => by have e1 := ha (22, .int .i64 ((s[0]'a0).toNat : Nat)) (by simp); have e2 := ha (25, .int .i64 ((s[1]'a1).toNat : Nat)) (by simp); have e3 := ha (28, .bool true) (by simp); simp only at e1 e2 e3; simp only [List.map_toArray, List.map_cons, List.map_nil, e1, e2, e3]) (fun w => bEnv3 _ _ _ w)
      · exact stepNew rfl rfl rfl rfl nEnv
      · exact stepPut (Z := zeroE) (d := 4) (k := 29) rfl rfl rfl rfl rfl (by decide) rfl (by kernel_rfl) rfl rfl (src_new 9 (by decide) rfl rfl (by kernel_rfl)) (envSz ((s[0]'a0).toNat : Nat) ((s[1]'a1).toNat : Nat) true ⟨#[]⟩ ⟨#[]⟩ 0 ⟨#[]⟩ 0 0 ⟨#[]⟩) (envOne ((s[0]'a0).toNat : Nat) ((s[1]'a1).toNat : Nat) true ⟨#[]⟩ ⟨#[]⟩ 0 ⟨#[]⟩ 0 0 ⟨#[]⟩) (uniq_of rfl)
    intro v x1 hok hk
    replace hk := hk.all
    have v0 := okVal hok (j := 0) rfl rfl
    have v1 := okVal hok (j := 1) rfl rfl
    have v2 := okVal hok (j := 2) rfl rfl
    have v3 := okVal hok (j := 3) rfl rfl
    have v4 := okVal hok (j := 4) rfl rfl
    have v5 := okVal hok (j := 5) rfl rfl
    have v6 := okVal hok (j := 6) rfl rfl
    have v7 := okVal hok (j := 7) rfl rfl
    have v8 := okVal hok (j := 8) rfl rfl
    have v9 := okVal hok (j := 9) rfl rfl
    obtain ⟨g, v10, k8, l8⟩ := okRowB hok (i := 11) (j := 10) rfl rfl rfl rfl
    clear hok
    simp only [putL, Nat.zero_add, Nat.reduceAdd, v0, v1, v2, v3, v4, v5, v6, v7, v8, v9, v10, Act.put, List.setIfInBounds_toArray, List.set_cons_zero, List.set_cons_succ]
    clear v0 v1 v2 v3 v4 v5 v6 v7 v8 v9 v10
    have r1 : BlkAt w.heap.size zeroE 29 x1 := BlkAt.below (hk.below (nh0 rfl)) (BlkAt.box w zeroE 29)
    have o1 : BlkAt g #[.int .i64 ((s[0]'a0).toNat : Nat), .int .i64 ((s[1]'a1).toNat : Nat), .bool true, .string ⟨#[]⟩, .string ⟨#[]⟩, .int .i64 0, .string ⟨#[]⟩, .int .i64 0, .int .i64 0, .string ⟨#[]⟩] 29 x1 := k8
    have hB : Below w.heap.size w x1 := below_next (hk.below (nh0 rfl)) (below_box w (.cells zeroE 29)) (below_box w (.cells zeroE 29)).size
    have l9 : w.heap.size + 1 ≤ g := by simpa using l8
    have hne1 : w.heap.size ≠ g := by omega
    have hge : w.heap.size ≤ g := by omega
    clear hk k8 l8 l9
    have c2 := o1.cell (j := 2) rfl
    have c3 := o1.cell (j := 3) rfl
    have f3 := o1.froz (j := 3)
    have c4 := o1.cell (j := 4) rfl
    have f4 := o1.froz (j := 4)
    have c5 := o1.cell (j := 5) rfl
    have f5 := o1.froz (j := 5)
    go_wp2_with fail
    go_region_held3 (fun w' => True) (trivial) (first
      | (go_at_call 21; refine (H67.out _).mono ?_; rintro e wq ⟨rfl, rfl⟩))
    all_goals
      clear c2 c3 c4 c5 f3 f4 f5
      have r1x := ((r1.drw.other (l := g) 3 (.string (cut s 3 35)) hne1).other (l := g) 4 (.string (cut s 35 67)) hne1).other (l := g) 5 (.int .i64 (numOf (cut s 67 69).data.toList : Nat)) hne1
      have o1x : BlkAt g #[.int .i64 ((s[0]'a0).toNat : Nat), .int .i64 ((s[1]'a1).toNat : Nat), .bool true, .string (cut s 3 35), .string (cut s 35 67), .int .i64 (numOf (cut s 67 69).data.toList : Nat), .string ⟨#[]⟩, .int .i64 0, .int .i64 0, .string ⟨#[]⟩] 29 _ := ((o1.drw.set 3 (.string (cut s 3 35))).set 4 (.string (cut s 35 67))).set 5 (.int .i64 (numOf (cut s 67 69).data.toList : Nat))
      have hBx := ((hB.drew.setCell (p := ⟨g, 3, none⟩) hge (.string (cut s 3 35))).setCell (p := ⟨g, 4, none⟩) hge (.string (cut s 35 67))).setCell (p := ⟨g, 5, none⟩) hge (.int .i64 (numOf (cut s 67 69).data.toList : Nat))
      go_wp2_with fail
      refine (HM.out _).mono ?_
      rintro e w2 ⟨rfl, hb2⟩
      have r2 := BlkAt.below hb2 (by exact r1x)
      have o2 : BlkAt g #[.int .i64 ((s[0]'a0).toNat : Nat), .int .i64 ((s[1]'a1).toNat : Nat), .bool true, .string (cut s 3 35), .string (cut s 35 67), .int .i64 (numOf (cut s 67 69).data.toList : Nat), .string ⟨#[]⟩, .int .i64 0, .int .i64 0, .string ⟨#[]⟩] 29 w2 := BlkAt.below hb2 (by exact o1x)
      have hB2 := below_next hb2 (by exact hBx) (by exact hBx.size)
      clear hb2
      have c6 := o2.cell (j := 6) rfl
      have c7 := o2.cell (j := 7) rfl
      have c8 := o2.cell (j := 8) rfl
      have c9 := o2.cell (j := 9) rfl
      have f6 := o2.froz (j := 6)
      have f7 := o2.froz (j := 7)
      have f8 := o2.froz (j := 8)
      have f9 := o2.froz (j := 9)
      have o3 : BlkAt g #[.int .i64 ((s[0]'a0).toNat : Nat), .int .i64 ((s[1]'a1).toNat : Nat), .bool true, .string (cut s 3 35), .string (cut s 35 67), .int .i64 (numOf (cut s 67 69).data.toList : Nat), .string u, .int .i64 a, .int .i64 b, .string x] 29 ((((w2.setCell ⟨g, 6, none⟩ (.string u)).setCell ⟨g, 7, none⟩ (.int .i64 a)).setCell ⟨g, 8, none⟩ (.int .i64 b)).setCell ⟨g, 9, none⟩ (.string x)) := ((((o2.set 6 (.string u)).set 7 (.int .i64 a)).set 8 (.int .i64 b)).set 9 (.string x))
      have r3 : BlkAt w.heap.size zeroE 29 ((((w2.setCell ⟨g, 6, none⟩ (.string u)).setCell ⟨g, 7, none⟩ (.int .i64 a)).setCell ⟨g, 8, none⟩ (.int .i64 b)).setCell ⟨g, 9, none⟩ (.string x)) := ((((r2.other (l := g) 6 (.string u) hne1).other (l := g) 7 (.int .i64 a) hne1).other (l := g) 8 (.int .i64 b) hne1).other (l := g) 9 (.string x) hne1)
      have hB3 : Below w.heap.size w ((((w2.setCell ⟨g, 6, none⟩ (.string u)).setCell ⟨g, 7, none⟩ (.int .i64 a)).setCell ⟨g, 8, none⟩ (.int .i64 b)).setCell ⟨g, 9, none⟩ (.string x)) := ((((hB2.setCell (p := ⟨g, 6, none⟩) hge (.string u)).setCell (p := ⟨g, 7, none⟩) hge (.int .i64 a)).setCell (p := ⟨g, 8, none⟩) hge (.int .i64 b)).setCell (p := ⟨g, 9, none⟩) hge (.string x))
      go_wp2_with (first
        | (with_reducible refine wpList_load_row (o := ⟨some 48, _, _, _, _, _⟩) rfl 29 _ rfl g rfl 29 #[.int .i64 ((s[0]'a0).toNat : Nat), .int .i64 ((s[1]'a1).toNat : Nat), .bool true, .string (cut s 3 35), .string (cut s 35 67), .int .i64 (numOf (cut s 67 69).data.toList : Nat), .string u, .int .i64 a, .int .i64 b, .string x] (0, 0) _ o3.h Tryd.underlying29 rfl (envSz ((s[0]'a0).toNat : Nat) ((s[1]'a1).toNat : Nat) true (cut s 3 35) (cut s 35 67) (numOf (cut s 67 69).data.toList : Nat) u a b x) ?_)
        | fail)
      refine (HB.out _).mono ?_
      rintro e w3 ⟨rfl, hb3⟩
      clear c6 f6 c7 f7 c8 f8 c9 f9
      have r4 := BlkAt.below hb3 r3
      have o4 := BlkAt.below hb3 o3
      have hB4 := below_next hb3 hB3 hB3.size
      clear hb3 r2 o2 hB2 r3 o3 hB3
      go_wp2_with (first
        | (with_reducible refine wpList_load_row (o := ⟨some 53, _, _, _, _, _⟩) rfl 29 _ rfl g rfl 29 #[.int .i64 ((s[0]'a0).toNat : Nat), .int .i64 ((s[1]'a1).toNat : Nat), .bool true, .string (cut s 3 35), .string (cut s 35 67), .int .i64 (numOf (cut s 67 69).data.toList : Nat), .string u, .int .i64 a, .int .i64 b, .string x] (0, 0) _ o4.h Tryd.underlying29 rfl (envSz ((s[0]'a0).toNat : Nat) ((s[1]'a1).toNat : Nat) true (cut s 3 35) (cut s 35 67) (numOf (cut s 67 69).data.toList : Nat) u a b x) ?_)
        | ((with_reducible refine wpList_store_row' (o := ⟨none, .store 29 _ _, _, _, _, _⟩) rfl 29 _ _ rfl w.heap.size (envA ((s[0]'a0).toNat : Nat) ((s[1]'a1).toNat : Nat) true (cut s 3 35) (cut s 35 67) (numOf (cut s 67 69).data.toList : Nat) u a b x) rfl rfl 29 zeroE r4.h (envSz ((s[0]'a0).toNat : Nat) ((s[1]'a1).toNat : Nat) true (cut s 3 35) (cut s 35 67) (numOf (cut s 67 69).data.toList : Nat) u a b x) rfl (envOne ((s[0]'a0).toNat : Nat) ((s[1]'a1).toNat : Nat) true (cut s 3 35) (cut s 35 67) (numOf (cut s 67 69).data.toList : Nat) u a b x) ?_); intro wa hwa hsa hga)
        | fail)
      have qa : BlkAt w.heap.size (envA ((s[0]'a0).toNat : Nat) ((s[1]'a1).toNat : Nat) true (cut s 3 35) (cut s 35 67) (numOf (cut s 67 69).data.toList : Nat) u a b x) 29 wa := hwa
      have c0 := qa.cell (j := 0) rfl
      have c1 := qa.cell (j := 1) rfl
      have c2 := qa.cell (j := 2) rfl
      have c3 := qa.cell (j := 3) rfl
      have c4 := qa.cell (j := 4) rfl
      have c5 := qa.cell (j := 5) rfl
      have c6 := qa.cell (j := 6) rfl
      have c7 := qa.cell (j := 7) rfl
      have c8 := qa.cell (j := 8) rfl
      have c9 := qa.cell (j := 9) rfl
      refine bodyPost_ret (v := .tuple #[.agg (envA ((s[0]'a0).toNat : Nat) ((s[1]'a1).toNat : Nat) true (cut s 3 35) (cut s 35 67) (numOf (cut s 67 69).data.toList : Nat) u a b x), .bool true]) (by simp [results, Tryd.results6, go_sem, *]) rfl ⟨rfl, ?_⟩
      exact hB4.grown hga hB4.size (by intro k hk; have := Option.some.inj hk; omega)
  · have hne : envV ((s[0]'a0).toNat : Nat) ((s[1]'a1).toNat : Nat) true (cut s 3 35) (cut s 35 67) (numOf (cut s 67 69).data.toList : Nat) u a b x ≠ s := fun e => hR (HV.out.1 e)
    rw [rdEA_no (fun c => hR (by have := decide_eq_true c; rw [HP.out] at this; exact of_decide_eq_true this)), decide_eq_false hR]
    clear HV HA HP hR hz hs h
    generalize envV ((s[0]'a0).toNat : Nat) ((s[1]'a1).toNat : Nat) true (cut s 3 35) (cut s 35 67) (numOf (cut s 67 69).data.toList : Nat) u a b x = M at *
    have hne' := neq_list hne
    clear hne
    go_enter Tryd.func6, Tryd.ntmps6
    go_upto_region 3 with (fail)
    refine region_all 12 (kdAt [.val (.string s), .val (.int .u8 ((s[0]'a0).toNat : Nat)), .val (.int .i64 ((s[0]'a0).toNat : Nat)), .val (.string s), .val (.int .u8 ((s[1]'a1).toNat : Nat)), .val (.int .i64 ((s[1]'a1).toNat : Nat)), .val (.string s), .val (.int .u8 ((s[2]'a2).toNat : Nat)), .val (.bool true), .val (.agg (envA ((s[0]'a0).toNat : Nat) ((s[1]'a1).toNat : Nat) true ⟨#[]⟩ ⟨#[]⟩ 0 ⟨#[]⟩ 0 0 ⟨#[]⟩)), .new 29 zeroE, .put 10 29 (envA ((s[0]'a0).toNat : Nat) ((s[1]'a1).toNat : Nat) true ⟨#[]⟩ ⟨#[]⟩ 0 ⟨#[]⟩ 0 0 ⟨#[]⟩)]) [some 20, some 21, some 22, some 23, some 24, some 25, some 26, some 27, some 28, some 29, some 4, none] (by kernel_rfl) rfl (by kernel_rfl) (by kernel_rfl) (by kernel_rfl) (by kernel_rfl) ?_ ?_
    · repeat refine allS ?_ ?_
      · exact all0
      · exact stepMove rfl rfl rfl rfl (src_old (by kernel_rfl) rfl)
      · exact stepIndexK rfl rfl rfl rfl (src_new 0 (by decide) rfl rfl (by kernel_rfl)) (fun w => ixE s 0 a0 w)
      · exact stepConvK rfl rfl rfl rfl (src_new 1 (by decide) rfl rfl (by kernel_rfl)) (fun w => cvE _ HL0.out w)
      · exact stepMove rfl rfl rfl rfl (src_old (by kernel_rfl) rfl)
      · exact stepIndexK rfl rfl rfl rfl (src_new 3 (by decide) rfl rfl (by kernel_rfl)) (fun w => ixE s 1 a1 w)
      · exact stepConvK rfl rfl rfl rfl (src_new 4 (by decide) rfl rfl (by kernel_rfl)) (fun w => cvE _ HL1.out w)
      · exact stepMove rfl rfl rfl rfl (src_old (by kernel_rfl) rfl)
      · exact stepIndexK rfl rfl rfl rfl (src_new 6 (by decide) rfl rfl (by kernel_rfl)) (fun w => ixE s 2 a2 w)
      · exact stepBinK rfl rfl rfl rfl (src_new 7 (by decide) rfl rfl (by kernel_rfl)) (fun w => eqE1 _ _ HZ2.out _ _ w)
      · exact stepBuild [(22, .int .i64 ((s[0]'a0).toNat : Nat)), (25, .int .i64 ((s[1]'a1).toNat : Nat)), (28, .bool true)] #[(0, .int .i64 ((s[0]'a0).toNat : Nat)), (1, .int .i64 ((s[1]'a1).toNat : Nat)), (2, .bool true)] rfl rfl rfl rfl (srcF3 (src_new 2 (by decide) rfl rfl (by kernel_rfl)) (src_new 5 (by decide) rfl rfl (by kernel_rfl)) (src_new 8 (by decide) rfl rfl (by kernel_rfl))) (fun a ha => by have e1 := ha (22, .int .i64 ((s[0]'a0).toNat : Nat)) (by simp); have e2 := ha (25, .int .i64 ((s[1]'a1).toNat : Nat)) (by simp); have e3 := ha (28, .bool true) (by simp); simp only at e1 e2 e3; simp only [List.map_toArray, List.map_cons, List.map_nil, e1, e2, e3]) (fun w => bEnv3 _ _ _ w)
      · exact stepNew rfl rfl rfl rfl nEnv
      · exact stepPut (Z := zeroE) (d := 4) (k := 29) rfl rfl rfl rfl rfl (by decide) rfl (by kernel_rfl) rfl rfl (src_new 9 (by decide) rfl rfl (by kernel_rfl)) (envSz ((s[0]'a0).toNat : Nat) ((s[1]'a1).toNat : Nat) true ⟨#[]⟩ ⟨#[]⟩ 0 ⟨#[]⟩ 0 0 ⟨#[]⟩) (envOne ((s[0]'a0).toNat : Nat) ((s[1]'a1).toNat : Nat) true ⟨#[]⟩ ⟨#[]⟩ 0 ⟨#[]⟩ 0 0 ⟨#[]⟩) (uniq_of rfl)
    intro v x1 hok hk
    replace hk := hk.all
    have v0 := okVal hok (j := 0) rfl rfl
    have v1 := okVal hok (j := 1) rfl rfl
    have v2 := okVal hok (j := 2) rfl rfl
    have v3 := okVal hok (j := 3) rfl rfl
    have v4 := okVal hok (j := 4) rfl rfl
    have v5 := okVal hok (j := 5) rfl rfl
    have v6 := okVal hok (j := 6) rfl rfl
    have v7 := okVal hok (j := 7) rfl rfl
    have v8 := okVal hok (j := 8) rfl rfl
    have v9 := okVal hok (j := 9) rfl rfl
    obtain ⟨g, v10, k8, l8⟩ := okRowB hok (i := 11) (j := 10) rfl rfl rfl rfl
    clear hok
    simp only [putL, Nat.zero_add, Nat.reduceAdd, v0, v1, v2, v3, v4, v5, v6, v7, v8, v9, v10, Act.put, List.setIfInBounds_toArray, List.set_cons_zero, List.set_cons_succ]
    clear v0 v1 v2 v3 v4 v5 v6 v7 v8 v9 v10
    have r1 : BlkAt w.heap.size zeroE 29 x1 := BlkAt.below (hk.below (nh0 rfl)) (BlkAt.box w zeroE 29)
    have o1 : BlkAt g #[.int .i64 ((s[0]'a0).toNat : Nat), .int .i64 ((s[1]'a1).toNat : Nat), .bool true, .string ⟨#[]⟩, .string ⟨#[]⟩, .int .i64 0, .string ⟨#[]⟩, .int .i64 0, .int .i64 0, .string ⟨#[]⟩] 29 x1 := k8
    have hB : Below w.heap.size w x1 := below_next (hk.below (nh0 rfl)) (below_box w (.cells zeroE 29)) (below_box w (.cells zeroE 29)).size
    have l9 : w.heap.size + 1 ≤ g := by simpa using l8
    have hne1 : w.heap.size ≠ g := by omega
    have hge : w.heap.size ≤ g := by omega
    clear hk k8 l8 l9
    have c2 := o1.cell (j := 2) rfl
    have c3 := o1.cell (j := 3) rfl
    have f3 := o1.froz (j := 3)
    have c4 := o1.cell (j := 4) rfl
    have f4 := o1.froz (j := 4)
    have c5 := o1.cell (j := 5) rfl
    have f5 := o1.froz (j := 5)
    go_wp2_with fail
    go_region_held3 (fun w' => True) (trivial) (first
      | (go_at_call 21; refine (H67.out _).mono ?_; rintro e wq ⟨rfl, rfl⟩))
    all_goals
      clear c2 c3 c4 c5 f3 f4 f5
      have r1x := ((r1.drw.other (l := g) 3 (.string (cut s 3 35)) hne1).other (l := g) 4 (.string (cut s 35 67)) hne1).other (l := g) 5 (.int .i64 (numOf (cut s 67 69).data.toList : Nat)) hne1
      have o1x : BlkAt g #[.int .i64 ((s[0]'a0).toNat : Nat), .int .i64 ((s[1]'a1).toNat : Nat), .bool true, .string (cut s 3 35), .string (cut s 35 67), .int .i64 (numOf (cut s 67 69).data.toList : Nat), .string ⟨#[]⟩, .int .i64 0, .int .i64 0, .string ⟨#[]⟩] 29 _ := ((o1.drw.set 3 (.string (cut s 3 35))).set 4 (.string (cut s 35 67))).set 5 (.int .i64 (numOf (cut s 67 69).data.toList : Nat))
      have hBx := ((hB.drew.setCell (p := ⟨g, 3, none⟩) hge (.string (cut s 3 35))).setCell (p := ⟨g, 4, none⟩) hge (.string (cut s 35 67))).setCell (p := ⟨g, 5, none⟩) hge (.int .i64 (numOf (cut s 67 69).data.toList : Nat))
      go_wp2_with fail
      refine (HM.out _).mono ?_
      rintro e w2 ⟨rfl, hb2⟩
      have r2 := BlkAt.below hb2 (by exact r1x)
      have o2 : BlkAt g #[.int .i64 ((s[0]'a0).toNat : Nat), .int .i64 ((s[1]'a1).toNat : Nat), .bool true, .string (cut s 3 35), .string (cut s 35 67), .int .i64 (numOf (cut s 67 69).data.toList : Nat), .string ⟨#[]⟩, .int .i64 0, .int .i64 0, .string ⟨#[]⟩] 29 w2 := BlkAt.below hb2 (by exact o1x)
      have hB2 := below_next hb2 (by exact hBx) (by exact hBx.size)
      clear hb2
      have c6 := o2.cell (j := 6) rfl
      have c7 := o2.cell (j := 7) rfl
      have c8 := o2.cell (j := 8) rfl
      have c9 := o2.cell (j := 9) rfl
      have f6 := o2.froz (j := 6)
      have f7 := o2.froz (j := 7)
      have f8 := o2.froz (j := 8)
      have f9 := o2.froz (j := 9)
      have o3 : BlkAt g #[.int .i64 ((s[0]'a0).toNat : Nat), .int .i64 ((s[1]'a1).toNat : Nat), .bool true, .string (cut s 3 35), .string (cut s 35 67), .int .i64 (numOf (cut s 67 69).data.toList : Nat), .string u, .int .i64 a, .int .i64 b, .string x] 29 ((((w2.setCell ⟨g, 6, none⟩ (.string u)).setCell ⟨g, 7, none⟩ (.int .i64 a)).setCell ⟨g, 8, none⟩ (.int .i64 b)).setCell ⟨g, 9, none⟩ (.string x)) := ((((o2.set 6 (.string u)).set 7 (.int .i64 a)).set 8 (.int .i64 b)).set 9 (.string x))
      have r3 : BlkAt w.heap.size zeroE 29 ((((w2.setCell ⟨g, 6, none⟩ (.string u)).setCell ⟨g, 7, none⟩ (.int .i64 a)).setCell ⟨g, 8, none⟩ (.int .i64 b)).setCell ⟨g, 9, none⟩ (.string x)) := ((((r2.other (l := g) 6 (.string u) hne1).other (l := g) 7 (.int .i64 a) hne1).other (l := g) 8 (.int .i64 b) hne1).other (l := g) 9 (.string x) hne1)
      have hB3 : Below w.heap.size w ((((w2.setCell ⟨g, 6, none⟩ (.string u)).setCell ⟨g, 7, none⟩ (.int .i64 a)).setCell ⟨g, 8, none⟩ (.int .i64 b)).setCell ⟨g, 9, none⟩ (.string x)) := ((((hB2.setCell (p := ⟨g, 6, none⟩) hge (.string u)).setCell (p := ⟨g, 7, none⟩) hge (.int .i64 a)).setCell (p := ⟨g, 8, none⟩) hge (.int .i64 b)).setCell (p := ⟨g, 9, none⟩) hge (.string x))
      go_wp2_with (first
        | (with_reducible refine wpList_load_row (o := ⟨some 48, _, _, _, _, _⟩) rfl 29 _ rfl g rfl 29 #[.int .i64 ((s[0]'a0).toNat : Nat), .int .i64 ((s[1]'a1).toNat : Nat), .bool true, .string (cut s 3 35), .string (cut s 35 67), .int .i64 (numOf (cut s 67 69).data.toList : Nat), .string u, .int .i64 a, .int .i64 b, .string x] (0, 0) _ o3.h Tryd.underlying29 rfl (envSz ((s[0]'a0).toNat : Nat) ((s[1]'a1).toNat : Nat) true (cut s 3 35) (cut s 35 67) (numOf (cut s 67 69).data.toList : Nat) u a b x) ?_)
        | fail)
      refine (HB.out _).mono ?_
      rintro e w3 ⟨rfl, hb3⟩
      clear c6 f6 c7 f7 c8 f8 c9 f9
      have r4 := BlkAt.below hb3 r3
      have o4 := BlkAt.below hb3 o3
      have hB4 := below_next hb3 hB3 hB3.size
      clear hb3 r2 o2 hB2 r3 o3 hB3
      go_wp2_with (first
        | ((with_reducible refine wpList_store_row' (o := ⟨none, .store 29 _ _, _, _, _, _⟩) rfl 29 _ _ rfl w.heap.size zeroE rfl rfl 29 zeroE r4.h envSz0 rfl envOne0 ?_); intro wa hwa hsa hga)
        | fail)
      have qa : BlkAt w.heap.size zeroE 29 wa := hwa
      have c0 := qa.cell (j := 0) rfl
      have c1 := qa.cell (j := 1) rfl
      have c2 := qa.cell (j := 2) rfl
      have c3 := qa.cell (j := 3) rfl
      have c4 := qa.cell (j := 4) rfl
      have c5 := qa.cell (j := 5) rfl
      have c6 := qa.cell (j := 6) rfl
      have c7 := qa.cell (j := 7) rfl
      have c8 := qa.cell (j := 8) rfl
      have c9 := qa.cell (j := 9) rfl
      refine bodyPost_ret (v := .tuple #[.agg zeroE, .bool false]) (by simp [results, Tryd.results6, go_sem, *]) rfl ⟨rfl, ?_⟩
      exact hB4.grown hga hB4.size (by intro k hk; have := Option.some.inj hk; omega)

theorem readEnv_s (s : ByteArray) (w : World) (hs : s.size ≤ 1048576) : Calls Tryd.prog 6 #[.string s] w fun e w' => e = .returned (.tuple #[.agg (rdEA s), .bool (decide (RdEP s))]) ∧ Below w.heap.size w w' := by
  by_cases h : s.size < 41
  · exact readEnv_short s w hs h
  by_cases hz : nE s = 1
  · by_cases h2 : s.size < 107
    · exact readEnv_short1 s w hs (by omega) hz h2
    · exact readEnv_T s w hs (by omega) hz
  · exact readEnv_F s w hs (by omega) hz

end Go.Proofs.YtmolcpojdojmlaaDoor

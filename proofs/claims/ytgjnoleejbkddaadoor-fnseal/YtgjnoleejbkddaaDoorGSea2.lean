/- Seal of both sides. -/
import Derived.Test.YtgjnoleejbkddaaDoorGSea1
namespace Go.Proofs.YtgjnoleejbkddaaDoor
open Go.RowKit Go.My Go.Lib
set_option linter.unusedVariables false
set_option maxRecDepth 100000

def seC (k d : ByteArray) : ByteArray := strE (skC k) (skN k) d
theorem seC_size (k d : ByteArray) (h : d.size ≤ 400) : (seC k d).size = d.size := by unfold seC strE; rw [str_size, strmL_len _ _ _ (by rw [len_data]; omega), len_data]
def seE (k ad d : ByteArray) : ByteArray := seC k d ++ tagV (skM k) ad (seC k d)
abbrev SeP (k ad d : ByteArray) : Prop := k.size = 32 ∧ ad.size ≤ 300 ∧ d.size ≤ 400
def seV (k ad d : ByteArray) : ByteArray := if SeP k ad d then seE k ad d else ByteArray.mk #[]
theorem strV_sk (k d : ByteArray) (h : d.size ≤ 400) : strV (skC k) (skN k) d = seC k d := if_pos ⟨skC_size k, skN_size k, h⟩

theorem sealOk_i (k ad : ByteArray) (n : Nat) (w : World) (hk : k.size ≤ 1048576) (had : ad.size ≤ 1048576) :
    Calls Tryd.prog 22 #[.string k, .string ad, .int .i64 n] w fun e w' => e = .returned (.bool (decide (k.size = 32 ∧ ad.size ≤ 300 ∧ n ≤ 400))) ∧ w = w' := by
  have HI := Lib.hid (fun w => isKey_any k w (by omega))
  have ha : (ad.size : Int) ≤ 1048576 := by omega
  by_cases h1 : k.size = 32
  case neg =>
    have HD : Hid (decide (k.size = 32) = false) := decide_eq_false h1
    rw [decide_eq_false (fun x => h1 x.1)]
    clear h1 hk had
    go_enter Tryd.func22, Tryd.ntmps22
    go_wp2_with fail
    refine (HI.out _).mono ?_
    rintro e w' ⟨rfl, rfl⟩
    rw [HD.out]
    go_wp2
    go_ret
    exact ⟨rfl, rfl⟩
  have HD : Hid (decide (k.size = 32) = true) := decide_eq_true h1
  by_cases h2 : ad.size ≤ 300
  case neg =>
    have c0 : ¬ (ad.size : Int) ≤ 300 := by omega
    rw [decide_eq_false (fun x => h2 x.2.1)]
    clear h1 h2 hk had
    go_enter Tryd.func22, Tryd.ntmps22
    go_wp2_with fail
    refine (HI.out _).mono ?_
    rintro e w' ⟨rfl, rfl⟩
    rw [HD.out]
    go_wp2
    go_ret
    exact ⟨rfl, rfl⟩
  have c0 : (ad.size : Int) ≤ 300 := by omega
  by_cases h3 : n ≤ 400
  · have c1 : (n : Int) ≤ 400 := by omega
    rw [decide_eq_true ⟨h1, h2, h3⟩]
    clear h1 h2 h3 hk had
    go_enter Tryd.func22, Tryd.ntmps22
    go_wp2_with fail
    refine (HI.out _).mono ?_
    rintro e w' ⟨rfl, rfl⟩
    rw [HD.out]
    go_wp2
    go_ret
    exact ⟨rfl, rfl⟩
  · have c1 : ¬ (n : Int) ≤ 400 := by omega
    have c2 : Hid (decide ((n : Int) ≤ 400) = false) := decide_eq_false c1
    rw [decide_eq_false (fun x => h3 x.2.2)]
    clear h1 h2 h3 hk had
    go_enter Tryd.func22, Tryd.ntmps22
    go_wp2_with fail
    refine (HI.out _).mono ?_
    rintro e w' ⟨rfl, rfl⟩
    rw [HD.out]
    go_wp2
    go_ret
    exact ⟨congrArg (fun b => Ending.returned (.bool b)) c2.out, rfl⟩

set_option maxHeartbeats 1000000 in
theorem seal_i (k ad d : ByteArray) (w : World) (hk : k.size ≤ 1048576) (had : ad.size ≤ 1048576) (hd : d.size ≤ 1048576) (hT : TabK w) :
    Calls Tryd.prog 9 #[.string k, .string ad, .string d] w fun e w' => e = .returned (.string (seV k ad d)) ∧ Below w.heap.size w w' := by
  have HO := Lib.hid (fun w => sealOk_i k ad d.size w hk had)
  have hdI : (d.size : Int) ≤ 1048576 := by omega
  by_cases h : SeP k ad d
  case neg =>
    have HV : Hid (seV k ad d = ByteArray.mk #[]) := if_neg h
    have HD : Hid (decide (k.size = 32 ∧ ad.size ≤ 300 ∧ d.size ≤ 400) = false) := decide_eq_false h
    generalize seV k ad d = V at *
    clear h hk had hd
    go_enter Tryd.func9, Tryd.ntmps9
    go_wp2_with fail
    refine (HO.out _).mono ?_
    rintro e w' ⟨rfl, rfl⟩
    rw [HD.out]
    go_wp2
    go_ret
    exact ⟨by rw [HV.out]; rfl, Below.refl _ _⟩
  have HD : Hid (decide (k.size = 32 ∧ ad.size ≤ 300 ∧ d.size ≤ 400) = true) := decide_eq_true h
  have HV : Hid (seV k ad d = seC k d ++ tagV (skM k) ad (seC k d)) := if_pos h
  have HT := Lib.hid hT
  have CK := Lib.hid (fun w ht => newSealKeys_i k w h.1 ht)
  have CS := Lib.hid (fun w => (show Calls Tryd.prog 24 #[.string (skC k), .string (skN k), .string d] w fun e w' => e = .returned (.string (seC k d)) ∧ Below w.heap.size w w' by rw [← strV_sk k d h.2.2]; exact stream_i (skC k) (skN k) d w (by rw [skC_size]; omega) (by rw [skN_size]; omega) hd))
  have CT := Lib.hid (fun w ht => tag_i (skC k) (skM k) (skN k) ad (seC k d) w ht (by rw [skM_size]; omega) h.2.1 (by rw [seC_size k d h.2.2]; exact h.2.2))
  have hc : ¬ 9223372036854775807 < (seC k d).size + (tagV (skM k) ad (seC k d)).size := by rw [seC_size k d h.2.2, tagV_size]; omega
  generalize tagV (skM k) ad (seC k d) = Y at *
  generalize seC k d = X at *
  generalize skC k = A at *
  generalize skM k = M at *
  generalize skN k = N at *
  generalize seV k ad d = V at *
  clear h hk had hd hT
  go_enter Tryd.func9, Tryd.ntmps9
  go_wp2_with fail
  refine (HO.out _).mono ?_
  rintro e w' ⟨rfl, rfl⟩
  rw [HD.out]
  go_wp2_with fail
  refine (CK.out _ HT.out).mono ?_
  rintro e w1 ⟨rfl, hb1⟩
  go_upto_region 4 with (first
    | ((with_reducible refine wpList_store_row' (o := ⟨none, .store 45 _ _, _, _, _, _⟩) rfl 45 _ _ rfl w1.heap.size (skA A M N) rfl rfl 45 skZ (heap_alloc_new w1 _) (skSz A M N) rfl (skOne A M N) ?_); intro w2 hw2 hs2 hg2)
    | fail)
  have f2 : Blk w1.heap.size (skA A M N) 45 w2 := hw2
  have hB2 : Below w.heap.size w w2 := (hb1.alloc hb1.size _).grown hg2 (by simp; have := hb1.size; omega) (by intro k hk; have := Option.some.inj hk; have := hb1.size; omega)
  clear hw2 hs2 hg2 hb1
  generalize w1.heap.size = g at *
  have c0 := f2.cell (j := 0) (v := .string A) rfl
  have c1 := f2.cell (j := 1) (v := .string M) rfl
  have c2 := f2.cell (j := 2) (v := .string N) rfl
  go_wp2_with fail
  refine (CS.out _).mono ?_
  rintro e w3 ⟨rfl, hb3⟩
  have f3 := f2.below hb3
  have hB3 := hB2.trans (hb3.mono hB2.size)
  clear hb3 f2 hB2 c0 c1 c2
  have c0 := f3.cell (j := 0) (v := .string A) rfl
  have c1 := f3.cell (j := 1) (v := .string M) rfl
  have c2 := f3.cell (j := 2) (v := .string N) rfl
  go_wp2_with fail
  refine (CT.out _ (HT.out.below hB3 HT.out.1)).mono ?_
  rintro e w4 ⟨rfl, hb4⟩
  have hB4 := hB3.trans (hb4.mono hB3.size)
  clear hb4 hB3 f3 c0 c1 c2
  go_wp2
  go_ret
  exact ⟨by rw [HV.out]; rfl, hB4⟩

end Go.Proofs.YtgjnoleejbkddaaDoor
namespace Go.Proofs.YtgjnoleejbkddaaDoor
open Go.RowKit Go.My Go.Lib
set_option linter.unusedVariables false
set_option maxRecDepth 100000
theorem cfL4 (args : Array Value) (w : World) : (callFunc 16 args).run Tryd.prog w = .ok (.enter 16 args) w := cf_of Tryd.func16 (by kernel_rfl) (by kernel_rfl) args w
theorem cfBe (args : Array Value) (w : World) : (callFunc 15 args).run Tryd.prog w = .ok (.enter 15 args) w := cf_of Tryd.func15 (by kernel_rfl) (by kernel_rfl) args w
theorem cfHm (args : Array Value) (w : World) : (callFunc 14 args).run Tryd.prog w = .ok (.enter 14 args) w := cf_of Tryd.func14 (by kernel_rfl) (by kernel_rfl) args w
theorem src3s {C : Tmp → Value → Prop} {k l m : Tmp} {y z u : Value} (h : C k y) (h2 : C l z) (h3 : C m u) : ∀ p ∈ [k, l, m].zip [y, z, u], C p.1 p.2 := src3 h h2 h3
theorem cat3s (a b c : ByteArray) : (a ++ b ++ c).data.toList = catL [a, b, c] := by simp [catL, ByteArray.data_append]
/-- The tag as the specification reckons it. -/
theorem hmTag (m ad x : ByteArray) (w : World) (hm : m.size ≤ 1000) (had : ad.size ≤ 300) (hx : x.size ≤ 400) :
    Calls Tryd.prog 14 [Value.string m, .string (str (beL ad.size 8) ++ ad ++ x)].toArray w fun e w' => e = .returned (.string (tagV m ad x)) ∧ Below w.heap.size w w' := by
  have z : (str (beL ad.size 8)).size = 8 := by rw [str_size, beL_len]
  have := l2Hmac_spec m (str (beL ad.size 8) ++ ad ++ x) w (by omega) (by rw [ByteArray.size_append, ByteArray.size_append, z]; omega)
  rw [cat3s] at this
  exact this
theorem beLen (ad : ByteArray) (w : World) (h : ad.size ≤ 300) : Calls Tryd.prog 15 #[.int .i64 ad.size, .int .i64 8] w fun e w' => e = .returned (.string (str (beL ad.size 8))) ∧ Below w.heap.size w w' := by
  have := be_spec (ad.size : Int) 8 w (by simp [Lit.wf, IntKind.min, IntKind.max, IntKind.signed, IntKind.bits]; omega) (by omega)
  rw [show (IntKind.u64.wrap (ad.size : Int)).toNat = ad.size by rw [IntKind.wrap_u64]; omega] at this
  exact this

set_option maxHeartbeats 1000000 in
theorem l4Seal_s (k ad d : ByteArray) (w : World) (h1 : k.size = 32) (h2 : ad.size ≤ 300) (h3 : d.size ≤ 400) :
    Calls Tryd.prog 27 #[.string k, .string ad, .string d] w fun e w' => e = .returned (.string (seE k ad d)) ∧ Below w.heap.size w w' := by
  have CH := Lib.hid (fun w => (show Calls Tryd.prog 13 #[.string (ByteArray.mk #[]), .string k, .string (ByteArray.mk #[115, 101, 97, 108]), .int .i64 76] w fun e w' => e = .returned (.string (sk k)) ∧ Below w.heap.size w w' from l2Hkdf_spec e0S k sealT 76 w (by decide) (by omega) (by decide) (by omega)))
  have z := sk_size k
  have E1 : Hid (skC k = (sk k).extract 0 32) := rfl
  have E2 : Hid (skM k = (sk k).extract 32 64) := rfl
  have E3 : Hid (skN k = (sk k).extract 64 (sk k).size) := by show _ = _; rw [z]; rfl
  have CS := Lib.hid (fun w => (show Calls Tryd.prog 16 [Value.string (skC k), .string (skN k), .string d].toArray w fun e w' => e = .returned (.string (seC k d)) ∧ Below w.heap.size w w' from l4Stream_s (skC k) (skN k) d w (skC_size k) (skN_size k) h3))
  have CT := Lib.hid (fun w => hmTag (skM k) ad (seC k d) w (by rw [skM_size]; omega) h2 (by rw [seC_size k d h3]; exact h3))
  have CB := Lib.hid (fun w => beLen ad w h2)
  have zB : (str (beL ad.size 8)).size = 8 := by rw [str_size, beL_len]
  have zX := seC_size k d h3
  have zY := tagV_size (skM k) ad (seC k d)
  have HV : Hid (seE k ad d = seC k d ++ tagV (skM k) ad (seC k d)) := rfl
  have hc1 : ¬ 9223372036854775807 < (str (beL ad.size 8)).size + ad.size := by omega
  have hc2 : ¬ 9223372036854775807 < (str (beL ad.size 8) ++ ad).size + (seC k d).size := by rw [ByteArray.size_append]; omega
  have hc3 : ¬ 9223372036854775807 < (seC k d).size + (tagV (skM k) ad (seC k d)).size := by omega
  generalize seE k ad d = V at *
  generalize tagV (skM k) ad (seC k d) = Y at *
  generalize seC k d = X at *
  generalize skC k = A at *
  generalize skM k = M at *
  generalize skN k = N at *
  generalize sk k = S at *
  generalize str (beL ad.size 8) = B8 at *
  clear h1 h2 h3 zB zX zY
  go_enter Tryd.func27, Tryd.ntmps27
  go_wp2_with fail
  refine (CH.out _).mono ?_
  rintro e w1 ⟨rfl, hB⟩
  go_upto_region 2 with (fail)
  refine region_all 7 (kdAt [.val (.string S), .val (.string A), .val (.string S), .val (.string N), .val (.string d), .val (.string X), .val (.string X)]) [some 11, some 12, some 13, some 14, some 15, some 16, some 8] (by kernel_rfl) rfl (by kernel_rfl) (by kernel_rfl) (by kernel_rfl) (by kernel_rfl) ?_ ?_
  · repeat refine allS ?_ ?_
    · exact all0
    · exact stepMove rfl rfl rfl rfl (src_old (by kernel_rfl) rfl)
    · exact stepSlice none (some (.int .i64 32)) rfl rfl rfl rfl (src_new 0 (by decide) rfl rfl (by kernel_rfl)) (fun _ => rfl) (fun _ => rfl) (fun w => E1.out ▸ slHi S 32 (by omega) w)
    · exact stepMove rfl rfl rfl rfl (src_old (by kernel_rfl) rfl)
    · exact stepSlice (some (.int .i64 64)) none rfl rfl rfl rfl (src_new 2 (by decide) rfl rfl (by kernel_rfl)) (fun _ => rfl) (fun _ => rfl) (fun w => E3.out ▸ slLo S 64 (by omega) w)
    · exact stepMove rfl rfl rfl rfl (src_old (by kernel_rfl) rfl)
    · exact stepCall (ks := [12, 14, 15]) [.string A, .string N, .string d] rfl rfl rfl rfl cfL4 rfl (src3s (src_new 1 (by decide) rfl rfl (by kernel_rfl)) (src_new 3 (by decide) rfl rfl (by kernel_rfl)) (src_new 4 (by decide) rfl rfl (by kernel_rfl))) (fun w hk => CS.out w)
    · exact stepAssign rfl rfl rfl rfl (src_new 5 (by decide) rfl rfl (by kernel_rfl))
  intro v x1 hok hk1
  replace hk1 := hk1.all
  have v0 := okVal hok (j := 0) rfl rfl
  have v1 := okVal hok (j := 1) rfl rfl
  have v2 := okVal hok (j := 2) rfl rfl
  have v3 := okVal hok (j := 3) rfl rfl
  have v4 := okVal hok (j := 4) rfl rfl
  have v5 := okVal hok (j := 5) rfl rfl
  have v6 := okVal hok (j := 6) rfl rfl
  clear hok
  simp only [putL, Nat.zero_add, Nat.reduceAdd, v0, v1, v2, v3, v4, v5, v6, Act.put, List.setIfInBounds_toArray, List.set_cons_zero, List.set_cons_succ]
  clear v0 v1 v2 v3 v4 v5 v6
  replace hB := hB.trans ((hk1.below (nh0 rfl)).mono hB.size)
  clear hk1
  go_upto_region 3 with (fail)
  refine region_all 13 (kdAt [.val (.string X), .val (.string S), .val (.string M), .val (.string ad), .val (.int .i64 ad.size), .val (.string B8), .val (.string ad), .val (.string (B8 ++ ad)), .val (.string X), .val (.string (B8 ++ ad ++ X)), .val (.string Y), .val (.string (X ++ Y)), .val (.string (X ++ Y))]) [some 17, some 18, some 19, some 20, some 21, some 22, some 23, some 24, some 25, some 26, some 27, some 28, some 6] (by kernel_rfl) rfl (by kernel_rfl) (by kernel_rfl) (by kernel_rfl) (by kernel_rfl) ?_ ?_
  · repeat refine allS ?_ ?_
    · exact all0
    · exact stepMove rfl rfl rfl rfl (src_old (by kernel_rfl) rfl)
    · exact stepMove rfl rfl rfl rfl (src_old (by kernel_rfl) rfl)
    · exact stepSlice (some (.int .i64 32)) (some (.int .i64 64)) rfl rfl rfl rfl (src_new 1 (by decide) rfl rfl (by kernel_rfl)) (fun _ => rfl) (fun _ => rfl) (fun w => E2.out ▸ slBoth S 32 64 (by omega) (by omega) w)
    · exact stepMove rfl rfl rfl rfl (src_old (by kernel_rfl) rfl)
    · exact stepLen rfl rfl rfl rfl (src_new 3 (by decide) rfl rfl (by kernel_rfl)) Tryd.underlying9
    · exact stepCallC rfl rfl rfl rfl cfBe (src_new 4 (by decide) rfl rfl (by kernel_rfl)) (fun w hk => CB.out w)
    · exact stepMove rfl rfl rfl rfl (src_old (by kernel_rfl) rfl)
    · exact stepBin rfl rfl rfl rfl (src_new 5 (by decide) rfl rfl (by kernel_rfl)) (src_new 6 (by decide) rfl rfl (by kernel_rfl)) (fun w => strAdd B8 ad _ _ hc1 w)
    · exact stepMove rfl rfl rfl rfl (src_old (by kernel_rfl) rfl)
    · exact stepBin rfl rfl rfl rfl (src_new 7 (by decide) rfl rfl (by kernel_rfl)) (src_new 8 (by decide) rfl rfl (by kernel_rfl)) (fun w => strAdd (B8 ++ ad) X _ _ hc2 w)
    · exact stepCall (ks := [19, 26]) [.string M, .string (B8 ++ ad ++ X)] rfl rfl rfl rfl cfHm rfl (src2 (src_new 2 (by decide) rfl rfl (by kernel_rfl)) (src_new 9 (by decide) rfl rfl (by kernel_rfl))) (fun w hk => CT.out w)
    · exact stepBin rfl rfl rfl rfl (src_new 0 (by decide) rfl rfl (by kernel_rfl)) (src_new 10 (by decide) rfl rfl (by kernel_rfl)) (fun w => strAdd X Y _ _ hc3 w)
    · exact stepAssign rfl rfl rfl rfl (src_new 11 (by decide) rfl rfl (by kernel_rfl))
  intro v x2 hok hk1
  replace hk1 := hk1.all
  have v0 := okVal hok (j := 0) rfl rfl
  have v1 := okVal hok (j := 1) rfl rfl
  have v2 := okVal hok (j := 2) rfl rfl
  have v3 := okVal hok (j := 3) rfl rfl
  have v4 := okVal hok (j := 4) rfl rfl
  have v5 := okVal hok (j := 5) rfl rfl
  have v6 := okVal hok (j := 6) rfl rfl
  have v7 := okVal hok (j := 7) rfl rfl
  have v8 := okVal hok (j := 8) rfl rfl
  have v9 := okVal hok (j := 9) rfl rfl
  have v10 := okVal hok (j := 10) rfl rfl
  have v11 := okVal hok (j := 11) rfl rfl
  have v12 := okVal hok (j := 12) rfl rfl
  clear hok
  simp only [putL, Nat.zero_add, Nat.reduceAdd, v0, v1, v2, v3, v4, v5, v6, v7, v8, v9, v10, v11, v12, Act.put, List.setIfInBounds_toArray, List.set_cons_zero, List.set_cons_succ]
  clear v0 v1 v2 v3 v4 v5 v6 v7 v8 v9 v10 v11 v12
  replace hB := hB.trans ((hk1.below (nh0 rfl)).mono hB.size)
  clear hk1
  first | (go_wp2; go_ret) | go_ret
  exact ⟨by rw [HV.out]; rfl, hB⟩

theorem l4Form_s (k ad : ByteArray) (w : World) (had : ad.size ≤ 1048576) (b : Bool) (hb : decide (k.size = 32 ∧ ad.size ≤ 300) = b) :
    Calls Tryd.prog 12 #[.string k, .string ad] w fun e w' => e = .returned (.bool b) ∧ w = w' := by
  have ha : (ad.size : Int) ≤ 1048576 := by omega
  by_cases h1 : k.size = 32
  case neg =>
    have H1 : Hid (((k.size : Int) == 32) = false) := by show _ = _; simp; omega
    rw [decide_eq_false (fun x => h1 x.1)] at hb
    subst hb
    clear h1 had
    go_enter Tryd.func12, Tryd.ntmps12
    go_wp2_with fail
    refine (l1Key_k k _ false H1.out).mono ?_
    rintro e w' ⟨rfl, rfl⟩
    go_wp2
    go_ret
    exact ⟨rfl, rfl⟩
  have H1 : Hid (((k.size : Int) == 32) = true) := by show _ = _; simp; omega
  have c2 : Hid (decide ((ad.size : Int) ≤ 300) = b) := by
    show _ = _
    rw [← hb]
    exact decide_eq_decide.2 (by omega)
  clear h1 had hb
  go_enter Tryd.func12, Tryd.ntmps12
  go_wp2_with fail
  refine (l1Key_k k _ true H1.out).mono ?_
  rintro e w' ⟨rfl, rfl⟩
  go_wp2
  go_ret
  exact ⟨congrArg (fun b => Ending.returned (.bool b)) c2.out, rfl⟩

set_option maxHeartbeats 1000000 in
theorem seal_s (k ad d : ByteArray) (w : World) (hk : k.size ≤ 1048576) (had : ad.size ≤ 1048576) (hd : d.size ≤ 1048576) :
    Calls Tryd.prog 11 #[.string k, .string ad, .string d] w fun e w' => e = .returned (.string (seV k ad d)) ∧ Below w.heap.size w w' := by
  have hdI : (d.size : Int) ≤ 1048576 := by omega
  by_cases h : k.size = 32 ∧ ad.size ≤ 300
  case neg =>
    have HV : Hid (seV k ad d = ByteArray.mk #[]) := if_neg (fun x => h ⟨x.1, x.2.1⟩)
    have HO := Lib.hid (fun w => l4Form_s k ad w had false (decide_eq_false h))
    generalize seV k ad d = V at *
    clear h hk had hd
    go_enter Tryd.func11, Tryd.ntmps11
    go_wp2_with fail
    refine (HO.out _).mono ?_
    rintro e w' ⟨rfl, rfl⟩
    go_wp2
    go_ret
    exact ⟨by rw [HV.out]; rfl, Below.refl _ _⟩
  have HO := Lib.hid (fun w => l4Form_s k ad w had true (decide_eq_true h))
  by_cases h3 : d.size ≤ 400
  case neg =>
    have HV : Hid (seV k ad d = ByteArray.mk #[]) := if_neg (fun x => h3 x.2.2)
    have c1 : (400 : Int) < (d.size : Int) := by omega
    generalize seV k ad d = V at *
    clear h h3 hk had hd
    go_enter Tryd.func11, Tryd.ntmps11
    go_wp2_with fail
    refine (HO.out _).mono ?_
    rintro e w' ⟨rfl, rfl⟩
    go_wp2
    go_ret
    exact ⟨by rw [HV.out]; rfl, Below.refl _ _⟩
  have c1 : (d.size : Int) ≤ 400 := by omega
  have C := Lib.hid (fun w => l4Seal_s k ad d w h.1 h.2 h3)
  have HV : seV k ad d = seE k ad d := if_pos ⟨h.1, h.2, h3⟩
  rw [← HV] at C
  generalize seV k ad d = V at *
  clear h h3 hk had hd HV
  go_enter Tryd.func11, Tryd.ntmps11
  go_wp2_with fail
  refine (HO.out _).mono ?_
  rintro e w' ⟨rfl, rfl⟩
  go_wp2_with fail
  refine (C.out _).mono ?_
  rintro e w1 ⟨rfl, hb1⟩
  go_wp2
  go_ret
  exact ⟨rfl, hb1⟩

end Go.Proofs.YtgjnoleejbkddaaDoor

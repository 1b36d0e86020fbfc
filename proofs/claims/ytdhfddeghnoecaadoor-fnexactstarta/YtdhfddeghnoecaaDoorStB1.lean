/- Sessions: allKeys, and StartB of both sides. -/
import Derived.Test.YtdhfddeghnoecaaDoorDh3
namespace Go.Proofs.YtdhfddeghnoecaaDoor
open Go.RowKit Go.My Go.Lib
set_option linter.unusedVariables false

def strsA (l : List ByteArray) : Array Value := (l.map Value.string).toArray
theorem strsA_get (l : List ByteArray) (j : Nat) (h : j < l.length) : (strsA l)[j]? = some (.string l[j]) := by simp [strsA, h]
def allK (l : List ByteArray) : Bool := l.all fun s => decide (s.size = 32)
theorem allK_take (l : List ByteArray) (j : Nat) (h : j < l.length) : allK (l.take (j + 1)) = (allK (l.take j) && decide (l[j].size = 32)) := by
  unfold allK
  rw [List.take_succ_eq_append_getElem h, List.all_append]
  simp
theorem allK_bad (l : List ByteArray) (j : Nat) (h : j < l.length) (hb : ¬ l[j].size = 32) : allK l = false := by
  unfold allK
  rw [List.all_eq_false]
  exact ⟨l[j], List.getElem_mem h, by simpa using hb⟩

set_option maxHeartbeats 2000000 in
theorem allKeys_any (g : Nat) (l : List ByteArray) (w : World) (h : Blk g (strsA l) 9 w) (hl : l.length ≤ 100) (hs : ∀ j (hj : j < l.length), (l[j]'hj).size ≤ 9223372036854775807) :
    Calls Tryd.prog 24 #[.slice (some ⟨g, 0, none⟩) l.length l.length] w fun e w' => e = .returned (.bool (allK l)) ∧ w = w' := by
  have HB := Lib.hid h
  have HS := Lib.hid hs
  have hl1 : (l.length : Int) ≤ 100 := by omega
  clear h hs
  go_enter Tryd.func24, Tryd.ntmps24
  go_wp2
  go_loopw [7] (fun i wr => ∃ j : Nat, j ≤ l.length ∧ i = .int .i64 j ∧ allK (l.take j) = true ∧ w = wr) (fun i _ => l.length - (intOf i).toNat)
  case atStart => exact ⟨0, Nat.zero_le _, rfl, rfl, rfl⟩
  case round =>
    obtain ⟨j, hj, rfl, hall, rfl⟩ := hrel
    by_cases hlt : j < l.length
    · have j0 : (0 : Int) ≤ (j : Int) := by omega
      have j1 : (j : Int) < (l.length : Int) := by omega
      have hc := HB.out.cell (strsA_get l j hlt)
      have HSJ := Lib.hid (HS.out j hlt)
      have HA := Lib.hid hall
      have HT := Lib.hid (allK_take l j hlt)
      have HBD := Lib.hid (allK_bad l j hlt)
      clear hall hj
      generalize l[j] = s at *
      go_wp2_with fail
      refine (isKey_any s _ HSJ.out).mono ?_
      rintro e w' ⟨rfl, rfl⟩
      by_cases h32 : s.size = 32
      · have HN : Hid (allK (l.take (j + 1)) = true) := by show _ = _; rw [HT.out, HA.out, decide_eq_true h32]; rfl
        rw [decide_eq_true h32]
        clear h32
        go_wp2
        go_roundw
        case rel => exact ⟨j + 1, by omega, by go_num, HN.out, by first | rfl | trivial⟩
        case measure => simp [intOf]; omega
      · rw [decide_eq_false h32]
        have HN := Lib.hid (HBD.out h32)
        clear h32
        go_wp2
        go_ret
        exact ⟨by rw [HN.out]; rfl, rfl⟩
    · have hje : j = l.length := by omega
      have hpj : (l.length : Int) ≤ (j : Int) := by omega
      have HA : Hid (allK l = true) := by show _ = _; rw [hje, List.take_length] at hall; exact hall
      clear hall hlt hj hje
      go_wp2
      go_ret
      exact ⟨by rw [HA.out]; rfl, rfl⟩

abbrev sesA (r o p t k : ByteArray) (n v : Int) (q : ByteArray) (m : Int) : Array Value := #[.string r, .string o, .string p, .string t, .string k, .int .i64 n, .int .i64 v, .string q, .int .i64 m, .slice none 0 0]
abbrev sesZ : Array Value := sesA (ByteArray.mk #[]) (ByteArray.mk #[]) (ByteArray.mk #[]) (ByteArray.mk #[]) (ByteArray.mk #[]) 0 0 (ByteArray.mk #[]) 0
theorem szS : (Tryd.prog.info? 24).map (·.size) = some 10 := by kernel_rfl
theorem sesSz (r o p t k : ByteArray) (n v : Int) (q : ByteArray) (m : Int) : (Tryd.prog.info? 24).map (·.size) = some (sesA r o p t k n v q m).size := szS
def stB (r o : ByteArray) : Array Value := if r.size = 32 ∧ o.size = 32 then sesA r o (dhV o nineS) (ByteArray.mk #[]) (ByteArray.mk #[]) 0 0 (ByteArray.mk #[]) 0 else sesZ

theorem sesOne (r o p t k : ByteArray) (n v : Int) (q : ByteArray) (m : Int) : (sesA r o p t k n v q m).all (·.oneCell') = true := by kernel_rfl
theorem bSes (r o p : ByteArray) (w : World) : (Instr.build 24 #[(0, .string r), (1, .string o), (2, .string p)]).run Tryd.prog w = .ok (.agg (sesA r o p (ByteArray.mk #[]) (ByteArray.mk #[]) 0 0 (ByteArray.mk #[]) 0)) w := by kernel_rfl
theorem stepConst {P : Program} {Q : Exit → Act → World → Prop} {ops : Array Oper} {m : Nat} {a0 : Act} {w0 : World} {D : Nat → Kd} {i : Nat} {o : Oper} {x : Value} (hoi : ops[i]? = some o) (hg : o.guard = none) (hD : D i = .val x) (hop : o.op = .assign (.const x)) : StepOk P Q ops m a0 w0 D i := by
  refine stepRun [] hoi hg hD (fun p hp => by cases hp) fun a w ha hb => ?_
  unfold execOp
  simp only [hop, Act.eval, Sem.run_pure]
theorem srcN3 {C : Tmp → Value → Prop} {k l m : Tmp} {y z u : Value} (h : C k y) (h2 : C l z) (h3 : C m u) : ∀ p ∈ [(k, y), (l, z), (m, u)], C p.1 p.2 := fun p hp => by
  rcases List.mem_cons.1 hp with e | e
  · rw [e]; exact h
  · rcases List.mem_cons.1 e with e | e
    · rw [e]; exact h2
    · rw [List.mem_singleton.1 e]; exact h3
theorem pub_ci (k o : ByteArray) (w : World) (ho : o = dhV k nineS) (hk : k.size ≤ 1048576) (ht : TabP w) :
    Calls Tryd.prog 25 [Value.string k].toArray w fun e w' => e = .returned (.string o) ∧ Below w.heap.size w w' := by rw [ho]; exact pubI20 k w hk ht
theorem pub_cs (k o : ByteArray) (w : World) (ho : o = dhV k nineS) (hk : k.size ≤ 1048576) :
    Calls Tryd.prog 21 [Value.string k].toArray w fun e w' => e = .returned (.string o) ∧ Below w.heap.size w w' := by rw [ho]; exact pubS20 k w hk
theorem cfPubI (args : Array Value) (w : World) : (callFunc 25 args).run Tryd.prog w = .ok (.enter 25 args) w := cf_of Tryd.func25 (by kernel_rfl) (by kernel_rfl) args w
theorem cfPubS (args : Array Value) (w : World) : (callFunc 21 args).run Tryd.prog w = .ok (.enter 21 args) w := cf_of Tryd.func21 (by kernel_rfl) (by kernel_rfl) args w

set_option maxRecDepth 100000 in
set_option maxHeartbeats 4000000 in
theorem startB_i (r o : ByteArray) (w : World) (hr : r.size ≤ 1048576) (ho : o.size ≤ 1048576) (ht : TabP w) :
    Calls Tryd.prog 13 #[.string r, .string o] w fun e w' => e = .returned (.tuple #[.agg (stB r o), .bool (decide (r.size = 32 ∧ o.size = 32))]) ∧ Below w.heap.size w w' := by
  have hb0 : Below w.heap.size w ((w.alloc (.cells sesZ 24)).alloc (.cells (strsA [r, o]) 9)) := ((Below.refl _ _).alloc (Nat.le_refl _) _).alloc (by simp) _
  have HTP := Lib.hid ht
  have HK := Lib.hid (allKeys_any (w.heap.size + 1) [r, o] ((w.alloc (.cells sesZ 24)).alloc (.cells (strsA [r, o]) 9)) (heap_alloc2_new w _ _) (by simp) (fun j hj => by
    have : j = 0 ∨ j = 1 := by simp at hj; omega
    rcases this with rfl | rfl
    · show r.size ≤ _; omega
    · show o.size ≤ _; omega))
  have f0 : Blk w.heap.size sesZ 24 ((w.alloc (.cells sesZ 24)).alloc (.cells (strsA [r, o]) 9)) := heap_alloc2_old w _ _
  have HA : Hid (allK [r, o] = decide (r.size = 32 ∧ o.size = 32)) := by show _ = _; simp [allK]
  have HO := Lib.hid ho
  clear hr ho ht
  by_cases h : r.size = 32 ∧ o.size = 32
  · obtain ⟨p, ep⟩ : ∃ p, p = dhV o nineS := ⟨_, rfl⟩
    have HV : Hid (stB r o = sesA r o p (ByteArray.mk #[]) (ByteArray.mk #[]) 0 0 (ByteArray.mk #[]) 0) := by show _ = _; rw [ep]; exact if_pos h
    have Ep := Lib.hid ep
    rw [decide_eq_true h] at HA ⊢
    clear h ep
    generalize hst : stB r o = A at *
    have HST := Lib.hid hst
    clear hst
    have ht := HTP.out.below hb0 HTP.out.1
    have hB := hb0
    have hM : 0 ≤ ((w.alloc (.cells sesZ 24)).alloc (.cells (strsA [r, o]) 9)).heap.size := Nat.zero_le _
    clear hb0
    obtain ⟨g4, hg4⟩ : ∃ g, g = w.heap.size := ⟨_, rfl⟩
    have HG : Hid (w.heap.size ≤ g4) := by show _ ≤ _; omega
    have HNE : Hid (0 ≠ g4) := by show _ ≠ _; have := HTP.out.1; omega
    rw [← hg4] at f0
    go_enter Tryd.func13, Tryd.ntmps13
    go_wp2_with fail
    refine HK.out.mono ?_
    rintro e w' ⟨rfl, rfl⟩
    rw [HA.out]
    clear HK
    go_upto_region 3 with (fail)
    change Code.wp _ _ _ _ ((w.alloc (.cells sesZ 24)).alloc (.cells (strsA [r, o]) 9))
    generalize ((w.alloc (.cells sesZ 24)).alloc (.cells (strsA [r, o]) 9)) = x0 at *
    rw [← hg4]
    have HG4 := Lib.hid hg4
    clear hg4
    go_upto_region 3 with (fail)
    refine region_seq 7 (kdAt [.val (.string r), .val (.string o), .val (.string o), .val (.string p), .val (.agg (sesA r o p (ByteArray.mk #[]) (ByteArray.mk #[]) 0 0 (ByteArray.mk #[]) 0)), .old g4 24 (sesA r o p (ByteArray.mk #[]) (ByteArray.mk #[]) 0 0 (ByteArray.mk #[]) 0), .val (.bool true)]) [some 12, some 13, some 14, some 15, some 16, none, some 5] (by decide) (by kernel_rfl) (by kernel_rfl) (by kernel_rfl) (by kernel_rfl) ?_ ?_
    · repeat refine allS ?_ ?_
      · exact all0
      · exact stepMove rfl rfl rfl rfl (src_old (by kernel_rfl) rfl)
      · exact stepMove rfl rfl rfl rfl (src_old (by kernel_rfl) rfl)
      · exact stepMove rfl rfl rfl rfl (src_old (by kernel_rfl) rfl)
      · exact stepCall (ks := [14]) [.string o] rfl rfl rfl rfl cfPubI rfl (src1 (src_new 2 (by decide) rfl rfl (by kernel_rfl))) (fun w hk => pub_ci o p w Ep.out HO.out (ht.kept hk (nh1 rfl HNE.out)))
      · exact stepBuild [(12, .string r), (13, .string o), (15, .string p)] #[(0, .string r), (1, .string o), (2, .string p)] rfl rfl rfl rfl (srcN3 (src_new 0 (by decide) rfl rfl (by kernel_rfl)) (src_new 1 (by decide) rfl rfl (by kernel_rfl)) (src_new 3 (by decide) rfl rfl (by kernel_rfl))) (fun a ha => by simp [show a.eval (.tmp 12) = .string r from ha (12, .string r) (by simp), show a.eval (.tmp 13) = .string o from ha (13, .string o) (by simp), show a.eval (.tmp 15) = .string p from ha (15, .string p) (by simp)]) (fun w => bSes r o p w)
      · exact stepOld (d := 4) (k := 16) rfl rfl rfl rfl rfl (src_old (by kernel_rfl) rfl) f0 (rfl) (src_new 4 (by decide) rfl rfl (by kernel_rfl)) (sesSz r o p _ _ _ _ _ _) (sesOne r o p _ _ _ _ _ _) (one_old rfl)
      · exact stepConst rfl rfl rfl rfl
    intro v x1 hok hk
    replace hk := hk.all
    refine wpList_nil ?_
    have v0 := okVal hok (j := 0) rfl rfl
    have v1 := okVal hok (j := 1) rfl rfl
    have v2 := okVal hok (j := 2) rfl rfl
    have v3 := okVal hok (j := 3) rfl rfl
    have v4 := okVal hok (j := 4) rfl rfl
    have v6 := okVal hok (j := 6) rfl rfl
    have o5 := okOld hok (i := 5) rfl rfl
    clear hok
    simp only [putL, Nat.zero_add, Nat.reduceAdd, v0, v1, v2, v3, v4, v6, Act.put, List.setIfInBounds_toArray, List.set_cons_zero, List.set_cons_succ]
    clear v0 v1 v2 v3 v4 v6
    clear f0
    replace ht := ht.kept hk (nh1 rfl HNE.out)
    have f_g4 : Blk g4 (sesA r o p (ByteArray.mk #[]) (ByteArray.mk #[]) 0 0 (ByteArray.mk #[]) 0) 24 x1 := o5
    clear o5
    replace hM := Nat.le_trans hM hk.size
    replace hB := hB.trans (hk.base hB.size (fun k hk => nh1 rfl (Nat.ne_of_lt (Nat.lt_of_lt_of_le hk HG.out))))
    clear hk
    go_wp2_with fail
    refine bodyPost_ret (v := .tuple #[.agg (sesA r o p (ByteArray.mk #[]) (ByteArray.mk #[]) 0 0 (ByteArray.mk #[]) 0), .bool true]) ?_ rfl ⟨by rw [HV.out], hB⟩
    exact results_row_tmp Tryd.results13 _ _ g4 24 _ (0, 0) _ rfl f_g4.h Tryd.underlying24 rfl (sesSz _ _ _ _ _ _ _ _ _)
  · have HV : Hid (stB r o = sesZ) := if_neg h
    rw [decide_eq_false h] at HA ⊢
    clear h
    generalize hst : stB r o = A at *
    have HST := Lib.hid hst
    clear hst
    go_enter Tryd.func13, Tryd.ntmps13
    go_wp2_with fail
    refine HK.out.mono ?_
    rintro e w' ⟨rfl, rfl⟩
    rw [HA.out]
    go_wp2
    refine bodyPost_ret (v := .tuple #[.agg sesZ, .bool false]) ?_ rfl ⟨by rw [HV.out], hb0⟩
    exact results_row_tmp Tryd.results13 _ _ w.heap.size 24 _ (0, 0) _ rfl f0.h Tryd.underlying24 rfl (sesSz _ _ _ _ _ _ _ _ _)

set_option maxRecDepth 100000 in
set_option maxHeartbeats 4000000 in
theorem startB_s (r o : ByteArray) (w : World) (hr : r.size ≤ 1048576) (ho : o.size ≤ 1048576) :
    Calls Tryd.prog 12 #[.string r, .string o] w fun e w' => e = .returned (.tuple #[.agg (stB r o), .bool (decide (r.size = 32 ∧ o.size = 32))]) ∧ Below w.heap.size w w' := by
  have hB : Below w.heap.size w (w.alloc (.cells sesZ 24)) := (Below.refl _ _).alloc (Nat.le_refl _) _
  have f0 : Blk w.heap.size sesZ 24 (w.alloc (.cells sesZ 24)) := heap_alloc_new w _
  have HO := Lib.hid ho
  by_cases h1 : r.size = 32
  case neg =>
    have HD : Hid (((r.size : Int) == 32) = false) := by show _ = _; simp; omega
    have HV : Hid (stB r o = sesZ) := if_neg (fun c => h1 c.1)
    rw [decide_eq_false (fun c => h1 c.1)]
    clear h1 hr ho
    generalize hst : stB r o = A at *
    have HST := Lib.hid hst
    clear hst
    go_enter Tryd.func12, Tryd.ntmps12
    go_wp2_with fail
    refine (l1Key_bool r _ false HD.out).mono ?_
    rintro e w' ⟨rfl, rfl⟩
    go_wp2
    refine bodyPost_ret (v := .tuple #[.agg sesZ, .bool false]) ?_ rfl ⟨by rw [HV.out], hB⟩
    exact results_row_tmp Tryd.results12 _ _ w.heap.size 24 _ (0, 0) _ rfl f0.h Tryd.underlying24 rfl (sesSz _ _ _ _ _ _ _ _ _)
  have HD : Hid (((r.size : Int) == 32) = true) := by show _ = _; simp; omega
  by_cases h2 : o.size = 32
  case neg =>
    have HE : Hid (((o.size : Int) == 32) = false) := by show _ = _; simp; omega
    have HV : Hid (stB r o = sesZ) := if_neg (fun c => h2 c.2)
    rw [decide_eq_false (fun c => h2 c.2)]
    clear h1 h2 hr ho
    generalize hst : stB r o = A at *
    have HST := Lib.hid hst
    clear hst
    go_enter Tryd.func12, Tryd.ntmps12
    go_wp2_with fail
    refine (l1Key_bool r _ true HD.out).mono ?_
    rintro e w' ⟨rfl, rfl⟩
    go_wp2_with fail
    refine (l1Key_bool o _ false HE.out).mono ?_
    rintro e w' ⟨rfl, rfl⟩
    go_wp2
    refine bodyPost_ret (v := .tuple #[.agg sesZ, .bool false]) ?_ rfl ⟨by rw [HV.out], hB⟩
    exact results_row_tmp Tryd.results12 _ _ w.heap.size 24 _ (0, 0) _ rfl f0.h Tryd.underlying24 rfl (sesSz _ _ _ _ _ _ _ _ _)
  · have HE : Hid (((o.size : Int) == 32) = true) := by show _ = _; simp; omega
    obtain ⟨p, ep⟩ : ∃ p, p = dhV o nineS := ⟨_, rfl⟩
    have HV : Hid (stB r o = sesA r o p (ByteArray.mk #[]) (ByteArray.mk #[]) 0 0 (ByteArray.mk #[]) 0) := by show _ = _; rw [ep]; exact if_pos ⟨h1, h2⟩
    have Ep := Lib.hid ep
    rw [decide_eq_true ⟨h1, h2⟩]
    clear h1 h2 ep hr ho
    generalize hst : stB r o = A at *
    have HST := Lib.hid hst
    clear hst
    have hM : 0 ≤ (w.alloc (.cells sesZ 24)).heap.size := Nat.zero_le _
    obtain ⟨g4, hg4⟩ : ∃ g, g = w.heap.size := ⟨_, rfl⟩
    have HG : Hid (w.heap.size ≤ g4) := by show _ ≤ _; omega
    rw [← hg4] at f0
    go_enter Tryd.func12, Tryd.ntmps12
    go_wp2_with fail
    refine (l1Key_bool r _ true HD.out).mono ?_
    rintro e w' ⟨rfl, rfl⟩
    go_wp2_with fail
    refine (l1Key_bool o _ true HE.out).mono ?_
    rintro e w' ⟨rfl, rfl⟩
    go_upto_region 3 with (fail)
    change Code.wp _ _ _ _ (w.alloc (.cells sesZ 24))
    generalize (w.alloc (.cells sesZ 24)) = x0 at *
    rw [← hg4]
    have HG4 := Lib.hid hg4
    clear hg4
    go_upto_region 3 with (fail)
    refine region_seq 7 (kdAt [.val (.string r), .val (.string o), .val (.string o), .val (.string p), .val (.agg (sesA r o p (ByteArray.mk #[]) (ByteArray.mk #[]) 0 0 (ByteArray.mk #[]) 0)), .old g4 24 (sesA r o p (ByteArray.mk #[]) (ByteArray.mk #[]) 0 0 (ByteArray.mk #[]) 0), .val (.bool true)]) [some 15, some 16, some 17, some 18, some 19, none, some 5] (by decide) (by kernel_rfl) (by kernel_rfl) (by kernel_rfl) (by kernel_rfl) ?_ ?_
    · repeat refine allS ?_ ?_
      · exact all0
      · exact stepMove rfl rfl rfl rfl (src_old (by kernel_rfl) rfl)
      · exact stepMove rfl rfl rfl rfl (src_old (by kernel_rfl) rfl)
      · exact stepMove rfl rfl rfl rfl (src_old (by kernel_rfl) rfl)
      · exact stepCall (ks := [17]) [.string o] rfl rfl rfl rfl cfPubS rfl (src1 (src_new 2 (by decide) rfl rfl (by kernel_rfl))) (fun w hk => pub_cs o p w Ep.out HO.out)
      · exact stepBuild [(15, .string r), (16, .string o), (18, .string p)] #[(0, .string r), (1, .string o), (2, .string p)] rfl rfl rfl rfl (srcN3 (src_new 0 (by decide) rfl rfl (by kernel_rfl)) (src_new 1 (by decide) rfl rfl (by kernel_rfl)) (src_new 3 (by decide) rfl rfl (by kernel_rfl))) (fun a ha => by simp [show a.eval (.tmp 15) = .string r from ha (15, .string r) (by simp), show a.eval (.tmp 16) = .string o from ha (16, .string o) (by simp), show a.eval (.tmp 18) = .string p from ha (18, .string p) (by simp)]) (fun w => bSes r o p w)
      · exact stepOld (d := 4) (k := 19) rfl rfl rfl rfl rfl (src_old (by kernel_rfl) rfl) f0 (rfl) (src_new 4 (by decide) rfl rfl (by kernel_rfl)) (sesSz r o p _ _ _ _ _ _) (sesOne r o p _ _ _ _ _ _) (one_old rfl)
      · exact stepConst rfl rfl rfl rfl
    intro v x1 hok hk
    replace hk := hk.all
    refine wpList_nil ?_
    have v0 := okVal hok (j := 0) rfl rfl
    have v1 := okVal hok (j := 1) rfl rfl
    have v2 := okVal hok (j := 2) rfl rfl
    have v3 := okVal hok (j := 3) rfl rfl
    have v4 := okVal hok (j := 4) rfl rfl
    have v6 := okVal hok (j := 6) rfl rfl
    have o5 := okOld hok (i := 5) rfl rfl
    clear hok
    simp only [putL, Nat.zero_add, Nat.reduceAdd, v0, v1, v2, v3, v4, v6, Act.put, List.setIfInBounds_toArray, List.set_cons_zero, List.set_cons_succ]
    clear v0 v1 v2 v3 v4 v6
    clear f0
    have f_g4 : Blk g4 (sesA r o p (ByteArray.mk #[]) (ByteArray.mk #[]) 0 0 (ByteArray.mk #[]) 0) 24 x1 := o5
    clear o5
    replace hM := Nat.le_trans hM hk.size
    replace hB := hB.trans (hk.base hB.size (fun k hk => nh1 rfl (Nat.ne_of_lt (Nat.lt_of_lt_of_le hk HG.out))))
    clear hk
    go_wp2_with fail
    refine bodyPost_ret (v := .tuple #[.agg (sesA r o p (ByteArray.mk #[]) (ByteArray.mk #[]) 0 0 (ByteArray.mk #[]) 0), .bool true]) ?_ rfl ⟨by rw [HV.out], hB⟩
    exact results_row_tmp Tryd.results12 _ _ g4 24 _ (0, 0) _ rfl f_g4.h Tryd.underlying24 rfl (sesSz _ _ _ _ _ _ _ _ _)

end Go.Proofs.YtdhfddeghnoecaaDoor

/- Proved: for every code FnFrames returns true: what is read as frames are texts whose frames these are, up to the place that is told; of frames that are cut the first few come back (codes of more than 2^20 bytes are passed over by the law itself). No further condition. -/
import Derived.Test.YtnbglkjlohmpbaaRows
import Derived.WalkKit
import Derived.ProofKit
import Derived.OpenShut
import Derived.ShutString
import Derived.ChangeOld
import Derived.Below
import Derived.Test.YtnbglkjlohmpbaaFrF
import Derived.Test.YtnbglkjlohmpbaaFrG
import Derived.Test.YtnbglkjlohmpbaaFrH
namespace Go.Proofs.Ytnbglkjlohmpbaa.fnFrames
open Go.ChangeShapes Go.WideShapes Go.ChangeAt Go.RowKit Go.My Go.Lib
open Go.ChangeMaps (open_string shut_string)
set_option linter.unusedVariables false

theorem own : ownKnob Try.prog.godebug = none := by kernel_rfl
theorem laidOut : laidOutB Try.prog = true := by kernel_rfl

/-- 'sameTexts' of two lists that are one. -/
theorem sameTexts_same (v1 v2 : Value) (l : List ByteArray) (w : World) (h1 : RowL 0 9 1 strC v1 l w) (h2 : RowL 0 9 1 strC v2 l w) (hl : l.length ≤ 4611686018427387904) :
    Calls Try.prog 32 #[v1, v2] w fun e w' => e = .returned (.bool true) ∧ Below w.heap.size w w' := by
  obtain ⟨p1, cap1, rfl, hm1, _, hp1⟩ := h1.open
  obtain ⟨p2, cap2, rfl, hm2, _, hp2⟩ := h2.open
  have H1 := Lib.hid h1
  have H2 := Lib.hid h2
  have hlI : (l.length : Int) ≤ 4611686018427387904 := by omega
  clear h1 h2 hm1 hm2
  go_enter Try.func32, Try.ntmps32
  go_wp2
  go_loopw [5] (fun i wr => ∃ j : Nat, j ≤ l.length ∧ i = .int .i64 j ∧ Below w.heap.size w wr) (fun i _ => l.length - (intOf i).toNat)
  case atStart => exact ⟨0, Nat.zero_le _, rfl, Below.refl _ _⟩
  case round =>
    obtain ⟨j, hj, rfl, hb⟩ := hrel
    by_cases hlt : j < l.length
    · have hne : l ≠ [] := by intro c; rw [c] at hlt; simp at hlt
      obtain ⟨g1, rfl, _, hg1⟩ := hp1.resolve_left (fun c => hne c.1)
      obtain ⟨g2, rfl, _, hg2⟩ := hp2.resolve_left (fun c => hne c.1)
      have j0 : (0 : Int) ≤ (j : Int) := by omega
      have j1 : (j : Int) < (l.length : Int) := by omega
      have c1 := (H1.out.below hb).str j hlt
      have c2 := (H2.out.below hb).str j hlt
      generalize l[j] = s at *
      go_wp2
      go_region
      all_goals
        go_wp2
        go_roundw
        case rel => exact ⟨j + 1, by omega, by go_num, hb.drew⟩
        case measure => simp [intOf]; omega
    · obtain rfl : j = l.length := by omega
      go_wp2
      go_ret
      exact ⟨rfl, hb⟩


theorem widerF {B C : Nat} {w : World} {a : Option Addr} {len : Nat} (h : RdCode B w a len) (hc : B ≤ C) : RdCode C w a len := by
  obtain ⟨h1, h2⟩ := h
  refine ⟨h1, ?_⟩
  rcases h2 with h2 | ⟨b, off, ha, hb, hx⟩
  · exact .inl h2
  · exact .inr ⟨b, off, ha, by omega, hx⟩
theorem row_none {α : Type} {B e c n cap : Nat} {f : α → List Value} {l : List α} {w : World} (h : RowL B e c f (.slice none n cap) l w) : cap = 0 := by
  rcases h.2 with ⟨hv, _⟩ | ⟨_, _, _, hv, _⟩
  · simp at hv; exact hv.2
  · simp at hv
theorem catF_app (a b : List ByteArray) : catF (a ++ b) = catF a ++ catF b := by
  induction a with
  | nil => show catF b = ByteArray.mk #[] ++ catF b; rw [ba_nil]
  | cons x a ih => show frmB x ++ catF (a ++ b) = frmB x ++ catF a ++ catF b; rw [ih, ByteArray.append_assoc]
theorem catF_take (l : List ByteArray) (i : Nat) : (catF (l.take i)).size ≤ (catF l).size := by
  have : catF l = catF (l.take i) ++ catF (l.drop i) := by rw [← catF_app, List.take_append_drop]
  rw [this, ByteArray.size_append]
  omega
theorem catF_next (l : List ByteArray) (i : Nat) (h : i < l.length) : catF (l.take (i + 1)) = catF (l.take i) ++ frmB l[i] := by
  rw [List.take_succ_eq_append_getElem h, catF_snoc]
/-- All that the walk wants of the list. -/
def FactsF (s : ByteArray) (L : List ByteArray) : Prop :=
  smallF L ∧ s.extract 0 (catF L).size = catF L ∧ (catF L).size ≤ s.size ∧ (∀ t : ByteArray, t.size ≤ 8 → takeR (catF L ++ frmB t) = L ++ [t] ∧ takeN (catF L ++ frmB t) = (catF L).size + (frmB t).size) ∧ ∀ K, K ≤ (catF L).size → ∃ j, j ≤ L.length ∧ takeR ((catF L).extract 0 K) = L.take j
theorem take_facts (s t : ByteArray) (K : Nat) (hs : s.size ≤ 50) (ht : t.size ≤ 8) (hK : K ≤ (catF (takeR s)).size) :
    smallF (takeR s) ∧ s.extract 0 (takeN s) = catF (takeR s) ∧ takeN s = (catF (takeR s)).size ∧ takeR (catF (takeR s) ++ frmB t) = takeR s ++ [t] ∧ takeN (catF (takeR s) ++ frmB t) = (catF (takeR s)).size + (frmB t).size ∧
    ∃ j, j ≤ (takeR s).length ∧ takeR ((catF (takeR s)).extract 0 K) = (takeR s).take j := by
  have h1 : smallF (takeR s) := takeF_small _ _
  have h2 := takeF_is s.size s
  have h2' : catF (takeR s) ++ (takeF s.size s).2 = s := h2
  have h3 : takeN s = (catF (takeR s)).size := by
    unfold takeN
    have : (catF (takeR s)).size + (takeF s.size s).2.size = s.size := by rw [← ByteArray.size_append, h2']
    omega
  have h4 : s.extract 0 (takeN s) = catF (takeR s) := by
    rw [h3]
    have := ext_mid (ByteArray.mk #[]) (catF (takeR s)) (takeF s.size s).2 0 (catF (takeR s)).size rfl (by show _ = 0 + _; omega)
    rw [ba_nil, h2'] at this
    exact this
  have hst : smallF (takeR s ++ [t]) := by
    intro x hx
    rcases List.mem_append.1 hx with hx | hx
    · exact h1 x hx
    · rw [List.mem_singleton.1 hx]; omega
  have h5 : takeF (catF (takeR s) ++ frmB t).size (catF (takeR s) ++ frmB t) = (takeR s ++ [t], ByteArray.mk #[]) := by
    have := takeF_cat (takeR s ++ [t]) (ByteArray.mk #[]) (catF (takeR s) ++ frmB t).size hst (by rw [nil_ba, catF_snoc]; exact Nat.le_refl _)
    rw [nil_ba, catF_snoc] at this
    rw [this, takeF_no (fun c => by have := c.1; exact absurd this (by decide)), List.append_nil]
  refine ⟨h1, h4, h3, congrArg (·.1) h5, ?_, ?_⟩
  · unfold takeN
    rw [h5]
    show _ - 0 = _
    rw [Nat.sub_zero, ByteArray.size_append]
  · obtain ⟨j, hj, e⟩ := takeF_cut (takeR s) K ((catF (takeR s)).extract 0 K).size h1 (by rw [ByteArray.size_extract]; omega)
    exact ⟨j, hj, e⟩

theorem facts_all (s : ByteArray) (hs : s.size ≤ 50) : takeN s = (catF (takeR s)).size ∧ FactsF s (takeR s) := by
  have h0 := take_facts s (ByteArray.mk #[]) 0 hs (by decide) (Nat.zero_le _)
  refine ⟨h0.2.2.1, h0.1, by rw [← h0.2.2.1]; exact h0.2.1, ?_, fun t ht => ?_, fun K hK => ?_⟩
  · rw [← h0.2.2.1]; unfold takeN; omega
  · have h1 := take_facts s t 0 hs ht (Nat.zero_le _)
    exact ⟨h1.2.2.2.1, h1.2.2.2.2.1⟩
  · exact (take_facts s (ByteArray.mk #[]) K hs (by decide) hK).2.2.2.2.2

set_option maxRecDepth 100000 in
set_option maxHeartbeats 800000 in
theorem walk (w : World) (a0 : Option Addr) (len0 cap0 : Nat) (z0 : List Int) (w0 : IsRow .u8 w a0 len0 cap0 z0) :
    Calls Try.prog 6 #[.slice a0 len0 cap0] w fun e w' => e = .returned (.bool true) ∧ Below w.heap.size w w' := by
  have hmax : len0 ≤ 9223372036854775807 := by
    rcases w0 with ⟨_, rfl, _⟩ | ⟨x, _, h1, h2, _⟩
    · omega
    · unfold maxLen at h2; omega
  by_cases hl : len0 ≤ 1048576
  case neg =>
    have hd : decide (1048576 < (len0 : Int)) = true := by simp; omega
    go_enter Try.func6, Try.ntmps6
    go_wp2_with fail
    refine (big_any _ _ _ _ hmax).mono ?_
    rintro e w' ⟨rfl, rfl⟩
    rw [hd]
    go_wp2
    go_ret
    exact ⟨rfl, Below.refl _ _⟩
  have hd : decide (1048576 < (len0 : Int)) = false := by simp; omega
  have hc := code_of_row w0 hl
  have hlI : (len0 : Int) ≤ 1048576 := by omega
  clear w0 hl
  go_enter Try.func6, Try.ntmps6
  go_wp2_with fail
  refine (big_any _ _ _ _ hmax).mono ?_
  rintro e w' ⟨rfl, rfl⟩
  rw [hd]
  clear hd hmax
  go_wp2_with fail
  refine (draw_takeFrames w.heap.size a0 len0 cap0 _ (Nat.le_refl _) hc).mono ?_
  rintro e w1 ⟨s, rfl, hs, hb1'⟩
  have hb1 := hb1'
  clear hb1'
  have HC := Lib.hid (fun w1 (h : Below w.heap.size w w1) => hc.below h)
  clear hc
  have HS := Lib.hid hs
  have hsI : (s.size : Int) ≤ 50 := by omega
  clear hs
  have HLn : Hid ((takeR s).length ≤ 50) := by
    have h1 := takeF_len s.size s
    have h2 := HS.out
    show (takeF s.size s).1.length ≤ _
    omega
  have HFA := facts_all s HS.out
  have hI := fun w => take_i s w (by have := HS.out; omega)
  have hS := fun w => take_s s w (by have := HS.out; omega)
  rw [HFA.1] at hI hS
  have I := Lib.hid hI
  have S := Lib.hid hS
  have F := Lib.hid HFA.2
  clear hI hS HFA
  generalize takeR s = L at *
  have ha50 : (catF L).size ≤ 50 := by have := F.out.2.2.1; have := HS.out; omega
  have HA := Lib.hid ha50
  have haI : ((catF L).size : Int) ≤ (s.size : Int) := by have := F.out.2.2.1; omega
  have haN : ¬ s.size < (catF L).size := by omega
  have haD : decide (s.size < (catF L).size) = false := decide_eq_false haN
  have hLI : (L.length : Int) ≤ 50 := by have := HLn.out; omega
  clear ha50
  go_wp2_with fail
  refine (I.out _).mono ?_
  rintro e w2 ⟨v1, rfl, hr1, hb2⟩
  have hB2 := hb1.trans (hb2.mono hb1.size)
  go_wp2_with fail
  refine (S.out _).mono ?_
  rintro e w3 ⟨v2, rfl, hr2, hb3⟩
  have hr1' := hr1.below hb3
  have hB3 := hB2.trans (hb3.mono hB2.size)
  go_wp2_with fail
  refine (sameTexts_same v1 v2 _ _ (hr1'.mono (Nat.zero_le _)) (hr2.mono (Nat.zero_le _)) (by have := HLn.out; omega)).mono ?_
  rintro e w4 ⟨rfl, hb4⟩
  have hR4 := hr1'.below hb4
  have hB4 := hB3.trans (hb4.mono hB3.size)
  clear hr1 hr1' hr2 hb1 hb2 hb3 hb4 hB2 hB3 I S
  obtain ⟨p1, cap1, rfl, hm1, _, hp1⟩ := hR4.open
  have HR4 := Lib.hid hR4
  clear hR4 hm1
  go_wp2
  go_loopw [8, 9] (fun x i wr => ∃ j : Nat, j ≤ L.length ∧ i = .int .i64 j ∧ x = .string (catF (L.take j)) ∧ RowL w1.heap.size 9 1 strC (.slice p1 L.length cap1) L wr ∧ Below w.heap.size w wr) (fun _ i _ => L.length - (intOf i).toNat)
  case atStart => exact ⟨0, Nat.zero_le _, rfl, rfl, HR4.out, hB4⟩
  case round =>
    clear hB4
    rename_i wr
    obtain ⟨j, hj, rfl, rfl, hR, hB⟩ := hrel
    by_cases hlt : j < L.length
    · have hne : L ≠ [] := by intro c; rw [c] at hlt; simp at hlt
      obtain ⟨g, rfl, _, hg⟩ := hp1.resolve_left (fun c => hne c.1)
      have j0 : (0 : Int) ≤ (j : Int) := by omega
      have j1 : (j : Int) < (L.length : Int) := by omega
      have c1 := hR.str j hlt
      have HX := Lib.hid (catF_next L j hlt)
      have hz : (L[j]).size ≤ 100000 := F.out.1 _ (List.getElem_mem hlt)
      have I2 := Lib.hid (fun w => frame_i L[j] w (by omega))
      have hcs : ¬ 9223372036854775807 < (catF (L.take j)).size + (frmB L[j]).size := by
        have := catF_take L (j + 1)
        rw [catF_next L j hlt, ByteArray.size_append] at this
        have := HA.out
        omega
      have HR := Lib.hid hR
      clear hz hR
      generalize L[j] = t at *
      generalize frmB t = f at *
      generalize catF (L.take j) = C at *
      go_wp2_with fail
      refine (I2.out _).mono ?_
      rintro e w5 ⟨rfl, hb5⟩
      have hR5 := Lib.hid (HR.out.below hb5)
      have hB5 := hB.trans (hb5.mono hB.size)
      clear hB hb5 hne hg hp1
      go_wp2
      go_roundw
      case rel => exact ⟨j + 1, by omega, by go_num, by rw [HX.out], hR5.out, hB5⟩
      case measure => simp [intOf]; omega
    · obtain rfl : j = L.length := by omega
      rw [List.take_length]
      clear hlt hj
      have HR := Lib.hid hR
      clear hR
      go_wp2_with fail
      refine (draw_frameOf wr.heap.size a0 len0 cap0 _ (Nat.le_refl _) (widerF (HC.out _ hB) hB.size)).mono ?_
      rintro e w5 ⟨t, rfl, ht, hb5'⟩
      have hb5 := hb5'
      clear hb5'
      have hR5 := Lib.hid (HR.out.below hb5)
      have hB5 := hB.trans (hb5.mono hB.size)
      clear HR hB hb5
      have F3 := Lib.hid (F.out.2.2.2.1 t ht)
      have hft : (frmB t).size = 8 + t.size := frmB_size t (by omega)
      have I3 := Lib.hid (fun w => frame_i t w (by omega))
      have htI : (t.size : Int) ≤ 8 := by omega
      obtain ⟨K, hKe, hK⟩ : ∃ K : Nat, (len0 : Int).tmod (((catF L).size : Int) + 1) = (K : Int) ∧ K ≤ (catF L).size := ⟨len0 % ((catF L).size + 1), by rw [Int.tmod_eq_emod_of_nonneg (by omega)]; rfl, by have := Nat.mod_lt len0 (show 0 < (catF L).size + 1 by omega); omega⟩
      obtain ⟨q, hq, hqq⟩ := F.out.2.2.2.2 K hK
      have HK := Lib.hid (And.intro hq hqq)
      have hsz : (catF L ++ frmB t).size = (catF L).size + 8 + t.size := by rw [ByteArray.size_append, hft]; omega
      have I4 := Lib.hid (fun w => take_i (catF L ++ frmB t) w (by rw [hsz]; have := HA.out; omega))
      have I5 := Lib.hid (fun w => take_i ((catF L).extract 0 K) w (by rw [ByteArray.size_extract]; have := HA.out; omega))
      have HFS := Lib.hid F.out.2.1
      have haI2 : ((catF L).size : Int) ≤ 50 := by have := HA.out; omega
      generalize catF L = C at *
      generalize frmB t = f at *
      have hcs : ¬ 9223372036854775807 < C.size + f.size := by have := HA.out; omega
      clear ht hqq hsz hft
      go_wp2_with fail
      refine (I3.out _).mono ?_
      rintro e w6 ⟨rfl, hb6⟩
      have hR6 := Lib.hid (hR5.out.below hb6)
      have hB6 := hB5.trans (hb6.mono hB5.size)
      clear hR5 hB5 hb6
      go_wp2_with fail
      refine (I4.out _).mono ?_
      rintro e w7 ⟨v7, rfl, hr7, hb7⟩
      rw [F3.out.1] at hr7
      rw [F3.out.2]
      have hR7 := Lib.hid (hR6.out.below hb7)
      have hB7 := hB6.trans (hb7.mono hB6.size)
      obtain ⟨p7, cap7, rfl, hm7, _, hp7⟩ := hr7.open
      have Hr7 := Lib.hid hr7
      clear hR6 hB6 hb7 hr7 hm7
      go_wp2_with fail
      refine (I5.out _).mono ?_
      rintro e w8 ⟨v8, rfl, hr8, hb8⟩
      rw [HK.out.2] at hr8
      have hR8 := Lib.hid (hR7.out.below hb8)
      have hQ8 := Lib.hid (Hr7.out.below hb8)
      have hB8 := hB7.trans (hb8.mono hB7.size)
      have hql : (L.take q).length = q := by rw [List.length_take]; have := HK.out.1; omega
      obtain ⟨p8, cap8, rfl, hm8, _, hp8⟩ := hr8.open
      rw [hql] at hr8 ⊢
      have Hr8 := Lib.hid hr8
      have hne7 : L ++ [t] ≠ [] := by simp
      obtain ⟨g7, rfl, _, hg7⟩ := hp7.resolve_left (fun c => hne7 c.1)
      have c7 := hQ8.out.str L.length (by simp)
      rw [show (L ++ [t])[L.length]'(by simp) = t by simp] at c7
      have qI : (q : Int) ≤ (L.length : Int) := by omega
      have q0 : (0 : Int) ≤ (q : Int) := by omega
      have hl1 : (C.toList == (s.extract 0 C.size).toList) = true := by rw [HFS.out]; exact beq_self_eq_true _
      have HT8 := Lib.hid (RowL.take strC_len hR8.out q hq)
      have HE8 := Lib.hid hr8
      clear hR7 hB7 hb8 hr8 hm8 hne7 hp7 hg7 hp8 hql hq
      rcases hp1 with ⟨hL, rfl⟩ | ⟨g1, rfl, _, hg1⟩
      · obtain rfl := row_none HR4.out
        subst hL
        obtain rfl : q = 0 := by simp at qI; omega
        have c7' : w8.cell? ⟨g7, 0, none⟩ = some (.string t) := c7
        clear c7
        go_wp2_with fail
        refine (I3.out _).mono ?_
        rintro e w9 ⟨rfl, hb9⟩
        have hX9 := Lib.hid (HE8.out.below hb9)
        have hY9 := Lib.hid (HT8.out.below hb9)
        have hB9 := hB8.trans (hb9.mono hB8.size)
        clear hb9 hB8
        have ST := Lib.hid (sameTexts_same _ _ _ _ (hX9.out.mono (Nat.zero_le _)) (hY9.out.mono (Nat.zero_le _)) (by rw [List.length_take]; have := HLn.out; omega))
        go_wp2_with fail
        refine ST.out.mono ?_
        rintro e w10 ⟨rfl, hb10⟩
        have hB10 := hB9.trans (hb10.mono hB9.size)
        go_wp2
        go_ret
        exact ⟨rfl, hB10⟩
      · go_wp2_with fail
        refine (I3.out _).mono ?_
        rintro e w9 ⟨rfl, hb9⟩
        have hX9 := Lib.hid (HE8.out.below hb9)
        have hY9 := Lib.hid (HT8.out.below hb9)
        have hB9 := hB8.trans (hb9.mono hB8.size)
        clear hb9 hB8
        have ST := Lib.hid (sameTexts_same _ _ _ _ (hX9.out.mono (Nat.zero_le _)) (hY9.out.mono (Nat.zero_le _)) (by rw [List.length_take]; have := HLn.out; omega))
        go_wp2_with fail
        refine ST.out.mono ?_
        rintro e w10 ⟨rfl, hb10⟩
        have hB10 := hB9.trans (hb10.mono hB9.size)
        go_wp2
        go_ret
        exact ⟨rfl, hB10⟩

set_option maxRecDepth 100000 in
theorem lifted (os : Os) (started : os.Started) (H : Type) (enc : TypeId × Value → H) :
    ReturnsInHanded {} Try.checked os 6 .any (Rows.fnFramesSpec.pre6 enc Try.prog Try.f6 Rows.fnFramesRow.domain false) (Rows.fnFramesSpec.post enc Try.prog Try.f6 false true false false) := by
  refine returnsInHanded_of_change (C := Try.checked) own started (by kernel_rfl) Try.func6
    (ChangeSpec.witness6 (enc := enc) (C := Try.checked) false ⟨#[], #[.slice none 0 0], []⟩ 8 (by kernel_rfl) (by kernel_rfl) (by kernel_rfl) (by kernel_rfl)) ?_
  intro W base args ds gs before hval0 hW hcnd _
  have hval : ∀ (j : Nat) t v, Try.f6.params[j]? = some t → args[j]? = some v → Value.okWide Try.prog W .any base t v := hval0
  have hW' := hW
  obtain ⟨p, q, hA0, hV, rfl, hfz, hnd⟩ := hW
  have hA : DataW.TrodAll enc Try.prog W 0 (fun _ => true) true Try.f6.params.toList args.toList ds p := hA0
  rw [Try.params6] at hA hval
  obtain ⟨v0, vs0, d0, ds0, p0, q0, hargs, rfl, rfl, h0, r0⟩ := trodAll_cons hA
  obtain ⟨rfl, rfl, rfl⟩ := trodAll_nil r0
  obtain rfl : args = #[v0] := by cases args; simp_all
  obtain ⟨rfl, rfl⟩ := trodVars_none hV
  obtain ⟨a0, len0, cap0, rfl⟩ := okWide_slice Try.underlying22 (hval 0 22 v0 rfl rfl)
  have k0 := h0
  have lt0 : ∀ x ∈ p0, x.block < W.heap.size := by obtain ⟨m, hm⟩ := k0; exact DataW.trod_lt m _ _ _ hm
  obtain ⟨z0, w0⟩ : ∃ zs, My.IsRow .u8 W a0 len0 cap0 zs := by
    obtain ⟨fuel, hf⟩ := h0
    rcases open_ints Try.underlying22 Try.underlying5 (by kernel_rfl) hf with ⟨hcs, _⟩ | ⟨x, l, c, zs, hcs, _, hl, hm, hz, _, hcell, hwz⟩
    · simp [Value.cells] at hcs
      obtain ⟨rfl, rfl, rfl⟩ := hcs
      exact ⟨[], .inl ⟨rfl, rfl, rfl, rfl⟩⟩
    · simp [Value.cells] at hcs
      obtain ⟨rfl, rfl, rfl⟩ := hcs
      exact ⟨zs, .inr ⟨_, rfl, hl, hm, by simpa using hz, hcell, hwz⟩⟩
  clear hA0 hval0
  refine (walk W a0 len0 cap0 z0 w0).mono fun e W' ⟨he, bel⟩ => ?_
  subst he
  exact ⟨_, rfl, _, _, _, [], _, [], hW', trodAll_mk1 (shut_bool Try.underlying4 _), (trodAll_cons_mk (Below.trod laidOut (by kernel_rfl) (of_decide_eq_true (by kernel_rfl)) k0 bel lt0) trodAll_mk0), rfl, bel.frame _, fun h => by cases h⟩

theorem proved : Rows.FnFramesSaid :=
  OpenClaim.holds_of_wide 6 Try.f6 rfl rfl rfl rfl rfl rfl rfl ⟨rfl, rfl, rfl, rfl, rfl⟩ rfl rfl rfl rfl rfl (by kernel_rfl) Try.func6 (by kernel_rfl)
    (of_decide_eq_true (by kernel_rfl)) (by unfold Func.isWrapper; first | (rw [if_pos (by decide +kernel)]; kernel_rfl) | (rw [if_neg (by decide +kernel)]; exact ⟨rfl, rfl⟩))
    (fun os started H enc _ => lifted os started H enc)
end Go.Proofs.Ytnbglkjlohmpbaa.fnFrames

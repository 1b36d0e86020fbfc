/- Proved: for every code FnLetterParts returns true: of whatever envelope is drawn from it the program's text is the specification's; of another text sealed, as long, it is the same, and of one that is longer it is another one (codes of more than 2^20 bytes are passed over by the law itself). The library's tables that the code reads are tied to the program's text. No further condition. -/
import Derived.Test.YtmekpinhhmknnaaDoorRows
import Derived.Test.YtmekpinhhmknnaaDoorCards
import Derived.Test.YtmekpinhhmknnaaDoorTie
import Derived.WalkKit
import Derived.ProofKit
import Derived.OpenShut
import Derived.ShutString
import Derived.ChangeOld
import Derived.ChangeVars
import Derived.OpenVars
import Derived.Below
import Derived.Deep.DeepHandedRow
import Derived.Lib.LaidTab
import Derived.Test.YtmekpinhhmknnaaDoorCardD
import Derived.Test.YtmekpinhhmknnaaDoorDrawB
import Derived.Test.YtmekpinhhmknnaaDoorPrlS
import Derived.Test.YtmekpinhhmknnaaDoorPrl2
import Derived.Test.YtmekpinhhmknnaaDoorPrl3
import Derived.Test.YtmekpinhhmknnaaDoorTrn
namespace Go.Proofs.YtmekpinhhmknnaaDoor.fnLetterParts
open Go.ChangeShapes Go.WideShapes Go.ChangeAt Go.RowKit Go.My
open Go.ChangeMaps (open_string shut_string)
set_option linter.unusedVariables false
set_option maxRecDepth 100000

theorem own : ownKnob Tryd.prog.godebug = none := by kernel_rfl
theorem laidOut : laidOutB Tryd.prog = true := by kernel_rfl
theorem wf_b {n : Int} (h : (Lit.int .i64 n).wf = true) : WfN n := by
  simp [Lit.wf, IntKind.min, IntKind.max, IntKind.signed, IntKind.bits] at h
  exact h
theorem widerP {B C : Nat} {w : World} {a : Option Addr} {len : Nat} (h : RdCode B w a len) (hc : B ≤ C) : RdCode C w a len := by
  obtain ⟨h1, h2⟩ := h
  refine ⟨h1, ?_⟩
  rcases h2 with h2 | ⟨b, off, ha, hb, hx⟩
  · exact .inl h2
  · exact .inr ⟨b, off, ha, by omega, hx⟩
set_option maxHeartbeats 1000000 in
theorem draw_part (c : Option Addr) (len cap : Nat) (w : World) (h : RdCode w.heap.size w c len) : Calls Tryd.prog 22 #[.slice c len cap] w (fun e w' => ∃ (f t : Int) (z : Bool) (p q : ByteArray) (o : Int) (u : ByteArray) (a b : Int) (x : ByteArray), e = .returned (.agg (envA f t z p q o u a b x)) ∧ (wfI f ∧ wfI t ∧ p.size ≤ 40 ∧ q.size ≤ 40 ∧ wfI o ∧ u.size ≤ 40 ∧ wfI a ∧ wfI b ∧ x.size ≤ 433) ∧ Below w.heap.size w w') := by
  go_enter Tryd.func22, Tryd.ntmps22
  go_wp2_with fail
  have hb0 : Below w.heap.size w (w.alloc (.cells zeroE 44)) := (Below.refl _ w).alloc (Nat.le_refl _) _
  have bq := BlkAt.box w zeroE 44
  refine (draw_env (w.alloc (.cells zeroE 44)).heap.size c len cap _ (Nat.le_refl _) (widerP (h.below hb0) (by simp))).mono ?_
  rintro e w2 ⟨f, t, z, p, q, o, u, a, b, x, rfl, hb, hbw⟩
  have hb2 := hb0.trans (hbw.mono (by simp))
  have bq := BlkAt.below hbw bq
  go_wp2_with (first
    | ((with_reducible refine wpList_store_row' (o := ⟨none, .store 44 _ _, _, _, _, _⟩) rfl 44 _ _ rfl w.heap.size (envA f t z p q o u a b x) rfl rfl 44 zeroE bq.hN (envSz f t z p q o u a b x) rfl (envOne f t z p q o u a b x) ?_); intro wa hwa hsa hga)
    | fail)
  have qa : BlkAt w.heap.size (envA f t z p q o u a b x) 44 wa := hwa
  have d0 := qa.cell (j := 0) rfl
  have d1 := qa.cell (j := 1) rfl
  have d2 := qa.cell (j := 2) rfl
  have d3 := qa.cell (j := 3) rfl
  have d4 := qa.cell (j := 4) rfl
  have d5 := qa.cell (j := 5) rfl
  have d6 := qa.cell (j := 6) rfl
  have d7 := qa.cell (j := 7) rfl
  have d8 := qa.cell (j := 8) rfl
  have d9 := qa.cell (j := 9) rfl
  refine bodyPost_ret (v := .agg (envA f t z p q o u a b x)) (by simp [results, Tryd.results22, go_sem, d0, d1, d2, d3, d4, d5, d6, d7, d8, d9]) rfl ?_
  exact ⟨_, _, _, _, _, _, _, _, _, _, rfl, hb, hb2.grown hga hb2.size (by intro j hj; have := Option.some.inj hj; omega)⟩
set_option maxHeartbeats 8000000 in
theorem walk (w : World) (hk : TabD w) (a0 : Option Addr) (len0 cap0 : Nat) (z0 : List Int) (w0 : IsRow .u8 w a0 len0 cap0 z0) :
    Calls Tryd.prog 7 #[.slice a0 len0 cap0] w fun e w' => e = .returned (.bool true) ∧ Below w.heap.size w w' := by
  have hmax : len0 ≤ 9223372036854775807 := by
    rcases w0 with ⟨_, rfl, _⟩ | ⟨x, _, h1, h2, _⟩
    · omega
    · unfold maxLen at h2; omega
  by_cases hl : len0 ≤ 1048576
  case neg =>
    have hd : decide (1048576 < (len0 : Int)) = true := by simp; omega
    clear hk
    go_enter Tryd.func7, Tryd.ntmps7
    go_wp2_with fail
    refine (big_any _ _ _ _ hmax).mono ?_
    rintro e w' ⟨rfl, rfl⟩
    rw [hd]
    go_wp2
    go_ret
    exact ⟨rfl, Below.refl _ _⟩
  have hd : decide (1048576 < (len0 : Int)) = false := by simp; omega
  have hc := code_of_row w0 hl
  have HT := Lib.hid (fun w1 (h : Below w.heap.size w w1) => hk.below h)
  have HC := Lib.hid (fun w1 (h : Below w.heap.size w w1) => hc.below h)
  clear w0 hl hk
  go_enter Tryd.func7, Tryd.ntmps7
  go_wp2_with fail
  refine (big_any _ _ _ _ hmax).mono ?_
  rintro e w' ⟨rfl, rfl⟩
  rw [hd]
  clear hd hmax
  go_wp2_with fail
  refine (draw_part a0 len0 cap0 _ hc).mono ?_
  rintro e w1 ⟨f, t, z, p, q, o, u, a, b, x, rfl, ⟨wff, wft, hps, hqs, wfo, hus, wfa, wfb, hxs⟩, hb1'⟩
  have hb1 := hb1'
  clear hb1'
  clear hc
  have CI := Lib.hid (fun (y : ByteArray) (hy : y.size ≤ 1048576) W (hW : Below w.heap.size w W) => part_i f t z p q o u a b y W (HT.out W hW) ⟨wf_b wff, wf_b wft, wf_b wfo, wf_b wfa, wf_b wfb, by constructor <;> omega⟩ (by omega) (by omega) (by omega) (by omega))
  have CS := Lib.hid (fun W => part_s f t z p q o u a b x W ⟨wf_b wff, wf_b wft, wf_b wfo, wf_b wfa, wf_b wfb, by constructor <;> omega⟩ (by omega) (by omega) (by omega) (by omega))
  have hB := hb1.alloc hb1.size (.cells (envA f t z p q o u a b x) 44)
  have be := BlkAt.box w1 (envA f t z p q o u a b x) 44
  have hke := hb1.size
  clear hb1 wff wft hps hqs wfo hus wfa wfb
  have FS := Lib.hid (fun (y : ByteArray) (h : y.size = x.size) => partV_same (f := f) (t := t) (z := z) (p := p) (q := q) (o := o) (u := u) (a := a) (b := b) h)
  have FO := Lib.hid (fun (y : ByteArray) (hE : EnvP f t z p q o u a b x) (h : y.size = x.size + 1) => partV_other hE h)
  have FN := Lib.hid (fun (hE : ¬ EnvP f t z p q o u a b x) => partV_no hE)
  have FY := Lib.hid (fun (hE : EnvP f t z p q o u a b x) => partV_yes hE)
  go_wp2_with fail
  refine (CI.out x (by omega) _ hB).mono ?_
  rintro e w2 ⟨rfl, hb2⟩
  have be := BlkAt.below hb2 be
  have hB := hB.trans (hb2.mono hB.size)
  clear hb2
  generalize w1.heap.size = ke at *
  generalize hV : partV f t z p q o u a b x = V at *
  clear hV
  have HX := Lib.hid hxs
  have x0 := be.cell (j := 0) (v := .int .i64 f) rfl
  have x1 := be.cell (j := 1) (v := .int .i64 t) rfl
  have x2 := be.cell (j := 2) (v := .bool z) rfl
  have x3 := be.cell (j := 3) (v := .string p) rfl
  have x4 := be.cell (j := 4) (v := .string q) rfl
  have x5 := be.cell (j := 5) (v := .int .i64 o) rfl
  have x6 := be.cell (j := 6) (v := .string u) rfl
  have x7 := be.cell (j := 7) (v := .int .i64 a) rfl
  have x8 := be.cell (j := 8) (v := .int .i64 b) rfl
  have x9 := be.cell (j := 9) (v := .string x) rfl
  by_cases hE : EnvP f t z p q o u a b x
  case neg =>
    obtain rfl : V = ByteArray.mk #[] := FN.out hE
    clear hE hxs
    go_wp2_with fail
    refine (CS.out _).mono ?_
    rintro e w3 ⟨rfl, hb3⟩
    have be := BlkAt.below hb3 be
    have hB := hB.trans (hb3.mono hB.size)
    clear hb3 x0 x1 x2 x3 x4 x5 x6 x7 x8 x9
    have x0 := be.cell (j := 0) (v := .int .i64 f) rfl
    have x1 := be.cell (j := 1) (v := .int .i64 t) rfl
    have x2 := be.cell (j := 2) (v := .bool z) rfl
    have x3 := be.cell (j := 3) (v := .string p) rfl
    have x4 := be.cell (j := 4) (v := .string q) rfl
    have x5 := be.cell (j := 5) (v := .int .i64 o) rfl
    have x6 := be.cell (j := 6) (v := .string u) rfl
    have x7 := be.cell (j := 7) (v := .int .i64 a) rfl
    have x8 := be.cell (j := 8) (v := .int .i64 b) rfl
    have x9 := be.cell (j := 9) (v := .string x) rfl
    go_wp2_with fail
    refine (CS.out _).mono ?_
    rintro e w4 ⟨rfl, hb4⟩
    have hB := hB.trans (hb4.mono hB.size)
    go_wp2
    go_ret
    exact ⟨rfl, hB⟩
  have HE := Lib.hid hE
  have hne : V.toList.isEmpty = false := by
    have h1 := FY.out hE
    have h2 := partT_pos f t z o a b x.size
    rw [h1, ByteArray.toList_eq]
    cases hh : (partT f t z o a b x.size).data.toList with
    | nil => have h3 : (partT f t z o a b x.size).data.toList.length = (partT f t z o a b x.size).size := by rw [Array.length_toList]; rfl
             rw [hh] at h3; simp at h3; omega
    | cons _ _ => rfl
  have hn2 : (V.toList == []) = false := by cases hh : V.toList with
    | nil => rw [hh] at hne; cases hne
    | cons _ _ => rfl
  clear hE
  by_cases hx4 : x.size ≤ 431
  case neg =>
    have k4 : (431 : Int) < (x.size : Int) := by omega
    clear hx4 hxs
    go_wp2_with fail
    refine (CS.out _).mono ?_
    rintro e w3 ⟨rfl, hb3⟩
    have be := BlkAt.below hb3 be
    have hB := hB.trans (hb3.mono hB.size)
    clear hb3 x0 x1 x2 x3 x4 x5 x6 x7 x8 x9
    have x0 := be.cell (j := 0) (v := .int .i64 f) rfl
    have x1 := be.cell (j := 1) (v := .int .i64 t) rfl
    have x2 := be.cell (j := 2) (v := .bool z) rfl
    have x3 := be.cell (j := 3) (v := .string p) rfl
    have x4 := be.cell (j := 4) (v := .string q) rfl
    have x5 := be.cell (j := 5) (v := .int .i64 o) rfl
    have x6 := be.cell (j := 6) (v := .string u) rfl
    have x7 := be.cell (j := 7) (v := .int .i64 a) rfl
    have x8 := be.cell (j := 8) (v := .int .i64 b) rfl
    have x9 := be.cell (j := 9) (v := .string x) rfl
    go_wp2_with fail
    refine (CS.out _).mono ?_
    rintro e w4 ⟨rfl, hb4⟩
    have hB := hB.trans (hb4.mono hB.size)
    go_wp2
    go_ret
    exact ⟨rfl, hB⟩
  have k4 : ¬ (431 : Int) < (x.size : Int) := by omega
  have HX4 := Lib.hid hx4
  clear hx4 hxs
  go_wp2_with fail
  refine (CS.out _).mono ?_
  rintro e w3 ⟨rfl, hb3⟩
  have be := BlkAt.below hb3 be
  have hB := hB.trans (hb3.mono hB.size)
  clear hb3 x0 x1 x2 x3 x4 x5 x6 x7 x8 x9
  have x0 := be.cell (j := 0) (v := .int .i64 f) rfl
  have x1 := be.cell (j := 1) (v := .int .i64 t) rfl
  have x2 := be.cell (j := 2) (v := .bool z) rfl
  have x3 := be.cell (j := 3) (v := .string p) rfl
  have x4 := be.cell (j := 4) (v := .string q) rfl
  have x5 := be.cell (j := 5) (v := .int .i64 o) rfl
  have x6 := be.cell (j := 6) (v := .string u) rfl
  have x7 := be.cell (j := 7) (v := .int .i64 a) rfl
  have x8 := be.cell (j := 8) (v := .int .i64 b) rfl
  have x9 := be.cell (j := 9) (v := .string x) rfl
  go_upto_region 8 with (fail)
  clear CS hne hn2
  have hle := be.lt
  have hk3 := hB.size
  have bf := BlkAt.box w3 (envA f t z p q o u a b x) 44
  have be := be.past (.cells (envA f t z p q o u a b x) 44)
  have hB := hB.alloc hB.size (.cells (envA f t z p q o u a b x) 44)
  have hkf := hB.size
  clear k4 x0 x1 x2 x3 x4 x5 x6 x7 x8 x9
  have hne9 : ke ≠ w3.heap.size := Nat.ne_of_lt hle
  have x9 := be.cell (j := 9) (v := .string x) rfl
  have y9 := bf.cell (j := 9) (v := .string x) rfl
  have z9 := bf.froz (j := 9)
  have h32 := HE.out.2.2.2.1.2.1
  have hx31 : x.size ≤ 431 := HX4.out
  have CP := Lib.hid (fun W (hW : Below w.heap.size w W) => place_any w.heap.size x.size a0 len0 cap0 W hW.size (HC.out W hW) (by omega) (by omega))
  have CU := Lib.hid (fun W (hW : Below w.heap.size w W) n (hn : n < x.size) => turned_any w.heap.size x n a0 len0 cap0 W (HC.out W hW) hW.size hn (by omega))
  have hxI : (x.size : Int) ≤ 431 := by omega
  clear hle h32 hx31 hkf
  go_region_held3 (fun w' => w'.cell? ⟨ke, 9, none⟩ = some (.string x)) (first | exact x9 | exact (be.other 9 _ hne9).cell (j := 9) rfl) (first
    | (go_at_call 24; refine (CP.out _ (by first | exact hB | exact hB.drew)).mono ?_; rintro e wz ⟨⟨n, rfl, hn⟩, hbz⟩; have be := BlkAt.below hbz (by exact be); have bf := BlkAt.below hbz (by exact bf); have x9 := be.cell (j := 9) (v := .string x) rfl; have y9 := bf.cell (j := 9) (v := .string x) rfl; have z9 := bf.froz (j := 9); have hB := below_nx hbz (by first | exact hB | exact hB.drew) (by exact hB.size))
    | (go_at_call 23; refine (CU.out _ (by first | exact hB | exact hB.drew) _ hn).mono ?_; rintro e wz ⟨⟨X, rfl, hX⟩, hbz⟩; have be := BlkAt.below hbz (by exact be); have bf := BlkAt.below hbz (by exact bf); have x9 := be.cell (j := 9) (v := .string x) rfl; have y9 := bf.cell (j := 9) (v := .string x) rfl; have z9 := bf.froz (j := 9); have hB := below_nx hbz (by first | exact hB | exact hB.drew) (by exact hB.size)))
  all_goals
    have bf5 : BlkAt w3.heap.size (envA f t z p q o u a b X) 44 (wz.setCell ⟨w3.heap.size, 9, none⟩ (.string X)) := bf.set 9 (.string X)
    have be5 := be.other 9 (.string X) hne9
    have hB5 := hB.setCell (p := ⟨w3.heap.size, 9, none⟩) hk3 (.string X)
    generalize wz.setCell ⟨w3.heap.size, 9, none⟩ (.string X) = w5 at bf5 be5 hB5 ⊢
    generalize w3.heap.size = kf at *
    have x0 := be5.cell (j := 0) (v := .int .i64 f) rfl
    have x1 := be5.cell (j := 1) (v := .int .i64 t) rfl
    have x2 := be5.cell (j := 2) (v := .bool z) rfl
    have x3 := be5.cell (j := 3) (v := .string p) rfl
    have x4 := be5.cell (j := 4) (v := .string q) rfl
    have x5 := be5.cell (j := 5) (v := .int .i64 o) rfl
    have x6 := be5.cell (j := 6) (v := .string u) rfl
    have x7 := be5.cell (j := 7) (v := .int .i64 a) rfl
    have x8 := be5.cell (j := 8) (v := .int .i64 b) rfl
    have x9 := be5.cell (j := 9) (v := .string x) rfl
    go_upto_region 10 with (fail)
    have hlt5 := bf5.lt
    have be6 := be5.past (.cells (envA f t z p q o u a b x) 44)
    have bf6 := bf5.past (.cells (envA f t z p q o u a b x) 44)
    have bg6 := BlkAt.box w5 (envA f t z p q o u a b x) 44
    have hB6 := hB5.alloc hB5.size (.cells (envA f t z p q o u a b x) 44)
    have hc1 : ¬ 9223372036854775807 < x.size + 1 := by omega
    clear x0 x1 x2 x3 x4 x5 x6 x7 x8 x9 y9 z9
    have x9 := be6.cell (j := 9) (v := .string x) rfl
    have y9 := bg6.cell (j := 9) (v := .string x) rfl
    have z9 := bg6.froz (j := 9)
    go_upto_region 11 with (fail)
    have hYs : (x ++ ({ data := #[120] } : ByteArray)).size = x.size + 1 := by rw [ByteArray.size_append]; rfl
    generalize x ++ ({ data := #[120] } : ByteArray) = Y at hYs ⊢
    have bf7 := bf5.past (.cells #[.int .i64 f, .int .i64 t, .bool z, .string p, .string q, .int .i64 o, .string u, .int .i64 a, .int .i64 b, .string Y] 44)
    have bg7 : BlkAt w5.heap.size #[.int .i64 f, .int .i64 t, .bool z, .string p, .string q, .int .i64 o, .string u, .int .i64 a, .int .i64 b, .string Y] 44 (w5.alloc (.cells #[.int .i64 f, .int .i64 t, .bool z, .string p, .string q, .int .i64 o, .string u, .int .i64 a, .int .i64 b, .string Y] 44)) := BlkAt.box w5 _ _
    have hB7 := hB5.alloc hB5.size (.cells #[.int .i64 f, .int .i64 t, .bool z, .string p, .string q, .int .i64 o, .string u, .int .i64 a, .int .i64 b, .string Y] 44)
    clear x9 y9 z9 be5 bf5 hB5 be6 bf6 bg6 hB6 hc1
    have y0 := bf7.cell (j := 0) (v := .int .i64 f) rfl
    have y1 := bf7.cell (j := 1) (v := .int .i64 t) rfl
    have y2 := bf7.cell (j := 2) (v := .bool z) rfl
    have y3 := bf7.cell (j := 3) (v := .string p) rfl
    have y4 := bf7.cell (j := 4) (v := .string q) rfl
    have y5 := bf7.cell (j := 5) (v := .int .i64 o) rfl
    have y6 := bf7.cell (j := 6) (v := .string u) rfl
    have y7 := bf7.cell (j := 7) (v := .int .i64 a) rfl
    have y8 := bf7.cell (j := 8) (v := .int .i64 b) rfl
    have y9 := bf7.cell (j := 9) (v := .string X) rfl
    go_wp2_with fail
    refine (CI.out X (by omega) _ hB7).mono ?_
    rintro e w8 ⟨rfl, hb8⟩
    rw [FS.out X hX]
    have bg8 := BlkAt.below hb8 bg7
    have hB8 := hB7.trans (hb8.mono hB7.size)
    clear hb8 bf7 bg7 hB7 y0 y1 y2 y3 y4 y5 y6 y7 y8 y9
    have CG := Lib.hid (CI.out Y (by omega) _ hB8)
    have hno := neqP (FO.out Y HE.out hYs)
    generalize partV f t z p q o u a b Y = U at hno CG
    have g0 := bg8.cell (j := 0) (v := .int .i64 f) rfl
    have g1 := bg8.cell (j := 1) (v := .int .i64 t) rfl
    have g2 := bg8.cell (j := 2) (v := .bool z) rfl
    have g3 := bg8.cell (j := 3) (v := .string p) rfl
    have g4 := bg8.cell (j := 4) (v := .string q) rfl
    have g5 := bg8.cell (j := 5) (v := .int .i64 o) rfl
    have g6 := bg8.cell (j := 6) (v := .string u) rfl
    have g7 := bg8.cell (j := 7) (v := .int .i64 a) rfl
    have g8 := bg8.cell (j := 8) (v := .int .i64 b) rfl
    have g9 := bg8.cell (j := 9) (v := .string Y) rfl
    go_wp2_with fail
    refine CG.out.mono ?_
    rintro e w9 ⟨rfl, hb9⟩
    have hB9 := hB8.trans (hb9.mono hB8.size)
    clear hb9 bg8 hB8 g0 g1 g2 g3 g4 g5 g6 g7 g8 g9
    go_wp2
    go_ret
    exact ⟨rfl, hB9⟩

set_option maxRecDepth 100000 in
theorem lifted (os : Os) (started : os.Started) (H : Type) (enc : TypeId × Value → H) (F : Stop.Interp) :
    ReturnsInHanded {} Tryd.checked os 7 .any ((OpenSpec.ofChange Rows.fnLetterPartsSpec).preRow enc Tryd.prog Tryd.f7 Rows.fnLetterPartsRow.domain false Rows.fnLetterPartsRow.laid) (((OpenSpec.ofChange Rows.fnLetterPartsSpec).at F).post enc Tryd.prog Tryd.f7 false true false false) := by
  refine returnsInHanded_of_row (C := Tryd.checked) (s := OpenSpec.ofChange Rows.fnLetterPartsSpec) own started (by kernel_rfl) Tryd.func7
    (witness_row_at (enc := enc) (C := Tryd.checked) false (laidWorldD os) #[.slice none 0 0] rfl (by kernel_rfl) (by kernel_rfl) (by kernel_rfl)
      (OpenSpec.preRow_of_B rfl 8 (by kernel_rfl) (by kernel_rfl) (laid_metD os #[.slice none 0 0]))) ?_
  intro W base args ds gs before hval0 hW _ _ _ hL _ _
  have hval : ∀ (j : Nat) t v, Tryd.f7.params[j]? = some t → args[j]? = some v → Value.okWide Tryd.prog W .any base t v := hval0
  have hW' := hW
  obtain ⟨p, q, hA0, hV, rfl, hfz, hnd⟩ := hW
  have hA : DataW.TrodAll enc Tryd.prog W 0 (fun _ => true) true Tryd.f7.params.toList args.toList ds p := hA0
  rw [Tryd.params7] at hA hval
  obtain ⟨v0, vs0, d0, ds0, p0, q0, hargs, rfl, rfl, h0, r0⟩ := trodAll_cons hA
  obtain ⟨rfl, rfl, rfl⟩ := trodAll_nil r0
  obtain rfl : args = #[v0] := by cases args; simp_all
  have hVV := hV
  obtain ⟨rfl, rfl⟩ := trodVars_none hV
  obtain ⟨a0, len0, cap0, rfl⟩ := okWide_slice Tryd.underlying51 (hval 0 51 v0 rfl rfl)
  have k0 := h0
  have lt0 : ∀ x ∈ p0, x.block < W.heap.size := by obtain ⟨m, hm⟩ := k0; exact DataW.trod_lt m _ _ _ hm
  obtain ⟨z0, w0⟩ : ∃ zs, My.IsRow .u8 W a0 len0 cap0 zs := by
    obtain ⟨fuel, hf⟩ := h0
    rcases open_ints Tryd.underlying51 Tryd.underlying5 (by kernel_rfl) hf with ⟨hcs, _⟩ | ⟨x, l, c, zs, hcs, _, hl, hm, hz, _, hcell, hwz⟩
    · simp [Value.cells] at hcs
      obtain ⟨rfl, rfl, rfl⟩ := hcs
      exact ⟨[], .inl ⟨rfl, rfl, rfl, rfl⟩⟩
    · simp [Value.cells] at hcs
      obtain ⟨rfl, rfl, rfl⟩ := hcs
      exact ⟨zs, .inr ⟨_, rfl, hl, hm, by simpa using hz, hcell, hwz⟩⟩
  clear hA0 hval0
  refine (walk W (tab_ofD hL) a0 len0 cap0 z0 w0).mono fun e W' ⟨he, bel⟩ => ?_
  subst he
  exact ⟨_, rfl, _, _, _, [], _, [], hW', trodAll_mk1 (shut_bool Tryd.underlying4 _), (trodAll_cons_mk (Below.trod laidOut (by kernel_rfl) (of_decide_eq_true (by kernel_rfl)) k0 bel lt0) trodAll_mk0), rfl, bel.frame _, fun h => by cases h⟩

theorem said : Rows.FnLetterPartsSaid :=
  OpenClaim.holds_of_cond 7 Tryd.f7 rfl rfl rfl rfl rfl rfl rfl ⟨rfl, rfl, rfl, rfl, rfl⟩ rfl rfl rfl rfl rfl (by kernel_rfl) Tryd.func7 (by kernel_rfl)
    (of_decide_eq_true (by kernel_rfl)) (by unfold Func.isWrapper; first | (rw [if_pos (by decide +kernel)]; kernel_rfl) | (rw [if_neg (by decide +kernel)]; exact ⟨rfl, rfl⟩))
    (fun os started H enc _ F => by rw [OpenClaim.pre_eq_preRow]; exact lifted os started H enc F)

theorem plain (f : FuncId) (fn : Func) (hf : Tryd.pinned.checked.prog.funcNamed "loop.example/g00702/laws.FnLetterParts" = some f) (hfn : Tryd.pinned.checked.prog.funcs[f]? = some fn) :
    true = Tryd.pinned.checked.prog.looks [] ∧ ∀ (j : Nat) t, fn.params[j]? = some t → Tryd.pinned.checked.prog.wantsStandIn t = false := by
  obtain rfl : f = 7 := Option.some.inj ((show Tryd.prog.funcNamed "loop.example/g00702/laws.FnLetterParts" = some 7 by kernel_rfl).symm.trans hf) |>.symm
  obtain rfl : fn = Tryd.f7 := (Option.some.inj (Tryd.func7.symm.trans hfn)).symm
  refine ⟨by kernel_rfl, fun j t ht => ?_⟩
  rw [Tryd.params7] at ht
  have hm : t ∈ [51] := by simpa using Array.mem_of_getElem? ht
  have hall : ([51].all fun u => !Tryd.prog.wantsStandIn u) = true := by kernel_rfl
  exact (show Tryd.prog.wantsStandIn t = false by simpa using List.all_eq_true.1 hall t hm)

theorem proved : Rows.FnLetterPartsCardSaid :=
  Claim7.holds_tied_plain_at .later [] _ _ _ _ said (fun _ h => by cases h) (by kernel_rfl) (fun _ h => by cases h) fnLetterParts_row_tie rfl ⟨rfl, rfl⟩ (by kernel_rfl) rfl plain (by kernel_rfl)

end Go.Proofs.YtmekpinhhmknnaaDoor.fnLetterParts

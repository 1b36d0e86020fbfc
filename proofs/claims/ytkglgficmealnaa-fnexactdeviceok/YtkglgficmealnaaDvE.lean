/- The exact laws' helpers for devices: sizes, comparison; a device as an argument. -/
import Derived.Test.YtkglgficmealnaaDvD
namespace Go.Proofs.Ytkglgficmealnaa
open Go.RowKit Go.My Go.Lib Go.ChangeShapes Go.WideShapes
set_option linter.unusedVariables false
set_option maxRecDepth 100000

set_option maxHeartbeats 4000000 in
theorem szDevice_c (a : DevT) (left : Nat) (w : World) (h : devA a w) (hl : left ≤ 1048576) : Calls Try.prog 17 #[.agg (devC a).toArray, .int .i64 left] w fun e w' => ((∃ r : Nat, e = .returned (.int .i64 r) ∧ devM a) ∨ e = .returned (.int .i64 (-1))) ∧ Below w.heap.size w w' := by
  obtain ⟨i, us, ik, ip, sk, sp, vo, ones, vp, peers⟩ := a
  have H := Lib.hid h
  obtain ⟨po, co, eo⟩ : ∃ po co, vo = .slice po ones.length co := by obtain ⟨p, c, e, _⟩ := h.1; exact ⟨p, c, e⟩
  obtain ⟨pp, cp, ep⟩ : ∃ po co, vp = .slice po peers.length co := by obtain ⟨p, c, e, _⟩ := h.2.2.1; exact ⟨p, c, e⟩
  obtain ⟨z1, z2, z3, z4⟩ : ik.size ≤ maxLen ∧ ip.size ≤ maxLen ∧ sk.size ≤ maxLen ∧ sp.size ≤ maxLen := h.2.2.2.2
  subst eo ep
  show Calls _ _ #[.agg #[.int .i64 i, .int .i64 us, .string ik, .string ip, .string sk, .string sp, .slice po ones.length co, .slice pp peers.length cp], _] _ _
  have hb0 := below_box w (.cells #[.int .i64 i, .int .i64 us, .string ik, .string ip, .string sk, .string sp, .slice po ones.length co, .slice pp peers.length cp] 40)
  have hx0 := heap_alloc_new w (.cells #[.int .i64 i, .int .i64 us, .string ik, .string ip, .string sk, .string sp, .slice po ones.length co, .slice pp peers.length cp] 40)
  have HX := Lib.hid (And.intro hb0 hx0)
  have hlI : (left : Int) ≤ 1048576 := by omega
  have C1 := Lib.hid (fun W => szPair_any ik ip left W hl z1 z2)
  have C2 := Lib.hid (fun (r : Nat) (hr : r ≤ 1048576) W => szPair_any sk sp r W hr z3 z4)
  have C3 := Lib.hid (fun (r : Nat) (hr : r ≤ 1048576) W (hW : Below w.heap.size w W) => szOneS_c (.slice po ones.length co) ones r W (H.out.1.below hW) H.out.2.1 hr)
  have C4 := Lib.hid (fun (r : Nat) (hr : r ≤ 1048576) W (hW : Below w.heap.size w W) => szPeerS_c (.slice pp peers.length cp) peers r W (H.out.2.2.1.below hW) (fun x hx => peerA.below (H.out.2.2.2.1 x hx) hW) hr)
  have x2 : _ = some (Value.string ik) := cell_of_row _ w.heap.size 2 _ _ _ hx0
  have x3 : _ = some (Value.string ip) := cell_of_row _ w.heap.size 3 _ _ _ hx0
  clear h z1 z2 z3 z4 hb0 hx0
  go_enter Try.func17, Try.ntmps17
  go_wp2_with fail
  refine (C1.out _).mono ?_
  rintro e w1 ⟨hres, hb⟩
  have HX := Lib.hid (And.intro (HX.out.1.trans (hb.mono HX.out.1.size)) ((hb.block _ (Array.getElem?_eq_some_iff.1 HX.out.2).1).trans HX.out.2))
  clear hb C1 x2 x3
  rcases hres with ⟨r1, rfl, hr1⟩ | rfl
  case inr =>
    go_wp2
    go_ret
    exact ⟨.inr rfl, HX.out.1⟩
  have q1 : ¬ (r1 : Int) < 0 := by omega
  have HR1 : Hid (r1 ≤ 1048576) := by show _ ≤ _; omega
  have x4 : w1.cell? ⟨w.heap.size, 4, none⟩ = some (Value.string sk) := cell_of_row w1 w.heap.size 4 _ _ _ HX.out.2
  have x5 : w1.cell? ⟨w.heap.size, 5, none⟩ = some (Value.string sp) := cell_of_row w1 w.heap.size 5 _ _ _ HX.out.2
  clear hr1
  go_wp2_with fail
  refine (C2.out r1 HR1.out _).mono ?_
  rintro e w2 ⟨hres, hb⟩
  have HX := Lib.hid (And.intro (HX.out.1.trans (hb.mono HX.out.1.size)) ((hb.block _ (Array.getElem?_eq_some_iff.1 HX.out.2).1).trans HX.out.2))
  clear hb C2 x4 x5
  rcases hres with ⟨r2, rfl, hr2⟩ | rfl
  case inr =>
    go_wp2
    go_ret
    exact ⟨.inr rfl, HX.out.1⟩
  have q2 : ¬ (r2 : Int) < 0 := by omega
  have HR2 : Hid (r2 ≤ 1048576) := by have := HR1.out; show _ ≤ _; omega
  have x6 : w2.cell? ⟨w.heap.size, 6, none⟩ = some (Value.slice po ones.length co) := cell_of_row w2 w.heap.size 6 _ _ _ HX.out.2
  clear hr2
  go_wp2_with fail
  refine (C3.out r2 HR2.out _ HX.out.1).mono ?_
  rintro e w3 ⟨hres, hb⟩
  have HX := Lib.hid (And.intro (HX.out.1.trans (hb.mono HX.out.1.size)) ((hb.block _ (Array.getElem?_eq_some_iff.1 HX.out.2).1).trans HX.out.2))
  clear hb C3 x6
  rcases hres with ⟨r3, rfl, hr3, hl3, _⟩ | rfl
  case inr =>
    go_wp2
    go_ret
    exact ⟨.inr rfl, HX.out.1⟩
  have q3 : ¬ (r3 : Int) < 0 := by omega
  have HR3 : Hid (r3 ≤ 1048576 ∧ ones.length ≤ 1048576) := by have := HR2.out; show _ ∧ _; omega
  have x7 : w3.cell? ⟨w.heap.size, 7, none⟩ = some (Value.slice pp peers.length cp) := cell_of_row w3 w.heap.size 7 _ _ _ HX.out.2
  clear hr3 hl3
  go_wp2_with fail
  refine (C4.out r3 HR3.out.1 _ HX.out.1).mono ?_
  rintro e w4 ⟨hres, hb⟩
  have HX := Lib.hid (And.intro (HX.out.1.trans (hb.mono HX.out.1.size)) ((hb.block _ (Array.getElem?_eq_some_iff.1 HX.out.2).1).trans HX.out.2))
  clear hb C4 x7
  rcases hres with ⟨r4, rfl, hr4, hl4, hm4⟩ | rfl
  case inr =>
    go_wp2
    go_ret
    exact ⟨.inr rfl, HX.out.1⟩
  have q4 : ¬ (r4 : Int) < 0 := by omega
  have HM : Hid (devM ⟨i, us, ik, ip, sk, sp, .slice po ones.length co, ones, .slice pp peers.length cp, peers⟩) := ⟨HR3.out.2, Nat.le_trans hl4 HR3.out.1, hm4⟩
  clear hr4 hl4 hm4
  go_wp2
  go_ret
  exact ⟨.inl ⟨r4, rfl, HM.out⟩, HX.out.1⟩

set_option maxHeartbeats 4000000 in
theorem eqDevice_c (a b : DevT) (w : World) (ha : devQ 0 a w) (hb : devQ 0 b w) (hg : devG a = devG b) (hm : devM a) : Calls Try.prog 21 #[.agg (devC a).toArray, .agg (devC b).toArray] w fun e w' => e = .returned (.bool true) ∧ Below w.heap.size w w' := by
  obtain ⟨i, us, ik, ip, sk, sp, vo, ones, vp, peers⟩ := a
  obtain ⟨i', us', ik', ip', sk', sp', vo2, ones', vp2, peers2⟩ := b
  unfold devG at hg
  injection hg with e1 e2 e3 e4 e5 e6 _ e8 _ e10
  simp only at e1 e2 e3 e4 e5 e6 e8 e10
  subst e1 e2 e3 e4 e5 e6 e8
  obtain ⟨po, co, eo⟩ : ∃ po co, vo = .slice po ones.length co := by obtain ⟨p, c, e, _⟩ := RowL.open ha.1; exact ⟨p, c, e⟩
  obtain ⟨pp, cp, ep⟩ : ∃ po co, vp = .slice po peers.length co := by obtain ⟨p, c, e, _⟩ := RowL.open ha.2.1; exact ⟨p, c, e⟩
  obtain ⟨po2, co2, eo2⟩ : ∃ po co, vo2 = .slice po ones.length co := by obtain ⟨p, c, e, _⟩ := RowL.open hb.1; exact ⟨p, c, e⟩
  obtain ⟨pp2, cp2, ep2⟩ : ∃ po co, vp2 = .slice po peers2.length co := by obtain ⟨p, c, e, _⟩ := RowL.open hb.2.1; exact ⟨p, c, e⟩
  subst eo ep eo2 ep2
  show Calls _ _ #[.agg #[.int .i64 i, .int .i64 us, .string ik, .string ip, .string sk, .string sp, .slice po ones.length co, .slice pp peers.length cp], .agg #[.int .i64 i, .int .i64 us, .string ik, .string ip, .string sk, .string sp, .slice po2 ones.length co2, .slice pp2 peers2.length cp2]] _ _
  obtain ⟨hB0, hx0, hy0⟩ := boxes2 w (.cells #[.int .i64 i, .int .i64 us, .string ik, .string ip, .string sk, .string sp, .slice po ones.length co, .slice pp peers.length cp] 47) (.cells #[.int .i64 i, .int .i64 us, .string ik, .string ip, .string sk, .string sp, .slice po2 ones.length co2, .slice pp2 peers2.length cp2] 47) _ (Below.refl _ _)
  have HA := Lib.hid (And.intro ha hb)
  have C3 := Lib.hid (fun W (hW : Below w.heap.size w W) => eqOneS_c (.slice po ones.length co) (.slice po2 ones.length co2) ones ones W (HA.out.1.1.below hW) (HA.out.2.1.below hW) (fun _ _ => trivial) (fun _ _ => trivial) rfl (fun _ _ => trivial) hm.1)
  have C4 := Lib.hid (fun W (hW : Below w.heap.size w W) => eqPeerS_c (.slice pp peers.length cp) (.slice pp2 peers2.length cp2) peers peers2 W (HA.out.1.2.1.below hW) (HA.out.2.2.1.below hW) (fun x hx => peerQ.below (HA.out.1.2.2 x hx) hW) (fun x hx => peerQ.below (HA.out.2.2.2 x hx) hW) e10 hm.2.2 hm.2.1)
  have HX := Lib.hid (And.intro hB0 (And.intro hx0 hy0))
  have qi : (i != i) = false := by simp
  have qu : (us != us) = false := by simp
  have x0 : _ = some (Value.int .i64 i) := cell_of_row _ w.heap.size 0 _ _ _ hx0
  have y0 : _ = some (Value.int .i64 i) := cell_of_row _ (w.heap.size + 1) 0 _ _ _ hy0
  have x1 : _ = some (Value.int .i64 us) := cell_of_row _ w.heap.size 1 _ _ _ hx0
  have y1 : _ = some (Value.int .i64 us) := cell_of_row _ (w.heap.size + 1) 1 _ _ _ hy0
  have x2 : _ = some (Value.string ik) := cell_of_row _ w.heap.size 2 _ _ _ hx0
  have y2 : _ = some (Value.string ik) := cell_of_row _ (w.heap.size + 1) 2 _ _ _ hy0
  have x3 : _ = some (Value.string ip) := cell_of_row _ w.heap.size 3 _ _ _ hx0
  have y3 : _ = some (Value.string ip) := cell_of_row _ (w.heap.size + 1) 3 _ _ _ hy0
  clear ha hb hm hB0 hx0 hy0 e10
  go_enter Try.func21, Try.ntmps21
  go_wp2_with fail
  refine (eqPair_same ik ip _).mono ?_
  rintro e w1 ⟨rfl, hb⟩
  have HX := Lib.hid (And.intro (HX.out.1.trans (hb.mono HX.out.1.size)) (And.intro ((hb.block _ (Array.getElem?_eq_some_iff.1 HX.out.2.1).1).trans HX.out.2.1) ((hb.block _ (Array.getElem?_eq_some_iff.1 HX.out.2.2).1).trans HX.out.2.2)))
  clear hb
  clear x0 y0 x1 y1 x2 y2 x3 y3
  have x4 : _ = some (Value.string sk) := cell_of_row _ w.heap.size 4 _ _ _ HX.out.2.1
  have y4 : _ = some (Value.string sk) := cell_of_row _ (w.heap.size + 1) 4 _ _ _ HX.out.2.2
  have x5 : _ = some (Value.string sp) := cell_of_row _ w.heap.size 5 _ _ _ HX.out.2.1
  have y5 : _ = some (Value.string sp) := cell_of_row _ (w.heap.size + 1) 5 _ _ _ HX.out.2.2
  go_wp2_with fail
  refine (eqPair_same sk sp _).mono ?_
  rintro e w2 ⟨rfl, hb⟩
  have HX := Lib.hid (And.intro (HX.out.1.trans (hb.mono HX.out.1.size)) (And.intro ((hb.block _ (Array.getElem?_eq_some_iff.1 HX.out.2.1).1).trans HX.out.2.1) ((hb.block _ (Array.getElem?_eq_some_iff.1 HX.out.2.2).1).trans HX.out.2.2)))
  clear hb
  clear x4 y4 x5 y5
  have x6 : _ = some (Value.slice po ones.length co) := cell_of_row _ w.heap.size 6 _ _ _ HX.out.2.1
  have y6 : _ = some (Value.slice po2 ones.length co2) := cell_of_row _ (w.heap.size + 1) 6 _ _ _ HX.out.2.2
  go_wp2_with fail
  refine (C3.out _ HX.out.1).mono ?_
  rintro e w3 ⟨rfl, hb⟩
  have HX := Lib.hid (And.intro (HX.out.1.trans (hb.mono HX.out.1.size)) (And.intro ((hb.block _ (Array.getElem?_eq_some_iff.1 HX.out.2.1).1).trans HX.out.2.1) ((hb.block _ (Array.getElem?_eq_some_iff.1 HX.out.2.2).1).trans HX.out.2.2)))
  clear hb
  clear x6 y6
  have x7 : _ = some (Value.slice pp peers.length cp) := cell_of_row _ w.heap.size 7 _ _ _ HX.out.2.1
  have y7 : _ = some (Value.slice pp2 peers2.length cp2) := cell_of_row _ (w.heap.size + 1) 7 _ _ _ HX.out.2.2
  go_wp2_with fail
  refine (C4.out _ HX.out.1).mono ?_
  rintro e w4 ⟨rfl, hb⟩
  have HX := Lib.hid (And.intro (HX.out.1.trans (hb.mono HX.out.1.size)) (And.intro ((hb.block _ (Array.getElem?_eq_some_iff.1 HX.out.2.1).1).trans HX.out.2.1) ((hb.block _ (Array.getElem?_eq_some_iff.1 HX.out.2.2).1).trans HX.out.2.2)))
  clear hb
  go_wp2
  go_ret
  exact ⟨rfl, HX.out.1⟩

/-! ### A device as an argument -/
theorem ss_cells_b : Try.prog.cellsOf 4 = 1 := by kernel_rfl
theorem dv_cells_pair : Try.prog.cellsOf 36 = 2 := by kernel_rfl
theorem dv_cells_one : Try.prog.cellsOf 110 = 3 := by kernel_rfl
theorem dv_cells_ones : Try.prog.cellsOf 37 = 1 := by kernel_rfl
theorem dv_cells_init : Try.prog.cellsOf 139 = 3 := by kernel_rfl
theorem dv_cells_held : Try.prog.cellsOf 141 = 16 := by kernel_rfl
theorem dv_cells_helds : Try.prog.cellsOf 112 = 1 := by kernel_rfl
theorem dv_cells_peer : Try.prog.cellsOf 114 = 3 := by kernel_rfl
theorem dv_cells_peers : Try.prog.cellsOf 38 = 1 := by kernel_rfl
theorem dv_cells_dev : Try.prog.cellsOf 40 = 8 := by kernel_rfl
instance : Inhabited HeldT := ⟨heldZ⟩
instance : Inhabited PeerT := ⟨peerZ⟩
theorem pair_open {H : Type} {enc : TypeId × Value → H} {w : World} {sp : Nat → Bool} {held : Bool} {fuel : Nat} {cs : List Value} {x : DataW H × List MemPlace} (h : DataW.trod enc Try.prog w 0 sp held fuel 36 cs = some x) :
    ∃ p q : ByteArray, cs = [.string p, .string q] ∧ p.size ≤ maxLen ∧ q.size ≤ maxLen := by
  obtain ⟨xs, n, _, hx, hl, hn, hf⟩ := DataW.trod_struct Try.underlying36 h
  rw [dv_cells_pair] at hl
  match cs, hl with
  | [c0, c1], _ =>
  match xs, hn with
  | [y0, y1], _ =>
    have h0 : DataW.trod enc Try.prog w 0 sp held n 9 (List.take (Try.prog.cellsOf 9) (List.drop 0 [c0, c1])) = some y0 := by have := hf 0 _ rfl; exact this
    rw [ss_cells_s] at h0
    have g0 : DataW.trod enc Try.prog w 0 sp held n 9 [c0] = some y0 := h0
    obtain ⟨p, e0, _, wp⟩ := DataW.trod_string Try.underlying9 g0
    have h1 : DataW.trod enc Try.prog w 0 sp held n 9 (List.take (Try.prog.cellsOf 9) (List.drop 1 [c0, c1])) = some y1 := by have := hf 1 _ rfl; exact this
    rw [ss_cells_s] at h1
    have g1 : DataW.trod enc Try.prog w 0 sp held n 9 [c1] = some y1 := h1
    obtain ⟨q, e1, _, wq⟩ := DataW.trod_string Try.underlying9 g1
    simp only [List.cons.injEq, and_true] at e0 e1
    obtain rfl := e0
    obtain rfl := e1
    exact ⟨p, q, rfl, wp, wq⟩
theorem init_open {H : Type} {enc : TypeId × Value → H} {w : World} {sp : Nat → Bool} {held : Bool} {fuel : Nat} {cs : List Value} {x : DataW H × List MemPlace} (h : DataW.trod enc Try.prog w 0 sp held fuel 139 cs = some x) :
    ∃ (p q : ByteArray) (z : Int), cs = [.string p, .string q, .int .i64 z] ∧ p.size ≤ maxLen ∧ q.size ≤ maxLen := by
  obtain ⟨xs, n, _, hx, hl, hn, hf⟩ := DataW.trod_struct Try.underlying139 h
  rw [dv_cells_init] at hl
  match cs, hl with
  | [c0, c1, c2], _ =>
  match xs, hn with
  | [y0, y1, y2], _ =>
    have h0 : DataW.trod enc Try.prog w 0 sp held n 9 (List.take (Try.prog.cellsOf 9) (List.drop 0 [c0, c1, c2])) = some y0 := by have := hf 0 _ rfl; exact this
    rw [ss_cells_s] at h0
    have g0 : DataW.trod enc Try.prog w 0 sp held n 9 [c0] = some y0 := h0
    obtain ⟨p, e0, _, wp⟩ := DataW.trod_string Try.underlying9 g0
    have h1 : DataW.trod enc Try.prog w 0 sp held n 9 (List.take (Try.prog.cellsOf 9) (List.drop 1 [c0, c1, c2])) = some y1 := by have := hf 1 _ rfl; exact this
    rw [ss_cells_s] at h1
    have g1 : DataW.trod enc Try.prog w 0 sp held n 9 [c1] = some y1 := h1
    obtain ⟨q, e1, _, wq⟩ := DataW.trod_string Try.underlying9 g1
    have h2 : DataW.trod enc Try.prog w 0 sp held n 2 (List.take (Try.prog.cellsOf 2) (List.drop 2 [c0, c1, c2])) = some y2 := by have := hf 2 _ rfl; exact this
    rw [ss_cells_i] at h2
    have g2 : DataW.trod enc Try.prog w 0 sp held n 2 [c2] = some y2 := h2
    obtain ⟨z, e2, _, wz⟩ := DataW.trod_int Try.underlying2 g2
    simp only [List.cons.injEq, and_true] at e0 e1 e2
    obtain rfl := e0
    obtain rfl := e1
    obtain rfl := e2
    exact ⟨p, q, z, rfl, wp, wq⟩
theorem one_open {H : Type} {enc : TypeId × Value → H} {w : World} {sp : Nat → Bool} {held : Bool} {fuel : Nat} {cs : List Value} {x : DataW H × List MemPlace} (h : DataW.trod enc Try.prog w 0 sp held fuel 110 cs = some x) :
    ∃ a : OneT, cs = oneC a ∧ oneA a w := by
  obtain ⟨xs, n, _, hx, hl, hn, hf⟩ := DataW.trod_struct Try.underlying110 h
  rw [dv_cells_one] at hl
  match cs, hl with
  | [c0, c1, c2], _ =>
  match xs, hn with
  | [y0, y1], _ =>
    have h0 : DataW.trod enc Try.prog w 0 sp held n 2 (List.take (Try.prog.cellsOf 2) (List.drop 0 [c0, c1, c2])) = some y0 := by have := hf 0 _ rfl; exact this
    rw [ss_cells_i] at h0
    have g0 : DataW.trod enc Try.prog w 0 sp held n 2 [c0] = some y0 := h0
    obtain ⟨z, e0, _, wz⟩ := DataW.trod_int Try.underlying2 g0
    have h1 : DataW.trod enc Try.prog w 0 sp held n 36 (List.take (Try.prog.cellsOf 36) (List.drop 1 [c0, c1, c2])) = some y1 := by have := hf 1 _ rfl; exact this
    rw [dv_cells_pair] at h1
    have g1 : DataW.trod enc Try.prog w 0 sp held n 36 [c1, c2] = some y1 := h1
    obtain ⟨p, q, e1, wp, wq⟩ := pair_open g1
    simp only [List.cons.injEq, and_true] at e0 e1
    obtain rfl := e0
    obtain ⟨rfl, rfl⟩ := e1
    exact ⟨(z, p, q), rfl, wz, wp, wq⟩
theorem ses_open {H : Type} {enc : TypeId × Value → H} {w : World} {sp : Nat → Bool} {held : Bool} {fuel : Nat} {cs : List Value} {x : DataW H × List MemPlace} (h : DataW.trod enc Try.prog w 0 sp held fuel 24 cs = some x) :
    ∃ r o p t k n v q m u K, cs = (sesU r o p t k n v q m u).toList ∧ SesArg r o p t k n v q m u K w := by
  obtain ⟨xs, nn, _, hx, hl, hn, hf⟩ := DataW.trod_struct Try.underlying24 h
  rw [ss_cells_ses] at hl
  match cs, hl with
  | [c0, c1, c2, c3, c4, c5, c6, c7, c8, c9], _ =>
  match xs, hn with
  | [y0, y1, y2, y3, y4, y5, y6, y7, y8, y9], _ =>
    have h0 : DataW.trod enc Try.prog w 0 sp held nn 9 (List.take (Try.prog.cellsOf 9) (List.drop 0 [c0, c1, c2, c3, c4, c5, c6, c7, c8, c9])) = some y0 := by have := hf 0 _ rfl; exact this
    rw [ss_cells_s] at h0
    have g0 : DataW.trod enc Try.prog w 0 sp held nn 9 [c0] = some y0 := h0
    obtain ⟨r, e0, _, wr⟩ := DataW.trod_string Try.underlying9 g0
    have h1 : DataW.trod enc Try.prog w 0 sp held nn 9 (List.take (Try.prog.cellsOf 9) (List.drop 1 [c0, c1, c2, c3, c4, c5, c6, c7, c8, c9])) = some y1 := by have := hf 1 _ rfl; exact this
    rw [ss_cells_s] at h1
    have g1 : DataW.trod enc Try.prog w 0 sp held nn 9 [c1] = some y1 := h1
    obtain ⟨o, e1, _, wo⟩ := DataW.trod_string Try.underlying9 g1
    have h2 : DataW.trod enc Try.prog w 0 sp held nn 9 (List.take (Try.prog.cellsOf 9) (List.drop 2 [c0, c1, c2, c3, c4, c5, c6, c7, c8, c9])) = some y2 := by have := hf 2 _ rfl; exact this
    rw [ss_cells_s] at h2
    have g2 : DataW.trod enc Try.prog w 0 sp held nn 9 [c2] = some y2 := h2
    obtain ⟨p, e2, _, wp⟩ := DataW.trod_string Try.underlying9 g2
    have h3 : DataW.trod enc Try.prog w 0 sp held nn 9 (List.take (Try.prog.cellsOf 9) (List.drop 3 [c0, c1, c2, c3, c4, c5, c6, c7, c8, c9])) = some y3 := by have := hf 3 _ rfl; exact this
    rw [ss_cells_s] at h3
    have g3 : DataW.trod enc Try.prog w 0 sp held nn 9 [c3] = some y3 := h3
    obtain ⟨t, e3, _, wt⟩ := DataW.trod_string Try.underlying9 g3
    have h4 : DataW.trod enc Try.prog w 0 sp held nn 9 (List.take (Try.prog.cellsOf 9) (List.drop 4 [c0, c1, c2, c3, c4, c5, c6, c7, c8, c9])) = some y4 := by have := hf 4 _ rfl; exact this
    rw [ss_cells_s] at h4
    have g4 : DataW.trod enc Try.prog w 0 sp held nn 9 [c4] = some y4 := h4
    obtain ⟨k, e4, _, wk⟩ := DataW.trod_string Try.underlying9 g4
    have h5 : DataW.trod enc Try.prog w 0 sp held nn 2 (List.take (Try.prog.cellsOf 2) (List.drop 5 [c0, c1, c2, c3, c4, c5, c6, c7, c8, c9])) = some y5 := by have := hf 5 _ rfl; exact this
    rw [ss_cells_i] at h5
    have g5 : DataW.trod enc Try.prog w 0 sp held nn 2 [c5] = some y5 := h5
    obtain ⟨n, e5, _, wn⟩ := DataW.trod_int Try.underlying2 g5
    have h6 : DataW.trod enc Try.prog w 0 sp held nn 2 (List.take (Try.prog.cellsOf 2) (List.drop 6 [c0, c1, c2, c3, c4, c5, c6, c7, c8, c9])) = some y6 := by have := hf 6 _ rfl; exact this
    rw [ss_cells_i] at h6
    have g6 : DataW.trod enc Try.prog w 0 sp held nn 2 [c6] = some y6 := h6
    obtain ⟨v, e6, _, wv⟩ := DataW.trod_int Try.underlying2 g6
    have h7 : DataW.trod enc Try.prog w 0 sp held nn 9 (List.take (Try.prog.cellsOf 9) (List.drop 7 [c0, c1, c2, c3, c4, c5, c6, c7, c8, c9])) = some y7 := by have := hf 7 _ rfl; exact this
    rw [ss_cells_s] at h7
    have g7 : DataW.trod enc Try.prog w 0 sp held nn 9 [c7] = some y7 := h7
    obtain ⟨q, e7, _, wq⟩ := DataW.trod_string Try.underlying9 g7
    have h8 : DataW.trod enc Try.prog w 0 sp held nn 2 (List.take (Try.prog.cellsOf 2) (List.drop 8 [c0, c1, c2, c3, c4, c5, c6, c7, c8, c9])) = some y8 := by have := hf 8 _ rfl; exact this
    rw [ss_cells_i] at h8
    have g8 : DataW.trod enc Try.prog w 0 sp held nn 2 [c8] = some y8 := h8
    obtain ⟨m, e8, _, wm⟩ := DataW.trod_int Try.underlying2 g8
    have h9 : DataW.trod enc Try.prog w 0 sp held nn 22 (List.take (Try.prog.cellsOf 22) (List.drop 9 [c0, c1, c2, c3, c4, c5, c6, c7, c8, c9])) = some y9 := by have := hf 9 _ rfl; exact this
    rw [ss_cells_skips] at h9
    have g9 : DataW.trod enc Try.prog w 0 sp held nn 22 [c9] = some y9 := h9
    obtain ⟨u, K, e9, aK, wK⟩ := argL_open (f := skipC) Try.underlying22 ss_cells_skip (by decide) skipC_len (fun n cs x h => skip_open h) g9
    simp only [List.cons.injEq, and_true] at e0 e1 e2 e3 e4 e5 e6 e7 e8 e9
    obtain rfl := e0
    obtain rfl := e1
    obtain rfl := e2
    obtain rfl := e3
    obtain rfl := e4
    obtain rfl := e5
    obtain rfl := e6
    obtain rfl := e7
    obtain rfl := e8
    obtain rfl := e9
    exact ⟨r, o, p, t, k, n, v, q, m, _, K, rfl, aK, wK, wr, wo, wp, wt, wk, wq⟩
theorem held_open {H : Type} {enc : TypeId × Value → H} {w : World} {sp : Nat → Bool} {held : Bool} {fuel : Nat} {cs : List Value} {x : DataW H × List MemPlace} (h : DataW.trod enc Try.prog w 0 sp held fuel 141 cs = some x) :
    ∃ a : HeldT, cs = heldC a ∧ heldA a w := by
  obtain ⟨xs, nn, _, hx, hl, hn, hf⟩ := DataW.trod_struct Try.underlying141 h
  rw [dv_cells_held] at hl
  match cs, hl with
  | [c0, c1, c2, c3, c4, c5, c6, c7, c8, c9, c10, c11, c12, c13, c14, c15], _ =>
  match xs, hn with
  | [y0, y1, y2, y3, y4], _ =>
    have h0 : DataW.trod enc Try.prog w 0 sp held nn 9 (List.take (Try.prog.cellsOf 9) (List.drop 0 [c0, c1, c2, c3, c4, c5, c6, c7, c8, c9, c10, c11, c12, c13, c14, c15])) = some y0 := by have := hf 0 _ rfl; exact this
    rw [ss_cells_s] at h0
    have g0 : DataW.trod enc Try.prog w 0 sp held nn 9 [c0] = some y0 := h0
    obtain ⟨id, e0, _, wid⟩ := DataW.trod_string Try.underlying9 g0
    have h1 : DataW.trod enc Try.prog w 0 sp held nn 9 (List.take (Try.prog.cellsOf 9) (List.drop 1 [c0, c1, c2, c3, c4, c5, c6, c7, c8, c9, c10, c11, c12, c13, c14, c15])) = some y1 := by have := hf 1 _ rfl; exact this
    rw [ss_cells_s] at h1
    have g1 : DataW.trod enc Try.prog w 0 sp held nn 9 [c1] = some y1 := h1
    obtain ⟨ad, e1, _, wad⟩ := DataW.trod_string Try.underlying9 g1
    have h2 : DataW.trod enc Try.prog w 0 sp held nn 24 (List.take (Try.prog.cellsOf 24) (List.drop 2 [c0, c1, c2, c3, c4, c5, c6, c7, c8, c9, c10, c11, c12, c13, c14, c15])) = some y2 := by have := hf 2 _ rfl; exact this
    rw [ss_cells_ses] at h2
    have g2 : DataW.trod enc Try.prog w 0 sp held nn 24 [c2, c3, c4, c5, c6, c7, c8, c9, c10, c11] = some y2 := h2
    obtain ⟨r, o, p, t, k, n, v, q, m, u, K, e2, hS⟩ := ses_open g2
    have h3 : DataW.trod enc Try.prog w 0 sp held nn 4 (List.take (Try.prog.cellsOf 4) (List.drop 12 [c0, c1, c2, c3, c4, c5, c6, c7, c8, c9, c10, c11, c12, c13, c14, c15])) = some y3 := by have := hf 3 _ rfl; exact this
    rw [ss_cells_b] at h3
    have g3 : DataW.trod enc Try.prog w 0 sp held nn 4 [c12] = some y3 := h3
    obtain ⟨has, e3, _⟩ := DataW.trod_bool Try.underlying4 g3
    have h4 : DataW.trod enc Try.prog w 0 sp held nn 139 (List.take (Try.prog.cellsOf 139) (List.drop 13 [c0, c1, c2, c3, c4, c5, c6, c7, c8, c9, c10, c11, c12, c13, c14, c15])) = some y4 := by have := hf 4 _ rfl; exact this
    rw [dv_cells_init] at h4
    have g4 : DataW.trod enc Try.prog w 0 sp held nn 139 [c13, c14, c15] = some y4 := h4
    obtain ⟨pa, pb, one, e4, wpa, wpb⟩ := init_open g4
    have e2 : [c2, c3, c4, c5, c6, c7, c8, c9, c10, c11] = [.string r, .string o, .string p, .string t, .string k, .int .i64 n, .int .i64 v, .string q, .int .i64 m, u] := e2
    simp only [List.cons.injEq, and_true] at e0 e1 e2 e3 e4
    obtain rfl := e0
    obtain rfl := e1
    obtain ⟨rfl, rfl, rfl, rfl, rfl, rfl, rfl, rfl, rfl, rfl⟩ := e2
    obtain rfl := e3
    obtain ⟨rfl, rfl, rfl⟩ := e4
    exact ⟨⟨id, ad, r, o, p, t, k, n, v, q, m, _, K, has, pa, pb, one⟩, rfl, hS, wid, wad, wpa, wpb⟩
theorem peer_open {H : Type} {enc : TypeId × Value → H} {w : World} {sp : Nat → Bool} {held : Bool} {fuel : Nat} {cs : List Value} {x : DataW H × List MemPlace} (h : DataW.trod enc Try.prog w 0 sp held fuel 114 cs = some x) :
    ∃ a : PeerT, cs = peerC a ∧ peerA a w := by
  obtain ⟨xs, n, _, hx, hl, hn, hf⟩ := DataW.trod_struct Try.underlying114 h
  rw [dv_cells_peer] at hl
  match cs, hl with
  | [c0, c1, c2], _ =>
  match xs, hn with
  | [y0, y1, y2], _ =>
    have h0 : DataW.trod enc Try.prog w 0 sp held n 2 (List.take (Try.prog.cellsOf 2) (List.drop 0 [c0, c1, c2])) = some y0 := by have := hf 0 _ rfl; exact this
    rw [ss_cells_i] at h0
    have g0 : DataW.trod enc Try.prog w 0 sp held n 2 [c0] = some y0 := h0
    obtain ⟨z, e0, _, wz⟩ := DataW.trod_int Try.underlying2 g0
    have h1 : DataW.trod enc Try.prog w 0 sp held n 9 (List.take (Try.prog.cellsOf 9) (List.drop 1 [c0, c1, c2])) = some y1 := by have := hf 1 _ rfl; exact this
    rw [ss_cells_s] at h1
    have g1 : DataW.trod enc Try.prog w 0 sp held n 9 [c1] = some y1 := h1
    obtain ⟨p, e1, _, wp⟩ := DataW.trod_string Try.underlying9 g1
    have h2 : DataW.trod enc Try.prog w 0 sp held n 112 (List.take (Try.prog.cellsOf 112) (List.drop 2 [c0, c1, c2])) = some y2 := by have := hf 2 _ rfl; exact this
    rw [dv_cells_helds] at h2
    have g2 : DataW.trod enc Try.prog w 0 sp held n 112 [c2] = some y2 := h2
    obtain ⟨u, L, e2, aL, wL⟩ := argL_open (f := heldC) (W := fun a => heldA a w) Try.underlying112 dv_cells_held (by decide) heldC_len (fun n cs x h => held_open h) g2
    simp only [List.cons.injEq, and_true] at e0 e1 e2
    obtain rfl := e0
    obtain rfl := e1
    obtain rfl := e2
    exact ⟨⟨z, p, _, L⟩, rfl, aL, wL, wp⟩
theorem device_open {H : Type} {enc : TypeId × Value → H} {w : World} {sp : Nat → Bool} {held : Bool} {rc : Reach} {b0 : Nat} {vv : Value} {d : DataW H} {ps : List MemPlace} (hv : Value.okWide Try.prog w rc b0 40 vv) (h : DataW.Trod enc Try.prog w 0 sp held 40 vv d ps) :
    ∃ a : DevT, vv = .agg (devC a).toArray ∧ devA a w := by
  obtain ⟨cs, rfl, _⟩ := okWide_struct Try.underlying40 hv
  obtain ⟨fuel, hf0⟩ := h
  obtain ⟨l⟩ := cs
  simp only [Value.cells] at hf0
  obtain ⟨xs, n, _, hx, hl, hn, hf⟩ := DataW.trod_struct Try.underlying40 hf0
  rw [dv_cells_dev] at hl
  match l, hl with
  | [c0, c1, c2, c3, c4, c5, c6, c7], _ =>
  match xs, hn with
  | [y0, y1, y2, y3, y4, y5], _ =>
    have h0 : DataW.trod enc Try.prog w 0 sp held n 2 (List.take (Try.prog.cellsOf 2) (List.drop 0 [c0, c1, c2, c3, c4, c5, c6, c7])) = some y0 := by have := hf 0 _ rfl; exact this
    rw [ss_cells_i] at h0
    have g0 : DataW.trod enc Try.prog w 0 sp held n 2 [c0] = some y0 := h0
    obtain ⟨z, e0, _, wz⟩ := DataW.trod_int Try.underlying2 g0
    have h1 : DataW.trod enc Try.prog w 0 sp held n 2 (List.take (Try.prog.cellsOf 2) (List.drop 1 [c0, c1, c2, c3, c4, c5, c6, c7])) = some y1 := by have := hf 1 _ rfl; exact this
    rw [ss_cells_i] at h1
    have g1 : DataW.trod enc Try.prog w 0 sp held n 2 [c1] = some y1 := h1
    obtain ⟨us, e1, _, wus⟩ := DataW.trod_int Try.underlying2 g1
    have h2 : DataW.trod enc Try.prog w 0 sp held n 36 (List.take (Try.prog.cellsOf 36) (List.drop 2 [c0, c1, c2, c3, c4, c5, c6, c7])) = some y2 := by have := hf 2 _ rfl; exact this
    rw [dv_cells_pair] at h2
    have g2 : DataW.trod enc Try.prog w 0 sp held n 36 [c2, c3] = some y2 := h2
    obtain ⟨ik, ip, e2, wik, wip⟩ := pair_open g2
    have h3 : DataW.trod enc Try.prog w 0 sp held n 36 (List.take (Try.prog.cellsOf 36) (List.drop 4 [c0, c1, c2, c3, c4, c5, c6, c7])) = some y3 := by have := hf 3 _ rfl; exact this
    rw [dv_cells_pair] at h3
    have g3 : DataW.trod enc Try.prog w 0 sp held n 36 [c4, c5] = some y3 := h3
    obtain ⟨sk, sq, e3, wsk, wsq⟩ := pair_open g3
    have h4 : DataW.trod enc Try.prog w 0 sp held n 37 (List.take (Try.prog.cellsOf 37) (List.drop 6 [c0, c1, c2, c3, c4, c5, c6, c7])) = some y4 := by have := hf 4 _ rfl; exact this
    rw [dv_cells_ones] at h4
    have g4 : DataW.trod enc Try.prog w 0 sp held n 37 [c6] = some y4 := h4
    obtain ⟨vo, ones, e4, aO, wO⟩ := argL_open (f := oneC) (W := fun a => oneA a w) Try.underlying37 dv_cells_one (by decide) oneC_len (fun n cs x h => one_open h) g4
    have h5 : DataW.trod enc Try.prog w 0 sp held n 38 (List.take (Try.prog.cellsOf 38) (List.drop 7 [c0, c1, c2, c3, c4, c5, c6, c7])) = some y5 := by have := hf 5 _ rfl; exact this
    rw [dv_cells_peers] at h5
    have g5 : DataW.trod enc Try.prog w 0 sp held n 38 [c7] = some y5 := h5
    obtain ⟨vp, peers, e5, aP, wP⟩ := argL_open (f := peerC) (W := fun a => peerA a w) Try.underlying38 dv_cells_peer (by decide) peerC_len (fun n cs x h => peer_open h) g5
    simp only [List.cons.injEq, and_true] at e0 e1 e2 e3 e4 e5
    obtain rfl := e0
    obtain rfl := e1
    obtain ⟨rfl, rfl⟩ := e2
    obtain ⟨rfl, rfl⟩ := e3
    obtain rfl := e4
    obtain rfl := e5
    exact ⟨⟨z, us, ik, ip, sk, sq, _, ones, _, peers⟩, rfl, aO, wO, aP, wP, wik, wip, wsk, wsq⟩

end Go.Proofs.Ytkglgficmealnaa

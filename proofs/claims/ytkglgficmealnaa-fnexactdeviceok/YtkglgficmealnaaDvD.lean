/- The exact laws' helpers for devices. -/
import Derived.Test.YtkglgficmealnaaRnOne
import Derived.Test.YtkglgficmealnaaRnPeer
import Derived.Test.YtkglgficmealnaaArgl
import Derived.Test.YtkglgficmealnaaMathS
namespace Go.Proofs.Ytkglgficmealnaa
open Go.RowKit Go.My Go.Lib Go.ChangeShapes Go.WideShapes
set_option linter.unusedVariables false
set_option maxRecDepth 100000

structure DevT where
  id : Int
  user : Int
  ik : ByteArray
  ip : ByteArray
  sk : ByteArray
  sp : ByteArray
  vo : Value
  ones : List OneT
  vp : Value
  peers : List PeerT
def devC (a : DevT) : List Value := [.int .i64 a.id, .int .i64 a.user, .string a.ik, .string a.ip, .string a.sk, .string a.sp, a.vo, a.vp]
def devA (a : DevT) (w : World) : Prop := ArgL 3 oneC a.vo a.ones w ∧ (∀ x ∈ a.ones, oneA x w) ∧ ArgL 3 peerC a.vp a.peers w ∧ (∀ x ∈ a.peers, peerA x w) ∧ a.ik.size ≤ maxLen ∧ a.ip.size ≤ maxLen ∧ a.sk.size ≤ maxLen ∧ a.sp.size ≤ maxLen
def devQ (B : Nat) (a : DevT) (w : World) : Prop := RowL B 74 3 oneC a.vo a.ones w ∧ RowL B 78 3 peerC a.vp a.peers w ∧ ∀ x ∈ a.peers, peerQ B x w
def devG (a : DevT) : DevT := { a with vo := .slice none 0 0, vp := .slice none 0 0, peers := a.peers.map peerG }
def devM (a : DevT) : Prop := a.ones.length ≤ 1048576 ∧ a.peers.length ≤ 1048576 ∧ ∀ x ∈ a.peers, peerM (peerG x)
theorem devA.below {B : Nat} {a : DevT} {w w' : World} (h : devA a w) (hb : Below B w w') (hB : B = w.heap.size := by rfl) : devA a w' := ⟨h.1.below (by rw [← hB]; exact hb), h.2.1, h.2.2.1.below (by rw [← hB]; exact hb), fun x hx => peerA.below (h.2.2.2.1 x hx) hb hB, h.2.2.2.2⟩
theorem devQ.below {B B' : Nat} {a : DevT} {w w' : World} (h : devQ B a w) (hb : Below B' w w') (hB : B' = w.heap.size := by rfl) : devQ B a w' := ⟨h.1.below (by rw [← hB]; exact hb), h.2.1.below (by rw [← hB]; exact hb), fun x hx => (h.2.2 x hx).below hb hB⟩
theorem devQ.mono {B B' : Nat} {a : DevT} {w : World} (h : devQ B a w) (hb : B' ≤ B) : devQ B' a w := ⟨h.1.mono hb, h.2.1.mono hb, fun x hx => (h.2.2 x hx).mono hb⟩
theorem devQ.kept {B g : Nat} {a : DevT} {w w' : World} (h : devQ B a w) (hg : w.grownBy w' (some g)) (hgB : g < B) : devQ B a w' := ⟨RowL.kept h.1 hg (row_ne h.1 hgB), RowL.kept h.2.1 hg (row_ne h.2.1 hgB), fun x hx => (h.2.2 x hx).kept hg hgB⟩
theorem szDevX (i us : Int) (ik ip sk sp : ByteArray) (vo vp : Value) : (Try.prog.info? 47).map (·.size) = some (#[.int .i64 i, .int .i64 us, .string ik, .string ip, .string sk, .string sp, vo, vp] : Array Value).size := by kernel_rfl
theorem szDevXL (i us : Int) (ik ip sk sp : ByteArray) (vo vp : Value) : (Try.prog.info? 40).map (·.size) = some (#[.int .i64 i, .int .i64 us, .string ik, .string ip, .string sk, .string sp, vo, vp] : Array Value).size := by kernel_rfl
theorem oneDevX (i us : Int) (ik ip sk sp : ByteArray) (p1 p2 : Option Addr) (n1 c1 n2 c2 : Nat) : (#[.int .i64 i, .int .i64 us, .string ik, .string ip, .string sk, .string sp, .slice p1 n1 c1, .slice p2 n2 c2] : Array Value).all (·.oneCell') = true := by simp [Value.oneCell']
theorem oneG_id (l : List OneT) : l.map oneG = l := by
  have : (oneG : OneT → OneT) = fun a => a := rfl
  rw [this, List.map_id']

set_option maxHeartbeats 4000000 in
theorem toDevice_c (a : DevT) (w : World) (h : devA a w) (hm : devM a) : Calls Try.prog 19 #[.agg (devC a).toArray] w fun e w' => ∃ a', e = .returned (.agg (devC a').toArray) ∧ devG a' = devG a ∧ devQ w.heap.size a' w' ∧ Below w.heap.size w w' := by
  obtain ⟨i, us, ik, ip, sk, sp, vo, ones, vp, peers⟩ := a
  have H := Lib.hid h
  have HM := Lib.hid hm
  obtain ⟨po, co, eo⟩ : ∃ po co, vo = .slice po ones.length co := by obtain ⟨p, c, e, _⟩ := h.1; exact ⟨p, c, e⟩
  obtain ⟨pp, cp, ep⟩ : ∃ po co, vp = .slice po peers.length co := by obtain ⟨p, c, e, _⟩ := h.2.2.1; exact ⟨p, c, e⟩
  subst eo ep
  show Calls _ _ #[.agg #[.int .i64 i, .int .i64 us, .string ik, .string ip, .string sk, .string sp, .slice po ones.length co, .slice pp peers.length cp]] _ _
  obtain ⟨hB0, ha0, hr0, ho0, _⟩ := boxes3 w (.cells #[.int .i64 i, .int .i64 us, .string ik, .string ip, .string sk, .string sp, .slice po ones.length co, .slice pp peers.length cp] 40) (.cells #[.int .i64 0, .int .i64 0, .string (ByteArray.mk #[]), .string (ByteArray.mk #[]), .string (ByteArray.mk #[]), .string (ByteArray.mk #[]), .slice none 0 0, .slice none 0 0] 47) (.cells #[.int .i64 i, .int .i64 us, .string (ByteArray.mk #[]), .string (ByteArray.mk #[]), .string (ByteArray.mk #[]), .string (ByteArray.mk #[]), .slice none 0 0, .slice none 0 0] 47) _ (Below.refl _ _)
  have HX := Lib.hid (And.intro hB0 (And.intro ha0 (And.intro hr0 ho0)))
  have x2 : _ = some (Value.string ik) := cell_of_row _ w.heap.size 2 _ _ _ ha0
  have x3 : _ = some (Value.string ip) := cell_of_row _ w.heap.size 3 _ _ _ ha0
  clear h hm hB0 ha0 hr0 ho0
  go_enter Try.func19, Try.ntmps19
  go_wp2_with fail
  refine (toPair_any ik ip _).mono ?_
  rintro e w1 ⟨rfl, hb⟩
  clear x2 x3
  have HX := Lib.hid (And.intro (HX.out.1.trans (hb.mono HX.out.1.size)) (And.intro ((hb.block _ (Array.getElem?_eq_some_iff.1 HX.out.2.1).1).trans HX.out.2.1) (And.intro ((hb.block _ (Array.getElem?_eq_some_iff.1 HX.out.2.2.1).1).trans HX.out.2.2.1) ((hb.block _ (Array.getElem?_eq_some_iff.1 HX.out.2.2.2).1).trans HX.out.2.2.2))))
  clear hb
  have o2 : w1.cell? ⟨w.heap.size + 1 + 1, 2, none⟩ = _ := cell_of_row w1 (w.heap.size + 1 + 1) 2 _ _ _ HX.out.2.2.2
  have of2 := frozen_of_row w1 (w.heap.size + 1 + 1) 2 _ _ HX.out.2.2.2
  have o3 : w1.cell? ⟨w.heap.size + 1 + 1, 3, none⟩ = _ := cell_of_row w1 (w.heap.size + 1 + 1) 3 _ _ _ HX.out.2.2.2
  have of3 := frozen_of_row w1 (w.heap.size + 1 + 1) 3 _ _ HX.out.2.2.2
  simp at o2
  simp at o3
  go_upto_region 5 with (fail)
  clear o2 of2 o3 of3
  have hgr := grw_set (grw_set (grw_refl w1 (some (w.heap.size + 1 + 1))) 2 (.string ik)) 3 (.string ip)
  have HX := Lib.hid (And.intro (HX.out.1.grown hgr HX.out.1.size (fun q hq => by have := Option.some.inj hq; omega)) (And.intro ((heap_setCell_other _ ⟨w.heap.size + 1 + 1, 3, none⟩ w.heap.size (.string ip) (by show w.heap.size ≠ w.heap.size + 1 + 1; omega)).trans ((heap_setCell_other _ ⟨w.heap.size + 1 + 1, 2, none⟩ w.heap.size (.string ik) (by show w.heap.size ≠ w.heap.size + 1 + 1; omega)).trans HX.out.2.1)) (And.intro ((heap_setCell_other _ ⟨w.heap.size + 1 + 1, 3, none⟩ (w.heap.size + 1) (.string ip) (by show w.heap.size + 1 ≠ w.heap.size + 1 + 1; omega)).trans ((heap_setCell_other _ ⟨w.heap.size + 1 + 1, 2, none⟩ (w.heap.size + 1) (.string ik) (by show w.heap.size + 1 ≠ w.heap.size + 1 + 1; omega)).trans HX.out.2.2.1)) (show ((w1.setCell ⟨w.heap.size + 1 + 1, 2, none⟩ (.string ik)).setCell ⟨w.heap.size + 1 + 1, 3, none⟩ (.string ip)).heap[w.heap.size + 1 + 1]? = some (.cells #[.int .i64 i, .int .i64 us, .string ik, .string ip, .string (ByteArray.mk #[]), .string (ByteArray.mk #[]), .slice none 0 0, .slice none 0 0] 47 (0, 0)) from (heap_setCell_same _ (w.heap.size + 1 + 1) 3 _ _ (.string ip) (heap_setCell_same _ (w.heap.size + 1 + 1) 2 _ _ (.string ik) HX.out.2.2.2))))))
  clear hgr
  generalize ((w1.setCell ⟨w.heap.size + 1 + 1, 2, none⟩ (.string ik)).setCell ⟨w.heap.size + 1 + 1, 3, none⟩ (.string ip)) = w2 at HX ⊢
  have x4 : w2.cell? ⟨w.heap.size, 4, none⟩ = some (Value.string sk) := cell_of_row w2 w.heap.size 4 _ _ _ HX.out.2.1
  have x5 : w2.cell? ⟨w.heap.size, 5, none⟩ = some (Value.string sp) := cell_of_row w2 w.heap.size 5 _ _ _ HX.out.2.1
  go_wp2_with fail
  refine (toPair_any sk sp _).mono ?_
  rintro e w3 ⟨rfl, hb⟩
  clear x4 x5
  have HX := Lib.hid (And.intro (HX.out.1.trans (hb.mono HX.out.1.size)) (And.intro ((hb.block _ (Array.getElem?_eq_some_iff.1 HX.out.2.1).1).trans HX.out.2.1) (And.intro ((hb.block _ (Array.getElem?_eq_some_iff.1 HX.out.2.2.1).1).trans HX.out.2.2.1) ((hb.block _ (Array.getElem?_eq_some_iff.1 HX.out.2.2.2).1).trans HX.out.2.2.2))))
  clear hb
  have o4 : w3.cell? ⟨w.heap.size + 1 + 1, 4, none⟩ = _ := cell_of_row w3 (w.heap.size + 1 + 1) 4 _ _ _ HX.out.2.2.2
  have of4 := frozen_of_row w3 (w.heap.size + 1 + 1) 4 _ _ HX.out.2.2.2
  have o5 : w3.cell? ⟨w.heap.size + 1 + 1, 5, none⟩ = _ := cell_of_row w3 (w.heap.size + 1 + 1) 5 _ _ _ HX.out.2.2.2
  have of5 := frozen_of_row w3 (w.heap.size + 1 + 1) 5 _ _ HX.out.2.2.2
  simp at o4
  simp at o5
  go_upto_region 6 with (fail)
  clear o4 of4 o5 of5
  have hgr := grw_set (grw_set (grw_refl w3 (some (w.heap.size + 1 + 1))) 4 (.string sk)) 5 (.string sp)
  have HX := Lib.hid (And.intro (HX.out.1.grown hgr HX.out.1.size (fun q hq => by have := Option.some.inj hq; omega)) (And.intro ((heap_setCell_other _ ⟨w.heap.size + 1 + 1, 5, none⟩ w.heap.size (.string sp) (by show w.heap.size ≠ w.heap.size + 1 + 1; omega)).trans ((heap_setCell_other _ ⟨w.heap.size + 1 + 1, 4, none⟩ w.heap.size (.string sk) (by show w.heap.size ≠ w.heap.size + 1 + 1; omega)).trans HX.out.2.1)) (And.intro ((heap_setCell_other _ ⟨w.heap.size + 1 + 1, 5, none⟩ (w.heap.size + 1) (.string sp) (by show w.heap.size + 1 ≠ w.heap.size + 1 + 1; omega)).trans ((heap_setCell_other _ ⟨w.heap.size + 1 + 1, 4, none⟩ (w.heap.size + 1) (.string sk) (by show w.heap.size + 1 ≠ w.heap.size + 1 + 1; omega)).trans HX.out.2.2.1)) (show ((w3.setCell ⟨w.heap.size + 1 + 1, 4, none⟩ (.string sk)).setCell ⟨w.heap.size + 1 + 1, 5, none⟩ (.string sp)).heap[w.heap.size + 1 + 1]? = some (.cells #[.int .i64 i, .int .i64 us, .string ik, .string ip, .string sk, .string sp, .slice none 0 0, .slice none 0 0] 47 (0, 0)) from (heap_setCell_same _ (w.heap.size + 1 + 1) 5 _ _ (.string sp) (heap_setCell_same _ (w.heap.size + 1 + 1) 4 _ _ (.string sk) HX.out.2.2.2))))))
  clear hgr
  generalize ((w3.setCell ⟨w.heap.size + 1 + 1, 4, none⟩ (.string sk)).setCell ⟨w.heap.size + 1 + 1, 5, none⟩ (.string sp)) = w4 at HX ⊢
  have x6 : w4.cell? ⟨w.heap.size, 6, none⟩ = some (Value.slice po ones.length co) := cell_of_row w4 w.heap.size 6 _ _ _ HX.out.2.1
  have C := Lib.hid (toOneS_c _ ones w4 (H.out.1.below HX.out.1) H.out.2.1 (fun _ _ => trivial) HM.out.1)
  go_wp2_with fail
  refine C.out.mono ?_
  rintro e w5 ⟨v1, l1, rfl, hR, _, hG, hb⟩
  rw [oneG_id, oneG_id] at hG
  rw [hG] at hR
  clear hG
  have hlow : w.heap.size + 1 + 1 + 1 ≤ w4.heap.size := (Array.getElem?_eq_some_iff.1 HX.out.2.2.2).1
  have hR1 : RowL (w.heap.size + 1 + 1 + 1) 74 3 oneC v1 ones w5 := hR.mono hlow
  obtain ⟨q1, d1, rfl, _, _, _⟩ := hR1.open
  clear x6 C hR hlow
  have HX := Lib.hid (And.intro (HX.out.1.trans (hb.mono HX.out.1.size)) (And.intro ((hb.block _ (Array.getElem?_eq_some_iff.1 HX.out.2.1).1).trans HX.out.2.1) (And.intro ((hb.block _ (Array.getElem?_eq_some_iff.1 HX.out.2.2.1).1).trans HX.out.2.2.1) ((hb.block _ (Array.getElem?_eq_some_iff.1 HX.out.2.2.2).1).trans HX.out.2.2.2))))
  clear hb
  have o6 : w5.cell? ⟨w.heap.size + 1 + 1, 6, none⟩ = _ := cell_of_row w5 (w.heap.size + 1 + 1) 6 _ _ _ HX.out.2.2.2
  have of6 := frozen_of_row w5 (w.heap.size + 1 + 1) 6 _ _ HX.out.2.2.2
  simp at o6
  go_upto_region 7 with (fail)
  clear o6 of6
  have hgr := grw_set (grw_refl w5 (some (w.heap.size + 1 + 1))) 6 (.slice q1 ones.length d1)
  have HX := Lib.hid (And.intro (HX.out.1.grown hgr HX.out.1.size (fun q hq => by have := Option.some.inj hq; omega)) (And.intro ((heap_setCell_other _ ⟨w.heap.size + 1 + 1, 6, none⟩ w.heap.size (.slice q1 ones.length d1) (by show w.heap.size ≠ w.heap.size + 1 + 1; omega)).trans HX.out.2.1) (And.intro ((heap_setCell_other _ ⟨w.heap.size + 1 + 1, 6, none⟩ (w.heap.size + 1) (.slice q1 ones.length d1) (by show w.heap.size + 1 ≠ w.heap.size + 1 + 1; omega)).trans HX.out.2.2.1) (show (w5.setCell ⟨w.heap.size + 1 + 1, 6, none⟩ (.slice q1 ones.length d1)).heap[w.heap.size + 1 + 1]? = some (.cells #[.int .i64 i, .int .i64 us, .string ik, .string ip, .string sk, .string sp, .slice q1 ones.length d1, .slice none 0 0] 47 (0, 0)) from (heap_setCell_same _ (w.heap.size + 1 + 1) 6 _ _ (.slice q1 ones.length d1) HX.out.2.2.2)))))
  have HO := Lib.hid (RowL.kept hR1 hgr (row_ne hR1 (Nat.lt_succ_self _)))
  clear hR1
  clear hgr
  generalize (w5.setCell ⟨w.heap.size + 1 + 1, 6, none⟩ (.slice q1 ones.length d1)) = w6 at HX HO ⊢
  have x7 : w6.cell? ⟨w.heap.size, 7, none⟩ = some (Value.slice pp peers.length cp) := cell_of_row w6 w.heap.size 7 _ _ _ HX.out.2.1
  have C := Lib.hid (toPeerS_c _ peers w6 (H.out.2.2.1.below HX.out.1) (fun x hx => peerA.below (H.out.2.2.2.1 x hx) HX.out.1) HM.out.2.2 HM.out.2.1)
  go_wp2_with fail
  refine C.out.mono ?_
  rintro e w7 ⟨v2, l2, rfl, hR, hQ, hG, hb⟩
  have hlow : w.heap.size + 1 + 1 + 1 ≤ w6.heap.size := (Array.getElem?_eq_some_iff.1 HX.out.2.2.2).1
  have hD : devQ (w.heap.size + 1 + 1 + 1) ⟨i, us, ik, ip, sk, sp, _, ones, v2, l2⟩ w7 := ⟨HO.out.below hb, hR.mono hlow, fun x hx => (hQ x hx).mono hlow⟩
  obtain ⟨q2, d2, e2, _, _, _⟩ := RowL.open hR
  subst e2
  have HG := Lib.hid hG
  clear x7 C hR hQ hG hlow HO
  have HX := Lib.hid (And.intro (HX.out.1.trans (hb.mono HX.out.1.size)) (And.intro ((hb.block _ (Array.getElem?_eq_some_iff.1 HX.out.2.1).1).trans HX.out.2.1) (And.intro ((hb.block _ (Array.getElem?_eq_some_iff.1 HX.out.2.2.1).1).trans HX.out.2.2.1) ((hb.block _ (Array.getElem?_eq_some_iff.1 HX.out.2.2.2).1).trans HX.out.2.2.2))))
  clear hb
  have o7 : w7.cell? ⟨w.heap.size + 1 + 1, 7, none⟩ = _ := cell_of_row w7 (w.heap.size + 1 + 1) 7 _ _ _ HX.out.2.2.2
  have of7 := frozen_of_row w7 (w.heap.size + 1 + 1) 7 _ _ HX.out.2.2.2
  simp at o7
  go_upto_region 8 with (fail)
  clear o7 of7
  have hgr := grw_set (grw_refl w7 (some (w.heap.size + 1 + 1))) 7 (.slice q2 l2.length d2)
  have HX := Lib.hid (And.intro (HX.out.1.grown hgr HX.out.1.size (fun q hq => by have := Option.some.inj hq; omega)) (And.intro ((heap_setCell_other _ ⟨w.heap.size + 1 + 1, 7, none⟩ w.heap.size (.slice q2 l2.length d2) (by show w.heap.size ≠ w.heap.size + 1 + 1; omega)).trans HX.out.2.1) (And.intro ((heap_setCell_other _ ⟨w.heap.size + 1 + 1, 7, none⟩ (w.heap.size + 1) (.slice q2 l2.length d2) (by show w.heap.size + 1 ≠ w.heap.size + 1 + 1; omega)).trans HX.out.2.2.1) (show (w7.setCell ⟨w.heap.size + 1 + 1, 7, none⟩ (.slice q2 l2.length d2)).heap[w.heap.size + 1 + 1]? = some (.cells #[.int .i64 i, .int .i64 us, .string ik, .string ip, .string sk, .string sp, .slice q1 ones.length d1, .slice q2 l2.length d2] 47 (0, 0)) from (heap_setCell_same _ (w.heap.size + 1 + 1) 7 _ _ (.slice q2 l2.length d2) HX.out.2.2.2)))))
  have HD := Lib.hid (hD.kept hgr (Nat.lt_succ_self _))
  clear hD
  clear hgr
  generalize (w7.setCell ⟨w.heap.size + 1 + 1, 7, none⟩ (.slice q2 l2.length d2)) = w8 at HX HD ⊢
  go_wp2_with (first
    | (with_reducible refine wpList_load_row (o := ⟨some 26, _, _, _, _, _⟩) rfl 47 _ rfl (w.heap.size + 1 + 1) rfl 47 #[.int .i64 i, .int .i64 us, .string ik, .string ip, .string sk, .string sp, .slice q1 ones.length d1, .slice q2 l2.length d2] (0, 0) _ HX.out.2.2.2 Try.underlying47 rfl (szDevX i us ik ip sk sp (.slice q1 ones.length d1) (.slice q2 l2.length d2)) ?_)
    | ((with_reducible refine wpList_store_row' (o := ⟨none, .store 47 _ _, _, _, _, _⟩) rfl 47 _ _ rfl (w.heap.size + 1) #[.int .i64 i, .int .i64 us, .string ik, .string ip, .string sk, .string sp, .slice q1 ones.length d1, .slice q2 l2.length d2] rfl rfl 47 #[.int .i64 0, .int .i64 0, .string (ByteArray.mk #[]), .string (ByteArray.mk #[]), .string (ByteArray.mk #[]), .string (ByteArray.mk #[]), .slice none 0 0, .slice none 0 0] HX.out.2.2.1 (szDevX i us ik ip sk sp (.slice q1 ones.length d1) (.slice q2 l2.length d2)) rfl (oneDevX i us ik ip sk sp q1 q2 ones.length d1 l2.length d2) ?_); intro w9 hw9 hsw9 hgw9)
    | fail)
  refine bodyPost_ret (v := .agg #[.int .i64 i, .int .i64 us, .string ik, .string ip, .string sk, .string sp, .slice q1 ones.length d1, .slice q2 l2.length d2]) (results_cell_row Try.results19 _ _ (w.heap.size + 1) 47 _ (0, 0) _ rfl hw9 Try.underlying47 rfl (szDevX i us ik ip sk sp (.slice q1 ones.length d1) (.slice q2 l2.length d2))) rfl ⟨⟨i, us, ik, ip, sk, sp, (.slice q1 ones.length d1), ones, (.slice q2 l2.length d2), l2⟩, rfl, ?_, ?_, ?_⟩
  · unfold devG
    simp only [HG.out]
  · exact (HD.out.kept hgw9 (by omega)).mono (by omega)
  · exact HX.out.1.grown hgw9 HX.out.1.size (fun k hk => by have := Option.some.inj hk; omega)

end Go.Proofs.Ytkglgficmealnaa

/- The exact laws' helpers for peers. -/
import Derived.Test.YtkglgficmealnaaRnHeld
import Derived.Test.YtkglgficmealnaaBx
namespace Go.Proofs.Ytkglgficmealnaa
open Go.RowKit Go.My Go.Lib
set_option linter.unusedVariables false
set_option maxRecDepth 100000

structure PeerT where
  id : Int
  ident : ByteArray
  v : Value
  L : List HeldT
def peerC (a : PeerT) : List Value := [.int .i64 a.id, .string a.ident, a.v]
theorem peerC_len (a : PeerT) : (peerC a).length = 3 := rfl
def peerZ : PeerT := ⟨0, ByteArray.empty, .slice none 0 0, []⟩
theorem info_Peer : (Try.prog.info? 78).map (fun i => (i.zero, i.size, i.bytes)) = some (some (.agg #[.int .i64 0, .string ByteArray.empty, .slice none 0 0]), 3, 48) := by kernel_rfl
theorem szPeerI (a : PeerT) : (Try.prog.info? 78).map (·.size) = some (peerC a).toArray.size := by kernel_rfl
theorem szPeerL (a : PeerT) : (Try.prog.info? 114).map (·.size) = some (peerC a).length := by kernel_rfl
def peerA (a : PeerT) (w : World) : Prop := ArgL 16 heldC a.v a.L w ∧ (∀ h ∈ a.L, heldA h w) ∧ a.ident.size ≤ maxLen
def peerQ (B : Nat) (a : PeerT) (w : World) : Prop := RowL B 94 16 heldC a.v a.L w ∧ ∀ h ∈ a.L, heldQ B h w
def peerG (a : PeerT) : PeerT := ⟨a.id, a.ident, .slice none 0 0, a.L.map heldG⟩
def peerM (a : PeerT) : Prop := a.L.length ≤ 1048576 ∧ ∀ h ∈ a.L, heldM h
theorem peerA.below {B : Nat} {a : PeerT} {w w' : World} (h : peerA a w) (hb : Below B w w') (hB : B = w.heap.size := by rfl) : peerA a w' := ⟨h.1.below (by rw [← hB]; exact hb), fun x hx => (h.2.1 x hx).below hb hB, h.2.2⟩
theorem peerQ.below {B B' : Nat} {a : PeerT} {w w' : World} (h : peerQ B a w) (hb : Below B' w w') (hB : B' = w.heap.size := by rfl) : peerQ B a w' := ⟨h.1.below (by rw [← hB]; exact hb), fun x hx => (h.2 x hx).below hb hB⟩
theorem peerQ.mono {B B' : Nat} {a : PeerT} {w : World} (h : peerQ B a w) (hb : B' ≤ B) : peerQ B' a w := ⟨h.1.mono hb, fun x hx => (h.2 x hx).mono hb⟩
theorem peerQ.kept {B g : Nat} {a : PeerT} {w w' : World} (h : peerQ B a w) (hg : w.grownBy w' (some g)) (hgB : g < B) : peerQ B a w' := ⟨RowL.kept h.1 hg (row_ne h.1 hgB), fun x hx => (h.2 x hx).kept hg hgB⟩
theorem onePeerC {B : Nat} {a : PeerT} {w : World} (h : peerQ B a w) : (peerC a).toArray.all (·.oneCell') = true := by
  obtain ⟨p, c, e, _⟩ := RowL.open h.1
  unfold peerC
  rw [e]
  simp [Value.oneCell']
theorem peerM_of {a : PeerT} (h : peerM (peerG a)) : a.L.length ≤ 1048576 ∧ ∀ x ∈ a.L, heldM (heldG x) := by
  refine ⟨?_, fun x hx => h.2 _ (List.mem_map.2 ⟨x, hx, rfl⟩)⟩
  have : (a.L.map heldG).length ≤ 1048576 := h.1
  rw [List.length_map] at this
  exact this

set_option maxHeartbeats 4000000 in
theorem toPeer_c (a : PeerT) (w : World) (h : peerA a w) (hm : peerM (peerG a)) : Calls Try.prog 71 #[.agg (peerC a).toArray] w fun e w' => ∃ a', e = .returned (.agg (peerC a').toArray) ∧ peerG a' = peerG a ∧ peerQ w.heap.size a' w' ∧ Below w.heap.size w w' := by
  have hmm := peerM_of hm
  obtain ⟨i, s, v, L⟩ := a
  obtain ⟨h1, h2, h3⟩ := h
  have h1 : ArgL 16 heldC v L w := h1
  show Calls _ _ #[.agg #[.int .i64 i, .string s, v]] _ _
  obtain ⟨hB0, _, hr0, ho0, _⟩ := boxes3 w (.cells #[.int .i64 i, .string s, v] 114) (.cells #[.int .i64 0, .string (ByteArray.mk #[]), .slice none 0 0] 78) (.cells #[.int .i64 i, .string s, .slice none 0 0] 78) _ (Below.refl _ _)
  have C := Lib.hid (toHeldS_c v L _ (h1.below hB0) (fun x hx => heldA.below (h2 x hx) hB0) hmm.2 hmm.1)
  obtain ⟨pv, cv, rfl, _⟩ := h1
  have HX := Lib.hid (And.intro hB0 (And.intro hr0 ho0))
  clear h2 h3 hm hmm hB0 hr0 ho0
  go_enter Try.func71, Try.ntmps71
  go_wp2_with fail
  refine C.out.mono ?_
  rintro e w1 ⟨v', l', rfl, hR, hQ, hG, hb⟩
  have hr := (hb.block _ (Array.getElem?_eq_some_iff.1 HX.out.2.1).1).trans HX.out.2.1
  have ho := (hb.block _ (Array.getElem?_eq_some_iff.1 HX.out.2.2).1).trans HX.out.2.2
  have hlow : w.heap.size + 1 + 1 + 1 ≤ _ := (Array.getElem?_eq_some_iff.1 HX.out.2.2).1
  have hp : peerQ (w.heap.size + 1 + 1 + 1) ⟨i, s, v', l'⟩ w1 := ⟨hR.mono hlow, fun x hx => (hQ x hx).mono hlow⟩
  obtain ⟨p1, c1, e1, _⟩ := hR.open
  subst e1
  have HN := Lib.hid (And.intro hp (And.intro hG (And.intro (HX.out.1.trans (hb.mono HX.out.1.size)) hr)))
  obtain ⟨⟨o0, o1, o2⟩, of⟩ := dk_cells ho
  obtain ⟨⟨s0, s1, s2⟩, sf⟩ := dk_cells hr
  have of2 := of 2
  have sf0 := sf 0
  have sf1 := sf 1
  have sf2 := sf 2
  clear of sf ho hr hb HX hp hG hR hQ C hlow
  go_wp2
  have q0 := (heap_setCell_other w1 ⟨w.heap.size + 1 + 1, 2, none⟩ (w.heap.size + 1) (.slice p1 l'.length c1) (by simp)).trans HN.out.2.2.2
  have q1 := heap_setCell_same _ (w.heap.size + 1) 0 _ _ (.int .i64 i) q0
  have q2 := heap_setCell_same _ (w.heap.size + 1) 1 _ _ (.string s) q1
  have q3 := heap_setCell_same _ (w.heap.size + 1) 2 _ _ (.slice p1 l'.length c1) q2
  refine bodyPost_ret (v := .agg #[.int .i64 i, .string s, .slice p1 l'.length c1]) (results_cell_row Try.results71 _ _ (w.heap.size + 1) 78 _ (0, 0) _ rfl q3 Try.underlying78 rfl (by kernel_rfl)) rfl ⟨⟨i, s, .slice p1 l'.length c1, l'⟩, rfl, ?_, ?_, ?_⟩
  · unfold peerG; rw [HN.out.2.1]
  · exact peerQ.mono (((((HN.out.1.kept (grw_set (grw_refl _ (some (w.heap.size + 1 + 1))) 2 _) (Nat.lt_succ_self _)).kept (grw_set (grw_refl _ (some (w.heap.size + 1))) 0 _) (by omega)).kept (grw_set (grw_refl _ (some (w.heap.size + 1))) 1 _) (by omega)).kept (grw_set (grw_refl _ (some (w.heap.size + 1))) 2 _) (by omega))) (by omega)
  · exact (((HN.out.2.2.1.setCell (by simp; omega) _).setCell (by simp) _).setCell (by simp) _).setCell (by simp) _

set_option maxHeartbeats 4000000 in
theorem szPeer_c (a : PeerT) (left : Nat) (w : World) (h : peerA a w) (hl : left ≤ 1048576) : Calls Try.prog 68 #[.agg (peerC a).toArray, .int .i64 left] w fun e w' => ((∃ r : Nat, e = .returned (.int .i64 r) ∧ r ≤ left ∧ peerM (peerG a)) ∨ e = .returned (.int .i64 (-1))) ∧ Below w.heap.size w w' := by
  obtain ⟨i, s, v, L⟩ := a
  obtain ⟨h1, h2, h3⟩ := h
  have h1 : ArgL 16 heldC v L w := h1
  have h3 : s.size ≤ maxLen := h3
  show Calls _ _ #[.agg #[.int .i64 i, .string s, v], _] _ _
  have hb0 := below_box w (.cells #[.int .i64 i, .string s, v] 114)
  have hlI : (left : Int) ≤ 1048576 := by omega
  have hms : (s.size : Int) ≤ 9223372036854775807 := by unfold maxLen at h3; omega
  have HB := Lib.hid hb0
  by_cases hs : s.size ≤ left
  case neg =>
    have q1 : (left : Int) - (s.size : Int) < 0 := by omega
    obtain ⟨pv, cv, rfl, _⟩ := h1
    clear hs h2 h3 hb0
    go_enter Try.func68, Try.ntmps68
    go_wp2
    go_ret
    exact ⟨.inr rfl, HB.out⟩
  have q1 : ¬ (left : Int) - (s.size : Int) < 0 := by omega
  have HE : Hid ((left : Int) - (s.size : Int) = ((left - s.size : Nat) : Int)) := by show _ = _; omega
  have C := Lib.hid (szHeldS_c v L (left - s.size) _ (h1.below hb0) (fun x hx => heldA.below (h2 x hx) hb0) (by omega))
  have HLE : Hid (left - s.size ≤ left) := Nat.sub_le _ _
  have HL20 := Lib.hid hl
  obtain ⟨pv, cv, rfl, _⟩ := h1
  clear hs h2 h3 hb0
  go_enter Try.func68, Try.ntmps68
  go_wp2_with fail
  rw [HE.out]
  refine C.out.mono ?_
  rintro e w1 ⟨hres, hb⟩
  have HB1 := Lib.hid (HB.out.trans (hb.mono HB.out.size))
  clear hb C
  rcases hres with ⟨r, rfl, hr, hL, hM⟩ | rfl
  · have q2 : ¬ (r : Int) < 0 := by omega
    have HR : Hid (r ≤ left ∧ peerM (peerG ⟨i, s, .slice pv L.length cv, L⟩)) := by
      have h1 := HLE.out
      have h2 := HL20.out
      refine ⟨by omega, ?_, fun h hh => ?_⟩
      · show (L.map heldG).length ≤ _; rw [List.length_map]; omega
      · obtain ⟨x, hx, rfl⟩ := List.mem_map.1 hh
        exact hM x hx
    clear hr hL hM
    go_wp2
    go_ret
    exact ⟨.inl ⟨r, rfl, HR.out.1, HR.out.2⟩, HB1.out⟩
  · go_wp2
    go_ret
    exact ⟨.inr rfl, HB1.out⟩

set_option maxHeartbeats 4000000 in
theorem eqPeer_c (a b : PeerT) (w : World) (ha : peerQ 0 a w) (hb : peerQ 0 b w) (hg : peerG a = peerG b) (hm : peerM (peerG a)) : Calls Try.prog 74 #[.agg (peerC a).toArray, .agg (peerC b).toArray] w fun e w' => e = .returned (.bool true) ∧ Below w.heap.size w w' := by
  have hmm := peerM_of hm
  obtain ⟨i, s, v, L⟩ := a
  obtain ⟨i', s', v2, L2⟩ := b
  unfold peerG at hg
  injection hg with e1 e2 _ e4
  simp only at e1 e2 e4
  subst e1 e2
  obtain ⟨p1, c1, ev, _⟩ := RowL.open ha.1
  obtain ⟨p2, c2, ev2, _⟩ := RowL.open hb.1
  have ev : v = .slice p1 L.length c1 := ev
  have ev2 : v2 = .slice p2 L2.length c2 := ev2
  subst ev ev2
  show Calls _ _ #[.agg #[.int .i64 i, .string s, .slice p1 L.length c1], .agg #[.int .i64 i, .string s, .slice p2 L2.length c2]] _ _
  obtain ⟨hB0, _, _⟩ := boxes2 w (.cells #[.int .i64 i, .string s, .slice p1 L.length c1] 78) (.cells #[.int .i64 i, .string s, .slice p2 L2.length c2] 78) _ (Below.refl _ _)
  have C := Lib.hid (eqHeldS_c _ _ L L2 _ (RowL.below ha.1 hB0) (RowL.below hb.1 hB0) (fun x hx => heldQ.below (ha.2 x hx) hB0) (fun x hx => heldQ.below (hb.2 x hx) hB0) e4 hmm.2 hmm.1)
  have HB := Lib.hid hB0
  clear ha hb hm hmm hB0 e4
  go_enter Try.func74, Try.ntmps74
  go_wp2_with fail
  refine C.out.mono ?_
  rintro e w1 ⟨rfl, hb⟩
  have hB := HB.out.trans (hb.mono HB.out.size)
  clear hb C
  go_wp2
  go_ret
  exact ⟨rfl, hB⟩

end Go.Proofs.Ytkglgficmealnaa

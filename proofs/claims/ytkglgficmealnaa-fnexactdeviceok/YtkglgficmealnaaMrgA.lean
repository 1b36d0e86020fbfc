/- The program: whether a list of held sessions holds a name. -/
import Derived.Test.YtkglgficmealnaaDvF
import Derived.Test.YtkglgficmealnaaRegJ
namespace Go.Proofs.Ytkglgficmealnaa
open Go.RowKit Go.My Go.Lib
set_option linter.unusedVariables false
set_option maxRecDepth 100000

/-- The block that holds a captured text. -/
structure TxAt (kb : Nat) (n : ByteArray) (w : World) : Prop where
  lt : kb < w.heap.size
  cell : w.cell? ⟨kb, 0, none⟩ = some (.string n)
theorem TxAt.below {kb : Nat} {n : ByteArray} {w w' : World} (h : TxAt kb n w) (hb : Below w.heap.size w w') : TxAt kb n w' :=
  ⟨Nat.lt_of_lt_of_le h.lt hb.size, by rw [hb.cell (p := ⟨kb, 0, none⟩) h.lt]; exact h.cell⟩
theorem neq_txt {a b : ByteArray} (h : a ≠ b) : (a.toList == b.toList) = false := neq_b h
theorem eq_txt (a b : ByteArray) : (a.toList == b.toList) = decide (a = b) := by
  by_cases h : a = b
  · rw [h, decide_eq_true rfl]; exact beq_self_eq_true _
  · rw [neq_txt h, decide_eq_false h]

set_option maxHeartbeats 2000000 in
theorem hc_i (kb : Nat) (x : HeldT) (n : ByteArray) (w : World) (h : TxAt kb n w) :
    Calls Try.prog 96 #[.agg (heldC x).toArray, .pointer (some ⟨kb, 0, none⟩)] w fun e w' => e = .returned (.bool (decide (x.id = n))) ∧ Below w.heap.size w w' := by
  obtain ⟨id, ad, r, o, p, t, k, nn, v, q, m, u, K, has, pa, pb, one⟩ := x
  show Calls _ _ #[.agg #[.string id, .string ad, .string r, .string o, .string p, .string t, .string k, .int .i64 nn, .int .i64 v, .string q, .int .i64 m, u, .bool has, .string pa, .string pb, .int .i64 one], .pointer (some ⟨kb, 0, none⟩)] _ _
  have hb0 : Below w.heap.size w (w.alloc (.cells #[.string id, .string ad, .string r, .string o, .string p, .string t, .string k, .int .i64 nn, .int .i64 v, .string q, .int .i64 m, u, .bool has, .string pa, .string pb, .int .i64 one] 94)) := (Below.refl _ _).alloc (Nat.le_refl _) _
  have hbx : (w.alloc (.cells #[.string id, .string ad, .string r, .string o, .string p, .string t, .string k, .int .i64 nn, .int .i64 v, .string q, .int .i64 m, u, .bool has, .string pa, .string pb, .int .i64 one] 94)).heap[w.heap.size]? = some (.cells #[.string id, .string ad, .string r, .string o, .string p, .string t, .string k, .int .i64 nn, .int .i64 v, .string q, .int .i64 m, u, .bool has, .string pa, .string pb, .int .i64 one] 94 (0, 0)) := heap_alloc_new w _
  have x0 : _ = some (Value.string id) := cell_of_row _ w.heap.size 0 _ _ _ hbx
  have c0 := (h.below hb0).cell
  have he := eq_txt id n
  clear hbx
  show Calls _ _ _ _ fun e w' => e = .returned (.bool (decide (id = n))) ∧ Below w.heap.size w w'
  generalize decide (id = n) = R at *
  go_enter Try.func96, Try.ntmps96
  go_wp2
  go_ret
  exact ⟨rfl, hb0⟩

theorem szHeldJ (a : HeldT) : (Try.prog.info? 94).map (·.size) = some (heldC a).length := by kernel_rfl

/-- No session of this name, or one stands there. -/
def heldIx (l : List HeldT) (n : ByteArray) (r : Int) : Prop := (r = -1 ∧ l.any (fun x => decide (x.id = n)) = false) ∨ (0 ≤ r ∧ l.any (fun x => decide (x.id = n)) = true)
theorem any_no {l : List HeldT} {n : ByteArray} (h : ∀ q (hq : q < l.length), l[q].id ≠ n) : l.any (fun x => decide (x.id = n)) = false := by
  rw [List.any_eq_false]
  intro x hx
  obtain ⟨q, hq, rfl⟩ := List.mem_iff_getElem.1 hx
  simp [h q hq]
theorem any_yes {l : List HeldT} {n : ByteArray} {x : HeldT} (hx : x ∈ l) (h : x.id = n) : l.any (fun x => decide (x.id = n)) = true := by
  rw [List.any_eq_true]
  exact ⟨x, hx, by simp [h]⟩

set_option maxHeartbeats 4000000 in
theorem indexH_i (v : Value) (l : List HeldT) (kb : Nat) (n : ByteArray) (w : World) (h : RowL 0 94 16 heldC v l w) (hl : l.length ≤ 1048576) (hk : TxAt kb n w) :
    Calls Try.prog 104 #[v, .func (.func 96) #[] #[.pointer (some ⟨kb, 0, none⟩)]] w fun e w' => ∃ r : Int, e = .returned (.int .i64 r) ∧ heldIx l n r ∧ Below w.heap.size w w' := by
  obtain ⟨p, cap, rfl, hm, _, hp⟩ := h.open
  have H := Lib.hid h
  have HK := Lib.hid hk
  have hlI : (l.length : Int) ≤ 1048576 := by omega
  clear h hm hk
  go_enter Try.func104, Try.ntmps104
  go_wp2
  go_loopw [8] (fun i wr => ∃ j : Nat, j ≤ l.length ∧ i = .int .i64 j ∧ (∀ q (hq : q < l.length), q < j → l[q].id ≠ n) ∧ Below w.heap.size w wr) (fun i _ => l.length - (intOf i).toNat)
  case atStart => exact ⟨0, Nat.zero_le _, rfl, fun q _ c => by omega, Below.refl _ _⟩
  case round =>
    obtain ⟨j, hj, rfl, hno, hB⟩ := hrel
    have HNO := Lib.hid hno
    clear hno
    by_cases hlt : j < l.length
    case neg =>
      obtain rfl : j = l.length := by omega
      have HR : Hid (heldIx l n (-1)) := .inl ⟨rfl, any_no (fun q hq => HNO.out q hq hq)⟩
      go_wp2
      go_ret
      exact ⟨_, rfl, HR.out, hB⟩
    have hne : l ≠ [] := by intro c; rw [c] at hlt; simp at hlt
    obtain ⟨g, rfl, _, hg⟩ := hp.resolve_left (fun c => hne c.1)
    have j0 : (0 : Int) ≤ (j : Int) := by omega
    have j1 : (j : Int) < (l.length : Int) := by omega
    obtain ⟨x, hx⟩ : ∃ x, l[j] = x := ⟨_, rfl⟩
    have RNG := Lib.hid (show wr.rangeAt g (j * 16) (heldC x) from by have := row_range (H.out.below hB) heldC_len hlt; rw [hx] at this; exact this)
    have CL := Lib.hid (hc_i kb x n wr (HK.out.below hB))
    have HY : Hid (x.id = n → heldIx l n (j : Int)) := fun c => .inr ⟨j0, any_yes (by rw [← hx]; exact List.getElem_mem hlt) c⟩
    have HN : Hid (x.id ≠ n → ∀ q (hq : q < l.length), q < j + 1 → l[q].id ≠ n) := fun c q hq hqj => by
      by_cases e : q = j
      · subst e; rw [hx]; exact c
      · exact HNO.out q hq (by omega)
    clear hx hne hp hg
    go_wp2_with (first | (with_reducible refine wpList_load_mid (op := ⟨some 15, _, _, _, _, _⟩) rfl 94 _ rfl g (j * 16) rfl (heldC x) _ RNG.out Try.underlying94 rfl (szHeldJ x) ?_) | fail)
    refine CL.out.mono ?_
    rintro e w2 ⟨rfl, hb2⟩
    have hB2 := hB.trans (hb2.mono hB.size)
    clear hb2 hB RNG CL
    by_cases he : x.id = n
    · have HR := Lib.hid (HY.out he)
      rw [decide_eq_true he]
      clear he
      go_wp2
      go_ret
      exact ⟨_, rfl, HR.out, hB2⟩
    · have HR := Lib.hid (HN.out he)
      rw [decide_eq_false he]
      clear he
      go_wp2
      go_roundw
      case rel => exact ⟨j + 1, by omega, by go_num, HR.out, hB2⟩
      case measure => simp [intOf]; omega

set_option maxHeartbeats 1000000 in
theorem holds_i (v : Value) (l : List HeldT) (n : ByteArray) (w : World) (h : RowL 0 94 16 heldC v l w) (hl : l.length ≤ 1048576) :
    Calls Try.prog 86 #[v, .string n] w fun e w' => e = .returned (.bool (l.any (fun x => decide (x.id = n)))) ∧ Below w.heap.size w w' := by
  have hb0 : Below w.heap.size w (w.alloc (.cells #[.string n] 9)) := (Below.refl _ _).alloc (Nat.le_refl _) _
  have HK : Hid (TxAt w.heap.size n (w.alloc (.cells #[.string n] 9))) := ⟨by simp, cell_of_row _ w.heap.size 0 _ _ _ (heap_alloc_new w _)⟩
  have C : Hid (Calls Try.prog 95 #[v, .func (.func 96) #[] #[.pointer (some ⟨w.heap.size, 0, none⟩)]] (w.alloc (.cells #[.string n] 9)) fun e w' => e = .returned (.bool (l.any (fun x => decide (x.id = n)))) ∧ Below w.heap.size w w') := by
    have CI := Lib.hid (indexH_i v l w.heap.size n _ (h.below hb0) hl HK.out)
    have HB := Lib.hid hb0
    clear h HK hb0
    show Calls _ _ _ _ _
    go_enter Try.func95, Try.ntmps95
    go_wp2_with fail
    refine CI.out.mono ?_
    rintro e w2 ⟨r, rfl, hr, hb⟩
    have HB2 := Lib.hid (HB.out.trans (hb.mono HB.out.size))
    clear hb
    rcases hr with ⟨rfl, hr⟩ | ⟨h0, hr⟩
    · have HR := Lib.hid hr
      clear hr
      go_wp2
      go_ret
      exact ⟨by rw [HR.out]; rfl, HB2.out⟩
    · have HR := Lib.hid hr
      clear hr
      go_wp2
      go_ret
      exact ⟨by rw [HR.out]; rfl, HB2.out⟩
  clear h HK hb0
  go_enter Try.func86, Try.ntmps86
  go_wp2_with fail
  refine C.out.mono ?_
  rintro e w2 ⟨rfl, hb⟩
  go_wp2
  go_ret
  exact ⟨rfl, hb⟩
end Go.Proofs.Ytkglgficmealnaa

/- A region that draws its order and has guarded operations, by an invariant: guards may be found false (such an operation yields undef). Nothing of the program is named. -/
namespace Go.My
open Go.RowKit
set_option linter.unusedVariables false
section
variable {P : Program} {Q : Exit → Act → World → Prop} {ops : Array Oper} {a0 : Act} {w0 : World}

theorem any_invH (Inv : (Nat → Value) → (Nat → Bool) → World → Prop) (hd : Apart ops ops.size) (hord : orderB ops = true)
    (hs : ∀ (i : Nat) (o : Oper) (v : Nat → Value) (L : Nat → Bool) (w : World), ops[i]? = some o → L i = false → Inv v L w → (∀ j, Dep o j → L j = true) →
      (Region.wanted o (yielded ops (putAll ops v L a0 ops.size).tmps) = true ∧ o.wp P (putAll ops v L a0 ops.size) w (fun a' w' => ∃ x, a' = (putAll ops v L a0 ops.size).put o.dst x ∧ Inv (updV v i x) (updL L i) w') Q) ∨ (Region.wanted o (yielded ops (putAll ops v L a0 ops.size).tmps) = false ∧ Inv (updV v i undef) (updL L i) w))
    (hK : ∀ v w, Inv v (fun j => decide (j < ops.size)) w → Q .normal (putAll ops v (fun j => decide (j < ops.size)) a0 ops.size) w) :
    ∀ (c : Nat) (L : Array Bool) (v : Nat → Value) (w : World), L.size = ops.size → c = cntF (fun j => L.getD j false) ops.size →
      Inv v (fun j => L.getD j false) w → wpAny P .any ops Q c L (putAll ops v (fun j => L.getD j false) a0 ops.size) w := by
  intro c
  induction c with
  | zero =>
    intro L v w hL hc ho
    have hall := cntF_pos ops.size hc.symm
    have he : (fun j => L.getD j false) = fun j => decide (j < ops.size) := by
      funext j
      by_cases h : j < ops.size
      · rw [hall j h, decide_eq_true h]
      · rw [decide_eq_false h]
        simp [Array.getD_eq_getD_getElem?, Array.getElem?_eq_none (show L.size ≤ j by omega)]
    have hr : Region.ready .any ops L = [] := by
      unfold Region.ready
      rw [List.filter_eq_nil_iff]
      intro j hj
      have hj := List.mem_range.1 hj
      have e : L.getD j true = true := by
        have := hall j hj
        simp [Array.getD_eq_getD_getElem?, Array.getElem?_eq_getElem (show j < L.size by omega)] at this ⊢
        exact this
      simp [e]
    rw [he] at ho ⊢
    exact ⟨hr, hK v w ho⟩
  | succ c ih =>
    intro L v w hL hc ho
    have hlt : ∃ j, j < ops.size ∧ L.getD j false = false ∧ ∀ q, q < j → L.getD q false = true := by
      refine Classical.byContradiction fun hno => ?_
      have all : ∀ j, j ≤ ops.size → ∀ q, q < j → L.getD q false = true := by
        intro j
        induction j with
        | zero => intro _ q hq; omega
        | succ j ih2 =>
          intro hj q hq
          by_cases e : q = j
          · subst e
            cases h : L.getD q false with
            | true => rfl
            | false => exact absurd ⟨q, by omega, h, ih2 (by omega)⟩ hno
          · exact ih2 (by omega) q (by omega)
      have z : ∀ n, n ≤ ops.size → cntF (fun j => L.getD j false) n = 0 := by
        intro n
        induction n with
        | zero => intro _; rfl
        | succ n ih3 => intro hn; show cntF _ n + _ = 0; rw [ih3 (by omega), if_pos (show (fun j => L.getD j false) n = true from all ops.size (Nat.le_refl _) n (by omega))]
      rw [z ops.size (Nat.le_refl _)] at hc
      omega
    have inb : ∀ j, j < ops.size → L.getD j true = L.getD j false := fun j hj => by
      simp [Array.getD_eq_getD_getElem?, Array.getElem?_eq_getElem (show j < L.size by omega)]
    show wpAny P .any ops Q (c + 1) L _ w
    refine ⟨fun h => ?_, fun i hi => ?_⟩
    · obtain ⟨j, hj, hf, hq⟩ := hlt
      have hr : j ∈ Region.ready .any ops L := mem_ready.2 ⟨(inb j hj).trans hf, ops[j], Array.getElem?_eq_getElem hj, fun e he hbd => hq e.on ?_⟩
      · rw [h] at hr; cases hr
      · have := List.all_eq_true.1 hord j (List.mem_range.2 hj)
        rw [Array.getElem?_eq_getElem hj] at this
        have := Array.all_eq_true'.1 this e he
        simpa [hbd] using this
    · obtain ⟨hu, o, hoi, hdeps⟩ := mem_ready.1 hi
      have his : i < ops.size := (Array.getElem?_eq_some_iff.1 hoi).1
      rw [inb i his] at hu
      have hdep : ∀ j, Dep o j → L.getD j false = true := fun j ⟨e, he, hb, hj⟩ => hj ▸ hdeps e he hb
      have hdst : dstOf ops i = o.dst := by unfold dstOf; rw [hoi]; rfl
      unfold wpOp
      simp only [hoi]
      rcases hs i o v (fun j => L.getD j false) w hoi hu ho hdep with ⟨hg, hw⟩ | ⟨hg, ho'⟩
      · rw [if_pos hg]
        refine .inl (Oper.wp_mono ?_ hw)
        rintro a' w' ⟨x, rfl, ho'⟩
        have hset : (fun j => (L.setIfInBounds i true).getD j false) = updL (fun j => L.getD j false) i := by
          funext j
          show _ = if j = i then true else L.getD j false
          by_cases e : j = i
          · subst e
            rw [if_pos rfl]
            simp [Array.getD_eq_getD_getElem?, show j < L.size by omega]
          · rw [if_neg e]
            exact getD_set_ne false (Ne.symm e)
        have add := putAll_add hd (a := a0) (v := v) (v' := updV v i x) (L := fun j => L.getD j false) (L' := updL (fun j => L.getD j false) i) his hu (if_pos rfl) (fun j hj => if_neg hj) (fun j hj => if_neg hj) ops.size his (Nat.le_refl _)
        rw [show (updV v i x) i = x from if_pos rfl, hdst] at add
        rw [← add, ← hset]
        refine ih (L.setIfInBounds i true) (updV v i x) w' (by simpa using hL) ?_ (by rw [hset]; exact ho')
        rw [hset]
        have := cntF_set (L := fun j => L.getD j false) hu ops.size his
        have e : cntF (updL (fun j => L.getD j false) i) ops.size + 1 = cntF (fun j => L.getD j false) ops.size := this
        omega
      · rw [if_neg (by rw [hg]; decide)]
        have hset : (fun j => (L.setIfInBounds i true).getD j false) = updL (fun j => L.getD j false) i := by
          funext j
          show _ = if j = i then true else L.getD j false
          by_cases e : j = i
          · subst e
            rw [if_pos rfl]
            simp [Array.getD_eq_getD_getElem?, show j < L.size by omega]
          · rw [if_neg e]
            exact getD_set_ne false (Ne.symm e)
        have add := putAll_add hd (a := a0) (v := v) (v' := updV v i undef) (L := fun j => L.getD j false) (L' := updL (fun j => L.getD j false) i) his hu (if_pos rfl) (fun j hj => if_neg hj) (fun j hj => if_neg hj) ops.size his (Nat.le_refl _)
        rw [show (updV v i undef) i = undef from if_pos rfl, hdst] at add
        rw [← add, ← hset]
        refine ih (L.setIfInBounds i true) (updV v i undef) w (by simpa using hL) ?_ (by rw [hset]; exact ho')
        rw [hset]
        have := cntF_set (L := fun j => L.getD j false) hu ops.size his
        have e : cntF (updL (fun j => L.getD j false) i) ops.size + 1 = cntF (fun j => L.getD j false) ops.size := this
        omega

/-- **A region in whatever order, by an invariant.** -/
theorem region_invH {id : Nat} (Inv : (Nat → Value) → (Nat → Bool) → World → Prop) (hm : P.follows .mixedOrders = true) (hd : apartB ops ops.size = true) (hord : orderB ops = true)
    (h0 : Inv (fun _ => undef) (fun _ => false) w0.drew)
    (hs : ∀ (i : Nat) (o : Oper) (v : Nat → Value) (L : Nat → Bool) (w : World), ops[i]? = some o → L i = false → Inv v L w → (∀ j, Dep o j → L j = true) →
      (Region.wanted o (yielded ops (putAll ops v L a0 ops.size).tmps) = true ∧ o.wp P (putAll ops v L a0 ops.size) w (fun a' w' => ∃ x, a' = (putAll ops v L a0 ops.size).put o.dst x ∧ Inv (updV v i x) (updL L i) w') Q) ∨ (Region.wanted o (yielded ops (putAll ops v L a0 ops.size).tmps) = false ∧ Inv (updV v i undef) (updL L i) w))
    (hK : ∀ v w, Inv v (fun j => decide (j < ops.size)) w → Q .normal (putAll ops v (fun j => decide (j < ops.size)) a0 ops.size) w) :
    (Code.region id ops true).wp P Q a0 w0 := by
  refine wp_region_any hm ?_
  have hz : ∀ j, (Array.replicate ops.size false).getD j false = false := fun j => by
    simp only [Array.getD_eq_getD_getElem?, Array.getElem?_replicate]
    split <;> rfl
  have hzf : (fun j => (Array.replicate ops.size false).getD j false) = fun _ => false := funext hz
  have hput : ∀ v n, putAll ops v (fun _ => false) a0 n = a0 := fun v n => by
    induction n with
    | zero => rfl
    | succ n ih => unfold putAll; rw [if_neg (by decide)]; exact ih
  have hcnt : ∀ n, cntF (fun _ => false) n = n := fun n => by
    induction n with
    | zero => rfl
    | succ n ih => unfold cntF; rw [ih]; rfl
  have := any_invH (P := P) (Q := Q) (ops := ops) (a0 := a0) Inv (apart_of hd) hord hs hK ops.size (Array.replicate ops.size false) (fun _ => undef) w0.drew (by simp) (by rw [hzf, hcnt]) (by rw [hzf]; exact h0)
  rw [hzf, hput] at this
  exact this

/-- .. the frame behind it laid out. -/
theorem region_invLH {id : Nat} (n : Nat) (ds : List (Option Tmp)) (Inv : (Nat → Value) → (Nat → Bool) → World → Prop) (hm : P.follows .mixedOrders = true) (hn : ops.size = n) (hds : (List.range n).map (dstOf ops) = ds) (hd : apartB ops n = true) (hord : orderB ops = true)
    (h0 : Inv (fun _ => undef) (fun _ => false) w0.drew)
    (hs : ∀ (i : Nat) (o : Oper) (v : Nat → Value) (L : Nat → Bool) (w : World), ops[i]? = some o → L i = false → Inv v L w → (∀ j, Dep o j → L j = true) →
      (Region.wanted o (yielded ops (putAll ops v L a0 n).tmps) = true ∧ o.wp P (putAll ops v L a0 n) w (fun a' w' => ∃ x, a' = (putAll ops v L a0 n).put o.dst x ∧ Inv (updV v i x) (updL L i) w') Q) ∨ (Region.wanted o (yielded ops (putAll ops v L a0 n).tmps) = false ∧ Inv (updV v i undef) (updL L i) w))
    (hK : ∀ v w, Inv v (fun j => decide (j < n)) w → Q .normal (putL ds v 0 a0) w) :
    (Code.region id ops true).wp P Q a0 w0 := by
  subst hn
  refine region_invH Inv hm hd hord h0 hs fun v w hI => ?_
  have := hK v w hI
  rw [← hds, ← putAll_list v a0 ops.size ops.size (Nat.le_refl _)] at this
  exact this

/-- A guard that is found to be otherwise. -/
theorem unwanted_at {o : Oper} {n : Nat} (hd : apartB ops n = true) {v : Nat → Value} {L : Nat → Bool} {k : Tmp} (j : Nat) {b : Bool} (hg : o.guard = some (j, b)) (hk : k < a0.tmps.size) (hj : dstOf ops j = some k) (hjs : j < n) (hl : L j = true) (hv : v j = .bool (!b)) : Region.wanted o (yielded ops (putAll ops v L a0 n).tmps) = false := by
  have h1 := (at_new (a0 := a0) hd (v := v) j hk hj hjs hl).trans hv
  have h2 : (ops[j]?).bind (·.dst) = some k := hj
  have h3 : (putAll ops v L a0 n).tmps[k]? = some (.bool (!b)) := by
    simp only [Act.eval, Array.getD_eq_getD_getElem?] at h1
    cases c : (putAll ops v L a0 n).tmps[k]? with
    | none => rw [c] at h1; cases h1
    | some x => rw [c] at h1; exact congrArg some h1
  unfold Region.wanted
  rw [hg]
  show (yielded ops _ j == some b) = false
  unfold yielded
  rw [h2]
  show ((match (putAll ops v L a0 n).tmps[k]? with | some (.bool b) => some b | _ => none) == some b) = false
  rw [h3]
  cases b <;> rfl
end
section
variable {P : Program} {Q : Exit → Act → World → Prop} {o : Oper} {a : Act} {w : World} {K : Act → World → Prop}
theorem wpPickKT {k l : Tmp} {b : Bool} {x c : Value} (hop : o.op = .pick (.tmp k) (.const c) (.tmp l)) (h1 : a.eval (.tmp k) = .bool b) (h2 : b = false → a.eval (.tmp l) = x) (hK : K (a.put o.dst (if b then c else x)) w) : o.wp P a w K Q :=
  wpVal (x := if b then c else x) (w' := w) (by
    unfold execOp; simp only [hop]
    have h3 : a.eval (.const c) = c := rfl
    cases b
    · simp only [h1, h2 rfl, h3]; rfl
    · simp only [h1, h3]; rfl) hK
theorem wpSliceT {T : TypeId} {k l : Tmp} {x y z : Value} (hop : o.op = .slice T (.tmp k) none (some (.tmp l)) none) (h1 : a.eval (.tmp k) = y) (h2 : a.eval (.tmp l) = z) (hr : (Instr.sliceAt T y none (some z) none).run P w = .ok x w) (hK : K (a.put o.dst x) w) : o.wp P a w K Q :=
  wpVal (x := x) (w' := w) (by unfold execOp; simp only [hop]; simp only [h1, h2, Option.map_none, Option.map_some, Sem.run_bind, hr, Result.andThen_ok, Sem.run_pure]) hK
end
end Go.My

/- The program: one peer. -/
namespace Go.Proofs.Ytkglgficmealnaa
open Go.RowKit Go.My Go.Lib
set_option linter.unusedVariables false
set_option maxRecDepth 100000

noncomputable def heldsB (l : List HeldT) : Bool := l.all heldB && decide ((l.map (·.id)).Nodup)
noncomputable def peerB (a : PeerT) : Bool := decide (1 ≤ a.id ∧ a.id ≤ 9) && k32 a.ident && (decide (1 ≤ a.L.length) && decide (a.L.length ≤ 4)) && heldsB a.L
def peerW (a : PeerT) : Prop := a.L.length ≤ 1048576 ∧ ∀ x ∈ a.L, heldW x
theorem heldsB_next {l : List HeldT} {j : Nat} (h : j < l.length) (h0 : heldsB (l.take j) = true) : heldsB (l.take (j + 1)) = (heldB l[j] && !((l.take j).any fun x => decide (x.id = l[j].id))) := by
  unfold heldsB at h0 ⊢
  rw [Bool.and_eq_true] at h0
  obtain ⟨ha, hn⟩ := h0
  have hn := of_decide_eq_true hn
  rw [List.take_succ_eq_append_getElem h, List.all_append, ha, List.map_append]
  simp only [List.all_cons, List.all_nil, Bool.and_true, Bool.true_and, List.map_cons, List.map_nil]
  congr 1
  by_cases c : ((l.take j).any fun x => decide (x.id = l[j].id)) = true
  · rw [c]
    exact decide_eq_false (fun hd => by
      obtain ⟨x, hx, e⟩ := List.any_eq_true.1 c
      exact (List.nodup_append.1 hd).2.2 x.id (List.mem_map.2 ⟨x, hx, rfl⟩) l[j].id (by simp) (of_decide_eq_true e))
  · rw [Bool.not_eq_true] at c
    rw [c]
    refine decide_eq_true (List.nodup_append.2 ⟨hn, by simp, fun a ha b hb => ?_⟩)
    rw [List.mem_singleton.1 hb]
    obtain ⟨x, hx, rfl⟩ := List.mem_map.1 ha
    have := List.any_eq_false.1 c x hx
    simpa using this
theorem heldsB_bad {l : List HeldT} {j : Nat} (h0 : heldsB (l.take j) = false) : heldsB l = false := by
  cases c : heldsB l with
  | false => rfl
  | true =>
    unfold heldsB at c h0
    rw [Bool.and_eq_true] at c
    have h1 : (l.take j).all heldB = true := List.all_eq_true.2 (fun x hx => List.all_eq_true.1 c.1 x (List.mem_of_mem_take hx))
    have h2 : ((l.take j).map (·.id)).Nodup := by
      rw [List.map_take]
      exact (of_decide_eq_true c.2).sublist (List.take_sublist _ _)
    rw [h1, decide_eq_true h2] at h0
    cases h0

structure PkJ (W1 : World) (pb xb : Nat) (p : Option Addr) (n c j : Nat) (x : HeldT) (b a : Bool) (f : Nat → Value) (L : Nat → Bool) (w : World) : Prop where
  G : Below W1.heap.size W1 w
  f0 : L 0 = true → f 0 = .agg (heldC x).toArray
  f1 : L 1 = true → f 1 = .bool b
  f2 : L 2 = true → f 2 = .bool !b
  f3 : L 3 = true → f 3 = .bool !b
  f4 : b = true → L 4 = true → f 4 = .pointer (some ⟨pb, 2, none⟩)
  f5 : b = true → L 5 = true → f 5 = .slice p n c
  f6 : b = true → L 6 = true → f 6 = .int .i64 j
  f7 : b = true → L 7 = true → f 7 = .slice p j c
  f8 : b = true → L 8 = true → f 8 = .pointer (some ⟨xb, 0, none⟩)
  f9 : b = true → L 9 = true → f 9 = .string x.id
  f10 : b = true → L 10 = true → f 10 = .bool a
  f11 : L 11 = true → f 11 = .bool (!b || a)
theorem PkJ.grow {W1 : World} {pb xb : Nat} {p : Option Addr} {n c j : Nat} {x : HeldT} {b a : Bool} {f : Nat → Value} {L : Nat → Bool} {w w' : World} (h : PkJ W1 pb xb p n c j x b a f L w) (hb : Below w.heap.size w w') : PkJ W1 pb xb p n c j x b a f L w' := ⟨h.G.trans (hb.mono h.G.size), h.f0, h.f1, h.f2, h.f3, h.f4, h.f5, h.f6, h.f7, h.f8, h.f9, h.f10, h.f11⟩
theorem cfHeldOk (args : Array Value) (w : World) : (callFunc 85 args).run Try.prog w = .ok (.enter 85 args) w := cf_of Try.func85 (by kernel_rfl) (by kernel_rfl) args w
theorem cfHolds (args : Array Value) (w : World) : (callFunc 86 args).run Try.prog w = .ok (.enter 86 args) w := cf_of Try.func86 (by kernel_rfl) (by kernel_rfl) args w
theorem szHeldK (x : HeldT) (pu : Option Addr) (nu cu : Nat) : (Try.prog.info? 94).map (·.size) = some ([.string x.id, .string x.ad, .string x.r, .string x.o, .string x.p, .string x.t, .string x.k, .int .i64 x.n, .int .i64 x.v, .string x.q, .int .i64 x.m, .slice pu nu cu, .bool x.has, .string x.pa, .string x.pb, .int .i64 x.one] : List Value).length := by kernel_rfl
theorem notB (b : Bool) (w : World) : (Op.unary .not (.bool b)).run Try.prog w = .ok (.bool !b) w := by cases b <;> kernel_rfl
theorem fdPeer2 (q : Nat) (w : World) : (Instr.fieldAt 78 (.pointer (some ⟨q, 0, none⟩)) 2).run Try.prog w = .ok (.pointer (some ⟨q, 2, none⟩)) w := by simp [Instr.fieldAt, go_sem]
theorem fdHeld0 (q : Nat) (w : World) : (Instr.fieldAt 94 (.pointer (some ⟨q, 0, none⟩)) 0).run Try.prog w = .ok (.pointer (some ⟨q, 0, none⟩)) w := by simp [Instr.fieldAt, go_sem]
theorem ldHs {g j n m : Nat} {p : Option Addr} {w : World} (h : w.cell? ⟨g, j, none⟩ = some (.slice p n m)) : (Instr.loadAt 76 (.pointer (some ⟨g, j, none⟩))).run Try.prog w = .ok (.slice p n m) w := by simp [Instr.loadAt, go_sem, h]
set_option linter.unusedSimpArgs false in
theorem slHs (p : Option Addr) (n c j : Nat) (h : j < n) (hn : n ≤ c) (hc : c ≤ maxLen) (w : World) : (Instr.sliceAt 76 (.slice p n c) none (some (.int .i64 j)) none).run Try.prog w = .ok (.slice p j c) w := by
  have h0 : (j : Int) ≤ (c : Int) := by omega
  have h1 : (0 : Int) ≤ (j : Int) := by omega
  have h2 : 0 < c := by omega
  have h3 : j ≤ c := by omega
  cases p <;> simp [Instr.sliceAt, go_sem, h0, h1, h2, h3]

set_option maxHeartbeats 8000000 in
theorem peerOk_i (a : PeerT) (w : World) (h : peerQ 0 a w) (hm : peerW a) : Calls Try.prog 72 #[.agg (peerC a).toArray] w fun e w' => e = .returned (.bool (peerB a)) ∧ Below w.heap.size w w' := by
  obtain ⟨i, s, v, l⟩ := a
  obtain ⟨hr, hq⟩ := h
  obtain ⟨hm1, hm2⟩ := hm
  have hr : RowL 0 94 16 heldC v l w := hr
  have hm1 : l.length ≤ 1048576 := hm1
  obtain ⟨p, cap, rfl, hcm, hlc, hp⟩ := hr.open
  show Calls _ _ #[.agg #[.int .i64 i, .string s, .slice p l.length cap]] _ _
  have hb0 : Below w.heap.size w (w.alloc (.cells #[.int .i64 i, .string s, .slice p l.length cap] 78)) := (Below.refl _ _).alloc (Nat.le_refl _) _
  have hbx : (w.alloc (.cells #[.int .i64 i, .string s, .slice p l.length cap] 78)).heap[w.heap.size]? = some (.cells #[.int .i64 i, .string s, .slice p l.length cap] 78 (0, 0)) := heap_alloc_new w _
  have HX := Lib.hid (And.intro hb0 hbx)
  have HR := Lib.hid (And.intro hr (And.intro hq hm2))
  have HL := Lib.hid (And.intro hlc hcm)
  obtain ⟨⟨c0, c1, c2⟩, _⟩ := dk_cells hbx
  have HV := Lib.hid (show peerB ⟨i, s, .slice p l.length cap, l⟩ = (decide (1 ≤ i ∧ i ≤ 9) && k32 s && (decide (1 ≤ l.length) && decide (l.length ≤ 4)) && heldsB l) from rfl)
  have hlI : (l.length : Int) ≤ 1048576 := by omega
  clear hb0 hbx hr hq hm2 hlc hcm
  go_enter Try.func72, Try.ntmps72
  go_wp2_with fail
  refine (idOk_i i _ _ rfl).mono ?_
  rintro e w' ⟨rfl, rfl⟩
  obtain ⟨b1, e1⟩ : ∃ b, decide (1 ≤ i ∧ i ≤ 9) = b := ⟨_, rfl⟩
  rw [e1]
  cases b1 with
  | false =>
    go_wp2
    go_ret
    exact ⟨by rw [HV.out, e1]; rfl, HX.out.1⟩
  | true =>
  go_wp2_with fail
  refine (isKey_b s _).mono ?_
  rintro e w' ⟨rfl, rfl⟩
  cases e2 : k32 s with
  | false =>
    go_wp2
    go_ret
    exact ⟨by rw [HV.out, e1, e2]; rfl, HX.out.1⟩
  | true =>
  by_cases h1 : l.length < 1
  case pos =>
    have q1 : (l.length : Int) < 1 := by omega
    have e3 : decide (1 ≤ l.length) = false := decide_eq_false (by omega)
    go_wp2
    go_ret
    exact ⟨by rw [HV.out, e3]; simp, HX.out.1⟩
  have q1 : ¬ (l.length : Int) < 1 := by omega
  by_cases h4 : 4 < l.length
  case pos =>
    have q4 : (4 : Int) < (l.length : Int) := by omega
    have e3 : decide (l.length ≤ 4) = false := decide_eq_false (by omega)
    clear h1 h4
    go_wp2
    go_ret
    exact ⟨by rw [HV.out, e3]; simp, HX.out.1⟩
  have q4 : ¬ (4 : Int) < (l.length : Int) := by omega
  have HW := Lib.hid (show peerB ⟨i, s, .slice p l.length cap, l⟩ = heldsB l from by rw [HV.out, e1, e2, decide_eq_true (show 1 ≤ l.length by omega), decide_eq_true (show l.length ≤ 4 by omega)]; rfl)
  clear HV e1 e2 h1 h4
  go_wp2
  go_loopw [30] (fun i1 wr => ∃ j : Nat, j ≤ l.length ∧ i1 = .int .i64 j ∧ heldsB (l.take j) = true ∧ Below w.heap.size w wr ∧ wr.heap[w.heap.size]? = some (.cells #[.int .i64 i, .string s, .slice p l.length cap] 78 (0, 0))) (fun i1 _ => l.length - (intOf i1).toNat)
  case atStart => exact ⟨0, Nat.zero_le _, rfl, rfl, HX.out⟩
  case round =>
    obtain ⟨j, hj, rfl, hall, hB⟩ := hrel
    have HA := Lib.hid hall
    have HB := Lib.hid hB
    clear hall hB c0 c1 c2
    by_cases hlt : j < l.length
    case neg =>
      obtain rfl : j = l.length := by omega
      have HF := Lib.hid (show heldsB l = true from by have := HA.out; rwa [List.take_length] at this)
      go_wp2
      go_ret
      exact ⟨by rw [HW.out, HF.out]; rfl, HB.out.1⟩
    have hne : l ≠ [] := by intro c; rw [c] at hlt; simp at hlt
    obtain ⟨g, rfl, _, hg⟩ := hp.resolve_left (fun c => hne c.1)
    have j0 : (0 : Int) ≤ (j : Int) := by omega
    have j1 : (j : Int) < (l.length : Int) := by omega
    obtain ⟨x, hx⟩ : ∃ x, l[j] = x := ⟨_, rfl⟩
    have hxm : x ∈ l := by rw [← hx]; exact List.getElem_mem hlt
    obtain ⟨pu, nu, cu, eu⟩ := (HR.out.2.1 x hxm).sl
    have eH : heldC x = [.string x.id, .string x.ad, .string x.r, .string x.o, .string x.p, .string x.t, .string x.k, .int .i64 x.n, .int .i64 x.v, .string x.q, .int .i64 x.m, .slice pu nu cu, .bool x.has, .string x.pa, .string x.pb, .int .i64 x.one] := by unfold heldC; rw [eu]
    have RNG := Lib.hid (show wr.rangeAt g (j * 16) [.string x.id, .string x.ad, .string x.r, .string x.o, .string x.p, .string x.t, .string x.k, .int .i64 x.n, .int .i64 x.v, .string x.q, .int .i64 x.m, .slice pu nu cu, .bool x.has, .string x.pa, .string x.pb, .int .i64 x.one] from by have := row_range (HR.out.1.below HB.out.1) heldC_len hlt; rw [hx, eH] at this; exact this)
    have hal : Below wr.heap.size wr (wr.alloc (.cells #[.string x.id, .string x.ad, .string x.r, .string x.o, .string x.p, .string x.t, .string x.k, .int .i64 x.n, .int .i64 x.v, .string x.q, .int .i64 x.m, .slice pu nu cu, .bool x.has, .string x.pa, .string x.pb, .int .i64 x.one] 94)) := below_box wr _
    obtain ⟨W, eW⟩ : ∃ W, wr.alloc (.cells #[.string x.id, .string x.ad, .string x.r, .string x.o, .string x.p, .string x.t, .string x.k, .int .i64 x.n, .int .i64 x.v, .string x.q, .int .i64 x.m, .slice pu nu cu, .bool x.has, .string x.pa, .string x.pb, .int .i64 x.one] 94) = W := ⟨_, rfl⟩
    have hWB : Below w.heap.size w W := by rw [← eW]; exact HB.out.1.trans (hal.mono HB.out.1.size)
    have RX := Lib.hid (show ∀ W2, Below W.heap.size W W2 → W2.rangeAt wr.heap.size 0 (heldC x) from fun W2 h2 => by
      subst eW
      rw [eH]
      exact range_below (range_of_row (heap_alloc_new wr _) (fun j v hj => by rw [Nat.zero_add]; simpa using hj)) h2 (by simp))
    have RI := Lib.hid (show ∀ W2, Below W.heap.size W W2 → W2.cell? ⟨wr.heap.size, 0, none⟩ = some (.string x.id) from fun W2 h2 => RX.out W2 h2 0 _ rfl)
    have RP := Lib.hid (show ∀ W2, Below W.heap.size W W2 → W2.cell? ⟨w.heap.size, 2, none⟩ = some (.slice (some ⟨g, 0, none⟩) l.length cap) from fun W2 h2 => by
      have h3 := (hal.block _ (Array.getElem?_eq_some_iff.1 HB.out.2).1).trans HB.out.2
      rw [eW] at h3
      exact cell_of_row _ w.heap.size 2 _ _ _ ((h2.block _ (Array.getElem?_eq_some_iff.1 h3).1).trans h3))
    have CH := Lib.hid (show ∀ W2, Below W.heap.size W W2 → _ from fun W2 h2 => heldOk_i x W2 ((HR.out.2.1 x hxm).below (hWB.trans (h2.mono hWB.size))) (HR.out.2.2 x hxm))
    have CO := Lib.hid (show ∀ W2, Below W.heap.size W W2 → _ from fun W2 h2 => holds_i (.slice (some ⟨g, 0, none⟩) j cap) (l.take j) x.id W2 ((HR.out.1.take heldC_len j hj).below (hWB.trans (h2.mono hWB.size))) (by rw [List.length_take]; omega))
    have HT := Lib.hid (show heldsB (l.take (j + 1)) = (heldB x && !((l.take j).any fun y => decide (y.id = x.id))) from by rw [heldsB_next hlt HA.out, hx])
    have HBAD := Lib.hid (heldsB_bad (l := l) (j := j + 1))
    have HWB := Lib.hid (And.intro hWB (show W.heap[w.heap.size]? = some (.cells #[.int .i64 i, .string s, .slice (some ⟨g, 0, none⟩) l.length cap] 78 (0, 0)) from by rw [← eW]; exact (hal.block _ (Array.getElem?_eq_some_iff.1 HB.out.2).1).trans HB.out.2))
    generalize heldB x = b at CH HT
    generalize ((l.take j).any fun y => decide (y.id = x.id)) = a at CO HT
    have hnc := HL.out.1
    have hcm := HL.out.2
    clear hx hxm hal hWB hne hp hg eu eH HR HA HB HL
    go_upto_region 6 with (first | (with_reducible refine wpList_load_mid (op := ⟨some 34, _, _, _, _, _⟩) rfl 94 _ rfl g (j * 16) rfl [.string x.id, .string x.ad, .string x.r, .string x.o, .string x.p, .string x.t, .string x.k, .int .i64 x.n, .int .i64 x.v, .string x.q, .int .i64 x.m, .slice pu nu cu, .bool x.has, .string x.pa, .string x.pb, .int .i64 x.one] _ RNG.out Try.underlying94 rfl (szHeldK x pu nu cu) ?_) | fail)
    refine region_invLH 12 [some 35, some 36, some 37, some 38, some 39, some 40, some 41, some 42, some 43, some 44, some 45, some 46] (PkJ W w.heap.size wr.heap.size (some ⟨g, 0, none⟩) l.length cap j x b a) (by kernel_rfl) rfl (by kernel_rfl) (by kernel_rfl) (by kernel_rfl) ?_ ?_ ?_
    · exact ⟨(Below.refl _ _).drew, (fun h => by cases h), (fun h => by cases h), (fun h => by cases h), (fun h => by cases h), (fun _ h => by cases h), (fun _ h => by cases h), (fun _ h => by cases h), (fun _ h => by cases h), (fun _ h => by cases h), (fun _ h => by cases h), (fun _ h => by cases h), (fun h => by cases h)⟩
    · intro i o f L w1 hoi hL hI hdep
      have hi : i < 12 := (Array.getElem?_eq_some_iff.1 hoi).1
      have hc : i = 0 ∨ i = 1 ∨ i = 2 ∨ i = 3 ∨ i = 4 ∨ i = 5 ∨ i = 6 ∨ i = 7 ∨ i = 8 ∨ i = 9 ∨ i = 10 ∨ i = 11 := by omega
      rcases hc with rfl | rfl | rfl | rfl | rfl | rfl | rfl | rfl | rfl | rfl | rfl | rfl
      · obtain rfl := Option.some.inj hoi
        refine .inl ⟨wanted_free rfl, wpLoadT rfl (at_old (by kernel_rfl)) (run_loadAt_mid w1 wr.heap.size 0 94 (heldC x) _ (RX.out w1 hI.G) Try.underlying94 rfl (szHeldJ x)) ⟨_, rfl, ?_⟩⟩
        exact ⟨hI.G, fun _ => rfl, hI.f1, hI.f2, hI.f3, hI.f4, hI.f5, hI.f6, hI.f7, hI.f8, hI.f9, hI.f10, hI.f11⟩
      · obtain rfl := Option.some.inj hoi
        refine .inl ⟨wanted_free rfl, wpCallT rfl cfHeldOk (argsT1 ((at_new (by kernel_rfl) 0 (Nat.le_of_ble_eq_true rfl) rfl (by decide) (hdep 0 (dep_of (by kernel_rfl)))).trans (hI.f0 (hdep 0 (dep_of (by kernel_rfl)))))) ((CH.out w1 hI.G).mono ?_)⟩
        rintro e w2 ⟨rfl, hb⟩
        have hI := hI.grow hb
        exact ⟨_, rfl, _, rfl, ⟨hI.G, hI.f0, fun _ => rfl, hI.f2, hI.f3, hI.f4, hI.f5, hI.f6, hI.f7, hI.f8, hI.f9, hI.f10, hI.f11⟩⟩
      · obtain rfl := Option.some.inj hoi
        refine .inl ⟨wanted_free rfl, wpUnT rfl ((at_new (by kernel_rfl) 1 (Nat.le_of_ble_eq_true rfl) rfl (by decide) (hdep 1 (dep_of (by kernel_rfl)))).trans (hI.f1 (hdep 1 (dep_of (by kernel_rfl))))) (notB b w1) ⟨_, rfl, ?_⟩⟩
        exact ⟨hI.G, hI.f0, hI.f1, fun _ => rfl, hI.f3, hI.f4, hI.f5, hI.f6, hI.f7, hI.f8, hI.f9, hI.f10, hI.f11⟩
      · obtain rfl := Option.some.inj hoi
        refine .inl ⟨wanted_free rfl, wpMoveT rfl ((at_new (by kernel_rfl) 2 (Nat.le_of_ble_eq_true rfl) rfl (by decide) (hdep 2 (dep_of (by kernel_rfl)))).trans (hI.f2 (hdep 2 (dep_of (by kernel_rfl))))) ⟨_, rfl, ?_⟩⟩
        exact ⟨hI.G, hI.f0, hI.f1, hI.f2, fun _ => rfl, hI.f4, hI.f5, hI.f6, hI.f7, hI.f8, hI.f9, hI.f10, hI.f11⟩
      · obtain rfl := Option.some.inj hoi
        cases b
        · exact .inr ⟨(unwanted_at (k := 38) (by kernel_rfl) 3 rfl (Nat.le_of_ble_eq_true rfl) rfl (by decide) (hdep 3 (dep_of (by kernel_rfl))) (hI.f3 (hdep 3 (dep_of (by kernel_rfl))))), ⟨hI.G, hI.f0, hI.f1, hI.f2, hI.f3, (fun h => by cases h), hI.f5, hI.f6, hI.f7, hI.f8, hI.f9, hI.f10, hI.f11⟩⟩
        · refine .inl ⟨(wanted_at (k := 38) (by kernel_rfl) 3 rfl (Nat.le_of_ble_eq_true rfl) rfl (by decide) (hdep 3 (dep_of (by kernel_rfl))) (hI.f3 (hdep 3 (dep_of (by kernel_rfl))))), wpFieldT rfl (at_old (by kernel_rfl)) (fdPeer2 _ w1) ⟨_, rfl, ?_⟩⟩
          exact ⟨hI.G, hI.f0, hI.f1, hI.f2, hI.f3, fun _ _ => rfl, hI.f5, hI.f6, hI.f7, hI.f8, hI.f9, hI.f10, hI.f11⟩
      · obtain rfl := Option.some.inj hoi
        cases b
        · exact .inr ⟨(unwanted_at (k := 38) (by kernel_rfl) 3 rfl (Nat.le_of_ble_eq_true rfl) rfl (by decide) (hdep 3 (dep_of (by kernel_rfl))) (hI.f3 (hdep 3 (dep_of (by kernel_rfl))))), ⟨hI.G, hI.f0, hI.f1, hI.f2, hI.f3, hI.f4, (fun h => by cases h), hI.f6, hI.f7, hI.f8, hI.f9, hI.f10, hI.f11⟩⟩
        · refine .inl ⟨(wanted_at (k := 38) (by kernel_rfl) 3 rfl (Nat.le_of_ble_eq_true rfl) rfl (by decide) (hdep 3 (dep_of (by kernel_rfl))) (hI.f3 (hdep 3 (dep_of (by kernel_rfl))))), wpLoadT rfl ((at_new (by kernel_rfl) 4 (Nat.le_of_ble_eq_true rfl) rfl (by decide) (hdep 4 (dep_of (by kernel_rfl)))).trans (hI.f4 rfl (hdep 4 (dep_of (by kernel_rfl))))) (ldHs (RP.out w1 hI.G)) ⟨_, rfl, ?_⟩⟩
          exact ⟨hI.G, hI.f0, hI.f1, hI.f2, hI.f3, hI.f4, fun _ _ => rfl, hI.f6, hI.f7, hI.f8, hI.f9, hI.f10, hI.f11⟩
      · obtain rfl := Option.some.inj hoi
        cases b
        · exact .inr ⟨(unwanted_at (k := 38) (by kernel_rfl) 3 rfl (Nat.le_of_ble_eq_true rfl) rfl (by decide) (hdep 3 (dep_of (by kernel_rfl))) (hI.f3 (hdep 3 (dep_of (by kernel_rfl))))), ⟨hI.G, hI.f0, hI.f1, hI.f2, hI.f3, hI.f4, hI.f5, (fun h => by cases h), hI.f7, hI.f8, hI.f9, hI.f10, hI.f11⟩⟩
        · refine .inl ⟨(wanted_at (k := 38) (by kernel_rfl) 3 rfl (Nat.le_of_ble_eq_true rfl) rfl (by decide) (hdep 3 (dep_of (by kernel_rfl))) (hI.f3 (hdep 3 (dep_of (by kernel_rfl))))), wpMoveT rfl (at_old (by kernel_rfl)) ⟨_, rfl, ?_⟩⟩
          exact ⟨hI.G, hI.f0, hI.f1, hI.f2, hI.f3, hI.f4, hI.f5, fun _ _ => rfl, hI.f7, hI.f8, hI.f9, hI.f10, hI.f11⟩
      · obtain rfl := Option.some.inj hoi
        cases b
        · exact .inr ⟨(unwanted_at (k := 38) (by kernel_rfl) 3 rfl (Nat.le_of_ble_eq_true rfl) rfl (by decide) (hdep 3 (dep_of (by kernel_rfl))) (hI.f3 (hdep 3 (dep_of (by kernel_rfl))))), ⟨hI.G, hI.f0, hI.f1, hI.f2, hI.f3, hI.f4, hI.f5, hI.f6, (fun h => by cases h), hI.f8, hI.f9, hI.f10, hI.f11⟩⟩
        · refine .inl ⟨(wanted_at (k := 38) (by kernel_rfl) 3 rfl (Nat.le_of_ble_eq_true rfl) rfl (by decide) (hdep 3 (dep_of (by kernel_rfl))) (hI.f3 (hdep 3 (dep_of (by kernel_rfl))))), wpSliceT rfl ((at_new (by kernel_rfl) 5 (Nat.le_of_ble_eq_true rfl) rfl (by decide) (hdep 5 (dep_of (by kernel_rfl)))).trans (hI.f5 rfl (hdep 5 (dep_of (by kernel_rfl))))) ((at_new (by kernel_rfl) 6 (Nat.le_of_ble_eq_true rfl) rfl (by decide) (hdep 6 (dep_of (by kernel_rfl)))).trans (hI.f6 rfl (hdep 6 (dep_of (by kernel_rfl))))) (slHs _ l.length cap j hlt hnc hcm w1) ⟨_, rfl, ?_⟩⟩
          exact ⟨hI.G, hI.f0, hI.f1, hI.f2, hI.f3, hI.f4, hI.f5, hI.f6, fun _ _ => rfl, hI.f8, hI.f9, hI.f10, hI.f11⟩
      · obtain rfl := Option.some.inj hoi
        cases b
        · exact .inr ⟨(unwanted_at (k := 38) (by kernel_rfl) 3 rfl (Nat.le_of_ble_eq_true rfl) rfl (by decide) (hdep 3 (dep_of (by kernel_rfl))) (hI.f3 (hdep 3 (dep_of (by kernel_rfl))))), ⟨hI.G, hI.f0, hI.f1, hI.f2, hI.f3, hI.f4, hI.f5, hI.f6, hI.f7, (fun h => by cases h), hI.f9, hI.f10, hI.f11⟩⟩
        · refine .inl ⟨(wanted_at (k := 38) (by kernel_rfl) 3 rfl (Nat.le_of_ble_eq_true rfl) rfl (by decide) (hdep 3 (dep_of (by kernel_rfl))) (hI.f3 (hdep 3 (dep_of (by kernel_rfl))))), wpFieldT rfl (at_old (by kernel_rfl)) (fdHeld0 _ w1) ⟨_, rfl, ?_⟩⟩
          exact ⟨hI.G, hI.f0, hI.f1, hI.f2, hI.f3, hI.f4, hI.f5, hI.f6, hI.f7, fun _ _ => rfl, hI.f9, hI.f10, hI.f11⟩
      · obtain rfl := Option.some.inj hoi
        cases b
        · exact .inr ⟨(unwanted_at (k := 38) (by kernel_rfl) 3 rfl (Nat.le_of_ble_eq_true rfl) rfl (by decide) (hdep 3 (dep_of (by kernel_rfl))) (hI.f3 (hdep 3 (dep_of (by kernel_rfl))))), ⟨hI.G, hI.f0, hI.f1, hI.f2, hI.f3, hI.f4, hI.f5, hI.f6, hI.f7, hI.f8, (fun h => by cases h), hI.f10, hI.f11⟩⟩
        · refine .inl ⟨(wanted_at (k := 38) (by kernel_rfl) 3 rfl (Nat.le_of_ble_eq_true rfl) rfl (by decide) (hdep 3 (dep_of (by kernel_rfl))) (hI.f3 (hdep 3 (dep_of (by kernel_rfl))))), wpLoadT rfl ((at_new (by kernel_rfl) 8 (Nat.le_of_ble_eq_true rfl) rfl (by decide) (hdep 8 (dep_of (by kernel_rfl)))).trans (hI.f8 rfl (hdep 8 (dep_of (by kernel_rfl))))) (ldStr (RI.out w1 hI.G)) ⟨_, rfl, ?_⟩⟩
          exact ⟨hI.G, hI.f0, hI.f1, hI.f2, hI.f3, hI.f4, hI.f5, hI.f6, hI.f7, hI.f8, fun _ _ => rfl, hI.f10, hI.f11⟩
      · obtain rfl := Option.some.inj hoi
        cases b
        · exact .inr ⟨(unwanted_at (k := 38) (by kernel_rfl) 3 rfl (Nat.le_of_ble_eq_true rfl) rfl (by decide) (hdep 3 (dep_of (by kernel_rfl))) (hI.f3 (hdep 3 (dep_of (by kernel_rfl))))), ⟨hI.G, hI.f0, hI.f1, hI.f2, hI.f3, hI.f4, hI.f5, hI.f6, hI.f7, hI.f8, hI.f9, (fun h => by cases h), hI.f11⟩⟩
        · refine .inl ⟨(wanted_at (k := 38) (by kernel_rfl) 3 rfl (Nat.le_of_ble_eq_true rfl) rfl (by decide) (hdep 3 (dep_of (by kernel_rfl))) (hI.f3 (hdep 3 (dep_of (by kernel_rfl))))), wpCallT rfl cfHolds (argsT2q ((at_new (by kernel_rfl) 7 (Nat.le_of_ble_eq_true rfl) rfl (by decide) (hdep 7 (dep_of (by kernel_rfl)))).trans (hI.f7 rfl (hdep 7 (dep_of (by kernel_rfl))))) ((at_new (by kernel_rfl) 9 (Nat.le_of_ble_eq_true rfl) rfl (by decide) (hdep 9 (dep_of (by kernel_rfl)))).trans (hI.f9 rfl (hdep 9 (dep_of (by kernel_rfl)))))) ((CO.out w1 hI.G).mono ?_)⟩
          rintro e w2 ⟨rfl, hb⟩
          have hI := hI.grow hb
          exact ⟨_, rfl, _, rfl, ⟨hI.G, hI.f0, hI.f1, hI.f2, hI.f3, hI.f4, hI.f5, hI.f6, hI.f7, hI.f8, hI.f9, fun _ _ => rfl, hI.f11⟩⟩
      · obtain rfl := Option.some.inj hoi
        refine .inl ⟨wanted_free rfl, wpPickKT (x := .bool a) rfl ((at_new (by kernel_rfl) 3 (Nat.le_of_ble_eq_true rfl) rfl (by decide) (hdep 3 (dep_of (by kernel_rfl)))).trans (hI.f3 (hdep 3 (dep_of (by kernel_rfl))))) (fun hb => ((at_new (by kernel_rfl) 10 (Nat.le_of_ble_eq_true rfl) rfl (by decide) (hdep 10 (dep_of (by kernel_rfl)))).trans (hI.f10 (by simpa using hb) (hdep 10 (dep_of (by kernel_rfl)))))) ⟨_, rfl, ?_⟩⟩
        exact ⟨hI.G, hI.f0, hI.f1, hI.f2, hI.f3, hI.f4, hI.f5, hI.f6, hI.f7, hI.f8, hI.f9, hI.f10, (fun _ => by cases b <;> rfl)⟩
    intro f w5 hI
    have e11 := hI.f11 rfl
    have HN := Lib.hid (And.intro (HWB.out.1.trans (hI.G.mono HWB.out.1.size)) ((hI.G.block _ (Array.getElem?_eq_some_iff.1 HWB.out.2).1).trans HWB.out.2))
    clear hI
    simp only [Go.My.putL, Nat.zero_add, Nat.reduceAdd, e11, Act.put, List.setIfInBounds_toArray, List.set_cons_zero, List.set_cons_succ]
    generalize f 0 = y90 at *
    generalize f 1 = y91 at *
    generalize f 2 = y92 at *
    generalize f 3 = y93 at *
    generalize f 4 = y94 at *
    generalize f 5 = y95 at *
    generalize f 6 = y96 at *
    generalize f 7 = y97 at *
    generalize f 8 = y98 at *
    generalize f 9 = y99 at *
    generalize f 10 = y910 at *
    clear e11 HWB CH CO RX RI RP RNG eW
    cases hz : (!b || a) with
    | true =>
      have HF := Lib.hid (HBAD.out (by rw [HT.out]; revert hz; cases b <;> cases a <;> simp))
      go_wp2
      go_ret
      exact ⟨by rw [HW.out, HF.out]; rfl, HN.out.1⟩
    | false =>
      have HF := Lib.hid (show heldsB (l.take (j + 1)) = true from by rw [HT.out]; revert hz; cases b <;> cases a <;> simp)
      go_wp2
      go_roundw
      case rel => exact ⟨j + 1, by omega, by go_num, HF.out, HN.out⟩
      case measure => simp [intOf]; omega
end Go.Proofs.Ytkglgficmealnaa

/- The program: DeviceOk. -/
namespace Go.Proofs.Ytkglgficmealnaa
open Go.RowKit Go.My Go.Lib
set_option linter.unusedVariables false
set_option maxRecDepth 100000

/-- Numbers that rise, each entry well formed. -/
def runB (q : Int) : List (Int × Bool) → Bool
  | [] => true
  | x :: r => decide (q < x.1) && x.2 && runB x.1 r
def oneF (a : OneT) : Int × Bool := (a.1, decide (a.1 ≤ 999) && pairB a.2.1 a.2.2)
noncomputable def peerF (own : Int) (a : PeerT) : Int × Bool := (a.id, !decide (a.id = own) && peerB a)
theorem run_next {α : Type} {F : α → Int × Bool} {l : List α} {j : Nat} (h : j < l.length) (q : Int) : runB q ((l.drop j).map F) = (decide (q < (F l[j]).1) && (F l[j]).2 && runB (F l[j]).1 ((l.drop (j + 1)).map F)) := by
  rw [List.drop_eq_getElem_cons h]
  rfl
theorem run_end {α : Type} {F : α → Int × Bool} (l : List α) (q : Int) : runB q ((l.drop l.length).map F) = true := by
  rw [List.drop_length]
  rfl
noncomputable def devB (a : DevT) : Bool := decide (1 ≤ a.id ∧ a.id ≤ 9) && userB a.user && pairB a.ik a.ip && pairB a.sk a.sp && (decide (a.ones.length ≤ 5) && runB 0 (a.ones.map oneF)) && runB 0 (a.peers.map (peerF a.id))
def devW (a : DevT) : Prop := a.ones.length ≤ 1048576 ∧ a.peers.length ≤ 1048576 ∧ ∀ x ∈ a.peers, peerW x

set_option maxHeartbeats 4000000 in
theorem onesOk_i (v : Value) (l : List OneT) (w : World) (h : RowL 0 74 3 oneC v l w) (hl : l.length ≤ 1048576) :
    Calls Try.prog 52 #[v] w fun e w' => e = .returned (.bool (decide (l.length ≤ 5) && runB 0 (l.map oneF))) ∧ Below w.heap.size w w' := by
  have H := Lib.hid h
  obtain ⟨p, cap, rfl, hcm, hlc, hp⟩ := h.open
  have hlI : (l.length : Int) ≤ 1048576 := by omega
  clear h hcm hlc
  by_cases h5 : 5 < l.length
  case pos =>
    have q : (5 : Int) < (l.length : Int) := by omega
    have HF := Lib.hid (show decide (l.length ≤ 5) = false from decide_eq_false (by omega))
    clear h5
    go_enter Try.func52, Try.ntmps52
    go_wp2
    go_ret
    exact ⟨by rw [HF.out]; rfl, Below.refl _ _⟩
  have q : ¬ (5 : Int) < (l.length : Int) := by omega
  have HV := Lib.hid (show (decide (l.length ≤ 5) && runB 0 (l.map oneF)) = runB 0 (l.map oneF) from by rw [decide_eq_true (show l.length ≤ 5 by omega)]; rfl)
  clear h5
  go_enter Try.func52, Try.ntmps52
  go_wp2
  go_loopw [3, 11] (fun q i wr => ∃ (j : Nat) (la : Int), j ≤ l.length ∧ i = .int .i64 j ∧ q = .int .i64 la ∧ runB 0 (l.map oneF) = runB la ((l.drop j).map oneF) ∧ Below w.heap.size w wr) (fun _ i _ => l.length - (intOf i).toNat)
  case atStart => exact ⟨0, 0, Nat.zero_le _, rfl, rfl, rfl, Below.refl _ _⟩
  case round =>
    obtain ⟨j, la, hj, rfl, rfl, hrun, hB⟩ := hrel
    have HU := Lib.hid hrun
    clear hrun
    by_cases hlt : j < l.length
    case neg =>
      obtain rfl : j = l.length := by omega
      have HF := Lib.hid (HU.out.trans (run_end l la))
      go_wp2
      go_ret
      exact ⟨by rw [HV.out, HF.out]; rfl, hB⟩
    have hne : l ≠ [] := by intro c; rw [c] at hlt; simp at hlt
    obtain ⟨g, rfl, _, hg⟩ := hp.resolve_left (fun c => hne c.1)
    have j0 : (0 : Int) ≤ (j : Int) := by omega
    have j1 : (j : Int) < (l.length : Int) := by omega
    obtain ⟨x, hx⟩ : ∃ x, l[j] = x := ⟨_, rfl⟩
    have hA := H.out.below hB
    have a0 : wr.cell? ⟨g, j * 3, none⟩ = some (.int .i64 x.1) := hA.at oneC_len hlt hx 0 (by omega) rfl
    have a1 : wr.cell? ⟨g, j * 3 + 1, none⟩ = some (.string x.2.1) := hA.at oneC_len hlt hx 1 (by omega) rfl
    have a2 : wr.cell? ⟨g, j * 3 + 2, none⟩ = some (.string x.2.2) := hA.at oneC_len hlt hx 2 (by omega) rfl
    have HT := Lib.hid (show runB 0 (l.map oneF) = (decide (la < x.1) && (decide (x.1 ≤ 999) && pairB x.2.1 x.2.2) && runB x.1 ((l.drop (j + 1)).map oneF)) from by rw [HU.out, run_next hlt, hx]; rfl)
    have hal : Below wr.heap.size wr (wr.alloc (.cells #[.int .i64 x.1, .string x.2.1, .string x.2.2] 74)) := below_box wr _
    have HB := Lib.hid (hB.trans (hal.mono hB.size))
    have hbx : (wr.alloc (.cells #[.int .i64 x.1, .string x.2.1, .string x.2.2] 74)).heap[wr.heap.size]? = some (.cells #[.int .i64 x.1, .string x.2.1, .string x.2.2] 74 (0, 0)) := heap_alloc_new wr _
    have CP := Lib.hid (pairOk_i x.2.1 x.2.2 (wr.alloc (.cells #[.int .i64 x.1, .string x.2.1, .string x.2.2] 74)))
    have HX := Lib.hid hbx
    obtain ⟨⟨x0, x1, x2⟩, _⟩ := dk_cells hbx
    clear hA hx hne hp hg hal hB hbx HU
    by_cases q1 : x.1 ≤ la
    · have HF := Lib.hid (show runB 0 (l.map oneF) = false from by rw [HT.out, decide_eq_false (show ¬ la < x.1 by omega)]; rfl)
      go_wp2
      go_ret
      exact ⟨by rw [HV.out, HF.out]; rfl, HB.out⟩
    by_cases q2 : 999 < x.1
    · have HF := Lib.hid (show runB 0 (l.map oneF) = false from by rw [HT.out, decide_eq_false (show ¬ x.1 ≤ 999 by omega)]; simp)
      go_wp2
      go_ret
      exact ⟨by rw [HV.out, HF.out]; rfl, HB.out⟩
    have HT2 := Lib.hid (show runB 0 (l.map oneF) = (pairB x.2.1 x.2.2 && runB x.1 ((l.drop (j + 1)).map oneF)) from by rw [HT.out, decide_eq_true (show la < x.1 by omega), decide_eq_true (show x.1 ≤ 999 by omega)]; rfl)
    clear HT
    go_wp2_with fail
    refine CP.out.mono ?_
    rintro e w2 ⟨rfl, hb⟩
    have hbx := (hb.block _ (Array.getElem?_eq_some_iff.1 HX.out).1).trans HX.out
    have HB2 := Lib.hid (HB.out.trans (hb.mono HB.out.size))
    clear a0 a1 a2 x0 x1 x2 HX CP HB hb q1 q2
    obtain ⟨⟨x0, x1, x2⟩, _⟩ := dk_cells hbx
    clear hbx
    cases hz : pairB x.2.1 x.2.2 with
    | false =>
      have HF := Lib.hid (show runB 0 (l.map oneF) = false from by rw [HT2.out, hz]; rfl)
      go_wp2
      go_ret
      exact ⟨by rw [HV.out, HF.out]; rfl, HB2.out⟩
    | true =>
      have HF := Lib.hid (show runB 0 (l.map oneF) = runB x.1 ((l.drop (j + 1)).map oneF) from by rw [HT2.out, hz]; rfl)
      go_wp2
      go_roundw
      case rel => exact ⟨j + 1, x.1, by omega, by go_num, rfl, HF.out, HB2.out⟩
      case measure => simp [intOf]; omega

set_option maxHeartbeats 4000000 in
theorem peersOk_i (own : Int) (v : Value) (l : List PeerT) (w : World) (h : RowL 0 78 3 peerC v l w) (hq : ∀ x ∈ l, peerQ 0 x w) (hm : ∀ x ∈ l, peerW x) (hl : l.length ≤ 1048576) :
    Calls Try.prog 53 #[.int .i64 own, v] w fun e w' => e = .returned (.bool (runB 0 (l.map (peerF own)))) ∧ Below w.heap.size w w' := by
  have H := Lib.hid h
  have HQ := Lib.hid (And.intro hq hm)
  obtain ⟨p, cap, rfl, hcm, hlc, hp⟩ := h.open
  have hlI : (l.length : Int) ≤ 1048576 := by omega
  clear h hcm hlc hq hm
  go_enter Try.func53, Try.ntmps53
  go_wp2
  go_loopw [5, 10] (fun q i wr => ∃ (j : Nat) (la : Int), j ≤ l.length ∧ i = .int .i64 j ∧ q = .int .i64 la ∧ runB 0 (l.map (peerF own)) = runB la ((l.drop j).map (peerF own)) ∧ Below w.heap.size w wr) (fun _ i _ => l.length - (intOf i).toNat)
  case atStart => exact ⟨0, 0, Nat.zero_le _, rfl, rfl, rfl, Below.refl _ _⟩
  case round =>
    obtain ⟨j, la, hj, rfl, rfl, hrun, hB⟩ := hrel
    have HU := Lib.hid hrun
    clear hrun
    by_cases hlt : j < l.length
    case neg =>
      obtain rfl : j = l.length := by omega
      have HF := Lib.hid (HU.out.trans (run_end l la))
      go_wp2
      go_ret
      exact ⟨by rw [HF.out]; rfl, hB⟩
    have hne : l ≠ [] := by intro c; rw [c] at hlt; simp at hlt
    obtain ⟨g, rfl, _, hg⟩ := hp.resolve_left (fun c => hne c.1)
    have j0 : (0 : Int) ≤ (j : Int) := by omega
    have j1 : (j : Int) < (l.length : Int) := by omega
    obtain ⟨x, hx⟩ : ∃ x, l[j] = x := ⟨_, rfl⟩
    have hxm : x ∈ l := by rw [← hx]; exact List.getElem_mem hlt
    have hA := H.out.below hB
    have HT := Lib.hid (show runB 0 (l.map (peerF own)) = (decide (la < x.id) && (!decide (x.id = own) && peerB x) && runB x.id ((l.drop (j + 1)).map (peerF own))) from by rw [HU.out, run_next hlt, hx]; rfl)
    have hQx := HQ.out.1 x hxm
    have hWx := HQ.out.2 x hxm
    obtain ⟨xi, xs, xv, xl⟩ := x
    obtain ⟨pu, cu, eu, _⟩ := hQx.1.open
    have eu : xv = .slice pu xl.length cu := eu
    subst eu
    have a0 : wr.cell? ⟨g, j * 3, none⟩ = some (.int .i64 xi) := hA.at peerC_len hlt hx 0 (by omega) rfl
    have a1 : wr.cell? ⟨g, j * 3 + 1, none⟩ = some (.string xs) := hA.at peerC_len hlt hx 1 (by omega) rfl
    have a2 : wr.cell? ⟨g, j * 3 + 2, none⟩ = some (.slice pu xl.length cu) := hA.at peerC_len hlt hx 2 (by omega) rfl
    have hal : Below wr.heap.size wr (wr.alloc (.cells #[.int .i64 xi, .string xs, .slice pu xl.length cu] 78)) := below_box wr _
    have HB := Lib.hid (hB.trans (hal.mono hB.size))
    have hbx : (wr.alloc (.cells #[.int .i64 xi, .string xs, .slice pu xl.length cu] 78)).heap[wr.heap.size]? = some (.cells #[.int .i64 xi, .string xs, .slice pu xl.length cu] 78 (0, 0)) := heap_alloc_new wr _
    have CP := Lib.hid (peerOk_i ⟨xi, xs, .slice pu xl.length cu, xl⟩ (wr.alloc (.cells #[.int .i64 xi, .string xs, .slice pu xl.length cu] 78)) (hQx.below HB.out) hWx)
    have HX := Lib.hid hbx
    obtain ⟨⟨x0, x1, x2⟩, _⟩ := dk_cells hbx
    have HT := Lib.hid (show runB 0 (l.map (peerF own)) = (decide (la < xi) && (!decide (xi = own) && peerB ⟨xi, xs, .slice pu xl.length cu, xl⟩) && runB xi ((l.drop (j + 1)).map (peerF own))) from HT.out)
    generalize peerB ⟨xi, xs, .slice pu xl.length cu, xl⟩ = z at CP HT
    clear hA hx hxm hne hp hg hal hB hbx HU hQx hWx
    by_cases q1 : xi ≤ la
    · have HF := Lib.hid (show runB 0 (l.map (peerF own)) = false from by rw [HT.out, decide_eq_false (show ¬ la < xi by omega)]; rfl)
      go_wp2
      go_ret
      exact ⟨by rw [HF.out]; rfl, HB.out⟩
    by_cases q2 : xi = own
    · subst q2
      have q2 : xi = xi := rfl
      have HF := Lib.hid (show runB 0 (l.map (peerF xi)) = false from by rw [HT.out, decide_eq_true q2]; simp)
      clear q2
      go_wp2
      go_ret
      exact ⟨by rw [HF.out]; rfl, HB.out⟩
    have HT2 := Lib.hid (show runB 0 (l.map (peerF own)) = (z && runB xi ((l.drop (j + 1)).map (peerF own))) from by rw [HT.out, decide_eq_true (show la < xi by omega), decide_eq_false q2]; rfl)
    have q3 : (xi == own) = false := by simpa using q2
    clear HT q2
    go_wp2_with fail
    refine CP.out.mono ?_
    rintro e w2 ⟨rfl, hb⟩
    have hbx := (hb.block _ (Array.getElem?_eq_some_iff.1 HX.out).1).trans HX.out
    have HB2 := Lib.hid (HB.out.trans (hb.mono HB.out.size))
    clear a0 a1 a2 x0 x1 x2 HX CP HB hb
    obtain ⟨⟨x0, x1, x2⟩, _⟩ := dk_cells hbx
    clear hbx
    cases z with
    | false =>
      have HF := Lib.hid (show runB 0 (l.map (peerF own)) = false from by rw [HT2.out]; rfl)
      go_wp2
      go_ret
      exact ⟨by rw [HF.out]; rfl, HB2.out⟩
    | true =>
      have HF := Lib.hid (show runB 0 (l.map (peerF own)) = runB xi ((l.drop (j + 1)).map (peerF own)) from by rw [HT2.out]; rfl)
      go_wp2
      go_roundw
      case rel => exact ⟨j + 1, xi, by omega, by go_num, rfl, HF.out, HB2.out⟩
      case measure => simp [intOf]; omega

set_option maxHeartbeats 4000000 in
theorem deviceOk_i (a : DevT) (w : World) (h : devQ 0 a w) (hm : devW a) : Calls Try.prog 20 #[.agg (devC a).toArray] w fun e w' => e = .returned (.bool (devB a)) ∧ Below w.heap.size w w' := by
  obtain ⟨i, us, ik, ip, sk, sp, vo, ones, vp, peers⟩ := a
  obtain ⟨h1, h2, h3⟩ := h
  obtain ⟨hm1, hm2, hm3⟩ := hm
  obtain ⟨po, co, eo, _⟩ := h1.open
  obtain ⟨pp, cp, ep, _⟩ := h2.open
  obtain rfl : vo = .slice po ones.length co := eo
  obtain rfl : vp = .slice pp peers.length cp := ep
  show Calls _ _ #[.agg #[.int .i64 i, .int .i64 us, .string ik, .string ip, .string sk, .string sp, .slice po ones.length co, .slice pp peers.length cp]] _ _
  have hb0 : Below w.heap.size w (w.alloc (.cells #[.int .i64 i, .int .i64 us, .string ik, .string ip, .string sk, .string sp, .slice po ones.length co, .slice pp peers.length cp] 47)) := (Below.refl _ _).alloc (Nat.le_refl _) _
  have hbx : (w.alloc (.cells #[.int .i64 i, .int .i64 us, .string ik, .string ip, .string sk, .string sp, .slice po ones.length co, .slice pp peers.length cp] 47)).heap[w.heap.size]? = some (.cells #[.int .i64 i, .int .i64 us, .string ik, .string ip, .string sk, .string sp, .slice po ones.length co, .slice pp peers.length cp] 47 (0, 0)) := heap_alloc_new w _
  have HX := Lib.hid (And.intro hb0 hbx)
  have c0 : _ = some (Value.int .i64 i) := cell_of_row _ w.heap.size 0 _ _ _ hbx
  have c1 : _ = some (Value.int .i64 us) := cell_of_row _ w.heap.size 1 _ _ _ hbx
  have c2 : _ = some (Value.string ik) := cell_of_row _ w.heap.size 2 _ _ _ hbx
  have c3 : _ = some (Value.string ip) := cell_of_row _ w.heap.size 3 _ _ _ hbx
  have c4 : _ = some (Value.string sk) := cell_of_row _ w.heap.size 4 _ _ _ hbx
  have c5 : _ = some (Value.string sp) := cell_of_row _ w.heap.size 5 _ _ _ hbx
  have c6 : _ = some (Value.slice po ones.length co) := cell_of_row _ w.heap.size 6 _ _ _ hbx
  have c7 : _ = some (Value.slice pp peers.length cp) := cell_of_row _ w.heap.size 7 _ _ _ hbx
  have HV := Lib.hid (show devB ⟨i, us, ik, ip, sk, sp, .slice po ones.length co, ones, .slice pp peers.length cp, peers⟩ = (decide (1 ≤ i ∧ i ≤ 9) && userB us && pairB ik ip && pairB sk sp && (decide (ones.length ≤ 5) && runB 0 (ones.map oneF)) && runB 0 (peers.map (peerF i))) from rfl)
  have CO := Lib.hid (fun w1 (hb : Below w.heap.size w w1) => onesOk_i (.slice po ones.length co) ones w1 (h1.below hb) hm1)
  have CP := Lib.hid (fun w1 (hb : Below w.heap.size w w1) => peersOk_i i (.slice pp peers.length cp) peers w1 (h2.below hb) (fun x hx => (h3 x hx).below hb) hm3 hm2)
  generalize runB 0 (peers.map (peerF i)) = B6 at HV CP
  generalize (decide (ones.length ≤ 5) && runB 0 (ones.map oneF)) = B5 at HV CO
  clear hb0 hbx h1 h2 h3 hm1 hm2 hm3
  go_enter Try.func20, Try.ntmps20
  go_wp2_with fail
  refine (idOk_i i _ _ rfl).mono ?_
  rintro e w' ⟨rfl, rfl⟩
  generalize decide (1 ≤ i ∧ i ≤ 9) = B1 at HV ⊢
  cases B1 with
  | false =>
    go_wp2
    go_ret
    exact ⟨by rw [HV.out]; rfl, HX.out.1⟩
  | true =>
  go_wp2_with fail
  refine (userOk_i us _).mono ?_
  rintro e w' ⟨rfl, rfl⟩
  generalize userB us = B2 at HV ⊢
  cases B2 with
  | false =>
    go_wp2
    go_ret
    exact ⟨by rw [HV.out]; rfl, HX.out.1⟩
  | true =>
  go_wp2_with fail
  refine (pairOk_i ik ip _).mono ?_
  rintro e w1 ⟨rfl, hb⟩
  have hbx := (hb.block _ (Array.getElem?_eq_some_iff.1 HX.out.2).1).trans HX.out.2
  have HX := Lib.hid (And.intro (HX.out.1.trans (hb.mono HX.out.1.size)) hbx)
  clear hb c0 c1 c2 c3 c4 c5 c6 c7
  have c0 : w1.cell? ⟨w.heap.size, 0, none⟩ = some (.int .i64 i) := cell_of_row w1 w.heap.size 0 _ _ (0, 0) hbx
  have c1 : w1.cell? ⟨w.heap.size, 1, none⟩ = some (.int .i64 us) := cell_of_row w1 w.heap.size 1 _ _ (0, 0) hbx
  have c2 : w1.cell? ⟨w.heap.size, 2, none⟩ = some (.string ik) := cell_of_row w1 w.heap.size 2 _ _ (0, 0) hbx
  have c3 : w1.cell? ⟨w.heap.size, 3, none⟩ = some (.string ip) := cell_of_row w1 w.heap.size 3 _ _ (0, 0) hbx
  have c4 : w1.cell? ⟨w.heap.size, 4, none⟩ = some (.string sk) := cell_of_row w1 w.heap.size 4 _ _ (0, 0) hbx
  have c5 : w1.cell? ⟨w.heap.size, 5, none⟩ = some (.string sp) := cell_of_row w1 w.heap.size 5 _ _ (0, 0) hbx
  have c6 : w1.cell? ⟨w.heap.size, 6, none⟩ = some (.slice po ones.length co) := cell_of_row w1 w.heap.size 6 _ _ (0, 0) hbx
  have c7 : w1.cell? ⟨w.heap.size, 7, none⟩ = some (.slice pp peers.length cp) := cell_of_row w1 w.heap.size 7 _ _ (0, 0) hbx
  clear hbx
  generalize pairB ik ip = B3 at HV ⊢
  cases B3 with
  | false =>
    go_wp2
    go_ret
    exact ⟨by rw [HV.out]; rfl, HX.out.1⟩
  | true =>
  go_wp2_with fail
  refine (pairOk_i sk sp _).mono ?_
  rintro e w2 ⟨rfl, hb⟩
  have hbx := (hb.block _ (Array.getElem?_eq_some_iff.1 HX.out.2).1).trans HX.out.2
  have HX := Lib.hid (And.intro (HX.out.1.trans (hb.mono HX.out.1.size)) hbx)
  clear hb c0 c1 c2 c3 c4 c5 c6 c7
  have c0 : w2.cell? ⟨w.heap.size, 0, none⟩ = some (.int .i64 i) := cell_of_row w2 w.heap.size 0 _ _ (0, 0) hbx
  have c1 : w2.cell? ⟨w.heap.size, 1, none⟩ = some (.int .i64 us) := cell_of_row w2 w.heap.size 1 _ _ (0, 0) hbx
  have c2 : w2.cell? ⟨w.heap.size, 2, none⟩ = some (.string ik) := cell_of_row w2 w.heap.size 2 _ _ (0, 0) hbx
  have c3 : w2.cell? ⟨w.heap.size, 3, none⟩ = some (.string ip) := cell_of_row w2 w.heap.size 3 _ _ (0, 0) hbx
  have c4 : w2.cell? ⟨w.heap.size, 4, none⟩ = some (.string sk) := cell_of_row w2 w.heap.size 4 _ _ (0, 0) hbx
  have c5 : w2.cell? ⟨w.heap.size, 5, none⟩ = some (.string sp) := cell_of_row w2 w.heap.size 5 _ _ (0, 0) hbx
  have c6 : w2.cell? ⟨w.heap.size, 6, none⟩ = some (.slice po ones.length co) := cell_of_row w2 w.heap.size 6 _ _ (0, 0) hbx
  have c7 : w2.cell? ⟨w.heap.size, 7, none⟩ = some (.slice pp peers.length cp) := cell_of_row w2 w.heap.size 7 _ _ (0, 0) hbx
  clear hbx
  generalize pairB sk sp = B4 at HV ⊢
  cases B4 with
  | false =>
    go_wp2
    go_ret
    exact ⟨by rw [HV.out]; rfl, HX.out.1⟩
  | true =>
  have CO := Lib.hid (CO.out _ HX.out.1)
  go_wp2_with fail
  refine CO.out.mono ?_
  rintro e w3 ⟨rfl, hb⟩
  have hbx := (hb.block _ (Array.getElem?_eq_some_iff.1 HX.out.2).1).trans HX.out.2
  have HX := Lib.hid (And.intro (HX.out.1.trans (hb.mono HX.out.1.size)) hbx)
  clear hb c0 c1 c2 c3 c4 c5 c6 c7 CO
  have c0 : w3.cell? ⟨w.heap.size, 0, none⟩ = some (.int .i64 i) := cell_of_row w3 w.heap.size 0 _ _ (0, 0) hbx
  have c1 : w3.cell? ⟨w.heap.size, 1, none⟩ = some (.int .i64 us) := cell_of_row w3 w.heap.size 1 _ _ (0, 0) hbx
  have c2 : w3.cell? ⟨w.heap.size, 2, none⟩ = some (.string ik) := cell_of_row w3 w.heap.size 2 _ _ (0, 0) hbx
  have c3 : w3.cell? ⟨w.heap.size, 3, none⟩ = some (.string ip) := cell_of_row w3 w.heap.size 3 _ _ (0, 0) hbx
  have c4 : w3.cell? ⟨w.heap.size, 4, none⟩ = some (.string sk) := cell_of_row w3 w.heap.size 4 _ _ (0, 0) hbx
  have c5 : w3.cell? ⟨w.heap.size, 5, none⟩ = some (.string sp) := cell_of_row w3 w.heap.size 5 _ _ (0, 0) hbx
  have c6 : w3.cell? ⟨w.heap.size, 6, none⟩ = some (.slice po ones.length co) := cell_of_row w3 w.heap.size 6 _ _ (0, 0) hbx
  have c7 : w3.cell? ⟨w.heap.size, 7, none⟩ = some (.slice pp peers.length cp) := cell_of_row w3 w.heap.size 7 _ _ (0, 0) hbx
  clear hbx
  cases B5 with
  | false =>
    go_wp2
    go_ret
    exact ⟨by rw [HV.out]; rfl, HX.out.1⟩
  | true =>
  have CP := Lib.hid (CP.out _ HX.out.1)
  go_wp2_with fail
  refine CP.out.mono ?_
  rintro e w4 ⟨rfl, hb⟩
  have HB := Lib.hid (HX.out.1.trans (hb.mono HX.out.1.size))
  clear hb c0 c1 c2 c3 c4 c5 c6 c7 CP HX
  go_wp2
  go_ret
  exact ⟨by rw [HV.out]; rfl, HB.out⟩
end Go.Proofs.Ytkglgficmealnaa

/- What the program's ReadEnv answers. -/
import Derived.Test.YtmolcpojdojmlaaDoorRdM7y
import Derived.Test.YtmolcpojdojmlaaDoorRdM7l
import Derived.Test.YtmolcpojdojmlaaDoorRdM7n
namespace Go.Proofs.YtmolcpojdojmlaaDoor
open Go.RowKit Go.My Go.Lib
set_option linter.unusedVariables false

/-! ### ReadEnv: what is read -/
def fE (s : ByteArray) : Nat := numOf (cut s 0 1).data.toList
def tE (s : ByteArray) : Nat := numOf (cut s 1 2).data.toList
def nE (s : ByteArray) : Nat := numOf (cut s 2 3).data.toList
/-- The fields of an envelope as the bytes s tell them, its message's bytes beginning at k. -/
def EnvK (s : ByteArray) (z : Bool) (p q : ByteArray) (o : Int) (m : ByteArray) : Prop :=
  RdMP m ∧ EnvP (fE s) (tE s) z p q o (cut m 0 32) (numOf (cut m 32 34).data.toList : Nat) (numOf (cut m 34 36).data.toList : Nat) (cut m 38 m.size)
instance (s : ByteArray) (z : Bool) (p q : ByteArray) (o : Int) (m : ByteArray) : Decidable (EnvK s z p q o m) := inferInstanceAs (Decidable (_ ∧ _))
def envKA (s : ByteArray) (z : Bool) (p q : ByteArray) (o : Int) (m : ByteArray) : Array Value :=
  envA (fE s) (tE s) z p q o (cut m 0 32) (numOf (cut m 32 34).data.toList : Nat) (numOf (cut m 34 36).data.toList : Nat) (cut m 38 m.size)
def RdEF (s : ByteArray) : Prop := 3 ≤ s.size ∧ nE s = 0 ∧ EnvK s false ⟨#[]⟩ ⟨#[]⟩ 0 (cut s 3 s.size)
def RdET (s : ByteArray) : Prop := 69 ≤ s.size ∧ nE s = 1 ∧ EnvK s true (cut s 3 35) (cut s 35 67) (numOf (cut s 67 69).data.toList : Nat) (cut s 69 s.size)
instance (s : ByteArray) : Decidable (RdEF s) := inferInstanceAs (Decidable (_ ∧ _))
instance (s : ByteArray) : Decidable (RdET s) := inferInstanceAs (Decidable (_ ∧ _))
def RdEP (s : ByteArray) : Prop := RdEF s ∨ RdET s
instance (s : ByteArray) : Decidable (RdEP s) := inferInstanceAs (Decidable (_ ∨ _))
def rdEA (s : ByteArray) : Array Value :=
  if RdEF s then envKA s false ⟨#[]⟩ ⟨#[]⟩ 0 (cut s 3 s.size)
  else if RdET s then envKA s true (cut s 3 35) (cut s 35 67) (numOf (cut s 67 69).data.toList : Nat) (cut s 69 s.size) else zeroE
theorem rdEA_F {s : ByteArray} (h : RdEF s) : rdEA s = envKA s false ⟨#[]⟩ ⟨#[]⟩ 0 (cut s 3 s.size) := if_pos h
theorem rdEA_T {s : ByteArray} (h : RdET s) : rdEA s = envKA s true (cut s 3 35) (cut s 35 67) (numOf (cut s 67 69).data.toList : Nat) (cut s 69 s.size) := by
  unfold rdEA
  rw [if_neg (fun c : RdEF s => by have := c.2.1; have := h.2.1; omega), if_pos h]
theorem rdEA_no {s : ByteArray} (h : ¬ RdEP s) : rdEA s = zeroE := by
  unfold rdEA
  rw [if_neg (fun c => h (.inl c)), if_neg (fun c => h (.inr c))]
theorem rdEA_ten (s : ByteArray) : ∃ f t z p q o u a b x, rdEA s = envA f t z p q o u a b x := by
  by_cases h : RdEF s
  · exact ⟨_, _, _, _, _, _, _, _, _, _, rdEA_F h⟩
  by_cases h2 : RdET s
  · exact ⟨_, _, _, _, _, _, _, _, _, _, rdEA_T h2⟩
  · exact ⟨_, _, _, _, _, _, _, _, _, _, rdEA_no (fun c => c.elim h h2)⟩

set_option maxHeartbeats 2000000 in
theorem wholeE_any (s : ByteArray) (w : World) (T : TypeId) (v : Value) (hE : TabE T v w) (hs : s.size ≤ 1048576) :
    Calls Tryd.prog 22 #[.string s, .func (.func 23) #[] #[]] w fun e w' => e = .returned (.tuple #[.agg (rdEA s), .bool (decide (RdEP s))]) ∧ Below w.heap.size w w' := by
  have hg0 : 0 ≠ w.heap.size + 1 + 1 := by have := hE.1; omega
  have key : ¬ RdEP s → (∀ w1 : World, RdAt (w.heap.size + 1 + 1) s w1 → TabE T v w1 → Calls Tryd.prog 23 #[.pointer (some ⟨w.heap.size + 1 + 1, 0, none⟩)] w1 fun e w' => e = panE T v ∧ But (w.heap.size + 1 + 1) w1 w') → Calls Tryd.prog 22 #[.string s, .func (.func 23) #[] #[]] w fun e w' => e = .returned (.tuple #[.agg (rdEA s), .bool (decide (RdEP s))]) ∧ Below w.heap.size w w' := fun hn hm => by
    rw [rdEA_no hn, decide_eq_false hn]
    exact wholeE_no s w T v hE hm
  have size3 : RdEP s → 3 ≤ s.size := fun c => c.elim (fun d => d.1) (fun d => by have := d.1; omega)
  by_cases h0 : s.size < 1
  · exact key (fun c => by have := size3 c; omega) (fun w1 hR h1 => envelope_no0 _ s w1 T v h1 hR hg0 hs _ _ rfl rfl h0)
  by_cases h1 : s.size < 2
  · exact key (fun c => by have := size3 c; omega) (fun w1 hR hh => envelope_no1 _ s w1 T v hh hR hg0 hs _ _ rfl rfl ⟨by omega, h1⟩)
  by_cases h2 : s.size < 3
  · exact key (fun c => by have := size3 c; omega) (fun w1 hR hh => envelope_no2 _ s w1 T v hh hR hg0 hs _ _ rfl rfl ⟨by omega, h2⟩)
  have h3 : 3 ≤ s.size := by omega
  have hcase : nE s = 0 ∨ nE s = 1 ∨ 1 < nE s := by omega
  rcases hcase with hz | hz | hz
  case inr.inr =>
    exact key (fun c => by rcases c with d | d <;> (have := d.2.1; omega)) (fun w1 hR hh => envelope_no3 _ s w1 T v hh hR hg0 hs _ _ rfl rfl h3 hz)
  case inl =>
    have noF : RdEP s → EnvK s false ⟨#[]⟩ ⟨#[]⟩ 0 (cut s 3 s.size) := fun c => by
      rcases c with d | d
      · exact d.2.2
      · have := d.2.1; omega
    obtain ⟨m, hm⟩ : ∃ m, cut s 3 s.size = m := ⟨_, rfl⟩
    have hms : m.size = s.size - 3 := by rw [← hm]; exact cut_size s 3 s.size (Nat.le_refl _)
    obtain ⟨n, hn⟩ : ∃ n, numOf (cut m 36 38).data.toList = n := ⟨_, rfl⟩
    by_cases hp : 38 + n ≤ m.size ∧ MsgP (cut m 0 32) (numOf (cut m 32 34).data.toList : Nat) (numOf (cut m 34 36).data.toList : Nat) (cut m 38 (38 + n))
    case neg =>
      refine key (fun c => ?_) (fun w1 hR h1 => envelope_noF5 _ s w1 T v h1 hR hg0 hs _ _ rfl rfl h3 hz (fun w2 hR2 h2 => message_pan _ m w2 T v h2 (by rw [← hm]; exact hR2) hg0 (by omega) n hn hp))
      have c' := noF c
      rw [hm] at c'
      have := c'.1.2.1
      exact hp ⟨by have := c'.1.1; omega, by rw [show 38 + n = m.size by have := c'.1.1; omega]; exact c'.1.2.2⟩
    have HMy := fun w2 hR2 h2 => message_yes (w.heap.size + 1 + 1) m w2 T v h2 (by rw [← hm]; exact hR2) hg0 (by omega) n hn hp.1 hp.2
    by_cases hO : EnvP (fE s) (tE s) false ⟨#[]⟩ ⟨#[]⟩ 0 (cut m 0 32) (numOf (cut m 32 34).data.toList : Nat) (numOf (cut m 34 36).data.toList : Nat) (cut m 38 (38 + n))
    case neg =>
      refine key (fun c => ?_) (fun w1 hR h1 => envelope_noF6 _ s w1 T v h1 hR hg0 hs _ _ rfl rfl h3 (cut m 0 32) (cut m 38 (38 + n)) (cut m (38 + n) m.size) _ _ (by rw [cut_size _ _ _ (by omega)]; omega) (by rw [cut_size _ _ _ (by omega)]; omega) hz HMy hO)
      have c' := noF c
      rw [hm] at c'
      have := c'.1.2.1
      exact hO (by rw [show 38 + n = m.size by have := c'.1.1; omega]; exact c'.2)
    have HY := fun w1 hR h1 => envelope_yesF (w.heap.size + 1 + 1) s w1 T v h1 hR hg0 hs _ _ rfl rfl h3 (cut m 0 32) (cut m 38 (38 + n)) (cut m (38 + n) m.size) _ _ (by rw [cut_size _ _ _ (by omega)]; omega) (by rw [cut_size _ _ _ (by omega)]; omega) hz HMy hO
    by_cases h6 : 38 + n = m.size
    · have hy : RdEF s := ⟨h3, hz, by rw [hm]; exact ⟨⟨by omega, by omega, by rw [← h6]; exact hp.2⟩, by rw [← h6]; exact hO⟩⟩
      have hP : RdEP s := .inl hy
      rw [rdEA_F hy, decide_eq_true hP]
      have := wholeE_yes s w T v hE _ _ _ _ _ _ _ _ _ _ _ (by rw [cut_size _ _ _ (Nat.le_refl _)]; omega) HY
      unfold envKA
      rw [hm]
      rw [h6] at this
      exact this
    · have hn' : ¬ RdEP s := fun c => by
        have c' := noF c
        rw [hm] at c'
        have := c'.1.2.1
        have := c'.1.1
        omega
      rw [rdEA_no hn', decide_eq_false hn']
      exact wholeE_left s w T v hE _ _ _ _ _ _ _ _ _ _ _ (by rw [cut_size _ _ _ (Nat.le_refl _)]; omega) HY
  case inr.inl =>
    have noT' : RdEP s → 69 ≤ s.size ∧ EnvK s true (cut s 3 35) (cut s 35 67) (numOf (cut s 67 69).data.toList : Nat) (cut s 69 s.size) := fun c => by
      rcases c with d | d
      · have := d.2.1; omega
      · exact ⟨d.1, d.2.2⟩
    by_cases h69 : s.size < 69
    · exact key (fun c => by have := (noT' c).1; omega) (fun w1 hR hh => envelope_noT4 _ s w1 T v hh hR hg0 hs _ _ rfl rfl h3 hz (fun w2 hR2 hh2 => initial_pan _ s w2 T v hh2 hR2 hg0 hs h3 h69))
    have noT := fun c => (noT' c).2
    have h69' : 69 ≤ s.size := by omega
    have HIy := fun w2 hR2 h2 => initial_yes (w.heap.size + 1 + 1) s w2 T v h2 hR2 hg0 hs h69'
    obtain ⟨m, hm⟩ : ∃ m, cut s 69 s.size = m := ⟨_, rfl⟩
    have hms : m.size = s.size - 69 := by rw [← hm]; exact cut_size s 69 s.size (Nat.le_refl _)
    obtain ⟨n, hn⟩ : ∃ n, numOf (cut m 36 38).data.toList = n := ⟨_, rfl⟩
    by_cases hp : 38 + n ≤ m.size ∧ MsgP (cut m 0 32) (numOf (cut m 32 34).data.toList : Nat) (numOf (cut m 34 36).data.toList : Nat) (cut m 38 (38 + n))
    case neg =>
      refine key (fun c => ?_) (fun w1 hR h1 => envelope_noT5 _ s w1 T v h1 hR hg0 hs _ _ rfl rfl h3 _ _ _ hz HIy (fun w2 hR2 h2 => message_pan _ m w2 T v h2 (by rw [← hm]; exact hR2) hg0 (by omega) n hn hp))
      have c' := noT c
      rw [hm] at c'
      have := c'.1.2.1
      exact hp ⟨by have := c'.1.1; omega, by rw [show 38 + n = m.size by have := c'.1.1; omega]; exact c'.1.2.2⟩
    have HMy := fun w2 hR2 h2 => message_yes (w.heap.size + 1 + 1) m w2 T v h2 (by rw [← hm]; exact hR2) hg0 (by omega) n hn hp.1 hp.2
    by_cases hO : EnvP (fE s) (tE s) true (cut s 3 35) (cut s 35 67) (numOf (cut s 67 69).data.toList : Nat) (cut m 0 32) (numOf (cut m 32 34).data.toList : Nat) (numOf (cut m 34 36).data.toList : Nat) (cut m 38 (38 + n))
    case neg =>
      refine key (fun c => ?_) (fun w1 hR h1 => envelope_noT6 _ s w1 T v h1 hR hg0 hs _ _ rfl rfl h3 _ _ _ (by rw [cut_size _ _ _ (by omega)]; omega) (by rw [cut_size _ _ _ (by omega)]; omega) (cut m 0 32) (cut m 38 (38 + n)) (cut m (38 + n) m.size) _ _ (by rw [cut_size _ _ _ (by omega)]; omega) (by rw [cut_size _ _ _ (by omega)]; omega) hz HIy HMy hO)
      have c' := noT c
      rw [hm] at c'
      have := c'.1.2.1
      exact hO (by rw [show 38 + n = m.size by have := c'.1.1; omega]; exact c'.2)
    have HY := fun w1 hR h1 => envelope_yesT (w.heap.size + 1 + 1) s w1 T v h1 hR hg0 hs _ _ rfl rfl h3 _ _ _ (by rw [cut_size _ _ _ (by omega)]; omega) (by rw [cut_size _ _ _ (by omega)]; omega) (cut m 0 32) (cut m 38 (38 + n)) (cut m (38 + n) m.size) _ _ (by rw [cut_size _ _ _ (by omega)]; omega) (by rw [cut_size _ _ _ (by omega)]; omega) hz HIy HMy hO
    by_cases h6 : 38 + n = m.size
    · have hy : RdET s := ⟨h69', hz, by rw [hm]; exact ⟨⟨by omega, by omega, by rw [← h6]; exact hp.2⟩, by rw [← h6]; exact hO⟩⟩
      have hP : RdEP s := .inr hy
      rw [rdEA_T hy, decide_eq_true hP]
      have := wholeE_yes s w T v hE _ _ _ _ _ _ _ _ _ _ _ (by rw [cut_size _ _ _ (Nat.le_refl _)]; omega) HY
      unfold envKA
      rw [hm]
      rw [h6] at this
      exact this
    · have hn' : ¬ RdEP s := fun c => by
        have c' := noT c
        rw [hm] at c'
        have := c'.1.2.1
        have := c'.1.1
        omega
      rw [rdEA_no hn', decide_eq_false hn']
      exact wholeE_left s w T v hE _ _ _ _ _ _ _ _ _ _ _ (by rw [cut_size _ _ _ (Nat.le_refl _)]; omega) HY

set_option maxHeartbeats 4000000 in
set_option maxRecDepth 100000 in
theorem readEnv_i (s : ByteArray) (w : World) (T : TypeId) (v : Value) (hE : TabE T v w) (hs : s.size ≤ 1048576) :
    Calls Tryd.prog 7 #[.string s] w fun e w' => e = .returned (.tuple #[.agg (rdEA s), .bool (decide (RdEP s))]) ∧ Below w.heap.size w w' := by
  have hb0 := below_box w (.cells zeroE 29)
  have q0 := BlkAt.box w zeroE 29
  have HW := Lib.hid (wholeE_any s _ T v (TabE.below hb0 hE) hs)
  obtain ⟨f, t, z, p, q, o, u, a, b, x, hx⟩ := rdEA_ten s
  rw [hx] at HW ⊢
  generalize decide (RdEP s) = R at *
  clear hx hs
  go_enter Tryd.func7, Tryd.ntmps7
  go_wp2_with fail
  refine HW.out.mono ?_
  rintro e w1 ⟨rfl, hb1⟩
  have q0 := BlkAt.below hb1 q0
  have hB := hb0.trans (hb1.mono hb0.size)
  clear hb1 hb0
  go_wp2_with (first
    | ((with_reducible refine wpList_store_row' (o := ⟨none, .store 29 _ _, _, _, _, _⟩) rfl 29 _ _ rfl w.heap.size (envA f t z p q o u a b x) rfl rfl 29 _ q0.h (envSz f t z p q o u a b x) rfl (envOne f t z p q o u a b x) ?_); intro wa hwa hsa hga)
    | fail)
  have qa : BlkAt w.heap.size (envA f t z p q o u a b x) 29 wa := hwa
  have c0 := qa.cell (j := 0) rfl
  have c1 := qa.cell (j := 1) rfl
  have c2 := qa.cell (j := 2) rfl
  have c3 := qa.cell (j := 3) rfl
  have c4 := qa.cell (j := 4) rfl
  have c5 := qa.cell (j := 5) rfl
  have c6 := qa.cell (j := 6) rfl
  have c7 := qa.cell (j := 7) rfl
  have c8 := qa.cell (j := 8) rfl
  have c9 := qa.cell (j := 9) rfl
  refine bodyPost_ret (v := .tuple #[.agg (envA f t z p q o u a b x), .bool R]) (by simp [results, Tryd.results7, go_sem, *]) rfl ⟨rfl, ?_⟩
  exact hB.grown hga hB.size (by intro k hk; have := Option.some.inj hk; omega)

end Go.Proofs.YtmolcpojdojmlaaDoor

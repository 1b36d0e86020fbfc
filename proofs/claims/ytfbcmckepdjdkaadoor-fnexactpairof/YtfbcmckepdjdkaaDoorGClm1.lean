/- The contracts of Clamped, of the program and of the specification. -/
import Derived.Test.YtfbcmckepdjdkaaDoorGField
import Derived.Test.YtfbcmckepdjdkaaDoorGM1
namespace Go.Proofs.YtfbcmckepdjdkaaDoor
open Go.RowKit Go.My Go.Lib
set_option linter.unusedVariables false

theorem and248 (x : Nat) (h : x < 256) : bits .and .u8 (x : Int) 248 = ((x - x % 8 : Nat) : Int) := by
  have : ∀ x : Nat, x < 256 → bits .and .u8 (x : Int) 248 = ((x - x % 8 : Nat) : Int) := by decide +kernel
  exact this x h
theorem and127 (x : Nat) (h : x < 256) : bits .and .u8 (x : Int) 127 = ((x % 128 : Nat) : Int) := by
  have : ∀ x : Nat, x < 256 → bits .and .u8 (x : Int) 127 = ((x % 128 : Nat) : Int) := by decide +kernel
  exact this x h
theorem or64 (x : Nat) (h : x < 128) : bits .or .u8 (x : Int) 64 = ((x % 64 + 64 : Nat) : Int) := by
  have : ∀ x : Nat, x < 128 → bits .or .u8 (x : Int) 64 = ((x % 64 + 64 : Nat) : Int) := by decide +kernel
  exact this x h
def c0 (x : Nat) : Nat := x - x % 8
def c31 (x : Nat) : Nat := x % 128 % 64 + 64
def clampL (l : List UInt8) : List UInt8 := (l.set 0 (UInt8.ofNat (c0 (l.getD 0 0).toNat))).set 31 (UInt8.ofNat (c31 (l.getD 31 0).toNat))
theorem clampL_len (l : List UInt8) : (clampL l).length = l.length := by simp [clampL]
/-- What Clamped answers. -/
def clampV (s : ByteArray) : ByteArray := if s.size = 32 then str (clampL s.data.toList) else str []

/-- Block G is a row that begins with these 32 bytes, which may be written. -/
def SBl (w : World) (G : Nat) (l : List UInt8) : Prop := ∃ (cs : Array Value) (fr : Nat × Nat), w.heap[G]? = some (.cells cs 5 fr) ∧ 32 ≤ fr.1 ∧ l.length = 32 ∧ ∀ j (hj : j < l.length), cs[j]? = some (.int .u8 (l[j].toNat : Int))
theorem SBl.ofBytes (w : World) (X : ByteArray) (h : X.size = 32) : SBl (Lib.bytesWorld w 5 X) w.heap.size X.data.toList := by
  have hl := len_data X
  refine ⟨_, _, Lib.bytesWorld_at_new w _ X, ?_, by omega, ?_⟩
  · have : X.data.size = 32 := by rw [← Array.length_toList]; omega
    simp [Lib.bytesCells]
    omega
  · intro j hj
    have : X.data.size = 32 := by rw [← Array.length_toList]; omega
    have hj2 : j < X.data.size := by rw [← Array.length_toList]; exact hj
    unfold Lib.bytesCells
    rw [Array.getElem?_append_left (by simpa using hj2)]
    simp
    exact ⟨X.data[j], by simp, rfl⟩
theorem SBl.at {w : World} {G : Nat} {l : List UInt8} (h : SBl w G l) (j : Nat) (hj : j < 32) : w.cell? ⟨G, j, none⟩ = some (.int .u8 ((l.getD j 0).toNat : Int)) ∧ w.frozen? ⟨G, j, none⟩ = false := by
  obtain ⟨cs, fr, hh, hf, hl, hc⟩ := h
  constructor
  · simp only [World.cell?, hh]
    have := hc j (by omega)
    rw [List.getD_eq_getElem?_getD, List.getElem?_eq_getElem (by omega)]
    exact this
  · obtain ⟨lo, hi⟩ := fr
    simp only [World.frozen?, hh]
    simp
    intro c
    simp at hf
    omega
theorem SBl.set {w : World} {G : Nat} {l : List UInt8} (h : SBl w G l) (j : Nat) (n : Nat) (h1 : n < 256) : SBl (w.setCell ⟨G, j, none⟩ (.int .u8 (n : Int))) G (l.set j (UInt8.ofNat n)) := by
  obtain ⟨cs, ⟨lo, hi⟩, hh, hf, hl, hc⟩ := h
  refine ⟨cs.setIfInBounds j (.int .u8 (n : Int)), (lo, hi), ?_, hf, by rw [List.length_set]; exact hl, ?_⟩
  · have hlt := (Array.getElem?_eq_some_iff.1 hh).1
    simp [World.setCell, Array.getElem?_modify, hh]
  · intro k hk
    rw [List.length_set] at hk
    rw [Array.getElem?_setIfInBounds, List.getElem_set]
    by_cases hjk : j = k
    · subst hjk
      have hs : j < cs.size := (Array.getElem?_eq_some_iff.1 (hc j hk)).1
      simp [hs]
      omega
    · simp [hjk]
      simpa using hc k hk
theorem SBl.conv {w : World} {G : Nat} {l : List UInt8} (h : SBl w G l) (cap : Nat) : (convert 39 9 (.slice (some ⟨G, 0, none⟩) 32 cap)).run Tryd.prog w = .ok (.string (str l)) w := by
  obtain ⟨cs, fr, hh, hf, hl, hc⟩ := h
  have := run_convert_bytes_back (P := Tryd.prog) w 39 9 5 ⟨G, 0, none⟩ cap l Tryd.underlying39 Tryd.underlying5 Tryd.underlying9 (fun j hj => by rw [Addr.add_lit]; simp only [World.cell?, hh]; simpa using hc j hj)
  rw [hl] at this
  exact this
theorem conv_sbl (w : World) (X : ByteArray) (h : X.size = 32) : ∃ (G cap : Nat) (w7 : World), (convert 9 39 (.string X)).run Tryd.prog w = .ok (.slice (some ⟨G, 0, none⟩) 32 cap) w7 ∧ SBl w7 G X.data.toList ∧ w.heap.size ≤ G ∧ Below w.heap.size w w7 := by
  have e := Lib.run_convert_string_bytes (P := Tryd.prog) w 9 39 5 X Tryd.underlying9 Tryd.underlying39 Tryd.underlying5
  rw [h] at e
  refine ⟨_, _, _, e, SBl.ofBytes w X h, Nat.le_refl _, ?_⟩
  refine ⟨?_, ?_, ?_, by rw [Lib.bytesWorld_size]; omega, fun k hk => Lib.bytesWorld_at_old w _ X k hk⟩
  all_goals (unfold Lib.bytesWorld World.freeze; split <;> rfl)

set_option maxHeartbeats 2000000 in
theorem clamp_i (s : ByteArray) (w : World) (hm : s.size ≤ 9223372036854775807) :
    Calls Tryd.prog 133 #[.string s] w fun e w' => e = .returned (.string (clampV s)) ∧ Below w.heap.size w w' := by
  by_cases hs : s.size = 32
  case neg =>
    have HD := Lib.hid (decide_eq_false hs)
    have HV : Hid (clampV s = str []) := if_neg hs
    have HM := Lib.hid hm
    clear hs hm
    go_enter Tryd.func133, Tryd.ntmps133
    go_wp2_with fail
    refine (isKey_any s _ HM.out).mono ?_
    rintro e w' ⟨rfl, rfl⟩
    rw [HD.out]
    go_wp2
    go_ret
    exact ⟨by rw [HV.out]; rfl, Below.refl _ _⟩
  have HD := Lib.hid (decide_eq_true hs)
  have HM := Lib.hid hm
  have HV : Hid (clampV s = str (clampL s.data.toList)) := if_pos hs
  obtain ⟨G, cap, w7, hcv, hS, hG, hb⟩ := conv_sbl w s hs
  have HC : Hid (clampL s.data.toList = (s.data.toList.set 0 (UInt8.ofNat (c0 (s.data.toList.getD 0 0).toNat))).set 31 (UInt8.ofNat (c31 (s.data.toList.getD 31 0).toNat))) := rfl
  have h31 : (s.data.toList.set 0 (UInt8.ofNat (c0 (s.data.toList.getD 0 0).toNat))).getD 31 0 = s.data.toList.getD 31 0 := by simp
  clear hs hm
  generalize s.data.toList = l at *
  have x0 : (l.getD 0 0).toNat < 256 := (l.getD 0 0).toNat_lt
  have x31 : (l.getD 31 0).toNat < 256 := (l.getD 31 0).toNat_lt
  obtain ⟨hc0, hf0⟩ := hS.at 0 (by omega)
  have a0 : bits .and .u8 ((l.getD 0 0).toNat : Int) 248 = (c0 (l.getD 0 0).toNat : Int) := and248 _ x0
  have S1 := hS.set 0 (c0 (l.getD 0 0).toNat) (by unfold c0; omega)
  obtain ⟨hc31, hf31⟩ := S1.at 31 (by omega)
  rw [h31] at hc31
  have a31 : bits .and .u8 ((l.getD 31 0).toNat : Int) 127 = ((l.getD 31 0).toNat % 128 : Nat) := and127 _ x31
  have b31 : bits .or .u8 (((l.getD 31 0).toNat % 128 : Nat) : Int) 64 = (c31 (l.getD 31 0).toNat : Int) := or64 _ (Nat.mod_lt _ (by omega))
  have S2 := S1.set 31 (c31 (l.getD 31 0).toNat) (by unfold c31; omega)
  have hcv2 := S2.conv cap
  rw [← HC.out] at hcv2
  have HB := Lib.hid (show Below w.heap.size w ((w7.setCell ⟨G, 0, none⟩ (.int .u8 (c0 (l.getD 0 0).toNat : Int))).setCell ⟨G, 31, none⟩ (.int .u8 (c31 (l.getD 31 0).toNat : Int))) from (hb.setCell hG _).setCell hG _)
  clear hS S1 S2 hb hG x0 x31 h31
  generalize clampL l = L at *
  generalize ((l.getD 31 0).toNat % 128 : Nat) = y at *
  generalize c31 (l.getD 31 0).toNat = z at *
  generalize c0 (l.getD 0 0).toNat = u at *
  generalize (l.getD 0 0).toNat = p at *
  generalize (l.getD 31 0).toNat = q at *
  go_enter Tryd.func133, Tryd.ntmps133
  go_wp2_with fail
  refine (isKey_any s _ HM.out).mono ?_
  rintro e w' ⟨rfl, rfl⟩
  rw [HD.out]
  go_wp2
  go_ret
  exact ⟨by rw [HV.out]; rfl, HB.out⟩

theorem l1Key_bool (s : ByteArray) (w : World) (b : Bool) (hb : ((s.size : Int) == 32) = b) :
    Calls Tryd.prog 62 #[.string s] w fun e w' => e = .returned (.bool b) ∧ w = w' := by
  go_enter Tryd.func62, Tryd.ntmps62
  go_wp2
  go_ret
  exact ⟨rfl, rfl⟩

theorem conv_one (W : World) (g x : Nat) (hx : x < 256) (h : W.heap[g]? = some (.cells #[.int .u8 (x : Int)] 5 (0, 0))) :
    (convert 39 9 (.slice (some ⟨g, 0, none⟩) 1 1)).run Tryd.prog W = .ok (.string (str [UInt8.ofNat x])) W := by
  have := run_convert_bytes_back (P := Tryd.prog) W 39 9 5 ⟨g, 0, none⟩ 1 [UInt8.ofNat x] Tryd.underlying39 Tryd.underlying5 Tryd.underlying9 (fun j hj => by
    have hj : j = 0 := by simpa using hj
    subst hj
    rw [Addr.add_lit]
    simp only [World.cell?, h]
    simp
    omega)
  exact this
theorem al_drew (w : World) (o : Obj) : (w.alloc o).drew.heap[w.heap.size]? = some o := heap_alloc_new w o
theorem al2_drew0 (w : World) (o p : Obj) : ((w.alloc o).alloc p).drew.heap[w.heap.size]? = some o := by
  have : ((w.alloc o).alloc p).heap[w.heap.size]? = some o := by rw [Below.heap_alloc _ _ _ (by simp)]; exact heap_alloc_new w o
  exact this
theorem al2_drew1 (w : World) (o p : Obj) : ((w.alloc o).alloc p).drew.heap[w.heap.size + 1]? = some p := by
  have := heap_alloc_new (w.alloc o) p
  rw [World.size_alloc] at this
  exact this
theorem get_list (s : ByteArray) (j : Nat) (h : j < s.size) : s.data.toList.getD j 0 = s[j] := by
  have : j < s.data.toList.length := by rw [len_data]; exact h
  rw [List.getD_eq_getElem?_getD, List.getElem?_eq_getElem this]
  rfl
theorem set_ends (l : List UInt8) (h : l.length = 32) (a b : UInt8) : (l.set 0 a).set 31 b = [a] ++ (l.drop 1).take 30 ++ [b] := by
  apply List.ext_getElem?
  intro j
  by_cases h0 : j = 0
  · subst h0; simp [h]
  · by_cases h1 : j = 31
    · subst h1
      rw [List.getElem?_set_self (by simp; omega)]
      rw [List.getElem?_append_right (by simp; omega)]
      simp [h]
    · rw [List.getElem?_set_ne (by omega), List.getElem?_set_ne (by omega)]
      by_cases h2 : j < 31
      · rw [List.getElem?_append_left (by simp; omega), List.getElem?_append_right (by simp; omega)]
        simp only [List.length_singleton, List.getElem?_take, List.getElem?_drop]
        rw [if_pos (by omega), show 1 + (j - 1) = j by omega]
      · rw [List.getElem?_eq_none (by omega), List.getElem?_eq_none (by simp; omega)]

set_option maxHeartbeats 4000000 in
theorem clamp_s (s : ByteArray) (w : World) (hm : s.size ≤ 9223372036854775807) :
    Calls Tryd.prog 129 #[.string s] w fun e w' => e = .returned (.string (clampV s)) ∧ Below w.heap.size w w' := by
  by_cases hs : s.size = 32
  case neg =>
    have HD : Hid (((s.size : Int) == 32) = false) := by show _ = _; simp; omega
    have HV : Hid (clampV s = str []) := if_neg hs
    clear hs hm
    go_enter Tryd.func129, Tryd.ntmps129
    go_wp2_with fail
    refine (l1Key_bool s _ false HD.out).mono ?_
    rintro e w' ⟨rfl, rfl⟩
    go_wp2
    go_ret
    exact ⟨by rw [HV.out]; rfl, Below.refl _ _⟩
  have HD : Hid (((s.size : Int) == 32) = true) := by show _ = _; simp; omega
  have l0 : 0 < s.size := by omega
  have l31 : 31 < s.size := by omega
  have HV : Hid (clampV s = str ([UInt8.ofNat (c0 (s[0]'l0).toNat)] ++ (s.data.toList.drop 1).take 30 ++ [UInt8.ofNat (c31 (s[31]'l31).toNat)])) := by
    show _ = _
    rw [clampV, if_pos hs, clampL, get_list s 0 l0, get_list s 31 l31, set_ends _ (by rw [len_data]; exact hs)]
  have a0 : bits .and .u8 ((s[0]'l0).toNat : Int) 248 = (c0 (s[0]'l0).toNat : Int) := and248 _ (s[0]'l0).toNat_lt
  have a31 : bits .and .u8 ((s[31]'l31).toNat : Int) 127 = ((s[31]'l31).toNat % 128 : Nat) := and127 _ (s[31]'l31).toNat_lt
  have b31 : bits .or .u8 (((s[31]'l31).toNat % 128 : Nat) : Int) 64 = (c31 (s[31]'l31).toNat : Int) := or64 _ (Nat.mod_lt _ (by omega))
  have hu : c0 (s[0]'l0).toNat < 256 := by have := (s[0]'l0).toNat_lt; unfold c0; omega
  have hz : c31 (s[31]'l31).toNat < 256 := by unfold c31; omega
  have HX : Hid ((s.extract 1 31).data.toList = (s.data.toList.drop 1).take 30) := ext_list s 1 30
  have HXS : Hid ((s.extract 1 31).size = 30) := by show _ = _; rw [ByteArray.size_extract]; omega
  have hs1 : (s.size : Int) = 32 := by omega
  clear hs hm
  generalize ((s[31]'l31).toNat % 128 : Nat) = y at *
  generalize c31 (s[31]'l31).toNat = z at *
  generalize c0 (s[0]'l0).toNat = u at *
  have E1 := conv_one (w.alloc (.cells #[.int .u8 (u : Int)] 5)).drew w.heap.size u hu (al_drew w _)
  have E2 := conv_one ((w.alloc (.cells #[.int .u8 (u : Int)] 5)).alloc (.cells #[.int .u8 (z : Int)] 5)).drew w.heap.size u hu (al2_drew0 w _ _)
  have E3 := conv_one ((w.alloc (.cells #[.int .u8 (u : Int)] 5)).alloc (.cells #[.int .u8 (z : Int)] 5)).drew (w.heap.size + 1) z hz (al2_drew1 w _ _)
  have E4 := conv_one (w.alloc (.cells #[.int .u8 (z : Int)] 5)).drew w.heap.size z hz (al_drew w _)
  have E5 := conv_one ((w.alloc (.cells #[.int .u8 (z : Int)] 5)).alloc (.cells #[.int .u8 (u : Int)] 5)).drew w.heap.size z hz (al2_drew0 w _ _)
  have E6 := conv_one ((w.alloc (.cells #[.int .u8 (z : Int)] 5)).alloc (.cells #[.int .u8 (u : Int)] 5)).drew (w.heap.size + 1) u hu (al2_drew1 w _ _)
  have c1 : ¬ 9223372036854775807 < (str [UInt8.ofNat u]).size + (s.extract 1 31).size := by rw [str_size, HXS.out]; simp
  have c2 : ¬ 9223372036854775807 < (str [UInt8.ofNat u] ++ s.extract 1 31).size + (str [UInt8.ofNat z]).size := by rw [ByteArray.size_append, str_size, str_size, HXS.out]; simp
  have c3 : ¬ 9223372036854775807 < (str [UInt8.ofNat u]).size + (s.extract 1 31).size + (str [UInt8.ofNat z]).size := by rw [str_size, str_size, HXS.out]; simp
  have c4 : ¬ 9223372036854775807 < (str [UInt8.ofNat u]).size + (min 31 s.size - 1) := by rw [str_size]; simp; omega
  have c5 : ¬ 9223372036854775807 < (str [UInt8.ofNat u]).size + (min 31 s.size - 1) + (str [UInt8.ofNat z]).size := by rw [str_size, str_size]; simp; omega
  have HR : Hid (str [UInt8.ofNat u] ++ s.extract 1 31 ++ str [UInt8.ofNat z] = clampV s) := by
    show _ = _
    rw [HV.out, ← HX.out, ← str_app, ← str_app]
    congr 2
  clear hu hz HX HXS HV
  generalize str [UInt8.ofNat u] = U at *
  generalize str [UInt8.ofNat z] = Z at *
  go_enter Tryd.func129, Tryd.ntmps129
  go_wp2_with fail
  refine (l1Key_bool s _ true HD.out).mono ?_
  rintro e w' ⟨rfl, rfl⟩
  go_wp2_with fail
  go_region
  all_goals
    go_wp2
    go_ret
    exact ⟨by rw [← HR.out]; rfl, (((Below.refl _ _).alloc (Nat.le_refl _) _).alloc (by simp) _).drew⟩

end Go.Proofs.YtfbcmckepdjdkaaDoor

/- The shared key's last step, of both sides: sharedOf, l8Root; what a key or nothing is. -/
import Derived.Test.YtfbcmckepdjdkaaDoorGStA1
import Derived.Test.YtfbcmckepdjdkaaDoorGSha11
import Derived.Test.YtfbcmckepdjdkaaDoorGM2
import Derived.Test.YtfbcmckepdjdkaaDoorGJoin
import Derived.Deep.RegionWith
namespace Go.Proofs.YtfbcmckepdjdkaaDoor
open Go.RowKit Go.My Go.Lib
set_option linter.unusedVariables false
set_option maxRecDepth 100000

def x3S : ByteArray := ByteArray.mk #[120, 51, 100, 104]
def zS : ByteArray := str (List.replicate 32 0)
theorem zS_size : zS.size = 32 := by unfold zS; rw [str_size, List.length_replicate]
/-- The shared key of a concatenation of secrets. -/
def shrV (l : List UInt8) : ByteArray := str (expandL (hmacL zS.data.toList l) x3S.data.toList 32)
theorem shrV_size (l : List UInt8) : (shrV l).size = 32 := by unfold shrV; rw [str_size, expandL_len]
theorem shrV_hkdf (l : List UInt8) (h : l.length ≤ 300) : str (hkdfV zS.data.toList (str l).data.toList x3S.data.toList 32) = shrV l := by
  have := hkdfV_yes2 (s := zS) (k := str l) (i := x3S) (n := 32) ⟨by rw [zS_size]; omega, by rw [str_size]; exact h, by decide, by omega⟩
  unfold shrV
  rw [show ((32 : Nat) : Int) = 32 from rfl] at this
  rw [this, str_list]

set_option maxHeartbeats 4000000 in
theorem sharedOf_i (g : Nat) (xs : List ByteArray) (w : World) (hk : TabK w) (h : w.heap[g]? = some (.cells (xs.map Value.string).toArray 9 (0, 0))) (hn : xs.length ≤ 100) (hl : ((xs.map (·.data.toList)).flatten).length ≤ 300) :
    Calls Tryd.prog 74 #[.slice (some ⟨g, 0, none⟩) xs.length xs.length] w fun e w' => e = .returned (.string (shrV (xs.map (·.data.toList)).flatten)) ∧ Below w.heap.size w w' := by
  have hlt : g < w.heap.size := (Array.getElem?_eq_some_iff.1 h).1
  rw [← shrV_hkdf _ hl]
  obtain ⟨Z, hZe⟩ : ∃ Z : ByteArray, Z = zS := ⟨_, rfl⟩
  rw [← hZe]
  have hmk := fun W => Go.run_make_row' (P := Tryd.prog) 39 5 (.int .u8 0) 1 Tryd.underlying39 info_u8t rfl .i64 .i64 32 (by omega) (by omega) W
  simp only [show ((32 : Nat) : Int) = 32 from rfl] at hmk
  have hcvK : ∀ (W w' : World) (h : w'.heap[W.heap.size]? = some (.cells (madeCells #[.int .u8 0] 32) 5 (0, 0))), (convert 39 9 (.slice (some ⟨W.heap.size, 0, none⟩) 32 32)).run Tryd.prog w' = .ok (.string Z) w' := fun W w' h => by rw [hZe]; exact conv_madeT W w' 32 (by omega) h
  have hcv0 := fun W => hcvK W (W.alloc (.cells (madeCells #[.int .u8 0] 32) 5)) (heap_alloc_new W _)
  have hcvd := hcvK w (w.alloc (.cells (madeCells #[.int .u8 0] 32) 5)).drew (heap_alloc_new w _)
  have HCV := Lib.hid hcvK
  clear hcvK hZe
  have C1 := Lib.hid (fun o => join_any g xs (w.alloc o).drew ((Below.heap_alloc w o g hlt).trans h) hn (by omega))
  have C2 := Lib.hid (join_any g xs w.drew h hn (by omega))
  have HT := Lib.hid hk
  generalize str (xs.map (·.data.toList)).flatten = J at *
  clear hk h hn hl hlt
  go_enter Tryd.func74, Tryd.ntmps74
  go_wp2_with fail
  go_region_with (first
    | (go_at_call 137; (refine (C1.out _).mono ?_; rintro e w3 ⟨rfl, hb3⟩; have hcv1 := HCV.out w w3 ((hb3.block w.heap.size (by simp)).trans (heap_alloc_new w _)); have hB : Below w.heap.size w w3 := (((Below.refl w.heap.size w).alloc (Nat.le_refl _) _).drew).trans (hb3.mono (by simp)); have hT3 := HT.out.below hB HT.out.1; clear hb3))
    | (go_at_call 137; (refine C2.out.mono ?_; rintro e w3 ⟨rfl, hb3⟩; have hB0 : Below w.heap.size w w3 := (Below.refl w.heap.size w).drew.trans (hb3.mono (Nat.le_refl _)); have hB : ∀ o, Below w.heap.size w (w3.alloc o) := (fun o => hB0.alloc hB0.size o); have hT3 : ∀ o, TabK (w3.alloc o) := (fun o => HT.out.below (hB o) HT.out.1); clear hb3))
    | (go_at_call 38; (refine (hkdf_impl _ _ _ _ _ hT3).mono ?_; rintro e w5 ⟨rfl, hb5⟩; have hBB := hB.trans (hb5.mono hB.size)))
    | (go_at_call 38; (refine (hkdf_impl _ _ _ _ _ (hT3 _)).mono ?_; rintro e w5 ⟨rfl, hb5⟩; have hBB := (hB _).trans (hb5.mono (hB _).size))))
  all_goals (try go_wp2)
  all_goals
    go_ret
    exact ⟨rfl, hBB⟩

set_option maxHeartbeats 2000000 in
theorem l8Root_s (k : ByteArray) (w : World) (h : k.size ≤ 300) :
    Calls Tryd.prog 73 #[.string k] w fun e w' => e = .returned (.string (shrV k.data.toList)) ∧ Below w.heap.size w w' := by
  obtain ⟨Z, hZe⟩ : ∃ Z : ByteArray, Z = zS := ⟨_, rfl⟩
  have hmk := fun W => Go.run_make_row' (P := Tryd.prog) 39 5 (.int .u8 0) 1 Tryd.underlying39 info_u8t rfl .i64 .i64 32 (by omega) (by omega) W
  simp only [show ((32 : Nat) : Int) = 32 from rfl] at hmk
  have hcv0 : ∀ W : World, (convert 39 9 (.slice (some ⟨W.heap.size, 0, none⟩) 32 32)).run Tryd.prog (W.alloc (.cells (madeCells #[.int .u8 0] 32) 5)) = .ok (.string Z) (W.alloc (.cells (madeCells #[.int .u8 0] 32) 5)) := fun W => by rw [hZe]; exact conv_madeT W _ 32 (by omega) (heap_alloc_new W _)
  have HR := Lib.hid (fun w => (show Calls Tryd.prog 93 #[.string Z, .string k, .string (ByteArray.mk #[120, 51, 100, 104]), .int .i64 32] w fun e w' => e = .returned (.string (shrV k.data.toList)) ∧ Below w.heap.size w w' by rw [hZe]; exact l2Hkdf_spec zS k x3S 32 w (by rw [zS_size]; omega) (by omega) (by decide) (by omega)))
  have hb0 : ∀ o, Below w.heap.size w (w.alloc o) := fun o => (Below.refl _ _).alloc (Nat.le_refl _) o
  generalize shrV k.data.toList = V at *
  clear h hZe
  go_enter Tryd.func73, Tryd.ntmps73
  go_wp2_with fail
  refine (HR.out _).mono ?_
  rintro e w1 ⟨rfl, hb1⟩
  go_wp2
  go_ret
  exact ⟨rfl, (hb0 _).trans (hb1.mono (hb0 _).size)⟩

def noneOr (s : ByteArray) : Bool := decide (s.size = 0 ∨ s.size = 32)
theorem emptyS {s : ByteArray} (h : s.size = 0) : s = ByteArray.mk #[] := by
  obtain ⟨⟨l⟩⟩ := s
  have : l.length = 0 := h
  rw [List.eq_nil_of_length_eq_zero this]
theorem fullS {s : ByteArray} (h : ¬ s.size = 0) : s.toList.isEmpty = false := by
  rw [ByteArray.toList_eq]
  obtain ⟨⟨l⟩⟩ := s
  cases l with
  | nil => exact absurd rfl h
  | cons _ _ => rfl
theorem keyOrNone_i (s : ByteArray) (w : World) (hs : s.size ≤ 1048576) :
    Calls Tryd.prog 76 #[.string s] w fun e w' => e = .returned (.bool (noneOr s)) ∧ w = w' := by
  by_cases h : s.size = 0
  · obtain rfl := emptyS h
    clear h hs
    go_enter Tryd.func76, Tryd.ntmps76
    go_wp2
    go_ret
    exact ⟨rfl, rfl⟩
  · have he := fullS h
    have HV : Hid (decide (s.size = 32) = noneOr s) := by show _ = _; unfold noneOr; exact decide_eq_decide.2 (by omega)
    have HS := Lib.hid hs
    clear h hs
    go_enter Tryd.func76, Tryd.ntmps76
    go_wp2_with fail
    refine (isKey_any s _ (by have := HS.out; omega)).mono ?_
    rintro e w' ⟨rfl, rfl⟩
    rw [HV.out]
    go_wp2
    go_ret
    exact ⟨rfl, rfl⟩
theorem l7Key_s (s : ByteArray) (w : World) (b : Bool) (hb : noneOr s = b) :
    Calls Tryd.prog 75 #[.string s] w fun e w' => e = .returned (.bool b) ∧ w = w' := by
  by_cases h : s.size = 0
  · obtain rfl := emptyS h
    rw [← hb]
    clear h hb
    go_enter Tryd.func75, Tryd.ntmps75
    go_wp2
    go_ret
    exact ⟨rfl, rfl⟩
  · have he := fullS h
    have HV : Hid (((s.size : Int) == 32) = b) := by
      show _ = _
      rw [← hb]
      unfold noneOr
      by_cases c : s.size = 32
      · rw [decide_eq_true (Or.inr c)]; simp; omega
      · rw [decide_eq_false (by omega)]; simp; omega
    clear h hb
    go_enter Tryd.func75, Tryd.ntmps75
    go_wp2_with fail
    refine (l1Key_bool s _ b HV.out).mono ?_
    rintro e w' ⟨rfl, rfl⟩
    go_wp2
    go_ret
    exact ⟨rfl, rfl⟩

end Go.Proofs.YtfbcmckepdjdkaaDoor

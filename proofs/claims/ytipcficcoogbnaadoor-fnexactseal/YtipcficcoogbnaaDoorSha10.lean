/- The contracts of the program's Hmac and Extract. -/
import Derived.Test.YtipcficcoogbnaaDoorSha9
namespace Go.Proofs.YtipcficcoogbnaaDoor
open Go.RowKit Go.My Go.Lib
set_option linter.unusedVariables false
set_option maxRecDepth 100000

/-- hashOf(newMac(key), ps..) -/
theorem mac_hash {w wm : World} {g i o : Nat} (key : ByteArray) (ps : List ByteArray) (hup : MacUp w wm g i o (dputs S0 (maskL (keyL key.data.toList) 54)) (dputs S0 (maskL (keyL key.data.toList) 92)) 64 64)
    (hps : ∀ q ∈ ps, q.size ≤ 1000) (hn : ps.length ≤ 8) :
    Calls Tryd.prog 34 #[.iface 51 (.pointer (some ⟨g, 0, none⟩)), .slice (some ⟨wm.heap.size, 0, none⟩) ps.length ps.length] (wm.alloc (.cells (ps.map Value.string).toArray 9)) fun e w' => e = .returned (.string (str (hmacL key.data.toList (catL ps)))) ∧ Below w.heap.size w w' := by
  have hba : Below wm.heap.size wm (wm.alloc (.cells (ps.map Value.string).toArray 9)) := (Below.refl _ _).alloc (Nat.le_refl _) _
  have hi := hup.1.2.1.1.lt
  exact hashOf_mac w g i o wm.heap.size _ _ 64 64 ps _ (hup.below hba) (by omega) (heap_alloc_new wm _) hps hn (by decide) (by decide)

def hmacV (k s : List UInt8) : List UInt8 := if k.length ≤ 1000 ∧ s.length ≤ 1000 then hmacL k s else []

set_option maxHeartbeats 2000000 in
theorem hmac_impl (k s : ByteArray) (w : World) (hk : TabK w) :
    Calls Tryd.prog 58 #[.string k, .string s] w fun e w' => e = .returned (.string (str (hmacV k.data.toList s.data.toList))) ∧ Below w.heap.size w w' := by
  by_cases h1 : k.size ≤ 1000
  case neg =>
    have h1' : (1000 : Int) < (k.size : Int) := by omega
    have HV : Hid (hmacV k.data.toList s.data.toList = []) := if_neg (fun c => h1 (by have := c.1; rw [len_data] at this; exact this))
    clear h1
    go_enter Tryd.func58, Tryd.ntmps58
    go_wp2
    go_ret
    exact ⟨by rw [HV.out]; rfl, Below.refl _ _⟩
  by_cases h2 : s.size ≤ 1000
  case neg =>
    have h1' : (k.size : Int) ≤ 1000 := by omega
    have h2' : (1000 : Int) < (s.size : Int) := by omega
    have HV : Hid (hmacV k.data.toList s.data.toList = []) := if_neg (fun c => h2 (by have := c.2; rw [len_data] at this; exact this))
    clear h1 h2
    go_enter Tryd.func58, Tryd.ntmps58
    go_wp2
    go_ret
    exact ⟨by rw [HV.out]; rfl, Below.refl _ _⟩
  have h1' : (k.size : Int) ≤ 1000 := by omega
  have h2' : (s.size : Int) ≤ 1000 := by omega
  have HV : Hid (hmacV k.data.toList s.data.toList = hmacL k.data.toList s.data.toList) := if_pos ⟨by rw [len_data]; exact h1, by rw [len_data]; exact h2⟩
  have HS := Lib.hid (And.intro h1 h2)
  clear h1 h2
  go_enter Tryd.func58, Tryd.ntmps58
  go_wp2_with fail
  refine (newMac_any k _ hk HS.out.1).mono ?_
  rintro e wm ⟨g, i, o, rfl, hup⟩
  go_wp2_with fail
  refine (mac_hash k [s] hup (by intro q hq; rw [List.mem_singleton] at hq; rw [hq]; exact HS.out.2) (by simp)).mono ?_
  rintro e wx ⟨rfl, hbx⟩
  rw [catL_one, ← HV.out]
  go_wp2
  go_ret
  exact ⟨rfl, hbx⟩

def extractV (k s : List UInt8) : List UInt8 := if k.length ≤ 300 ∧ s.length ≤ 300 then hmacL k s else []

set_option maxHeartbeats 2000000 in
theorem extract_impl (k s : ByteArray) (w : World) (hk : TabK w) :
    Calls Tryd.prog 46 #[.string k, .string s] w fun e w' => e = .returned (.string (str (extractV k.data.toList s.data.toList))) ∧ Below w.heap.size w w' := by
  by_cases h1 : k.size ≤ 300
  case neg =>
    have h1' : (300 : Int) < (k.size : Int) := by omega
    have HV : Hid (extractV k.data.toList s.data.toList = []) := if_neg (fun c => h1 (by have := c.1; rw [len_data] at this; exact this))
    clear h1
    go_enter Tryd.func46, Tryd.ntmps46
    go_wp2
    go_ret
    exact ⟨by rw [HV.out]; rfl, Below.refl _ _⟩
  by_cases h2 : s.size ≤ 300
  case neg =>
    have h1' : (k.size : Int) ≤ 300 := by omega
    have h2' : (300 : Int) < (s.size : Int) := by omega
    have HV : Hid (extractV k.data.toList s.data.toList = []) := if_neg (fun c => h2 (by have := c.2; rw [len_data] at this; exact this))
    clear h1 h2
    go_enter Tryd.func46, Tryd.ntmps46
    go_wp2
    go_ret
    exact ⟨by rw [HV.out]; rfl, Below.refl _ _⟩
  have h1' : (k.size : Int) ≤ 300 := by omega
  have h2' : (s.size : Int) ≤ 300 := by omega
  have HV : Hid (hmacV k.data.toList s.data.toList = extractV k.data.toList s.data.toList) := (if_pos ⟨by rw [len_data]; omega, by rw [len_data]; omega⟩ : hmacV _ _ = _).trans (if_pos ⟨by rw [len_data]; exact h1, by rw [len_data]; exact h2⟩).symm
  clear h1 h2
  go_enter Tryd.func46, Tryd.ntmps46
  go_wp2_with fail
  refine (hmac_impl k s _ hk).mono ?_
  rintro e wm ⟨rfl, hb⟩
  rw [HV.out]
  go_wp2
  go_ret
  exact ⟨rfl, hb⟩

end Go.Proofs.YtipcficcoogbnaaDoor

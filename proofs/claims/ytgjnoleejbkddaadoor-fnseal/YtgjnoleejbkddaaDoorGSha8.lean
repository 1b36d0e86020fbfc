/- The contract of newMac. -/
import Derived.Test.YtgjnoleejbkddaaDoorGSha7
namespace Go.Proofs.YtgjnoleejbkddaaDoor
open Go.RowKit Go.My Go.Lib
set_option linter.unusedVariables false
set_option maxRecDepth 100000

/-- Block g is a mac over the digests i and o. -/
def MacS (w : World) (g i o : Nat) (SI SO : DS) (zi zo : Nat) : Prop :=
  w.heap[g]? = some (.cells #[.pointer (some ⟨i, 0, none⟩), .pointer (some ⟨o, 0, none⟩)] 76 (0, 0)) ∧ DigS w i SI zi ∧ DigS w o SO zo

/-- What stands when the mac is made. -/
def MacUp (w w' : World) (g i o : Nat) (SI SO : DS) (zi zo : Nat) : Prop :=
  MacS w' g i o SI SO zi zo ∧ w.heap.size ≤ g ∧ w.heap.size ≤ i ∧ w.heap.size ≤ o ∧ g ≠ i ∧ g ≠ o ∧ i ≠ o ∧ Below w.heap.size w w' ∧ TabK w' ∧ 2 < w.heap.size
theorem MacUp.below {w w1 w2 : World} {g i o : Nat} {SI SO : DS} {zi zo : Nat} (h : MacUp w w1 g i o SI SO zi zo) (hb : Below w1.heap.size w1 w2) : MacUp w w2 g i o SI SO zi zo := by
  obtain ⟨⟨hr, hi, ho⟩, h1, h2, h3, h4, h5, h6, h7, h8, h9⟩ := h
  have hg : g < w1.heap.size := (Array.getElem?_eq_some_iff.1 hr).1
  exact ⟨⟨by rw [hb.block g hg]; exact hr, ⟨hi.1.below hb hi.1.lt, hi.2⟩, ⟨ho.1.below hb ho.1.lt, ho.2⟩⟩, h1, h2, h3, h4, h5, h6, h7.trans ⟨hb.os, hb.tape, hb.output, hb.size, fun k hk => hb.block k (Nat.lt_of_lt_of_le hk h7.size)⟩, h8.below hb (by omega), h9⟩
theorem MacUp.wi {w w1 w2 : World} {g i o : Nat} {SI SO SN : DS} {zi zo zn : Nat} (h : MacUp w w1 g i o SI SO zi zo) (hb : w1.grownBy w2 (some i)) (hn : DigS w2 i SN zn) : MacUp w w2 g i o SN SO zn zo := by
  obtain ⟨⟨hr, hi, ho⟩, h1, h2, h3, h4, h5, h6, h7, h8, h9⟩ := h
  have hg : g < w1.heap.size := (Array.getElem?_eq_some_iff.1 hr).1
  exact ⟨⟨by rw [hb.block g hg (by simpa using h4)]; exact hr, hn, ⟨⟨by rw [hb.block o ho.1.lt (by simpa using fun e => h6 e.symm)]; exact ho.1.1, ho.1.2⟩, ho.2⟩⟩, h1, h2, h3, h4, h5, h6, h7.trans (gr_to_below hb h2 h7.size), h8.grown hb (by omega), h9⟩
theorem MacUp.wo {w w1 w2 : World} {g i o : Nat} {SI SO SN : DS} {zi zo zn : Nat} (h : MacUp w w1 g i o SI SO zi zo) (hb : w1.grownBy w2 (some o)) (hn : DigS w2 o SN zn) : MacUp w w2 g i o SI SN zi zn := by
  obtain ⟨⟨hr, hi, ho⟩, h1, h2, h3, h4, h5, h6, h7, h8, h9⟩ := h
  have hg : g < w1.heap.size := (Array.getElem?_eq_some_iff.1 hr).1
  exact ⟨⟨by rw [hb.block g hg (by simpa using h5)]; exact hr, ⟨⟨by rw [hb.block i hi.1.lt (by simpa using h6)]; exact hi.1.1, hi.1.2⟩, hi.2⟩, hn⟩, h1, h2, h3, h4, h5, h6, h7.trans (gr_to_below hb h3 h7.size), h8.grown hb (by omega), h9⟩
theorem MacUp.ci {w w1 : World} {g i o : Nat} {SI SO : DS} {zi zo : Nat} (h : MacUp w w1 g i o SI SO zi zo) : w1.cell? ⟨g, 0, none⟩ = some (.pointer (some ⟨i, 0, none⟩)) := (cell_of_row w1 g 0 _ _ _ h.1.1).trans rfl
theorem MacUp.co {w w1 : World} {g i o : Nat} {SI SO : DS} {zi zo : Nat} (h : MacUp w w1 g i o SI SO zi zo) : w1.cell? ⟨g, 1, none⟩ = some (.pointer (some ⟨o, 0, none⟩)) := (cell_of_row w1 g 1 _ _ _ h.1.1).trans rfl
theorem MacUp.drew {w w1 : World} {g i o : Nat} {SI SO : DS} {zi zo : Nat} (h : MacUp w w1 g i o SI SO zi zo) : MacUp w w1.drew g i o SI SO zi zo := h.below ⟨rfl, rfl, rfl, Nat.le_refl _, fun _ _ => rfl⟩
theorem MacUp.start {w wx wi wo : World} (hb : Below w.heap.size w wx) (hk : TabK w) (h0 : 2 < w.heap.size) (hdi : DigS wi wx.heap.size S0 0) (hbi : Below wx.heap.size wx wi) (hdo : DigS wo wi.heap.size S0 0) (hbo : Below wi.heap.size wi wo) :
    MacUp w (wo.alloc (.cells #[.pointer (some ⟨wx.heap.size, 0, none⟩), .pointer (some ⟨wi.heap.size, 0, none⟩)] 76)) wo.heap.size wx.heap.size wi.heap.size S0 S0 0 0 := by
  have hba : Below wo.heap.size wo (wo.alloc (.cells #[.pointer (some ⟨wx.heap.size, 0, none⟩), .pointer (some ⟨wi.heap.size, 0, none⟩)] 76)) := (Below.refl _ _).alloc (Nat.le_refl _) _
  have hdo' : DigS wo wx.heap.size S0 0 := ⟨hdi.1.below hbo hdi.1.lt, hdi.2⟩
  have hx := hdi.1.lt
  have hy := hdo.1.lt
  have hbw : Below w.heap.size w wi := hb.trans ⟨hbi.os, hbi.tape, hbi.output, hbi.size, fun k hk => hbi.block k (Nat.lt_of_lt_of_le hk hb.size)⟩
  have hbw2 : Below w.heap.size w wo := hbw.trans ⟨hbo.os, hbo.tape, hbo.output, hbo.size, fun k hk => hbo.block k (Nat.lt_of_lt_of_le hk hbw.size)⟩
  have hbw3 : Below w.heap.size w (wo.alloc (.cells #[.pointer (some ⟨wx.heap.size, 0, none⟩), .pointer (some ⟨wi.heap.size, 0, none⟩)] 76)) := hbw2.alloc hbw2.size _
  refine ⟨⟨heap_alloc_new wo _, ⟨hdo'.1.below hba hdo'.1.lt, hdo'.2⟩, ⟨hdo.1.below hba hdo.1.lt, hdo.2⟩⟩, hbw2.size, hb.size, hbw.size, ?_, ?_, ?_, hbw3, hk.below hbw3 h0, h0⟩
  · have := hbo.size; omega
  · omega
  · omega

set_option maxHeartbeats 2000000 in
set_option maxRecDepth 100000 in
theorem newMac_any (key : ByteArray) (w : World) (hk : TabK w) (hs : key.size ≤ 1000) :
    Calls Tryd.prog 42 #[.string key] w fun e w' => ∃ g i o : Nat, e = .returned (.pointer (some ⟨g, 0, none⟩)) ∧ MacUp w w' g i o (dputs S0 (maskL (keyL key.data.toList) 54)) (dputs S0 (maskL (keyL key.data.toList) 92)) 64 64 := by
  have h0 := hk.1
  by_cases hlt : key.size ≤ 64
  case pos =>
    have hlt2 : (key.size : Int) ≤ 64 := by omega
    have HKL : Hid (keyL key.data.toList = key.data.toList) := if_pos (by rw [len_data]; exact hlt)
    have HSZ : Hid (key.size ≤ 64) := hlt
    have HBX : Hid (Below w.heap.size w w) := Below.refl _ _
    have HX0 : Hid (2 < w.heap.size) := h0
    clear hs hlt
    go_enter Tryd.func42, Tryd.ntmps42
    go_wp2_with fail
    refine (newDigest_any _).mono ?_
    rintro e wi ⟨rfl, hdi, hbi⟩
    go_wp2_with fail
    refine (newDigest_any _).mono ?_
    rintro e wo ⟨rfl, hdo, hbo⟩
    have hup := MacUp.start HBX.out hk h0 hdi hbi hdo hbo
    go_wp2_with fail
    generalize wo.alloc (.cells #[.pointer (some ⟨w.heap.size, 0, none⟩), .pointer (some ⟨wi.heap.size, 0, none⟩)] 76) = wm at *
    generalize wo.heap.size = g at *
    generalize wi.heap.size = o at *
    clear hdi hbi hdo hbo
    have c0 := hup.ci
    have hM1 : (str (maskL key.data.toList 54)).size = 64 := by rw [str_size, maskL_len _ _ (by rw [len_data]; exact HSZ.out)]
    have hM2 : (str (maskL key.data.toList 92)).size = 64 := by rw [str_size, maskL_len _ _ (by rw [len_data]; exact HSZ.out)]
    have hL1 : (str (maskL key.data.toList 54)).data.toList = maskL key.data.toList 54 := str_list _
    have hL2 : (str (maskL key.data.toList 92)).data.toList = maskL key.data.toList 92 := str_list _
    have HMK := Lib.hid (fun (wx : World) => (show Calls Tryd.prog 55 #[.string key, .int .u8 54] wx (fun e w' => e = .returned (.string (str (maskL key.data.toList 54))) ∧ Below wx.heap.size wx w') from masked_any key 54 wx HSZ.out))
    have HMK2 := Lib.hid (fun (wx : World) => (show Calls Tryd.prog 55 #[.string key, .int .u8 92] wx (fun e w' => e = .returned (.string (str (maskL key.data.toList 92))) ∧ Below wx.heap.size wx w') from masked_any key 92 wx HSZ.out))
    generalize str (maskL key.data.toList 54) = M1 at *
    generalize str (maskL key.data.toList 92) = M2 at *
    have HM := Lib.hid (And.intro hM1 (And.intro hM2 (And.intro hL1 hL2)))
    clear hM1 hM2 hL1 hL2
    go_region_held3 (fun w' => w'.cell? ⟨g, 0, none⟩ = some (.pointer (some ⟨w.heap.size, 0, none⟩))) (first | exact c0 | exact ca | exact cb) ((first
      | (go_at_call 55; refine (HMK.out _).mono ?_; rintro e wa ⟨rfl, hba⟩; have hua := hup.drew.below hba; have ca := hua.ci)
      | (go_at_call 54; refine (writeD_any w.heap.size S0 0 M1 _ ?_ ?_ ?_ ?_ ?_).mono ?_; exact hua.1.2.1; exact hua.2.2.2.2.2.2.2.2.1; exact HX0.out; (have := HM.out.1; omega); decide; rintro e wb ⟨rfl, hdb, hgb⟩; have hub := hua.wi hgb hdb; have cb := hub.ci)))
    have c1 := hub.co
    clear cb ca c0 hua hup hba hdb hgb HMK
    go_wp2_with fail
    have ho0 : 2 < o := Nat.lt_of_lt_of_le h0 hub.2.2.2.1
    go_region_held3 (fun w' => w'.cell? ⟨g, 1, none⟩ = some (.pointer (some ⟨o, 0, none⟩))) (first | exact c1 | exact cc | exact cd) ((first
      | (go_at_call 55; refine (HMK2.out _).mono ?_; rintro e wc ⟨rfl, hbc⟩; have huc := hub.drew.below hbc; have cc := huc.co)
      | (go_at_call 54; refine (writeD_any o S0 0 M2 _ ?_ ?_ ?_ ?_ ?_).mono ?_; exact huc.1.2.2; exact huc.2.2.2.2.2.2.2.2.1; exact ho0; (have := HM.out.2.1; omega); decide; rintro e wd ⟨rfl, hdd, hgd⟩; have hud := huc.wo hgd hdd; have cd := hud.co)))
    go_wp2
    go_ret
    refine ⟨g, w.heap.size, o, rfl, ?_⟩
    rw [HKL.out]
    rw [HM.out.1, HM.out.2.1, HM.out.2.2.1, HM.out.2.2.2] at hud
    exact hud
  case neg =>
    have hlt2 : (64 : Int) < (key.size : Int) := by omega
    have HKE : Hid (keyL key.data.toList = sumL (dputs S0 key.data.toList) key.data.toList.length) := if_neg (by rw [len_data]; exact hlt)
    have HS := Lib.hid hs
    clear hs hlt
    go_enter Tryd.func42, Tryd.ntmps42
    go_wp2_with fail
    refine (newDigest_any _).mono ?_
    rintro e w1 ⟨rfl, hd1, hb1⟩
    have hba : Below w1.heap.size w1 (w1.alloc (.cells #[.string key] 9)) := (Below.refl _ _).alloc (Nat.le_refl _) _
    have hd2 : DigS (w1.alloc (.cells #[.string key] 9)) w.heap.size S0 0 := ⟨hd1.1.below hba hd1.1.lt, hd1.2⟩
    have hbw : Below w.heap.size w (w1.alloc (.cells #[.string key] 9)) := hb1.alloc hb1.size _
    have hk2 := hk.below hbw h0
    have hrow : (w1.alloc (.cells #[.string key] 9)).heap[w1.heap.size]? = some (.cells ([key].map Value.string).toArray 9 (0, 0)) := heap_alloc_new w1 _
    have hne : w1.heap.size ≠ w.heap.size := by have := hd1.1.lt; omega
    go_wp2_with fail
    refine (hashOf_dig w.heap.size w1.heap.size S0 0 [key] _ hd2 hk2 h0 hne hrow (by intro q hq; rw [List.mem_singleton] at hq; rw [hq]; exact HS.out) (by simp) (by decide)).mono ?_
    rintro e wx ⟨rfl, hgx⟩
    have HBX : Hid (Below w.heap.size w wx) := hbw.trans (gr_to_below hgx (Nat.le_refl _) hbw.size)
    rw [catL_one, Nat.zero_add, ← HKE.out]
    clear hd1 hb1 hba hd2 hbw hk2 hrow hne hgx
    have HSZ : Hid ((str (keyL key.data.toList)).size ≤ 64) := by show _ ≤ _; rw [str_size]; exact keyL_len _
    have HKL : Hid (keyL key.data.toList = (str (keyL key.data.toList)).data.toList) := (str_list _).symm
    have HX0 : Hid (2 < wx.heap.size) := Nat.lt_of_lt_of_le h0 HBX.out.size
    generalize str (keyL key.data.toList) = k2 at *
    go_wp2_with fail
    refine (newDigest_any _).mono ?_
    rintro e wi ⟨rfl, hdi, hbi⟩
    go_wp2_with fail
    refine (newDigest_any _).mono ?_
    rintro e wo ⟨rfl, hdo, hbo⟩
    have hup := MacUp.start HBX.out hk h0 hdi hbi hdo hbo
    go_wp2_with fail
    generalize wo.alloc (.cells #[.pointer (some ⟨wx.heap.size, 0, none⟩), .pointer (some ⟨wi.heap.size, 0, none⟩)] 76) = wm at *
    generalize wo.heap.size = g at *
    generalize wi.heap.size = o at *
    clear hdi hbi hdo hbo
    have c0 := hup.ci
    have hM1 : (str (maskL k2.data.toList 54)).size = 64 := by rw [str_size, maskL_len _ _ (by rw [len_data]; exact HSZ.out)]
    have hM2 : (str (maskL k2.data.toList 92)).size = 64 := by rw [str_size, maskL_len _ _ (by rw [len_data]; exact HSZ.out)]
    have hL1 : (str (maskL k2.data.toList 54)).data.toList = maskL k2.data.toList 54 := str_list _
    have hL2 : (str (maskL k2.data.toList 92)).data.toList = maskL k2.data.toList 92 := str_list _
    have HMK := Lib.hid (fun (wx : World) => (show Calls Tryd.prog 55 #[.string k2, .int .u8 54] wx (fun e w' => e = .returned (.string (str (maskL k2.data.toList 54))) ∧ Below wx.heap.size wx w') from masked_any k2 54 wx HSZ.out))
    have HMK2 := Lib.hid (fun (wx : World) => (show Calls Tryd.prog 55 #[.string k2, .int .u8 92] wx (fun e w' => e = .returned (.string (str (maskL k2.data.toList 92))) ∧ Below wx.heap.size wx w') from masked_any k2 92 wx HSZ.out))
    generalize str (maskL k2.data.toList 54) = M1 at *
    generalize str (maskL k2.data.toList 92) = M2 at *
    have HM := Lib.hid (And.intro hM1 (And.intro hM2 (And.intro hL1 hL2)))
    clear hM1 hM2 hL1 hL2
    go_region_held3 (fun w' => w'.cell? ⟨g, 0, none⟩ = some (.pointer (some ⟨wx.heap.size, 0, none⟩))) (first | exact c0 | exact ca | exact cb) ((first
      | (go_at_call 55; refine (HMK.out _).mono ?_; rintro e wa ⟨rfl, hba⟩; have hua := hup.drew.below hba; have ca := hua.ci)
      | (go_at_call 54; refine (writeD_any wx.heap.size S0 0 M1 _ ?_ ?_ ?_ ?_ ?_).mono ?_; exact hua.1.2.1; exact hua.2.2.2.2.2.2.2.2.1; exact HX0.out; (have := HM.out.1; omega); decide; rintro e wb ⟨rfl, hdb, hgb⟩; have hub := hua.wi hgb hdb; have cb := hub.ci)))
    have c1 := hub.co
    clear cb ca c0 hua hup hba hdb hgb HMK
    go_wp2_with fail
    have ho0 : 2 < o := Nat.lt_of_lt_of_le h0 hub.2.2.2.1
    go_region_held3 (fun w' => w'.cell? ⟨g, 1, none⟩ = some (.pointer (some ⟨o, 0, none⟩))) (first | exact c1 | exact cc | exact cd) ((first
      | (go_at_call 55; refine (HMK2.out _).mono ?_; rintro e wc ⟨rfl, hbc⟩; have huc := hub.drew.below hbc; have cc := huc.co)
      | (go_at_call 54; refine (writeD_any o S0 0 M2 _ ?_ ?_ ?_ ?_ ?_).mono ?_; exact huc.1.2.2; exact huc.2.2.2.2.2.2.2.2.1; exact ho0; (have := HM.out.2.1; omega); decide; rintro e wd ⟨rfl, hdd, hgd⟩; have hud := huc.wo hgd hdd; have cd := hud.co)))
    go_wp2
    go_ret
    refine ⟨g, wx.heap.size, o, rfl, ?_⟩
    rw [HKL.out]
    rw [HM.out.1, HM.out.2.1, HM.out.2.2.1, HM.out.2.2.2] at hud
    exact hud

end Go.Proofs.YtgjnoleejbkddaaDoor

/- The contracts of mac's methods and of hashOf over a mac. -/
import Derived.Test.YtgjnoleejbkddaaDoorGSha8
namespace Go.Proofs.YtgjnoleejbkddaaDoor
open Go.RowKit Go.My Go.Lib
set_option linter.unusedVariables false
set_option maxRecDepth 100000

set_option maxHeartbeats 2000000 in
theorem macWrite_any (w0 w : World) (g i o : Nat) (SI SO : DS) (zi zo : Nat) (s : ByteArray) (hup : MacUp w0 w g i o SI SO zi zo) (hs : s.size < 1000000) (hz : zi < 1000000) :
    Calls Tryd.prog 86 #[.pointer (some ⟨g, 0, none⟩), .string s] w fun e w' => e = .returned (.tuple #[]) ∧ MacUp w0 w' g i o (dputs SI s.data.toList) SO (zi + s.size) zo ∧ w.grownBy w' (some i) := by
  have c0 := hup.ci
  have h0 : 2 < i := Nat.lt_of_lt_of_le hup.2.2.2.2.2.2.2.2.2 hup.2.2.1
  have HC := Lib.hid (writeD_any i SI zi s w hup.1.2.1 hup.2.2.2.2.2.2.2.2.1 h0 hs hz)
  clear hs hz
  go_enter Tryd.func86, Tryd.ntmps86
  go_wp2_with fail
  refine HC.out.mono ?_
  rintro e w1 ⟨rfl, hd1, hg1⟩
  have hu1 := hup.wi hg1 hd1
  go_wp2
  go_end0
  exact ⟨rfl, hu1, hg1⟩

/-- What is left of a mac when its inner digest is spent. -/
def OutUp (w0 w : World) (g o : Nat) (SO : DS) (zo : Nat) : Prop :=
  w.cell? ⟨g, 1, none⟩ = some (.pointer (some ⟨o, 0, none⟩)) ∧ DigS w o SO zo ∧ TabK w ∧ Below w0.heap.size w0 w ∧ w0.heap.size ≤ o ∧ g ≠ o ∧ g < w.heap.size
theorem MacUp.spent {w0 w w1 : World} {g i o : Nat} {SI SO : DS} {zi zo : Nat} (hup : MacUp w0 w g i o SI SO zi zo) (hb : w.drew.grownBy w1 (some i)) : OutUp w0 w1 g o SO zo ∧ w1.cell? ⟨g, 0, none⟩ = some (.pointer (some ⟨i, 0, none⟩)) := by
  obtain ⟨⟨hr, hi, ho⟩, h1, h2, h3, h4, h5, h6, h7, h8, h9⟩ := hup.drew
  have hg : g < w.drew.heap.size := (Array.getElem?_eq_some_iff.1 hr).1
  have hr1 : w1.heap[g]? = _ := (hb.block g hg (by simpa using h4)).trans hr
  refine ⟨⟨(cell_of_row w1 g 1 _ _ _ hr1).trans rfl, ⟨⟨by rw [hb.block o ho.1.lt (by simpa using fun e => h6 e.symm)]; exact ho.1.1, ho.1.2⟩, ho.2⟩, h8.grown hb (by omega), h7.trans (gr_to_below hb h2 h7.size), h3, h5, Nat.lt_of_lt_of_le hg hb.size⟩, (cell_of_row w1 g 0 _ _ _ hr1).trans rfl⟩
theorem OutUp.wo {w0 w w1 : World} {g o : Nat} {SO SN : DS} {zo zn : Nat} (h : OutUp w0 w g o SO zo) (hb : w.grownBy w1 (some o)) (hn : DigS w1 o SN zn) (h0 : 2 < w0.heap.size) : OutUp w0 w1 g o SN zn := by
  obtain ⟨h1, h2, h3, h4, h5, h6, h7⟩ := h
  exact ⟨by rw [World.cell?_of_block (a := ⟨g, 1, none⟩) (hb.block g h7 (by simpa using h6))]; exact h1, hn, h3.grown hb (by omega), h4.trans (gr_to_below hb h5 h4.size), h5, h6, Nat.lt_of_lt_of_le h7 hb.size⟩

set_option maxHeartbeats 2000000 in
theorem macSum_any (w0 w : World) (g i o : Nat) (SI SO : DS) (zi zo : Nat) (hup : MacUp w0 w g i o SI SO zi zo) (hz : zi < 900000) (hz2 : zo < 800000) :
    Calls Tryd.prog 85 #[.pointer (some ⟨g, 0, none⟩)] w fun e w' => e = .returned (.string (str (sumL (dputs SO (sumL SI zi)) (zo + 32)))) ∧ Below w0.heap.size w0 w' := by
  have c0 := hup.ci
  have c1 := hup.co
  have h0 : 2 < i := Nat.lt_of_lt_of_le hup.2.2.2.2.2.2.2.2.2 hup.2.2.1
  have h1 : 2 < o := Nat.lt_of_lt_of_le hup.2.2.2.2.2.2.2.2.2 hup.2.2.2.1
  have HZ := Lib.hid (And.intro hz hz2)
  clear hz hz2
  go_enter Tryd.func85, Tryd.ntmps85
  go_wp2_with fail
  have hw0 := hup.2.2.2.2.2.2.2.2.2
  have hsl : (str (sumL SI zi)).size = 32 := by rw [str_size, sumL_len]
  have HSL := Lib.hid (And.intro hsl (str_list (sumL SI zi)))
  clear hsl
  go_region_held3 (fun w' => w'.cell? ⟨g, 0, none⟩ = some (.pointer (some ⟨i, 0, none⟩)) ∧ w'.cell? ⟨g, 1, none⟩ = some (.pointer (some ⟨o, 0, none⟩))) (first | exact ⟨c0, c1⟩ | exact ⟨hsp.2, hsp.1.1⟩ | exact ⟨cz, hub.1⟩) ((first
    | (go_at_call 87; refine (sum_any i SI zi _ ?_ ?_ ?_ ?_).mono ?_; exact hup.drew.1.2.1; exact hup.drew.2.2.2.2.2.2.2.2.1; exact h0; exact HZ.out.1; rintro e wa ⟨rfl, hga⟩; have hsp := hup.spent hga)
    | (go_at_call 54; refine (writeD_any o SO zo _ _ ?_ ?_ ?_ ?_ ?_).mono ?_; exact hsp.1.2.1; exact hsp.1.2.2.1; exact h1; (have := HSL.out.1; omega); (have := HZ.out.2; omega); rintro e wb ⟨rfl, hdb, hgb⟩; have hub := hsp.1.wo hgb hdb hw0; have cz : wb.cell? ⟨g, 0, none⟩ = some (.pointer (some ⟨i, 0, none⟩)) := (World.cell?_of_block (a := ⟨g, 0, none⟩) (hgb.block g hsp.1.2.2.2.2.2.2 (by simpa using hsp.1.2.2.2.2.2.1))).trans hsp.2)))
  have c2 := hub.1
  rw [HSL.out.1, HSL.out.2] at hub
  clear cz hsp c0 c1 hdb hgb hga hup
  go_wp2_with fail
  refine (sum_any o _ _ _ hub.2.1 hub.2.2.1 h1 (by have := HZ.out.2; omega)).mono ?_
  rintro e wc ⟨rfl, hgc⟩
  go_wp2
  go_ret
  exact ⟨rfl, hub.2.2.2.1.trans (gr_to_below hgc hub.2.2.2.2.1 hub.2.2.2.1.size)⟩

theorem mac_write (a : Addr) (w : World) : Sem.run Tryd.prog (method 209 59 (.pointer (some a)) "loop.example/g00702/impl.write") w = .ok (86, .pointer (some a)) w := by kernel_rfl
theorem mac_sum (a : Addr) (w : World) : Sem.run Tryd.prog (method 209 59 (.pointer (some a)) "loop.example/g00702/impl.sum") w = .ok (85, .pointer (some a)) w := by kernel_rfl

set_option maxHeartbeats 2000000 in
set_option maxRecDepth 100000 in
theorem hashOf_mac (w0 : World) (g i o p : Nat) (SI SO : DS) (zi zo : Nat) (ps : List ByteArray) (w : World) (hup : MacUp w0 w g i o SI SO zi zo) (hpi : p ≠ i) (hp : w.heap[p]? = some (.cells (ps.map Value.string).toArray 9 (0, 0)))
    (hps : ∀ q ∈ ps, q.size ≤ 1000) (hn : ps.length ≤ 8) (hzi : zi ≤ 64) (hzo : zo ≤ 64) :
    Calls Tryd.prog 41 #[.iface 59 (.pointer (some ⟨g, 0, none⟩)), .slice (some ⟨p, 0, none⟩) ps.length ps.length] w fun e w' => e = .returned (.string (str (sumL (dputs SO (sumL (dputs SI (catL ps)) (zi + (catL ps).length))) (zo + 32)))) ∧ Below w0.heap.size w0 w' := by
  have hn8 : (ps.length : Int) ≤ 8 := by omega
  have hst : MacUp w0 w g i o (dputs SI (catL (ps.take 0))) SO (zi + (catL (ps.take 0)).length) zo := by simpa [catL, dputs] using hup
  have hpl : p < w.heap.size := (Array.getElem?_eq_some_iff.1 hp).1
  have HPS := Lib.hid hps
  have HN := Lib.hid hn
  have HZ := Lib.hid (And.intro hzi hzo)
  have HP := Lib.hid hp
  have HPL := Lib.hid hpl
  clear hup hps hn hzi hzo hp hpl
  have hmw := fun (wx : World) => mac_write ⟨g, 0, none⟩ wx
  have hms := fun (wx : World) => mac_sum ⟨g, 0, none⟩ wx
  go_enter Tryd.func41, Tryd.ntmps41
  go_wp2_with fail
  go_loopw [9] (fun k wr => ∃ n : Nat, n ≤ ps.length ∧ k = .int .i64 n ∧ MacUp w0 wr g i o (dputs SI (catL (ps.take n))) SO (zi + (catL (ps.take n)).length) zo ∧ w.grownBy wr (some i))
    (fun k _ => ps.length - (intOf k).toNat)
  case atStart => exact ⟨0, by omega, rfl, hst, gr_refl _ _⟩
  case round =>
    clear hst
    obtain ⟨n, hn, rfl, hd, hgr⟩ := hrel
    by_cases hlt : n < ps.length
    · have hr : wr.heap[p]? = some (.cells (ps.map Value.string).toArray 9 (0, 0)) := by rw [hgr.block p HPL.out (by simpa using hpi)]; exact HP.out
      have c0 : wr.cell? ⟨p, n, none⟩ = some (.string (ps[n])) := by rw [cell_of_row wr p n _ _ _ hr]; simp [hlt]
      have hsz : (ps[n]).size ≤ 1000 := HPS.out _ (List.getElem_mem hlt)
      have hcl : (catL (ps.take n)).length ≤ 8000 := by
        have h1 := catL_len (ps.take n) 1000 (fun q hq => HPS.out q (List.mem_of_mem_take hq))
        have h2 : (ps.take n).length ≤ 8 := by rw [List.length_take]; have := HN.out; omega
        omega
      have hsn := catL_snoc ps n hlt
      have n0 : (0 : Int) ≤ (n : Int) := by omega
      have n1 : (n : Int) < (ps.length : Int) := by omega
      have HSN := Lib.hid hsn
      have HSZ := Lib.hid hsz
      have HCL := Lib.hid hcl
      clear hr hsn hsz hcl
      generalize ps[n] = q at *
      go_wp2_with fail
      refine (macWrite_any w0 _ g i o _ _ _ _ q hd (by have := HSZ.out; omega) (by have := HCL.out; have := HZ.out; omega)).mono ?_
      rintro e w3 ⟨rfl, hd3, hgr3⟩
      go_wp2
      go_roundw
      case rel =>
        refine ⟨n + 1, by omega, by go_num, ?_, gr_trans hgr hgr3⟩
        rw [HSN.out, dputs_append, List.length_append, len_data, ← Nat.add_assoc]
        exact hd3
      case measure => simp [intOf]; omega
    · have hne : n = ps.length := by omega
      have hp1 : (ps.length : Int) ≤ (n : Int) := by omega
      rw [hne, List.take_length] at hd
      have hcl : (catL ps).length ≤ 8000 := by
        have h1 := catL_len ps 1000 HPS.out
        have := HN.out
        omega
      have HCL := Lib.hid hcl
      clear hlt hn hne hcl
      go_wp2_with fail
      refine (macSum_any w0 _ g i o _ _ _ _ hd (by have := HCL.out; have := HZ.out; omega) (by have := HZ.out; omega)).mono ?_
      rintro e w3 ⟨rfl, hb3⟩
      go_wp2
      go_ret
      exact ⟨rfl, hb3⟩

/-- What a keyed hash gives. -/
def hmacL (k s : List UInt8) : List UInt8 := sumL (dputs (dputs S0 (maskL (keyL k) 92)) (sumL (dputs (dputs S0 (maskL (keyL k) 54)) s) (64 + s.length))) 96

end Go.Proofs.YtgjnoleejbkddaaDoor

/- The contract of hashOf over a digest. -/
import Derived.Test.YtgjnoleejbkddaaDoorGM3
namespace Go.Proofs.YtgjnoleejbkddaaDoor
open Go.RowKit Go.My Go.Lib
set_option linter.unusedVariables false
set_option maxRecDepth 100000

theorem gr_to_below {w w' : World} {g B : Nat} (h : w.grownBy w' (some g)) (hg : B ≤ g) (hB : B ≤ w.heap.size) : Below B w w' :=
  ⟨h.os, h.tape, h.output, h.size, fun k hk => h.block k (by omega) (by simp; omega)⟩

theorem dig_write (a : Addr) (w : World) : Sem.run Tryd.prog (method 209 73 (.pointer (some a)) "loop.example/g00702/impl.write") w = .ok (54, .pointer (some a)) w := by kernel_rfl
theorem dig_sum (a : Addr) (w : World) : Sem.run Tryd.prog (method 209 73 (.pointer (some a)) "loop.example/g00702/impl.sum") w = .ok (87, .pointer (some a)) w := by kernel_rfl

set_option maxHeartbeats 2000000 in
set_option maxRecDepth 100000 in
theorem hashOf_dig (g p : Nat) (S : DS) (z : Nat) (ps : List ByteArray) (w : World) (hd : DigS w g S z) (hk : TabK w) (h0 : 2 < g) (hpg : p ≠ g) (hp : w.heap[p]? = some (.cells (ps.map Value.string).toArray 9 (0, 0)))
    (hps : ∀ q ∈ ps, q.size ≤ 1000) (hn : ps.length ≤ 8) (hz : z ≤ 64) :
    Calls Tryd.prog 41 #[.iface 73 (.pointer (some ⟨g, 0, none⟩)), .slice (some ⟨p, 0, none⟩) ps.length ps.length] w fun e w' => e = .returned (.string (str (sumL (dputs S (catL ps)) (z + (catL ps).length)))) ∧ w.grownBy w' (some g) := by
  have hn8 : (ps.length : Int) ≤ 8 := by omega
  have hst : DigS w g (dputs S (catL (ps.take 0))) (z + (catL (ps.take 0)).length) := by simpa [catL, dputs] using hd
  have hpl : p < w.heap.size := (Array.getElem?_eq_some_iff.1 hp).1
  have HPS := Lib.hid hps
  have HN := Lib.hid hn
  have HZ := Lib.hid hz
  have HP := Lib.hid hp
  have HPL := Lib.hid hpl
  clear hd hps hn hz hp hpl
  have hmw := fun (wx : World) => dig_write ⟨g, 0, none⟩ wx
  have hms := fun (wx : World) => dig_sum ⟨g, 0, none⟩ wx
  go_enter Tryd.func41, Tryd.ntmps41
  go_wp2_with fail
  go_loopw [9] (fun i wr => ∃ n : Nat, n ≤ ps.length ∧ i = .int .i64 n ∧ DigS wr g (dputs S (catL (ps.take n))) (z + (catL (ps.take n)).length) ∧ w.grownBy wr (some g))
    (fun i _ => ps.length - (intOf i).toNat)
  case atStart => exact ⟨0, by omega, rfl, hst, gr_refl _ _⟩
  case round =>
    clear hst
    obtain ⟨n, hn, rfl, hd, hgr⟩ := hrel
    by_cases hlt : n < ps.length
    · have hr : wr.heap[p]? = some (.cells (ps.map Value.string).toArray 9 (0, 0)) := by rw [hgr.block p HPL.out (by simpa using hpg)]; exact HP.out
      have c0 : wr.cell? ⟨p, n, none⟩ = some (.string (ps[n])) := by rw [cell_of_row wr p n _ _ _ hr]; simp [hlt]
      have hsz : (ps[n]).size ≤ 1000 := HPS.out _ (List.getElem_mem hlt)
      have hcl : (catL (ps.take n)).length ≤ 8000 := by
        have h1 := catL_len (ps.take n) 1000 (fun q hq => HPS.out q (List.mem_of_mem_take hq))
        have h2 : (ps.take n).length ≤ 8 := by rw [List.length_take]; have := HN.out; omega
        omega
      have hsn := catL_snoc ps n hlt
      have hkr := hk.grown hgr h0
      have n0 : (0 : Int) ≤ (n : Int) := by omega
      have n1 : (n : Int) < (ps.length : Int) := by omega
      have HSN := Lib.hid hsn
      have HSZ := Lib.hid hsz
      have HCL := Lib.hid hcl
      clear hr hsn hsz hcl
      generalize ps[n] = q at *
      go_wp2_with fail
      refine (writeD_any g _ _ q _ hd hkr h0 (by have := HSZ.out; omega) (by have := HCL.out; have := HZ.out; omega)).mono ?_
      rintro e w3 ⟨rfl, hd3, hgr3⟩
      go_wp2
      go_roundw
      case rel =>
        refine ⟨n + 1, by omega, by go_num, ?_, gr_trans hgr hgr3⟩
        rw [HSN.out, dputs_append, List.length_append, len_data, ← Nat.add_assoc]
        exact hd3
      case measure => simp [intOf]; omega
    · have hne : n = ps.length := by omega
      have hp1 : (ps.length : Int) ≤ (n : Int) := by omega
      rw [hne, List.take_length] at hd
      have hcl : (catL ps).length ≤ 8000 := by
        have h1 := catL_len ps 1000 HPS.out
        have := HN.out
        omega
      have HCL := Lib.hid hcl
      have hkr := hk.grown hgr h0
      clear hlt hn hne hcl
      go_wp2_with fail
      refine (sum_any g _ _ _ hd hkr h0 (by have := HCL.out; have := HZ.out; omega)).mono ?_
      rintro e w3 ⟨rfl, hgr3⟩
      go_wp2
      go_ret
      exact ⟨rfl, gr_trans hgr hgr3⟩

end Go.Proofs.YtgjnoleejbkddaaDoor

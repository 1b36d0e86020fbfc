import Derived.Test.YtgjnoleejbkddaaDoorGSp1
import Derived.Deep.QuietTactic
import Derived.BigQuiet
import Derived.Test.YtgjnoleejbkddaaDoorGM1
/- The contract of the specification's l2K. -/
namespace Go.Proofs.YtgjnoleejbkddaaDoor
open Go.RowKit Go.My Go.Lib
set_option linter.unusedVariables false

def ksL : List UInt8 := [66, 138, 47, 152, 113, 55, 68, 145, 181, 192, 251, 207, 233, 181, 219, 165, 57, 86, 194, 91, 89, 241, 17, 241, 146, 63, 130, 164, 171, 28, 94, 213, 216, 7, 170, 152, 18, 131, 91, 1, 36, 49, 133, 190, 85, 12, 125, 195, 114, 190, 93, 116, 128, 222, 177, 254, 155, 220, 6, 167, 193, 155, 241, 116, 228, 155, 105, 193, 239, 190, 71, 134, 15, 193, 157, 198, 36, 12, 161, 204, 45, 233, 44, 111, 74, 116, 132, 170, 92, 176, 169, 220, 118, 249, 136, 218, 152, 62, 81, 82, 168, 49, 198, 109, 176, 3, 39, 200, 191, 89, 127, 199, 198, 224, 11, 243, 213, 167, 145, 71, 6, 202, 99, 81, 20, 41, 41, 103, 39, 183, 10, 133, 46, 27, 33, 56, 77, 44, 109, 252, 83, 56, 13, 19, 101, 10, 115, 84, 118, 106, 10, 187, 129, 194, 201, 46, 146, 114, 44, 133, 162, 191, 232, 161, 168, 26, 102, 75, 194, 75, 139, 112, 199, 108, 81, 163, 209, 146, 232, 25, 214, 153, 6, 36, 244, 14, 53, 133, 16, 106, 160, 112, 25, 164, 193, 22, 30, 55, 108, 8, 39, 72, 119, 76, 52, 176, 188, 181, 57, 28, 12, 179, 78, 216, 170, 74, 91, 156, 202, 79, 104, 46, 111, 243, 116, 143, 130, 238, 120, 165, 99, 111, 132, 200, 120, 20, 140, 199, 2, 8, 144, 190, 255, 250, 164, 80, 108, 235, 190, 249, 163, 247, 198, 113, 120, 242]
theorem ks_key : ∀ j : Fin 64, bits .or .u32 (bits .or .u32 (bits .or .u32 (((ksL.getD (4 * j.val) 0).toNat : Int) % 4294967296 * 16777216 % 4294967296) (((ksL.getD (4 * j.val + 1) 0).toNat : Int) % 4294967296 * 65536 % 4294967296)) (((ksL.getD (4 * j.val + 2) 0).toNat : Int) % 4294967296 * 256 % 4294967296)) (((ksL.getD (4 * j.val + 3) 0).toNat : Int) % 4294967296) = kW j.val := by decide +kernel

set_option maxHeartbeats 2000000 in
set_option maxRecDepth 100000 in
theorem l2K_spec (i : Nat) (w : World) (hi : i < 64) :
    Calls Tryd.prog 58 #[.int .i64 i] w fun e w' => e = .returned (.int .u32 (kW i)) ∧ ∃ m, w' = w.drewN m := by
  have i0 : (0 : Int) ≤ 4 * (i : Int) := by omega
  have i1 : 4 * (i : Int) < 256 := by omega
  have i2 : 4 * (i : Int) + 1 < 256 := by omega
  have i3 : 4 * (i : Int) + 2 < 256 := by omega
  have i4 : 4 * (i : Int) + 3 < 256 := by omega
  go_enter Tryd.func58, Tryd.ntmps58
  have v0 : IntKind.i64.wrap (4 * (i : Int)) = 4 * (i : Int) := IntWalk.i64_in _ (by omega)
  have v1 : IntKind.i64.wrap (4 * (i : Int) + 1) = 4 * (i : Int) + 1 := IntWalk.i64_in _ (by omega)
  have v2 : IntKind.i64.wrap (4 * (i : Int) + 2) = 4 * (i : Int) + 2 := IntWalk.i64_in _ (by omega)
  have v3 : IntKind.i64.wrap (4 * (i : Int) + 3) = 4 * (i : Int) + 3 := IntWalk.i64_in _ (by omega)
  have j1 : (0 : Int) ≤ 4 * (i : Int) + 1 := by omega
  have j2 : (0 : Int) ≤ 4 * (i : Int) + 2 := by omega
  have j3 : (0 : Int) ≤ 4 * (i : Int) + 3 := by omega
  have t0 : (4 * (i : Int)).toNat = 4 * i := by omega
  have t1 : (4 * (i : Int) + 1).toNat = 4 * i + 1 := by omega
  have t2 : (4 * (i : Int) + 2).toNat = 4 * i + 2 := by omega
  have t3 : (4 * (i : Int) + 3).toNat = 4 * i + 3 := by omega
  go_wp2_with fail
  go_quiet (fail)
  go_wp2
  go_ret
  refine ⟨congrArg (fun x => Ending.returned (Value.int .u32 x)) ?_, _, rfl⟩
  rw [← getD_at _ (4 * i), ← getD_at _ (4 * i + 1), ← getD_at _ (4 * i + 2), ← getD_at _ (4 * i + 3)]
  exact ks_key ⟨i, hi⟩

end Go.Proofs.YtgjnoleejbkddaaDoor

/- The specification's hash and the program's digest are one. -/
namespace Go.Proofs.YtgjnoleejbkddaaDoor
open Go.RowKit Go.My Go.Lib
set_option linter.unusedVariables false

theorem wAt_num (l : List UInt8) (j : Nat) : wAt l j = (num4 (l.getD (4 * j) 0).toNat (l.getD (4 * j + 1) 0).toNat (l.getD (4 * j + 2) 0).toNat (l.getD (4 * j + 3) 0).toNat : Int) :=
  or4_num _ _ _ _ (UInt8.toNat_lt _) (UInt8.toNat_lt _) (UInt8.toNat_lt _) (UInt8.toNat_lt _)
theorem prt_wAt (l : List UInt8) (q : Nat) (h : q < 16) : prtW (blkF l) 64 q = wAt l q := by
  unfold prtW
  rw [show min 4 (64 - 4 * q) = 4 by omega, wAt_num]
  exact fillW_num _ q _ _ _ _ rfl rfl rfl rfl (UInt8.toNat_lt _) (UInt8.toNat_lt _) (UInt8.toNat_lt _) (UInt8.toNat_lt _)
theorem be4 (n : Nat) : beL n 4 = [beAt n 4 0, beAt n 4 1, beAt n 4 2, beAt n 4 3] := rfl
theorem outL_get (f : Nat → Int) (n q : Nat) (hq : q < n) (r : Nat) (hr : r < 4) : (outL f n).getD (4 * q + r) 0 = (beL (f q).toNat 4).getD r 0 := by
  induction n with
  | zero => omega
  | succ n ih =>
    have hl := outL_len f n
    have hb : (beL (f n).toNat 4).length = 4 := beT_len _ _ _
    rw [outL, List.getD_eq_getElem?_getD]
    by_cases h : q < n
    · rw [List.getElem?_append_left (by omega), ← List.getD_eq_getElem?_getD]; exact ih h
    · have e : q = n := by omega
      subst e
      rw [List.getElem?_append_right (by omega), hl, show 4 * q + r - 4 * q = r by omega, ← List.getD_eq_getElem?_getD]
theorem wAt_out (f : Nat → Int) (h : Bd f) (n q : Nat) (hq : q < n) : wAt (outL f n) q = f q := by
  rw [wAt_num]
  have g0 := outL_get f n q hq 0 (by omega)
  rw [Nat.add_zero] at g0
  rw [g0, outL_get f n q hq 1 (by omega), outL_get f n q hq 2 (by omega), outL_get f n q hq 3 (by omega), be4]
  have e0 := beAt_val (f q).toNat 4 0
  have e1 := beAt_val (f q).toNat 4 1
  have e2 := beAt_val (f q).toNat 4 2
  have e3 := beAt_val (f q).toNat 4 3
  obtain ⟨b0, b1⟩ := h q
  simp only [List.getD_cons_zero, List.getD_cons_succ]
  unfold num4
  simp at e0 e1 e2 e3
  omega
theorem rndF_congr (v v' : Nat → Int) (k x : Int) (h : ∀ q, q < 8 → v q = v' q) (q : Nat) (hq : q < 8) : rndF v k x q = rndF v' k x q := by
  have a := h 0 (by omega)
  have b := h 1 (by omega)
  have c := h 2 (by omega)
  have d := h 3 (by omega)
  have e := h 4 (by omega)
  have f := h 5 (by omega)
  have g := h 6 (by omega)
  have i := h 7 (by omega)
  rcases q with _ | _ | _ | _ | _ | _ | _ | _ | q
  · simp only [rndF, oneW, twoW, a, b, c, e, f, g, i]
  · exact a
  · exact b
  · exact c
  · simp only [rndF, oneW, d, e, f, g, i]
  · exact e
  · exact f
  · exact g
  · omega
theorem roundsF_congr (v v' W W' : Nat → Int) (h : ∀ q, q < 8 → v q = v' q) (hw : ∀ i, i < 64 → W i = W' i) (n : Nat) (hn : n ≤ 64) (q : Nat) (hq : q < 8) : roundsF v W n q = roundsF v' W' n q := by
  induction n generalizing q with
  | zero => exact h q hq
  | succ n ih =>
    show rndF (roundsF v W n) (kW n) (W n) q = rndF (roundsF v' W' n) (kW n) (W' n) q
    rw [hw n (by omega)]
    exact rndF_congr _ _ _ _ (fun q hq => ih (by omega) q hq) q hq
theorem outL_congr (f g : Nat → Int) (n : Nat) (h : ∀ q, q < n → f q = g q) : outL f n = outL g n := by
  induction n with
  | zero => rfl
  | succ n ih => rw [outL, outL, ih (fun q hq => h q (by omega)), h n (by omega)]
/-- One step of the specification. -/
def stepL (st bk : List UInt8) : List UInt8 := outL (compF (wAt st) (schW (wAt bk))) 8
theorem step_eq (st bk : Nat → Int) (l : List UInt8) (h : Bd st) : outL (compF st (schW (prtW (blkF l) 64))) 8 = stepL (outL st 8) l := by
  apply outL_congr
  intro q hq
  have hs : ∀ q, q < 8 → st q = wAt (outL st 8) q := fun q hq => (wAt_out st h 8 q hq).symm
  show add32 (st q) (roundsF st (schW (prtW (blkF l) 64)) 64 q) = add32 (wAt (outL st 8) q) (roundsF (wAt (outL st 8)) (schW (wAt l)) 64 q)
  rw [← hs q hq, roundsF_congr st (wAt (outL st 8)) _ (schW (wAt l)) hs (fun i _ => schW_congr _ _ (fun q hq => prt_wAt l q hq) i) 64 (by omega) q hq]
def firstL : List UInt8 := [106, 9, 230, 103, 187, 103, 174, 133, 60, 110, 243, 114, 165, 79, 245, 58, 81, 14, 82, 127, 155, 5, 104, 140, 31, 131, 217, 171, 91, 224, 205, 25]
theorem first_eq : outL S0.st 8 = firstL := by decide +kernel
/-- The specification's state after n blocks. -/
def stN (P : List UInt8) : Nat → List UInt8
  | 0 => firstL
  | n + 1 => stepL (stN P n) ((P.drop (64 * n)).take 64)
theorem S0_bd : Bd S0.st := by
  intro q
  rcases q with _ | _ | _ | _ | _ | _ | _ | _ | q
  all_goals first | exact ⟨by decide, by decide⟩ | exact ⟨Int.le_refl 0, (by decide : (0 : Int) ≤ 4294967295)⟩
theorem stN_eq (P : List UInt8) (n : Nat) (h : 64 * n ≤ P.length) : stN P n = outL (dputs S0 (P.take (64 * n))).st 8 ∧ (dputs S0 (P.take (64 * n))).u = 0 ∧ Bd (dputs S0 (P.take (64 * n))).st := by
  induction n with
  | zero => exact ⟨first_eq.symm, rfl, S0_bd⟩
  | succ n ih =>
    obtain ⟨h1, h2, h3⟩ := ih (by omega)
    have hb : ((P.drop (64 * n)).take 64).length = 64 := by rw [List.length_take, List.length_drop]; omega
    have e : P.take (64 * (n + 1)) = P.take (64 * n) ++ (P.drop (64 * n)).take 64 := by rw [← List.take_add]; congr 1
    obtain ⟨b1, b2⟩ := dputs_block (dputs S0 (P.take (64 * n))) h2 _ hb
    rw [e, dputs_append]
    refine ⟨?_, b1, ?_⟩
    · show stepL (stN P n) _ = _
      rw [h1, b2, step_eq _ (fun _ => 0) _ h3]
    · rw [b2]; exact compF_bd _ _
/-- The specification's hash. -/
def shaL (l : List UInt8) : List UInt8 := stN (padT l) ((padT l).length / 64)
theorem be8 (n : Nat) (h : n < 536870912) : beL (8 * n) 8 = [0, 0, 0, 0] ++ beL (8 * n) 4 := by
  have hb : ∀ j, j < 8 → beAt (8 * n) 8 j = (if j < 4 then 0 else beAt (8 * n) 4 (j - 4)) := by
    intro j hj
    have e := beAt_val (8 * n) 8 j
    apply UInt8.toNat_inj.1
    by_cases h4 : j < 4
    · rw [if_pos h4]
      have : (8 * n) / 2 ^ (8 * (8 - 1 - j)) = 0 := Nat.div_eq_of_lt (Nat.lt_of_lt_of_le (by omega : 8 * n < 2 ^ 32) (Nat.pow_le_pow_right (by decide) (by omega)))
      have e' : ((8 * n : Nat) : Int) / 2 ^ (8 * (8 - 1 - j)) = 0 := by rw [show (2 : Int) ^ (8 * (8 - 1 - j)) = ((2 ^ (8 * (8 - 1 - j)) : Nat) : Int) by simp, ← Int.natCast_ediv, this]; rfl
      rw [e'] at e
      have z : (0 : UInt8).toNat = 0 := rfl
      omega
    · rw [if_neg h4]
      have e4 := beAt_val (8 * n) 4 (j - 4)
      rw [show 8 - 1 - j = 4 - 1 - (j - 4) by omega] at e
      omega
  have l8 : beL (8 * n) 8 = [beAt (8 * n) 8 0, beAt (8 * n) 8 1, beAt (8 * n) 8 2, beAt (8 * n) 8 3, beAt (8 * n) 8 4, beAt (8 * n) 8 5, beAt (8 * n) 8 6, beAt (8 * n) 8 7] := rfl
  rw [l8, be4, hb 0 (by omega), hb 1 (by omega), hb 2 (by omega), hb 3 (by omega), hb 4 (by omega), hb 5 (by omega), hb 6 (by omega), hb 7 (by omega)]
  rfl
theorem padT_eq (l : List UInt8) (h : l.length < 536870912) : padT l = l ++ padL (l.length % 64) l.length := by
  unfold padT padL
  rw [be8 _ h]
  simp
theorem padT_len (l : List UInt8) : (padT l).length % 64 = 0 := by
  unfold padT
  simp only [List.length_append, List.length_replicate, List.length_cons, List.length_nil]
  rw [show (beL (8 * l.length) 4).length = 4 from beT_len _ _ _]
  unfold padN
  omega
theorem sha_eq (l : List UInt8) (h : l.length < 536870912) : sumL (dputs S0 l) l.length = shaL l := by
  have hd : 64 * ((padT l).length / 64) = (padT l).length := by have := padT_len l; omega
  obtain ⟨h1, _, _⟩ := stN_eq (padT l) ((padT l).length / 64) (by omega)
  unfold shaL
  rw [h1, hd, List.take_length, padT_eq l h, dputs_append]
  unfold sumL
  rw [dputs_u S0 l (by decide)]
  rw [show S0.u = 0 from rfl, Nat.zero_add]

end Go.Proofs.YtgjnoleejbkddaaDoor

/- A digest as a value: what is written to it byte by byte. -/
import Derived.Test.YtipcficcoogbnaaDoorMathS
namespace Go.Proofs.YtipcficcoogbnaaDoor
open Go.RowKit Go.My Go.Lib
set_option linter.unusedVariables false

/-- The state's words, the block's bytes, how many of them are filled. -/
structure DS where
  st : Nat → Int
  bk : Nat → Int
  u : Nat
def bput (bk : Nat → Int) (u : Nat) (b : Int) : Nat → Int := fun j => if j = u then b else bk j
def dstep (S : DS) (b : UInt8) : DS :=
  if S.u + 1 = 64 then ⟨compF S.st (schW (prtW (bput S.bk S.u b.toNat) 64)), bput S.bk S.u b.toNat, 0⟩ else ⟨S.st, bput S.bk S.u b.toNat, S.u + 1⟩
def dputs (S : DS) (l : List UInt8) : DS := l.foldl dstep S
theorem dputs_nil (S : DS) : dputs S [] = S := rfl
theorem dputs_snoc (S : DS) (l : List UInt8) (b : UInt8) : dputs S (l ++ [b]) = dstep (dputs S l) b := by simp [dputs]
theorem dputs_append (S : DS) (a b : List UInt8) : dputs S (a ++ b) = dputs (dputs S a) b := by simp [dputs]
theorem dstep_lt (S : DS) (b : UInt8) (h : S.u < 64) : (dstep S b).u < 64 := by
  unfold dstep
  by_cases h2 : S.u + 1 = 64
  · rw [if_pos h2]; exact (by decide : 0 < 64)
  · rw [if_neg h2]; show S.u + 1 < 64; omega
theorem dputs_lt (S : DS) (l : List UInt8) (h : S.u < 64) : (dputs S l).u < 64 := by
  unfold dputs
  induction l generalizing S with
  | nil => exact h
  | cons b l ih => exact ih (dstep S b) (dstep_lt S b h)
theorem dstep_mix (S : DS) (b : UInt8) (h : S.u + 1 = 64) : dstep S b = ⟨compF S.st (schW (prtW (bput S.bk S.u b.toNat) 64)), bput S.bk S.u b.toNat, 0⟩ := if_pos h
theorem dstep_put (S : DS) (b : UInt8) (h : ¬ S.u + 1 = 64) : dstep S b = ⟨S.st, bput S.bk S.u b.toNat, S.u + 1⟩ := if_neg h
theorem bput_bd (bk : Nat → Int) (u : Nat) (b : UInt8) (h : ∀ q, 0 ≤ bk q ∧ bk q ≤ 255) (q : Nat) : 0 ≤ bput bk u (b.toNat : Int) q ∧ bput bk u (b.toNat : Int) q ≤ 255 := by
  unfold bput
  by_cases e : q = u
  · rw [if_pos e]; have := b.toNat_lt; omega
  · rw [if_neg e]; exact h q

theorem dstep_u (S : DS) (b : UInt8) (h : S.u < 64) : (dstep S b).u = (S.u + 1) % 64 := by
  unfold dstep
  by_cases h2 : S.u + 1 = 64
  · rw [if_pos h2]; show 0 = _; omega
  · rw [if_neg h2]; show S.u + 1 = _; omega
theorem dputs_u (S : DS) (l : List UInt8) (h : S.u < 64) : (dputs S l).u = (S.u + l.length) % 64 := by
  unfold dputs
  induction l generalizing S with
  | nil => simp; omega
  | cons b l ih =>
    rw [List.foldl_cons, ih (dstep S b) (dstep_lt S b h), dstep_u S b h, List.length_cons]
    omega
/-- How many zeros the padding holds, when u bytes of the block are filled. -/
def padN (u : Nat) : Nat := (119 - u) % 64
/-- The padding of a text of z bytes, of which u lie in the last block. -/
def padL (u z : Nat) : List UInt8 := 128 :: List.replicate (padN u) 0 ++ beL (8 * z) 8
def outL (st : Nat → Int) : Nat → List UInt8
  | 0 => []
  | n + 1 => outL st n ++ beL (st n).toNat 4
theorem outL_len (st : Nat → Int) (n : Nat) : (outL st n).length = 4 * n := by
  induction n with
  | zero => rfl
  | succ n ih => rw [outL, List.length_append, ih, show (beL (st n).toNat 4).length = 4 from beT_len _ _ _]; omega
/-- What sum gives. -/
def sumL (S : DS) (z : Nat) : List UInt8 := outL (dputs S (padL S.u z)).st 8
theorem padN_lt (u : Nat) : padN u < 64 := by unfold padN; omega
theorem pad_u (u m : Nat) (hu : u < 64) (hm : m < padN u) : ((u + 1) % 64 + m) % 64 ≠ 56 := by unfold padN at hm; omega
theorem pad_end (u : Nat) (hu : u < 64) : ((u + 1) % 64 + padN u) % 64 = 56 := by unfold padN; omega

def iv : List Int := [1779033703, 3144134277, 1013904242, 2773480762, 1359893119, 2600822924, 528734635, 1541459225]
/-- A new digest. -/
def S0 : DS := ⟨fun q => iv.getD q 0, fun _ => 0, 0⟩
/-- A key laid out to a block, each byte under the mask. -/
def maskL (l : List UInt8) (m : UInt8) : List UInt8 := (l ++ List.replicate (64 - l.length) 0).map (· ^^^ m)

def mixL (K : List UInt8) (m : UInt8) (j : Nat) : List UInt8 := (K.take j).map (· ^^^ m) ++ K.drop j
theorem mixL_len (K : List UInt8) (m : UInt8) (j : Nat) : (mixL K m j).length = K.length := by simp [mixL]; omega
theorem mixL_get (K : List UInt8) (m : UInt8) (j : Nat) (h : j < K.length) : (cellsOf (mixL K m j)).toArray[j]? = some (.int .u8 ((K[j]).toNat : Int)) := by
  have hl : ((K.take j).map (· ^^^ m)).length = j := by simp; omega
  rw [List.getElem?_toArray, cellsOf, List.getElem?_map, mixL, List.getElem?_append_right (by omega), hl, Nat.sub_self, List.getElem?_drop, Nat.add_zero, List.getElem?_eq_getElem h]
  rfl
theorem mixL_set (K : List UInt8) (m : UInt8) (j : Nat) (h : j < K.length) : (cellsOf (mixL K m j)).toArray.setIfInBounds j (.int .u8 ((K[j] ^^^ m).toNat : Int)) = (cellsOf (mixL K m (j + 1))).toArray := by
  rw [List.setIfInBounds_toArray]
  congr 1
  have hl : ((K.take j).map (· ^^^ m)).length = j := by simp; omega
  have e : K.drop j = K[j] :: K.drop (j + 1) := List.drop_eq_getElem_cons h
  rw [cellsOf, cellsOf, mixL, mixL, e, List.map_append, List.map_append, List.set_append_right _ _ (by rw [List.length_map, hl]; exact Nat.le_refl _), List.length_map, hl, Nat.sub_self, List.map_cons, List.set_cons_zero, List.take_succ_eq_append_getElem h, List.map_append, List.map_append]
  simp
theorem mixL_all (K : List UInt8) (m : UInt8) : mixL K m K.length = K.map (· ^^^ m) := by simp [mixL]

def catL (ps : List ByteArray) : List UInt8 := ps.flatMap (·.data.toList)
theorem catL_snoc (ps : List ByteArray) (n : Nat) (h : n < ps.length) : catL (ps.take (n + 1)) = catL (ps.take n) ++ ps[n].data.toList := by
  rw [List.take_succ_eq_append_getElem h]
  unfold catL
  rw [List.flatMap_append, List.flatMap_singleton]
theorem catL_len (ps : List ByteArray) (B : Nat) (h : ∀ q ∈ ps, q.size ≤ B) : (catL ps).length ≤ ps.length * B := by
  induction ps with
  | nil => simp [catL]
  | cons a l ih =>
    have h1 := ih (fun q hq => h q (List.mem_cons_of_mem _ hq))
    have h2 := h a List.mem_cons_self
    have e : catL (a :: l) = a.data.toList ++ catL l := by simp [catL]
    rw [e, List.length_append, List.length_cons, Nat.add_mul, Nat.one_mul, len_data]
    omega

theorem maskL_len (l : List UInt8) (m : UInt8) (h : l.length ≤ 64) : (maskL l m).length = 64 := by
  unfold maskL
  rw [List.length_map, List.length_append, List.length_replicate]
  omega
def keyL (k : List UInt8) : List UInt8 := if k.length ≤ 64 then k else sumL (dputs S0 k) k.length
theorem sumL_len (S : DS) (z : Nat) : (sumL S z).length = 32 := outL_len _ 8
theorem keyL_len (k : List UInt8) : (keyL k).length ≤ 64 := by
  unfold keyL
  by_cases h : k.length ≤ 64
  · rw [if_pos h]; exact h
  · rw [if_neg h, sumL_len]; omega
theorem catL_one (s : ByteArray) : catL [s] = s.data.toList := by simp [catL]

end Go.Proofs.YtipcficcoogbnaaDoor

import Derived.Test.YtgjnoleejbkddaaDoorRows
import Derived.Test.YtgjnoleejbkddaaDoorGM0
import Derived.WalkKit
import Derived.ProofKit
import Derived.Lib.Hide
import Derived.Deep.QuietTactic
import Derived.BigQuiet
import Derived.WalkSpells
import Derived.WalkLawsBesides
import Derived.Deep.RegionHeld3
import Derived.Deep.AppendLies
import Derived.StillTailTactics
/- Keys: the checks of both sides; AdOf. -/
namespace Go.Proofs.YtgjnoleejbkddaaDoor
open Go.RowKit Go.My Go.Lib
set_option linter.unusedVariables false

theorem isKey_k (s : ByteArray) (w : World) (b : Bool) (hb : ((s.size : Int) == 32) = b) :
    Calls Tryd.prog 37 #[.string s] w fun e w' => e = .returned (.bool b) ∧ w = w' := by
  go_enter Tryd.func37, Tryd.ntmps37
  go_wp2
  go_ret
  exact ⟨rfl, rfl⟩
theorem l1Key_k (s : ByteArray) (w : World) (b : Bool) (hb : ((s.size : Int) == 32) = b) :
    Calls Tryd.prog 28 #[.string s] w fun e w' => e = .returned (.bool b) ∧ w = w' := by
  go_enter Tryd.func28, Tryd.ntmps28
  go_wp2
  go_ret
  exact ⟨rfl, rfl⟩
def strsK (l : List ByteArray) : Array Value := (l.map Value.string).toArray
theorem strsK_get (l : List ByteArray) (j : Nat) (h : j < l.length) : (strsK l)[j]? = some (.string l[j]) := by simp [strsK, h]
def keysB (l : List ByteArray) : Bool := l.all fun s => ((s.size : Int) == 32)
theorem keysB_take (l : List ByteArray) (j : Nat) (h : j < l.length) : keysB (l.take (j + 1)) = (keysB (l.take j) && ((l[j].size : Int) == 32)) := by
  unfold keysB
  rw [List.take_succ_eq_append_getElem h, List.all_append]
  simp
theorem keysB_bad (l : List ByteArray) (j : Nat) (h : j < l.length) (hb : ((l[j].size : Int) == 32) = false) : keysB l = false := by
  unfold keysB
  rw [List.all_eq_false]
  exact ⟨l[j], List.getElem_mem h, by simpa using hb⟩

def adV (a b : ByteArray) : ByteArray := if keysB [a, b] = true then a ++ b else ByteArray.mk #[]
theorem keysB2 (a b : ByteArray) : keysB [a, b] = (((a.size : Int) == 32) && ((b.size : Int) == 32)) := by simp [keysB]
end Go.Proofs.YtgjnoleejbkddaaDoor

/- The contracts of the small pieces of SHA-256: turning a word, the program's and the specification's. -/
namespace Go.Proofs.YtgjnoleejbkddaaDoor
open Go.RowKit Go.My Go.Lib
set_option linter.unusedVariables false

theorem rot_spec (x : Int) (k : Nat) (w : World) (h0 : 0 ≤ x) (h1 : x ≤ 4294967295) (hr : 1 ≤ k) (hr2 : k ≤ 31) :
    Calls Tryd.prog 57 #[.int .u32 x, .int .i64 k] w fun e w' => e = .returned (.int .u32 (rot x k)) ∧ w = w' := by
  have hi1 : (1 : Int) ≤ k := by omega
  have hi2 : (k : Int) ≤ 31 := by omega
  go_enter Tryd.func57, Tryd.ntmps57
  go_wp2
  go_ret
  exact ⟨rfl, rfl⟩

theorem rot_impl (x : Int) (r k : Nat) (w : World) (h0 : 0 ≤ x) (h1 : x ≤ 4294967295) (hr : 1 ≤ k) (hr2 : k ≤ 31) (hrk : r + k = 32) :
    Calls Tryd.prog 68 #[.int .u32 x, .int .i64 (-(r : Int))] w fun e w' => e = .returned (.int .u32 (rot x k)) ∧ w = w' := by
  have hi1 : (1 : Int) ≤ k := by omega
  have hi2 : (k : Int) ≤ 31 := by omega
  have he := mask31 r k hr hr2 hrk
  go_enter Tryd.func68, Tryd.ntmps68
  go_wp2
  go_ret
  exact ⟨rfl, rfl⟩

theorem rot_impl' (x n : Int) (r k : Nat) (w : World) (h0 : 0 ≤ x) (h1 : x ≤ 4294967295) (hn : n = -(r : Int)) (hr : 1 ≤ k) (hr2 : k ≤ 31) (hrk : r + k = 32) :
    Calls Tryd.prog 68 #[.int .u32 x, .int .i64 n] w fun e w' => e = .returned (.int .u32 (rot x k)) ∧ w = w' := by
  subst hn
  exact rot_impl x r k w h0 h1 hr hr2 hrk

theorem turned_any (x : Int) (w : World) (h0 : 0 ≤ x) (h1 : x ≤ 4294967295) (i j k i' j' k' : Nat) (hi : 1 ≤ i' ∧ i' ≤ 31 ∧ i + i' = 32) (hj : 1 ≤ j' ∧ j' ≤ 31 ∧ j + j' = 32) (hk : 1 ≤ k' ∧ k' ≤ 31 ∧ k + k' = 32) :
    Calls Tryd.prog 67 #[.int .u32 x, .int .i64 i, .int .i64 j, .int .i64 k] w fun e w' => e = .returned (.int .u32 (xor32 (xor32 (rot x i') (rot x j')) (rot x k'))) ∧ w = w' := by
  have hi1 : (i : Int) ≤ 31 := by omega
  have hj1 : (j : Int) ≤ 31 := by omega
  have hk1 : (k : Int) ≤ 31 := by omega
  have HI := Lib.hid hi
  have HJ := Lib.hid hj
  have HK := Lib.hid hk
  clear hi hj hk
  go_enter Tryd.func67, Tryd.ntmps67
  go_wp2_with fail
  refine (rot_impl x i i' _ h0 h1 HI.out.1 HI.out.2.1 HI.out.2.2).mono ?_
  rintro e w' ⟨rfl, rfl⟩
  go_wp2_with fail
  refine (rot_impl x j j' _ h0 h1 HJ.out.1 HJ.out.2.1 HJ.out.2.2).mono ?_
  rintro e w' ⟨rfl, rfl⟩
  go_wp2_with fail
  refine (rot_impl x k k' _ h0 h1 HK.out.1 HK.out.2.1 HK.out.2.2).mono ?_
  rintro e w' ⟨rfl, rfl⟩
  go_wp2
  go_ret
  exact ⟨rfl, rfl⟩

end Go.Proofs.YtgjnoleejbkddaaDoor

/- A digest as a value: what is written to it byte by byte. -/
namespace Go.Proofs.YtgjnoleejbkddaaDoor
open Go.RowKit Go.My Go.Lib
set_option linter.unusedVariables false

/-- The state's words, the block's bytes, how many of them are filled. -/
structure DS where
  st : Nat → Int
  bk : Nat → Int
  u : Nat
def bput (bk : Nat → Int) (u : Nat) (b : Int) : Nat → Int := fun j => if j = u then b else bk j
def dstep (S : DS) (b : UInt8) : DS :=
  if S.u + 1 = 64 then ⟨compF S.st (schW (prtW (bput S.bk S.u b.toNat) 64)), bput S.bk S.u b.toNat, 0⟩ else ⟨S.st, bput S.bk S.u b.toNat, S.u + 1⟩
def dputs (S : DS) (l : List UInt8) : DS := l.foldl dstep S
theorem dputs_nil (S : DS) : dputs S [] = S := rfl
theorem dputs_snoc (S : DS) (l : List UInt8) (b : UInt8) : dputs S (l ++ [b]) = dstep (dputs S l) b := by simp [dputs]
theorem dputs_append (S : DS) (a b : List UInt8) : dputs S (a ++ b) = dputs (dputs S a) b := by simp [dputs]
theorem dstep_lt (S : DS) (b : UInt8) (h : S.u < 64) : (dstep S b).u < 64 := by
  unfold dstep
  by_cases h2 : S.u + 1 = 64
  · rw [if_pos h2]; exact (by decide : 0 < 64)
  · rw [if_neg h2]; show S.u + 1 < 64; omega
theorem dputs_lt (S : DS) (l : List UInt8) (h : S.u < 64) : (dputs S l).u < 64 := by
  unfold dputs
  induction l generalizing S with
  | nil => exact h
  | cons b l ih => exact ih (dstep S b) (dstep_lt S b h)
theorem dstep_mix (S : DS) (b : UInt8) (h : S.u + 1 = 64) : dstep S b = ⟨compF S.st (schW (prtW (bput S.bk S.u b.toNat) 64)), bput S.bk S.u b.toNat, 0⟩ := if_pos h
theorem dstep_put (S : DS) (b : UInt8) (h : ¬ S.u + 1 = 64) : dstep S b = ⟨S.st, bput S.bk S.u b.toNat, S.u + 1⟩ := if_neg h
theorem bput_bd (bk : Nat → Int) (u : Nat) (b : UInt8) (h : ∀ q, 0 ≤ bk q ∧ bk q ≤ 255) (q : Nat) : 0 ≤ bput bk u (b.toNat : Int) q ∧ bput bk u (b.toNat : Int) q ≤ 255 := by
  unfold bput
  by_cases e : q = u
  · rw [if_pos e]; have := b.toNat_lt; omega
  · rw [if_neg e]; exact h q

theorem dstep_u (S : DS) (b : UInt8) (h : S.u < 64) : (dstep S b).u = (S.u + 1) % 64 := by
  unfold dstep
  by_cases h2 : S.u + 1 = 64
  · rw [if_pos h2]; show 0 = _; omega
  · rw [if_neg h2]; show S.u + 1 = _; omega
theorem dputs_u (S : DS) (l : List UInt8) (h : S.u < 64) : (dputs S l).u = (S.u + l.length) % 64 := by
  unfold dputs
  induction l generalizing S with
  | nil => simp; omega
  | cons b l ih =>
    rw [List.foldl_cons, ih (dstep S b) (dstep_lt S b h), dstep_u S b h, List.length_cons]
    omega
/-- How many zeros the padding holds, when u bytes of the block are filled. -/
def padN (u : Nat) : Nat := (119 - u) % 64
/-- The padding of a text of z bytes, of which u lie in the last block. -/
def padL (u z : Nat) : List UInt8 := 128 :: List.replicate (padN u) 0 ++ beL (8 * z) 8
def outL (st : Nat → Int) : Nat → List UInt8
  | 0 => []
  | n + 1 => outL st n ++ beL (st n).toNat 4
theorem outL_len (st : Nat → Int) (n : Nat) : (outL st n).length = 4 * n := by
  induction n with
  | zero => rfl
  | succ n ih => rw [outL, List.length_append, ih, show (beL (st n).toNat 4).length = 4 from beT_len _ _ _]; omega
/-- What sum gives. -/
def sumL (S : DS) (z : Nat) : List UInt8 := outL (dputs S (padL S.u z)).st 8
theorem padN_lt (u : Nat) : padN u < 64 := by unfold padN; omega
theorem pad_u (u m : Nat) (hu : u < 64) (hm : m < padN u) : ((u + 1) % 64 + m) % 64 ≠ 56 := by unfold padN at hm; omega
theorem pad_end (u : Nat) (hu : u < 64) : ((u + 1) % 64 + padN u) % 64 = 56 := by unfold padN; omega

def iv : List Int := [1779033703, 3144134277, 1013904242, 2773480762, 1359893119, 2600822924, 528734635, 1541459225]
/-- A new digest. -/
def S0 : DS := ⟨fun q => iv.getD q 0, fun _ => 0, 0⟩
/-- A key laid out to a block, each byte under the mask. -/
def maskL (l : List UInt8) (m : UInt8) : List UInt8 := (l ++ List.replicate (64 - l.length) 0).map (· ^^^ m)

def mixL (K : List UInt8) (m : UInt8) (j : Nat) : List UInt8 := (K.take j).map (· ^^^ m) ++ K.drop j
theorem mixL_len (K : List UInt8) (m : UInt8) (j : Nat) : (mixL K m j).length = K.length := by simp [mixL]; omega
theorem mixL_get (K : List UInt8) (m : UInt8) (j : Nat) (h : j < K.length) : (cellsOf (mixL K m j)).toArray[j]? = some (.int .u8 ((K[j]).toNat : Int)) := by
  have hl : ((K.take j).map (· ^^^ m)).length = j := by simp; omega
  rw [List.getElem?_toArray, cellsOf, List.getElem?_map, mixL, List.getElem?_append_right (by omega), hl, Nat.sub_self, List.getElem?_drop, Nat.add_zero, List.getElem?_eq_getElem h]
  rfl
theorem mixL_set (K : List UInt8) (m : UInt8) (j : Nat) (h : j < K.length) : (cellsOf (mixL K m j)).toArray.setIfInBounds j (.int .u8 ((K[j] ^^^ m).toNat : Int)) = (cellsOf (mixL K m (j + 1))).toArray := by
  rw [List.setIfInBounds_toArray]
  congr 1
  have hl : ((K.take j).map (· ^^^ m)).length = j := by simp; omega
  have e : K.drop j = K[j] :: K.drop (j + 1) := List.drop_eq_getElem_cons h
  rw [cellsOf, cellsOf, mixL, mixL, e, List.map_append, List.map_append, List.set_append_right _ _ (by rw [List.length_map, hl]; exact Nat.le_refl _), List.length_map, hl, Nat.sub_self, List.map_cons, List.set_cons_zero, List.take_succ_eq_append_getElem h, List.map_append, List.map_append]
  simp
theorem mixL_all (K : List UInt8) (m : UInt8) : mixL K m K.length = K.map (· ^^^ m) := by simp [mixL]

def catL (ps : List ByteArray) : List UInt8 := ps.flatMap (·.data.toList)
theorem catL_snoc (ps : List ByteArray) (n : Nat) (h : n < ps.length) : catL (ps.take (n + 1)) = catL (ps.take n) ++ ps[n].data.toList := by
  rw [List.take_succ_eq_append_getElem h]
  unfold catL
  rw [List.flatMap_append, List.flatMap_singleton]
theorem catL_len (ps : List ByteArray) (B : Nat) (h : ∀ q ∈ ps, q.size ≤ B) : (catL ps).length ≤ ps.length * B := by
  induction ps with
  | nil => simp [catL]
  | cons a l ih =>
    have h1 := ih (fun q hq => h q (List.mem_cons_of_mem _ hq))
    have h2 := h a List.mem_cons_self
    have e : catL (a :: l) = a.data.toList ++ catL l := by simp [catL]
    rw [e, List.length_append, List.length_cons, Nat.add_mul, Nat.one_mul, len_data]
    omega

theorem maskL_len (l : List UInt8) (m : UInt8) (h : l.length ≤ 64) : (maskL l m).length = 64 := by
  unfold maskL
  rw [List.length_map, List.length_append, List.length_replicate]
  omega
def keyL (k : List UInt8) : List UInt8 := if k.length ≤ 64 then k else sumL (dputs S0 k) k.length
theorem sumL_len (S : DS) (z : Nat) : (sumL S z).length = 32 := outL_len _ 8
theorem keyL_len (k : List UInt8) : (keyL k).length ≤ 64 := by
  unfold keyL
  by_cases h : k.length ≤ 64
  · rw [if_pos h]; exact h
  · rw [if_neg h, sumL_len]; omega
theorem catL_one (s : ByteArray) : catL [s] = s.data.toList := by simp [catL]

end Go.Proofs.YtgjnoleejbkddaaDoor

/- The contracts of the specification's l2With and l2K. -/
namespace Go.Proofs.YtgjnoleejbkddaaDoor
open Go.RowKit Go.My Go.Lib
set_option linter.unusedVariables false

theorem info_u8w : (Tryd.prog.info? 5).map (fun i => (i.zero, i.size, i.bytes)) = some (some (.int .u8 0), 1, 1) := by kernel_rfl

set_option maxHeartbeats 2000000 in
theorem l2With_spec (s : ByteArray) (m : UInt8) (w : World) (hs : s.size ≤ 64) :
    Calls Tryd.prog 32 #[.string s, .int .u8 m.toNat] w fun e w' => e = .returned (.string (str (s.data.toList.map (· ^^^ m)))) ∧ Below w.heap.size w w' := by
  obtain ⟨i0, hi, hz0, hz1, hz2⟩ := info_parts info_u8w
  have hs1 : (s.size : Int) ≤ 64 := by omega
  go_enter Tryd.func32, Tryd.ntmps32
  go_wp2
  have hown : (w.alloc (.cells #[] 5)).ownsRow w.heap.size 5 1 (.slice (some ⟨w.heap.size, 0, none⟩) 0 0) 0 [] := World.ownsRow_lit w #[] 0 (Nat.le_refl _) (by unfold maxLen; omega) rfl
  have hb1 : Below w.heap.size w (w.alloc (.cells #[] 5)) := (Below.refl _ _).alloc (Nat.le_refl _) _
  go_loopw [5, 6] (fun v i wr => ∃ k : Nat, k ≤ s.size ∧ i = .int .i64 k ∧ wr.ownsRow w.heap.size 5 1 v k (cellsOf ((s.data.toList.take k).map (· ^^^ m))) ∧ Below w.heap.size w wr)
    (fun _ i _ => s.size - (intOf i).toNat)
  case atStart => exact ⟨0, Nat.zero_le _, rfl, hown, hb1⟩
  case round =>
    clear hown hb1
    obtain ⟨k, hk, rfl, hown, hb⟩ := hrel
    by_cases hlt : k < s.size
    · have k0 : (0 : Int) ≤ (k : Int) := by omega
      have k1 : (k : Int) < (s.size : Int) := by omega
      have hx := xor_u8 (s[k]) m
      go_wp2_with (at_builtin; refine wpList_append_lies _ rfl _ _ 25 rfl w.heap.size 5 i0 (.int .u8 0) 1 1 Tryd.underlying25 hi hz0 hz1 hz2 rfl (by decide) u5 k _ rfl (hown.alloc _) ⟨wr.heap.size, 0, none⟩ 1 1 [_] rfl rfl (World.news_of_block (cs := #[_]) (t := 5) (fr := (0, 0)) (heap_alloc_new wr _)) (by simp [Value.oneCell']) (by omega) (by unfold maxLen; omega) (by omega) (by have := hb.size; simp; omega) (wr.heap.size + 1) (by simp) ?_; intro g cap w2 hown2 hgrow2 hat hlt2)
      have R := append_step (news := [s[k] ^^^ m]) hown (hb.alloc hb.size _) hown2 hgrow2
      rw [show List.map (· ^^^ m) (s.data.toList.take k) ++ [s[k] ^^^ m] = (s.data.toList.take (k + 1)).map (· ^^^ m) by rw [take_snoc s k hlt, List.map_append]; rfl] at R
      clear hown hown2 hgrow2
      go_roundw
      case rel => exact ⟨k + 1, by omega, by go_num, R.1, R.2⟩
      case measure => simp [intOf]; omega
    · obtain rfl : k = s.size := by omega
      rw [take_all] at hown
      have hcv := run_convert_own (P := Tryd.prog) wr 25 9 5 _ _ _ _ Tryd.underlying25 Tryd.underlying5 Tryd.underlying9 hown
      clear hown
      go_wp2
      go_ret
      exact ⟨rfl, hb⟩

end Go.Proofs.YtgjnoleejbkddaaDoor

/- The contract of the specification's l2Pad. -/
namespace Go.Proofs.YtgjnoleejbkddaaDoor
open Go.RowKit Go.My Go.Lib
set_option linter.unusedVariables false

/-- The text with its padding, as the specification lays it. -/
def padT (l : List UInt8) : List UInt8 := l ++ [128] ++ List.replicate (padN (l.length % 64)) 0 ++ [0, 0, 0, 0] ++ beL (8 * l.length) 4

set_option maxHeartbeats 2000000 in
theorem l2Pad_spec (s : ByteArray) (w : World) (hs : s.size ≤ 10000) :
    Calls Tryd.prog 44 #[.string s] w fun e w' => e = .returned (.string (str (padT s.data.toList))) ∧ Below w.heap.size w w' := by
  have hs1 : (s.size : Int) ≤ 10000 := by omega
  have HS := Lib.hid hs
  have hc1 : ¬ 9223372036854775807 < s.size + 1 := by omega
  clear hs
  go_enter Tryd.func44, Tryd.ntmps44
  go_wp2_with fail
  have h128 : s ++ (⟨#[128]⟩ : ByteArray) = str (s.data.toList ++ [128] ++ List.replicate 0 0) := by
    have : s = str s.data.toList := (str_of s).symm
    conv => lhs; rw [this]
    rw [show (⟨#[128]⟩ : ByteArray) = str [128] from rfl, str_app]
    simp
  rw [h128]
  clear h128 hc1
  have HP := Lib.hid (padN_lt (s.size % 64))
  go_loopw [3] (fun o wr => ∃ m : Nat, m ≤ padN (s.size % 64) ∧ o = .string (str (s.data.toList ++ [128] ++ List.replicate m 0)) ∧ wr = w)
    (fun o _ => match o with | .string t => s.size + 65 - t.size | _ => 0)
  case atStart => exact ⟨0, Nat.zero_le _, rfl, rfl⟩
  case round =>
    obtain ⟨m, hm, rfl, rfl⟩ := hrel
    have hsz : (str (s.data.toList ++ [128] ++ List.replicate m 0)).size = s.size + 1 + m := by
      rw [str_size]; simp only [List.length_append, List.length_replicate, List.length_singleton]; rw [len_data]
    by_cases hlt : m < padN (s.size % 64)
    · have hne := pad_u (s.size % 64) m (Nat.mod_lt _ (by decide)) hlt
      have hn2 : (((str (s.data.toList ++ [128] ++ List.replicate m 0)).size : Int) % 64 != 56) = true := by
        rw [hsz]; simp; omega
      have hsn : str (s.data.toList ++ [128] ++ List.replicate m 0) ++ (⟨#[0]⟩ : ByteArray) = str (s.data.toList ++ [128] ++ List.replicate (m + 1) 0) := by
        rw [show (⟨#[0]⟩ : ByteArray) = str [0] from rfl, str_app, List.replicate_succ', List.append_assoc]
      have HSN := Lib.hid hsn
      have HSZ := Lib.hid hsz
      have HM := Lib.hid (And.intro hm hlt)
      have hcat : ¬ 9223372036854775807 < (str (s.data.toList ++ [128] ++ List.replicate m 0)).size + 1 := by rw [hsz]; have := HS.out; have := HP.out; omega
      have b0 : (0 : Int) ≤ ((str (s.data.toList ++ [128] ++ List.replicate m 0)).size : Int) := by omega
      clear hne hsn hsz hm hlt
      generalize str (s.data.toList ++ [128] ++ List.replicate m 0) = B at *
      go_wp2
      go_roundw
      case rel => exact ⟨m + 1, by have := HM.out; omega, by rw [HSN.out], trivial⟩
      case measure =>
        rw [HSN.out]
        show s.size + 65 - (str (s.data.toList ++ [128] ++ List.replicate (m + 1) 0)).size < s.size + 65 - B.size
        rw [HSZ.out, str_size]
        simp only [List.length_append, List.length_replicate, List.length_singleton]
        rw [len_data]
        have := HP.out; have := HM.out
        omega
    · have hme : m = padN (s.size % 64) := by omega
      have he := pad_end (s.size % 64) (Nat.mod_lt _ (by decide))
      have hn2 : (((str (s.data.toList ++ [128] ++ List.replicate m 0)).size : Int) % 64 != 56) = false := by
        rw [hsz, hme]; simp; omega
      have hcat : ¬ 9223372036854775807 < (str (s.data.toList ++ [128] ++ List.replicate m 0)).size + 4 := by rw [hsz]; have := HS.out; have := HP.out; omega
      have HME := Lib.hid hme
      have HSZ := Lib.hid hsz
      have b0 : (0 : Int) ≤ ((str (s.data.toList ++ [128] ++ List.replicate m 0)).size : Int) := by omega
      have s0 : (0 : Int) ≤ (s.size : Int) := by omega
      clear hlt hm hme he hsz
      generalize hB : str (s.data.toList ++ [128] ++ List.replicate m 0) = B at *
      have HB := Lib.hid hB
      clear hB
      have hn1 : s.size ≤ 10000 := HS.out
      have e0 := beAt_val (8 * s.size) 4 0
      have e1 := beAt_val (8 * s.size) 4 1
      have e2 := beAt_val (8 * s.size) 4 2
      have e3 := beAt_val (8 * s.size) 4 3
      have hce : #[Value.int .u8 (8 * (s.size : Int) / 16777216), .int .u8 (8 * (s.size : Int) / 65536), .int .u8 (8 * (s.size : Int) / 256 % 256), .int .u8 (8 * (s.size : Int) % 256)] = (cellsOf (beL (8 * s.size) 4)).toArray := by
        have hb : beL (8 * s.size) 4 = [beAt (8 * s.size) 4 0, beAt (8 * s.size) 4 1, beAt (8 * s.size) 4 2, beAt (8 * s.size) 4 3] := rfl
        rw [hb]
        simp only [cellsOf, List.map_cons, List.map_nil, e0, e1, e2, e3]
        congr 1
        simp
        omega
      have hown : (wr.alloc (.cells #[Value.int .u8 (8 * (s.size : Int) / 16777216), .int .u8 (8 * (s.size : Int) / 65536), .int .u8 (8 * (s.size : Int) / 256 % 256), .int .u8 (8 * (s.size : Int) % 256)] 5)).ownsRow wr.heap.size 5 1 (.slice (some ⟨wr.heap.size, 0, none⟩) 4 4) 4 (cellsOf (beL (8 * s.size) 4)) := by
        rw [hce]
        exact World.ownsRow_lit wr (cellsOf (beL (8 * s.size) 4)).toArray 4 (Nat.le_refl _) (by unfold maxLen; omega) rfl
      have hcv := run_convert_own (P := Tryd.prog) _ 25 9 5 _ _ _ _ Tryd.underlying25 Tryd.underlying5 Tryd.underlying9 hown
      have HF : Hid (B ++ (⟨#[0, 0, 0, 0]⟩ : ByteArray) ++ str (beL (8 * s.size) 4) = str (padT s.data.toList)) := by
        show B ++ (⟨#[0, 0, 0, 0]⟩ : ByteArray) ++ str (beL (8 * s.size) 4) = str (padT s.data.toList)
        rw [← HB.out, show (⟨#[0, 0, 0, 0]⟩ : ByteArray) = str [0, 0, 0, 0] from rfl, str_app, str_app, HME.out]
        unfold padT
        rw [len_data]
      have hl4 : (str (beL (8 * s.size) 4)).size = 4 := by rw [str_size]; exact beT_len _ _ _
      have hcat2 : ¬ 9223372036854775807 < (B ++ (⟨#[0, 0, 0, 0]⟩ : ByteArray)).size + (str (beL (8 * s.size) 4)).size := by
        rw [hl4, ByteArray.size_append, HSZ.out]
        have := HP.out; have := HME.out
        show ¬ 9223372036854775807 < s.size + 1 + m + 4 + 4
        omega
      have hcat3 : ¬ 9223372036854775807 < B.size + 4 + (str (beL (8 * s.size) 4)).size := by
        rw [hl4, HSZ.out]
        have := HP.out; have := HME.out
        omega
      clear e0 e1 e2 e3 hce hown hn1 hl4
      generalize str (beL (8 * s.size) 4) = C at *
      go_wp2
      go_ret
      exact ⟨by rw [← HF.out]; rfl, (Below.refl _ _).alloc (Nat.le_refl _) _⟩

end Go.Proofs.YtgjnoleejbkddaaDoor

/- Words out of bytes: the program's, filled byte by byte, and the specification's, laid together, are one. -/
namespace Go.Proofs.YtgjnoleejbkddaaDoor
open Go.RowKit Go.My Go.Lib
set_option linter.unusedVariables false

theorem or_u32 (k x y : Nat) (hx : x % 2 ^ k = 0) (hy : y < 2 ^ k) (h : x + y < 4294967296) : bits .or .u32 (x : Int) (y : Int) = ((x + y : Nat) : Int) := by
  have o : ∀ a : Nat, a < 4294967296 → (BitVec.ofInt 32 (a : Int)).toNat = a := fun a ha => by rw [BitVec.ofInt_natCast, BitVec.toNat_ofNat]; exact Nat.mod_eq_of_lt (by omega)
  show IntKind.u32.wrap ((BitVec.ofInt 32 (x : Int) ||| BitVec.ofInt 32 (y : Int)).toNat : Int) = _
  rw [BitVec.toNat_or, o x (by omega), o y (by omega), nat_join k x y hx hy, IntKind.wrap_u32]
  omega

/-- Four bytes as a number. -/
def num4 (a b c d : Nat) : Nat := a * 16777216 + b * 65536 + c * 256 + d
theorem or4_num (a b c d : Nat) (ha : a < 256) (hb : b < 256) (hc : c < 256) (hd : d < 256) :
    bits .or .u32 (bits .or .u32 (bits .or .u32 (IntKind.u32.wrap (IntKind.u32.wrap (a : Int) * 16777216)) (IntKind.u32.wrap (IntKind.u32.wrap (b : Int) * 65536))) (IntKind.u32.wrap (IntKind.u32.wrap (c : Int) * 256))) (IntKind.u32.wrap (d : Int)) = (num4 a b c d : Int) := by
  have wr : ∀ x : Int, IntKind.u32.wrap x = x % 4294967296 := fun x => IntKind.wrap_u32 x
  simp only [wr]
  rw [show (a : Int) % 4294967296 * 16777216 % 4294967296 = ((a * 16777216 : Nat) : Int) by omega, show (b : Int) % 4294967296 * 65536 % 4294967296 = ((b * 65536 : Nat) : Int) by omega, show (c : Int) % 4294967296 * 256 % 4294967296 = ((c * 256 : Nat) : Int) by omega, show (d : Int) % 4294967296 = (d : Int) by omega]
  rw [or_u32 24 _ _ (by omega) (by omega) (by omega), or_u32 16 _ _ (by omega) (by omega) (by omega), or_u32 8 _ _ (by omega) (by omega) (by omega)]
  rfl
theorem fillW_num (bk : Nat → Int) (q : Nat) (a b c d : Nat) (h0 : bk (4 * q) = a) (h1 : bk (4 * q + 1) = b) (h2 : bk (4 * q + 2) = c) (h3 : bk (4 * q + 3) = d) (ha : a < 256) (hb : b < 256) (hc : c < 256) (hd : d < 256) : fillW bk q 4 = (num4 a b c d : Int) := by
  have f1 : fillW bk q 1 = ((0 + a : Nat) : Int) := by
    show bits .or .u32 (0 * 256 % 4294967296) (bk (4 * q + 0)) = _
    rw [Nat.add_zero, h0]; exact or_u32 8 0 a rfl (by omega) (by omega)
  have f2 : fillW bk q 2 = ((a * 256 + b : Nat) : Int) := by
    show bits .or .u32 (fillW bk q 1 * 256 % 4294967296) (bk (4 * q + 1)) = _
    rw [f1, h1, show ((0 + a : Nat) : Int) * 256 % 4294967296 = ((a * 256 : Nat) : Int) by omega]; exact or_u32 8 _ _ (by omega) (by omega) (by omega)
  have f3 : fillW bk q 3 = (((a * 256 + b) * 256 + c : Nat) : Int) := by
    show bits .or .u32 (fillW bk q 2 * 256 % 4294967296) (bk (4 * q + 2)) = _
    rw [f2, h2, show ((a * 256 + b : Nat) : Int) * 256 % 4294967296 = (((a * 256 + b) * 256 : Nat) : Int) by omega]; exact or_u32 8 _ _ (by omega) (by omega) (by omega)
  show bits .or .u32 (fillW bk q 3 * 256 % 4294967296) (bk (4 * q + 3)) = _
  rw [f3, h3, show (((a * 256 + b) * 256 + c : Nat) : Int) * 256 % 4294967296 = ((((a * 256 + b) * 256 + c) * 256 : Nat) : Int) by omega, or_u32 8 _ _ (by omega) (by omega) (by omega)]
  unfold num4
  omega

theorem schW_congr (m m' : Nat → Int) (h : ∀ q, q < 16 → m q = m' q) (i : Nat) : schW m i = schW m' i := by
  induction i using Nat.strongRecOn with
  | ind i ih =>
    by_cases hi : i < 16
    · rw [schW_lo _ _ hi, schW_lo _ _ hi, h i hi]
    · rw [schW_hi m i (by omega), schW_hi m' i (by omega), ih (i - 16) (by omega), ih (i - 15) (by omega), ih (i - 7) (by omega), ih (i - 2) (by omega)]

/-- A block's bytes, as the digest holds them. -/
def blkF (l : List UInt8) : Nat → Int := fun j => ((l.getD j 0).toNat : Int)

/-- A block of 64 bytes goes into a digest whose block is empty. -/
theorem dputs_part (S : DS) (hu : S.u = 0) (l : List UInt8) (n : Nat) (hn : n ≤ l.length) (h64 : n < 64) : (dputs S (l.take n)).st = S.st ∧ (dputs S (l.take n)).u = n ∧ ∀ j, j < n → (dputs S (l.take n)).bk j = blkF l j := by
  induction n with
  | zero => exact ⟨rfl, hu, fun j hj => absurd hj (Nat.not_lt_zero j)⟩
  | succ n ih =>
    obtain ⟨h1, h2, h3⟩ := ih (by omega) (by omega)
    have hb : n < l.length := by omega
    rw [List.take_succ_eq_append_getElem hb, dputs_snoc, dstep_put _ _ (by rw [h2]; omega)]
    refine ⟨h1, by show (dputs S (l.take n)).u + 1 = n + 1; rw [h2], ?_⟩
    intro j hj
    show bput (dputs S (l.take n)).bk (dputs S (l.take n)).u (l[n].toNat : Int) j = _
    unfold bput
    rw [h2]
    by_cases e : j = n
    · rw [if_pos e, e]; unfold blkF; rw [List.getD_eq_getElem?_getD, List.getElem?_eq_getElem hb]; rfl
    · rw [if_neg e, h3 j (by omega)]
theorem dputs_block (S : DS) (hu : S.u = 0) (l : List UInt8) (hl : l.length = 64) : (dputs S l).u = 0 ∧ (dputs S l).st = compF S.st (schW (prtW (blkF l) 64)) := by
  obtain ⟨h1, h2, h3⟩ := dputs_part S hu l 63 (by omega) (by omega)
  have hb : 63 < l.length := by omega
  have e : dputs S l = dstep (dputs S (l.take 63)) l[63] := by
    rw [← dputs_snoc, ← List.take_succ_eq_append_getElem hb, List.take_of_length_le (by omega)]
  rw [e, dstep_mix _ _ (by rw [h2])]
  refine ⟨rfl, ?_⟩
  show compF (dputs S (l.take 63)).st _ = _
  rw [h1]
  congr 1
  funext i
  apply schW_congr
  intro q hq
  unfold prtW
  rw [show min 4 (64 - 4 * q) = 4 by omega]
  have hk : ∀ j, j < 64 → bput (dputs S (l.take 63)).bk (dputs S (l.take 63)).u (l[63].toNat : Int) j = blkF l j := by
    intro j hj
    unfold bput
    rw [h2]
    by_cases e : j = 63
    · rw [if_pos e, e]; unfold blkF; rw [List.getD_eq_getElem?_getD, List.getElem?_eq_getElem hb]; rfl
    · rw [if_neg e, h3 j (by omega)]
  simp only [fillW, Nat.add_zero]
  rw [hk (4 * q) (by omega), hk (4 * q + 1) (by omega), hk (4 * q + 2) (by omega), hk (4 * q + 3) (by omega)]

end Go.Proofs.YtgjnoleejbkddaaDoor

/- The contracts of the big-endian encodings: bigEndian of the program, l1Be of the specification. -/
namespace Go.Proofs.YtgjnoleejbkddaaDoor
open Go.RowKit Go.My
set_option linter.unusedVariables false
set_option maxRecDepth 100000

theorem info_u8b : (Tryd.prog.info? 5).map (fun i => (i.zero, i.size, i.bytes)) = some (some (.int .u8 0), 1, 1) := by kernel_rfl

set_option maxHeartbeats 400000 in
theorem be_impl (n : Nat) (k : Nat) (w : World) (hn : n < U64) (hk : k ≤ 8) :
    Calls Tryd.prog 43 #[.int .u64 n, .int .i64 k] w fun e w' => e = .returned (.string (str (beL n k))) ∧ Below w.heap.size w w' := by
  obtain ⟨i0, hi, hz0, hz1, hz2⟩ := info_parts info_u8b
  have hk8 : (k : Int) ≤ 8 := by omega
  have hk0 : (0 : Int) ≤ (k : Int) := by omega
  have hn0 : (0 : Int) ≤ (n : Int) := by omega
  go_enter Tryd.func43, Tryd.ntmps43
  go_wp2_with (at_make; refine wpList_make_full _ rfl _ _ 25 rfl w.heap.size 5 i0 (.int .u8 0) 1 Tryd.underlying25 hi hz0 hz1 .i64 .i64 _ _ k rfl rfl rfl rfl ?c2 ?c3 ?c4 ?_)
  case c2 => rw [hz2]; omega
  case c3 => unfold maxLen; omega
  case c4 => exact Nat.le_refl _
  intro w1 hown hgrow
  have hb1 : Below w.heap.size w w1 := (Below.refl _ _).grown hgrow (Nat.le_refl _) (by simp)
  have hg1 : w.heap.size ≤ w.heap.size := Nat.le_refl _
  clear hgrow
  have ho : w1.ownsRow w.heap.size 5 1 (.slice (some ⟨w.heap.size, 0, none⟩) k k) k (cellsOf (beT n k 0 ++ List.replicate (k - (beT n k 0).length) 0)) := by
    have e : (madeCells #[Value.int .u8 0] k).toList = cellsOf (List.replicate k 0) := by rw [← fill_start]; exact toList_madeCells_one _ _
    rw [e] at hown
    exact hown
  clear hown
  go_wp2
  go_loopw [6, 11] (fun _ i wr => ∃ j : Nat, j ≤ k ∧ i = .int .i64 j ∧ wr.ownsRow w.heap.size 5 1 (.slice (some ⟨w.heap.size, 0, none⟩) k k) k (cellsOf (beT n k j ++ List.replicate (k - (beT n k j).length) 0)) ∧ Below w.heap.size w wr)
    (fun _ i _ => k - (intOf i).toNat)
  case atStart => exact ⟨0, Nat.zero_le _, rfl, ho, hb1⟩
  case round =>
    obtain ⟨j, hj, rfl, hown, hb⟩ := hrel
    by_cases hlt : j < k
    · have hj0 : (0 : Int) ≤ (j : Int) := Int.natCast_nonneg _
      have hj1 : (j : Int) < (k : Int) := by omega
      obtain ⟨hcell, hfz⟩ := store_cell (beT_len n k j) hlt hown
      have R := store_step (b := beAt n k j) (beT_len n k j) hlt hg1 hown hb
      rw [← beT_snoc, beAt_val] at R
      clear hown
      go_wp2
      go_roundw
      case rel => exact ⟨j + 1, by omega, by go_num, R.1, R.2⟩
      case measure => simp [intOf]; omega
    · obtain rfl : j = k := by omega
      rw [beT_len, Nat.sub_self, List.replicate_zero, List.append_nil] at hown
      have hcv := run_convert_own (P := Tryd.prog) wr 25 9 5 _ _ _ _ Tryd.underlying25 Tryd.underlying5 Tryd.underlying9 hown
      clear hown
      go_wp2
      go_ret
      exact ⟨rfl, hb⟩

set_option maxHeartbeats 400000 in
theorem be_spec (n : Int) (k : Nat) (w : World) (hn : (Lit.int .i64 n).wf = true) (hk : k ≤ 8) :
    Calls Tryd.prog 15 #[.int .i64 n, .int .i64 k] w fun e w' => e = .returned (.string (str (beL (IntKind.u64.wrap n).toNat k))) ∧ Below w.heap.size w w' := by
  obtain ⟨i0, hi, hz0, hz1, hz2⟩ := info_parts info_u8b
  obtain ⟨m, hm⟩ : ∃ m : Nat, IntKind.u64.wrap n = (m : Int) := ⟨(IntKind.u64.wrap n).toNat, by rw [IntKind.wrap_u64]; omega⟩
  have hk8 : (k : Int) ≤ 8 := by omega
  have hk0 : (0 : Int) ≤ (k : Int) := by omega
  rw [hm]
  go_enter Tryd.func15, Tryd.ntmps15
  go_wp2
  have hown : (w.alloc (.cells #[] 5)).ownsRow w.heap.size 5 1 (.slice (some ⟨w.heap.size, 0, none⟩) 0 0) 0 [] := World.ownsRow_lit w #[] 0 (Nat.le_refl _) (by unfold maxLen; omega) rfl
  have hb1 : Below w.heap.size w (w.alloc (.cells #[] 5)) := (Below.refl _ _).alloc (Nat.le_refl _) _
  go_loopw [5, 6] (fun v i wr => ∃ j : Nat, j ≤ k ∧ i = .int .i64 ((k : Int) - 1 - j) ∧ wr.ownsRow w.heap.size 5 1 v j (cellsOf (beT m k j)) ∧ Below w.heap.size w wr)
    (fun _ i _ => (intOf i + 1).toNat)
  case atStart => exact ⟨0, Nat.zero_le _, by go_num, hown, hb1⟩
  case round =>
    obtain ⟨j, hj, rfl, hown, hb⟩ := hrel
    by_cases hlt : j < k
    · have hj0 : (0 : Int) ≤ (j : Int) := Int.natCast_nonneg _
      have hj1 : (j : Int) < (k : Int) := by omega
      go_wp2_with (at_builtin; refine wpList_append_lies _ rfl _ _ 25 rfl w.heap.size 5 i0 (.int .u8 0) 1 1 Tryd.underlying25 hi hz0 hz1 hz2 rfl (by decide) u5 j _ rfl (hown.alloc _) ⟨wr.heap.size, 0, none⟩ 1 1 [_] rfl rfl (World.news_of_block (cs := #[_]) (t := 5) (fr := (0, 0)) (heap_alloc_new wr _)) (by simp [Value.oneCell']) (by omega) (by unfold maxLen; omega) (by omega) (by have := hb.size; simp; omega) (wr.heap.size + 1) (by simp) ?_; intro g cap w2 hown2 hgrow2 hat hlt2)
      rw [← beAt_val] at hown2
      have R := append_step (news := [beAt m k j]) hown (hb.alloc hb.size _) hown2 hgrow2
      rw [← beT_snoc] at R
      clear hown hown2 hgrow2
      go_roundw
      case rel => exact ⟨j + 1, by omega, by go_num, R.1, R.2⟩
      case measure => simp [intOf]; omega
    · obtain rfl : j = k := by omega
      have hcv := run_convert_own (P := Tryd.prog) wr 25 9 5 _ _ _ _ Tryd.underlying25 Tryd.underlying5 Tryd.underlying9 hown
      clear hown
      go_wp2
      go_ret
      exact ⟨rfl, hb⟩

end Go.Proofs.YtgjnoleejbkddaaDoor

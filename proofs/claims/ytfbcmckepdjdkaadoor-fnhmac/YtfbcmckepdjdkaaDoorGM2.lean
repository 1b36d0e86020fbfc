import Derived.Test.YtfbcmckepdjdkaaDoorGM0
import Derived.Test.YtfbcmckepdjdkaaDoorRows
import Derived.WalkKit
import Derived.ProofKit
import Derived.Lib.Hide
import Derived.Deep.QuietTactic
import Derived.BigQuiet
import Derived.Deep.RegionHeld3
import Derived.Deep.AppendLies
import Derived.StillTailTactics
import Derived.WalkSpells
import Derived.WalkLawsBesides
import Derived.Test.YtfbcmckepdjdkaaDoorCards
import Derived.Test.YtfbcmckepdjdkaaDoorTie
import Derived.OpenShut
import Derived.ShutString
import Derived.ChangeOld
import Derived.ChangeVars
import Derived.OpenVars
import Derived.Below
import Derived.Deep.DeepHandedRow
import Derived.Lib.LaidTab
import Derived.Test.YtfbcmckepdjdkaaDoorGM1
import Derived.Deep.OwnRows
import Derived.Lib.ConvBytes
/- A digest as a value: what is written to it byte by byte. -/
namespace Go.Proofs.YtfbcmckepdjdkaaDoor
open Go.RowKit Go.My Go.Lib
set_option linter.unusedVariables false

/-- The state's words, the block's bytes, how many of them are filled. -/
structure DS where
  st : Nat → Int
  bk : Nat → Int
  u : Nat
def bput (bk : Nat → Int) (u : Nat) (b : Int) : Nat → Int := fun j => if j = u then b else bk j
def dstep (S : DS) (b : UInt8) : DS :=
  if S.u + 1 = 64 then ⟨compF S.st (schW (prtW (bput S.bk S.u b.toNat) 64)), bput S.bk S.u b.toNat, 0⟩ else ⟨S.st, bput S.bk S.u b.toNat, S.u + 1⟩
def dputs (S : DS) (l : List UInt8) : DS := l.foldl dstep S
theorem dputs_nil (S : DS) : dputs S [] = S := rfl
theorem dputs_snoc (S : DS) (l : List UInt8) (b : UInt8) : dputs S (l ++ [b]) = dstep (dputs S l) b := by simp [dputs]
theorem dputs_append (S : DS) (a b : List UInt8) : dputs S (a ++ b) = dputs (dputs S a) b := by simp [dputs]
theorem dstep_lt (S : DS) (b : UInt8) (h : S.u < 64) : (dstep S b).u < 64 := by
  unfold dstep
  by_cases h2 : S.u + 1 = 64
  · rw [if_pos h2]; exact (by decide : 0 < 64)
  · rw [if_neg h2]; show S.u + 1 < 64; omega
theorem dputs_lt (S : DS) (l : List UInt8) (h : S.u < 64) : (dputs S l).u < 64 := by
  unfold dputs
  induction l generalizing S with
  | nil => exact h
  | cons b l ih => exact ih (dstep S b) (dstep_lt S b h)
theorem dstep_mix (S : DS) (b : UInt8) (h : S.u + 1 = 64) : dstep S b = ⟨compF S.st (schW (prtW (bput S.bk S.u b.toNat) 64)), bput S.bk S.u b.toNat, 0⟩ := if_pos h
theorem dstep_put (S : DS) (b : UInt8) (h : ¬ S.u + 1 = 64) : dstep S b = ⟨S.st, bput S.bk S.u b.toNat, S.u + 1⟩ := if_neg h
theorem bput_bd (bk : Nat → Int) (u : Nat) (b : UInt8) (h : ∀ q, 0 ≤ bk q ∧ bk q ≤ 255) (q : Nat) : 0 ≤ bput bk u (b.toNat : Int) q ∧ bput bk u (b.toNat : Int) q ≤ 255 := by
  unfold bput
  by_cases e : q = u
  · rw [if_pos e]; have := b.toNat_lt; omega
  · rw [if_neg e]; exact h q

theorem dstep_u (S : DS) (b : UInt8) (h : S.u < 64) : (dstep S b).u = (S.u + 1) % 64 := by
  unfold dstep
  by_cases h2 : S.u + 1 = 64
  · rw [if_pos h2]; show 0 = _; omega
  · rw [if_neg h2]; show S.u + 1 = _; omega
theorem dputs_u (S : DS) (l : List UInt8) (h : S.u < 64) : (dputs S l).u = (S.u + l.length) % 64 := by
  unfold dputs
  induction l generalizing S with
  | nil => simp; omega
  | cons b l ih =>
    rw [List.foldl_cons, ih (dstep S b) (dstep_lt S b h), dstep_u S b h, List.length_cons]
    omega
/-- How many zeros the padding holds, when u bytes of the block are filled. -/
def padN (u : Nat) : Nat := (119 - u) % 64
/-- The padding of a text of z bytes, of which u lie in the last block. -/
def padL (u z : Nat) : List UInt8 := 128 :: List.replicate (padN u) 0 ++ beL (8 * z) 8
def outL (st : Nat → Int) : Nat → List UInt8
  | 0 => []
  | n + 1 => outL st n ++ beL (st n).toNat 4
theorem outL_len (st : Nat → Int) (n : Nat) : (outL st n).length = 4 * n := by
  induction n with
  | zero => rfl
  | succ n ih => rw [outL, List.length_append, ih, show (beL (st n).toNat 4).length = 4 from beT_len _ _ _]; omega
/-- What sum gives. -/
def sumL (S : DS) (z : Nat) : List UInt8 := outL (dputs S (padL S.u z)).st 8
theorem padN_lt (u : Nat) : padN u < 64 := by unfold padN; omega
theorem pad_u (u m : Nat) (hu : u < 64) (hm : m < padN u) : ((u + 1) % 64 + m) % 64 ≠ 56 := by unfold padN at hm; omega
theorem pad_end (u : Nat) (hu : u < 64) : ((u + 1) % 64 + padN u) % 64 = 56 := by unfold padN; omega

def iv : List Int := [1779033703, 3144134277, 1013904242, 2773480762, 1359893119, 2600822924, 528734635, 1541459225]
/-- A new digest. -/
def S0 : DS := ⟨fun q => iv.getD q 0, fun _ => 0, 0⟩
/-- A key laid out to a block, each byte under the mask. -/
def maskL (l : List UInt8) (m : UInt8) : List UInt8 := (l ++ List.replicate (64 - l.length) 0).map (· ^^^ m)

def mixL (K : List UInt8) (m : UInt8) (j : Nat) : List UInt8 := (K.take j).map (· ^^^ m) ++ K.drop j
theorem mixL_len (K : List UInt8) (m : UInt8) (j : Nat) : (mixL K m j).length = K.length := by simp [mixL]; omega
theorem mixL_get (K : List UInt8) (m : UInt8) (j : Nat) (h : j < K.length) : (cellsOf (mixL K m j)).toArray[j]? = some (.int .u8 ((K[j]).toNat : Int)) := by
  have hl : ((K.take j).map (· ^^^ m)).length = j := by simp; omega
  rw [List.getElem?_toArray, cellsOf, List.getElem?_map, mixL, List.getElem?_append_right (by omega), hl, Nat.sub_self, List.getElem?_drop, Nat.add_zero, List.getElem?_eq_getElem h]
  rfl
theorem mixL_set (K : List UInt8) (m : UInt8) (j : Nat) (h : j < K.length) : (cellsOf (mixL K m j)).toArray.setIfInBounds j (.int .u8 ((K[j] ^^^ m).toNat : Int)) = (cellsOf (mixL K m (j + 1))).toArray := by
  rw [List.setIfInBounds_toArray]
  congr 1
  have hl : ((K.take j).map (· ^^^ m)).length = j := by simp; omega
  have e : K.drop j = K[j] :: K.drop (j + 1) := List.drop_eq_getElem_cons h
  rw [cellsOf, cellsOf, mixL, mixL, e, List.map_append, List.map_append, List.set_append_right _ _ (by rw [List.length_map, hl]; exact Nat.le_refl _), List.length_map, hl, Nat.sub_self, List.map_cons, List.set_cons_zero, List.take_succ_eq_append_getElem h, List.map_append, List.map_append]
  simp
theorem mixL_all (K : List UInt8) (m : UInt8) : mixL K m K.length = K.map (· ^^^ m) := by simp [mixL]

def catL (ps : List ByteArray) : List UInt8 := ps.flatMap (·.data.toList)
theorem catL_snoc (ps : List ByteArray) (n : Nat) (h : n < ps.length) : catL (ps.take (n + 1)) = catL (ps.take n) ++ ps[n].data.toList := by
  rw [List.take_succ_eq_append_getElem h]
  unfold catL
  rw [List.flatMap_append, List.flatMap_singleton]
theorem catL_len (ps : List ByteArray) (B : Nat) (h : ∀ q ∈ ps, q.size ≤ B) : (catL ps).length ≤ ps.length * B := by
  induction ps with
  | nil => simp [catL]
  | cons a l ih =>
    have h1 := ih (fun q hq => h q (List.mem_cons_of_mem _ hq))
    have h2 := h a List.mem_cons_self
    have e : catL (a :: l) = a.data.toList ++ catL l := by simp [catL]
    rw [e, List.length_append, List.length_cons, Nat.add_mul, Nat.one_mul, len_data]
    omega

theorem maskL_len (l : List UInt8) (m : UInt8) (h : l.length ≤ 64) : (maskL l m).length = 64 := by
  unfold maskL
  rw [List.length_map, List.length_append, List.length_replicate]
  omega
def keyL (k : List UInt8) : List UInt8 := if k.length ≤ 64 then k else sumL (dputs S0 k) k.length
theorem sumL_len (S : DS) (z : Nat) : (sumL S z).length = 32 := outL_len _ 8
theorem keyL_len (k : List UInt8) : (keyL k).length ≤ 64 := by
  unfold keyL
  by_cases h : k.length ≤ 64
  · rw [if_pos h]; exact h
  · rw [if_neg h, sumL_len]; omega
theorem catL_one (s : ByteArray) : catL [s] = s.data.toList := by simp [catL]

end Go.Proofs.YtfbcmckepdjdkaaDoor

/- The contracts of the specification's l2With and l2K. -/
namespace Go.Proofs.YtfbcmckepdjdkaaDoor
open Go.RowKit Go.My Go.Lib
set_option linter.unusedVariables false

theorem info_u8w : (Tryd.prog.info? 5).map (fun i => (i.zero, i.size, i.bytes)) = some (some (.int .u8 0), 1, 1) := by kernel_rfl

set_option maxHeartbeats 2000000 in
theorem l2With_spec (s : ByteArray) (m : UInt8) (w : World) (hs : s.size ≤ 64) :
    Calls Tryd.prog 145 #[.string s, .int .u8 m.toNat] w fun e w' => e = .returned (.string (str (s.data.toList.map (· ^^^ m)))) ∧ Below w.heap.size w w' := by
  obtain ⟨i0, hi, hz0, hz1, hz2⟩ := info_parts info_u8w
  have hs1 : (s.size : Int) ≤ 64 := by omega
  go_enter Tryd.func145, Tryd.ntmps145
  go_wp2
  have hown : (w.alloc (.cells #[] 5)).ownsRow w.heap.size 5 1 (.slice (some ⟨w.heap.size, 0, none⟩) 0 0) 0 [] := World.ownsRow_lit w #[] 0 (Nat.le_refl _) (by unfold maxLen; omega) rfl
  have hb1 : Below w.heap.size w (w.alloc (.cells #[] 5)) := (Below.refl _ _).alloc (Nat.le_refl _) _
  go_loopw [5, 6] (fun v i wr => ∃ k : Nat, k ≤ s.size ∧ i = .int .i64 k ∧ wr.ownsRow w.heap.size 5 1 v k (cellsOf ((s.data.toList.take k).map (· ^^^ m))) ∧ Below w.heap.size w wr)
    (fun _ i _ => s.size - (intOf i).toNat)
  case atStart => exact ⟨0, Nat.zero_le _, rfl, hown, hb1⟩
  case round =>
    clear hown hb1
    obtain ⟨k, hk, rfl, hown, hb⟩ := hrel
    by_cases hlt : k < s.size
    · have k0 : (0 : Int) ≤ (k : Int) := by omega
      have k1 : (k : Int) < (s.size : Int) := by omega
      have hx := xor_u8 (s[k]) m
      go_wp2_with (at_builtin; refine wpList_append_lies _ rfl _ _ 39 rfl w.heap.size 5 i0 (.int .u8 0) 1 1 Tryd.underlying39 hi hz0 hz1 hz2 rfl (by decide) u5 k _ rfl (hown.alloc _) ⟨wr.heap.size, 0, none⟩ 1 1 [_] rfl rfl (World.news_of_block (cs := #[_]) (t := 5) (fr := (0, 0)) (heap_alloc_new wr _)) (by simp [Value.oneCell']) (by omega) (by unfold maxLen; omega) (by omega) (by have := hb.size; simp; omega) (wr.heap.size + 1) (by simp) ?_; intro g cap w2 hown2 hgrow2 hat hlt2)
      have R := append_step (news := [s[k] ^^^ m]) hown (hb.alloc hb.size _) hown2 hgrow2
      rw [show List.map (· ^^^ m) (s.data.toList.take k) ++ [s[k] ^^^ m] = (s.data.toList.take (k + 1)).map (· ^^^ m) by rw [take_snoc s k hlt, List.map_append]; rfl] at R
      clear hown hown2 hgrow2
      go_roundw
      case rel => exact ⟨k + 1, by omega, by go_num, R.1, R.2⟩
      case measure => simp [intOf]; omega
    · obtain rfl : k = s.size := by omega
      rw [take_all] at hown
      have hcv := run_convert_own (P := Tryd.prog) wr 39 9 5 _ _ _ _ Tryd.underlying39 Tryd.underlying5 Tryd.underlying9 hown
      clear hown
      go_wp2
      go_ret
      exact ⟨rfl, hb⟩

end Go.Proofs.YtfbcmckepdjdkaaDoor

/- The contract of the specification's l2Pad. -/
namespace Go.Proofs.YtfbcmckepdjdkaaDoor
open Go.RowKit Go.My Go.Lib
set_option linter.unusedVariables false

/-- The text with its padding, as the specification lays it. -/
def padT (l : List UInt8) : List UInt8 := l ++ [128] ++ List.replicate (padN (l.length % 64)) 0 ++ [0, 0, 0, 0] ++ beL (8 * l.length) 4

set_option maxHeartbeats 2000000 in
theorem l2Pad_spec (s : ByteArray) (w : World) (hs : s.size ≤ 10000) :
    Calls Tryd.prog 185 #[.string s] w fun e w' => e = .returned (.string (str (padT s.data.toList))) ∧ Below w.heap.size w w' := by
  have hs1 : (s.size : Int) ≤ 10000 := by omega
  have HS := Lib.hid hs
  have hc1 : ¬ 9223372036854775807 < s.size + 1 := by omega
  clear hs
  go_enter Tryd.func185, Tryd.ntmps185
  go_wp2_with fail
  have h128 : s ++ (⟨#[128]⟩ : ByteArray) = str (s.data.toList ++ [128] ++ List.replicate 0 0) := by
    have : s = str s.data.toList := (str_of s).symm
    conv => lhs; rw [this]
    rw [show (⟨#[128]⟩ : ByteArray) = str [128] from rfl, str_app]
    simp
  rw [h128]
  clear h128 hc1
  have HP := Lib.hid (padN_lt (s.size % 64))
  go_loopw [3] (fun o wr => ∃ m : Nat, m ≤ padN (s.size % 64) ∧ o = .string (str (s.data.toList ++ [128] ++ List.replicate m 0)) ∧ wr = w)
    (fun o _ => match o with | .string t => s.size + 65 - t.size | _ => 0)
  case atStart => exact ⟨0, Nat.zero_le _, rfl, rfl⟩
  case round =>
    obtain ⟨m, hm, rfl, rfl⟩ := hrel
    have hsz : (str (s.data.toList ++ [128] ++ List.replicate m 0)).size = s.size + 1 + m := by
      rw [str_size]; simp only [List.length_append, List.length_replicate, List.length_singleton]; rw [len_data]
    by_cases hlt : m < padN (s.size % 64)
    · have hne := pad_u (s.size % 64) m (Nat.mod_lt _ (by decide)) hlt
      have hn2 : (((str (s.data.toList ++ [128] ++ List.replicate m 0)).size : Int) % 64 != 56) = true := by
        rw [hsz]; simp; omega
      have hsn : str (s.data.toList ++ [128] ++ List.replicate m 0) ++ (⟨#[0]⟩ : ByteArray) = str (s.data.toList ++ [128] ++ List.replicate (m + 1) 0) := by
        rw [show (⟨#[0]⟩ : ByteArray) = str [0] from rfl, str_app, List.replicate_succ', List.append_assoc]
      have HSN := Lib.hid hsn
      have HSZ := Lib.hid hsz
      have HM := Lib.hid (And.intro hm hlt)
      have hcat : ¬ 9223372036854775807 < (str (s.data.toList ++ [128] ++ List.replicate m 0)).size + 1 := by rw [hsz]; have := HS.out; have := HP.out; omega
      have b0 : (0 : Int) ≤ ((str (s.data.toList ++ [128] ++ List.replicate m 0)).size : Int) := by omega
      clear hne hsn hsz hm hlt
      generalize str (s.data.toList ++ [128] ++ List.replicate m 0) = B at *
      go_wp2
      go_roundw
      case rel => exact ⟨m + 1, by have := HM.out; omega, by rw [HSN.out], trivial⟩
      case measure =>
        rw [HSN.out]
        show s.size + 65 - (str (s.data.toList ++ [128] ++ List.replicate (m + 1) 0)).size < s.size + 65 - B.size
        rw [HSZ.out, str_size]
        simp only [List.length_append, List.length_replicate, List.length_singleton]
        rw [len_data]
        have := HP.out; have := HM.out
        omega
    · have hme : m = padN (s.size % 64) := by omega
      have he := pad_end (s.size % 64) (Nat.mod_lt _ (by decide))
      have hn2 : (((str (s.data.toList ++ [128] ++ List.replicate m 0)).size : Int) % 64 != 56) = false := by
        rw [hsz, hme]; simp; omega
      have hcat : ¬ 9223372036854775807 < (str (s.data.toList ++ [128] ++ List.replicate m 0)).size + 4 := by rw [hsz]; have := HS.out; have := HP.out; omega
      have HME := Lib.hid hme
      have HSZ := Lib.hid hsz
      have b0 : (0 : Int) ≤ ((str (s.data.toList ++ [128] ++ List.replicate m 0)).size : Int) := by omega
      have s0 : (0 : Int) ≤ (s.size : Int) := by omega
      clear hlt hm hme he hsz
      generalize hB : str (s.data.toList ++ [128] ++ List.replicate m 0) = B at *
      have HB := Lib.hid hB
      clear hB
      have hn1 : s.size ≤ 10000 := HS.out
      have e0 := beAt_val (8 * s.size) 4 0
      have e1 := beAt_val (8 * s.size) 4 1
      have e2 := beAt_val (8 * s.size) 4 2
      have e3 := beAt_val (8 * s.size) 4 3
      have hce : #[Value.int .u8 (8 * (s.size : Int) / 16777216), .int .u8 (8 * (s.size : Int) / 65536), .int .u8 (8 * (s.size : Int) / 256 % 256), .int .u8 (8 * (s.size : Int) % 256)] = (cellsOf (beL (8 * s.size) 4)).toArray := by
        have hb : beL (8 * s.size) 4 = [beAt (8 * s.size) 4 0, beAt (8 * s.size) 4 1, beAt (8 * s.size) 4 2, beAt (8 * s.size) 4 3] := rfl
        rw [hb]
        simp only [cellsOf, List.map_cons, List.map_nil, e0, e1, e2, e3]
        congr 1
        simp
        omega
      have hown : (wr.alloc (.cells #[Value.int .u8 (8 * (s.size : Int) / 16777216), .int .u8 (8 * (s.size : Int) / 65536), .int .u8 (8 * (s.size : Int) / 256 % 256), .int .u8 (8 * (s.size : Int) % 256)] 5)).ownsRow wr.heap.size 5 1 (.slice (some ⟨wr.heap.size, 0, none⟩) 4 4) 4 (cellsOf (beL (8 * s.size) 4)) := by
        rw [hce]
        exact World.ownsRow_lit wr (cellsOf (beL (8 * s.size) 4)).toArray 4 (Nat.le_refl _) (by unfold maxLen; omega) rfl
      have hcv := run_convert_own (P := Tryd.prog) _ 39 9 5 _ _ _ _ Tryd.underlying39 Tryd.underlying5 Tryd.underlying9 hown
      have HF : Hid (B ++ (⟨#[0, 0, 0, 0]⟩ : ByteArray) ++ str (beL (8 * s.size) 4) = str (padT s.data.toList)) := by
        show B ++ (⟨#[0, 0, 0, 0]⟩ : ByteArray) ++ str (beL (8 * s.size) 4) = str (padT s.data.toList)
        rw [← HB.out, show (⟨#[0, 0, 0, 0]⟩ : ByteArray) = str [0, 0, 0, 0] from rfl, str_app, str_app, HME.out]
        unfold padT
        rw [len_data]
      have hl4 : (str (beL (8 * s.size) 4)).size = 4 := by rw [str_size]; exact beT_len _ _ _
      have hcat2 : ¬ 9223372036854775807 < (B ++ (⟨#[0, 0, 0, 0]⟩ : ByteArray)).size + (str (beL (8 * s.size) 4)).size := by
        rw [hl4, ByteArray.size_append, HSZ.out]
        have := HP.out; have := HME.out
        show ¬ 9223372036854775807 < s.size + 1 + m + 4 + 4
        omega
      have hcat3 : ¬ 9223372036854775807 < B.size + 4 + (str (beL (8 * s.size) 4)).size := by
        rw [hl4, HSZ.out]
        have := HP.out; have := HME.out
        omega
      clear e0 e1 e2 e3 hce hown hn1 hl4
      generalize str (beL (8 * s.size) 4) = C at *
      go_wp2
      go_ret
      exact ⟨by rw [← HF.out]; rfl, (Below.refl _ _).alloc (Nat.le_refl _) _⟩

end Go.Proofs.YtfbcmckepdjdkaaDoor

/- Words out of bytes: the program's, filled byte by byte, and the specification's, laid together, are one. -/
namespace Go.Proofs.YtfbcmckepdjdkaaDoor
open Go.RowKit Go.My Go.Lib
set_option linter.unusedVariables false

theorem or_u32 (k x y : Nat) (hx : x % 2 ^ k = 0) (hy : y < 2 ^ k) (h : x + y < 4294967296) : bits .or .u32 (x : Int) (y : Int) = ((x + y : Nat) : Int) := by
  have o : ∀ a : Nat, a < 4294967296 → (BitVec.ofInt 32 (a : Int)).toNat = a := fun a ha => by rw [BitVec.ofInt_natCast, BitVec.toNat_ofNat]; exact Nat.mod_eq_of_lt (by omega)
  show IntKind.u32.wrap ((BitVec.ofInt 32 (x : Int) ||| BitVec.ofInt 32 (y : Int)).toNat : Int) = _
  rw [BitVec.toNat_or, o x (by omega), o y (by omega), nat_join k x y hx hy, IntKind.wrap_u32]
  omega

/-- Four bytes as a number. -/
def num4 (a b c d : Nat) : Nat := a * 16777216 + b * 65536 + c * 256 + d
theorem or4_num (a b c d : Nat) (ha : a < 256) (hb : b < 256) (hc : c < 256) (hd : d < 256) :
    bits .or .u32 (bits .or .u32 (bits .or .u32 (IntKind.u32.wrap (IntKind.u32.wrap (a : Int) * 16777216)) (IntKind.u32.wrap (IntKind.u32.wrap (b : Int) * 65536))) (IntKind.u32.wrap (IntKind.u32.wrap (c : Int) * 256))) (IntKind.u32.wrap (d : Int)) = (num4 a b c d : Int) := by
  have wr : ∀ x : Int, IntKind.u32.wrap x = x % 4294967296 := fun x => IntKind.wrap_u32 x
  simp only [wr]
  rw [show (a : Int) % 4294967296 * 16777216 % 4294967296 = ((a * 16777216 : Nat) : Int) by omega, show (b : Int) % 4294967296 * 65536 % 4294967296 = ((b * 65536 : Nat) : Int) by omega, show (c : Int) % 4294967296 * 256 % 4294967296 = ((c * 256 : Nat) : Int) by omega, show (d : Int) % 4294967296 = (d : Int) by omega]
  rw [or_u32 24 _ _ (by omega) (by omega) (by omega), or_u32 16 _ _ (by omega) (by omega) (by omega), or_u32 8 _ _ (by omega) (by omega) (by omega)]
  rfl
theorem fillW_num (bk : Nat → Int) (q : Nat) (a b c d : Nat) (h0 : bk (4 * q) = a) (h1 : bk (4 * q + 1) = b) (h2 : bk (4 * q + 2) = c) (h3 : bk (4 * q + 3) = d) (ha : a < 256) (hb : b < 256) (hc : c < 256) (hd : d < 256) : fillW bk q 4 = (num4 a b c d : Int) := by
  have f1 : fillW bk q 1 = ((0 + a : Nat) : Int) := by
    show bits .or .u32 (0 * 256 % 4294967296) (bk (4 * q + 0)) = _
    rw [Nat.add_zero, h0]; exact or_u32 8 0 a rfl (by omega) (by omega)
  have f2 : fillW bk q 2 = ((a * 256 + b : Nat) : Int) := by
    show bits .or .u32 (fillW bk q 1 * 256 % 4294967296) (bk (4 * q + 1)) = _
    rw [f1, h1, show ((0 + a : Nat) : Int) * 256 % 4294967296 = ((a * 256 : Nat) : Int) by omega]; exact or_u32 8 _ _ (by omega) (by omega) (by omega)
  have f3 : fillW bk q 3 = (((a * 256 + b) * 256 + c : Nat) : Int) := by
    show bits .or .u32 (fillW bk q 2 * 256 % 4294967296) (bk (4 * q + 2)) = _
    rw [f2, h2, show ((a * 256 + b : Nat) : Int) * 256 % 4294967296 = (((a * 256 + b) * 256 : Nat) : Int) by omega]; exact or_u32 8 _ _ (by omega) (by omega) (by omega)
  show bits .or .u32 (fillW bk q 3 * 256 % 4294967296) (bk (4 * q + 3)) = _
  rw [f3, h3, show (((a * 256 + b) * 256 + c : Nat) : Int) * 256 % 4294967296 = ((((a * 256 + b) * 256 + c) * 256 : Nat) : Int) by omega, or_u32 8 _ _ (by omega) (by omega) (by omega)]
  unfold num4
  omega

theorem schW_congr (m m' : Nat → Int) (h : ∀ q, q < 16 → m q = m' q) (i : Nat) : schW m i = schW m' i := by
  induction i using Nat.strongRecOn with
  | ind i ih =>
    by_cases hi : i < 16
    · rw [schW_lo _ _ hi, schW_lo _ _ hi, h i hi]
    · rw [schW_hi m i (by omega), schW_hi m' i (by omega), ih (i - 16) (by omega), ih (i - 15) (by omega), ih (i - 7) (by omega), ih (i - 2) (by omega)]

/-- A block's bytes, as the digest holds them. -/
def blkF (l : List UInt8) : Nat → Int := fun j => ((l.getD j 0).toNat : Int)

/-- A block of 64 bytes goes into a digest whose block is empty. -/
theorem dputs_part (S : DS) (hu : S.u = 0) (l : List UInt8) (n : Nat) (hn : n ≤ l.length) (h64 : n < 64) : (dputs S (l.take n)).st = S.st ∧ (dputs S (l.take n)).u = n ∧ ∀ j, j < n → (dputs S (l.take n)).bk j = blkF l j := by
  induction n with
  | zero => exact ⟨rfl, hu, fun j hj => absurd hj (Nat.not_lt_zero j)⟩
  | succ n ih =>
    obtain ⟨h1, h2, h3⟩ := ih (by omega) (by omega)
    have hb : n < l.length := by omega
    rw [List.take_succ_eq_append_getElem hb, dputs_snoc, dstep_put _ _ (by rw [h2]; omega)]
    refine ⟨h1, by show (dputs S (l.take n)).u + 1 = n + 1; rw [h2], ?_⟩
    intro j hj
    show bput (dputs S (l.take n)).bk (dputs S (l.take n)).u (l[n].toNat : Int) j = _
    unfold bput
    rw [h2]
    by_cases e : j = n
    · rw [if_pos e, e]; unfold blkF; rw [List.getD_eq_getElem?_getD, List.getElem?_eq_getElem hb]; rfl
    · rw [if_neg e, h3 j (by omega)]
theorem dputs_block (S : DS) (hu : S.u = 0) (l : List UInt8) (hl : l.length = 64) : (dputs S l).u = 0 ∧ (dputs S l).st = compF S.st (schW (prtW (blkF l) 64)) := by
  obtain ⟨h1, h2, h3⟩ := dputs_part S hu l 63 (by omega) (by omega)
  have hb : 63 < l.length := by omega
  have e : dputs S l = dstep (dputs S (l.take 63)) l[63] := by
    rw [← dputs_snoc, ← List.take_succ_eq_append_getElem hb, List.take_of_length_le (by omega)]
  rw [e, dstep_mix _ _ (by rw [h2])]
  refine ⟨rfl, ?_⟩
  show compF (dputs S (l.take 63)).st _ = _
  rw [h1]
  congr 1
  funext i
  apply schW_congr
  intro q hq
  unfold prtW
  rw [show min 4 (64 - 4 * q) = 4 by omega]
  have hk : ∀ j, j < 64 → bput (dputs S (l.take 63)).bk (dputs S (l.take 63)).u (l[63].toNat : Int) j = blkF l j := by
    intro j hj
    unfold bput
    rw [h2]
    by_cases e : j = 63
    · rw [if_pos e, e]; unfold blkF; rw [List.getD_eq_getElem?_getD, List.getElem?_eq_getElem hb]; rfl
    · rw [if_neg e, h3 j (by omega)]
  simp only [fillW, Nat.add_zero]
  rw [hk (4 * q) (by omega), hk (4 * q + 1) (by omega), hk (4 * q + 2) (by omega), hk (4 * q + 3) (by omega)]

end Go.Proofs.YtfbcmckepdjdkaaDoor

/- The contracts of the big-endian encodings: bigEndian of the program, l1Be of the specification. -/
namespace Go.Proofs.YtfbcmckepdjdkaaDoor
open Go.RowKit Go.My
set_option linter.unusedVariables false
set_option maxRecDepth 100000

theorem info_u8b : (Tryd.prog.info? 5).map (fun i => (i.zero, i.size, i.bytes)) = some (some (.int .u8 0), 1, 1) := by kernel_rfl

set_option maxHeartbeats 400000 in
theorem be_impl (n : Nat) (k : Nat) (w : World) (hn : n < U64) (hk : k ≤ 8) :
    Calls Tryd.prog 148 #[.int .u64 n, .int .i64 k] w fun e w' => e = .returned (.string (str (beL n k))) ∧ Below w.heap.size w w' := by
  obtain ⟨i0, hi, hz0, hz1, hz2⟩ := info_parts info_u8b
  have hk8 : (k : Int) ≤ 8 := by omega
  have hk0 : (0 : Int) ≤ (k : Int) := by omega
  have hn0 : (0 : Int) ≤ (n : Int) := by omega
  go_enter Tryd.func148, Tryd.ntmps148
  go_wp2_with (at_make; refine wpList_make_full _ rfl _ _ 39 rfl w.heap.size 5 i0 (.int .u8 0) 1 Tryd.underlying39 hi hz0 hz1 .i64 .i64 _ _ k rfl rfl rfl rfl ?c2 ?c3 ?c4 ?_)
  case c2 => rw [hz2]; omega
  case c3 => unfold maxLen; omega
  case c4 => exact Nat.le_refl _
  intro w1 hown hgrow
  have hb1 : Below w.heap.size w w1 := (Below.refl _ _).grown hgrow (Nat.le_refl _) (by simp)
  have hg1 : w.heap.size ≤ w.heap.size := Nat.le_refl _
  clear hgrow
  have ho : w1.ownsRow w.heap.size 5 1 (.slice (some ⟨w.heap.size, 0, none⟩) k k) k (cellsOf (beT n k 0 ++ List.replicate (k - (beT n k 0).length) 0)) := by
    have e : (madeCells #[Value.int .u8 0] k).toList = cellsOf (List.replicate k 0) := by rw [← fill_start]; exact toList_madeCells_one _ _
    rw [e] at hown
    exact hown
  clear hown
  go_wp2
  go_loopw [6, 11] (fun _ i wr => ∃ j : Nat, j ≤ k ∧ i = .int .i64 j ∧ wr.ownsRow w.heap.size 5 1 (.slice (some ⟨w.heap.size, 0, none⟩) k k) k (cellsOf (beT n k j ++ List.replicate (k - (beT n k j).length) 0)) ∧ Below w.heap.size w wr)
    (fun _ i _ => k - (intOf i).toNat)
  case atStart => exact ⟨0, Nat.zero_le _, rfl, ho, hb1⟩
  case round =>
    obtain ⟨j, hj, rfl, hown, hb⟩ := hrel
    by_cases hlt : j < k
    · have hj0 : (0 : Int) ≤ (j : Int) := Int.natCast_nonneg _
      have hj1 : (j : Int) < (k : Int) := by omega
      obtain ⟨hcell, hfz⟩ := store_cell (beT_len n k j) hlt hown
      have R := store_step (b := beAt n k j) (beT_len n k j) hlt hg1 hown hb
      rw [← beT_snoc, beAt_val] at R
      clear hown
      go_wp2
      go_roundw
      case rel => exact ⟨j + 1, by omega, by go_num, R.1, R.2⟩
      case measure => simp [intOf]; omega
    · obtain rfl : j = k := by omega
      rw [beT_len, Nat.sub_self, List.replicate_zero, List.append_nil] at hown
      have hcv := run_convert_own (P := Tryd.prog) wr 39 9 5 _ _ _ _ Tryd.underlying39 Tryd.underlying5 Tryd.underlying9 hown
      clear hown
      go_wp2
      go_ret
      exact ⟨rfl, hb⟩

set_option maxHeartbeats 400000 in
theorem be_spec (n : Int) (k : Nat) (w : World) (hn : (Lit.int .i64 n).wf = true) (hk : k ≤ 8) :
    Calls Tryd.prog 112 #[.int .i64 n, .int .i64 k] w fun e w' => e = .returned (.string (str (beL (IntKind.u64.wrap n).toNat k))) ∧ Below w.heap.size w w' := by
  obtain ⟨i0, hi, hz0, hz1, hz2⟩ := info_parts info_u8b
  obtain ⟨m, hm⟩ : ∃ m : Nat, IntKind.u64.wrap n = (m : Int) := ⟨(IntKind.u64.wrap n).toNat, by rw [IntKind.wrap_u64]; omega⟩
  have hk8 : (k : Int) ≤ 8 := by omega
  have hk0 : (0 : Int) ≤ (k : Int) := by omega
  rw [hm]
  go_enter Tryd.func112, Tryd.ntmps112
  go_wp2
  have hown : (w.alloc (.cells #[] 5)).ownsRow w.heap.size 5 1 (.slice (some ⟨w.heap.size, 0, none⟩) 0 0) 0 [] := World.ownsRow_lit w #[] 0 (Nat.le_refl _) (by unfold maxLen; omega) rfl
  have hb1 : Below w.heap.size w (w.alloc (.cells #[] 5)) := (Below.refl _ _).alloc (Nat.le_refl _) _
  go_loopw [5, 6] (fun v i wr => ∃ j : Nat, j ≤ k ∧ i = .int .i64 ((k : Int) - 1 - j) ∧ wr.ownsRow w.heap.size 5 1 v j (cellsOf (beT m k j)) ∧ Below w.heap.size w wr)
    (fun _ i _ => (intOf i + 1).toNat)
  case atStart => exact ⟨0, Nat.zero_le _, by go_num, hown, hb1⟩
  case round =>
    obtain ⟨j, hj, rfl, hown, hb⟩ := hrel
    by_cases hlt : j < k
    · have hj0 : (0 : Int) ≤ (j : Int) := Int.natCast_nonneg _
      have hj1 : (j : Int) < (k : Int) := by omega
      go_wp2_with (at_builtin; refine wpList_append_lies _ rfl _ _ 39 rfl w.heap.size 5 i0 (.int .u8 0) 1 1 Tryd.underlying39 hi hz0 hz1 hz2 rfl (by decide) u5 j _ rfl (hown.alloc _) ⟨wr.heap.size, 0, none⟩ 1 1 [_] rfl rfl (World.news_of_block (cs := #[_]) (t := 5) (fr := (0, 0)) (heap_alloc_new wr _)) (by simp [Value.oneCell']) (by omega) (by unfold maxLen; omega) (by omega) (by have := hb.size; simp; omega) (wr.heap.size + 1) (by simp) ?_; intro g cap w2 hown2 hgrow2 hat hlt2)
      rw [← beAt_val] at hown2
      have R := append_step (news := [beAt m k j]) hown (hb.alloc hb.size _) hown2 hgrow2
      rw [← beT_snoc] at R
      clear hown hown2 hgrow2
      go_roundw
      case rel => exact ⟨j + 1, by omega, by go_num, R.1, R.2⟩
      case measure => simp [intOf]; omega
    · obtain rfl : j = k := by omega
      have hcv := run_convert_own (P := Tryd.prog) wr 39 9 5 _ _ _ _ Tryd.underlying39 Tryd.underlying5 Tryd.underlying9 hown
      clear hown
      go_wp2
      go_ret
      exact ⟨rfl, hb⟩

end Go.Proofs.YtfbcmckepdjdkaaDoor

/- What the listed table of the prime's words gives the walks; a world that holds it. -/
namespace Go.Proofs.YtfbcmckepdjdkaaDoor
open Go.RowKit Go.My Go.Lib
set_option linter.unusedVariables false

def pL : List Int := [18446744073709551597, 18446744073709551615, 18446744073709551615, 9223372036854775807]
theorem gP : Tryd.prog.globalNamed "loop.example/g00702/impl.prime" = some 0 := by kernel_rfl
theorem gPType : (Tryd.prog.globals[0]?).map (·.type) = some 96 := by kernel_rfl
theorem cellsPT : Tryd.prog.cellsOf 96 = 4 := by kernel_rfl
theorem cellsPE : Tryd.prog.cellsOf 95 = 1 := by kernel_rfl
def laidP : List (String × DataW Unit) := [("loop.example/g00702/impl.prime", Rows.laid_loop_example_g00702_impl_prime)]
theorem tabIsP {W : World} (h : laidMetH Tryd.prog laidP W) : Lib.TabIs Tryd.prog W "loop.example/g00702/impl.prime" .u64 pL :=
  Lib.tabIs_of_head (rest := []) gP gPType Tryd.underlying96 Tryd.underlying95 cellsPE cellsPT h
theorem pL_eq (i : Nat) (h : i < 4) : pL.getD i 0 = (lw P25n i : Int) := by
  rcases (by omega : i = 0 ∨ i = 1 ∨ i = 2 ∨ i = 3) with rfl | rfl | rfl | rfl <;> decide +kernel
theorem tab_ofP {W : World} (h : laidMetH Tryd.prog laidP W) : TabP W := by
  have hc : ∀ i, i < 4 → W.cell? ⟨0, i, none⟩ = some (.int .u64 (lw P25n i : Int)) := fun i hi => by rw [← pL_eq i hi]; exact (tabIsP h).cell gP i hi
  exact ⟨World.block_lt_of_cell? W _ (hc 0 (by decide)), hc⟩
noncomputable def laidWorldP (os : Os) : World :=
  { World.holding Tryd.prog os ⟨#[], #[], []⟩ with heap := (World.holding Tryd.prog os ⟨#[], #[], []⟩).heap.modify 0 fun
      | .cells _ t frozen => .cells (pL.map fun z => Value.int .u64 z).toArray t frozen
      | o => o }
theorem laid_metP (os : Os) (args : Array Value) : laidMetH Tryd.prog laidP ((laidWorldP os).forCall (fun _ _ => 0) ⟨#[], args, []⟩).memory :=
  laidMet_of_run' 8 (by kernel_rfl) (by kernel_rfl)

end Go.Proofs.YtfbcmckepdjdkaaDoor

/- A drawn text. -/
namespace Go.Proofs.YtfbcmckepdjdkaaDoor
open Go.RowKit Go.My Go.Lib
set_option linter.unusedVariables false

theorem info_u8t : (Tryd.prog.info? 5).map (fun i => (i.zero, i.size, i.bytes)) = some (some (.int .u8 0), 1, 1) := by kernel_rfl
/-- 'string(make([]byte, n))', the two apart: the row that was made reads as noughts in every world that keeps its block. -/
theorem conv_madeT (W w' : World) (n : Nat) (hn : n ≤ 1048576) (h : w'.heap[W.heap.size]? = some (.cells (madeCells #[.int .u8 0] n) 5 (0, 0))) :
    (convert 39 9 (.slice (some ⟨W.heap.size, 0, none⟩) n n)).run Tryd.prog w' = .ok (.string (str (List.replicate n 0))) w' := by
  refine run_convert_own (P := Tryd.prog) w' 39 9 5 W.heap.size n _ _ Tryd.underlying39 Tryd.underlying5 Tryd.underlying9 ?_
  have hs : (madeCells #[Value.int .u8 0] n).size = n := by rw [← Array.length_toList, toList_madeCells_one, List.length_replicate]
  refine ⟨by rw [cellsOf_length, List.length_replicate]; omega, .inr ⟨W.heap.size, n, _, rfl, Nat.le_refl _, h, Nat.le_refl _, by unfold maxLen; omega, by rw [hs]; omega, ?_⟩⟩
  rw [toList_madeCells_one, ← fill_start]
  exact List.take_of_length_le (by rw [List.length_replicate]; omega)

set_option maxHeartbeats 2000000 in
theorem text_any (B g : Nat) (w : World) (h : Rd B w g) : Calls Tryd.prog 85 #[.pointer (some ⟨g, 0, none⟩)] w (DrawnStr 200 B g w) := by
  go_enter Tryd.func85, Tryd.ntmps85
  go_wp2_with fail
  refine (below_any B g _ _ h (by omega) (by omega)).mono ?_
  rintro e w1 ⟨n, rfl, hn0, hn1, hR1, hg1⟩
  by_cases h0 : n = 0
  · subst h0
    go_wp2_with fail
    refine (below_any B g _ _ hR1 (by omega) (by omega)).mono ?_
    rintro e w2 ⟨m, rfl, hm0, hm1, hR2, hg2⟩
    obtain ⟨q, rfl⟩ : ∃ q : Nat, m = (q : Int) := ⟨m.toNat, by omega⟩
    have hq : q < 16 := by omega
    have hmk := fun W => Go.run_make_row' (P := Tryd.prog) 39 5 (.int .u8 0) 1 Tryd.underlying39 info_u8t rfl .i64 .i64 (52 + q) (by omega) (by omega) W
    simp only [show ((52 + q : Nat) : Int) = 52 + (q : Int) by omega] at hmk
    have hcv0 : ∀ W : World, (convert 39 9 (.slice (some ⟨W.heap.size, 0, none⟩) (52 + q) (52 + q))).run Tryd.prog (W.alloc (.cells (madeCells #[.int .u8 0] (52 + q)) 5)) = .ok (.string (str (List.replicate (52 + q) 0))) (W.alloc (.cells (madeCells #[.int .u8 0] (52 + q)) 5)) := fun W => conv_madeT W _ (52 + q) (by omega) (heap_alloc_new W _)
    have hqi : (q : Int) < 16 := by omega
    go_wp2
    go_ret
    refine ⟨_, rfl, by rw [str_size, List.length_replicate]; omega, hR2.alloc _, ?_⟩
    exact grown_trans (grown_trans hg1 hg2) (World.grownBy_alloc w2 _ _)
  by_cases h1 : n = 1
  · subst h1
    go_wp2_with fail
    refine (bytes_any B g 150 _ hR1 (by omega)).mono ?_
    rintro e w2 ⟨s, rfl, hs, hR2, hg2⟩
    go_wp2
    go_ret
    exact ⟨s, rfl, by omega, hR2, grown_trans hg1 hg2⟩
  · have h0' : (n == 0) = false := by simpa using h0
    have h1' : (n == 1) = false := by simpa using h1
    go_wp2_with fail
    refine (bytes_any B g 30 _ hR1 (by omega)).mono ?_
    rintro e w2 ⟨s, rfl, hs, hR2, hg2⟩
    go_wp2
    go_ret
    exact ⟨s, rfl, by omega, hR2, grown_trans hg1 hg2⟩

end Go.Proofs.YtfbcmckepdjdkaaDoor

/- The reader's words and integers. -/
namespace Go.Proofs.YtfbcmckepdjdkaaDoor
open Go.RowKit Go.My Go.Lib
set_option linter.unusedVariables false

def DrawnWord (B g : Nat) (w : World) (e : Ending) (w' : World) : Prop := ∃ n : Nat, e = .returned (.int .u64 n) ∧ n < U64 ∧ Rd B w' g ∧ w.grownBy w' (some g)

set_option maxHeartbeats 1000000 in
theorem word_any (B g : Nat) (w : World) (h : Rd B w g) : Calls Tryd.prog 203 #[.pointer (some ⟨g, 0, none⟩)] w (DrawnWord B g w) := by
  go_enter Tryd.func203, Tryd.ntmps203
  go_wp2
  go_loopw [3, 4] (fun x i wr => ∃ k n : Nat, k ≤ 8 ∧ i = .int .i64 k ∧ x = .int .u64 n ∧ n < U64 ∧ Rd B wr g ∧ w.grownBy wr (some g)) (fun _ i _ => 8 - (intOf i).toNat)
  case atStart => exact ⟨0, 0, by omega, rfl, rfl, by decide, h, World.grownBy.refl _ _⟩
  case round =>
    obtain ⟨k, n, hk, rfl, rfl, hn, hR, hgr⟩ := hrel
    by_cases hlt : k < 8
    · have hk0 : (k : Int) < 8 := by omega
      go_wp2_with fail
      refine (next_any B g _ hR).mono ?_
      rintro e w2 ⟨y, rfl, hy0, hy1, hR2, hg2⟩
      have R := grown_trans hgr hg2
      clear hgr hg2 hR
      go_wp2
      obtain ⟨m, hm, hme⟩ := or_u64_nat (IntKind.u64.wrap ((n : Int) * 256)) y
      go_roundw
      case rel => exact ⟨k + 1, m, by omega, by go_num, by rw [hme], hm, hR2, R⟩
      case measure => simp [intOf]; omega
    · obtain rfl : k = 8 := by omega
      go_wp2
      go_ret
      exact ⟨n, rfl, hn, hR, hgr⟩

def DrawnInt (B g : Nat) (w : World) (e : Ending) (w' : World) : Prop := ∃ n : Int, e = .returned (.int .i64 n) ∧ (Lit.int .i64 n).wf = true ∧ Rd B w' g ∧ w.grownBy w' (some g)
theorem wf_i64 (n : Int) (h0 : -9223372036854775808 ≤ n) (h1 : n ≤ 9223372036854775807) : (Lit.int .i64 n).wf = true := by
  simp [Lit.wf, IntKind.min, IntKind.max, IntKind.signed, IntKind.bits]; omega

theorem wf_wrap64 (n : Int) : (Lit.int .i64 (wrap64 n)).wf = true := by
  rw [← IntWalk.i64_left, IntKind.wrap_i64]
  exact wf_i64 _ (by omega) (by omega)

set_option maxHeartbeats 1000000 in
theorem near_any (B g : Nat) (lo hi : Int) (w : World) (h : Rd B w g) (h0 : -4611686018427387904 ≤ lo) (h1 : lo ≤ hi) (h2 : hi ≤ 4611686018427387902) : Calls Tryd.prog 187 #[.pointer (some ⟨g, 0, none⟩), .int .i64 lo, .int .i64 hi] w (DrawnInt B g w) := by
  go_enter Tryd.func187, Tryd.ntmps187
  go_wp2_with fail
  refine (below_any B g _ _ h (by omega) (by omega)).mono ?_
  rintro e w1 ⟨x, rfl, hx0, hx1, hR1, hg1⟩
  by_cases hx : x = 0
  · subst hx
    go_wp2
    go_ret
    exact ⟨lo, rfl, wf_i64 _ (by omega) (by omega), hR1, hg1⟩
  by_cases hy : x = 1
  · subst hy
    go_wp2
    go_ret
    exact ⟨hi, rfl, wf_i64 _ (by omega) (by omega), hR1, hg1⟩
  have e0 : (x == 0) = false := by simpa using hx
  have e1 : (x == 1) = false := by simpa using hy
  clear hx hy
  go_wp2_with fail
  refine (word_any B g _ hR1).mono ?_
  rintro e w2 ⟨n, rfl, hn, hR2, hg2⟩
  have hn2 : (0 : Int) ≤ (n : Int) / 2 := by omega
  go_wp2
  go_ret
  exact ⟨_, rfl, wf_wrap64 _, hR2, grown_trans hg1 hg2⟩

set_option maxHeartbeats 1000000 in
theorem off_any (B g : Nat) (lo hi : Int) (w : World) (h : Rd B w g) (h0 : -4611686018427387904 ≤ lo) (h1 : lo ≤ hi) (h2 : hi ≤ 4611686018427387902) : Calls Tryd.prog 146 #[.pointer (some ⟨g, 0, none⟩), .int .i64 lo, .int .i64 hi] w (DrawnInt B g w) := by
  go_enter Tryd.func146, Tryd.ntmps146
  go_wp2_with fail
  refine (once_any B g _ _ h (by omega) (by omega)).mono ?_
  rintro e w1 ⟨b, rfl, hR1, hg1⟩
  cases b with
  | false =>
    go_wp2_with fail
    refine (near_any B g lo hi _ hR1 h0 h1 h2).mono ?_
    rintro e w2 ⟨n, rfl, hn, hR2, hg2⟩
    go_wp2
    go_ret
    exact ⟨n, rfl, hn, hR2, grown_trans hg1 hg2⟩
  | true =>
    go_wp2_with fail
    refine (below_any B g _ _ (hR1.kept (World.grownBy_alloc w1 _ none) (by simp) (by simp)) (by omega) (by omega)).mono ?_
    rintro e w2 ⟨x, rfl, hx0, hx1, hR2, hg2⟩
    have hlt : g < w1.heap.size := by obtain ⟨_, _, a, len, cap, p, hh, _⟩ := hR1; exact (Array.getElem?_eq_some_iff.1 hh).1
    have hblk := (hg2.block w1.heap.size (by simp) (by simp; omega)).trans (heap_alloc_new w1 _)
    have hc := fun j => cell_of_row w2 w1.heap.size j _ _ _ hblk
    have R := grown_trans hg1 (grown_trans (World.grownBy_alloc w1 _ _) hg2)
    clear hg1 hg2 hblk hR1
    rcases four hx0 hx1 with rfl | rfl | rfl | rfl
    · have c := hc 0
      simp at c
      clear hc
      go_wp2
      go_ret
      exact ⟨_, rfl, wf_i64 _ (by omega) (by omega), hR2, R⟩
    · have c := hc 1
      simp at c
      clear hc
      go_wp2
      go_ret
      exact ⟨_, rfl, wf_i64 _ (by omega) (by omega), hR2, R⟩
    · have c := hc 2
      simp at c
      clear hc
      go_wp2
      go_ret
      exact ⟨_, rfl, wf_i64 _ (by omega) (by omega), hR2, R⟩
    · have c := hc 3
      simp at c
      clear hc
      go_wp2
      go_ret
      exact ⟨_, rfl, wf_i64 _ (by omega) (by omega), hR2, R⟩

end Go.Proofs.YtfbcmckepdjdkaaDoor

/- Keys: the checks of both sides; AdOf. -/
namespace Go.Proofs.YtfbcmckepdjdkaaDoor
open Go.RowKit Go.My Go.Lib
set_option linter.unusedVariables false

theorem isKey_k (s : ByteArray) (w : World) (b : Bool) (hb : ((s.size : Int) == 32) = b) :
    Calls Tryd.prog 83 #[.string s] w fun e w' => e = .returned (.bool b) ∧ w = w' := by
  go_enter Tryd.func83, Tryd.ntmps83
  go_wp2
  go_ret
  exact ⟨rfl, rfl⟩
theorem l1Key_k (s : ByteArray) (w : World) (b : Bool) (hb : ((s.size : Int) == 32) = b) :
    Calls Tryd.prog 62 #[.string s] w fun e w' => e = .returned (.bool b) ∧ w = w' := by
  go_enter Tryd.func62, Tryd.ntmps62
  go_wp2
  go_ret
  exact ⟨rfl, rfl⟩
def strsK (l : List ByteArray) : Array Value := (l.map Value.string).toArray
theorem strsK_get (l : List ByteArray) (j : Nat) (h : j < l.length) : (strsK l)[j]? = some (.string l[j]) := by simp [strsK, h]
def keysB (l : List ByteArray) : Bool := l.all fun s => ((s.size : Int) == 32)
theorem keysB_take (l : List ByteArray) (j : Nat) (h : j < l.length) : keysB (l.take (j + 1)) = (keysB (l.take j) && ((l[j].size : Int) == 32)) := by
  unfold keysB
  rw [List.take_succ_eq_append_getElem h, List.all_append]
  simp
theorem keysB_bad (l : List ByteArray) (j : Nat) (h : j < l.length) (hb : ((l[j].size : Int) == 32) = false) : keysB l = false := by
  unfold keysB
  rw [List.all_eq_false]
  exact ⟨l[j], List.getElem_mem h, by simpa using hb⟩

set_option maxHeartbeats 2000000 in
theorem allKeys_k (g : Nat) (l : List ByteArray) (w : World) (h : Blk g (strsK l) 9 w) (hl : l.length ≤ 100) :
    Calls Tryd.prog 66 #[.slice (some ⟨g, 0, none⟩) l.length l.length] w fun e w' => e = .returned (.bool (keysB l)) ∧ w = w' := by
  have HB := Lib.hid h
  have hl1 : (l.length : Int) ≤ 100 := by omega
  clear h
  go_enter Tryd.func66, Tryd.ntmps66
  go_wp2
  go_loopw [7] (fun i wr => ∃ j : Nat, j ≤ l.length ∧ i = .int .i64 j ∧ keysB (l.take j) = true ∧ w = wr) (fun i _ => l.length - (intOf i).toNat)
  case atStart => exact ⟨0, Nat.zero_le _, rfl, rfl, rfl⟩
  case round =>
    obtain ⟨j, hj, rfl, hall, rfl⟩ := hrel
    by_cases hlt : j < l.length
    · have j0 : (0 : Int) ≤ (j : Int) := by omega
      have j1 : (j : Int) < (l.length : Int) := by omega
      have hc := HB.out.cell (strsK_get l j hlt)
      have HA := Lib.hid hall
      have HT := Lib.hid (keysB_take l j hlt)
      have HBD := Lib.hid (keysB_bad l j hlt)
      clear hall hj
      generalize l[j] = s at *
      cases hk : ((s.size : Int) == 32) with
      | true =>
        have HN : Hid (keysB (l.take (j + 1)) = true) := by show _ = _; rw [HT.out, HA.out, hk]; rfl
        have HK := Lib.hid hk
        clear hk
        go_wp2_with fail
        refine (isKey_k s _ true HK.out).mono ?_
        rintro e w' ⟨rfl, rfl⟩
        go_wp2
        go_roundw
        case rel => exact ⟨j + 1, by omega, by go_num, HN.out, by first | rfl | trivial⟩
        case measure => simp [intOf]; omega
      | false =>
        have HN := Lib.hid (HBD.out hk)
        have HK := Lib.hid hk
        clear hk
        go_wp2_with fail
        refine (isKey_k s _ false HK.out).mono ?_
        rintro e w' ⟨rfl, rfl⟩
        go_wp2
        go_ret
        exact ⟨by rw [HN.out]; rfl, rfl⟩
    · have hje : j = l.length := by omega
      have hpj : (l.length : Int) ≤ (j : Int) := by omega
      have HA : Hid (keysB l = true) := by show _ = _; rw [hje, List.take_length] at hall; exact hall
      clear hall hlt hj hje
      go_wp2
      go_ret
      exact ⟨by rw [HA.out]; rfl, rfl⟩

def adV (a b : ByteArray) : ByteArray := if keysB [a, b] = true then a ++ b else ByteArray.mk #[]
theorem keysB2 (a b : ByteArray) : keysB [a, b] = (((a.size : Int) == 32) && ((b.size : Int) == 32)) := by simp [keysB]
end Go.Proofs.YtfbcmckepdjdkaaDoor

/- A complete Edwards curve over a field: the group law, multiples, and a step of the ladder. Nothing of the program is named. -/
namespace Go.My
open Lean.Grind
set_option linter.unusedVariables false

structure EF (R : Type) [CommRing R] where
  inv : R → R
  inv_mul : ∀ x, x ≠ 0 → x * inv x = 1
  inv_zero : inv 0 = 0
  one_ne : (1 : R) ≠ 0
  two_ne : (2 : R) ≠ 0
  s : R
  a : R
  d : R
  c : R
  a_sq : a = s * s
  a_ne : a ≠ 0
  d_c : d = 4 * c
  a_d : a = d + 4
  nonsq : ∀ v w, d * (w * w) = v * v → w = 0

namespace EF
variable {R : Type} [CommRing R]
def zero : R × R := (0, 1)
def neg (p : R × R) : R × R := (-p.1, p.2)

theorem cancel (E : EF R) {x y : R} (hx : x ≠ 0) (h : x * y = 0) : y = 0 := by
  have h1 := E.inv_mul x hx
  have : y = (x * E.inv x) * y := by rw [h1]; grind
  rw [this, show x * E.inv x * y = E.inv x * (x * y) by grind, h]
  grind
theorem cancel_eq (E : EF R) {x y z : R} (hx : x ≠ 0) (h : x * y = x * z) : y = z := by
  have := E.cancel hx (y := y - z) (by grind)
  grind
theorem mul_ne (E : EF R) {x y : R} (hx : x ≠ 0) (hy : y ≠ 0) : x * y ≠ 0 := fun h => hy (E.cancel hx h)
theorem sq_zero (E : EF R) {x : R} (h : x * x = 0) : x = 0 := by
  refine Classical.byContradiction fun hx => E.mul_ne hx hx h
theorem frac_eq (E : EF R) {n1 d1 n2 d2 : R} (h1 : d1 ≠ 0) (h2 : d2 ≠ 0) (h : n1 * d2 = n2 * d1) : n1 * E.inv d1 = n2 * E.inv d2 := by
  have e1 := E.inv_mul d1 h1
  have e2 := E.inv_mul d2 h2
  refine E.cancel_eq (E.mul_ne h1 h2) ?_
  generalize E.inv d1 = i1 at *
  generalize E.inv d2 = i2 at *
  grind
theorem frac_one (E : EF R) {n d1 : R} (h1 : d1 ≠ 0) : d1 * (n * E.inv d1) = n := by
  have e1 := E.inv_mul d1 h1
  generalize E.inv d1 = i1 at *
  grind
theorem inv_one (E : EF R) : E.inv 1 = 1 := by
  have := E.inv_mul 1 E.one_ne
  grind
theorem inv_unique (E : EF R) {x y : R} (h : x * y = 1) : E.inv x = y := by
  have hx : x ≠ 0 := fun c => E.one_ne (by rw [← h, c]; grind)
  exact E.cancel_eq hx (by rw [E.inv_mul x hx, h])
theorem inv_mulE (E : EF R) (x y : R) : E.inv (x * y) = E.inv x * E.inv y := by
  by_cases hx : x = 0
  · subst hx; rw [show (0 : R) * y = 0 by grind, E.inv_zero]; grind
  · by_cases hy : y = 0
    · subst hy; rw [show x * (0 : R) = 0 by grind, E.inv_zero]; grind
    · refine E.inv_unique ?_
      have e1 := E.inv_mul x hx
      have e2 := E.inv_mul y hy
      generalize E.inv x = i1 at *
      generalize E.inv y = i2 at *
      grind

/-- On the curve. -/
def On (E : EF R) (p : R × R) : Prop := E.a * (p.1 * p.1) + p.2 * p.2 = 1 + E.d * (p.1 * p.1) * (p.2 * p.2)
def T (E : EF R) (p q : R × R) : R := E.d * (p.1 * q.1) * (p.2 * q.2)
def add (E : EF R) (p q : R × R) : R × R := ((p.1 * q.2 + p.2 * q.1) * E.inv (1 + E.T p q), (p.2 * q.2 - E.a * (p.1 * q.1)) * E.inv (1 - E.T p q))

theorem on' (E : EF R) {p : R × R} (hp : E.On p) : E.a * p.1 * p.1 + p.2 * p.2 = 1 + E.d * p.1 * p.1 * p.2 * p.2 := by
  unfold On at hp
  grind
theorem no_unit (E : EF R) {p q : R × R} (hp : E.On p) (hq : E.On q) (e : R) (he : e * e = 1) : E.T p q ≠ e := by
  intro ht
  unfold On at hp hq
  unfold T at ht
  have hs := E.a_sq
  have hn := E.nonsq
  have ha := E.a_ne
  have ene : e ≠ 0 := fun c => E.one_ne (by rw [← he, c]; grind)
  obtain ⟨x1, y1⟩ := p
  obtain ⟨x2, y2⟩ := q
  simp only at *
  have w1 := hn (E.s * x1 + e * y1) (x1 * y1 * (E.s * x2 + y2)) (by
    generalize E.s = s at *
    generalize E.a = a at *
    generalize E.d = d at *
    clear hn ha ene
    subst hs
    grind)
  have w2 := hn (E.s * x1 - e * y1) (x1 * y1 * (E.s * x2 - y2)) (by
    generalize E.s = s at *
    generalize E.a = a at *
    generalize E.d = d at *
    clear hn ha ene w1
    subst hs
    grind)
  have hxy : x1 * y1 ≠ 0 := fun c => ene (by rw [← ht, show E.d * (x1 * x2) * (y1 * y2) = E.d * (x1 * y1) * (x2 * y2) by grind, c]; grind)
  have h1 := E.cancel hxy w1
  have h2 := E.cancel hxy w2
  have hy2 : y2 = 0 := by
    refine E.cancel E.two_ne ?_
    grind
  exact ene (by rw [← ht, hy2]; grind)
theorem den_p (E : EF R) {p q : R × R} (hp : E.On p) (hq : E.On q) : 1 + E.T p q ≠ 0 := fun h => E.no_unit hp hq (-1) (by grind) (by grind)
theorem den_m (E : EF R) {p q : R × R} (hp : E.On p) (hq : E.On q) : 1 - E.T p q ≠ 0 := fun h => E.no_unit hp hq 1 (by grind) (by grind)
theorem on_zero (E : EF R) : E.On zero := by unfold On zero; simp only; grind
theorem on_neg (E : EF R) {p : R × R} (hp : E.On p) : E.On (neg p) := by unfold On neg at *; simp only; grind
theorem add_x (E : EF R) {p q : R × R} (hp : E.On p) (hq : E.On q) : (1 + E.T p q) * (E.add p q).1 = p.1 * q.2 + p.2 * q.1 := E.frac_one (E.den_p hp hq)
theorem add_y (E : EF R) {p q : R × R} (hp : E.On p) (hq : E.On q) : (1 - E.T p q) * (E.add p q).2 = p.2 * q.2 - E.a * (p.1 * q.1) := E.frac_one (E.den_m hp hq)
theorem on_add (E : EF R) {p q : R × R} (hp : E.On p) (hq : E.On q) : E.On (E.add p q) := by
  have hx := E.add_x hp hq
  have hy := E.add_y hp hq
  have n1 := E.den_p hp hq
  have n2 := E.den_m hp hq
  have nn := E.mul_ne (E.mul_ne n1 n2) (E.mul_ne n1 n2)
  have key : (1 + E.T p q) * (1 - E.T p q) * ((1 + E.T p q) * (1 - E.T p q)) * (E.a * ((E.add p q).1 * (E.add p q).1) + (E.add p q).2 * (E.add p q).2) = (1 + E.T p q) * (1 - E.T p q) * ((1 + E.T p q) * (1 - E.T p q)) * (1 + E.d * ((E.add p q).1 * (E.add p q).1) * ((E.add p q).2 * (E.add p q).2)) := by
    have poly : E.a * ((p.1 * q.2 + p.2 * q.1) * (p.1 * q.2 + p.2 * q.1)) * ((1 - E.T p q) * (1 - E.T p q)) + (p.2 * q.2 - E.a * (p.1 * q.1)) * (p.2 * q.2 - E.a * (p.1 * q.1)) * ((1 + E.T p q) * (1 + E.T p q)) = (1 + E.T p q) * (1 - E.T p q) * ((1 + E.T p q) * (1 - E.T p q)) + E.d * ((p.1 * q.2 + p.2 * q.1) * (p.1 * q.2 + p.2 * q.1)) * ((p.2 * q.2 - E.a * (p.1 * q.1)) * (p.2 * q.2 - E.a * (p.1 * q.1))) := by
      unfold On at hp hq
      unfold T
      clear hx hy n1 n2 nn
      obtain ⟨x1, y1⟩ := p
      obtain ⟨x2, y2⟩ := q
      simp only at *
      generalize E.a = a at *
      generalize E.d = d at *
      grind
    rw [← hx, ← hy] at poly
    generalize E.T p q = t at *
    generalize (E.add p q).1 = x at *
    generalize (E.add p q).2 = y at *
    generalize E.a = a at *
    generalize E.d = d at *
    clear hx hy hp hq n1 n2 nn
    grind
  exact E.cancel_eq nn key
theorem T_comm (E : EF R) (p q : R × R) : E.T p q = E.T q p := by unfold T; grind
theorem add_comm (E : EF R) (p q : R × R) : E.add p q = E.add q p := by
  unfold add
  rw [E.T_comm p q]
  refine Prod.ext ?_ ?_
  · simp only; congr 1; grind
  · simp only; congr 1; grind
theorem add_zero (E : EF R) {p : R × R} : E.add p zero = p := by
  unfold add
  have : E.T p zero = 0 := by unfold T zero; simp only; grind
  rw [this, show (1 : R) + 0 = 1 by grind, show (1 : R) - 0 = 1 by grind, E.inv_one]
  unfold zero
  refine Prod.ext ?_ ?_
  · simp only; grind
  · simp only; grind
theorem add_neg (E : EF R) {p : R × R} (hp : E.On p) : E.add p (neg p) = zero := by
  have hd := E.den_m hp (E.on_neg hp)
  have e : 1 - E.T p (neg p) = p.2 * (neg p).2 - E.a * (p.1 * (neg p).1) := by
    unfold On at hp
    unfold T neg
    simp only
    grind
  unfold add
  rw [← e]
  refine Prod.ext ?_ ?_
  · show (p.1 * (neg p).2 + p.2 * (neg p).1) * _ = 0
    rw [show p.1 * (neg p).2 + p.2 * (neg p).1 = 0 by unfold neg; simp only; grind]
    grind
  · exact E.inv_mul _ hd
theorem poly_x (x1 y1 x2 y2 x3 y3 a d : R) (h1 : a*x1*x1 + y1*y1 = 1 + d*x1*x1*y1*y1) (h2 : a*x2*x2 + y2*y2 = 1 + d*x2*x2*y2*y2) (h3 : a*x3*x3 + y3*y3 = 1 + d*x3*x3*y3*y3) :
   ((x1*y2+y1*x2) * (1 - d*x1*x2*y1*y2) * y3 + (y1*y2 - a*x1*x2) * (1 + d*x1*x2*y1*y2) * x3) * ((1 + d*x2*x3*y2*y3)*(1 - d*x2*x3*y2*y3) + d*x1*y1*(x2*y3+y2*x3)*(y2*y3-a*x2*x3))
   = (x1*(y2*y3-a*x2*x3)*(1 + d*x2*x3*y2*y3) + y1*(x2*y3+y2*x3)*(1 - d*x2*x3*y2*y3)) * ((1 + d*x1*x2*y1*y2)*(1 - d*x1*x2*y1*y2) + d*x3*y3*(x1*y2+y1*x2)*(y1*y2-a*x1*x2)) := by grind
theorem poly_y (x1 y1 x2 y2 x3 y3 a d : R) (h1 : a*x1*x1 + y1*y1 = 1 + d*x1*x1*y1*y1) (h2 : a*x2*x2 + y2*y2 = 1 + d*x2*x2*y2*y2) (h3 : a*x3*x3 + y3*y3 = 1 + d*x3*x3*y3*y3) :
   ((y1*y2 - a*x1*x2) * (1 + d*x1*x2*y1*y2) * y3 - a * ((x1*y2+y1*x2) * (1 - d*x1*x2*y1*y2) * x3)) * ((1 + d*x2*x3*y2*y3)*(1 - d*x2*x3*y2*y3) - d*x1*y1*(x2*y3+y2*x3)*(y2*y3-a*x2*x3))
   = (y1*(y2*y3-a*x2*x3)*(1 + d*x2*x3*y2*y3) - a * (x1*(x2*y3+y2*x3)*(1 - d*x2*x3*y2*y3))) * ((1 + d*x1*x2*y1*y2)*(1 - d*x1*x2*y1*y2) - d*x3*y3*(x1*y2+y1*x2)*(y1*y2-a*x1*x2)) := by grind
theorem add_assoc (E : EF R) {p q r : R × R} (hp : E.On p) (hq : E.On q) (hr : E.On r) : E.add (E.add p q) r = E.add p (E.add q r) := by
  have hpq := E.on_add hp hq
  have hqr := E.on_add hq hr
  have x1 := E.add_x hp hq
  have y1 := E.add_y hp hq
  have x2 := E.add_x hq hr
  have y2 := E.add_y hq hr
  have n1 := E.den_p hp hq
  have n2 := E.den_m hp hq
  have n3 := E.den_p hq hr
  have n4 := E.den_m hq hr
  have d1 := E.den_p hpq hr
  have d2 := E.den_m hpq hr
  have d3 := E.den_p hp hqr
  have d4 := E.den_m hp hqr
  have nn := E.mul_ne (E.mul_ne n1 n2) (E.mul_ne n3 n4)
  have px := poly_x p.1 p.2 q.1 q.2 r.1 r.2 E.a E.d (E.on' hp) (E.on' hq) (E.on' hr)
  have py := poly_y p.1 p.2 q.1 q.2 r.1 r.2 E.a E.d (E.on' hp) (E.on' hq) (E.on' hr)
  have t1 : E.d * p.1 * q.1 * p.2 * q.2 = E.T p q := by unfold T; grind
  have t2 : E.d * q.1 * r.1 * q.2 * r.2 = E.T q r := by unfold T; grind
  have a1 : p.2 * q.2 - E.a * p.1 * q.1 = p.2 * q.2 - E.a * (p.1 * q.1) := by grind
  have a2 : q.2 * r.2 - E.a * q.1 * r.1 = q.2 * r.2 - E.a * (q.1 * r.1) := by grind
  rw [t1, t2, a1, a2, ← x1, ← x2, ← y1, ← y2] at px py
  refine Prod.ext ?_ ?_
  · show ((E.add p q).1 * r.2 + (E.add p q).2 * r.1) * E.inv (1 + E.T (E.add p q) r) = (p.1 * (E.add q r).2 + p.2 * (E.add q r).1) * E.inv (1 + E.T p (E.add q r))
    refine E.frac_eq d1 d3 (E.cancel_eq nn ?_)
    have u1 : E.T (E.add p q) r = E.d * ((E.add p q).1 * r.1) * ((E.add p q).2 * r.2) := rfl
    have u2 : E.T p (E.add q r) = E.d * (p.1 * (E.add q r).1) * (p.2 * (E.add q r).2) := rfl
    rw [u1, u2]
    generalize E.T p q = t at *
    generalize E.T q r = t' at *
    generalize E.add p q = P at *
    generalize E.add q r = Q at *
    generalize E.a = a at *
    generalize E.d = d at *
    clear x1 x2 y1 y2 a1 a2 t1 t2 u1 u2 d1 d2 d3 d4 n1 n2 n3 n4 nn hp hq hr hpq hqr py
    grind
  · show ((E.add p q).2 * r.2 - E.a * ((E.add p q).1 * r.1)) * E.inv (1 - E.T (E.add p q) r) = (p.2 * (E.add q r).2 - E.a * (p.1 * (E.add q r).1)) * E.inv (1 - E.T p (E.add q r))
    refine E.frac_eq d2 d4 (E.cancel_eq nn ?_)
    have u1 : E.T (E.add p q) r = E.d * ((E.add p q).1 * r.1) * ((E.add p q).2 * r.2) := rfl
    have u2 : E.T p (E.add q r) = E.d * (p.1 * (E.add q r).1) * (p.2 * (E.add q r).2) := rfl
    rw [u1, u2]
    generalize E.T p q = t at *
    generalize E.T q r = t' at *
    generalize E.add p q = P at *
    generalize E.add q r = Q at *
    generalize E.a = a at *
    generalize E.d = d at *
    clear x1 x2 y1 y2 a1 a2 t1 t2 u1 u2 d1 d2 d3 d4 n1 n2 n3 n4 nn hp hq hr hpq hqr px
    grind

/-! ### Multiples -/
def mul (E : EF R) : Nat → R × R → R × R
  | 0, _ => zero
  | n + 1, p => E.add (mul E n p) p
theorem on_mul (E : EF R) {p : R × R} (hp : E.On p) : ∀ n, E.On (E.mul n p)
  | 0 => E.on_zero
  | n + 1 => E.on_add (E.on_mul hp n) hp
theorem zero_add (E : EF R) {p : R × R} : E.add zero p = p := by rw [E.add_comm]; exact E.add_zero
theorem mul_one (E : EF R) (p : R × R) : E.mul 1 p = p := E.zero_add
theorem mul_add (E : EF R) {p : R × R} (hp : E.On p) (m : Nat) : ∀ n, E.mul (m + n) p = E.add (E.mul m p) (E.mul n p)
  | 0 => (E.add_zero).symm
  | n + 1 => by
    show E.add (E.mul (m + n) p) p = E.add (E.mul m p) (E.add (E.mul n p) p)
    rw [E.mul_add hp m n, E.add_assoc (E.on_mul hp m) (E.on_mul hp n) hp]
theorem mul_mul (E : EF R) {p : R × R} (hp : E.On p) (n : Nat) : ∀ m, E.mul (m * n) p = E.mul m (E.mul n p)
  | 0 => by rw [Nat.zero_mul]; rfl
  | m + 1 => by
    rw [Nat.succ_mul, E.mul_add hp, E.mul_mul hp n m]
    rfl
theorem mul_comm (E : EF R) {p : R × R} (hp : E.On p) (m n : Nat) : E.mul m (E.mul n p) = E.mul n (E.mul m p) := by
  rw [← E.mul_mul hp, ← E.mul_mul hp, Nat.mul_comm]
theorem mul_zeroE (E : EF R) : ∀ n, E.mul n (zero : R × R) = zero
  | 0 => rfl
  | n + 1 => by show E.add (E.mul n zero) zero = zero; rw [E.add_zero]; exact E.mul_zeroE n
/-- What lies between a multiple and the next. -/
theorem mul_diff (E : EF R) {p : R × R} (hp : E.On p) (m : Nat) : E.add (E.mul (m + 1) p) (neg (E.mul m p)) = p := by
  have h1 := E.on_mul hp m
  have h2 := E.on_neg h1
  rw [show E.mul (m + 1) p = E.add (E.mul m p) p from rfl, E.add_comm (E.mul m p) p, E.add_assoc hp h1 h2, E.add_neg h1, E.add_zero]

/-! ### The ladder's points: only y counts -/
def Rep (X Z y : R) : Prop := X - Z = y * (X + Z) ∧ X + Z ≠ 0
theorem ady_ne (E : EF R) {y : R} : E.a - E.d * (y * y) ≠ 0 := by
  intro h
  have hs := E.a_sq
  have := E.nonsq E.s y (by grind)
  subst this
  exact E.a_ne (by grind)
theorem dbl_rep (E : EF R) {q : R × R} (hq : E.On q) {X Z : R} (h : Rep X Z q.2) :
    Rep ((X + Z) * (X + Z) * ((X - Z) * (X - Z))) (((X + Z) * (X + Z) - (X - Z) * (X - Z)) * ((X + Z) * (X + Z) + ((X + Z) * (X + Z) - (X - Z) * (X - Z)) * E.c)) (E.add q q).2 := by
  obtain ⟨h1, h2⟩ := h
  have hy := E.add_y hq hq
  have nd := E.den_m hq hq
  have na := E.ady_ne (y := q.2)
  have hc := E.d_c
  have had := E.a_d
  have h4 : (4 : R) ≠ 0 := fun c => E.mul_ne E.two_ne E.two_ne (by grind)
  rw [h1]
  have hq' : E.a * (q.1 * q.1) + q.2 * q.2 = 1 + E.d * (q.1 * q.1) * (q.2 * q.2) := hq
  have e1 : (E.a - E.d * (q.2 * q.2)) * (1 - E.T q q) = 4 * (1 + E.c * ((1 - q.2 * q.2) * (1 - q.2 * q.2))) := by
    unfold T
    generalize E.a = a at *
    generalize E.d = d at *
    generalize E.c = c at *
    clear h1 h2 hy nd na h4 hq
    subst had
    subst hc
    grind
  have e2 : (E.a - E.d * (q.2 * q.2)) * (q.2 * q.2 - E.a * (q.1 * q.1)) = 4 * (2 * (q.2 * q.2) - 1 - E.c * ((1 - q.2 * q.2) * (1 - q.2 * q.2))) := by
    generalize E.a = a at *
    generalize E.d = d at *
    generalize E.c = c at *
    clear h1 h2 hy nd na h4 hq e1
    subst had
    subst hc
    grind
  have nk : 1 + E.c * ((1 - q.2 * q.2) * (1 - q.2 * q.2)) ≠ 0 := fun c => E.mul_ne na nd (by rw [e1, c]; grind)
  have key : (E.add q q).2 * (1 + E.c * ((1 - q.2 * q.2) * (1 - q.2 * q.2))) = 2 * (q.2 * q.2) - 1 - E.c * ((1 - q.2 * q.2) * (1 - q.2 * q.2)) := by
    refine E.cancel_eq h4 ?_
    rw [← e2, ← hy]
    generalize (E.add q q).2 = Y at *
    generalize E.T q q = t at *
    generalize E.a - E.d * (q.2 * q.2) = k at *
    generalize 1 + E.c * ((1 - q.2 * q.2) * (1 - q.2 * q.2)) = l at *
    clear h1 h2 hy nd na h4 hq e2 hq' had hc nk
    grind
  generalize (E.add q q).2 = Y at *
  generalize X + Z = S at *
  generalize q.2 = y at *
  generalize E.c = c at *
  have hS : S * S * (S * S) ≠ 0 := E.mul_ne (E.mul_ne h2 h2) (E.mul_ne h2 h2)
  have hsum : S * S * (y * S * (y * S)) + (S * S - y * S * (y * S)) * (S * S + (S * S - y * S * (y * S)) * c) = S * S * (S * S) * (1 + c * ((1 - y * y) * (1 - y * y))) := by
    clear h1 h2 hy nd na h4 hq e1 e2 hq' had hc nk key hS
    grind
  refine ⟨?_, ?_⟩
  · rw [hsum]
    clear h1 h2 hy nd na h4 hq e1 e2 hq' had hc nk hS hsum
    grind
  · rw [hsum]
    exact E.mul_ne hS nk
theorem diff_poly (x1 y1 x2 y2 a d : R) (h1 : a*x1*x1 + y1*y1 = 1 + d*x1*x1*y1*y1) (h2 : a*x2*x2 + y2*y2 = 1 + d*x2*x2*y2*y2) :
   (1 - d*x1*x2*y1*y2 + (y1*y2 - a*x1*x2)) * (1 + d*x1*x2*y1*y2 + (y1*y2 + a*x1*x2)) * ((y1-y2)*(y1-y2)) = (1 - d*x1*x2*y1*y2 - (y1*y2 - a*x1*x2)) * (1 + d*x1*x2*y1*y2 - (y1*y2 + a*x1*x2)) * ((y1+y2)*(y1+y2)) := by grind
/-- The sum of two points, by what lies between them. -/
theorem sum_rep (E : EF R) {p q r : R × R} (hp : E.On p) (hq : E.On q) (hr : E.add p (neg q) = r) {X Z X' Z' u : R} (h : Rep X Z p.2) (h' : Rep X' Z' q.2) (hu : u * (1 - r.2) = 1 + r.2) (hu0 : u ≠ 0) (hr1 : r.2 ≠ 1) :
    Rep (((X' - Z') * (X + Z) + (X' + Z') * (X - Z)) * ((X' - Z') * (X + Z) + (X' + Z') * (X - Z))) (u * (((X' - Z') * (X + Z) - (X' + Z') * (X - Z)) * ((X' - Z') * (X + Z) - (X' + Z') * (X - Z)))) (E.add p q).2 := by
  have hn := E.on_neg hq
  have ys := E.add_y hp hq
  have yd := E.add_y hp hn
  rw [hr] at yd
  have ns := E.den_m hp hq
  have nd := E.den_m hp hn
  have dp := diff_poly p.1 p.2 q.1 q.2 E.a E.d (E.on' hp) (E.on' hq)
  have t1 : E.d * p.1 * q.1 * p.2 * q.2 = E.T p q := by unfold T; grind
  have t2 : E.T p (neg q) = - E.T p q := by unfold T neg; simp only; grind
  have a1 : p.2 * q.2 - E.a * p.1 * q.1 = (1 - E.T p q) * (E.add p q).2 := by rw [ys]; grind
  have a2 : p.2 * q.2 + E.a * p.1 * q.1 = (1 + E.T p q) * r.2 := by
    rw [t2] at yd
    have : (neg q).2 = q.2 := rfl
    have n1 : (neg q).1 = - q.1 := rfl
    rw [this, n1] at yd
    generalize E.T p q = t at *
    generalize E.a = a at *
    clear this n1 t1 t2 a1 dp nd ns ys hn hr1 hu0 hu h h' hr hq hp
    grind
  rw [t1, a1, a2] at dp
  have np : 1 + E.T p q ≠ 0 := by rw [t2] at nd; intro c; exact nd (by grind)
  have key : (1 + (E.add p q).2) * (1 + r.2) * ((p.2 - q.2) * (p.2 - q.2)) = (1 - (E.add p q).2) * (1 - r.2) * ((p.2 + q.2) * (p.2 + q.2)) := by
    refine E.cancel_eq (E.mul_ne ns np) ?_
    clear t1 t2 a1 a2 ys yd ns nd np hp hq hn hr h h' hu hu0 hr1
    generalize E.T p q = t at *
    generalize (E.add p q).2 = y at *
    grind
  have n1r : 1 - r.2 ≠ 0 := fun c => hr1 (by grind)
  have key2 : (1 + (E.add p q).2) * u * ((p.2 - q.2) * (p.2 - q.2)) = (1 - (E.add p q).2) * ((p.2 + q.2) * (p.2 + q.2)) := by
    refine E.cancel_eq n1r ?_
    rw [← hu] at key
    clear t1 t2 a1 a2 ys yd ns nd np hp hq hn hr h h' hu hu0 hr1 dp n1r
    grind
  -- where both are nought
  have both : p.2 = 0 → q.2 = 0 → False := fun e1 e2 => by
    have o1 : E.a * (p.1 * p.1) = 1 := by unfold On at hp; rw [e1] at hp; grind
    have o2 : E.a * (q.1 * q.1) = 1 := by unfold On at hq; rw [e2] at hq; grind
    have tz : E.T p q = 0 := by unfold T; rw [e1]; grind
    have rr : r.2 = E.a * (p.1 * q.1) := by rw [tz, e1, e2] at a2; grind
    have r1 : r.2 * r.2 = 1 := by rw [rr]; grind
    have : (1 - r.2) * (1 + r.2) = 0 := by grind
    have h0 := E.cancel n1r this
    rw [h0] at hu
    exact E.mul_ne hu0 n1r hu
  obtain ⟨hX, hS⟩ := h
  obtain ⟨hX', hS'⟩ := h'
  rw [hX, hX']
  have two := E.two_ne
  have dom : ∀ x : R, x * x = 0 → x = 0 := fun x => E.sq_zero
  clear t1 t2 a1 a2 ys yd ns nd np hn hr hX hX' dp key hu n1r hr1
  generalize (E.add p q).2 = Y at *
  generalize p.2 = y at *
  generalize q.2 = y' at *
  generalize X + Z = S at *
  generalize X' + Z' = S' at *
  have hk : S * S' * (S * S') ≠ 0 := E.mul_ne (E.mul_ne hS hS') (E.mul_ne hS hS')
  have f1 : (y' * S' * S + S' * (y * S)) * (y' * S' * S + S' * (y * S)) = S * S' * (S * S') * ((y + y') * (y + y')) := by grind
  have f2 : u * ((y' * S' * S - S' * (y * S)) * (y' * S' * S - S' * (y * S))) = S * S' * (S * S') * (u * ((y - y') * (y - y'))) := by grind
  rw [f1, f2]
  have d : S * S' * (S * S') * ((y + y') * (y + y')) - S * S' * (S * S') * (u * ((y - y') * (y - y'))) = Y * (S * S' * (S * S') * ((y + y') * (y + y')) + S * S' * (S * S') * (u * ((y - y') * (y - y')))) := by
    clear both dom hk f1 f2 two hu0 hS hS' hp hq
    grind
  refine ⟨d, fun hz => ?_⟩
  rw [hz] at d
  have hx : S * S' * (S * S') * ((y + y') * (y + y')) = 0 := by
    refine E.cancel two ?_
    clear key2 both dom hk f1 f2 hS hS' hp hq
    grind
  have hy : S * S' * (S * S') * (u * ((y - y') * (y - y'))) = 0 := by
    clear key2 both dom hk f1 f2 hS hS' hp hq
    grind
  have s1 := dom _ (E.cancel hk hx)
  have s2 := dom _ (E.cancel hu0 (E.cancel hk hy))
  have z1 : y = 0 := by
    refine E.cancel two ?_
    grind
  exact both z1 (by rw [z1] at s1; grind)
/-- The number that the ladder ends in. -/
def U (E : EF R) (p : R × R) : R := (1 + p.2) * E.inv (1 - p.2)
theorem rep_U (E : EF R) {X Z : R} {p : R × R} (h : Rep X Z p.2) : X * E.inv Z = E.U p := by
  obtain ⟨h1, h2⟩ := h
  have e1 : 2 * X = (X + Z) * (1 + p.2) := by grind
  have e2 : 2 * Z = (X + Z) * (1 - p.2) := by grind
  have i2 := E.inv_mul 2 E.two_ne
  have iS := E.inv_mul (X + Z) h2
  have k := E.inv_mulE 2 Z
  rw [e2, E.inv_mulE] at k
  unfold U
  generalize E.inv (1 - p.2) = j at *
  generalize E.inv (X + Z) = k1 at *
  generalize E.inv 2 = k2 at *
  generalize E.inv Z = k3 at *
  -- X k3 = (1 + y) j
  refine E.cancel_eq (x := k2) (fun c => E.one_ne (by rw [← i2, c]; grind)) ?_
  rw [show k2 * (X * k3) = X * (k2 * k3) by grind, ← k]
  clear k h1 h2
  have : X = k2 * ((X + Z) * (1 + p.2)) := by rw [← e1]; clear iS e1 e2; grind
  clear e1 e2
  generalize X + Z = S at *
  rw [this]
  clear this
  generalize p.2 = y at *
  grind
end EF
end Go.My

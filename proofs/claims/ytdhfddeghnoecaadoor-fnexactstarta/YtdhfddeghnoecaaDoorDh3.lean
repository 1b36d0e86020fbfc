/- Dh, PublicOf and Clamped under the laws' bounds; the draws of keys. -/
import Derived.Test.YtdhfddeghnoecaaDoorDh2
import Derived.Test.YtdhfddeghnoecaaDoorDraw0
import Derived.Test.YtdhfddeghnoecaaDoorAlgI
namespace Go.Proofs.YtdhfddeghnoecaaDoor
open Go.RowKit Go.My Go.Lib
set_option linter.unusedVariables false

theorem dhS20 (k p : ByteArray) (w : World) (hk : k.size ≤ 1048576) (hp : p.size ≤ 1048576) :
    Calls Tryd.prog 23 #[.string k, .string p] w fun e w' => e = .returned (.string (dhV k p)) ∧ Below w.heap.size w w' := dh_s k p w (by omega) (by omega)
theorem dhI20 (k p : ByteArray) (w : World) (hk : k.size ≤ 1048576) (hp : p.size ≤ 1048576) (ht : TabP w) :
    Calls Tryd.prog 27 #[.string k, .string p] w fun e w' => e = .returned (.string (dhV k p)) ∧ Below w.heap.size w w' := dh_i k p w (by omega) (by omega) ht
theorem pubS20 (k : ByteArray) (w : World) (hk : k.size ≤ 1048576) :
    Calls Tryd.prog 21 #[.string k] w fun e w' => e = .returned (.string (dhV k nineS)) ∧ Below w.heap.size w w' := pub_s k w (by omega)
theorem pubI20 (k : ByteArray) (w : World) (hk : k.size ≤ 1048576) (ht : TabP w) :
    Calls Tryd.prog 25 #[.string k] w fun e w' => e = .returned (.string (dhV k nineS)) ∧ Below w.heap.size w w' := pub_i k w (by omega) ht

theorem ladV_lt (n u : Nat) : ladV n u < P25n := fMu_lt _ _
theorem dhV_size (k p : ByteArray) : (dhV k p).size ≤ 40 := by
  unfold dhV
  split
  · rw [str_size, leB_len]; omega
  · rw [str_size]; simp
theorem dhV_pos {k p : ByteArray} (hk : k.size = 32) (hp : p.size = 32) : dhV k p = str (leB (ladV (leN (clampL k.data.toList)) (leN p.data.toList % T255 % P25n)) 32) := if_pos ⟨hk, hp⟩
theorem dhV_ok {k p : ByteArray} (hk : k.size = 32) (hp : p.size = 32) : okS (dhV k p) := by rw [dhV_pos hk hp]; exact leS_ok _ (ladV_lt _ _)
theorem dhV_neg {k p : ByteArray} (h : ¬ (k.size = 32 ∧ p.size = 32)) : dhV k p = str [] := if_neg h
theorem emptyE : (str []).toList.isEmpty = true := by rw [isE]; rfl
theorem row_maxD {w : World} {a : Option Addr} {len cap : Nat} {zs : List Int} (h : IsRow .u8 w a len cap zs) : len ≤ 9223372036854775807 := by
  rcases h with ⟨_, rfl, _⟩ | ⟨x, _, h1, h2, _⟩
  · omega
  · unfold maxLen at h2; omega
theorem nine_cat : (ByteArray.mk #[9]) ++ str (List.replicate 31 0) = nineS := by decide +kernel
theorem nineB : nineS = ByteArray.mk #[9] ++ str (List.replicate 31 0) := nine_cat.symm

end Go.Proofs.YtdhfddeghnoecaaDoor

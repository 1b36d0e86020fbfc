/- strings.Join at this program, by the library's contract. -/
import Derived.Test.YtfbcmckepdjdkaaDoorRows
import Derived.Test.YtfbcmckepdjdkaaDoorGM0
import Derived.WalkKit
import Derived.Lib.Hide
import Derived.Shelf.Strings.OnBuilder
namespace Go.Proofs.YtfbcmckepdjdkaaDoor
open Go.Shelf Go.RowKit Go.My
set_option linter.unusedVariables false

def lays156_ren : Go.Shelf.Ren := ⟨fun | 156 => 137 | 165 => 181 | 166 => 182 | 169 => 183 | 240 => 196 | 241 => 197 | 276 => 207 | 277 => 208 | n => n, fun | 31 => 137 | 9 => 9 | 3 => 3 | 4 => 4 | 0 => 0 | 20 => 20 | 72 => 192 | 76 => 196 | 70 => 190 | 37 => 39 | 75 => 195 | 127 => 208 | 164 => 219 | 5 => 5 | 80 => 94 | n => n, fun | n => n⟩
theorem lays156 : Go.Proofs.Lays.n156 Tryd.prog lays156_ren := {
  mixed := by kernel_rfl
  f156 := Tryd.func137.trans (congrArg some (by kernel_rfl))
  f165 := Tryd.func181.trans (congrArg some (by kernel_rfl))
  f166 := Tryd.func182.trans (congrArg some (by kernel_rfl))
  f169 := Tryd.func183.trans (congrArg some (by kernel_rfl))
  f240 := Tryd.func196.trans (congrArg some (by kernel_rfl))
  f241 := Tryd.func197.trans (congrArg some (by kernel_rfl))
  f276 := Tryd.func207.trans (congrArg some (by kernel_rfl))
  f277 := Tryd.func208.trans (congrArg some (by kernel_rfl))
  t0 := Tryd.underlying0
  a0 := Tryd.isAgg0
  z0 := Tryd.sizeOf0
  v0 := Tryd.zeroValue0
  t3 := Tryd.underlying3
  a3 := Tryd.isAgg3
  z3 := Tryd.sizeOf3
  v3 := Tryd.zeroValue3
  t4 := Tryd.underlying4
  a4 := Tryd.isAgg4
  z4 := Tryd.sizeOf4
  v4 := Tryd.zeroValue4
  t9 := Tryd.underlying9
  a9 := Tryd.isAgg9
  z9 := Tryd.sizeOf9
  v9 := Tryd.zeroValue9
  t20 := Tryd.underlying20
  a20 := Tryd.isAgg20
  z20 := Tryd.sizeOf20
  v20 := Tryd.zeroValue20
  t31 := Tryd.underlying137
  a31 := Tryd.isAgg137
  z31 := Tryd.sizeOf137
  v31 := Tryd.zeroValue137
  t37 := Tryd.underlying39
  a37 := Tryd.isAgg39
  z37 := Tryd.sizeOf39
  v37 := Tryd.zeroValue39
  t70 := Tryd.underlying190
  a70 := Tryd.isAgg190
  z70 := Tryd.sizeOf190
  v70 := Tryd.zeroValue190
  t72 := Tryd.underlying192
  a72 := Tryd.isAgg192
  z72 := Tryd.sizeOf192
  v72 := Tryd.zeroValue192
  t75 := Tryd.underlying195
  a75 := Tryd.isAgg195
  z75 := Tryd.sizeOf195
  v75 := Tryd.zeroValue195
  t76 := Tryd.underlying196
  a76 := Tryd.isAgg196
  z76 := Tryd.sizeOf196
  v76 := Tryd.zeroValue196
  t127 := Tryd.underlying208
  a127 := Tryd.isAgg208
  z127 := Tryd.sizeOf208
  v127 := Tryd.zeroValue208
  t164 := Tryd.underlying219
  a164 := Tryd.isAgg219
  z164 := Tryd.sizeOf219
  v164 := Tryd.zeroValue219 }
theorem Builder_Extra_156 : Builder.Extra Tryd.prog lays156_ren := {
  sizeBuilder := by kernel_rfl
  liesBuilder := by kernel_rfl
  t5 := Tryd.underlying5
  a5 := Tryd.isAgg5
  z5 := Tryd.sizeOf5
  v5 := Tryd.zeroValue5
  infoByte := by kernel_rfl
  cellsByte := by kernel_rfl
  sizeByte := by kernel_rfl
  neB5 := by decide }

theorem joinL_nil : ∀ l : List (List UInt8), Go.Lib.join l [] = l.flatten
  | [] => rfl
  | [x] => by rw [Go.Lib.join_one]; simp
  | x :: y :: r => by
    have ih := joinL_nil (y :: r)
    simp only [List.flatten_cons] at ih ⊢
    rw [← ih]
    simp [Go.Lib.join]
/-- strings.Join of a row of strings, nothing between them. -/
theorem join_any (g : Nat) (xs : List ByteArray) (w : World) (h : w.heap[g]? = some (.cells (xs.map Value.string).toArray 9 (0, 0))) (hn : xs.length ≤ 100) (hl : ((xs.map (·.data.toList)).flatten).length ≤ 1000000) :
    Calls Tryd.prog 137 #[.slice (some ⟨g, 0, none⟩) xs.length xs.length, .string (ByteArray.mk #[])] w fun e w' => e = .returned (.string (str (xs.map (·.data.toList)).flatten)) ∧ Below w.heap.size w w' := by
  have e : Go.Lib.join (xs.map (·.data.toList)) (ByteArray.mk #[]).data.toList = (xs.map (·.data.toList)).flatten := joinL_nil _
  have := Any.strings_Join lays156 Builder_Extra_156 g 0 xs.length xs (ByteArray.mk #[]) w (fun j x hx => by
    rw [Nat.zero_add, cell_of_row w g j _ _ _ h]
    simp [hx]) (Array.getElem?_eq_some_iff.1 h).1 (by omega) (Nat.le_refl _) (by rw [e]; omega)
  rw [e] at this
  exact this

end Go.Proofs.YtfbcmckepdjdkaaDoor

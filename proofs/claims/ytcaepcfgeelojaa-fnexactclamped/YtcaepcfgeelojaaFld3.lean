/- The contract of the field's product. -/
import Derived.Test.YtcaepcfgeelojaaFld2
import Derived.Test.YtcaepcfgeelojaaMathH
namespace Go.Proofs.Ytcaepcfgeelojaa
open Go.RowKit Go.My Go.Lib
set_option linter.unusedVariables false

abbrev Z8w : Array Value := #[Value.int .u64 0, Value.int .u64 0, Value.int .u64 0, Value.int .u64 0, Value.int .u64 0, Value.int .u64 0, Value.int .u64 0, Value.int .u64 0]
theorem al4_0 (w : World) (A B C D : Obj) : ((((w.alloc A).alloc B).alloc C).alloc D).heap[w.heap.size]? = some A := by
  rw [Below.heap_alloc _ _ _ (by simp; omega)]; exact al3_0 w A B C
theorem al4_1 (w : World) (A B C D : Obj) : ((((w.alloc A).alloc B).alloc C).alloc D).heap[w.heap.size + 1]? = some B := by
  rw [Below.heap_alloc _ _ _ (by simp)]; exact al3_1 w A B C
theorem al4_2 (w : World) (A B C D : Obj) : ((((w.alloc A).alloc B).alloc C).alloc D).heap[w.heap.size + 1 + 1]? = some C := by
  rw [Below.heap_alloc _ _ _ (by simp)]; exact al3_2 w A B C
theorem al4_3 (w : World) (A B C D : Obj) : ((((w.alloc A).alloc B).alloc C).alloc D).heap[w.heap.size + 1 + 1 + 1]? = some D := by
  have := heap_alloc_new (((w.alloc A).alloc B).alloc C) D
  simpa using this

theorem cell_set_blk {w : World} {a b : Addr} {v : Value} (u : Value) (h : b.block ≠ a.block) (hc : w.cell? b = some v) : (w.setCell a u).cell? b = some v := by
  rw [World.cell?_of_block (a := b) (heap_setCell_other w a b.block u h)]; exact hc

theorem orTop (c l : Nat) (hc : c ≤ 38) (hl : l < 18446744073709551616) : bits .or .u64 ((c : Int) * 2) ((l : Int) / 9223372036854775808) = ((2 * c + l / 9223372036854775808 : Nat) : Int) := by
  have e1 : (c : Int) * 2 = ((2 * c : Nat) : Int) := by omega
  have e2 : (l : Int) / 9223372036854775808 = ((l / 9223372036854775808 : Nat) : Int) := by omega
  rw [e1, e2, u64_or_nat _ _ (by omega) (by omega), nat_join 1 (2 * c) (l / 9223372036854775808) (by omega) (by omega)]
theorem notTop (l : Nat) (hl : l < 18446744073709551616) : bits .andNot .u64 (l : Int) 9223372036854775808 = ((l % 9223372036854775808 : Nat) : Int) := by
  have := u64_andNot_nat l 9223372036854775808 hl (by omega)
  rw [show 18446744073709551615 - 9223372036854775808 = 2 ^ 63 - 1 from rfl, Nat.and_two_pow_sub_one_eq_mod] at this
  exact this
theorem fld_small (n : Nat) (h : n < 18446744073709551616) : #[Value.int .u64 (n : Int), Value.int .u64 0, Value.int .u64 0, Value.int .u64 0] = fldA n := by
  have e0 : lw n 0 = n := by simp only [lw]; omega
  have e1 : lw n 1 = 0 := by simp only [lw]; omega
  have e2 : lw n 2 = 0 := by simp only [lw]; omega
  have e3 : lw n 3 = 0 := by simp only [lw]; omega
  show _ = #[Value.int .u64 (lw n 0 : Int), Value.int .u64 (lw n 1 : Int), Value.int .u64 (lw n 2 : Int), Value.int .u64 (lw n 3 : Int)]
  rw [e0, e1, e2, e3]
  rfl

theorem fld_19 (T : Nat) (h : T ≤ 77) : #[Value.int .u64 (19 * (T : Int)), Value.int .u64 0, Value.int .u64 0, Value.int .u64 0] = fldA (19 * T) := by
  have := fld_small (19 * T) (by omega)
  rw [Int.natCast_mul] at this
  exact this

end Go.Proofs.Ytcaepcfgeelojaa

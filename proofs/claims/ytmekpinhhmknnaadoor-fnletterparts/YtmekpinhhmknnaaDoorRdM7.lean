/- The deferred recover, and the reading of a whole envelope. -/
import Derived.Test.YtmekpinhhmknnaaDoorRdM6
import Derived.Test.YtmekpinhhmknnaaDoorRdM4
import Derived.Test.YtmekpinhhmknnaaDoorMathS
import Derived.Laws.Rows
namespace Go.Proofs.YtmekpinhhmknnaaDoor
open Go.RowKit Go.My Go.Lib
set_option linter.unusedVariables false

theorem BlkAt.gr {k g : Nat} {cs : Array Value} {T : TypeId} {V W : World} (hg : V.grownBy W (some g)) (hk : k ≠ g) (h : BlkAt k cs T V) : BlkAt k cs T W := (hg.block k h.lt (fun e => hk (Option.some.inj e))).trans h
theorem BlkAt.h {k : Nat} {cs : Array Value} {T : TypeId} {W : World} (h : BlkAt k cs T W) : W.heap[k]? = some (.cells cs T (0, 0)) := h
theorem envSz0 : (Tryd.prog.info? 44).map (·.size) = some zeroE.size := by kernel_rfl
theorem envOne0 : zeroE.all (·.oneCell') = true := by kernel_rfl
theorem envSz (f t : Int) (z : Bool) (p q : ByteArray) (o : Int) (u : ByteArray) (a b : Int) (x : ByteArray) : (Tryd.prog.info? 44).map (·.size) = some (envA f t z p q o u a b x).size := by kernel_rfl
theorem envOne (f t : Int) (z : Bool) (p q : ByteArray) (o : Int) (u : ByteArray) (a b : Int) (x : ByteArray) : (envA f t z p q o u a b x).all (·.oneCell') = true := by kernel_rfl
end Go.Proofs.YtmekpinhhmknnaaDoor

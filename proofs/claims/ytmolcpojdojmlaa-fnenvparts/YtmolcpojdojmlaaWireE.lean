/- The laws' own copies of envelopes, and their counts of bytes. -/
import Derived.Test.YtmolcpojdojmlaaWire5
import Derived.Test.YtmolcpojdojmlaaWireL
namespace Go.Proofs.Ytmolcpojdojmlaa
open Go.RowKit Go.My Go.Lib
set_option linter.unusedVariables false

abbrev zeroE : Array Value := #[.int .i64 0, .int .i64 0, .bool false, .string ⟨#[]⟩, .string ⟨#[]⟩, .int .i64 0, .string ⟨#[]⟩, .int .i64 0, .int .i64 0, .string ⟨#[]⟩]

end Go.Proofs.Ytmolcpojdojmlaa

/-
  Lists held against each other: slices.Equal of categories and of links, bytes.Equal.
-/
import Derived.Laws.StructEq
import Derived.Test.YtppfcdnhmieejaaThMS
import Derived.Test.YtppfcdnhmieejaaLabS
namespace Go.Proofs.Ytppfcdnhmieejaa
set_option linter.unusedVariables false
set_option linter.unusedSimpArgs false
set_option maxRecDepth 20000
open Go.RowKit

theorem run_neq_ls (x y : Cat) (w : World) : (binOp .neq 65 (.agg #[.int .u64 x.1, .int .i64 x.2]) (.agg #[.int .u64 y.1, .int .i64 y.2])).run Try.prog w = .ok (.bool (!(x.1 == y.1 && x.2 == y.2))) w := by
  simp [go_sem]
  by_cases h1 : x.1 = y.1 <;> by_cases h2 : x.2 = y.2 <;> simp [h1, h2]

end Go.Proofs.Ytppfcdnhmieejaa

import Derived.Test.YtkfbkglkcfaeeaaW4
import Derived.Test.YtkfbkglkcfaeeaaCK
namespace Go.Proofs.Ytkfbkglkcfaeeaa
open Go Go.RowKit

theorem fnExactWriteChunk_holds : Rows.FnExactWriteChunkSaid := fnExactWriteChunk_of implWrite_any

end Go.Proofs.Ytkfbkglkcfaeeaa

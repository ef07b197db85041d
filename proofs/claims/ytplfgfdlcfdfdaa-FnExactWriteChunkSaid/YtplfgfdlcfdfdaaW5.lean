import Derived.Test.YtplfgfdlcfdfdaaW4
import Derived.Test.YtplfgfdlcfdfdaaCK
namespace Go.Proofs.Ytplfgfdlcfdfdaa
open Go Go.RowKit

theorem fnExactWriteChunk_holds : Rows.FnExactWriteChunkSaid := fnExactWriteChunk_of implWrite_any

end Go.Proofs.Ytplfgfdlcfdfdaa

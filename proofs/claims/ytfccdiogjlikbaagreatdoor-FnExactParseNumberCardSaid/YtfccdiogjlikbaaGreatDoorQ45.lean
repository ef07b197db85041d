import Derived.Test.YtfccdiogjlikbaaGreatDoorQ44
import Derived.Test.YtfccdiogjlikbaaGreatDoorQ43
namespace Go.Proofs.YtfccdiogjlikbaaGreatDoor

/-- For every text the program's 'ParseNumber' answers as the specification's. -/
theorem fnExactParseNumber_holds : Rows.FnExactParseNumberCardSaid := card_of idx_any

#print axioms fnExactParseNumber_holds
end Go.Proofs.YtfccdiogjlikbaaGreatDoor

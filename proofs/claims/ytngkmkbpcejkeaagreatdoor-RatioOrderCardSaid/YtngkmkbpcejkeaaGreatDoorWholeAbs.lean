/- whole.Abs. -/
import Derived.Test.YtngkmkbpcejkeaaGreatDoorWholeB
namespace Go.Proofs.YtngkmkbpcejkeaaGreatDoor
open Go.RowKit

end Go.Proofs.YtngkmkbpcejkeaaGreatDoor

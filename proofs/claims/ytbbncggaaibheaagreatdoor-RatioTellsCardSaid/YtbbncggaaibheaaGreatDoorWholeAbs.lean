/- whole.Abs. -/
import Derived.Test.YtbbncggaaibheaaGreatDoorWholeB
namespace Go.Proofs.YtbbncggaaibheaaGreatDoor
open Go.RowKit

end Go.Proofs.YtbbncggaaibheaaGreatDoor

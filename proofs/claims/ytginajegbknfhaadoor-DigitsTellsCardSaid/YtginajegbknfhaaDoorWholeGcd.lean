/- whole.Gcd. -/
import Derived.Test.YtginajegbknfhaaDoorWholeB
namespace Go.Proofs.YtginajegbknfhaaDoor
open Go.RowKit

end Go.Proofs.YtginajegbknfhaaDoor

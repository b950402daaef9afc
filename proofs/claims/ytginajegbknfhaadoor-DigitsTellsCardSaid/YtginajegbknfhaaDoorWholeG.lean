/- whole: DivMod, walked. -/
import Derived.Test.YtginajegbknfhaaDoorWholeF
import Derived.Test.YtginajegbknfhaaDoorWholeD
namespace Go.Proofs.YtginajegbknfhaaDoor
open Go.RowKit

end Go.Proofs.YtginajegbknfhaaDoor

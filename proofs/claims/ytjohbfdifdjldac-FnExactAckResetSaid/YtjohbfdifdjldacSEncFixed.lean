/-
  What spec.EncodeFixed returns.
-/
import Derived.Test.YtjohbfdifdjldacIn
import Derived.Test.YtjohbfdifdjldacKit
namespace Go.Proofs.Ytjohbfdifdjldac
open Go.RowKit Go.Deep Go.Proofs.Ytjohbfdifdjldac.Num

end Go.Proofs.Ytjohbfdifdjldac

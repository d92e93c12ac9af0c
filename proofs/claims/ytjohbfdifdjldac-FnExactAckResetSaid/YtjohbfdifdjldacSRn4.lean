/-
  What spec.PeekRing returns.
-/
import Derived.Test.YtjohbfdifdjldacSRn3
namespace Go.Proofs.Ytjohbfdifdjldac
open Go.RowKit Go.Deep Go.Proofs.Ytjohbfdifdjldac.Num

end Go.Proofs.Ytjohbfdifdjldac

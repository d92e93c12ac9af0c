/-
  Small words for the walks of this seat: results as bytes, and what holds below a block number.
-/
import Derived.Test.YtjohbfdifdjldacKitA
namespace Go.Proofs.Ytjohbfdifdjldac
open Go.RowKit Go.Deep

end Go.Proofs.Ytjohbfdifdjldac

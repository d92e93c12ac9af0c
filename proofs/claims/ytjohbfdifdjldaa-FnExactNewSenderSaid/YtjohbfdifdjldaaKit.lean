/-
  Small words for the walks of this seat: results as bytes, and what holds below a block number.
-/
import Derived.Test.YtjohbfdifdjldaaKitA
namespace Go.Proofs.Ytjohbfdifdjldaa
open Go.RowKit Go.Deep

end Go.Proofs.Ytjohbfdifdjldaa

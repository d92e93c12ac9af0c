/-
  What the small functions of chapter 8 return, in the form in which the laws take it.
-/
import Derived.Test.YtkhekbfakloaoaaSRn2
import Derived.Test.YtkhekbfakloaoaaIRn9
namespace Go.Proofs.Ytkhekbfakloaoaa
open Go.RowKit Go.Deep Go.Proofs.Ytkhekbfakloaoaa.Num

theorem hsI : ∀ (r : Rn) (A : Option Addr) (cap B : Nat) (w : World), B ≤ w.heap.size → Ints w B A r.cs → r.cs.length ≤ 1048576 → r.cs.length ≤ cap → inI r.cs → inRn r → Calls Try.prog 17 #[rnV r (.slice A r.cs.length cap)] w fun e w' => e = .returned (.bool (decide (okRn r))) ∧ Below w.heap.size w w' :=
  fun r A cap B w h1 h2 h3 _ _ h4 => sisrn r A cap B w h1 h2 (by omega) h4
theorem hsR : ∀ (r : Rn) (A : Option Addr) (cap B : Nat) (w : World), B ≤ w.heap.size → Ints w B A r.cs → r.cs.length ≤ 1048576 → r.cs.length ≤ cap → inI r.cs → inRn r → Calls Try.prog 19 #[rnV r (.slice A r.cs.length cap)] w fun e w' => e = .returned (.int .i64 (roomR r)) ∧ Below w.heap.size w w' :=
  fun r A cap B w h1 h2 h3 _ _ h4 => sroom r A cap B w h1 h2 (by omega) h4
theorem hsN : ∀ (n : Int) (W : World), (-9223372036854775808 ≤ n ∧ n ≤ 9223372036854775807) → Calls Try.prog 28 #[.int .i64 n] W fun e w' => ∃ v, e = .returned (.tuple #[rnV (nwR n) v, .bool (decide (powR n))]) ∧ OwnK w' W.heap.size v (nwR n).cs ∧ Below W.heap.size W w' :=
  fun n W _ => snewrn n W
theorem hsE : ∀ (r s : Rn) (A A' : Option Addr) (cap cap' B : Nat) (w : World), B ≤ w.heap.size → Ints w B A r.cs → Ints w B A' s.cs → r.cs.length ≤ 1048576 → s.cs.length ≤ 1048576 → Calls Try.prog 15 #[rnV r (.slice A r.cs.length cap), rnV s (.slice A' s.cs.length cap')] w fun e w' => e = .returned (.bool (decide (sameRn r s))) ∧ Below w.heap.size w w' :=
  fun r s A A' cap cap' B w h1 h2 h3 h4 h5 => seqrn r s A A' cap cap' B w h1 h2 h3 (by omega)
theorem hiI : ∀ (r : Rn) (A : Option Addr) (cap B : Nat) (w : World), B ≤ w.heap.size → Ints w B A r.cs → r.cs.length ≤ 1048576 → r.cs.length ≤ cap → inI r.cs → inRn r → Calls Try.prog 16 #[rnV r (.slice A r.cs.length cap)] w fun e w' => e = .returned (.bool (decide (okRn r))) ∧ Below w.heap.size w w' :=
  fun r A cap B w h1 h2 h3 _ _ h4 => iisrn r A cap B w h1 h2 (by omega) h4
theorem hiR : ∀ (r : Rn) (A : Option Addr) (cap B : Nat) (w : World), B ≤ w.heap.size → Ints w B A r.cs → r.cs.length ≤ 1048576 → r.cs.length ≤ cap → inI r.cs → inRn r → Calls Try.prog 18 #[rnV r (.slice A r.cs.length cap)] w fun e w' => e = .returned (.int .i64 (roomR r)) ∧ Below w.heap.size w w' :=
  fun r A cap B w h1 h2 h3 _ _ h4 => iroom r A cap B w h1 h2 (by omega) h4
theorem hiN : ∀ (n : Int) (W : World), (-9223372036854775808 ≤ n ∧ n ≤ 9223372036854775807) → Calls Try.prog 27 #[.int .i64 n] W fun e w' => ∃ v, e = .returned (.tuple #[rnV (nwR n) v, .bool (decide (powR n))]) ∧ OwnK w' W.heap.size v (nwR n).cs ∧ Below W.heap.size W w' :=
  fun n W _ => inewrn n W
theorem hiE : ∀ (r s : Rn) (A A' : Option Addr) (cap cap' B : Nat) (w : World), B ≤ w.heap.size → Ints w B A r.cs → Ints w B A' s.cs → r.cs.length ≤ 1048576 → s.cs.length ≤ 1048576 → Calls Try.prog 30 #[rnV r (.slice A r.cs.length cap), rnV s (.slice A' s.cs.length cap')] w fun e w' => e = .returned (.bool (decide (sameRn r s))) ∧ Below w.heap.size w w' :=
  fun r s A A' cap cap' B w h1 h2 h3 h4 h5 => ieqrn r s A A' cap cap' B w h1 h2 h3 (by omega) (by omega)
end Go.Proofs.Ytkhekbfakloaoaa

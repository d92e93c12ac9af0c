/-
  What the other functions of chapter 8 return, in the form in which the laws take it.
-/
import Derived.Test.YtkhekbfakloaoaaSRn4
import Derived.Test.YtkhekbfakloaoaaIRn8
namespace Go.Proofs.Ytkhekbfakloaoaa
open Go.RowKit Go.Deep Go.Proofs.Ytkhekbfakloaoaa.Num

theorem hsW : ∀ (r : Rn) (d : ByteArray) (A : Option Addr) (cap B : Nat) (w : World), B ≤ w.heap.size → Ints w B A r.cs → r.cs.length ≤ 1048576 → r.cs.length ≤ cap → inI r.cs → inRn r → d.size ≤ 1048576 → Calls Try.prog 14 #[rnV r (.slice A r.cs.length cap), .string d] w fun e w' => ∃ v, e = .returned (.tuple #[rnV (wrR r d) v, .int .i64 ((cntW r d : Int))]) ∧ OwnK w' w.heap.size v (wrR r d).cs ∧ Below w.heap.size w w' :=
  fun r d A cap B w h1 h2 h3 _ _ h4 h5 => swrite r d A cap B w h1 h2 (by omega) h4 (by omega)
theorem hsD : ∀ (r : Rn) (o : Int) (A : Option Addr) (cap B : Nat) (w : World), B ≤ w.heap.size → Ints w B A r.cs → r.cs.length ≤ 1048576 → r.cs.length ≤ cap → inI r.cs → inRn r → (-9223372036854775808 ≤ o ∧ o ≤ 9223372036854775807) → Calls Try.prog 25 #[rnV r (.slice A r.cs.length cap), .int .i64 o] w fun e w' => ∃ v, e = .returned (.tuple #[rnV (drR r o) v, .bool (decide (canD r o))]) ∧ OwnK w' w.heap.size v (drR r o).cs ∧ Below w.heap.size w w' :=
  fun r o A cap B w h1 h2 h3 _ _ h4 _ => sdropn r o A cap B w h1 h2 (by omega) h4
theorem hsP : ∀ (r : Rn) (o : Int) (q : Int) (A : Option Addr) (cap B : Nat) (w : World), B ≤ w.heap.size → Ints w B A r.cs → r.cs.length ≤ 1048576 → r.cs.length ≤ cap → inI r.cs → inRn r → (-9223372036854775808 ≤ o ∧ o ≤ 9223372036854775807) → (-9223372036854775808 ≤ q ∧ q ≤ 9223372036854775807) → Calls Try.prog 22 #[rnV r (.slice A r.cs.length cap), .int .i64 o, .int .i64 q] w fun e w' => e = .returned (.tuple #[.string (pkR r o q), .bool (decide (canP r o q))]) ∧ Below w.heap.size w w' :=
  fun r o q A cap B w h1 h2 h3 _ _ h4 h5 _ => speek r o q A cap B w h1 h2 (by omega) h4 h5
theorem hiW : ∀ (r : Rn) (d : ByteArray) (A : Option Addr) (cap B : Nat) (w : World), B ≤ w.heap.size → Ints w B A r.cs → r.cs.length ≤ 1048576 → r.cs.length ≤ cap → inI r.cs → inRn r → d.size ≤ 1048576 → Calls Try.prog 13 #[rnV r (.slice A r.cs.length cap), .string d] w fun e w' => ∃ v, e = .returned (.tuple #[rnV (wrR r d) v, .int .i64 ((cntW r d : Int))]) ∧ OwnK w' w.heap.size v (wrR r d).cs ∧ Below w.heap.size w w' :=
  fun r d A cap B w h1 h2 h3 _ _ h4 h5 => iwriter r d A cap B w h1 h2 (by omega) h4 (by omega)
theorem hiD : ∀ (r : Rn) (o : Int) (A : Option Addr) (cap B : Nat) (w : World), B ≤ w.heap.size → Ints w B A r.cs → r.cs.length ≤ 1048576 → r.cs.length ≤ cap → inI r.cs → inRn r → (-9223372036854775808 ≤ o ∧ o ≤ 9223372036854775807) → Calls Try.prog 24 #[rnV r (.slice A r.cs.length cap), .int .i64 o] w fun e w' => ∃ v, e = .returned (.tuple #[rnV (drR r o) v, .bool (decide (canD r o))]) ∧ OwnK w' w.heap.size v (drR r o).cs ∧ Below w.heap.size w w' :=
  fun r o A cap B w h1 h2 h3 _ _ h4 _ => idropr r o A cap B w h1 h2 (by omega) h4
theorem hiP : ∀ (r : Rn) (o : Int) (q : Int) (A : Option Addr) (cap B : Nat) (w : World), B ≤ w.heap.size → Ints w B A r.cs → r.cs.length ≤ 1048576 → r.cs.length ≤ cap → inI r.cs → inRn r → (-9223372036854775808 ≤ o ∧ o ≤ 9223372036854775807) → (-9223372036854775808 ≤ q ∧ q ≤ 9223372036854775807) → Calls Try.prog 20 #[rnV r (.slice A r.cs.length cap), .int .i64 o, .int .i64 q] w fun e w' => e = .returned (.tuple #[.string (pkR r o q), .bool (decide (canP r o q))]) ∧ Below w.heap.size w w' :=
  fun r o q A cap B w h1 h2 h3 _ _ h4 _ _ => ipeekr r o q A cap B w h1 h2 (by omega) h4
end Go.Proofs.Ytkhekbfakloaoaa

/-
  The numbers under which this seat holds sync.Mutex's functions and types, and that it holds them.
-/
import Derived.Test.YtkhekbfakloaoaaProg
import Derived.Conc.MuLone
import Derived.KernelRfl
namespace Go.Proofs.Ytkhekbfakloaoaa
abbrev muLink : Go.Conc.Locks.MuLink := { lock := 64, unlock := 65, ilock := 70, iunlock := 71, lockSlow := 76, unlockSlow := 79, disable := 72, enable := 74, acquire := 75, relMerge := 77, cas32 := 73, add32 := 78, tMutex := 86, tIMutex := 84, tPMutex := 94, tPIMutex := 96, tPI32 := 98, tUP := 100, tNoCopy := 81, tU32 := 82 }
theorem muLib : Go.Conc.Locks.MuLib Try.prog muLink :=
  ⟨Try.func64, Try.func65, Try.func70, Try.func71, Try.func72, Try.func74, Try.func75, Try.func77, Try.func73, Try.func78, Try.underlying84, Try.runUnderlying84, Try.sizeOf84, Try.isAgg84, Try.zeroValue84, Try.underlying86, Try.runUnderlying86, Try.sizeOf86, Try.isAgg86, Try.zeroValue86, Try.underlying94, Try.runUnderlying94, Try.sizeOf94, Try.isAgg94, Try.zeroValue94, Try.underlying96, Try.runUnderlying96, Try.sizeOf96, Try.isAgg96, Try.zeroValue96, Try.underlying98, Try.runUnderlying98, Try.sizeOf98, Try.isAgg98, Try.zeroValue98, Try.underlying100, Try.runUnderlying100, Try.sizeOf100, Try.isAgg100, Try.zeroValue100, Try.underlying81, Try.runUnderlying81, Try.sizeOf81, Try.isAgg81, Try.zeroValue81, Try.underlying21, Try.runUnderlying21, Try.sizeOf21, Try.isAgg21, Try.zeroValue21, (by kernel_rfl)⟩
end Go.Proofs.Ytkhekbfakloaoaa

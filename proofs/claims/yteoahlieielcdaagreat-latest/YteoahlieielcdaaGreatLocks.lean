/-
  The numbers under which this program holds the library's mutex, and that it holds it.
-/
import Derived.Test.YteoahlieielcdaaGreatProg
import Derived.Conc.MuData
import Derived.Conc.MuLone
import Derived.KernelRfl
namespace Go.Proofs
abbrev Tryz.muLink : Go.Conc.Locks.MuLink := { lock := 37, unlock := 38, ilock := 70, iunlock := 71, lockSlow := 111, unlockSlow := 114, disable := 107, enable := 109, acquire := 110, relMerge := 112, cas32 := 108, add32 := 113, tMutex := 101, tIMutex := 99, tPMutex := 133, tPIMutex := 204, tPI32 := 206, tUP := 208, tNoCopy := 96, tU32 := 97 }
theorem Tryz.muLib : Go.Conc.Locks.MuLib Tryz.prog Tryz.muLink :=
  ⟨Tryz.func37, Tryz.func38, Tryz.func70, Tryz.func71, Tryz.func107, Tryz.func109, Tryz.func110, Tryz.func112, Tryz.func108, Tryz.func113,
   Tryz.underlying99, Tryz.runUnderlying99, Tryz.sizeOf99, Tryz.isAgg99, Tryz.zeroValue99,
   Tryz.underlying101, Tryz.runUnderlying101, Tryz.sizeOf101, Tryz.isAgg101, Tryz.zeroValue101,
   Tryz.underlying133, Tryz.runUnderlying133, Tryz.sizeOf133, Tryz.isAgg133, Tryz.zeroValue133,
   Tryz.underlying204, Tryz.runUnderlying204, Tryz.sizeOf204, Tryz.isAgg204, Tryz.zeroValue204,
   Tryz.underlying206, Tryz.runUnderlying206, Tryz.sizeOf206, Tryz.isAgg206, Tryz.zeroValue206,
   Tryz.underlying208, Tryz.runUnderlying208, Tryz.sizeOf208, Tryz.isAgg208, Tryz.zeroValue208,
   Tryz.underlying96, Tryz.runUnderlying96, Tryz.sizeOf96, Tryz.isAgg96, Tryz.zeroValue96,
   Tryz.underlying21, Tryz.runUnderlying21, Tryz.sizeOf21, Tryz.isAgg21, Tryz.zeroValue21, (by kernel_rfl)⟩
end Go.Proofs

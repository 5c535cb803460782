/- The numbers under which this translation holds sync.Mutex, and that it holds it: so that the library's contracts of Lock and Unlock serve here. -/
import Derived.Test.YtiliahmaolnfbaaBase
import Derived.Conc.RwLib
import Derived.Conc.MuLone
import Derived.KernelRfl
namespace Go.Proofs.Ytiliahmaolnfbaa
abbrev muLink : Go.Conc.Locks.MuLink := { lock := 71, unlock := 72, ilock := 73, iunlock := 74, lockSlow := 79, unlockSlow := 82, disable := 75, enable := 77, acquire := 78, relMerge := 80, cas32 := 76, add32 := 81, tMutex := 70, tIMutex := 68, tPMutex := 86, tPIMutex := 87, tPI32 := 89, tUP := 91, tNoCopy := 66, tU32 := 27 }
theorem muLib : Go.Conc.Locks.MuLib Try.prog muLink :=
  ⟨Try.func71, Try.func72, Try.func73, Try.func74, Try.func75, Try.func77, Try.func78, Try.func80, Try.func76, Try.func81, Try.underlying68, Try.runUnderlying68, Try.sizeOf68, Try.isAgg68, Try.zeroValue68, Try.underlying70, Try.runUnderlying70, Try.sizeOf70, Try.isAgg70, Try.zeroValue70, Try.underlying86, Try.runUnderlying86, Try.sizeOf86, Try.isAgg86, Try.zeroValue86, Try.underlying87, Try.runUnderlying87, Try.sizeOf87, Try.isAgg87, Try.zeroValue87, Try.underlying89, Try.runUnderlying89, Try.sizeOf89, Try.isAgg89, Try.zeroValue89, Try.underlying91, Try.runUnderlying91, Try.sizeOf91, Try.isAgg91, Try.zeroValue91, Try.underlying66, Try.runUnderlying66, Try.sizeOf66, Try.isAgg66, Try.zeroValue66, Try.underlying21, Try.runUnderlying21, Try.sizeOf21, Try.isAgg21, Try.zeroValue21, (by kernel_rfl)⟩
end Go.Proofs.Ytiliahmaolnfbaa

import Derived.Test.YtakaadcpaeiccabGreatProg
import Derived.Conc.MuLone
import Derived.KernelRfl
namespace Go.Proofs.YtakaadcpaeiccabGreat

/-- The numbers under which this program holds the library's lock. -/
abbrev muLink : Go.Conc.Locks.MuLink := { lock := 49, unlock := 50, ilock := 74, iunlock := 75, lockSlow := 109, unlockSlow := 112, disable := 105, enable := 107, acquire := 108, relMerge := 110, cas32 := 106, add32 := 111, tMutex := 127, tIMutex := 125, tPMutex := 168, tPIMutex := 215, tPI32 := 217, tUP := 219, tNoCopy := 123, tU32 := 34 }
theorem muLib : Go.Conc.Locks.MuLib Tryz.prog muLink :=
  ⟨Tryz.func49, Tryz.func50, Tryz.func74, Tryz.func75, Tryz.func105, Tryz.func107, Tryz.func108, Tryz.func110, Tryz.func106, Tryz.func111, Tryz.underlying125, Tryz.runUnderlying125, Tryz.sizeOf125, Tryz.isAgg125, Tryz.zeroValue125, Tryz.underlying127, Tryz.runUnderlying127, Tryz.sizeOf127, Tryz.isAgg127, Tryz.zeroValue127, Tryz.underlying168, Tryz.runUnderlying168, Tryz.sizeOf168, Tryz.isAgg168, Tryz.zeroValue168, Tryz.underlying215, Tryz.runUnderlying215, Tryz.sizeOf215, Tryz.isAgg215, Tryz.zeroValue215, Tryz.underlying217, Tryz.runUnderlying217, Tryz.sizeOf217, Tryz.isAgg217, Tryz.zeroValue217, Tryz.underlying219, Tryz.runUnderlying219, Tryz.sizeOf219, Tryz.isAgg219, Tryz.zeroValue219, Tryz.underlying123, Tryz.runUnderlying123, Tryz.sizeOf123, Tryz.isAgg123, Tryz.zeroValue123, Tryz.underlying21, Tryz.runUnderlying21, Tryz.sizeOf21, Tryz.isAgg21, Tryz.zeroValue21, (by kernel_rfl)⟩
end Go.Proofs.YtakaadcpaeiccabGreat

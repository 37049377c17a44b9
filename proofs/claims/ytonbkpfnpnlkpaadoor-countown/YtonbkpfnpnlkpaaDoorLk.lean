/-
  The numbers under which this dump holds the lock's functions and types, and that it holds them.
-/
import Derived.Test.YtonbkpfnpnlkpaaDoorProg
import Derived.Conc.RwLib
import Derived.Conc.MuData
import Derived.KernelRfl
namespace Go.Proofs
abbrev Tryd.muLink : Go.Conc.Locks.MuLink := { lock := 36, unlock := 37, ilock := 57, iunlock := 58, lockSlow := 87, unlockSlow := 90, disable := 83, enable := 85, acquire := 86, relMerge := 88, cas32 := 84, add32 := 89, tMutex := 86, tIMutex := 84, tPMutex := 103, tPIMutex := 135, tPI32 := 137, tUP := 139, tNoCopy := 81, tU32 := 82 }
theorem Tryd.muLib : Go.Conc.Locks.MuLib Tryd.prog Tryd.muLink :=
  ⟨Tryd.func36, Tryd.func37, Tryd.func57, Tryd.func58, Tryd.func83, Tryd.func85, Tryd.func86, Tryd.func88, Tryd.func84, Tryd.func89, Tryd.underlying84, Tryd.runUnderlying84, Tryd.sizeOf84, Tryd.isAgg84, Tryd.zeroValue84, Tryd.underlying86, Tryd.runUnderlying86, Tryd.sizeOf86, Tryd.isAgg86, Tryd.zeroValue86, Tryd.underlying103, Tryd.runUnderlying103, Tryd.sizeOf103, Tryd.isAgg103, Tryd.zeroValue103, Tryd.underlying135, Tryd.runUnderlying135, Tryd.sizeOf135, Tryd.isAgg135, Tryd.zeroValue135, Tryd.underlying137, Tryd.runUnderlying137, Tryd.sizeOf137, Tryd.isAgg137, Tryd.zeroValue137, Tryd.underlying139, Tryd.runUnderlying139, Tryd.sizeOf139, Tryd.isAgg139, Tryd.zeroValue139, Tryd.underlying81, Tryd.runUnderlying81, Tryd.sizeOf81, Tryd.isAgg81, Tryd.zeroValue81, Tryd.underlying21, Tryd.runUnderlying21, Tryd.sizeOf21, Tryd.isAgg21, Tryd.zeroValue21, (by kernel_rfl)⟩
end Go.Proofs

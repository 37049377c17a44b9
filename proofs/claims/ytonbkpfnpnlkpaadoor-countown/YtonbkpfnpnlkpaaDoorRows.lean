/-
  NARROWER THAN 'FOR EVERY INPUT', by the rows' own cells (each row's printed sentence says how): CountExact: laid · CountTable: laid · CountSplits: laid · CountOrder: laid · CountTop: laid · CountNames: laid · CountOwn: laid.
  DERIVED. THE GIVEN ROWS OF THIS SEAT. 7 by the template 'for every input the law returns true; each argument reads behind the call as it read before'; 0 by the template 'total and deterministic' (their statements: YtonbkpfnpnlkpaaDoorTotals.lean).
  GIVEN WITH THE SEED: the statements are not yours to turn. If you find one false, say at which input.
  Laid BY PROGRAM, IN A SANDBOX (cutbox-rows.mjs): the forced cells as the released guide's own fill.sh prints them over the translation d1bc7878efd83917… (all of the seat's roots in one cut). By AI agents, Wed Nov 11 2026. No macro, syntax, notation, axiom, sorry.
-/
import Derived.Test.YtonbkpfnpnlkpaaDoorChecked
import GoSem.Claim
import GoSem.ClaimJoined
import GoSem.ClaimMapViews
import Derived.JoinedTies
import Derived.KernelRfl
namespace Go.Proofs.YtonbkpfnpnlkpaaDoor
/- THE CELL 'sum', in the pinned program and in every row, IS THE sha256 OF THE DUMP (.gsa) THAT YtonbkpfnpnlkpaaDoorProg.lean LOADS. Nothing in Lean hashes anything: it is a label: what it is worth is what the hold of that sum in a sandbox is worth. -/
noncomputable def Tryd.pinned : Pinned := { name := "ytonbkpfnpnlkpaadoor", sum := "d1bc7878efd83917e871b608933dc4772f26d43ebce8dc0a3a31a5190ccfa7a7", checked := Tryd.checked }
namespace Rows
def none {H : Type} : Left H := { results := [], args := [] }

/- WHAT THE LISTED PACKAGE-LEVEL VARIABLES READ AS WHEN THE CALL BEGINS. Each datum BY PROGRAM (the guide's laid-datum.mjs) off the statement by which the dump's own 'gosem.cut.vars' lays the variable. In a bare row this is a premise. The card (YtonbkpfnpnlkpaaDoorCards.lean) ties it to the program's text. -/
def laid_granary_count_wordOf {H : Type} : DataW H := .agg [.lit (.string []), .lit (.string [99, 109, 100, 95, 103, 101, 116]), .lit (.string [99, 109, 100, 95, 115, 101, 116]), .lit (.string [99, 109, 100, 95, 116, 111, 117, 99, 104]), .lit (.string [99, 109, 100, 95, 102, 108, 117, 115, 104]), .lit (.string [99, 109, 100, 95, 109, 101, 116, 97]), .lit (.string [103, 101, 116, 95, 104, 105, 116, 115]), .lit (.string [103, 101, 116, 95, 109, 105, 115, 115, 101, 115]), .lit (.string [103, 101, 116, 95, 101, 120, 112, 105, 114, 101, 100]), .lit (.string [103, 101, 116, 95, 102, 108, 117, 115, 104, 101, 100]), .lit (.string [100, 101, 108, 101, 116, 101, 95, 104, 105, 116, 115]), .lit (.string [100, 101, 108, 101, 116, 101, 95, 109, 105, 115, 115, 101, 115]), .lit (.string [105, 110, 99, 114, 95, 104, 105, 116, 115]), .lit (.string [105, 110, 99, 114, 95, 109, 105, 115, 115, 101, 115]), .lit (.string [100, 101, 99, 114, 95, 104, 105, 116, 115]), .lit (.string [100, 101, 99, 114, 95, 109, 105, 115, 115, 101, 115]), .lit (.string [99, 97, 115, 95, 104, 105, 116, 115]), .lit (.string [99, 97, 115, 95, 98, 97, 100, 118, 97, 108]), .lit (.string [99, 97, 115, 95, 109, 105, 115, 115, 101, 115]), .lit (.string [116, 111, 117, 99, 104, 95, 104, 105, 116, 115]), .lit (.string [116, 111, 117, 99, 104, 95, 109, 105, 115, 115, 101, 115]), .lit (.string [101, 118, 105, 99, 116, 105, 111, 110, 115]), .lit (.string [114, 101, 99, 108, 97, 105, 109, 101, 100]), .lit (.string [114, 101, 102, 117, 115, 101, 100]), .lit (.string [116, 111, 116, 97, 108, 95, 105, 116, 101, 109, 115]), .lit (.string [99, 117, 114, 114, 95, 105, 116, 101, 109, 115]), .lit (.string [98, 121, 116, 101, 115]), .lit (.string [116, 111, 116, 97, 108, 95, 99, 111, 110, 110, 101, 99, 116, 105, 111, 110, 115]), .lit (.string [99, 117, 114, 114, 95, 99, 111, 110, 110, 101, 99, 116, 105, 111, 110, 115]), .lit (.string [99, 114, 97, 119, 108, 101, 100]), .lit (.string [98, 97, 100, 95, 108, 105, 110, 101, 115])]

/-- 'granarylaw15.CountExact': WHATEVER THE INPUT: true; the input reads as it did. -/
def countExactSpec : ChangeSpec := { name := "countExact", fn := fun _ => fun
  | [d] => { results := [.lit (.bool true)], args := [d] }
  | _ => none }
def countExactRow : OpenClaim := { program := "ytonbkpfnpnlkpaadoor", sum := "d1bc7878efd83917e871b608933dc4772f26d43ebce8dc0a3a31a5190ccfa7a7", func := "granary/granarylaw15.CountExact", spec := "countExact", inPlace := ["(*internal/sync.Mutex).Lock", "internal/race.Disable", "sync/atomic.CompareAndSwapInt32", "internal/race.Enable", "internal/race.Acquire", "(*internal/sync.Mutex).lockSlow", "internal/sync.runtime_canSpin", "internal/sync.runtime_doSpin", "internal/sync.throw", "internal/sync.runtime_nanotime", "internal/sync.runtime_SemacquireMutex", "sync/atomic.AddInt32", "(*internal/sync.Mutex).Unlock", "internal/race.ReleaseMerge", "(*internal/sync.Mutex).unlockSlow", "internal/sync.fatal", "internal/sync.runtime_Semrelease", "internal/bytealg.IndexByteString", "internal/bytealg.IndexString"], named := ["internal/bytealg.MaxLen", "granary/count.wordOf"], apart := false, laid := [("granary/count.wordOf", laid_granary_count_wordOf)] }
def CountExactSaid : Prop := countExactRow.holds Tryd.pinned (OpenSpec.ofChange countExactSpec)

/-- ITS FALSE NEIGHBOUR: 'it returns false'. Refute it at one input. -/
def countExactWrong : ChangeSpec := { name := "countExact", fn := fun _ => fun
  | [d] => { results := [.lit (.bool false)], args := [d] }
  | _ => none }
def CountExactWrongFalsely : Prop := countExactRow.holds Tryd.pinned (OpenSpec.ofChange countExactWrong)

/-- 'granarylaw15.CountTable': WHATEVER THE INPUT: true; the input reads as it did. -/
def countTableSpec : ChangeSpec := { name := "countTable", fn := fun _ => fun
  | [d] => { results := [.lit (.bool true)], args := [d] }
  | _ => none }
def countTableRow : OpenClaim := { program := "ytonbkpfnpnlkpaadoor", sum := "d1bc7878efd83917e871b608933dc4772f26d43ebce8dc0a3a31a5190ccfa7a7", func := "granary/granarylaw15.CountTable", spec := "countTable", inPlace := ["(*internal/sync.Mutex).Lock", "internal/race.Disable", "sync/atomic.CompareAndSwapInt32", "internal/race.Enable", "internal/race.Acquire", "(*internal/sync.Mutex).lockSlow", "internal/sync.runtime_canSpin", "internal/sync.runtime_doSpin", "internal/sync.throw", "internal/sync.runtime_nanotime", "internal/sync.runtime_SemacquireMutex", "sync/atomic.AddInt32", "(*internal/sync.Mutex).Unlock", "internal/race.ReleaseMerge", "(*internal/sync.Mutex).unlockSlow", "internal/sync.fatal", "internal/sync.runtime_Semrelease", "internal/bytealg.IndexByteString", "internal/bytealg.IndexString"], named := ["internal/bytealg.MaxLen", "granary/count.wordOf"], apart := false, laid := [("granary/count.wordOf", laid_granary_count_wordOf)] }
def CountTableSaid : Prop := countTableRow.holds Tryd.pinned (OpenSpec.ofChange countTableSpec)

/-- ITS FALSE NEIGHBOUR: 'it returns false'. Refute it at one input. -/
def countTableWrong : ChangeSpec := { name := "countTable", fn := fun _ => fun
  | [d] => { results := [.lit (.bool false)], args := [d] }
  | _ => none }
def CountTableWrongFalsely : Prop := countTableRow.holds Tryd.pinned (OpenSpec.ofChange countTableWrong)

/-- 'granarylaw15.CountSplits': WHATEVER THE INPUT: true; the input reads as it did. -/
def countSplitsSpec : ChangeSpec := { name := "countSplits", fn := fun _ => fun
  | [d] => { results := [.lit (.bool true)], args := [d] }
  | _ => none }
def countSplitsRow : OpenClaim := { program := "ytonbkpfnpnlkpaadoor", sum := "d1bc7878efd83917e871b608933dc4772f26d43ebce8dc0a3a31a5190ccfa7a7", func := "granary/granarylaw15.CountSplits", spec := "countSplits", inPlace := ["(*internal/sync.Mutex).Lock", "internal/race.Disable", "sync/atomic.CompareAndSwapInt32", "internal/race.Enable", "internal/race.Acquire", "(*internal/sync.Mutex).lockSlow", "internal/sync.runtime_canSpin", "internal/sync.runtime_doSpin", "internal/sync.throw", "internal/sync.runtime_nanotime", "internal/sync.runtime_SemacquireMutex", "sync/atomic.AddInt32", "(*internal/sync.Mutex).Unlock", "internal/race.ReleaseMerge", "(*internal/sync.Mutex).unlockSlow", "internal/sync.fatal", "internal/sync.runtime_Semrelease", "internal/bytealg.IndexByteString", "internal/bytealg.IndexString"], named := ["internal/bytealg.MaxLen", "granary/count.wordOf"], apart := false, laid := [("granary/count.wordOf", laid_granary_count_wordOf)] }
def CountSplitsSaid : Prop := countSplitsRow.holds Tryd.pinned (OpenSpec.ofChange countSplitsSpec)

/-- ITS FALSE NEIGHBOUR: 'it returns false'. Refute it at one input. -/
def countSplitsWrong : ChangeSpec := { name := "countSplits", fn := fun _ => fun
  | [d] => { results := [.lit (.bool false)], args := [d] }
  | _ => none }
def CountSplitsWrongFalsely : Prop := countSplitsRow.holds Tryd.pinned (OpenSpec.ofChange countSplitsWrong)

/-- 'granarylaw15.CountOrder': WHATEVER THE INPUT: true; the input reads as it did. -/
def countOrderSpec : ChangeSpec := { name := "countOrder", fn := fun _ => fun
  | [d] => { results := [.lit (.bool true)], args := [d] }
  | _ => none }
def countOrderRow : OpenClaim := { program := "ytonbkpfnpnlkpaadoor", sum := "d1bc7878efd83917e871b608933dc4772f26d43ebce8dc0a3a31a5190ccfa7a7", func := "granary/granarylaw15.CountOrder", spec := "countOrder", inPlace := ["(*internal/sync.Mutex).Lock", "internal/race.Disable", "sync/atomic.CompareAndSwapInt32", "internal/race.Enable", "internal/race.Acquire", "(*internal/sync.Mutex).lockSlow", "internal/sync.runtime_canSpin", "internal/sync.runtime_doSpin", "internal/sync.throw", "internal/sync.runtime_nanotime", "internal/sync.runtime_SemacquireMutex", "sync/atomic.AddInt32", "(*internal/sync.Mutex).Unlock", "internal/race.ReleaseMerge", "(*internal/sync.Mutex).unlockSlow", "internal/sync.fatal", "internal/sync.runtime_Semrelease", "internal/bytealg.IndexByteString", "internal/bytealg.IndexString"], named := ["internal/bytealg.MaxLen", "granary/count.wordOf"], apart := false, laid := [("granary/count.wordOf", laid_granary_count_wordOf)] }
def CountOrderSaid : Prop := countOrderRow.holds Tryd.pinned (OpenSpec.ofChange countOrderSpec)

/-- ITS FALSE NEIGHBOUR: 'it returns false'. Refute it at one input. -/
def countOrderWrong : ChangeSpec := { name := "countOrder", fn := fun _ => fun
  | [d] => { results := [.lit (.bool false)], args := [d] }
  | _ => none }
def CountOrderWrongFalsely : Prop := countOrderRow.holds Tryd.pinned (OpenSpec.ofChange countOrderWrong)

/-- 'granarylaw15.CountTop': WHATEVER THE INPUT: true; the input reads as it did. -/
def countTopSpec : ChangeSpec := { name := "countTop", fn := fun _ => fun
  | [d1, d2, d3] => { results := [.lit (.bool true)], args := [d1, d2, d3] }
  | _ => none }
def countTopRow : OpenClaim := { program := "ytonbkpfnpnlkpaadoor", sum := "d1bc7878efd83917e871b608933dc4772f26d43ebce8dc0a3a31a5190ccfa7a7", func := "granary/granarylaw15.CountTop", spec := "countTop", inPlace := ["(*internal/sync.Mutex).Lock", "internal/race.Disable", "sync/atomic.CompareAndSwapInt32", "internal/race.Enable", "internal/race.Acquire", "(*internal/sync.Mutex).lockSlow", "internal/sync.runtime_canSpin", "internal/sync.runtime_doSpin", "internal/sync.throw", "internal/sync.runtime_nanotime", "internal/sync.runtime_SemacquireMutex", "sync/atomic.AddInt32", "(*internal/sync.Mutex).Unlock", "internal/race.ReleaseMerge", "(*internal/sync.Mutex).unlockSlow", "internal/sync.fatal", "internal/sync.runtime_Semrelease", "internal/bytealg.IndexByteString", "internal/bytealg.IndexString"], named := ["internal/bytealg.MaxLen", "granary/count.wordOf"], apart := false, laid := [("granary/count.wordOf", laid_granary_count_wordOf)] }
def CountTopSaid : Prop := countTopRow.holds Tryd.pinned (OpenSpec.ofChange countTopSpec)

/-- ITS FALSE NEIGHBOUR: 'it returns false'. Refute it at one input. -/
def countTopWrong : ChangeSpec := { name := "countTop", fn := fun _ => fun
  | [d1, d2, d3] => { results := [.lit (.bool false)], args := [d1, d2, d3] }
  | _ => none }
def CountTopWrongFalsely : Prop := countTopRow.holds Tryd.pinned (OpenSpec.ofChange countTopWrong)

/-- 'granarylaw15.CountNames': WHATEVER THE INPUT: true; the input reads as it did. -/
def countNamesSpec : ChangeSpec := { name := "countNames", fn := fun _ => fun
  | [] => { results := [.lit (.bool true)], args := [] }
  | _ => none }
def countNamesRow : OpenClaim := { program := "ytonbkpfnpnlkpaadoor", sum := "d1bc7878efd83917e871b608933dc4772f26d43ebce8dc0a3a31a5190ccfa7a7", func := "granary/granarylaw15.CountNames", spec := "countNames", inPlace := ["(*internal/sync.Mutex).Lock", "internal/race.Disable", "sync/atomic.CompareAndSwapInt32", "internal/race.Enable", "internal/race.Acquire", "(*internal/sync.Mutex).lockSlow", "internal/sync.runtime_canSpin", "internal/sync.runtime_doSpin", "internal/sync.throw", "internal/sync.runtime_nanotime", "internal/sync.runtime_SemacquireMutex", "sync/atomic.AddInt32", "(*internal/sync.Mutex).Unlock", "internal/race.ReleaseMerge", "(*internal/sync.Mutex).unlockSlow", "internal/sync.fatal", "internal/sync.runtime_Semrelease", "internal/bytealg.IndexByteString", "internal/bytealg.IndexString"], named := ["internal/bytealg.MaxLen", "granary/count.wordOf"], apart := false, laid := [("granary/count.wordOf", laid_granary_count_wordOf)] }
def CountNamesSaid : Prop := countNamesRow.holds Tryd.pinned (OpenSpec.ofChange countNamesSpec)

/-- ITS FALSE NEIGHBOUR: 'it returns false'. Refute it at one input. -/
def countNamesWrong : ChangeSpec := { name := "countNames", fn := fun _ => fun
  | [] => { results := [.lit (.bool false)], args := [] }
  | _ => none }
def CountNamesWrongFalsely : Prop := countNamesRow.holds Tryd.pinned (OpenSpec.ofChange countNamesWrong)

/-- 'granarylaw15.CountOwn': WHATEVER THE INPUT: true; the input reads as it did. -/
def countOwnSpec : ChangeSpec := { name := "countOwn", fn := fun _ => fun
  | [d] => { results := [.lit (.bool true)], args := [d] }
  | _ => none }
def countOwnRow : OpenClaim := { program := "ytonbkpfnpnlkpaadoor", sum := "d1bc7878efd83917e871b608933dc4772f26d43ebce8dc0a3a31a5190ccfa7a7", func := "granary/granarylaw15.CountOwn", spec := "countOwn", inPlace := ["(*internal/sync.Mutex).Lock", "internal/race.Disable", "sync/atomic.CompareAndSwapInt32", "internal/race.Enable", "internal/race.Acquire", "(*internal/sync.Mutex).lockSlow", "internal/sync.runtime_canSpin", "internal/sync.runtime_doSpin", "internal/sync.throw", "internal/sync.runtime_nanotime", "internal/sync.runtime_SemacquireMutex", "sync/atomic.AddInt32", "(*internal/sync.Mutex).Unlock", "internal/race.ReleaseMerge", "(*internal/sync.Mutex).unlockSlow", "internal/sync.fatal", "internal/sync.runtime_Semrelease", "internal/bytealg.IndexByteString", "internal/bytealg.IndexString"], recurses := true, named := ["internal/bytealg.MaxLen", "granary/count.wordOf"], apart := false, laid := [("granary/count.wordOf", laid_granary_count_wordOf)] }
def CountOwnSaid : Prop := countOwnRow.holds Tryd.pinned (OpenSpec.ofChange countOwnSpec)

/-- ITS FALSE NEIGHBOUR: 'it returns false'. Refute it at one input. -/
def countOwnWrong : ChangeSpec := { name := "countOwn", fn := fun _ => fun
  | [d] => { results := [.lit (.bool false)], args := [d] }
  | _ => none }
def CountOwnWrongFalsely : Prop := countOwnRow.holds Tryd.pinned (OpenSpec.ofChange countOwnWrong)

/- THE SECOND FORM. 'bulk': how many values and letters a reading holds, each counted each time it is reached (what is shared counts as often as it is met; a slice's spare places count too). A statement '..UptoSaid' is the law's where the arguments, and the package variables that the reading takes, are together of bulk at most 1048576: NARROWER than '..Said'. Prove '..Said' where nothing that the law and all that it calls make is longer than what came in: it says more and counts as full. Else prove '..UptoSaid'. A law counts once. -/
mutual
def uptoBulk {H : Type} : DataW H → Nat
  | .lit (.string bytes) => bytes.length + 1
  | .lit _ => 1
  | .nil => 1
  | .ptr d => uptoBulk d + 1
  | .slice elems spare => uptoBulkAll elems + uptoBulkAll spare + 1
  | .agg parts => uptoBulkAll parts + 1
  | .iface _ d => uptoBulk d + 1
  | .map entries => uptoBulkEntries entries + 1
  | .held _ => 1
def uptoBulkAll {H : Type} : List (DataW H) → Nat
  | [] => 0
  | d :: r => uptoBulk d + uptoBulkAll r
def uptoBulkEntries {H : Type} : List (Lit × DataW H) → Nat
  | [] => 0
  | x :: r => uptoBulkEntry x + uptoBulkEntries r
def uptoBulkEntry {H : Type} : Lit × DataW H → Nat
  | (.string bytes, d) => bytes.length + uptoBulk d + 1
  | (_, d) => uptoBulk d + 1
 end
def uptoSmall : (H : Type) → List (DataW H) → Bool := fun _ ds => decide (uptoBulkAll ds ≤ 1048576)
def OpenSpec.upto (s : _root_.Go.ChangeSpec) : _root_.Go.OpenSpec := { _root_.Go.OpenSpec.ofChange s with cond := some uptoSmall }

/-- 'granarylaw15.CountExact', WHERE WHAT IT READS IS OF BULK AT MOST 1048576: true; the input reads as it did. -/
def countExactUptoRow : OpenClaim := { program := "ytonbkpfnpnlkpaadoor", sum := "d1bc7878efd83917e871b608933dc4772f26d43ebce8dc0a3a31a5190ccfa7a7", func := "granary/granarylaw15.CountExact", spec := "countExact", inPlace := ["(*internal/sync.Mutex).Lock", "internal/race.Disable", "sync/atomic.CompareAndSwapInt32", "internal/race.Enable", "internal/race.Acquire", "(*internal/sync.Mutex).lockSlow", "internal/sync.runtime_canSpin", "internal/sync.runtime_doSpin", "internal/sync.throw", "internal/sync.runtime_nanotime", "internal/sync.runtime_SemacquireMutex", "sync/atomic.AddInt32", "(*internal/sync.Mutex).Unlock", "internal/race.ReleaseMerge", "(*internal/sync.Mutex).unlockSlow", "internal/sync.fatal", "internal/sync.runtime_Semrelease", "internal/bytealg.IndexByteString", "internal/bytealg.IndexString"], named := ["internal/bytealg.MaxLen", "granary/count.wordOf"], apart := false, laid := [("granary/count.wordOf", laid_granary_count_wordOf)], narrowed := true }
def CountExactUptoSaid : Prop := countExactUptoRow.holds Tryd.pinned (OpenSpec.upto countExactSpec)

/-- 'granarylaw15.CountTable', WHERE WHAT IT READS IS OF BULK AT MOST 1048576: true; the input reads as it did. -/
def countTableUptoRow : OpenClaim := { program := "ytonbkpfnpnlkpaadoor", sum := "d1bc7878efd83917e871b608933dc4772f26d43ebce8dc0a3a31a5190ccfa7a7", func := "granary/granarylaw15.CountTable", spec := "countTable", inPlace := ["(*internal/sync.Mutex).Lock", "internal/race.Disable", "sync/atomic.CompareAndSwapInt32", "internal/race.Enable", "internal/race.Acquire", "(*internal/sync.Mutex).lockSlow", "internal/sync.runtime_canSpin", "internal/sync.runtime_doSpin", "internal/sync.throw", "internal/sync.runtime_nanotime", "internal/sync.runtime_SemacquireMutex", "sync/atomic.AddInt32", "(*internal/sync.Mutex).Unlock", "internal/race.ReleaseMerge", "(*internal/sync.Mutex).unlockSlow", "internal/sync.fatal", "internal/sync.runtime_Semrelease", "internal/bytealg.IndexByteString", "internal/bytealg.IndexString"], named := ["internal/bytealg.MaxLen", "granary/count.wordOf"], apart := false, laid := [("granary/count.wordOf", laid_granary_count_wordOf)], narrowed := true }
def CountTableUptoSaid : Prop := countTableUptoRow.holds Tryd.pinned (OpenSpec.upto countTableSpec)

/-- 'granarylaw15.CountSplits', WHERE WHAT IT READS IS OF BULK AT MOST 1048576: true; the input reads as it did. -/
def countSplitsUptoRow : OpenClaim := { program := "ytonbkpfnpnlkpaadoor", sum := "d1bc7878efd83917e871b608933dc4772f26d43ebce8dc0a3a31a5190ccfa7a7", func := "granary/granarylaw15.CountSplits", spec := "countSplits", inPlace := ["(*internal/sync.Mutex).Lock", "internal/race.Disable", "sync/atomic.CompareAndSwapInt32", "internal/race.Enable", "internal/race.Acquire", "(*internal/sync.Mutex).lockSlow", "internal/sync.runtime_canSpin", "internal/sync.runtime_doSpin", "internal/sync.throw", "internal/sync.runtime_nanotime", "internal/sync.runtime_SemacquireMutex", "sync/atomic.AddInt32", "(*internal/sync.Mutex).Unlock", "internal/race.ReleaseMerge", "(*internal/sync.Mutex).unlockSlow", "internal/sync.fatal", "internal/sync.runtime_Semrelease", "internal/bytealg.IndexByteString", "internal/bytealg.IndexString"], named := ["internal/bytealg.MaxLen", "granary/count.wordOf"], apart := false, laid := [("granary/count.wordOf", laid_granary_count_wordOf)], narrowed := true }
def CountSplitsUptoSaid : Prop := countSplitsUptoRow.holds Tryd.pinned (OpenSpec.upto countSplitsSpec)

/-- 'granarylaw15.CountOrder', WHERE WHAT IT READS IS OF BULK AT MOST 1048576: true; the input reads as it did. -/
def countOrderUptoRow : OpenClaim := { program := "ytonbkpfnpnlkpaadoor", sum := "d1bc7878efd83917e871b608933dc4772f26d43ebce8dc0a3a31a5190ccfa7a7", func := "granary/granarylaw15.CountOrder", spec := "countOrder", inPlace := ["(*internal/sync.Mutex).Lock", "internal/race.Disable", "sync/atomic.CompareAndSwapInt32", "internal/race.Enable", "internal/race.Acquire", "(*internal/sync.Mutex).lockSlow", "internal/sync.runtime_canSpin", "internal/sync.runtime_doSpin", "internal/sync.throw", "internal/sync.runtime_nanotime", "internal/sync.runtime_SemacquireMutex", "sync/atomic.AddInt32", "(*internal/sync.Mutex).Unlock", "internal/race.ReleaseMerge", "(*internal/sync.Mutex).unlockSlow", "internal/sync.fatal", "internal/sync.runtime_Semrelease", "internal/bytealg.IndexByteString", "internal/bytealg.IndexString"], named := ["internal/bytealg.MaxLen", "granary/count.wordOf"], apart := false, laid := [("granary/count.wordOf", laid_granary_count_wordOf)], narrowed := true }
def CountOrderUptoSaid : Prop := countOrderUptoRow.holds Tryd.pinned (OpenSpec.upto countOrderSpec)

/-- 'granarylaw15.CountTop', WHERE WHAT IT READS IS OF BULK AT MOST 1048576: true; the input reads as it did. -/
def countTopUptoRow : OpenClaim := { program := "ytonbkpfnpnlkpaadoor", sum := "d1bc7878efd83917e871b608933dc4772f26d43ebce8dc0a3a31a5190ccfa7a7", func := "granary/granarylaw15.CountTop", spec := "countTop", inPlace := ["(*internal/sync.Mutex).Lock", "internal/race.Disable", "sync/atomic.CompareAndSwapInt32", "internal/race.Enable", "internal/race.Acquire", "(*internal/sync.Mutex).lockSlow", "internal/sync.runtime_canSpin", "internal/sync.runtime_doSpin", "internal/sync.throw", "internal/sync.runtime_nanotime", "internal/sync.runtime_SemacquireMutex", "sync/atomic.AddInt32", "(*internal/sync.Mutex).Unlock", "internal/race.ReleaseMerge", "(*internal/sync.Mutex).unlockSlow", "internal/sync.fatal", "internal/sync.runtime_Semrelease", "internal/bytealg.IndexByteString", "internal/bytealg.IndexString"], named := ["internal/bytealg.MaxLen", "granary/count.wordOf"], apart := false, laid := [("granary/count.wordOf", laid_granary_count_wordOf)], narrowed := true }
def CountTopUptoSaid : Prop := countTopUptoRow.holds Tryd.pinned (OpenSpec.upto countTopSpec)

/-- 'granarylaw15.CountNames', WHERE WHAT IT READS IS OF BULK AT MOST 1048576: true; the input reads as it did. -/
def countNamesUptoRow : OpenClaim := { program := "ytonbkpfnpnlkpaadoor", sum := "d1bc7878efd83917e871b608933dc4772f26d43ebce8dc0a3a31a5190ccfa7a7", func := "granary/granarylaw15.CountNames", spec := "countNames", inPlace := ["(*internal/sync.Mutex).Lock", "internal/race.Disable", "sync/atomic.CompareAndSwapInt32", "internal/race.Enable", "internal/race.Acquire", "(*internal/sync.Mutex).lockSlow", "internal/sync.runtime_canSpin", "internal/sync.runtime_doSpin", "internal/sync.throw", "internal/sync.runtime_nanotime", "internal/sync.runtime_SemacquireMutex", "sync/atomic.AddInt32", "(*internal/sync.Mutex).Unlock", "internal/race.ReleaseMerge", "(*internal/sync.Mutex).unlockSlow", "internal/sync.fatal", "internal/sync.runtime_Semrelease", "internal/bytealg.IndexByteString", "internal/bytealg.IndexString"], named := ["internal/bytealg.MaxLen", "granary/count.wordOf"], apart := false, laid := [("granary/count.wordOf", laid_granary_count_wordOf)], narrowed := true }
def CountNamesUptoSaid : Prop := countNamesUptoRow.holds Tryd.pinned (OpenSpec.upto countNamesSpec)

/-- 'granarylaw15.CountOwn', WHERE WHAT IT READS IS OF BULK AT MOST 1048576: true; the input reads as it did. -/
def countOwnUptoRow : OpenClaim := { program := "ytonbkpfnpnlkpaadoor", sum := "d1bc7878efd83917e871b608933dc4772f26d43ebce8dc0a3a31a5190ccfa7a7", func := "granary/granarylaw15.CountOwn", spec := "countOwn", inPlace := ["(*internal/sync.Mutex).Lock", "internal/race.Disable", "sync/atomic.CompareAndSwapInt32", "internal/race.Enable", "internal/race.Acquire", "(*internal/sync.Mutex).lockSlow", "internal/sync.runtime_canSpin", "internal/sync.runtime_doSpin", "internal/sync.throw", "internal/sync.runtime_nanotime", "internal/sync.runtime_SemacquireMutex", "sync/atomic.AddInt32", "(*internal/sync.Mutex).Unlock", "internal/race.ReleaseMerge", "(*internal/sync.Mutex).unlockSlow", "internal/sync.fatal", "internal/sync.runtime_Semrelease", "internal/bytealg.IndexByteString", "internal/bytealg.IndexString"], recurses := true, named := ["internal/bytealg.MaxLen", "granary/count.wordOf"], apart := false, laid := [("granary/count.wordOf", laid_granary_count_wordOf)], narrowed := true }
def CountOwnUptoSaid : Prop := countOwnUptoRow.holds Tryd.pinned (OpenSpec.upto countOwnSpec)

end Rows
end Go.Proofs.YtonbkpfnpnlkpaaDoor

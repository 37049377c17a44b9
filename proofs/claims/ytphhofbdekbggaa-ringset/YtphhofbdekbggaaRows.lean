/-
  No cell of these rows narrows 'for every input' (looked for: loops, veiled, ifaces, maps, wideKeys, modest, calm, conditions, laid).
  DERIVED. THE GIVEN ROWS OF THIS SEAT. 3 by the template 'for every input the law returns true; each argument reads behind the call as it read before'; 0 by the template 'total and deterministic' (their statements: YtphhofbdekbggaaTotals.lean).
  GIVEN WITH THE SEED: the statements are not yours to turn. If you find one false, say at which input.
  Laid BY PROGRAM, IN A SANDBOX (cutbox-rows.mjs): the forced cells as the released guide's own fill.sh prints them over the translation cd56662a41d66e7d… (all of the seat's roots in one cut). By AI agents, Wed Nov 11 2026. No macro, syntax, notation, axiom, sorry.
-/
import Derived.Test.YtphhofbdekbggaaChecked
import GoSem.Claim
import GoSem.ClaimJoined
import GoSem.ClaimMapViews
import Derived.JoinedTies
import Derived.KernelRfl
namespace Go.Proofs.Ytphhofbdekbggaa
/- THE CELL 'sum', in the pinned program and in every row, IS THE sha256 OF THE DUMP (.gsa) THAT YtphhofbdekbggaaProg.lean LOADS. Nothing in Lean hashes anything: it is a label: what it is worth is what the hold of that sum in a sandbox is worth. -/
noncomputable def Try.pinned : Pinned := { name := "ytphhofbdekbggaa", sum := "cd56662a41d66e7d791c847f756384b3ba2d4d5b1d606171626a9f78da2fcf73", checked := Try.checked }
namespace Rows
def none {H : Type} : Left H := { results := [], args := [] }

/-- 'granarylaw19.RingSet': WHATEVER THE INPUT: true; the input reads as it did. -/
def ringSetSpec : ChangeSpec := { name := "ringSet", fn := fun _ => fun
  | [d] => { results := [.lit (.bool true)], args := [d] }
  | _ => none }
def ringSetRow : OpenClaim := { program := "ytphhofbdekbggaa", sum := "cd56662a41d66e7d791c847f756384b3ba2d4d5b1d606171626a9f78da2fcf73", func := "granary/granarylaw19.RingSet", spec := "ringSet", inPlace := ["slices.overlaps[granary/api.Server]"], unfollowed := true, recurses := true, plainKeys := false, apart := false }
def RingSetSaid : Prop := ringSetRow.holds Try.pinned (OpenSpec.ofChange ringSetSpec)

/-- ITS FALSE NEIGHBOUR: 'it returns false'. Refute it at one input. -/
def ringSetWrong : ChangeSpec := { name := "ringSet", fn := fun _ => fun
  | [d] => { results := [.lit (.bool false)], args := [d] }
  | _ => none }
def RingSetWrongFalsely : Prop := ringSetRow.holds Try.pinned (OpenSpec.ofChange ringSetWrong)

/-- 'granarylaw19.RingMoves': WHATEVER THE INPUT: true; the input reads as it did. -/
def ringMovesSpec : ChangeSpec := { name := "ringMoves", fn := fun _ => fun
  | [d] => { results := [.lit (.bool true)], args := [d] }
  | _ => none }
def ringMovesRow : OpenClaim := { program := "ytphhofbdekbggaa", sum := "cd56662a41d66e7d791c847f756384b3ba2d4d5b1d606171626a9f78da2fcf73", func := "granary/granarylaw19.RingMoves", spec := "ringMoves", inPlace := ["slices.overlaps[granary/api.Server]"], unfollowed := true, recurses := true, plainKeys := false, apart := false }
def RingMovesSaid : Prop := ringMovesRow.holds Try.pinned (OpenSpec.ofChange ringMovesSpec)

/-- ITS FALSE NEIGHBOUR: 'it returns false'. Refute it at one input. -/
def ringMovesWrong : ChangeSpec := { name := "ringMoves", fn := fun _ => fun
  | [d] => { results := [.lit (.bool false)], args := [d] }
  | _ => none }
def RingMovesWrongFalsely : Prop := ringMovesRow.holds Try.pinned (OpenSpec.ofChange ringMovesWrong)

/-- 'granarylaw19.RingRound': WHATEVER THE INPUT: true; the input reads as it did. -/
def ringRoundSpec : ChangeSpec := { name := "ringRound", fn := fun _ => fun
  | [d] => { results := [.lit (.bool true)], args := [d] }
  | _ => none }
def ringRoundRow : OpenClaim := { program := "ytphhofbdekbggaa", sum := "cd56662a41d66e7d791c847f756384b3ba2d4d5b1d606171626a9f78da2fcf73", func := "granary/granarylaw19.RingRound", spec := "ringRound", unfollowed := true, recurses := true, plainKeys := false, apart := false }
def RingRoundSaid : Prop := ringRoundRow.holds Try.pinned (OpenSpec.ofChange ringRoundSpec)

/-- ITS FALSE NEIGHBOUR: 'it returns false'. Refute it at one input. -/
def ringRoundWrong : ChangeSpec := { name := "ringRound", fn := fun _ => fun
  | [d] => { results := [.lit (.bool false)], args := [d] }
  | _ => none }
def RingRoundWrongFalsely : Prop := ringRoundRow.holds Try.pinned (OpenSpec.ofChange ringRoundWrong)

/- THE SECOND FORM. 'bulk': how many values and letters a reading holds, each counted each time it is reached (what is shared counts as often as it is met; a slice's spare places count too). A statement '..UptoSaid' is the law's where the arguments, and the package variables that the reading takes, are together of bulk at most 1048576: NARROWER than '..Said'. Prove '..Said' where nothing that the law and all that it calls make is longer than what came in: it says more and counts as full. Else prove '..UptoSaid'. A law counts once. -/
mutual
def uptoBulk {H : Type} : DataW H → Nat
  | .lit (.string bytes) => bytes.length + 1
  | .lit _ => 1
  | .nil => 1
  | .ptr d => uptoBulk d + 1
  | .slice elems spare => uptoBulkAll elems + uptoBulkAll spare + 1
  | .agg parts => uptoBulkAll parts + 1
  | .iface _ d => uptoBulk d + 1
  | .map entries => uptoBulkEntries entries + 1
  | .held _ => 1
def uptoBulkAll {H : Type} : List (DataW H) → Nat
  | [] => 0
  | d :: r => uptoBulk d + uptoBulkAll r
def uptoBulkEntries {H : Type} : List (Lit × DataW H) → Nat
  | [] => 0
  | x :: r => uptoBulkEntry x + uptoBulkEntries r
def uptoBulkEntry {H : Type} : Lit × DataW H → Nat
  | (.string bytes, d) => bytes.length + uptoBulk d + 1
  | (_, d) => uptoBulk d + 1
 end
def uptoSmall : (H : Type) → List (DataW H) → Bool := fun _ ds => decide (uptoBulkAll ds ≤ 1048576)
def OpenSpec.upto (s : _root_.Go.ChangeSpec) : _root_.Go.OpenSpec := { _root_.Go.OpenSpec.ofChange s with cond := some uptoSmall }

/-- 'granarylaw19.RingSet', WHERE WHAT IT READS IS OF BULK AT MOST 1048576: true; the input reads as it did. -/
def ringSetUptoRow : OpenClaim := { program := "ytphhofbdekbggaa", sum := "cd56662a41d66e7d791c847f756384b3ba2d4d5b1d606171626a9f78da2fcf73", func := "granary/granarylaw19.RingSet", spec := "ringSet", inPlace := ["slices.overlaps[granary/api.Server]"], unfollowed := true, recurses := true, plainKeys := false, apart := false, narrowed := true }
def RingSetUptoSaid : Prop := ringSetUptoRow.holds Try.pinned (OpenSpec.upto ringSetSpec)

/-- 'granarylaw19.RingMoves', WHERE WHAT IT READS IS OF BULK AT MOST 1048576: true; the input reads as it did. -/
def ringMovesUptoRow : OpenClaim := { program := "ytphhofbdekbggaa", sum := "cd56662a41d66e7d791c847f756384b3ba2d4d5b1d606171626a9f78da2fcf73", func := "granary/granarylaw19.RingMoves", spec := "ringMoves", inPlace := ["slices.overlaps[granary/api.Server]"], unfollowed := true, recurses := true, plainKeys := false, apart := false, narrowed := true }
def RingMovesUptoSaid : Prop := ringMovesUptoRow.holds Try.pinned (OpenSpec.upto ringMovesSpec)

/-- 'granarylaw19.RingRound', WHERE WHAT IT READS IS OF BULK AT MOST 1048576: true; the input reads as it did. -/
def ringRoundUptoRow : OpenClaim := { program := "ytphhofbdekbggaa", sum := "cd56662a41d66e7d791c847f756384b3ba2d4d5b1d606171626a9f78da2fcf73", func := "granary/granarylaw19.RingRound", spec := "ringRound", unfollowed := true, recurses := true, plainKeys := false, apart := false, narrowed := true }
def RingRoundUptoSaid : Prop := ringRoundUptoRow.holds Try.pinned (OpenSpec.upto ringRoundSpec)

end Rows
end Go.Proofs.Ytphhofbdekbggaa

/-
  No cell of these rows narrows 'for every input' (looked for: loops, veiled, ifaces, maps, wideKeys, modest, calm, conditions, laid).
  DERIVED. THE GIVEN ROWS OF THIS SEAT. 4 by the template 'for every input the law returns true; each argument reads behind the call as it read before'; 0 by the template 'total and deterministic' (their statements: YtdlaanigfhlolaaGreatTotals.lean).
  GIVEN WITH THE SEED: the statements are not yours to turn. If you find one false, say at which input.
  Laid BY PROGRAM, IN A SANDBOX (cutbox-rows.mjs): the forced cells as the released guide's own fill.sh prints them over the translation f232b4de3023015f… (all of the seat's roots in one cut). By AI agents, Wed Nov 11 2026. No macro, syntax, notation, axiom, sorry.
-/
import Derived.Test.YtdlaanigfhlolaaGreatChecked
import GoSem.Claim
import GoSem.ClaimJoined
import GoSem.ClaimMapViews
import Derived.JoinedTies
import Derived.KernelRfl
namespace Go.Proofs.YtdlaanigfhlolaaGreat
/- THE CELL 'sum', in the pinned program and in every row, IS THE sha256 OF THE DUMP (.gsa) THAT YtdlaanigfhlolaaGreatProg.lean LOADS. Nothing in Lean hashes anything: it is a label: what it is worth is what the hold of that sum in a sandbox is worth. -/
noncomputable def Tryz.pinned : Pinned := { name := "ytdlaanigfhlolaagreat", sum := "f232b4de3023015f61b4b98c314d4c834455c475eac6a7f5ef1af0f32d4197f3", checked := Tryz.checked }
namespace Rows
def none {H : Type} : Left H := { results := [], args := [] }

/-- 'granarylaw05.TableExact': WHATEVER THE INPUT: true; the input reads as it did. -/
def tableExactSpec : ChangeSpec := { name := "tableExact", fn := fun _ => fun
  | [d] => { results := [.lit (.bool true)], args := [d] }
  | _ => none }
def tableExactRow : OpenClaim := { program := "ytdlaanigfhlolaagreat", sum := "f232b4de3023015f61b4b98c314d4c834455c475eac6a7f5ef1af0f32d4197f3", func := "granary/granarylaw05.TableExact", spec := "tableExact", recurses := true, apart := false }
def TableExactSaid : Prop := tableExactRow.holds Tryz.pinned (OpenSpec.ofChange tableExactSpec)

/-- ITS FALSE NEIGHBOUR: 'it returns false'. Refute it at one input. -/
def tableExactWrong : ChangeSpec := { name := "tableExact", fn := fun _ => fun
  | [d] => { results := [.lit (.bool false)], args := [d] }
  | _ => none }
def TableExactWrongFalsely : Prop := tableExactRow.holds Tryz.pinned (OpenSpec.ofChange tableExactWrong)

/-- 'granarylaw05.TableNames': WHATEVER THE INPUT: true; the input reads as it did. -/
def tableNamesSpec : ChangeSpec := { name := "tableNames", fn := fun _ => fun
  | [] => { results := [.lit (.bool true)], args := [] }
  | _ => none }
def tableNamesRow : OpenClaim := { program := "ytdlaanigfhlolaagreat", sum := "f232b4de3023015f61b4b98c314d4c834455c475eac6a7f5ef1af0f32d4197f3", func := "granary/granarylaw05.TableNames", spec := "tableNames", apart := false }
def TableNamesSaid : Prop := tableNamesRow.holds Tryz.pinned (OpenSpec.ofChange tableNamesSpec)

/-- ITS FALSE NEIGHBOUR: 'it returns false'. Refute it at one input. -/
def tableNamesWrong : ChangeSpec := { name := "tableNames", fn := fun _ => fun
  | [] => { results := [.lit (.bool false)], args := [] }
  | _ => none }
def TableNamesWrongFalsely : Prop := tableNamesRow.holds Tryz.pinned (OpenSpec.ofChange tableNamesWrong)

/-- 'granarylaw05.TablePace': WHATEVER THE INPUT: true; the input reads as it did. -/
def tablePaceSpec : ChangeSpec := { name := "tablePace", fn := fun _ => fun
  | [d] => { results := [.lit (.bool true)], args := [d] }
  | _ => none }
def tablePaceRow : OpenClaim := { program := "ytdlaanigfhlolaagreat", sum := "f232b4de3023015f61b4b98c314d4c834455c475eac6a7f5ef1af0f32d4197f3", func := "granary/granarylaw05.TablePace", spec := "tablePace", recurses := true, apart := false }
def TablePaceSaid : Prop := tablePaceRow.holds Tryz.pinned (OpenSpec.ofChange tablePaceSpec)

/-- ITS FALSE NEIGHBOUR: 'it returns false'. Refute it at one input. -/
def tablePaceWrong : ChangeSpec := { name := "tablePace", fn := fun _ => fun
  | [d] => { results := [.lit (.bool false)], args := [d] }
  | _ => none }
def TablePaceWrongFalsely : Prop := tablePaceRow.holds Tryz.pinned (OpenSpec.ofChange tablePaceWrong)

/-- 'granarylaw05.TableMap': WHATEVER THE INPUT: true; the input reads as it did. -/
def tableMapSpec : ChangeSpec := { name := "tableMap", fn := fun _ => fun
  | [d] => { results := [.lit (.bool true)], args := [d] }
  | _ => none }
def tableMapRow : OpenClaim := { program := "ytdlaanigfhlolaagreat", sum := "f232b4de3023015f61b4b98c314d4c834455c475eac6a7f5ef1af0f32d4197f3", func := "granary/granarylaw05.TableMap", spec := "tableMap", apart := false }
def TableMapSaid : Prop := tableMapRow.holds Tryz.pinned (OpenSpec.ofChange tableMapSpec)

/-- ITS FALSE NEIGHBOUR: 'it returns false'. Refute it at one input. -/
def tableMapWrong : ChangeSpec := { name := "tableMap", fn := fun _ => fun
  | [d] => { results := [.lit (.bool false)], args := [d] }
  | _ => none }
def TableMapWrongFalsely : Prop := tableMapRow.holds Tryz.pinned (OpenSpec.ofChange tableMapWrong)

/- THE SECOND FORM. 'bulk': how many values and letters a reading holds, each counted each time it is reached (what is shared counts as often as it is met; a slice's spare places count too). A statement '..UptoSaid' is the law's where the arguments, and the package variables that the reading takes, are together of bulk at most 1048576: NARROWER than '..Said'. Prove '..Said' where nothing that the law and all that it calls make is longer than what came in: it says more and counts as full. Else prove '..UptoSaid'. A law counts once. -/
mutual
def uptoBulk {H : Type} : DataW H → Nat
  | .lit (.string bytes) => bytes.length + 1
  | .lit _ => 1
  | .nil => 1
  | .ptr d => uptoBulk d + 1
  | .slice elems spare => uptoBulkAll elems + uptoBulkAll spare + 1
  | .agg parts => uptoBulkAll parts + 1
  | .iface _ d => uptoBulk d + 1
  | .map entries => uptoBulkEntries entries + 1
  | .held _ => 1
def uptoBulkAll {H : Type} : List (DataW H) → Nat
  | [] => 0
  | d :: r => uptoBulk d + uptoBulkAll r
def uptoBulkEntries {H : Type} : List (Lit × DataW H) → Nat
  | [] => 0
  | x :: r => uptoBulkEntry x + uptoBulkEntries r
def uptoBulkEntry {H : Type} : Lit × DataW H → Nat
  | (.string bytes, d) => bytes.length + uptoBulk d + 1
  | (_, d) => uptoBulk d + 1
 end
def uptoSmall : (H : Type) → List (DataW H) → Bool := fun _ ds => decide (uptoBulkAll ds ≤ 1048576)
def OpenSpec.upto (s : _root_.Go.ChangeSpec) : _root_.Go.OpenSpec := { _root_.Go.OpenSpec.ofChange s with cond := some uptoSmall }

/-- 'granarylaw05.TableExact', WHERE WHAT IT READS IS OF BULK AT MOST 1048576: true; the input reads as it did. -/
def tableExactUptoRow : OpenClaim := { program := "ytdlaanigfhlolaagreat", sum := "f232b4de3023015f61b4b98c314d4c834455c475eac6a7f5ef1af0f32d4197f3", func := "granary/granarylaw05.TableExact", spec := "tableExact", recurses := true, apart := false, narrowed := true }
def TableExactUptoSaid : Prop := tableExactUptoRow.holds Tryz.pinned (OpenSpec.upto tableExactSpec)

/-- 'granarylaw05.TableNames', WHERE WHAT IT READS IS OF BULK AT MOST 1048576: true; the input reads as it did. -/
def tableNamesUptoRow : OpenClaim := { program := "ytdlaanigfhlolaagreat", sum := "f232b4de3023015f61b4b98c314d4c834455c475eac6a7f5ef1af0f32d4197f3", func := "granary/granarylaw05.TableNames", spec := "tableNames", apart := false, narrowed := true }
def TableNamesUptoSaid : Prop := tableNamesUptoRow.holds Tryz.pinned (OpenSpec.upto tableNamesSpec)

/-- 'granarylaw05.TablePace', WHERE WHAT IT READS IS OF BULK AT MOST 1048576: true; the input reads as it did. -/
def tablePaceUptoRow : OpenClaim := { program := "ytdlaanigfhlolaagreat", sum := "f232b4de3023015f61b4b98c314d4c834455c475eac6a7f5ef1af0f32d4197f3", func := "granary/granarylaw05.TablePace", spec := "tablePace", recurses := true, apart := false, narrowed := true }
def TablePaceUptoSaid : Prop := tablePaceUptoRow.holds Tryz.pinned (OpenSpec.upto tablePaceSpec)

/-- 'granarylaw05.TableMap', WHERE WHAT IT READS IS OF BULK AT MOST 1048576: true; the input reads as it did. -/
def tableMapUptoRow : OpenClaim := { program := "ytdlaanigfhlolaagreat", sum := "f232b4de3023015f61b4b98c314d4c834455c475eac6a7f5ef1af0f32d4197f3", func := "granary/granarylaw05.TableMap", spec := "tableMap", apart := false, narrowed := true }
def TableMapUptoSaid : Prop := tableMapUptoRow.holds Tryz.pinned (OpenSpec.upto tableMapSpec)

end Rows
end Go.Proofs.YtdlaanigfhlolaaGreat

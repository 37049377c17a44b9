/-
  No cell of these rows narrows 'for every input' (looked for: loops, veiled, ifaces, maps, wideKeys, modest, calm, conditions, laid).
  DERIVED. THE GIVEN ROWS OF THIS SEAT. 9 by the template 'for every input the law returns true; each argument reads behind the call as it read before'; 0 by the template 'total and deterministic' (their statements: YtjkdflnnpdionaaGreatTotals.lean).
  GIVEN WITH THE SEED: the statements are not yours to turn. If you find one false, say at which input.
  Laid BY PROGRAM, IN A SANDBOX (cutbox-rows.mjs): the forced cells as the released guide's own fill.sh prints them over the translation eea6d7f90d02b16c… (all of the seat's roots in one cut). By AI agents, Wed Nov 11 2026. No macro, syntax, notation, axiom, sorry.
-/
import Derived.Test.YtjkdflnnpdionaaGreatChecked
import GoSem.Claim
import GoSem.ClaimJoined
import GoSem.ClaimMapViews
import Derived.JoinedTies
import Derived.KernelRfl
namespace Go.Proofs.YtjkdflnnpdionaaGreat
/- THE CELL 'sum', in the pinned program and in every row, IS THE sha256 OF THE DUMP (.gsa) THAT YtjkdflnnpdionaaGreatProg.lean LOADS. Nothing in Lean hashes anything: it is a label: what it is worth is what the hold of that sum in a sandbox is worth. -/
noncomputable def Tryz.pinned : Pinned := { name := "ytjkdflnnpdionaagreat", sum := "eea6d7f90d02b16cd50730ba631f0662aee9ef2c4c8dd3bc03f879fa6d1c3b15", checked := Tryz.checked }
namespace Rows
def none {H : Type} : Left H := { results := [], args := [] }

/-- 'granarylaw06.QueueExact': WHATEVER THE INPUT: true; the input reads as it did. -/
def queueExactSpec : ChangeSpec := { name := "queueExact", fn := fun _ => fun
  | [d] => { results := [.lit (.bool true)], args := [d] }
  | _ => none }
def queueExactRow : OpenClaim := { program := "ytjkdflnnpdionaagreat", sum := "eea6d7f90d02b16cd50730ba631f0662aee9ef2c4c8dd3bc03f879fa6d1c3b15", func := "granary/granarylaw06.QueueExact", spec := "queueExact", unfollowed := true, recurses := true, apart := false }
def QueueExactSaid : Prop := queueExactRow.holds Tryz.pinned (OpenSpec.ofChange queueExactSpec)

/-- ITS FALSE NEIGHBOUR: 'it returns false'. Refute it at one input. -/
def queueExactWrong : ChangeSpec := { name := "queueExact", fn := fun _ => fun
  | [d] => { results := [.lit (.bool false)], args := [d] }
  | _ => none }
def QueueExactWrongFalsely : Prop := queueExactRow.holds Tryz.pinned (OpenSpec.ofChange queueExactWrong)

/-- 'granarylaw06.QueueRanges': WHATEVER THE INPUT: true; the input reads as it did. -/
def queueRangesSpec : ChangeSpec := { name := "queueRanges", fn := fun _ => fun
  | [d] => { results := [.lit (.bool true)], args := [d] }
  | _ => none }
def queueRangesRow : OpenClaim := { program := "ytjkdflnnpdionaagreat", sum := "eea6d7f90d02b16cd50730ba631f0662aee9ef2c4c8dd3bc03f879fa6d1c3b15", func := "granary/granarylaw06.QueueRanges", spec := "queueRanges", unfollowed := true, recurses := true, apart := false }
def QueueRangesSaid : Prop := queueRangesRow.holds Tryz.pinned (OpenSpec.ofChange queueRangesSpec)

/-- ITS FALSE NEIGHBOUR: 'it returns false'. Refute it at one input. -/
def queueRangesWrong : ChangeSpec := { name := "queueRanges", fn := fun _ => fun
  | [d] => { results := [.lit (.bool false)], args := [d] }
  | _ => none }
def QueueRangesWrongFalsely : Prop := queueRangesRow.holds Tryz.pinned (OpenSpec.ofChange queueRangesWrong)

/-- 'granarylaw06.QueueChains': WHATEVER THE INPUT: true; the input reads as it did. -/
def queueChainsSpec : ChangeSpec := { name := "queueChains", fn := fun _ => fun
  | [d] => { results := [.lit (.bool true)], args := [d] }
  | _ => none }
def queueChainsRow : OpenClaim := { program := "ytjkdflnnpdionaagreat", sum := "eea6d7f90d02b16cd50730ba631f0662aee9ef2c4c8dd3bc03f879fa6d1c3b15", func := "granary/granarylaw06.QueueChains", spec := "queueChains", unfollowed := true, recurses := true, apart := false }
def QueueChainsSaid : Prop := queueChainsRow.holds Tryz.pinned (OpenSpec.ofChange queueChainsSpec)

/-- ITS FALSE NEIGHBOUR: 'it returns false'. Refute it at one input. -/
def queueChainsWrong : ChangeSpec := { name := "queueChains", fn := fun _ => fun
  | [d] => { results := [.lit (.bool false)], args := [d] }
  | _ => none }
def QueueChainsWrongFalsely : Prop := queueChainsRow.holds Tryz.pinned (OpenSpec.ofChange queueChainsWrong)

/-- 'granarylaw06.QueueBytes': WHATEVER THE INPUT: true; the input reads as it did. -/
def queueBytesSpec : ChangeSpec := { name := "queueBytes", fn := fun _ => fun
  | [d] => { results := [.lit (.bool true)], args := [d] }
  | _ => none }
def queueBytesRow : OpenClaim := { program := "ytjkdflnnpdionaagreat", sum := "eea6d7f90d02b16cd50730ba631f0662aee9ef2c4c8dd3bc03f879fa6d1c3b15", func := "granary/granarylaw06.QueueBytes", spec := "queueBytes", unfollowed := true, recurses := true, apart := false }
def QueueBytesSaid : Prop := queueBytesRow.holds Tryz.pinned (OpenSpec.ofChange queueBytesSpec)

/-- ITS FALSE NEIGHBOUR: 'it returns false'. Refute it at one input. -/
def queueBytesWrong : ChangeSpec := { name := "queueBytes", fn := fun _ => fun
  | [d] => { results := [.lit (.bool false)], args := [d] }
  | _ => none }
def QueueBytesWrongFalsely : Prop := queueBytesRow.holds Tryz.pinned (OpenSpec.ofChange queueBytesWrong)

/-- 'granarylaw06.QueueApart': WHATEVER THE INPUT: true; the input reads as it did. -/
def queueApartSpec : ChangeSpec := { name := "queueApart", fn := fun _ => fun
  | [d1, d2] => { results := [.lit (.bool true)], args := [d1, d2] }
  | _ => none }
def queueApartRow : OpenClaim := { program := "ytjkdflnnpdionaagreat", sum := "eea6d7f90d02b16cd50730ba631f0662aee9ef2c4c8dd3bc03f879fa6d1c3b15", func := "granary/granarylaw06.QueueApart", spec := "queueApart", unfollowed := true, recurses := true, apart := false }
def QueueApartSaid : Prop := queueApartRow.holds Tryz.pinned (OpenSpec.ofChange queueApartSpec)

/-- ITS FALSE NEIGHBOUR: 'it returns false'. Refute it at one input. -/
def queueApartWrong : ChangeSpec := { name := "queueApart", fn := fun _ => fun
  | [d1, d2] => { results := [.lit (.bool false)], args := [d1, d2] }
  | _ => none }
def QueueApartWrongFalsely : Prop := queueApartRow.holds Tryz.pinned (OpenSpec.ofChange queueApartWrong)

/-- 'granarylaw09.CrawlExact': WHATEVER THE INPUT: true; the input reads as it did. -/
def crawlExactSpec : ChangeSpec := { name := "crawlExact", fn := fun _ => fun
  | [d] => { results := [.lit (.bool true)], args := [d] }
  | _ => none }
def crawlExactRow : OpenClaim := { program := "ytjkdflnnpdionaagreat", sum := "eea6d7f90d02b16cd50730ba631f0662aee9ef2c4c8dd3bc03f879fa6d1c3b15", func := "granary/granarylaw09.CrawlExact", spec := "crawlExact", unfollowed := true, recurses := true, apart := false }
def CrawlExactSaid : Prop := crawlExactRow.holds Tryz.pinned (OpenSpec.ofChange crawlExactSpec)

/-- ITS FALSE NEIGHBOUR: 'it returns false'. Refute it at one input. -/
def crawlExactWrong : ChangeSpec := { name := "crawlExact", fn := fun _ => fun
  | [d] => { results := [.lit (.bool false)], args := [d] }
  | _ => none }
def CrawlExactWrongFalsely : Prop := crawlExactRow.holds Tryz.pinned (OpenSpec.ofChange crawlExactWrong)

/-- 'granarylaw09.CrawlNames': WHATEVER THE INPUT: true; the input reads as it did. -/
def crawlNamesSpec : ChangeSpec := { name := "crawlNames", fn := fun _ => fun
  | [] => { results := [.lit (.bool true)], args := [] }
  | _ => none }
def crawlNamesRow : OpenClaim := { program := "ytjkdflnnpdionaagreat", sum := "eea6d7f90d02b16cd50730ba631f0662aee9ef2c4c8dd3bc03f879fa6d1c3b15", func := "granary/granarylaw09.CrawlNames", spec := "crawlNames", unfollowed := true, recurses := true, apart := false }
def CrawlNamesSaid : Prop := crawlNamesRow.holds Tryz.pinned (OpenSpec.ofChange crawlNamesSpec)

/-- ITS FALSE NEIGHBOUR: 'it returns false'. Refute it at one input. -/
def crawlNamesWrong : ChangeSpec := { name := "crawlNames", fn := fun _ => fun
  | [] => { results := [.lit (.bool false)], args := [] }
  | _ => none }
def CrawlNamesWrongFalsely : Prop := crawlNamesRow.holds Tryz.pinned (OpenSpec.ofChange crawlNamesWrong)

/-- 'granarylaw09.CrawlRound': WHATEVER THE INPUT: true; the input reads as it did. -/
def crawlRoundSpec : ChangeSpec := { name := "crawlRound", fn := fun _ => fun
  | [d] => { results := [.lit (.bool true)], args := [d] }
  | _ => none }
def crawlRoundRow : OpenClaim := { program := "ytjkdflnnpdionaagreat", sum := "eea6d7f90d02b16cd50730ba631f0662aee9ef2c4c8dd3bc03f879fa6d1c3b15", func := "granary/granarylaw09.CrawlRound", spec := "crawlRound", unfollowed := true, recurses := true, apart := false }
def CrawlRoundSaid : Prop := crawlRoundRow.holds Tryz.pinned (OpenSpec.ofChange crawlRoundSpec)

/-- ITS FALSE NEIGHBOUR: 'it returns false'. Refute it at one input. -/
def crawlRoundWrong : ChangeSpec := { name := "crawlRound", fn := fun _ => fun
  | [d] => { results := [.lit (.bool false)], args := [d] }
  | _ => none }
def CrawlRoundWrongFalsely : Prop := crawlRoundRow.holds Tryz.pinned (OpenSpec.ofChange crawlRoundWrong)

/-- 'granarylaw09.CrawlDue': WHATEVER THE INPUT: true; the input reads as it did. -/
def crawlDueSpec : ChangeSpec := { name := "crawlDue", fn := fun _ => fun
  | [d] => { results := [.lit (.bool true)], args := [d] }
  | _ => none }
def crawlDueRow : OpenClaim := { program := "ytjkdflnnpdionaagreat", sum := "eea6d7f90d02b16cd50730ba631f0662aee9ef2c4c8dd3bc03f879fa6d1c3b15", func := "granary/granarylaw09.CrawlDue", spec := "crawlDue", unfollowed := true, recurses := true, apart := false }
def CrawlDueSaid : Prop := crawlDueRow.holds Tryz.pinned (OpenSpec.ofChange crawlDueSpec)

/-- ITS FALSE NEIGHBOUR: 'it returns false'. Refute it at one input. -/
def crawlDueWrong : ChangeSpec := { name := "crawlDue", fn := fun _ => fun
  | [d] => { results := [.lit (.bool false)], args := [d] }
  | _ => none }
def CrawlDueWrongFalsely : Prop := crawlDueRow.holds Tryz.pinned (OpenSpec.ofChange crawlDueWrong)

/- THE SECOND FORM. 'bulk': how many values and letters a reading holds, each counted each time it is reached (what is shared counts as often as it is met; a slice's spare places count too). A statement '..UptoSaid' is the law's where the arguments, and the package variables that the reading takes, are together of bulk at most 1048576: NARROWER than '..Said'. Prove '..Said' where nothing that the law and all that it calls make is longer than what came in: it says more and counts as full. Else prove '..UptoSaid'. A law counts once. -/
mutual
def uptoBulk {H : Type} : DataW H → Nat
  | .lit (.string bytes) => bytes.length + 1
  | .lit _ => 1
  | .nil => 1
  | .ptr d => uptoBulk d + 1
  | .slice elems spare => uptoBulkAll elems + uptoBulkAll spare + 1
  | .agg parts => uptoBulkAll parts + 1
  | .iface _ d => uptoBulk d + 1
  | .map entries => uptoBulkEntries entries + 1
  | .held _ => 1
def uptoBulkAll {H : Type} : List (DataW H) → Nat
  | [] => 0
  | d :: r => uptoBulk d + uptoBulkAll r
def uptoBulkEntries {H : Type} : List (Lit × DataW H) → Nat
  | [] => 0
  | x :: r => uptoBulkEntry x + uptoBulkEntries r
def uptoBulkEntry {H : Type} : Lit × DataW H → Nat
  | (.string bytes, d) => bytes.length + uptoBulk d + 1
  | (_, d) => uptoBulk d + 1
 end
def uptoSmall : (H : Type) → List (DataW H) → Bool := fun _ ds => decide (uptoBulkAll ds ≤ 1048576)
def OpenSpec.upto (s : _root_.Go.ChangeSpec) : _root_.Go.OpenSpec := { _root_.Go.OpenSpec.ofChange s with cond := some uptoSmall }

/-- 'granarylaw06.QueueExact', WHERE WHAT IT READS IS OF BULK AT MOST 1048576: true; the input reads as it did. -/
def queueExactUptoRow : OpenClaim := { program := "ytjkdflnnpdionaagreat", sum := "eea6d7f90d02b16cd50730ba631f0662aee9ef2c4c8dd3bc03f879fa6d1c3b15", func := "granary/granarylaw06.QueueExact", spec := "queueExact", unfollowed := true, recurses := true, apart := false, narrowed := true }
def QueueExactUptoSaid : Prop := queueExactUptoRow.holds Tryz.pinned (OpenSpec.upto queueExactSpec)

/-- 'granarylaw06.QueueRanges', WHERE WHAT IT READS IS OF BULK AT MOST 1048576: true; the input reads as it did. -/
def queueRangesUptoRow : OpenClaim := { program := "ytjkdflnnpdionaagreat", sum := "eea6d7f90d02b16cd50730ba631f0662aee9ef2c4c8dd3bc03f879fa6d1c3b15", func := "granary/granarylaw06.QueueRanges", spec := "queueRanges", unfollowed := true, recurses := true, apart := false, narrowed := true }
def QueueRangesUptoSaid : Prop := queueRangesUptoRow.holds Tryz.pinned (OpenSpec.upto queueRangesSpec)

/-- 'granarylaw06.QueueChains', WHERE WHAT IT READS IS OF BULK AT MOST 1048576: true; the input reads as it did. -/
def queueChainsUptoRow : OpenClaim := { program := "ytjkdflnnpdionaagreat", sum := "eea6d7f90d02b16cd50730ba631f0662aee9ef2c4c8dd3bc03f879fa6d1c3b15", func := "granary/granarylaw06.QueueChains", spec := "queueChains", unfollowed := true, recurses := true, apart := false, narrowed := true }
def QueueChainsUptoSaid : Prop := queueChainsUptoRow.holds Tryz.pinned (OpenSpec.upto queueChainsSpec)

/-- 'granarylaw06.QueueBytes', WHERE WHAT IT READS IS OF BULK AT MOST 1048576: true; the input reads as it did. -/
def queueBytesUptoRow : OpenClaim := { program := "ytjkdflnnpdionaagreat", sum := "eea6d7f90d02b16cd50730ba631f0662aee9ef2c4c8dd3bc03f879fa6d1c3b15", func := "granary/granarylaw06.QueueBytes", spec := "queueBytes", unfollowed := true, recurses := true, apart := false, narrowed := true }
def QueueBytesUptoSaid : Prop := queueBytesUptoRow.holds Tryz.pinned (OpenSpec.upto queueBytesSpec)

/-- 'granarylaw06.QueueApart', WHERE WHAT IT READS IS OF BULK AT MOST 1048576: true; the input reads as it did. -/
def queueApartUptoRow : OpenClaim := { program := "ytjkdflnnpdionaagreat", sum := "eea6d7f90d02b16cd50730ba631f0662aee9ef2c4c8dd3bc03f879fa6d1c3b15", func := "granary/granarylaw06.QueueApart", spec := "queueApart", unfollowed := true, recurses := true, apart := false, narrowed := true }
def QueueApartUptoSaid : Prop := queueApartUptoRow.holds Tryz.pinned (OpenSpec.upto queueApartSpec)

/-- 'granarylaw09.CrawlExact', WHERE WHAT IT READS IS OF BULK AT MOST 1048576: true; the input reads as it did. -/
def crawlExactUptoRow : OpenClaim := { program := "ytjkdflnnpdionaagreat", sum := "eea6d7f90d02b16cd50730ba631f0662aee9ef2c4c8dd3bc03f879fa6d1c3b15", func := "granary/granarylaw09.CrawlExact", spec := "crawlExact", unfollowed := true, recurses := true, apart := false, narrowed := true }
def CrawlExactUptoSaid : Prop := crawlExactUptoRow.holds Tryz.pinned (OpenSpec.upto crawlExactSpec)

/-- 'granarylaw09.CrawlNames', WHERE WHAT IT READS IS OF BULK AT MOST 1048576: true; the input reads as it did. -/
def crawlNamesUptoRow : OpenClaim := { program := "ytjkdflnnpdionaagreat", sum := "eea6d7f90d02b16cd50730ba631f0662aee9ef2c4c8dd3bc03f879fa6d1c3b15", func := "granary/granarylaw09.CrawlNames", spec := "crawlNames", unfollowed := true, recurses := true, apart := false, narrowed := true }
def CrawlNamesUptoSaid : Prop := crawlNamesUptoRow.holds Tryz.pinned (OpenSpec.upto crawlNamesSpec)

/-- 'granarylaw09.CrawlRound', WHERE WHAT IT READS IS OF BULK AT MOST 1048576: true; the input reads as it did. -/
def crawlRoundUptoRow : OpenClaim := { program := "ytjkdflnnpdionaagreat", sum := "eea6d7f90d02b16cd50730ba631f0662aee9ef2c4c8dd3bc03f879fa6d1c3b15", func := "granary/granarylaw09.CrawlRound", spec := "crawlRound", unfollowed := true, recurses := true, apart := false, narrowed := true }
def CrawlRoundUptoSaid : Prop := crawlRoundUptoRow.holds Tryz.pinned (OpenSpec.upto crawlRoundSpec)

/-- 'granarylaw09.CrawlDue', WHERE WHAT IT READS IS OF BULK AT MOST 1048576: true; the input reads as it did. -/
def crawlDueUptoRow : OpenClaim := { program := "ytjkdflnnpdionaagreat", sum := "eea6d7f90d02b16cd50730ba631f0662aee9ef2c4c8dd3bc03f879fa6d1c3b15", func := "granary/granarylaw09.CrawlDue", spec := "crawlDue", unfollowed := true, recurses := true, apart := false, narrowed := true }
def CrawlDueUptoSaid : Prop := crawlDueUptoRow.holds Tryz.pinned (OpenSpec.upto crawlDueSpec)

end Rows
end Go.Proofs.YtjkdflnnpdionaaGreat

/-
  No cell of these rows narrows 'for every input' (looked for: loops, veiled, ifaces, maps, wideKeys, modest, calm, conditions, laid).
  DERIVED. THE GIVEN ROWS OF THIS SEAT. 5 by the template 'for every input the law returns true; each argument reads behind the call as it read before'; 0 by the template 'total and deterministic' (their statements: YtoaaaeefcipdcaaTotals.lean).
  GIVEN WITH THE SEED: the statements are not yours to turn. If you find one false, say at which input.
  Laid BY PROGRAM, IN A SANDBOX (cutbox-rows.mjs): the forced cells as the released guide's own fill.sh prints them over the translation a6d7bb4ba6264e95… (all of the seat's roots in one cut). By AI agents, Wed Nov 11 2026. No macro, syntax, notation, axiom, sorry.
-/
import Derived.Test.YtoaaaeefcipdcaaChecked
import GoSem.Claim
import GoSem.ClaimJoined
import GoSem.ClaimMapViews
import Derived.JoinedTies
import Derived.KernelRfl
namespace Go.Proofs.Ytoaaaeefcipdcaa
/- THE CELL 'sum', in the pinned program and in every row, IS THE sha256 OF THE DUMP (.gsa) THAT YtoaaaeefcipdcaaProg.lean LOADS. Nothing in Lean hashes anything: it is a label: what it is worth is what the hold of that sum in a sandbox is worth. -/
noncomputable def Try.pinned : Pinned := { name := "ytoaaaeefcipdcaa", sum := "a6d7bb4ba6264e95c20a1710d059e36390f2e5cd9f5bbcfeb47bce7362f46210", checked := Try.checked }
namespace Rows
def none {H : Type} : Left H := { results := [], args := [] }

/-- 'granarylaw02.ClassExact': WHATEVER THE INPUT: true; the input reads as it did. -/
def classExactSpec : ChangeSpec := { name := "classExact", fn := fun _ => fun
  | [d1, d2] => { results := [.lit (.bool true)], args := [d1, d2] }
  | _ => none }
def classExactRow : OpenClaim := { program := "ytoaaaeefcipdcaa", sum := "a6d7bb4ba6264e95c20a1710d059e36390f2e5cd9f5bbcfeb47bce7362f46210", func := "granary/granarylaw02.ClassExact", spec := "classExact", unfollowed := true, recurses := true, apart := false }
def ClassExactSaid : Prop := classExactRow.holds Try.pinned (OpenSpec.ofChange classExactSpec)

/-- ITS FALSE NEIGHBOUR: 'it returns false'. Refute it at one input. -/
def classExactWrong : ChangeSpec := { name := "classExact", fn := fun _ => fun
  | [d1, d2] => { results := [.lit (.bool false)], args := [d1, d2] }
  | _ => none }
def ClassExactWrongFalsely : Prop := classExactRow.holds Try.pinned (OpenSpec.ofChange classExactWrong)

/-- 'granarylaw02.ClassSizes': WHATEVER THE INPUT: true; the input reads as it did. -/
def classSizesSpec : ChangeSpec := { name := "classSizes", fn := fun _ => fun
  | [d1, d2] => { results := [.lit (.bool true)], args := [d1, d2] }
  | _ => none }
def classSizesRow : OpenClaim := { program := "ytoaaaeefcipdcaa", sum := "a6d7bb4ba6264e95c20a1710d059e36390f2e5cd9f5bbcfeb47bce7362f46210", func := "granary/granarylaw02.ClassSizes", spec := "classSizes", unfollowed := true, recurses := true, apart := false }
def ClassSizesSaid : Prop := classSizesRow.holds Try.pinned (OpenSpec.ofChange classSizesSpec)

/-- ITS FALSE NEIGHBOUR: 'it returns false'. Refute it at one input. -/
def classSizesWrong : ChangeSpec := { name := "classSizes", fn := fun _ => fun
  | [d1, d2] => { results := [.lit (.bool false)], args := [d1, d2] }
  | _ => none }
def ClassSizesWrongFalsely : Prop := classSizesRow.holds Try.pinned (OpenSpec.ofChange classSizesWrong)

/-- 'granarylaw02.ClassOnce': WHATEVER THE INPUT: true; the input reads as it did. -/
def classOnceSpec : ChangeSpec := { name := "classOnce", fn := fun _ => fun
  | [d1, d2] => { results := [.lit (.bool true)], args := [d1, d2] }
  | _ => none }
def classOnceRow : OpenClaim := { program := "ytoaaaeefcipdcaa", sum := "a6d7bb4ba6264e95c20a1710d059e36390f2e5cd9f5bbcfeb47bce7362f46210", func := "granary/granarylaw02.ClassOnce", spec := "classOnce", apart := false }
def ClassOnceSaid : Prop := classOnceRow.holds Try.pinned (OpenSpec.ofChange classOnceSpec)

/-- ITS FALSE NEIGHBOUR: 'it returns false'. Refute it at one input. -/
def classOnceWrong : ChangeSpec := { name := "classOnce", fn := fun _ => fun
  | [d1, d2] => { results := [.lit (.bool false)], args := [d1, d2] }
  | _ => none }
def ClassOnceWrongFalsely : Prop := classOnceRow.holds Try.pinned (OpenSpec.ofChange classOnceWrong)

/-- 'granarylaw02.ClassApart': WHATEVER THE INPUT: true; the input reads as it did. -/
def classApartSpec : ChangeSpec := { name := "classApart", fn := fun _ => fun
  | [d1, d2, d3] => { results := [.lit (.bool true)], args := [d1, d2, d3] }
  | _ => none }
def classApartRow : OpenClaim := { program := "ytoaaaeefcipdcaa", sum := "a6d7bb4ba6264e95c20a1710d059e36390f2e5cd9f5bbcfeb47bce7362f46210", func := "granary/granarylaw02.ClassApart", spec := "classApart", apart := false }
def ClassApartSaid : Prop := classApartRow.holds Try.pinned (OpenSpec.ofChange classApartSpec)

/-- ITS FALSE NEIGHBOUR: 'it returns false'. Refute it at one input. -/
def classApartWrong : ChangeSpec := { name := "classApart", fn := fun _ => fun
  | [d1, d2, d3] => { results := [.lit (.bool false)], args := [d1, d2, d3] }
  | _ => none }
def ClassApartWrongFalsely : Prop := classApartRow.holds Try.pinned (OpenSpec.ofChange classApartWrong)

/-- 'granarylaw03.ItemBack': WHATEVER THE INPUT: true; the input reads as it did. -/
def itemBackSpec : ChangeSpec := { name := "itemBack", fn := fun _ => fun
  | [d] => { results := [.lit (.bool true)], args := [d] }
  | _ => none }
def itemBackRow : OpenClaim := { program := "ytoaaaeefcipdcaa", sum := "a6d7bb4ba6264e95c20a1710d059e36390f2e5cd9f5bbcfeb47bce7362f46210", func := "granary/granarylaw03.ItemBack", spec := "itemBack", apart := false }
def ItemBackSaid : Prop := itemBackRow.holds Try.pinned (OpenSpec.ofChange itemBackSpec)

/-- ITS FALSE NEIGHBOUR: 'it returns false'. Refute it at one input. -/
def itemBackWrong : ChangeSpec := { name := "itemBack", fn := fun _ => fun
  | [d] => { results := [.lit (.bool false)], args := [d] }
  | _ => none }
def ItemBackWrongFalsely : Prop := itemBackRow.holds Try.pinned (OpenSpec.ofChange itemBackWrong)

/- THE SECOND FORM. 'bulk': how many values and letters a reading holds, each counted each time it is reached (what is shared counts as often as it is met; a slice's spare places count too). A statement '..UptoSaid' is the law's where the arguments, and the package variables that the reading takes, are together of bulk at most 1048576: NARROWER than '..Said'. Prove '..Said' where nothing that the law and all that it calls make is longer than what came in: it says more and counts as full. Else prove '..UptoSaid'. A law counts once. -/
mutual
def uptoBulk {H : Type} : DataW H → Nat
  | .lit (.string bytes) => bytes.length + 1
  | .lit _ => 1
  | .nil => 1
  | .ptr d => uptoBulk d + 1
  | .slice elems spare => uptoBulkAll elems + uptoBulkAll spare + 1
  | .agg parts => uptoBulkAll parts + 1
  | .iface _ d => uptoBulk d + 1
  | .map entries => uptoBulkEntries entries + 1
  | .held _ => 1
def uptoBulkAll {H : Type} : List (DataW H) → Nat
  | [] => 0
  | d :: r => uptoBulk d + uptoBulkAll r
def uptoBulkEntries {H : Type} : List (Lit × DataW H) → Nat
  | [] => 0
  | x :: r => uptoBulkEntry x + uptoBulkEntries r
def uptoBulkEntry {H : Type} : Lit × DataW H → Nat
  | (.string bytes, d) => bytes.length + uptoBulk d + 1
  | (_, d) => uptoBulk d + 1
 end
def uptoSmall : (H : Type) → List (DataW H) → Bool := fun _ ds => decide (uptoBulkAll ds ≤ 1048576)
def OpenSpec.upto (s : _root_.Go.ChangeSpec) : _root_.Go.OpenSpec := { _root_.Go.OpenSpec.ofChange s with cond := some uptoSmall }

/-- 'granarylaw02.ClassExact', WHERE WHAT IT READS IS OF BULK AT MOST 1048576: true; the input reads as it did. -/
def classExactUptoRow : OpenClaim := { program := "ytoaaaeefcipdcaa", sum := "a6d7bb4ba6264e95c20a1710d059e36390f2e5cd9f5bbcfeb47bce7362f46210", func := "granary/granarylaw02.ClassExact", spec := "classExact", unfollowed := true, recurses := true, apart := false, narrowed := true }
def ClassExactUptoSaid : Prop := classExactUptoRow.holds Try.pinned (OpenSpec.upto classExactSpec)

/-- 'granarylaw02.ClassSizes', WHERE WHAT IT READS IS OF BULK AT MOST 1048576: true; the input reads as it did. -/
def classSizesUptoRow : OpenClaim := { program := "ytoaaaeefcipdcaa", sum := "a6d7bb4ba6264e95c20a1710d059e36390f2e5cd9f5bbcfeb47bce7362f46210", func := "granary/granarylaw02.ClassSizes", spec := "classSizes", unfollowed := true, recurses := true, apart := false, narrowed := true }
def ClassSizesUptoSaid : Prop := classSizesUptoRow.holds Try.pinned (OpenSpec.upto classSizesSpec)

/-- 'granarylaw02.ClassOnce', WHERE WHAT IT READS IS OF BULK AT MOST 1048576: true; the input reads as it did. -/
def classOnceUptoRow : OpenClaim := { program := "ytoaaaeefcipdcaa", sum := "a6d7bb4ba6264e95c20a1710d059e36390f2e5cd9f5bbcfeb47bce7362f46210", func := "granary/granarylaw02.ClassOnce", spec := "classOnce", apart := false, narrowed := true }
def ClassOnceUptoSaid : Prop := classOnceUptoRow.holds Try.pinned (OpenSpec.upto classOnceSpec)

/-- 'granarylaw02.ClassApart', WHERE WHAT IT READS IS OF BULK AT MOST 1048576: true; the input reads as it did. -/
def classApartUptoRow : OpenClaim := { program := "ytoaaaeefcipdcaa", sum := "a6d7bb4ba6264e95c20a1710d059e36390f2e5cd9f5bbcfeb47bce7362f46210", func := "granary/granarylaw02.ClassApart", spec := "classApart", apart := false, narrowed := true }
def ClassApartUptoSaid : Prop := classApartUptoRow.holds Try.pinned (OpenSpec.upto classApartSpec)

/-- 'granarylaw03.ItemBack', WHERE WHAT IT READS IS OF BULK AT MOST 1048576: true; the input reads as it did. -/
def itemBackUptoRow : OpenClaim := { program := "ytoaaaeefcipdcaa", sum := "a6d7bb4ba6264e95c20a1710d059e36390f2e5cd9f5bbcfeb47bce7362f46210", func := "granary/granarylaw03.ItemBack", spec := "itemBack", apart := false, narrowed := true }
def ItemBackUptoSaid : Prop := itemBackUptoRow.holds Try.pinned (OpenSpec.upto itemBackSpec)

end Rows
end Go.Proofs.Ytoaaaeefcipdcaa

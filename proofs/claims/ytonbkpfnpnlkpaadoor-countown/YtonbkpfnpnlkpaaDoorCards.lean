/-
  DERIVED. GIVEN WITH THE SEED: THE CARDS: each row of YtonbkpfnpnlkpaaDoorRows.lean that lists a variable, with what it lists TIED to the program's text (the seventh form; the later family's looks); each row that meets fmt, with fmt's text TOLD by the authors' own Lean function (tested against real Go, not proved from fmt's source: count such statements apart). THE CARD IS WHAT COUNTS. Prove the row's statement (the work); the ties are given (YtonbkpfnpnlkpaaDoorTie.lean); close each card by the builder's one call (the guide's Derived/Test/ToyasCard.lean, 'card_holds'). Laid BY PROGRAM, IN A SANDBOX (cutbox-door.mjs). By AI agents, Wed Nov 11 2026. No macro, syntax, notation, axiom, sorry.
-/
import Derived.Test.YtonbkpfnpnlkpaaDoorRows
import GoSem.ClaimSeven
namespace Go.Proofs.YtonbkpfnpnlkpaaDoor
namespace Rows

/-- THE TIED CARD OF 'granarylaw15.CountExact'. -/
def countExactCard : Claim7 := { stood := { row := countExactRow, standIns := [], harness := (true, "553583fbb42ae01bca5108becfad5732eee8adcbb089605598fa8ca84b949b27"), looks := false }, kinds := [], alts := [], laidByText := true, laidKinds := [.data], laidTests := true, laidLooks := .later }
def CountExactCardSaid : Prop := Claim7.holds Tryd.pinned (.plain (OpenSpec.ofChange countExactSpec)) countExactCard

/-- THE TIED CARD OF 'granarylaw15.CountTable'. -/
def countTableCard : Claim7 := { stood := { row := countTableRow, standIns := [], harness := (true, "553583fbb42ae01bca5108becfad5732eee8adcbb089605598fa8ca84b949b27"), looks := false }, kinds := [], alts := [], laidByText := true, laidKinds := [.data], laidTests := true, laidLooks := .later }
def CountTableCardSaid : Prop := Claim7.holds Tryd.pinned (.plain (OpenSpec.ofChange countTableSpec)) countTableCard

/-- THE TIED CARD OF 'granarylaw15.CountSplits'. -/
def countSplitsCard : Claim7 := { stood := { row := countSplitsRow, standIns := [], harness := (true, "553583fbb42ae01bca5108becfad5732eee8adcbb089605598fa8ca84b949b27"), looks := false }, kinds := [], alts := [], laidByText := true, laidKinds := [.data], laidTests := true, laidLooks := .later }
def CountSplitsCardSaid : Prop := Claim7.holds Tryd.pinned (.plain (OpenSpec.ofChange countSplitsSpec)) countSplitsCard

/-- THE TIED CARD OF 'granarylaw15.CountOrder'. -/
def countOrderCard : Claim7 := { stood := { row := countOrderRow, standIns := [], harness := (true, "553583fbb42ae01bca5108becfad5732eee8adcbb089605598fa8ca84b949b27"), looks := false }, kinds := [], alts := [], laidByText := true, laidKinds := [.data], laidTests := true, laidLooks := .later }
def CountOrderCardSaid : Prop := Claim7.holds Tryd.pinned (.plain (OpenSpec.ofChange countOrderSpec)) countOrderCard

/-- THE TIED CARD OF 'granarylaw15.CountTop'. -/
def countTopCard : Claim7 := { stood := { row := countTopRow, standIns := [], harness := (true, "553583fbb42ae01bca5108becfad5732eee8adcbb089605598fa8ca84b949b27"), looks := false }, kinds := [], alts := [], laidByText := true, laidKinds := [.data], laidTests := true, laidLooks := .later }
def CountTopCardSaid : Prop := Claim7.holds Tryd.pinned (.plain (OpenSpec.ofChange countTopSpec)) countTopCard

/-- THE TIED CARD OF 'granarylaw15.CountNames'. -/
def countNamesCard : Claim7 := { stood := { row := countNamesRow, standIns := [], harness := (true, "553583fbb42ae01bca5108becfad5732eee8adcbb089605598fa8ca84b949b27"), looks := false }, kinds := [], alts := [], laidByText := true, laidKinds := [.data], laidTests := true, laidLooks := .later }
def CountNamesCardSaid : Prop := Claim7.holds Tryd.pinned (.plain (OpenSpec.ofChange countNamesSpec)) countNamesCard

/-- THE TIED CARD OF 'granarylaw15.CountOwn'. -/
def countOwnCard : Claim7 := { stood := { row := countOwnRow, standIns := [], harness := (true, "553583fbb42ae01bca5108becfad5732eee8adcbb089605598fa8ca84b949b27"), looks := false }, kinds := [], alts := [], laidByText := true, laidKinds := [.data], laidTests := true, laidLooks := .later }
def CountOwnCardSaid : Prop := Claim7.holds Tryd.pinned (.plain (OpenSpec.ofChange countOwnSpec)) countOwnCard

/-- THE SECOND FORM's CARD OF 'granarylaw15.CountExact'. -/
def countExactUptoCard : Claim7 := { stood := { row := countExactUptoRow, standIns := [], harness := (true, "553583fbb42ae01bca5108becfad5732eee8adcbb089605598fa8ca84b949b27"), looks := false }, kinds := [], alts := [], laidByText := true, laidKinds := [.data], laidTests := true, laidLooks := .later }
def CountExactUptoCardSaid : Prop := Claim7.holds Tryd.pinned (.plain (OpenSpec.upto countExactSpec)) countExactUptoCard

/-- THE SECOND FORM's CARD OF 'granarylaw15.CountTable'. -/
def countTableUptoCard : Claim7 := { stood := { row := countTableUptoRow, standIns := [], harness := (true, "553583fbb42ae01bca5108becfad5732eee8adcbb089605598fa8ca84b949b27"), looks := false }, kinds := [], alts := [], laidByText := true, laidKinds := [.data], laidTests := true, laidLooks := .later }
def CountTableUptoCardSaid : Prop := Claim7.holds Tryd.pinned (.plain (OpenSpec.upto countTableSpec)) countTableUptoCard

/-- THE SECOND FORM's CARD OF 'granarylaw15.CountSplits'. -/
def countSplitsUptoCard : Claim7 := { stood := { row := countSplitsUptoRow, standIns := [], harness := (true, "553583fbb42ae01bca5108becfad5732eee8adcbb089605598fa8ca84b949b27"), looks := false }, kinds := [], alts := [], laidByText := true, laidKinds := [.data], laidTests := true, laidLooks := .later }
def CountSplitsUptoCardSaid : Prop := Claim7.holds Tryd.pinned (.plain (OpenSpec.upto countSplitsSpec)) countSplitsUptoCard

/-- THE SECOND FORM's CARD OF 'granarylaw15.CountOrder'. -/
def countOrderUptoCard : Claim7 := { stood := { row := countOrderUptoRow, standIns := [], harness := (true, "553583fbb42ae01bca5108becfad5732eee8adcbb089605598fa8ca84b949b27"), looks := false }, kinds := [], alts := [], laidByText := true, laidKinds := [.data], laidTests := true, laidLooks := .later }
def CountOrderUptoCardSaid : Prop := Claim7.holds Tryd.pinned (.plain (OpenSpec.upto countOrderSpec)) countOrderUptoCard

/-- THE SECOND FORM's CARD OF 'granarylaw15.CountTop'. -/
def countTopUptoCard : Claim7 := { stood := { row := countTopUptoRow, standIns := [], harness := (true, "553583fbb42ae01bca5108becfad5732eee8adcbb089605598fa8ca84b949b27"), looks := false }, kinds := [], alts := [], laidByText := true, laidKinds := [.data], laidTests := true, laidLooks := .later }
def CountTopUptoCardSaid : Prop := Claim7.holds Tryd.pinned (.plain (OpenSpec.upto countTopSpec)) countTopUptoCard

/-- THE SECOND FORM's CARD OF 'granarylaw15.CountNames'. -/
def countNamesUptoCard : Claim7 := { stood := { row := countNamesUptoRow, standIns := [], harness := (true, "553583fbb42ae01bca5108becfad5732eee8adcbb089605598fa8ca84b949b27"), looks := false }, kinds := [], alts := [], laidByText := true, laidKinds := [.data], laidTests := true, laidLooks := .later }
def CountNamesUptoCardSaid : Prop := Claim7.holds Tryd.pinned (.plain (OpenSpec.upto countNamesSpec)) countNamesUptoCard

/-- THE SECOND FORM's CARD OF 'granarylaw15.CountOwn'. -/
def countOwnUptoCard : Claim7 := { stood := { row := countOwnUptoRow, standIns := [], harness := (true, "553583fbb42ae01bca5108becfad5732eee8adcbb089605598fa8ca84b949b27"), looks := false }, kinds := [], alts := [], laidByText := true, laidKinds := [.data], laidTests := true, laidLooks := .later }
def CountOwnUptoCardSaid : Prop := Claim7.holds Tryd.pinned (.plain (OpenSpec.upto countOwnSpec)) countOwnUptoCard
end Rows
end Go.Proofs.YtonbkpfnpnlkpaaDoor

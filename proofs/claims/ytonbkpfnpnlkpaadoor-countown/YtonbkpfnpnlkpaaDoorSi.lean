/-
  What is laid: the table of words.
-/
import Derived.Lib.LaidTab
import Derived.FnData
import Derived.MakeChecks
import Derived.Test.YtonbkpfnpnlkpaaDoorRows
import Derived.Test.YtonbkpfnpnlkpaaDoorI
namespace Go.Proofs.YtonbkpfnpnlkpaaDoor
open Go Go.RowKit
set_option linter.unusedVariables false
set_option linter.unusedSimpArgs false

/-- The name of the table of words. -/
abbrev wName : String := (Rows.countNamesRow.laid.map Prod.fst).headD ""
theorem gW : Tryd.prog.globalNamed wName = some 0 := by kernel_rfl
theorem gWT : (Tryd.prog.globals[0]?).map (·.type) = some 101 := by kernel_rfl
theorem cells9 : Tryd.prog.cellsOf 9 = 1 := by kernel_rfl
theorem cells101 : Tryd.prog.cellsOf 101 = 31 := by kernel_rfl
/-- An array of texts that reads as a list of texts holds these, cell for cell. -/
theorem cells_of_texts {H : Type} {enc : TypeId × Value → H} {P : Program} {w : World} {base : Nat} {sp : Nat → Bool} {held : Bool} {fuel : Nat} {t e : TypeId} {n : Nat} {cs : List Value} {zs : List Bs} {p : List MemPlace}
    (ht : P.underlying t = some (.array n e)) (he : P.underlying e = some .string) (hce : P.cellsOf e = 1) (hct : P.cellsOf t = n)
    (h : DataW.trod enc P w base sp held fuel t cs = some (.agg (zs.map fun z => .lit (.string z)), p)) : ∀ (i : Nat) (z : Bs), zs[i]? = some z → cs[i]? = some (sv z) := by
  cases fuel with
  | zero => simp [DataW.trod] at h
  | succ fuel =>
    simp only [DataW.trod, ht, hce, hct, Nat.mul_one] at h
    split at h
    · rename_i hl
      obtain ⟨xs, hm, hx⟩ := Option.map_eq_some_iff.1 h
      have hxs : xs.map (·.1) = zs.map fun z => (DataW.lit (.string z) : DataW H) := by
        have := congrArg Prod.fst hx
        simpa using this
      have hxl : xs.length = n := by simpa using Lib.mapM_length hm
      have hzl : zs.length = n := by
        have := congrArg List.length hxs
        simp at this
        omega
      intro i z hz
      have hi : i < n := by have := (List.getElem?_eq_some_iff.1 hz).1; omega
      obtain ⟨b, hb, hf⟩ := Lib.mapM_at hm i i (by simp [hi])
      obtain ⟨s, hc, hbe, _⟩ := DataW.trod_string he hf
      have h1 : cs[i]? = some (.string s) := by
        have := congrArg (·[0]?) hc
        simpa [List.getElem?_take, List.getElem?_drop] using this
      have h2 : (xs.map (·.1))[i]? = some (DataW.lit (.string s.data.toList) : DataW H) := by simp [hb, hbe]
      rw [hxs] at h2
      simp only [List.getElem?_map, hz, Option.map_some, Option.some.injEq, DataW.lit.injEq, Lit.string.injEq] at h2
      rw [h1, h2]
    · cases h
theorem wo_of {W : World} (h : laidMetH Tryd.prog Rows.countNamesRow.laid W) : Wo W := by
  rw [MakeChecks.laidMetH_plain _ _ _ (by kernel_rfl)] at h
  obtain ⟨ps, ⟨g, t, cs, fuel, p, q, hg, ht, hvar, hd, _, _⟩, _⟩ := h
  obtain rfl := Option.some.inj (gW.symm.trans hg)
  obtain rfl := Option.some.inj (gWT.symm.trans ht)
  have key := cells_of_texts (zs := wrds) Tryd.underlying101 Tryd.underlying9 cells9 cells101 hd
  intro i hi
  have hv : World.var? Tryd.prog W wName = some cs := hvar
  rw [World.var?_cell gW hv i]
  have := key i (wrd i) (by
    have hl : i < wrds.length := by simpa [wrds] using hi
    simp [wrd, List.getD, hl])
  simpa using this
end Go.Proofs.YtonbkpfnpnlkpaaDoor

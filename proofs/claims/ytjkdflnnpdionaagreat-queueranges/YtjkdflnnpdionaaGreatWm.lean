import Derived.Test.YtjkdflnnpdionaaGreatMw
/-
  The document's marks are set; marks.
-/
namespace Go.Proofs.YtjkdflnnpdionaaGreat
open Go.RowKit
set_option linter.unusedVariables false

def nox (H : Nat) (xs : List Nat) : List Nat := xs.filter fun x => decide (x ≠ H)
theorem nox_snoc (H : Nat) (xs : List Nat) (i : Nat) (hi : i < xs.length) : nox H (xs.take (i + 1)) = nox H (xs.take i) ++ (if xs[i] = H then [] else [xs[i]]) := by
  rw [List.take_add_one, List.getElem?_eq_getElem hi]
  unfold nox
  rw [List.filter_append]
  congr 1
  by_cases h : xs[i] = H <;> simp [h]
theorem uvs_len (xs : List Nat) : (uvs xs).length = xs.length := by simp [uvs]

end Go.Proofs.YtjkdflnnpdionaaGreat

/-
  What a restart leaves (pure).
-/
import Derived.Test.YtndjimdegkdljaaZf
namespace Go.Proofs.Ytndjimdegkdljaa
open Go.RowKit Go.MapKept
set_option linter.unusedVariables false
set_option linter.unusedSimpArgs false

/-- File k cut. -/
def cutF (ls : List Int) (k : Nat) (f : Bs × Nat) : Bs × Nat := (f.1.take (cutN f ls[k]?), cutN f ls[k]?)
theorem btw_zero (x : Int) : btw x 0 = 0 := by
  have := btw_in x 0 (by omega)
  omega
theorem cutF_len (ls : List Int) (k : Nat) (f : Bs × Nat) (h : f.2 ≤ f.1.length) : (cutF ls k f).1.length = (cutF ls k f).2 := by
  have := cutN_le f ls[k]? h
  simp only [cutF, List.length_take]
  omega
/-- To cut a file a second time leaves it as it is. -/
theorem cutF_twice (ls : List Int) (k : Nat) (f : Bs × Nat) (h : f.2 ≤ f.1.length) : cutF ls k (cutF ls k f) = cutF ls k f := by
  have hl := cutF_len ls k f h
  have hn : cutN (cutF ls k f) ls[k]? = (cutF ls k f).2 := by
    unfold cutN
    cases ls[k]? with
    | none => simp
    | some x =>
      simp only
      rw [hl, Int.sub_self, btw_zero]
      simp
  have : cutF ls k (cutF ls k f) = ((cutF ls k f).1.take (cutN (cutF ls k f) ls[k]?), cutN (cutF ls k f) ls[k]?) := rfl
  rw [this, hn, ← hl, List.take_length, hl]
/-- The files of S cut. -/
def Md.cutBy (M : Md) (S : List Nat) (ls : List Int) : Md := { M with files := M.files.mapIdx (fun k f => if k ∈ S then cutF ls k f else f) }
theorem cutBy_nil (M : Md) (ls : List Int) : M.cutBy [] ls = M := by
  have : M.files.mapIdx (fun k f => if k ∈ ([] : List Nat) then cutF ls k f else f) = M.files := by
    apply List.ext_getElem?
    intro j
    rw [List.getElem?_mapIdx]
    cases M.files[j]? <;> simp
  unfold Md.cutBy
  rw [this]
theorem cutBy_file (M : Md) (S : List Nat) (ls : List Int) (k : Nat) (hk : k < M.files.length) : (M.cutBy S ls).file k = if k ∈ S then cutF ls k (M.file k) else M.file k := by
  unfold Md.file Md.cutBy
  simp only
  rw [List.getElem?_mapIdx, List.getElem?_eq_getElem hk]
  simp
theorem cutBy_step (M : Md) (S : List Nat) (ls : List Int) (k : Nat) (hk : k < M.files.length) (hfl : ∀ f ∈ M.files, f.2 ≤ f.1.length) :
    (M.cutBy S ls).put k (cutF ls k ((M.cutBy S ls).file k)) = M.cutBy (k :: S) ls := by
  have hm : M.file k ∈ M.files := List.mem_of_getElem? (file_some hk)
  have e1 : cutF ls k ((M.cutBy S ls).file k) = cutF ls k (M.file k) := by
    rw [cutBy_file M S ls k hk]
    split
    · exact cutF_twice ls k _ (hfl _ hm)
    · rfl
  rw [e1]
  have : (M.files.mapIdx (fun k f => if k ∈ S then cutF ls k f else f)).set k (cutF ls k (M.file k)) = M.files.mapIdx (fun j f => if j ∈ k :: S then cutF ls j f else f) := by
    apply List.ext_getElem?
    intro j
    by_cases hj : j = k
    · subst hj
      rw [List.getElem?_set_self (by simpa using hk), List.getElem?_mapIdx, file_some hk]
      simp
    · rw [List.getElem?_set_ne (Ne.symm hj), List.getElem?_mapIdx, List.getElem?_mapIdx]
      simp [hj]
  unfold Md.put Md.cutBy
  simp only
  rw [this]
theorem cutBy_names (M : Md) (S : List Nat) (ls : List Int) : (M.cutBy S ls).names = M.names := rfl
theorem cutBy_len (M : Md) (S : List Nat) (ls : List Int) : (M.cutBy S ls).files.length = M.files.length := by simp [Md.cutBy]
end Go.Proofs.Ytndjimdegkdljaa

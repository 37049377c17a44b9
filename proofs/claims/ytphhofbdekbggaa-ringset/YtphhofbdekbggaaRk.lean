/-
  The sort of servers.
-/
import Derived.Test.YtphhofbdekbggaaRh
import Derived.Test.YtphhofbdekbggaaRi
import Derived.Sort.Walk0
namespace Go.Proofs.Ytphhofbdekbggaa
open Go.RowKit Go.Sort
set_option linter.unusedVariables false
set_option linter.unusedSimpArgs false

abbrev Sv := ByteArray × Int
def encSv (p : Sv) : List Value := [.string p.1, .int .i64 p.2]
/-- How servers are compared. -/
def cfS (p q : Sv) : Int := cmpS p.1 q.1
theorem ltS (p q : Sv) : ltOf cfS p q = decide (p.1.toList < q.1.toList) := by
  unfold ltOf cfS cmpS
  rw [bytesLess_eq]
  by_cases h1 : p.1.toList < q.1.toList
  · simp [h1]
  · by_cases h2 : p.1.toList = q.1.toList
    · rw [h2] at h1
      simp [h2, h1]
    · simp [h1, h2]
theorem swoS : SWO (ltOf cfS) where
  irrefl x := by rw [ltS]; simp
  trans x y z h1 h2 := by rw [ltS] at *; simp only [decide_eq_true_eq] at *; exact List.lt_trans h1 h2
  ntrans x y z h1 h2 := by rw [ltS] at *; simp only [decide_eq_false_iff_not, List.not_lt] at *; exact List.le_trans h2 h1
theorem cmpLays46 (blk off size : Nat) (w : World) : CmpLays Try.prog 46 #[] encSv 2 cfS blk off size w :=
  fun _ _ _ _ x y => clo_46 x.1 y.1 x.2 y.2 _
set_option maxRecDepth 100000 in
theorem sort_45 (blk off cap : Nat) (d : Array Sv) (w : World) (hH : HoldsK encSv 2 w blk off d) (hblk : blk < w.heap.size) (hsz : d.size < 4611686018427387904) :
    Calls Try.prog 45 #[.slice (some ⟨blk, off, none⟩) d.size cap, .func (.func 46) #[] #[]] w fun e w' => e = .returned (.tuple #[]) ∧ ∃ d' n os, PermIn 0 d.size d d' ∧ SortedIn (ltOf cfS) 0 d.size d' ∧ w' = sortWorldK encSv 2 w blk off n d' os := by
  have eg : ∀ args w, (callFunc 46 args).run Try.prog w = .ok (.enter 46 args) w := enters_of Try.func46 (by kernel_rfl) rfl
  exact AnyQ.slices_SortFunc sortSv 2 Try.isAgg26 Try.sizeOf26 encSv (fun _ => rfl) (fun x v hv => by simp [encSv] at hv; rcases hv with rfl | rfl <;> rfl) cfS swoS 46 #[] blk off cap d w eg (cmpLays46 blk off d.size w) hH hblk hsz
end Go.Proofs.Ytphhofbdekbggaa

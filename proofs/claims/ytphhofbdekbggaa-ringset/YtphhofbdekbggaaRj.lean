/-
  The sort of points.
-/
import Derived.Test.YtphhofbdekbggaaRh
import Derived.Test.YtphhofbdekbggaaRi
namespace Go.Proofs.Ytphhofbdekbggaa
open Go.RowKit Go.Sort
set_option linter.unusedVariables false
set_option linter.unusedSimpArgs false

def encPt (p : Pt) : List Value := [.int .u32 p.1, .int .i64 p.2.1, .int .i64 p.2.2]
/-- How points are compared. -/
def cfP (p q : Pt) : Int := orI (cmpI p.1 q.1) (cmpI p.2.1 q.2.1)
theorem ltP (p q : Pt) : ltOf cfP p q = decide (p.1 < q.1 ∨ p.1 = q.1 ∧ p.2.1 < q.2.1) := by
  unfold ltOf cfP orI cmpI
  by_cases h1 : p.1 < q.1
  · simp [h1]
  · by_cases h2 : q.1 < p.1
    · have h3 : ¬ p.1 = q.1 := by omega
      simp [h1, h2, h3]
    · have h3 : p.1 = q.1 := by omega
      by_cases h4 : p.2.1 < q.2.1
      · simp [h3, h4]
      · by_cases h5 : q.2.1 < p.2.1 <;> simp [h3, h4, h5]
theorem swoP : SWO (ltOf cfP) where
  irrefl x := by rw [ltP]; simp
  trans x y z h1 h2 := by rw [ltP] at *; simp only [decide_eq_true_eq] at *; omega
  ntrans x y z h1 h2 := by rw [ltP] at *; simp only [decide_eq_false_iff_not] at *; omega
theorem cmpLays65 (blk off size : Nat) (w : World) : CmpLays Try.prog 65 #[] encPt 3 cfP blk off size w :=
  fun _ _ _ _ x y => clo_65 x.1 x.2.1 x.2.2 y.1 y.2.1 y.2.2 _
set_option maxRecDepth 100000 in
theorem sort_64 (blk off cap : Nat) (d : Array Pt) (w : World) (hH : HoldsK encPt 3 w blk off d) (hblk : blk < w.heap.size) (hsz : d.size < 4611686018427387904) :
    Calls Try.prog 64 #[.slice (some ⟨blk, off, none⟩) d.size cap, .func (.func 65) #[] #[]] w fun e w' => e = .returned (.tuple #[]) ∧ ∃ d' n os, PermIn 0 d.size d d' ∧ SortedIn (ltOf cfP) 0 d.size d' ∧ w' = sortWorldK encPt 3 w blk off n d' os := by
  have eg : ∀ args w, (callFunc 65 args).run Try.prog w = .ok (.enter 65 args) w := enters_of Try.func65 (by kernel_rfl) rfl
  exact AnyQ.slices_SortFunc sortPt 3 Try.isAgg49 Try.sizeOf49 encPt (fun _ => rfl) (fun x v hv => by simp [encPt] at hv; rcases hv with rfl | rfl | rfl <;> rfl) cfP swoP 65 #[] blk off cap d w eg (cmpLays65 blk off d.size w) hH hblk hsz
end Go.Proofs.Ytphhofbdekbggaa

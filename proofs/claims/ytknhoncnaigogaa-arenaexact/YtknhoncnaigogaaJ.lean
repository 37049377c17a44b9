/-
  Within, widthOf.
-/
import Derived.Test.YtknhoncnaigogaaI
namespace Go.Proofs.Ytknhoncnaigogaa
open Go.RowKit
set_option linter.unusedVariables false

theorem tmod_add (i n : Int) (h : 0 < n) : (i.tmod n + n) % n = i % n := by
  rw [Int.add_emod_right, Int.tmod_eq_emod]
  split
  · simp
  · have : ((n.natAbs : Nat) : Int) = n := by omega
    rw [this, Int.sub_emod_right, Int.emod_emod]

theorem and3 (i : Int) : bits BinOp.and IntKind.i64 i 3 = i % 4 := by
  have e3 : (BitVec.ofInt 64 3).toNat = 3 := by decide
  have e : (BitVec.ofInt 64 i).toNat = (i % 18446744073709551616).toNat := by simp [BitVec.toNat_ofInt]
  show IntKind.i64.wrap (((BitVec.ofInt 64 i &&& BitVec.ofInt 64 3).toNat : Nat) : Int) = i % 4
  rw [BitVec.toNat_and, e3, e, nat_mask2, IntKind.wrap_i64]
  omega
theorem and1 (i : Int) : bits BinOp.and IntKind.i64 i 1 = i % 2 := by
  have e3 : (BitVec.ofInt 64 1).toNat = 1 := by decide
  have e : (BitVec.ofInt 64 i).toNat = (i % 18446744073709551616).toNat := by simp [BitVec.toNat_ofInt]
  show IntKind.i64.wrap (((BitVec.ofInt 64 i &&& BitVec.ofInt 64 1).toNat : Nat) : Int) = i % 2
  rw [BitVec.toNat_and, e3, e, nat_mask1, IntKind.wrap_i64]
  omega

theorem within_any (i n : Int) (h1 : 1 ≤ n) (h2 : n ≤ 1099511627776) (w : World) : Calls Try.prog 22 #[.int .i64 i, .int .i64 n] w fun e w' => e = .returned (.int .i64 (i % n)) ∧ w = w' := by
  obtain ⟨r, hr⟩ : ∃ r, i.tmod n = r := ⟨_, rfl⟩
  have h3 : -n < r := by rw [← hr]; exact Int.lt_tmod_of_pos _ (by omega)
  have h4 : r < n := by rw [← hr]; exact Int.tmod_lt_of_pos _ (by omega)
  have h5 : Hid ((r + n) % n = i % n) := by rw [← hr]; exact tmod_add i n (by omega)
  go_enter Try.func22, Try.ntmps22
  go_wp2
  go_ret
  refine ⟨?_, rfl⟩
  rw [← h5.out]
  rfl

/-- The width that a number names. -/
def wd (i : Int) : Int := if i % 4 = 0 then 1 else if i % 4 = 1 then 2 else if i % 4 = 2 then 4 else 8
theorem isWidth_wd (i : Int) : isWidth (wd i) := by
  unfold wd isWidth
  split
  · simp
  · split
    · simp
    · split <;> simp

theorem widthOf_any (i : Int) (w : World) : Calls Try.prog 21 #[.int .i64 i] w fun e w' => e = .returned (.int .i64 (wd i)) ∧ w = w' := by
  have hm := and3 i
  obtain ⟨r, hr⟩ : ∃ r, i % 4 = r := ⟨_, rfl⟩
  rw [hr] at hm
  have h4 : r = 0 ∨ r = 1 ∨ r = 2 ∨ r = 3 := by omega
  have hw : Hid (wd i = if r = 0 then 1 else if r = 1 then 2 else if r = 2 then 4 else 8) := by rw [← hr]; rfl
  clear hr
  rcases h4 with rfl | rfl | rfl | rfl
  all_goals
    go_enter Try.func21, Try.ntmps21
    go_wp2
    go_ret
    refine ⟨?_, rfl⟩
    rw [hw.out]
    rfl

end Go.Proofs.Ytknhoncnaigogaa

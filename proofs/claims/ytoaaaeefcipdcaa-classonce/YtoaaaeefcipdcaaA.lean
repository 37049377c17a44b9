import Derived.Test.YtoaaaeefcipdcaaRows
import Derived.WalkKit
import Derived.WalkSpells
import Derived.WalkLawsBesides
import Derived.Deep.QuietTactic
import Derived.BigQuiet
import Derived.Lib.BitFns
/-
  Contracts of the small functions: num, the widths, Len, PageSize, Pages.
-/
namespace Go.Proofs.Ytoaaaeefcipdcaa
open Go.RowKit
set_option linter.unusedVariables false

theorem num_any (n : Int) (w : World) : Calls Try.prog 13 #[.int .i64 n] w fun e w' => e = .returned (.int .i64 n) ∧ w = w' := by
  go_enter Try.func13, Try.ntmps13
  go_wp2
  go_ret
  exact ⟨rfl, rfl⟩

theorem len_any (b g : Nat) (N : Nat) (w : World) (hc : w.cell? ⟨b, 2, none⟩ = some (.slice (some ⟨g, 0, none⟩) N N)) :
    Calls Try.prog 52 #[.pointer (some ⟨b, 0, none⟩)] w fun e w' => e = .returned (.int .i64 N) ∧ w = w' := by
  go_enter Try.func52, Try.ntmps52
  go_wp2
  go_ret
  exact ⟨rfl, rfl⟩

theorem pageSize_any (b : Nat) (n : Int) (w : World) (hc : w.cell? ⟨b, 0, none⟩ = some (.int .i64 n)) :
    Calls Try.prog 65 #[.pointer (some ⟨b, 0, none⟩)] w fun e w' => e = .returned (.int .i64 n) ∧ w = w' := by
  go_enter Try.func65, Try.ntmps65
  go_wp2
  go_ret
  exact ⟨rfl, rfl⟩

theorem tab255 (i : Nat) (h : i < Lib.len8tab.size) (e : i = 255) : (Lib.len8tab[i]).toNat = 8 := by
  subst e
  kernel_rfl

set_option maxRecDepth 100000 in
theorem len64_8 (x : Int) (H : Hid (x = 255)) (h1 : 255 ≤ x) (h2 : x ≤ 255) (w : World) : Calls Try.prog 143 #[.int .u64 x] w fun e w' => e = .returned (.int .i64 8) ∧ w = w' := by
  have hsz : Lib.len8tab.size = 256 := by kernel_rfl
  go_enter Try.func143, Try.ntmps143
  go_wp2
  go_ret
  refine ⟨congrArg Ending.returned (congrArg (Value.int IntKind.i64) ?_), rfl⟩
  rw [tab255 _ _ (by omega)]
  kernel_rfl

set_option maxRecDepth 100000 in
theorem len64_16 (x : Int) (H : Hid (x = 65535)) (h1 : 65535 ≤ x) (h2 : x ≤ 65535) (w : World) : Calls Try.prog 143 #[.int .u64 x] w fun e w' => e = .returned (.int .i64 16) ∧ w = w' := by
  have hsz : Lib.len8tab.size = 256 := by kernel_rfl
  go_enter Try.func143, Try.ntmps143
  go_wp2
  go_ret
  refine ⟨congrArg Ending.returned (congrArg (Value.int IntKind.i64) ?_), rfl⟩
  rw [tab255 _ _ (by omega)]
  kernel_rfl

set_option maxRecDepth 100000 in
theorem len64_32 (x : Int) (H : Hid (x = 4294967295)) (h1 : 4294967295 ≤ x) (h2 : x ≤ 4294967295) (w : World) : Calls Try.prog 143 #[.int .u64 x] w fun e w' => e = .returned (.int .i64 32) ∧ w = w' := by
  have hsz : Lib.len8tab.size = 256 := by kernel_rfl
  go_enter Try.func143, Try.ntmps143
  go_wp2
  go_ret
  refine ⟨congrArg Ending.returned (congrArg (Value.int IntKind.i64) ?_), rfl⟩
  rw [tab255 _ _ (by omega)]
  kernel_rfl

set_option maxRecDepth 100000 in
theorem len64_64 (x : Int) (H : Hid (x = 18446744073709551615)) (h1 : 18446744073709551615 ≤ x) (h2 : x ≤ 18446744073709551615) (w : World) : Calls Try.prog 143 #[.int .u64 x] w fun e w' => e = .returned (.int .i64 64) ∧ w = w' := by
  have hsz : Lib.len8tab.size = 256 := by kernel_rfl
  go_enter Try.func143, Try.ntmps143
  go_wp2
  go_ret
  refine ⟨congrArg Ending.returned (congrArg (Value.int IntKind.i64) ?_), rfl⟩
  rw [tab255 _ _ (by omega)]
  kernel_rfl

set_option maxRecDepth 100000 in
theorem width_90 (w : World) : Calls Try.prog 137 #[] w fun e w' => e = .returned (.int .i64 4) ∧ w = w' := by
  have hx : bits BinOp.xor IntKind.u32 IntKind.u32.max 0 = 4294967295 := by kernel_rfl
  have hs : IntKind.u32.signed = false := rfl
  go_enter Try.func137, Try.ntmps137
  go_wp2_with fail
  refine (len64_32 _ (show _ = _ from rfl) (by omega) (by omega) _).mono ?_
  rintro e w' ⟨rfl, rfl⟩
  go_wp2
  go_ret
  exact ⟨rfl, rfl⟩

end Go.Proofs.Ytoaaaeefcipdcaa

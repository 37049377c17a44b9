/-
  The law's helpers: num, Ints.
-/
import Derived.Test.YtphhofbdekbggaaRe
namespace Go.Proofs.Ytphhofbdekbggaa
open Go.RowKit
set_option linter.unusedVariables false
set_option linter.unusedSimpArgs false

theorem num_10 (e : Int) (w : World) : Calls Try.prog 10 #[.int .i64 e] w fun y w' => y = .returned (.int .i64 e) ∧ w' = w := by
  go_enter Try.func10, Try.ntmps10
  go_wp2
  go_ret
  simp
/-- The i-th int. -/
def iat (l : List Int) (i : Nat) : Int := l.getD i 0
theorem ints_cell {w : World} {B g n c : Nat} {l : List Int} (h : w.ownsRow B 3 1 (.slice (some ⟨g, 0, none⟩) n c) n (ivals l)) (i : Nat) (hi : i < n) : w.cell? ⟨g, i, none⟩ = some (.int .i64 (iat l i)) := by
  have hl : l.length = n := by have := h.1; simpa [ivals] using this
  refine row_cell h i _ ?_
  simp [ivals, iat, List.getElem?_eq_getElem (show i < l.length by omega)]
set_option maxHeartbeats 2000000 in
/-- Two lists of the same ints. -/
theorem ints_24 {w : World} {B C : Nat} {v u : Value} {n : Nat} {l : List Int} (hv : w.ownsRow B 3 1 v n (ivals l)) (hu : w.ownsRow C 3 1 u n (ivals l)) (hn : n ≤ 281474976710656) : Calls Try.prog 24 #[v, u] w fun y w' => y = .returned (.bool true) ∧ w.grownBy w' none := by
  obtain ⟨va, vc, rfl, hv1, hv2, hv3, hv4⟩ := row_shape hv
  obtain ⟨ua, uc, rfl, hu1, hu2, hu3, hu4⟩ := row_shape hu
  go_enter Try.func24, Try.ntmps24
  go_wp2_with fail
  go_loopw [5] (fun x wr => ∃ (k : Nat), k ≤ n ∧ x = .int .i64 k ∧ w.grownBy wr none) (fun x _ => n - (intOf x).toNat)
  case atStart => exact ⟨0, by omega, rfl, gb_refl _ _⟩
  case round =>
    obtain ⟨k, hk, rfl, hg⟩ := hrel
    by_cases hlt : k < n
    · obtain ⟨g1, rfl⟩ := hv4 (by omega)
      obtain ⟨g2, rfl⟩ := hu4 (by omega)
      have c1 := gb_cellN hg (ints_cell hv k hlt)
      have c2 := gb_cellN hg (ints_cell hu k hlt)
      generalize iat l k = z at *
      have hk0 : wr.drew.cell? ⟨g1, k, none⟩ = some (.int .i64 z) ∧ wr.drew.cell? ⟨g2, k, none⟩ = some (.int .i64 z) := ⟨c1, c2⟩
      have HG : Hid (w.grownBy wr.drew none) := gb_drew hg
      clear hv hu
      go_wp2_with fail
      go_region_held3 (fun W => W.cell? ⟨g1, k, none⟩ = some (.int .i64 z) ∧ W.cell? ⟨g2, k, none⟩ = some (.int .i64 z)) ((first | with_reducible exact hk0 | go_keep)) (fail)
      go_wp2_with fail
      go_roundw
      case rel => exact ⟨k + 1, by omega, by go_num, HG.out⟩
      case measure => simp [intOf]; omega
    · obtain rfl : k = n := by omega
      clear hv hu
      go_wp2_with fail
      go_ret
      exact ⟨rfl, hg⟩
end Go.Proofs.Ytphhofbdekbggaa

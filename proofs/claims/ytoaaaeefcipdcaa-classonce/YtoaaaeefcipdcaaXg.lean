import Derived.Test.YtoaaaeefcipdcaaXa
/-
  ClassApart: alike.
-/
namespace Go.Proofs.Ytoaaaeefcipdcaa
open Go.RowKit
set_option linter.unusedVariables false

theorem iL_get (o : List Int) (k : Nat) (h : k < o.length) : (iL o)[k]? = some (.int .i64 (o.getD k 0)) := by
  simp [iL, List.getD_eq_getElem?_getD, List.getElem?_eq_getElem h]

set_option maxRecDepth 100000 in
set_option maxHeartbeats 2000000 in
theorem alike_29 {w : World} {B1 B2 : Nat} {av bv : Value} {o : List Int} (h1 : w.ownsRow B1 3 1 av o.length (iL o)) (h2 : w.ownsRow B2 3 1 bv o.length (iL o)) (hn : o.length ≤ 1000) :
    Calls Try.prog 29 #[av, bv] w fun e w' => e = .returned (.bool true) ∧ w.grownBy w' none := by
  obtain ⟨a1, c1, rfl, _, _, _, g1⟩ := row_shape h1
  obtain ⟨a2, c2, rfl, _, _, _, g2⟩ := row_shape h2
  have hget := iL_get o
  generalize o.length = n at *
  go_enter Try.func29, Try.ntmps29
  go_wp2
  go_loopw [5] (fun x wr => ∃ (k : Nat), k ≤ n ∧ x = .int .i64 k ∧ ∃ q, wr = w.drewN q) (fun x _ => n - (intOf x).toNat)
  case atStart => exact ⟨0, by omega, rfl, 0, rfl⟩
  case round =>
    obtain ⟨k, hk, rfl, q, rfl⟩ := hrel
    by_cases hlt : k < n
    · obtain ⟨b1, rfl⟩ := g1 (by omega)
      obtain ⟨b2, rfl⟩ := g2 (by omega)
      have k1 : (w.drewN q).cell? ⟨b1, k, none⟩ = some (.int .i64 (o.getD k 0)) := row_cell h1 k _ (hget k hlt)
      have k2 : (w.drewN q).cell? ⟨b2, k, none⟩ = some (.int .i64 (o.getD k 0)) := row_cell h2 k _ (hget k hlt)
      generalize o.getD k 0 = u at *
      have hd : decide ((k : Int) < n) = true := by simp; omega
      have hd3 : decide (k < n) = true := by simp; omega
      have HE : Hid (∀ m, ∃ q', (w.drewN q).drewN m = w.drewN q') := fun m => ⟨q + m, by simp⟩
      clear h1 h2 hget g1 g2
      generalize w.drewN q = V at *
      go_wp2
      go_quiet (fail)
      go_wp2
      go_roundw
      case rel => exact ⟨k + 1, by omega, by go_num, HE.out _⟩
      case measure => simp [intOf]; omega
    · clear h1 h2 hget g1 g2
      go_wp2
      go_ret
      exact ⟨rfl, gb_drewN (gb_refl _ _) q⟩

end Go.Proofs.Ytoaaaeefcipdcaa

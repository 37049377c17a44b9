/-
  Servers that all may be.
-/
import Derived.Test.YtphhofbdekbggaaRo
namespace Go.Proofs.Ytphhofbdekbggaa
open Go.RowKit Go.Sort
set_option linter.unusedVariables false
set_option linter.unusedSimpArgs false

set_option maxHeartbeats 2000000 in
theorem index_44 {w : World} {a : Option Addr} {g n c : Nat} {ps : List Sv} (h : SvAt w g ps) (hn : ps.length = n) (ha : 0 < n → a = some ⟨g, 0, none⟩) (hn2 : n ≤ 1000000) (hok : ∀ i, i < n → svOk (sat ps i) = true) (hsz : ∀ i, i < n → (sat ps i).1.size ≤ maxLen) :
    Calls Try.prog 44 #[.slice a n c, .func (.func 29) #[] #[]] w fun e w' => e = .returned (.int .i64 (-1)) ∧ w.grownBy w' none := by
  have h29 : ∀ i, i < n → ∀ W, Calls Try.prog 29 #[.agg #[.string (sat ps i).1, .int .i64 (sat ps i).2]] W fun e w' => e = .returned (.bool false) ∧ ∃ q os, w' = Sort.grow (W.drewN q) os := fun i hi W => by
    have := isNone_29 (sat ps i).1 (sat ps i).2 W (hsz i hi)
    rwa [show svOk ((sat ps i).1, (sat ps i).2) = true from hok i hi] at this
  go_enter Try.func44, Try.ntmps44
  go_wp2_with fail
  go_loopw [8] (fun x wr => ∃ (k : Nat), k ≤ n ∧ x = .int .i64 k ∧ w.grownBy wr none) (fun x _ => n - (intOf x).toNat)
  case atStart => exact ⟨0, by omega, rfl, gb_refl _ _⟩
  case round =>
    obtain ⟨k, hk, rfl, hg⟩ := hrel
    by_cases hlt : k < n
    · obtain rfl := ha (by omega)
      obtain ⟨c0, c1⟩ := (h.grown hg) k (by omega)
      have hc := h29 k hlt
      generalize (sat ps k).1 = s at *
      generalize (sat ps k).2 = wt at *
      have HG : Hid (w.grownBy wr none) := hg
      clear h hg h29 hok hsz
      go_wp2_with (go_at_call 29; go_must (refine (hc _).mono ?_); rintro y w' ⟨rfl, q, os, rfl⟩)
      go_roundw
      case rel => exact ⟨k + 1, by omega, by go_num, gb_trans HG.out (gb_grow _ _ _)⟩
      case measure => simp [intOf]; omega
    · obtain rfl : k = n := by omega
      clear h h29 hok hsz
      go_wp2_with fail
      go_ret
      exact ⟨rfl, hg⟩
theorem contains_28 {w : World} {a : Option Addr} {g n c : Nat} {ps : List Sv} (h : SvAt w g ps) (hn : ps.length = n) (ha : 0 < n → a = some ⟨g, 0, none⟩) (hn2 : n ≤ 1000000) (hok : ∀ i, i < n → svOk (sat ps i) = true) (hsz : ∀ i, i < n → (sat ps i).1.size ≤ maxLen) :
    Calls Try.prog 28 #[.slice a n c, .func (.func 29) #[] #[]] w fun e w' => e = .returned (.bool false) ∧ w.grownBy w' none := by
  have h44 := index_44 (c := c) h hn ha hn2 hok hsz
  clear h ha hok hsz
  go_enter Try.func28, Try.ntmps28
  go_wp2_with (go_at_call 44; go_must (refine h44.mono ?_); rintro y w' ⟨rfl, hg⟩)
  go_ret
  exact ⟨by rfl, hg⟩
end Go.Proofs.Ytphhofbdekbggaa

/-
  HashMixes' walk; what is known of 1.
-/
import Derived.Test.YtcbogbohafmnhaaC
namespace Go.Proofs.Ytcbogbohafmnhaa
open Go.RowKit
set_option linter.unusedVariables false

theorem mix1 : mix 1 = 6238072747940578789 := by decide +kernel
theorem point1 : point 1 = 1452414493 := by decide +kernel
theorem slot1 : slot 1 2 = 1 := by decide +kernel
theorem mix_one (w : World) : Calls Try.prog 14 #[.int .u64 1] w fun e w' => e = .returned (.int .u64 6238072747940578789) ∧ w' = w := by
  have := mix_14 1 (by decide) w
  rw [mix1] at this
  simpa only [Int.cast_ofNat_Int] using this
theorem point_one (w : World) : Calls Try.prog 18 #[.int .u64 1] w fun e w' => e = .returned (.int .u32 1452414493) ∧ w' = w := by
  have := point_18 1 (by decide) w
  rw [point1] at this
  simpa only [Int.cast_ofNat_Int] using this
theorem slot_one (w : World) : Calls Try.prog 16 #[.int .u64 1, .int .i64 2] w fun e w' => e = .returned (.int .i64 1) ∧ w' = w := by
  have := slot_16 1 (by decide) 2 (by decide) w
  rw [slot1] at this
  simpa only [Int.cast_ofNat_Int] using this

/-- Turns that came in. -/
def TuIn (w : World) (a : Option Addr) (n : Nat) : Prop := ∀ i, i < n → ∃ b o, a = some ⟨b, o, none⟩ ∧ ∃ (h : Nat) (x : Int),
  w.cell? ⟨b, o + i * 2, none⟩ = some (.int .u64 h) ∧ w.cell? ⟨b, o + i * 2 + 1, none⟩ = some (.int .i64 x) ∧ h < 18446744073709551616 ∧ x ≤ 9223372036854775807

set_option maxRecDepth 100000 in
set_option maxHeartbeats 4000000 in
theorem mixes_any (a : Option Addr) (n c : Nat) (w : World) (hn : n ≤ maxLen) (hin : TuIn w a n) : Calls Try.prog 4 #[.slice a n c] w fun e w' => e = .returned (.bool true) ∧ w.grownBy w' none := by
  have hn' : (n : Int) ≤ 9223372036854775807 := by unfold maxLen at hn; omega
  go_enter Try.func4, Try.ntmps4
  go_wp2
  go_loopw [3] (fun v wr => ∃ (k : Nat), k ≤ n ∧ v = .int .i64 k ∧ w.grownBy wr none) (fun v _ => n - (intOf v).toNat)
  case atStart => exact ⟨0, by omega, rfl, gb_refl _ _⟩
  case round =>
    obtain ⟨k, hk, rfl, hF⟩ := hrel
    by_cases hlt : k < n ∧ k < 100
    · obtain ⟨hlt, hlt2⟩ := hlt
      obtain ⟨b, o, rfl, h, x, y0, y1, hh, hx⟩ := hin k hlt
      have c1 := mix_14 h hh
      have c2 := mix_15 h hh
      have c3 := slot_16 h hh x hx
      have c4 := slot_17 h hh x hx
      have c5 := point_18 h hh
      have c6 := point_19 h hh
      have hd1 : decide ((k : Int) < n) = true := by simp; omega
      have hd2 : decide ((k : Int) < 100) = true := by simp; omega
      have hd3 : decide (k < n) = true := by simp; omega
      have z0 := gb_cellN hF y0
      have z1 := gb_cellN hF y1
      generalize mix h = m at *
      generalize slot h x = sl at *
      generalize point h = pt at *
      clear hin
      go_wp2
      go_quiet ((first | (go_at_call 14; with_reducible exact Calls.quiet_of_same (c1 _)) | (go_at_call 15; with_reducible exact Calls.quiet_of_same (c2 _)) | (go_at_call 16; with_reducible exact Calls.quiet_of_same (c3 _)) | (go_at_call 17; with_reducible exact Calls.quiet_of_same (c4 _)) | (go_at_call 18; with_reducible exact Calls.quiet_of_same (c5 _)) | (go_at_call 19; with_reducible exact Calls.quiet_of_same (c6 _))))
      go_wp2
      go_roundw
      case rel => exact ⟨k + 1, by omega, by go_num, gb_drewN (gb_alloc hF _) _⟩
      case measure => simp [intOf]; omega
    · clear hin
      by_cases hkn : k < n
      · have hd2 : ¬ k < 100 := fun h => hlt ⟨hkn, h⟩
        clear hlt
        go_wp2_with (first | (go_at_call 14; go_must (refine (mix_one _).mono ?_); rintro y w2 ⟨rfl, rfl⟩) | (go_at_call 18; go_must (refine (point_one _).mono ?_); rintro y w2 ⟨rfl, rfl⟩) | (go_at_call 16; go_must (refine (slot_one _).mono ?_); rintro y w2 ⟨rfl, rfl⟩) | fail)
        go_ret
        exact ⟨rfl, hF⟩
      · clear hlt
        go_wp2_with (first | (go_at_call 14; go_must (refine (mix_one _).mono ?_); rintro y w2 ⟨rfl, rfl⟩) | (go_at_call 18; go_must (refine (point_one _).mono ?_); rintro y w2 ⟨rfl, rfl⟩) | (go_at_call 16; go_must (refine (slot_one _).mono ?_); rintro y w2 ⟨rfl, rfl⟩) | fail)
        go_ret
        exact ⟨rfl, hF⟩

end Go.Proofs.Ytcbogbohafmnhaa

/-
  HashUnlike's walk.
-/
import Derived.Test.YtcbogbohafmnhaaB
namespace Go.Proofs.Ytcbogbohafmnhaa
open Go.RowKit
set_option linter.unusedVariables false

theorem div32 (m : Nat) : ((m / 4294967296 : Nat) : Int) = (m : Int) / 4294967296 := by omega

theorem point_m (h : Nat) (hh : h < 18446744073709551616) (w : World) :
    Calls Try.prog 18 #[.int .u64 h] w fun e w' => e = .returned (.int .u32 ((mix h : Int) / 4294967296)) ∧ w' = w := by
  have := point_18 h hh w
  unfold point at this
  rw [div32] at this
  exact this

set_option maxHeartbeats 1000000 in
theorem unlike_any (h g : Nat) (n : Int) (hh : h < 18446744073709551616) (hg : g < 18446744073709551616) (hn : n ≤ 9223372036854775807) (w : World) :
    Calls Try.prog 8 #[.int .u64 h, .int .u64 g, .int .i64 n] w fun e w' => e = .returned (.bool true) ∧ w' = w := by
  have c1 := mix_14 h hh
  have c2 := mix_14 g hg
  have c3 := back_25 (mix h) (mix_lt _)
  rw [unmix_mix h hh] at c3
  have c4 := point_m h hh
  have c5 := slot_16 h hh n hn
  have l1 := mix_lt h
  have l2 := mix_lt g
  have HI : Hid (mix g = mix h → g = h) := fun e => mix_inj g h hg hh e
  have HI2 : Hid (g = h → mix g = mix h) := fun e => by rw [e]
  unfold slot at c5
  generalize mix h = m at *
  generalize mix g = mg at *
  by_cases h2 : n < 2
  · rw [if_pos h2] at c5
    by_cases he : g = h
    · have e := HI2.out he
      subst he
      subst e
      go_enter Try.func8, Try.ntmps8
      go_wp2_with (first | (go_at_call 14; go_must (refine (c1 _).mono ?_); rintro e w' ⟨rfl, rfl⟩) | (go_at_call 25; go_must (refine (c3 _).mono ?_); rintro e w' ⟨rfl, rfl⟩) | (go_at_call 18; go_must (refine (c4 _).mono ?_); rintro e w' ⟨rfl, rfl⟩) | (go_at_call 16; go_must (refine (c5 _).mono ?_); rintro e w' ⟨rfl, rfl⟩) | fail)
      go_ret
      exact ⟨rfl, rfl⟩
    · have e : ¬ mg = m := fun e => he (HI.out e)
      have he' : ((g : Int) == h) = false := by simp; omega
      have e' : ((mg : Int) == m) = false := by simp; omega
      go_enter Try.func8, Try.ntmps8
      go_wp2_with (first | (go_at_call 14; go_must (with_reducible first | refine (c1 _).mono ?_ | refine (c2 _).mono ?_); rintro e w' ⟨rfl, rfl⟩) | (go_at_call 25; go_must (refine (c3 _).mono ?_); rintro e w' ⟨rfl, rfl⟩) | (go_at_call 18; go_must (refine (c4 _).mono ?_); rintro e w' ⟨rfl, rfl⟩) | (go_at_call 16; go_must (refine (c5 _).mono ?_); rintro e w' ⟨rfl, rfl⟩) | fail)
      go_ret
      exact ⟨rfl, rfl⟩
  · rw [if_neg h2] at c5
    obtain ⟨k, rfl⟩ : ∃ k : Nat, n = (k : Int) := ⟨n.toNat, by omega⟩
    have hkk : (k : Int).toNat = k := by simp
    rw [hkk] at c5
    have hs1 : m % k < k := Nat.mod_lt _ (by omega)
    have hs2 : m % k ≤ m := Nat.mod_le _ _
    have hz : IntKind.u64.wrap ((m : Int) - ((m % k : Nat) : Int)) = ((m - m % k : Nat) : Int) := by
      rw [IntKind.wrap_u64]; omega
    have hd : ((m - m % k : Nat) : Int).tmod k = 0 := by
      have h3 : (m - m % k) % k = 0 := Nat.sub_mod_eq_zero_of_mod_eq (by rw [Nat.mod_mod])
      rw [Int.tmod_eq_emod_of_nonneg (by omega), ← Int.natCast_emod, h3]
      rfl
    have hd2 : ((m - m % k : Nat) : Int) % k = 0 := by
      have h3 : (m - m % k) % k = 0 := Nat.sub_mod_eq_zero_of_mod_eq (by rw [Nat.mod_mod])
      rw [← Int.natCast_emod, h3]
      rfl
    generalize m - m % k = r at *
    generalize m % k = s at *
    by_cases he : g = h
    · have e := HI2.out he
      subst he
      subst e
      go_enter Try.func8, Try.ntmps8
      go_wp2_with (first | (go_at_call 14; go_must (refine (c1 _).mono ?_); rintro e w' ⟨rfl, rfl⟩) | (go_at_call 25; go_must (refine (c3 _).mono ?_); rintro e w' ⟨rfl, rfl⟩) | (go_at_call 18; go_must (refine (c4 _).mono ?_); rintro e w' ⟨rfl, rfl⟩) | (go_at_call 16; go_must (refine (c5 _).mono ?_); rintro e w' ⟨rfl, rfl⟩) | fail)
      go_ret
      exact ⟨rfl, rfl⟩
    · have e : ¬ mg = m := fun e => he (HI.out e)
      have he' : ((g : Int) == h) = false := by simp; omega
      have e' : ((mg : Int) == m) = false := by simp; omega
      go_enter Try.func8, Try.ntmps8
      go_wp2_with (first | (go_at_call 14; go_must (with_reducible first | refine (c1 _).mono ?_ | refine (c2 _).mono ?_); rintro e w' ⟨rfl, rfl⟩) | (go_at_call 25; go_must (refine (c3 _).mono ?_); rintro e w' ⟨rfl, rfl⟩) | (go_at_call 18; go_must (refine (c4 _).mono ?_); rintro e w' ⟨rfl, rfl⟩) | (go_at_call 16; go_must (refine (c5 _).mono ?_); rintro e w' ⟨rfl, rfl⟩) | fail)
      go_ret
      exact ⟨rfl, rfl⟩

end Go.Proofs.Ytcbogbohafmnhaa

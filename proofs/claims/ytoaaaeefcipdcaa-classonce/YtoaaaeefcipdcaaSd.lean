import Derived.Test.YtoaaaeefcipdcaaSc
/-
  What is refused.
-/
namespace Go.Proofs.Ytoaaaeefcipdcaa
open Go.RowKit
set_option linter.unusedVariables false

structure Valid (a b c d e : Int) : Prop where
  pg : PageOk a
  b0 : 1 ≤ b
  b1 : b ≤ 1024
  c0 : 105 ≤ c
  c1 : c ≤ 400
  d0 : 64 ≤ d
  d1 : d ≤ 512
  d8 : d % 8 = 0
  e0 : d ≤ e
  e1 : e ≤ a

def Many (c d e : Int) : Prop := ∀ j, j < 62 → chain c.toNat (limOf e.toNat) d.toNat j < limOf e.toNat
def NCls (c d e : Int) (n : Nat) : Prop := n ≤ 62 ∧ Cls c.toNat (limOf e.toNat) d.toNat n
/-- The document's error of New. -/
def Refd (a b c d e r : Int) : Prop := (¬ Valid a b c d e ∧ r = 1) ∨ (Valid a b c d e ∧ ((Many c d e ∧ r = 2) ∨ ∃ n, NCls c d e n ∧ ((b < n ∧ r = 3) ∨ (n ≤ b ∧ r = 0))))

theorem many_not {c d e : Int} {n : Nat} (h : Many c d e) (k : NCls c d e n) : False := by
  obtain ⟨k1, k2, k3, _⟩ := k
  have := h (n - 1) (by omega)
  omega
theorem refd_uniq {a b c d e r s : Int} (h : Refd a b c d e r) (k : Refd a b c d e s) : r = s := by
  rcases h with ⟨h1, rfl⟩ | ⟨h1, ⟨h2, rfl⟩ | ⟨n, h2, h3⟩⟩ <;> rcases k with ⟨k1, rfl⟩ | ⟨k1, ⟨k2, rfl⟩ | ⟨m, k2, k3⟩⟩
  · rfl
  · exact absurd k1 h1
  · exact absurd k1 h1
  · exact absurd h1 k1
  · rfl
  · exact (many_not h2 k2).elim
  · exact absurd h1 k1
  · exact (many_not k2 h2).elim
  · have := cls_uniq h2.2 k2.2
    subst this
    rcases h3 with ⟨h3, rfl⟩ | ⟨h3, rfl⟩ <;> rcases k3 with ⟨k3, rfl⟩ | ⟨k3, rfl⟩ <;> omega

theorem PageOk.bounds {a : Int} (h : PageOk a) : 4096 ≤ a ∧ a ≤ 1048576 ∧ a % 8 = 0 := by
  obtain ⟨k, rfl, h1, h2⟩ := h
  have := pow_range k h2
  have h3 : 2 ^ 12 ≤ 2 ^ k := Nat.pow_le_pow_right (by omega) h1
  have h4 : 2 ^ k % 8 = 0 := by
    obtain ⟨j, rfl⟩ : ∃ j, k = j + 3 := ⟨k - 3, by omega⟩
    rw [Nat.pow_add]; omega
  omega
theorem Valid.good {a b c d e : Int} (h : Valid a b c d e) : GoodF c.toNat (limOf e.toNat) d.toNat ∧ e.toNat ≤ 1048576 := by
  obtain ⟨p1, p2, p3⟩ := h.pg.bounds
  obtain ⟨_, b0, b1, c0, c1, d0, d1, d8, e0, e1⟩ := h
  have l1 := limOf_ge e.toNat
  have l2 := limOf_8 e.toNat
  exact ⟨⟨by omega, by omega, by omega, by omega, by omega, l2, by omega⟩, by omega⟩

set_option maxHeartbeats 2000000 in
theorem refused_any (a b c d e : Int) (w : World) : Calls Try.prog 41 #[refV a b c d e] w fun x w' => ∃ r, x = .returned (.int .i64 r) ∧ w.grownBy w' none ∧ Refd a b c d e r := by
  by_cases hpg : PageOk a ∧ 1 ≤ b ∧ b ≤ 1024
  · have hr := fun W => right_yes a b hpg W
    by_cases hc0 : 105 ≤ c
    · skip
      by_cases hc1 : c ≤ 400
      · skip
        by_cases hd0 : 64 ≤ d
        · skip
          by_cases hd1 : d ≤ 512
          · skip
            by_cases hd8 : d % 8 = 0
            · skip
              by_cases he0 : d ≤ e
              · skip
                by_cases he1 : e ≤ a
                · skip
                  have hV : Valid a b c d e := ⟨hpg.1, hpg.2.1, hpg.2.2, hc0, hc1, hd0, hd1, hd8, he0, he1⟩
                  obtain ⟨hG, hil⟩ := hV.good
                  have hrem : d.tmod 8 = 0 := by rw [Int.tmod_eq_emod_of_nonneg (by omega)]; exact hd8
                  obtain ⟨hp0, hp1, hp2⟩ := hpg.1.bounds
                  have HV : Hid (Valid a b c d e) := hV
                  obtain ⟨F, rfl⟩ := Int.eq_ofNat_of_zero_le (show 0 ≤ c by omega)
                  obtain ⟨s0, rfl⟩ := Int.eq_ofNat_of_zero_le (show 0 ≤ d by omega)
                  obtain ⟨il, rfl⟩ := Int.eq_ofNat_of_zero_le (show 0 ≤ e by omega)
                  simp only [Int.toNat_natCast] at hG hil
                  have hsz := fun W => rsizes_any hG rfl hil a b W
                  have hb1 := hpg.2.1
                  have hb2 := hpg.2.2
                  clear hpg hV hd8
                  unfold refV
                  go_enter Try.func41, Try.ntmps41
                  go_wp2_with (first | (go_at_call 97; go_must (refine (hr _).mono ?_); rintro x w' ⟨rfl, rfl⟩) | (go_at_call 42; go_must (refine (hsz _).mono ?_)) | fail)
                  rintro x w1 ⟨hF, n, v, hn, rfl, hrow, hcl⟩
                  obtain ⟨ao, cp, rfl, -, hncp, -, -⟩ := row_shape hrow
                  have hF2 : w.grownBy w1 none := gb_trans (gb_alloc (gb_refl _ _) _) hF
                  have c1 : w1.cell? ⟨w.heap.size, 1, none⟩ = some (.int .i64 b) := gb_cellN hF (by rw [(Box.new w 31 _).cell 1]; rfl)
                  by_cases h62 : n ≤ 62
                  · have hNC : NCls F s0 il n := by
                      rcases hcl with h | h
                      · exact ⟨h62, by simpa using h.2⟩
                      · omega
                    by_cases hbn : b < n
                    · have HR : Hid (Refd a b F s0 il 3) := .inr ⟨HV.out, .inr ⟨n, hNC, .inl ⟨hbn, rfl⟩⟩⟩
                      clear hNC hcl hrow
                      go_wp2
                      go_ret
                      exact ⟨_, rfl, hF2, HR.out⟩
                    · have HR : Hid (Refd a b F s0 il 0) := .inr ⟨HV.out, .inr ⟨n, hNC, .inr ⟨by omega, rfl⟩⟩⟩
                      clear hNC hcl hrow
                      go_wp2
                      go_ret
                      exact ⟨_, rfl, hF2, HR.out⟩
                  · have HR : Hid (Refd a b F s0 il 2) := by
                      refine .inr ⟨HV.out, .inl ⟨?_, rfl⟩⟩
                      rcases hcl with h | h
                      · omega
                      · exact fun j hj => by simpa using h.2 j hj
                    clear hcl hrow
                    go_wp2
                    go_ret
                    exact ⟨_, rfl, hF2, HR.out⟩
                · have HN : Hid (Refd a b c d e 1) := .inl ⟨fun h => he1 h.e1, rfl⟩
                  have hrem : d.tmod 8 = 0 := by rw [Int.tmod_eq_emod_of_nonneg (by omega)]; exact hd8
                  clear hd8
                  clear hpg
                  unfold refV
                  go_enter Try.func41, Try.ntmps41
                  go_wp2_with (first | (go_at_call 97; go_must (refine (hr _).mono ?_); rintro x w' ⟨rfl, rfl⟩) | fail)
                  go_ret
                  exact ⟨_, rfl, gb_alloc (gb_refl _ _) _, HN.out⟩
              · have HN : Hid (Refd a b c d e 1) := .inl ⟨fun h => he0 h.e0, rfl⟩
                have hrem : d.tmod 8 = 0 := by rw [Int.tmod_eq_emod_of_nonneg (by omega)]; exact hd8
                clear hd8
                clear hpg
                unfold refV
                go_enter Try.func41, Try.ntmps41
                go_wp2_with (first | (go_at_call 97; go_must (refine (hr _).mono ?_); rintro x w' ⟨rfl, rfl⟩) | fail)
                go_ret
                exact ⟨_, rfl, gb_alloc (gb_refl _ _) _, HN.out⟩
            · have HN : Hid (Refd a b c d e 1) := .inl ⟨fun h => hd8 h.d8, rfl⟩
              have hrem : d.tmod 8 = d % 8 := Int.tmod_eq_emod_of_nonneg (by omega)
              have hdd : decide (d % 8 = 0) = false := by simp; omega
              generalize d % 8 = d8 at *
              clear hpg
              unfold refV
              go_enter Try.func41, Try.ntmps41
              go_wp2_with (first | (go_at_call 97; go_must (refine (hr _).mono ?_); rintro x w' ⟨rfl, rfl⟩) | fail)
              go_ret
              exact ⟨_, rfl, gb_alloc (gb_refl _ _) _, HN.out⟩
          · have HN : Hid (Refd a b c d e 1) := .inl ⟨fun h => hd1 h.d1, rfl⟩
            clear hpg
            unfold refV
            go_enter Try.func41, Try.ntmps41
            go_wp2_with (first | (go_at_call 97; go_must (refine (hr _).mono ?_); rintro x w' ⟨rfl, rfl⟩) | fail)
            go_ret
            exact ⟨_, rfl, gb_alloc (gb_refl _ _) _, HN.out⟩
        · have HN : Hid (Refd a b c d e 1) := .inl ⟨fun h => hd0 h.d0, rfl⟩
          clear hpg
          unfold refV
          go_enter Try.func41, Try.ntmps41
          go_wp2_with (first | (go_at_call 97; go_must (refine (hr _).mono ?_); rintro x w' ⟨rfl, rfl⟩) | fail)
          go_ret
          exact ⟨_, rfl, gb_alloc (gb_refl _ _) _, HN.out⟩
      · have HN : Hid (Refd a b c d e 1) := .inl ⟨fun h => hc1 h.c1, rfl⟩
        clear hpg
        unfold refV
        go_enter Try.func41, Try.ntmps41
        go_wp2_with (first | (go_at_call 97; go_must (refine (hr _).mono ?_); rintro x w' ⟨rfl, rfl⟩) | fail)
        go_ret
        exact ⟨_, rfl, gb_alloc (gb_refl _ _) _, HN.out⟩
    · have HN : Hid (Refd a b c d e 1) := .inl ⟨fun h => hc0 h.c0, rfl⟩
      clear hpg
      unfold refV
      go_enter Try.func41, Try.ntmps41
      go_wp2_with (first | (go_at_call 97; go_must (refine (hr _).mono ?_); rintro x w' ⟨rfl, rfl⟩) | fail)
      go_ret
      exact ⟨_, rfl, gb_alloc (gb_refl _ _) _, HN.out⟩
  · have hr := fun W => right_no a b hpg W
    have HN : Hid (Refd a b c d e 1) := .inl ⟨fun h => hpg ⟨h.pg, h.b0, h.b1⟩, rfl⟩
    clear hpg
    unfold refV
    go_enter Try.func41, Try.ntmps41
    go_wp2_with (first | (go_at_call 97; go_must (refine (hr _).mono ?_); rintro x w' ⟨rfl, rfl⟩) | fail)
    go_ret
    exact ⟨_, rfl, gb_alloc (gb_refl _ _) _, HN.out⟩

end Go.Proofs.Ytoaaaeefcipdcaa

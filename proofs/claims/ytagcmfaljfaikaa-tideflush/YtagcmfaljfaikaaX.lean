/-
  TideFlush: comesTo.
-/
import Derived.Test.YtagcmfaljfaikaaW
namespace Go.Proofs.Ytagcmfaljfaikaa
open Go.RowKit
set_option linter.unusedVariables false

section
variable {w wr w' : World} {wb cb : Nat} {tv : Value} {m d : Nat} {now comes : Int}
set_option maxRecDepth 100000 in
set_option maxHeartbeats 4000000 in
theorem comesTo_56 (h : FSt w wr wb cb tv m d now comes) (hm : m < 1000000) (t : Int) (h1 : 1 ≤ t) (h2 : t ≤ 1000000) (hn : now ≤ 900000000) :
    Calls Try.prog 56 #[.pointer (some ⟨wb, 0, none⟩), .int .i64 t] wr fun y w' => y = .returned (.bool true) ∧ ∃ d' comes', FSt w w' wb cb tv m d' (now + t) comes' := by
  have hok := h.ok
  have hdm := h.dm; have hn1 := h.n1; have hc0 := h.c0; have hc1 := h.c1
  have hmv := fun W (hM : Mid w W wb cb tv m d now comes ⟨now, d, pend comes⟩) => move_15 hM.ck hok t m (by omega) (by simp only []; omega)
  have hmid := h.mid
  obtain ⟨e0, e1, e2, e3, e4⟩ := hmid.cells
  have hk : ∃ k', Ck.moved ⟨now, d, pend comes⟩ t m = k' ∧ ((comes = 0 ∨ now + t < comes) → k' = ⟨now + t, d, pend comes⟩) ∧ ((0 < comes ∧ comes ≤ now + t) → k' = ⟨now + t, m, 0⟩) := by
    refine ⟨_, rfl, fun hc => ?_, fun hc => ?_⟩
    · unfold Ck.moved
      have : ¬ (1 ≤ pend comes ∧ pend comes ≤ now + t) := by unfold pend; split <;> omega
      simp only [this, if_false]
    · unfold Ck.moved
      have : 1 ≤ pend comes ∧ pend comes ≤ now + t := by unfold pend; split <;> omega
      simp only [this, and_self, if_true, Ck.fl]
      rw [show max (d : Int) m = m by omega]
  obtain ⟨k', hk1, hkA, hkB⟩ := hk
  rw [hk1] at hmv
  clear hk1 h
  go_enter Try.func56, Try.ntmps56
  go_wp2
  go_region_held3 (fun w' => w'.cell? ⟨wb, 0, none⟩ = some (.pointer (some ⟨cb, 0, none⟩)) ∧ w'.cell? ⟨wb, 2, none⟩ = some (.int .u64 m)) ((first | exact ⟨hm3.cells.1, hm3.cells.2.2.1⟩ | go_keep)) ((first | (go_at_call 15; with_reducible refine (hmv _ (hmid.kept0 (gb_drew (gb_refl _ _)))).mono ?_; rintro y w3 ⟨rfl, hg3, hb3⟩; have hm3 : Mid w w3 wb cb tv m d now comes k' := (hmid.kept0 (gb_drew (gb_refl _ _))).clock hg3 hb3)))
  obtain ⟨q0, q1, q2, q3, q4⟩ := hm3.cells
  have hf3 := hm3.th.box.fz 3
  have hm4 := hm3.set3 (now + t)
  clear hmv hmid e0 e1 e2 e3 e4 hm3
  go_wp2_with (first | (go_at_call 16; go_must (refine (num_16 _ _).mono ?_); rintro y w' ⟨rfl, rfl⟩) | fail)
  generalize World.setCell _ ⟨wb, 3, none⟩ (.int .i64 (now + t)) = V at *
  obtain ⟨r0, r1, r2, r3, r4⟩ := hm4.cells
  by_cases hca : comes = 0 ∨ now + t < comes
  · have hkk := hkA hca
    subst hkk
    have hfin : FSt w V wb cb tv m d (now + t) comes := ⟨hm4.th, hm4.ck, hm4.g, hm4.lc, hdm, by omega, by omega, hca, hc1⟩
    have hfn := fun nq => hfin.kept0 (gb_drewN (gb_refl V none) nq)
    clear hkA hkB
    by_cases h0 : comes = 0
    · subst h0
      clear hca hc0 hfin hm4
      go_quiet (fail)
      go_wp2
      go_ret
      exact ⟨rfl, _, _, hfn _⟩
    · have hd1 : decide (0 < comes) = true := by simp; omega
      have hd2 : decide (comes ≤ now + t) = false := by simp; omega
      clear hca hc0 hfin hm4
      go_quiet (fail)
      go_wp2
      go_ret
      exact ⟨rfl, _, _, hfn _⟩
  · have hkk := hkB (by omega)
    subst hkk
    have hd1 : decide (0 < comes) = true := by simp; omega
    have hd2 : decide (comes ≤ now + t) = true := by simp; omega
    have hfl := fun nq => (hm4.kept0 (gb_drewN (gb_refl V none) nq)).flush hdm hm
    clear hca hkA hkB hm4
    go_quiet (fail)
    go_wp2_with fail
    refine (hfl _).mono ?_
    rintro y w5 ⟨rfl, hm5⟩
    have hf5 := hm5.th.box.fz 4
    obtain ⟨s0, s1, s2, s3, s4⟩ := hm5.cells
    have hm6 := hm5.set4 0
    have hfin : FSt w _ wb cb tv m m (now + t) 0 := ⟨hm6.th, hm6.ck, hm6.g, hm6.lc, Nat.le_refl _, by omega, by omega, .inl rfl, by omega⟩
    clear hm5 hm6 hfl
    go_wp2
    go_ret
    exact ⟨rfl, _, _, hfin⟩
end

end Go.Proofs.Ytagcmfaljfaikaa

import Derived.Test.YtobegepebochkaaGreatDoorWa
import Derived.Test.YtobegepebochkaaGreatDoorWb
/-
  The document's times; what may stand behind a letter.
-/
namespace Go.Proofs.YtobegepebochkaaGreatDoor
open Go.RowKit
set_option linter.unusedVariables false
set_option linter.unusedSimpArgs false

theorem tm_minus (r : Bs) : tm (45 :: r) = (nb 9223372036854775808 r).map (fun n : Nat => -(n : Int)) := by
  simp only [tm, nb, Lib.parseIntB]
  rw [show (45 : UInt8).toNat = 45 from rfl, if_pos (.inr rfl)]
  cases Lib.parseUintB 64 r with
  | ok u =>
    simp only [true_and, not_true, false_and, if_false, if_true, List.head?_cons]
    by_cases h : 9223372036854775808 < u
    · rw [if_pos (show 2 ^ (64 - 1) < u from h), if_neg (by omega)]; rfl
    · rw [if_neg (show ¬ 2 ^ (64 - 1) < u from h), if_pos (show u ≤ 9223372036854775808 by omega)]
      simp
  | _ => rfl
theorem tm_plus (l : Bs) (h : ∀ r, l ≠ 45 :: r) : tm l = (nb 9223372036854775807 l).map (fun n : Nat => (n : Int)) := by
  cases l with
  | nil => rfl
  | cons c r =>
    have hc : c.toNat ≠ 45 := fun e => h r (by rw [show c = 45 from UInt8.toNat_inj.1 e])
    simp only [tm, nb, Lib.parseIntB]
    by_cases hp : c.toNat = 43
    · rw [if_pos (.inl hp)]
      have hcp : c = 43 := UInt8.toNat_inj.1 hp
      have hn : Lib.parseUintB 64 (c :: r) = Lib.parseUintB 64 [] := by
        simp only [Lib.parseUintB, Lib.parseUintM]
        rw [if_neg (by simp), if_neg (by omega), if_pos trivial]
      rw [hn]
      split
      · rename_i v hv
        rw [if_pos (by rw [hcp]; rfl)]; rfl
      · rfl
    · rw [if_neg (by omega)]
      cases Lib.parseUintB 64 (c :: r) with
      | ok u =>
        simp only [hc, not_false_eq_true, true_and, false_and, if_false]
        by_cases h : 9223372036854775808 ≤ u
        · rw [if_pos (show 2 ^ (64 - 1) ≤ u from h), if_neg (by omega)]; rfl
        · rw [if_neg (show ¬ 2 ^ (64 - 1) ≤ u from h), if_pos (show u ≤ 9223372036854775807 by omega)]
          have h43 : ¬ (c :: r).head? = some 43 := by
            simp; intro e; subst e; exact hp rfl
          show (if (c :: r).head? = some 43 then none else some (u : Int)) = _
          rw [if_neg h43]
          rfl
      | _ => rfl
theorem nb_most {most : Nat} {l : Bs} : (nb most l).getD 0 ≤ most := by
  unfold nb
  split
  · split
    · assumption
    · simp
  · simp
set_option maxHeartbeats 2000000 in
theorem timeOf_98 (l : Bs) (hl : l.length ≤ 4611686018427387904) (w : World) :
    Calls Tryz.prog 98 #[sv l] w fun e w' => e = .returned (.tuple #[.int .i64 ((tm l).getD 0), .bool (tm l).isSome]) ∧ w' = w := by
  rcases l with _ | ⟨c, r⟩
  · have h96 : Calls Tryz.prog 96 #[sv [], .int .u64 9223372036854775807] w fun e w' => e = .returned (.tuple #[.int .u64 0, .bool false]) ∧ w' = w := number_96 [] hl 9223372036854775807 9223372036854775807 rfl (by omega) w
    go_enter Tryz.func98, Tryz.ntmps98
    go_wp2_with (go_at_call 96; with_reducible refine h96.mono ?_; rintro e w' ⟨rfl, rfl⟩)
    go_ret2
    exact ⟨rfl, rfl⟩
  · by_cases hc : c = 45
    · subst hc
      have h96 := number_96 r (by simp at hl; omega) 9223372036854775808 9223372036854775808 rfl (by omega) w
      rw [tm_minus]
      have hle := nb_most (most := 9223372036854775808) (l := r)
      obtain ⟨R, hR⟩ : ∃ R, nb 9223372036854775808 r = R := ⟨_, rfl⟩
      rw [hR] at h96 hle ⊢
      have e1 : (R.map fun n : Nat => -(n : Int)).getD 0 = -((R.getD 0 : Nat) : Int) := by cases R <;> simp
      have e2 : (R.map fun n : Nat => -(n : Int)).isSome = R.isSome := by cases R <;> rfl
      rw [e1, e2]
      obtain ⟨z, hz⟩ : ∃ z : Nat, R.getD 0 = z := ⟨_, rfl⟩
      obtain ⟨x, hx⟩ : ∃ x, R.isSome = x := ⟨_, rfl⟩
      rw [hz] at h96 hle ⊢
      rw [hx] at h96 ⊢
      clear hR e1 e2 hz hx
      have hx : (ByteArray.mk (45 :: r).toArray).extract 1 (r.length + 1) = ⟨r.toArray⟩ := by
        apply ByteArray.ext
        simp [ByteArray.data_extract]
      have h97 : Calls Tryz.prog 96 #[.string ((ByteArray.mk (45 :: r).toArray).extract 1 (r.length + 1)), .int .u64 9223372036854775808] w fun e w' => e = .returned (.tuple #[.int .u64 z, .bool x]) ∧ w' = w := by rw [hx]; exact h96
      clear hx h96
      have hg : ∀ h : 0 < (ByteArray.mk ((45 :: r).toArray)).size, (ByteArray.mk ((45 :: r).toArray))[0] = 45 := fun h => rfl
      go_enter Tryz.func98, Tryz.ntmps98
      go_wp2_with (go_at_call 96; with_reducible refine h97.mono ?_; rintro e w' ⟨rfl, rfl⟩)
      have hw : wrap64 (IntKind.u64.wrap (-(z : Int))) = -(z : Int) := by
        have e : IntKind.u64.wrap (-(z : Int)) = (-(z : Int)) % 18446744073709551616 := rfl
        rw [e]
        unfold wrap64
        omega
      go_ret2
      rw [hw]
      exact ⟨rfl, rfl⟩
    · have h96 := number_96 (c :: r) hl 9223372036854775807 9223372036854775807 rfl (by omega) w
      rw [tm_plus _ (fun r' h => hc (by injection h))]
      have hle := nb_most (most := 9223372036854775807) (l := c :: r)
      obtain ⟨R, hR⟩ : ∃ R, nb 9223372036854775807 (c :: r) = R := ⟨_, rfl⟩
      rw [hR] at h96 hle ⊢
      have e1 : (R.map fun n : Nat => (n : Int)).getD 0 = ((R.getD 0 : Nat) : Int) := by cases R <;> simp
      have e2 : (R.map fun n : Nat => (n : Int)).isSome = R.isSome := by cases R <;> rfl
      rw [e1, e2]
      obtain ⟨z, hz⟩ : ∃ z : Nat, R.getD 0 = z := ⟨_, rfl⟩
      obtain ⟨x, hx⟩ : ∃ x, R.isSome = x := ⟨_, rfl⟩
      rw [hz] at h96 hle ⊢
      rw [hx] at h96 ⊢
      clear hR e1 e2 hz hx
      have hg : ∀ h : 0 < (ByteArray.mk ((c :: r).toArray)).size, (ByteArray.mk ((c :: r).toArray))[0] = c := fun h => rfl
      have hc' : ((c.toNat : Int) == 45) = false := beq_eq_false_iff_ne.2 fun e => hc (UInt8.toNat_inj.1 (by show c.toNat = 45; omega))
      go_enter Tryz.func98, Tryz.ntmps98
      go_wp2_with (go_at_call 96; with_reducible refine h96.mono ?_; rintro e w' ⟨rfl, rfl⟩)
      go_ret2
      exact ⟨rfl, rfl⟩
end Go.Proofs.YtobegepebochkaaGreatDoor

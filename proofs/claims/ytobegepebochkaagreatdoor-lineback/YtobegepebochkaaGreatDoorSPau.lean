import Derived.Test.YtobegepebochkaaGreatDoorSWa
import Derived.Test.YtobegepebochkaaGreatDoorSPat
set_option linter.unusedVariables false
set_option linter.unusedSimpArgs false
namespace Go.Proofs.YtobegepebochkaaGreatDoor
open Go.RowKit
theorem tm_minus (r : Bs) : tm (45 :: r) = (nb 9223372036854775808 r).map (fun n : Nat => -(n : Int)) := by
  simp only [tm, nb, Lib.parseIntB]
  rw [show (45 : UInt8).toNat = 45 from rfl, if_pos (.inr rfl)]
  cases Lib.parseUintB 64 r with
  | ok u =>
    simp only [true_and, not_true, false_and, if_false, if_true, List.head?_cons]
    by_cases h : 9223372036854775808 < u
    · rw [if_pos (show 2 ^ (64 - 1) < u from h), if_neg (by omega)]; rfl
    · rw [if_neg (show ¬ 2 ^ (64 - 1) < u from h), if_pos (show u ≤ 9223372036854775808 by omega)]
      simp
  | _ => rfl
theorem tm_plus (l : Bs) (h : ∀ r, l ≠ 45 :: r) : tm l = (nb 9223372036854775807 l).map (fun n : Nat => (n : Int)) := by
  cases l with
  | nil => rfl
  | cons c r =>
    have hc : c.toNat ≠ 45 := fun e => h r (by rw [show c = 45 from UInt8.toNat_inj.1 e])
    simp only [tm, nb, Lib.parseIntB]
    by_cases hp : c.toNat = 43
    · rw [if_pos (.inl hp)]
      have hcp : c = 43 := UInt8.toNat_inj.1 hp
      have hn : Lib.parseUintB 64 (c :: r) = Lib.parseUintB 64 [] := by
        simp only [Lib.parseUintB, Lib.parseUintM]
        rw [if_neg (by simp), if_neg (by omega), if_pos trivial]
      rw [hn]
      split
      · rename_i v hv
        rw [if_pos (by rw [hcp]; rfl)]; rfl
      · rfl
    · rw [if_neg (by omega)]
      cases Lib.parseUintB 64 (c :: r) with
      | ok u =>
        simp only [hc, not_false_eq_true, true_and, false_and, if_false]
        by_cases h : 9223372036854775808 ≤ u
        · rw [if_pos (show 2 ^ (64 - 1) ≤ u from h), if_neg (by omega)]; rfl
        · rw [if_neg (show ¬ 2 ^ (64 - 1) ≤ u from h), if_pos (show u ≤ 9223372036854775807 by omega)]
          have h43 : ¬ (c :: r).head? = some 43 := by
            simp; intro e; subst e; exact hp rfl
          show (if (c :: r).head? = some 43 then none else some (u : Int)) = _
          rw [if_neg h43]
          rfl
      | _ => rfl
theorem nb_most {most : Nat} {l : Bs} : (nb most l).getD 0 ≤ most := by
  unfold nb
  split
  · split
    · assumption
    · simp
  · simp
set_option maxHeartbeats 2000000 in
theorem timeOf_98 (l : Bs) (hl : l.length ≤ 4611686018427387904) (w : World) :
    Calls Tryz.prog 98 #[sv l] w fun e w' => e = .returned (.tuple #[.int .i64 ((tm l).getD 0), .bool (tm l).isSome]) ∧ w' = w := by
  rcases l with _ | ⟨c, r⟩
  · have h96 : Calls Tryz.prog 96 #[sv [], .int .u64 9223372036854775807] w fun e w' => e = .returned (.tuple #[.int .u64 0, .bool false]) ∧ w' = w := number_96 [] hl 9223372036854775807 9223372036854775807 rfl (by omega) w
    go_enter Tryz.func98, Tryz.ntmps98
    go_wp2_with (go_at_call 96; with_reducible refine h96.mono ?_; rintro e w' ⟨rfl, rfl⟩)
    go_ret2
    exact ⟨rfl, rfl⟩
  · by_cases hc : c = 45
    · subst hc
      have h96 := number_96 r (by simp at hl; omega) 9223372036854775808 9223372036854775808 rfl (by omega) w
      rw [tm_minus]
      have hle := nb_most (most := 9223372036854775808) (l := r)
      obtain ⟨R, hR⟩ : ∃ R, nb 9223372036854775808 r = R := ⟨_, rfl⟩
      rw [hR] at h96 hle ⊢
      have e1 : (R.map fun n : Nat => -(n : Int)).getD 0 = -((R.getD 0 : Nat) : Int) := by cases R <;> simp
      have e2 : (R.map fun n : Nat => -(n : Int)).isSome = R.isSome := by cases R <;> rfl
      rw [e1, e2]
      obtain ⟨z, hz⟩ : ∃ z : Nat, R.getD 0 = z := ⟨_, rfl⟩
      obtain ⟨x, hx⟩ : ∃ x, R.isSome = x := ⟨_, rfl⟩
      rw [hz] at h96 hle ⊢
      rw [hx] at h96 ⊢
      clear hR e1 e2 hz hx
      have hx : (ByteArray.mk (45 :: r).toArray).extract 1 (r.length + 1) = ⟨r.toArray⟩ := by
        apply ByteArray.ext
        simp [ByteArray.data_extract]
      have h97 : Calls Tryz.prog 96 #[.string ((ByteArray.mk (45 :: r).toArray).extract 1 (r.length + 1)), .int .u64 9223372036854775808] w fun e w' => e = .returned (.tuple #[.int .u64 z, .bool x]) ∧ w' = w := by rw [hx]; exact h96
      clear hx h96
      have hg : ∀ h : 0 < (ByteArray.mk ((45 :: r).toArray)).size, (ByteArray.mk ((45 :: r).toArray))[0] = 45 := fun h => rfl
      go_enter Tryz.func98, Tryz.ntmps98
      go_wp2_with (go_at_call 96; with_reducible refine h97.mono ?_; rintro e w' ⟨rfl, rfl⟩)
      have hw : wrap64 (IntKind.u64.wrap (-(z : Int))) = -(z : Int) := by
        have e : IntKind.u64.wrap (-(z : Int)) = (-(z : Int)) % 18446744073709551616 := rfl
        rw [e]
        unfold wrap64
        omega
      go_ret2
      rw [hw]
      exact ⟨rfl, rfl⟩
    · have h96 := number_96 (c :: r) hl 9223372036854775807 9223372036854775807 rfl (by omega) w
      rw [tm_plus _ (fun r' h => hc (by injection h))]
      have hle := nb_most (most := 9223372036854775807) (l := c :: r)
      obtain ⟨R, hR⟩ : ∃ R, nb 9223372036854775807 (c :: r) = R := ⟨_, rfl⟩
      rw [hR] at h96 hle ⊢
      have e1 : (R.map fun n : Nat => (n : Int)).getD 0 = ((R.getD 0 : Nat) : Int) := by cases R <;> simp
      have e2 : (R.map fun n : Nat => (n : Int)).isSome = R.isSome := by cases R <;> rfl
      rw [e1, e2]
      obtain ⟨z, hz⟩ : ∃ z : Nat, R.getD 0 = z := ⟨_, rfl⟩
      obtain ⟨x, hx⟩ : ∃ x, R.isSome = x := ⟨_, rfl⟩
      rw [hz] at h96 hle ⊢
      rw [hx] at h96 ⊢
      clear hR e1 e2 hz hx
      have hg : ∀ h : 0 < (ByteArray.mk ((c :: r).toArray)).size, (ByteArray.mk ((c :: r).toArray))[0] = c := fun h => rfl
      have hc' : ((c.toNat : Int) == 45) = false := beq_eq_false_iff_ne.2 fun e => hc (UInt8.toNat_inj.1 (by show c.toNat = 45; omega))
      go_enter Tryz.func98, Tryz.ntmps98
      go_wp2_with (go_at_call 96; with_reducible refine h96.mono ?_; rintro e w' ⟨rfl, rfl⟩)
      go_ret2
      exact ⟨rfl, rfl⟩
end Go.Proofs.YtobegepebochkaaGreatDoor
namespace Go.Proofs.YtobegepebochkaaGreatDoor
open Go.RowKit
def bh (v : Int) (f : Fl) : Bool :=
  if f.letter = 79 then plain f.arg && decide (1 ≤ f.arg.length) && decide (f.arg.length ≤ 250) else
  if f.letter = 84 ∨ f.letter = 78 then (tm f.arg).isSome else
  if f.letter = 70 then (nb 4294967295 f.arg).isSome else
  if f.letter = 82 ∨ f.letter = 67 ∨ f.letter = 68 ∨ f.letter = 74 then (nb 18446744073709551615 f.arg).isSome else mode1 v f.arg
theorem mode_one (v : Int) (b : UInt8) : mode1 v [b] = if v = 21 then ([83, 69, 65, 80, 82, 115, 101, 97, 112, 114] : Bs).contains b else ([73, 68, 105, 100] : Bs).contains b := by
  have e : mode1 v [b] = (modes v).contains b := by simp only [mode1]
  rw [e]
  by_cases h : v = 21
  · have e : modes v = [83, 69, 65, 80, 82, 115, 101, 97, 112, 114] := by simp only [modes, h, if_true]
    rw [if_pos h, e]
  · have e : modes v = [73, 68, 105, 100] := by simp only [modes, h, if_false]
    rw [if_neg h, e]
theorem mode_no (v : Int) {l : Bs} (h : l.length ≠ 1) : mode1 v l = false := by
  match l, h with
  | [], _ => simp only [mode1]
  | [x], h => exact absurd rfl h
  | x :: y :: t, _ => simp only [mode1]
set_option maxRecDepth 100000 in
set_option maxHeartbeats 4000000 in
theorem behind_88 (v : Int) (f : Fl) (hl : f.arg.length ≤ 4611686018427387904) (w : World) :
    Calls Tryz.prog 88 #[.int .i64 v, fv f] w fun e w' => e = .returned (.bool (bh v f)) ∧ w.grownBy w' none := by
  obtain ⟨a, l, q⟩ := f
  have h1 := fun w' => timeOf_98 l hl w'
  have h2 := fun w' => number_96 l hl 18446744073709551615 18446744073709551615 rfl (by omega) w'
  have h3 := fun w' => number_96 l hl 4294967295 4294967295 rfl (by omega) w'
  have h4 := fun w' => key_97 l hl w'
  obtain ⟨x1, e1⟩ : ∃ x, (tm l).isSome = x := ⟨_, rfl⟩
  obtain ⟨x2, e2⟩ : ∃ x, (nb 18446744073709551615 l).isSome = x := ⟨_, rfl⟩
  obtain ⟨x3, e3⟩ : ∃ x, (nb 4294967295 l).isSome = x := ⟨_, rfl⟩
  obtain ⟨x4, e4⟩ : ∃ x, (plain l && decide (1 ≤ l.length) && decide (l.length ≤ 250)) = x := ⟨_, rfl⟩
  obtain ⟨y1, f1⟩ : ∃ x : Int, (tm l).getD 0 = x := ⟨_, rfl⟩
  obtain ⟨y2, f2⟩ : ∃ x : Int, ((nb 18446744073709551615 l).getD 0 : Nat) = x := ⟨_, rfl⟩
  obtain ⟨y3, f3⟩ : ∃ x : Int, ((nb 4294967295 l).getD 0 : Nat) = x := ⟨_, rfl⟩
  simp only [e1, e2, e3, e4, f1, f2, f3] at h1 h2 h3 h4
  have HF : Hid (bh v ⟨a, l, q⟩ = if (a.toNat : Int) = 79 then x4 else if (a.toNat : Int) = 84 ∨ (a.toNat : Int) = 78 then x1 else
      if (a.toNat : Int) = 70 then x3 else if (a.toNat : Int) = 82 ∨ (a.toNat : Int) = 67 ∨ (a.toNat : Int) = 68 ∨ (a.toNat : Int) = 74 then x2 else
      mode1 v l) := by
    show _ = _
    simp only [bh, u8i, UInt8.reduceToNat, e1, e2, e3, e4]
    rfl
  clear e1 e2 e3 e4 f1 f2 f3
  have hG := gb_alloc (gb_refl w none) (Obj.cells #[Value.int .u8 a.toNat, sv l, Value.bool q] 79)
  have h87 := fun b w' => holds_87 [83, 69, 65, 80, 82, 115, 101, 97, 112, 114] (by simp) b w'
  have h88 := fun b w' => holds_87 [73, 68, 105, 100] (by simp) b w'
  obtain ⟨b, hb⟩ : ∃ b, l.getD 0 0 = b := ⟨_, rfl⟩
  have hg0 : ∀ h : 0 < (ByteArray.mk l.toArray).size, (ByteArray.mk l.toArray)[0] = b := fun h => (ba_get l 0 h).trans hb
  have h87 := h87 b
  have h88 := h88 b
  have HM : Hid (l.length = 1 → mode1 v l = if v = 21 then ([83, 69, 65, 80, 82, 115, 101, 97, 112, 114] : Bs).contains b else ([73, 68, 105, 100] : Bs).contains b) := by
    show _ → _
    intro h
    obtain ⟨c, rfl⟩ := List.length_eq_one_iff.1 h
    obtain rfl : c = b := hb
    exact mode_one v c
  have HN : Hid (l.length ≠ 1 → mode1 v l = false) := fun h => mode_no v h
  clear hb
  obtain ⟨z1, g1⟩ : ∃ x, ([83, 69, 65, 80, 82, 115, 101, 97, 112, 114] : Bs).contains b = x := ⟨_, rfl⟩
  obtain ⟨z2, g2⟩ : ∃ x, ([73, 68, 105, 100] : Bs).contains b = x := ⟨_, rfl⟩
  simp only [g1] at h87 HM
  simp only [g2] at h88 HM
  clear g1 g2
  obtain ⟨M, hM⟩ : ∃ x, mode1 v l = x := ⟨_, rfl⟩
  rw [hM] at HF HM HN
  clear hM hl
  go_enter Tryz.func88, Tryz.ntmps88
  go_wp2_with (first | (go_at_call 97; go_must (with_reducible refine (h4 _).mono ?_); rintro e w' ⟨rfl, rfl⟩) | (go_at_call 98; go_must (with_reducible refine (h1 _).mono ?_); rintro e w' ⟨rfl, rfl⟩) | (go_at_call 96; go_must (first | with_reducible refine (h2 _).mono ?_ | with_reducible refine (h3 _).mono ?_); rintro e w' ⟨rfl, rfl⟩) | (go_at_call 87; go_must (first | with_reducible refine (h87 _).mono ?_ | with_reducible refine (h88 _).mono ?_); rintro e w' ⟨rfl, rfl⟩))
  all_goals clear h1 h2 h3 h4 h87 h88 hg0
  all_goals (try simp only [beq_iff_eq, beq_eq_false_iff_ne, bne_iff_ne, bne_eq_false_iff_eq, ne_eq] at *)
  all_goals try (exfalso; omega)
  all_goals
    go_ret
    refine ⟨congrArg (fun b => Ending.returned (Value.bool b)) (Eq.trans ?_ HF.out.symm), hG⟩
    first
      | (simp [*]; done)
      | (rw [HN.out (by omega)]; simp [*]; done)
      | (rw [HM.out (by omega)]; simp [*]; done)
end Go.Proofs.YtobegepebochkaaGreatDoor
namespace Go.Proofs.YtobegepebochkaaGreatDoor
open Go.RowKit
theorem full_mem {v : Int} {a : UInt8} (h : (full v).contains a = true) : a ∈ ([79, 84, 78, 82, 70, 67, 77, 68, 74] : Bs) := by
  have h := List.contains_iff_mem.1 h
  unfold full at h
  split at h
  · revert h; simp; intro h; rcases h with h | h | h | h <;> simp [h]
  · split at h
    · revert h; simp; intro h; rcases h with h | h | h | h | h <;> simp [h]
    · split at h
      · revert h; simp; intro h; rcases h with h | h | h <;> simp [h]
      · split at h
        · revert h; simp; intro h; rcases h with h | h | h | h | h | h | h <;> simp [h]
        · simp at h
theorem bare_full {v : Int} {a : UInt8} (h : (bare v).contains a = true) : (full v).contains a = false := by
  have h := List.contains_iff_mem.1 h
  unfold bare at h
  unfold full
  split at h
  · rename_i e; simp only [e, if_true]; revert h; simp; intro h; rcases h with h | h | h | h | h | h | h | h | h <;> subst h <;> decide
  · rename_i e0; split at h
    · rename_i e; simp only [e, if_true]; revert h; simp; intro h; rcases h with h | h | h | h <;> subst h <;> decide
    · rename_i e1; split at h
      · rename_i e; simp only [e, if_true]; revert h; simp; intro h; rcases h with h | h | h | h <;> subst h <;> decide
      · rename_i e2; split at h
        · rename_i e; simp only [e, if_true]; revert h; simp; intro h; rcases h with h | h | h | h | h <;> subst h <;> decide
        · simp at h
theorem nb_nil (n : Nat) : nb n [] = none := by simp [nb, Lib.parseUintB]
theorem tm_nil : tm [] = none := by simp [tm, Lib.parseIntB]
theorem bh_nil (v : Int) (a : UInt8) (q : Bool) : bh v ⟨a, [], q⟩ = false := by
  simp [bh, nb_nil, tm_nil, mode_no v (l := []) (by simp)]
theorem bh_follows {v : Int} {a : UInt8} {l : Bs} {q : Bool} (h : (full v).contains a = true) (h2 : ¬ (a = 79 ∧ (l = [] ∨ 32 < l.length))) : bh v ⟨a, l, q⟩ = follows v ⟨a, l, q⟩ := by
  have hm := full_mem h
  simp only [List.mem_cons, List.not_mem_nil, or_false] at hm
  unfold bh follows
  rcases hm with rfl | rfl | rfl | rfl | rfl | rfl | rfl | rfl | rfl
  · have h3 : l ≠ [] ∧ l.length ≤ 32 := by
      constructor
      · intro e; exact h2 ⟨rfl, .inl e⟩
      · apply Nat.le_of_not_lt; intro e; exact h2 ⟨rfl, .inr e⟩
    have h4 : 1 ≤ l.length := List.length_pos_iff.2 h3.1
    simp only [if_true]
    rw [decide_eq_true h4, decide_eq_true (show l.length ≤ 250 by omega)]
    simp
  all_goals simp
theorem bad_eq {v : Int} {a : UInt8} {l : Bs} {q : Bool} (h : (bare v).contains a = true ∨ (full v).contains a = true) (h2 : ¬ (a = 79 ∧ (l = [] ∨ 32 < l.length))) :
    ((q ≠ decide (l ≠ []) ∨ ((bare v).contains a = true ∧ q = true)) ∨ ((full v).contains a = true ∧ bh v ⟨a, l, q⟩ = false)) ↔ (q ≠ decide (l ≠ []) ∨ q ≠ (full v).contains a ∨ (q = true ∧ follows v ⟨a, l, q⟩ = false)) := by
  by_cases hq : q = decide (l ≠ [])
  · rcases Bool.eq_false_or_eq_true ((full v).contains a) with hf | hf
    · have hb : (bare v).contains a = false := by
        rcases Bool.eq_false_or_eq_true ((bare v).contains a) with hb | hb
        · rw [bare_full hb] at hf; cases hf
        · exact hb
      rw [hf, hb, ← bh_follows hf h2]
      rcases Bool.eq_false_or_eq_true q with hq1 | hq1
      · subst hq1; simp [hq.symm]
      · have hl : l = [] := by
          rw [hq1] at hq
          simpa using hq
        subst hl
        subst hq1
        simp [bh_nil]
    · have hb : (bare v).contains a = true := by
        rcases h with h | h
        · exact h
        · rw [hf] at h; cases h
      rw [hf, hb]
      rcases Bool.eq_false_or_eq_true q with hq1 | hq1 <;> subst hq1 <;> simp
  · exact ⟨fun _ => .inl hq, fun _ => .inl (.inl hq)⟩
end Go.Proofs.YtobegepebochkaaGreatDoor

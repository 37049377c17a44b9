import Derived.Test.YtobegepebochkaaGreatDoorE
/-
  The document's letters, keys.
-/
namespace Go.Proofs.YtobegepebochkaaGreatDoor
open Go.RowKit
set_option linter.unusedVariables false
set_option linter.unusedSimpArgs false

theorem flagsOf_86 (v : Int) (w : World) :
    Calls Tryz.prog 86 #[.int .i64 v] w fun e w' => e = .returned (.tuple #[sv (bare v), sv (full v)]) ∧ w' = w := by
  go_enter Tryz.func86, Tryz.ntmps86
  go_wp2
  all_goals
    go_ret2
    refine ⟨?_, rfl⟩
    simp_all [bare, full]
set_option maxHeartbeats 1000000 in
theorem holds_87 (s : Bs) (hs : s.length ≤ 4611686018427387904) (c : UInt8) (w : World) :
    Calls Tryz.prog 87 #[sv s, .int .u8 c.toNat] w fun e w' => e = .returned (.bool (s.contains c)) ∧ w' = w := by
  go_enter Tryz.func87, Tryz.ntmps87
  go_wp2
  go_loopw [5] (fun v wr => ∃ k : Nat, k ≤ s.length ∧ v = .int .i64 k ∧ wr = w ∧ (s.take k).contains c = false) (fun v _ => s.length - (intOf v).toNat)
  case atStart => exact ⟨0, by omega, rfl, rfl, rfl⟩
  case round =>
    obtain ⟨k, hk, rfl, rfl, hp⟩ := hrel
    have hlt : k < s.length ∨ k = s.length := by omega
    rcases hlt with hlt | rfl
    · have d1 : decide ((k : Int) < (s.length : Int)) = true := decide_eq_true (by omega)
      obtain ⟨b, hb⟩ : ∃ b, s.getD k 0 = b := ⟨_, rfl⟩
      have hg : ∀ h : k < (ByteArray.mk s.toArray).size, (ByteArray.mk s.toArray)[k] = b := fun h => (ba_get s k h).trans hb
      have hget : s[k]? = some b := by rw [List.getElem?_eq_getElem hlt, ← hb]; simp [List.getD, hlt]
      have HT : (s.take (k + 1)).contains c = (c == b) := by
        rw [List.take_add_one, hget, Option.toList_some, List.contains_append, hp]; rw [Bool.eq_iff_iff]; simp
      have HY : b = c → s.contains c = true := fun e => by
        subst e; exact List.contains_iff_mem.2 (List.mem_of_getElem? hget)
      clear hp hb
      go_wp2
      · rename_i h1
        go_ret
        refine ⟨?_, rfl⟩
        rw [HY (UInt8.toNat_inj.1 (by have := beq_iff_eq.1 h1; omega))]
        rfl
      · rename_i h1
        refine ⟨⟨k + 1, by omega, by simp, trivial, ?_⟩, ?_⟩
        · rw [HT]
          refine beq_eq_false_iff_ne.2 fun e => ?_
          subst e
          simp at h1
        · simp [intOf]; omega
    · go_wp2
      go_ret
      rw [List.take_length] at hp
      exact ⟨by rw [hp]; rfl, rfl⟩
set_option maxHeartbeats 1000000 in
theorem key_97 (s : Bs) (hs : s.length ≤ 4611686018427387904) (w : World) :
    Calls Tryz.prog 97 #[sv s] w fun e w' => e = .returned (.bool (plain s && decide (1 ≤ s.length) && decide (s.length ≤ 250))) ∧ w' = w := by
  go_enter Tryz.func97, Tryz.ntmps97
  go_wp2
  go_loopw [3] (fun v wr => ∃ k : Nat, k ≤ s.length ∧ v = .int .i64 k ∧ wr = w ∧ plain (s.take k) = true) (fun v _ => s.length - (intOf v).toNat)
  case atStart => exact ⟨0, by omega, rfl, rfl, rfl⟩
  case round =>
    obtain ⟨k, hk, rfl, rfl, hp⟩ := hrel
    have hlt : k < s.length ∨ k = s.length := by omega
    rcases hlt with hlt | rfl
    · have d1 : decide ((k : Int) < (s.length : Int)) = true := decide_eq_true (by omega)
      obtain ⟨b, hb⟩ : ∃ b, s.getD k 0 = b := ⟨_, rfl⟩
      have hg : ∀ h : k < (ByteArray.mk s.toArray).size, (ByteArray.mk s.toArray)[k] = b := fun h => (ba_get s k h).trans hb
      have HT := plain_take s k hlt
      have HF : (decide (32 < b) && decide (b ≠ 127)) = false → plain s = false := by
        intro h
        have h2 : plain s = (plain (s.take (k + 1)) && plain (s.drop (k + 1))) := by
          have h3 : plain (s.take (k + 1) ++ s.drop (k + 1)) = (plain (s.take (k + 1)) && plain (s.drop (k + 1))) := List.all_append
          rwa [List.take_append_drop] at h3
        rw [h2, HT, hb, h]; simp
      rw [hb, hp] at HT
      clear hp hb
      go_wp2
      all_goals first
        | (refine ⟨⟨k + 1, by omega, by simp, trivial, ?_⟩, by simp [intOf]; omega⟩
           rw [HT]
           have h3 : 32 < b := UInt8.lt_iff_toNat_lt.2 (by have e : (32 : UInt8).toNat = 32 := rfl; omega)
           have h4 : b ≠ 127 := by rintro rfl; simp_all
           simp [h3, h4]
           done)
        | (rename_i h1
           go_ret
           have h3 : ¬ 32 < b := fun h => by have : (32 : UInt8).toNat < b.toNat := UInt8.lt_iff_toNat_lt.1 h; have e : (32 : UInt8).toNat = 32 := rfl; omega
           rw [HF (by simp [h3])]
           exact ⟨rfl, rfl⟩)
        | (rename_i h1 h2
           go_ret
           have h4 : b = 127 := by
             apply UInt8.toNat_inj.1
             show b.toNat = 127
             first | (have := beq_iff_eq.1 h2; omega) | (rcases h2 with h2 | h2; · omega
                                                         · have := beq_iff_eq.1 h2; omega)
           rw [HF (by simp [h4])]
           exact ⟨rfl, rfl⟩)
    · rw [List.take_length] at hp
      go_wp2
      all_goals
        rename_i h1
        go_ret
        refine ⟨congrArg (fun b => Ending.returned (Value.bool b)) ?_, rfl⟩
      · rw [hp, decide_eq_true (p := 1 ≤ s.length) (by omega), Bool.true_and, Bool.true_and]
        exact decide_eq_decide.2 (by omega)
      · rw [decide_eq_false (p := 1 ≤ s.length) (by omega)]
        rfl
end Go.Proofs.YtobegepebochkaaGreatDoor
/-
  The document's numbers and times.
-/
namespace Go.Proofs.YtobegepebochkaaGreatDoor
open Go.RowKit
set_option linter.unusedVariables false
set_option linter.unusedSimpArgs false

/-- The document's loop over digits. -/
def rn (most : Nat) : Nat → Bool → Bs → Option Nat
  | n, ok, [] => if ok then some n else none
  | n, ok, c :: r =>
    if c.toNat < 48 ∨ 57 < c.toNat then none else
    if (18446744073709551615 - (c.toNat - 48)) / 10 < n then rn most 0 false r else
    rn most (10 * n + (c.toNat - 48)) (ok && decide (10 * n + (c.toNat - 48) ≤ most)) r
theorem rn_false (most : Nat) : ∀ (l : Bs) (n : Nat), rn most n false l = none
  | [], n => rfl
  | c :: r, n => by
    simp only [rn, Bool.false_and]
    split
    · rfl
    · split <;> exact rn_false most r _
theorem pu_ge (M : Nat) : ∀ (l : Bs) (n u : Nat), Lib.parseUintM M n l = .ok u → n ≤ u
  | [], n, u, h => by simp [Lib.parseUintM] at h; omega
  | c :: r, n, u, h => by
    simp only [Lib.parseUintM] at h
    split at h
    · split at h
      · cases h
      · split at h
        · cases h
        · have := pu_ge M r _ u h; omega
    · cases h
theorem rn_true (most : Nat) : ∀ (l : Bs) (n : Nat), n ≤ most → n ≤ 18446744073709551615 →
    rn most n true l = (match Lib.parseUintM (2 ^ 64 - 1) n l with | .ok u => if u ≤ most then some u else none | _ => none)
  | [], n, h1, h2 => by simp [rn, Lib.parseUintM, h1]
  | c :: r, n, h1, h2 => by
    simp only [rn, Lib.parseUintM, Bool.true_and]
    by_cases hc : c.toNat < 48 ∨ 57 < c.toNat
    · have hd : ¬ (48 ≤ c.toNat ∧ c.toNat ≤ 57) := by omega
      rw [if_pos hc, if_neg hd]
    · have hd : 48 ≤ c.toNat ∧ c.toNat ≤ 57 := by omega
      rw [if_neg hc, if_pos hd]
      by_cases hb : (18446744073709551615 - (c.toNat - 48)) / 10 < n
      · rw [if_pos hb, rn_false]
        by_cases h3 : 1844674407370955162 ≤ n
        · rw [if_pos h3]
        · have h4 : 2 ^ 64 - 1 < n * 10 + (c.toNat - 48) := by omega
          rw [if_neg h3, if_pos h4]
      · have h4 : ¬ 1844674407370955162 ≤ n := by omega
        have h5 : ¬ 2 ^ 64 - 1 < n * 10 + (c.toNat - 48) := by omega
        rw [if_neg hb, if_neg h4, if_neg h5]
        by_cases h3 : 10 * n + (c.toNat - 48) ≤ most
        · rw [decide_eq_true h3, rn_true most r _ h3 (by omega), show n * 10 = 10 * n by omega]
        · rw [decide_eq_false h3, rn_false]
          split
          · rename_i u hu
            have := pu_ge _ _ _ _ hu
            rw [if_neg (by omega)]
          · rfl
theorem rn_nb (most : Nat) (l : Bs) : rn most 0 (decide (l ≠ [])) l = nb most l := by
  cases l with
  | nil => rfl
  | cons c r =>
    rw [decide_eq_true (by simp), rn_true most _ 0 (by omega) (by omega)]
    simp only [nb, Lib.parseUintB]
    rw [if_neg (by simp)]
    cases Lib.parseUintM (2 ^ 64 - 1) 0 (c :: r) <;> rfl
set_option maxHeartbeats 2000000 in
theorem number_96 (l : Bs) (hl : l.length ≤ 4611686018427387904) (m : Int) (most : Nat) (hmm : m = (most : Int)) (hm : most ≤ 18446744073709551615) (w : World) :
    Calls Tryz.prog 96 #[sv l, .int .u64 m] w fun e w' => e = .returned (.tuple #[.int .u64 ((nb most l).getD 0 : Nat), .bool (nb most l).isSome]) ∧ w' = w := by
  subst hmm
  have hn := rn_nb most l
  obtain ⟨R, hR⟩ : ∃ R, nb most l = R := ⟨_, rfl⟩
  rw [hR] at hn ⊢
  have hs : (ByteArray.mk l.toArray).size = l.length := ba_size l
  clear hR
  go_enter Tryz.func96, Tryz.ntmps96
  go_wp2
  go_loopw [6, 7, 8] (fun v6 v7 v8 wr => ∃ (k n : Nat) (ok : Bool), k ≤ l.length ∧ v6 = .int .u64 n ∧ v7 = .bool ok ∧ v8 = .int .i64 k ∧ wr = w ∧ n ≤ 18446744073709551615 ∧ rn most n ok (l.drop k) = R) (fun _ _ v8 _ => l.length - (intOf v8).toNat)
  case atStart => exact ⟨0, 0, !l.isEmpty, by omega, rfl, rfl, rfl, rfl, by omega, by rw [List.drop_zero, ← hn]; congr 1; cases l <;> rfl⟩
  case round =>
    obtain ⟨k, n, ok, hk, rfl, rfl, rfl, rfl, hn2, hr⟩ := hrel
    have hlt : k < l.length ∨ k = l.length := by omega
    rcases hlt with hlt | rfl
    · have d1 : decide ((k : Int) < (l.length : Int)) = true := decide_eq_true (by omega)
      obtain ⟨b, hb⟩ : ∃ b, l.getD k 0 = b := ⟨_, rfl⟩
      have hg : ∀ h : k < (ByteArray.mk l.toArray).size, (ByteArray.mk l.toArray)[k] = b := fun h => (ba_get l k h).trans hb
      have hdr : l.drop k = b :: l.drop (k + 1) := by
        rw [List.drop_eq_getElem_cons hlt, ← hb]; simp [List.getD, hlt]
      rw [hdr] at hr
      simp only [rn] at hr
      clear hdr hb
      go_wp2
      · rename_i h1 h2
        have e : R = none := by rw [← hr, if_pos (by omega)]
        rw [e]
        go_ret2
        exact ⟨rfl, rfl⟩
      · rename_i h0 h1 h2
        refine ⟨⟨k + 1, 0, false, by omega, rfl, rfl, rfl, trivial, by omega, ?_⟩, by simp [intOf]; omega⟩
        rw [← hr, if_neg (by omega), if_pos (by omega)]
      · rename_i h0 h1 h2 h3
        subst h3
        refine ⟨⟨k + 1, 10 * n + (b.toNat - 48), decide (10 * n + (b.toNat - 48) ≤ most), by omega, ?_, ?_, rfl, trivial, by omega, ?_⟩, by simp [intOf]; omega⟩
        · congr 1; omega
        · congr 1; exact decide_eq_decide.2 (by omega)
        · rw [← hr, if_neg (by omega), if_neg (by omega), Bool.true_and]
      · rename_i h0 h1 h2 h3
        obtain rfl : ok = false := by simpa using h3
        refine ⟨⟨k + 1, 10 * n + (b.toNat - 48), false, by omega, ?_, rfl, rfl, trivial, by omega, ?_⟩, by simp [intOf]; omega⟩
        · congr 1; omega
        · rw [← hr, if_neg (by omega), if_neg (by omega), Bool.false_and]
      · rename_i h1
        have e : R = none := by rw [← hr, if_pos (by omega)]
        rw [e]
        go_ret2
        exact ⟨rfl, rfl⟩
    · rw [List.drop_length] at hr
      simp only [rn] at hr
      go_wp2
      · rename_i h1
        have e : R = none := by rw [← hr, if_neg (by simpa using h1)]
        rw [e]
        go_ret2
        exact ⟨rfl, rfl⟩
      · rename_i h1
        have e : R = some n := by rw [← hr, if_pos (by simpa using h1)]
        rw [e]
        go_ret2
        exact ⟨rfl, rfl⟩
end Go.Proofs.YtobegepebochkaaGreatDoor
/-
  The document's times; what may stand behind a letter.
-/
namespace Go.Proofs.YtobegepebochkaaGreatDoor
open Go.RowKit
set_option linter.unusedVariables false
set_option linter.unusedSimpArgs false

theorem tm_minus (r : Bs) : tm (45 :: r) = (nb 9223372036854775808 r).map (fun n : Nat => -(n : Int)) := by
  simp only [tm, nb, Lib.parseIntB]
  rw [show (45 : UInt8).toNat = 45 from rfl, if_pos (.inr rfl)]
  cases Lib.parseUintB 64 r with
  | ok u =>
    simp only [true_and, not_true, false_and, if_false, if_true, List.head?_cons]
    by_cases h : 9223372036854775808 < u
    · rw [if_pos (show 2 ^ (64 - 1) < u from h), if_neg (by omega)]; rfl
    · rw [if_neg (show ¬ 2 ^ (64 - 1) < u from h), if_pos (show u ≤ 9223372036854775808 by omega)]
      simp
  | _ => rfl
theorem tm_plus (l : Bs) (h : ∀ r, l ≠ 45 :: r) : tm l = (nb 9223372036854775807 l).map (fun n : Nat => (n : Int)) := by
  cases l with
  | nil => rfl
  | cons c r =>
    have hc : c.toNat ≠ 45 := fun e => h r (by rw [show c = 45 from UInt8.toNat_inj.1 e])
    simp only [tm, nb, Lib.parseIntB]
    by_cases hp : c.toNat = 43
    · rw [if_pos (.inl hp)]
      have hcp : c = 43 := UInt8.toNat_inj.1 hp
      have hn : Lib.parseUintB 64 (c :: r) = Lib.parseUintB 64 [] := by
        simp only [Lib.parseUintB, Lib.parseUintM]
        rw [if_neg (by simp), if_neg (by omega), if_pos trivial]
      rw [hn]
      split
      · rename_i v hv
        rw [if_pos (by rw [hcp]; rfl)]; rfl
      · rfl
    · rw [if_neg (by omega)]
      cases Lib.parseUintB 64 (c :: r) with
      | ok u =>
        simp only [hc, not_false_eq_true, true_and, false_and, if_false]
        by_cases h : 9223372036854775808 ≤ u
        · rw [if_pos (show 2 ^ (64 - 1) ≤ u from h), if_neg (by omega)]; rfl
        · rw [if_neg (show ¬ 2 ^ (64 - 1) ≤ u from h), if_pos (show u ≤ 9223372036854775807 by omega)]
          have h43 : ¬ (c :: r).head? = some 43 := by
            simp; intro e; subst e; exact hp rfl
          show (if (c :: r).head? = some 43 then none else some (u : Int)) = _
          rw [if_neg h43]
          rfl
      | _ => rfl
theorem nb_most {most : Nat} {l : Bs} : (nb most l).getD 0 ≤ most := by
  unfold nb
  split
  · split
    · assumption
    · simp
  · simp
set_option maxHeartbeats 2000000 in
theorem timeOf_98 (l : Bs) (hl : l.length ≤ 4611686018427387904) (w : World) :
    Calls Tryz.prog 98 #[sv l] w fun e w' => e = .returned (.tuple #[.int .i64 ((tm l).getD 0), .bool (tm l).isSome]) ∧ w' = w := by
  rcases l with _ | ⟨c, r⟩
  · have h96 : Calls Tryz.prog 96 #[sv [], .int .u64 9223372036854775807] w fun e w' => e = .returned (.tuple #[.int .u64 0, .bool false]) ∧ w' = w := number_96 [] hl 9223372036854775807 9223372036854775807 rfl (by omega) w
    go_enter Tryz.func98, Tryz.ntmps98
    go_wp2_with (go_at_call 96; with_reducible refine h96.mono ?_; rintro e w' ⟨rfl, rfl⟩)
    go_ret2
    exact ⟨rfl, rfl⟩
  · by_cases hc : c = 45
    · subst hc
      have h96 := number_96 r (by simp at hl; omega) 9223372036854775808 9223372036854775808 rfl (by omega) w
      rw [tm_minus]
      have hle := nb_most (most := 9223372036854775808) (l := r)
      obtain ⟨R, hR⟩ : ∃ R, nb 9223372036854775808 r = R := ⟨_, rfl⟩
      rw [hR] at h96 hle ⊢
      have e1 : (R.map fun n : Nat => -(n : Int)).getD 0 = -((R.getD 0 : Nat) : Int) := by cases R <;> simp
      have e2 : (R.map fun n : Nat => -(n : Int)).isSome = R.isSome := by cases R <;> rfl
      rw [e1, e2]
      obtain ⟨z, hz⟩ : ∃ z : Nat, R.getD 0 = z := ⟨_, rfl⟩
      obtain ⟨x, hx⟩ : ∃ x, R.isSome = x := ⟨_, rfl⟩
      rw [hz] at h96 hle ⊢
      rw [hx] at h96 ⊢
      clear hR e1 e2 hz hx
      have hx : (ByteArray.mk (45 :: r).toArray).extract 1 (r.length + 1) = ⟨r.toArray⟩ := by
        apply ByteArray.ext
        simp [ByteArray.data_extract]
      have h97 : Calls Tryz.prog 96 #[.string ((ByteArray.mk (45 :: r).toArray).extract 1 (r.length + 1)), .int .u64 9223372036854775808] w fun e w' => e = .returned (.tuple #[.int .u64 z, .bool x]) ∧ w' = w := by rw [hx]; exact h96
      clear hx h96
      have hg : ∀ h : 0 < (ByteArray.mk ((45 :: r).toArray)).size, (ByteArray.mk ((45 :: r).toArray))[0] = 45 := fun h => rfl
      go_enter Tryz.func98, Tryz.ntmps98
      go_wp2_with (go_at_call 96; with_reducible refine h97.mono ?_; rintro e w' ⟨rfl, rfl⟩)
      have hw : wrap64 (IntKind.u64.wrap (-(z : Int))) = -(z : Int) := by
        have e : IntKind.u64.wrap (-(z : Int)) = (-(z : Int)) % 18446744073709551616 := rfl
        rw [e]
        unfold wrap64
        omega
      go_ret2
      rw [hw]
      exact ⟨rfl, rfl⟩
    · have h96 := number_96 (c :: r) hl 9223372036854775807 9223372036854775807 rfl (by omega) w
      rw [tm_plus _ (fun r' h => hc (by injection h))]
      have hle := nb_most (most := 9223372036854775807) (l := c :: r)
      obtain ⟨R, hR⟩ : ∃ R, nb 9223372036854775807 (c :: r) = R := ⟨_, rfl⟩
      rw [hR] at h96 hle ⊢
      have e1 : (R.map fun n : Nat => (n : Int)).getD 0 = ((R.getD 0 : Nat) : Int) := by cases R <;> simp
      have e2 : (R.map fun n : Nat => (n : Int)).isSome = R.isSome := by cases R <;> rfl
      rw [e1, e2]
      obtain ⟨z, hz⟩ : ∃ z : Nat, R.getD 0 = z := ⟨_, rfl⟩
      obtain ⟨x, hx⟩ : ∃ x, R.isSome = x := ⟨_, rfl⟩
      rw [hz] at h96 hle ⊢
      rw [hx] at h96 ⊢
      clear hR e1 e2 hz hx
      have hg : ∀ h : 0 < (ByteArray.mk ((c :: r).toArray)).size, (ByteArray.mk ((c :: r).toArray))[0] = c := fun h => rfl
      have hc' : ((c.toNat : Int) == 45) = false := beq_eq_false_iff_ne.2 fun e => hc (UInt8.toNat_inj.1 (by show c.toNat = 45; omega))
      go_enter Tryz.func98, Tryz.ntmps98
      go_wp2_with (go_at_call 96; with_reducible refine h96.mono ?_; rintro e w' ⟨rfl, rfl⟩)
      go_ret2
      exact ⟨rfl, rfl⟩
end Go.Proofs.YtobegepebochkaaGreatDoor

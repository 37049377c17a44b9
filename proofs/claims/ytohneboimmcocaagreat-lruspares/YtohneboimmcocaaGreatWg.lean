import Derived.Test.YtohneboimmcocaaGreatWf
/-
  Lru: Balance.
-/
namespace Go.Proofs.YtohneboimmcocaaGreat
open Go.RowKit
set_option linter.unusedVariables false

/-- Where the tail of a list goes now; 0: nowhere. -/
def due (X : Nat → Nat → List Nat) (mk : Nat → Nat) (ci hot warm k : Nat) : Nat := match (X ci k).getLast? with
  | none => 0
  | some H => bhd X ci hot warm k (decide (mk H % 2 = 1))
/-- Lists and marks. -/
structure Lm where
  X : Nat → Nat → List Nat
  ma : Nat → Nat
def mvd (S : Lm) (ci k k2 : Nat) : Lm := ⟨upX (upX S.X ci k (S.X ci k).dropLast) ci k2 ((S.X ci k).getLastD 0 :: (upX S.X ci k (S.X ci k).dropLast) ci k2), upf S.ma ((S.X ci k).getLastD 0) (S.ma ((S.X ci k).getLastD 0) - S.ma ((S.X ci k).getLastD 0) % 2)⟩
/-- The step that is due. -/
def nxt8 (S : Lm) (ci hot warm : Nat) : Option Lm :=
  if due S.X S.ma ci hot warm 0 ≠ 0 then some (mvd S ci 0 (due S.X S.ma ci hot warm 0 - 1))
  else if due S.X S.ma ci hot warm 1 ≠ 0 then some (mvd S ci 1 (due S.X S.ma ci hot warm 1 - 1))
  else if due S.X S.ma ci hot warm 2 ≠ 0 then some (mvd S ci 2 (due S.X S.ma ci hot warm 2 - 1))
  else none
/-- So many steps at the most: how many, and what is there then. -/
def bal (ci hot warm : Nat) : Nat → Lm → Nat × Lm
  | 0, S => (0, S)
  | n + 1, S => match nxt8 S ci hot warm with
    | none => (0, S)
    | some S' => ((bal ci hot warm n S').1 + 1, (bal ci hot warm n S').2)
theorem rst_due {X : Nat → Nat → List Nat} {mk : Nat → Nat} {ci hot warm k : Nat} (h : Rst X mk ci hot warm k) : due X mk ci hot warm k = 0 := by
  rcases h with h | ⟨U, H, h, h2⟩
  · unfold due; rw [h]; rfl
  · unfold due; rw [h, List.getLast?_concat]; exact h2

theorem due_le (X : Nat → Nat → List Nat) (mk : Nat → Nat) (ci hot warm k : Nat) : due X mk ci hot warm k ≤ 3 := by
  unfold due
  split
  · omega
  · unfold bhd spl; (repeat' split) <;> omega
theorem due_ne {X : Nat → Nat → List Nat} {mk : Nat → Nat} {ci hot warm k : Nat} (h : due X mk ci hot warm k ≠ 0) : 0 < (X ci k).length := by
  rcases Nat.eq_zero_or_pos (X ci k).length with h1 | h1
  · have h2 := List.length_eq_zero_iff.1 h1
    unfold due at h; rw [h2] at h; exact absurd rfl h
  · exact h1
theorem mvd_tot (S : Lm) (ci k k2 : Nat) (hk : k < 3) (hk2 : k2 < 3) (h : 0 < (S.X ci k).length) : tot (mvd S ci k k2).X ci = tot S.X ci := by
  have hk' : k = 0 ∨ k = 1 ∨ k = 2 := by omega
  have hk2' : k2 = 0 ∨ k2 = 1 ∨ k2 = 2 := by omega
  rcases hk' with rfl | rfl | rfl <;> rcases hk2' with rfl | rfl | rfl <;> (simp [tot, mvd, upX]; omega)
theorem nxt8_tot {S S' : Lm} {ci hot warm : Nat} (h : nxt8 S ci hot warm = some S') : tot S'.X ci = tot S.X ci := by
  unfold nxt8 at h
  have d0 := due_le S.X S.ma ci hot warm 0
  have d1 := due_le S.X S.ma ci hot warm 1
  have d2 := due_le S.X S.ma ci hot warm 2
  split at h
  · rename_i h1
    obtain rfl := Option.some.inj h
    exact mvd_tot S ci 0 _ (by omega) (by omega) (due_ne h1)
  · split at h
    · rename_i h1
      obtain rfl := Option.some.inj h
      exact mvd_tot S ci 1 _ (by omega) (by omega) (due_ne h1)
    · split at h
      · rename_i h1
        obtain rfl := Option.some.inj h
        exact mvd_tot S ci 2 _ (by omega) (by omega) (due_ne h1)
      · cases h
theorem len_tot (X : Nat → Nat → List Nat) (ci k : Nat) (hk : k < 3) : (X ci k).length ≤ tot X ci := by
  have hk' : k = 0 ∨ k = 1 ∨ k = 2 := by omega
  unfold tot
  rcases hk' with rfl | rfl | rfl <;> omega

structure LE (w : World) (xb sb qb gl gc : Nat) (F : Nat → Prop) (B : Bl) (b c d e f g : Int) (A : Ab) (m : List Int) (T : List Nat) (cls : Nat → Nat) (S : Lm) (hot warm : Nat) : Prop where
  ex : ∃ bs, LQ w xb sb qb gl gc F B b c d e f g A m T bs cls S.X S.ma hot warm

section
variable {w : World} {xb sb qb gl gc : Nat} {F : Nat → Prop} {B : Bl} {b c d e f g : Int} {A : Ab} {m : List Int} {T : List Nat} {cls : Nat → Nat} {S : Lm} {hot warm : Nat}
theorem LE.kept0 {w' : World} (h : LE w xb sb qb gl gc F B b c d e f g A m T cls S hot warm) (hf : w.grownBy w' none) : LE w' xb sb qb gl gc F B b c d e f g A m T cls S hot warm := by
  obtain ⟨bs, h1⟩ := h.ex
  exact ⟨bs, h1.kept0 hf⟩
theorem LE.lens (h : LE w xb sb qb gl gc F B b c d e f g A m T cls S hot warm) {ci : Nat} (ht : tot S.X ci < 1099511627776) (k : Nat) : (S.X ci k).length < 1099511627776 := by
  rcases Nat.lt_or_ge k 3 with h1 | h1
  · exact Nat.lt_of_le_of_lt (len_tot _ _ _ h1) ht
  · obtain ⟨bs, hL⟩ := h.ex
    obtain ⟨p, n, s, L, _, hI⟩ := hL.ql.ex
    rcases hX : S.X ci k with _ | ⟨H, V⟩
    · simp
    · have := hI.k3 ci k H (by rw [hX]; simp)
      omega
theorem step_nxt (h : LE w xb sb qb gl gc F B b c d e f g A m T cls S hot warm) {ci : Nat} (hc : ci < A.n) (hsh : hot ≤ 100) (hsw : warm ≤ 100) (hlen : ∀ k, (S.X ci k).length < 1099511627776) :
    Calls Tryz.prog 60 #[.pointer (some ⟨xb, 0, none⟩), .int .i64 ci, Value.nilFunc] w fun y w' => (y = .returned (.bool false) ∧ nxt8 S ci hot warm = none ∧ w.grownBy w' none) ∨ (y = .returned (.bool true) ∧ ∃ S', nxt8 S ci hot warm = some S' ∧ Kp (fun k => F k ∨ k = gl) w w' ∧ LE w' xb sb qb gl gc F B b c d e f g A m T cls S' hot warm) := by
  obtain ⟨bs, hL⟩ := h.ex
  refine (step_60 hL hc hsh hsw hlen).mono ?_
  rintro y w' (⟨rfl, hf, hr⟩ | ⟨rfl, k, U, H, k2, hk, hr, hX, hb, hk2, hK, hL'⟩)
  · refine .inl ⟨rfl, ?_, hf⟩
    unfold nxt8
    rw [rst_due (hr 0 (by omega)), rst_due (hr 1 (by omega)), rst_due (hr 2 (by omega))]
    rfl
  · refine .inr ⟨rfl, mvd S ci k k2, ?_, hK, ?_⟩
    · have hd : due S.X S.ma ci hot warm k = k2 + 1 := by unfold due; rw [hX, List.getLast?_concat]; exact hb
      have hk3 : k = 0 ∨ k = 1 ∨ k = 2 := by omega
      unfold nxt8
      rcases hk3 with rfl | rfl | rfl
      · rw [hd, if_pos (by omega)]; rfl
      · rw [rst_due (hr 0 (by omega)), hd, if_neg (by decide), if_pos (by omega)]; rfl
      · rw [rst_due (hr 0 (by omega)), rst_due (hr 1 (by omega)), hd, if_neg (by decide), if_neg (by decide), if_pos (by omega)]; rfl
    · refine ⟨upB bs H (S.ma H - S.ma H % 2), ?_⟩
      have e1 : (S.X ci k).dropLast = U := by rw [hX]; simp
      have e2 : (S.X ci k).getLastD 0 = H := by rw [hX]; simp
      unfold mvd
      rw [e1, e2]
      exact hL'
set_option maxRecDepth 100000 in
set_option maxHeartbeats 2000000 in
theorem balance_18 (h : LE w xb sb qb gl gc F B b c d e f g A m T cls S hot warm) {ci : Nat} (hc : ci < A.n) (hsh : hot ≤ 100) (hsw : warm ≤ 100) (ht : tot S.X ci < 1099511627776) {links : Nat} (hl : links < 9223372036854775808) :
    Calls Tryz.prog 18 #[.pointer (some ⟨xb, 0, none⟩), .int .i64 ci, .int .i64 links, Value.nilFunc] w fun y w' => y = .returned (.int .i64 (bal ci hot warm (min links (2 * tot S.X ci)) S).1) ∧ Kp (fun k => F k ∨ k = gl) w w' ∧ LE w' xb sb qb gl gc F B b c d e f g A m T cls (bal ci hot warm (min links (2 * tot S.X ci)) S).2 hot warm := by
  have hal := (show Calls Tryz.prog 59 #[.pointer (some ⟨xb, 0, none⟩), .int .i64 ci] w fun y w' => y = .returned (.int .i64 (tot S.X ci)) ∧ w.grownBy w' none by
    obtain ⟨bs, hL⟩ := h.ex
    exact all_59 hL hc)
  have HS : Hid _ := And.intro h ht
  have htb := ht
  clear h ht
  generalize htt : tot S.X ci = tt at *
  have e1 : IntKind.i64.wrap (2 * (tt : Int)) = 2 * (tt : Int) := by rw [IntKind.wrap_i64]; omega
  obtain ⟨lk, hlk⟩ : ∃ lk, min links (2 * tt) = lk := ⟨_, rfl⟩
  rw [hlk]
  have hlb : lk < 4611686018427387904 := by omega
  have hst := fun (w1 : World) (S1 : Lm) (hE : Hid (Kp (fun k => F k ∨ k = gl) w w1 ∧ LE w1 xb sb qb gl gc F B b c d e f g A m T cls S1 hot warm ∧ tot S1.X ci = tt)) => (step_nxt hE.out.2.1 hc hsh hsw (hE.out.2.1.lens (by rw [hE.out.2.2]; exact htb))).mono (R' := fun y w' => (y = .returned (.bool false) ∧ Hid (nxt8 S1 ci hot warm = none ∧ Kp (fun k => F k ∨ k = gl) w w' ∧ LE w' xb sb qb gl gc F B b c d e f g A m T cls S1 hot warm)) ∨ (y = .returned (.bool true) ∧ ∃ S', Hid (nxt8 S1 ci hot warm = some S') ∧ Hid (Kp (fun k => F k ∨ k = gl) w w' ∧ LE w' xb sb qb gl gc F B b c d e f g A m T cls S' hot warm ∧ tot S'.X ci = tt))) (by
    rintro y w' (⟨rfl, h1, h2⟩ | ⟨rfl, S', h1, h2, h3⟩)
    · exact .inl ⟨rfl, h1, hE.out.1.step h2 (by simp), hE.out.2.1.kept0 h2⟩
    · exact .inr ⟨rfl, S', h1, hE.out.1.trans h2 (fun _ h => h) (fun k hk => .inl hk), h3, by rw [nxt8_tot h1]; exact hE.out.2.2⟩)
  go_enter Tryz.func18, Tryz.ntmps18
  go_wp2_with (go_at_call 59; go_must (refine hal.mono ?_); rintro y w1 ⟨rfl, hf1⟩)
  · rename_i hmn
    have elk : 2 * (tt : Int) = (lk : Int) := by omega
    simp only [elk]
    clear hal e1
    have HW : Hid (Kp (fun k => F k ∨ k = gl) w w1 ∧ LE w1 xb sb qb gl gc F B b c d e f g A m T cls S hot warm ∧ tot S.X ci = tt) := ⟨Kp.of hf1, HS.out.1.kept0 hf1, htt⟩
    clear hf1 HS htt hlk htb
    go_loopw [9] (fun v wr => ∃ (dn : Nat) (S1 : Lm), dn ≤ lk ∧ v = .int .i64 dn ∧ Hid (Kp (fun k => F k ∨ k = gl) w wr ∧ LE wr xb sb qb gl gc F B b c d e f g A m T cls S1 hot warm ∧ tot S1.X ci = tt) ∧ Hid (bal ci hot warm lk S = (dn + (bal ci hot warm (lk - dn) S1).1, (bal ci hot warm (lk - dn) S1).2))) (fun v _ => lk - (intOf v).toNat)
    case atStart => exact ⟨0, S, by omega, rfl, HW, by show _ = _; simp⟩
    case round =>
      obtain ⟨dn, S1, hd, rfl, hE, hB⟩ := hrel
      clear HW
      by_cases hlt : dn < lk
      · have hd1 : decide ((dn : Int) < lk) = true := decide_eq_true (by omega)
        have hlt2 : (dn : Int) < lk := by omega
        have hs1 := hst _ _ hE
        clear hst
        go_wp2_with (go_at_call 60; go_must (with_reducible refine hs1.mono ?_); rintro y w2 (⟨rfl, hE2⟩ | ⟨rfl, S', hn, hE2⟩))
        · go_ret
          have hB1 : bal ci hot warm (lk - dn) S1 = (0, S1) := by
            obtain ⟨r, hr⟩ : ∃ r, lk - dn = r + 1 := ⟨lk - dn - 1, by omega⟩
            rw [hr]; unfold bal; rw [hE2.out.1]
          have hB2 := hB.out
          rw [hB1] at hB2
          rw [hB2]
          exact ⟨rfl, hE2.out.2.1, hE2.out.2.2⟩
        · have hB2 : Hid (bal ci hot warm lk S = (dn + 1 + (bal ci hot warm (lk - (dn + 1)) S').1, (bal ci hot warm (lk - (dn + 1)) S').2)) := by
            show _ = _
            rw [hB.out]
            obtain ⟨r, hr⟩ : ∃ r, lk - dn = r + 1 := ⟨lk - dn - 1, by omega⟩
            rw [hr, show lk - (dn + 1) = r by omega]
            show (dn + (bal ci hot warm (r + 1) S1).1, (bal ci hot warm (r + 1) S1).2) = _
            rw [bal, hn.out]
            simp only []
            rw [show dn + ((bal ci hot warm r S').1 + 1) = dn + 1 + (bal ci hot warm r S').1 by omega]
          exact ⟨⟨dn + 1, S', by omega, by go_num, hE2, hB2⟩, by simp [intOf]; omega⟩
      · obtain rfl : dn = lk := by omega
        have hd1 : decide ((dn : Int) < dn) = false := decide_eq_false (by omega)
        clear hst
        go_wp2
        go_ret
        have hB2 := hB.out
        rw [Nat.sub_self] at hB2
        rw [hB2]
        exact ⟨rfl, hE.out.1, hE.out.2.1⟩
  · rename_i hmn
    have elk : (links : Int) = (lk : Int) := by omega
    simp only [elk]
    clear hal e1
    have HW : Hid (Kp (fun k => F k ∨ k = gl) w w1 ∧ LE w1 xb sb qb gl gc F B b c d e f g A m T cls S hot warm ∧ tot S.X ci = tt) := ⟨Kp.of hf1, HS.out.1.kept0 hf1, htt⟩
    clear hf1 HS htt hlk htb
    go_loopw [9] (fun v wr => ∃ (dn : Nat) (S1 : Lm), dn ≤ lk ∧ v = .int .i64 dn ∧ Hid (Kp (fun k => F k ∨ k = gl) w wr ∧ LE wr xb sb qb gl gc F B b c d e f g A m T cls S1 hot warm ∧ tot S1.X ci = tt) ∧ Hid (bal ci hot warm lk S = (dn + (bal ci hot warm (lk - dn) S1).1, (bal ci hot warm (lk - dn) S1).2))) (fun v _ => lk - (intOf v).toNat)
    case atStart => exact ⟨0, S, by omega, rfl, HW, by show _ = _; simp⟩
    case round =>
      obtain ⟨dn, S1, hd, rfl, hE, hB⟩ := hrel
      clear HW
      by_cases hlt : dn < lk
      · have hd1 : decide ((dn : Int) < lk) = true := decide_eq_true (by omega)
        have hlt2 : (dn : Int) < lk := by omega
        have hs1 := hst _ _ hE
        clear hst
        go_wp2_with (go_at_call 60; go_must (with_reducible refine hs1.mono ?_); rintro y w2 (⟨rfl, hE2⟩ | ⟨rfl, S', hn, hE2⟩))
        · go_ret
          have hB1 : bal ci hot warm (lk - dn) S1 = (0, S1) := by
            obtain ⟨r, hr⟩ : ∃ r, lk - dn = r + 1 := ⟨lk - dn - 1, by omega⟩
            rw [hr]; unfold bal; rw [hE2.out.1]
          have hB2 := hB.out
          rw [hB1] at hB2
          rw [hB2]
          exact ⟨rfl, hE2.out.2.1, hE2.out.2.2⟩
        · have hB2 : Hid (bal ci hot warm lk S = (dn + 1 + (bal ci hot warm (lk - (dn + 1)) S').1, (bal ci hot warm (lk - (dn + 1)) S').2)) := by
            show _ = _
            rw [hB.out]
            obtain ⟨r, hr⟩ : ∃ r, lk - dn = r + 1 := ⟨lk - dn - 1, by omega⟩
            rw [hr, show lk - (dn + 1) = r by omega]
            show (dn + (bal ci hot warm (r + 1) S1).1, (bal ci hot warm (r + 1) S1).2) = _
            rw [bal, hn.out]
            simp only []
            rw [show dn + ((bal ci hot warm r S').1 + 1) = dn + 1 + (bal ci hot warm r S').1 by omega]
          exact ⟨⟨dn + 1, S', by omega, by go_num, hE2, hB2⟩, by simp [intOf]; omega⟩
      · obtain rfl : dn = lk := by omega
        have hd1 : decide ((dn : Int) < dn) = false := decide_eq_false (by omega)
        clear hst
        go_wp2
        go_ret
        have hB2 := hB.out
        rw [Nat.sub_self] at hB2
        rw [hB2]
        exact ⟨rfl, hE.out.1, hE.out.2.1⟩
end
end Go.Proofs.YtohneboimmcocaaGreat

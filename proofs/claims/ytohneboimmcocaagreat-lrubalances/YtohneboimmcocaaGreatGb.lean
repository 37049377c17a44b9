import Derived.Test.YtohneboimmcocaaGreatGa
import Derived.Test.YtohneboimmcocaaGreatOe
/-
  Lru: Balance that tells what leaves.
-/
namespace Go.Proofs.YtohneboimmcocaaGreat
open Go.RowKit
set_option linter.unusedVariables false

section
variable {w : World} {xb sb qb gl gc : Nat} {F : Nat → Prop} {B : Bl} {b c d e f g : Int} {A : Ab} {m : List Int} {T : List Nat} {cls : Nat → Nat} {S : Lm} {hot warm : Nat} {J : World → List Nat → Prop} {PJ : Nat → Prop} {t1 t2 t3 t4 ci : Nat} {xs : List Nat}
theorem step_nxtL (h : LE w xb sb qb gl gc F B b c d e f g A m T cls S hot warm) (hJ : J w xs) (hx : xs.length ≤ 5000) (hO : LfOk J PJ t1 t2 t3 t4 ci xb sb qb gl gc F B b c d e f g A m T cls hot warm) (hc : ci < A.n) (hsh : hot ≤ 100) (hsw : warm ≤ 100) (hlen : ∀ k, (S.X ci k).length < 1099511627776) :
    Calls Tryz.prog 60 #[.pointer (some ⟨xb, 0, none⟩), .int .i64 ci, .func (.func 19) #[] #[.pointer (some ⟨t1, 0, none⟩), .pointer (some ⟨t2, 0, none⟩), .pointer (some ⟨t3, 0, none⟩), .pointer (some ⟨t4, 0, none⟩)]] w fun y w' => (y = .returned (.bool false) ∧ nxt8 S ci hot warm = none ∧ w.grownBy w' none) ∨ (y = .returned (.bool true) ∧ ∃ S' H, nxt8 S ci hot warm = some S' ∧ (∀ n, mvs ci hot warm (n + 1) S = H :: mvs ci hot warm n S') ∧ Kp (fun k => (F k ∨ k = gl) ∨ PJ k) w w' ∧ LE w' xb sb qb gl gc F B b c d e f g A m T cls S' hot warm ∧ J w' (xs ++ [H])) := by
  obtain ⟨bs, hL⟩ := h.ex
  refine (step_60L hL hJ hx hO hc hsh hsw hlen).mono ?_
  rintro y w' (⟨rfl, hf, hr⟩ | ⟨rfl, k, U, H, k2, hk, hr, hX, hb, hk2, hK, hL', hJ'⟩)
  · refine .inl ⟨rfl, ?_, hf⟩
    unfold nxt8
    rw [rst_due (hr 0 (by omega)), rst_due (hr 1 (by omega)), rst_due (hr 2 (by omega))]
    rfl
  · have hd : due S.X S.ma ci hot warm k = k2 + 1 := by unfold due; rw [hX, List.getLast?_concat]; exact hb
    have hk3 : k = 0 ∨ k = 1 ∨ k = 2 := by omega
    have hn : nxt8 S ci hot warm = some (mvd S ci k k2) := by
      unfold nxt8
      rcases hk3 with rfl | rfl | rfl
      · rw [hd, if_pos (by omega)]; rfl
      · rw [rst_due (hr 0 (by omega)), hd, if_neg (by decide), if_pos (by omega)]; rfl
      · rw [rst_due (hr 0 (by omega)), rst_due (hr 1 (by omega)), hd, if_neg (by decide), if_neg (by decide), if_pos (by omega)]; rfl
    refine .inr ⟨rfl, mvd S ci k k2, H, hn, fun n => ?_, hK, ?_, hJ'⟩
    · rw [mvs, hn]
      simp only []
      congr 1
      rcases hk3 with rfl | rfl | rfl
      · rw [if_pos (by omega), hX]; simp
      · rw [if_neg (by rw [rst_due (hr 0 (by omega))]; decide), if_pos (by omega), hX]; simp
      · rw [if_neg (by rw [rst_due (hr 0 (by omega))]; decide), if_neg (by rw [rst_due (hr 1 (by omega))]; decide), hX]; simp
    · refine ⟨upB bs H (S.ma H - S.ma H % 2), ?_⟩
      have e1 : (S.X ci k).dropLast = U := by rw [hX]; simp
      have e2 : (S.X ci k).getLastD 0 = H := by rw [hX]; simp
      unfold mvd
      rw [e1, e2]
      exact hL'
set_option maxRecDepth 100000 in
set_option maxHeartbeats 2000000 in
theorem balance_18L (h : LE w xb sb qb gl gc F B b c d e f g A m T cls S hot warm) (hJ : J w xs) (hxl : ∀ lk, lk ≤ 2 * tot S.X ci → (xs ++ mvs ci hot warm lk S).length ≤ 5000) (hO : LfOk J PJ t1 t2 t3 t4 ci xb sb qb gl gc F B b c d e f g A m T cls hot warm) (hc : ci < A.n) (hsh : hot ≤ 100) (hsw : warm ≤ 100) (ht : tot S.X ci < 1099511627776) {links : Nat} (hl : links < 9223372036854775808) :
    Calls Tryz.prog 18 #[.pointer (some ⟨xb, 0, none⟩), .int .i64 ci, .int .i64 links, .func (.func 19) #[] #[.pointer (some ⟨t1, 0, none⟩), .pointer (some ⟨t2, 0, none⟩), .pointer (some ⟨t3, 0, none⟩), .pointer (some ⟨t4, 0, none⟩)]] w fun y w' => y = .returned (.int .i64 (bal ci hot warm (min links (2 * tot S.X ci)) S).1) ∧ Kp (fun k => (F k ∨ k = gl) ∨ PJ k) w w' ∧ LE w' xb sb qb gl gc F B b c d e f g A m T cls (bal ci hot warm (min links (2 * tot S.X ci)) S).2 hot warm ∧ J w' (xs ++ mvs ci hot warm (min links (2 * tot S.X ci)) S) := by
  have hal := (show Calls Tryz.prog 59 #[.pointer (some ⟨xb, 0, none⟩), .int .i64 ci] w fun y w' => y = .returned (.int .i64 (tot S.X ci)) ∧ w.grownBy w' none by
    obtain ⟨bs, hL⟩ := h.ex
    exact all_59 hL hc)
  have HS : Hid _ := And.intro h ht
  have HJ : Hid _ := And.intro hJ hO
  clear hJ hO
  have htb := ht
  clear h ht
  generalize htt : tot S.X ci = tt at *
  have e1 : IntKind.i64.wrap (2 * (tt : Int)) = 2 * (tt : Int) := by rw [IntKind.wrap_i64]; omega
  obtain ⟨lk, hlk⟩ : ∃ lk, min links (2 * tt) = lk := ⟨_, rfl⟩
  rw [hlk]
  have hlb : lk < 4611686018427387904 := by omega
  have hxb := hxl lk (by omega)
  clear hxl
  have hst := fun (w1 : World) (S1 : Lm) (r : Nat) (hE : Hid (Kp (fun k => (F k ∨ k = gl) ∨ PJ k) w w1 ∧ LE w1 xb sb qb gl gc F B b c d e f g A m T cls S1 hot warm ∧ tot S1.X ci = tt)) (hM : Hid (∃ xs1, J w1 xs1 ∧ xs1 ++ mvs ci hot warm (r + 1) S1 = xs ++ mvs ci hot warm lk S)) => (show Calls Tryz.prog 60 #[.pointer (some ⟨xb, 0, none⟩), .int .i64 ci, .func (.func 19) #[] #[.pointer (some ⟨t1, 0, none⟩), .pointer (some ⟨t2, 0, none⟩), .pointer (some ⟨t3, 0, none⟩), .pointer (some ⟨t4, 0, none⟩)]] w1 (fun y w' => (y = .returned (.bool false) ∧ Hid (nxt8 S1 ci hot warm = none ∧ Kp (fun k => (F k ∨ k = gl) ∨ PJ k) w w' ∧ LE w' xb sb qb gl gc F B b c d e f g A m T cls S1 hot warm ∧ J w' (xs ++ mvs ci hot warm lk S))) ∨ (y = .returned (.bool true) ∧ ∃ S', Hid (nxt8 S1 ci hot warm = some S') ∧ Hid (Kp (fun k => (F k ∨ k = gl) ∨ PJ k) w w' ∧ LE w' xb sb qb gl gc F B b c d e f g A m T cls S' hot warm ∧ tot S'.X ci = tt) ∧ Hid (∃ xs1, J w' xs1 ∧ xs1 ++ mvs ci hot warm r S' = xs ++ mvs ci hot warm lk S))) by
    obtain ⟨xs1, hJ1, hM1⟩ := hM.out
    refine (step_nxtL hE.out.2.1 hJ1 (by have := hxb; rw [← hM1, List.length_append] at this; omega) HJ.out.2 hc hsh hsw (hE.out.2.1.lens (by rw [hE.out.2.2]; exact htb))).mono ?_
    rintro y w' (⟨rfl, h1, h2⟩ | ⟨rfl, S', H, h1, hmv, h2, h3, h4⟩)
    · refine .inl ⟨rfl, h1, hE.out.1.step h2 (by simp), hE.out.2.1.kept0 h2, ?_⟩
      have e : mvs ci hot warm (r + 1) S1 = [] := by rw [mvs, h1]
      rw [e, List.append_nil] at hM1
      rw [← hM1]
      exact HJ.out.2.kept _ _ _ hJ1 (Kp.of h2)
    · exact .inr ⟨rfl, S', h1, ⟨hE.out.1.trans h2 (fun _ h => h) (fun k hk => .inl hk), h3, by rw [nxt8_tot h1]; exact hE.out.2.2⟩, xs1 ++ [H], h4, by rw [← hM1, hmv r]; simp⟩)
  go_enter Tryz.func18, Tryz.ntmps18
  go_wp2_with (go_at_call 59; go_must (refine hal.mono ?_); rintro y w1 ⟨rfl, hf1⟩)
  · rename_i hmn
    have elk : 2 * (tt : Int) = (lk : Int) := by omega
    simp only [elk]
    clear hal e1 hxb
    have HW : Hid (Kp (fun k => (F k ∨ k = gl) ∨ PJ k) w w1 ∧ LE w1 xb sb qb gl gc F B b c d e f g A m T cls S hot warm ∧ tot S.X ci = tt) := ⟨Kp.of hf1, HS.out.1.kept0 hf1, htt⟩
    have HM : Hid (∃ xs1, J w1 xs1 ∧ xs1 ++ mvs ci hot warm (lk - 0) S = xs ++ mvs ci hot warm lk S) := ⟨xs, HJ.out.2.kept _ _ _ HJ.out.1 (Kp.of hf1), rfl⟩
    have HO : Hid _ := HJ.out.2
    clear hf1 HS HJ htt hlk htb
    go_loopw [9] (fun v wr => ∃ (dn : Nat) (S1 : Lm), dn ≤ lk ∧ v = .int .i64 dn ∧ Hid (Kp (fun k => (F k ∨ k = gl) ∨ PJ k) w wr ∧ LE wr xb sb qb gl gc F B b c d e f g A m T cls S1 hot warm ∧ tot S1.X ci = tt) ∧ Hid (bal ci hot warm lk S = (dn + (bal ci hot warm (lk - dn) S1).1, (bal ci hot warm (lk - dn) S1).2)) ∧ Hid (∃ xs1, J wr xs1 ∧ xs1 ++ mvs ci hot warm (lk - dn) S1 = xs ++ mvs ci hot warm lk S)) (fun v _ => lk - (intOf v).toNat)
    case atStart => exact ⟨0, S, by omega, rfl, HW, by show _ = _; simp, HM⟩
    case round =>
      obtain ⟨dn, S1, hd, rfl, hE, hB, hM⟩ := hrel
      clear HW HM
      by_cases hlt : dn < lk
      · have hd1 : decide ((dn : Int) < lk) = true := decide_eq_true (by omega)
        have hlt2 : (dn : Int) < lk := by omega
        obtain ⟨r0, hr0⟩ : ∃ r, lk - dn = r + 1 := ⟨lk - dn - 1, by omega⟩
        rw [hr0] at hM
        have hs1 := hst _ _ r0 hE hM
        clear hst
        go_wp2_with (go_at_call 60; go_must (with_reducible refine hs1.mono ?_); rintro y w2 (⟨rfl, hE2⟩ | ⟨rfl, S', hn, hE2, hM2⟩))
        · go_ret
          have hB1 : bal ci hot warm (lk - dn) S1 = (0, S1) := by
            obtain ⟨r, hr⟩ : ∃ r, lk - dn = r + 1 := ⟨lk - dn - 1, by omega⟩
            rw [hr]; unfold bal; rw [hE2.out.1]
          have hB2 := hB.out
          rw [hB1] at hB2
          rw [hB2]
          exact ⟨rfl, hE2.out.2.1, hE2.out.2.2.1, hE2.out.2.2.2⟩
        · have hB2 : Hid (bal ci hot warm lk S = (dn + 1 + (bal ci hot warm (lk - (dn + 1)) S').1, (bal ci hot warm (lk - (dn + 1)) S').2)) := by
            show _ = _
            rw [hB.out]
            obtain ⟨r, hr⟩ : ∃ r, lk - dn = r + 1 := ⟨lk - dn - 1, by omega⟩
            rw [hr, show lk - (dn + 1) = r by omega]
            show (dn + (bal ci hot warm (r + 1) S1).1, (bal ci hot warm (r + 1) S1).2) = _
            rw [bal, hn.out]
            simp only []
            rw [show dn + ((bal ci hot warm r S').1 + 1) = dn + 1 + (bal ci hot warm r S').1 by omega]
          exact ⟨⟨dn + 1, S', by omega, by go_num, hE2, hB2, by rw [show lk - (dn + 1) = r0 by omega]; exact hM2⟩, by simp [intOf]; omega⟩
      · obtain rfl : dn = lk := by omega
        have hd1 : decide ((dn : Int) < dn) = false := decide_eq_false (by omega)
        clear hst
        go_wp2
        go_ret
        have hB2 := hB.out
        rw [Nat.sub_self] at hB2
        rw [hB2]
        obtain ⟨xs1, hJ1, hM1⟩ := hM.out
        rw [Nat.sub_self] at hM1
        simp only [mvs, List.append_nil] at hM1
        exact ⟨rfl, hE.out.1, hE.out.2.1, by first | (rw [← hM1]; exact hJ1) | (subst hM1; exact hJ1)⟩
  · rename_i hmn
    have elk : (links : Int) = (lk : Int) := by omega
    simp only [elk]
    clear hal e1 hxb
    have HW : Hid (Kp (fun k => (F k ∨ k = gl) ∨ PJ k) w w1 ∧ LE w1 xb sb qb gl gc F B b c d e f g A m T cls S hot warm ∧ tot S.X ci = tt) := ⟨Kp.of hf1, HS.out.1.kept0 hf1, htt⟩
    have HM : Hid (∃ xs1, J w1 xs1 ∧ xs1 ++ mvs ci hot warm (lk - 0) S = xs ++ mvs ci hot warm lk S) := ⟨xs, HJ.out.2.kept _ _ _ HJ.out.1 (Kp.of hf1), rfl⟩
    have HO : Hid _ := HJ.out.2
    clear hf1 HS HJ htt hlk htb
    go_loopw [9] (fun v wr => ∃ (dn : Nat) (S1 : Lm), dn ≤ lk ∧ v = .int .i64 dn ∧ Hid (Kp (fun k => (F k ∨ k = gl) ∨ PJ k) w wr ∧ LE wr xb sb qb gl gc F B b c d e f g A m T cls S1 hot warm ∧ tot S1.X ci = tt) ∧ Hid (bal ci hot warm lk S = (dn + (bal ci hot warm (lk - dn) S1).1, (bal ci hot warm (lk - dn) S1).2)) ∧ Hid (∃ xs1, J wr xs1 ∧ xs1 ++ mvs ci hot warm (lk - dn) S1 = xs ++ mvs ci hot warm lk S)) (fun v _ => lk - (intOf v).toNat)
    case atStart => exact ⟨0, S, by omega, rfl, HW, by show _ = _; simp, HM⟩
    case round =>
      obtain ⟨dn, S1, hd, rfl, hE, hB, hM⟩ := hrel
      clear HW HM
      by_cases hlt : dn < lk
      · have hd1 : decide ((dn : Int) < lk) = true := decide_eq_true (by omega)
        have hlt2 : (dn : Int) < lk := by omega
        obtain ⟨r0, hr0⟩ : ∃ r, lk - dn = r + 1 := ⟨lk - dn - 1, by omega⟩
        rw [hr0] at hM
        have hs1 := hst _ _ r0 hE hM
        clear hst
        go_wp2_with (go_at_call 60; go_must (with_reducible refine hs1.mono ?_); rintro y w2 (⟨rfl, hE2⟩ | ⟨rfl, S', hn, hE2, hM2⟩))
        · go_ret
          have hB1 : bal ci hot warm (lk - dn) S1 = (0, S1) := by
            obtain ⟨r, hr⟩ : ∃ r, lk - dn = r + 1 := ⟨lk - dn - 1, by omega⟩
            rw [hr]; unfold bal; rw [hE2.out.1]
          have hB2 := hB.out
          rw [hB1] at hB2
          rw [hB2]
          exact ⟨rfl, hE2.out.2.1, hE2.out.2.2.1, hE2.out.2.2.2⟩
        · have hB2 : Hid (bal ci hot warm lk S = (dn + 1 + (bal ci hot warm (lk - (dn + 1)) S').1, (bal ci hot warm (lk - (dn + 1)) S').2)) := by
            show _ = _
            rw [hB.out]
            obtain ⟨r, hr⟩ : ∃ r, lk - dn = r + 1 := ⟨lk - dn - 1, by omega⟩
            rw [hr, show lk - (dn + 1) = r by omega]
            show (dn + (bal ci hot warm (r + 1) S1).1, (bal ci hot warm (r + 1) S1).2) = _
            rw [bal, hn.out]
            simp only []
            rw [show dn + ((bal ci hot warm r S').1 + 1) = dn + 1 + (bal ci hot warm r S').1 by omega]
          exact ⟨⟨dn + 1, S', by omega, by go_num, hE2, hB2, by rw [show lk - (dn + 1) = r0 by omega]; exact hM2⟩, by simp [intOf]; omega⟩
      · obtain rfl : dn = lk := by omega
        have hd1 : decide ((dn : Int) < dn) = false := decide_eq_false (by omega)
        clear hst
        go_wp2
        go_ret
        have hB2 := hB.out
        rw [Nat.sub_self] at hB2
        rw [hB2]
        obtain ⟨xs1, hJ1, hM1⟩ := hM.out
        rw [Nat.sub_self] at hM1
        simp only [mvs, List.append_nil] at hM1
        exact ⟨rfl, hE.out.1, hE.out.2.1, by first | (rw [← hM1]; exact hJ1) | (subst hM1; exact hJ1)⟩
end
end Go.Proofs.YtohneboimmcocaaGreat

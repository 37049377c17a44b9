import Derived.Test.YtohneboimmcocaaGreatOk
import Derived.Test.YtohneboimmcocaaGreatOl
/-
  LruRests' walk.
-/
namespace Go.Proofs.YtohneboimmcocaaGreat
open Go.RowKit
set_option linter.unusedVariables false

section
variable {w : World} {P P' : Nat → Prop} {wb N hot warm : Nat} {D0 : Wd} {S : Lm}
theorem HS.less (h : HS w P wb hot warm D0 S) (hs : ∀ k, k < w.heap.size → P k → P' k) : HS w P' wb hot warm D0 S := by
  obtain ⟨D, lsb, vs, Y, cl, bs, p, n, s, hp, hM, hX, hl⟩ := h
  exact ⟨D, lsb, vs, Y, cl, bs, p, n, s, hp, hM.less hs, hX, hl⟩
end
theorem kp_grown2 {w w1 w2 : World} {P : Nat → Prop} (hf : w.grownBy w1 none) (hP : ∀ k, P k → w.heap.size ≤ k) (hK : Kp P w1 w2) : w.grownBy w2 none := kp_grown hf (hK.less (P' := fun k => w.heap.size ≤ k) hP)
/-- What the law holds while it goes through the classes. -/
structure RH (w wr : World) (wb hot warm yb : Nat) (E : Wd) (S : Lm) : Prop where
  gr : w.grownBy wr none
  hs : HS wr (fun k => w.heap.size ≤ k ∧ k ≠ yb) wb hot warm E S
  yx : Box wr 23 yb #[.int .i64 hot, .int .i64 warm]
theorem RH.kept0 {w wr w' : World} {wb hot warm yb : Nat} {E : Wd} {S : Lm} (h : RH w wr wb hot warm yb E S) (hf : wr.grownBy w' none) : RH w w' wb hot warm yb E S := ⟨gb_trans h.gr hf, h.hs.kept0 hf, h.yx.kept hf (by simp)⟩
theorem RH.bal {w wr w' : World} {wb hot warm yb : Nat} {E : Wd} {S S' : Lm} (h : RH w wr wb hot warm yb E S) (hK : Kp (fun k => w.heap.size ≤ k ∧ k ≠ yb) wr w') (hS : HS w' (fun k => w.heap.size ≤ k ∧ k ≠ yb) wb hot warm E S') : RH w w' wb hot warm yb E S' := ⟨kp_grown2 h.gr (fun k hk => hk.1) hK, hS, hK.box h.yx (fun hh => hh.2 rfl)⟩

set_option maxRecDepth 100000 in
set_option maxHeartbeats 4000000 in
theorem lruRests_any (x0 x1 : Int) {w : World} {a : Option Addr} {n c : Nat} (hO : OpsIn w a n) (hn : n ≤ maxLen) :
    Calls Tryz.prog 8 #[.agg #[.int .i64 x0, .int .i64 x1], .slice a n c] w fun y w' => y = .returned (.bool true) ∧ w.grownBy w' none := by
  obtain ⟨hot, hh⟩ : ∃ hot : Nat, (hot : Int) = 1 + x0 % 89 := ⟨(1 + x0 % 89).toNat, by omega⟩
  have hx1 : 0 ≤ x1 % (90 - (1 + x0 % 89)) ∧ x1 % (90 - (1 + x0 % 89)) < 90 - (1 + x0 % 89) := ⟨Int.emod_nonneg _ (by omega), Int.emod_lt_of_pos _ (by omega)⟩
  obtain ⟨warm, hw⟩ : ∃ warm : Nat, (warm : Int) = 1 + x1 % (90 - (1 + x0 % 89)) := ⟨(1 + x1 % (90 - (1 + x0 % 89))).toNat, by omega⟩
  have hsh : hot ≤ 100 ∧ warm ≤ 100 := by omega
  have hal := World.grownBy_alloc w (.cells #[.int .i64 x0, .int .i64 x1] 23) none
  have hb0 := Box.new w 23 #[.int .i64 x0, .int .i64 x1]
  have h27 := (scripted_27 x0 x1 hh hw (c := c) (hO.kept0 hal) hn).mono (R' := fun y w1 => ∃ wb E, y = .returned (.pointer (some ⟨wb, 0, none⟩)) ∧ w1.cell? ⟨w.heap.size, 0, none⟩ = some (.int .i64 x0) ∧ w1.cell? ⟨w.heap.size, 1, none⟩ = some (.int .i64 x1) ∧ Hid (w.grownBy w1 none ∧ ∃ S, HS w1 (fun k => w.heap.size ≤ k) wb hot warm E S)) (by
    rintro y w1 ⟨wb, E, rfl, hf, hG⟩
    obtain ⟨S, hS⟩ := hG.hs
    exact ⟨wb, E, rfl, (hb0.kept hf (by simp)).cell 0, (hb0.kept hf (by simp)).cell 1, gb_trans hal hf, S, hS.less (fun k _ hk => Nat.le_trans hal.size hk)⟩)
  have hsd := fun W => shared_34 x0 x1 W
  rw [← hh] at hsd hw
  rw [← hw] at hsd
  have u0 := hb0.cell 0
  have u1 := hb0.cell 1
  simp at u0 u1
  clear hh hw hb0 hn hO hx1
  go_enter Tryz.func8, Tryz.ntmps8
  go_wp2_with (first | (go_at_call 27; go_must (refine h27.mono ?_); rintro y w1 ⟨wb, E, rfl, v0, v1, hE1⟩) | (go_at_call 34; go_must (refine (hsd _).mono ?_); rintro y w2 ⟨rfl, hf2⟩) | fail)
  have hRH : Hid (∃ S, RH w (w2.alloc (.cells #[.int .i64 hot, .int .i64 warm] 23)) wb hot warm w2.heap.size E S) := by
    obtain ⟨hg1, S, hS⟩ := hE1.out
    have hg2 := World.grownBy_alloc w2 (.cells #[.int .i64 hot, .int .i64 warm] 23) none
    exact ⟨S, gb_trans hg1 (gb_trans hf2 hg2), ((hS.kept0 hf2).less (P' := fun k => w.heap.size ≤ k ∧ k ≠ w2.heap.size) (fun k hk hp => ⟨hp, by omega⟩)).kept0 hg2, Box.new w2 23 _⟩
  clear hE1 h27 hsd u0 u1 v0 v1
  generalize w2.alloc (.cells #[.int .i64 hot, .int .i64 warm] 23) = W3 at *
  generalize w2.heap.size = yb at *
  go_loopw [7] (fun cv wr => ∃ j : Nat, j ≤ 3 ∧ cv = .int .i64 j ∧ Hid (∃ S, RH w wr wb hot warm yb E S)) (fun cv _ => 3 - (intOf cv).toNat)
  case atStart => exact ⟨0, by omega, rfl, hRH⟩
  case round =>
    obtain ⟨j, hj, rfl, hR⟩ := hrel
    by_cases hlt : j < 3
    · have hd1 : decide ((j : Int) < 3) = true := decide_eq_true (by omega)
      have hl1 : (j : Int) < 3 := by omega
      obtain ⟨S, hS⟩ := hR.out
      obtain ⟨T, hLt⟩ := hS.hs.lt
      have htn := hLt.ln j
      obtain ⟨hr1, hr2⟩ := bal_rest hLt (ci := j) (hot := hot) (warm := warm) (links := 1099511627776) (by omega)
      have hbt := bal_tot j hot warm (min 1099511627776 (2 * tot S.X j)) S
      have h18 := fun W (hS : Hid (RH w W wb hot warm yb E S)) => (hS.out.hs.bal hsh.1 hsh.2 hlt (links := 1099511627776) (by omega)).mono (R' := fun y w' => y = .returned (.int .i64 (bal j hot warm (min 1099511627776 (2 * tot S.X j)) S).1) ∧ w'.cell? ⟨wb, 2, none⟩ = some (.pointer (some ⟨E.xb, 0, none⟩)) ∧ Hid (RH w w' wb hot warm yb E (bal j hot warm (min 1099511627776 (2 * tot S.X j)) S).2)) (by
        rintro y w' ⟨rfl, hK, hH⟩
        exact ⟨rfl, hH.cells.2.2.1, hS.out.bal hK hH⟩)
      simp only [show ((1099511627776 : Nat) : Int) = 1099511627776 from rfl] at h18
      generalize (bal j hot warm (min 1099511627776 (2 * tot S.X j)) S).1 = kb at *
      generalize (bal j hot warm (min 1099511627776 (2 * tot S.X j)) S).2 = S2 at *
      obtain ⟨q0, q1, q2⟩ := rest_facts hr1
      have h35 := fun S W (hS : Hid (RH w W wb hot warm yb E S)) => (hS.out.hs.len hlt).mono (R' := fun y w' => y = .returned (.tuple #[.int .i64 (S.X j 0).length, .int .i64 (S.X j 1).length, .int .i64 (S.X j 2).length]) ∧ w'.cell? ⟨wb, 2, none⟩ = some (.pointer (some ⟨E.xb, 0, none⟩)) ∧ w'.cell? ⟨yb, 0, none⟩ = some (.int .i64 hot) ∧ w'.cell? ⟨yb, 1, none⟩ = some (.int .i64 warm) ∧ Hid (RH w w' wb hot warm yb E S)) (by
        rintro y w' ⟨rfl, hf⟩
        exact ⟨rfl, (hS.out.hs.kept0 hf).cells.2.2.1, (hS.out.kept0 hf).yx.cell 0, (hS.out.kept0 hf).yx.cell 1, hS.out.kept0 hf⟩)
      have h18b := fun W (hS : Hid (RH w W wb hot warm yb E S2)) => (hS.out.hs.bal hsh.1 hsh.2 hlt (links := 9) (by omega)).mono (R' := fun y w' => y = .returned (.int .i64 0) ∧ (w'.cell? ⟨wb, 2, none⟩ = some (.pointer (some ⟨E.xb, 0, none⟩)) ∧ w'.cell? ⟨yb, 0, none⟩ = some (.int .i64 hot) ∧ w'.cell? ⟨yb, 1, none⟩ = some (.int .i64 warm)) ∧ w'.cell? ⟨wb, 1, none⟩ = some (.pointer (some ⟨E.qb, 0, none⟩)) ∧ Hid (RH w w' wb hot warm yb E S2)) (by
        rw [bal_none hr1]
        rintro y w' ⟨rfl, hK, hH⟩
        have := hS.out.bal hK hH
        exact ⟨rfl, ⟨hH.cells.2.2.1, this.yx.cell 0, this.yx.cell 1⟩, hH.cells.2.1, this⟩)
      simp only [show ((9 : Nat) : Int) = 9 from rfl] at h18b
      obtain ⟨l0, hl0⟩ : ∃ l, (S.X j 0).length = l := ⟨_, rfl⟩
      obtain ⟨l1', hl1'⟩ : ∃ l, (S.X j 1).length = l := ⟨_, rfl⟩
      obtain ⟨l2, hl2⟩ : ∃ l, (S.X j 2).length = l := ⟨_, rfl⟩
      obtain ⟨m0, hm0⟩ : ∃ l, (S2.X j 0).length = l := ⟨_, rfl⟩
      obtain ⟨m1, hm1⟩ : ∃ l, (S2.X j 1).length = l := ⟨_, rfl⟩
      obtain ⟨m2, hm2⟩ : ∃ l, (S2.X j 2).length = l := ⟨_, rfl⟩
      obtain ⟨tn, htn0⟩ : ∃ tn, tot S.X j = tn := ⟨_, rfl⟩
      have hsl : l0 + l1' + l2 = tn := by rw [← htn0, ← hl0, ← hl1', ← hl2]; rfl
      have hsm : m0 + m1 + m2 = tn := by rw [← htn0, ← hbt, ← hm0, ← hm1, ← hm2]; rfl
      have hro := fun W (hS : Hid (RH w W wb hot warm yb E S2)) => (row_30 hS.out.hs hlt).mono (R' := fun y w' => ∃ ao cp, y = .returned (.slice ao tn cp) ∧ Hid (RH w w' wb hot warm yb E S2)) (by
        rintro y w' ⟨v, rfl, hf, hr⟩
        obtain ⟨ao, cp, e, _⟩ := row_shape hr
        have e2 : (rowN S2.X j).length = tn := by rw [← hsm, ← hm0, ← hm1, ← hm2]; simp [rowN]; omega
        exact ⟨ao, cp, by rw [e, e2], hS.out.kept0 hf⟩)
      have h20 : (m2 = 0 ∧ ∀ W, Hid (RH w W wb hot warm yb E S2) → Calls Tryz.prog 20 #[.pointer (some ⟨E.qb, 0, none⟩), .int .i64 j, .int .i64 3] W fun y w' => y = .returned (.tuple #[.int .u64 0, .bool false]) ∧ Hid (RH w w' wb hot warm yb E S2)) ∨ (0 < m2 ∧ ∃ H : Nat, (∀ W, Hid (RH w W wb hot warm yb E S2) → Calls Tryz.prog 20 #[.pointer (some ⟨E.qb, 0, none⟩), .int .i64 j, .int .i64 3] W fun y w' => y = .returned (.tuple #[.int .u64 H, .bool true]) ∧ Hid (RH w w' wb hot warm yb E S2)) ∧ ∀ W, Hid (RH w W wb hot warm yb E S2) → Calls Tryz.prog 36 #[.pointer (some ⟨wb, 0, none⟩), .int .u64 H] W fun y w' => y = .returned (.bool false) ∧ Hid (RH w w' wb hot warm yb E S2)) := by
        rcases List.eq_nil_or_concat (S2.X j 2) with e | ⟨U, H, e⟩
        · refine .inl ⟨by rw [← hm2, e]; rfl, fun W hS => ?_⟩
          have := hS.out.hs.tail hlt (k := 2) (by omega) 0 (by rw [e]; rfl)
          refine this.mono ?_
          rintro y w' ⟨rfl, hf⟩
          exact ⟨rfl, hS.out.kept0 hf⟩
        · have e' : S2.X j 2 = U ++ [H] := by simpa using e
          have hHm : H ∈ S2.X j 2 := by rw [e']; simp
          refine .inr ⟨by rw [← hm2, e']; simp, H, fun W hS => ?_, fun W hS => ?_⟩
          · obtain ⟨T2, hL2⟩ := hS.out.hs.lt
            have h0 : ¬ H = 0 := fun e0 => hL2.z (e0 ▸ (hL2.sub _ _ _ hHm).1)
            have := hS.out.hs.tail hlt (k := 2) (by omega) H (by rw [e']; simp)
            rw [decide_eq_true h0] at this
            refine this.mono ?_
            rintro y w' ⟨rfl, hf⟩
            exact ⟨rfl, hS.out.kept0 hf⟩
          · have := active_36 hS.out.hs hHm
            rw [q2 H U e'] at this
            refine this.mono ?_
            rintro y w' ⟨rfl, hf⟩
            exact ⟨rfl, hS.out.kept0 hf⟩
      have h35a := h35 S
      have h35b := h35 S2
      rw [hl0, hl1', hl2] at h35a
      rw [hm0, hm1, hm2] at h35b
      rw [hm0, hbt, htn0] at q0
      rw [hm1, hbt, htn0] at q1
      rw [htn0] at htn hr2
      have hq0 : (100 * m0 : Int) ≤ (tn : Int) * hot := by rw [Int.mul_comm (tn : Int)]; exact_mod_cast q0
      have hq1 : (100 * m1 : Int) ≤ (tn : Int) * warm := by rw [Int.mul_comm (tn : Int)]; exact_mod_cast q1
      have hb0 : (tn : Int) * hot ≤ 900 * 100 := Int.mul_le_mul (by omega) (by omega) (by omega) (by omega)
      have hb1 : (tn : Int) * warm ≤ 900 * 100 := Int.mul_le_mul (by omega) (by omega) (by omega) (by omega)
      have hp0 : 0 ≤ (tn : Int) * hot := Int.mul_nonneg (by omega) (by omega)
      have hp1 : 0 ≤ (tn : Int) * warm := Int.mul_nonneg (by omega) (by omega)
      have hSr : Hid (RH w wr wb hot warm yb E S) := hS
      have c2 := hS.hs.cells.2.2.1
      clear hR hRH hS hLt hbt hr1 q0 q1 q2 h35 hl0 hl1' hl2 hm0 hm1 hm2 htn0
      have e1 : IntKind.i64.wrap ((l0 : Int) + l1') = (l0 : Int) + l1' := by rw [IntKind.wrap_i64]; omega
      have e2 : IntKind.i64.wrap ((l0 : Int) + l1' + l2) = tn := by rw [IntKind.wrap_i64]; omega
      have e3 : IntKind.i64.wrap ((m0 : Int) + m1) = (m0 : Int) + m1 := by rw [IntKind.wrap_i64]; omega
      have e4 : IntKind.i64.wrap ((m0 : Int) + m1 + m2) = tn := by rw [IntKind.wrap_i64]; omega
      have e5 : IntKind.i64.wrap (100 * (m0 : Int)) = 100 * m0 := by rw [IntKind.wrap_i64]; omega
      have e6 : IntKind.i64.wrap (100 * (m1 : Int)) = 100 * m1 := by rw [IntKind.wrap_i64]; omega
      have e7 : IntKind.i64.wrap ((tn : Int) * hot) = (tn : Int) * hot := by rw [IntKind.wrap_i64]; omega
      have e8 : IntKind.i64.wrap ((tn : Int) * warm) = (tn : Int) * warm := by rw [IntKind.wrap_i64]; omega
      have e9 : IntKind.i64.wrap (3 * (tn : Int)) = 3 * tn := by rw [IntKind.wrap_i64]; omega
      have f1 : decide (100 * (m0 : Int) > (tn : Int) * hot) = false := decide_eq_false (by omega)
      have f2 : decide (100 * (m1 : Int) > (tn : Int) * warm) = false := decide_eq_false (by omega)
      have f3 : decide ((kb : Int) < 0) = false := decide_eq_false (by omega)
      have f4 : decide ((kb : Int) > 3 * (tn : Int)) = false := decide_eq_false (by omega)
      have g1 : ¬ (100 * (m0 : Int) > (tn : Int) * hot) := by omega
      have g2 : ¬ (100 * (m1 : Int) > (tn : Int) * warm) := by omega
      have g3 : ¬ ((kb : Int) < 0) := by omega
      have g4 : ¬ ((kb : Int) > 3 * (tn : Int)) := by omega
      have g5 : ((tn : Int) != (tn : Int)) = false := by simp
      clear hsl hsm
      rcases h20 with ⟨hm2, h20⟩ | ⟨hm2, H, h20, h36⟩
      · have k1 : decide ((m2 : Int) > 0) = false := decide_eq_false (by omega)
        have k2 : ¬ (m2 : Int) > 0 := by omega
        clear hm2
        go_wp2_with (first | (go_at_call 35; with_reducible refine (h35a _ hSr).mono ?_; rintro y w4 ⟨rfl, c4, _, _, hS4⟩) | (go_at_call 18; with_reducible refine (h18 _ hS4).mono ?_; rintro y w5 ⟨rfl, c5, hS5⟩) | (go_at_call 35; go_must (with_reducible refine (h35b _ hS5).mono ?_); rintro y w6 ⟨rfl, c6, y6, z6, hS6⟩) | (go_at_call 18; go_must (with_reducible refine (h18b _ hS6).mono ?_); rintro y w7 ⟨rfl, _, c7, hS7⟩) | (go_at_call 20; go_must (with_reducible refine (h20 _ hS7).mono ?_); rintro y w8 ⟨rfl, hS8⟩) | (go_at_call 30; go_must (with_reducible refine (hro _ hS8).mono ?_); rintro y wA ⟨ao, cp, rfl, hSA⟩) | fail)
        exact ⟨⟨j + 1, by omega, by go_num, S2, hSA.out⟩, by simp [intOf]; omega⟩
      · have k1 : decide ((m2 : Int) > 0) = true := decide_eq_true (by omega)
        have k2 : (m2 : Int) > 0 := by omega
        go_wp2_with (first | (go_at_call 35; with_reducible refine (h35a _ hSr).mono ?_; rintro y w4 ⟨rfl, c4, _, _, hS4⟩) | (go_at_call 18; with_reducible refine (h18 _ hS4).mono ?_; rintro y w5 ⟨rfl, c5, hS5⟩) | (go_at_call 35; go_must (with_reducible refine (h35b _ hS5).mono ?_); rintro y w6 ⟨rfl, c6, y6, z6, hS6⟩) | (go_at_call 18; go_must (with_reducible refine (h18b _ hS6).mono ?_); rintro y w7 ⟨rfl, _, c7, hS7⟩) | (go_at_call 20; go_must (with_reducible refine (h20 _ hS7).mono ?_); rintro y w8 ⟨rfl, hS8⟩) | (go_at_call 36; go_must (with_reducible refine (h36 _ hS8).mono ?_); rintro y w9 ⟨rfl, hS9⟩) | (go_at_call 30; go_must (with_reducible refine (hro _ hS9).mono ?_); rintro y wA ⟨ao, cp, rfl, hSA⟩) | fail)
        exact ⟨⟨j + 1, by omega, by go_num, S2, hSA.out⟩, by simp [intOf]; omega⟩
    · obtain rfl : j = 3 := by omega
      have hg : Hid (w.grownBy wr none) := by
        obtain ⟨S, hS⟩ := hR.out
        exact hS.gr
      clear hR hRH
      go_wp2_with (first | (go_at_call 17; go_must (refine (wakes_17 _).mono ?_); rintro y w4 ⟨rfl, hf4⟩) | fail)
      go_ret
      exact ⟨rfl, gb_trans hg.out hf4⟩
end Go.Proofs.YtohneboimmcocaaGreat

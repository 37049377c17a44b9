/-
  ArenaEnds, walked.
-/
import Derived.Test.YtknhoncnaigogaaX
namespace Go.Proofs.Ytknhoncnaigogaa
open Go.RowKit
set_option linter.unusedVariables false

/-- The Ends that came in. -/
def EndsIn (w : World) (a : Option Addr) (n : Nat) : Prop := ∀ i, i < n → ∃ b o, a = some ⟨b, o, none⟩ ∧ ∃ (x0 x1 x2 : Int) (nr : Bool),
  w.cell? ⟨b, o + i * 4, none⟩ = some (.int .i64 x0) ∧ w.cell? ⟨b, o + i * 4 + 1, none⟩ = some (.int .i64 x1) ∧ w.cell? ⟨b, o + i * 4 + 2, none⟩ = some (.int .i64 x2) ∧ w.cell? ⟨b, o + i * 4 + 3, none⟩ = some (.bool nr) ∧
  (x0 ≤ 9223372036854775807 ∧ -9223372036854775808 ≤ x0) ∧ (x1 ≤ 9223372036854775807 ∧ -9223372036854775808 ≤ x1)

theorem gb_cell {w w' : World} (hf : w.grownBy w' none) {x : Addr} {v : Value} (h : w.cell? x = some v) : w'.cell? x = some v := by
  rw [← h]
  exact World.cell?_of_block (w := w) (w' := w') (hf.block x.block (World.block_lt_of_cell? _ _ h) (by simp))

set_option maxHeartbeats 2000000 in
set_option maxRecDepth 100000 in
theorem ends_any (a : Option Addr) (n c : Nat) (w : World) (hn : n ≤ maxLen) (hin : EndsIn w a n) :
    Calls Try.prog 7 #[.slice a n c] w fun e w' => e = .returned (.bool true) ∧ w.grownBy w' none := by
  unfold maxLen at hn
  go_enter Try.func7, Try.ntmps7
  go_wp2_with fail
  refine (filled_any _).mono ?_
  rintro e w1 ⟨zs, rfl, hf1, hA1, hl⟩
  have hz1 : w.heap.size + 2 ≤ w1.heap.size := (Array.getElem?_eq_some_iff.1 hA1.hb).1
  go_wp2_with fail
  refine (image_any hA1 hl).mono ?_
  rintro e w2 ⟨wa, wc, rfl, hW2, hf2⟩
  have hA2 := hA1.kept hf2 (by simp) (by simp)
  have hF2 := gb_trans hf1 hf2
  have hz2 := hf2.size
  have hbz := hA1.hz
  clear hf1 hA1 hf2
  go_wp2
  go_loopw [5] (fun v wr => ∃ i : Nat, i ≤ 60 ∧ v = .int .i64 i ∧ IsA wr (w.heap.size + 1) w.heap.size 4096 2 zs ∧ Own w1.heap.size wr wa wc zs ∧ w.grownBy wr none ∧ w1.heap.size ≤ wr.heap.size) (fun v _ => 60 - (intOf v).toNat)
  case atStart => exact ⟨0, by omega, rfl, hA2, hW2, hF2, hz2⟩
  case round =>
    clear hA2 hW2 hF2 hz2
    obtain ⟨i, hi, rfl, hA, hW, hF, hz⟩ := hrel
    by_cases hlt : i < n
    · by_cases h60 : i < 60
      · obtain ⟨lb, lo, rfl, x0, x1, x2, nr, c0, c1, c2, c3, hx0, hx1⟩ := hin i hlt
        have d0 := gb_cell hF c0
        have d1 := gb_cell hF c1
        have d2 := gb_cell hF c2
        have d3 := gb_cell hF c3
        have hdi : decide ((i : Int) < n) = true := by simp; omega
        have hd6 : decide ((i : Int) < 60) = true := by simp; omega
        have hii : (0 : Int) ≤ (i : Int) := by omega
        have hin2 : (i : Int) < (n : Int) := by omega
        clear c0 c1 c2 c3
        go_wp2
        go_quiet (fail)
        cases nr
        · obtain ⟨X, hX⟩ : ∃ X, X = x0 := ⟨_, rfl⟩
          obtain ⟨K, hKK⟩ : ∃ K, K = x1 := ⟨_, rfl⟩
          have hXb : X ≤ 9223372036854775807 ∧ -9223372036854775808 ≤ X := by omega
          have hKb : K ≤ 9223372036854775807 ∧ -9223372036854775808 ≤ K := by omega
          go_wp2_with fail
          rw [← hX, ← hKK]
          clear hX hKK
          have hfq := gb_drewN (gb_refl wr none) nq
          have hA0 := hA.kept hfq (by simp) (by simp)
          have hW0 := hW.kept hfq (by cases h : blk wa <;> simp)
          have hF0 := gb_trans hF hfq
          have hz0 : w1.heap.size ≤ (wr.drewN nq).heap.size := hz
          clear hfq hA hW hF hz d0 d1 d2 d3 hin hn
          generalize wr.drewN nq = V at *
          have hHW := hW0.has
          rw [hl] at hHW
          obtain ⟨wb, rfl, hwb, hwc, hwm⟩ := hW0.form (by omega)
          unfold maxLen at hwm
          rw [hl] at hwc
          by_cases hT : There 4096 8192 X K
          · have hK : 0 ≤ K ∧ K ≤ 4096 ∧ 0 ≤ X ∧ X + K ≤ 8192 := by obtain ⟨_, _, _, _⟩ := hT; omega
            have hTz : There 4096 zs.length X K := by rw [hl]; exact hT
            obtain ⟨k, rfl⟩ := Int.eq_ofNat_of_zero_le hK.1
            have hmin : min (k : Int) 8192 = k := by omega
            refine (isThere_yes _ _ _ hT).mono ?_
            rintro e w' ⟨rfl, rfl⟩
            go_wp2_with fail
            refine (read_yes hA0 X k hTz).mono ?_
            rintro e u1 ⟨rfl, hg1, hh1⟩
            have hA1 := hA0.kept hg1 (by simp) (by simp)
            have hb1 : Has u1 (some ⟨V.heap.size, 0, none⟩) k (cut zs X.toNat k) := has_block hh1 (by rw [Int.toNat_natCast]; exact length_cut (by omega))
            have hW1 := hHW.kept0 hg1
            have hF1 := gb_trans hF0 hg1
            have hz1' := Nat.le_trans hz0 hg1.size
            have hO1 := hW0.kept hg1 (by right; simp [blk])
            clear hA0 hF0 hh1 hg1 hHW hW0
            rw [Int.toNat_natCast]
            go_wp2_with (first | (go_at_call 16; refine (num_any _ _).mono ?_; rintro e w' ⟨rfl, rfl⟩) | fail)
            refine (same_yes hA1 X _ k k _ hb1 (isBytes_cut hbz _ _) (by omega) hTz).mono ?_
            rintro e u2 ⟨rfl, hg2⟩
            rw [decide_eq_true rfl]
            have hA2 := hA1.kept hg2 (by simp) (by simp)
            have hb2 := hb1.kept0 hg2
            have hW2 := hW1.kept0 hg2
            have hF2 := gb_trans hF1 hg2
            have hz2 := Nat.le_trans hz1' hg2.size
            have hO2 := hO1.kept hg2 (by right; simp [blk])
            clear hA1 hF1 hb1 hW1 hg2 hO1
            have hk1 := hW2.part 0 k 0 (by omega) (fun _ => rfl)
            go_wp2_with (first | (go_at_call 16; refine (num_any _ _).mono ?_; rintro e w' ⟨rfl, rfl⟩) | (go_at_call 32; refine (least_any _ _ _).mono ?_; rintro e w' ⟨rfl, rfl⟩; rw [hmin]) | fail)
            refine (write_yes hA2 X _ k wc _ hk1 (isBytes_cut hbz _ _) (by omega) hTz).mono ?_
            rintro e u3 ⟨rfl, hg3, hA3⟩
            have hl3 : (lay zs X.toNat (cut zs 0 k)).length = 8192 := by rw [length_lay (by rw [length_cut (by omega)]; omega), hl]
            have hb3 := hb2.kept hg3 (by intro j hj e; cases e; simp at hj; omega)
            have hO3 := hO2.kept hg3 (by right; simp [blk]; omega)
            have hF3 := gb_mine hF2 hg3 (Nat.le_refl _)
            have hz3 := Nat.le_trans hz2 hg3.size
            obtain ⟨Z, hZ⟩ : ∃ Z, Z = lay zs X.toNat (cut zs 0 k) := ⟨_, rfl⟩
            rw [← hZ] at hA3 hl3
            clear hZ hA2 hb2 hW2 hF2 hg3 hO2 hk1
            by_cases hk0 : 0 < k
            · go_wp2_with (first | (go_at_call 16; refine (num_any _ _).mono ?_; rintro e w' ⟨rfl, rfl⟩) | (go_at_call 32; refine (least_any _ _ _).mono ?_; rintro e w' ⟨rfl, rfl⟩; rw [hmin]) | (go_at_call 27; refine (isThere_yes _ _ _ hT).mono ?_; rintro e w' ⟨rfl, rfl⟩) | fail)
              refine (write_yes hA3 X _ k k _ hb3 (isBytes_cut hbz _ _) (by omega) (by rw [hl3]; exact hT)).mono ?_
              rintro e u4 ⟨rfl, hg4, hA4⟩
              have hl4 : (lay Z X.toNat (cut zs X.toNat k)).length = 8192 := by rw [length_lay (by rw [length_cut (by omega)]; omega), hl3]
              have hO4 := hO3.kept hg4 (by right; simp [blk]; omega)
              have hF4 := gb_mine hF3 hg4 (Nat.le_refl _)
              have hz4 := Nat.le_trans hz3 hg4.size
              obtain ⟨Z2, hZ2⟩ : ∃ Z2, Z2 = lay Z X.toNat (cut zs X.toNat k) := ⟨_, rfl⟩
              rw [← hZ2] at hA4 hl4
              clear hZ2 hA3 hb3 hF3 hg4 hO3
              go_wp2_with (first | (go_at_call 16; refine (num_any _ _).mono ?_; rintro e w' ⟨rfl, rfl⟩) | fail)
              refine (put8_any hA4 hl4 hO4 hl (by omega) hbz).mono ?_
              rintro e u5 ⟨rfl, hg5, hAe⟩
              have hWe := hO4.kept hg5 (by right; simp [blk]; omega)
              have hFe := gb_mine hF4 hg5 (Nat.le_refl _)
              have hze := Nat.le_trans hz4 hg5.size
              go_wp2
              go_roundw
              case rel => exact ⟨i + 1, by omega, by go_num, hAe, hWe, hFe, hze⟩
              case measure => simp [intOf]; omega
            · go_wp2_with (first | (go_at_call 16; refine (num_any _ _).mono ?_; rintro e w' ⟨rfl, rfl⟩) | (go_at_call 32; refine (least_any _ _ _).mono ?_; rintro e w' ⟨rfl, rfl⟩; rw [hmin]) | (go_at_call 27; refine (isThere_yes _ _ _ hT).mono ?_; rintro e w' ⟨rfl, rfl⟩) | fail)
              refine (put8_any hA3 hl3 hO3 hl (by omega) hbz).mono ?_
              rintro e u5 ⟨rfl, hg5, hAe⟩
              have hWe := hO3.kept hg5 (by right; simp [blk]; omega)
              have hFe := gb_mine hF3 hg5 (Nat.le_refl _)
              have hze := Nat.le_trans hz3 hg5.size
              go_wp2
              go_roundw
              case rel => exact ⟨i + 1, by omega, by go_num, hAe, hWe, hFe, hze⟩
              case measure => simp [intOf]; omega
          · have hTz : ¬ There 4096 zs.length X K := by rw [hl]; exact hT
            refine (isThere_no _ _ _ hT).mono ?_
            rintro e w' ⟨rfl, rfl⟩
            go_wp2_with fail
            refine (read_no hA0 X K (by omega) hTz).mono ?_
            rintro e u1 ⟨rfl, hg1⟩
            have hA1 := hA0.kept hg1 (by simp) (by simp)
            have hW1 := hHW.kept0 hg1
            have hF1 := gb_trans hF0 hg1
            have hz1' := Nat.le_trans hz0 hg1.size
            have hO1 := hW0.kept hg1 (by right; simp [blk])
            clear hA0 hF0 hg1 hHW hW0
            go_wp2_with (first | (go_at_call 16; refine (num_any _ _).mono ?_; rintro e w' ⟨rfl, rfl⟩) | fail)
            have hsame : Calls Try.prog 20 #[.pointer (some ⟨w.heap.size + 1, 0, none⟩), .int .i64 X, .slice none 0 0] u1 fun e w' => ∃ sb, e = .returned (.bool sb) ∧ u1.grownBy w' none ∧ Hid (K = 0 → sb = false) := by
              by_cases h0 : There 4096 zs.length X (0 : Nat)
              · refine (same_yes hA1 X none 0 0 [] ⟨rfl, fun h => by omega⟩ (by intro z hz; simp at hz) (by omega) h0).mono ?_
                rintro e w' ⟨rfl, hg⟩
                exact ⟨_, rfl, hg, fun hk => by subst hk; exact absurd h0 hTz⟩
              · refine (same_no hA1 X none 0 0 (by omega) (by omega) h0).mono ?_
                rintro e w' ⟨rfl, hg⟩
                exact ⟨_, rfl, hg, fun _ => rfl⟩
            refine hsame.mono ?_
            rintro e u2 ⟨sb, rfl, hg2, hsb⟩
            have hA2 := hA1.kept hg2 (by simp) (by simp)
            have hW2 := hW1.kept0 hg2
            have hF2 := gb_trans hF1 hg2
            have hz2 := Nat.le_trans hz1' hg2.size
            have hO2 := hO1.kept hg2 (by right; simp [blk])
            clear hA1 hF1 hW1 hg2 hO1 hsame
            have hKsb : (sb = false) ∨ (sb = true ∧ (K == 0) = false) := by
              cases sb
              · exact .inl rfl
              · refine .inr ⟨rfl, ?_⟩
                by_cases hk : K = 0
                · exact absurd (hsb.out hk) (by simp)
                · simp [hk]
            clear hsb
            rcases hKsb with rfl | ⟨rfl, hKz⟩
            · go_wp2_with (first | (go_at_call 16; refine (num_any _ _).mono ?_; rintro e w' ⟨rfl, rfl⟩) | fail)
              refine (fill_no hA2 X K 0 (by omega) hTz).mono ?_
              rintro e u3 ⟨rfl, hg3⟩
              have hA3 := hA2.kept hg3 (by simp) (by simp)
              have hG3 := hg3
              clear hg3
              go_wp2_with (first | (go_at_call 16; refine (num_any _ _).mono ?_; rintro e w' ⟨rfl, rfl⟩) | fail)
              refine (move_no hA3 X 0 K (by omega) (by omega) (.inr hTz)).mono ?_
              rintro e u4 ⟨rfl, hg4⟩
              have hA4 := hA3.kept hg4 (by simp) (by simp)
              have hG4 := gb_trans hG3 hg4
              clear hg4 hA3 hG3
              go_wp2_with (first | (go_at_call 16; refine (num_any _ _).mono ?_; rintro e w' ⟨rfl, rfl⟩) | fail)
              refine (move_no hA4 0 X K (by omega) (by omega) (.inl hTz)).mono ?_
              rintro e u5 ⟨rfl, hg5⟩
              have hA5 := hA4.kept hg5 (by simp) (by simp)
              have hG5 := gb_trans hG4 hg5
              have hO5 := hO2.kept hG5 (by right; simp [blk])
              have hW5 := hW2.kept0 hG5
              have hF5 := gb_trans hF2 hG5
              have hz5 := Nat.le_trans hz2 hG5.size
              clear hg5 hA4 hG4 hO2 hW2 hF2 hz2 hG5 hA2
              by_cases hKr : 0 ≤ K ∧ K ≤ 8200
              · obtain ⟨hKr0, hKr1⟩ := hKr
                obtain ⟨M, hM⟩ : ∃ M, min K 8192 = M := ⟨_, rfl⟩
                have hM0 : 0 ≤ M ∧ M ≤ 8192 := by omega
                have hTM : ¬ There 4096 8192 X M := by
                  unfold There at hT ⊢
                  omega
                obtain ⟨k, rfl⟩ := Int.eq_ofNat_of_zero_le hM0.1
                go_wp2_with (first | (go_at_call 16; refine (num_any _ _).mono ?_; rintro e w' ⟨rfl, rfl⟩) | (go_at_call 32; refine (least_any _ _ _).mono ?_; rintro e w' ⟨rfl, rfl⟩; rw [hM]) | fail)
                refine (write_no hA5 X _ k wc (by omega) (by omega) (by rw [hl]; exact hTM)).mono ?_
                rintro e u6 ⟨rfl, hg6⟩
                have hA6 := hA5.kept hg6 (by simp) (by simp)
                have hO6 := hO5.kept hg6 (by right; simp [blk])
                have hF6 := gb_trans hF5 hg6
                have hz6 := Nat.le_trans hz5 hg6.size
                clear hA5 hO5 hF5 hz5 hg6 hW5
                go_wp2_with (first | (go_at_call 16; refine (num_any _ _).mono ?_; rintro e w' ⟨rfl, rfl⟩) | (go_at_call 32; refine (least_any _ _ _).mono ?_; rintro e w' ⟨rfl, rfl⟩; rw [hM]) | (go_at_call 27; refine (isThere_no _ _ _ hTM).mono ?_; rintro e w' ⟨rfl, rfl⟩) | fail)
                refine (put8_any hA6 hl hO6 hl (by omega) hbz).mono ?_
                rintro e u7 ⟨rfl, hg7, hAe⟩
                have hWe := hO6.kept hg7 (by right; simp [blk]; omega)
                have hFe := gb_mine hF6 hg7 (Nat.le_refl _)
                have hze := Nat.le_trans hz6 hg7.size
                go_wp2
                go_roundw
                case rel => exact ⟨i + 1, by omega, by go_num, hAe, hWe, hFe, hze⟩
                case measure => simp [intOf]; omega
              · by_cases hKn : K < 0
                · clear hKr
                  go_wp2_with (first | (go_at_call 16; refine (num_any _ _).mono ?_; rintro e w' ⟨rfl, rfl⟩) | fail)
                  go_roundw
                  case rel => exact ⟨i + 1, by omega, by go_num, hA5, hO5, hF5, hz5⟩
                  case measure => simp [intOf]; omega
                · have hKg : 8200 < K := by omega
                  clear hKr
                  go_wp2_with (first | (go_at_call 16; refine (num_any _ _).mono ?_; rintro e w' ⟨rfl, rfl⟩) | fail)
                  go_roundw
                  case rel => exact ⟨i + 1, by omega, by go_num, hA5, hO5, hF5, hz5⟩
                  case measure => simp [intOf]; omega
            · go_wp2_with (first | (go_at_call 16; refine (num_any _ _).mono ?_; rintro e w' ⟨rfl, rfl⟩) | fail)
              refine (fill_no hA2 X K 0 (by omega) hTz).mono ?_
              rintro e u3 ⟨rfl, hg3⟩
              have hA3 := hA2.kept hg3 (by simp) (by simp)
              have hG3 := hg3
              clear hg3
              go_wp2_with (first | (go_at_call 16; refine (num_any _ _).mono ?_; rintro e w' ⟨rfl, rfl⟩) | fail)
              refine (move_no hA3 X 0 K (by omega) (by omega) (.inr hTz)).mono ?_
              rintro e u4 ⟨rfl, hg4⟩
              have hA4 := hA3.kept hg4 (by simp) (by simp)
              have hG4 := gb_trans hG3 hg4
              clear hg4 hA3 hG3
              go_wp2_with (first | (go_at_call 16; refine (num_any _ _).mono ?_; rintro e w' ⟨rfl, rfl⟩) | fail)
              refine (move_no hA4 0 X K (by omega) (by omega) (.inl hTz)).mono ?_
              rintro e u5 ⟨rfl, hg5⟩
              have hA5 := hA4.kept hg5 (by simp) (by simp)
              have hG5 := gb_trans hG4 hg5
              have hO5 := hO2.kept hG5 (by right; simp [blk])
              have hW5 := hW2.kept0 hG5
              have hF5 := gb_trans hF2 hG5
              have hz5 := Nat.le_trans hz2 hG5.size
              clear hg5 hA4 hG4 hO2 hW2 hF2 hz2 hG5 hA2
              by_cases hKr : 0 ≤ K ∧ K ≤ 8200
              · obtain ⟨hKr0, hKr1⟩ := hKr
                obtain ⟨M, hM⟩ : ∃ M, min K 8192 = M := ⟨_, rfl⟩
                have hM0 : 0 ≤ M ∧ M ≤ 8192 := by omega
                have hTM : ¬ There 4096 8192 X M := by
                  unfold There at hT ⊢
                  omega
                obtain ⟨k, rfl⟩ := Int.eq_ofNat_of_zero_le hM0.1
                go_wp2_with (first | (go_at_call 16; refine (num_any _ _).mono ?_; rintro e w' ⟨rfl, rfl⟩) | (go_at_call 32; refine (least_any _ _ _).mono ?_; rintro e w' ⟨rfl, rfl⟩; rw [hM]) | fail)
                refine (write_no hA5 X _ k wc (by omega) (by omega) (by rw [hl]; exact hTM)).mono ?_
                rintro e u6 ⟨rfl, hg6⟩
                have hA6 := hA5.kept hg6 (by simp) (by simp)
                have hO6 := hO5.kept hg6 (by right; simp [blk])
                have hF6 := gb_trans hF5 hg6
                have hz6 := Nat.le_trans hz5 hg6.size
                clear hA5 hO5 hF5 hz5 hg6 hW5
                go_wp2_with (first | (go_at_call 16; refine (num_any _ _).mono ?_; rintro e w' ⟨rfl, rfl⟩) | (go_at_call 32; refine (least_any _ _ _).mono ?_; rintro e w' ⟨rfl, rfl⟩; rw [hM]) | (go_at_call 27; refine (isThere_no _ _ _ hTM).mono ?_; rintro e w' ⟨rfl, rfl⟩) | fail)
                refine (put8_any hA6 hl hO6 hl (by omega) hbz).mono ?_
                rintro e u7 ⟨rfl, hg7, hAe⟩
                have hWe := hO6.kept hg7 (by right; simp [blk]; omega)
                have hFe := gb_mine hF6 hg7 (Nat.le_refl _)
                have hze := Nat.le_trans hz6 hg7.size
                go_wp2
                go_roundw
                case rel => exact ⟨i + 1, by omega, by go_num, hAe, hWe, hFe, hze⟩
                case measure => simp [intOf]; omega
              · by_cases hKn : K < 0
                · clear hKr
                  go_wp2_with (first | (go_at_call 16; refine (num_any _ _).mono ?_; rintro e w' ⟨rfl, rfl⟩) | fail)
                  go_roundw
                  case rel => exact ⟨i + 1, by omega, by go_num, hA5, hO5, hF5, hz5⟩
                  case measure => simp [intOf]; omega
                · have hKg : 8200 < K := by omega
                  clear hKr
                  go_wp2_with (first | (go_at_call 16; refine (num_any _ _).mono ?_; rintro e w' ⟨rfl, rfl⟩) | fail)
                  go_roundw
                  case rel => exact ⟨i + 1, by omega, by go_num, hA5, hO5, hF5, hz5⟩
                  case measure => simp [intOf]; omega
        · go_wp2_with (first | (go_at_call 22; go_must (refine (within_any _ _ (by omega) (by omega) _).mono ?_); rintro e w' ⟨rfl, rfl⟩) | fail)
          obtain ⟨X, hX⟩ : ∃ X, X = 4096 * (x2 % 3) + x0 % 21 - 10 := ⟨_, rfl⟩
          obtain ⟨K, hKK⟩ : ∃ K, K = x1 % 23 - 1 := ⟨_, rfl⟩
          have hXb : X ≤ 9223372036854775807 ∧ -9223372036854775808 ≤ X := by omega
          have hKb : K ≤ 9223372036854775807 ∧ -9223372036854775808 ≤ K := by omega
          rw [← hX, ← hKK]
          clear hX hKK
          have hfq := gb_drewN (gb_refl wr none) nq
          have hA0 := hA.kept hfq (by simp) (by simp)
          have hW0 := hW.kept hfq (by cases h : blk wa <;> simp)
          have hF0 := gb_trans hF hfq
          have hz0 : w1.heap.size ≤ (wr.drewN nq).heap.size := hz
          clear hfq hA hW hF hz d0 d1 d2 d3 hin hn
          generalize wr.drewN nq = V at *
          have hHW := hW0.has
          rw [hl] at hHW
          obtain ⟨wb, rfl, hwb, hwc, hwm⟩ := hW0.form (by omega)
          unfold maxLen at hwm
          rw [hl] at hwc
          by_cases hT : There 4096 8192 X K
          · have hK : 0 ≤ K ∧ K ≤ 4096 ∧ 0 ≤ X ∧ X + K ≤ 8192 := by obtain ⟨_, _, _, _⟩ := hT; omega
            have hTz : There 4096 zs.length X K := by rw [hl]; exact hT
            obtain ⟨k, rfl⟩ := Int.eq_ofNat_of_zero_le hK.1
            have hmin : min (k : Int) 8192 = k := by omega
            refine (isThere_yes _ _ _ hT).mono ?_
            rintro e w' ⟨rfl, rfl⟩
            go_wp2_with fail
            refine (read_yes hA0 X k hTz).mono ?_
            rintro e u1 ⟨rfl, hg1, hh1⟩
            have hA1 := hA0.kept hg1 (by simp) (by simp)
            have hb1 : Has u1 (some ⟨V.heap.size, 0, none⟩) k (cut zs X.toNat k) := has_block hh1 (by rw [Int.toNat_natCast]; exact length_cut (by omega))
            have hW1 := hHW.kept0 hg1
            have hF1 := gb_trans hF0 hg1
            have hz1' := Nat.le_trans hz0 hg1.size
            have hO1 := hW0.kept hg1 (by right; simp [blk])
            clear hA0 hF0 hh1 hg1 hHW hW0
            rw [Int.toNat_natCast]
            go_wp2_with (first | (go_at_call 16; refine (num_any _ _).mono ?_; rintro e w' ⟨rfl, rfl⟩) | fail)
            refine (same_yes hA1 X _ k k _ hb1 (isBytes_cut hbz _ _) (by omega) hTz).mono ?_
            rintro e u2 ⟨rfl, hg2⟩
            rw [decide_eq_true rfl]
            have hA2 := hA1.kept hg2 (by simp) (by simp)
            have hb2 := hb1.kept0 hg2
            have hW2 := hW1.kept0 hg2
            have hF2 := gb_trans hF1 hg2
            have hz2 := Nat.le_trans hz1' hg2.size
            have hO2 := hO1.kept hg2 (by right; simp [blk])
            clear hA1 hF1 hb1 hW1 hg2 hO1
            have hk1 := hW2.part 0 k 0 (by omega) (fun _ => rfl)
            go_wp2_with (first | (go_at_call 16; refine (num_any _ _).mono ?_; rintro e w' ⟨rfl, rfl⟩) | (go_at_call 32; refine (least_any _ _ _).mono ?_; rintro e w' ⟨rfl, rfl⟩; rw [hmin]) | fail)
            refine (write_yes hA2 X _ k wc _ hk1 (isBytes_cut hbz _ _) (by omega) hTz).mono ?_
            rintro e u3 ⟨rfl, hg3, hA3⟩
            have hl3 : (lay zs X.toNat (cut zs 0 k)).length = 8192 := by rw [length_lay (by rw [length_cut (by omega)]; omega), hl]
            have hb3 := hb2.kept hg3 (by intro j hj e; cases e; simp at hj; omega)
            have hO3 := hO2.kept hg3 (by right; simp [blk]; omega)
            have hF3 := gb_mine hF2 hg3 (Nat.le_refl _)
            have hz3 := Nat.le_trans hz2 hg3.size
            obtain ⟨Z, hZ⟩ : ∃ Z, Z = lay zs X.toNat (cut zs 0 k) := ⟨_, rfl⟩
            rw [← hZ] at hA3 hl3
            clear hZ hA2 hb2 hW2 hF2 hg3 hO2 hk1
            by_cases hk0 : 0 < k
            · go_wp2_with (first | (go_at_call 16; refine (num_any _ _).mono ?_; rintro e w' ⟨rfl, rfl⟩) | (go_at_call 32; refine (least_any _ _ _).mono ?_; rintro e w' ⟨rfl, rfl⟩; rw [hmin]) | (go_at_call 27; refine (isThere_yes _ _ _ hT).mono ?_; rintro e w' ⟨rfl, rfl⟩) | fail)
              refine (write_yes hA3 X _ k k _ hb3 (isBytes_cut hbz _ _) (by omega) (by rw [hl3]; exact hT)).mono ?_
              rintro e u4 ⟨rfl, hg4, hA4⟩
              have hl4 : (lay Z X.toNat (cut zs X.toNat k)).length = 8192 := by rw [length_lay (by rw [length_cut (by omega)]; omega), hl3]
              have hO4 := hO3.kept hg4 (by right; simp [blk]; omega)
              have hF4 := gb_mine hF3 hg4 (Nat.le_refl _)
              have hz4 := Nat.le_trans hz3 hg4.size
              obtain ⟨Z2, hZ2⟩ : ∃ Z2, Z2 = lay Z X.toNat (cut zs X.toNat k) := ⟨_, rfl⟩
              rw [← hZ2] at hA4 hl4
              clear hZ2 hA3 hb3 hF3 hg4 hO3
              go_wp2_with (first | (go_at_call 16; refine (num_any _ _).mono ?_; rintro e w' ⟨rfl, rfl⟩) | fail)
              refine (put8_any hA4 hl4 hO4 hl (by omega) hbz).mono ?_
              rintro e u5 ⟨rfl, hg5, hAe⟩
              have hWe := hO4.kept hg5 (by right; simp [blk]; omega)
              have hFe := gb_mine hF4 hg5 (Nat.le_refl _)
              have hze := Nat.le_trans hz4 hg5.size
              go_wp2
              go_roundw
              case rel => exact ⟨i + 1, by omega, by go_num, hAe, hWe, hFe, hze⟩
              case measure => simp [intOf]; omega
            · go_wp2_with (first | (go_at_call 16; refine (num_any _ _).mono ?_; rintro e w' ⟨rfl, rfl⟩) | (go_at_call 32; refine (least_any _ _ _).mono ?_; rintro e w' ⟨rfl, rfl⟩; rw [hmin]) | (go_at_call 27; refine (isThere_yes _ _ _ hT).mono ?_; rintro e w' ⟨rfl, rfl⟩) | fail)
              refine (put8_any hA3 hl3 hO3 hl (by omega) hbz).mono ?_
              rintro e u5 ⟨rfl, hg5, hAe⟩
              have hWe := hO3.kept hg5 (by right; simp [blk]; omega)
              have hFe := gb_mine hF3 hg5 (Nat.le_refl _)
              have hze := Nat.le_trans hz3 hg5.size
              go_wp2
              go_roundw
              case rel => exact ⟨i + 1, by omega, by go_num, hAe, hWe, hFe, hze⟩
              case measure => simp [intOf]; omega
          · have hTz : ¬ There 4096 zs.length X K := by rw [hl]; exact hT
            refine (isThere_no _ _ _ hT).mono ?_
            rintro e w' ⟨rfl, rfl⟩
            go_wp2_with fail
            refine (read_no hA0 X K (by omega) hTz).mono ?_
            rintro e u1 ⟨rfl, hg1⟩
            have hA1 := hA0.kept hg1 (by simp) (by simp)
            have hW1 := hHW.kept0 hg1
            have hF1 := gb_trans hF0 hg1
            have hz1' := Nat.le_trans hz0 hg1.size
            have hO1 := hW0.kept hg1 (by right; simp [blk])
            clear hA0 hF0 hg1 hHW hW0
            go_wp2_with (first | (go_at_call 16; refine (num_any _ _).mono ?_; rintro e w' ⟨rfl, rfl⟩) | fail)
            have hsame : Calls Try.prog 20 #[.pointer (some ⟨w.heap.size + 1, 0, none⟩), .int .i64 X, .slice none 0 0] u1 fun e w' => ∃ sb, e = .returned (.bool sb) ∧ u1.grownBy w' none ∧ Hid (K = 0 → sb = false) := by
              by_cases h0 : There 4096 zs.length X (0 : Nat)
              · refine (same_yes hA1 X none 0 0 [] ⟨rfl, fun h => by omega⟩ (by intro z hz; simp at hz) (by omega) h0).mono ?_
                rintro e w' ⟨rfl, hg⟩
                exact ⟨_, rfl, hg, fun hk => by subst hk; exact absurd h0 hTz⟩
              · refine (same_no hA1 X none 0 0 (by omega) (by omega) h0).mono ?_
                rintro e w' ⟨rfl, hg⟩
                exact ⟨_, rfl, hg, fun _ => rfl⟩
            refine hsame.mono ?_
            rintro e u2 ⟨sb, rfl, hg2, hsb⟩
            have hA2 := hA1.kept hg2 (by simp) (by simp)
            have hW2 := hW1.kept0 hg2
            have hF2 := gb_trans hF1 hg2
            have hz2 := Nat.le_trans hz1' hg2.size
            have hO2 := hO1.kept hg2 (by right; simp [blk])
            clear hA1 hF1 hW1 hg2 hO1 hsame
            have hKsb : (sb = false) ∨ (sb = true ∧ (K == 0) = false) := by
              cases sb
              · exact .inl rfl
              · refine .inr ⟨rfl, ?_⟩
                by_cases hk : K = 0
                · exact absurd (hsb.out hk) (by simp)
                · simp [hk]
            clear hsb
            rcases hKsb with rfl | ⟨rfl, hKz⟩
            · go_wp2_with (first | (go_at_call 16; refine (num_any _ _).mono ?_; rintro e w' ⟨rfl, rfl⟩) | fail)
              refine (fill_no hA2 X K 0 (by omega) hTz).mono ?_
              rintro e u3 ⟨rfl, hg3⟩
              have hA3 := hA2.kept hg3 (by simp) (by simp)
              have hG3 := hg3
              clear hg3
              go_wp2_with (first | (go_at_call 16; refine (num_any _ _).mono ?_; rintro e w' ⟨rfl, rfl⟩) | fail)
              refine (move_no hA3 X 0 K (by omega) (by omega) (.inr hTz)).mono ?_
              rintro e u4 ⟨rfl, hg4⟩
              have hA4 := hA3.kept hg4 (by simp) (by simp)
              have hG4 := gb_trans hG3 hg4
              clear hg4 hA3 hG3
              go_wp2_with (first | (go_at_call 16; refine (num_any _ _).mono ?_; rintro e w' ⟨rfl, rfl⟩) | fail)
              refine (move_no hA4 0 X K (by omega) (by omega) (.inl hTz)).mono ?_
              rintro e u5 ⟨rfl, hg5⟩
              have hA5 := hA4.kept hg5 (by simp) (by simp)
              have hG5 := gb_trans hG4 hg5
              have hO5 := hO2.kept hG5 (by right; simp [blk])
              have hW5 := hW2.kept0 hG5
              have hF5 := gb_trans hF2 hG5
              have hz5 := Nat.le_trans hz2 hG5.size
              clear hg5 hA4 hG4 hO2 hW2 hF2 hz2 hG5 hA2
              by_cases hKr : 0 ≤ K ∧ K ≤ 8200
              · obtain ⟨hKr0, hKr1⟩ := hKr
                obtain ⟨M, hM⟩ : ∃ M, min K 8192 = M := ⟨_, rfl⟩
                have hM0 : 0 ≤ M ∧ M ≤ 8192 := by omega
                have hTM : ¬ There 4096 8192 X M := by
                  unfold There at hT ⊢
                  omega
                obtain ⟨k, rfl⟩ := Int.eq_ofNat_of_zero_le hM0.1
                go_wp2_with (first | (go_at_call 16; refine (num_any _ _).mono ?_; rintro e w' ⟨rfl, rfl⟩) | (go_at_call 32; refine (least_any _ _ _).mono ?_; rintro e w' ⟨rfl, rfl⟩; rw [hM]) | fail)
                refine (write_no hA5 X _ k wc (by omega) (by omega) (by rw [hl]; exact hTM)).mono ?_
                rintro e u6 ⟨rfl, hg6⟩
                have hA6 := hA5.kept hg6 (by simp) (by simp)
                have hO6 := hO5.kept hg6 (by right; simp [blk])
                have hF6 := gb_trans hF5 hg6
                have hz6 := Nat.le_trans hz5 hg6.size
                clear hA5 hO5 hF5 hz5 hg6 hW5
                go_wp2_with (first | (go_at_call 16; refine (num_any _ _).mono ?_; rintro e w' ⟨rfl, rfl⟩) | (go_at_call 32; refine (least_any _ _ _).mono ?_; rintro e w' ⟨rfl, rfl⟩; rw [hM]) | (go_at_call 27; refine (isThere_no _ _ _ hTM).mono ?_; rintro e w' ⟨rfl, rfl⟩) | fail)
                refine (put8_any hA6 hl hO6 hl (by omega) hbz).mono ?_
                rintro e u7 ⟨rfl, hg7, hAe⟩
                have hWe := hO6.kept hg7 (by right; simp [blk]; omega)
                have hFe := gb_mine hF6 hg7 (Nat.le_refl _)
                have hze := Nat.le_trans hz6 hg7.size
                go_wp2
                go_roundw
                case rel => exact ⟨i + 1, by omega, by go_num, hAe, hWe, hFe, hze⟩
                case measure => simp [intOf]; omega
              · by_cases hKn : K < 0
                · clear hKr
                  go_wp2_with (first | (go_at_call 16; refine (num_any _ _).mono ?_; rintro e w' ⟨rfl, rfl⟩) | fail)
                  go_roundw
                  case rel => exact ⟨i + 1, by omega, by go_num, hA5, hO5, hF5, hz5⟩
                  case measure => simp [intOf]; omega
                · have hKg : 8200 < K := by omega
                  clear hKr
                  go_wp2_with (first | (go_at_call 16; refine (num_any _ _).mono ?_; rintro e w' ⟨rfl, rfl⟩) | fail)
                  go_roundw
                  case rel => exact ⟨i + 1, by omega, by go_num, hA5, hO5, hF5, hz5⟩
                  case measure => simp [intOf]; omega
            · go_wp2_with (first | (go_at_call 16; refine (num_any _ _).mono ?_; rintro e w' ⟨rfl, rfl⟩) | fail)
              refine (fill_no hA2 X K 0 (by omega) hTz).mono ?_
              rintro e u3 ⟨rfl, hg3⟩
              have hA3 := hA2.kept hg3 (by simp) (by simp)
              have hG3 := hg3
              clear hg3
              go_wp2_with (first | (go_at_call 16; refine (num_any _ _).mono ?_; rintro e w' ⟨rfl, rfl⟩) | fail)
              refine (move_no hA3 X 0 K (by omega) (by omega) (.inr hTz)).mono ?_
              rintro e u4 ⟨rfl, hg4⟩
              have hA4 := hA3.kept hg4 (by simp) (by simp)
              have hG4 := gb_trans hG3 hg4
              clear hg4 hA3 hG3
              go_wp2_with (first | (go_at_call 16; refine (num_any _ _).mono ?_; rintro e w' ⟨rfl, rfl⟩) | fail)
              refine (move_no hA4 0 X K (by omega) (by omega) (.inl hTz)).mono ?_
              rintro e u5 ⟨rfl, hg5⟩
              have hA5 := hA4.kept hg5 (by simp) (by simp)
              have hG5 := gb_trans hG4 hg5
              have hO5 := hO2.kept hG5 (by right; simp [blk])
              have hW5 := hW2.kept0 hG5
              have hF5 := gb_trans hF2 hG5
              have hz5 := Nat.le_trans hz2 hG5.size
              clear hg5 hA4 hG4 hO2 hW2 hF2 hz2 hG5 hA2
              by_cases hKr : 0 ≤ K ∧ K ≤ 8200
              · obtain ⟨hKr0, hKr1⟩ := hKr
                obtain ⟨M, hM⟩ : ∃ M, min K 8192 = M := ⟨_, rfl⟩
                have hM0 : 0 ≤ M ∧ M ≤ 8192 := by omega
                have hTM : ¬ There 4096 8192 X M := by
                  unfold There at hT ⊢
                  omega
                obtain ⟨k, rfl⟩ := Int.eq_ofNat_of_zero_le hM0.1
                go_wp2_with (first | (go_at_call 16; refine (num_any _ _).mono ?_; rintro e w' ⟨rfl, rfl⟩) | (go_at_call 32; refine (least_any _ _ _).mono ?_; rintro e w' ⟨rfl, rfl⟩; rw [hM]) | fail)
                refine (write_no hA5 X _ k wc (by omega) (by omega) (by rw [hl]; exact hTM)).mono ?_
                rintro e u6 ⟨rfl, hg6⟩
                have hA6 := hA5.kept hg6 (by simp) (by simp)
                have hO6 := hO5.kept hg6 (by right; simp [blk])
                have hF6 := gb_trans hF5 hg6
                have hz6 := Nat.le_trans hz5 hg6.size
                clear hA5 hO5 hF5 hz5 hg6 hW5
                go_wp2_with (first | (go_at_call 16; refine (num_any _ _).mono ?_; rintro e w' ⟨rfl, rfl⟩) | (go_at_call 32; refine (least_any _ _ _).mono ?_; rintro e w' ⟨rfl, rfl⟩; rw [hM]) | (go_at_call 27; refine (isThere_no _ _ _ hTM).mono ?_; rintro e w' ⟨rfl, rfl⟩) | fail)
                refine (put8_any hA6 hl hO6 hl (by omega) hbz).mono ?_
                rintro e u7 ⟨rfl, hg7, hAe⟩
                have hWe := hO6.kept hg7 (by right; simp [blk]; omega)
                have hFe := gb_mine hF6 hg7 (Nat.le_refl _)
                have hze := Nat.le_trans hz6 hg7.size
                go_wp2
                go_roundw
                case rel => exact ⟨i + 1, by omega, by go_num, hAe, hWe, hFe, hze⟩
                case measure => simp [intOf]; omega
              · by_cases hKn : K < 0
                · clear hKr
                  go_wp2_with (first | (go_at_call 16; refine (num_any _ _).mono ?_; rintro e w' ⟨rfl, rfl⟩) | fail)
                  go_roundw
                  case rel => exact ⟨i + 1, by omega, by go_num, hA5, hO5, hF5, hz5⟩
                  case measure => simp [intOf]; omega
                · have hKg : 8200 < K := by omega
                  clear hKr
                  go_wp2_with (first | (go_at_call 16; refine (num_any _ _).mono ?_; rintro e w' ⟨rfl, rfl⟩) | fail)
                  go_roundw
                  case rel => exact ⟨i + 1, by omega, by go_num, hA5, hO5, hF5, hz5⟩
                  case measure => simp [intOf]; omega
      · have hdi : decide ((i : Int) < n) = true := by simp; omega
        have hd6 : decide ((i : Int) < 60) = false := by simp; omega
        go_wp2_with (first | fail)
        refine (image_any hA hl).mono ?_
        rintro e t4 ⟨ia, ic, rfl, hI, hf4⟩
        have hHI := hI.has
        have hHW := (hW.has).kept0 hf4
        have hF4 := gb_trans hF hf4
        rw [hl] at hHI hHW
        go_wp2_with fail
        refine (equal_34 hHI hHW hbz hbz ic wc).mono ?_
        rintro e t5 ⟨rfl, rfl⟩
        go_wp2
        go_ret
        exact ⟨rfl, hF4⟩
    · have hdi : decide ((i : Int) < n) = false := by simp; omega
      go_wp2_with (first | fail)
      refine (image_any hA hl).mono ?_
      rintro e t4 ⟨ia, ic, rfl, hI, hf4⟩
      have hHI := hI.has
      have hHW := (hW.has).kept0 hf4
      have hF4 := gb_trans hF hf4
      rw [hl] at hHI hHW
      go_wp2_with fail
      refine (equal_34 hHI hHW hbz hbz ic wc).mono ?_
      rintro e t5 ⟨rfl, rfl⟩
      go_wp2
      go_ret
      exact ⟨rfl, hF4⟩

end Go.Proofs.Ytknhoncnaigogaa

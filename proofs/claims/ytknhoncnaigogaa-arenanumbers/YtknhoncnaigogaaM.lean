/-
  ArenaNumbers, walked (by program: one text a width).
-/
import Derived.Test.YtknhoncnaigogaaL
namespace Go.Proofs.Ytknhoncnaigogaa
open Go.RowKit
set_option linter.unusedVariables false

set_option maxRecDepth 100000 in
set_option maxHeartbeats 1000000 in
theorem numbers_1 (x0 x1 x2 x3 : Int) (own : Bool) (w : World) (hk : wd x1 = 1) (h2 : 0 ≤ x2 ∧ x2 < 18446744073709551616) (h3 : 0 ≤ x3 ∧ x3 < 18446744073709551616) :
    Calls Try.prog 6 #[.agg #[.int .i64 x0, .int .i64 x1, .int .u64 x2, .int .u64 x3, .bool own]] w fun e w' => e = .returned (.bool true) ∧ w.grownBy w' none := by
  go_enter Try.func6, Try.ntmps6
  go_wp2_with fail
  refine (new_2 _).mono ?_
  rintro e w1 ⟨zs, rfl, hf1, hA1, hzs, hl⟩
  have hB0 := (Box.new w 49 #[.int .i64 x0, .int .i64 x1, .int .u64 x2, .int .u64 x3, .bool own])
  have hB1 := hB0.kept hf1 (by simp)
  have hF1 := gb_trans (World.grownBy_alloc w (.cells #[.int .i64 x0, .int .i64 x1, .int .u64 x2, .int .u64 x3, .bool own] 49) none) hf1
  have a0 := hB1.cell 0
  have a1 := hB1.cell 1
  have a2 := hB1.cell 2
  have a3 := hB1.cell 3
  clear hf1 hB0 hzs
  simp only [World.size_alloc] at hA1
  go_wp2_with (first | (go_at_call 16; refine (num_any _ _).mono ?_; rintro e w' ⟨rfl, rfl⟩) | (go_at_call 21; refine (widthOf_any _ _).mono ?_; rintro e w' ⟨rfl, rfl⟩; rw [hk]) | (go_at_call 22; go_must (refine (within_ex _ 4072 (by omega) (by omega) _).mono ?_); rintro e w' ⟨r, rfl, rfl, hr0, hr1⟩))
  clear a0 a1 a2 a3
  obtain ⟨v, hv⟩ : ∃ v, v = x2 % 256 := ⟨_, rfl⟩
  have hv0 : 0 ≤ v ∧ v < 256 := by omega
  rw [← hv]
  have HV : Hid (v = x2 % 256) := hv
  clear hv
  refine (putA hA1 _ _ _ _ (by simp [isWidth]) h3 ⟨by omega, by omega, by omega, by omega⟩).mono ?_
  rintro e w2 ⟨z2, rfl, hf2, hA2, hl2, hz2⟩
  have hB2 := hB1.kept hf2 (by simp)
  have hF2 := gb_own hF1 hf2 (by omega)
  have a3 := hB2.cell 3
  clear hf2 hB1 hF1 hA1
  go_wp2_with fail
  refine (putA hA2 _ _ _ _ (by simp [isWidth]) h3 ⟨by omega, by omega, by omega, by omega⟩).mono ?_
  rintro e w3 ⟨z3, rfl, hf3, hA3, hl3, hz3⟩
  have hB3 := hB2.kept hf3 (by simp)
  have hF3 := gb_own hF2 hf3 (by omega)
  clear a3 hf3 hB2 hF2 hA2
  have a4 := hB3.cell 4
  go_wp2_with fail
  refine (putA hA3 _ _ _ _ (by simp [isWidth]) hv0 ⟨by omega, by omega, by omega, by omega⟩).mono ?_
  rintro e w4 ⟨z4, rfl, hf4, hA4, hl4, hz4⟩
  have hB4 := hB3.kept hf4 (by simp)
  have hF4 := gb_own hF3 hf4 (by omega)
  clear a4 hf4 hB3 hF3 hA3
  have hl4' : z4.length = 8192 := by omega
  have G1 : Hid (getL z4 r.toNat (8 : Int).toNat 0 0 = x3) := by
    have e4 := hz4.out; have e3 := hz3.out; have e2 := hz2.out
    show _ = _
    rw [e4, get_apart _ _ _ _ _ _ (by left; show r.toNat + 8 ≤ _; omega), e3, get_apart _ _ _ _ _ _ (by left; show r.toNat + 8 ≤ _; omega), e2]
    exact get_put _ _ _ _ h3.1 h3.2 (by show r.toNat + 8 ≤ _; omega)
  have G2 : Hid (getL z4 (r + 8).toNat (1 : Int).toNat 0 0 = v) := by
    have e4 := hz4.out
    show _ = _
    rw [e4]
    exact get_put _ _ _ _ hv0.1 hv0.2 (by show (r + 8).toNat + 1 ≤ _; omega)
  have G3 : Hid (getL z4 (r + 8 + 1).toNat (8 : Int).toNat 0 0 = x3) := by
    have e4 := hz4.out; have e3 := hz3.out
    show _ = _
    rw [e4, get_apart _ _ _ _ _ _ (by right; show (r + 8).toNat + 1 ≤ _; omega), e3]
    exact get_put _ _ _ _ h3.1 h3.2 (by show (r + 8 + 1).toNat + 8 ≤ _; omega)
  clear hz2 hz3 hz4 hl hl2 hl3 hl4
  go_wp2_with fail
  refine (getA hA4 _ _ _ (by simp [isWidth]) ⟨by omega, by omega, by omega, by omega⟩ _ G1.out).mono ?_
  rintro e w5 ⟨rfl, hf5, hA5⟩
  have hB5 := hB4.kept hf5 (by simp)
  have hF5 := gb_trans hF4 hf5
  clear hf5 hB4 hF4 hA4
  have a4 := hB5.cell 4
  go_wp2_with fail
  refine (getA hA5 _ _ _ (by simp [isWidth]) ⟨by omega, by omega, by omega, by omega⟩ _ G2.out).mono ?_
  rintro e w6 ⟨rfl, hf6, hA6⟩
  have hB6 := hB5.kept hf6 (by simp)
  have hF6 := gb_trans hF5 hf6
  clear a4 hf6 hB5 hF5 hA5
  go_wp2_with fail
  refine (getA hA6 _ _ _ (by simp [isWidth]) ⟨by omega, by omega, by omega, by omega⟩ _ G3.out).mono ?_
  rintro e w7 ⟨rfl, hf7, hA7⟩
  have hB7 := hB6.kept hf7 (by simp)
  have hF7 := gb_trans hF6 hf7
  clear hf7 hB6 hF6 hA6
  have a3 := hB7.cell 3
  go_wp2
  go_loopw [14] (fun c wr => ∃ j : Int, isWidth j ∧ j ≤ 8 ∧ c = .int .i64 j ∧ IsA wr (w.heap.size + 1 + 1) (w.heap.size + 1) 4096 2 z4 ∧ Box wr 49 w.heap.size #[.int .i64 x0, .int .i64 x1, .int .u64 x2, .int .u64 x3, .bool own] ∧ w.grownBy wr none) (fun c _ => (intOf c).toNat)
  case atStart => exact ⟨1, by simp [isWidth], by omega, rfl, hA7, hB7, hF7⟩
  case round =>
    clear hA7 hB7 hF7 G1 G2 G3 a3
    obtain ⟨j, hj, hj8, rfl, hA, hB, hF⟩ := hrel
    rcases hj with rfl | rfl | rfl | rfl
    · have a4 := hB.cell 4
      go_wp2_with (first | (go_at_call 24; refine (get_nil _ _ _ _ (by simp [isWidth])).mono ?_; rintro e w' ⟨rfl, rfl⟩) | (go_at_call 23; refine (put_nil _ _ _ _ _ (by simp [isWidth])).mono ?_; rintro e w' ⟨rfl, rfl⟩))
      go_ret
      exact ⟨rfl, hF⟩
    · have a4 := hB.cell 4
      have q1 := getL_lt z4 (r + 8).toNat 1 hA.hz (by omega)
      have q2 := getL_lt z4 (r + 8 + 1).toNat 1 hA.hz (by omega)
      have q3 : getL z4 (r + 8).toNat (2 : Int).toNat 0 0 = getL z4 (r + 8).toNat 1 0 0 * pw 1 + getL z4 ((r + 8).toNat + 1) 1 0 0 := getL_halves _ _ 1 1
      rw [show (r + 8).toNat + 1 = (r + 8 + 1).toNat by omega] at q3
      obtain ⟨Hi, hHi⟩ : ∃ s, getL z4 (r + 8).toNat 1 0 0 = s := ⟨_, rfl⟩
      obtain ⟨Lo, hLo⟩ : ∃ s, getL z4 (r + 8 + 1).toNat 1 0 0 = s := ⟨_, rfl⟩
      rw [hHi] at q1 q3
      rw [hLo] at q2 q3
      rw [pw1] at q1 q2 q3
      have HH : Hid (getL z4 (r + 8).toNat 1 0 0 = Hi) := hHi
      have HL : Hid (getL z4 (r + 8 + 1).toNat 1 0 0 = Lo) := hLo
      have HQ : Hid (getL z4 (r + 8).toNat (2 : Int).toNat 0 0 = Hi * 256 + Lo) := q3
      clear hHi hLo q3
      go_wp2_with fail
      refine (getA hA _ _ _ (by simp [isWidth]) ⟨by omega, by omega, by omega, by omega⟩ _ HQ.out).mono ?_
      rintro e u1 ⟨rfl, hf1, hA1⟩
      have hB1 := hB.kept hf1 (by simp)
      have hF1 := gb_trans hF hf1
      clear a4 hf1 hB hF hA
      have a4 := hB1.cell 4
      go_wp2_with fail
      refine (getA hA1 _ _ _ (by simp [isWidth]) ⟨by omega, by omega, by omega, by omega⟩ _ HH.out).mono ?_
      rintro e u2 ⟨rfl, hf2, hA2⟩
      have hB2 := hB1.kept hf2 (by simp)
      have hF2 := gb_trans hF1 hf2
      clear a4 hf2 hB1 hF1 hA1
      have a4 := hB2.cell 4
      go_wp2_with fail
      refine (getA hA2 _ _ _ (by simp [isWidth]) ⟨by omega, by omega, by omega, by omega⟩ _ HL.out).mono ?_
      rintro e u3 ⟨rfl, hf3, hA3⟩
      have hB3 := hB2.kept hf3 (by simp)
      have hF3 := gb_trans hF2 hf3
      clear a4 hf3 hB2 hF2 hA2
      go_wp2
      go_roundw
      case rel => exact ⟨1, by simp [isWidth], by omega, by go_num, hA3, hB3, hF3⟩
      case measure => first | (simp [intOf]; done) | (simp [intOf]; omega)
    · have a4 := hB.cell 4
      have q1 := getL_lt z4 (r + 8).toNat 2 hA.hz (by omega)
      have q2 := getL_lt z4 (r + 8 + 2).toNat 2 hA.hz (by omega)
      have q3 : getL z4 (r + 8).toNat (4 : Int).toNat 0 0 = getL z4 (r + 8).toNat 2 0 0 * pw 2 + getL z4 ((r + 8).toNat + 2) 2 0 0 := getL_halves _ _ 2 2
      rw [show (r + 8).toNat + 2 = (r + 8 + 2).toNat by omega] at q3
      obtain ⟨Hi, hHi⟩ : ∃ s, getL z4 (r + 8).toNat 2 0 0 = s := ⟨_, rfl⟩
      obtain ⟨Lo, hLo⟩ : ∃ s, getL z4 (r + 8 + 2).toNat 2 0 0 = s := ⟨_, rfl⟩
      rw [hHi] at q1 q3
      rw [hLo] at q2 q3
      rw [pw2] at q1 q2 q3
      have HH : Hid (getL z4 (r + 8).toNat 2 0 0 = Hi) := hHi
      have HL : Hid (getL z4 (r + 8 + 2).toNat 2 0 0 = Lo) := hLo
      have HQ : Hid (getL z4 (r + 8).toNat (4 : Int).toNat 0 0 = Hi * 65536 + Lo) := q3
      clear hHi hLo q3
      go_wp2_with fail
      refine (getA hA _ _ _ (by simp [isWidth]) ⟨by omega, by omega, by omega, by omega⟩ _ HQ.out).mono ?_
      rintro e u1 ⟨rfl, hf1, hA1⟩
      have hB1 := hB.kept hf1 (by simp)
      have hF1 := gb_trans hF hf1
      clear a4 hf1 hB hF hA
      have a4 := hB1.cell 4
      go_wp2_with fail
      refine (getA hA1 _ _ _ (by simp [isWidth]) ⟨by omega, by omega, by omega, by omega⟩ _ HH.out).mono ?_
      rintro e u2 ⟨rfl, hf2, hA2⟩
      have hB2 := hB1.kept hf2 (by simp)
      have hF2 := gb_trans hF1 hf2
      clear a4 hf2 hB1 hF1 hA1
      have a4 := hB2.cell 4
      go_wp2_with fail
      refine (getA hA2 _ _ _ (by simp [isWidth]) ⟨by omega, by omega, by omega, by omega⟩ _ HL.out).mono ?_
      rintro e u3 ⟨rfl, hf3, hA3⟩
      have hB3 := hB2.kept hf3 (by simp)
      have hF3 := gb_trans hF2 hf3
      clear a4 hf3 hB2 hF2 hA2
      go_wp2
      go_roundw
      case rel => exact ⟨2, by simp [isWidth], by omega, by go_num, hA3, hB3, hF3⟩
      case measure => first | (simp [intOf]; done) | (simp [intOf]; omega)
    · have a4 := hB.cell 4
      have q1 := getL_lt z4 (r + 8).toNat 4 hA.hz (by omega)
      have q2 := getL_lt z4 (r + 8 + 4).toNat 4 hA.hz (by omega)
      have q3 : getL z4 (r + 8).toNat (8 : Int).toNat 0 0 = getL z4 (r + 8).toNat 4 0 0 * pw 4 + getL z4 ((r + 8).toNat + 4) 4 0 0 := getL_halves _ _ 4 4
      rw [show (r + 8).toNat + 4 = (r + 8 + 4).toNat by omega] at q3
      obtain ⟨Hi, hHi⟩ : ∃ s, getL z4 (r + 8).toNat 4 0 0 = s := ⟨_, rfl⟩
      obtain ⟨Lo, hLo⟩ : ∃ s, getL z4 (r + 8 + 4).toNat 4 0 0 = s := ⟨_, rfl⟩
      rw [hHi] at q1 q3
      rw [hLo] at q2 q3
      rw [pw4] at q1 q2 q3
      have HH : Hid (getL z4 (r + 8).toNat 4 0 0 = Hi) := hHi
      have HL : Hid (getL z4 (r + 8 + 4).toNat 4 0 0 = Lo) := hLo
      have HQ : Hid (getL z4 (r + 8).toNat (8 : Int).toNat 0 0 = Hi * 4294967296 + Lo) := q3
      clear hHi hLo q3
      go_wp2_with fail
      refine (getA hA _ _ _ (by simp [isWidth]) ⟨by omega, by omega, by omega, by omega⟩ _ HQ.out).mono ?_
      rintro e u1 ⟨rfl, hf1, hA1⟩
      have hB1 := hB.kept hf1 (by simp)
      have hF1 := gb_trans hF hf1
      clear a4 hf1 hB hF hA
      have a4 := hB1.cell 4
      go_wp2_with fail
      refine (getA hA1 _ _ _ (by simp [isWidth]) ⟨by omega, by omega, by omega, by omega⟩ _ HH.out).mono ?_
      rintro e u2 ⟨rfl, hf2, hA2⟩
      have hB2 := hB1.kept hf2 (by simp)
      have hF2 := gb_trans hF1 hf2
      clear a4 hf2 hB1 hF1 hA1
      have a4 := hB2.cell 4
      go_wp2_with fail
      refine (getA hA2 _ _ _ (by simp [isWidth]) ⟨by omega, by omega, by omega, by omega⟩ _ HL.out).mono ?_
      rintro e u3 ⟨rfl, hf3, hA3⟩
      have hB3 := hB2.kept hf3 (by simp)
      have hF3 := gb_trans hF2 hf3
      clear a4 hf3 hB2 hF2 hA2
      go_wp2
      go_roundw
      case rel => exact ⟨4, by simp [isWidth], by omega, by go_num, hA3, hB3, hF3⟩
      case measure => first | (simp [intOf]; done) | (simp [intOf]; omega)

set_option maxRecDepth 100000 in
set_option maxHeartbeats 1000000 in
theorem numbers_2 (x0 x1 x2 x3 : Int) (own : Bool) (w : World) (hk : wd x1 = 2) (h2 : 0 ≤ x2 ∧ x2 < 18446744073709551616) (h3 : 0 ≤ x3 ∧ x3 < 18446744073709551616) :
    Calls Try.prog 6 #[.agg #[.int .i64 x0, .int .i64 x1, .int .u64 x2, .int .u64 x3, .bool own]] w fun e w' => e = .returned (.bool true) ∧ w.grownBy w' none := by
  go_enter Try.func6, Try.ntmps6
  go_wp2_with fail
  refine (new_2 _).mono ?_
  rintro e w1 ⟨zs, rfl, hf1, hA1, hzs, hl⟩
  have hB0 := (Box.new w 49 #[.int .i64 x0, .int .i64 x1, .int .u64 x2, .int .u64 x3, .bool own])
  have hB1 := hB0.kept hf1 (by simp)
  have hF1 := gb_trans (World.grownBy_alloc w (.cells #[.int .i64 x0, .int .i64 x1, .int .u64 x2, .int .u64 x3, .bool own] 49) none) hf1
  have a0 := hB1.cell 0
  have a1 := hB1.cell 1
  have a2 := hB1.cell 2
  have a3 := hB1.cell 3
  clear hf1 hB0 hzs
  simp only [World.size_alloc] at hA1
  go_wp2_with (first | (go_at_call 16; refine (num_any _ _).mono ?_; rintro e w' ⟨rfl, rfl⟩) | (go_at_call 21; refine (widthOf_any _ _).mono ?_; rintro e w' ⟨rfl, rfl⟩; rw [hk]) | (go_at_call 22; go_must (refine (within_ex _ 4072 (by omega) (by omega) _).mono ?_); rintro e w' ⟨r, rfl, rfl, hr0, hr1⟩))
  clear a0 a1 a2 a3
  obtain ⟨v, hv⟩ : ∃ v, v = x2 % 65536 := ⟨_, rfl⟩
  have hv0 : 0 ≤ v ∧ v < 65536 := by omega
  rw [← hv]
  have HV : Hid (v = x2 % 65536) := hv
  clear hv
  refine (putA hA1 _ _ _ _ (by simp [isWidth]) h3 ⟨by omega, by omega, by omega, by omega⟩).mono ?_
  rintro e w2 ⟨z2, rfl, hf2, hA2, hl2, hz2⟩
  have hB2 := hB1.kept hf2 (by simp)
  have hF2 := gb_own hF1 hf2 (by omega)
  have a3 := hB2.cell 3
  clear hf2 hB1 hF1 hA1
  go_wp2_with fail
  refine (putA hA2 _ _ _ _ (by simp [isWidth]) h3 ⟨by omega, by omega, by omega, by omega⟩).mono ?_
  rintro e w3 ⟨z3, rfl, hf3, hA3, hl3, hz3⟩
  have hB3 := hB2.kept hf3 (by simp)
  have hF3 := gb_own hF2 hf3 (by omega)
  clear a3 hf3 hB2 hF2 hA2
  have a4 := hB3.cell 4
  go_wp2_with fail
  refine (putA hA3 _ _ _ _ (by simp [isWidth]) hv0 ⟨by omega, by omega, by omega, by omega⟩).mono ?_
  rintro e w4 ⟨z4, rfl, hf4, hA4, hl4, hz4⟩
  have hB4 := hB3.kept hf4 (by simp)
  have hF4 := gb_own hF3 hf4 (by omega)
  clear a4 hf4 hB3 hF3 hA3
  have hl4' : z4.length = 8192 := by omega
  have G1 : Hid (getL z4 r.toNat (8 : Int).toNat 0 0 = x3) := by
    have e4 := hz4.out; have e3 := hz3.out; have e2 := hz2.out
    show _ = _
    rw [e4, get_apart _ _ _ _ _ _ (by left; show r.toNat + 8 ≤ _; omega), e3, get_apart _ _ _ _ _ _ (by left; show r.toNat + 8 ≤ _; omega), e2]
    exact get_put _ _ _ _ h3.1 h3.2 (by show r.toNat + 8 ≤ _; omega)
  have G2 : Hid (getL z4 (r + 8).toNat (2 : Int).toNat 0 0 = v) := by
    have e4 := hz4.out
    show _ = _
    rw [e4]
    exact get_put _ _ _ _ hv0.1 hv0.2 (by show (r + 8).toNat + 2 ≤ _; omega)
  have G3 : Hid (getL z4 (r + 8 + 2).toNat (8 : Int).toNat 0 0 = x3) := by
    have e4 := hz4.out; have e3 := hz3.out
    show _ = _
    rw [e4, get_apart _ _ _ _ _ _ (by right; show (r + 8).toNat + 2 ≤ _; omega), e3]
    exact get_put _ _ _ _ h3.1 h3.2 (by show (r + 8 + 2).toNat + 8 ≤ _; omega)
  clear hz2 hz3 hz4 hl hl2 hl3 hl4
  go_wp2_with fail
  refine (getA hA4 _ _ _ (by simp [isWidth]) ⟨by omega, by omega, by omega, by omega⟩ _ G1.out).mono ?_
  rintro e w5 ⟨rfl, hf5, hA5⟩
  have hB5 := hB4.kept hf5 (by simp)
  have hF5 := gb_trans hF4 hf5
  clear hf5 hB4 hF4 hA4
  have a4 := hB5.cell 4
  go_wp2_with fail
  refine (getA hA5 _ _ _ (by simp [isWidth]) ⟨by omega, by omega, by omega, by omega⟩ _ G2.out).mono ?_
  rintro e w6 ⟨rfl, hf6, hA6⟩
  have hB6 := hB5.kept hf6 (by simp)
  have hF6 := gb_trans hF5 hf6
  clear a4 hf6 hB5 hF5 hA5
  go_wp2_with fail
  refine (getA hA6 _ _ _ (by simp [isWidth]) ⟨by omega, by omega, by omega, by omega⟩ _ G3.out).mono ?_
  rintro e w7 ⟨rfl, hf7, hA7⟩
  have hB7 := hB6.kept hf7 (by simp)
  have hF7 := gb_trans hF6 hf7
  clear hf7 hB6 hF6 hA6
  have a3 := hB7.cell 3
  go_wp2
  go_loopw [14] (fun c wr => ∃ j : Int, isWidth j ∧ j ≤ 8 ∧ c = .int .i64 j ∧ IsA wr (w.heap.size + 1 + 1) (w.heap.size + 1) 4096 2 z4 ∧ Box wr 49 w.heap.size #[.int .i64 x0, .int .i64 x1, .int .u64 x2, .int .u64 x3, .bool own] ∧ w.grownBy wr none) (fun c _ => (intOf c).toNat)
  case atStart => exact ⟨2, by simp [isWidth], by omega, rfl, hA7, hB7, hF7⟩
  case round =>
    clear hA7 hB7 hF7 G1 G2 G3 a3
    obtain ⟨j, hj, hj8, rfl, hA, hB, hF⟩ := hrel
    rcases hj with rfl | rfl | rfl | rfl
    · have a4 := hB.cell 4
      go_wp2_with (first | (go_at_call 24; refine (get_nil _ _ _ _ (by simp [isWidth])).mono ?_; rintro e w' ⟨rfl, rfl⟩) | (go_at_call 23; refine (put_nil _ _ _ _ _ (by simp [isWidth])).mono ?_; rintro e w' ⟨rfl, rfl⟩))
      go_ret
      exact ⟨rfl, hF⟩
    · have a4 := hB.cell 4
      have q1 := getL_lt z4 (r + 8).toNat 1 hA.hz (by omega)
      have q2 := getL_lt z4 (r + 8 + 1).toNat 1 hA.hz (by omega)
      have q3 : getL z4 (r + 8).toNat (2 : Int).toNat 0 0 = getL z4 (r + 8).toNat 1 0 0 * pw 1 + getL z4 ((r + 8).toNat + 1) 1 0 0 := getL_halves _ _ 1 1
      rw [show (r + 8).toNat + 1 = (r + 8 + 1).toNat by omega] at q3
      obtain ⟨Hi, hHi⟩ : ∃ s, getL z4 (r + 8).toNat 1 0 0 = s := ⟨_, rfl⟩
      obtain ⟨Lo, hLo⟩ : ∃ s, getL z4 (r + 8 + 1).toNat 1 0 0 = s := ⟨_, rfl⟩
      rw [hHi] at q1 q3
      rw [hLo] at q2 q3
      rw [pw1] at q1 q2 q3
      have HH : Hid (getL z4 (r + 8).toNat 1 0 0 = Hi) := hHi
      have HL : Hid (getL z4 (r + 8 + 1).toNat 1 0 0 = Lo) := hLo
      have HQ : Hid (getL z4 (r + 8).toNat (2 : Int).toNat 0 0 = Hi * 256 + Lo) := q3
      clear hHi hLo q3
      go_wp2_with fail
      refine (getA hA _ _ _ (by simp [isWidth]) ⟨by omega, by omega, by omega, by omega⟩ _ HQ.out).mono ?_
      rintro e u1 ⟨rfl, hf1, hA1⟩
      have hB1 := hB.kept hf1 (by simp)
      have hF1 := gb_trans hF hf1
      clear a4 hf1 hB hF hA
      have a4 := hB1.cell 4
      go_wp2_with fail
      refine (getA hA1 _ _ _ (by simp [isWidth]) ⟨by omega, by omega, by omega, by omega⟩ _ HH.out).mono ?_
      rintro e u2 ⟨rfl, hf2, hA2⟩
      have hB2 := hB1.kept hf2 (by simp)
      have hF2 := gb_trans hF1 hf2
      clear a4 hf2 hB1 hF1 hA1
      have a4 := hB2.cell 4
      go_wp2_with fail
      refine (getA hA2 _ _ _ (by simp [isWidth]) ⟨by omega, by omega, by omega, by omega⟩ _ HL.out).mono ?_
      rintro e u3 ⟨rfl, hf3, hA3⟩
      have hB3 := hB2.kept hf3 (by simp)
      have hF3 := gb_trans hF2 hf3
      clear a4 hf3 hB2 hF2 hA2
      go_wp2
      go_roundw
      case rel => exact ⟨1, by simp [isWidth], by omega, by go_num, hA3, hB3, hF3⟩
      case measure => first | (simp [intOf]; done) | (simp [intOf]; omega)
    · have a4 := hB.cell 4
      have q1 := getL_lt z4 (r + 8).toNat 2 hA.hz (by omega)
      have q2 := getL_lt z4 (r + 8 + 2).toNat 2 hA.hz (by omega)
      have q3 : getL z4 (r + 8).toNat (4 : Int).toNat 0 0 = getL z4 (r + 8).toNat 2 0 0 * pw 2 + getL z4 ((r + 8).toNat + 2) 2 0 0 := getL_halves _ _ 2 2
      rw [show (r + 8).toNat + 2 = (r + 8 + 2).toNat by omega] at q3
      obtain ⟨Hi, hHi⟩ : ∃ s, getL z4 (r + 8).toNat 2 0 0 = s := ⟨_, rfl⟩
      obtain ⟨Lo, hLo⟩ : ∃ s, getL z4 (r + 8 + 2).toNat 2 0 0 = s := ⟨_, rfl⟩
      rw [hHi] at q1 q3
      rw [hLo] at q2 q3
      rw [pw2] at q1 q2 q3
      have HH : Hid (getL z4 (r + 8).toNat 2 0 0 = Hi) := hHi
      have HL : Hid (getL z4 (r + 8 + 2).toNat 2 0 0 = Lo) := hLo
      have HQ : Hid (getL z4 (r + 8).toNat (4 : Int).toNat 0 0 = Hi * 65536 + Lo) := q3
      clear hHi hLo q3
      go_wp2_with fail
      refine (getA hA _ _ _ (by simp [isWidth]) ⟨by omega, by omega, by omega, by omega⟩ _ HQ.out).mono ?_
      rintro e u1 ⟨rfl, hf1, hA1⟩
      have hB1 := hB.kept hf1 (by simp)
      have hF1 := gb_trans hF hf1
      clear a4 hf1 hB hF hA
      have a4 := hB1.cell 4
      go_wp2_with fail
      refine (getA hA1 _ _ _ (by simp [isWidth]) ⟨by omega, by omega, by omega, by omega⟩ _ HH.out).mono ?_
      rintro e u2 ⟨rfl, hf2, hA2⟩
      have hB2 := hB1.kept hf2 (by simp)
      have hF2 := gb_trans hF1 hf2
      clear a4 hf2 hB1 hF1 hA1
      have a4 := hB2.cell 4
      go_wp2_with fail
      refine (getA hA2 _ _ _ (by simp [isWidth]) ⟨by omega, by omega, by omega, by omega⟩ _ HL.out).mono ?_
      rintro e u3 ⟨rfl, hf3, hA3⟩
      have hB3 := hB2.kept hf3 (by simp)
      have hF3 := gb_trans hF2 hf3
      clear a4 hf3 hB2 hF2 hA2
      go_wp2
      go_roundw
      case rel => exact ⟨2, by simp [isWidth], by omega, by go_num, hA3, hB3, hF3⟩
      case measure => first | (simp [intOf]; done) | (simp [intOf]; omega)
    · have a4 := hB.cell 4
      have q1 := getL_lt z4 (r + 8).toNat 4 hA.hz (by omega)
      have q2 := getL_lt z4 (r + 8 + 4).toNat 4 hA.hz (by omega)
      have q3 : getL z4 (r + 8).toNat (8 : Int).toNat 0 0 = getL z4 (r + 8).toNat 4 0 0 * pw 4 + getL z4 ((r + 8).toNat + 4) 4 0 0 := getL_halves _ _ 4 4
      rw [show (r + 8).toNat + 4 = (r + 8 + 4).toNat by omega] at q3
      obtain ⟨Hi, hHi⟩ : ∃ s, getL z4 (r + 8).toNat 4 0 0 = s := ⟨_, rfl⟩
      obtain ⟨Lo, hLo⟩ : ∃ s, getL z4 (r + 8 + 4).toNat 4 0 0 = s := ⟨_, rfl⟩
      rw [hHi] at q1 q3
      rw [hLo] at q2 q3
      rw [pw4] at q1 q2 q3
      have HH : Hid (getL z4 (r + 8).toNat 4 0 0 = Hi) := hHi
      have HL : Hid (getL z4 (r + 8 + 4).toNat 4 0 0 = Lo) := hLo
      have HQ : Hid (getL z4 (r + 8).toNat (8 : Int).toNat 0 0 = Hi * 4294967296 + Lo) := q3
      clear hHi hLo q3
      go_wp2_with fail
      refine (getA hA _ _ _ (by simp [isWidth]) ⟨by omega, by omega, by omega, by omega⟩ _ HQ.out).mono ?_
      rintro e u1 ⟨rfl, hf1, hA1⟩
      have hB1 := hB.kept hf1 (by simp)
      have hF1 := gb_trans hF hf1
      clear a4 hf1 hB hF hA
      have a4 := hB1.cell 4
      go_wp2_with fail
      refine (getA hA1 _ _ _ (by simp [isWidth]) ⟨by omega, by omega, by omega, by omega⟩ _ HH.out).mono ?_
      rintro e u2 ⟨rfl, hf2, hA2⟩
      have hB2 := hB1.kept hf2 (by simp)
      have hF2 := gb_trans hF1 hf2
      clear a4 hf2 hB1 hF1 hA1
      have a4 := hB2.cell 4
      go_wp2_with fail
      refine (getA hA2 _ _ _ (by simp [isWidth]) ⟨by omega, by omega, by omega, by omega⟩ _ HL.out).mono ?_
      rintro e u3 ⟨rfl, hf3, hA3⟩
      have hB3 := hB2.kept hf3 (by simp)
      have hF3 := gb_trans hF2 hf3
      clear a4 hf3 hB2 hF2 hA2
      go_wp2
      go_roundw
      case rel => exact ⟨4, by simp [isWidth], by omega, by go_num, hA3, hB3, hF3⟩
      case measure => first | (simp [intOf]; done) | (simp [intOf]; omega)

set_option maxRecDepth 100000 in
set_option maxHeartbeats 1000000 in
theorem numbers_4 (x0 x1 x2 x3 : Int) (own : Bool) (w : World) (hk : wd x1 = 4) (h2 : 0 ≤ x2 ∧ x2 < 18446744073709551616) (h3 : 0 ≤ x3 ∧ x3 < 18446744073709551616) :
    Calls Try.prog 6 #[.agg #[.int .i64 x0, .int .i64 x1, .int .u64 x2, .int .u64 x3, .bool own]] w fun e w' => e = .returned (.bool true) ∧ w.grownBy w' none := by
  go_enter Try.func6, Try.ntmps6
  go_wp2_with fail
  refine (new_2 _).mono ?_
  rintro e w1 ⟨zs, rfl, hf1, hA1, hzs, hl⟩
  have hB0 := (Box.new w 49 #[.int .i64 x0, .int .i64 x1, .int .u64 x2, .int .u64 x3, .bool own])
  have hB1 := hB0.kept hf1 (by simp)
  have hF1 := gb_trans (World.grownBy_alloc w (.cells #[.int .i64 x0, .int .i64 x1, .int .u64 x2, .int .u64 x3, .bool own] 49) none) hf1
  have a0 := hB1.cell 0
  have a1 := hB1.cell 1
  have a2 := hB1.cell 2
  have a3 := hB1.cell 3
  clear hf1 hB0 hzs
  simp only [World.size_alloc] at hA1
  go_wp2_with (first | (go_at_call 16; refine (num_any _ _).mono ?_; rintro e w' ⟨rfl, rfl⟩) | (go_at_call 21; refine (widthOf_any _ _).mono ?_; rintro e w' ⟨rfl, rfl⟩; rw [hk]) | (go_at_call 22; go_must (refine (within_ex _ 4072 (by omega) (by omega) _).mono ?_); rintro e w' ⟨r, rfl, rfl, hr0, hr1⟩))
  clear a0 a1 a2 a3
  obtain ⟨v, hv⟩ : ∃ v, v = x2 % 4294967296 := ⟨_, rfl⟩
  have hv0 : 0 ≤ v ∧ v < 4294967296 := by omega
  rw [← hv]
  have HV : Hid (v = x2 % 4294967296) := hv
  clear hv
  refine (putA hA1 _ _ _ _ (by simp [isWidth]) h3 ⟨by omega, by omega, by omega, by omega⟩).mono ?_
  rintro e w2 ⟨z2, rfl, hf2, hA2, hl2, hz2⟩
  have hB2 := hB1.kept hf2 (by simp)
  have hF2 := gb_own hF1 hf2 (by omega)
  have a3 := hB2.cell 3
  clear hf2 hB1 hF1 hA1
  go_wp2_with fail
  refine (putA hA2 _ _ _ _ (by simp [isWidth]) h3 ⟨by omega, by omega, by omega, by omega⟩).mono ?_
  rintro e w3 ⟨z3, rfl, hf3, hA3, hl3, hz3⟩
  have hB3 := hB2.kept hf3 (by simp)
  have hF3 := gb_own hF2 hf3 (by omega)
  clear a3 hf3 hB2 hF2 hA2
  have a4 := hB3.cell 4
  go_wp2_with fail
  refine (putA hA3 _ _ _ _ (by simp [isWidth]) hv0 ⟨by omega, by omega, by omega, by omega⟩).mono ?_
  rintro e w4 ⟨z4, rfl, hf4, hA4, hl4, hz4⟩
  have hB4 := hB3.kept hf4 (by simp)
  have hF4 := gb_own hF3 hf4 (by omega)
  clear a4 hf4 hB3 hF3 hA3
  have hl4' : z4.length = 8192 := by omega
  have G1 : Hid (getL z4 r.toNat (8 : Int).toNat 0 0 = x3) := by
    have e4 := hz4.out; have e3 := hz3.out; have e2 := hz2.out
    show _ = _
    rw [e4, get_apart _ _ _ _ _ _ (by left; show r.toNat + 8 ≤ _; omega), e3, get_apart _ _ _ _ _ _ (by left; show r.toNat + 8 ≤ _; omega), e2]
    exact get_put _ _ _ _ h3.1 h3.2 (by show r.toNat + 8 ≤ _; omega)
  have G2 : Hid (getL z4 (r + 8).toNat (4 : Int).toNat 0 0 = v) := by
    have e4 := hz4.out
    show _ = _
    rw [e4]
    exact get_put _ _ _ _ hv0.1 hv0.2 (by show (r + 8).toNat + 4 ≤ _; omega)
  have G3 : Hid (getL z4 (r + 8 + 4).toNat (8 : Int).toNat 0 0 = x3) := by
    have e4 := hz4.out; have e3 := hz3.out
    show _ = _
    rw [e4, get_apart _ _ _ _ _ _ (by right; show (r + 8).toNat + 4 ≤ _; omega), e3]
    exact get_put _ _ _ _ h3.1 h3.2 (by show (r + 8 + 4).toNat + 8 ≤ _; omega)
  clear hz2 hz3 hz4 hl hl2 hl3 hl4
  go_wp2_with fail
  refine (getA hA4 _ _ _ (by simp [isWidth]) ⟨by omega, by omega, by omega, by omega⟩ _ G1.out).mono ?_
  rintro e w5 ⟨rfl, hf5, hA5⟩
  have hB5 := hB4.kept hf5 (by simp)
  have hF5 := gb_trans hF4 hf5
  clear hf5 hB4 hF4 hA4
  have a4 := hB5.cell 4
  go_wp2_with fail
  refine (getA hA5 _ _ _ (by simp [isWidth]) ⟨by omega, by omega, by omega, by omega⟩ _ G2.out).mono ?_
  rintro e w6 ⟨rfl, hf6, hA6⟩
  have hB6 := hB5.kept hf6 (by simp)
  have hF6 := gb_trans hF5 hf6
  clear a4 hf6 hB5 hF5 hA5
  go_wp2_with fail
  refine (getA hA6 _ _ _ (by simp [isWidth]) ⟨by omega, by omega, by omega, by omega⟩ _ G3.out).mono ?_
  rintro e w7 ⟨rfl, hf7, hA7⟩
  have hB7 := hB6.kept hf7 (by simp)
  have hF7 := gb_trans hF6 hf7
  clear hf7 hB6 hF6 hA6
  have a3 := hB7.cell 3
  go_wp2
  go_loopw [14] (fun c wr => ∃ j : Int, isWidth j ∧ j ≤ 8 ∧ c = .int .i64 j ∧ IsA wr (w.heap.size + 1 + 1) (w.heap.size + 1) 4096 2 z4 ∧ Box wr 49 w.heap.size #[.int .i64 x0, .int .i64 x1, .int .u64 x2, .int .u64 x3, .bool own] ∧ w.grownBy wr none) (fun c _ => (intOf c).toNat)
  case atStart => exact ⟨4, by simp [isWidth], by omega, rfl, hA7, hB7, hF7⟩
  case round =>
    clear hA7 hB7 hF7 G1 G2 G3 a3
    obtain ⟨j, hj, hj8, rfl, hA, hB, hF⟩ := hrel
    rcases hj with rfl | rfl | rfl | rfl
    · have a4 := hB.cell 4
      go_wp2_with (first | (go_at_call 24; refine (get_nil _ _ _ _ (by simp [isWidth])).mono ?_; rintro e w' ⟨rfl, rfl⟩) | (go_at_call 23; refine (put_nil _ _ _ _ _ (by simp [isWidth])).mono ?_; rintro e w' ⟨rfl, rfl⟩))
      go_ret
      exact ⟨rfl, hF⟩
    · have a4 := hB.cell 4
      have q1 := getL_lt z4 (r + 8).toNat 1 hA.hz (by omega)
      have q2 := getL_lt z4 (r + 8 + 1).toNat 1 hA.hz (by omega)
      have q3 : getL z4 (r + 8).toNat (2 : Int).toNat 0 0 = getL z4 (r + 8).toNat 1 0 0 * pw 1 + getL z4 ((r + 8).toNat + 1) 1 0 0 := getL_halves _ _ 1 1
      rw [show (r + 8).toNat + 1 = (r + 8 + 1).toNat by omega] at q3
      obtain ⟨Hi, hHi⟩ : ∃ s, getL z4 (r + 8).toNat 1 0 0 = s := ⟨_, rfl⟩
      obtain ⟨Lo, hLo⟩ : ∃ s, getL z4 (r + 8 + 1).toNat 1 0 0 = s := ⟨_, rfl⟩
      rw [hHi] at q1 q3
      rw [hLo] at q2 q3
      rw [pw1] at q1 q2 q3
      have HH : Hid (getL z4 (r + 8).toNat 1 0 0 = Hi) := hHi
      have HL : Hid (getL z4 (r + 8 + 1).toNat 1 0 0 = Lo) := hLo
      have HQ : Hid (getL z4 (r + 8).toNat (2 : Int).toNat 0 0 = Hi * 256 + Lo) := q3
      clear hHi hLo q3
      go_wp2_with fail
      refine (getA hA _ _ _ (by simp [isWidth]) ⟨by omega, by omega, by omega, by omega⟩ _ HQ.out).mono ?_
      rintro e u1 ⟨rfl, hf1, hA1⟩
      have hB1 := hB.kept hf1 (by simp)
      have hF1 := gb_trans hF hf1
      clear a4 hf1 hB hF hA
      have a4 := hB1.cell 4
      go_wp2_with fail
      refine (getA hA1 _ _ _ (by simp [isWidth]) ⟨by omega, by omega, by omega, by omega⟩ _ HH.out).mono ?_
      rintro e u2 ⟨rfl, hf2, hA2⟩
      have hB2 := hB1.kept hf2 (by simp)
      have hF2 := gb_trans hF1 hf2
      clear a4 hf2 hB1 hF1 hA1
      have a4 := hB2.cell 4
      go_wp2_with fail
      refine (getA hA2 _ _ _ (by simp [isWidth]) ⟨by omega, by omega, by omega, by omega⟩ _ HL.out).mono ?_
      rintro e u3 ⟨rfl, hf3, hA3⟩
      have hB3 := hB2.kept hf3 (by simp)
      have hF3 := gb_trans hF2 hf3
      clear a4 hf3 hB2 hF2 hA2
      go_wp2
      go_roundw
      case rel => exact ⟨1, by simp [isWidth], by omega, by go_num, hA3, hB3, hF3⟩
      case measure => first | (simp [intOf]; done) | (simp [intOf]; omega)
    · have a4 := hB.cell 4
      have q1 := getL_lt z4 (r + 8).toNat 2 hA.hz (by omega)
      have q2 := getL_lt z4 (r + 8 + 2).toNat 2 hA.hz (by omega)
      have q3 : getL z4 (r + 8).toNat (4 : Int).toNat 0 0 = getL z4 (r + 8).toNat 2 0 0 * pw 2 + getL z4 ((r + 8).toNat + 2) 2 0 0 := getL_halves _ _ 2 2
      rw [show (r + 8).toNat + 2 = (r + 8 + 2).toNat by omega] at q3
      obtain ⟨Hi, hHi⟩ : ∃ s, getL z4 (r + 8).toNat 2 0 0 = s := ⟨_, rfl⟩
      obtain ⟨Lo, hLo⟩ : ∃ s, getL z4 (r + 8 + 2).toNat 2 0 0 = s := ⟨_, rfl⟩
      rw [hHi] at q1 q3
      rw [hLo] at q2 q3
      rw [pw2] at q1 q2 q3
      have HH : Hid (getL z4 (r + 8).toNat 2 0 0 = Hi) := hHi
      have HL : Hid (getL z4 (r + 8 + 2).toNat 2 0 0 = Lo) := hLo
      have HQ : Hid (getL z4 (r + 8).toNat (4 : Int).toNat 0 0 = Hi * 65536 + Lo) := q3
      clear hHi hLo q3
      go_wp2_with fail
      refine (getA hA _ _ _ (by simp [isWidth]) ⟨by omega, by omega, by omega, by omega⟩ _ HQ.out).mono ?_
      rintro e u1 ⟨rfl, hf1, hA1⟩
      have hB1 := hB.kept hf1 (by simp)
      have hF1 := gb_trans hF hf1
      clear a4 hf1 hB hF hA
      have a4 := hB1.cell 4
      go_wp2_with fail
      refine (getA hA1 _ _ _ (by simp [isWidth]) ⟨by omega, by omega, by omega, by omega⟩ _ HH.out).mono ?_
      rintro e u2 ⟨rfl, hf2, hA2⟩
      have hB2 := hB1.kept hf2 (by simp)
      have hF2 := gb_trans hF1 hf2
      clear a4 hf2 hB1 hF1 hA1
      have a4 := hB2.cell 4
      go_wp2_with fail
      refine (getA hA2 _ _ _ (by simp [isWidth]) ⟨by omega, by omega, by omega, by omega⟩ _ HL.out).mono ?_
      rintro e u3 ⟨rfl, hf3, hA3⟩
      have hB3 := hB2.kept hf3 (by simp)
      have hF3 := gb_trans hF2 hf3
      clear a4 hf3 hB2 hF2 hA2
      go_wp2
      go_roundw
      case rel => exact ⟨2, by simp [isWidth], by omega, by go_num, hA3, hB3, hF3⟩
      case measure => first | (simp [intOf]; done) | (simp [intOf]; omega)
    · have a4 := hB.cell 4
      have q1 := getL_lt z4 (r + 8).toNat 4 hA.hz (by omega)
      have q2 := getL_lt z4 (r + 8 + 4).toNat 4 hA.hz (by omega)
      have q3 : getL z4 (r + 8).toNat (8 : Int).toNat 0 0 = getL z4 (r + 8).toNat 4 0 0 * pw 4 + getL z4 ((r + 8).toNat + 4) 4 0 0 := getL_halves _ _ 4 4
      rw [show (r + 8).toNat + 4 = (r + 8 + 4).toNat by omega] at q3
      obtain ⟨Hi, hHi⟩ : ∃ s, getL z4 (r + 8).toNat 4 0 0 = s := ⟨_, rfl⟩
      obtain ⟨Lo, hLo⟩ : ∃ s, getL z4 (r + 8 + 4).toNat 4 0 0 = s := ⟨_, rfl⟩
      rw [hHi] at q1 q3
      rw [hLo] at q2 q3
      rw [pw4] at q1 q2 q3
      have HH : Hid (getL z4 (r + 8).toNat 4 0 0 = Hi) := hHi
      have HL : Hid (getL z4 (r + 8 + 4).toNat 4 0 0 = Lo) := hLo
      have HQ : Hid (getL z4 (r + 8).toNat (8 : Int).toNat 0 0 = Hi * 4294967296 + Lo) := q3
      clear hHi hLo q3
      go_wp2_with fail
      refine (getA hA _ _ _ (by simp [isWidth]) ⟨by omega, by omega, by omega, by omega⟩ _ HQ.out).mono ?_
      rintro e u1 ⟨rfl, hf1, hA1⟩
      have hB1 := hB.kept hf1 (by simp)
      have hF1 := gb_trans hF hf1
      clear a4 hf1 hB hF hA
      have a4 := hB1.cell 4
      go_wp2_with fail
      refine (getA hA1 _ _ _ (by simp [isWidth]) ⟨by omega, by omega, by omega, by omega⟩ _ HH.out).mono ?_
      rintro e u2 ⟨rfl, hf2, hA2⟩
      have hB2 := hB1.kept hf2 (by simp)
      have hF2 := gb_trans hF1 hf2
      clear a4 hf2 hB1 hF1 hA1
      have a4 := hB2.cell 4
      go_wp2_with fail
      refine (getA hA2 _ _ _ (by simp [isWidth]) ⟨by omega, by omega, by omega, by omega⟩ _ HL.out).mono ?_
      rintro e u3 ⟨rfl, hf3, hA3⟩
      have hB3 := hB2.kept hf3 (by simp)
      have hF3 := gb_trans hF2 hf3
      clear a4 hf3 hB2 hF2 hA2
      go_wp2
      go_roundw
      case rel => exact ⟨4, by simp [isWidth], by omega, by go_num, hA3, hB3, hF3⟩
      case measure => first | (simp [intOf]; done) | (simp [intOf]; omega)

set_option maxRecDepth 100000 in
set_option maxHeartbeats 1000000 in
theorem numbers_8 (x0 x1 x2 x3 : Int) (own : Bool) (w : World) (hk : wd x1 = 8) (h2 : 0 ≤ x2 ∧ x2 < 18446744073709551616) (h3 : 0 ≤ x3 ∧ x3 < 18446744073709551616) :
    Calls Try.prog 6 #[.agg #[.int .i64 x0, .int .i64 x1, .int .u64 x2, .int .u64 x3, .bool own]] w fun e w' => e = .returned (.bool true) ∧ w.grownBy w' none := by
  go_enter Try.func6, Try.ntmps6
  go_wp2_with fail
  refine (new_2 _).mono ?_
  rintro e w1 ⟨zs, rfl, hf1, hA1, hzs, hl⟩
  have hB0 := (Box.new w 49 #[.int .i64 x0, .int .i64 x1, .int .u64 x2, .int .u64 x3, .bool own])
  have hB1 := hB0.kept hf1 (by simp)
  have hF1 := gb_trans (World.grownBy_alloc w (.cells #[.int .i64 x0, .int .i64 x1, .int .u64 x2, .int .u64 x3, .bool own] 49) none) hf1
  have a0 := hB1.cell 0
  have a1 := hB1.cell 1
  have a2 := hB1.cell 2
  have a3 := hB1.cell 3
  clear hf1 hB0 hzs
  simp only [World.size_alloc] at hA1
  go_wp2_with (first | (go_at_call 16; refine (num_any _ _).mono ?_; rintro e w' ⟨rfl, rfl⟩) | (go_at_call 21; refine (widthOf_any _ _).mono ?_; rintro e w' ⟨rfl, rfl⟩; rw [hk]) | (go_at_call 22; go_must (refine (within_ex _ 4072 (by omega) (by omega) _).mono ?_); rintro e w' ⟨r, rfl, rfl, hr0, hr1⟩))
  clear a0 a1 a2 a3
  have hv0 := h2
  refine (putA hA1 _ _ _ _ (by simp [isWidth]) h3 ⟨by omega, by omega, by omega, by omega⟩).mono ?_
  rintro e w2 ⟨z2, rfl, hf2, hA2, hl2, hz2⟩
  have hB2 := hB1.kept hf2 (by simp)
  have hF2 := gb_own hF1 hf2 (by omega)
  have a3 := hB2.cell 3
  clear hf2 hB1 hF1 hA1
  go_wp2_with fail
  refine (putA hA2 _ _ _ _ (by simp [isWidth]) h3 ⟨by omega, by omega, by omega, by omega⟩).mono ?_
  rintro e w3 ⟨z3, rfl, hf3, hA3, hl3, hz3⟩
  have hB3 := hB2.kept hf3 (by simp)
  have hF3 := gb_own hF2 hf3 (by omega)
  clear a3 hf3 hB2 hF2 hA2
  have a4 := hB3.cell 4
  go_wp2_with fail
  refine (putA hA3 _ _ _ _ (by simp [isWidth]) hv0 ⟨by omega, by omega, by omega, by omega⟩).mono ?_
  rintro e w4 ⟨z4, rfl, hf4, hA4, hl4, hz4⟩
  have hB4 := hB3.kept hf4 (by simp)
  have hF4 := gb_own hF3 hf4 (by omega)
  clear a4 hf4 hB3 hF3 hA3
  have hl4' : z4.length = 8192 := by omega
  have G1 : Hid (getL z4 r.toNat (8 : Int).toNat 0 0 = x3) := by
    have e4 := hz4.out; have e3 := hz3.out; have e2 := hz2.out
    show _ = _
    rw [e4, get_apart _ _ _ _ _ _ (by left; show r.toNat + 8 ≤ _; omega), e3, get_apart _ _ _ _ _ _ (by left; show r.toNat + 8 ≤ _; omega), e2]
    exact get_put _ _ _ _ h3.1 h3.2 (by show r.toNat + 8 ≤ _; omega)
  have G2 : Hid (getL z4 (r + 8).toNat (8 : Int).toNat 0 0 = x2) := by
    have e4 := hz4.out
    show _ = _
    rw [e4]
    exact get_put _ _ _ _ hv0.1 hv0.2 (by show (r + 8).toNat + 8 ≤ _; omega)
  have G3 : Hid (getL z4 (r + 8 + 8).toNat (8 : Int).toNat 0 0 = x3) := by
    have e4 := hz4.out; have e3 := hz3.out
    show _ = _
    rw [e4, get_apart _ _ _ _ _ _ (by right; show (r + 8).toNat + 8 ≤ _; omega), e3]
    exact get_put _ _ _ _ h3.1 h3.2 (by show (r + 8 + 8).toNat + 8 ≤ _; omega)
  clear hz2 hz3 hz4 hl hl2 hl3 hl4
  go_wp2_with fail
  refine (getA hA4 _ _ _ (by simp [isWidth]) ⟨by omega, by omega, by omega, by omega⟩ _ G1.out).mono ?_
  rintro e w5 ⟨rfl, hf5, hA5⟩
  have hB5 := hB4.kept hf5 (by simp)
  have hF5 := gb_trans hF4 hf5
  clear hf5 hB4 hF4 hA4
  have a4 := hB5.cell 4
  go_wp2_with fail
  refine (getA hA5 _ _ _ (by simp [isWidth]) ⟨by omega, by omega, by omega, by omega⟩ _ G2.out).mono ?_
  rintro e w6 ⟨rfl, hf6, hA6⟩
  have hB6 := hB5.kept hf6 (by simp)
  have hF6 := gb_trans hF5 hf6
  clear a4 hf6 hB5 hF5 hA5
  go_wp2_with fail
  refine (getA hA6 _ _ _ (by simp [isWidth]) ⟨by omega, by omega, by omega, by omega⟩ _ G3.out).mono ?_
  rintro e w7 ⟨rfl, hf7, hA7⟩
  have hB7 := hB6.kept hf7 (by simp)
  have hF7 := gb_trans hF6 hf7
  clear hf7 hB6 hF6 hA6
  have a3 := hB7.cell 3
  go_wp2
  go_loopw [14] (fun c wr => ∃ j : Int, isWidth j ∧ j ≤ 8 ∧ c = .int .i64 j ∧ IsA wr (w.heap.size + 1 + 1) (w.heap.size + 1) 4096 2 z4 ∧ Box wr 49 w.heap.size #[.int .i64 x0, .int .i64 x1, .int .u64 x2, .int .u64 x3, .bool own] ∧ w.grownBy wr none) (fun c _ => (intOf c).toNat)
  case atStart => exact ⟨8, by simp [isWidth], by omega, rfl, hA7, hB7, hF7⟩
  case round =>
    clear hA7 hB7 hF7 G1 G2 G3 a3
    obtain ⟨j, hj, hj8, rfl, hA, hB, hF⟩ := hrel
    rcases hj with rfl | rfl | rfl | rfl
    · have a4 := hB.cell 4
      go_wp2_with (first | (go_at_call 24; refine (get_nil _ _ _ _ (by simp [isWidth])).mono ?_; rintro e w' ⟨rfl, rfl⟩) | (go_at_call 23; refine (put_nil _ _ _ _ _ (by simp [isWidth])).mono ?_; rintro e w' ⟨rfl, rfl⟩))
      go_ret
      exact ⟨rfl, hF⟩
    · have a4 := hB.cell 4
      have q1 := getL_lt z4 (r + 8).toNat 1 hA.hz (by omega)
      have q2 := getL_lt z4 (r + 8 + 1).toNat 1 hA.hz (by omega)
      have q3 : getL z4 (r + 8).toNat (2 : Int).toNat 0 0 = getL z4 (r + 8).toNat 1 0 0 * pw 1 + getL z4 ((r + 8).toNat + 1) 1 0 0 := getL_halves _ _ 1 1
      rw [show (r + 8).toNat + 1 = (r + 8 + 1).toNat by omega] at q3
      obtain ⟨Hi, hHi⟩ : ∃ s, getL z4 (r + 8).toNat 1 0 0 = s := ⟨_, rfl⟩
      obtain ⟨Lo, hLo⟩ : ∃ s, getL z4 (r + 8 + 1).toNat 1 0 0 = s := ⟨_, rfl⟩
      rw [hHi] at q1 q3
      rw [hLo] at q2 q3
      rw [pw1] at q1 q2 q3
      have HH : Hid (getL z4 (r + 8).toNat 1 0 0 = Hi) := hHi
      have HL : Hid (getL z4 (r + 8 + 1).toNat 1 0 0 = Lo) := hLo
      have HQ : Hid (getL z4 (r + 8).toNat (2 : Int).toNat 0 0 = Hi * 256 + Lo) := q3
      clear hHi hLo q3
      go_wp2_with fail
      refine (getA hA _ _ _ (by simp [isWidth]) ⟨by omega, by omega, by omega, by omega⟩ _ HQ.out).mono ?_
      rintro e u1 ⟨rfl, hf1, hA1⟩
      have hB1 := hB.kept hf1 (by simp)
      have hF1 := gb_trans hF hf1
      clear a4 hf1 hB hF hA
      have a4 := hB1.cell 4
      go_wp2_with fail
      refine (getA hA1 _ _ _ (by simp [isWidth]) ⟨by omega, by omega, by omega, by omega⟩ _ HH.out).mono ?_
      rintro e u2 ⟨rfl, hf2, hA2⟩
      have hB2 := hB1.kept hf2 (by simp)
      have hF2 := gb_trans hF1 hf2
      clear a4 hf2 hB1 hF1 hA1
      have a4 := hB2.cell 4
      go_wp2_with fail
      refine (getA hA2 _ _ _ (by simp [isWidth]) ⟨by omega, by omega, by omega, by omega⟩ _ HL.out).mono ?_
      rintro e u3 ⟨rfl, hf3, hA3⟩
      have hB3 := hB2.kept hf3 (by simp)
      have hF3 := gb_trans hF2 hf3
      clear a4 hf3 hB2 hF2 hA2
      go_wp2
      go_roundw
      case rel => exact ⟨1, by simp [isWidth], by omega, by go_num, hA3, hB3, hF3⟩
      case measure => first | (simp [intOf]; done) | (simp [intOf]; omega)
    · have a4 := hB.cell 4
      have q1 := getL_lt z4 (r + 8).toNat 2 hA.hz (by omega)
      have q2 := getL_lt z4 (r + 8 + 2).toNat 2 hA.hz (by omega)
      have q3 : getL z4 (r + 8).toNat (4 : Int).toNat 0 0 = getL z4 (r + 8).toNat 2 0 0 * pw 2 + getL z4 ((r + 8).toNat + 2) 2 0 0 := getL_halves _ _ 2 2
      rw [show (r + 8).toNat + 2 = (r + 8 + 2).toNat by omega] at q3
      obtain ⟨Hi, hHi⟩ : ∃ s, getL z4 (r + 8).toNat 2 0 0 = s := ⟨_, rfl⟩
      obtain ⟨Lo, hLo⟩ : ∃ s, getL z4 (r + 8 + 2).toNat 2 0 0 = s := ⟨_, rfl⟩
      rw [hHi] at q1 q3
      rw [hLo] at q2 q3
      rw [pw2] at q1 q2 q3
      have HH : Hid (getL z4 (r + 8).toNat 2 0 0 = Hi) := hHi
      have HL : Hid (getL z4 (r + 8 + 2).toNat 2 0 0 = Lo) := hLo
      have HQ : Hid (getL z4 (r + 8).toNat (4 : Int).toNat 0 0 = Hi * 65536 + Lo) := q3
      clear hHi hLo q3
      go_wp2_with fail
      refine (getA hA _ _ _ (by simp [isWidth]) ⟨by omega, by omega, by omega, by omega⟩ _ HQ.out).mono ?_
      rintro e u1 ⟨rfl, hf1, hA1⟩
      have hB1 := hB.kept hf1 (by simp)
      have hF1 := gb_trans hF hf1
      clear a4 hf1 hB hF hA
      have a4 := hB1.cell 4
      go_wp2_with fail
      refine (getA hA1 _ _ _ (by simp [isWidth]) ⟨by omega, by omega, by omega, by omega⟩ _ HH.out).mono ?_
      rintro e u2 ⟨rfl, hf2, hA2⟩
      have hB2 := hB1.kept hf2 (by simp)
      have hF2 := gb_trans hF1 hf2
      clear a4 hf2 hB1 hF1 hA1
      have a4 := hB2.cell 4
      go_wp2_with fail
      refine (getA hA2 _ _ _ (by simp [isWidth]) ⟨by omega, by omega, by omega, by omega⟩ _ HL.out).mono ?_
      rintro e u3 ⟨rfl, hf3, hA3⟩
      have hB3 := hB2.kept hf3 (by simp)
      have hF3 := gb_trans hF2 hf3
      clear a4 hf3 hB2 hF2 hA2
      go_wp2
      go_roundw
      case rel => exact ⟨2, by simp [isWidth], by omega, by go_num, hA3, hB3, hF3⟩
      case measure => first | (simp [intOf]; done) | (simp [intOf]; omega)
    · have a4 := hB.cell 4
      have q1 := getL_lt z4 (r + 8).toNat 4 hA.hz (by omega)
      have q2 := getL_lt z4 (r + 8 + 4).toNat 4 hA.hz (by omega)
      have q3 : getL z4 (r + 8).toNat (8 : Int).toNat 0 0 = getL z4 (r + 8).toNat 4 0 0 * pw 4 + getL z4 ((r + 8).toNat + 4) 4 0 0 := getL_halves _ _ 4 4
      rw [show (r + 8).toNat + 4 = (r + 8 + 4).toNat by omega] at q3
      obtain ⟨Hi, hHi⟩ : ∃ s, getL z4 (r + 8).toNat 4 0 0 = s := ⟨_, rfl⟩
      obtain ⟨Lo, hLo⟩ : ∃ s, getL z4 (r + 8 + 4).toNat 4 0 0 = s := ⟨_, rfl⟩
      rw [hHi] at q1 q3
      rw [hLo] at q2 q3
      rw [pw4] at q1 q2 q3
      have HH : Hid (getL z4 (r + 8).toNat 4 0 0 = Hi) := hHi
      have HL : Hid (getL z4 (r + 8 + 4).toNat 4 0 0 = Lo) := hLo
      have HQ : Hid (getL z4 (r + 8).toNat (8 : Int).toNat 0 0 = Hi * 4294967296 + Lo) := q3
      clear hHi hLo q3
      go_wp2_with fail
      refine (getA hA _ _ _ (by simp [isWidth]) ⟨by omega, by omega, by omega, by omega⟩ _ HQ.out).mono ?_
      rintro e u1 ⟨rfl, hf1, hA1⟩
      have hB1 := hB.kept hf1 (by simp)
      have hF1 := gb_trans hF hf1
      clear a4 hf1 hB hF hA
      have a4 := hB1.cell 4
      go_wp2_with fail
      refine (getA hA1 _ _ _ (by simp [isWidth]) ⟨by omega, by omega, by omega, by omega⟩ _ HH.out).mono ?_
      rintro e u2 ⟨rfl, hf2, hA2⟩
      have hB2 := hB1.kept hf2 (by simp)
      have hF2 := gb_trans hF1 hf2
      clear a4 hf2 hB1 hF1 hA1
      have a4 := hB2.cell 4
      go_wp2_with fail
      refine (getA hA2 _ _ _ (by simp [isWidth]) ⟨by omega, by omega, by omega, by omega⟩ _ HL.out).mono ?_
      rintro e u3 ⟨rfl, hf3, hA3⟩
      have hB3 := hB2.kept hf3 (by simp)
      have hF3 := gb_trans hF2 hf3
      clear a4 hf3 hB2 hF2 hA2
      go_wp2
      go_roundw
      case rel => exact ⟨4, by simp [isWidth], by omega, by go_num, hA3, hB3, hF3⟩
      case measure => first | (simp [intOf]; done) | (simp [intOf]; omega)

end Go.Proofs.Ytknhoncnaigogaa

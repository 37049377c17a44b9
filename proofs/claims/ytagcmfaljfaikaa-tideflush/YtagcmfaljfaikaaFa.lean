/-
  TideFlush's walk.
-/
import Derived.Test.YtagcmfaljfaikaaZ
import Derived.Deep.RegionLaw
namespace Go.Proofs.Ytagcmfaljfaikaa
open Go.RowKit
set_option linter.unusedVariables false

set_option maxRecDepth 100000 in
set_option maxHeartbeats 16000000 in
theorem tflush_any (a : Option Addr) (n c : Nat) (w : World) (hn : n ≤ maxLen) (hin : DayIn w a n) : Calls Try.prog 7 #[.slice a n c] w fun y w' => y = .returned (.bool true) ∧ w.grownBy w' none := by
  have hn' : (n : Int) ≤ 9223372036854775807 := by unfold maxLen at hn; omega
  have c25 := new_25 1 0 0 (by unfold badNew; omega) w
  have hB : Box (w.alloc (.cells (ckA ⟨1, 0, 0⟩) 102)) 102 w.heap.size (ckA ⟨1, 0, 0⟩) := Box.new _ _ _
  have hal := World.grownBy_alloc w (.cells (ckA ⟨1, 0, 0⟩) 102) none
  go_enter Try.func7, Try.ntmps7
  go_wp2_with fail
  refine c25.mono ?_
  rintro y w1 ⟨rfl, rfl⟩
  clear c25
  obtain ⟨cb, hcb⟩ : ∃ cb, cb = w.heap.size := ⟨_, rfl⟩
  rw [← hcb] at hB ⊢
  have hcbl : w.heap.size ≤ cb := by omega
  clear hcb
  generalize w.alloc (.cells (ckA ⟨1, 0, 0⟩) 102) = W at *
  have hal2 := World.grownBy_alloc W (.cells (wA cb (.slice none 0 0) 0 1 0) 76) none
  have hD : Box (W.alloc (.cells (wA cb (.slice none 0 0) 0 1 0) 76)) 76 W.heap.size (wA cb (.slice none 0 0) 0 1 0) := Box.new _ _ _
  have hB2 := hB.kept hal2 (by simp)
  have hfs : FSt w _ W.heap.size cb (.slice none 0 0) 0 0 1 0 := ⟨⟨hD, ⟨rfl, .inl ⟨rfl, rfl⟩⟩, hal.size⟩, hB2, gb_trans hal hal2, hcbl, Nat.le_refl _, by omega, by omega, .inl rfl, by omega⟩
  unfold wA at hfs
  clear hal2 hD hB2 hB
  go_wp2_with (first | (go_at_call 16; go_must (refine (num_16 _ _).mono ?_); rintro y w' ⟨rfl, hw'⟩; have hw2 := hw'.symm; subst hw2) | fail)
  obtain ⟨wb, hwb⟩ : ∃ wb, wb = W.heap.size := ⟨_, rfl⟩
  rw [← hwb] at hfs ⊢
  clear hwb
  go_loopw [6] (fun v wr => ∃ (i : Nat) (tv : Value) (m d : Nat) (now comes : Int), i ≤ n ∧ i ≤ 400 ∧ v = .int .i64 i ∧ m ≤ i ∧ now ≤ 1 + 1000000 * i ∧ FSt w wr wb cb tv m d now comes) (fun v _ => n - (intOf v).toNat)
  case atStart => exact ⟨0, _, _, _, _, _, by omega, by omega, rfl, Nat.le_refl _, by omega, hfs⟩
  case round =>
    clear hfs
    obtain ⟨i, tv, m, d, now, comes, hi, hi4, rfl, hmi, hni, hs⟩ := hrel
    by_cases hlt2 : i < n ∧ i < 400
    · obtain ⟨hin1, hin2⟩ := hlt2
      obtain ⟨bb, oo, rfl, x0, x1, x2, y0, y1, y2, z0, z1⟩ := hin i hin1
      have hall : ∀ V, w.grownBy V none → V.cell? ⟨bb, oo + i * 3, none⟩ = some (.int .i64 x0) ∧ V.cell? ⟨bb, oo + i * 3 + 1, none⟩ = some (.int .i64 x1) ∧ V.cell? ⟨bb, oo + i * 3 + 2, none⟩ = some (.bool x2) := fun V hV => ⟨gb_cellN hV y0, gb_cellN hV y1, gb_cellN hV y2⟩
      replace y0 := gb_cellN hs.g y0
      replace y1 := gb_cellN hs.g y1
      replace y2 := gb_cellN hs.g y2
      have hd1 : decide ((i : Int) < n) = true := by simp; omega
      have hd2 : decide ((i : Int) < 400) = true := by simp; omega
      have hd3 : decide (i < n) = true := by simp; omega
      have hd4 : decide (i < 400) = true := by simp; omega
      have hib : (i : Int) < n := by omega
      have hday := day_26 (hs.kept0 (gb_drew (gb_refl wr none))) (by omega) (by omega) x0 x1 x2 z1
      unfold dayV DayPost at hday
      clear hs hin z0 z1
      go_wp2
      go_region_law ((first | (go_simp; go_at_call 27; refine h27.mono ?_; rintro y w4 ⟨rfl, hw4⟩; have hw5 := hw4.symm; subst hw5) | (go_simp; go_at_call 26; refine hday.mono ?_; rintro y w3 ⟨rfl, tv3, m3, d3, now3, comes3, hm3, hn3, hs3⟩; have c3 := hs3.cells.2.2.2.1; have h27 := now_27 hs3.ck)))
      all_goals
        clear hday h27 hall y0 y1 y2
        obtain ⟨ao, cp, hdv, _, _, hmax, hpos⟩ := row_shape hs3.th.row
        subst hdv
        obtain ⟨e0, e1, e2, e3, e4⟩ := hs3.cells
        go_wp2
        go_loopw [7] (fun v wq => ∃ k : Nat, k ≤ m3 ∧ v = .int .i64 k ∧ w3.grownBy wq none) (fun v _ => m3 - (intOf v).toNat)
        case atStart => exact ⟨0, by omega, rfl, gb_refl _ _⟩
        case round =>
          obtain ⟨k, hk, rfl, hg⟩ := hrel
          have hz := hs3.kept0 hg
          clear e0 e1 e2 e3 e4 c3
          obtain ⟨e0, e1, e2, e3, e4⟩ := hz.cells
          by_cases hkm : k < m3
          · obtain ⟨g, rfl⟩ := hpos (by omega)
            have hr := hz.th.row
            have t0 := row_cell hr (k * 2) _ (by have := rng_get (bornC_len d3) (n := m3) (i := k) (j := 0) hkm (by omega); simpa [bornC] using this)
            have t1 := row_cell hr (k * 2 + 1) _ (by have := rng_get (bornC_len d3) (n := m3) (i := k) (j := 1) hkm (by omega); simpa [bornC] using this)
            have h27 := fun nq => now_27 (w := wr.drewN nq) (b := cb) (k := ⟨now3, d3, pend comes3⟩) hz.ck
            have h28 := fun nq => cut_28 (w := wr.drewN nq) (b := cb) (k := ⟨now3, d3, pend comes3⟩) hz.ck
            have h11 := fun W => dead_11 0 ((k : Int) + 1) now3 d3 W
            rw [show decide ((1 ≤ (0 : Int) ∧ (0 : Int) ≤ now3) ∨ (k : Int) + 1 ≤ (d3 : Int)) = decide (k < d3) from decide_eq_decide.2 (by omega)] at h11
            generalize decide (k < d3) = gone at *
            have hib : (k : Int) < m3 := by omega
            have hgg : (gone != gone) = false := by simp
            clear hs3 hz hr hpos
            go_wp2
            go_quiet ((first | (go_at_call 27; with_reducible exact Calls.quiet_of_same (h27 _)) | (go_at_call 28; with_reducible exact Calls.quiet_of_same (h28 _)) | (go_at_call 11; with_reducible exact Calls.quiet_of_same (h11 _))))
            go_wp2
            exact ⟨⟨k + 1, by omega, by go_num, gb_drewN hg _⟩, by simp [intOf]; omega⟩
          · obtain rfl : k = m3 := by omega
            have h27 := fun nq => now_27 (w := wr.drewN nq) (b := cb) (k := ⟨now3, d3, pend comes3⟩) hz.ck
            have h28 := fun nq => cut_28 (w := wr.drewN nq) (b := cb) (k := ⟨now3, d3, pend comes3⟩) hz.ck
            have hdm := hz.dm
            have h11 := fun W => dead_11 0 ((k : Int) + 1) now3 d3 W
            rw [show decide ((1 ≤ (0 : Int) ∧ (0 : Int) ≤ now3) ∨ (k : Int) + 1 ≤ (d3 : Int)) = false from by simp; omega] at h11
            have hmw : IntKind.u64.wrap ((k : Int) + 1) = (k : Int) + 1 := by simp [IntKind.wrap, IntKind.bits, IntKind.signed]; omega
            have hfin := fun nq => hz.kept0 (gb_drewN (gb_refl wr none) nq)
            clear hs3 hz hpos
            go_wp2
            go_quiet ((first | (go_at_call 27; with_reducible exact Calls.quiet_of_same (h27 _)) | (go_at_call 28; with_reducible exact Calls.quiet_of_same (h28 _)) | (go_at_call 11; with_reducible exact Calls.quiet_of_same (h11 _))))
            go_wp2_with fail
            exact ⟨⟨i + 1, _, _, _, _, _, by omega, by omega, by go_num, by omega, by omega, hfin _⟩, by simp [intOf]; omega⟩
    · have h13 := wakes_13 wr
      have hg := hs.g
      clear hin hs
      by_cases hn2 : i < n
      · have hd1 : decide ((i : Int) < n) = true := by simp; omega
        have hd2 : decide ((i : Int) < 400) = false := by simp; omega
        have hd3 : decide (i < n) = true := by simp; omega
        have hd4 : decide (i < 400) = false := by simp; omega
        go_wp2_with (first | (go_at_call 13; go_must (refine h13.mono ?_); rintro y w' ⟨rfl, hg'⟩) | fail)
        go_ret
        exact ⟨rfl, gb_trans hg hg'⟩
      · have hd1 : decide ((i : Int) < n) = false := by simp; omega
        have hd3 : decide (i < n) = false := by simp; omega
        go_wp2_with (first | (go_at_call 13; go_must (refine h13.mono ?_); rintro y w' ⟨rfl, hg'⟩) | fail)
        go_ret
        exact ⟨rfl, gb_trans hg hg'⟩

end Go.Proofs.Ytagcmfaljfaikaa

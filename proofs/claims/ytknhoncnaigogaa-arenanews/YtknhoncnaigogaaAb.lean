/-
  ArenaNews, walked.
-/
import Derived.Test.YtknhoncnaigogaaAa
import Derived.Test.YtknhoncnaigogaaX
import Derived.Test.YtknhoncnaigogaaY
namespace Go.Proofs.Ytknhoncnaigogaa
open Go.RowKit
set_option linter.unusedVariables false

/-- The sizes that a page may have. -/
def kk (j : Nat) : Nat := 4096 * 2 ^ j
theorem kk_vals : kk 0 = 4096 ∧ kk 1 = 8192 ∧ kk 2 = 16384 ∧ kk 3 = 32768 ∧ kk 4 = 65536 ∧ kk 5 = 131072 ∧ kk 6 = 262144 ∧ kk 7 = 524288 ∧ kk 8 = 1048576 ∧ kk 9 = 2097152 := by decide
theorem kk_succ (j : Nat) : kk (j + 1) = 2 * kk j := by unfold kk; rw [Nat.pow_succ]; omega
theorem nine (j : Nat) (h : j ≤ 9) : j = 0 ∨ j = 1 ∨ j = 2 ∨ j = 3 ∨ j = 4 ∨ j = 5 ∨ j = 6 ∨ j = 7 ∨ j = 8 ∨ j = 9 := by omega
theorem kk_le (j : Nat) (h : j ≤ 9) : 4096 ≤ kk j ∧ kk j ≤ 2097152 ∧ (j ≤ 8 → kk j ≤ 1048576) ∧ (j = 9 → 1048576 < kk j) := by
  have := kk_vals
  rcases nine j h with rfl | rfl | rfl | rfl | rfl | rfl | rfl | rfl | rfl | rfl <;> omega
theorem kk_lt (i j : Nat) (h : i < j) : kk i < kk j := by
  unfold kk
  have := Nat.pow_lt_pow_right (a := 2) (by omega) h
  omega
theorem kk_page9 : ∀ j : Fin 9, pageB (kk j.val : Int) = true := by decide +kernel
theorem kk_page (j : Nat) (h : j ≤ 8) : pageB (kk j : Int) = true := kk_page9 ⟨j, by omega⟩
theorem kk_pow (j : Nat) (h : j ≤ 8) : ∃ k, kk j = 2 ^ k ∧ 12 ≤ k ∧ k ≤ 20 := ⟨12 + j, by unfold kk; rw [Nat.pow_add], by omega, by omega⟩
theorem page_kk (n : Int) (h : pageB n = true) : ∃ j, j ≤ 8 ∧ n = kk j := by
  obtain ⟨k, rfl, h1, h2⟩ := page_pow n h
  refine ⟨k - 12, by omega, ?_⟩
  unfold kk
  rw [show k = 12 + (k - 12) by omega, Nat.pow_add]
  simp

/-- The pairs that came in. -/
def PairsIn (w : World) (a : Option Addr) (n : Nat) : Prop := ∀ i, i < n → ∃ b o, a = some ⟨b, o, none⟩ ∧ ∃ (x0 x1 : Int),
  w.cell? ⟨b, o + i * 2, none⟩ = some (.int .i64 x0) ∧ w.cell? ⟨b, o + i * 2 + 1, none⟩ = some (.int .i64 x1) ∧
  (x0 ≤ 9223372036854775807 ∧ -9223372036854775808 ≤ x0) ∧ (x1 ≤ 9223372036854775807 ∧ -9223372036854775808 ≤ x1)

set_option maxHeartbeats 2000000 in
set_option maxRecDepth 100000 in
theorem news_any (a : Option Addr) (n c : Nat) (w : World) (hn : n ≤ maxLen) (hin : PairsIn w a n) :
    Calls Try.prog 4 #[.slice a n c] w fun e w' => e = .returned (.bool true) ∧ w.grownBy w' none := by
  unfold maxLen at hn
  go_enter Try.func4, Try.ntmps4
  go_wp2
  go_loopw [3] (fun v wr => ∃ i : Nat, i ≤ 50 ∧ v = .int .i64 i ∧ w.grownBy wr none) (fun v _ => 50 - (intOf v).toNat)
  case atStart => exact ⟨0, by omega, rfl, gb_refl _ _⟩
  case round =>
    obtain ⟨i, hi, rfl, hF⟩ := hrel
    by_cases hlt : i < n
    · by_cases h50 : i < 50
      · obtain ⟨lb, lo, rfl, pg, m, c0, c1, hpb, hmb⟩ := hin i hlt
        have d0 := gb_cell hF c0
        have d1 := gb_cell hF c1
        have hdi : decide ((i : Int) < n) = true := by simp; omega
        have hd6 : decide ((i : Int) < 50) = true := by simp; omega
        have hii : (0 : Int) ≤ (i : Int) := by omega
        have hin2 : (i : Int) < (n : Int) := by omega
        clear c0 c1 hin
        by_cases hR : ∃ T, T ≤ 8 ∧ pg = kk T ∧ 1 ≤ m ∧ m ≤ 1024
        · obtain ⟨T, hT8, rfl, hm1, hm2⟩ := hR
          obtain ⟨mm, rfl⟩ := Int.eq_ofNat_of_zero_le (show 0 ≤ m by omega)
          have hTb := kk_le T (by omega)
          go_wp2
          go_quiet (fail)
          go_wp2
          go_loopw [6, 7] (fun r k wr' => ∃ j : Nat, j ≤ 9 ∧ k = .int .i64 (kk j) ∧ r = .bool (decide (T < j)) ∧ wr' = wr.drewN nq) (fun _ k _ => 2097153 - (intOf k).toNat)
          case atStart => exact ⟨0, by omega, rfl, rfl, rfl⟩
          case round =>
            obtain ⟨j, hj, rfl, rfl, rfl⟩ := hrel
            have hjb := kk_le j hj
            by_cases hj9 : j = 9
            · have hjk := hjb.2.2.2 hj9
              have hTj : decide (T < j) = true := by simp; omega
              clear hj9 hjb
              by_cases hD : (4194304 : Int) / (kk T : Int) < (mm : Int)
              · go_wp2
                go_roundw
                case rel => exact ⟨i + 1, by omega, by go_num, gb_drewN hF _⟩
                case measure => simp [intOf]; omega
              · have hle : mm * kk T ≤ 4194304 := by
                  have h1 : (mm : Int) ≤ 4194304 / (kk T : Int) := by omega
                  have h2 := (Int.le_ediv_iff_mul_le (show (0 : Int) < (kk T : Int) by omega)).1 h1
                  have h3 : ((mm * kk T : Nat) : Int) ≤ 4194304 := by rw [Int.natCast_mul]; exact h2
                  omega
                have hnew := new_yes (kk T) mm (wr.drewN nq) (kk_pow T hT8) (kk_page T hT8) (by omega)
                have hNN : (kk T : Int) * (mm : Int) = ((kk T * mm : Nat) : Int) := by simp
                have hXX : (kk T : Int) * ((mm : Int) - 1) = ((kk T * (mm - 1) : Nat) : Int) := by
                  rw [Int.natCast_mul, Int.natCast_sub (by omega)]; rfl
                have hXN : kk T * (mm - 1) + kk T = kk T * mm := by
                  have : mm = (mm - 1) + 1 := by omega
                  conv => rhs; rw [this, Nat.mul_add, Nat.mul_one]
                have hNb : kk T * mm ≤ 4194304 := by rw [Nat.mul_comm]; exact hle
                have hmod : ((kk T * (mm - 1) : Nat) : Int) % (kk T : Int) = 0 := by rw [Int.natCast_mul]; exact Int.mul_emod_right _ _
                obtain ⟨N, hN⟩ : ∃ N, kk T * mm = N := ⟨_, rfl⟩
                obtain ⟨X, hX⟩ : ∃ X, kk T * (mm - 1) = X := ⟨_, rfl⟩
                rw [hN] at hnew hNN hXN hNb
                rw [hX] at hXX hXN hmod
                obtain ⟨pg, hpg⟩ : ∃ pg, pg = kk T := ⟨_, rfl⟩
                have hmk := run_make_bytes (kk T) (by omega)
                clear hle hN hX hpg
                go_wp2_with fail
                refine hnew.mono ?_
                rintro e u1 ⟨rfl, hg1, hA1⟩
                have c0' := hA1.c0
                have c1' := hA1.c1
                have c2' := hA1.c2
                rw [List.length_replicate] at c2'
                have hF1 := gb_trans (gb_drewN hF nq) hg1
                have hz1 : (wr.drewN nq).heap.size + 2 ≤ u1.heap.size := (Array.getElem?_eq_some_iff.1 hA1.hb).1
                have hA2 := hA1.kept (row := none) (World.grownBy_alloc u1 (.cells (vals (List.replicate (kk T) 0)) 5) none) (by simp) (by simp)
                have hHm : Has (u1.alloc (.cells (vals (List.replicate (kk T) 0)) 5)) (some ⟨u1.heap.size, 0, none⟩) (kk T) (List.replicate (kk T) 0) := has_block (heap_alloc_new u1 _) (List.length_replicate ..)
                have hsm := same_yes hA2 (X : Int) _ (kk T) (kk T) _ hHm (by intro z hz; have := List.eq_of_mem_replicate hz; omega) (by omega) ⟨by omega, by omega, by rw [List.length_replicate]; omega, by rw [hmod]; omega⟩
                have hcz : Hid (cut (List.replicate N (0 : Int)) (X : Int).toNat (kk T) = List.replicate (kk T) 0) := by
                  show _ = _
                  unfold cut
                  rw [Int.toNat_natCast, List.drop_replicate, List.take_replicate]
                  congr 1
                  omega
                rw [hcz.out, decide_eq_true rfl] at hsm
                clear hnew hcz hA2 hHm hA1 hg1
                go_wp2_with (first | (go_at_call 16; refine (num_any _ _).mono ?_; rintro e w' ⟨rfl, rfl⟩) | (go_at_call 17; go_must (refine (pageSize_any _ _ _ c0').mono ?_); rintro e w' ⟨rfl, rfl⟩) | (go_at_call 18; go_must (refine (pages_any _ _ _ c1').mono ?_); rintro e w' ⟨rfl, rfl⟩) | (go_at_call 19; go_must (refine (len_any _ _ _ _ c2').mono ?_); rintro e w' ⟨rfl, rfl⟩) | fail)
                refine hsm.mono ?_
                rintro e u2 ⟨rfl, hg2⟩
                have hF2 := gb_trans (gb_alloc hF1 (.cells (vals (List.replicate (kk T) 0)) 5)) hg2
                clear hsm hg2 hF1 c0' c1' c2' hmk
                go_wp2
                go_roundw
                case rel => exact ⟨i + 1, by omega, by go_num, hF2⟩
                case measure => simp [intOf]; omega
            · have hj8 : j ≤ 8 := by omega
              have hjk := hjb.2.2.1 hj8
              have hsu := kk_succ j
              have HS : Hid (kk (j + 1) = 2 * kk j) := hsu
              clear hsu
              rcases Nat.lt_trichotomy T j with hTj | hTj | hTj
              · have hd : decide (T < j) = true := by simp; omega
                have hd2 : Hid (decide (T < j + 1) = true) := by show _ = _; simp; omega
                clear hTj
                go_wp2
                go_roundw
                case rel => exact ⟨j + 1, by omega, by rw [HS.out]; go_num, by rw [hd2.out], by first | rfl | trivial⟩
                case measure => simp [intOf]; omega
              · have hd : decide (T < j) = false := by simp; omega
                have hd2 : Hid (decide (T < j + 1) = true) := by show _ = _; simp; omega
                have hq : ((kk T : Int) == (kk j : Int)) = true := by rw [hTj]; simp
                clear hTj
                go_wp2
                go_roundw
                case rel => exact ⟨j + 1, by omega, by rw [HS.out]; go_num, by rw [hd2.out], by first | rfl | trivial⟩
                case measure => simp [intOf]; omega
              · have hd : decide (T < j) = false := by simp; omega
                have hd2 : Hid (decide (T < j + 1) = false) := by show _ = _; simp; omega
                have hq : ((kk T : Int) == (kk j : Int)) = false := by
                  have := kk_lt j T hTj
                  simp; omega
                clear hTj
                go_wp2
                go_roundw
                case rel => exact ⟨j + 1, by omega, by rw [HS.out]; go_num, by rw [hd2.out], by first | rfl | trivial⟩
                case measure => simp [intOf]; omega
        · have hno : pageB pg = false ∨ m < 1 ∨ 1024 < m := by
            by_cases hmr : 1 ≤ m ∧ m ≤ 1024
            · left
              cases hp : pageB pg
              · rfl
              · obtain ⟨T, hT, hpT⟩ := page_kk pg hp
                exact absurd ⟨T, hT, hpT, hmr.1, hmr.2⟩ hR
            · omega
          go_wp2
          go_quiet (fail)
          go_wp2
          go_loopw [6, 7] (fun r k wr' => ∃ j : Nat, j ≤ 9 ∧ k = .int .i64 (kk j) ∧ r = .bool false ∧ wr' = wr.drewN nq) (fun _ k _ => 2097153 - (intOf k).toNat)
          case atStart => exact ⟨0, by omega, rfl, rfl, rfl⟩
          case round =>
            obtain ⟨j, hj, rfl, rfl, rfl⟩ := hrel
            have hjb := kk_le j hj
            by_cases hj9 : j = 9
            · have hjk := hjb.2.2.2 hj9
              clear hj9 hjb hR
              have hnew := new_no pg m (wr.drewN nq) hno
              clear hno
              go_wp2_with (first | (go_at_call 16; refine (num_any _ _).mono ?_; rintro e w' ⟨rfl, rfl⟩) | fail)
              refine hnew.mono ?_
              rintro e u1 ⟨rfl, hu⟩
              subst hu
              clear hnew
              go_wp2_with (first | (go_at_call 16; refine (num_any _ _).mono ?_; rintro e w' ⟨rfl, rfl⟩) | fail)
              go_roundw
              case rel => exact ⟨i + 1, by omega, by go_num, gb_drewN hF _⟩
              case measure => simp [intOf]; omega
            · have hj8 : j ≤ 8 := by omega
              have hjk := hjb.2.2.1 hj8
              have HS : Hid (kk (j + 1) = 2 * kk j) := kk_succ j
              by_cases hq : pg = kk j
              · have hq' : (pg == (kk j : Int)) = true := by rw [hq]; simp
                have hmm : m < 1 ∨ 1024 < m := by
                  by_cases hmr : 1 ≤ m ∧ m ≤ 1024
                  · exact absurd ⟨j, hj8, hq, hmr.1, hmr.2⟩ hR
                  · omega
                clear hR hno hq
                by_cases hm1 : m < 1
                · clear hmm
                  go_wp2
                  go_roundw
                  case rel => exact ⟨j + 1, by omega, by rw [HS.out]; go_num, by first | rfl | trivial, by first | rfl | trivial⟩
                  case measure => simp [intOf]; omega
                · have hm2 : 1024 < m := by omega
                  clear hmm
                  go_wp2
                  go_roundw
                  case rel => exact ⟨j + 1, by omega, by rw [HS.out]; go_num, by first | rfl | trivial | (simp; omega), by first | rfl | trivial⟩
                  case measure => simp [intOf]; omega
              · have hq' : (pg == (kk j : Int)) = false := by simp [hq]
                clear hR hno hq
                go_wp2
                go_roundw
                case rel => exact ⟨j + 1, by omega, by rw [HS.out]; go_num, by first | rfl | trivial, by first | rfl | trivial⟩
                case measure => simp [intOf]; omega
      · have hdi : decide ((i : Int) < n) = true := by simp; omega
        have hd6 : decide ((i : Int) < 50) = false := by simp; omega
        go_wp2_with (go_at_call 14; refine (wakes_any _).mono ?_; rintro e w' ⟨rfl, hf⟩)
        go_ret
        exact ⟨rfl, gb_trans hF hf⟩
    · have hdi : decide ((i : Int) < n) = false := by simp; omega
      go_wp2_with (go_at_call 14; refine (wakes_any _).mono ?_; rintro e w' ⟨rfl, hf⟩)
      go_ret
      exact ⟨rfl, gb_trans hF hf⟩

end Go.Proofs.Ytknhoncnaigogaa

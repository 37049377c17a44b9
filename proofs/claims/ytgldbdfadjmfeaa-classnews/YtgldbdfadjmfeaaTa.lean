/-
  ClassNews' walk.
-/
import Derived.Test.YtgldbdfadjmfeaaSy
import Derived.Test.YtgldbdfadjmfeaaO
namespace Go.Proofs.Ytgldbdfadjmfeaa
open Go.RowKit
set_option linter.unusedVariables false

theorem quota_new (ps m n : Nat) (sz : Nat → Nat) (j : Nat) : (A0 ps m n sz).quota j = m * (ps / sz j) := by simp [Ab.quota, A0, Ab.each]

set_option maxRecDepth 100000 in
set_option maxHeartbeats 8000000 in
theorem news_any (a : Option Addr) (n c : Nat) (w : World) (hn : n ≤ maxLen) (hin : CfgsIn w a n) : Calls Try.prog 4 #[.slice a n c] w fun e w' => e = .returned (.bool true) ∧ w.grownBy w' none := by
  have hn' : (n : Int) ≤ 9223372036854775807 := by unfold maxLen at hn; omega
  go_enter Try.func4, Try.ntmps4
  go_wp2
  go_loopw [3] (fun v wr => ∃ (k : Nat), k ≤ n ∧ k ≤ 40 ∧ v = .int .i64 k ∧ w.grownBy wr none) (fun v _ => n - (intOf v).toNat)
  case atStart => exact ⟨0, by omega, by omega, rfl, gb_refl _ _⟩
  case round =>
    obtain ⟨k, hk, hk40, rfl, hF⟩ := hrel
    by_cases hlt : k < n ∧ k < 40
    · obtain ⟨hlt, hlt40⟩ := hlt
      obtain ⟨b, o, rfl, x0, x1, x2, x3, x4, x5, x6, y0, y1, y2, y3, y4, y5, y6⟩ := hin k hlt
      replace y0 := gb_cellN hF y0
      replace y1 := gb_cellN hF y1
      replace y2 := gb_cellN hF y2
      replace y3 := gb_cellN hF y3
      replace y4 := gb_cellN hF y4
      replace y5 := gb_cellN hF y5
      replace y6 := gb_cellN hF y6
      obtain ⟨r, hr⟩ := refd_ex x0 x1 x2 x3 x4
      have hh := fun W => heavy_is x5 x6 hr W
      unfold cfgV at hh
      have hd1 : decide ((k : Int) < n) = true := by simp; omega
      have hd2 : decide ((k : Int) < 40) = true := by simp; omega
      have hd3 : decide (k < n) = true := by simp; omega
      have hd4 : decide (k < 40) = true := by simp; omega
      by_cases hhv : r = 0 ∧ 2097152 / x0 < x1
      · have hh1 := fun W => hh W
        simp only [hhv, and_self, decide_true] at hh1
        clear hh hr
        go_wp2_with (first | (go_at_call 13; go_must (refine (hh1 _).mono ?_); rintro y w1 ⟨rfl, hf1⟩) | fail)
        exact ⟨⟨k + 1, by omega, by omega, by go_num, gb_trans (gb_alloc hF _) hf1⟩, by simp [intOf]; omega⟩
      · have hh1 := fun W => hh W
        simp only [hhv, decide_false] at hh1
        have hcg := fun W => config_any x0 x1 x2 x3 x4 x5 x6 W
        have hrf := fun W => refused_is hr W
        unfold cfgV refV at hcg
        unfold refV at hrf
        have h7 := C7.box wr x0 x1 x2 x3 x4 x5 x6
        have hF1 : w.grownBy (wr.alloc (.cells #[.int .i64 x0, .int .i64 x1, .int .i64 x2, .int .i64 x3, .int .i64 x4, .int .i64 x5, .int .i64 x6] 23)) none := gb_alloc hF _
        clear hh
        by_cases hr0 : r = 0
        · subst hr0
          obtain ⟨hV, nc, hNC, hmn⟩ := refd_zero hr
          obtain ⟨ps, m, F, s0, il, rfl, rfl, rfl, rfl, rfl, hC⟩ := hV.cfg
          obtain ⟨hn62, hcls⟩ := hNC
          simp only [Int.toNat_natCast] at hcls
          have hmn' : nc ≤ m := by omega
          have hok := fun W => new_ok hC x5 x6 hn62 hcls hmn' W
          unfold cfgV at hok
          have hI := inv_new hC hn62 hcls
          have hFit := hI.fit
          obtain ⟨bp0, bp1, bp2, bp3⟩ := hC.bounds
          have hm1 := hC.m1
          have hm2 := hC.m2
          have hil := hC.il1
          have hcf := chain_facts hC.good
          have hs64 := hC.good.s64
          have hn1 := hcls.1
          have hsz := fun W => (rsizes_any hC.good rfl (by omega) ps m W).mono (R' := fun e w' => ∃ ga cp, e = .returned (.slice (some ⟨ga, 0, none⟩) nc cp) ∧ W.grownBy w' none ∧ w'.ownsRow W.heap.size 3 1 (.slice (some ⟨ga, 0, none⟩) nc cp) nc (ints (szL F (limOf il) s0 nc))) (by
            rintro x w' ⟨hf, n', v, h1, rfl, h3, ⟨h4, h2⟩ | ⟨_, h2⟩⟩
            · have := cls_uniq hcls h2
              subst this
              obtain ⟨ao, cp, rfl, _, _, _, h4⟩ := row_shape h3
              obtain ⟨ga, rfl⟩ := h4 (by omega)
              exact ⟨ga, cp, rfl, hf, h3⟩
            · have := h2 (nc - 1) (by omega)
              have := hcls.2.1
              omega)
          unfold refV at hsz
          clear hr hhv hV hcls hmn
          go_wp2_with (first | (go_at_call 13; go_must (refine (hh1 _).mono ?_); rintro y w1 ⟨rfl, hf1⟩; have h71 := h7.kept hf1; have h71' := h71; obtain ⟨k0, k1, k2, k3, k4, k5, k6⟩ := h71') | (go_at_call 17; go_must (refine (hok _).mono ?_); rintro y w2 ⟨sb, G, B, rfl, hf2, hS, hG⟩; have h72 := h71.kept hf2; have h72' := h72; obtain ⟨j0, j1, j2, j3, j4, j5, j6⟩ := h72') | (go_at_call 22; go_must (refine (hrf _).mono ?_); rintro y w4 ⟨rfl, hf4⟩; (have h74 := (h72.kept hf3).kept hf4); have h74' := h74; obtain ⟨i0, i1, i2, i3, i4, i5, i6⟩ := h74') | (go_at_call 23; go_must (refine (hsz _).mono ?_); rintro y w6 ⟨ga, cp, rfl, hf6, hrow⟩) | (go_at_call 16; first | (refine (hcg w2).mono ?_; rintro y w3 ⟨rfl, hf3⟩) | (refine (hcg w4).mono ?_; rintro y w5 ⟨rfl, hf5⟩)) | (go_at_call 18; go_must (refine (num_any _ _).mono ?_); rintro y w' ⟨rfl, rfl⟩) | fail)
          have h76 := (h74.kept hf5).kept hf6
          have hS6 := (((hS.kept0 hf3).kept0 hf4).kept0 hf5).kept0 hf6
          have hF6 := gb_trans (gb_trans (gb_trans (gb_trans (gb_trans (gb_trans hF1 hf1) hf2) hf3) hf4) hf5) hf6
          clear h7 h71 h72 h74 k0 k1 k2 k3 k4 k5 k6 j0 j1 j2 j3 j4 j5 j6 i0 i1 i2 i3 i4 i5 i6 hS hF1 hf1 hf2 hf3 hf4 hf5 hf6 hh1 hcg hrf hok hsz hG y0 y1 y2 y3 y4 y5 y6 hF
          have h20 : ∀ W', IsS W' sb G B m F s0 il x5 x6 (A0 ps m nc (chain F (limOf il) s0)) (List.replicate (ps * m) 0) → Calls Try.prog 24 #[.pointer (some ⟨sb, 0, none⟩)] W' fun y w' => y = .returned (.int .i64 nc) ∧ W' = w' := fun W' h => classes_20 h hFit.toSzs
          have h21 : ∀ W', IsS W' sb G B m F s0 il x5 x6 (A0 ps m nc (chain F (limOf il) s0)) (List.replicate (ps * m) 0) → Calls Try.prog 25 #[.pointer (some ⟨sb, 0, none⟩)] W' fun y w' => y = .returned (.int .i64 m) ∧ ∃ q, w' = W'.drewN q := fun W' h => freePages_21 h hFit.toFit
          have h22 : ∀ W', IsS W' sb G B m F s0 il x5 x6 (A0 ps m nc (chain F (limOf il) s0)) (List.replicate (ps * m) 0) → w.grownBy W' none → C7 W' wr.heap.size ps m F s0 il x5 x6 → World.ownsRow W' 0 3 1 (.slice (some ⟨ga, 0, none⟩) nc cp) nc (ints (szL F (limOf il) s0 nc)) → Calls Try.prog 26 #[.pointer (some ⟨sb, 0, none⟩)] W' fun y w' => y = .returned (.agg #[.int .i64 ps, .int .i64 m, .int .i64 F, .int .i64 s0, .int .i64 il, .int .i64 x5, .int .i64 x6]) ∧ IsS w' sb G B m F s0 il x5 x6 (A0 ps m nc (chain F (limOf il) s0)) (List.replicate (ps * m) 0) ∧ w.grownBy w' none ∧ C7 w' wr.heap.size ps m F s0 il x5 x6 ∧ World.ownsRow w' 0 3 1 (.slice (some ⟨ga, 0, none⟩) nc cp) nc (ints (szL F (limOf il) s0 nc)) := fun W' h1 h2 h3 h4 => (config_22 h1).mono (by
            rintro y w' ⟨rfl, hf⟩
            exact ⟨rfl, h1.kept0 hf, gb_trans h2 hf, h3.kept hf, row_kept h4 hf (by simp)⟩)
          have hrow0 : World.ownsRow w6 0 3 1 (.slice (some ⟨ga, 0, none⟩) nc cp) nc (ints (szL F (limOf il) s0 nc)) := row_base hrow (Nat.zero_le _)
          have h76' := h76
          obtain ⟨k0, k1, k2, k3, k4, k5, k6⟩ := h76'
          clear hrow
          go_region_held3 (fun w' => w'.cell? ⟨wr.heap.size, 0, none⟩ = some (.int .i64 ps) ∧ w'.cell? ⟨wr.heap.size, 1, none⟩ = some (.int .i64 m) ∧ w'.cell? ⟨wr.heap.size, 2, none⟩ = some (.int .i64 F) ∧ w'.cell? ⟨wr.heap.size, 3, none⟩ = some (.int .i64 s0) ∧ w'.cell? ⟨wr.heap.size, 4, none⟩ = some (.int .i64 il) ∧ w'.cell? ⟨wr.heap.size, 5, none⟩ = some (.int .i64 x5) ∧ w'.cell? ⟨wr.heap.size, 6, none⟩ = some (.int .i64 x6)) ((first | exact hC9 | go_keep)) ((first | (go_at_call 24; refine (h20 _ (hS6.kept0 (gb_drew (gb_refl _ none)))).mono ?_; rintro y w' ⟨rfl, rfl⟩) | (go_at_call 25; refine (h21 _ (hS6.kept0 (gb_drew (gb_refl _ none)))).mono ?_; rintro y w' ⟨rfl, q, rfl⟩) | (go_at_call 26; refine (h22 _ (hS6.kept0 (gb_drewN (gb_refl _ none) _)) (gb_drewN hF6 _) (h76.kept (gb_drewN (gb_refl _ none) _)) (row_kept hrow0 (gb_drewN (gb_refl _ none) _) (by simp))).mono ?_; rintro y w9 ⟨rfl, hS9, hF9, hC9, hR9⟩)))
          clear h20 h21 h22 hS6 hF6 h76 hrow0 k0 k1 k2 k3 k4 k5 k6
          generalize wr.heap.size = cfb at *
          have HI := hFit
          clear hI
          go_wp2
          go_loopw [9] (fun v wq => ∃ (j : Nat), j ≤ nc ∧ v = .int .i64 j ∧ IsS wq sb G B m F s0 il x5 x6 (A0 ps m nc (chain F (limOf il) s0)) (List.replicate (ps * m) 0) ∧ w.grownBy wq none ∧ C7 wq cfb ps m F s0 il x5 x6 ∧ World.ownsRow wq 0 3 1 (.slice (some ⟨ga, 0, none⟩) nc cp) nc (ints (szL F (limOf il) s0 nc))) (fun v _ => nc - (intOf v).toNat)
          case atStart => exact ⟨0, by omega, rfl, hS9, hF9, hC9, hR9⟩
          case round =>
            obtain ⟨j, hj, rfl, hS, hFr, hCr, hRr⟩ := hrel
            by_cases hjn : j < nc
            · have hc0 := row_cell hRr j (.int .i64 (chain F (limOf il) s0 j)) (ints_get _ _ _ (szL_get _ _ _ _ _ hjn))
              obtain ⟨h8, h0, hl⟩ := hcf j
              have h23 := fun W' (h : IsS W' sb G B m F s0 il x5 x6 (A0 ps m nc (chain F (limOf il) s0)) (List.replicate (ps * m) 0)) => chunk_yes h HI.toSzs j hjn
              have h24 := fun W' (h : IsS W' sb G B m F s0 il x5 x6 (A0 ps m nc (chain F (limOf il) s0)) (List.replicate (ps * m) 0)) => quota_yes h HI.toFit j hjn
              rw [show (A0 ps m nc (chain F (limOf il) s0)).sz j = chain F (limOf il) s0 j from rfl] at h23
              rw [quota_new] at h24
              obtain ⟨s, hs⟩ : ∃ s, s = chain F (limOf il) s0 j := ⟨_, rfl⟩
              rw [← hs] at hc0 h8 h0 hl h23 h24
              obtain ⟨q, hq⟩ : ∃ q, q = ps / s := ⟨_, rfl⟩
              have hdv : (ps : Int).tdiv s = q := by rw [Int.tdiv_eq_ediv_of_nonneg (by omega), hq]; exact (Int.natCast_ediv _ _).symm
              have hq1 : q ≤ ps := by rw [hq]; exact Nat.div_le_self _ _
              rw [← hq] at h24
              obtain ⟨pr, hpr⟩ : ∃ pr, pr = m * q := ⟨_, rfl⟩
              have hpi : (m : Int) * q = pr := by rw [hpr]; simp
              have hpb : pr ≤ 1024 * 1048576 := by rw [hpr]; exact Nat.mul_le_mul hm2 (by omega)
              rw [← hpr] at h24
              have hs0n : ¬ s = 0 := by omega
              have hwq : IntKind.i64.wrap (q : Int) = q := by rw [IntKind.wrap_i64]; omega
              have hwp : IntKind.i64.wrap (pr : Int) = pr := by rw [IntKind.wrap_i64]; omega
              have hCr' := hCr
              obtain ⟨k0, k1, k2, k3, k4, k5, k6⟩ := hCr'
              have hFull : ∀ w', wr.grownBy w' none → (IsS w' sb G B m F s0 il x5 x6 (A0 ps m nc (chain F (limOf il) s0)) (List.replicate (ps * m) 0) ∧ w.grownBy w' none ∧ C7 w' cfb ps m F s0 il x5 x6 ∧ World.ownsRow w' 0 3 1 (.slice (some ⟨ga, 0, none⟩) nc cp) nc (ints (szL F (limOf il) s0 nc)) ∧ w'.cell? ⟨ga, j, none⟩ = some (.int .i64 s)) := fun w' hf => ⟨hS.kept0 hf, gb_trans hFr hf, hCr.kept hf, row_kept hRr hf (by simp), gb_cellN hf hc0⟩
              clear hs hq hpr
              go_wp2
              go_region_held3 (fun w' => w'.cell? ⟨cfb, 0, none⟩ = some (.int .i64 ps) ∧ w'.cell? ⟨cfb, 1, none⟩ = some (.int .i64 m) ∧ w'.cell? ⟨ga, j, none⟩ = some (.int .i64 s)) ((first | exact ⟨(hFull _ hg2).2.2.1.1, (hFull _ hg2).2.2.1.2.1, (hFull _ hg2).2.2.2.2⟩ | exact ⟨(hFull _ hg1).2.2.1.1, (hFull _ hg1).2.2.1.2.1, (hFull _ hg1).2.2.2.2⟩ | go_keep)) ((first | (go_at_call 27; refine (h23 _ (hS.kept0 (gb_drew (gb_refl _ none)))).mono ?_; rintro y w3 ⟨rfl, hf3⟩; have hg1 : wr.grownBy w3 none := gb_trans (gb_drew (gb_refl _ none)) hf3) | (go_at_call 28; refine (h24 _ (hFull _ hg1).1).mono ?_; rintro y w4 ⟨rfl, hf4⟩; have hg2 : wr.grownBy w4 none := gb_trans hg1 hf4)))
              obtain ⟨q1, q2, q3, q4, _⟩ := hFull _ hg2
              have HH : Hid (_ ∧ _ ∧ _ ∧ _) := ⟨q1, q2, q3, q4⟩
              clear q1 q2 q3 q4 hFull hS hFr hCr hRr
              go_wp2
              go_roundw
              case rel => exact ⟨j + 1, by omega, by go_num, HH.out.1, HH.out.2.1, HH.out.2.2.1, HH.out.2.2.2⟩
              case measure => simp [intOf]; omega
            · obtain rfl : j = nc := by omega
              clear hS hCr hRr
              go_wp2
              exact ⟨⟨k + 1, by omega, by omega, by go_num, hFr⟩, by simp [intOf]; omega⟩
        · have hne := fun W => new_err x5 x6 hr hr0 W
          unfold cfgV at hne
          have hrr := refd_range hr
          clear hr hhv
          rcases (show r = 1 ∨ r = 2 ∨ r = 3 by omega) with rfl | rfl | rfl
          all_goals
            clear hr0 hrr
            go_wp2_with (first | (go_at_call 13; go_must (refine (hh1 _).mono ?_); rintro y w1 ⟨rfl, hf1⟩; have h71 := h7.kept hf1; have h71' := h71; obtain ⟨k0, k1, k2, k3, k4, k5, k6⟩ := h71') | (go_at_call 17; go_must (refine (hne _).mono ?_); rintro y w2 ⟨rfl, hf2⟩; have h72 := h71.kept hf2; have h72' := h72; obtain ⟨j0, j1, j2, j3, j4, j5, j6⟩ := h72') | (go_at_call 16; go_must (refine (hcg _).mono ?_); rintro y w3 ⟨rfl, hf3⟩) | (go_at_call 22; go_must (refine (hrf _).mono ?_); rintro y w4 ⟨rfl, hf4⟩) | (go_at_call 18; go_must (refine (num_any _ _).mono ?_); rintro y w' ⟨rfl, rfl⟩) | fail)
            exact ⟨⟨k + 1, by omega, by omega, by go_num, gb_trans (gb_trans (gb_trans (gb_trans hF1 hf1) hf2) hf3) hf4⟩, by simp [intOf]; omega⟩
    · have hwk := fun W => wakes_10 W
      by_cases h1 : k < n
      · have h2 : ¬ k < 40 := fun h => hlt ⟨h1, h⟩
        clear hlt
        go_wp2_with (first | (go_at_call 14; go_must (refine (hwk _).mono ?_); rintro y w1 ⟨rfl, hf1⟩) | fail)
        go_ret
        exact ⟨rfl, gb_trans hF hf1⟩
      · clear hlt
        go_wp2_with (first | (go_at_call 14; go_must (refine (hwk _).mono ?_); rintro y w1 ⟨rfl, hf1⟩) | fail)
        go_ret
        exact ⟨rfl, gb_trans hF hf1⟩

end Go.Proofs.Ytgldbdfadjmfeaa

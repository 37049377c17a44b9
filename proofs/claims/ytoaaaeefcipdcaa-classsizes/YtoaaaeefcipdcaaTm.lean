/-
  ClassSizes' walk.
-/
import Derived.Test.YtoaaaeefcipdcaaTf
import Derived.Deep.RegionHeld3
namespace Go.Proofs.Ytoaaaeefcipdcaa
open Go.RowKit
set_option linter.unusedVariables false

set_option maxRecDepth 100000 in
set_option maxHeartbeats 8000000 in
theorem sizes_some {ps m F s0 il n1 : Nat} (hC : Cfg ps m F s0 il) (x5 x6 : Int) (hn : n1 + 1 ≤ 62) (hc : Cls F (limOf il) s0 (n1 + 1)) (hmn : n1 + 1 ≤ m) (hR : Refd ps m F s0 il 0) (hh0 : ¬ 2097152 / (ps : Int) < m) (a : Option Addr) (na c : Nat) (w : World) (hna : na ≤ maxLen) (hin : IntsIn w a na) :
    Calls Try.prog 4 #[cfgV ps m F s0 il x5 x6, .slice a na c] w fun e w' => e = .returned (.bool true) ∧ w.grownBy w' none := by
  have hg := fun W => good_some hC x5 x6 hn hc hmn hR hh0 W
  have hwk := fun W => wakes_10 W
  have hF0 : w.grownBy (w.alloc (.cells #[.int .i64 ps, .int .i64 m, .int .i64 F, .int .i64 s0, .int .i64 il, .int .i64 x5, .int .i64 x6] 23)) none := World.grownBy_alloc _ _ _
  have h7 := C7.box w ps m F s0 il x5 x6
  have hI := inv_new hC hn hc
  have hSz := hI.toSzs
  obtain ⟨bp0, bp1, bp2, bp3⟩ := hC.bounds
  have hil := hC.il1
  have hil0 := hC.il0
  have hs512 := hC.s512
  have hcf := chain_facts hC.good
  have hs64 := hC.good.s64
  have f0 := hC.good.f0
  have f1 := hC.good.f1
  have hlast := chain_last hC.good hc
  rw [Nat.add_sub_cancel] at hlast
  have hlim := limOf_ge il
  have hna' : (na : Int) ≤ 9223372036854775807 := by unfold maxLen at hna; omega
  unfold cfgV at hg ⊢
  clear hR hh0 hmn hI
  go_enter Try.func4, Try.ntmps4
  go_wp2_with (first | (go_at_call 17; go_must (refine (hg _).mono ?_); rintro y w1 ⟨sb, G, B, rfl, hf1, hS1, hG1⟩; (have hP1 : PS w sb G B ps m F s0 il (n1 + 1) x5 x6 w.heap.size w1 := ⟨hS1, gb_trans hF0 hf1, h7.kept hf1⟩)) | (go_at_call 18; go_must (refine (classes_20 hS1 hSz).mono ?_); rintro y w' ⟨rfl, rfl⟩; rw [show ((A0 ps m (n1 + 1) (chain F (limOf il) s0)).n : Int) = (n1 : Int) + 1 from rfl]) | fail)
  have hk0 := ps_chunk (w0 := w) (sb := sb) (G := G) (B := B) (f := x5) (g := x6) (cfb := w.heap.size) hSz 0 (by omega) s0 rfl
  have hk1 := ps_chunk (w0 := w) (sb := sb) (G := G) (B := B) (f := x5) (g := x6) (cfb := w.heap.size) hSz n1 (by omega) (limOf il) hlast
  have hk2 := ps_chunk_no (w0 := w) (sb := sb) (G := G) (B := B) (f := x5) (g := x6) (cfb := w.heap.size) hSz ((n1 : Int) + 1) (by omega)
  have hk3 := ps_chunk_no (w0 := w) (sb := sb) (G := G) (B := B) (f := x5) (g := x6) (cfb := w.heap.size) hSz (-1) (by omega)
  have e0 : ((0 : Nat) : Int) = 0 := rfl
  rw [e0] at hk0
  have hP1' := hP1.drew
  obtain ⟨L, hL⟩ : ∃ L, L = limOf il := ⟨_, rfl⟩
  have HL : Hid (L = limOf il) := hL
  rw [← hL] at hk1 hlim bp3
  have hd1 : decide ((n1 : Int) + 1 < 1) = false := by simp; omega
  have hd2 : decide (62 < (n1 : Int) + 1) = false := by simp; omega
  have hwn : IntKind.i64.wrap (n1 : Int) = n1 := by rw [IntKind.wrap_i64]; omega
  have hwn1 : IntKind.i64.wrap ((n1 : Int) + 1) = (n1 : Int) + 1 := by rw [IntKind.wrap_i64]; omega
  have hwn2 : IntKind.i64.wrap ((n1 : Int) + 1 - 1) = n1 := by rw [IntKind.wrap_i64]; omega
  have hw7 : IntKind.i64.wrap ((il : Int) + 7) = (il : Int) + 7 := by rw [IntKind.wrap_i64]; omega
  have hd2n : decide (62 < n1 + 1) = false := by simp; omega
  have hd3n : decide (L < il) = false := by simp; omega
  have hd4n : decide (il + 7 < L) = false := by simp; omega
  have hd3 : decide ((L : Int) < il) = false := by simp; omega
  have hd4 : decide ((il : Int) + 7 < L) = false := by simp; omega
  have c7 := hP1.c7
  obtain ⟨k0, k1, k2, k3, k4, k5, k6⟩ := c7
  clear hg hL h7 hF0
  clear hS1 hG1 hf1
  go_region_held3 (fun w' => w'.cell? ⟨w.heap.size, 3, none⟩ = some (.int .i64 s0) ∧ w'.cell? ⟨w.heap.size, 4, none⟩ = some (.int .i64 il)) ((first | exact ⟨hPe.c7.2.2.2.1, hPe.c7.2.2.2.2.1⟩ | exact ⟨hPd.c7.2.2.2.1, hPd.c7.2.2.2.2.1⟩ | exact ⟨hPc.c7.2.2.2.1, hPc.c7.2.2.2.2.1⟩ | exact ⟨hPb.c7.2.2.2.1, hPb.c7.2.2.2.2.1⟩ | exact ⟨hPa.c7.2.2.2.1, hPa.c7.2.2.2.2.1⟩ | go_keep)) ((first | (go_at_call 19; with_reducible refine (hk0 _ hP1').mono ?_; rintro y wa ⟨rfl, hPa⟩) | (go_at_call 19; with_reducible refine (hk1 _ hPa).mono ?_; rintro y wb ⟨rfl, hPb⟩) | (go_at_call 19; with_reducible refine (hk1 _ hPb).mono ?_; rintro y wc ⟨rfl, hPc⟩) | (go_at_call 19; with_reducible refine (hk2 _ hPc).mono ?_; rintro y wd ⟨rfl, hPd⟩) | (go_at_call 19; with_reducible refine (hk3 _ hPd).mono ?_; rintro y we ⟨rfl, hPe⟩)))
  clear hP1 hP1' hPa hPb hPc hPd k0 k1 k2 k3 k4 k5 k6 hk0 hk2 hk3 hd1 hd2 hd3 hd4 hd2n hd3n hd4n hw7
  go_wp2
  go_loopw [8] (fun v wq => ∃ (i : Nat), i ≤ n1 + 1 ∧ v = .int .i64 i ∧ PS w sb G B ps m F s0 il (n1 + 1) x5 x6 w.heap.size wq) (fun v _ => n1 + 1 - (intOf v).toNat)
  case atStart => exact ⟨0, by omega, rfl, hPe⟩
  case round =>
    obtain ⟨i, hi, rfl, hP⟩ := hrel
    by_cases hin' : i < n1 + 1
    · have hdi : decide ((i : Int) < (n1 : Int) + 1) = true := by simp; omega
      have hdi2 : decide (i < n1 + 1) = true := by simpa using hin'
      obtain ⟨c8, cs0, cL⟩ := hcf i
      obtain ⟨s, hs⟩ : ∃ s, s = chain F (limOf il) s0 i := ⟨_, rfl⟩
      have hks := ps_chunk (w0 := w) (sb := sb) (G := G) (B := B) (f := x5) (g := x6) (cfb := w.heap.size) hSz i hin' s hs.symm
      rw [← hs] at c8 cs0 cL
      have hr8 : (s : Int).tmod 8 = 0 := by rw [Int.tmod_eq_emod_of_nonneg (by omega)]; omega
      have HSS : Hid (s = chain F (limOf il) s0 i) := hs
      by_cases hi0 : i = 0
      · subst hi0
        clear hs
        go_wp2_with (first | (go_at_call 19; go_must (refine (hks _ hP).mono ?_); rintro y wa ⟨rfl, hPa⟩) | fail)
        first | go_quiet (fail) | fail
        have hPb := hPa.step (gb_drewN (gb_refl _ none) nq)
        generalize wa.drewN nq = wb at *
        go_wp2
        first | go_quiet (fail) | fail
        have hPc := hPb.step (gb_drewN (gb_refl _ none) nq)
        generalize wb.drewN nq = wc at *
        go_wp2
        go_roundw
        case rel => exact ⟨1, by omega, by go_num, hPc⟩
        case measure => first | (simp [intOf]; done) | (simp [intOf]; omega)
      · by_cases hmid : i < n1
        · obtain ⟨i', rfl⟩ : ∃ i', i = i' + 1 := ⟨i - 1, by omega⟩
          obtain ⟨p, hp⟩ : ∃ p, p = chain F (limOf il) s0 i' := ⟨_, rfl⟩
          have hplt : p < limOf il := by rw [hp]; exact hc.2.2 i' (by omega)
          have hup := chain_up hC.good i' (by rw [← hp]; exact hplt)
          obtain ⟨r1, r2⟩ := chain_ratio hC.good i' (by rw [← hp]; exact hplt)
          obtain ⟨pc8, pcs0, pcL⟩ := hcf i'
          rw [← hp, ← hs] at hup r1 r2
          rw [← hp] at pc8 pcs0 pcL
          have hkp := ps_chunk (w0 := w) (sb := sb) (G := G) (B := B) (f := x5) (g := x6) (cfb := w.heap.size) hSz i' (by omega) p hp.symm
          have hslt : s < limOf il := by rw [hs]; exact hc.2.2 (i' + 1) (by omega)
          have hl1 := hC.good.l1
          obtain ⟨pr, hpr⟩ : ∃ pr, pr = p * F := ⟨_, rfl⟩
          have hpi : (p : Int) * F = pr := by rw [hpr]; simp
          have hprb : pr ≤ 1048576 * 400 := by rw [hpr]; exact Nat.mul_le_mul (by omega) f1
          rw [← hpr] at r1 r2
          obtain ⟨t, ht⟩ : ∃ t, t = s - 8 := ⟨_, rfl⟩
          have hti : (s : Int) - 8 = t := by omega
          rw [← ht] at r1
          have hq1 : decide ((s : Int) < (p : Int) + 8) = false := by simp; omega
          have hq2 : decide (s < p + 8) = false := by simp; omega
          have hq3 : decide ((pr : Int) ≤ 100 * t) = false := by simp; omega
          have hq4 : decide (pr ≤ 100 * t) = false := by simp; omega
          have hz2 : IntKind.i64.wrap (100 * (s : Int)) = 100 * s := by rw [IntKind.wrap_i64]; omega
          have hz3 : IntKind.i64.wrap (pr : Int) = pr := by rw [IntKind.wrap_i64]; omega
          have hz4 : IntKind.i64.wrap (t : Int) = t := by rw [IntKind.wrap_i64]; omega
          have hz5 : IntKind.i64.wrap (100 * (t : Int)) = 100 * t := by rw [IntKind.wrap_i64]; omega
          have HC7 : ∀ W, PS w sb G B ps m F s0 il (n1 + 1) x5 x6 w.heap.size W → W.cell? ⟨w.heap.size, 2, none⟩ = some (.int .i64 F) := fun W h => h.c7.2.2.1
          have hii : ((i' + 1 : Nat) : Int) = (i' : Int) + 1 := by omega
          have hz1 : IntKind.i64.wrap ((i' : Int) + 1 - 1) = i' := by rw [IntKind.wrap_i64]; omega
          have hz1' : (i' : Int) + 1 - 1 = i' := by omega
          have hz0 : IntKind.i64.wrap (i' : Int) = i' := by rw [IntKind.wrap_i64]; omega
          have hks1 := hks
          rw [hii] at hks1
          have hr2 := r2 hslt
          have hq5 : decide (100 * (s : Int) < pr) = false := by simp; omega
          have hq6 : decide (100 * s < pr) = false := by simp; omega
          have hq7 : decide ((i' : Int) + 1 < (n1 : Int)) = true := by simp; omega
          have hq7b : decide (i' + 1 < n1) = true := by simpa using hmid
          have hq8 : decide ((i' : Int) + 1 = (n1 : Int)) = false := by simp; omega
          have hq8b : ((i' : Int) + 1 == (n1 : Int)) = false := by simp; omega
          have hq8c : ¬ ((i' : Int) + 1 = (n1 : Int)) := by omega
          clear hs hp hpr ht hup hii r2
          go_wp2_with (first | (go_at_call 19; with_reducible refine (hks _ hP).mono ?_; rintro y wa ⟨rfl, hPa⟩) | (go_at_call 19; with_reducible refine (hks1 _ hP).mono ?_; rintro y wa ⟨rfl, hPa⟩) | (go_at_call 19; with_reducible refine (hkp _ hPa).mono ?_; rintro y wb ⟨rfl, hPb⟩) | fail)
          have kb := HC7 _ hPb
          go_region_held3 (fun w' => w'.cell? ⟨w.heap.size, 2, none⟩ = some (.int .i64 F)) ((first | exact HC7 _ hPd | exact HC7 _ hPc | go_keep)) ((first | (go_at_call 19; with_reducible refine (hkp _ hPb.drew).mono ?_; rintro y wc ⟨rfl, hPc⟩) | (go_at_call 19; with_reducible refine (hkp _ hPc).mono ?_; rintro y wd ⟨rfl, hPd⟩)))
          go_wp2
          first | go_quiet (fail) | fail
          have hPe' := hPd.step (gb_drewN (gb_refl _ none) nq)
          generalize wd.drewN nq = we' at *
          go_wp2
          go_roundw
          case rel => exact ⟨i' + 1 + 1, by omega, by go_num, hPe'⟩
          case measure => first | (simp [intOf]; done) | (simp [intOf]; omega)
        · obtain rfl : i = n1 := by omega
          obtain ⟨p, hp⟩ : ∃ p, p = chain F (limOf il) s0 (i - 1) := ⟨_, rfl⟩
          have hplt : p < limOf il := by rw [hp]; exact hc.2.2 (i - 1) (by omega)
          have hup := chain_up hC.good (i - 1) (by rw [← hp]; exact hplt)
          obtain ⟨r1, r2⟩ := chain_ratio hC.good (i - 1) (by rw [← hp]; exact hplt)
          rw [show i - 1 + 1 = i by omega] at hup r1 r2
          obtain ⟨pc8, pcs0, pcL⟩ := hcf (i - 1)
          rw [← hp, ← hs] at hup r1 r2
          rw [← hp] at pc8 pcs0 pcL
          have hkp := ps_chunk (w0 := w) (sb := sb) (G := G) (B := B) (f := x5) (g := x6) (cfb := w.heap.size) hSz (i - 1) (by omega) p hp.symm
          rw [show ((i - 1 : Nat) : Int) = (i : Int) - 1 by omega] at hkp
          clear r2
          have hl1 := hC.good.l1
          obtain ⟨pr, hpr⟩ : ∃ pr, pr = p * F := ⟨_, rfl⟩
          have hpi : (p : Int) * F = pr := by rw [hpr]; simp
          have hprb : pr ≤ 1048576 * 400 := by rw [hpr]; exact Nat.mul_le_mul (by omega) f1
          rw [← hpr] at r1
          obtain ⟨t, ht⟩ : ∃ t, t = s - 8 := ⟨_, rfl⟩
          have hti : (s : Int) - 8 = t := by omega
          rw [← ht] at r1
          have hq1 : decide ((s : Int) < (p : Int) + 8) = false := by simp; omega
          have hq2 : decide (s < p + 8) = false := by simp; omega
          have hq3 : decide ((pr : Int) ≤ 100 * t) = false := by simp; omega
          have hq4 : decide (pr ≤ 100 * t) = false := by simp; omega
          have hz2 : IntKind.i64.wrap (100 * (s : Int)) = 100 * s := by rw [IntKind.wrap_i64]; omega
          have hz3 : IntKind.i64.wrap (pr : Int) = pr := by rw [IntKind.wrap_i64]; omega
          have hz4 : IntKind.i64.wrap (t : Int) = t := by rw [IntKind.wrap_i64]; omega
          have hz5 : IntKind.i64.wrap (100 * (t : Int)) = 100 * t := by rw [IntKind.wrap_i64]; omega
          have HC7 : ∀ W, PS w sb G B ps m F s0 il (i + 1) x5 x6 w.heap.size W → W.cell? ⟨w.heap.size, 2, none⟩ = some (.int .i64 F) := fun W h => h.c7.2.2.1
          have hz1 : IntKind.i64.wrap ((i : Int) - 1) = (i : Int) - 1 := by rw [IntKind.wrap_i64]; omega
          have hi1 : decide ((0 : Int) < i) = true := by simp; omega
          have hi2 : decide (0 < i) = true := by simp; omega
          have hi3 : 0 < i := by omega
          clear hs hp hpr ht hup
          go_wp2_with (first | (go_at_call 19; with_reducible refine (hks _ hP).mono ?_; rintro y wa ⟨rfl, hPa⟩) | (go_at_call 19; with_reducible refine (hkp _ hPa).mono ?_; rintro y wb ⟨rfl, hPb⟩) | fail)
          first | go_quiet (fail) | fail
          have hPc := hPb.step (gb_drewN (gb_refl _ none) nq)
          generalize wb.drewN nq = wc at *
          have kc := HC7 _ hPc
          go_wp2
          go_region_held3 (fun w' => w'.cell? ⟨w.heap.size, 2, none⟩ = some (.int .i64 F)) ((first | exact HC7 _ hPd | go_keep)) ((first | (go_at_call 19; with_reducible refine (hkp _ hPc.drew).mono ?_; rintro y wd ⟨rfl, hPd⟩)))
          go_wp2
          go_roundw
          case rel => exact ⟨i + 1, by omega, by go_num, hPd⟩
          case measure => first | (simp [intOf]; done) | (simp [intOf]; omega)
    · have hiN : (i : Int) = (n1 : Int) + 1 := by omega
      rw [hiN]
      have hcf0 := hcf
      clear hcf hiN
      go_wp2
      go_loopw [10] (fun v wq => ∃ (q : Nat), q ≤ na ∧ q ≤ 100 ∧ v = .int .i64 q ∧ PS w sb G B ps m F s0 il (n1 + 1) x5 x6 w.heap.size wq) (fun v _ => na - (intOf v).toNat)
      case atStart => exact ⟨0, by omega, by omega, rfl, hP⟩
      case round =>
        obtain ⟨q, hq, hq100, rfl, hPq⟩ := hrel
        by_cases hlt : q < na ∧ q < 100
        · obtain ⟨hqa, hqb⟩ := hlt
          obtain ⟨ab, ao, rfl, x, cx0, xlo, xhi⟩ := hin q hqa
          have cx := gb_cellN hPq.gr cx0
          have HCX : ∀ W, PS w sb G B ps m F s0 il (n1 + 1) x5 x6 w.heap.size W → W.cell? ⟨ab, ao + q, none⟩ = some (.int .i64 x) := fun W h => gb_cellN h.gr cx0
          have hda : decide ((q : Int) < na) = true := by simp; omega
          have hda2 : decide (q < na) = true := by simpa using hqa
          have hdb : decide ((q : Int) < 100) = true := by simp; omega
          by_cases hx1 : x < 1
          · have hfr := for_arg (w := wr) (sb := sb) x hx1
            go_wp2_with (first | (go_at_call 20; go_must (refine hfr.mono ?_); rintro y wa ⟨rfl, hfa⟩; (have hPa := hPq.step hfa); (have ca := HCX _ hPa)) | (go_at_call 13; go_must (refine (num_any _ _).mono ?_); rintro y w' ⟨rfl, rfl⟩) | fail)
            go_roundw
            case rel => exact ⟨q + 1, by omega, by omega, by go_num, hPa⟩
            case measure => first | (simp [intOf]; done) | (simp [intOf]; omega)
          · have hdx : decide (x < 1) = false := by simpa using hx1
            by_cases hxL : (L : Int) < x
            · have hfr := fun W (h : PS w sb G B ps m F s0 il (n1 + 1) x5 x6 w.heap.size W) => for_26 h.is hSz x (by omega) (n1 + 1) (Nat.le_refl _) (fun i hi => by
                have h1 : chain F (limOf il) s0 i ≤ limOf il := (hcf0 i).2.2
                have h2 := HL.out
                show ((chain F (limOf il) s0 i : Nat) : Int) < x
                omega) (fun h => absurd h (Nat.lt_irrefl _))
              have hfr1 := hfr _ hPq
              rw [show (A0 ps m (n1 + 1) (chain F (limOf il) s0)).n = n1 + 1 from rfl, if_pos rfl, if_pos rfl] at hfr1
              have hdL : decide ((L : Int) < x) = true := by simpa using hxL
              clear hfr
              go_wp2_with (first | (go_at_call 20; go_must (refine hfr1.mono ?_); rintro y wa ⟨rfl, hfa⟩; (have hPa := hPq.step hfa); (have ca := HCX _ hPa)) | fail)
              go_region_held3 (fun w' => w'.cell? ⟨ab, ao + q, none⟩ = some (.int .i64 x)) ((first | exact HCX _ hPb | go_keep)) ((first | (go_at_call 19; with_reducible refine (hk1 _ hPa.drew).mono ?_; rintro y wb ⟨rfl, hPb⟩)))
              go_wp2_with (first | (go_at_call 13; go_must (refine (num_any _ _).mono ?_); rintro y w' ⟨rfl, rfl⟩) | fail)
              go_roundw
              case rel => exact ⟨q + 1, by omega, by omega, by go_num, hPb⟩
              case measure => first | (simp [intOf]; done) | (simp [intOf]; omega)
            · have hdL : decide ((L : Int) < x) = false := by simpa using hxL
              obtain ⟨k, hkn, hkx, hkm⟩ := least_k hC.good hc x (by have := HL.out; omega)
              have hfr1 := for_26 hPq.is hSz x (by omega) k (by show k ≤ n1 + 1; omega) (fun i hi => hkm i hi) (fun _ => hkx)
              rw [show (A0 ps m (n1 + 1) (chain F (limOf il) s0)).n = n1 + 1 from rfl, if_neg (show ¬ k = n1 + 1 by omega), if_neg (show ¬ k = n1 + 1 by omega)] at hfr1
              obtain ⟨sk, hsk⟩ : ∃ sk, sk = chain F (limOf il) s0 k := ⟨_, rfl⟩
              have hkk := ps_chunk (w0 := w) (sb := sb) (G := G) (B := B) (f := x5) (g := x6) (cfb := w.heap.size) hSz k hkn sk hsk.symm
              rw [← hsk] at hkx
              have hm1 : decide ((n1 : Int) + 1 ≤ k) = false := by simp; omega
              have hm2 : decide (n1 + 1 ≤ k) = false := by simp; omega
              have hm3 : decide ((sk : Int) < x) = false := by simp; omega
              have hwk2 : IntKind.i64.wrap (k : Int) = k := by rw [IntKind.wrap_i64]; omega
              by_cases hk0' : k = 0
              · subst hk0'
                rw [show ((0 : Nat) : Int) = 0 from rfl] at hkk hfr1 hm1
                clear hkm hsk
                go_wp2_with (first | (go_at_call 20; go_must (refine hfr1.mono ?_); rintro y wa ⟨rfl, hfa⟩; (have hPa := hPq.step hfa); (have ca := HCX _ hPa)) | fail)
                go_region_held3 (fun w' => w'.cell? ⟨ab, ao + q, none⟩ = some (.int .i64 x)) ((first | exact HCX _ hPb | go_keep)) ((first | (go_at_call 19; with_reducible refine (hk1 _ hPa.drew).mono ?_; rintro y wb ⟨rfl, hPb⟩)))
                have cb := HCX _ hPb
                go_wp2
                refine wp_region_noPanic ?_
                refine wp_region_held_drew (S := fun w' => w'.cell? ⟨ab, ao + q, none⟩ = some (.int .i64 x)) (by kernel_rfl) ?_ (fun hHeld => ?_)
                · exact HCX _ hPb.drew
                refine wpAnyH_take (i := 0) (oi := { dst := some 166, op := Op.move (Operand.tmp 12), type := 34, pos := _, after := #[], guard := none }) (v := ?_) rfl (by kernel_rfl) (by kernel_rfl) (by kernel_rfl) (fun _ _ _ h => h) (Or.inl ⟨by rfl, ?_⟩) (by assumption) ?_
                rotate_left 1
                · (intro w hSw; (try dsimp only at hSw); go_simp; (try (with_reducible rfl)))
                (try simp only [Act.put, List.setIfInBounds_toArray, List.set_cons_zero, List.set_cons_succ])
                refine wpAnyH_ready (rs := [1]) (by kernel_rfl) (by simp) ?_
                refine AllReadyH.cons rfl (fun K hK => ?_) AllReadyH.nil
                go_simp
                go_at_call 13
                with_reducible refine (num_any _ _).mono ?_
                rintro y w' ⟨rfl, rfl⟩
                (try simp only [])
                refine hK.out _ _ ?_ (fun hHeld2 => ?_)
                · exact HCX _ hPb.drew
                clear hK K hHeld
                (try simp only [Act.put, List.setIfInBounds_toArray, List.set_cons_zero, List.set_cons_succ])
                refine wpAnyH_take (i := 2) (oi := { dst := some 168, op := Op.binOp BinOp.neq 3 (Operand.tmp 167) (Operand.const (Value.int IntKind.i64 0)) 3, type := 4, pos := _, after := #[{ on := 1, ground := Ground.data }], guard := none }) (v := ?_) rfl (by kernel_rfl) (by kernel_rfl) (by kernel_rfl) (fun _ _ _ h => h) (Or.inl ⟨by rfl, ?_⟩) (by assumption) ?_
                rotate_left 1
                · (intro w hSw; (try dsimp only at hSw); go_simp; (try (with_reducible rfl)))
                (try simp only [Act.put, List.setIfInBounds_toArray, List.set_cons_zero, List.set_cons_succ])
                refine wpAnyH_take (i := 3) (oi := { dst := some 169, op := Op.move (Operand.tmp 168), type := 4, pos := _, after := #[{ on := 2, ground := Ground.data }, { on := 1, ground := Ground.chain }], guard := none }) (v := ?_) rfl (by kernel_rfl) (by kernel_rfl) (by kernel_rfl) (fun _ _ _ h => h) (Or.inl ⟨by rfl, ?_⟩) (by assumption) ?_
                rotate_left 1
                · (intro w hSw; (try dsimp only at hSw); go_simp; (try (with_reducible rfl)))
                (try simp only [Act.put, List.setIfInBounds_toArray, List.set_cons_zero, List.set_cons_succ])
                refine wpAnyH_take (i := 4) (oi := { dst := some 170, op := Op.move (Operand.tmp 11), type := 3, pos := _, after := #[{ on := 3, ground := Ground.guard }], guard := some (3, false) }) (v := ?_) rfl (by kernel_rfl) (by kernel_rfl) (by kernel_rfl) (fun _ _ _ h => h) (Or.inl ⟨by rfl, ?_⟩) (by assumption) ?_
                rotate_left 1
                · (intro w hSw; (try dsimp only at hSw); go_simp; (try (with_reducible rfl)))
                (try simp only [Act.put, List.setIfInBounds_toArray, List.set_cons_zero, List.set_cons_succ])
                refine wpAnyH_take (i := 5) (oi := { dst := some 171, op := Op.binOp BinOp.lss 3 (Operand.tmp 170) (Operand.const (Value.int IntKind.i64 0)) 3, type := 4, pos := _, after := #[{ on := 4, ground := Ground.data }, { on := 3, ground := Ground.guard }], guard := some (3, false) }) (v := ?_) rfl (by kernel_rfl) (by kernel_rfl) (by kernel_rfl) (fun _ _ _ h => h) (Or.inl ⟨by rfl, ?_⟩) (by assumption) ?_
                rotate_left 1
                · (intro w hSw; (try dsimp only at hSw); go_simp; (try (with_reducible rfl)))
                (try simp only [Act.put, List.setIfInBounds_toArray, List.set_cons_zero, List.set_cons_succ])
                refine wpAnyH_take (i := 6) (oi := { dst := some 172, op := Op.pick (Operand.tmp 169) (Operand.const (Value.bool true)) (Operand.tmp 171), type := 4, pos := _, after := #[{ on := 3, ground := Ground.data }, { on := 5, ground := Ground.data }], guard := none }) (v := ?_) rfl (by kernel_rfl) (by kernel_rfl) (by kernel_rfl) (fun _ _ _ h => h) (Or.inl ⟨by rfl, ?_⟩) (by assumption) ?_
                rotate_left 1
                · (intro w hSw; (try dsimp only at hSw); go_simp; (try (with_reducible rfl)))
                (try simp only [Act.put, List.setIfInBounds_toArray, List.set_cons_zero, List.set_cons_succ])
                refine wpAnyH_take (i := 7) (oi := { dst := some 173, op := Op.move (Operand.tmp 172), type := 4, pos := _, after := #[{ on := 6, ground := Ground.data }, { on := 3, ground := Ground.chain }], guard := none }) (v := ?_) rfl (by kernel_rfl) (by kernel_rfl) (by kernel_rfl) (fun _ _ _ h => h) (Or.inl ⟨by rfl, ?_⟩) (by assumption) ?_
                rotate_left 1
                · (intro w hSw; (try dsimp only at hSw); go_simp; (try (with_reducible rfl)))
                (try simp only [Act.put, List.setIfInBounds_toArray, List.set_cons_zero, List.set_cons_succ])
                refine wpAnyH_take (i := 8) (oi := { dst := some 174, op := Op.move (Operand.tmp 11), type := 3, pos := _, after := #[{ on := 7, ground := Ground.guard }], guard := some (7, false) }) (v := ?_) rfl (by kernel_rfl) (by kernel_rfl) (by kernel_rfl) (fun _ _ _ h => h) (Or.inl ⟨by rfl, ?_⟩) (by assumption) ?_
                rotate_left 1
                · (intro w hSw; (try dsimp only at hSw); go_simp; (try (with_reducible rfl)))
                (try simp only [Act.put, List.setIfInBounds_toArray, List.set_cons_zero, List.set_cons_succ])
                refine wpAnyH_take (i := 9) (oi := { dst := some 175, op := Op.move (Operand.tmp 7), type := 3, pos := _, after := #[{ on := 7, ground := Ground.guard }], guard := some (7, false) }) (v := ?_) rfl (by kernel_rfl) (by kernel_rfl) (by kernel_rfl) (fun _ _ _ h => h) (Or.inl ⟨by rfl, ?_⟩) (by assumption) ?_
                rotate_left 1
                · (intro w hSw; (try dsimp only at hSw); go_simp; (try (with_reducible rfl)))
                (try simp only [Act.put, List.setIfInBounds_toArray, List.set_cons_zero, List.set_cons_succ])
                refine wpAnyH_take (i := 10) (oi := { dst := some 176, op := Op.binOp BinOp.geq 3 (Operand.tmp 174) (Operand.tmp 175) 3, type := 4, pos := _, after := #[{ on := 8, ground := Ground.data }, { on := 9, ground := Ground.data }, { on := 7, ground := Ground.guard }], guard := some (7, false) }) (v := ?_) rfl (by kernel_rfl) (by kernel_rfl) (by kernel_rfl) (fun _ _ _ h => h) (Or.inl ⟨by rfl, ?_⟩) (by assumption) ?_
                rotate_left 1
                · (intro w hSw; (try dsimp only at hSw); go_simp; (try (with_reducible rfl)))
                (try simp only [Act.put, List.setIfInBounds_toArray, List.set_cons_zero, List.set_cons_succ])
                refine wpAnyH_take (i := 11) (oi := { dst := some 177, op := Op.pick (Operand.tmp 173) (Operand.const (Value.bool true)) (Operand.tmp 176), type := 4, pos := _, after := #[{ on := 7, ground := Ground.data }, { on := 10, ground := Ground.data }], guard := none }) (v := ?_) rfl (by kernel_rfl) (by kernel_rfl) (by kernel_rfl) (fun _ _ _ h => h) (Or.inl ⟨by rfl, ?_⟩) (by assumption) ?_
                rotate_left 1
                · (intro w hSw; (try dsimp only at hSw); go_simp; (try (with_reducible rfl)))
                (try simp only [Act.put, List.setIfInBounds_toArray, List.set_cons_zero, List.set_cons_succ])
                refine wpAnyH_take (i := 12) (oi := { dst := some 178, op := Op.move (Operand.tmp 177), type := 4, pos := _, after := #[{ on := 11, ground := Ground.data }, { on := 7, ground := Ground.chain }], guard := none }) (v := ?_) rfl (by kernel_rfl) (by kernel_rfl) (by kernel_rfl) (fun _ _ _ h => h) (Or.inl ⟨by rfl, ?_⟩) (by assumption) ?_
                rotate_left 1
                · (intro w hSw; (try dsimp only at hSw); go_simp; (try (with_reducible rfl)))
                (try simp only [Act.put, List.setIfInBounds_toArray, List.set_cons_zero, List.set_cons_succ])
                refine wpAnyH_take (i := 13) (oi := { dst := some 179, op := Op.move (Operand.tmp 5), type := 33, pos := _, after := #[{ on := 12, ground := Ground.guard }], guard := some (12, false) }) (v := ?_) rfl (by kernel_rfl) (by kernel_rfl) (by kernel_rfl) (fun _ _ _ h => h) (Or.inl ⟨by rfl, ?_⟩) (by assumption) ?_
                rotate_left 1
                · (intro w hSw; (try dsimp only at hSw); go_simp; (try (with_reducible rfl)))
                (try simp only [Act.put, List.setIfInBounds_toArray, List.set_cons_zero, List.set_cons_succ])
                refine wpAnyH_take (i := 14) (oi := { dst := some 180, op := Op.move (Operand.tmp 11), type := 3, pos := _, after := #[{ on := 12, ground := Ground.guard }], guard := some (12, false) }) (v := ?_) rfl (by kernel_rfl) (by kernel_rfl) (by kernel_rfl) (fun _ _ _ h => h) (Or.inl ⟨by rfl, ?_⟩) (by assumption) ?_
                rotate_left 1
                · (intro w hSw; (try dsimp only at hSw); go_simp; (try (with_reducible rfl)))
                (try simp only [Act.put, List.setIfInBounds_toArray, List.set_cons_zero, List.set_cons_succ])
                refine wpAnyH_take (i := 16) (oi := { dst := some 182, op := Op.move (Operand.tmp 1), type := 46, pos := _, after := #[{ on := 12, ground := Ground.guard }], guard := some (12, false) }) (v := ?_) rfl (by kernel_rfl) (by kernel_rfl) (by kernel_rfl) (fun _ _ _ h => h) (Or.inl ⟨by rfl, ?_⟩) (by assumption) ?_
                rotate_left 1
                · (intro w hSw; (try dsimp only at hSw); go_simp; (try (with_reducible rfl)))
                (try simp only [Act.put, List.setIfInBounds_toArray, List.set_cons_zero, List.set_cons_succ])
                refine wpAnyH_take (i := 17) (oi := { dst := some 183, op := Op.move (Operand.tmp 10), type := 3, pos := _, after := #[{ on := 12, ground := Ground.guard }], guard := some (12, false) }) (v := ?_) rfl (by kernel_rfl) (by kernel_rfl) (by kernel_rfl) (fun _ _ _ h => h) (Or.inl ⟨by rfl, ?_⟩) (by assumption) ?_
                rotate_left 1
                · (intro w hSw; (try dsimp only at hSw); go_simp; (try (with_reducible rfl)))
                (try simp only [Act.put, List.setIfInBounds_toArray, List.set_cons_zero, List.set_cons_succ])
                refine wpAnyH_take (i := 18) (oi := { dst := some 184, op := Op.indexAddr 46 (Operand.tmp 182) (Operand.tmp 183), type := 0, pos := _, after := #[{ on := 16, ground := Ground.data }, { on := 17, ground := Ground.data }, { on := 12, ground := Ground.guard }], guard := some (12, false) }) (v := ?_) rfl (by kernel_rfl) (by kernel_rfl) (by kernel_rfl) (fun _ _ _ h => h) (Or.inl ⟨by rfl, ?_⟩) (by assumption) ?_
                rotate_left 1
                · (intro w hSw; (try dsimp only at hSw); go_simp; (try (with_reducible rfl)))
                (try simp only [Act.put, List.setIfInBounds_toArray, List.set_cons_zero, List.set_cons_succ])
                refine wpAnyH_take (i := 19) (oi := { dst := some 185, op := Op.load 3 (Operand.tmp 184), type := 3, pos := _, after := #[{ on := 18, ground := Ground.data }, { on := 12, ground := Ground.guard }], guard := some (12, false) }) (v := ?_) rfl (by kernel_rfl) (by kernel_rfl) (by kernel_rfl) (fun _ _ _ h => h) (Or.inl ⟨by rfl, ?_⟩) (by assumption) ?_
                rotate_left 1
                · (intro w hSw; (try dsimp only at hSw); go_simp; (try (with_reducible rfl)))
                (try simp only [Act.put, List.setIfInBounds_toArray, List.set_cons_zero, List.set_cons_succ])
                refine wpAnyH_ready (rs := [15]) (by kernel_rfl) (by simp) ?_
                refine AllReadyH.cons rfl (fun K hK => ?_) AllReadyH.nil
                go_simp
                go_at_call 19
                with_reducible refine (hkk _ hPb.drew).mono ?_
                rintro y wc ⟨rfl, hPc⟩
                (try simp only [])
                refine hK.out _ _ ?_ (fun hHeld3 => ?_)
                · exact HCX _ hPc
                clear hK K hHeld2
                (try simp only [Act.put, List.setIfInBounds_toArray, List.set_cons_zero, List.set_cons_succ])
                refine wpAnyH_take (i := 20) (oi := { dst := some 186, op := Op.binOp BinOp.lss 3 (Operand.tmp 181) (Operand.tmp 185) 3, type := 4, pos := _, after := #[{ on := 15, ground := Ground.data }, { on := 19, ground := Ground.data }, { on := 12, ground := Ground.guard }], guard := some (12, false) }) (v := ?_) rfl (by kernel_rfl) (by kernel_rfl) (by kernel_rfl) (fun _ _ _ h => h) (Or.inl ⟨by rfl, ?_⟩) (by assumption) ?_
                rotate_left 1
                · (intro w hSw; (try dsimp only at hSw); go_simp; (try (with_reducible rfl)))
                (try simp only [Act.put, List.setIfInBounds_toArray, List.set_cons_zero, List.set_cons_succ])
                refine wpAnyH_take (i := 21) (oi := { dst := some 187, op := Op.pick (Operand.tmp 178) (Operand.const (Value.bool true)) (Operand.tmp 186), type := 4, pos := _, after := #[{ on := 12, ground := Ground.data }, { on := 20, ground := Ground.data }], guard := none }) (v := ?_) rfl (by kernel_rfl) (by kernel_rfl) (by kernel_rfl) (fun _ _ _ h => h) (Or.inl ⟨by rfl, ?_⟩) (by assumption) ?_
                rotate_left 1
                · (intro w hSw; (try dsimp only at hSw); go_simp; (try (with_reducible rfl)))
                (try simp only [Act.put, List.setIfInBounds_toArray, List.set_cons_zero, List.set_cons_succ])
                refine wpAnyH_take (i := 22) (oi := { dst := some 188, op := Op.move (Operand.tmp 187), type := 4, pos := _, after := #[{ on := 21, ground := Ground.data }, { on := 15, ground := Ground.chain }], guard := none }) (v := ?_) rfl (by kernel_rfl) (by kernel_rfl) (by kernel_rfl) (fun _ _ _ h => h) (Or.inl ⟨by rfl, ?_⟩) (by assumption) ?_
                rotate_left 1
                · (intro w hSw; (try dsimp only at hSw); go_simp; (try (with_reducible rfl)))
                (try simp only [Act.put, List.setIfInBounds_toArray, List.set_cons_zero, List.set_cons_succ])
                refine wpAnyH_take (i := 23) (oi := { dst := some 189, op := Op.move (Operand.tmp 11), type := 3, pos := _, after := #[{ on := 22, ground := Ground.guard }], guard := some (22, false) }) (v := ?_) rfl (by kernel_rfl) (by kernel_rfl) (by kernel_rfl) (fun _ _ _ h => h) (Or.inl ⟨by rfl, ?_⟩) (by assumption) ?_
                rotate_left 1
                · (intro w hSw; (try dsimp only at hSw); go_simp; (try (with_reducible rfl)))
                (try simp only [Act.put, List.setIfInBounds_toArray, List.set_cons_zero, List.set_cons_succ])
                refine wpAnyH_take (i := 24) (oi := { dst := some 190, op := Op.binOp BinOp.gtr 3 (Operand.tmp 189) (Operand.const (Value.int IntKind.i64 0)) 3, type := 4, pos := _, after := #[{ on := 23, ground := Ground.data }, { on := 22, ground := Ground.guard }], guard := some (22, false) }) (v := ?_) rfl (by kernel_rfl) (by kernel_rfl) (by kernel_rfl) (fun _ _ _ h => h) (Or.inl ⟨by rfl, ?_⟩) (by assumption) ?_
                rotate_left 1
                · (intro w hSw; (try dsimp only at hSw); go_simp; (try (with_reducible rfl)))
                (try simp only [Act.put, List.setIfInBounds_toArray, List.set_cons_zero, List.set_cons_succ])
                refine wpAnyH_take (i := 25) (oi := { dst := some 191, op := Op.move (Operand.tmp 190), type := 4, pos := _, after := #[{ on := 24, ground := Ground.data }, { on := 22, ground := Ground.chain }, { on := 22, ground := Ground.guard }], guard := some (22, false) }) (v := ?_) rfl (by kernel_rfl) (by kernel_rfl) (by kernel_rfl) (fun _ _ _ h => h) (Or.inl ⟨by rfl, ?_⟩) (by assumption) ?_
                rotate_left 1
                · (intro w hSw; (try dsimp only at hSw); go_simp; (try (with_reducible rfl)))
                (try simp only [Act.put, List.setIfInBounds_toArray, List.set_cons_zero, List.set_cons_succ])
                refine wpAnyH_take (i := 26) (oi := { dst := some 192, op := Op.move (Operand.tmp 5), type := 33, pos := _, after := #[{ on := 25, ground := Ground.guard }], guard := some (25, true) }) (v := undef) rfl (by kernel_rfl) (by kernel_rfl) (by kernel_rfl) (fun _ _ _ h => h) (Or.inr ⟨by rfl, rfl⟩) (by assumption) ?_
                (try simp only [Act.put, List.setIfInBounds_toArray, List.set_cons_zero, List.set_cons_succ])
                refine wpAnyH_take (i := 27) (oi := { dst := some 193, op := Op.move (Operand.tmp 11), type := 3, pos := _, after := #[{ on := 25, ground := Ground.guard }], guard := some (25, true) }) (v := undef) rfl (by kernel_rfl) (by kernel_rfl) (by kernel_rfl) (fun _ _ _ h => h) (Or.inr ⟨by rfl, rfl⟩) (by assumption) ?_
                (try simp only [Act.put, List.setIfInBounds_toArray, List.set_cons_zero, List.set_cons_succ])
                refine wpAnyH_take (i := 28) (oi := { dst := some 194, op := Op.binOp BinOp.sub 3 (Operand.tmp 193) (Operand.const (Value.int IntKind.i64 1)) 3, type := 3, pos := _, after := #[{ on := 27, ground := Ground.data }, { on := 25, ground := Ground.guard }], guard := some (25, true) }) (v := undef) rfl (by kernel_rfl) (by kernel_rfl) (by kernel_rfl) (fun _ _ _ h => h) (Or.inr ⟨by rfl, rfl⟩) (by assumption) ?_
                (try simp only [Act.put, List.setIfInBounds_toArray, List.set_cons_zero, List.set_cons_succ])
                refine wpAnyH_take (i := 30) (oi := { dst := some 196, op := Op.move (Operand.tmp 1), type := 46, pos := _, after := #[{ on := 25, ground := Ground.guard }], guard := some (25, true) }) (v := undef) rfl (by kernel_rfl) (by kernel_rfl) (by kernel_rfl) (fun _ _ _ h => h) (Or.inr ⟨by rfl, rfl⟩) (by assumption) ?_
                (try simp only [Act.put, List.setIfInBounds_toArray, List.set_cons_zero, List.set_cons_succ])
                refine wpAnyH_take (i := 31) (oi := { dst := some 197, op := Op.move (Operand.tmp 10), type := 3, pos := _, after := #[{ on := 25, ground := Ground.guard }], guard := some (25, true) }) (v := undef) rfl (by kernel_rfl) (by kernel_rfl) (by kernel_rfl) (fun _ _ _ h => h) (Or.inr ⟨by rfl, rfl⟩) (by assumption) ?_
                (try simp only [Act.put, List.setIfInBounds_toArray, List.set_cons_zero, List.set_cons_succ])
                refine wpAnyH_take (i := 32) (oi := { dst := some 198, op := Op.indexAddr 46 (Operand.tmp 196) (Operand.tmp 197), type := 0, pos := _, after := #[{ on := 30, ground := Ground.data }, { on := 31, ground := Ground.data }, { on := 25, ground := Ground.guard }], guard := some (25, true) }) (v := undef) rfl (by kernel_rfl) (by kernel_rfl) (by kernel_rfl) (fun _ _ _ h => h) (Or.inr ⟨by rfl, rfl⟩) (by assumption) ?_
                (try simp only [Act.put, List.setIfInBounds_toArray, List.set_cons_zero, List.set_cons_succ])
                refine wpAnyH_take (i := 33) (oi := { dst := some 199, op := Op.load 3 (Operand.tmp 198), type := 3, pos := _, after := #[{ on := 32, ground := Ground.data }, { on := 25, ground := Ground.guard }], guard := some (25, true) }) (v := undef) rfl (by kernel_rfl) (by kernel_rfl) (by kernel_rfl) (fun _ _ _ h => h) (Or.inr ⟨by rfl, rfl⟩) (by assumption) ?_
                (try simp only [Act.put, List.setIfInBounds_toArray, List.set_cons_zero, List.set_cons_succ])
                refine wpAnyH_ready (rs := [29]) (by kernel_rfl) (by simp) ?_
                refine AllReadyH.cons rfl (fun K hK => ?_) AllReadyH.nil
                go_simp
                (try simp only [])
                refine hK.out _ _ ?_ (fun hHeld4 => ?_)
                · exact HCX _ hPc
                clear hK K hHeld3
                (try simp only [Act.put, List.setIfInBounds_toArray, List.set_cons_zero, List.set_cons_succ])
                refine wpAnyH_take (i := 34) (oi := { dst := some 200, op := Op.binOp BinOp.geq 3 (Operand.tmp 195) (Operand.tmp 199) 3, type := 4, pos := _, after := #[{ on := 29, ground := Ground.data }, { on := 33, ground := Ground.data }, { on := 25, ground := Ground.guard }], guard := some (25, true) }) (v := undef) rfl (by kernel_rfl) (by kernel_rfl) (by kernel_rfl) (fun _ _ _ h => h) (Or.inr ⟨by rfl, rfl⟩) (by assumption) ?_
                (try simp only [Act.put, List.setIfInBounds_toArray, List.set_cons_zero, List.set_cons_succ])
                refine wpAnyH_take (i := 35) (oi := { dst := some 201, op := Op.pick (Operand.tmp 191) (Operand.tmp 200) (Operand.const (Value.bool false)), type := 4, pos := _, after := #[{ on := 25, ground := Ground.data }, { on := 34, ground := Ground.data }, { on := 22, ground := Ground.guard }], guard := some (22, false) }) (v := ?_) rfl (by kernel_rfl) (by kernel_rfl) (by kernel_rfl) (fun _ _ _ h => h) (Or.inl ⟨by rfl, ?_⟩) (by assumption) ?_
                rotate_left 1
                · (intro w hSw; (try dsimp only at hSw); go_simp; (try (with_reducible rfl)))
                (try simp only [Act.put, List.setIfInBounds_toArray, List.set_cons_zero, List.set_cons_succ])
                refine wpAnyH_take (i := 36) (oi := { dst := some 202, op := Op.pick (Operand.tmp 188) (Operand.const (Value.bool true)) (Operand.tmp 201), type := 4, pos := _, after := #[{ on := 22, ground := Ground.data }, { on := 35, ground := Ground.data }], guard := none }) (v := ?_) rfl (by kernel_rfl) (by kernel_rfl) (by kernel_rfl) (fun _ _ _ h => h) (Or.inl ⟨by rfl, ?_⟩) (by assumption) ?_
                rotate_left 1
                · (intro w hSw; (try dsimp only at hSw); go_simp; (try (with_reducible rfl)))
                (try simp only [Act.put, List.setIfInBounds_toArray, List.set_cons_zero, List.set_cons_succ])
                refine wpAnyH_done (by kernel_rfl) ?_ _
                refine NoPanic.normal ?_
                go_wp2
                go_roundw
                case rel => exact ⟨q + 1, by omega, by omega, by go_num, hPc⟩
                case measure => first | (simp [intOf]; done) | (simp [intOf]; omega)
              · obtain ⟨sp, hsp⟩ : ∃ sp, sp = chain F (limOf il) s0 (k - 1) := ⟨_, rfl⟩
                have hkp := ps_chunk (w0 := w) (sb := sb) (G := G) (B := B) (f := x5) (g := x6) (cfb := w.heap.size) hSz (k - 1) (by omega) sp hsp.symm
                rw [show ((k - 1 : Nat) : Int) = (k : Int) - 1 by omega] at hkp
                have hpx := hkm (k - 1) (by omega)
                rw [← hsp] at hpx
                have hm4 : decide (x ≤ (sp : Int)) = false := by simp; omega
                have hm5 : decide ((0 : Int) < k) = true := by simp; omega
                have hm6 : decide (0 < k) = true := by simp; omega
                have hm7 : 0 < k := by omega
                have hwk3 : IntKind.i64.wrap ((k : Int) - 1) = (k : Int) - 1 := by rw [IntKind.wrap_i64]; omega
                clear hkm hsk hsp
                go_wp2_with (first | (go_at_call 20; go_must (refine hfr1.mono ?_); rintro y wa ⟨rfl, hfa⟩; (have hPa := hPq.step hfa); (have ca := HCX _ hPa)) | fail)
                go_region_held3 (fun w' => w'.cell? ⟨ab, ao + q, none⟩ = some (.int .i64 x)) ((first | exact HCX _ hPb | go_keep)) ((first | (go_at_call 19; with_reducible refine (hk1 _ hPa.drew).mono ?_; rintro y wb ⟨rfl, hPb⟩)))
                have cb := HCX _ hPb
                go_wp2
                go_region_held3 (fun w' => w'.cell? ⟨ab, ao + q, none⟩ = some (.int .i64 x)) ((first | exact HCX _ hPd | exact HCX _ hPc | go_keep)) ((first | (go_at_call 13; with_reducible refine (num_any _ _).mono ?_; rintro y w' ⟨rfl, rfl⟩) | (go_at_call 19; with_reducible refine (hkk _ hPb.drew).mono ?_; rintro y wc ⟨rfl, hPc⟩) | (go_at_call 19; with_reducible refine (hkp _ hPc).mono ?_; rintro y wd ⟨rfl, hPd⟩)))
                go_wp2
                go_roundw
                case rel => exact ⟨q + 1, by omega, by omega, by go_num, hPd⟩
                case measure => first | (simp [intOf]; done) | (simp [intOf]; omega)
        · by_cases h1 : q < na
          · have h2 : ¬ q < 100 := fun h => hlt ⟨h1, h⟩
            clear hlt
            go_wp2_with (first | (go_at_call 9; go_must (refine (hwk _).mono ?_); rintro y wz ⟨rfl, hfz⟩) | fail)
            go_ret
            exact ⟨rfl, gb_trans hPq.gr hfz⟩
          · clear hlt
            go_wp2_with (first | (go_at_call 9; go_must (refine (hwk _).mono ?_); rintro y wz ⟨rfl, hfz⟩) | fail)
            go_ret
            exact ⟨rfl, gb_trans hPq.gr hfz⟩

end Go.Proofs.Ytoaaaeefcipdcaa

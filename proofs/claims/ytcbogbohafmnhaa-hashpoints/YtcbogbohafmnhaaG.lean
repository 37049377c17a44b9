/-
  HashSums' walk.
-/
import Derived.Test.YtcbogbohafmnhaaO
import Derived.Test.YtcbogbohafmnhaaD
import Derived.Lib.SlBytesConst
namespace Go.Proofs.Ytcbogbohafmnhaa
open Go.RowKit
set_option linter.unusedVariables false

theorem Has.take {w : World} {a : Option Addr} {n : Nat} {ys : List Int} (h : Has w a n ys) (m : Nat) (hm : m ≤ n) : Has w a m (ys.take m) := by
  obtain ⟨hl, hc⟩ := h
  refine ⟨by rw [List.length_take]; omega, fun h0 => ?_⟩
  obtain ⟨b, o, e, hcc⟩ := hc (by omega)
  refine ⟨b, o, e, fun i hi => ?_⟩
  rw [hcc i (by omega)]
  simp [List.getD, hi]
theorem isBytes_take {ys : List Int} (h : isBytes ys) (m : Nat) : isBytes (ys.take m) := fun z hz => h z (List.mem_of_mem_take hz)
theorem Own.pre {B : Nat} {w : World} {ao : Option Addr} {cap : Nat} {xs ys : List Int} (h : Own B w ao cap (xs ++ ys)) : Has w ao xs.length xs := by
  have := h.has.take xs.length (by simp)
  simpa using this
theorem has_one (w : World) (z : Int) (fr : Nat × Nat) : Has (w.alloc (.cells #[.int .u8 z] 5 fr)) (some ⟨w.heap.size, 0, none⟩) 1 [z] :=
  ⟨rfl, fun _ => ⟨_, _, rfl, fun i hi => by
    obtain rfl : i = 0 := by omega
    rw [cell_of_row _ _ _ _ _ _ (heap_alloc_new w _)]
    rfl⟩⟩

theorem sum_a : sumB [97] = 12638187200555641996 := by decide +kernel

set_option maxRecDepth 100000 in
set_option maxHeartbeats 4000000 in
theorem sums_any (a : Option Addr) (n c : Nat) (w : World) (hn : n ≤ maxLen) (hin : BsIn w a n) : Calls Try.prog 3 #[.slice a n c] w fun e w' => e = .returned (.bool true) ∧ w.grownBy w' none := by
  have hn' : (n : Int) ≤ 9223372036854775807 := by unfold maxLen at hn; omega
  go_enter Try.func3, Try.ntmps3
  go_wp2
  go_loopw [3] (fun v wr => ∃ (k : Nat), k ≤ n ∧ v = .int .i64 k ∧ w.grownBy wr none) (fun v _ => n - (intOf v).toNat)
  case atStart => exact ⟨0, by omega, rfl, gb_refl _ _⟩
  case round =>
    obtain ⟨k, hk, rfl, hF⟩ := hrel
    by_cases hlt : k < n ∧ k < 40
    · obtain ⟨hlt, hlt2⟩ := hlt
      obtain ⟨b, o, rfl, sa, sn, sc, ys, y0, hy, hb, hsn, hsc, hcap, hcm⟩ := hin k hlt
      unfold maxLen at hcm
      have hd1 : decide ((k : Int) < n) = true := by simp; omega
      have hd2 : decide ((k : Int) < 40) = true := by simp; omega
      have hd3 : decide (k < n) = true := by simp; omega
      have z0 := gb_cellN hF y0
      clear hin
      by_cases h3 : sn ≤ 3000
      · have hl := lend_any (hy.kept0 hF) sc hsc hsn
        go_wp2_with (first | (go_at_call 10; go_must (refine hl.mono ?_); rintro e w3 ⟨ao, cap, rfl, hown, hf3⟩) | fail)
        have hF3 := gb_trans hF hf3
        have hH := hown.pre
        rw [hy.1] at hH
        have hs1 := sum_11 hH hb cap (by omega)
        have hs2 := sum_12 (hy.kept0 hF3) hb sc (by omega)
        have hq := intact_q (c := sc) hown (hy.kept0 hF3) hb hsn
        clear hl hy hH hown hf3
        generalize sumB ys = h at *
        go_wp2_with (first | (go_at_call 11; go_must (refine hs1.mono ?_); rintro e w4 ⟨rfl, rfl⟩) | (go_at_call 12; go_must (refine hs2.mono ?_); rintro e w4 ⟨rfl, rfl⟩) | (go_at_call 13; go_must (refine hq.mono ?_); rintro e w4 ⟨rfl, q, rfl⟩) | fail)
        go_roundw
        case rel => exact ⟨k + 1, by omega, by go_num, gb_drewN hF3 q⟩
        case measure => simp [intOf]; omega
      · have hy2 := hy.take 3000 (by omega)
        have hb2 := isBytes_take hb 3000
        generalize ys.take 3000 = us at *
        have hl := lend_any (hy2.kept0 hF) sc hsc (by omega)
        obtain ⟨b1, o1, rfl, _⟩ := hy.2 (by omega)
        clear hy hb
        go_wp2_with (first | (go_at_call 10; go_must (refine hl.mono ?_); rintro e w3 ⟨ao, cap, rfl, hown, hf3⟩) | fail)
        have hF3 := gb_trans hF hf3
        have hH := hown.pre
        rw [hy2.1] at hH
        have hs1 := sum_11 hH hb2 cap (by omega)
        have hs2 := sum_12 (hy2.kept0 hF3) hb2 sc (by omega)
        have hq := intact_q (c := sc) hown (hy2.kept0 hF3) hb2 (by omega)
        clear hl hy2 hH hown hf3
        generalize sumB us = h at *
        go_wp2_with (first | (go_at_call 11; go_must (refine hs1.mono ?_); rintro e w4 ⟨rfl, rfl⟩) | (go_at_call 12; go_must (refine hs2.mono ?_); rintro e w4 ⟨rfl, rfl⟩) | (go_at_call 13; go_must (refine hq.mono ?_); rintro e w4 ⟨rfl, q, rfl⟩) | fail)
        go_roundw
        case rel => exact ⟨k + 1, by omega, by go_num, gb_drewN hF3 q⟩
        case measure => simp [intOf]; omega
    · clear hin
      have hcv := Lib.run_convert_bytes_const wr 23 5 #[.int .u8 97] 1 1 Try.underlying23 Try.underlying5
      simp at hcv
      have hs := sum_11 (has_one wr 97 (1, 2)) (by intro z hz; simp at hz; omega) 1 (by omega)
      rw [sum_a] at hs
      simp only [Int.cast_ofNat_Int] at hs
      by_cases hkn : k < n
      · have hd2 : ¬ k < 40 := fun h => hlt ⟨hkn, h⟩
        clear hlt
        go_wp2_with (first | (go_at_call 11; go_must (refine hs.mono ?_); rintro e w4 ⟨rfl, rfl⟩) | fail)
        go_ret
        exact ⟨rfl, gb_alloc hF _⟩
      · clear hlt
        go_wp2_with (first | (go_at_call 11; go_must (refine hs.mono ?_); rintro e w4 ⟨rfl, rfl⟩) | fail)
        go_ret
        exact ⟨rfl, gb_alloc hF _⟩

end Go.Proofs.Ytcbogbohafmnhaa

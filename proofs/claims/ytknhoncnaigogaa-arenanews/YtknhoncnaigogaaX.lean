/-
  isThere, least, put8.
-/
import Derived.Test.YtknhoncnaigogaaV
namespace Go.Proofs.Ytknhoncnaigogaa
open Go.RowKit
set_option linter.unusedVariables false

theorem isThere_yes (x n : Int) (w : World) (h : There 4096 8192 x n) : Calls Try.prog 27 #[.int .i64 x, .int .i64 n] w fun e w' => e = .returned (.bool true) ∧ w = w' := by
  obtain ⟨h1, h2, h3, h4⟩ := h
  by_cases hn : n = 0
  · have hb : (n == 0) = true := by simp [hn]
    go_enter Try.func27, Try.ntmps27
    go_wp2
    go_ret
    exact ⟨rfl, rfl⟩
  · have hb : (n == 0) = false := by simp [hn]
    by_cases hx : x + n ≤ 4096
    · go_enter Try.func27, Try.ntmps27
      go_wp2
      go_ret
      exact ⟨rfl, rfl⟩
    · have hx1 : 4096 ≤ x := by omega
      have hx2 : x + n ≤ 8192 := by omega
      go_enter Try.func27, Try.ntmps27
      go_wp2
      go_ret
      exact ⟨rfl, rfl⟩

theorem isThere_no (x n : Int) (w : World) (h : ¬ There 4096 8192 x n) : Calls Try.prog 27 #[.int .i64 x, .int .i64 n] w fun e w' => e = .returned (.bool false) ∧ w = w' := by
  unfold There at h
  by_cases h1 : x < 0
  · clear h
    go_enter Try.func27, Try.ntmps27
    go_wp2
    go_ret
    exact ⟨rfl, rfl⟩
  by_cases h2 : n < 0
  · clear h
    go_enter Try.func27, Try.ntmps27
    go_wp2
    go_ret
    exact ⟨rfl, rfl⟩
  by_cases h3 : 8192 < x
  · clear h
    go_enter Try.func27, Try.ntmps27
    go_wp2
    go_ret
    exact ⟨rfl, rfl⟩
  by_cases h4 : 8192 < n
  · clear h
    go_enter Try.func27, Try.ntmps27
    go_wp2
    go_ret
    exact ⟨rfl, rfl⟩
  have hn : ¬ n = 0 := by omega
  have hb : (n == 0) = false := by simp [hn]
  have hx : ¬ x + n ≤ 4096 := by omega
  by_cases h5 : 4096 ≤ x
  · have hx2 : ¬ x + n ≤ 8192 := by omega
    clear h
    go_enter Try.func27, Try.ntmps27
    go_wp2
    go_ret
    exact ⟨rfl, rfl⟩
  · clear h
    go_enter Try.func27, Try.ntmps27
    go_wp2
    go_ret
    exact ⟨rfl, rfl⟩

theorem least_any (x y : Int) (w : World) : Calls Try.prog 32 #[.int .i64 x, .int .i64 y] w fun e w' => e = .returned (.int .i64 (min x y)) ∧ w = w' := by
  by_cases h : x < y
  · have hm : Hid (min x y = x) := by show _ = _; omega
    go_enter Try.func32, Try.ntmps32
    go_wp2
    go_ret
    rw [hm.out]
    exact ⟨rfl, rfl⟩
  · have hm : Hid (min x y = y) := by show _ = _; omega
    go_enter Try.func32, Try.ntmps32
    go_wp2
    go_ret
    rw [hm.out]
    exact ⟨rfl, rfl⟩

theorem lay_twice {Z zs : List Int} (hZ : Z.length = 8192) (hl : zs.length = 8192) : lay (lay Z 0 (cut zs 0 4096)) 4096 (cut zs 4096 4096) = zs := by
  have h1 : (cut zs 0 4096).length = 4096 := length_cut (by omega)
  have h2 : (cut zs 4096 4096).length = 4096 := length_cut (by omega)
  have e1 : lay Z 0 (cut zs 0 4096) = cut zs 0 4096 ++ Z.drop 4096 := by simp [lay, h1]
  rw [e1]
  unfold lay
  rw [h2, List.take_append_of_le_length (by omega), List.take_of_length_le (by omega)]
  rw [List.drop_eq_nil_of_le (by simp [h1]; omega)]
  rw [List.append_nil]
  exact cut_all hl

set_option maxHeartbeats 1000000 in
theorem put8_any {w : World} {b g B : Nat} {Z zs : List Int} (hA : IsA w b g 4096 2 Z) (hZ : Z.length = 8192) {wa : Option Addr} {wc : Nat} (hW : Own B w wa wc zs) (hl : zs.length = 8192) (hg : g < B) (hb : isBytes zs) :
    Calls Try.prog 33 #[.pointer (some ⟨b, 0, none⟩), .slice wa 8192 wc] w fun e w' => e = .returned (.bool true) ∧ w.grownBy w' (some g) ∧ IsA w' b g 4096 2 zs := by
  obtain ⟨wb, rfl, hwb, hwc, hwm⟩ := hW.form (by omega)
  unfold maxLen at hwm
  have hH := hW.has
  rw [hl] at hH hwc
  have k1 := hH.part 0 4096 0 (by omega) (fun _ => rfl)
  have hw4 : ¬ wc = 4096 := by omega
  go_enter Try.func33, Try.ntmps33
  go_wp2_with fail
  refine (write_yes hA 0 _ 4096 wc _ k1 (isBytes_cut hb _ _) (by omega) ⟨by omega, by omega, by omega, by omega⟩).mono ?_
  rintro e w1 ⟨rfl, hf1, hA1⟩
  have hH1 := hH.kept hf1 (by intro k hk e; cases e; simp at hk; omega)
  have k2 := hH1.part 4096 4096 4096 (by omega) (fun _ => rfl)
  have hl1 : (lay Z (0 : Int).toNat (cut zs 0 4096)).length = 8192 := by rw [length_lay (by rw [length_cut (by omega)]; show 0 + 4096 ≤ _; omega), hZ]
  go_wp2_with (first | (go_at_call 16; refine (num_any _ _).mono ?_; rintro e w' ⟨rfl, rfl⟩) | fail)
  refine (write_yes hA1 4096 _ 4096 (wc - 4096) _ k2 (isBytes_cut hb _ _) (by omega) ⟨by omega, by omega, by omega, by omega⟩).mono ?_
  rintro e w2 ⟨rfl, hf2, hA2⟩
  have hF := gb_trans hf1 hf2
  have hA3 : IsA w2 b g 4096 2 zs := by
    have e := lay_twice hZ hl
    have := hA2
    rw [show (4096 : Int).toNat = 4096 from rfl, show (0 : Int).toNat = 0 from rfl, e] at this
    exact this
  clear hA2 hA1 hH1 k2 k1 hH hf1 hf2
  go_wp2_with (go_at_call 16; refine (num_any _ _).mono ?_; rintro e w' ⟨rfl, rfl⟩)
  go_ret
  exact ⟨rfl, hF, hA3⟩

end Go.Proofs.Ytknhoncnaigogaa

import Derived.Test.YtohneboimmcocaaGreatRa
/-
  The document's Handle, Find.
-/
namespace Go.Proofs.YtohneboimmcocaaGreat
open Go.RowKit
set_option linter.unusedVariables false

def Rb.hdl (R : Rb) (i : Nat) : Nat := R.gn i * 4294967296 + (R.pl i / 8 + 1)
/-- Its numbers are right. -/
structure RFit (R : Rb) : Prop where
  n0 : 0 < R.n
  n2 : R.n ≤ 62
  m0 : 0 < R.m
  m2 : R.m ≤ 1024
  gn : ∀ i, R.gn i < 4294967296
  pl : ∀ i, i < R.N → R.pl i ≤ 1073741824
  N : R.N ≤ 16777216
  s0 : ∀ i, i < R.n → 64 ≤ R.sz i
  s1 : ∀ i, i < R.n → R.sz i ≤ 1048576
  ps : R.ps ≤ 1048576
  rl : ∀ i, i < R.n → (R.row i).length ≤ 16777216

section
variable {w w' : World} {rb : Nat} {F : Nat → Prop} {Q : Rl} {c d e : Int} {R : Rb}

set_option maxRecDepth 100000 in
theorem rhandle_any (h : IsR w rb F Q c d e R) (hR : RFit R) {i : Nat} (hi : i < R.N) : Calls Tryz.prog 121 #[.pointer (some ⟨rb, 0, none⟩), .int .i64 i] w fun y w' => y = .returned (.int .u64 (R.hdl i)) ∧ w.grownBy w' none := by
  obtain ⟨cb, cc, hcv⟩ := h.cshape (by omega)
  have c7 := h.sc 7
  simp [rset, hcv] at c7
  have e0 := h.ccell hcv hi (j := 0) (by omega)
  have e2 := h.ccell hcv hi (j := 2) (by omega)
  simp [rckC] at e0 e2
  have hg := hR.gn i
  have hp := hR.pl i hi
  have hN := hR.N
  have hiz : (i : Int) < (R.N : Int) := by omega
  unfold Rb.hdl
  generalize R.gn i = gn at *
  generalize R.pl i = pl at *
  generalize R.N = N at *
  clear h
  go_enter Tryz.func121, Tryz.ntmps121
  go_wp2
  go_quiet (fail)
  go_wp2
  go_ret
  exact ⟨by congr 2, gb_drewN (gb_refl _ _) _⟩

set_option maxRecDepth 100000 in
set_option maxHeartbeats 1000000 in
theorem rfind_yes (h : IsR w rb F Q c d e R) (hR : RFit R) {i H : Nat} (hi : i < R.N) (ht : R.tk i = true) (hh : R.hdl i = H) (hlo : ∀ j, j < i → R.tk j = true → R.hdl j ≠ H) : Calls Tryz.prog 85 #[.pointer (some ⟨rb, 0, none⟩), .int .u64 H] w fun y w' => y = .returned (.int .i64 i) ∧ w.grownBy w' none := by
  obtain ⟨cb, cc, hcv⟩ := h.cshape (by omega)
  have hN := hR.N
  have hhd := fun W (hf : w.grownBy W none) j (hj : j < R.N) => rhandle_any (h.kept0 hf) hR hj
  go_enter Tryz.func85, Tryz.ntmps85
  go_wp2
  go_loopw [5] (fun iv wr => ∃ (k : Nat), iv = .int .i64 k ∧ k ≤ i ∧ w.grownBy wr none) (fun iv _ => i - (intOf iv).toNat)
  case atStart => exact ⟨0, rfl, by omega, gb_refl _ _⟩
  case round =>
    obtain ⟨k, rfl, hk, hf⟩ := hrel
    have hk2 : k < R.N := by omega
    have hkz : (k : Int) < (R.N : Int) := by omega
    have h1 := h.kept0 hf
    have c7 := h1.sc 7
    simp [rset, hcv] at c7
    have e3 := h1.ccell hcv hk2 (j := 3) (by omega)
    simp [rckC] at e3
    have hd : decide ((k : Int) < R.N) = true := by simpa using hkz
    by_cases hki : k = i
    · subst hki
      rw [ht] at e3
      have h2 := hhd wr hf k hk2
      rw [hh] at h2
      clear h h1 hR hhd hlo
      go_wp2_with (first | (go_at_call 121; go_must (refine h2.mono ?_); rintro y w2 ⟨rfl, hf2⟩) | fail)
      go_ret
      exact ⟨rfl, gb_trans hf hf2⟩
    · have hki2 : k < i := by omega
      cases htk : R.tk k
      · rw [htk] at e3
        clear h h1 hR hhd hlo
        go_wp2
        go_roundw
        case rel => exact ⟨k + 1, by go_num, by omega, hf⟩
        case measure => simp [intOf]; omega
      · rw [htk] at e3
        have h2 := hhd wr hf k hk2
        have hne := hlo k hki2 htk
        have hne2 : decide (((R.hdl k : Nat) : Int) = (H : Int)) = false := by simp; omega
        have hne3 : ((R.hdl k : Int) == (H : Int)) = false := by simp; omega
        generalize R.hdl k = hk at *
        clear h h1 hR hhd hlo
        go_wp2_with (first | (go_at_call 121; go_must (refine h2.mono ?_); rintro y w2 ⟨rfl, hf2⟩) | fail)
        go_roundw
        case rel => exact ⟨k + 1, by go_num, by omega, gb_trans hf hf2⟩
        case measure => simp [intOf]; omega

set_option maxRecDepth 100000 in
set_option maxHeartbeats 1000000 in
theorem rfind_no (h : IsR w rb F Q c d e R) (hR : RFit R) {H : Nat} (hlo : ∀ j, j < R.N → R.tk j = true → R.hdl j ≠ H) : Calls Tryz.prog 85 #[.pointer (some ⟨rb, 0, none⟩), .int .u64 H] w fun y w' => y = .returned (.int .i64 (-1)) ∧ w.grownBy w' none := by
  obtain ⟨ao, cc, hcv, _, _, _, hao⟩ := row_shape h.ck
  have hN := hR.N
  have hhd := fun W (hf : w.grownBy W none) j (hj : j < R.N) => rhandle_any (h.kept0 hf) hR hj
  go_enter Tryz.func85, Tryz.ntmps85
  go_wp2
  go_loopw [5] (fun iv wr => ∃ (k : Nat), iv = .int .i64 k ∧ k ≤ R.N ∧ w.grownBy wr none) (fun iv _ => R.N - (intOf iv).toNat)
  case atStart => exact ⟨0, rfl, by omega, gb_refl _ _⟩
  case round =>
    obtain ⟨k, rfl, hk, hf⟩ := hrel
    have h1 := h.kept0 hf
    by_cases hk2 : k < R.N
    · obtain ⟨cb, rfl⟩ := hao (by omega)
      have c7 := h1.sc 7
      simp [rset, hcv] at c7
      have hkz : (k : Int) < (R.N : Int) := by omega
      have e3 := h1.ccell hcv hk2 (j := 3) (by omega)
      simp [rckC] at e3
      have hd : decide ((k : Int) < R.N) = true := by simpa using hkz
      cases htk : R.tk k
      · rw [htk] at e3
        clear h h1 hR hhd hlo
        go_wp2
        go_roundw
        case rel => exact ⟨k + 1, by go_num, by omega, hf⟩
        case measure => simp [intOf]; omega
      · rw [htk] at e3
        have h2 := hhd wr hf k hk2
        have hne := hlo k hk2 htk
        have hne2 : decide (((R.hdl k : Nat) : Int) = (H : Int)) = false := by simp; omega
        have hne3 : ((R.hdl k : Int) == (H : Int)) = false := by simp; omega
        generalize R.hdl k = hk at *
        clear h h1 hR hhd hlo
        go_wp2_with (first | (go_at_call 121; go_must (refine h2.mono ?_); rintro y w2 ⟨rfl, hf2⟩) | fail)
        go_roundw
        case rel => exact ⟨k + 1, by go_num, by omega, gb_trans hf hf2⟩
        case measure => simp [intOf]; omega
    · obtain rfl : k = R.N := by omega
      have c7 := h1.sc 7
      simp [rset, hcv] at c7
      clear h h1 hR hhd hlo
      go_wp2
      go_ret
      exact ⟨rfl, hf⟩

set_option maxRecDepth 100000 in
theorem ris_yes (h : IsR w rb F Q c d e R) {i : Nat} (hi : i < R.n) : Calls Tryz.prog 132 #[.pointer (some ⟨rb, 0, none⟩), .int .i64 i] w fun y w' => y = .returned (.bool true) ∧ w.grownBy w' none := by
  obtain ⟨ao, cc, hv, _, _, _, hao⟩ := row_shape h.sz
  have c5 := h.sc 5
  simp [rset, hv] at c5
  have hiz : decide ((i : Int) < (R.n : Int)) = true := by simpa using hi
  have h0 : decide ((i : Int) ≥ 0) = true := by simp
  clear h
  go_enter Tryz.func132, Tryz.ntmps132
  go_wp2
  go_ret
  exact ⟨rfl, gb_refl _ _⟩
theorem ris_no (h : IsR w rb F Q c d e R) {x : Int} (hx : ¬ (0 ≤ x ∧ x < R.n)) : Calls Tryz.prog 132 #[.pointer (some ⟨rb, 0, none⟩), .int .i64 x] w fun y w' => y = .returned (.bool false) ∧ w.grownBy w' none := by
  obtain ⟨ao, cc, hv, _, _, _, hao⟩ := row_shape h.sz
  have c5 := h.sc 5
  simp [rset, hv] at c5
  clear h
  by_cases h0 : 0 ≤ x
  · have h1 : ¬ x < R.n := by omega
    go_enter Tryz.func132, Tryz.ntmps132
    go_wp2
    go_ret
    exact ⟨rfl, gb_refl _ _⟩
  · have h1 : x < 0 := by omega
    go_enter Tryz.func132, Tryz.ntmps132
    go_wp2
    go_ret
    exact ⟨rfl, gb_refl _ _⟩
end
end Go.Proofs.YtohneboimmcocaaGreat

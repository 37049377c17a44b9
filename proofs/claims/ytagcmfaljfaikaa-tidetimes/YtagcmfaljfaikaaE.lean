/-
  Clocks.
-/
import Derived.Test.YtagcmfaljfaikaaD
namespace Go.Proofs.Ytagcmfaljfaikaa
open Go.RowKit
set_option linter.unusedVariables false

/-- A clock: the tick, the cut, what is pending. -/
structure Ck where
  n : Int
  c : Int
  p : Int
def ckA (k : Ck) : Array Value := #[.int .i64 k.n, .int .u64 k.c, .int .i64 k.p]
abbrev badNew (n p : Int) : Prop := n < 1 ∨ n > 1099511627776 ∨ (p ≠ 0 ∧ p ≤ n)
structure CkOk (k : Ck) : Prop where
  n1 : 1 ≤ k.n
  n2 : k.n ≤ 1099511627776
  p1 : k.p = 0 ∨ k.n < k.p
  p2 : isI k.p

theorem new_25_no (n c p : Int) (h : badNew n p) (w : World) : Calls Try.prog 25 #[.int .i64 n, .int .u64 c, .int .i64 p] w fun e w' => e = .returned (.tuple #[.pointer none, .int .i64 1]) ∧ w' = w := by
  unfold badNew at h
  by_cases a1 : n < 1
  · go_enter Try.func25, Try.ntmps25; go_wp2; go_ret2; simp
  · by_cases a2 : n > 1099511627776
    · go_enter Try.func25, Try.ntmps25; go_wp2; go_ret2; simp
    · have h3 : p ≠ 0 ∧ p ≤ n := by omega
      obtain ⟨h4, h5⟩ := h3
      clear h
      go_enter Try.func25, Try.ntmps25; go_wp2; go_ret2; simp
theorem new_36_no (n c p : Int) (h : badNew n p) (w : World) : Calls Try.prog 36 #[.int .i64 n, .int .u64 c, .int .i64 p] w fun e w' => e = .returned (.tuple #[.pointer none, .int .i64 1]) ∧ w' = w := by
  unfold badNew at h
  by_cases a1 : n < 1
  · go_enter Try.func36, Try.ntmps36; go_wp2; go_ret2; simp
  · by_cases a2 : n > 1099511627776
    · go_enter Try.func36, Try.ntmps36; go_wp2; go_ret2; simp
    · have h3 : p ≠ 0 ∧ p ≤ n := by omega
      obtain ⟨h4, h5⟩ := h3
      clear h
      by_cases a3 : p < 0
      · go_enter Try.func36, Try.ntmps36; go_wp2; go_ret2; simp
      · have h6 : p > 0 := by omega
        go_enter Try.func36, Try.ntmps36; go_wp2; go_ret2; simp
theorem new_25 (n c p : Int) (h : ¬ badNew n p) (w : World) : Calls Try.prog 25 #[.int .i64 n, .int .u64 c, .int .i64 p] w fun e w' => e = .returned (.tuple #[.pointer (some ⟨w.heap.size, 0, none⟩), .int .i64 0]) ∧ w' = w.alloc (.cells (ckA ⟨n, c, p⟩) 102) := by
  unfold badNew at h
  have a1 : ¬ n < 1 := by omega
  have a2 : ¬ n > 1099511627776 := by omega
  by_cases a3 : p = 0
  · subst a3; clear h
    go_enter Try.func25, Try.ntmps25; go_wp2; go_ret2; simp [ckA]
  · have a4 : ¬ p ≤ n := by omega
    clear h
    go_enter Try.func25, Try.ntmps25; go_wp2; go_ret2; simp [ckA]
theorem new_36 (n c p : Int) (h : ¬ badNew n p) (w : World) : Calls Try.prog 36 #[.int .i64 n, .int .u64 c, .int .i64 p] w fun e w' => e = .returned (.tuple #[.pointer (some ⟨w.heap.size, 0, none⟩), .int .i64 0]) ∧ w' = w.alloc (.cells (ckA ⟨n, c, p⟩) 105) := by
  unfold badNew at h
  have a1 : ¬ n < 1 := by omega
  have a2 : ¬ n > 1099511627776 := by omega
  by_cases a3 : p = 0
  · subst a3; clear h
    go_enter Try.func36, Try.ntmps36; go_wp2; go_ret2; simp [ckA]
  · have a4 : ¬ p ≤ n := by omega
    have a5 : ¬ p < 0 := by omega
    have a6 : p > 0 := by omega
    clear h
    go_enter Try.func36, Try.ntmps36; go_wp2; go_ret2; simp [ckA]

section
variable {w : World} {b : Nat} {k : Ck}
theorem now_27 (h : Box w 102 b (ckA k)) : Calls Try.prog 27 #[.pointer (some ⟨b, 0, none⟩)] w fun e w' => e = .returned (.int .i64 k.n) ∧ w' = w := by
  have c0 : w.cell? ⟨b, 0, none⟩ = some (.int .i64 k.n) := h.cell 0
  go_enter Try.func27, Try.ntmps27; go_wp2; go_ret; simp
theorem cut_28 (h : Box w 102 b (ckA k)) : Calls Try.prog 28 #[.pointer (some ⟨b, 0, none⟩)] w fun e w' => e = .returned (.int .u64 k.c) ∧ w' = w := by
  have c0 : w.cell? ⟨b, 1, none⟩ = some (.int .u64 k.c) := h.cell 1
  go_enter Try.func28, Try.ntmps28; go_wp2; go_ret; simp
theorem pending_40 (h : Box w 102 b (ckA k)) : Calls Try.prog 40 #[.pointer (some ⟨b, 0, none⟩)] w fun e w' => e = .returned (.int .i64 k.p) ∧ w' = w := by
  have c0 : w.cell? ⟨b, 2, none⟩ = some (.int .i64 k.p) := h.cell 2
  go_enter Try.func40, Try.ntmps40; go_wp2; go_ret; simp
theorem past_37 (h : Box w 102 b (ckA k)) (ho : CkOk k) (t : Int) : Calls Try.prog 37 #[.pointer (some ⟨b, 0, none⟩), .int .i64 t] w fun e w' => e = .returned (.bool (decide (t > 1099511627776 - k.n))) ∧ w' = w := by
  have c0 : w.cell? ⟨b, 0, none⟩ = some (.int .i64 k.n) := h.cell 0
  have := ho.n1; have := ho.n2
  go_enter Try.func37, Try.ntmps37; go_wp2; go_ret; simp
end

def Ck.fl (k : Ck) (i : Int) : Ck := ⟨k.n, max k.c i, 0⟩
def Ck.flush (k : Ck) (t i : Int) : Ck := if t ≤ 0 then k.fl i else if t > 1099511627776 - k.n then ⟨k.n, k.c, 1099511627777⟩ else ⟨k.n, k.c, k.n + t⟩
def Ck.moved (k : Ck) (by_ i : Int) : Ck := if 1 ≤ k.p ∧ k.p ≤ k.n + by_ then Ck.fl ⟨k.n + by_, k.c, k.p⟩ i else ⟨k.n + by_, k.c, k.p⟩


section
variable {w : World} {b : Nat} {k : Ck}
theorem ck_cells {t : TypeId} (h : Box w t b (ckA k)) : w.cell? ⟨b, 0, none⟩ = some (.int .i64 k.n) ∧ w.cell? ⟨b, 1, none⟩ = some (.int .u64 k.c) ∧ w.cell? ⟨b, 2, none⟩ = some (.int .i64 k.p) := ⟨h.cell 0, h.cell 1, h.cell 2⟩
theorem max_lo {a b : Int} (h : b ≤ a) : max a b = a := by omega
theorem max_hi {a b : Int} (h : ¬ b ≤ a) : max a b = b := by omega

theorem flush_38 (h : Box w 102 b (ckA k)) (i : Int) : Calls Try.prog 38 #[.pointer (some ⟨b, 0, none⟩), .int .u64 i] w fun e w' => e = .returned (.tuple #[]) ∧ w.grownBy w' (some b) ∧ Box w' 102 b (ckA (k.fl i)) := by
  obtain ⟨c0, c1, c2⟩ := ck_cells h
  have f1 := h.fz 1
  have f2 := h.fz 2
  by_cases hi : i ≤ k.c
  · have b1 : Box _ 102 b (ckA (k.fl i)) := (h.set 1 (.int .u64 k.c)).set 2 (.int .i64 0)
      |> fun z => by unfold Ck.fl; rw [max_lo hi]; exact z
    go_enter Try.func38, Try.ntmps38
    go_wp2
    go_end0
    exact ⟨rfl, gb_setCell (gb_setCell (gb_refl _ _) _) _, b1⟩
  · have b1 : Box _ 102 b (ckA (k.fl i)) := (h.set 1 (.int .u64 i)).set 2 (.int .i64 0)
      |> fun z => by unfold Ck.fl; rw [max_hi hi]; exact z
    go_enter Try.func38, Try.ntmps38
    go_wp2
    go_end0
    exact ⟨rfl, gb_setCell (gb_setCell (gb_refl _ _) _) _, b1⟩
theorem raise_39 (h : Box w 105 b (ckA k)) (i : Int) : Calls Try.prog 39 #[.pointer (some ⟨b, 0, none⟩), .int .u64 i] w fun e w' => e = .returned (.tuple #[]) ∧ w.grownBy w' (some b) ∧ Box w' 105 b (ckA ⟨k.n, max k.c i, k.p⟩) := by
  obtain ⟨c0, c1, c2⟩ := ck_cells h
  have f1 := h.fz 1
  by_cases hi : i ≤ k.c
  · have b1 : Box _ 105 b (ckA ⟨k.n, max k.c i, k.p⟩) := h |> fun z => by rw [max_lo hi]; exact z
    have h1 : ¬ i > k.c := by omega
    go_enter Try.func39, Try.ntmps39
    go_wp2
    go_end0
    exact ⟨rfl, gb_refl _ _, b1⟩
  · have b1 : Box _ 105 b (ckA ⟨k.n, max k.c i, k.p⟩) := h.set 1 (.int .u64 i) |> fun z => by rw [max_hi hi]; exact z
    have h1 : i > k.c := by omega
    go_enter Try.func39, Try.ntmps39
    go_wp2
    go_end0
    exact ⟨rfl, gb_setCell (gb_refl _ _) _, b1⟩

theorem flush_18 (h : Box w 102 b (ckA k)) (ho : CkOk k) (t i : Int) (ht : isI t) : Calls Try.prog 18 #[.pointer (some ⟨b, 0, none⟩), .int .i64 t, .int .u64 i] w fun e w' => e = .returned (.tuple #[]) ∧ w.grownBy w' (some b) ∧ Box w' 102 b (ckA (k.flush t i)) := by
  obtain ⟨c0, c1, c2⟩ := ck_cells h
  have f2 := h.fz 2
  have := ho.n1; have := ho.n2
  unfold isI at ht
  by_cases a1 : t ≤ 0
  · have hv : k.flush t i = k.fl i := by unfold Ck.flush; rw [if_pos a1]
    rw [hv]
    have hc := flush_38 h i
    go_enter Try.func18, Try.ntmps18
    go_wp2_with (first | (go_at_call 38; refine hc.mono ?_; rintro e w' ⟨rfl, hg, hb⟩) | fail)
    go_end0
    exact ⟨rfl, hg, hb⟩
  · have hp := past_37 h ho t
    by_cases a2 : t > 1099511627776 - k.n
    · have hv : k.flush t i = ⟨k.n, k.c, 1099511627777⟩ := by unfold Ck.flush; rw [if_neg a1, if_pos a2]
      rw [hv]
      have b1 : Box _ 102 b (ckA ⟨k.n, k.c, 1099511627777⟩) := h.set 2 (.int .i64 1099511627777)
      rw [decide_eq_true a2] at hp
      go_enter Try.func18, Try.ntmps18
      go_wp2_with (first | (go_at_call 37; refine hp.mono ?_; rintro e w' ⟨rfl, rfl⟩) | fail)
      go_end0
      exact ⟨rfl, gb_setCell (gb_refl _ _) _, b1⟩
    · have hv : k.flush t i = ⟨k.n, k.c, k.n + t⟩ := by unfold Ck.flush; rw [if_neg a1, if_neg a2]
      rw [hv]
      have b1 : Box _ 102 b (ckA ⟨k.n, k.c, k.n + t⟩) := h.set 2 (.int .i64 (k.n + t))
      rw [decide_eq_false a2] at hp
      go_enter Try.func18, Try.ntmps18
      go_wp2_with (first | (go_at_call 37; refine hp.mono ?_; rintro e w' ⟨rfl, rfl⟩) | fail)
      go_end0
      exact ⟨rfl, gb_setCell (gb_refl _ _) _, b1⟩
theorem flush_19 (h : Box w 105 b (ckA k)) (ho : CkOk k) (t i : Int) (ht : isI t) : Calls Try.prog 19 #[.pointer (some ⟨b, 0, none⟩), .int .i64 t, .int .u64 i] w fun e w' => e = .returned (.tuple #[]) ∧ w.grownBy w' (some b) ∧ Box w' 105 b (ckA (k.flush t i)) := by
  obtain ⟨c0, c1, c2⟩ := ck_cells h
  have f2 := h.fz 2
  have := ho.n1; have := ho.n2
  unfold isI at ht
  have hb0 : Box _ 105 b (ckA ⟨k.n, k.c, 0⟩) := h.set 2 (.int .i64 0)
  by_cases a1 : t ≤ 0
  · have hv : k.flush t i = k.fl i := by unfold Ck.flush; rw [if_pos a1]
    rw [hv]
    have hc := raise_39 hb0 i
    go_enter Try.func19, Try.ntmps19
    go_wp2_with (first | (go_at_call 39; refine hc.mono ?_; rintro e w' ⟨rfl, hg, hb⟩) | fail)
    exact bodyPost_ret (v := .tuple #[]) (results_none Try.results19 _ _ _) rfl ⟨rfl, gb_trans (gb_setCell (gb_refl _ _) _) hg, hb⟩
  · by_cases a2 : t > 1099511627776 - k.n
    · have hv : k.flush t i = ⟨k.n, k.c, 1099511627777⟩ := by unfold Ck.flush; rw [if_neg a1, if_pos a2]
      rw [hv]
      have b1 : Box _ 105 b (ckA ⟨k.n, k.c, 1099511627777⟩) := hb0.set 2 (.int .i64 1099511627777)
      have f3 := hb0.fz 2
      have c3 : World.cell? _ ⟨b, 0, none⟩ = some (.int .i64 k.n) := hb0.cell 0
      have a3 : ¬ t ≤ 1099511627776 - k.n := by omega
      go_enter Try.func19, Try.ntmps19
      go_wp2
      go_end0
      exact ⟨rfl, gb_setCell (gb_setCell (gb_refl _ _) _) _, b1⟩
    · have hv : k.flush t i = ⟨k.n, k.c, k.n + t⟩ := by unfold Ck.flush; rw [if_neg a1, if_neg a2]
      rw [hv]
      have b0 : Box _ 105 b (ckA ⟨k.n, k.c, 1099511627777⟩) := hb0.set 2 (.int .i64 1099511627777)
      have b1 : Box _ 105 b (ckA ⟨k.n, k.c, k.n + t⟩) := b0.set 2 (.int .i64 (k.n + t))
      have f3 := hb0.fz 2
      have f4 := b0.fz 2
      have c3 : World.cell? _ ⟨b, 0, none⟩ = some (.int .i64 k.n) := hb0.cell 0
      have c4 : World.cell? _ ⟨b, 0, none⟩ = some (.int .i64 k.n) := b0.cell 0
      have a3 : t ≤ 1099511627776 - k.n := by omega
      go_enter Try.func19, Try.ntmps19
      go_wp2
      go_end0
      exact ⟨rfl, gb_setCell (gb_setCell (gb_setCell (gb_refl _ _) _) _) _, b1⟩

theorem move_15_arg (h : Box w 102 b (ckA k)) (t i : Int) (ht : t < 1) : Calls Try.prog 15 #[.pointer (some ⟨b, 0, none⟩), .int .i64 t, .int .u64 i] w fun e w' => e = .returned (.int .i64 1) ∧ w' = w := by
  go_enter Try.func15, Try.ntmps15
  go_wp2
  go_ret
  exact ⟨rfl, rfl⟩
theorem move_17_arg (h : Box w 105 b (ckA k)) (t i : Int) (ht : t < 1) : Calls Try.prog 17 #[.pointer (some ⟨b, 0, none⟩), .int .i64 t, .int .u64 i] w fun e w' => e = .returned (.int .i64 1) ∧ w' = w := by
  go_enter Try.func17, Try.ntmps17
  go_wp2
  go_ret
  exact ⟨rfl, rfl⟩
theorem move_15_clock (h : Box w 102 b (ckA k)) (ho : CkOk k) (t i : Int) (h1 : ¬ t < 1) (a2 : t > 1099511627776 - k.n) : Calls Try.prog 15 #[.pointer (some ⟨b, 0, none⟩), .int .i64 t, .int .u64 i] w fun e w' => e = .returned (.int .i64 4) ∧ w' = w := by
  have hp := past_37 h ho t
  rw [decide_eq_true a2] at hp
  go_enter Try.func15, Try.ntmps15
  go_wp2_with (first | (go_at_call 37; refine hp.mono ?_; rintro e w' ⟨rfl, rfl⟩) | fail)
  go_ret
  exact ⟨rfl, rfl⟩
theorem move_17_clock (h : Box w 105 b (ckA k)) (ho : CkOk k) (t i : Int) (h1 : ¬ t < 1) (a2 : t > 1099511627776 - k.n) : Calls Try.prog 17 #[.pointer (some ⟨b, 0, none⟩), .int .i64 t, .int .u64 i] w fun e w' => e = .returned (.int .i64 4) ∧ w' = w := by
  obtain ⟨c0, c1, c2⟩ := ck_cells h
  have := ho.n1; have := ho.n2
  by_cases a3 : t > 1099511627776
  · go_enter Try.func17, Try.ntmps17
    go_wp2
    go_ret
    exact ⟨rfl, rfl⟩
  · have a4 : k.n + t > 1099511627776 := by omega
    go_enter Try.func17, Try.ntmps17
    go_wp2
    go_ret
    exact ⟨rfl, rfl⟩
theorem move_15 (h : Box w 102 b (ckA k)) (ho : CkOk k) (t i : Int) (h1 : ¬ t < 1) (a2 : ¬ t > 1099511627776 - k.n) : Calls Try.prog 15 #[.pointer (some ⟨b, 0, none⟩), .int .i64 t, .int .u64 i] w fun e w' => e = .returned (.int .i64 0) ∧ w.grownBy w' (some b) ∧ Box w' 102 b (ckA (k.moved t i)) := by
  have hp := past_37 h ho t
  rw [decide_eq_false a2] at hp
  obtain ⟨c0, c1, c2⟩ := ck_cells h
  have f0 := h.fz 0
  have := ho.n1; have := ho.n2
  have hb0 : Box _ 102 b (ckA ⟨k.n + t, k.c, k.p⟩) := h.set 0 (.int .i64 (k.n + t))
  have d0 : World.cell? _ ⟨b, 0, none⟩ = some (.int .i64 (k.n + t)) := hb0.cell 0
  have d2 : World.cell? _ ⟨b, 2, none⟩ = some (.int .i64 k.p) := hb0.cell 2
  by_cases a3 : k.p ≥ 1
  · by_cases a4 : k.p ≤ k.n + t
    · have hv : k.moved t i = Ck.fl ⟨k.n + t, k.c, k.p⟩ i := by unfold Ck.moved; rw [if_pos ⟨by omega, a4⟩]
      rw [hv]
      have hc := fun nq => flush_38 (w := (w.setCell ⟨b, 0, none⟩ (.int .i64 (k.n + t))).drewN nq) (b := b) (k := ⟨k.n + t, k.c, k.p⟩) hb0 i
      go_enter Try.func15, Try.ntmps15
      go_wp2_with (first | (go_at_call 37; refine hp.mono ?_; rintro e w' ⟨rfl, rfl⟩) | fail)
      go_quiet (fail)
      go_wp2_with (first | (go_at_call 38; refine (hc _).mono ?_; rintro e w' ⟨rfl, hg, hb⟩) | fail)
      go_ret
      exact ⟨rfl, gb_trans (gb_drewN (gb_setCell (gb_refl _ _) _) _) hg, hb⟩
    · have hv : k.moved t i = ⟨k.n + t, k.c, k.p⟩ := by unfold Ck.moved; rw [if_neg (by omega)]
      rw [hv]
      have hd : decide (k.p ≤ k.n + t) = false := by simp; omega
      go_enter Try.func15, Try.ntmps15
      go_wp2_with (first | (go_at_call 37; refine hp.mono ?_; rintro e w' ⟨rfl, rfl⟩) | fail)
      go_quiet (fail)
      go_wp2
      go_ret
      exact ⟨rfl, gb_drewN (gb_setCell (gb_refl _ _) _) _, hb0⟩
  · have hv : k.moved t i = ⟨k.n + t, k.c, k.p⟩ := by unfold Ck.moved; rw [if_neg (by omega)]
    rw [hv]
    have hd : decide (1 ≤ k.p) = false := by simp; omega
    go_enter Try.func15, Try.ntmps15
    go_wp2_with (first | (go_at_call 37; refine hp.mono ?_; rintro e w' ⟨rfl, rfl⟩) | fail)
    go_quiet (fail)
    go_wp2
    go_ret
    exact ⟨rfl, gb_drewN (gb_setCell (gb_refl _ _) _) _, hb0⟩
theorem move_17 (h : Box w 105 b (ckA k)) (ho : CkOk k) (t i : Int) (h1 : ¬ t < 1) (a2 : ¬ t > 1099511627776 - k.n) : Calls Try.prog 17 #[.pointer (some ⟨b, 0, none⟩), .int .i64 t, .int .u64 i] w fun e w' => e = .returned (.int .i64 0) ∧ w.grownBy w' (some b) ∧ Box w' 105 b (ckA (k.moved t i)) := by
  obtain ⟨c0, c1, c2⟩ := ck_cells h
  have f0 := h.fz 0
  have := ho.n1; have := ho.n2
  have hb0 : Box _ 105 b (ckA ⟨k.n + t, k.c, k.p⟩) := h.set 0 (.int .i64 (k.n + t))
  have d0 : World.cell? _ ⟨b, 0, none⟩ = some (.int .i64 (k.n + t)) := hb0.cell 0
  have d2 : World.cell? _ ⟨b, 2, none⟩ = some (.int .i64 k.p) := hb0.cell 2
  have g2 := hb0.fz 2
  have a5 : ¬ t > 1099511627776 := by omega
  have a6 : ¬ k.n + t > 1099511627776 := by omega
  by_cases a3 : k.p ≥ 1
  · by_cases a4 : k.p ≤ k.n + t
    · have hv : k.moved t i = Ck.fl ⟨k.n + t, k.c, k.p⟩ i := by unfold Ck.moved; rw [if_pos ⟨by omega, a4⟩]
      rw [hv]
      have hb1 : Box _ 105 b (ckA ⟨k.n + t, k.c, 0⟩) := hb0.set 2 (.int .i64 0)
      have hc := fun nq => raise_39 (w := ((w.setCell ⟨b, 0, none⟩ (.int .i64 (k.n + t))).drewN nq).setCell ⟨b, 2, none⟩ (.int .i64 0)) (b := b) (k := ⟨k.n + t, k.c, 0⟩) hb1 i
      go_enter Try.func17, Try.ntmps17
      go_wp2
      go_quiet (fail)
      go_wp2_with (first | (go_at_call 39; refine (hc _).mono ?_; rintro e w' ⟨rfl, hg, hb⟩) | fail)
      go_ret
      exact ⟨rfl, gb_trans (gb_setCell (gb_drewN (gb_setCell (gb_refl _ _) _) _) _) hg, hb⟩
    · have hv : k.moved t i = ⟨k.n + t, k.c, k.p⟩ := by unfold Ck.moved; rw [if_neg (by omega)]
      rw [hv]
      have hd : decide (k.p ≤ k.n + t) = false := by simp; omega
      go_enter Try.func17, Try.ntmps17
      go_wp2
      go_quiet (fail)
      go_wp2
      go_ret
      exact ⟨rfl, gb_drewN (gb_setCell (gb_refl _ _) _) _, hb0⟩
  · have hv : k.moved t i = ⟨k.n + t, k.c, k.p⟩ := by unfold Ck.moved; rw [if_neg (by omega)]
    rw [hv]
    have hd : decide (1 ≤ k.p) = false := by simp; omega
    go_enter Try.func17, Try.ntmps17
    go_wp2
    go_quiet (fail)
    go_wp2
    go_ret
    exact ⟨rfl, gb_drewN (gb_setCell (gb_refl _ _) _) _, hb0⟩
end

theorem CkOk.flush {k : Ck} (h : CkOk k) (t i : Int) (ht : isI t) : CkOk (k.flush t i) := by
  have := h.n1; have := h.n2
  unfold Ck.flush Ck.fl
  split
  · exact ⟨h.n1, h.n2, .inl rfl, by unfold isI; simp only []; omega⟩
  · split
    · exact ⟨h.n1, h.n2, .inr (by simp only []; omega), by unfold isI; simp only []; omega⟩
    · exact ⟨h.n1, h.n2, .inr (by simp only []; omega), by unfold isI; simp only []; omega⟩
theorem CkOk.moved {k : Ck} (h : CkOk k) (t i : Int) (h1 : ¬ t < 1) (a2 : ¬ t > 1099511627776 - k.n) : CkOk (k.moved t i) := by
  have := h.n1; have := h.n2; have := h.p1
  unfold Ck.moved Ck.fl
  split
  · exact ⟨by simp only []; omega, by simp only []; omega, .inl rfl, by unfold isI; simp only []; omega⟩
  · exact ⟨by simp only []; omega, by simp only []; omega, by simp only []; omega, h.p2⟩
theorem CkOk.new {n c p : Int} (h : ¬ badNew n p) (hp : isI p) : CkOk ⟨n, c, p⟩ := by
  unfold badNew at h
  exact ⟨by simp only []; omega, by simp only []; omega, by simp only []; omega, hp⟩

end Go.Proofs.Ytagcmfaljfaikaa

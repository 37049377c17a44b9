import Derived.Test.YtoaaaeefcipdcaaXa
import Derived.Deep.RegionHeld3
/-
  ClassApart: a Give.
-/
namespace Go.Proofs.Ytoaaaeefcipdcaa
open Go.RowKit
set_option linter.unusedVariables false

section
variable {w : World} {sb : Nat} {F : Nat → Prop} {B : Bl} {b c d e f g : Int} {A : Ab} {zs : List Int} {hv : Value} {hs : List Nat}

set_option maxRecDepth 100000 in
set_option maxHeartbeats 4000000 in
theorem one_give_t (h : IsS w sb F B b c d e f g A zs) (hI : Inv A) (hr : w.ownsRow 0 59 1 hv hs.length (hdls hs)) (hl : hs.length ≤ 1000000) (hF : ∀ k, hv.ownBlock = some k → ¬ F k) (an bn : Int) (H : Nat) (vv : Value)  (er : Int) (A' : Ab) (hg : ∀ W, w.grownBy W none → Calls Try.prog 25 #[.pointer (some ⟨sb, 0, none⟩), .int .u64 (H : Nat)] W fun y w' => y = .returned (.int .i64 er) ∧ Kp F W w' ∧ ∃ F' B' zs', IsS w' sb F' B' b c d e f g A' zs' ∧ ∀ k, F' k → F k ∨ W.heap.size ≤ k) :
    Calls Try.prog 28 #[.pointer (some ⟨sb, 0, none⟩), .agg (opC 2 an bn H true vv), hv] w (OneR w sb F b c d e f g A' [er] hv hs) := by
  have hal := World.grownBy_alloc w (.cells (opC 2 an bn H true vv) 44) none
  have hbx := Box.new w 44 (opC 2 an bn H true vv)
  obtain ⟨ha, hc, rfl, _, _, _, hha⟩ := row_shape hr
  have ht0 := (hg _ hal).mono (R' := fun y w1 => y = .returned (.int .i64 er) ∧ Hid (Tk w w1 sb F b c d e f g A' (.slice ha hs.length hc) hs)) (by
    rintro y w1 ⟨rfl, hK, hS⟩
    exact ⟨rfl, tk_of hal hr hF hK hS⟩)
  clear hg
  unfold opC at *
  clear hr hF h
  go_enter Try.func28, Try.ntmps28
  go_wp2_with (first | (go_at_call 25; go_must (with_reducible refine ht0.mono ?_); rintro y w1 ⟨rfl, hT1⟩) | (go_at_call 13; go_must (refine (num_any2 _ _).mono ?_); rintro y w' ⟨rfl, rfl⟩) | fail)
  go_ret2
  exact one_end (hs := hs) hT1.out [er] (by simp)

set_option maxRecDepth 100000 in
set_option maxHeartbeats 4000000 in
theorem one_give_e (h : IsS w sb F B b c d e f g A zs) (hI : Inv A) (hr : w.ownsRow 0 59 1 hv hs.length (hdls hs)) (hl : hs.length ≤ 1000000) (hF : ∀ k, hv.ownBlock = some k → ¬ F k) (an bn : Int) (H : Nat) (vv : Value) (hz : hs = []) (er : Int) (A' : Ab) (hg : ∀ W, w.grownBy W none → Calls Try.prog 25 #[.pointer (some ⟨sb, 0, none⟩), .int .u64 (H : Nat)] W fun y w' => y = .returned (.int .i64 er) ∧ Kp F W w' ∧ ∃ F' B' zs', IsS w' sb F' B' b c d e f g A' zs' ∧ ∀ k, F' k → F k ∨ W.heap.size ≤ k) :
    Calls Try.prog 28 #[.pointer (some ⟨sb, 0, none⟩), .agg (opC 2 an bn H false vv), hv] w (OneR w sb F b c d e f g A' [er] hv hs) := by
  have hal := World.grownBy_alloc w (.cells (opC 2 an bn H false vv) 44) none
  have hbx := Box.new w 44 (opC 2 an bn H false vv)
  obtain ⟨ha, hc, rfl, _, _, _, hha⟩ := row_shape hr
  have ht0 := (hg _ hal).mono (R' := fun y w1 => y = .returned (.int .i64 er) ∧ Hid (Tk w w1 sb F b c d e f g A' (.slice ha hs.length hc) hs)) (by
    rintro y w1 ⟨rfl, hK, hS⟩
    exact ⟨rfl, tk_of hal hr hF hK hS⟩)
  clear hg
  unfold opC at *
  subst hz
  clear hr hF h
  simp only [List.length_nil] at *
  go_enter Try.func28, Try.ntmps28
  go_wp2_with (first | (go_at_call 25; go_must (with_reducible refine ht0.mono ?_); rintro y w1 ⟨rfl, hT1⟩) | (go_at_call 13; go_must (refine (num_any2 _ _).mono ?_); rintro y w' ⟨rfl, rfl⟩) | fail)
  go_ret2
  exact one_end (hs := []) hT1.out [er] (by simp)

set_option maxRecDepth 100000 in
set_option maxHeartbeats 4000000 in
theorem one_give_n (h : IsS w sb F B b c d e f g A zs) (hI : Inv A) (hr : w.ownsRow 0 59 1 hv hs.length (hdls hs)) (hl : hs.length ≤ 1000000) (hF : ∀ k, hv.ownBlock = some k → ¬ F k) (an bn : Int) (H : Nat) (vv : Value) (j : Nat) (hj : j < hs.length) (hjw : ∀ W, Calls Try.prog 21 #[.int .i64 an, .int .i64 hs.length] W fun e w' => e = .returned (.int .i64 j) ∧ W = w') (er : Int) (A' : Ab) (hg : ∀ W, w.grownBy W none → Calls Try.prog 25 #[.pointer (some ⟨sb, 0, none⟩), .int .u64 ((hs.getD j 0) : Nat)] W fun y w' => y = .returned (.int .i64 er) ∧ Kp F W w' ∧ ∃ F' B' zs', IsS w' sb F' B' b c d e f g A' zs' ∧ ∀ k, F' k → F k ∨ W.heap.size ≤ k) :
    Calls Try.prog 28 #[.pointer (some ⟨sb, 0, none⟩), .agg (opC 2 an bn H false vv), hv] w (OneR w sb F b c d e f g A' [er] hv hs) := by
  have hal := World.grownBy_alloc w (.cells (opC 2 an bn H false vv) 44) none
  have hbx := Box.new w 44 (opC 2 an bn H false vv)
  obtain ⟨ha, hc, rfl, _, _, _, hha⟩ := row_shape hr
  have ht0 := (hg _ hal).mono (R' := fun y w1 => y = .returned (.int .i64 er) ∧ Hid (Tk w w1 sb F b c d e f g A' (.slice ha hs.length hc) hs)) (by
    rintro y w1 ⟨rfl, hK, hS⟩
    exact ⟨rfl, tk_of hal hr hF hK hS⟩)
  clear hg
  unfold opC at *
  obtain ⟨gh, rfl⟩ := hha (by omega)
  have hjc : ∀ W, w.grownBy W none → W.cell? ⟨gh, j, none⟩ = some (.int .u64 (hs.getD j 0 : Nat)) := fun W hf => by
    have := row_cell (row_kept hr hf (by simp)) j (.int .u64 (hs.getD j 0 : Nat)) (by simp [hdls, hj, List.getD])
    exact this
  have hj0 := hjc _ hal
  have hlz : decide ((hs.length : Int) > 0) = true := decide_eq_true (by omega)
  have hlz2 : decide (0 < (hs.length : Int)) = true := decide_eq_true (by omega)
  have hjz : (j : Int) < (hs.length : Int) := by omega
  clear hr hF h hjc
  generalize hs.getD j 0 = hj1 at *
  go_enter Try.func28, Try.ntmps28
  go_wp2_with (first | (go_at_call 25; go_must (with_reducible refine ht0.mono ?_); rintro y w1 ⟨rfl, hT1⟩) | (go_at_call 13; go_must (refine (num_any2 _ _).mono ?_); rintro y w' ⟨rfl, rfl⟩) | (go_at_call 21; go_must (refine (hjw _).mono ?_); rintro y w' ⟨rfl, rfl⟩) | fail)
  go_ret2
  exact one_end (hs := hs) hT1.out [er] (by simp)

end
end Go.Proofs.Ytoaaaeefcipdcaa

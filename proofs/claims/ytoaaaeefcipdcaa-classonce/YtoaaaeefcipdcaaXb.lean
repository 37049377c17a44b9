import Derived.Test.YtoaaaeefcipdcaaXa
import Derived.Deep.RegionHeld3
/-
  ClassApart: a Take.
-/
namespace Go.Proofs.Ytoaaaeefcipdcaa
open Go.RowKit
set_option linter.unusedVariables false

section
variable {w : World} {sb : Nat} {F : Nat → Prop} {B : Bl} {b c d e f g : Int} {A : Ab} {zs : List Int} {hv : Value} {hs : List Nat}

set_option maxRecDepth 100000 in
set_option maxHeartbeats 4000000 in
theorem one_take_ye (h : IsS w sb F B b c d e f g A zs) (hI : Inv A) (hr : w.ownsRow 0 59 1 hv hs.length (hdls hs)) (hl : hs.length ≤ 1000000) (hF : ∀ k, hv.ownBlock = some k → ¬ F k) (an bn : Int) (H : Nat) (vv : Value) (hz : hs = []) (i : Nat) (hiw : ∀ W, Calls Try.prog 21 #[.int .i64 an, .int .i64 A.n] W fun e w' => e = .returned (.int .i64 i) ∧ W = w') (hd : Nat) (A' : Ab) (ht : ∀ W, w.grownBy W none → Calls Try.prog 23 #[.pointer (some ⟨sb, 0, none⟩), .int .i64 i] W fun y w' => y = .returned (.tuple #[.int .u64 hd, .int .i64 0]) ∧ Kp F W w' ∧ ∃ F' B' zs', IsS w' sb F' B' b c d e f g A' zs' ∧ ∀ k, F' k → F k ∨ W.heap.size ≤ k) :
    Calls Try.prog 28 #[.pointer (some ⟨sb, 0, none⟩), .agg (opC 1 an bn H false vv), hv] w (OneR w sb F b c d e f g A' [0, wrap64 hd] hv (hs ++ [hd])) := by
  have hal := World.grownBy_alloc w (.cells (opC 1 an bn H false vv) 44) none
  have hbx := Box.new w 44 (opC 1 an bn H false vv)
  obtain ⟨ha, hc, rfl, _, _, _, hha⟩ := row_shape hr
  have hcl0 := classes_20 (h.kept0 (gb_drew hal)) hI.toSzs
  have ht0 := (ht _ (gb_drew hal)).mono (R' := fun y w1 => y = .returned (.tuple #[.int .u64 hd, .int .i64 0]) ∧ w1.cell? ⟨w.heap.size, 1, none⟩ = some (.int .i64 an) ∧ w1.ownsRow 0 59 1 (.slice ha hs.length hc) hs.length (hdls hs) ∧ Hid (Tk w w1 sb F b c d e f g A' (.slice ha hs.length hc) hs)) (by
    rintro y w1 ⟨rfl, hK, hS⟩
    have hT := tk_of (gb_drew hal) hr hF hK hS
    exact ⟨rfl, (hK.box (hbx.kept (gb_drew (gb_refl _ none)) (by simp)) (fun hk => by have := h.lt _ hk; omega)).cell 1, hT.row, hT⟩)
  clear ht
  unfold opC at *
  subst hz
  clear hr hF h
  simp only [List.length_nil, List.nil_append] at *
  go_enter Try.func28, Try.ntmps28
  go_wp2
  generalize w.alloc (.cells #[.int .i64 1, .int .i64 an, .int .i64 bn, .int .u64 H, .bool false, vv] 44) = W0 at *
  have hC0 : W0.cell? ⟨w.heap.size, 1, none⟩ = some (.int .i64 an) := hbx.cell 1
  clear hbx
  go_region_held3 (fun w' => w'.cell? ⟨w.heap.size, 1, none⟩ = some (.int .i64 an)) ((first | with_reducible exact hC1 | go_keep)) ((first | (go_at_call 18; with_reducible refine hcl0.mono ?_; rintro y w' ⟨rfl, rfl⟩) | (go_at_call 21; with_reducible refine (hiw _).mono ?_; rintro y w' ⟨rfl, rfl⟩) | (go_at_call 23; with_reducible refine ht0.mono ?_; rintro y w1 ⟨rfl, hC1, hrow1, hT1⟩)))
  go_wp2_with (first | (go_at_call 13; go_must (refine (num_any2 _ _).mono ?_); rintro y w' ⟨rfl, rfl⟩) | (at_builtin; go_must (refine push59 rfl _ _ rfl 0 (.slice ha 0 hc) 0 _ (by rfl) hrow1 (hd : Int) (by rfl) (by omega) (Nat.zero_le _) ?_); intro g1 cap1 w4 ho4 hg4 hat4) | fail)
  go_ret2
  exact one_end_push (hs := []) hT1.out ho4 hg4 hat4 [0, wrap64 hd] (by simp)

set_option maxRecDepth 100000 in
set_option maxHeartbeats 4000000 in
theorem one_take_nt (h : IsS w sb F B b c d e f g A zs) (hI : Inv A) (hr : w.ownsRow 0 59 1 hv hs.length (hdls hs)) (hl : hs.length ≤ 1000000) (hF : ∀ k, hv.ownBlock = some k → ¬ F k) (an bn : Int) (H : Nat) (vv : Value)  (i : Nat) (hiw : ∀ W, Calls Try.prog 21 #[.int .i64 an, .int .i64 A.n] W fun e w' => e = .returned (.int .i64 i) ∧ W = w') (hd : Nat) (A' : Ab) (ht : ∀ W, w.grownBy W none → Calls Try.prog 23 #[.pointer (some ⟨sb, 0, none⟩), .int .i64 i] W fun y w' => y = .returned (.tuple #[.int .u64 hd, .int .i64 21]) ∧ Kp F W w' ∧ ∃ F' B' zs', IsS w' sb F' B' b c d e f g A' zs' ∧ ∀ k, F' k → F k ∨ W.heap.size ≤ k) :
    Calls Try.prog 28 #[.pointer (some ⟨sb, 0, none⟩), .agg (opC 1 an bn H true vv), hv] w (OneR w sb F b c d e f g A' [21, wrap64 hd] hv hs) := by
  have hal := World.grownBy_alloc w (.cells (opC 1 an bn H true vv) 44) none
  have hbx := Box.new w 44 (opC 1 an bn H true vv)
  obtain ⟨ha, hc, rfl, _, _, _, hha⟩ := row_shape hr
  have hcl0 := classes_20 (h.kept0 (gb_drew hal)) hI.toSzs
  have ht0 := (ht _ (gb_drew hal)).mono (R' := fun y w1 => y = .returned (.tuple #[.int .u64 hd, .int .i64 21]) ∧ w1.cell? ⟨w.heap.size, 1, none⟩ = some (.int .i64 an) ∧ w1.ownsRow 0 59 1 (.slice ha hs.length hc) hs.length (hdls hs) ∧ Hid (Tk w w1 sb F b c d e f g A' (.slice ha hs.length hc) hs)) (by
    rintro y w1 ⟨rfl, hK, hS⟩
    have hT := tk_of (gb_drew hal) hr hF hK hS
    exact ⟨rfl, (hK.box (hbx.kept (gb_drew (gb_refl _ none)) (by simp)) (fun hk => by have := h.lt _ hk; omega)).cell 1, hT.row, hT⟩)
  clear ht
  unfold opC at *
  clear hr hF h
  go_enter Try.func28, Try.ntmps28
  go_wp2
  generalize w.alloc (.cells #[.int .i64 1, .int .i64 an, .int .i64 bn, .int .u64 H, .bool true, vv] 44) = W0 at *
  have hC0 : W0.cell? ⟨w.heap.size, 1, none⟩ = some (.int .i64 an) := hbx.cell 1
  clear hbx
  go_region_held3 (fun w' => w'.cell? ⟨w.heap.size, 1, none⟩ = some (.int .i64 an)) ((first | with_reducible exact hC1 | go_keep)) ((first | (go_at_call 18; with_reducible refine hcl0.mono ?_; rintro y w' ⟨rfl, rfl⟩) | (go_at_call 21; with_reducible refine (hiw _).mono ?_; rintro y w' ⟨rfl, rfl⟩) | (go_at_call 23; with_reducible refine ht0.mono ?_; rintro y w1 ⟨rfl, hC1, hrow1, hT1⟩)))
  go_wp2_with (first | (go_at_call 13; go_must (refine (num_any2 _ _).mono ?_); rintro y w' ⟨rfl, rfl⟩) | fail)
  go_ret2
  exact one_end (hs := hs) hT1.out [21, wrap64 hd] (by simp)

set_option maxRecDepth 100000 in
set_option maxHeartbeats 4000000 in
theorem one_take_ne (h : IsS w sb F B b c d e f g A zs) (hI : Inv A) (hr : w.ownsRow 0 59 1 hv hs.length (hdls hs)) (hl : hs.length ≤ 1000000) (hF : ∀ k, hv.ownBlock = some k → ¬ F k) (an bn : Int) (H : Nat) (vv : Value) (hz : hs = []) (i : Nat) (hiw : ∀ W, Calls Try.prog 21 #[.int .i64 an, .int .i64 A.n] W fun e w' => e = .returned (.int .i64 i) ∧ W = w') (hd : Nat) (A' : Ab) (ht : ∀ W, w.grownBy W none → Calls Try.prog 23 #[.pointer (some ⟨sb, 0, none⟩), .int .i64 i] W fun y w' => y = .returned (.tuple #[.int .u64 hd, .int .i64 21]) ∧ Kp F W w' ∧ ∃ F' B' zs', IsS w' sb F' B' b c d e f g A' zs' ∧ ∀ k, F' k → F k ∨ W.heap.size ≤ k) :
    Calls Try.prog 28 #[.pointer (some ⟨sb, 0, none⟩), .agg (opC 1 an bn H false vv), hv] w (OneR w sb F b c d e f g A' [21, wrap64 hd] hv hs) := by
  have hal := World.grownBy_alloc w (.cells (opC 1 an bn H false vv) 44) none
  have hbx := Box.new w 44 (opC 1 an bn H false vv)
  obtain ⟨ha, hc, rfl, _, _, _, hha⟩ := row_shape hr
  have hcl0 := classes_20 (h.kept0 (gb_drew hal)) hI.toSzs
  have ht0 := (ht _ (gb_drew hal)).mono (R' := fun y w1 => y = .returned (.tuple #[.int .u64 hd, .int .i64 21]) ∧ w1.cell? ⟨w.heap.size, 1, none⟩ = some (.int .i64 an) ∧ w1.ownsRow 0 59 1 (.slice ha hs.length hc) hs.length (hdls hs) ∧ Hid (Tk w w1 sb F b c d e f g A' (.slice ha hs.length hc) hs)) (by
    rintro y w1 ⟨rfl, hK, hS⟩
    have hT := tk_of (gb_drew hal) hr hF hK hS
    exact ⟨rfl, (hK.box (hbx.kept (gb_drew (gb_refl _ none)) (by simp)) (fun hk => by have := h.lt _ hk; omega)).cell 1, hT.row, hT⟩)
  clear ht
  unfold opC at *
  subst hz
  clear hr hF h
  simp only [List.length_nil] at *
  go_enter Try.func28, Try.ntmps28
  go_wp2
  generalize w.alloc (.cells #[.int .i64 1, .int .i64 an, .int .i64 bn, .int .u64 H, .bool false, vv] 44) = W0 at *
  have hC0 : W0.cell? ⟨w.heap.size, 1, none⟩ = some (.int .i64 an) := hbx.cell 1
  clear hbx
  go_region_held3 (fun w' => w'.cell? ⟨w.heap.size, 1, none⟩ = some (.int .i64 an)) ((first | with_reducible exact hC1 | go_keep)) ((first | (go_at_call 18; with_reducible refine hcl0.mono ?_; rintro y w' ⟨rfl, rfl⟩) | (go_at_call 21; with_reducible refine (hiw _).mono ?_; rintro y w' ⟨rfl, rfl⟩) | (go_at_call 23; with_reducible refine ht0.mono ?_; rintro y w1 ⟨rfl, hC1, hrow1, hT1⟩)))
  go_wp2_with (first | (go_at_call 13; go_must (refine (num_any2 _ _).mono ?_); rintro y w' ⟨rfl, rfl⟩) | fail)
  go_ret2
  exact one_end (hs := []) hT1.out [21, wrap64 hd] (by simp)

set_option maxRecDepth 100000 in
set_option maxHeartbeats 4000000 in
theorem one_take_nn (h : IsS w sb F B b c d e f g A zs) (hI : Inv A) (hr : w.ownsRow 0 59 1 hv hs.length (hdls hs)) (hl : hs.length ≤ 1000000) (hF : ∀ k, hv.ownBlock = some k → ¬ F k) (an bn : Int) (H : Nat) (vv : Value) (j : Nat) (hj : j < hs.length) (hjw : ∀ W, Calls Try.prog 21 #[.int .i64 an, .int .i64 hs.length] W fun e w' => e = .returned (.int .i64 j) ∧ W = w') (i : Nat) (hiw : ∀ W, Calls Try.prog 21 #[.int .i64 an, .int .i64 A.n] W fun e w' => e = .returned (.int .i64 i) ∧ W = w') (hd : Nat) (A' : Ab) (ht : ∀ W, w.grownBy W none → Calls Try.prog 23 #[.pointer (some ⟨sb, 0, none⟩), .int .i64 i] W fun y w' => y = .returned (.tuple #[.int .u64 hd, .int .i64 21]) ∧ Kp F W w' ∧ ∃ F' B' zs', IsS w' sb F' B' b c d e f g A' zs' ∧ ∀ k, F' k → F k ∨ W.heap.size ≤ k) :
    Calls Try.prog 28 #[.pointer (some ⟨sb, 0, none⟩), .agg (opC 1 an bn H false vv), hv] w (OneR w sb F b c d e f g A' [21, wrap64 hd] hv hs) := by
  have hal := World.grownBy_alloc w (.cells (opC 1 an bn H false vv) 44) none
  have hbx := Box.new w 44 (opC 1 an bn H false vv)
  obtain ⟨ha, hc, rfl, _, _, _, hha⟩ := row_shape hr
  have hcl0 := classes_20 (h.kept0 (gb_drew hal)) hI.toSzs
  have ht0 := (ht _ (gb_drew hal)).mono (R' := fun y w1 => y = .returned (.tuple #[.int .u64 hd, .int .i64 21]) ∧ w1.cell? ⟨w.heap.size, 1, none⟩ = some (.int .i64 an) ∧ w1.ownsRow 0 59 1 (.slice ha hs.length hc) hs.length (hdls hs) ∧ Hid (Tk w w1 sb F b c d e f g A' (.slice ha hs.length hc) hs)) (by
    rintro y w1 ⟨rfl, hK, hS⟩
    have hT := tk_of (gb_drew hal) hr hF hK hS
    exact ⟨rfl, (hK.box (hbx.kept (gb_drew (gb_refl _ none)) (by simp)) (fun hk => by have := h.lt _ hk; omega)).cell 1, hT.row, hT⟩)
  clear ht
  unfold opC at *
  obtain ⟨gh, rfl⟩ := hha (by omega)
  have hjc : ∀ W, w.grownBy W none → W.cell? ⟨gh, j, none⟩ = some (.int .u64 (hs.getD j 0 : Nat)) := fun W hf => by
    have := row_cell (row_kept hr hf (by simp)) j (.int .u64 (hs.getD j 0 : Nat)) (by simp [hdls, hj, List.getD])
    exact this
  have hj0 := hjc _ hal
  have hlz : decide ((hs.length : Int) > 0) = true := decide_eq_true (by omega)
  have hlz2 : decide (0 < (hs.length : Int)) = true := decide_eq_true (by omega)
  have hjz : (j : Int) < (hs.length : Int) := by omega
  clear hr hF h hjc
  generalize hs.getD j 0 = hj1 at *
  go_enter Try.func28, Try.ntmps28
  go_wp2_with (first | (go_at_call 21; go_must (refine (hjw _).mono ?_); rintro y w' ⟨rfl, rfl⟩) | fail)
  generalize w.alloc (.cells #[.int .i64 1, .int .i64 an, .int .i64 bn, .int .u64 H, .bool false, vv] 44) = W0 at *
  have hC0 : W0.cell? ⟨w.heap.size, 1, none⟩ = some (.int .i64 an) := hbx.cell 1
  clear hbx
  go_region_held3 (fun w' => w'.cell? ⟨w.heap.size, 1, none⟩ = some (.int .i64 an)) ((first | with_reducible exact hC1 | go_keep)) ((first | (go_at_call 18; with_reducible refine hcl0.mono ?_; rintro y w' ⟨rfl, rfl⟩) | (go_at_call 21; with_reducible refine (hiw _).mono ?_; rintro y w' ⟨rfl, rfl⟩) | (go_at_call 23; with_reducible refine ht0.mono ?_; rintro y w1 ⟨rfl, hC1, hrow1, hT1⟩)))
  go_wp2_with (first | (go_at_call 13; go_must (refine (num_any2 _ _).mono ?_); rintro y w' ⟨rfl, rfl⟩) | fail)
  go_ret2
  exact one_end (hs := hs) hT1.out [21, wrap64 hd] (by simp)

end
end Go.Proofs.Ytoaaaeefcipdcaa

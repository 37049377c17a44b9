import Derived.Test.YtijpploeofdhbaaGreatZo
/-
  wakes; QueueNames.
-/
namespace Go.Proofs.YtijpploeofdhbaaGreat
open Go.RowKit
set_option linter.unusedVariables false

def X0 : Nat → Nat → List Nat := fun _ _ => []
theorem li0 : LI (fun _ => 0) (hs 0) (fun _ => 0) (fun _ => 0) (fun _ => 0) L0 X0 :=
  ⟨fun c k H hH => by simp [X0] at hH, fun c k H hH => by simp [X0] at hH, fun _ _ => List.nodup_nil, fun c k U H V e => by simp [X0] at e, fun _ _ => rfl, fun _ _ => rfl, fun _ _ => rfl, fun H hH => by simp [hs] at hH, fun H hH => by simp [hs] at hH, fun H hH => by simp [hs] at hH, by simp [hs]⟩
theorem begun_ww (w : World) : Calls Tryz.prog 10 #[] w fun y w' => ∃ wb qb, y = .returned (.pointer (some ⟨wb, 0, none⟩)) ∧ w.grownBy w' none ∧ WW w' (fun k => w.heap.size ≤ k) wb qb (.slice none 0 0) 0 X0 := by
  refine (begun_any w).mono ?_
  rintro y w' ⟨wb, sb, qb, gl, gc, F, B, zs, rb, G, Q, lb, lsv, rfl, hf, hz, hM⟩
  exact ⟨wb, qb, rfl, hf, by omega, fun _ _ => by simp [X0], sb, gl, gc, F, B, qA, zs, rb, G, Q, qR, lb, _, lsv, fun _ => newT 0, fun _ => 0, fun _ => 0, fun _ => 0, L0, 0, hM, hz, q_fil, qR_fit, q_rep, fun l hl => absurd hl (Nat.not_lt_zero _), fun H hH => by simp [hs] at hH, li0⟩

set_option maxRecDepth 100000 in
theorem does_make {w : World} {P : Nat → Prop} {wb qb : Nat} {tv : Value} {i : Nat} {X : Nat → Nat → List Nat} (h : WW w P wb qb tv i X) (hi : i < 64) (hP : ∀ k, w.heap.size ≤ k → P k) :
    Calls Tryz.prog 11 #[.pointer (some ⟨wb, 0, none⟩), opMake] w fun y w' => y = .returned (.bool true) ∧ Kp P w w' ∧ ∃ tv', WW w' P wb qb tv' (i + 1) X := by
  have hal := World.grownBy_alloc w (.cells #[.int .i64 1, .int .i64 0, .int .i64 0, .int .i64 0, .int .u64 0, .bool false] 28) none
  have hmk := (makes_any (h.kept0 hal) hi (fun k hk => hP k (Nat.le_trans hal.size hk))).mono (R' := fun y w' => y = .returned (.bool true) ∧ Hid (Kp P w w' ∧ ∃ tv', WW w' P wb qb tv' (i + 1) X)) (by
    rintro y w' ⟨rfl, hK, hW⟩
    exact ⟨rfl, (Kp.of hal).trans hK (fun _ h => h) (fun k hk => .inl hk), hW⟩)
  unfold opMake at hmk ⊢
  clear h hal
  go_enter Tryz.func11, Tryz.ntmps11
  go_wp2_with (first | (go_at_call 20; go_must (with_reducible refine hmk.mono ?_); rintro y w1 ⟨rfl, hE⟩) | fail)
  go_ret
  exact ⟨rfl, hE.out⟩

theorem kp_grown {w w1 w2 : World} (hf : w.grownBy w1 none) (hK : Kp (fun k => w.heap.size ≤ k) w1 w2) : w.grownBy w2 none :=
  ((Kp.of (F := fun _ => False) hf).trans hK (H := fun _ => False) (fun _ h => h) (fun k hk => .inr hk)).grown (fun i hi => hi.elim)

set_option maxRecDepth 100000 in
set_option maxHeartbeats 2000000 in
theorem wakes_any (w : World) : Calls Tryz.prog 15 #[] w fun y w' => y = .returned (.bool true) ∧ w.grownBy w' none := by
  have hbg := (begun_ww w).mono (R' := fun y w0 => ∃ wb qb : Nat, y = .returned (.pointer (some ⟨wb, 0, none⟩)) ∧ Hid (w.grownBy w0 none ∧ ∃ tv, WW w0 (fun k => w.heap.size ≤ k) wb qb tv 0 X0)) (by
    rintro y w0 ⟨wb, qb, rfl, hf, h⟩
    exact ⟨wb, qb, rfl, hf, _, h⟩)
  have hmk := fun w0 wb qb (i : Nat) (hi : i < 64) (hE : Hid (w.grownBy w0 none ∧ ∃ tv, WW w0 (fun k => w.heap.size ≤ k) wb qb tv i X0)) => (show Calls Tryz.prog 11 #[.pointer (some ⟨wb, 0, none⟩), opMake] w0 (fun y w1 => y = .returned (.bool true) ∧ Hid (w.grownBy w1 none ∧ ∃ tv, WW w1 (fun k => w.heap.size ≤ k) wb qb tv (i + 1) X0)) by
    obtain ⟨hf, tv, hW⟩ := hE.out
    refine (does_make hW hi (fun k hk => Nat.le_trans hf.size hk)).mono ?_
    rintro y w1 ⟨rfl, hK, tv', hW'⟩
    exact ⟨rfl, kp_grown hf hK, tv', hW'⟩)
  have hpu := fun w2 wb qb (hE : Hid (w.grownBy w2 none ∧ ∃ tv, WW w2 (fun k => w.heap.size ≤ k) wb qb tv 2 X0)) => (show Calls Tryz.prog 21 #[.pointer (some ⟨qb, 0, none⟩), .int .u64 1, .int .i64 1] w2 (fun y w3 => y = .returned (.int .i64 0) ∧ w3.cell? ⟨wb, 1, none⟩ = some (.pointer (some ⟨qb, 0, none⟩)) ∧ Hid (w.grownBy w3 none ∧ ∃ tv, WW w3 (fun k => w.heap.size ≤ k) wb qb tv 2 (upX X0 0 0 [1]))) by
    obtain ⟨hf, tv, hW⟩ := hE.out
    refine (ww_push hW (H := 1) (k := 0) (by decide) (by omega) (fun k2 => by simp [X0]) (by simp [X0])).mono ?_
    rintro y w1 ⟨rfl, hK, hW'⟩
    exact ⟨rfl, hW'.cells.1, kp_grown hf hK, tv, hW'⟩)
  have hla := fun w2 wb qb (hE : Hid (w.grownBy w2 none ∧ ∃ tv, WW w2 (fun k => w.heap.size ≤ k) wb qb tv 2 (upX X0 0 0 [1]))) => (show Calls Tryz.prog 22 #[.pointer (some ⟨qb, 0, none⟩), .int .u64 9, .int .i64 1] w2 (fun y w3 => y = .returned (.int .i64 0) ∧ w3.cell? ⟨wb, 1, none⟩ = some (.pointer (some ⟨qb, 0, none⟩)) ∧ Hid (w.grownBy w3 none ∧ ∃ tv, WW w3 (fun k => w.heap.size ≤ k) wb qb tv 2 (upX (upX X0 0 0 [1]) 0 0 [1, 9]))) by
    obtain ⟨hf, tv, hW⟩ := hE.out
    refine (ww_last hW (H := 9) (k := 0) (by decide) (by omega) (fun k2 => by simp [upX, X0]) (by simp [upX])).mono ?_
    rintro y w1 ⟨rfl, hK, hW'⟩
    exact ⟨rfl, hW'.cells.1, kp_grown hf hK, tv, hW'⟩)
  have hhd := fun w2 wb qb (hE : Hid (w.grownBy w2 none ∧ ∃ tv, WW w2 (fun k => w.heap.size ≤ k) wb qb tv 2 (upX (upX X0 0 0 [1]) 0 0 [1, 9]))) => (show Calls Tryz.prog 47 #[.pointer (some ⟨qb, 0, none⟩), .int .i64 0, .int .i64 1] w2 (fun y w3 => y = .returned (.tuple #[.int .u64 1, .bool true]) ∧ w3.cell? ⟨wb, 1, none⟩ = some (.pointer (some ⟨qb, 0, none⟩)) ∧ Hid (w.grownBy w3 none ∧ ∃ tv, WW w3 (fun k => w.heap.size ≤ k) wb qb tv 2 (upX (upX X0 0 0 [1]) 0 0 [1, 9]))) by
    obtain ⟨hf, tv, hW⟩ := hE.out
    refine (ww_head hW (c := 0) (k := 0) (v := 1) (by omega) (by omega) (by simp [upX])).mono ?_
    rintro y w1 ⟨rfl, hf1⟩
    exact ⟨rfl, (hW.kept0 hf1).cells.1, gb_trans hf hf1, tv, hW.kept0 hf1⟩)
  have htl := fun w2 wb qb (hE : Hid (w.grownBy w2 none ∧ ∃ tv, WW w2 (fun k => w.heap.size ≤ k) wb qb tv 2 (upX (upX X0 0 0 [1]) 0 0 [1, 9]))) => (show Calls Tryz.prog 27 #[.pointer (some ⟨qb, 0, none⟩), .int .i64 0, .int .i64 1] w2 (fun y w3 => y = .returned (.tuple #[.int .u64 9, .bool true]) ∧ w3.cell? ⟨wb, 1, none⟩ = some (.pointer (some ⟨qb, 0, none⟩)) ∧ Hid (w.grownBy w3 none ∧ ∃ tv, WW w3 (fun k => w.heap.size ≤ k) wb qb tv 2 (upX (upX X0 0 0 [1]) 0 0 [1, 9]))) by
    obtain ⟨hf, tv, hW⟩ := hE.out
    refine (ww_tail hW (c := 0) (k := 0) (v := 9) (by omega) (by omega) (by simp [upX])).mono ?_
    rintro y w1 ⟨rfl, hf1⟩
    exact ⟨rfl, (hW.kept0 hf1).cells.1, gb_trans hf hf1, tv, hW.kept0 hf1⟩)
  have hln := fun w2 wb qb (hE : Hid (w.grownBy w2 none ∧ ∃ tv, WW w2 (fun k => w.heap.size ≤ k) wb qb tv 2 (upX (upX X0 0 0 [1]) 0 0 [1, 9]))) => (show Calls Tryz.prog 28 #[.pointer (some ⟨qb, 0, none⟩), .int .i64 0, .int .i64 1] w2 (fun y w3 => y = .returned (.int .i64 2) ∧ w3.cell? ⟨wb, 1, none⟩ = some (.pointer (some ⟨qb, 0, none⟩)) ∧ Hid (w.grownBy w3 none)) by
    obtain ⟨hf, tv, hW⟩ := hE.out
    refine (ww_len hW (c := 0) (k := 0) (v := 2) (by omega) (by omega) (by simp [upX])).mono ?_
    rintro y w1 ⟨rfl, hf1⟩
    exact ⟨rfl, (hW.kept0 hf1).cells.1, gb_trans hf hf1⟩)
  have hcs := fun w2 wb qb (hE : Hid (w.grownBy w2 none ∧ ∃ tv, WW w2 (fun k => w.heap.size ≤ k) wb qb tv 2 X0)) => (show ∃ g cap, w2.cell? ⟨wb, 4, none⟩ = some (.slice (some ⟨g, 0, none⟩) 2 cap) ∧ w2.cell? ⟨g, 0, none⟩ = some (.int .u64 1) ∧ w2.cell? ⟨g, 1, none⟩ = some (.int .u64 9) ∧ w2.cell? ⟨wb, 1, none⟩ = some (.pointer (some ⟨qb, 0, none⟩)) by
    obtain ⟨hf, tv, hW⟩ := hE.out
    obtain ⟨e1, e2, e3⟩ := hW.cells
    obtain ⟨ao, cap, rfl, _, _, _, hao⟩ := row_shape e3
    obtain ⟨g, rfl⟩ := hao (by omega)
    exact ⟨g, cap, e2, row_cell e3 0 _ rfl, row_cell e3 1 _ rfl, e1⟩)
  unfold opMake at hmk
  go_enter Tryz.func15, Tryz.ntmps15
  go_wp2_with (first | (go_at_call 10; go_must (refine hbg.mono ?_); rintro y w0 ⟨wb, qb, rfl, hE0⟩) | (go_at_call 11; with_reducible refine (hmk _ _ _ 0 (by omega) hE0).mono ?_; rintro y w1 ⟨rfl, hE1⟩) | (go_at_call 11; with_reducible refine (hmk _ _ _ 1 (by omega) hE1).mono ?_; rintro y w2 ⟨rfl, hE2⟩; obtain ⟨g, cap, q1, q2, q3, q4⟩ := hcs _ _ _ hE2) | (go_at_call 14; go_must (refine (num_any _ _).mono ?_); rintro y w' ⟨rfl, rfl⟩) | fail)
  have hdr := gb_drew (gb_refl w2 none)
  have hEd : Hid (w.grownBy w2.drew none ∧ ∃ tv, WW w2.drew (fun k => w.heap.size ≤ k) wb qb tv 2 X0) := ⟨gb_trans hE2.out.1 hdr, hE2.out.2.choose, hE2.out.2.choose_spec.kept0 hdr⟩
  have q4' := gb_cellN hdr q4
  go_region_law (fail)
  go_wp2_with (first | (go_at_call 14; go_must (refine (num_any _ _).mono ?_); rintro y w' ⟨rfl, rfl⟩) | (go_at_call 21; go_must (with_reducible refine (hpu _ _ _ hEd).mono ?_); rintro y w3 ⟨rfl, d3, hE3⟩) | (go_at_call 22; go_must (with_reducible refine (hla _ _ _ hE3).mono ?_); rintro y w4 ⟨rfl, d4, hE4⟩) | (go_at_call 47; go_must (with_reducible refine (hhd _ _ _ hE4).mono ?_); rintro y w5 ⟨rfl, d5, hE5⟩) | (go_at_call 27; go_must (with_reducible refine (htl _ _ _ hE5).mono ?_); rintro y w6 ⟨rfl, d6, hE6⟩) | (go_at_call 28; go_must (with_reducible refine (hln _ _ _ hE6).mono ?_); rintro y w7 ⟨rfl, d7, hE7⟩) | fail)
  all_goals
    go_ret
    exact ⟨rfl, hE7.out⟩

set_option maxRecDepth 100000 in
theorem queueNames_any (w : World) : Calls Tryz.prog 5 #[] w fun y w' => y = .returned (.bool true) ∧ w.grownBy w' none := by
  have hw := fun W => wakes_any W
  go_enter Tryz.func5, Tryz.ntmps5
  go_wp2_with (first | (go_at_call 14; go_must (refine (num_any _ _).mono ?_); rintro y w' ⟨rfl, rfl⟩) | (go_at_call 15; go_must (refine (hw _).mono ?_); rintro y w1 ⟨rfl, hf1⟩) | fail)
  go_ret
  exact ⟨rfl, hf1⟩
end Go.Proofs.YtijpploeofdhbaaGreat

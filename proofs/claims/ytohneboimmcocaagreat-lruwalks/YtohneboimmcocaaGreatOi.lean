import Derived.Test.YtohneboimmcocaaGreatOh
/-
  Which handle a call means.
-/
namespace Go.Proofs.YtohneboimmcocaaGreat
open Go.RowKit
set_option linter.unusedVariables false

section
variable {w : World} {P : Nat → Prop} {wb N : Nat} {hot warm : Nat} {D0 : Wd}
set_option maxRecDepth 100000 in
theorem handle_14 (hG : GS w P wb N hot warm D0) (o : Opv) (ho : o.Ok) : ∃ H : Nat, H < 18446744073709551616 ∧
    Calls Tryz.prog 14 #[.pointer (some ⟨wb, 0, none⟩), .agg o.cs] w fun y w' => y = .returned (.int .u64 H) ∧ w.grownBy w' none := by
  obtain ⟨D, lsb, vs, Y, S, cl, hs, hW⟩ := hG
  have hM := hW.ms
  have hN1 := hW.nN
  have hal := World.grownBy_alloc w (.cells o.cs 29) none
  have hb0 := Box.new w 29 o.cs
  have hM0 := hM.kept0 hal
  have htr := hM0.ms.trow
  obtain ⟨at0, ct0, htv, hat0, ht2, ht3, hat1⟩ := row_shape htr
  have c6 := hM0.ms.box.cell 6
  rw [htv] at c6 htr
  obtain ⟨hh, hb⟩ := ho
  unfold Opv.cs at *
  obtain ⟨d0, a0, b0, c0v, h0v, r0⟩ := o
  dsimp only at *
  have u1 := hb0.cell 1
  have u4 := hb0.cell 4
  have u5 := hb0.cell 5
  simp at u1 u4 u5 c6
  cases r0 with
  | true =>
    refine ⟨h0v, hh, ?_⟩
    clear hM0 hM hW hs hb0
    go_enter Tryz.func14, Tryz.ntmps14
    go_wp2
    go_ret
    exact ⟨rfl, hal⟩
  | false =>
    by_cases hn : D.xt.length = 0
    · refine ⟨h0v, hh, ?_⟩
      rw [hn] at c6
      clear hM0 hM hW hs hb0
      go_enter Tryz.func14, Tryz.ntmps14
      go_wp2
      go_ret
      exact ⟨rfl, hal⟩
    · obtain ⟨g, rfl⟩ := hat1 (by omega)
      have hwi := fun W => within_any a0 (D.xt.length : Int) (by omega) (by omega) W
      obtain ⟨j, hj⟩ : ∃ j : Nat, a0 % (D.xt.length : Int) = (j : Int) := ⟨(a0 % (D.xt.length : Int)).toNat, by have := Int.emod_nonneg a0 (b := (D.xt.length : Int)) (by omega); omega⟩
      have hjl : j < D.xt.length := by have := Int.emod_lt_of_pos a0 (b := (D.xt.length : Int)) (by omega); omega
      rw [hj] at hwi
      have hget := List.getElem?_eq_getElem hjl
      have hcell := row_cell htr j _ (uvs_get hget)
      refine ⟨D.xt[j], hW.tb _ (List.getElem_mem hjl), ?_⟩
      generalize D.xt[j] = H at *
      generalize D.xt.length = n at *
      have hiz : (j : Int) < (n : Int) := by omega
      have hn0 : ((n : Int) == 0) = false := by simp; omega
      clear hM0 hM hW hs hb0 htr hget hj
      go_enter Tryz.func14, Tryz.ntmps14
      go_wp2_with (first | (go_at_call 28; go_must (refine (hwi _).mono ?_); rintro y w' ⟨rfl, rfl⟩) | fail)
      have hwq := fun W => (hwi W).mono (R' := fun y w' => y = .returned (.int .i64 j) ∧ w' = W) (by
        rintro y w' ⟨rfl, rfl⟩
        exact ⟨rfl, rfl⟩)
      go_quiet ((go_at_call 28; with_reducible exact Calls.quiet_of_same (hwq _)))
      go_wp2
      go_ret
      exact ⟨rfl, gb_trans hal (gb_drewN (gb_refl _ _) _)⟩
end
end Go.Proofs.YtohneboimmcocaaGreat
/-
  moves: Enter, Leave, Hit, Shift, Balance.
-/
namespace Go.Proofs.YtohneboimmcocaaGreat
open Go.RowKit
set_option linter.unusedVariables false

section
variable {w : World} {P P' : Nat → Prop} {wb N : Nat} {hot warm : Nat} {D0 : Wd}
theorem MS9.less {D : Wd} {lsb : Nat} {vs : Nat → Value} {Y : Nat → List Nat} (h : MS9 w P wb D hot warm lsb vs Y) (hs : ∀ k, k < w.heap.size → P k → P' k) : MS9 w P' wb D hot warm lsb vs Y :=
  ⟨h.ms.kept (G := fun _ => False) (Kp.refl _ _) (fun _ _ _ h => h) (fun k hk hp => ⟨hs k hk hp.1, hp.2⟩), h.lsv, h.rl, fun k hk => hs k (h.rl.lt k hk) (h.pr k hk)⟩
/-- The blocks may be said otherwise. -/
theorem GS.less (h : GS w P wb N hot warm D0) (hs : ∀ k, k < w.heap.size → P k → P' k) : GS w P' wb N hot warm D0 := by
  obtain ⟨D, lsb, vs, Y, S, cl, hp, hG⟩ := h
  exact ⟨D, lsb, vs, Y, S, cl, hp, hG.ms.less hs, hG.gx, hG.dm, hG.nN, hG.sub, hG.hdr, hG.zl, hG.nd, hG.tb⟩
theorem Kp.less {w w' : World} (h : Kp P w w') (hs : ∀ k, P k → P' k) : Kp P' w w' := h.mono (fun k hk => .inl (hs k hk))

set_option maxRecDepth 100000 in
set_option maxHeartbeats 1000000 in
theorem moves_enter (hG : GS w P wb N hot warm D0) (hP : ∀ k, w.heap.size ≤ k → P k) (hN : N < 300) (o : Opv) (ho : o.Ok) (hd : o.d = 4) :
    Calls Tryz.prog 15 #[.pointer (some ⟨wb, 0, none⟩), .agg o.cs] w fun y w' => y = .returned (.bool true) ∧ Kp P w w' ∧ GS w' P wb (N + 1) hot warm D0 := by
  have hal := World.grownBy_alloc w (.cells o.cs 29) none
  obtain ⟨H, h64, h14⟩ := handle_14 (hG.kept0 hal) o ho
  have hb0 := Box.new w 29 o.cs
  have h14' := h14.mono (R' := fun y w1 => y = .returned (.int .u64 H) ∧ w.grownBy w1 none ∧ Box w1 29 w.heap.size o.cs) (by
    rintro y w1 ⟨rfl, hf⟩
    exact ⟨rfl, gb_trans hal hf, hb0.kept hf (by simp)⟩)
  have hp := fun W (hf : w.grownBy W none) => pair_enter (hG.kept0 hf) (fun k hk => hP k (Nat.le_trans hf.size hk)) hN h64
  have hcs := fun W (hf : w.grownBy W none) => (hG.kept0 hf).cells
  unfold Opv.cs at *
  obtain ⟨d0, a0, b0, c0v, h0v, r0⟩ := o
  dsimp only at *
  subst hd
  have u0 := hb0.cell 0
  have u1 := hb0.cell 1
  have u2 := hb0.cell 2
  have u3 := hb0.cell 3
  have u4 := hb0.cell 4
  have u5 := hb0.cell 5
  simp at u0 u1 u2 u3 u4 u5
  clear h14 hb0 hG
  go_enter Tryz.func15, Tryz.ntmps15
  go_wp2_with (first | (go_at_call 14; go_must (refine h14'.mono ?_); rintro y w1 ⟨rfl, hf1, hb1⟩; (have v0 := hb1.cell 0); simp at v0) | fail)
  have hf1d : w.grownBy w1.drew none := gb_trans hf1 (gb_drew (gb_refl _ _))
  obtain ⟨er, B1, hc1, hc2⟩ := hp w1.drew hf1d
  obtain ⟨_, _, k2, _, _, k5⟩ := hcs w1.drew hf1d
  have hk0 := And.intro k2 k5
  clear hp hcs u0 u1 u2 u3 u4 u5
  go_region_held3 (fun W => W.cell? ⟨wb, 2, none⟩ = some (.pointer (some ⟨D0.xb, 0, none⟩)) ∧ W.cell? ⟨wb, 5, none⟩ = some (.pointer (some ⟨D0.mb, 0, none⟩))) ((first | with_reducible exact hk1 | with_reducible exact hk2 | with_reducible exact hk0 | go_keep)) ((first | (go_at_call 32; with_reducible refine hc1.mono ?_; rintro y w2 ⟨rfl, hB2⟩; (obtain ⟨hkp, ⟨_, _, q2, _, _, q5⟩, hcall⟩ := hc2 _ _ hB2 (gb_refl _ _)); (have hk1 := And.intro q2 q5)) | (go_at_call 53; with_reducible refine hcall.mono ?_; rintro y w3 ⟨rfl, hK3, hG3⟩; (obtain ⟨_, _, r2, _, _, r5⟩ := hG3.cells); (have hk2 := And.intro r2 r5)) | (go_at_call 26; with_reducible refine (num_any _ _).mono ?_; rintro y w' ⟨rfl, rfl⟩)))
  go_wp2
  go_ret
  exact ⟨rfl, (Kp.of hf1d).trans hK3 (fun _ h => h) (fun k hk => .inl hk), hG3⟩

set_option maxRecDepth 100000 in
set_option maxHeartbeats 1000000 in
theorem moves_leave (hG : GS w P wb N hot warm D0) (hP : ∀ k, w.heap.size ≤ k → P k) (hN : N < 300) (o : Opv) (ho : o.Ok) (hd : o.d = 5) :
    Calls Tryz.prog 15 #[.pointer (some ⟨wb, 0, none⟩), .agg o.cs] w fun y w' => y = .returned (.bool true) ∧ Kp P w w' ∧ GS w' P wb (N + 1) hot warm D0 := by
  have hal := World.grownBy_alloc w (.cells o.cs 29) none
  obtain ⟨H, h64, h14⟩ := handle_14 (hG.kept0 hal) o ho
  have hb0 := Box.new w 29 o.cs
  have h14' := h14.mono (R' := fun y w1 => y = .returned (.int .u64 H) ∧ w.grownBy w1 none ∧ Box w1 29 w.heap.size o.cs) (by
    rintro y w1 ⟨rfl, hf⟩
    exact ⟨rfl, gb_trans hal hf, hb0.kept hf (by simp)⟩)
  have hp := fun W (hf : w.grownBy W none) => pair_leave (hG.kept0 hf) (fun k hk => hP k (Nat.le_trans hf.size hk)) hN h64
  have hcs := fun W (hf : w.grownBy W none) => (hG.kept0 hf).cells
  unfold Opv.cs at *
  obtain ⟨d0, a0, b0, c0v, h0v, r0⟩ := o
  dsimp only at *
  subst hd
  have u0 := hb0.cell 0
  have u1 := hb0.cell 1
  have u2 := hb0.cell 2
  have u3 := hb0.cell 3
  have u4 := hb0.cell 4
  have u5 := hb0.cell 5
  simp at u0 u1 u2 u3 u4 u5
  clear h14 hb0 hG
  go_enter Tryz.func15, Tryz.ntmps15
  go_wp2_with (first | (go_at_call 14; go_must (refine h14'.mono ?_); rintro y w1 ⟨rfl, hf1, hb1⟩; (have v0 := hb1.cell 0); simp at v0) | fail)
  have hf1d : w.grownBy w1.drew none := gb_trans hf1 (gb_drew (gb_refl _ _))
  obtain ⟨er, B1, hc1, hc2⟩ := hp w1.drew hf1d
  obtain ⟨_, _, k2, _, _, k5⟩ := hcs w1.drew hf1d
  have hk0 := And.intro k2 k5
  clear hp hcs u0 u1 u2 u3 u4 u5
  go_region_held3 (fun W => W.cell? ⟨wb, 2, none⟩ = some (.pointer (some ⟨D0.xb, 0, none⟩)) ∧ W.cell? ⟨wb, 5, none⟩ = some (.pointer (some ⟨D0.mb, 0, none⟩))) ((first | with_reducible exact hk1 | with_reducible exact hk2 | with_reducible exact hk0 | go_keep)) ((first | (go_at_call 31; with_reducible refine hc1.mono ?_; rintro y w2 ⟨rfl, hB2⟩; (obtain ⟨hkp, ⟨_, _, q2, _, _, q5⟩, hcall⟩ := hc2 _ _ hB2 (gb_refl _ _)); (have hk1 := And.intro q2 q5)) | (go_at_call 54; with_reducible refine hcall.mono ?_; rintro y w3 ⟨rfl, hK3, hG3⟩; (obtain ⟨_, _, r2, _, _, r5⟩ := hG3.cells); (have hk2 := And.intro r2 r5)) | (go_at_call 26; with_reducible refine (num_any _ _).mono ?_; rintro y w' ⟨rfl, rfl⟩)))
  go_wp2
  go_ret
  exact ⟨rfl, (Kp.of hf1d).trans hK3 (fun _ h => h) (fun k hk => .inl hk), hG3⟩

set_option maxRecDepth 100000 in
set_option maxHeartbeats 1000000 in
theorem moves_hit (hG : GS w P wb N hot warm D0) (hP : ∀ k, w.heap.size ≤ k → P k) (hN : N < 300) (o : Opv) (ho : o.Ok) (hd : o.d = 6) :
    Calls Tryz.prog 15 #[.pointer (some ⟨wb, 0, none⟩), .agg o.cs] w fun y w' => y = .returned (.bool true) ∧ Kp P w w' ∧ GS w' P wb (N + 1) hot warm D0 := by
  have hal := World.grownBy_alloc w (.cells o.cs 29) none
  obtain ⟨H, h64, h14⟩ := handle_14 (hG.kept0 hal) o ho
  have hb0 := Box.new w 29 o.cs
  have h14' := h14.mono (R' := fun y w1 => y = .returned (.int .u64 H) ∧ w.grownBy w1 none ∧ Box w1 29 w.heap.size o.cs) (by
    rintro y w1 ⟨rfl, hf⟩
    exact ⟨rfl, gb_trans hal hf, hb0.kept hf (by simp)⟩)
  have hp := fun W (hf : w.grownBy W none) => pair_hit (hG.kept0 hf) (fun k hk => hP k (Nat.le_trans hf.size hk)) hN h64
  have hcs := fun W (hf : w.grownBy W none) => (hG.kept0 hf).cells
  unfold Opv.cs at *
  obtain ⟨d0, a0, b0, c0v, h0v, r0⟩ := o
  dsimp only at *
  subst hd
  have u0 := hb0.cell 0
  have u1 := hb0.cell 1
  have u2 := hb0.cell 2
  have u3 := hb0.cell 3
  have u4 := hb0.cell 4
  have u5 := hb0.cell 5
  simp at u0 u1 u2 u3 u4 u5
  clear h14 hb0 hG
  go_enter Tryz.func15, Tryz.ntmps15
  go_wp2_with (first | (go_at_call 14; go_must (refine h14'.mono ?_); rintro y w1 ⟨rfl, hf1, hb1⟩; (have v0 := hb1.cell 0); simp at v0) | fail)
  have hf1d : w.grownBy w1.drew none := gb_trans hf1 (gb_drew (gb_refl _ _))
  obtain ⟨er, B1, hc1, hc2⟩ := hp w1.drew hf1d
  obtain ⟨_, _, k2, _, _, k5⟩ := hcs w1.drew hf1d
  have hk0 := And.intro k2 k5
  clear hp hcs u0 u1 u2 u3 u4 u5
  go_region_held3 (fun W => W.cell? ⟨wb, 2, none⟩ = some (.pointer (some ⟨D0.xb, 0, none⟩)) ∧ W.cell? ⟨wb, 5, none⟩ = some (.pointer (some ⟨D0.mb, 0, none⟩))) ((first | with_reducible exact hk1 | with_reducible exact hk2 | with_reducible exact hk0 | go_keep)) ((first | (go_at_call 33; with_reducible refine hc1.mono ?_; rintro y w2 ⟨rfl, hB2⟩; (obtain ⟨hkp, ⟨_, _, q2, _, _, q5⟩, hcall⟩ := hc2 _ _ hB2 (gb_refl _ _)); (have hk1 := And.intro q2 q5)) | (go_at_call 55; with_reducible refine hcall.mono ?_; rintro y w3 ⟨rfl, hK3, hG3⟩; (obtain ⟨_, _, r2, _, _, r5⟩ := hG3.cells); (have hk2 := And.intro r2 r5)) | (go_at_call 26; with_reducible refine (num_any _ _).mono ?_; rintro y w' ⟨rfl, rfl⟩)))
  go_wp2
  go_ret
  exact ⟨rfl, (Kp.of hf1d).trans hK3 (fun _ h => h) (fun k hk => .inl hk), hG3⟩
end
end Go.Proofs.YtohneboimmcocaaGreat

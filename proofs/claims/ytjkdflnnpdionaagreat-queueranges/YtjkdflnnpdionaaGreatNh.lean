import Derived.Test.YtjkdflnnpdionaaGreatNg
/-
  Which handle a call means; moves, gives.
-/
namespace Go.Proofs.YtjkdflnnpdionaaGreat
open Go.RowKit
set_option linter.unusedVariables false

section
variable {w : World} {P P' : Nat → Prop} {wb N : Nat} {D : Wd} {lsb : Nat} {vs : Nat → Value} {Y : Nat → List Nat} {cl : Nat → Nat} {S : Lm}
set_option maxRecDepth 100000 in
theorem handle_30 (hW : GW w P wb N D lsb vs Y S cl) (o : Opv) (hh : o.h < 18446744073709551616) : ∃ H : Nat, H < 18446744073709551616 ∧
    Calls Tryz.prog 30 #[.pointer (some ⟨wb, 0, none⟩), .agg o.cs] w fun y w' => y = .returned (.int .u64 H) ∧ w.grownBy w' none := by
  have hM := hW.ms
  have hN1 := hW.nN
  have hal := World.grownBy_alloc w (.cells o.cs 28) none
  have hb0 := Box.new w 28 o.cs
  have hM0 := hM.kept0 hal
  have htr := hM0.ms.trow
  obtain ⟨at0, ct0, htv, hat0, ht2, ht3, hat1⟩ := row_shape htr
  have c6 := hM0.ms.box.cell 4
  rw [htv] at c6 htr
  unfold Opv.cs at *
  obtain ⟨d0, a0, b0, c0v, h0v, r0⟩ := o
  dsimp only at *
  have u1 := hb0.cell 1
  have u4 := hb0.cell 4
  have u5 := hb0.cell 5
  simp at u1 u4 u5 c6
  cases r0 with
  | true =>
    refine ⟨h0v, hh, ?_⟩
    clear hM0 hM hW hb0
    go_enter Tryz.func30, Tryz.ntmps30
    go_wp2
    go_ret
    exact ⟨rfl, hal⟩
  | false =>
    by_cases hn : D.xt.length = 0
    · refine ⟨h0v, hh, ?_⟩
      rw [hn] at c6
      clear hM0 hM hW hb0
      go_enter Tryz.func30, Tryz.ntmps30
      go_wp2
      go_ret
      exact ⟨rfl, hal⟩
    · obtain ⟨g, rfl⟩ := hat1 (by omega)
      have hwi := fun W => within_any a0 (D.xt.length : Int) (by omega) (by omega) W
      obtain ⟨j, hj⟩ : ∃ j : Nat, a0 % (D.xt.length : Int) = (j : Int) := ⟨(a0 % (D.xt.length : Int)).toNat, by have := Int.emod_nonneg a0 (b := (D.xt.length : Int)) (by omega); omega⟩
      have hjl : j < D.xt.length := by have := Int.emod_lt_of_pos a0 (b := (D.xt.length : Int)) (by omega); omega
      rw [hj] at hwi
      have hget := List.getElem?_eq_getElem hjl
      have hcell := row_cell htr j _ (uvs_get hget)
      refine ⟨D.xt[j], hW.tb _ (List.getElem_mem hjl), ?_⟩
      generalize D.xt[j] = H at *
      generalize D.xt.length = n at *
      have hiz : (j : Int) < (n : Int) := by omega
      have hn0 : ((n : Int) == 0) = false := by simp; omega
      clear hM0 hM hW hb0 htr hget hj
      go_enter Tryz.func30, Tryz.ntmps30
      go_wp2_with (first | (go_at_call 18; go_must (refine (hwi _).mono ?_); rintro y w' ⟨rfl, rfl⟩) | fail)
      have hwq := fun W => (hwi W).mono (R' := fun y w' => y = .returned (.int .i64 j) ∧ w' = W) (by
        rintro y w' ⟨rfl, rfl⟩
        exact ⟨rfl, rfl⟩)
      go_quiet ((go_at_call 18; with_reducible exact Calls.quiet_of_same (hwq _)))
      go_wp2
      go_ret
      exact ⟨rfl, gb_trans hal (gb_drewN (gb_refl _ _) _)⟩

theorem MS9.less (h : MS9 w P wb D lsb vs Y) (hs : ∀ k, k < w.heap.size → P k → P' k) : MS9 w P' wb D lsb vs Y :=
  ⟨h.ms.kept (G := fun _ => False) (Kp.refl _ _) (fun _ _ _ h => h) (fun k hk hp => ⟨hs k hk hp.1, hp.2⟩), h.lsv, h.rl, fun k hk => hs k (h.rl.lt k hk) (h.pr k hk)⟩
theorem GW.less (h : GW w P wb N D lsb vs Y S cl) (hs : ∀ k, k < w.heap.size → P k → P' k) : GW w P' wb N D lsb vs Y S cl := ⟨h.ms.less hs, h.gx, h.nN, h.sub, h.zl, h.nd, h.tb⟩
theorem GT.kept0 {w' : World} (h : GT w P wb N D) (hf : w.grownBy w' none) : GT w' P wb N D := by
  obtain ⟨lsb, vs, Y, S, cl, h1, h2⟩ := h
  exact ⟨lsb, vs, Y, S, cl, h1.kept0 hf, h2⟩
theorem GT.less (h : GT w P wb N D) (hs : ∀ k, k < w.heap.size → P k → P' k) : GT w P' wb N D := by
  obtain ⟨lsb, vs, Y, S, cl, h1, h2⟩ := h
  exact ⟨lsb, vs, Y, S, cl, h1.less hs, h2⟩
theorem GT.cells (h : GT w P wb N D) : Cells w wb D := by
  obtain ⟨lsb, vs, Y, S, cl, h1, h2⟩ := h
  exact h1.ms.cells
theorem GT.hlt (h : GT w P wb N D) : wb < w.heap.size := by
  obtain ⟨lsb, vs, Y, S, cl, h1, h2⟩ := h
  exact h1.ms.ms.box.lt
theorem GM.cells {er : Int} (h : GM w P wb N D er) : Cells w wb D := by
  obtain ⟨D', h1, h2⟩ := h
  exact cells_of h1.same h2.cells
theorem GM.less {er : Int} (h : GM w P wb N D er) (hs : ∀ k, k < w.heap.size → P k → P' k) : GM w P' wb N D er := by
  obtain ⟨D', h1, h2⟩ := h
  exact ⟨D', h1, h2.less hs⟩
theorem GT.gs (h : GT w P wb N D) : GS w P wb N D := by
  obtain ⟨lsb, vs, Y, S, cl, h1, h2⟩ := h
  exact ⟨D, lsb, vs, Y, S, cl, same_refl D, h1, h2⟩
theorem GS.gt {D0 : Wd} (h : GS w P wb N D0) : ∃ D, SameP D0 D ∧ GT w P wb N D := by
  obtain ⟨D, lsb, vs, Y, S, cl, hs, h1, h2⟩ := h
  exact ⟨D, hs, lsb, vs, Y, S, cl, h1, h2⟩
theorem GS.more {D0 D1 : Wd} (h : GS w P wb N D1) (hs : SameP D0 D1) : GS w P wb N D0 := by
  obtain ⟨D, lsb, vs, Y, S, cl, h0, h1, h2⟩ := h
  exact ⟨D, lsb, vs, Y, S, cl, hs.trans h0, h1, h2⟩
theorem GS.less {D0 : Wd} (h : GS w P wb N D0) (hs : ∀ k, k < w.heap.size → P k → P' k) : GS w P' wb N D0 := by
  obtain ⟨D, lsb, vs, Y, S, cl, h0, h1, h2⟩ := h
  exact ⟨D, lsb, vs, Y, S, cl, h0, h1.less hs, h2⟩
theorem Kp.less {w w' : World} (h : Kp P w w') (hs : ∀ k, P k → P' k) : Kp P' w w' := h.mono (fun k hk => .inl (hs k hk))
theorem GT.handle (h : GT w P wb N D) (o : Opv) (hh : o.h < 18446744073709551616) : ∃ H : Nat, H < 18446744073709551616 ∧
    Calls Tryz.prog 30 #[.pointer (some ⟨wb, 0, none⟩), .agg o.cs] w fun y w' => y = .returned (.int .u64 H) ∧ w.grownBy w' none := by
  obtain ⟨lsb, vs, Y, S, cl, h1, h2⟩ := h
  exact handle_30 h1 o hh

set_option maxRecDepth 100000 in
set_option maxHeartbeats 1000000 in
theorem moves_push (hG : GT w P wb N D) (hP : ∀ k, w.heap.size ≤ k → P k) (hN : N < 300) (o : Opv) (hh : o.h < 18446744073709551616) (hd : o.d = 4) :
    Calls Tryz.prog 60 #[.pointer (some ⟨wb, 0, none⟩), .agg o.cs] w fun y w' => y = .returned (.bool true) ∧ Kp P w w' ∧ ∃ er, GM w' P wb (N + 1) D er := by
  have hal := World.grownBy_alloc w (.cells o.cs 28) none
  obtain ⟨H, h64, h30⟩ := (hG.kept0 hal).handle o hh
  have hb0 := Box.new w 28 o.cs
  have h30' := h30.mono (R' := fun y w1 => y = .returned (.int .u64 H) ∧ w.grownBy w1 none ∧ Box w1 28 w.heap.size o.cs) (by
    rintro y w1 ⟨rfl, hf⟩
    exact ⟨rfl, gb_trans hal hf, hb0.kept hf (by simp)⟩)
  have hwl := hG.hlt
  have hG' : GT w (fun k => P k ∧ k ≠ w.heap.size) wb N D := hG.less (fun k hk hp => ⟨hp, by omega⟩)
  have hback := fun W er (h : GM W (fun k => P k ∧ k ≠ w.heap.size) wb (N + 1) D er) => (h.less (P' := P) (fun k _ hp => hp.1))
  unfold Opv.cs at *
  obtain ⟨d0, a0, b0, c0v, h0v, r0⟩ := o
  dsimp only at *
  subst hd
  have hp := fun W (hf : w.grownBy W none) (hl : w.heap.size < W.heap.size) => (show Pair W (fun k => P k ∧ k ≠ w.heap.size) wb D 23 31 #[.pointer (some ⟨D.qb, 0, none⟩), .int .u64 H, .int .i64 b0] #[.pointer (some ⟨D.lb, 0, none⟩), .int .u64 H, .int .i64 b0, .bool false] _ by
    obtain ⟨lsb, vs, Y, S, cl, h1, h2⟩ := hG'.kept0 hf
    exact pair_push h1 h2 (fun k hk => ⟨hP k (Nat.le_trans hf.size hk), by omega⟩) hN h64 b0)
  have hcs := fun W (hf : w.grownBy W none) => (hG.kept0 hf).cells
  have u0 := hb0.cell 0
  have u1 := hb0.cell 1
  have u2 := hb0.cell 2
  have u3 := hb0.cell 3
  have u4 := hb0.cell 4
  have u5 := hb0.cell 5
  simp at u0 u1 u2 u3 u4 u5
  clear h30 hb0 hG hG'
  go_enter Tryz.func60, Tryz.ntmps60
  go_wp2_with (first | (go_at_call 30; go_must (refine h30'.mono ?_); rintro y w1 ⟨rfl, hf1, hb1⟩; (have v0 := hb1.cell 0); simp at v0) | fail)
  have hd1 : w1.grownBy w1.drew none := gb_drew (gb_refl _ _)
  have hf1d : w.grownBy w1.drew none := gb_trans hf1 hd1
  have hb1d := hb1.kept hd1 (by simp)
  obtain ⟨er, B1, hc1, hc2⟩ := hp w1.drew hf1d hb1d.lt
  have hCC : ∀ W, Cells W wb D → Box W 28 w.heap.size #[.int .i64 4, .int .i64 a0, .int .i64 b0, .int .i64 c0v, .int .u64 h0v, .bool r0] → (W.cell? ⟨wb, 1, none⟩ = some (.pointer (some ⟨D.qb, 0, none⟩)) ∧ W.cell? ⟨wb, 3, none⟩ = some (.pointer (some ⟨D.lb, 0, none⟩)) ∧ W.cell? ⟨w.heap.size, 2, none⟩ = some (.int .i64 b0)) := fun W hc hb => ⟨hc.2.1, hc.2.2.2, hb.cell 2⟩
  have hk0 := hCC _ (hcs w1.drew hf1d) hb1d
  have hkb := fun W (hK : Kp (fun k => P k ∧ k ≠ w.heap.size) w1.drew W) => hK.box hb1d (fun h => h.2 rfl)
  clear hp hcs u0 u1 u2 u3 u4 u5
  go_region_held3 (fun W => W.cell? ⟨wb, 1, none⟩ = some (.pointer (some ⟨D.qb, 0, none⟩)) ∧ W.cell? ⟨wb, 3, none⟩ = some (.pointer (some ⟨D.lb, 0, none⟩)) ∧ W.cell? ⟨w.heap.size, 2, none⟩ = some (.int .i64 b0)) ((first | with_reducible exact hk1 | with_reducible exact hk2 | with_reducible exact hk0 | go_keep)) ((first | (go_at_call 23; with_reducible refine hc1.mono ?_; rintro y w2 ⟨rfl, hB2⟩; (obtain ⟨hkp, hce, hcall⟩ := hc2 _ _ hB2 (gb_refl _ _)); (have hk1 := hCC _ hce (hkb _ hkp))) | (go_at_call 31; with_reducible refine hcall.mono ?_; rintro y w3 ⟨rfl, hK3, hG3⟩; (have hk2 := hCC _ hG3.cells (hkb _ hK3))) | (go_at_call 16; with_reducible refine (num_any _ _).mono ?_; rintro y w' ⟨rfl, rfl⟩)))
  go_wp2
  go_ret
  exact ⟨rfl, (Kp.of hf1d).trans (hK3.less (P' := P) (fun k hk => hk.1)) (fun _ h => h) (fun k hk => .inl hk), er, hback _ _ hG3⟩

set_option maxRecDepth 100000 in
set_option maxHeartbeats 1000000 in
theorem moves_last (hG : GT w P wb N D) (hP : ∀ k, w.heap.size ≤ k → P k) (hN : N < 300) (o : Opv) (hh : o.h < 18446744073709551616) (hd : o.d = 5) :
    Calls Tryz.prog 60 #[.pointer (some ⟨wb, 0, none⟩), .agg o.cs] w fun y w' => y = .returned (.bool true) ∧ Kp P w w' ∧ ∃ er, GM w' P wb (N + 1) D er := by
  have hal := World.grownBy_alloc w (.cells o.cs 28) none
  obtain ⟨H, h64, h30⟩ := (hG.kept0 hal).handle o hh
  have hb0 := Box.new w 28 o.cs
  have h30' := h30.mono (R' := fun y w1 => y = .returned (.int .u64 H) ∧ w.grownBy w1 none ∧ Box w1 28 w.heap.size o.cs) (by
    rintro y w1 ⟨rfl, hf⟩
    exact ⟨rfl, gb_trans hal hf, hb0.kept hf (by simp)⟩)
  have hwl := hG.hlt
  have hG' : GT w (fun k => P k ∧ k ≠ w.heap.size) wb N D := hG.less (fun k hk hp => ⟨hp, by omega⟩)
  have hback := fun W er (h : GM W (fun k => P k ∧ k ≠ w.heap.size) wb (N + 1) D er) => (h.less (P' := P) (fun k _ hp => hp.1))
  unfold Opv.cs at *
  obtain ⟨d0, a0, b0, c0v, h0v, r0⟩ := o
  dsimp only at *
  subst hd
  have hp := fun W (hf : w.grownBy W none) (hl : w.heap.size < W.heap.size) => (show Pair W (fun k => P k ∧ k ≠ w.heap.size) wb D 24 31 #[.pointer (some ⟨D.qb, 0, none⟩), .int .u64 H, .int .i64 b0] #[.pointer (some ⟨D.lb, 0, none⟩), .int .u64 H, .int .i64 b0, .bool true] _ by
    obtain ⟨lsb, vs, Y, S, cl, h1, h2⟩ := hG'.kept0 hf
    exact pair_last h1 h2 (fun k hk => ⟨hP k (Nat.le_trans hf.size hk), by omega⟩) hN h64 b0)
  have hcs := fun W (hf : w.grownBy W none) => (hG.kept0 hf).cells
  have u0 := hb0.cell 0
  have u1 := hb0.cell 1
  have u2 := hb0.cell 2
  have u3 := hb0.cell 3
  have u4 := hb0.cell 4
  have u5 := hb0.cell 5
  simp at u0 u1 u2 u3 u4 u5
  clear h30 hb0 hG hG'
  go_enter Tryz.func60, Tryz.ntmps60
  go_wp2_with (first | (go_at_call 30; go_must (refine h30'.mono ?_); rintro y w1 ⟨rfl, hf1, hb1⟩; (have v0 := hb1.cell 0); simp at v0) | fail)
  have hd1 : w1.grownBy w1.drew none := gb_drew (gb_refl _ _)
  have hf1d : w.grownBy w1.drew none := gb_trans hf1 hd1
  have hb1d := hb1.kept hd1 (by simp)
  obtain ⟨er, B1, hc1, hc2⟩ := hp w1.drew hf1d hb1d.lt
  have hCC : ∀ W, Cells W wb D → Box W 28 w.heap.size #[.int .i64 5, .int .i64 a0, .int .i64 b0, .int .i64 c0v, .int .u64 h0v, .bool r0] → (W.cell? ⟨wb, 1, none⟩ = some (.pointer (some ⟨D.qb, 0, none⟩)) ∧ W.cell? ⟨wb, 3, none⟩ = some (.pointer (some ⟨D.lb, 0, none⟩)) ∧ W.cell? ⟨w.heap.size, 2, none⟩ = some (.int .i64 b0)) := fun W hc hb => ⟨hc.2.1, hc.2.2.2, hb.cell 2⟩
  have hk0 := hCC _ (hcs w1.drew hf1d) hb1d
  have hkb := fun W (hK : Kp (fun k => P k ∧ k ≠ w.heap.size) w1.drew W) => hK.box hb1d (fun h => h.2 rfl)
  clear hp hcs u0 u1 u2 u3 u4 u5
  go_region_held3 (fun W => W.cell? ⟨wb, 1, none⟩ = some (.pointer (some ⟨D.qb, 0, none⟩)) ∧ W.cell? ⟨wb, 3, none⟩ = some (.pointer (some ⟨D.lb, 0, none⟩)) ∧ W.cell? ⟨w.heap.size, 2, none⟩ = some (.int .i64 b0)) ((first | with_reducible exact hk1 | with_reducible exact hk2 | with_reducible exact hk0 | go_keep)) ((first | (go_at_call 24; with_reducible refine hc1.mono ?_; rintro y w2 ⟨rfl, hB2⟩; (obtain ⟨hkp, hce, hcall⟩ := hc2 _ _ hB2 (gb_refl _ _)); (have hk1 := hCC _ hce (hkb _ hkp))) | (go_at_call 31; with_reducible refine hcall.mono ?_; rintro y w3 ⟨rfl, hK3, hG3⟩; (have hk2 := hCC _ hG3.cells (hkb _ hK3))) | (go_at_call 16; with_reducible refine (num_any _ _).mono ?_; rintro y w' ⟨rfl, rfl⟩)))
  go_wp2
  go_ret
  exact ⟨rfl, (Kp.of hf1d).trans (hK3.less (P' := P) (fun k hk => hk.1)) (fun _ h => h) (fun k hk => .inl hk), er, hback _ _ hG3⟩

set_option maxRecDepth 100000 in
set_option maxHeartbeats 1000000 in
theorem moves_drop (hG : GT w P wb N D) (hP : ∀ k, w.heap.size ≤ k → P k) (hN : N < 300) (o : Opv) (hh : o.h < 18446744073709551616) (hd : o.d = 6) :
    Calls Tryz.prog 60 #[.pointer (some ⟨wb, 0, none⟩), .agg o.cs] w fun y w' => y = .returned (.bool true) ∧ Kp P w w' ∧ ∃ er, GM w' P wb (N + 1) D er := by
  have hal := World.grownBy_alloc w (.cells o.cs 28) none
  obtain ⟨H, h64, h30⟩ := (hG.kept0 hal).handle o hh
  have hb0 := Box.new w 28 o.cs
  have h30' := h30.mono (R' := fun y w1 => y = .returned (.int .u64 H) ∧ w.grownBy w1 none ∧ Box w1 28 w.heap.size o.cs) (by
    rintro y w1 ⟨rfl, hf⟩
    exact ⟨rfl, gb_trans hal hf, hb0.kept hf (by simp)⟩)
  have hwl := hG.hlt
  have hG' : GT w (fun k => P k ∧ k ≠ w.heap.size) wb N D := hG.less (fun k hk hp => ⟨hp, by omega⟩)
  have hback := fun W er (h : GM W (fun k => P k ∧ k ≠ w.heap.size) wb (N + 1) D er) => (h.less (P' := P) (fun k _ hp => hp.1))
  unfold Opv.cs at *
  obtain ⟨d0, a0, b0, c0v, h0v, r0⟩ := o
  dsimp only at *
  subst hd
  have hp := fun W (hf : w.grownBy W none) (hl : w.heap.size < W.heap.size) => (show Pair W (fun k => P k ∧ k ≠ w.heap.size) wb D 25 32 #[.pointer (some ⟨D.qb, 0, none⟩), .int .u64 H] #[.pointer (some ⟨D.lb, 0, none⟩), .int .u64 H] _ by
    obtain ⟨lsb, vs, Y, S, cl, h1, h2⟩ := hG'.kept0 hf
    exact pair_drop h1 h2 (fun k hk => ⟨hP k (Nat.le_trans hf.size hk), by omega⟩) hN h64)
  have hcs := fun W (hf : w.grownBy W none) => (hG.kept0 hf).cells
  have u0 := hb0.cell 0
  have u1 := hb0.cell 1
  have u2 := hb0.cell 2
  have u3 := hb0.cell 3
  have u4 := hb0.cell 4
  have u5 := hb0.cell 5
  simp at u0 u1 u2 u3 u4 u5
  clear h30 hb0 hG hG'
  go_enter Tryz.func60, Tryz.ntmps60
  go_wp2_with (first | (go_at_call 30; go_must (refine h30'.mono ?_); rintro y w1 ⟨rfl, hf1, hb1⟩; (have v0 := hb1.cell 0); simp at v0) | fail)
  have hd1 : w1.grownBy w1.drew none := gb_drew (gb_refl _ _)
  have hf1d : w.grownBy w1.drew none := gb_trans hf1 hd1
  have hb1d := hb1.kept hd1 (by simp)
  obtain ⟨er, B1, hc1, hc2⟩ := hp w1.drew hf1d hb1d.lt
  have hCC : ∀ W, Cells W wb D → Box W 28 w.heap.size #[.int .i64 6, .int .i64 a0, .int .i64 b0, .int .i64 c0v, .int .u64 h0v, .bool r0] → (W.cell? ⟨wb, 1, none⟩ = some (.pointer (some ⟨D.qb, 0, none⟩)) ∧ W.cell? ⟨wb, 3, none⟩ = some (.pointer (some ⟨D.lb, 0, none⟩)) ∧ W.cell? ⟨w.heap.size, 2, none⟩ = some (.int .i64 b0)) := fun W hc hb => ⟨hc.2.1, hc.2.2.2, hb.cell 2⟩
  have hk0 := hCC _ (hcs w1.drew hf1d) hb1d
  have hkb := fun W (hK : Kp (fun k => P k ∧ k ≠ w.heap.size) w1.drew W) => hK.box hb1d (fun h => h.2 rfl)
  clear hp hcs u0 u1 u2 u3 u4 u5
  go_region_held3 (fun W => W.cell? ⟨wb, 1, none⟩ = some (.pointer (some ⟨D.qb, 0, none⟩)) ∧ W.cell? ⟨wb, 3, none⟩ = some (.pointer (some ⟨D.lb, 0, none⟩)) ∧ W.cell? ⟨w.heap.size, 2, none⟩ = some (.int .i64 b0)) ((first | with_reducible exact hk1 | with_reducible exact hk2 | with_reducible exact hk0 | go_keep)) ((first | (go_at_call 25; with_reducible refine hc1.mono ?_; rintro y w2 ⟨rfl, hB2⟩; (obtain ⟨hkp, hce, hcall⟩ := hc2 _ _ hB2 (gb_refl _ _)); (have hk1 := hCC _ hce (hkb _ hkp))) | (go_at_call 32; with_reducible refine hcall.mono ?_; rintro y w3 ⟨rfl, hK3, hG3⟩; (have hk2 := hCC _ hG3.cells (hkb _ hK3))) | (go_at_call 16; with_reducible refine (num_any _ _).mono ?_; rintro y w' ⟨rfl, rfl⟩)))
  go_wp2
  go_ret
  exact ⟨rfl, (Kp.of hf1d).trans (hK3.less (P' := P) (fun k hk => hk.1)) (fun _ h => h) (fun k hk => .inl hk), er, hback _ _ hG3⟩

set_option maxRecDepth 100000 in
set_option maxHeartbeats 1000000 in
theorem moves_shift (hG : GT w P wb N D) (hP : ∀ k, w.heap.size ≤ k → P k) (hN : N < 300) (o : Opv) (hh : o.h < 18446744073709551616) (hd : o.d ≠ 4 ∧ o.d ≠ 5 ∧ o.d ≠ 6) :
    Calls Tryz.prog 60 #[.pointer (some ⟨wb, 0, none⟩), .agg o.cs] w fun y w' => y = .returned (.bool true) ∧ Kp P w w' ∧ ∃ er, GM w' P wb (N + 1) D er := by
  have hal := World.grownBy_alloc w (.cells o.cs 28) none
  obtain ⟨H, h64, h30⟩ := (hG.kept0 hal).handle o hh
  have hb0 := Box.new w 28 o.cs
  have h30' := h30.mono (R' := fun y w1 => y = .returned (.int .u64 H) ∧ w.grownBy w1 none ∧ Box w1 28 w.heap.size o.cs) (by
    rintro y w1 ⟨rfl, hf⟩
    exact ⟨rfl, gb_trans hal hf, hb0.kept hf (by simp)⟩)
  have hwl := hG.hlt
  have hG' : GT w (fun k => P k ∧ k ≠ w.heap.size) wb N D := hG.less (fun k hk hp => ⟨hp, by omega⟩)
  have hback := fun W er (h : GM W (fun k => P k ∧ k ≠ w.heap.size) wb (N + 1) D er) => (h.less (P' := P) (fun k _ hp => hp.1))
  unfold Opv.cs at *
  obtain ⟨d0, a0, b0, c0v, h0v, r0⟩ := o
  dsimp only at *
  have e4 : (d0 == 4) = false := by simpa using hd.1
  have e5 : (d0 == 5) = false := by simpa using hd.2.1
  have e6 : (d0 == 6) = false := by simpa using hd.2.2
  have hp := fun W (hf : w.grownBy W none) (hl : w.heap.size < W.heap.size) => (show Pair W (fun k => P k ∧ k ≠ w.heap.size) wb D 26 33 #[.pointer (some ⟨D.qb, 0, none⟩), .int .u64 H, .int .i64 b0] #[.pointer (some ⟨D.lb, 0, none⟩), .int .u64 H, .int .i64 b0] _ by
    obtain ⟨lsb, vs, Y, S, cl, h1, h2⟩ := hG'.kept0 hf
    exact pair_shift h1 h2 (fun k hk => ⟨hP k (Nat.le_trans hf.size hk), by omega⟩) hN h64 b0)
  have hcs := fun W (hf : w.grownBy W none) => (hG.kept0 hf).cells
  have u0 := hb0.cell 0
  have u1 := hb0.cell 1
  have u2 := hb0.cell 2
  have u3 := hb0.cell 3
  have u4 := hb0.cell 4
  have u5 := hb0.cell 5
  simp at u0 u1 u2 u3 u4 u5
  clear h30 hb0 hG hG'
  go_enter Tryz.func60, Tryz.ntmps60
  go_wp2_with (first | (go_at_call 30; go_must (refine h30'.mono ?_); rintro y w1 ⟨rfl, hf1, hb1⟩; (have v0 := hb1.cell 0); simp at v0) | fail)
  have hd1 : w1.grownBy w1.drew none := gb_drew (gb_refl _ _)
  have hf1d : w.grownBy w1.drew none := gb_trans hf1 hd1
  have hb1d := hb1.kept hd1 (by simp)
  obtain ⟨er, B1, hc1, hc2⟩ := hp w1.drew hf1d hb1d.lt
  have hCC : ∀ W, Cells W wb D → Box W 28 w.heap.size #[.int .i64 d0, .int .i64 a0, .int .i64 b0, .int .i64 c0v, .int .u64 h0v, .bool r0] → (W.cell? ⟨wb, 1, none⟩ = some (.pointer (some ⟨D.qb, 0, none⟩)) ∧ W.cell? ⟨wb, 3, none⟩ = some (.pointer (some ⟨D.lb, 0, none⟩)) ∧ W.cell? ⟨w.heap.size, 2, none⟩ = some (.int .i64 b0)) := fun W hc hb => ⟨hc.2.1, hc.2.2.2, hb.cell 2⟩
  have hk0 := hCC _ (hcs w1.drew hf1d) hb1d
  have hkb := fun W (hK : Kp (fun k => P k ∧ k ≠ w.heap.size) w1.drew W) => hK.box hb1d (fun h => h.2 rfl)
  clear hp hcs u0 u1 u2 u3 u4 u5
  go_region_held3 (fun W => W.cell? ⟨wb, 1, none⟩ = some (.pointer (some ⟨D.qb, 0, none⟩)) ∧ W.cell? ⟨wb, 3, none⟩ = some (.pointer (some ⟨D.lb, 0, none⟩)) ∧ W.cell? ⟨w.heap.size, 2, none⟩ = some (.int .i64 b0)) ((first | with_reducible exact hk1 | with_reducible exact hk2 | with_reducible exact hk0 | go_keep)) ((first | (go_at_call 26; with_reducible refine hc1.mono ?_; rintro y w2 ⟨rfl, hB2⟩; (obtain ⟨hkp, hce, hcall⟩ := hc2 _ _ hB2 (gb_refl _ _)); (have hk1 := hCC _ hce (hkb _ hkp))) | (go_at_call 33; with_reducible refine hcall.mono ?_; rintro y w3 ⟨rfl, hK3, hG3⟩; (have hk2 := hCC _ hG3.cells (hkb _ hK3))) | (go_at_call 16; with_reducible refine (num_any _ _).mono ?_; rintro y w' ⟨rfl, rfl⟩)))
  go_wp2
  go_ret
  exact ⟨rfl, (Kp.of hf1d).trans (hK3.less (P' := P) (fun k hk => hk.1)) (fun _ h => h) (fun k hk => .inl hk), er, hback _ _ hG3⟩

theorem moves_60 (hG : GT w P wb N D) (hP : ∀ k, w.heap.size ≤ k → P k) (hN : N < 300) (o : Opv) (hh : o.h < 18446744073709551616) :
    Calls Tryz.prog 60 #[.pointer (some ⟨wb, 0, none⟩), .agg o.cs] w fun y w' => y = .returned (.bool true) ∧ Kp P w w' ∧ ∃ er, GM w' P wb (N + 1) D er := by
  by_cases h4 : o.d = 4
  · exact moves_push hG hP hN o hh h4
  · by_cases h5 : o.d = 5
    · exact moves_last hG hP hN o hh h5
    · by_cases h6 : o.d = 6
      · exact moves_drop hG hP hN o hh h6
      · exact moves_shift hG hP hN o hh ⟨h4, h5, h6⟩
/-- Where of any handle; Give of what stands nowhere. -/
theorem give_any (hG : GT w P wb N D) (hP : ∀ k, w.heap.size ≤ k → P k) (hN : N < 300) {H : Nat} (h64 : H < 18446744073709551616) :
    (∃ j u : Nat, ∀ W, w.grownBy W none → Calls Tryz.prog 85 #[.pointer (some ⟨D.lb, 0, none⟩), .int .u64 H] W fun y w' => y = .returned (.tuple #[.int .i64 j, .int .i64 u]) ∧ W = w') ∨
    ((∀ W, w.grownBy W none → Calls Tryz.prog 85 #[.pointer (some ⟨D.lb, 0, none⟩), .int .u64 H] W fun y w' => y = .returned (.tuple #[.int .i64 (-1), .int .i64 (-1)]) ∧ W = w') ∧
      ∀ W, w.grownBy W none → Pair W P wb D 122 123 #[.pointer (some ⟨D.sb, 0, none⟩), .int .u64 H] #[.pointer (some ⟨D.lb, 0, none⟩), .int .u64 H] (fun er w' => Kp P W w' ∧ GS w' P wb (N + 1) D)) := by
  obtain ⟨lsb, vs, Y, S, cl, hW, hd⟩ := hG
  obtain ⟨bs, p, n, s, hX⟩ := hW.gx
  have hM := hW.ms
  have hl : D.xl.length ≤ 300 := by have := hW.nN; omega
  have hlt := hX.lt hl
  by_cases hin : ∃ c k, H ∈ S c k
  · obtain ⟨c, k, hm⟩ := hin
    obtain ⟨U, V, hS⟩ := List.append_of_mem hm
    obtain ⟨_, hc, hk⟩ := hlt.sub c k H hm
    refine .inl ⟨3 * c + k, U.length, fun W hf => ?_⟩
    obtain ⟨szb, szc, hD⟩ := (hM.kept0 hf).ds hX.rf hX.rn
    exact where_yes hD.rq (hd.stands hlt hc hk hS)
  · have hno : ∀ c k, H ∉ S c k := fun c k hm => hin ⟨c, k, hm⟩
    refine .inr ⟨fun W hf => ?_, fun W hf => ?_⟩
    · obtain ⟨szb, szc, hD⟩ := (hM.kept0 hf).ds hX.rf hX.rn
      exact where_no hD.rq (hd.nowhere hno)
    · exact pair_give (hW.kept0 hf) hd (fun k hk => hP k (Nat.le_trans hf.size hk)) hN h64 hno
set_option maxRecDepth 100000 in
set_option maxHeartbeats 1000000 in
theorem gives_59 (hG : GT w P wb N D) (hP : ∀ k, w.heap.size ≤ k → P k) (hN : N < 300) (o : Opv) (hh : o.h < 18446744073709551616) :
    Calls Tryz.prog 59 #[.pointer (some ⟨wb, 0, none⟩), .agg o.cs] w fun y w' => y = .returned (.bool true) ∧ Kp P w w' ∧ GS w' P wb (N + 1) D := by
  have hal := World.grownBy_alloc w (.cells o.cs 28) none
  obtain ⟨H, h64, h30⟩ := (hG.kept0 hal).handle o hh
  have hb0 := Box.new w 28 o.cs
  have h30' := h30.mono (R' := fun y w1 => y = .returned (.int .u64 H) ∧ w.grownBy w1 none) (by
    rintro y w1 ⟨rfl, hf⟩
    exact ⟨rfl, gb_trans hal hf⟩)
  have hgv := give_any hG hP hN h64
  have hcs := fun W (hf : w.grownBy W none) => (hG.kept0 hf).cells
  have hsame := fun W (hf : w.grownBy W none) => (show Kp P w W ∧ GS W P wb (N + 1) D by
    obtain ⟨lsb, vs, Y, S, cl, hW, hd⟩ := hG
    have := Hlf.still hW hd hN 0 hf
    exact ⟨this.1, this.2.gs⟩)
  unfold Opv.cs at *
  obtain ⟨d0, a0, b0, c0v, h0v, r0⟩ := o
  dsimp only at *
  clear h30 hb0 hG
  rcases hgv with ⟨j, u, hwh⟩ | ⟨hwh, hp⟩
  · have hge : (j : Int) ≥ 0 := by omega
    have hge2 : decide ((j : Int) ≥ 0) = true := decide_eq_true hge
    go_enter Tryz.func59, Tryz.ntmps59
    go_wp2_with (first | (go_at_call 30; go_must (refine h30'.mono ?_); rintro y w1 ⟨rfl, hf1⟩; (obtain ⟨_, _, _, k3⟩ := hcs w1 hf1)) | (go_at_call 85; go_must (refine (hwh _ hf1).mono ?_); rintro y w' ⟨rfl, rfl⟩) | fail)
    go_ret
    exact ⟨rfl, hsame _ hf1⟩
  · go_enter Tryz.func59, Tryz.ntmps59
    go_wp2_with (first | (go_at_call 30; go_must (refine h30'.mono ?_); rintro y w1 ⟨rfl, hf1⟩; (obtain ⟨_, _, _, k3⟩ := hcs w1 hf1)) | (go_at_call 85; go_must (refine (hwh _ hf1).mono ?_); rintro y w' ⟨rfl, rfl⟩) | fail)
    have hf1d : w.grownBy w1.drew none := gb_trans hf1 (gb_drew (gb_refl _ _))
    obtain ⟨er, B1, hc1, hc2⟩ := hp w1.drew hf1d
    obtain ⟨k0, _, _, k4'⟩ := hcs w1.drew hf1d
    have hk0 := And.intro k0 k4'
    clear hp hcs hwh
    go_region_held3 (fun W => W.cell? ⟨wb, 0, none⟩ = some (.pointer (some ⟨D.sb, 0, none⟩)) ∧ W.cell? ⟨wb, 3, none⟩ = some (.pointer (some ⟨D.lb, 0, none⟩))) ((first | with_reducible exact hk1 | with_reducible exact hk2 | with_reducible exact hk0 | go_keep)) ((first | (go_at_call 122; with_reducible refine hc1.mono ?_; rintro y w2 ⟨rfl, hB2⟩; (obtain ⟨hkp, ⟨q0, _, _, q4⟩, hcall⟩ := hc2 _ _ hB2 (gb_refl _ _)); (have hk1 := And.intro q0 q4)) | (go_at_call 123; with_reducible refine hcall.mono ?_; rintro y w3 ⟨rfl, hK3, hG3⟩; (obtain ⟨r0', _, _, r4⟩ := hG3.cells); (have hk2 := And.intro r0' r4)) | (go_at_call 16; with_reducible refine (num_any _ _).mono ?_; rintro y w' ⟨rfl, rfl⟩)))
    go_wp2
    go_ret
    exact ⟨rfl, (Kp.of hf1d).trans hK3 (fun _ h => h) (fun k hk => .inl hk), hG3⟩
end
end Go.Proofs.YtjkdflnnpdionaaGreat

import Derived.Test.YtjkdflnnpdionaaGreatQf
import Derived.Deep.RegionHeld3
/-
  moves with a fine frame; visit.
-/
namespace Go.Proofs.YtjkdflnnpdionaaGreat
open Go.RowKit
set_option linter.unusedVariables false

section
variable {w : World} {P P' : Nat → Prop} {wb N : Nat} {D : Wd} {lsb : Nat}
set_option maxRecDepth 100000 in
set_option maxHeartbeats 1000000 in
theorem moves_pushF (hG : GTf w P wb N D lsb) (hP : ∀ k, w.heap.size ≤ k → P k) (hN : N < 300) (o : Opv) (hh : o.h < 18446744073709551616) (hd : o.d = 4) :
    Calls Tryz.prog 60 #[.pointer (some ⟨wb, 0, none⟩), .agg o.cs] w fun y w' => y = .returned (.bool true) ∧ Kp P w w' ∧ Kp (FB D lsb) w w' ∧ ∃ er, GMf w' P wb (N + 1) D lsb er := by
  have hal := World.grownBy_alloc w (.cells o.cs 28) none
  obtain ⟨H, h64, h30⟩ := (hG.kept0 hal).handle o hh
  have hb0 := Box.new w 28 o.cs
  have h30' := h30.mono (R' := fun y w1 => y = .returned (.int .u64 H) ∧ w.grownBy w1 none ∧ Box w1 28 w.heap.size o.cs) (by
    rintro y w1 ⟨rfl, hf⟩
    exact ⟨rfl, gb_trans hal hf, hb0.kept hf (by simp)⟩)
  have hwl := hG.hlt
  have hG' : GTf w (fun k => P k ∧ k ≠ w.heap.size) wb N D lsb := hG.less (fun k hk hp => ⟨hp, by omega⟩)
  have hback := fun W er (h : GMf W (fun k => P k ∧ k ≠ w.heap.size) wb (N + 1) D lsb er) => (h.less (P' := P) (fun k _ hp => hp.1))
  unfold Opv.cs at *
  obtain ⟨d0, a0, b0, c0v, h0v, r0⟩ := o
  dsimp only at *
  subst hd
  have hp := fun W (hf : w.grownBy W none) (hl : w.heap.size < W.heap.size) => (show Pair W (fun k => P k ∧ k ≠ w.heap.size) wb D 23 31 #[.pointer (some ⟨D.qb, 0, none⟩), .int .u64 H, .int .i64 b0] #[.pointer (some ⟨D.lb, 0, none⟩), .int .u64 H, .int .i64 b0, .bool false] _ by
    obtain ⟨vs, Y, S, cl, h1, h2⟩ := hG'.kept0 hf
    exact pair_pushF h1 h2 (fun k hk => ⟨hP k (Nat.le_trans hf.size hk), by omega⟩) hN h64 b0)
  have hcs := fun W (hf : w.grownBy W none) => (hG.kept0 hf).cells
  have u0 := hb0.cell 0
  have u1 := hb0.cell 1
  have u2 := hb0.cell 2
  have u3 := hb0.cell 3
  have u4 := hb0.cell 4
  have u5 := hb0.cell 5
  simp at u0 u1 u2 u3 u4 u5
  clear h30 hb0 hG hG'
  go_enter Tryz.func60, Tryz.ntmps60
  go_wp2_with (first | (go_at_call 30; go_must (refine h30'.mono ?_); rintro y w1 ⟨rfl, hf1, hb1⟩; (have v0 := hb1.cell 0); simp at v0) | fail)
  have hd1 : w1.grownBy w1.drew none := gb_drew (gb_refl _ _)
  have hf1d : w.grownBy w1.drew none := gb_trans hf1 hd1
  have hb1d := hb1.kept hd1 (by simp)
  obtain ⟨er, B1, hc1, hc2⟩ := hp w1.drew hf1d hb1d.lt
  have hCC : ∀ W, Cells W wb D → Box W 28 w.heap.size #[.int .i64 4, .int .i64 a0, .int .i64 b0, .int .i64 c0v, .int .u64 h0v, .bool r0] → (W.cell? ⟨wb, 1, none⟩ = some (.pointer (some ⟨D.qb, 0, none⟩)) ∧ W.cell? ⟨wb, 3, none⟩ = some (.pointer (some ⟨D.lb, 0, none⟩)) ∧ W.cell? ⟨w.heap.size, 2, none⟩ = some (.int .i64 b0)) := fun W hc hb => ⟨hc.2.1, hc.2.2.2, hb.cell 2⟩
  have hk0 := hCC _ (hcs w1.drew hf1d) hb1d
  have hkb := fun W (hK : Kp (fun k => P k ∧ k ≠ w.heap.size) w1.drew W) => hK.box hb1d (fun h => h.2 rfl)
  clear hp hcs u0 u1 u2 u3 u4 u5
  go_region_held3 (fun W => W.cell? ⟨wb, 1, none⟩ = some (.pointer (some ⟨D.qb, 0, none⟩)) ∧ W.cell? ⟨wb, 3, none⟩ = some (.pointer (some ⟨D.lb, 0, none⟩)) ∧ W.cell? ⟨w.heap.size, 2, none⟩ = some (.int .i64 b0)) ((first | with_reducible exact hk1 | with_reducible exact hk2 | with_reducible exact hk0 | go_keep)) ((first | (go_at_call 23; with_reducible refine hc1.mono ?_; rintro y w2 ⟨rfl, hB2⟩; (obtain ⟨hkp, hce, hcall⟩ := hc2 _ _ hB2 (gb_refl _ _)); (have hk1 := hCC _ hce (hkb _ hkp))) | (go_at_call 31; with_reducible refine hcall.mono ?_; rintro y w3 ⟨rfl, hK3, hKF, hG3⟩; (have hk2 := hCC _ hG3.cells (hkb _ hK3))) | (go_at_call 16; with_reducible refine (num_any _ _).mono ?_; rintro y w' ⟨rfl, rfl⟩)))
  go_wp2
  go_ret
  exact ⟨rfl, (Kp.of hf1d).trans (hK3.less (P' := P) (fun k hk => hk.1)) (fun _ h => h) (fun k hk => .inl hk), (Kp.of hf1d).trans hKF (fun _ h => h) (fun k hk => .inl hk), er, hback _ _ hG3⟩
set_option maxRecDepth 100000 in
set_option maxHeartbeats 1000000 in
theorem moves_lastF (hG : GTf w P wb N D lsb) (hP : ∀ k, w.heap.size ≤ k → P k) (hN : N < 300) (o : Opv) (hh : o.h < 18446744073709551616) (hd : o.d = 5) :
    Calls Tryz.prog 60 #[.pointer (some ⟨wb, 0, none⟩), .agg o.cs] w fun y w' => y = .returned (.bool true) ∧ Kp P w w' ∧ Kp (FB D lsb) w w' ∧ ∃ er, GMf w' P wb (N + 1) D lsb er := by
  have hal := World.grownBy_alloc w (.cells o.cs 28) none
  obtain ⟨H, h64, h30⟩ := (hG.kept0 hal).handle o hh
  have hb0 := Box.new w 28 o.cs
  have h30' := h30.mono (R' := fun y w1 => y = .returned (.int .u64 H) ∧ w.grownBy w1 none ∧ Box w1 28 w.heap.size o.cs) (by
    rintro y w1 ⟨rfl, hf⟩
    exact ⟨rfl, gb_trans hal hf, hb0.kept hf (by simp)⟩)
  have hwl := hG.hlt
  have hG' : GTf w (fun k => P k ∧ k ≠ w.heap.size) wb N D lsb := hG.less (fun k hk hp => ⟨hp, by omega⟩)
  have hback := fun W er (h : GMf W (fun k => P k ∧ k ≠ w.heap.size) wb (N + 1) D lsb er) => (h.less (P' := P) (fun k _ hp => hp.1))
  unfold Opv.cs at *
  obtain ⟨d0, a0, b0, c0v, h0v, r0⟩ := o
  dsimp only at *
  subst hd
  have hp := fun W (hf : w.grownBy W none) (hl : w.heap.size < W.heap.size) => (show Pair W (fun k => P k ∧ k ≠ w.heap.size) wb D 24 31 #[.pointer (some ⟨D.qb, 0, none⟩), .int .u64 H, .int .i64 b0] #[.pointer (some ⟨D.lb, 0, none⟩), .int .u64 H, .int .i64 b0, .bool true] _ by
    obtain ⟨vs, Y, S, cl, h1, h2⟩ := hG'.kept0 hf
    exact pair_lastF h1 h2 (fun k hk => ⟨hP k (Nat.le_trans hf.size hk), by omega⟩) hN h64 b0)
  have hcs := fun W (hf : w.grownBy W none) => (hG.kept0 hf).cells
  have u0 := hb0.cell 0
  have u1 := hb0.cell 1
  have u2 := hb0.cell 2
  have u3 := hb0.cell 3
  have u4 := hb0.cell 4
  have u5 := hb0.cell 5
  simp at u0 u1 u2 u3 u4 u5
  clear h30 hb0 hG hG'
  go_enter Tryz.func60, Tryz.ntmps60
  go_wp2_with (first | (go_at_call 30; go_must (refine h30'.mono ?_); rintro y w1 ⟨rfl, hf1, hb1⟩; (have v0 := hb1.cell 0); simp at v0) | fail)
  have hd1 : w1.grownBy w1.drew none := gb_drew (gb_refl _ _)
  have hf1d : w.grownBy w1.drew none := gb_trans hf1 hd1
  have hb1d := hb1.kept hd1 (by simp)
  obtain ⟨er, B1, hc1, hc2⟩ := hp w1.drew hf1d hb1d.lt
  have hCC : ∀ W, Cells W wb D → Box W 28 w.heap.size #[.int .i64 5, .int .i64 a0, .int .i64 b0, .int .i64 c0v, .int .u64 h0v, .bool r0] → (W.cell? ⟨wb, 1, none⟩ = some (.pointer (some ⟨D.qb, 0, none⟩)) ∧ W.cell? ⟨wb, 3, none⟩ = some (.pointer (some ⟨D.lb, 0, none⟩)) ∧ W.cell? ⟨w.heap.size, 2, none⟩ = some (.int .i64 b0)) := fun W hc hb => ⟨hc.2.1, hc.2.2.2, hb.cell 2⟩
  have hk0 := hCC _ (hcs w1.drew hf1d) hb1d
  have hkb := fun W (hK : Kp (fun k => P k ∧ k ≠ w.heap.size) w1.drew W) => hK.box hb1d (fun h => h.2 rfl)
  clear hp hcs u0 u1 u2 u3 u4 u5
  go_region_held3 (fun W => W.cell? ⟨wb, 1, none⟩ = some (.pointer (some ⟨D.qb, 0, none⟩)) ∧ W.cell? ⟨wb, 3, none⟩ = some (.pointer (some ⟨D.lb, 0, none⟩)) ∧ W.cell? ⟨w.heap.size, 2, none⟩ = some (.int .i64 b0)) ((first | with_reducible exact hk1 | with_reducible exact hk2 | with_reducible exact hk0 | go_keep)) ((first | (go_at_call 24; with_reducible refine hc1.mono ?_; rintro y w2 ⟨rfl, hB2⟩; (obtain ⟨hkp, hce, hcall⟩ := hc2 _ _ hB2 (gb_refl _ _)); (have hk1 := hCC _ hce (hkb _ hkp))) | (go_at_call 31; with_reducible refine hcall.mono ?_; rintro y w3 ⟨rfl, hK3, hKF, hG3⟩; (have hk2 := hCC _ hG3.cells (hkb _ hK3))) | (go_at_call 16; with_reducible refine (num_any _ _).mono ?_; rintro y w' ⟨rfl, rfl⟩)))
  go_wp2
  go_ret
  exact ⟨rfl, (Kp.of hf1d).trans (hK3.less (P' := P) (fun k hk => hk.1)) (fun _ h => h) (fun k hk => .inl hk), (Kp.of hf1d).trans hKF (fun _ h => h) (fun k hk => .inl hk), er, hback _ _ hG3⟩
set_option maxRecDepth 100000 in
set_option maxHeartbeats 1000000 in
theorem moves_dropF (hG : GTf w P wb N D lsb) (hP : ∀ k, w.heap.size ≤ k → P k) (hN : N < 300) (o : Opv) (hh : o.h < 18446744073709551616) (hd : o.d = 6) :
    Calls Tryz.prog 60 #[.pointer (some ⟨wb, 0, none⟩), .agg o.cs] w fun y w' => y = .returned (.bool true) ∧ Kp P w w' ∧ Kp (FB D lsb) w w' ∧ ∃ er, GMf w' P wb (N + 1) D lsb er := by
  have hal := World.grownBy_alloc w (.cells o.cs 28) none
  obtain ⟨H, h64, h30⟩ := (hG.kept0 hal).handle o hh
  have hb0 := Box.new w 28 o.cs
  have h30' := h30.mono (R' := fun y w1 => y = .returned (.int .u64 H) ∧ w.grownBy w1 none ∧ Box w1 28 w.heap.size o.cs) (by
    rintro y w1 ⟨rfl, hf⟩
    exact ⟨rfl, gb_trans hal hf, hb0.kept hf (by simp)⟩)
  have hwl := hG.hlt
  have hG' : GTf w (fun k => P k ∧ k ≠ w.heap.size) wb N D lsb := hG.less (fun k hk hp => ⟨hp, by omega⟩)
  have hback := fun W er (h : GMf W (fun k => P k ∧ k ≠ w.heap.size) wb (N + 1) D lsb er) => (h.less (P' := P) (fun k _ hp => hp.1))
  unfold Opv.cs at *
  obtain ⟨d0, a0, b0, c0v, h0v, r0⟩ := o
  dsimp only at *
  subst hd
  have hp := fun W (hf : w.grownBy W none) (hl : w.heap.size < W.heap.size) => (show Pair W (fun k => P k ∧ k ≠ w.heap.size) wb D 25 32 #[.pointer (some ⟨D.qb, 0, none⟩), .int .u64 H] #[.pointer (some ⟨D.lb, 0, none⟩), .int .u64 H] _ by
    obtain ⟨vs, Y, S, cl, h1, h2⟩ := hG'.kept0 hf
    exact pair_dropF h1 h2 (fun k hk => ⟨hP k (Nat.le_trans hf.size hk), by omega⟩) hN h64)
  have hcs := fun W (hf : w.grownBy W none) => (hG.kept0 hf).cells
  have u0 := hb0.cell 0
  have u1 := hb0.cell 1
  have u2 := hb0.cell 2
  have u3 := hb0.cell 3
  have u4 := hb0.cell 4
  have u5 := hb0.cell 5
  simp at u0 u1 u2 u3 u4 u5
  clear h30 hb0 hG hG'
  go_enter Tryz.func60, Tryz.ntmps60
  go_wp2_with (first | (go_at_call 30; go_must (refine h30'.mono ?_); rintro y w1 ⟨rfl, hf1, hb1⟩; (have v0 := hb1.cell 0); simp at v0) | fail)
  have hd1 : w1.grownBy w1.drew none := gb_drew (gb_refl _ _)
  have hf1d : w.grownBy w1.drew none := gb_trans hf1 hd1
  have hb1d := hb1.kept hd1 (by simp)
  obtain ⟨er, B1, hc1, hc2⟩ := hp w1.drew hf1d hb1d.lt
  have hCC : ∀ W, Cells W wb D → Box W 28 w.heap.size #[.int .i64 6, .int .i64 a0, .int .i64 b0, .int .i64 c0v, .int .u64 h0v, .bool r0] → (W.cell? ⟨wb, 1, none⟩ = some (.pointer (some ⟨D.qb, 0, none⟩)) ∧ W.cell? ⟨wb, 3, none⟩ = some (.pointer (some ⟨D.lb, 0, none⟩)) ∧ W.cell? ⟨w.heap.size, 2, none⟩ = some (.int .i64 b0)) := fun W hc hb => ⟨hc.2.1, hc.2.2.2, hb.cell 2⟩
  have hk0 := hCC _ (hcs w1.drew hf1d) hb1d
  have hkb := fun W (hK : Kp (fun k => P k ∧ k ≠ w.heap.size) w1.drew W) => hK.box hb1d (fun h => h.2 rfl)
  clear hp hcs u0 u1 u2 u3 u4 u5
  go_region_held3 (fun W => W.cell? ⟨wb, 1, none⟩ = some (.pointer (some ⟨D.qb, 0, none⟩)) ∧ W.cell? ⟨wb, 3, none⟩ = some (.pointer (some ⟨D.lb, 0, none⟩)) ∧ W.cell? ⟨w.heap.size, 2, none⟩ = some (.int .i64 b0)) ((first | with_reducible exact hk1 | with_reducible exact hk2 | with_reducible exact hk0 | go_keep)) ((first | (go_at_call 25; with_reducible refine hc1.mono ?_; rintro y w2 ⟨rfl, hB2⟩; (obtain ⟨hkp, hce, hcall⟩ := hc2 _ _ hB2 (gb_refl _ _)); (have hk1 := hCC _ hce (hkb _ hkp))) | (go_at_call 32; with_reducible refine hcall.mono ?_; rintro y w3 ⟨rfl, hK3, hKF, hG3⟩; (have hk2 := hCC _ hG3.cells (hkb _ hK3))) | (go_at_call 16; with_reducible refine (num_any _ _).mono ?_; rintro y w' ⟨rfl, rfl⟩)))
  go_wp2
  go_ret
  exact ⟨rfl, (Kp.of hf1d).trans (hK3.less (P' := P) (fun k hk => hk.1)) (fun _ h => h) (fun k hk => .inl hk), (Kp.of hf1d).trans hKF (fun _ h => h) (fun k hk => .inl hk), er, hback _ _ hG3⟩
set_option maxRecDepth 100000 in
set_option maxHeartbeats 1000000 in
theorem moves_shiftF (hG : GTf w P wb N D lsb) (hP : ∀ k, w.heap.size ≤ k → P k) (hN : N < 300) (o : Opv) (hh : o.h < 18446744073709551616) (hd : o.d ≠ 4 ∧ o.d ≠ 5 ∧ o.d ≠ 6) :
    Calls Tryz.prog 60 #[.pointer (some ⟨wb, 0, none⟩), .agg o.cs] w fun y w' => y = .returned (.bool true) ∧ Kp P w w' ∧ Kp (FB D lsb) w w' ∧ ∃ er, GMf w' P wb (N + 1) D lsb er := by
  have hal := World.grownBy_alloc w (.cells o.cs 28) none
  obtain ⟨H, h64, h30⟩ := (hG.kept0 hal).handle o hh
  have hb0 := Box.new w 28 o.cs
  have h30' := h30.mono (R' := fun y w1 => y = .returned (.int .u64 H) ∧ w.grownBy w1 none ∧ Box w1 28 w.heap.size o.cs) (by
    rintro y w1 ⟨rfl, hf⟩
    exact ⟨rfl, gb_trans hal hf, hb0.kept hf (by simp)⟩)
  have hwl := hG.hlt
  have hG' : GTf w (fun k => P k ∧ k ≠ w.heap.size) wb N D lsb := hG.less (fun k hk hp => ⟨hp, by omega⟩)
  have hback := fun W er (h : GMf W (fun k => P k ∧ k ≠ w.heap.size) wb (N + 1) D lsb er) => (h.less (P' := P) (fun k _ hp => hp.1))
  unfold Opv.cs at *
  obtain ⟨d0, a0, b0, c0v, h0v, r0⟩ := o
  dsimp only at *
  have e4 : (d0 == 4) = false := by simpa using hd.1
  have e5 : (d0 == 5) = false := by simpa using hd.2.1
  have e6 : (d0 == 6) = false := by simpa using hd.2.2
  have hp := fun W (hf : w.grownBy W none) (hl : w.heap.size < W.heap.size) => (show Pair W (fun k => P k ∧ k ≠ w.heap.size) wb D 26 33 #[.pointer (some ⟨D.qb, 0, none⟩), .int .u64 H, .int .i64 b0] #[.pointer (some ⟨D.lb, 0, none⟩), .int .u64 H, .int .i64 b0] _ by
    obtain ⟨vs, Y, S, cl, h1, h2⟩ := hG'.kept0 hf
    exact pair_shiftF h1 h2 (fun k hk => ⟨hP k (Nat.le_trans hf.size hk), by omega⟩) hN h64 b0)
  have hcs := fun W (hf : w.grownBy W none) => (hG.kept0 hf).cells
  have u0 := hb0.cell 0
  have u1 := hb0.cell 1
  have u2 := hb0.cell 2
  have u3 := hb0.cell 3
  have u4 := hb0.cell 4
  have u5 := hb0.cell 5
  simp at u0 u1 u2 u3 u4 u5
  clear h30 hb0 hG hG'
  go_enter Tryz.func60, Tryz.ntmps60
  go_wp2_with (first | (go_at_call 30; go_must (refine h30'.mono ?_); rintro y w1 ⟨rfl, hf1, hb1⟩; (have v0 := hb1.cell 0); simp at v0) | fail)
  have hd1 : w1.grownBy w1.drew none := gb_drew (gb_refl _ _)
  have hf1d : w.grownBy w1.drew none := gb_trans hf1 hd1
  have hb1d := hb1.kept hd1 (by simp)
  obtain ⟨er, B1, hc1, hc2⟩ := hp w1.drew hf1d hb1d.lt
  have hCC : ∀ W, Cells W wb D → Box W 28 w.heap.size #[.int .i64 d0, .int .i64 a0, .int .i64 b0, .int .i64 c0v, .int .u64 h0v, .bool r0] → (W.cell? ⟨wb, 1, none⟩ = some (.pointer (some ⟨D.qb, 0, none⟩)) ∧ W.cell? ⟨wb, 3, none⟩ = some (.pointer (some ⟨D.lb, 0, none⟩)) ∧ W.cell? ⟨w.heap.size, 2, none⟩ = some (.int .i64 b0)) := fun W hc hb => ⟨hc.2.1, hc.2.2.2, hb.cell 2⟩
  have hk0 := hCC _ (hcs w1.drew hf1d) hb1d
  have hkb := fun W (hK : Kp (fun k => P k ∧ k ≠ w.heap.size) w1.drew W) => hK.box hb1d (fun h => h.2 rfl)
  clear hp hcs u0 u1 u2 u3 u4 u5
  go_region_held3 (fun W => W.cell? ⟨wb, 1, none⟩ = some (.pointer (some ⟨D.qb, 0, none⟩)) ∧ W.cell? ⟨wb, 3, none⟩ = some (.pointer (some ⟨D.lb, 0, none⟩)) ∧ W.cell? ⟨w.heap.size, 2, none⟩ = some (.int .i64 b0)) ((first | with_reducible exact hk1 | with_reducible exact hk2 | with_reducible exact hk0 | go_keep)) ((first | (go_at_call 26; with_reducible refine hc1.mono ?_; rintro y w2 ⟨rfl, hB2⟩; (obtain ⟨hkp, hce, hcall⟩ := hc2 _ _ hB2 (gb_refl _ _)); (have hk1 := hCC _ hce (hkb _ hkp))) | (go_at_call 33; with_reducible refine hcall.mono ?_; rintro y w3 ⟨rfl, hK3, hKF, hG3⟩; (have hk2 := hCC _ hG3.cells (hkb _ hK3))) | (go_at_call 16; with_reducible refine (num_any _ _).mono ?_; rintro y w' ⟨rfl, rfl⟩)))
  go_wp2
  go_ret
  exact ⟨rfl, (Kp.of hf1d).trans (hK3.less (P' := P) (fun k hk => hk.1)) (fun _ h => h) (fun k hk => .inl hk), (Kp.of hf1d).trans hKF (fun _ h => h) (fun k hk => .inl hk), er, hback _ _ hG3⟩
set_option maxRecDepth 100000 in
set_option maxHeartbeats 1000000 in
theorem moves_60F (hG : GTf w P wb N D lsb) (hP : ∀ k, w.heap.size ≤ k → P k) (hN : N < 300) (o : Opv) (hh : o.h < 18446744073709551616) :
    Calls Tryz.prog 60 #[.pointer (some ⟨wb, 0, none⟩), .agg o.cs] w fun y w' => y = .returned (.bool true) ∧ Kp P w w' ∧ Kp (FB D lsb) w w' ∧ ∃ er, GMf w' P wb (N + 1) D lsb er := by
  by_cases h4 : o.d = 4
  · exact moves_pushF hG hP hN o hh h4
  · by_cases h5 : o.d = 5
    · exact moves_lastF hG hP hN o hh h5
    · by_cases h6 : o.d = 6
      · exact moves_dropF hG hP hN o hh h6
      · exact moves_shiftF hG hP hN o hh ⟨h4, h5, h6⟩
end
end Go.Proofs.YtjkdflnnpdionaaGreat

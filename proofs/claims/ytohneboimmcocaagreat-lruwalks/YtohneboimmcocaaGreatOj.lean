import Derived.Test.YtohneboimmcocaaGreatOi
/-
  moves: Shift, Balance, Give, what else there is.
-/
namespace Go.Proofs.YtohneboimmcocaaGreat
open Go.RowKit
set_option linter.unusedVariables false

section
variable {w : World} {P P' : Nat → Prop} {wb N : Nat} {hot warm : Nat} {D0 : Wd}
theorem GS.hlt (h : GS w P wb N hot warm D0) : wb < w.heap.size := by
  obtain ⟨D, lsb, vs, Y, S, cl, hp, hG⟩ := h
  exact hG.ms.ms.box.lt
/-- What lies apart from the World is kept. -/
theorem Kp.cells1 {w w' : World} {b : Nat} {t : TypeId} {cs : Array Value} (hK : Kp P w w') (hb : Box w t b cs) (hn : ¬ P b) : Box w' t b cs := hK.box hb hn

set_option maxRecDepth 100000 in
set_option maxHeartbeats 1000000 in
theorem moves_shift (hG : GS w P wb N hot warm D0) (hP : ∀ k, w.heap.size ≤ k → P k) (hN : N < 300) (o : Opv) (ho : o.Ok) (hd : o.d = 10) :
    Calls Tryz.prog 15 #[.pointer (some ⟨wb, 0, none⟩), .agg o.cs] w fun y w' => y = .returned (.bool true) ∧ Kp P w w' ∧ GS w' P wb (N + 1) hot warm D0 := by
  have hal := World.grownBy_alloc w (.cells o.cs 29) none
  obtain ⟨H, h64, h14⟩ := handle_14 (hG.kept0 hal) o ho
  have hb0 := Box.new w 29 o.cs
  have h14' := h14.mono (R' := fun y w1 => y = .returned (.int .u64 H) ∧ w.grownBy w1 none ∧ Box w1 29 w.heap.size o.cs) (by
    rintro y w1 ⟨rfl, hf⟩
    exact ⟨rfl, gb_trans hal hf, hb0.kept hf (by simp)⟩)
  have hG' : GS w (fun k => P k ∧ k ≠ w.heap.size) wb N hot warm D0 := hG.less (fun k hk hp => ⟨hp, by omega⟩)
  have hback := fun W (h : GS W (fun k => P k ∧ k ≠ w.heap.size) wb (N + 1) hot warm D0) => (h.less (P' := P) (fun k _ hp => hp.1))
  obtain ⟨hoh, hob⟩ := ho
  unfold Opv.cs at *
  obtain ⟨d0, a0, b0, c0v, h0v, r0⟩ := o
  dsimp only at *
  subst hd
  have hp := fun W (hf : w.grownBy W none) (hl : w.heap.size < W.heap.size) => pair_shift (hG'.kept0 hf) (fun k hk => ⟨hP k (Nat.le_trans hf.size hk), by omega⟩) hN h64 b0
  have hcs := fun W (hf : w.grownBy W none) => (hG.kept0 hf).cells
  have u0 := hb0.cell 0
  have u1 := hb0.cell 1
  have u2 := hb0.cell 2
  have u3 := hb0.cell 3
  have u4 := hb0.cell 4
  have u5 := hb0.cell 5
  simp at u0 u1 u2 u3 u4 u5
  clear h14 hb0 hG hG'
  go_enter Tryz.func15, Tryz.ntmps15
  go_wp2_with (first | (go_at_call 14; go_must (refine h14'.mono ?_); rintro y w1 ⟨rfl, hf1, hb1⟩; (have v0 := hb1.cell 0); simp at v0) | fail)
  have hd1 : w1.grownBy w1.drew none := gb_drew (gb_refl _ _)
  have hf1d : w.grownBy w1.drew none := gb_trans hf1 hd1
  have hb1d := hb1.kept hd1 (by simp)
  obtain ⟨er, B1, hc1, hc2⟩ := hp w1.drew hf1d hb1d.lt
  have hCC : ∀ W, Cells W wb D0 → Box W 29 w.heap.size #[.int .i64 10, .int .i64 a0, .int .i64 b0, .int .i64 c0v, .int .u64 h0v, .bool r0] → (W.cell? ⟨wb, 1, none⟩ = some (.pointer (some ⟨D0.qb, 0, none⟩)) ∧ W.cell? ⟨wb, 4, none⟩ = some (.pointer (some ⟨D0.lb, 0, none⟩)) ∧ W.cell? ⟨w.heap.size, 2, none⟩ = some (.int .i64 b0)) := fun W hc hb => ⟨hc.2.1, hc.2.2.2.2.1, hb.cell 2⟩
  have hk0 := hCC _ (hcs w1.drew hf1d) hb1d
  have hkb := fun W (hK : Kp (fun k => P k ∧ k ≠ w.heap.size) w1.drew W) => hK.box hb1d (fun h => h.2 rfl)
  clear hp hcs u0 u1 u2 u3 u4 u5
  go_region_held3 (fun W => W.cell? ⟨wb, 1, none⟩ = some (.pointer (some ⟨D0.qb, 0, none⟩)) ∧ W.cell? ⟨wb, 4, none⟩ = some (.pointer (some ⟨D0.lb, 0, none⟩)) ∧ W.cell? ⟨w.heap.size, 2, none⟩ = some (.int .i64 b0)) ((first | with_reducible exact hk1 | with_reducible exact hk2 | with_reducible exact hk0 | go_keep)) ((first | (go_at_call 56; with_reducible refine hc1.mono ?_; rintro y w2 ⟨rfl, hB2⟩; (obtain ⟨hkp, hce, hcall⟩ := hc2 _ _ hB2 (gb_refl _ _)); (have hk1 := hCC _ hce (hkb _ hkp))) | (go_at_call 57; with_reducible refine hcall.mono ?_; rintro y w3 ⟨rfl, hK3, hG3⟩; (have hk2 := hCC _ hG3.cells (hkb _ hK3))) | (go_at_call 26; with_reducible refine (num_any _ _).mono ?_; rintro y w' ⟨rfl, rfl⟩)))
  go_wp2
  go_ret
  exact ⟨rfl, (Kp.of hf1d).trans (hK3.less (P' := P) (fun k hk => hk.1)) (fun _ h => h) (fun k hk => .inl hk), hback _ hG3⟩

set_option maxRecDepth 100000 in
set_option maxHeartbeats 1000000 in
theorem moves_balance (hG : GS w P wb N hot warm D0) (hP : ∀ k, w.heap.size ≤ k → P k) (hN : N < 300) (hsh : hot ≤ 100) (hsw : warm ≤ 100) (o : Opv) (ho : o.Ok) (hd : o.d = 7) :
    Calls Tryz.prog 15 #[.pointer (some ⟨wb, 0, none⟩), .agg o.cs] w fun y w' => y = .returned (.bool true) ∧ Kp P w w' ∧ GS w' P wb (N + 1) hot warm D0 := by
  have hal := World.grownBy_alloc w (.cells o.cs 29) none
  obtain ⟨H, h64, h14⟩ := handle_14 (hG.kept0 hal) o ho
  have hb0 := Box.new w 29 o.cs
  have h14' := h14.mono (R' := fun y w1 => y = .returned (.int .u64 H) ∧ w.grownBy w1 none ∧ Box w1 29 w.heap.size o.cs) (by
    rintro y w1 ⟨rfl, hf⟩
    exact ⟨rfl, gb_trans hal hf, hb0.kept hf (by simp)⟩)
  have hG' : GS w (fun k => P k ∧ k ≠ w.heap.size) wb N hot warm D0 := hG.less (fun k hk hp => ⟨hp, by omega⟩)
  have hback := fun W (h : GS W (fun k => P k ∧ k ≠ w.heap.size) wb (N + 1) hot warm D0) => (h.less (P' := P) (fun k _ hp => hp.1))
  obtain ⟨hoh, hob⟩ := ho
  unfold Opv.cs at *
  obtain ⟨d0, a0, b0, c0v, h0v, r0⟩ := o
  dsimp only at *
  subst hd
  have hp := fun W (hf : w.grownBy W none) (hl : w.heap.size < W.heap.size) => pair_balance (hG'.kept0 hf) (fun k hk => ⟨hP k (Nat.le_trans hf.size hk), by omega⟩) hN hsh hsw c0v b0 hob
  have hbd := fun W => bounded_22 b0 W
  have hcs := fun W (hf : w.grownBy W none) => (hG.kept0 hf).cells
  have u0 := hb0.cell 0
  have u1 := hb0.cell 1
  have u2 := hb0.cell 2
  have u3 := hb0.cell 3
  have u4 := hb0.cell 4
  have u5 := hb0.cell 5
  simp at u0 u1 u2 u3 u4 u5
  generalize (if b0 > 2000 then 2000 else b0) = b2 at *
  clear h14 hb0 hG hG'
  go_enter Tryz.func15, Tryz.ntmps15
  go_wp2_with (first | (go_at_call 14; go_must (refine h14'.mono ?_); rintro y w1 ⟨rfl, hf1, hb1⟩; (have v0 := hb1.cell 0); simp at v0) | fail)
  have hd1 : w1.grownBy w1.drew none := gb_drew (gb_refl _ _)
  have hf1d : w.grownBy w1.drew none := gb_trans hf1 hd1
  have hb1d := hb1.kept hd1 (by simp)
  obtain ⟨nb, B1, hc1, hc2⟩ := hp w1.drew hf1d hb1d.lt
  have hCC : ∀ W, Cells W wb D0 → Box W 29 w.heap.size #[.int .i64 7, .int .i64 a0, .int .i64 b0, .int .i64 c0v, .int .u64 h0v, .bool r0] → (W.cell? ⟨wb, 2, none⟩ = some (.pointer (some ⟨D0.xb, 0, none⟩)) ∧ W.cell? ⟨wb, 5, none⟩ = some (.pointer (some ⟨D0.mb, 0, none⟩)) ∧ W.cell? ⟨w.heap.size, 2, none⟩ = some (.int .i64 b0) ∧ W.cell? ⟨w.heap.size, 3, none⟩ = some (.int .i64 c0v)) := fun W hc hb => ⟨hc.2.2.1, hc.2.2.2.2.2, hb.cell 2, hb.cell 3⟩
  have hk0 := hCC _ (hcs w1.drew hf1d) hb1d
  have hkb := fun W (hK : Kp (fun k => P k ∧ k ≠ w.heap.size) w1.drew W) => hK.box hb1d (fun h => h.2 rfl)
  clear hp hcs u0 u1 u2 u3 u4 u5
  go_region_held3 (fun W => W.cell? ⟨wb, 2, none⟩ = some (.pointer (some ⟨D0.xb, 0, none⟩)) ∧ W.cell? ⟨wb, 5, none⟩ = some (.pointer (some ⟨D0.mb, 0, none⟩)) ∧ W.cell? ⟨w.heap.size, 2, none⟩ = some (.int .i64 b0) ∧ W.cell? ⟨w.heap.size, 3, none⟩ = some (.int .i64 c0v)) ((first | with_reducible exact hk1 | with_reducible exact hk2 | with_reducible exact hk0 | go_keep)) ((first | (go_at_call 18; with_reducible refine hc1.mono ?_; rintro y w2 ⟨rfl, hB2⟩; (obtain ⟨hkp, hce, hcall⟩ := hc2 _ _ hB2 (gb_refl _ _)); (have hk1 := hCC _ hce (hkb _ hkp))) | (go_at_call 21; with_reducible refine hcall.mono ?_; rintro y w3 ⟨⟨ao, cp, rfl⟩, hK3, hG3⟩; (have hk2 := hCC _ hG3.cells (hkb _ hK3))) | (go_at_call 22; with_reducible refine (hbd _).mono ?_; rintro y w' ⟨rfl, rfl⟩)))
  go_wp2
  go_ret
  exact ⟨rfl, (Kp.of hf1d).trans (hK3.less (P' := P) (fun k hk => hk.1)) (fun _ h => h) (fun k hk => .inl hk), hback _ hG3⟩
end
end Go.Proofs.YtohneboimmcocaaGreat
/-
  moves: Give, makes, what else there is.
-/
namespace Go.Proofs.YtohneboimmcocaaGreat
open Go.RowKit
set_option linter.unusedVariables false

section
variable {w : World} {P P' : Nat → Prop} {wb N : Nat} {hot warm : Nat} {D0 : Wd}
/-- Where, and Give of what stands nowhere. -/
theorem give_any (hG : GS w P wb N hot warm D0) (hP : ∀ k, w.heap.size ≤ k → P k) (hN : N < 300) {H : Nat} (h64 : H < 18446744073709551616) :
    (∃ j u : Nat, ∀ W, w.grownBy W none → Calls Tryz.prog 50 #[.pointer (some ⟨D0.lb, 0, none⟩), .int .u64 H] W fun y w' => y = .returned (.tuple #[.int .i64 j, .int .i64 u]) ∧ W = w') ∨
    ((∀ W, w.grownBy W none → Calls Tryz.prog 50 #[.pointer (some ⟨D0.lb, 0, none⟩), .int .u64 H] W fun y w' => y = .returned (.tuple #[.int .i64 (-1), .int .i64 (-1)]) ∧ W = w') ∧ ∀ W, w.grownBy W none → Pair W P wb D0 51 52 #[.pointer (some ⟨D0.sb, 0, none⟩), .int .u64 H] #[.pointer (some ⟨D0.lb, 0, none⟩), .int .u64 H] (fun w' => Kp P W w' ∧ GS w' P wb (N + 1) hot warm D0)) := by
  obtain ⟨D, lsb, vs, Y, S, cl, hs, hW⟩ := hG
  obtain ⟨bs, p, n, s, hX⟩ := hW.gx
  have hM := hW.ms
  have hlt := hX.lt (by have := hW.nN; omega)
  by_cases hst : ∃ c k, H ∈ S.X c k
  · obtain ⟨c, k, hm⟩ := hst
    obtain ⟨_, hc, hk⟩ := hlt.sub _ _ _ hm
    obtain ⟨U, V, hXk⟩ := List.append_of_mem hm
    refine .inl ⟨3 * c + k, U.length, fun W hf => ?_⟩
    obtain ⟨szb, szc, hD⟩ := (hM.kept0 hf).ds hX.rf hX.rn
    rw [← hs.2.2.2.2.1]
    exact where_yes hD.rq (hW.dm.stands hlt hc hk hXk)
  · have hno : ∀ c k, H ∉ S.X c k := fun c k hm => hst ⟨c, k, hm⟩
    refine .inr ⟨fun W hf => ?_, fun W hf => ?_⟩
    · obtain ⟨szb, szc, hD⟩ := (hM.kept0 hf).ds hX.rf hX.rn
      rw [← hs.2.2.2.2.1]
      exact where_no hD.rq (hW.dm.nowhere hno)
    · exact pair_give (hW.kept0 hf) hs (fun k hk => hP k (Nat.le_trans hf.size hk)) hN h64 hno

set_option maxRecDepth 100000 in
set_option maxHeartbeats 1000000 in
theorem moves_give (hG : GS w P wb N hot warm D0) (hP : ∀ k, w.heap.size ≤ k → P k) (hN : N < 300) (o : Opv) (ho : o.Ok) (hd : o.d = 3) :
    Calls Tryz.prog 15 #[.pointer (some ⟨wb, 0, none⟩), .agg o.cs] w fun y w' => y = .returned (.bool true) ∧ Kp P w w' ∧ GS w' P wb (N + 1) hot warm D0 := by
  have hal := World.grownBy_alloc w (.cells o.cs 29) none
  obtain ⟨H, h64, h14⟩ := handle_14 (hG.kept0 hal) o ho
  have hb0 := Box.new w 29 o.cs
  have h14' := h14.mono (R' := fun y w1 => y = .returned (.int .u64 H) ∧ w.grownBy w1 none ∧ Box w1 29 w.heap.size o.cs) (by
    rintro y w1 ⟨rfl, hf⟩
    exact ⟨rfl, gb_trans hal hf, hb0.kept hf (by simp)⟩)
  have hgv := give_any hG hP hN h64
  have hcs := fun W (hf : w.grownBy W none) => (hG.kept0 hf).cells
  have hsame := fun W (hf : w.grownBy W none) => (show Kp P w W ∧ GS W P wb (N + 1) hot warm D0 by
    obtain ⟨D, lsb, vs, Y, S, cl, hs, hW⟩ := hG
    exact Hlf.still hW hs hN hf)
  unfold Opv.cs at *
  obtain ⟨d0, a0, b0, c0v, h0v, r0⟩ := o
  dsimp only at *
  subst hd
  have u0 := hb0.cell 0
  have u1 := hb0.cell 1
  have u2 := hb0.cell 2
  have u3 := hb0.cell 3
  have u4 := hb0.cell 4
  have u5 := hb0.cell 5
  simp at u0 u1 u2 u3 u4 u5
  clear h14 hb0 hG
  rcases hgv with ⟨j, u, hwh⟩ | ⟨hwh, hp⟩
  · have hge : (j : Int) ≥ 0 := by omega
    have hge2 : decide ((j : Int) ≥ 0) = true := decide_eq_true hge
    go_enter Tryz.func15, Tryz.ntmps15
    go_wp2_with (first | (go_at_call 14; go_must (refine h14'.mono ?_); rintro y w1 ⟨rfl, hf1, hb1⟩; (have v0 := hb1.cell 0); simp at v0; (obtain ⟨_, _, _, _, k4, _⟩ := hcs w1 hf1)) | (go_at_call 50; go_must (refine (hwh _ hf1).mono ?_); rintro y w' ⟨rfl, rfl⟩) | fail)
    go_quiet (fail)
    go_wp2
    go_ret
    exact ⟨rfl, hsame _ (gb_trans hf1 (gb_drewN (gb_refl _ _) _))⟩
  · go_enter Tryz.func15, Tryz.ntmps15
    go_wp2_with (first | (go_at_call 14; go_must (refine h14'.mono ?_); rintro y w1 ⟨rfl, hf1, hb1⟩; (have v0 := hb1.cell 0); simp at v0; (obtain ⟨_, _, _, _, k4, _⟩ := hcs w1 hf1)) | (go_at_call 50; go_must (refine (hwh _ hf1).mono ?_); rintro y w' ⟨rfl, rfl⟩) | fail)
    have hf1d : w.grownBy w1.drew none := gb_trans hf1 (gb_drew (gb_refl _ _))
    obtain ⟨er, B1, hc1, hc2⟩ := hp w1.drew hf1d
    obtain ⟨k0, _, _, _, k4', _⟩ := hcs w1.drew hf1d
    have hk0 := And.intro k0 k4'
    clear hp hcs u0 u1 u2 u3 u4 u5 hwh
    go_region_held3 (fun W => W.cell? ⟨wb, 0, none⟩ = some (.pointer (some ⟨D0.sb, 0, none⟩)) ∧ W.cell? ⟨wb, 4, none⟩ = some (.pointer (some ⟨D0.lb, 0, none⟩))) ((first | with_reducible exact hk1 | with_reducible exact hk2 | with_reducible exact hk0 | go_keep)) ((first | (go_at_call 51; with_reducible refine hc1.mono ?_; rintro y w2 ⟨rfl, hB2⟩; (obtain ⟨hkp, ⟨q0, _, _, _, q4, _⟩, hcall⟩ := hc2 _ _ hB2 (gb_refl _ _)); (have hk1 := And.intro q0 q4)) | (go_at_call 52; with_reducible refine hcall.mono ?_; rintro y w3 ⟨rfl, hK3, hG3⟩; (obtain ⟨r0', _, _, _, r4, _⟩ := hG3.cells); (have hk2 := And.intro r0' r4)) | (go_at_call 26; with_reducible refine (num_any _ _).mono ?_; rintro y w' ⟨rfl, rfl⟩)))
    go_wp2
    go_ret
    exact ⟨rfl, (Kp.of hf1d).trans hK3 (fun _ h => h) (fun k hk => .inl hk), hG3⟩

set_option maxRecDepth 100000 in
set_option maxHeartbeats 1000000 in
theorem moves_make (hG : GS w P wb N hot warm D0) (hP : ∀ k, w.heap.size ≤ k → P k) (hN : N < 300) (o : Opv) (ho : o.Ok) (hd : o.d = 1 ∨ o.d = 2) :
    Calls Tryz.prog 15 #[.pointer (some ⟨wb, 0, none⟩), .agg o.cs] w fun y w' => y = .returned (.bool true) ∧ Kp P w w' ∧ GS w' P wb (N + 1) hot warm D0 := by
  have hal := World.grownBy_alloc w (.cells o.cs 29) none
  obtain ⟨H, h64, h14⟩ := handle_14 (hG.kept0 hal) o ho
  have hb0 := Box.new w 29 o.cs
  have h14' := h14.mono (R' := fun y w1 => y = .returned (.int .u64 H) ∧ w.grownBy w1 none ∧ Box w1 29 w.heap.size o.cs) (by
    rintro y w1 ⟨rfl, hf⟩
    exact ⟨rfl, gb_trans hal hf, hb0.kept hf (by simp)⟩)
  have h49 := fun W (hf : w.grownBy W none) => makes_any (hG.kept0 hf) (fun k hk => hP k (Nat.le_trans hf.size hk)) hN o ho
  unfold Opv.cs at *
  obtain ⟨d0, a0, b0, c0v, h0v, r0⟩ := o
  dsimp only at *
  have u0 := hb0.cell 0
  have u1 := hb0.cell 1
  have u2 := hb0.cell 2
  have u3 := hb0.cell 3
  have u4 := hb0.cell 4
  have u5 := hb0.cell 5
  simp at u0 u1 u2 u3 u4 u5
  clear h14 hb0 hG
  rcases hd with rfl | rfl
  all_goals
    go_enter Tryz.func15, Tryz.ntmps15
    go_wp2_with (first | (go_at_call 14; go_must (refine h14'.mono ?_); rintro y w1 ⟨rfl, hf1, hb1⟩; (have v0 := hb1.cell 0); (have v1 := hb1.cell 1); (have v2 := hb1.cell 2); (have v3 := hb1.cell 3); (have v4 := hb1.cell 4); (have v5 := hb1.cell 5); simp at v0 v1 v2 v3 v4 v5) | (go_at_call 49; go_must (refine (h49 _ hf1).mono ?_); rintro y w2 ⟨rfl, hK2, hG2⟩) | fail)
    go_ret
    exact ⟨rfl, (Kp.of hf1).trans hK2 (fun _ h => h) (fun k hk => .inl hk), hG2⟩

set_option maxRecDepth 100000 in
set_option maxHeartbeats 1000000 in
theorem moves_else (hG : GS w P wb N hot warm D0) (hP : ∀ k, w.heap.size ≤ k → P k) (hN : N < 300) (o : Opv) (ho : o.Ok) (hd : ¬ (o.d = 1 ∨ o.d = 2 ∨ o.d = 3 ∨ o.d = 4 ∨ o.d = 5 ∨ o.d = 6 ∨ o.d = 7 ∨ o.d = 10)) :
    Calls Tryz.prog 15 #[.pointer (some ⟨wb, 0, none⟩), .agg o.cs] w fun y w' => y = .returned (.bool true) ∧ Kp P w w' ∧ GS w' P wb (N + 1) hot warm D0 := by
  have hal := World.grownBy_alloc w (.cells o.cs 29) none
  obtain ⟨H, h64, h14⟩ := handle_14 (hG.kept0 hal) o ho
  have hb0 := Box.new w 29 o.cs
  have h14' := h14.mono (R' := fun y w1 => y = .returned (.int .u64 H) ∧ w.grownBy w1 none ∧ Box w1 29 w.heap.size o.cs) (by
    rintro y w1 ⟨rfl, hf⟩
    exact ⟨rfl, gb_trans hal hf, hb0.kept hf (by simp)⟩)
  have hsame := fun W (hf : w.grownBy W none) => (show Kp P w W ∧ GS W P wb (N + 1) hot warm D0 by
    obtain ⟨D, lsb, vs, Y, S, cl, hs, hW⟩ := hG
    exact Hlf.still hW hs hN hf)
  unfold Opv.cs at *
  obtain ⟨d0, a0, b0, c0v, h0v, r0⟩ := o
  dsimp only at *
  simp only [not_or] at hd
  obtain ⟨n1, n2, n3, n4, n5, n6, n7, n10⟩ := hd
  have u0 := hb0.cell 0
  have u1 := hb0.cell 1
  have u2 := hb0.cell 2
  have u3 := hb0.cell 3
  have u4 := hb0.cell 4
  have u5 := hb0.cell 5
  simp at u0 u1 u2 u3 u4 u5
  clear h14 hb0 hG
  go_enter Tryz.func15, Tryz.ntmps15
  go_wp2_with (first | (go_at_call 14; go_must (refine h14'.mono ?_); rintro y w1 ⟨rfl, hf1, hb1⟩; (have v0 := hb1.cell 0); simp at v0) | fail)
  go_ret
  exact ⟨rfl, hsame _ hf1⟩
/-- A call of a script. -/
theorem moves_15 (hG : GS w P wb N hot warm D0) (hP : ∀ k, w.heap.size ≤ k → P k) (hN : N < 300) (hsh : hot ≤ 100) (hsw : warm ≤ 100) (o : Opv) (ho : o.Ok) :
    Calls Tryz.prog 15 #[.pointer (some ⟨wb, 0, none⟩), .agg o.cs] w fun y w' => y = .returned (.bool true) ∧ Kp P w w' ∧ GS w' P wb (N + 1) hot warm D0 := by
  by_cases e : o.d = 1 ∨ o.d = 2 ∨ o.d = 3 ∨ o.d = 4 ∨ o.d = 5 ∨ o.d = 6 ∨ o.d = 7 ∨ o.d = 10
  · rcases e with e | e | e | e | e | e | e | e
    · exact moves_make hG hP hN o ho (.inl e)
    · exact moves_make hG hP hN o ho (.inr e)
    · exact moves_give hG hP hN o ho e
    · exact moves_enter hG hP hN o ho e
    · exact moves_leave hG hP hN o ho e
    · exact moves_hit hG hP hN o ho e
    · exact moves_balance hG hP hN hsh hsw o ho e
    · exact moves_shift hG hP hN o ho e
  · exact moves_else hG hP hN o ho e
end
end Go.Proofs.YtohneboimmcocaaGreat

import Derived.Test.YtohneboimmcocaaGreatGb
import Derived.Test.YtohneboimmcocaaGreatWi
/-
  What LruBalances tells ahead of a move.
-/
namespace Go.Proofs.YtohneboimmcocaaGreat
open Go.RowKit
set_option linter.unusedVariables false

/-- The law's own memory while Balance runs. -/
structure JB (N1 t1 t2 t3 t4 wb qb : Nat) (d0 a0 b0 c0 h0 : Value) (r0 : Value) (W : World) (xs : List Nat) : Prop where
  b1 : ∃ tv, Box W 38 t1 #[tv] ∧ W.ownsRow N1 27 1 tv xs.length (uvs xs) ∧ ∀ k, tv.ownBlock = some k → k ≠ t1 ∧ k ≠ t3 ∧ k ≠ t4
  b2 : Box W 25 t2 #[.pointer (some ⟨wb, 0, none⟩)]
  b3 : Box W 29 t3 #[d0, a0, b0, c0, h0, r0]
  b4 : Box W 4 t4 #[.bool true]
  bw : ∃ v0 v2 v3 v4 v5 v6, Box W 46 wb #[v0, .pointer (some ⟨qb, 0, none⟩), v2, v3, v4, v5, v6]
  sz : N1 ≤ W.heap.size
/-- Where it lies. -/
structure JS (N1 t1 t2 t3 t4 wb : Nat) (xb qb gl : Nat) (F : Nat → Prop) : Prop where
  g1 : N1 ≤ t1
  g3 : N1 ≤ t3
  g4 : N1 ≤ t4
  n13 : t1 ≠ t3
  n14 : t1 ≠ t4
  n34 : t3 ≠ t4
  l2 : t2 < N1
  lw : wb < N1
  lf : ∀ k, F k → k < N1
  lg : gl < N1
  lx : xb < N1
  lq : qb < N1
  f2 : ¬ (F t2 ∨ t2 = gl)
  fw : ¬ (F wb ∨ wb = gl)
section
variable {N1 t1 t2 t3 t4 wb : Nat} {xb sb qb gl gc : Nat} {F : Nat → Prop} {B : Bl} {b c d e f g : Int} {A : Ab} {m : List Int} {T : List Nat} {cls : Nat → Nat} {hot warm ci : Nat} {d0 a0 b0 h0 r0 : Value}
theorem below_of {N1 : Nat} {W W' : World} (hN : N1 ≤ W.heap.size) (h : Kp (fun k => N1 ≤ k) W W') : Below N1 W W' := ⟨h.os, h.tape, h.output, h.size, fun k hk => h.block k (by omega) (by omega)⟩
theorem JB.kept {W W' : World} {xs : List Nat} {c0 : Value} (hs : JS N1 t1 t2 t3 t4 wb xb qb gl F) (h : JB N1 t1 t2 t3 t4 wb qb d0 a0 b0 c0 h0 r0 W xs) (hK : Kp (fun k => F k ∨ k = gl) W W') : JB N1 t1 t2 t3 t4 wb qb d0 a0 b0 c0 h0 r0 W' xs := by
  have hno : ∀ k, N1 ≤ k → ¬ (F k ∨ k = gl) := fun k hk hh => by
    rcases hh with hh | hh
    · have := hs.lf k hh; omega
    · have := hs.lg; omega
  obtain ⟨tv, h1, h2, h3⟩ := h.b1
  obtain ⟨v0, v2, v3, v4, v5, v6, hw⟩ := h.bw
  refine ⟨⟨tv, hK.box h1 (hno _ hs.g1), row_same h2 (fun k hk => hK.block k ?_ (hno k ?_)), h3⟩, hK.box h.b2 hs.f2, hK.box h.b3 (hno _ hs.g3), hK.box h.b4 (hno _ hs.g4), ⟨v0, v2, v3, v4, v5, v6, hK.box hw hs.fw⟩, Nat.le_trans h.sz hK.size⟩
  · exact (h2.lt k hk).2
  · exact (h2.lt k hk).1
set_option maxRecDepth 100000 in
set_option maxHeartbeats 2000000 in
theorem left_19 {W : World} {xs : List Nat} {bs : Nat → It} {X : Nat → Nat → List Nat} {mk : Nat → Nat} {k H : Nat} {U : List Nat} (hc : ci < A.n) (hs : JS N1 t1 t2 t3 t4 wb xb qb gl F) (hL : LQ W xb sb qb gl gc F B b c d e f g A m T bs cls X mk hot warm) (hJ : JB N1 t1 t2 t3 t4 wb qb d0 a0 b0 (.int .i64 ci) h0 r0 W xs) (hx : xs.length ≤ 5000) (hk : k < 3) (hX : X ci k = U ++ [H]) :
    Calls Tryz.prog 19 #[.int .u64 H, .pointer (some ⟨t1, 0, none⟩), .pointer (some ⟨t2, 0, none⟩), .pointer (some ⟨t3, 0, none⟩), .pointer (some ⟨t4, 0, none⟩)] W fun y w' => y = .returned (.tuple #[]) ∧ Kp (fun k => N1 ≤ k) W w' ∧ LQ w' xb sb qb gl gc F B b c d e f g A m T bs cls X mk hot warm ∧ JB N1 t1 t2 t3 t4 wb qb d0 a0 b0 (.int .i64 ci) h0 r0 w' (xs ++ [H]) := by
  have hLB : LB W N1 xb sb qb gl gc F B b c d e f g A m T bs cls X mk hot warm := ⟨hL, hs.lf, hs.lx, hs.lq, hs.lg⟩
  have hH0 : ¬ H = 0 := (hL.mem (ci := ci) (k := k) (by rw [hX]; simp)).2.2
  obtain ⟨x0, hx0⟩ : ∃ v, (X ci 0).getLastD 0 = v := ⟨_, rfl⟩
  obtain ⟨x1, hx1⟩ : ∃ v, (X ci 1).getLastD 0 = v := ⟨_, rfl⟩
  obtain ⟨x2, hx2⟩ : ∃ v, (X ci 2).getLastD 0 = v := ⟨_, rfl⟩
  have hor : x0 = H ∨ x1 = H ∨ x2 = H := by
    have hk' : k = 0 ∨ k = 1 ∨ k = 2 := by omega
    rcases hk' with rfl | rfl | rfl
    · exact .inl (by rw [← hx0, hX]; simp)
    · exact .inr (.inl (by rw [← hx1, hX]; simp))
    · exact .inr (.inr (by rw [← hx2, hX]; simp))
  have hbw := fun W2 (hK : Kp (fun k => N1 ≤ k) W W2) => (hLB.below (below_of hJ.sz hK)).lq
  have ht0 := fun W2 (hK : Kp (fun k => N1 ≤ k) W W2) => q_tailL (hbw W2 hK).ql hc (k := 0) (by omega) x0 hx0
  have ht1 := fun W2 (hK : Kp (fun k => N1 ≤ k) W W2) => q_tailL (hbw W2 hK).ql hc (k := 1) (by omega) x1 hx1
  have ht2 := fun W2 (hK : Kp (fun k => N1 ≤ k) W W2) => q_tailL (hbw W2 hK).ql hc (k := 2) (by omega) x2 hx2
  simp only [show ((0 : Nat) : Int) + 1 = 1 from rfl, show ((1 : Nat) : Int) + 1 = 2 from rfl, show ((2 : Nat) : Int) + 1 = 3 from rfl] at ht0 ht1 ht2
  obtain ⟨tv, hb1, hrow, hap⟩ := hJ.b1
  obtain ⟨ao, cc, rfl, _, _, _, _⟩ := row_shape hrow
  have hg1 := hs.g1
  have hsz := hJ.sz
  have hb1l := hb1.lt
  have c1 := hb1.cell 0
  have z1 := hb1.fz 0
  simp at c1
  have c1a : ∀ o, (W.alloc o).cell? ⟨t1, 0, none⟩ = some (.slice ao xs.length cc) := fun o => gb_cellN (World.grownBy_alloc W o none) c1
  obtain ⟨n, hn⟩ : ∃ n, xs.length = n := ⟨_, rfl⟩
  -- behind the append and the store
  have hst := fun (g1 cap1 : Nat) (w4 : World) (ho4 : World.ownsRow w4 N1 27 1 (.slice (some ⟨g1, 0, none⟩) (n + 1) cap1) (n + 1) (uvs xs ++ [.int .u64 (H : Int)])) (hg4 : W.grownBy w4 (Value.slice ao n cc).ownBlock) (hat4 : (Value.slice ao n cc).ownBlock = some g1 ∨ W.heap.size ≤ g1) => (show w4.cell? ⟨t1, 0, none⟩ = some (.slice ao n cc) ∧ w4.frozen? ⟨t1, 0, none⟩ = false ∧ Hid (Kp (fun k => N1 ≤ k) W (w4.setCell ⟨t1, 0, none⟩ (.slice (some ⟨g1, 0, none⟩) (n + 1) cap1)) ∧ JB N1 t1 t2 t3 t4 wb qb d0 a0 b0 (.int .i64 ci) h0 r0 (w4.setCell ⟨t1, 0, none⟩ (.slice (some ⟨g1, 0, none⟩) (n + 1) cap1)) (xs ++ [H])) by
    rw [← hn] at ho4 hg4 hat4 ⊢
    have hlo : ∀ k, (Value.slice ao xs.length cc).ownBlock = some k → N1 ≤ k := fun k hk => (hrow.lt k hk).1
    have hK4 : Kp (fun k => (Value.slice ao xs.length cc).ownBlock = some k) W w4 := (Kp.refl _ W).step hg4 (fun i hi => .inl hi)
    have k1 := hK4.box hb1 (fun hh => (hap _ hh).1 rfl)
    have k2 := hK4.box hJ.b2 (fun hh => by have := hlo _ hh; have := hs.l2; omega)
    have k3 := hK4.box hJ.b3 (fun hh => (hap _ hh).2.1 rfl)
    have k4 := hK4.box hJ.b4 (fun hh => (hap _ hh).2.2 rfl)
    obtain ⟨v0, v2, v3, v4, v5, v6, hw⟩ := hJ.bw
    have kw := hK4.box hw (fun hh => by have := hlo _ hh; have := hs.lw; omega)
    have hgN : g1 ≠ t1 ∧ g1 ≠ t3 ∧ g1 ≠ t4 := by
      rcases hat4 with h1 | h1
      · exact hap g1 h1
      · have q1 := hb1.lt
        have q3 := hJ.b3.lt
        have q4 := hJ.b4.lt
        omega
    have hKs : Kp (fun k => k = t1) w4 (w4.setCell ⟨t1, 0, none⟩ (.slice (some ⟨g1, 0, none⟩) (xs.length + 1) cap1)) := (Kp.refl _ _).step (gb_setCell (gb_refl _ (some t1)) _) (fun i hi => .inl (by simpa using hi.symm))
    have hKK : Kp (fun k => N1 ≤ k) W (w4.setCell ⟨t1, 0, none⟩ (.slice (some ⟨g1, 0, none⟩) (xs.length + 1) cap1)) := (hK4.mono (G := fun k => N1 ≤ k) (fun k hk => .inl (hlo k hk))).trans hKs (fun _ h => h) (fun k hk => .inl (by omega))
    refine ⟨k1.cell 0, k1.fz 0, hKK, ⟨_, k1.set 0 _, ?_, ?_⟩, hKs.box k2 (by have := hs.l2; omega), hKs.box k3 (fun hh => hs.n13 hh.symm), hKs.box k4 (fun hh => hs.n14 hh.symm), ⟨v0, v2, v3, v4, v5, v6, hKs.box kw (by have := hs.lw; omega)⟩, Nat.le_trans hJ.sz hKK.size⟩
    · rw [List.length_append, uvs_app]
      refine row_same ho4 (fun k hk => hKs.block k ?_ ?_)
      · exact (ho4.lt k hk).2
      · simp [Value.ownBlock] at hk; omega
    · intro k hk
      simp [Value.ownBlock] at hk
      omega)
  -- what a world in which that lies has, and what a tail leaves
  have hcs := fun W2 (hE : Hid (Kp (fun k => N1 ≤ k) W W2 ∧ JB N1 t1 t2 t3 t4 wb qb d0 a0 b0 (.int .i64 ci) h0 r0 W2 (xs ++ [H]))) => (show W2.cell? ⟨t2, 0, none⟩ = some (.pointer (some ⟨wb, 0, none⟩)) ∧ W2.cell? ⟨wb, 1, none⟩ = some (.pointer (some ⟨qb, 0, none⟩)) ∧ W2.cell? ⟨t3, 3, none⟩ = some (.int .i64 ci) ∧ W2.cell? ⟨t4, 0, none⟩ = some (.bool true) ∧ W2.frozen? ⟨t4, 0, none⟩ = false by
    obtain ⟨v0, v2, v3, v4, v5, v6, hw⟩ := hE.out.2.bw
    exact ⟨hE.out.2.b2.cell 0, hw.cell 1, hE.out.2.b3.cell 3, hE.out.2.b4.cell 0, hE.out.2.b4.fz 0⟩)
  have hgr := fun W2 W3 (hE : Hid (Kp (fun k => N1 ≤ k) W W2 ∧ JB N1 t1 t2 t3 t4 wb qb d0 a0 b0 (.int .i64 ci) h0 r0 W2 (xs ++ [H]))) (hf : W2.grownBy W3 none) => (show Hid (Kp (fun k => N1 ≤ k) W W3 ∧ JB N1 t1 t2 t3 t4 wb qb d0 a0 b0 (.int .i64 ci) h0 r0 W3 (xs ++ [H])) from ⟨hE.out.1.step hf (by simp), hE.out.2.kept hs (Kp.of hf)⟩)
  have hfin := fun W2 (hE : Hid (Kp (fun k => N1 ≤ k) W W2 ∧ JB N1 t1 t2 t3 t4 wb qb d0 a0 b0 (.int .i64 ci) h0 r0 W2 (xs ++ [H]))) => (show Kp (fun k => N1 ≤ k) W (W2.setCell ⟨t4, 0, none⟩ (.bool true)) ∧ LQ (W2.setCell ⟨t4, 0, none⟩ (.bool true)) xb sb qb gl gc F B b c d e f g A m T bs cls X mk hot warm ∧ JB N1 t1 t2 t3 t4 wb qb d0 a0 b0 (.int .i64 ci) h0 r0 (W2.setCell ⟨t4, 0, none⟩ (.bool true)) (xs ++ [H]) by
    have hKs : Kp (fun k => k = t4) W2 (W2.setCell ⟨t4, 0, none⟩ (.bool true)) := (Kp.refl _ _).step (gb_setCell (gb_refl _ (some t4)) _) (fun i hi => .inl (by simpa using hi.symm))
    have h4 := hs.g4
    have hKK : Kp (fun k => N1 ≤ k) W (W2.setCell ⟨t4, 0, none⟩ (.bool true)) := hE.out.1.trans hKs (fun _ h => h) (fun k hk => .inl (by omega))
    obtain ⟨tv2, q1, q2, q3⟩ := hE.out.2.b1
    obtain ⟨v0, v2, v3, v4, v5, v6, hw⟩ := hE.out.2.bw
    exact ⟨hKK, hbw _ hKK, ⟨tv2, hKs.box q1 hs.n14, row_same q2 (fun k hk => hKs.block k (q2.lt k hk).2 (q3 k hk).2.2), q3⟩, hKs.box hE.out.2.b2 (by have := hs.l2; omega), hKs.box hE.out.2.b3 hs.n34, hE.out.2.b4.set 0 _, ⟨v0, v2, v3, v4, v5, v6, hKs.box hw (by have := hs.lw; omega)⟩, Nat.le_trans hJ.sz hKK.size⟩)
  rw [hn] at c1 c1a hrow hx
  clear hL hLB hJ hs hb1 hap hX hx0 hx1 hx2 hbw hn
  go_enter Tryz.func19, Tryz.ntmps19
  go_wp2_with (first | (at_builtin; go_must (refine push26 rfl _ _ rfl N1 (.slice ao n cc) n (uvs xs) (by rfl) hrow (H : Int) (by rfl) (by omega) hsz ?_); intro g1 cap1 w4 ho4 hg4 hat4; (obtain ⟨e1, e2, hE⟩ := hst g1 cap1 w4 ho4 hg4 hat4); (obtain ⟨q1, q2, q3, q4, q5⟩ := hcs _ hE)) | fail)
  clear hst hsz hrow e1 e2 ho4 hg4 hat4 q1 q2 q3 q4 q5 c1 c1a
  generalize w4.setCell ⟨t1, 0, none⟩ (.slice (some ⟨g1, 0, none⟩) (n + 1) cap1) = W5 at *
  have hd0 : W5.grownBy W5.drew none := gb_drew (gb_refl _ _)
  have hD0 := hgr _ _ hE hd0
  obtain ⟨q1, q2, q3, _, _⟩ := hcs _ hD0
  have hk0 := And.intro q1 (And.intro q2 q3)
  have ht := ht0 _ hD0.out.1
  go_region_held3 (fun W2 => W2.cell? ⟨t2, 0, none⟩ = some (.pointer (some ⟨wb, 0, none⟩)) ∧ W2.cell? ⟨wb, 1, none⟩ = some (.pointer (some ⟨qb, 0, none⟩)) ∧ W2.cell? ⟨t3, 3, none⟩ = some (.int .i64 ci)) ((first | with_reducible exact hk1 | with_reducible exact hk0 | go_keep)) ((go_at_call 20; with_reducible refine ht.mono ?_; rintro y w6 ⟨rfl, hf0⟩; (have hE6 := hgr _ _ hD0 hf0); (obtain ⟨p1, p2, p3, _, _⟩ := hcs _ hE6); (have hk1 := And.intro p1 (And.intro p2 p3))))
  clear ht hk0 hk1 q1 q2 q3 p1 p2 p3 ht0
  go_wp2
  have hd1 : w6.grownBy w6.drew none := gb_drew (gb_refl _ _)
  have hD1 := hgr _ _ hE6 hd1
  obtain ⟨q1, q2, q3, _, _⟩ := hcs _ hD1
  have hk0 := And.intro q1 (And.intro q2 q3)
  have ht := ht1 _ hD1.out.1
  go_region_held3 (fun W2 => W2.cell? ⟨t2, 0, none⟩ = some (.pointer (some ⟨wb, 0, none⟩)) ∧ W2.cell? ⟨wb, 1, none⟩ = some (.pointer (some ⟨qb, 0, none⟩)) ∧ W2.cell? ⟨t3, 3, none⟩ = some (.int .i64 ci)) ((first | with_reducible exact hk1 | with_reducible exact hk0 | go_keep)) ((go_at_call 20; with_reducible refine ht.mono ?_; rintro y w7 ⟨rfl, hf1⟩; (have hE7 := hgr _ _ hD1 hf1); (obtain ⟨p1, p2, p3, _, _⟩ := hcs _ hE7); (have hk1 := And.intro p1 (And.intro p2 p3))))
  clear ht hk0 hk1 q1 q2 q3 p1 p2 p3 ht1
  go_wp2
  have hd2 : w7.grownBy w7.drew none := gb_drew (gb_refl _ _)
  have hD2 := hgr _ _ hE7 hd2
  obtain ⟨q1, q2, q3, _, _⟩ := hcs _ hD2
  have hk0 := And.intro q1 (And.intro q2 q3)
  have ht := ht2 _ hD2.out.1
  go_region_held3 (fun W2 => W2.cell? ⟨t2, 0, none⟩ = some (.pointer (some ⟨wb, 0, none⟩)) ∧ W2.cell? ⟨wb, 1, none⟩ = some (.pointer (some ⟨qb, 0, none⟩)) ∧ W2.cell? ⟨t3, 3, none⟩ = some (.int .i64 ci)) ((first | with_reducible exact hk1 | with_reducible exact hk0 | go_keep)) ((go_at_call 20; with_reducible refine ht.mono ?_; rintro y w8 ⟨rfl, hf2⟩; (have hE8 := hgr _ _ hD2 hf2); (obtain ⟨p1, p2, p3, _, _⟩ := hcs _ hE8); (have hk1 := And.intro p1 (And.intro p2 p3))))
  clear ht hk0 hk1 q1 q2 q3 p1 p2 p3 ht2
  obtain ⟨_, _, _, q4, q5⟩ := hcs _ hE8
  have HF : Hid _ := hfin _ hE8
  clear hcs hgr hfin hE8 hE7 hE6 hE hD0 hD1 hD2
  by_cases hA : x0 = H
  · subst hA
    simp only [hH0, decide_false, Bool.not_false]
    go_wp2
    go_end0
    exact ⟨rfl, HF.out⟩
  · have hAi : ¬ (x0 : Int) = (H : Int) := by omega
    generalize (!decide (x0 = 0)) = y0
    by_cases hB : x1 = H
    · subst hB
      simp only [hH0, decide_false, Bool.not_false]
      cases y0
      all_goals
        go_wp2
        go_end0
        exact ⟨rfl, HF.out⟩
    · have hBi : ¬ (x1 : Int) = (H : Int) := by omega
      generalize (!decide (x1 = 0)) = y1
      obtain rfl : x2 = H := by
        rcases hor with h | h | h
        · exact absurd h hA
        · exact absurd h hB
        · exact h
      simp only [hH0, decide_false, Bool.not_false]
      cases y0 <;> cases y1
      all_goals
        go_wp2
        go_end0
        exact ⟨rfl, HF.out⟩
/-- What is told. -/
theorem lf_ok (hc : ci < A.n) (hs : JS N1 t1 t2 t3 t4 wb xb qb gl F) : LfOk (JB N1 t1 t2 t3 t4 wb qb d0 a0 b0 (.int .i64 ci) h0 r0) (fun k => N1 ≤ k) t1 t2 t3 t4 ci xb sb qb gl gc F B b c d e f g A m T cls hot warm :=
  ⟨fun W W' xs hJ hK => hJ.kept hs hK, fun W xs bs X mk k U H hL hJ hx hk hX => left_19 hc hs hL hJ hx hk hX⟩
end
end Go.Proofs.YtohneboimmcocaaGreat

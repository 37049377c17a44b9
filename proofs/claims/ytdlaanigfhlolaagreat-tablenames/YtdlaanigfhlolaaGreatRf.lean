import Derived.Test.YtdlaanigfhlolaaGreatRe
import Derived.Test.YtdlaanigfhlolaaGreatMb
/-
  The document's items: Lay, Read.
-/
namespace Go.Proofs.YtdlaanigfhlolaaGreat
open Go.RowKit
set_option linter.unusedVariables false

section
variable {w w' : World} {rb qb : Nat} {F : Nat → Prop} {Q : Rl} {c d e : Int} {R : Rb} {iv : Value} {M : Nat} {its : Nat → List Value}

set_option maxRecDepth 100000 in
theorem rfits_any (h : IsR w rb F Q c d e R) (hR : RFit R) (hq : IsQ w qb rb iv M its) {i : Nat} (hi : i < R.N) (hc : R.cl i < R.n) (kn vn : Nat) (hk : kn ≤ 1000000000) (hv : vn ≤ 1000000000) :
    Calls Tryz.prog 91 #[.pointer (some ⟨qb, 0, none⟩), .int .i64 i, .int .i64 kn, .int .i64 vn] w fun y w' => y = .returned (.bool (decide (58 + kn + vn ≤ R.sz (R.cl i)))) ∧ w.grownBy w' none := by
  obtain ⟨sb, sc, ob, oc, vb, vc, hsv, hov, hrv⟩ := h.shapes hR.n0 hR.m0
  obtain ⟨cb, cc, hcv⟩ := h.cshape (by omega)
  have q0 := hq.box.cell 0
  simp at q0
  have c5 := h.sc 5
  have c7 := h.sc 7
  simp [rset, hsv] at c5
  simp [rset, hcv] at c7
  have e1 := h.ccell hcv hi (j := 1) (by omega)
  simp [rckC] at e1
  have es := h.scell hsv hc
  have hN := hR.N
  have hn2 := hR.n2
  have hiz : (i : Int) < (R.N : Int) := by omega
  have hcz : (R.cl i : Int) < (R.n : Int) := by omega
  generalize R.sz (R.cl i) = s at *
  generalize R.cl i = cl at *
  generalize R.N = N at *
  have hdd : decide (58 + (kn : Int) + (vn : Int) ≤ (s : Int)) = decide (58 + kn + vn ≤ s) := by
    by_cases h : 58 + kn + vn ≤ s
    · rw [decide_eq_true h, decide_eq_true (by omega)]
    · rw [decide_eq_false h, decide_eq_false (by omega)]
  clear h hq
  go_enter Tryz.func91, Tryz.ntmps91
  go_wp2
  go_quiet (fail)
  go_wp2
  go_ret
  exact ⟨by first | rfl | (rw [← hdd]), gb_drewN (gb_refl _ _) _⟩

set_option maxRecDepth 100000 in
set_option maxHeartbeats 4000000 in
theorem rlay3 (h : IsR w rb F Q c d e R) (hR : RFit R) {gi ci : Nat} (hq : IsQ w qb rb (.slice (some ⟨gi, 0, none⟩) M ci) M its) {i H : Nat} (hfd : ∀ W, w.grownBy W none → Calls Tryz.prog 52 #[.pointer (some ⟨rb, 0, none⟩), .int .u64 H] W fun y w' => y = .returned (.int .i64 i) ∧ W.grownBy w' none) (hi : i < R.N) (hiM : i < M) (hM : M ≤ 16777216) (hcl : R.cl i < R.n) {ka va : Option Addr} {kn kc vn vc : Nat} {key val : List Int} (hk : Has w ka kn key) (hv : Has w va vn val) (hkc : ka = none → kc = 0) (hvc : va = none → vc = 0) (hkl : LegalP key) (hvn : vn ≤ 1000000) (hfit : 58 + kn + vn ≤ R.sz (R.cl i)) (hgF : ¬ F gi) :
    Calls Tryz.prog 72 #[.pointer (some ⟨qb, 0, none⟩), .int .u64 H, .agg #[.bool false, .slice ka kn kc, .slice va vn vc, .int .u64 0, .int .i64 0, .int .i64 0, .int .u64 0, .int .i64 4, .int .i64 0, .int .u64 0, .int .u64 0, .int .u64 0]] w fun y w' => y = .returned (.int .i64 0) ∧ w.grownBy w' (some gi) ∧ ∃ ka' kc' va' vc', IsQ w' qb rb (.slice (some ⟨gi, 0, none⟩) M ci) M (upd its i [.bool true, .slice ka' kn kc', .slice va' vn vc', .int .u64 0, .int .i64 0, .int .i64 0, .int .u64 0, .int .i64 4, .int .i64 0, .int .u64 0, .int .u64 0, .int .u64 0]) ∧ Has w' ka' kn key ∧ ∀ b, ka'.map (·.block) = some b → w.heap.size < b := by
  have hal := World.grownBy_alloc w (.cells #[.bool false, .slice ka kn kc, .slice va vn vc, .int .u64 0, .int .i64 0, .int .i64 0, .int .u64 0, .int .i64 4, .int .i64 0, .int .u64 0, .int .u64 0, .int .u64 0] 43) none
  have hb0 := Box.new w 43 #[.bool false, .slice ka kn kc, .slice va vn vc, .int .u64 0, .int .i64 0, .int .i64 0, .int .u64 0, .int .i64 4, .int .i64 0, .int .u64 0, .int .u64 0, .int .u64 0]
  have hkb : kn ≤ 250 := by have := hk.1; have := hkl.2.1; omega
  have hlg := fun W (hf : w.grownBy W none) => rlegal_yes (hk.kept0 hf) hkl kc
  have hft := fun W (hf : w.grownBy W none) => rfits_any (h.kept0 hf) hR (hq.kept0 hf) hi hcl kn vn (by omega) (by omega)
  rw [decide_eq_true hfit] at hft
  have q0 := fun W (hf : w.grownBy W none) => (hq.kept0 hf).box.cell 0
  simp at q0
  have a0 := q0 _ hal
  have hfa := hfd _ hal
  have hiz : decide ((i : Int) < 0) = false := decide_eq_false (by omega)
  have hck := fun W (hf : w.grownBy W none) => copy_any (hk.kept0 hf) kc hkc (by omega)
  have hcv := fun W (hf : w.grownBy W none) => copy_any (hv.kept0 hf) vc hvc (by omega)
  go_enter Tryz.func72, Tryz.ntmps72
  go_wp2_with (first | (go_at_call 52; go_must (refine hfa.mono ?_); rintro y w1 ⟨rfl, hf1⟩; (have hF1 := gb_trans hal hf1); (have hb1 := hb0.kept hf1 (by simp)); (have s0 := hb1.cell 0); (have s1 := hb1.cell 1); (have s2 := hb1.cell 2); (have s3 := hb1.cell 3); (have s4 := hb1.cell 4); (have s5 := hb1.cell 5); (have s6 := hb1.cell 6); (have s7 := hb1.cell 7); (have s8 := hb1.cell 8); (have s9 := hb1.cell 9); (have s10 := hb1.cell 10); (have s11 := hb1.cell 11); simp at s0 s1 s2 s3 s4 s5 s6 s7 s8 s9 s10 s11) | (go_at_call 117; go_must (refine (hlg _ hF1).mono ?_); rintro y w' ⟨rfl, rfl⟩) | (go_at_call 91; go_must (refine (hft _ hF1).mono ?_); rintro y w2 ⟨rfl, hf2⟩; (have hF2 := gb_trans hF1 hf2); (have hb2 := hb1.kept hf2 (by simp)); (have t0 := hb2.cell 0); (have t1 := hb2.cell 1); (have t2 := hb2.cell 2); (have t3 := hb2.cell 3); (have t4 := hb2.cell 4); (have t5 := hb2.cell 5); (have t6 := hb2.cell 6); (have t7 := hb2.cell 7); (have t8 := hb2.cell 8); (have t9 := hb2.cell 9); (have t10 := hb2.cell 10); (have t11 := hb2.cell 11); simp at t0 t1 t2 t3 t4 t5 t6 t7 t8 t9 t10 t11; (have m0 := hb2.fz 0); (have hF3 : w.grownBy (w2.setCell ⟨w.heap.size, 0, none⟩ (.bool true)) none := gb_mine hF2 (gb_setCell (gb_refl _ _) _) (Nat.le_refl _)); (have hb3 : Box (w2.setCell ⟨w.heap.size, 0, none⟩ (.bool true)) 43 w.heap.size #[.bool true, .slice ka kn kc, .slice va vn vc, .int .u64 0, .int .i64 0, .int .i64 0, .int .u64 0, .int .i64 4, .int .i64 0, .int .u64 0, .int .u64 0, .int .u64 0] := hb2.set 0 _)) | (go_at_call 92; first | (with_reducible refine (hck _ hF3).mono ?_; rintro y w4 ⟨ka', kc', rfl, hok, hf4⟩; (have hF4 := gb_trans hF3 hf4); (have hb4 := hb3.kept hf4 (by simp)); (have x0 := hb4.cell 0); (have x1 := hb4.cell 1); (have x2 := hb4.cell 2); (have x3 := hb4.cell 3); (have x4 := hb4.cell 4); (have x5 := hb4.cell 5); (have x6 := hb4.cell 6); (have x7 := hb4.cell 7); (have x8 := hb4.cell 8); (have x9 := hb4.cell 9); (have x10 := hb4.cell 10); (have x11 := hb4.cell 11); simp at x0 x1 x2 x3 x4 x5 x6 x7 x8 x9 x10 x11; (have m1 := hb4.fz 1); (have hF5 : w.grownBy (w4.setCell ⟨w.heap.size, 1, none⟩ (.slice ka' kn kc')) none := gb_mine hF4 (gb_setCell (gb_refl _ _) _) (Nat.le_refl _)); (have hb5 : Box (w4.setCell ⟨w.heap.size, 1, none⟩ (.slice ka' kn kc')) 43 w.heap.size #[.bool true, .slice ka' kn kc', .slice va vn vc, .int .u64 0, .int .i64 0, .int .i64 0, .int .u64 0, .int .i64 4, .int .i64 0, .int .u64 0, .int .u64 0, .int .u64 0] := hb4.set 1 _)) | (with_reducible refine (hcv _ hF5).mono ?_; rintro y w6 ⟨va', vc', rfl, hov, hf6⟩; (have hF6 := gb_trans hF5 hf6); (have hb6 := hb5.kept hf6 (by simp)); (have y0 := hb6.cell 0); (have y1 := hb6.cell 1); (have y2 := hb6.cell 2); (have y3 := hb6.cell 3); (have y4 := hb6.cell 4); (have y5 := hb6.cell 5); (have y6 := hb6.cell 6); (have y7 := hb6.cell 7); (have y8 := hb6.cell 8); (have y9 := hb6.cell 9); (have y10 := hb6.cell 10); (have y11 := hb6.cell 11); simp at y0 y1 y2 y3 y4 y5 y6 y7 y8 y9 y10 y11; (have n2 := hb6.fz 2); (have n9 := hb6.fz 9); (have n10 := hb6.fz 10); (have n11 := hb6.fz 11))) | fail)
  have hb7 : Box ((((w6.setCell ⟨w.heap.size, 2, none⟩ (.slice va' vn vc')).setCell ⟨w.heap.size, 9, none⟩ (.int .u64 0)).setCell ⟨w.heap.size, 10, none⟩ (.int .u64 0)).setCell ⟨w.heap.size, 11, none⟩ (.int .u64 0)) 43 w.heap.size #[.bool true, .slice ka' kn kc', .slice va' vn vc', .int .u64 0, .int .i64 0, .int .i64 0, .int .u64 0, .int .i64 4, .int .i64 0, .int .u64 0, .int .u64 0, .int .u64 0] := (((hb6.set 2 _).set 9 _).set 10 _).set 11 _
  have hF7 : w.grownBy ((((w6.setCell ⟨w.heap.size, 2, none⟩ (.slice va' vn vc')).setCell ⟨w.heap.size, 9, none⟩ (.int .u64 0)).setCell ⟨w.heap.size, 10, none⟩ (.int .u64 0)).setCell ⟨w.heap.size, 11, none⟩ (.int .u64 0)) none := gb_mine hF6 (gb_setCell (gb_setCell (gb_setCell (gb_setCell (gb_refl _ _) _) _) _) _) (Nat.le_refl _)
  have hHk : Hid (Has ((((w6.setCell ⟨w.heap.size, 2, none⟩ (.slice va' vn vc')).setCell ⟨w.heap.size, 9, none⟩ (.int .u64 0)).setCell ⟨w.heap.size, 10, none⟩ (.int .u64 0)).setCell ⟨w.heap.size, 11, none⟩ (.int .u64 0)) ka' kn key ∧ ∀ b, ka'.map (·.block) = some b → w.heap.size < b) := by
    have hlt2 : w.heap.size < (w2.setCell ⟨w.heap.size, 0, none⟩ (.bool true)).heap.size := by simpa using hb2.lt
    have hbl : ∀ b, ka'.map (·.block) = some b → w.heap.size < b := fun b hb => by have := (hok.lt b hb).1; omega
    have hne : ∀ b, ka'.map (·.block) = some b → some b ≠ some w.heap.size := fun b hb e => by have := hbl b hb; simp at e; omega
    have h1 := hok.has
    rw [show key.length = kn from hk.1] at h1
    have h2 := (h1.kept (gb_setCell (i := 1) (gb_refl w4 (some w.heap.size)) (.slice ka' kn kc')) hne).kept0 hf6
    exact ⟨h2.kept (gb_setCell (gb_setCell (gb_setCell (gb_setCell (gb_refl w6 (some w.heap.size)) _) _) _) _) hne, hbl⟩
  generalize ((((w6.setCell ⟨w.heap.size, 2, none⟩ (.slice va' vn vc')).setCell ⟨w.heap.size, 9, none⟩ (.int .u64 0)).setCell ⟨w.heap.size, 10, none⟩ (.int .u64 0)).setCell ⟨w.heap.size, 11, none⟩ (.int .u64 0)) = W7 at *
  have hq7 := hq.kept0 hF7
  have p1 := hq7.box.cell 1
  simp at p1
  have g0 := hb7.cell 0
  have g1 := hb7.cell 1
  have g2 := hb7.cell 2
  have g3 := hb7.cell 3
  have g4 := hb7.cell 4
  have g5 := hb7.cell 5
  have g6 := hb7.cell 6
  have g7 := hb7.cell 7
  have g8 := hb7.cell 8
  have g9 := hb7.cell 9
  have g10 := hb7.cell 10
  have g11 := hb7.cell 11
  simp at g0 g1 g2 g3 g4 g5 g6 g7 g8 g9 g10 g11
  have f0 := hq7.icell (i := i) (j := 0) hiM (by omega)
  have z0 := hq7.ifz (i * 12 + 0)
  have f1 := hq7.icell (i := i) (j := 1) hiM (by omega)
  have z1 := hq7.ifz (i * 12 + 1)
  have f2 := hq7.icell (i := i) (j := 2) hiM (by omega)
  have z2 := hq7.ifz (i * 12 + 2)
  have f3 := hq7.icell (i := i) (j := 3) hiM (by omega)
  have z3 := hq7.ifz (i * 12 + 3)
  have f4 := hq7.icell (i := i) (j := 4) hiM (by omega)
  have z4 := hq7.ifz (i * 12 + 4)
  have f5 := hq7.icell (i := i) (j := 5) hiM (by omega)
  have z5 := hq7.ifz (i * 12 + 5)
  have f6 := hq7.icell (i := i) (j := 6) hiM (by omega)
  have z6 := hq7.ifz (i * 12 + 6)
  have f7 := hq7.icell (i := i) (j := 7) hiM (by omega)
  have z7 := hq7.ifz (i * 12 + 7)
  have f8 := hq7.icell (i := i) (j := 8) hiM (by omega)
  have z8 := hq7.ifz (i * 12 + 8)
  have f9 := hq7.icell (i := i) (j := 9) hiM (by omega)
  have z9 := hq7.ifz (i * 12 + 9)
  have f10 := hq7.icell (i := i) (j := 10) hiM (by omega)
  have z10 := hq7.ifz (i * 12 + 10)
  have f11 := hq7.icell (i := i) (j := 11) hiM (by omega)
  have z11 := hq7.ifz (i * 12 + 11)
  obtain ⟨b0, b1, b2, b3, b4, b5, b6, b7, b8, b9, b10, b11, hits⟩ : ∃ a0 a1 a2 a3 a4 a5 a6 a7 a8 a9 a10 a11, its i = [a0, a1, a2, a3, a4, a5, a6, a7, a8, a9, a10, a11] := by
    have h12 := hq.len i
    match its i, h12 with
    | [a0, a1, a2, a3, a4, a5, a6, a7, a8, a9, a10, a11], _ => exact ⟨a0, a1, a2, a3, a4, a5, a6, a7, a8, a9, a10, a11, rfl⟩
  rw [hits] at f0 f1 f2 f3 f4 f5 f6 f7 f8 f9 f10 f11
  simp at f0 f1 f2 f3 f4 f5 f6 f7 f8 f9 f10 f11 z0
  have hiz2 : (i : Int) < (M : Int) := by omega
  clear hfd hlg hft hck hcv q0 a0 hfa hF1 hF2 hF3 hF4 hF5 hF6 hb0 hb1 hb2 hb3 hb4 hb5 hb6 hits
  go_region_law (fail)
  all_goals
    have hst : ∀ W, W = st12 W7 gi (i * 12) (.bool true) (.slice ka' kn kc') (.slice va' vn vc') (.int .u64 0) (.int .i64 0) (.int .i64 0) (.int .u64 0) (.int .i64 4) (.int .i64 0) (.int .u64 0) (.int .u64 0) (.int .u64 0) → Hid (w.grownBy W.drew (some gi) ∧ IsQ W.drew qb rb (.slice (some ⟨gi, 0, none⟩) M ci) M (upd its i [.bool true, .slice ka' kn kc', .slice va' vn vc', .int .u64 0, .int .i64 0, .int .i64 0, .int .u64 0, .int .i64 4, .int .i64 0, .int .u64 0, .int .u64 0, .int .u64 0]) ∧ Has W.drew ka' kn key) := by
      rintro W rfl
      have hg := st12_gb W7 gi (i * 12) (.bool true) (.slice ka' kn kc') (.slice va' vn vc') (.int .u64 0) (.int .i64 0) (.int .i64 0) (.int .u64 0) (.int .i64 4) (.int .i64 0) (.int .u64 0) (.int .u64 0) (.int .u64 0)
      have hrw := st12_row (x := i * 12) (v0 := .bool true) (v1 := .slice ka' kn kc') (v2 := .slice va' vn vc') (v3 := .int .u64 0) (v4 := .int .i64 0) (v5 := .int .i64 0) (v6 := .int .u64 0) (v7 := .int .i64 4) (v8 := .int .i64 0) (v9 := .int .u64 0) (v10 := .int .u64 0) (v11 := .int .u64 0) hq7.row
      rw [rng_set12 hq.len hiM] at hrw
      obtain ⟨gcur, hgc⟩ := row_block hq7.row gi rfl
      obtain ⟨gcur0, hgc0⟩ := row_block hq.row gi rfl
      have hgw := lt_of_block hgc0
      have hqg : qb ≠ gi := fun e => ne_of_type hgc hq7.box (by decide) e.symm
      have hq9 : IsQ (st12 W7 gi (i * 12) (.bool true) (.slice ka' kn kc') (.slice va' vn vc') (.int .u64 0) (.int .i64 0) (.int .i64 0) (.int .u64 0) (.int .i64 4) (.int .i64 0) (.int .u64 0) (.int .u64 0) (.int .u64 0)) qb rb (.slice (some ⟨gi, 0, none⟩) M ci) M (upd its i [.bool true, .slice ka' kn kc', .slice va' vn vc', .int .u64 0, .int .i64 0, .int .i64 0, .int .u64 0, .int .i64 4, .int .i64 0, .int .u64 0, .int .u64 0, .int .u64 0]) := ⟨hq7.box.kept hg (by simpa using hqg), hrw, upd_len hq.len rfl⟩
      have hd := gb_drew (gb_refl (st12 W7 gi (i * 12) (.bool true) (.slice ka' kn kc') (.slice va' vn vc') (.int .u64 0) (.int .i64 0) (.int .i64 0) (.int .u64 0) (.int .i64 4) (.int .i64 0) (.int .u64 0) (.int .u64 0) (.int .u64 0)) none)
      refine ⟨gb_trans (gb_trans (gb_none _ hF7) hg) (gb_none _ hd), hq9.kept0 hd, (hHk.out.1.kept hg (fun b hb e => ?_)).kept0 hd⟩
      have := hHk.out.2 b hb
      simp at e
      omega
    have hEE := hst _ rfl
    unfold st12 at hEE
    clear hst f0 f1 f2 f3 f4 f5 f6 f7 f8 f9 f10 f11 z0 z1 z2 z3 z4 z5 z6 z7 z8 z9 z10 z11 hq7
    generalize ((((((((((((W7.setCell ⟨gi, i * 12, none⟩ (.bool true)).setCell ⟨gi, i * 12 + 1, none⟩ (.slice ka' kn kc')).setCell ⟨gi, i * 12 + 2, none⟩ (.slice va' vn vc')).setCell ⟨gi, i * 12 + 3, none⟩ (.int .u64 0)).setCell ⟨gi, i * 12 + 4, none⟩ (.int .i64 0)).setCell ⟨gi, i * 12 + 5, none⟩ (.int .i64 0)).setCell ⟨gi, i * 12 + 6, none⟩ (.int .u64 0)).setCell ⟨gi, i * 12 + 7, none⟩ (.int .i64 4)).setCell ⟨gi, i * 12 + 8, none⟩ (.int .i64 0)).setCell ⟨gi, i * 12 + 9, none⟩ (.int .u64 0)).setCell ⟨gi, i * 12 + 10, none⟩ (.int .u64 0)).setCell ⟨gi, i * 12 + 11, none⟩ (.int .u64 0)).drew = W9 at *
    go_wp2
    go_ret
    obtain ⟨e1, e2, e3⟩ := hEE.out
    exact ⟨rfl, e1, ka', kc', va', vc', e2, e3, hHk.out.2⟩

set_option maxRecDepth 100000 in
set_option maxHeartbeats 2000000 in
theorem rread3 {gi ci : Nat} (hq : IsQ w qb rb (.slice (some ⟨gi, 0, none⟩) M ci) M its) {i H : Nat} (hfd : ∀ W, w.grownBy W none → Calls Tryz.prog 52 #[.pointer (some ⟨rb, 0, none⟩), .int .u64 H] W fun y w' => y = .returned (.int .i64 i) ∧ W.grownBy w' none) (hiM : i < M) (hM : M ≤ 16777216) {la : Bool} {ka va : Option Addr} {kn kc vn vc : Nat} {fl ex to tk st mk l0 l1 l2 : Int} (hu : its i = [.bool la, .slice ka kn kc, .slice va vn vc, .int .u64 fl, .int .i64 ex, .int .i64 to, .int .u64 tk, .int .i64 st, .int .i64 mk, .int .u64 l0, .int .u64 l1, .int .u64 l2]) :
    Calls Tryz.prog 11 #[.pointer (some ⟨qb, 0, none⟩), .int .u64 H] w fun y w' => y = .returned (.tuple #[.agg #[.bool la, .slice ka kn kc, .slice va vn vc, .int .u64 fl, .int .i64 ex, .int .i64 to, .int .u64 tk, .int .i64 st, .int .i64 mk, .int .u64 l0, .int .u64 l1, .int .u64 l2], .int .i64 0]) ∧ w.grownBy w' none := by
  have hal := World.grownBy_alloc w (.cells #[.bool false, .slice none 0 0, .slice none 0 0, .int .u64 0, .int .i64 0, .int .i64 0, .int .u64 0, .int .i64 0, .int .i64 0, .int .u64 0, .int .u64 0, .int .u64 0] 43) none
  have hb0 := Box.new w 43 #[.bool false, .slice none 0 0, .slice none 0 0, .int .u64 0, .int .i64 0, .int .i64 0, .int .u64 0, .int .i64 0, .int .i64 0, .int .u64 0, .int .u64 0, .int .u64 0]
  have a0 := (hq.kept0 hal).box.cell 0
  simp at a0
  have hfa := hfd _ hal
  have hiz : decide ((i : Int) < 0) = false := decide_eq_false (by omega)
  have hiz2 : (i : Int) < (M : Int) := by omega
  have hqW := fun W (hf : w.grownBy W none) => hq.kept0 hf
  obtain ⟨gcur, hgc⟩ := row_block hq.row gi rfl
  have hgl := lt_of_block hgc
  have hne1 : ¬ gi = w.heap.size := by omega
  have hne2 : ¬ w.heap.size = gi := by omega
  go_enter Tryz.func11, Tryz.ntmps11
  go_wp2_with (first | (go_at_call 52; go_must (refine hfa.mono ?_); rintro y w1 ⟨rfl, hf1⟩; (have hF1 := gb_trans hal hf1); (have hb1 := hb0.kept hf1 (by simp)); (have hq1 := hqW _ hF1); (have p1 := hq1.box.cell 1); simp at p1; (have f0 := hq1.icell (i := i) (j := 0) hiM (by omega)); (have z0 := hb1.fz 0); (have g0 := hb1.cell 0); (have f1 := hq1.icell (i := i) (j := 1) hiM (by omega)); (have z1 := hb1.fz 1); (have g1 := hb1.cell 1); (have f2 := hq1.icell (i := i) (j := 2) hiM (by omega)); (have z2 := hb1.fz 2); (have g2 := hb1.cell 2); (have f3 := hq1.icell (i := i) (j := 3) hiM (by omega)); (have z3 := hb1.fz 3); (have g3 := hb1.cell 3); (have f4 := hq1.icell (i := i) (j := 4) hiM (by omega)); (have z4 := hb1.fz 4); (have g4 := hb1.cell 4); (have f5 := hq1.icell (i := i) (j := 5) hiM (by omega)); (have z5 := hb1.fz 5); (have g5 := hb1.cell 5); (have f6 := hq1.icell (i := i) (j := 6) hiM (by omega)); (have z6 := hb1.fz 6); (have g6 := hb1.cell 6); (have f7 := hq1.icell (i := i) (j := 7) hiM (by omega)); (have z7 := hb1.fz 7); (have g7 := hb1.cell 7); (have f8 := hq1.icell (i := i) (j := 8) hiM (by omega)); (have z8 := hb1.fz 8); (have g8 := hb1.cell 8); (have f9 := hq1.icell (i := i) (j := 9) hiM (by omega)); (have z9 := hb1.fz 9); (have g9 := hb1.cell 9); (have f10 := hq1.icell (i := i) (j := 10) hiM (by omega)); (have z10 := hb1.fz 10); (have g10 := hb1.cell 10); (have f11 := hq1.icell (i := i) (j := 11) hiM (by omega)); (have z11 := hb1.fz 11); (have g11 := hb1.cell 11); rw [hu] at f0 f1 f2 f3 f4 f5 f6 f7 f8 f9 f10 f11; simp at f0 g0 f1 g1 f2 g2 f3 g3 f4 g4 f5 g5 f6 g6 f7 g7 f8 g8 f9 g9 f10 g10 f11 g11) | fail)
  have hF : w.grownBy ((((((((((((w1.setCell ⟨w.heap.size, 0, none⟩ (.bool la)).setCell ⟨w.heap.size, 1, none⟩ (.slice ka kn kc)).setCell ⟨w.heap.size, 2, none⟩ (.slice va vn vc)).setCell ⟨w.heap.size, 3, none⟩ (.int .u64 fl)).setCell ⟨w.heap.size, 4, none⟩ (.int .i64 ex)).setCell ⟨w.heap.size, 5, none⟩ (.int .i64 to)).setCell ⟨w.heap.size, 6, none⟩ (.int .u64 tk)).setCell ⟨w.heap.size, 7, none⟩ (.int .i64 st)).setCell ⟨w.heap.size, 8, none⟩ (.int .i64 mk)).setCell ⟨w.heap.size, 9, none⟩ (.int .u64 l0)).setCell ⟨w.heap.size, 10, none⟩ (.int .u64 l1)).setCell ⟨w.heap.size, 11, none⟩ (.int .u64 l2)) none := gb_mine hF1 (gb_setCell (gb_setCell (gb_setCell (gb_setCell (gb_setCell (gb_setCell (gb_setCell (gb_setCell (gb_setCell (gb_setCell (gb_setCell (gb_setCell (gb_refl _ _) _) _) _) _) _) _) _) _) _) _) _) _) (Nat.le_refl _)
  have hb4 := ((((((((((((hb1.set 0 (.bool la)).set 1 (.slice ka kn kc)).set 2 (.slice va vn vc)).set 3 (.int .u64 fl)).set 4 (.int .i64 ex)).set 5 (.int .i64 to)).set 6 (.int .u64 tk)).set 7 (.int .i64 st)).set 8 (.int .i64 mk)).set 9 (.int .u64 l0)).set 10 (.int .u64 l1)).set 11 (.int .u64 l2))
  generalize ((((((((((((w1.setCell ⟨w.heap.size, 0, none⟩ (.bool la)).setCell ⟨w.heap.size, 1, none⟩ (.slice ka kn kc)).setCell ⟨w.heap.size, 2, none⟩ (.slice va vn vc)).setCell ⟨w.heap.size, 3, none⟩ (.int .u64 fl)).setCell ⟨w.heap.size, 4, none⟩ (.int .i64 ex)).setCell ⟨w.heap.size, 5, none⟩ (.int .i64 to)).setCell ⟨w.heap.size, 6, none⟩ (.int .u64 tk)).setCell ⟨w.heap.size, 7, none⟩ (.int .i64 st)).setCell ⟨w.heap.size, 8, none⟩ (.int .i64 mk)).setCell ⟨w.heap.size, 9, none⟩ (.int .u64 l0)).setCell ⟨w.heap.size, 10, none⟩ (.int .u64 l1)).setCell ⟨w.heap.size, 11, none⟩ (.int .u64 l2)) = V at *
  have x0 := hb4.cell 0
  have x1 := hb4.cell 1
  have x2 := hb4.cell 2
  have x3 := hb4.cell 3
  have x4 := hb4.cell 4
  have x5 := hb4.cell 5
  have x6 := hb4.cell 6
  have x7 := hb4.cell 7
  have x8 := hb4.cell 8
  have x9 := hb4.cell 9
  have x10 := hb4.cell 10
  have x11 := hb4.cell 11
  simp at x0 x1 x2 x3 x4 x5 x6 x7 x8 x9 x10 x11
  exact bodyPost_ret (v := .tuple #[.agg #[.bool la, .slice ka kn kc, .slice va vn vc, .int .u64 fl, .int .i64 ex, .int .i64 to, .int .u64 tk, .int .i64 st, .int .i64 mk, .int .u64 l0, .int .u64 l1, .int .u64 l2], .int .i64 0]) (by simp [results, Tryz.results11, go_sem, x0, x1, x2, x3, x4, x5, x6, x7, x8, x9, x10, x11]) rfl ⟨rfl, hF⟩
end
end Go.Proofs.YtdlaanigfhlolaaGreat

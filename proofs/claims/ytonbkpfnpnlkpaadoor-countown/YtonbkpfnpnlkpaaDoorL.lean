/-
  A board: Command.
-/
import Derived.Test.YtonbkpfnpnlkpaaDoorG
import Derived.Test.YtonbkpfnpnlkpaaDoorH
namespace Go.Proofs.YtonbkpfnpnlkpaaDoor
open Go.RowKit Go.MuLone
set_option linter.unusedVariables false
set_option linter.unusedSimpArgs false
attribute [local go_sem] Oper.semAt_some

/-- All that a command adds. -/
def cmdD (c : Cm) (a : An) (fl : List Fl) (why : List Int) (m : Mt) : Cn :=
  Cn.add (workD m) (dl (wh (a.kind == 11) [23] ++ cmdL c.verb a.kind (code a) fl why))
set_option maxRecDepth 100000 in
set_option maxHeartbeats 4000000 in
theorem command_19 (b : Nat) (N : Cn) (c : Cm) (a : An) (y : Value) (fl : List Fl) (why : List Int) (m : Mt) (w : World) (hB : Bd w b 0 N) (hN : Fit N) (ha : a.Ok) (hm : Flgs w c.mt fl) (ho : Off c.mt (· = b)) (hy : Ints w y why) (hyo : Off y (· = b)) (hmo : m.Ok) :
    Calls Tryd.prog 19 #[.pointer (some ⟨b, 0, none⟩), cmV c, anV a, y, mtV m] w fun e w' => e = .returned (.tuple #[]) ∧ Bd w' b 0 (plus N (cmdD c a fl why m)) ∧ Kp (· = b) w w' := by
  have h42 := fun M W => command_42 b 1 M c a y fl why W
  have h40 := fun W => work_40 b 1 N m W
  have ha0 := ha
  unfold cmdD
  generalize code a = cd at *
  obtain ⟨ak, en, nu, tx, st⟩ := a
  obtain ⟨⟨x1, n1, c1, e1⟩, ⟨n2, e2⟩, ⟨x3, n3, c3, e3⟩, hl⟩ := ha
  simp only at e1 e2 e3 hl
  subst e1 e2 e3
  obtain ⟨v, ka, kn, kc, fl1, ex, tk, de, da, dn, dc, nr, lg, ma, mn, mc, what⟩ := c
  simp only [Cm.mt] at hm ho h42
  have hmo0 := hmo
  obtain ⟨dr, re, bu, li, lo, cr⟩ := m
  have g1 := World.grownBy_alloc w (.cells (cmA ⟨v, ka, kn, kc, fl1, ex, tk, de, da, dn, dc, nr, lg, ma, mn, mc, what⟩) 35) none
  have g2 := World.grownBy_alloc (w.alloc (.cells (cmA ⟨v, ka, kn, kc, fl1, ex, tk, de, da, dn, dc, nr, lg, ma, mn, mc, what⟩) 35)) (.cells (anA ⟨ak, .slice x1 n1 c1, .int .u64 n2, tx, .slice x3 n3 c3⟩) 39) none
  have g3 := World.grownBy_alloc ((w.alloc (.cells (cmA ⟨v, ka, kn, kc, fl1, ex, tk, de, da, dn, dc, nr, lg, ma, mn, mc, what⟩) 35)).alloc (.cells (anA ⟨ak, .slice x1 n1 c1, .int .u64 n2, tx, .slice x3 n3 c3⟩) 39)) (.cells (mtA ⟨dr, re, bu, li, lo, cr⟩) 42) none
  have b1 := ((Box.new w 35 (cmA ⟨v, ka, kn, kc, fl1, ex, tk, de, da, dn, dc, nr, lg, ma, mn, mc, what⟩)).kept g2 (by simp)).kept g3 (by simp)
  have b2 := (Box.new (w.alloc (.cells (cmA ⟨v, ka, kn, kc, fl1, ex, tk, de, da, dn, dc, nr, lg, ma, mn, mc, what⟩) 35)) 39 (anA ⟨ak, .slice x1 n1 c1, .int .u64 n2, tx, .slice x3 n3 c3⟩)).kept g3 (by simp)
  have b3 := Box.new ((w.alloc (.cells (cmA ⟨v, ka, kn, kc, fl1, ex, tk, de, da, dn, dc, nr, lg, ma, mn, mc, what⟩) 35)).alloc (.cells (anA ⟨ak, .slice x1 n1 c1, .int .u64 n2, tx, .slice x3 n3 c3⟩) 39)) 42 (mtA ⟨dr, re, bu, li, lo, cr⟩)
  rw [show (w.alloc (.cells (cmA ⟨v, ka, kn, kc, fl1, ex, tk, de, da, dn, dc, nr, lg, ma, mn, mc, what⟩) 35)).heap.size = w.heap.size + 1 from by simp] at b2
  rw [show ((w.alloc (.cells (cmA ⟨v, ka, kn, kc, fl1, ex, tk, de, da, dn, dc, nr, lg, ma, mn, mc, what⟩) 35)).alloc (.cells (anA ⟨ak, .slice x1 n1 c1, .int .u64 n2, tx, .slice x3 n3 c3⟩) 39)).heap.size = w.heap.size + 1 + 1 from by simp] at b3
  have g := gb_trans (gb_trans g1 g2) g3
  have hne1 : ¬ w.heap.size = b := by have := hB.lt; omega
  have hne2 : ¬ w.heap.size + 1 = b := by have := hB.lt; omega
  have hne3 : ¬ w.heap.size + 1 + 1 = b := by have := hB.lt; omega
  generalize hW : (((w.alloc (.cells (cmA ⟨v, ka, kn, kc, fl1, ex, tk, de, da, dn, dc, nr, lg, ma, mn, mc, what⟩) 35)).alloc (.cells (anA ⟨ak, .slice x1 n1 c1, .int .u64 n2, tx, .slice x3 n3 c3⟩) 39))).alloc (.cells (mtA ⟨dr, re, bu, li, lo, cr⟩) 42) = W at *
  have B0 : Bd W b 0 N := Box.kept hB g (by simp)
  have K0 : Kp (· = b) w W := Kp.of g
  have hl0 := B0.lock
  have hf0 := B0.fz 0
  have B1 := B0.setLock 1
  have K1 := K0.then (Kp.setCell W b 0 (.int .i32 1))
  have z1 := (Kp.setCell W b 0 (.int .i32 1)).box b1 hne1
  have z2 := (Kp.setCell W b 0 (.int .i32 1)).box b2 hne2
  have z3 := (Kp.setCell W b 0 (.int .i32 1)).box b3 hne3
  have m1 := hm.kept K1 ho
  have y1 := hy.kept K1 hyo
  go_enter_defers Tryd.func19, Tryd.ntmps19
  go_wp2_with (go_at_call 36; refine (lock_free Tryd.muLib ⟨b, 0, none⟩ _ hl0 hf0).mono ?_; rintro e w' ⟨rfl, rfl⟩)
  clear hW b1 b2 b3 g1 g2 g3 g hl0 hf0 B0 K0
  generalize W.setCell ⟨b, 0, none⟩ (.int .i32 1) = W1 at *
  have r0 : W1.cell? ⟨w.heap.size + 1 + 1, 0, none⟩ = some (.int .i64 dr) := z3.cell 0
  have r1 : W1.cell? ⟨w.heap.size + 1 + 1, 1, none⟩ = some (.int .i64 re) := z3.cell 1
  have r2 : W1.cell? ⟨w.heap.size + 1 + 1, 2, none⟩ = some (.int .i64 bu) := z3.cell 2
  have r3 : W1.cell? ⟨w.heap.size + 1 + 1, 3, none⟩ = some (.int .i64 li) := z3.cell 3
  have r4 : W1.cell? ⟨w.heap.size + 1 + 1, 4, none⟩ = some (.int .i64 lo) := z3.cell 4
  have r5 : W1.cell? ⟨w.heap.size + 1 + 1, 5, none⟩ = some (.int .i64 cr) := z3.cell 5
  have h40' := fun (X : World) (hX : W1.grownBy X none) => h40 X (Box.kept B1 hX (by simp)) hN hmo0
  clear h40
  go_region_held3 (fun X => X.cell? ⟨w.heap.size + 1 + 1, 0, none⟩ = some (.int .i64 dr) ∧ X.cell? ⟨w.heap.size + 1 + 1, 1, none⟩ = some (.int .i64 re) ∧ X.cell? ⟨w.heap.size + 1 + 1, 2, none⟩ = some (.int .i64 bu) ∧ X.cell? ⟨w.heap.size + 1 + 1, 3, none⟩ = some (.int .i64 li) ∧ X.cell? ⟨w.heap.size + 1 + 1, 4, none⟩ = some (.int .i64 lo) ∧ X.cell? ⟨w.heap.size + 1 + 1, 5, none⟩ = some (.int .i64 cr)) ((first | exact ⟨hk2.cell r0 hne3, hk2.cell r1 hne3, hk2.cell r2 hne3, hk2.cell r3 hne3, hk2.cell r4 hne3, hk2.cell r5 hne3⟩ | go_keep)) ((first | (go_at_call 40; (first | (with_reducible refine (h40' _ (gb_drew (gb_refl _ _))).mono ?_) | (with_reducible refine (h40' _ (gb_drewN (gb_refl _ _) _)).mono ?_) | (with_reducible refine (h40' _ (gb_refl _ _)).mono ?_) | (with_reducible refine (h40' _ (gb_drewN (gb_drew (gb_refl _ _)) _)).mono ?_)); rintro e2 W2 ⟨rfl, B2, hk2⟩)))
  have K2 := K1.then ((Kp.drew _ _).then hk2)
  have z1b := hk2.box (Kp.box (Kp.drew (fun _ => False) W1) z1 (fun h => h)) hne1
  have z2b := hk2.box (Kp.box (Kp.drew (fun _ => False) W1) z2 (fun h => h)) hne2
  have q0 : W2.cell? ⟨w.heap.size + 1, 0, none⟩ = some (.int .i64 ak) := z2b.cell 0
  clear h40' hk2 z1 z2 z3 r0 r1 r2 r3 r4 r5
  go_wp2_with fail
  have hnw : ¬ W2.heap.size = w.heap.size + 1 := by have := z2b.lt; omega
  have hnw2 : ¬ w.heap.size + 1 = W2.heap.size := by omega
  have h41 := fun h => when1 b 1 (plus N (workD ⟨dr, re, bu, li, lo, cr⟩)) h 23 23 rfl (by omega) W2 B2 (plus_fit _ _)
  have h41a : ∀ h, Calls Tryd.prog 41 #[.pointer (some ⟨b, 2, none⟩), .bool h, .slice (some ⟨W2.heap.size, 0, none⟩) 1 1] (W2.alloc (.cells #[.int .i64 23] 3)).drew _ := fun h => when1 b 1 (plus N (workD ⟨dr, re, bu, li, lo, cr⟩)) h 23 23 rfl (by omega) W2.drew B2 (plus_fit _ _)
  go_region_held3 (fun X => X.cell? ⟨w.heap.size + 1, 0, none⟩ = some (.int .i64 ak)) ((first | exact hk3.cell q0 hne2 | go_keep)) ((first | (go_at_call 41; (first | (with_reducible refine (h41a _).mono ?_) | (with_reducible refine (h41 _).mono ?_)); rintro e3 W3 ⟨rfl, B3, hk3⟩)))
  have K3 : Kp (· = b) w W3 := K2.then ((Kp.drew _ _).then hk3)
  have z1 := hk3.box (Kp.box (Kp.drew (fun _ => False) W2) z1b (fun h => h)) hne1
  have z2 := hk3.box (Kp.box (Kp.drew (fun _ => False) W2) z2b (fun h => h)) hne2
  clear h41 h41a q0 hk3 z1b z2b hnw hnw2
  have p0 : W3.cell? ⟨w.heap.size, 0, none⟩ = some (.int .i64 v) := z1.cell 0
  have p1 : W3.cell? ⟨w.heap.size, 1, none⟩ = some (.slice ka kn kc) := z1.cell 1
  have p2 : W3.cell? ⟨w.heap.size, 2, none⟩ = some (.int .u64 fl1) := z1.cell 2
  have p3 : W3.cell? ⟨w.heap.size, 3, none⟩ = some (.int .i64 ex) := z1.cell 3
  have p4 : W3.cell? ⟨w.heap.size, 4, none⟩ = some (.int .u64 tk) := z1.cell 4
  have p5 : W3.cell? ⟨w.heap.size, 5, none⟩ = some (.int .u64 de) := z1.cell 5
  have p6 : W3.cell? ⟨w.heap.size, 6, none⟩ = some (.slice da dn dc) := z1.cell 6
  have p7 : W3.cell? ⟨w.heap.size, 7, none⟩ = some (.bool nr) := z1.cell 7
  have p8 : W3.cell? ⟨w.heap.size, 8, none⟩ = some (.bool lg) := z1.cell 8
  have p9 : W3.cell? ⟨w.heap.size, 9, none⟩ = some (.slice ma mn mc) := z1.cell 9
  have p10 : W3.cell? ⟨w.heap.size, 10, none⟩ = some (.string what) := z1.cell 10
  have q0 : W3.cell? ⟨w.heap.size + 1, 0, none⟩ = some (.int .i64 ak) := z2.cell 0
  have q1 : W3.cell? ⟨w.heap.size + 1, 1, none⟩ = some (.slice x1 n1 c1) := z2.cell 1
  have q2 : W3.cell? ⟨w.heap.size + 1, 2, none⟩ = some (.int .u64 n2) := z2.cell 2
  have q3 : W3.cell? ⟨w.heap.size + 1, 3, none⟩ = some (sv tx) := z2.cell 3
  have q4 : W3.cell? ⟨w.heap.size + 1, 4, none⟩ = some (.slice x3 n3 c3) := z2.cell 4
  have m3 := hm.kept K3 ho
  have y3 := hy.kept K3 hyo
  have h42' := fun (X : World) (hX : W3.grownBy X none) => h42 _ X (Box.kept B3 hX (by simp)) (plus_fit _ _) ha0 (m3.kept (Kp.of (F := (· = b)) hX) ho) ho (y3.kept (Kp.of (F := (· = b)) hX) hyo) hyo
  clear h42
  go_wp2_with fail
  go_region_held3 (fun X => X.cell? ⟨w.heap.size, 0, none⟩ = some (.int .i64 v) ∧ X.cell? ⟨w.heap.size, 1, none⟩ = some (.slice ka kn kc) ∧ X.cell? ⟨w.heap.size, 2, none⟩ = some (.int .u64 fl1) ∧ X.cell? ⟨w.heap.size, 3, none⟩ = some (.int .i64 ex) ∧ X.cell? ⟨w.heap.size, 4, none⟩ = some (.int .u64 tk) ∧ X.cell? ⟨w.heap.size, 5, none⟩ = some (.int .u64 de) ∧ X.cell? ⟨w.heap.size, 6, none⟩ = some (.slice da dn dc) ∧ X.cell? ⟨w.heap.size, 7, none⟩ = some (.bool nr) ∧ X.cell? ⟨w.heap.size, 8, none⟩ = some (.bool lg) ∧ X.cell? ⟨w.heap.size, 9, none⟩ = some (.slice ma mn mc) ∧ X.cell? ⟨w.heap.size, 10, none⟩ = some (.string what) ∧ X.cell? ⟨w.heap.size + 1, 0, none⟩ = some (.int .i64 ak) ∧ X.cell? ⟨w.heap.size + 1, 1, none⟩ = some (.slice x1 n1 c1) ∧ X.cell? ⟨w.heap.size + 1, 2, none⟩ = some (.int .u64 n2) ∧ X.cell? ⟨w.heap.size + 1, 3, none⟩ = some (sv tx) ∧ X.cell? ⟨w.heap.size + 1, 4, none⟩ = some (.slice x3 n3 c3)) ((first | exact ⟨hk4.cell p0 hne1, hk4.cell p1 hne1, hk4.cell p2 hne1, hk4.cell p3 hne1, hk4.cell p4 hne1, hk4.cell p5 hne1, hk4.cell p6 hne1, hk4.cell p7 hne1, hk4.cell p8 hne1, hk4.cell p9 hne1, hk4.cell p10 hne1, hk4.cell q0 hne2, hk4.cell q1 hne2, hk4.cell q2 hne2, hk4.cell q3 hne2, hk4.cell q4 hne2⟩ | go_keep)) ((first | (go_at_call 42; (first | (with_reducible refine (h42' _ (gb_drew (gb_refl _ _))).mono ?_) | (with_reducible refine (h42' _ (gb_drewN (gb_refl _ _) _)).mono ?_) | (with_reducible refine (h42' _ (gb_refl _ _)).mono ?_) | (with_reducible refine (h42' _ (gb_drewN (gb_drew (gb_refl _ _)) _)).mono ?_)); rintro e4 W4 ⟨rfl, B4, hk4⟩)))
  have K4 : Kp (· = b) w W4 := K3.then ((Kp.drew _ _).then hk4)
  rw [plus_plus, plus_plus] at B4
  have B5 : Bd W4 b 1 (plus N (Cn.add (workD ⟨dr, re, bu, li, lo, cr⟩) (dl (wh (ak == 11) [23] ++ cmdL v ak cd fl why)))) := by rw [← dl_app]; exact B4
  have hl2 := B5.lock
  have hf2 := B5.fz 0
  clear B4 h42'
  go_wp2
  refine leaves_cons (f := 37) (args := #[.pointer (some ⟨b, 0, none⟩)]) (by simp) (by simp [go_sem]) ?_
  refine (unlock_deferred Tryd.muLib ⟨b, 0, none⟩ .returning _ hl2 hf2).mono ?_
  rintro e u' w'' ⟨rfl, rfl, rfl⟩
  exact ⟨_, results_none rfl _ _ _, rfl, B5.setLock 0, K4.then (Kp.setCell _ b 0 _)⟩
end Go.Proofs.YtonbkpfnpnlkpaaDoor

/-
  The tally: a command.
-/
import Derived.Test.YtonbkpfnpnlkpaaDoorF
namespace Go.Proofs.YtonbkpfnpnlkpaaDoor
open Go.RowKit
set_option linter.unusedVariables false
set_option linter.unusedSimpArgs false
attribute [local go_sem] Oper.semAt_some

/-- A meter's numbers. -/
structure Mt where
  dr : Int
  re : Int
  bu : Int
  li : Int
  lo : Int
  cr : Int
abbrev mtA (m : Mt) : Array Value := #[.int .i64 m.dr, .int .i64 m.re, .int .i64 m.bu, .int .i64 m.li, .int .i64 m.lo, .int .i64 m.cr]
abbrev mtV (m : Mt) : Value := .agg (mtA m)
structure Mt.Ok (m : Mt) : Prop where
  dr : m.dr ≤ 9223372036854775807
  re : m.re ≤ 9223372036854775807
  cr : m.cr ≤ 9223372036854775807
def workD (m : Mt) : Cn := Cn.add (sgl 21 m.dr.toNat) (Cn.add (sgl 22 m.re.toNat) (sgl 29 m.cr.toNat))
set_option maxRecDepth 100000 in
set_option maxHeartbeats 4000000 in
theorem work_40 (b : Nat) (k : Int) (N : Cn) (m : Mt) (w : World) (hB : Bd w b k N) (hN : Fit N) (hm : m.Ok) :
    Calls Tryd.prog 40 #[.pointer (some ⟨b, 2, none⟩), mtV m] w fun e w' => e = .returned (.tuple #[]) ∧ Bd w' b k (plus N (workD m)) ∧ Kp (· = b) w w' := by
  obtain ⟨dr, re, bu, li, lo, cr⟩ := m
  have g1 := World.grownBy_alloc w (.cells (mtA ⟨dr, re, bu, li, lo, cr⟩) 42) none
  have b1 := Box.new w 42 (mtA ⟨dr, re, bu, li, lo, cr⟩)
  have B1 : Bd _ b k N := Box.kept hB g1 (by simp)
  have p0 : World.cell? _ ⟨w.heap.size, 0, none⟩ = some (.int .i64 dr) := b1.cell 0
  have p1 : World.cell? _ ⟨w.heap.size, 1, none⟩ = some (.int .i64 re) := b1.cell 1
  have p5 : World.cell? _ ⟨w.heap.size, 5, none⟩ = some (.int .i64 cr) := b1.cell 5
  have hne : ¬ w.heap.size = b := by have := hB.lt; omega
  have h1 := hm.dr
  have h2 := hm.re
  have h3 := hm.cr
  simp only at h1 h2 h3
  go_enter Tryd.func40, Tryd.ntmps40
  go_wp2_with fail
  refine (some_59 b k _ 21 21 dr rfl (by omega) h1 _ B1 hN).mono ?_
  rintro e w1 ⟨rfl, hb1, hk1⟩
  have q1 := hk1.cell p1 hne
  have q5 := hk1.cell p5 hne
  go_wp2_with fail
  refine (some_59 b k _ 22 22 re rfl (by omega) h2 _ hb1 (plus_fit _ _)).mono ?_
  rintro e w2 ⟨rfl, hb2, hk2⟩
  have r5 := hk2.cell q5 hne
  go_wp2_with fail
  refine (some_59 b k _ 29 29 cr rfl (by omega) h3 _ hb2 (plus_fit _ _)).mono ?_
  rintro e w3 ⟨rfl, hb3, hk3⟩
  go_wp2
  go_end0
  refine ⟨rfl, ?_, (((Kp.of g1).then hk1).then hk2).then hk3⟩
  rw [plus_plus, plus_plus] at hb3
  exact hb3
/-- What a command adds, beside work and refusals. -/
def cmdL (v : Int) (ak : Int) (cd : Bs) (fl : List Fl) (why : List Int) : List Nat :=
  if v = 1 ∨ v = 2 then keysL why
  else if v = 3 ∨ v = 4 then keysL why ++ touchesL why
  else if 20 ≤ v ∧ v ≤ 24 then [5] ++ metaL v (why.headD (-1)) ak cd fl
  else ansL v ak
set_option maxRecDepth 100000 in
set_option maxHeartbeats 4000000 in
theorem command_42_1 (b : Nat) (k : Int) (N : Cn) (c : Cm) (a : An) (y : Value) (fl : List Fl) (why : List Int) (w : World) (hB : Bd w b k N) (hN : Fit N) (ha : a.Ok) (hm : Flgs w c.mt fl) (ho : Off c.mt (· = b)) (hy : Ints w y why) (hyo : Off y (· = b)) (hv : c.verb = 1) :
    Calls Tryd.prog 42 #[.pointer (some ⟨b, 2, none⟩), cmV c, anV a, y] w fun e w' => e = .returned (.tuple #[]) ∧ Bd w' b k (plus N (dl (cmdL c.verb a.kind (code a) fl why))) ∧ Kp (· = b) w w' := by
  obtain ⟨y0, hy0⟩ : ∃ y0, why.headD (-1) = y0 := ⟨_, rfl⟩
  have h63 := meta_63 b k (plus N (dl [5])) c a y0 fl
  generalize code a = cd at *
  have ha0 := ha
  obtain ⟨ak, en, nu, tx, st⟩ := a
  obtain ⟨⟨x1, n1, c1, e1⟩, ⟨n2, e2⟩, ⟨x3, n3, c3, e3⟩, hl⟩ := ha
  simp only at e1 e2 e3 hl
  subst e1 e2 e3
  obtain ⟨v, ka, kn, kc, fl1, ex, tk, de, da, dn, dc, nr, lg, ma, mn, mc, what⟩ := c
  simp only [Cm.mt] at *
  subst hv
  have g1 := World.grownBy_alloc w (.cells (cmA ⟨1, ka, kn, kc, fl1, ex, tk, de, da, dn, dc, nr, lg, ma, mn, mc, what⟩) 35) none
  have g2 := World.grownBy_alloc (w.alloc (.cells (cmA ⟨1, ka, kn, kc, fl1, ex, tk, de, da, dn, dc, nr, lg, ma, mn, mc, what⟩) 35)) (.cells (anA ⟨ak, .slice x1 n1 c1, .int .u64 n2, tx, .slice x3 n3 c3⟩) 39) none
  have b1 := (Box.new w 35 (cmA ⟨1, ka, kn, kc, fl1, ex, tk, de, da, dn, dc, nr, lg, ma, mn, mc, what⟩)).kept g2 (by simp)
  have b2 := Box.new (w.alloc (.cells (cmA ⟨1, ka, kn, kc, fl1, ex, tk, de, da, dn, dc, nr, lg, ma, mn, mc, what⟩) 35)) 39 (anA ⟨ak, .slice x1 n1 c1, .int .u64 n2, tx, .slice x3 n3 c3⟩)
  rw [show (w.alloc (.cells (cmA ⟨1, ka, kn, kc, fl1, ex, tk, de, da, dn, dc, nr, lg, ma, mn, mc, what⟩) 35)).heap.size = w.heap.size + 1 from by simp] at b2
  have g12 := gb_trans g1 g2
  have hne1 : ¬ w.heap.size = b := by have := hB.lt; omega
  have hne2 : ¬ w.heap.size + 1 = b := by have := hB.lt; omega
  have B1 : Bd ((w.alloc (.cells (cmA ⟨1, ka, kn, kc, fl1, ex, tk, de, da, dn, dc, nr, lg, ma, mn, mc, what⟩) 35)).alloc (.cells (anA ⟨ak, .slice x1 n1 c1, .int .u64 n2, tx, .slice x3 n3 c3⟩) 39)) b k N := Box.kept hB g12 (by simp)
  have K1 : Kp (· = b) w ((w.alloc (.cells (cmA ⟨1, ka, kn, kc, fl1, ex, tk, de, da, dn, dc, nr, lg, ma, mn, mc, what⟩) 35)).alloc (.cells (anA ⟨ak, .slice x1 n1 c1, .int .u64 n2, tx, .slice x3 n3 c3⟩) 39)) := Kp.of g12
  have m1 := hm.kept K1 ho
  have y1 := hy.kept K1 hyo
  have hsz : w.heap.size + 1 + 1 = (((w.alloc (.cells (cmA ⟨1, ka, kn, kc, fl1, ex, tk, de, da, dn, dc, nr, lg, ma, mn, mc, what⟩) 35)).alloc (.cells (anA ⟨ak, .slice x1 n1 c1, .int .u64 n2, tx, .slice x3 n3 c3⟩) 39))).heap.size := by simp
  have p0 : World.cell? _ ⟨w.heap.size, 0, none⟩ = some (.int .i64 1) := b1.cell 0
  have q0 : World.cell? _ ⟨w.heap.size + 1, 0, none⟩ = some (.int .i64 ak) := b2.cell 0
  go_enter Tryd.func42, Tryd.ntmps42
  go_wp2_with fail
  generalize ((w.alloc (.cells (cmA ⟨1, ka, kn, kc, fl1, ex, tk, de, da, dn, dc, nr, lg, ma, mn, mc, what⟩) 35)).alloc (.cells (anA ⟨ak, .slice x1 n1 c1, .int .u64 n2, tx, .slice x3 n3 c3⟩) 39)) = W at *
  refine (keys_60 b k N y why _ B1 hN y1 hyo).mono ?_
  rintro e w1 ⟨rfl, hb1, hk1⟩
  go_wp2
  go_end0
  exact ⟨rfl, hb1, K1.then hk1⟩
set_option maxRecDepth 100000 in
set_option maxHeartbeats 4000000 in
theorem command_42_2 (b : Nat) (k : Int) (N : Cn) (c : Cm) (a : An) (y : Value) (fl : List Fl) (why : List Int) (w : World) (hB : Bd w b k N) (hN : Fit N) (ha : a.Ok) (hm : Flgs w c.mt fl) (ho : Off c.mt (· = b)) (hy : Ints w y why) (hyo : Off y (· = b)) (hv : c.verb = 2) :
    Calls Tryd.prog 42 #[.pointer (some ⟨b, 2, none⟩), cmV c, anV a, y] w fun e w' => e = .returned (.tuple #[]) ∧ Bd w' b k (plus N (dl (cmdL c.verb a.kind (code a) fl why))) ∧ Kp (· = b) w w' := by
  obtain ⟨y0, hy0⟩ : ∃ y0, why.headD (-1) = y0 := ⟨_, rfl⟩
  have h63 := meta_63 b k (plus N (dl [5])) c a y0 fl
  generalize code a = cd at *
  have ha0 := ha
  obtain ⟨ak, en, nu, tx, st⟩ := a
  obtain ⟨⟨x1, n1, c1, e1⟩, ⟨n2, e2⟩, ⟨x3, n3, c3, e3⟩, hl⟩ := ha
  simp only at e1 e2 e3 hl
  subst e1 e2 e3
  obtain ⟨v, ka, kn, kc, fl1, ex, tk, de, da, dn, dc, nr, lg, ma, mn, mc, what⟩ := c
  simp only [Cm.mt] at *
  subst hv
  have g1 := World.grownBy_alloc w (.cells (cmA ⟨2, ka, kn, kc, fl1, ex, tk, de, da, dn, dc, nr, lg, ma, mn, mc, what⟩) 35) none
  have g2 := World.grownBy_alloc (w.alloc (.cells (cmA ⟨2, ka, kn, kc, fl1, ex, tk, de, da, dn, dc, nr, lg, ma, mn, mc, what⟩) 35)) (.cells (anA ⟨ak, .slice x1 n1 c1, .int .u64 n2, tx, .slice x3 n3 c3⟩) 39) none
  have b1 := (Box.new w 35 (cmA ⟨2, ka, kn, kc, fl1, ex, tk, de, da, dn, dc, nr, lg, ma, mn, mc, what⟩)).kept g2 (by simp)
  have b2 := Box.new (w.alloc (.cells (cmA ⟨2, ka, kn, kc, fl1, ex, tk, de, da, dn, dc, nr, lg, ma, mn, mc, what⟩) 35)) 39 (anA ⟨ak, .slice x1 n1 c1, .int .u64 n2, tx, .slice x3 n3 c3⟩)
  rw [show (w.alloc (.cells (cmA ⟨2, ka, kn, kc, fl1, ex, tk, de, da, dn, dc, nr, lg, ma, mn, mc, what⟩) 35)).heap.size = w.heap.size + 1 from by simp] at b2
  have g12 := gb_trans g1 g2
  have hne1 : ¬ w.heap.size = b := by have := hB.lt; omega
  have hne2 : ¬ w.heap.size + 1 = b := by have := hB.lt; omega
  have B1 : Bd ((w.alloc (.cells (cmA ⟨2, ka, kn, kc, fl1, ex, tk, de, da, dn, dc, nr, lg, ma, mn, mc, what⟩) 35)).alloc (.cells (anA ⟨ak, .slice x1 n1 c1, .int .u64 n2, tx, .slice x3 n3 c3⟩) 39)) b k N := Box.kept hB g12 (by simp)
  have K1 : Kp (· = b) w ((w.alloc (.cells (cmA ⟨2, ka, kn, kc, fl1, ex, tk, de, da, dn, dc, nr, lg, ma, mn, mc, what⟩) 35)).alloc (.cells (anA ⟨ak, .slice x1 n1 c1, .int .u64 n2, tx, .slice x3 n3 c3⟩) 39)) := Kp.of g12
  have m1 := hm.kept K1 ho
  have y1 := hy.kept K1 hyo
  have hsz : w.heap.size + 1 + 1 = (((w.alloc (.cells (cmA ⟨2, ka, kn, kc, fl1, ex, tk, de, da, dn, dc, nr, lg, ma, mn, mc, what⟩) 35)).alloc (.cells (anA ⟨ak, .slice x1 n1 c1, .int .u64 n2, tx, .slice x3 n3 c3⟩) 39))).heap.size := by simp
  have p0 : World.cell? _ ⟨w.heap.size, 0, none⟩ = some (.int .i64 2) := b1.cell 0
  have q0 : World.cell? _ ⟨w.heap.size + 1, 0, none⟩ = some (.int .i64 ak) := b2.cell 0
  go_enter Tryd.func42, Tryd.ntmps42
  go_wp2_with fail
  generalize ((w.alloc (.cells (cmA ⟨2, ka, kn, kc, fl1, ex, tk, de, da, dn, dc, nr, lg, ma, mn, mc, what⟩) 35)).alloc (.cells (anA ⟨ak, .slice x1 n1 c1, .int .u64 n2, tx, .slice x3 n3 c3⟩) 39)) = W at *
  refine (keys_60 b k N y why _ B1 hN y1 hyo).mono ?_
  rintro e w1 ⟨rfl, hb1, hk1⟩
  go_wp2
  go_end0
  exact ⟨rfl, hb1, K1.then hk1⟩
set_option maxRecDepth 100000 in
set_option maxHeartbeats 4000000 in
theorem command_42_3 (b : Nat) (k : Int) (N : Cn) (c : Cm) (a : An) (y : Value) (fl : List Fl) (why : List Int) (w : World) (hB : Bd w b k N) (hN : Fit N) (ha : a.Ok) (hm : Flgs w c.mt fl) (ho : Off c.mt (· = b)) (hy : Ints w y why) (hyo : Off y (· = b)) (hv : c.verb = 3) :
    Calls Tryd.prog 42 #[.pointer (some ⟨b, 2, none⟩), cmV c, anV a, y] w fun e w' => e = .returned (.tuple #[]) ∧ Bd w' b k (plus N (dl (cmdL c.verb a.kind (code a) fl why))) ∧ Kp (· = b) w w' := by
  obtain ⟨y0, hy0⟩ : ∃ y0, why.headD (-1) = y0 := ⟨_, rfl⟩
  have h63 := meta_63 b k (plus N (dl [5])) c a y0 fl
  generalize code a = cd at *
  have ha0 := ha
  obtain ⟨ak, en, nu, tx, st⟩ := a
  obtain ⟨⟨x1, n1, c1, e1⟩, ⟨n2, e2⟩, ⟨x3, n3, c3, e3⟩, hl⟩ := ha
  simp only at e1 e2 e3 hl
  subst e1 e2 e3
  obtain ⟨v, ka, kn, kc, fl1, ex, tk, de, da, dn, dc, nr, lg, ma, mn, mc, what⟩ := c
  simp only [Cm.mt] at *
  subst hv
  have g1 := World.grownBy_alloc w (.cells (cmA ⟨3, ka, kn, kc, fl1, ex, tk, de, da, dn, dc, nr, lg, ma, mn, mc, what⟩) 35) none
  have g2 := World.grownBy_alloc (w.alloc (.cells (cmA ⟨3, ka, kn, kc, fl1, ex, tk, de, da, dn, dc, nr, lg, ma, mn, mc, what⟩) 35)) (.cells (anA ⟨ak, .slice x1 n1 c1, .int .u64 n2, tx, .slice x3 n3 c3⟩) 39) none
  have b1 := (Box.new w 35 (cmA ⟨3, ka, kn, kc, fl1, ex, tk, de, da, dn, dc, nr, lg, ma, mn, mc, what⟩)).kept g2 (by simp)
  have b2 := Box.new (w.alloc (.cells (cmA ⟨3, ka, kn, kc, fl1, ex, tk, de, da, dn, dc, nr, lg, ma, mn, mc, what⟩) 35)) 39 (anA ⟨ak, .slice x1 n1 c1, .int .u64 n2, tx, .slice x3 n3 c3⟩)
  rw [show (w.alloc (.cells (cmA ⟨3, ka, kn, kc, fl1, ex, tk, de, da, dn, dc, nr, lg, ma, mn, mc, what⟩) 35)).heap.size = w.heap.size + 1 from by simp] at b2
  have g12 := gb_trans g1 g2
  have hne1 : ¬ w.heap.size = b := by have := hB.lt; omega
  have hne2 : ¬ w.heap.size + 1 = b := by have := hB.lt; omega
  have B1 : Bd ((w.alloc (.cells (cmA ⟨3, ka, kn, kc, fl1, ex, tk, de, da, dn, dc, nr, lg, ma, mn, mc, what⟩) 35)).alloc (.cells (anA ⟨ak, .slice x1 n1 c1, .int .u64 n2, tx, .slice x3 n3 c3⟩) 39)) b k N := Box.kept hB g12 (by simp)
  have K1 : Kp (· = b) w ((w.alloc (.cells (cmA ⟨3, ka, kn, kc, fl1, ex, tk, de, da, dn, dc, nr, lg, ma, mn, mc, what⟩) 35)).alloc (.cells (anA ⟨ak, .slice x1 n1 c1, .int .u64 n2, tx, .slice x3 n3 c3⟩) 39)) := Kp.of g12
  have m1 := hm.kept K1 ho
  have y1 := hy.kept K1 hyo
  have hsz : w.heap.size + 1 + 1 = (((w.alloc (.cells (cmA ⟨3, ka, kn, kc, fl1, ex, tk, de, da, dn, dc, nr, lg, ma, mn, mc, what⟩) 35)).alloc (.cells (anA ⟨ak, .slice x1 n1 c1, .int .u64 n2, tx, .slice x3 n3 c3⟩) 39))).heap.size := by simp
  have p0 : World.cell? _ ⟨w.heap.size, 0, none⟩ = some (.int .i64 3) := b1.cell 0
  have q0 : World.cell? _ ⟨w.heap.size + 1, 0, none⟩ = some (.int .i64 ak) := b2.cell 0
  go_enter Tryd.func42, Tryd.ntmps42
  go_wp2_with fail
  generalize ((w.alloc (.cells (cmA ⟨3, ka, kn, kc, fl1, ex, tk, de, da, dn, dc, nr, lg, ma, mn, mc, what⟩) 35)).alloc (.cells (anA ⟨ak, .slice x1 n1 c1, .int .u64 n2, tx, .slice x3 n3 c3⟩) 39)) = W at *
  refine (keys_60 b k N y why _ B1 hN y1 hyo).mono ?_
  rintro e w1 ⟨rfl, hb1, hk1⟩
  go_wp2_with fail
  refine (touches_61 b k _ y why _ hb1 (plus_fit _ _) (y1.kept hk1 hyo) hyo).mono ?_
  rintro e w2 ⟨rfl, hb2, hk2⟩
  go_wp2
  go_end0
  exact ⟨rfl, by rw [plus_dl] at hb2; exact hb2, (K1.then hk1).then hk2⟩
set_option maxRecDepth 100000 in
set_option maxHeartbeats 4000000 in
theorem command_42_4 (b : Nat) (k : Int) (N : Cn) (c : Cm) (a : An) (y : Value) (fl : List Fl) (why : List Int) (w : World) (hB : Bd w b k N) (hN : Fit N) (ha : a.Ok) (hm : Flgs w c.mt fl) (ho : Off c.mt (· = b)) (hy : Ints w y why) (hyo : Off y (· = b)) (hv : c.verb = 4) :
    Calls Tryd.prog 42 #[.pointer (some ⟨b, 2, none⟩), cmV c, anV a, y] w fun e w' => e = .returned (.tuple #[]) ∧ Bd w' b k (plus N (dl (cmdL c.verb a.kind (code a) fl why))) ∧ Kp (· = b) w w' := by
  obtain ⟨y0, hy0⟩ : ∃ y0, why.headD (-1) = y0 := ⟨_, rfl⟩
  have h63 := meta_63 b k (plus N (dl [5])) c a y0 fl
  generalize code a = cd at *
  have ha0 := ha
  obtain ⟨ak, en, nu, tx, st⟩ := a
  obtain ⟨⟨x1, n1, c1, e1⟩, ⟨n2, e2⟩, ⟨x3, n3, c3, e3⟩, hl⟩ := ha
  simp only at e1 e2 e3 hl
  subst e1 e2 e3
  obtain ⟨v, ka, kn, kc, fl1, ex, tk, de, da, dn, dc, nr, lg, ma, mn, mc, what⟩ := c
  simp only [Cm.mt] at *
  subst hv
  have g1 := World.grownBy_alloc w (.cells (cmA ⟨4, ka, kn, kc, fl1, ex, tk, de, da, dn, dc, nr, lg, ma, mn, mc, what⟩) 35) none
  have g2 := World.grownBy_alloc (w.alloc (.cells (cmA ⟨4, ka, kn, kc, fl1, ex, tk, de, da, dn, dc, nr, lg, ma, mn, mc, what⟩) 35)) (.cells (anA ⟨ak, .slice x1 n1 c1, .int .u64 n2, tx, .slice x3 n3 c3⟩) 39) none
  have b1 := (Box.new w 35 (cmA ⟨4, ka, kn, kc, fl1, ex, tk, de, da, dn, dc, nr, lg, ma, mn, mc, what⟩)).kept g2 (by simp)
  have b2 := Box.new (w.alloc (.cells (cmA ⟨4, ka, kn, kc, fl1, ex, tk, de, da, dn, dc, nr, lg, ma, mn, mc, what⟩) 35)) 39 (anA ⟨ak, .slice x1 n1 c1, .int .u64 n2, tx, .slice x3 n3 c3⟩)
  rw [show (w.alloc (.cells (cmA ⟨4, ka, kn, kc, fl1, ex, tk, de, da, dn, dc, nr, lg, ma, mn, mc, what⟩) 35)).heap.size = w.heap.size + 1 from by simp] at b2
  have g12 := gb_trans g1 g2
  have hne1 : ¬ w.heap.size = b := by have := hB.lt; omega
  have hne2 : ¬ w.heap.size + 1 = b := by have := hB.lt; omega
  have B1 : Bd ((w.alloc (.cells (cmA ⟨4, ka, kn, kc, fl1, ex, tk, de, da, dn, dc, nr, lg, ma, mn, mc, what⟩) 35)).alloc (.cells (anA ⟨ak, .slice x1 n1 c1, .int .u64 n2, tx, .slice x3 n3 c3⟩) 39)) b k N := Box.kept hB g12 (by simp)
  have K1 : Kp (· = b) w ((w.alloc (.cells (cmA ⟨4, ka, kn, kc, fl1, ex, tk, de, da, dn, dc, nr, lg, ma, mn, mc, what⟩) 35)).alloc (.cells (anA ⟨ak, .slice x1 n1 c1, .int .u64 n2, tx, .slice x3 n3 c3⟩) 39)) := Kp.of g12
  have m1 := hm.kept K1 ho
  have y1 := hy.kept K1 hyo
  have hsz : w.heap.size + 1 + 1 = (((w.alloc (.cells (cmA ⟨4, ka, kn, kc, fl1, ex, tk, de, da, dn, dc, nr, lg, ma, mn, mc, what⟩) 35)).alloc (.cells (anA ⟨ak, .slice x1 n1 c1, .int .u64 n2, tx, .slice x3 n3 c3⟩) 39))).heap.size := by simp
  have p0 : World.cell? _ ⟨w.heap.size, 0, none⟩ = some (.int .i64 4) := b1.cell 0
  have q0 : World.cell? _ ⟨w.heap.size + 1, 0, none⟩ = some (.int .i64 ak) := b2.cell 0
  go_enter Tryd.func42, Tryd.ntmps42
  go_wp2_with fail
  generalize ((w.alloc (.cells (cmA ⟨4, ka, kn, kc, fl1, ex, tk, de, da, dn, dc, nr, lg, ma, mn, mc, what⟩) 35)).alloc (.cells (anA ⟨ak, .slice x1 n1 c1, .int .u64 n2, tx, .slice x3 n3 c3⟩) 39)) = W at *
  refine (keys_60 b k N y why _ B1 hN y1 hyo).mono ?_
  rintro e w1 ⟨rfl, hb1, hk1⟩
  go_wp2_with fail
  refine (touches_61 b k _ y why _ hb1 (plus_fit _ _) (y1.kept hk1 hyo) hyo).mono ?_
  rintro e w2 ⟨rfl, hb2, hk2⟩
  go_wp2
  go_end0
  exact ⟨rfl, by rw [plus_dl] at hb2; exact hb2, (K1.then hk1).then hk2⟩
set_option maxRecDepth 100000 in
set_option maxHeartbeats 4000000 in
theorem command_42_20 (b : Nat) (k : Int) (N : Cn) (c : Cm) (a : An) (y : Value) (fl : List Fl) (why : List Int) (w : World) (hB : Bd w b k N) (hN : Fit N) (ha : a.Ok) (hm : Flgs w c.mt fl) (ho : Off c.mt (· = b)) (hy : Ints w y why) (hyo : Off y (· = b)) (hv : c.verb = 20) :
    Calls Tryd.prog 42 #[.pointer (some ⟨b, 2, none⟩), cmV c, anV a, y] w fun e w' => e = .returned (.tuple #[]) ∧ Bd w' b k (plus N (dl (cmdL c.verb a.kind (code a) fl why))) ∧ Kp (· = b) w w' := by
  obtain ⟨y0, hy0⟩ : ∃ y0, why.headD (-1) = y0 := ⟨_, rfl⟩
  have h63 := meta_63 b k (plus N (dl [5])) c a y0 fl
  generalize code a = cd at *
  have ha0 := ha
  obtain ⟨ak, en, nu, tx, st⟩ := a
  obtain ⟨⟨x1, n1, c1, e1⟩, ⟨n2, e2⟩, ⟨x3, n3, c3, e3⟩, hl⟩ := ha
  simp only at e1 e2 e3 hl
  subst e1 e2 e3
  obtain ⟨v, ka, kn, kc, fl1, ex, tk, de, da, dn, dc, nr, lg, ma, mn, mc, what⟩ := c
  simp only [Cm.mt] at *
  subst hv
  have g1 := World.grownBy_alloc w (.cells (cmA ⟨20, ka, kn, kc, fl1, ex, tk, de, da, dn, dc, nr, lg, ma, mn, mc, what⟩) 35) none
  have g2 := World.grownBy_alloc (w.alloc (.cells (cmA ⟨20, ka, kn, kc, fl1, ex, tk, de, da, dn, dc, nr, lg, ma, mn, mc, what⟩) 35)) (.cells (anA ⟨ak, .slice x1 n1 c1, .int .u64 n2, tx, .slice x3 n3 c3⟩) 39) none
  have b1 := (Box.new w 35 (cmA ⟨20, ka, kn, kc, fl1, ex, tk, de, da, dn, dc, nr, lg, ma, mn, mc, what⟩)).kept g2 (by simp)
  have b2 := Box.new (w.alloc (.cells (cmA ⟨20, ka, kn, kc, fl1, ex, tk, de, da, dn, dc, nr, lg, ma, mn, mc, what⟩) 35)) 39 (anA ⟨ak, .slice x1 n1 c1, .int .u64 n2, tx, .slice x3 n3 c3⟩)
  rw [show (w.alloc (.cells (cmA ⟨20, ka, kn, kc, fl1, ex, tk, de, da, dn, dc, nr, lg, ma, mn, mc, what⟩) 35)).heap.size = w.heap.size + 1 from by simp] at b2
  have g12 := gb_trans g1 g2
  have hne1 : ¬ w.heap.size = b := by have := hB.lt; omega
  have hne2 : ¬ w.heap.size + 1 = b := by have := hB.lt; omega
  have B1 : Bd ((w.alloc (.cells (cmA ⟨20, ka, kn, kc, fl1, ex, tk, de, da, dn, dc, nr, lg, ma, mn, mc, what⟩) 35)).alloc (.cells (anA ⟨ak, .slice x1 n1 c1, .int .u64 n2, tx, .slice x3 n3 c3⟩) 39)) b k N := Box.kept hB g12 (by simp)
  have K1 : Kp (· = b) w ((w.alloc (.cells (cmA ⟨20, ka, kn, kc, fl1, ex, tk, de, da, dn, dc, nr, lg, ma, mn, mc, what⟩) 35)).alloc (.cells (anA ⟨ak, .slice x1 n1 c1, .int .u64 n2, tx, .slice x3 n3 c3⟩) 39)) := Kp.of g12
  have m1 := hm.kept K1 ho
  have y1 := hy.kept K1 hyo
  have hsz : w.heap.size + 1 + 1 = (((w.alloc (.cells (cmA ⟨20, ka, kn, kc, fl1, ex, tk, de, da, dn, dc, nr, lg, ma, mn, mc, what⟩) 35)).alloc (.cells (anA ⟨ak, .slice x1 n1 c1, .int .u64 n2, tx, .slice x3 n3 c3⟩) 39))).heap.size := by simp
  have p0 : World.cell? _ ⟨w.heap.size, 0, none⟩ = some (.int .i64 20) := b1.cell 0
  have q0 : World.cell? _ ⟨w.heap.size + 1, 0, none⟩ = some (.int .i64 ak) := b2.cell 0
  go_enter Tryd.func42, Tryd.ntmps42
  go_wp2_with fail
  generalize ((w.alloc (.cells (cmA ⟨20, ka, kn, kc, fl1, ex, tk, de, da, dn, dc, nr, lg, ma, mn, mc, what⟩) 35)).alloc (.cells (anA ⟨ak, .slice x1 n1 c1, .int .u64 n2, tx, .slice x3 n3 c3⟩) 39)) = W at *
  clear hsz
  go_wp2_with fail
  refine (one1 b k _ 5 5 rfl (by omega) _ B1 hN).mono ?_
  rintro e w1 ⟨rfl, hb1, hk1⟩
  have z1 := hk1.box b1 hne1
  have z2 := hk1.box b2 hne2
  have m2 := m1.kept hk1 ho
  have y2 := y1.kept hk1 hyo
  clear p0 q0
  have h64 := fun (X : World) (hX : w1.grownBy X none) => first_64 y why X (y2.kept (Kp.of (F := fun _ => False) hX) (fun _ _ _ _ _ h => h))
  rw [hy0] at h64
  have h63' := fun (X : World) (hX : w1.grownBy X none) => h63 X (Box.kept hb1 hX (by simp)) (plus_fit _ _) ha0 (m2.kept (Kp.of (F := (· = b)) hX) ho) ho (by simp)
  clear h63
  have p0 : w1.cell? ⟨w.heap.size, 0, none⟩ = some (.int .i64 20) := z1.cell 0
  have p1 : w1.cell? ⟨w.heap.size, 1, none⟩ = some (.slice ka kn kc) := z1.cell 1
  have p2 : w1.cell? ⟨w.heap.size, 2, none⟩ = some (.int .u64 fl1) := z1.cell 2
  have p3 : w1.cell? ⟨w.heap.size, 3, none⟩ = some (.int .i64 ex) := z1.cell 3
  have p4 : w1.cell? ⟨w.heap.size, 4, none⟩ = some (.int .u64 tk) := z1.cell 4
  have p5 : w1.cell? ⟨w.heap.size, 5, none⟩ = some (.int .u64 de) := z1.cell 5
  have p6 : w1.cell? ⟨w.heap.size, 6, none⟩ = some (.slice da dn dc) := z1.cell 6
  have p7 : w1.cell? ⟨w.heap.size, 7, none⟩ = some (.bool nr) := z1.cell 7
  have p8 : w1.cell? ⟨w.heap.size, 8, none⟩ = some (.bool lg) := z1.cell 8
  have p9 : w1.cell? ⟨w.heap.size, 9, none⟩ = some (.slice ma mn mc) := z1.cell 9
  have p10 : w1.cell? ⟨w.heap.size, 10, none⟩ = some (.string what) := z1.cell 10
  have q0 : w1.cell? ⟨w.heap.size + 1, 0, none⟩ = some (.int .i64 ak) := z2.cell 0
  have q1 : w1.cell? ⟨w.heap.size + 1, 1, none⟩ = some (.slice x1 n1 c1) := z2.cell 1
  have q2 : w1.cell? ⟨w.heap.size + 1, 2, none⟩ = some (.int .u64 n2) := z2.cell 2
  have q3 : w1.cell? ⟨w.heap.size + 1, 3, none⟩ = some (sv tx) := z2.cell 3
  have q4 : w1.cell? ⟨w.heap.size + 1, 4, none⟩ = some (.slice x3 n3 c3) := z2.cell 4
  go_wp2_with fail
  go_region_held3 (fun X => X.cell? ⟨w.heap.size, 0, none⟩ = some (.int .i64 20) ∧ X.cell? ⟨w.heap.size, 1, none⟩ = some (.slice ka kn kc) ∧ X.cell? ⟨w.heap.size, 2, none⟩ = some (.int .u64 fl1) ∧ X.cell? ⟨w.heap.size, 3, none⟩ = some (.int .i64 ex) ∧ X.cell? ⟨w.heap.size, 4, none⟩ = some (.int .u64 tk) ∧ X.cell? ⟨w.heap.size, 5, none⟩ = some (.int .u64 de) ∧ X.cell? ⟨w.heap.size, 6, none⟩ = some (.slice da dn dc) ∧ X.cell? ⟨w.heap.size, 7, none⟩ = some (.bool nr) ∧ X.cell? ⟨w.heap.size, 8, none⟩ = some (.bool lg) ∧ X.cell? ⟨w.heap.size, 9, none⟩ = some (.slice ma mn mc) ∧ X.cell? ⟨w.heap.size, 10, none⟩ = some (.string what) ∧ X.cell? ⟨w.heap.size + 1, 0, none⟩ = some (.int .i64 ak) ∧ X.cell? ⟨w.heap.size + 1, 1, none⟩ = some (.slice x1 n1 c1) ∧ X.cell? ⟨w.heap.size + 1, 2, none⟩ = some (.int .u64 n2) ∧ X.cell? ⟨w.heap.size + 1, 3, none⟩ = some (sv tx) ∧ X.cell? ⟨w.heap.size + 1, 4, none⟩ = some (.slice x3 n3 c3)) ((first | exact ⟨hk4.cell p0 hne1, hk4.cell p1 hne1, hk4.cell p2 hne1, hk4.cell p3 hne1, hk4.cell p4 hne1, hk4.cell p5 hne1, hk4.cell p6 hne1, hk4.cell p7 hne1, hk4.cell p8 hne1, hk4.cell p9 hne1, hk4.cell p10 hne1, hk4.cell q0 hne2, hk4.cell q1 hne2, hk4.cell q2 hne2, hk4.cell q3 hne2, hk4.cell q4 hne2⟩ | go_keep)) ((first | (go_at_call 64; (first | (with_reducible refine (h64 _ (gb_drew (gb_refl _ _))).mono ?_) | (with_reducible refine (h64 _ (gb_drewN (gb_refl _ _) _)).mono ?_) | (with_reducible refine (h64 _ (gb_refl _ _)).mono ?_) | (with_reducible refine (h64 _ (gb_drewN (gb_drew (gb_refl _ _)) _)).mono ?_)); rintro e3 w3 ⟨rfl, rfl⟩) | (go_at_call 63; (first | (with_reducible refine (h63' _ (gb_drew (gb_refl _ _))).mono ?_) | (with_reducible refine (h63' _ (gb_drewN (gb_refl _ _) _)).mono ?_) | (with_reducible refine (h63' _ (gb_refl _ _)).mono ?_) | (with_reducible refine (h63' _ (gb_drewN (gb_drew (gb_refl _ _)) _)).mono ?_)); rintro e4 w4 ⟨rfl, hb4, hk4⟩)))
  go_wp2
  go_end0
  refine ⟨rfl, ?_, ?_⟩
  · rw [plus_dl] at hb4
    subst hy0
    exact hb4
  · exact (K1.then hk1).then ((Kp.drew _ _).then hk4)
set_option maxRecDepth 100000 in
set_option maxHeartbeats 4000000 in
theorem command_42_21 (b : Nat) (k : Int) (N : Cn) (c : Cm) (a : An) (y : Value) (fl : List Fl) (why : List Int) (w : World) (hB : Bd w b k N) (hN : Fit N) (ha : a.Ok) (hm : Flgs w c.mt fl) (ho : Off c.mt (· = b)) (hy : Ints w y why) (hyo : Off y (· = b)) (hv : c.verb = 21) :
    Calls Tryd.prog 42 #[.pointer (some ⟨b, 2, none⟩), cmV c, anV a, y] w fun e w' => e = .returned (.tuple #[]) ∧ Bd w' b k (plus N (dl (cmdL c.verb a.kind (code a) fl why))) ∧ Kp (· = b) w w' := by
  obtain ⟨y0, hy0⟩ : ∃ y0, why.headD (-1) = y0 := ⟨_, rfl⟩
  have h63 := meta_63 b k (plus N (dl [5])) c a y0 fl
  generalize code a = cd at *
  have ha0 := ha
  obtain ⟨ak, en, nu, tx, st⟩ := a
  obtain ⟨⟨x1, n1, c1, e1⟩, ⟨n2, e2⟩, ⟨x3, n3, c3, e3⟩, hl⟩ := ha
  simp only at e1 e2 e3 hl
  subst e1 e2 e3
  obtain ⟨v, ka, kn, kc, fl1, ex, tk, de, da, dn, dc, nr, lg, ma, mn, mc, what⟩ := c
  simp only [Cm.mt] at *
  subst hv
  have g1 := World.grownBy_alloc w (.cells (cmA ⟨21, ka, kn, kc, fl1, ex, tk, de, da, dn, dc, nr, lg, ma, mn, mc, what⟩) 35) none
  have g2 := World.grownBy_alloc (w.alloc (.cells (cmA ⟨21, ka, kn, kc, fl1, ex, tk, de, da, dn, dc, nr, lg, ma, mn, mc, what⟩) 35)) (.cells (anA ⟨ak, .slice x1 n1 c1, .int .u64 n2, tx, .slice x3 n3 c3⟩) 39) none
  have b1 := (Box.new w 35 (cmA ⟨21, ka, kn, kc, fl1, ex, tk, de, da, dn, dc, nr, lg, ma, mn, mc, what⟩)).kept g2 (by simp)
  have b2 := Box.new (w.alloc (.cells (cmA ⟨21, ka, kn, kc, fl1, ex, tk, de, da, dn, dc, nr, lg, ma, mn, mc, what⟩) 35)) 39 (anA ⟨ak, .slice x1 n1 c1, .int .u64 n2, tx, .slice x3 n3 c3⟩)
  rw [show (w.alloc (.cells (cmA ⟨21, ka, kn, kc, fl1, ex, tk, de, da, dn, dc, nr, lg, ma, mn, mc, what⟩) 35)).heap.size = w.heap.size + 1 from by simp] at b2
  have g12 := gb_trans g1 g2
  have hne1 : ¬ w.heap.size = b := by have := hB.lt; omega
  have hne2 : ¬ w.heap.size + 1 = b := by have := hB.lt; omega
  have B1 : Bd ((w.alloc (.cells (cmA ⟨21, ka, kn, kc, fl1, ex, tk, de, da, dn, dc, nr, lg, ma, mn, mc, what⟩) 35)).alloc (.cells (anA ⟨ak, .slice x1 n1 c1, .int .u64 n2, tx, .slice x3 n3 c3⟩) 39)) b k N := Box.kept hB g12 (by simp)
  have K1 : Kp (· = b) w ((w.alloc (.cells (cmA ⟨21, ka, kn, kc, fl1, ex, tk, de, da, dn, dc, nr, lg, ma, mn, mc, what⟩) 35)).alloc (.cells (anA ⟨ak, .slice x1 n1 c1, .int .u64 n2, tx, .slice x3 n3 c3⟩) 39)) := Kp.of g12
  have m1 := hm.kept K1 ho
  have y1 := hy.kept K1 hyo
  have hsz : w.heap.size + 1 + 1 = (((w.alloc (.cells (cmA ⟨21, ka, kn, kc, fl1, ex, tk, de, da, dn, dc, nr, lg, ma, mn, mc, what⟩) 35)).alloc (.cells (anA ⟨ak, .slice x1 n1 c1, .int .u64 n2, tx, .slice x3 n3 c3⟩) 39))).heap.size := by simp
  have p0 : World.cell? _ ⟨w.heap.size, 0, none⟩ = some (.int .i64 21) := b1.cell 0
  have q0 : World.cell? _ ⟨w.heap.size + 1, 0, none⟩ = some (.int .i64 ak) := b2.cell 0
  go_enter Tryd.func42, Tryd.ntmps42
  go_wp2_with fail
  generalize ((w.alloc (.cells (cmA ⟨21, ka, kn, kc, fl1, ex, tk, de, da, dn, dc, nr, lg, ma, mn, mc, what⟩) 35)).alloc (.cells (anA ⟨ak, .slice x1 n1 c1, .int .u64 n2, tx, .slice x3 n3 c3⟩) 39)) = W at *
  clear hsz
  go_wp2_with fail
  refine (one1 b k _ 5 5 rfl (by omega) _ B1 hN).mono ?_
  rintro e w1 ⟨rfl, hb1, hk1⟩
  have z1 := hk1.box b1 hne1
  have z2 := hk1.box b2 hne2
  have m2 := m1.kept hk1 ho
  have y2 := y1.kept hk1 hyo
  clear p0 q0
  have h64 := fun (X : World) (hX : w1.grownBy X none) => first_64 y why X (y2.kept (Kp.of (F := fun _ => False) hX) (fun _ _ _ _ _ h => h))
  rw [hy0] at h64
  have h63' := fun (X : World) (hX : w1.grownBy X none) => h63 X (Box.kept hb1 hX (by simp)) (plus_fit _ _) ha0 (m2.kept (Kp.of (F := (· = b)) hX) ho) ho (by simp)
  clear h63
  have p0 : w1.cell? ⟨w.heap.size, 0, none⟩ = some (.int .i64 21) := z1.cell 0
  have p1 : w1.cell? ⟨w.heap.size, 1, none⟩ = some (.slice ka kn kc) := z1.cell 1
  have p2 : w1.cell? ⟨w.heap.size, 2, none⟩ = some (.int .u64 fl1) := z1.cell 2
  have p3 : w1.cell? ⟨w.heap.size, 3, none⟩ = some (.int .i64 ex) := z1.cell 3
  have p4 : w1.cell? ⟨w.heap.size, 4, none⟩ = some (.int .u64 tk) := z1.cell 4
  have p5 : w1.cell? ⟨w.heap.size, 5, none⟩ = some (.int .u64 de) := z1.cell 5
  have p6 : w1.cell? ⟨w.heap.size, 6, none⟩ = some (.slice da dn dc) := z1.cell 6
  have p7 : w1.cell? ⟨w.heap.size, 7, none⟩ = some (.bool nr) := z1.cell 7
  have p8 : w1.cell? ⟨w.heap.size, 8, none⟩ = some (.bool lg) := z1.cell 8
  have p9 : w1.cell? ⟨w.heap.size, 9, none⟩ = some (.slice ma mn mc) := z1.cell 9
  have p10 : w1.cell? ⟨w.heap.size, 10, none⟩ = some (.string what) := z1.cell 10
  have q0 : w1.cell? ⟨w.heap.size + 1, 0, none⟩ = some (.int .i64 ak) := z2.cell 0
  have q1 : w1.cell? ⟨w.heap.size + 1, 1, none⟩ = some (.slice x1 n1 c1) := z2.cell 1
  have q2 : w1.cell? ⟨w.heap.size + 1, 2, none⟩ = some (.int .u64 n2) := z2.cell 2
  have q3 : w1.cell? ⟨w.heap.size + 1, 3, none⟩ = some (sv tx) := z2.cell 3
  have q4 : w1.cell? ⟨w.heap.size + 1, 4, none⟩ = some (.slice x3 n3 c3) := z2.cell 4
  go_wp2_with fail
  go_region_held3 (fun X => X.cell? ⟨w.heap.size, 0, none⟩ = some (.int .i64 21) ∧ X.cell? ⟨w.heap.size, 1, none⟩ = some (.slice ka kn kc) ∧ X.cell? ⟨w.heap.size, 2, none⟩ = some (.int .u64 fl1) ∧ X.cell? ⟨w.heap.size, 3, none⟩ = some (.int .i64 ex) ∧ X.cell? ⟨w.heap.size, 4, none⟩ = some (.int .u64 tk) ∧ X.cell? ⟨w.heap.size, 5, none⟩ = some (.int .u64 de) ∧ X.cell? ⟨w.heap.size, 6, none⟩ = some (.slice da dn dc) ∧ X.cell? ⟨w.heap.size, 7, none⟩ = some (.bool nr) ∧ X.cell? ⟨w.heap.size, 8, none⟩ = some (.bool lg) ∧ X.cell? ⟨w.heap.size, 9, none⟩ = some (.slice ma mn mc) ∧ X.cell? ⟨w.heap.size, 10, none⟩ = some (.string what) ∧ X.cell? ⟨w.heap.size + 1, 0, none⟩ = some (.int .i64 ak) ∧ X.cell? ⟨w.heap.size + 1, 1, none⟩ = some (.slice x1 n1 c1) ∧ X.cell? ⟨w.heap.size + 1, 2, none⟩ = some (.int .u64 n2) ∧ X.cell? ⟨w.heap.size + 1, 3, none⟩ = some (sv tx) ∧ X.cell? ⟨w.heap.size + 1, 4, none⟩ = some (.slice x3 n3 c3)) ((first | exact ⟨hk4.cell p0 hne1, hk4.cell p1 hne1, hk4.cell p2 hne1, hk4.cell p3 hne1, hk4.cell p4 hne1, hk4.cell p5 hne1, hk4.cell p6 hne1, hk4.cell p7 hne1, hk4.cell p8 hne1, hk4.cell p9 hne1, hk4.cell p10 hne1, hk4.cell q0 hne2, hk4.cell q1 hne2, hk4.cell q2 hne2, hk4.cell q3 hne2, hk4.cell q4 hne2⟩ | go_keep)) ((first | (go_at_call 64; (first | (with_reducible refine (h64 _ (gb_drew (gb_refl _ _))).mono ?_) | (with_reducible refine (h64 _ (gb_drewN (gb_refl _ _) _)).mono ?_) | (with_reducible refine (h64 _ (gb_refl _ _)).mono ?_) | (with_reducible refine (h64 _ (gb_drewN (gb_drew (gb_refl _ _)) _)).mono ?_)); rintro e3 w3 ⟨rfl, rfl⟩) | (go_at_call 63; (first | (with_reducible refine (h63' _ (gb_drew (gb_refl _ _))).mono ?_) | (with_reducible refine (h63' _ (gb_drewN (gb_refl _ _) _)).mono ?_) | (with_reducible refine (h63' _ (gb_refl _ _)).mono ?_) | (with_reducible refine (h63' _ (gb_drewN (gb_drew (gb_refl _ _)) _)).mono ?_)); rintro e4 w4 ⟨rfl, hb4, hk4⟩)))
  go_wp2
  go_end0
  refine ⟨rfl, ?_, ?_⟩
  · rw [plus_dl] at hb4
    subst hy0
    exact hb4
  · exact (K1.then hk1).then ((Kp.drew _ _).then hk4)
set_option maxRecDepth 100000 in
set_option maxHeartbeats 4000000 in
theorem command_42_22 (b : Nat) (k : Int) (N : Cn) (c : Cm) (a : An) (y : Value) (fl : List Fl) (why : List Int) (w : World) (hB : Bd w b k N) (hN : Fit N) (ha : a.Ok) (hm : Flgs w c.mt fl) (ho : Off c.mt (· = b)) (hy : Ints w y why) (hyo : Off y (· = b)) (hv : c.verb = 22) :
    Calls Tryd.prog 42 #[.pointer (some ⟨b, 2, none⟩), cmV c, anV a, y] w fun e w' => e = .returned (.tuple #[]) ∧ Bd w' b k (plus N (dl (cmdL c.verb a.kind (code a) fl why))) ∧ Kp (· = b) w w' := by
  obtain ⟨y0, hy0⟩ : ∃ y0, why.headD (-1) = y0 := ⟨_, rfl⟩
  have h63 := meta_63 b k (plus N (dl [5])) c a y0 fl
  generalize code a = cd at *
  have ha0 := ha
  obtain ⟨ak, en, nu, tx, st⟩ := a
  obtain ⟨⟨x1, n1, c1, e1⟩, ⟨n2, e2⟩, ⟨x3, n3, c3, e3⟩, hl⟩ := ha
  simp only at e1 e2 e3 hl
  subst e1 e2 e3
  obtain ⟨v, ka, kn, kc, fl1, ex, tk, de, da, dn, dc, nr, lg, ma, mn, mc, what⟩ := c
  simp only [Cm.mt] at *
  subst hv
  have g1 := World.grownBy_alloc w (.cells (cmA ⟨22, ka, kn, kc, fl1, ex, tk, de, da, dn, dc, nr, lg, ma, mn, mc, what⟩) 35) none
  have g2 := World.grownBy_alloc (w.alloc (.cells (cmA ⟨22, ka, kn, kc, fl1, ex, tk, de, da, dn, dc, nr, lg, ma, mn, mc, what⟩) 35)) (.cells (anA ⟨ak, .slice x1 n1 c1, .int .u64 n2, tx, .slice x3 n3 c3⟩) 39) none
  have b1 := (Box.new w 35 (cmA ⟨22, ka, kn, kc, fl1, ex, tk, de, da, dn, dc, nr, lg, ma, mn, mc, what⟩)).kept g2 (by simp)
  have b2 := Box.new (w.alloc (.cells (cmA ⟨22, ka, kn, kc, fl1, ex, tk, de, da, dn, dc, nr, lg, ma, mn, mc, what⟩) 35)) 39 (anA ⟨ak, .slice x1 n1 c1, .int .u64 n2, tx, .slice x3 n3 c3⟩)
  rw [show (w.alloc (.cells (cmA ⟨22, ka, kn, kc, fl1, ex, tk, de, da, dn, dc, nr, lg, ma, mn, mc, what⟩) 35)).heap.size = w.heap.size + 1 from by simp] at b2
  have g12 := gb_trans g1 g2
  have hne1 : ¬ w.heap.size = b := by have := hB.lt; omega
  have hne2 : ¬ w.heap.size + 1 = b := by have := hB.lt; omega
  have B1 : Bd ((w.alloc (.cells (cmA ⟨22, ka, kn, kc, fl1, ex, tk, de, da, dn, dc, nr, lg, ma, mn, mc, what⟩) 35)).alloc (.cells (anA ⟨ak, .slice x1 n1 c1, .int .u64 n2, tx, .slice x3 n3 c3⟩) 39)) b k N := Box.kept hB g12 (by simp)
  have K1 : Kp (· = b) w ((w.alloc (.cells (cmA ⟨22, ka, kn, kc, fl1, ex, tk, de, da, dn, dc, nr, lg, ma, mn, mc, what⟩) 35)).alloc (.cells (anA ⟨ak, .slice x1 n1 c1, .int .u64 n2, tx, .slice x3 n3 c3⟩) 39)) := Kp.of g12
  have m1 := hm.kept K1 ho
  have y1 := hy.kept K1 hyo
  have hsz : w.heap.size + 1 + 1 = (((w.alloc (.cells (cmA ⟨22, ka, kn, kc, fl1, ex, tk, de, da, dn, dc, nr, lg, ma, mn, mc, what⟩) 35)).alloc (.cells (anA ⟨ak, .slice x1 n1 c1, .int .u64 n2, tx, .slice x3 n3 c3⟩) 39))).heap.size := by simp
  have p0 : World.cell? _ ⟨w.heap.size, 0, none⟩ = some (.int .i64 22) := b1.cell 0
  have q0 : World.cell? _ ⟨w.heap.size + 1, 0, none⟩ = some (.int .i64 ak) := b2.cell 0
  go_enter Tryd.func42, Tryd.ntmps42
  go_wp2_with fail
  generalize ((w.alloc (.cells (cmA ⟨22, ka, kn, kc, fl1, ex, tk, de, da, dn, dc, nr, lg, ma, mn, mc, what⟩) 35)).alloc (.cells (anA ⟨ak, .slice x1 n1 c1, .int .u64 n2, tx, .slice x3 n3 c3⟩) 39)) = W at *
  clear hsz
  go_wp2_with fail
  refine (one1 b k _ 5 5 rfl (by omega) _ B1 hN).mono ?_
  rintro e w1 ⟨rfl, hb1, hk1⟩
  have z1 := hk1.box b1 hne1
  have z2 := hk1.box b2 hne2
  have m2 := m1.kept hk1 ho
  have y2 := y1.kept hk1 hyo
  clear p0 q0
  have h64 := fun (X : World) (hX : w1.grownBy X none) => first_64 y why X (y2.kept (Kp.of (F := fun _ => False) hX) (fun _ _ _ _ _ h => h))
  rw [hy0] at h64
  have h63' := fun (X : World) (hX : w1.grownBy X none) => h63 X (Box.kept hb1 hX (by simp)) (plus_fit _ _) ha0 (m2.kept (Kp.of (F := (· = b)) hX) ho) ho (by simp)
  clear h63
  have p0 : w1.cell? ⟨w.heap.size, 0, none⟩ = some (.int .i64 22) := z1.cell 0
  have p1 : w1.cell? ⟨w.heap.size, 1, none⟩ = some (.slice ka kn kc) := z1.cell 1
  have p2 : w1.cell? ⟨w.heap.size, 2, none⟩ = some (.int .u64 fl1) := z1.cell 2
  have p3 : w1.cell? ⟨w.heap.size, 3, none⟩ = some (.int .i64 ex) := z1.cell 3
  have p4 : w1.cell? ⟨w.heap.size, 4, none⟩ = some (.int .u64 tk) := z1.cell 4
  have p5 : w1.cell? ⟨w.heap.size, 5, none⟩ = some (.int .u64 de) := z1.cell 5
  have p6 : w1.cell? ⟨w.heap.size, 6, none⟩ = some (.slice da dn dc) := z1.cell 6
  have p7 : w1.cell? ⟨w.heap.size, 7, none⟩ = some (.bool nr) := z1.cell 7
  have p8 : w1.cell? ⟨w.heap.size, 8, none⟩ = some (.bool lg) := z1.cell 8
  have p9 : w1.cell? ⟨w.heap.size, 9, none⟩ = some (.slice ma mn mc) := z1.cell 9
  have p10 : w1.cell? ⟨w.heap.size, 10, none⟩ = some (.string what) := z1.cell 10
  have q0 : w1.cell? ⟨w.heap.size + 1, 0, none⟩ = some (.int .i64 ak) := z2.cell 0
  have q1 : w1.cell? ⟨w.heap.size + 1, 1, none⟩ = some (.slice x1 n1 c1) := z2.cell 1
  have q2 : w1.cell? ⟨w.heap.size + 1, 2, none⟩ = some (.int .u64 n2) := z2.cell 2
  have q3 : w1.cell? ⟨w.heap.size + 1, 3, none⟩ = some (sv tx) := z2.cell 3
  have q4 : w1.cell? ⟨w.heap.size + 1, 4, none⟩ = some (.slice x3 n3 c3) := z2.cell 4
  go_wp2_with fail
  go_region_held3 (fun X => X.cell? ⟨w.heap.size, 0, none⟩ = some (.int .i64 22) ∧ X.cell? ⟨w.heap.size, 1, none⟩ = some (.slice ka kn kc) ∧ X.cell? ⟨w.heap.size, 2, none⟩ = some (.int .u64 fl1) ∧ X.cell? ⟨w.heap.size, 3, none⟩ = some (.int .i64 ex) ∧ X.cell? ⟨w.heap.size, 4, none⟩ = some (.int .u64 tk) ∧ X.cell? ⟨w.heap.size, 5, none⟩ = some (.int .u64 de) ∧ X.cell? ⟨w.heap.size, 6, none⟩ = some (.slice da dn dc) ∧ X.cell? ⟨w.heap.size, 7, none⟩ = some (.bool nr) ∧ X.cell? ⟨w.heap.size, 8, none⟩ = some (.bool lg) ∧ X.cell? ⟨w.heap.size, 9, none⟩ = some (.slice ma mn mc) ∧ X.cell? ⟨w.heap.size, 10, none⟩ = some (.string what) ∧ X.cell? ⟨w.heap.size + 1, 0, none⟩ = some (.int .i64 ak) ∧ X.cell? ⟨w.heap.size + 1, 1, none⟩ = some (.slice x1 n1 c1) ∧ X.cell? ⟨w.heap.size + 1, 2, none⟩ = some (.int .u64 n2) ∧ X.cell? ⟨w.heap.size + 1, 3, none⟩ = some (sv tx) ∧ X.cell? ⟨w.heap.size + 1, 4, none⟩ = some (.slice x3 n3 c3)) ((first | exact ⟨hk4.cell p0 hne1, hk4.cell p1 hne1, hk4.cell p2 hne1, hk4.cell p3 hne1, hk4.cell p4 hne1, hk4.cell p5 hne1, hk4.cell p6 hne1, hk4.cell p7 hne1, hk4.cell p8 hne1, hk4.cell p9 hne1, hk4.cell p10 hne1, hk4.cell q0 hne2, hk4.cell q1 hne2, hk4.cell q2 hne2, hk4.cell q3 hne2, hk4.cell q4 hne2⟩ | go_keep)) ((first | (go_at_call 64; (first | (with_reducible refine (h64 _ (gb_drew (gb_refl _ _))).mono ?_) | (with_reducible refine (h64 _ (gb_drewN (gb_refl _ _) _)).mono ?_) | (with_reducible refine (h64 _ (gb_refl _ _)).mono ?_) | (with_reducible refine (h64 _ (gb_drewN (gb_drew (gb_refl _ _)) _)).mono ?_)); rintro e3 w3 ⟨rfl, rfl⟩) | (go_at_call 63; (first | (with_reducible refine (h63' _ (gb_drew (gb_refl _ _))).mono ?_) | (with_reducible refine (h63' _ (gb_drewN (gb_refl _ _) _)).mono ?_) | (with_reducible refine (h63' _ (gb_refl _ _)).mono ?_) | (with_reducible refine (h63' _ (gb_drewN (gb_drew (gb_refl _ _)) _)).mono ?_)); rintro e4 w4 ⟨rfl, hb4, hk4⟩)))
  go_wp2
  go_end0
  refine ⟨rfl, ?_, ?_⟩
  · rw [plus_dl] at hb4
    subst hy0
    exact hb4
  · exact (K1.then hk1).then ((Kp.drew _ _).then hk4)
set_option maxRecDepth 100000 in
set_option maxHeartbeats 4000000 in
theorem command_42_23 (b : Nat) (k : Int) (N : Cn) (c : Cm) (a : An) (y : Value) (fl : List Fl) (why : List Int) (w : World) (hB : Bd w b k N) (hN : Fit N) (ha : a.Ok) (hm : Flgs w c.mt fl) (ho : Off c.mt (· = b)) (hy : Ints w y why) (hyo : Off y (· = b)) (hv : c.verb = 23) :
    Calls Tryd.prog 42 #[.pointer (some ⟨b, 2, none⟩), cmV c, anV a, y] w fun e w' => e = .returned (.tuple #[]) ∧ Bd w' b k (plus N (dl (cmdL c.verb a.kind (code a) fl why))) ∧ Kp (· = b) w w' := by
  obtain ⟨y0, hy0⟩ : ∃ y0, why.headD (-1) = y0 := ⟨_, rfl⟩
  have h63 := meta_63 b k (plus N (dl [5])) c a y0 fl
  generalize code a = cd at *
  have ha0 := ha
  obtain ⟨ak, en, nu, tx, st⟩ := a
  obtain ⟨⟨x1, n1, c1, e1⟩, ⟨n2, e2⟩, ⟨x3, n3, c3, e3⟩, hl⟩ := ha
  simp only at e1 e2 e3 hl
  subst e1 e2 e3
  obtain ⟨v, ka, kn, kc, fl1, ex, tk, de, da, dn, dc, nr, lg, ma, mn, mc, what⟩ := c
  simp only [Cm.mt] at *
  subst hv
  have g1 := World.grownBy_alloc w (.cells (cmA ⟨23, ka, kn, kc, fl1, ex, tk, de, da, dn, dc, nr, lg, ma, mn, mc, what⟩) 35) none
  have g2 := World.grownBy_alloc (w.alloc (.cells (cmA ⟨23, ka, kn, kc, fl1, ex, tk, de, da, dn, dc, nr, lg, ma, mn, mc, what⟩) 35)) (.cells (anA ⟨ak, .slice x1 n1 c1, .int .u64 n2, tx, .slice x3 n3 c3⟩) 39) none
  have b1 := (Box.new w 35 (cmA ⟨23, ka, kn, kc, fl1, ex, tk, de, da, dn, dc, nr, lg, ma, mn, mc, what⟩)).kept g2 (by simp)
  have b2 := Box.new (w.alloc (.cells (cmA ⟨23, ka, kn, kc, fl1, ex, tk, de, da, dn, dc, nr, lg, ma, mn, mc, what⟩) 35)) 39 (anA ⟨ak, .slice x1 n1 c1, .int .u64 n2, tx, .slice x3 n3 c3⟩)
  rw [show (w.alloc (.cells (cmA ⟨23, ka, kn, kc, fl1, ex, tk, de, da, dn, dc, nr, lg, ma, mn, mc, what⟩) 35)).heap.size = w.heap.size + 1 from by simp] at b2
  have g12 := gb_trans g1 g2
  have hne1 : ¬ w.heap.size = b := by have := hB.lt; omega
  have hne2 : ¬ w.heap.size + 1 = b := by have := hB.lt; omega
  have B1 : Bd ((w.alloc (.cells (cmA ⟨23, ka, kn, kc, fl1, ex, tk, de, da, dn, dc, nr, lg, ma, mn, mc, what⟩) 35)).alloc (.cells (anA ⟨ak, .slice x1 n1 c1, .int .u64 n2, tx, .slice x3 n3 c3⟩) 39)) b k N := Box.kept hB g12 (by simp)
  have K1 : Kp (· = b) w ((w.alloc (.cells (cmA ⟨23, ka, kn, kc, fl1, ex, tk, de, da, dn, dc, nr, lg, ma, mn, mc, what⟩) 35)).alloc (.cells (anA ⟨ak, .slice x1 n1 c1, .int .u64 n2, tx, .slice x3 n3 c3⟩) 39)) := Kp.of g12
  have m1 := hm.kept K1 ho
  have y1 := hy.kept K1 hyo
  have hsz : w.heap.size + 1 + 1 = (((w.alloc (.cells (cmA ⟨23, ka, kn, kc, fl1, ex, tk, de, da, dn, dc, nr, lg, ma, mn, mc, what⟩) 35)).alloc (.cells (anA ⟨ak, .slice x1 n1 c1, .int .u64 n2, tx, .slice x3 n3 c3⟩) 39))).heap.size := by simp
  have p0 : World.cell? _ ⟨w.heap.size, 0, none⟩ = some (.int .i64 23) := b1.cell 0
  have q0 : World.cell? _ ⟨w.heap.size + 1, 0, none⟩ = some (.int .i64 ak) := b2.cell 0
  go_enter Tryd.func42, Tryd.ntmps42
  go_wp2_with fail
  generalize ((w.alloc (.cells (cmA ⟨23, ka, kn, kc, fl1, ex, tk, de, da, dn, dc, nr, lg, ma, mn, mc, what⟩) 35)).alloc (.cells (anA ⟨ak, .slice x1 n1 c1, .int .u64 n2, tx, .slice x3 n3 c3⟩) 39)) = W at *
  clear hsz
  go_wp2_with fail
  refine (one1 b k _ 5 5 rfl (by omega) _ B1 hN).mono ?_
  rintro e w1 ⟨rfl, hb1, hk1⟩
  have z1 := hk1.box b1 hne1
  have z2 := hk1.box b2 hne2
  have m2 := m1.kept hk1 ho
  have y2 := y1.kept hk1 hyo
  clear p0 q0
  have h64 := fun (X : World) (hX : w1.grownBy X none) => first_64 y why X (y2.kept (Kp.of (F := fun _ => False) hX) (fun _ _ _ _ _ h => h))
  rw [hy0] at h64
  have h63' := fun (X : World) (hX : w1.grownBy X none) => h63 X (Box.kept hb1 hX (by simp)) (plus_fit _ _) ha0 (m2.kept (Kp.of (F := (· = b)) hX) ho) ho (by simp)
  clear h63
  have p0 : w1.cell? ⟨w.heap.size, 0, none⟩ = some (.int .i64 23) := z1.cell 0
  have p1 : w1.cell? ⟨w.heap.size, 1, none⟩ = some (.slice ka kn kc) := z1.cell 1
  have p2 : w1.cell? ⟨w.heap.size, 2, none⟩ = some (.int .u64 fl1) := z1.cell 2
  have p3 : w1.cell? ⟨w.heap.size, 3, none⟩ = some (.int .i64 ex) := z1.cell 3
  have p4 : w1.cell? ⟨w.heap.size, 4, none⟩ = some (.int .u64 tk) := z1.cell 4
  have p5 : w1.cell? ⟨w.heap.size, 5, none⟩ = some (.int .u64 de) := z1.cell 5
  have p6 : w1.cell? ⟨w.heap.size, 6, none⟩ = some (.slice da dn dc) := z1.cell 6
  have p7 : w1.cell? ⟨w.heap.size, 7, none⟩ = some (.bool nr) := z1.cell 7
  have p8 : w1.cell? ⟨w.heap.size, 8, none⟩ = some (.bool lg) := z1.cell 8
  have p9 : w1.cell? ⟨w.heap.size, 9, none⟩ = some (.slice ma mn mc) := z1.cell 9
  have p10 : w1.cell? ⟨w.heap.size, 10, none⟩ = some (.string what) := z1.cell 10
  have q0 : w1.cell? ⟨w.heap.size + 1, 0, none⟩ = some (.int .i64 ak) := z2.cell 0
  have q1 : w1.cell? ⟨w.heap.size + 1, 1, none⟩ = some (.slice x1 n1 c1) := z2.cell 1
  have q2 : w1.cell? ⟨w.heap.size + 1, 2, none⟩ = some (.int .u64 n2) := z2.cell 2
  have q3 : w1.cell? ⟨w.heap.size + 1, 3, none⟩ = some (sv tx) := z2.cell 3
  have q4 : w1.cell? ⟨w.heap.size + 1, 4, none⟩ = some (.slice x3 n3 c3) := z2.cell 4
  go_wp2_with fail
  go_region_held3 (fun X => X.cell? ⟨w.heap.size, 0, none⟩ = some (.int .i64 23) ∧ X.cell? ⟨w.heap.size, 1, none⟩ = some (.slice ka kn kc) ∧ X.cell? ⟨w.heap.size, 2, none⟩ = some (.int .u64 fl1) ∧ X.cell? ⟨w.heap.size, 3, none⟩ = some (.int .i64 ex) ∧ X.cell? ⟨w.heap.size, 4, none⟩ = some (.int .u64 tk) ∧ X.cell? ⟨w.heap.size, 5, none⟩ = some (.int .u64 de) ∧ X.cell? ⟨w.heap.size, 6, none⟩ = some (.slice da dn dc) ∧ X.cell? ⟨w.heap.size, 7, none⟩ = some (.bool nr) ∧ X.cell? ⟨w.heap.size, 8, none⟩ = some (.bool lg) ∧ X.cell? ⟨w.heap.size, 9, none⟩ = some (.slice ma mn mc) ∧ X.cell? ⟨w.heap.size, 10, none⟩ = some (.string what) ∧ X.cell? ⟨w.heap.size + 1, 0, none⟩ = some (.int .i64 ak) ∧ X.cell? ⟨w.heap.size + 1, 1, none⟩ = some (.slice x1 n1 c1) ∧ X.cell? ⟨w.heap.size + 1, 2, none⟩ = some (.int .u64 n2) ∧ X.cell? ⟨w.heap.size + 1, 3, none⟩ = some (sv tx) ∧ X.cell? ⟨w.heap.size + 1, 4, none⟩ = some (.slice x3 n3 c3)) ((first | exact ⟨hk4.cell p0 hne1, hk4.cell p1 hne1, hk4.cell p2 hne1, hk4.cell p3 hne1, hk4.cell p4 hne1, hk4.cell p5 hne1, hk4.cell p6 hne1, hk4.cell p7 hne1, hk4.cell p8 hne1, hk4.cell p9 hne1, hk4.cell p10 hne1, hk4.cell q0 hne2, hk4.cell q1 hne2, hk4.cell q2 hne2, hk4.cell q3 hne2, hk4.cell q4 hne2⟩ | go_keep)) ((first | (go_at_call 64; (first | (with_reducible refine (h64 _ (gb_drew (gb_refl _ _))).mono ?_) | (with_reducible refine (h64 _ (gb_drewN (gb_refl _ _) _)).mono ?_) | (with_reducible refine (h64 _ (gb_refl _ _)).mono ?_) | (with_reducible refine (h64 _ (gb_drewN (gb_drew (gb_refl _ _)) _)).mono ?_)); rintro e3 w3 ⟨rfl, rfl⟩) | (go_at_call 63; (first | (with_reducible refine (h63' _ (gb_drew (gb_refl _ _))).mono ?_) | (with_reducible refine (h63' _ (gb_drewN (gb_refl _ _) _)).mono ?_) | (with_reducible refine (h63' _ (gb_refl _ _)).mono ?_) | (with_reducible refine (h63' _ (gb_drewN (gb_drew (gb_refl _ _)) _)).mono ?_)); rintro e4 w4 ⟨rfl, hb4, hk4⟩)))
  go_wp2
  go_end0
  refine ⟨rfl, ?_, ?_⟩
  · rw [plus_dl] at hb4
    subst hy0
    exact hb4
  · exact (K1.then hk1).then ((Kp.drew _ _).then hk4)
set_option maxRecDepth 100000 in
set_option maxHeartbeats 4000000 in
theorem command_42_24 (b : Nat) (k : Int) (N : Cn) (c : Cm) (a : An) (y : Value) (fl : List Fl) (why : List Int) (w : World) (hB : Bd w b k N) (hN : Fit N) (ha : a.Ok) (hm : Flgs w c.mt fl) (ho : Off c.mt (· = b)) (hy : Ints w y why) (hyo : Off y (· = b)) (hv : c.verb = 24) :
    Calls Tryd.prog 42 #[.pointer (some ⟨b, 2, none⟩), cmV c, anV a, y] w fun e w' => e = .returned (.tuple #[]) ∧ Bd w' b k (plus N (dl (cmdL c.verb a.kind (code a) fl why))) ∧ Kp (· = b) w w' := by
  obtain ⟨y0, hy0⟩ : ∃ y0, why.headD (-1) = y0 := ⟨_, rfl⟩
  have h63 := meta_63 b k (plus N (dl [5])) c a y0 fl
  generalize code a = cd at *
  have ha0 := ha
  obtain ⟨ak, en, nu, tx, st⟩ := a
  obtain ⟨⟨x1, n1, c1, e1⟩, ⟨n2, e2⟩, ⟨x3, n3, c3, e3⟩, hl⟩ := ha
  simp only at e1 e2 e3 hl
  subst e1 e2 e3
  obtain ⟨v, ka, kn, kc, fl1, ex, tk, de, da, dn, dc, nr, lg, ma, mn, mc, what⟩ := c
  simp only [Cm.mt] at *
  subst hv
  have g1 := World.grownBy_alloc w (.cells (cmA ⟨24, ka, kn, kc, fl1, ex, tk, de, da, dn, dc, nr, lg, ma, mn, mc, what⟩) 35) none
  have g2 := World.grownBy_alloc (w.alloc (.cells (cmA ⟨24, ka, kn, kc, fl1, ex, tk, de, da, dn, dc, nr, lg, ma, mn, mc, what⟩) 35)) (.cells (anA ⟨ak, .slice x1 n1 c1, .int .u64 n2, tx, .slice x3 n3 c3⟩) 39) none
  have b1 := (Box.new w 35 (cmA ⟨24, ka, kn, kc, fl1, ex, tk, de, da, dn, dc, nr, lg, ma, mn, mc, what⟩)).kept g2 (by simp)
  have b2 := Box.new (w.alloc (.cells (cmA ⟨24, ka, kn, kc, fl1, ex, tk, de, da, dn, dc, nr, lg, ma, mn, mc, what⟩) 35)) 39 (anA ⟨ak, .slice x1 n1 c1, .int .u64 n2, tx, .slice x3 n3 c3⟩)
  rw [show (w.alloc (.cells (cmA ⟨24, ka, kn, kc, fl1, ex, tk, de, da, dn, dc, nr, lg, ma, mn, mc, what⟩) 35)).heap.size = w.heap.size + 1 from by simp] at b2
  have g12 := gb_trans g1 g2
  have hne1 : ¬ w.heap.size = b := by have := hB.lt; omega
  have hne2 : ¬ w.heap.size + 1 = b := by have := hB.lt; omega
  have B1 : Bd ((w.alloc (.cells (cmA ⟨24, ka, kn, kc, fl1, ex, tk, de, da, dn, dc, nr, lg, ma, mn, mc, what⟩) 35)).alloc (.cells (anA ⟨ak, .slice x1 n1 c1, .int .u64 n2, tx, .slice x3 n3 c3⟩) 39)) b k N := Box.kept hB g12 (by simp)
  have K1 : Kp (· = b) w ((w.alloc (.cells (cmA ⟨24, ka, kn, kc, fl1, ex, tk, de, da, dn, dc, nr, lg, ma, mn, mc, what⟩) 35)).alloc (.cells (anA ⟨ak, .slice x1 n1 c1, .int .u64 n2, tx, .slice x3 n3 c3⟩) 39)) := Kp.of g12
  have m1 := hm.kept K1 ho
  have y1 := hy.kept K1 hyo
  have hsz : w.heap.size + 1 + 1 = (((w.alloc (.cells (cmA ⟨24, ka, kn, kc, fl1, ex, tk, de, da, dn, dc, nr, lg, ma, mn, mc, what⟩) 35)).alloc (.cells (anA ⟨ak, .slice x1 n1 c1, .int .u64 n2, tx, .slice x3 n3 c3⟩) 39))).heap.size := by simp
  have p0 : World.cell? _ ⟨w.heap.size, 0, none⟩ = some (.int .i64 24) := b1.cell 0
  have q0 : World.cell? _ ⟨w.heap.size + 1, 0, none⟩ = some (.int .i64 ak) := b2.cell 0
  go_enter Tryd.func42, Tryd.ntmps42
  go_wp2_with fail
  generalize ((w.alloc (.cells (cmA ⟨24, ka, kn, kc, fl1, ex, tk, de, da, dn, dc, nr, lg, ma, mn, mc, what⟩) 35)).alloc (.cells (anA ⟨ak, .slice x1 n1 c1, .int .u64 n2, tx, .slice x3 n3 c3⟩) 39)) = W at *
  clear hsz
  go_wp2_with fail
  refine (one1 b k _ 5 5 rfl (by omega) _ B1 hN).mono ?_
  rintro e w1 ⟨rfl, hb1, hk1⟩
  have z1 := hk1.box b1 hne1
  have z2 := hk1.box b2 hne2
  have m2 := m1.kept hk1 ho
  have y2 := y1.kept hk1 hyo
  clear p0 q0
  have h64 := fun (X : World) (hX : w1.grownBy X none) => first_64 y why X (y2.kept (Kp.of (F := fun _ => False) hX) (fun _ _ _ _ _ h => h))
  rw [hy0] at h64
  have h63' := fun (X : World) (hX : w1.grownBy X none) => h63 X (Box.kept hb1 hX (by simp)) (plus_fit _ _) ha0 (m2.kept (Kp.of (F := (· = b)) hX) ho) ho (by simp)
  clear h63
  have p0 : w1.cell? ⟨w.heap.size, 0, none⟩ = some (.int .i64 24) := z1.cell 0
  have p1 : w1.cell? ⟨w.heap.size, 1, none⟩ = some (.slice ka kn kc) := z1.cell 1
  have p2 : w1.cell? ⟨w.heap.size, 2, none⟩ = some (.int .u64 fl1) := z1.cell 2
  have p3 : w1.cell? ⟨w.heap.size, 3, none⟩ = some (.int .i64 ex) := z1.cell 3
  have p4 : w1.cell? ⟨w.heap.size, 4, none⟩ = some (.int .u64 tk) := z1.cell 4
  have p5 : w1.cell? ⟨w.heap.size, 5, none⟩ = some (.int .u64 de) := z1.cell 5
  have p6 : w1.cell? ⟨w.heap.size, 6, none⟩ = some (.slice da dn dc) := z1.cell 6
  have p7 : w1.cell? ⟨w.heap.size, 7, none⟩ = some (.bool nr) := z1.cell 7
  have p8 : w1.cell? ⟨w.heap.size, 8, none⟩ = some (.bool lg) := z1.cell 8
  have p9 : w1.cell? ⟨w.heap.size, 9, none⟩ = some (.slice ma mn mc) := z1.cell 9
  have p10 : w1.cell? ⟨w.heap.size, 10, none⟩ = some (.string what) := z1.cell 10
  have q0 : w1.cell? ⟨w.heap.size + 1, 0, none⟩ = some (.int .i64 ak) := z2.cell 0
  have q1 : w1.cell? ⟨w.heap.size + 1, 1, none⟩ = some (.slice x1 n1 c1) := z2.cell 1
  have q2 : w1.cell? ⟨w.heap.size + 1, 2, none⟩ = some (.int .u64 n2) := z2.cell 2
  have q3 : w1.cell? ⟨w.heap.size + 1, 3, none⟩ = some (sv tx) := z2.cell 3
  have q4 : w1.cell? ⟨w.heap.size + 1, 4, none⟩ = some (.slice x3 n3 c3) := z2.cell 4
  go_wp2_with fail
  go_region_held3 (fun X => X.cell? ⟨w.heap.size, 0, none⟩ = some (.int .i64 24) ∧ X.cell? ⟨w.heap.size, 1, none⟩ = some (.slice ka kn kc) ∧ X.cell? ⟨w.heap.size, 2, none⟩ = some (.int .u64 fl1) ∧ X.cell? ⟨w.heap.size, 3, none⟩ = some (.int .i64 ex) ∧ X.cell? ⟨w.heap.size, 4, none⟩ = some (.int .u64 tk) ∧ X.cell? ⟨w.heap.size, 5, none⟩ = some (.int .u64 de) ∧ X.cell? ⟨w.heap.size, 6, none⟩ = some (.slice da dn dc) ∧ X.cell? ⟨w.heap.size, 7, none⟩ = some (.bool nr) ∧ X.cell? ⟨w.heap.size, 8, none⟩ = some (.bool lg) ∧ X.cell? ⟨w.heap.size, 9, none⟩ = some (.slice ma mn mc) ∧ X.cell? ⟨w.heap.size, 10, none⟩ = some (.string what) ∧ X.cell? ⟨w.heap.size + 1, 0, none⟩ = some (.int .i64 ak) ∧ X.cell? ⟨w.heap.size + 1, 1, none⟩ = some (.slice x1 n1 c1) ∧ X.cell? ⟨w.heap.size + 1, 2, none⟩ = some (.int .u64 n2) ∧ X.cell? ⟨w.heap.size + 1, 3, none⟩ = some (sv tx) ∧ X.cell? ⟨w.heap.size + 1, 4, none⟩ = some (.slice x3 n3 c3)) ((first | exact ⟨hk4.cell p0 hne1, hk4.cell p1 hne1, hk4.cell p2 hne1, hk4.cell p3 hne1, hk4.cell p4 hne1, hk4.cell p5 hne1, hk4.cell p6 hne1, hk4.cell p7 hne1, hk4.cell p8 hne1, hk4.cell p9 hne1, hk4.cell p10 hne1, hk4.cell q0 hne2, hk4.cell q1 hne2, hk4.cell q2 hne2, hk4.cell q3 hne2, hk4.cell q4 hne2⟩ | go_keep)) ((first | (go_at_call 64; (first | (with_reducible refine (h64 _ (gb_drew (gb_refl _ _))).mono ?_) | (with_reducible refine (h64 _ (gb_drewN (gb_refl _ _) _)).mono ?_) | (with_reducible refine (h64 _ (gb_refl _ _)).mono ?_) | (with_reducible refine (h64 _ (gb_drewN (gb_drew (gb_refl _ _)) _)).mono ?_)); rintro e3 w3 ⟨rfl, rfl⟩) | (go_at_call 63; (first | (with_reducible refine (h63' _ (gb_drew (gb_refl _ _))).mono ?_) | (with_reducible refine (h63' _ (gb_drewN (gb_refl _ _) _)).mono ?_) | (with_reducible refine (h63' _ (gb_refl _ _)).mono ?_) | (with_reducible refine (h63' _ (gb_drewN (gb_drew (gb_refl _ _)) _)).mono ?_)); rintro e4 w4 ⟨rfl, hb4, hk4⟩)))
  go_wp2
  go_end0
  refine ⟨rfl, ?_, ?_⟩
  · rw [plus_dl] at hb4
    subst hy0
    exact hb4
  · exact (K1.then hk1).then ((Kp.drew _ _).then hk4)
set_option maxRecDepth 100000 in
set_option maxHeartbeats 4000000 in
theorem command_42_o (b : Nat) (k : Int) (N : Cn) (c : Cm) (a : An) (y : Value) (fl : List Fl) (why : List Int) (w : World) (hB : Bd w b k N) (hN : Fit N) (ha : a.Ok) (hm : Flgs w c.mt fl) (ho : Off c.mt (· = b)) (hy : Ints w y why) (hyo : Off y (· = b)) (hv : ¬ c.verb = 1 ∧ ¬ c.verb = 2 ∧ ¬ c.verb = 3 ∧ ¬ c.verb = 4 ∧ ¬ c.verb = 20 ∧ ¬ c.verb = 21 ∧ ¬ c.verb = 22 ∧ ¬ c.verb = 23 ∧ ¬ c.verb = 24) :
    Calls Tryd.prog 42 #[.pointer (some ⟨b, 2, none⟩), cmV c, anV a, y] w fun e w' => e = .returned (.tuple #[]) ∧ Bd w' b k (plus N (dl (cmdL c.verb a.kind (code a) fl why))) ∧ Kp (· = b) w w' := by
  obtain ⟨y0, hy0⟩ : ∃ y0, why.headD (-1) = y0 := ⟨_, rfl⟩
  have h63 := meta_63 b k (plus N (dl [5])) c a y0 fl
  generalize code a = cd at *
  have ha0 := ha
  obtain ⟨ak, en, nu, tx, st⟩ := a
  obtain ⟨⟨x1, n1, c1, e1⟩, ⟨n2, e2⟩, ⟨x3, n3, c3, e3⟩, hl⟩ := ha
  simp only at e1 e2 e3 hl
  subst e1 e2 e3
  obtain ⟨v, ka, kn, kc, fl1, ex, tk, de, da, dn, dc, nr, lg, ma, mn, mc, what⟩ := c
  simp only [Cm.mt] at *
  obtain ⟨n1v, n2v, n3v, n4v, n20, n21, n22, n23, n24⟩ := hv
  have g1 := World.grownBy_alloc w (.cells (cmA ⟨v, ka, kn, kc, fl1, ex, tk, de, da, dn, dc, nr, lg, ma, mn, mc, what⟩) 35) none
  have g2 := World.grownBy_alloc (w.alloc (.cells (cmA ⟨v, ka, kn, kc, fl1, ex, tk, de, da, dn, dc, nr, lg, ma, mn, mc, what⟩) 35)) (.cells (anA ⟨ak, .slice x1 n1 c1, .int .u64 n2, tx, .slice x3 n3 c3⟩) 39) none
  have b1 := (Box.new w 35 (cmA ⟨v, ka, kn, kc, fl1, ex, tk, de, da, dn, dc, nr, lg, ma, mn, mc, what⟩)).kept g2 (by simp)
  have b2 := Box.new (w.alloc (.cells (cmA ⟨v, ka, kn, kc, fl1, ex, tk, de, da, dn, dc, nr, lg, ma, mn, mc, what⟩) 35)) 39 (anA ⟨ak, .slice x1 n1 c1, .int .u64 n2, tx, .slice x3 n3 c3⟩)
  rw [show (w.alloc (.cells (cmA ⟨v, ka, kn, kc, fl1, ex, tk, de, da, dn, dc, nr, lg, ma, mn, mc, what⟩) 35)).heap.size = w.heap.size + 1 from by simp] at b2
  have g12 := gb_trans g1 g2
  have hne1 : ¬ w.heap.size = b := by have := hB.lt; omega
  have hne2 : ¬ w.heap.size + 1 = b := by have := hB.lt; omega
  have B1 : Bd ((w.alloc (.cells (cmA ⟨v, ka, kn, kc, fl1, ex, tk, de, da, dn, dc, nr, lg, ma, mn, mc, what⟩) 35)).alloc (.cells (anA ⟨ak, .slice x1 n1 c1, .int .u64 n2, tx, .slice x3 n3 c3⟩) 39)) b k N := Box.kept hB g12 (by simp)
  have K1 : Kp (· = b) w ((w.alloc (.cells (cmA ⟨v, ka, kn, kc, fl1, ex, tk, de, da, dn, dc, nr, lg, ma, mn, mc, what⟩) 35)).alloc (.cells (anA ⟨ak, .slice x1 n1 c1, .int .u64 n2, tx, .slice x3 n3 c3⟩) 39)) := Kp.of g12
  have m1 := hm.kept K1 ho
  have y1 := hy.kept K1 hyo
  have hsz : w.heap.size + 1 + 1 = (((w.alloc (.cells (cmA ⟨v, ka, kn, kc, fl1, ex, tk, de, da, dn, dc, nr, lg, ma, mn, mc, what⟩) 35)).alloc (.cells (anA ⟨ak, .slice x1 n1 c1, .int .u64 n2, tx, .slice x3 n3 c3⟩) 39))).heap.size := by simp
  have p0 : World.cell? _ ⟨w.heap.size, 0, none⟩ = some (.int .i64 v) := b1.cell 0
  have q0 : World.cell? _ ⟨w.heap.size + 1, 0, none⟩ = some (.int .i64 ak) := b2.cell 0
  go_enter Tryd.func42, Tryd.ntmps42
  go_wp2_with fail
  generalize ((w.alloc (.cells (cmA ⟨v, ka, kn, kc, fl1, ex, tk, de, da, dn, dc, nr, lg, ma, mn, mc, what⟩) 35)).alloc (.cells (anA ⟨ak, .slice x1 n1 c1, .int .u64 n2, tx, .slice x3 n3 c3⟩) 39)) = W at *
  refine (answered_65 b k N v ak _ B1 hN).mono ?_
  rintro e w1 ⟨rfl, hb1, hk1⟩
  go_wp2
  go_end0
  refine ⟨rfl, ?_, K1.then hk1⟩
  have e : cmdL v ak cd fl why = ansL v ak := by
    have : ¬ (20 ≤ v ∧ v ≤ 24) := by omega
    simp [cmdL, n1v, n2v, n3v, n4v, this]
  rw [e]
  exact hb1
theorem command_42 (b : Nat) (k : Int) (N : Cn) (c : Cm) (a : An) (y : Value) (fl : List Fl) (why : List Int) (w : World) (hB : Bd w b k N) (hN : Fit N) (ha : a.Ok) (hm : Flgs w c.mt fl) (ho : Off c.mt (· = b)) (hy : Ints w y why) (hyo : Off y (· = b)) :
    Calls Tryd.prog 42 #[.pointer (some ⟨b, 2, none⟩), cmV c, anV a, y] w fun e w' => e = .returned (.tuple #[]) ∧ Bd w' b k (plus N (dl (cmdL c.verb a.kind (code a) fl why))) ∧ Kp (· = b) w w' := by
  by_cases c1 : c.verb = 1
  · exact command_42_1 b k N c a y fl why w hB hN ha hm ho hy hyo c1
  by_cases c2 : c.verb = 2
  · exact command_42_2 b k N c a y fl why w hB hN ha hm ho hy hyo c2
  by_cases c3 : c.verb = 3
  · exact command_42_3 b k N c a y fl why w hB hN ha hm ho hy hyo c3
  by_cases c4 : c.verb = 4
  · exact command_42_4 b k N c a y fl why w hB hN ha hm ho hy hyo c4
  by_cases c20 : c.verb = 20
  · exact command_42_20 b k N c a y fl why w hB hN ha hm ho hy hyo c20
  by_cases c21 : c.verb = 21
  · exact command_42_21 b k N c a y fl why w hB hN ha hm ho hy hyo c21
  by_cases c22 : c.verb = 22
  · exact command_42_22 b k N c a y fl why w hB hN ha hm ho hy hyo c22
  by_cases c23 : c.verb = 23
  · exact command_42_23 b k N c a y fl why w hB hN ha hm ho hy hyo c23
  by_cases c24 : c.verb = 24
  · exact command_42_24 b k N c a y fl why w hB hN ha hm ho hy hyo c24
  exact command_42_o b k N c a y fl why w hB hN ha hm ho hy hyo ⟨c1, c2, c3, c4, c20, c21, c22, c23, c24⟩
end Go.Proofs.YtonbkpfnpnlkpaaDoor

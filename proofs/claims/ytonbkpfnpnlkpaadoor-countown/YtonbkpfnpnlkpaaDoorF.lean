/-
  The tally: meta commands.
-/
import Derived.Test.YtonbkpfnpnlkpaaDoorE
namespace Go.Proofs.YtonbkpfnpnlkpaaDoor
open Go.RowKit
set_option linter.unusedVariables false
set_option linter.unusedSimpArgs false
attribute [local go_sem] Oper.semAt_some

/-- A command's cells. -/
structure Cm where
  verb : Int
  ka : Option Addr
  kn : Nat
  kc : Nat
  fl : Int
  ex : Int
  tk : Int
  de : Int
  da : Option Addr
  dn : Nat
  dc : Nat
  nr : Bool
  lg : Bool
  ma : Option Addr
  mn : Nat
  mc : Nat
  what : ByteArray
abbrev cmV (c : Cm) : Value := .agg #[.int .i64 c.verb, .slice c.ka c.kn c.kc, .int .u64 c.fl, .int .i64 c.ex, .int .u64 c.tk, .int .u64 c.de, .slice c.da c.dn c.dc, .bool c.nr, .bool c.lg, .slice c.ma c.mn c.mc, .string c.what]
abbrev cmA (c : Cm) : Array Value := #[.int .i64 c.verb, .slice c.ka c.kn c.kc, .int .u64 c.fl, .int .i64 c.ex, .int .u64 c.tk, .int .u64 c.de, .slice c.da c.dn c.dc, .bool c.nr, .bool c.lg, .slice c.ma c.mn c.mc, .string c.what]
abbrev anA (a : An) : Array Value := #[.int .i64 a.kind, a.ent, a.num, sv a.text, a.stats]
abbrev Cm.mt (c : Cm) : Value := .slice c.ma c.mn c.mc
/-- Is a code these bytes? -/
abbrev bq (l : Bs) (x : Bs) : Bool := l == x
/-- What a meta command adds beside its being one. -/
def metaL (v y ak : Int) (cd : Bs) (fl : List Fl) : List Nat :=
  if v = 20 then keyL y
  else if v = 21 then [2] ++ wh (bq cd [72, 68]) [24] ++ wh (fnd fl 67).isSome (wh (bq cd [72, 68]) [16] ++ wh (bq cd [69, 88]) [17] ++ wh (bq cd [78, 70]) [18])
  else if v = 22 then wh (y == 0 && !(bq cd [69, 88])) [10] ++ wh (miss y) [11]
  else if v = 23 then wh (y == 0 && !(bq cd [69, 88]) && ak != 11) [if away fl then 14 else 12] ++ wh (miss y) [if away fl then 15 else 13]
  else []
set_option maxRecDepth 100000 in
set_option maxHeartbeats 4000000 in
theorem meta_63_20 (b : Nat) (k : Int) (N : Cn) (c : Cm) (a : An) (y : Int) (fl : List Fl) (w : World) (hB : Bd w b k N) (hN : Fit N) (ha : a.Ok) (hm : Flgs w c.mt fl) (ho : Off c.mt (· = b)) (hv : c.verb = 20) :
    Calls Tryd.prog 63 #[.pointer (some ⟨b, 2, none⟩), cmV c, anV a, .int .i64 y] w fun e w' => e = .returned (.tuple #[]) ∧ Bd w' b k (plus N (dl (metaL 20 y a.kind (code a) fl))) ∧ Kp (· = b) w w' := by
  have h93 := fun W => codeOf_93 a ha W
  generalize code a = cd at *
  obtain ⟨ak, en, nu, tx, st⟩ := a
  obtain ⟨⟨x1, n1, c1, e1⟩, ⟨n2, e2⟩, ⟨x3, n3, c3, e3⟩, hl⟩ := ha
  simp only at e1 e2 e3 hl
  subst e1 e2 e3
  obtain ⟨vb, ka, kn, kc, fl1, ex, tk, de, da, dn, dc, nr, lg, ma, mn, mc, what⟩ := c
  simp only [Cm.mt] at hv hm ho
  subst hv
  simp only [anV] at h93
  have g1 := World.grownBy_alloc w (.cells (cmA ⟨20, ka, kn, kc, fl1, ex, tk, de, da, dn, dc, nr, lg, ma, mn, mc, what⟩) 35) none
  have g2 := World.grownBy_alloc (w.alloc (.cells (cmA ⟨20, ka, kn, kc, fl1, ex, tk, de, da, dn, dc, nr, lg, ma, mn, mc, what⟩) 35)) (.cells (anA ⟨ak, .slice x1 n1 c1, .int .u64 n2, tx, .slice x3 n3 c3⟩) 39) none
  have b1 := (Box.new w 35 (cmA ⟨20, ka, kn, kc, fl1, ex, tk, de, da, dn, dc, nr, lg, ma, mn, mc, what⟩)).kept g2 (by simp)
  have b2 := Box.new (w.alloc (.cells (cmA ⟨20, ka, kn, kc, fl1, ex, tk, de, da, dn, dc, nr, lg, ma, mn, mc, what⟩) 35)) 39 (anA ⟨ak, .slice x1 n1 c1, .int .u64 n2, tx, .slice x3 n3 c3⟩)
  rw [show (w.alloc (.cells (cmA ⟨20, ka, kn, kc, fl1, ex, tk, de, da, dn, dc, nr, lg, ma, mn, mc, what⟩) 35)).heap.size = w.heap.size + 1 from by simp] at b2
  have g12 := gb_trans g1 g2
  have hne1 : ¬ w.heap.size = b := by have := hB.lt; omega
  have hne2 : ¬ w.heap.size + 1 = b := by have := hB.lt; omega
  go_enter Tryd.func63, Tryd.ntmps63
  go_wp2_with (go_at_call 93; (with_reducible refine (h93 _).mono ?_); rintro e w1 ⟨rfl, hg1⟩; (have z1 := b1.kept hg1 (by simp)); (have z2 := b2.kept hg1 (by simp)); (have gw := gb_trans g12 hg1); (have p0 : w1.cell? ⟨w.heap.size, 0, none⟩ = some (.int .i64 20) := z1.cell 0); (have p9 : w1.cell? ⟨w.heap.size, 9, none⟩ = some (.slice ma mn mc) := z1.cell 9); (have q0 : w1.cell? ⟨w.heap.size + 1, 0, none⟩ = some (.int .i64 ak) := z2.cell 0); (have B1 : Bd w1 b k N := Box.kept hB gw (by simp)); (have m1 := hm.kept (Kp.of (F := (· = b)) gw) ho); (have K1 : Kp (· = b) w w1 := Kp.of gw))
  refine (key_91 b k _ y _ B1 hN).mono ?_
  rintro e w2 ⟨rfl, hb2, hk2⟩
  go_wp2
  go_end0
  exact ⟨rfl, hb2, K1.then hk2⟩
set_option maxRecDepth 100000 in
set_option maxHeartbeats 4000000 in
theorem meta_63_21 (b : Nat) (k : Int) (N : Cn) (c : Cm) (a : An) (y : Int) (fl : List Fl) (w : World) (hB : Bd w b k N) (hN : Fit N) (ha : a.Ok) (hm : Flgs w c.mt fl) (ho : Off c.mt (· = b)) (hv : c.verb = 21) :
    Calls Tryd.prog 63 #[.pointer (some ⟨b, 2, none⟩), cmV c, anV a, .int .i64 y] w fun e w' => e = .returned (.tuple #[]) ∧ Bd w' b k (plus N (dl (metaL 21 y a.kind (code a) fl))) ∧ Kp (· = b) w w' := by
  have h93 := fun W => codeOf_93 a ha W
  generalize code a = cd at *
  obtain ⟨ak, en, nu, tx, st⟩ := a
  obtain ⟨⟨x1, n1, c1, e1⟩, ⟨n2, e2⟩, ⟨x3, n3, c3, e3⟩, hl⟩ := ha
  simp only at e1 e2 e3 hl
  subst e1 e2 e3
  obtain ⟨vb, ka, kn, kc, fl1, ex, tk, de, da, dn, dc, nr, lg, ma, mn, mc, what⟩ := c
  simp only [Cm.mt] at hv hm ho
  subst hv
  simp only [anV] at h93
  have g1 := World.grownBy_alloc w (.cells (cmA ⟨21, ka, kn, kc, fl1, ex, tk, de, da, dn, dc, nr, lg, ma, mn, mc, what⟩) 35) none
  have g2 := World.grownBy_alloc (w.alloc (.cells (cmA ⟨21, ka, kn, kc, fl1, ex, tk, de, da, dn, dc, nr, lg, ma, mn, mc, what⟩) 35)) (.cells (anA ⟨ak, .slice x1 n1 c1, .int .u64 n2, tx, .slice x3 n3 c3⟩) 39) none
  have b1 := (Box.new w 35 (cmA ⟨21, ka, kn, kc, fl1, ex, tk, de, da, dn, dc, nr, lg, ma, mn, mc, what⟩)).kept g2 (by simp)
  have b2 := Box.new (w.alloc (.cells (cmA ⟨21, ka, kn, kc, fl1, ex, tk, de, da, dn, dc, nr, lg, ma, mn, mc, what⟩) 35)) 39 (anA ⟨ak, .slice x1 n1 c1, .int .u64 n2, tx, .slice x3 n3 c3⟩)
  rw [show (w.alloc (.cells (cmA ⟨21, ka, kn, kc, fl1, ex, tk, de, da, dn, dc, nr, lg, ma, mn, mc, what⟩) 35)).heap.size = w.heap.size + 1 from by simp] at b2
  have g12 := gb_trans g1 g2
  have hne1 : ¬ w.heap.size = b := by have := hB.lt; omega
  have hne2 : ¬ w.heap.size + 1 = b := by have := hB.lt; omega
  obtain ⟨f, hf⟩ : ∃ f, (fnd fl 67).getD fl0 = f := ⟨_, rfl⟩
  obtain ⟨s, hs⟩ : ∃ s, (fnd fl 67).isSome = s := ⟨_, rfl⟩
  obtain ⟨fc, fa, fh⟩ := f
  rw [show metaL 21 y ak cd fl = [2] ++ wh (bq cd [72, 68]) [24] ++ wh s (wh (bq cd [72, 68]) [16] ++ wh (bq cd [69, 88]) [17] ++ wh (bq cd [78, 70]) [18]) from by rw [← hs]; rfl]
  go_enter Tryd.func63, Tryd.ntmps63
  go_wp2_with (go_at_call 93; (with_reducible refine (h93 _).mono ?_); rintro e w1 ⟨rfl, hg1⟩; (have z1 := b1.kept hg1 (by simp)); (have z2 := b2.kept hg1 (by simp)); (have gw := gb_trans g12 hg1); (have p0 : w1.cell? ⟨w.heap.size, 0, none⟩ = some (.int .i64 21) := z1.cell 0); (have p9 : w1.cell? ⟨w.heap.size, 9, none⟩ = some (.slice ma mn mc) := z1.cell 9); (have q0 : w1.cell? ⟨w.heap.size + 1, 0, none⟩ = some (.int .i64 ak) := z2.cell 0); (have B1 : Bd w1 b k N := Box.kept hB gw (by simp)); (have m1 := hm.kept (Kp.of (F := (· = b)) gw) ho); (have K1 : Kp (· = b) w w1 := Kp.of gw))
  refine (one1 b k _ 2 2 rfl (by omega) _ B1 hN).mono ?_
  rintro f1 w2 ⟨rfl, hb2, hk2⟩
  go_wp2_with fail
  refine (when1 b k _ _ 24 24 rfl (by omega) _ hb2 (plus_fit _ _)).mono ?_
  rintro f2 w3 ⟨rfl, hb3, hk3⟩
  have m3 := (m1.kept hk2 ho).kept hk3 ho
  have r9 := hk3.cell (hk2.cell p9 hne1) hne1
  have h94 := find_94 _ fl 67 w3 m3
  rw [hf, hs, show ((67 : UInt8).toNat : Int) = 67 from rfl] at h94
  clear hf hs
  cases s
  · go_wp2_with (go_at_call 94; (with_reducible refine h94.mono ?_); rintro e w4 ⟨rfl, hg4⟩)
    have hb4 : Bd (w4.alloc (.cells #[.int .u8 fc.toNat, .string ⟨fa.toArray⟩, .bool fh] 75)) b k _ := Box.kept (Box.kept hb3 hg4 (by simp)) (World.grownBy_alloc _ _ none) (by simp)
    have hk4 : Kp (· = b) w3 (w4.alloc (.cells #[.int .u8 fc.toNat, .string ⟨fa.toArray⟩, .bool fh] 75)) := Kp.of (gb_trans hg4 (World.grownBy_alloc _ _ none))
    have hz : w4.heap.size + 1 = (w4.alloc (.cells #[.int .u8 fc.toNat, .string ⟨fa.toArray⟩, .bool fh] 75)).heap.size := by simp
    generalize w4.alloc (.cells #[.int .u8 fc.toNat, .string ⟨fa.toArray⟩, .bool fh] 75) = w5 at *
    clear h94
    go_end0
    refine ⟨rfl, ?_, ((K1.then hk2).then hk3).then hk4⟩
    rw [plus_dl] at hb4
    rw [wh_f, List.append_nil]
    exact hb4
  · go_wp2_with (go_at_call 94; (with_reducible refine h94.mono ?_); rintro e w4 ⟨rfl, hg4⟩)
    have hb4 : Bd (w4.alloc (.cells #[.int .u8 fc.toNat, .string ⟨fa.toArray⟩, .bool fh] 75)) b k _ := Box.kept (Box.kept hb3 hg4 (by simp)) (World.grownBy_alloc _ _ none) (by simp)
    have hk4 : Kp (· = b) w3 (w4.alloc (.cells #[.int .u8 fc.toNat, .string ⟨fa.toArray⟩, .bool fh] 75)) := Kp.of (gb_trans hg4 (World.grownBy_alloc _ _ none))
    have hz : w4.heap.size + 1 = (w4.alloc (.cells #[.int .u8 fc.toNat, .string ⟨fa.toArray⟩, .bool fh] 75)).heap.size := by simp
    generalize w4.alloc (.cells #[.int .u8 fc.toNat, .string ⟨fa.toArray⟩, .bool fh] 75) = w5 at *
    clear h94
    rw [hz]
    refine (when1 b k _ _ 16 16 rfl (by omega) _ hb4 (plus_fit _ _)).mono ?_
    clear hz
    rintro f6 w6 ⟨rfl, hb6, hk6⟩
    go_wp2_with fail
    refine (when1 b k _ _ 17 17 rfl (by omega) _ hb6 (plus_fit _ _)).mono ?_
    rintro f7 w7 ⟨rfl, hb7, hk7⟩
    go_wp2_with fail
    refine (when1 b k _ _ 18 18 rfl (by omega) _ hb7 (plus_fit _ _)).mono ?_
    rintro f8 w8 ⟨rfl, hb8, hk8⟩
    go_wp2
    go_end0
    refine ⟨rfl, ?_, ((((((K1.then hk2).then hk3).then hk4).then hk6).then hk7).then hk8)⟩
    simp only [plus_dl] at hb8
    rw [wh_t]
    simp only [List.append_assoc, List.cons_append, List.nil_append] at hb8 ⊢
    exact hb8
set_option maxRecDepth 100000 in
set_option maxHeartbeats 4000000 in
theorem meta_63_22 (b : Nat) (k : Int) (N : Cn) (c : Cm) (a : An) (y : Int) (fl : List Fl) (w : World) (hB : Bd w b k N) (hN : Fit N) (ha : a.Ok) (hm : Flgs w c.mt fl) (ho : Off c.mt (· = b)) (hv : c.verb = 22) :
    Calls Tryd.prog 63 #[.pointer (some ⟨b, 2, none⟩), cmV c, anV a, .int .i64 y] w fun e w' => e = .returned (.tuple #[]) ∧ Bd w' b k (plus N (dl (metaL 22 y a.kind (code a) fl))) ∧ Kp (· = b) w w' := by
  have h93 := fun W => codeOf_93 a ha W
  generalize code a = cd at *
  obtain ⟨ak, en, nu, tx, st⟩ := a
  obtain ⟨⟨x1, n1, c1, e1⟩, ⟨n2, e2⟩, ⟨x3, n3, c3, e3⟩, hl⟩ := ha
  simp only at e1 e2 e3 hl
  subst e1 e2 e3
  obtain ⟨vb, ka, kn, kc, fl1, ex, tk, de, da, dn, dc, nr, lg, ma, mn, mc, what⟩ := c
  simp only [Cm.mt] at hv hm ho
  subst hv
  simp only [anV] at h93
  have g1 := World.grownBy_alloc w (.cells (cmA ⟨22, ka, kn, kc, fl1, ex, tk, de, da, dn, dc, nr, lg, ma, mn, mc, what⟩) 35) none
  have g2 := World.grownBy_alloc (w.alloc (.cells (cmA ⟨22, ka, kn, kc, fl1, ex, tk, de, da, dn, dc, nr, lg, ma, mn, mc, what⟩) 35)) (.cells (anA ⟨ak, .slice x1 n1 c1, .int .u64 n2, tx, .slice x3 n3 c3⟩) 39) none
  have b1 := (Box.new w 35 (cmA ⟨22, ka, kn, kc, fl1, ex, tk, de, da, dn, dc, nr, lg, ma, mn, mc, what⟩)).kept g2 (by simp)
  have b2 := Box.new (w.alloc (.cells (cmA ⟨22, ka, kn, kc, fl1, ex, tk, de, da, dn, dc, nr, lg, ma, mn, mc, what⟩) 35)) 39 (anA ⟨ak, .slice x1 n1 c1, .int .u64 n2, tx, .slice x3 n3 c3⟩)
  rw [show (w.alloc (.cells (cmA ⟨22, ka, kn, kc, fl1, ex, tk, de, da, dn, dc, nr, lg, ma, mn, mc, what⟩) 35)).heap.size = w.heap.size + 1 from by simp] at b2
  have g12 := gb_trans g1 g2
  have hne1 : ¬ w.heap.size = b := by have := hB.lt; omega
  have hne2 : ¬ w.heap.size + 1 = b := by have := hB.lt; omega
  obtain ⟨h0, e0⟩ : ∃ h0, (y == 0 && !(bq cd [69, 88])) = h0 := ⟨_, rfl⟩
  rw [show metaL 22 y ak cd fl = wh h0 [10] ++ wh (miss y) [11] from by rw [← e0]; rfl]
  have e1 : (y = 0 ∧ (cd == [69, 88]) = false ∧ h0 = true) ∨ (y = 0 ∧ (cd == [69, 88]) = true ∧ h0 = false) ∨ (¬ y = 0 ∧ h0 = false) := by
    subst e0
    by_cases h1 : y = 0
    · cases h2 : (cd == [69, 88])
      · exact .inl ⟨h1, rfl, by simp [h1, h2]⟩
      · exact .inr (.inl ⟨h1, rfl, by simp [h1, h2]⟩)
    · exact .inr (.inr ⟨h1, by simp [h1]⟩)
  clear e0
  rcases e1 with ⟨rfl, hq, rfl⟩ | ⟨rfl, hq, rfl⟩ | ⟨hy, rfl⟩
  · go_enter Tryd.func63, Tryd.ntmps63
    go_wp2_with (go_at_call 93; (with_reducible refine (h93 _).mono ?_); rintro e w1 ⟨rfl, hg1⟩; (have z1 := b1.kept hg1 (by simp)); (have z2 := b2.kept hg1 (by simp)); (have gw := gb_trans g12 hg1); (have p0 : w1.cell? ⟨w.heap.size, 0, none⟩ = some (.int .i64 22) := z1.cell 0); (have p9 : w1.cell? ⟨w.heap.size, 9, none⟩ = some (.slice ma mn mc) := z1.cell 9); (have q0 : w1.cell? ⟨w.heap.size + 1, 0, none⟩ = some (.int .i64 ak) := z2.cell 0); (have B1 : Bd w1 b k N := Box.kept hB gw (by simp)); (have m1 := hm.kept (Kp.of (F := (· = b)) gw) ho); (have K1 : Kp (· = b) w w1 := Kp.of gw))
    refine (when1 b k _ _ 10 10 rfl (by omega) _ B1 hN).mono ?_
    rintro f1 w2 ⟨rfl, hb2, hk2⟩
    go_wp2_with fail
    refine (isMiss_92 _ _).mono ?_
    rintro f2 w2m ⟨rfl, rfl⟩
    go_wp2_with fail
    refine (when1 b k _ _ 11 11 rfl (by omega) _ hb2 (plus_fit _ _)).mono ?_
    rintro f3 w3 ⟨rfl, hb3, hk3⟩
    go_wp2
    go_end0
    refine ⟨rfl, ?_, (K1.then hk2).then hk3⟩
    simp only [plus_dl] at hb3
    exact hb3
  · go_enter Tryd.func63, Tryd.ntmps63
    go_wp2_with (go_at_call 93; (with_reducible refine (h93 _).mono ?_); rintro e w1 ⟨rfl, hg1⟩; (have z1 := b1.kept hg1 (by simp)); (have z2 := b2.kept hg1 (by simp)); (have gw := gb_trans g12 hg1); (have p0 : w1.cell? ⟨w.heap.size, 0, none⟩ = some (.int .i64 22) := z1.cell 0); (have p9 : w1.cell? ⟨w.heap.size, 9, none⟩ = some (.slice ma mn mc) := z1.cell 9); (have q0 : w1.cell? ⟨w.heap.size + 1, 0, none⟩ = some (.int .i64 ak) := z2.cell 0); (have B1 : Bd w1 b k N := Box.kept hB gw (by simp)); (have m1 := hm.kept (Kp.of (F := (· = b)) gw) ho); (have K1 : Kp (· = b) w w1 := Kp.of gw))
    refine (when1 b k _ _ 10 10 rfl (by omega) _ B1 hN).mono ?_
    rintro f1 w2 ⟨rfl, hb2, hk2⟩
    go_wp2_with fail
    refine (isMiss_92 _ _).mono ?_
    rintro f2 w2m ⟨rfl, rfl⟩
    go_wp2_with fail
    refine (when1 b k _ _ 11 11 rfl (by omega) _ hb2 (plus_fit _ _)).mono ?_
    rintro f3 w3 ⟨rfl, hb3, hk3⟩
    go_wp2
    go_end0
    refine ⟨rfl, ?_, (K1.then hk2).then hk3⟩
    simp only [plus_dl] at hb3
    exact hb3
  · go_enter Tryd.func63, Tryd.ntmps63
    go_wp2_with (go_at_call 93; (with_reducible refine (h93 _).mono ?_); rintro e w1 ⟨rfl, hg1⟩; (have z1 := b1.kept hg1 (by simp)); (have z2 := b2.kept hg1 (by simp)); (have gw := gb_trans g12 hg1); (have p0 : w1.cell? ⟨w.heap.size, 0, none⟩ = some (.int .i64 22) := z1.cell 0); (have p9 : w1.cell? ⟨w.heap.size, 9, none⟩ = some (.slice ma mn mc) := z1.cell 9); (have q0 : w1.cell? ⟨w.heap.size + 1, 0, none⟩ = some (.int .i64 ak) := z2.cell 0); (have B1 : Bd w1 b k N := Box.kept hB gw (by simp)); (have m1 := hm.kept (Kp.of (F := (· = b)) gw) ho); (have K1 : Kp (· = b) w w1 := Kp.of gw))
    refine (when1 b k _ _ 10 10 rfl (by omega) _ B1 hN).mono ?_
    rintro f1 w2 ⟨rfl, hb2, hk2⟩
    go_wp2_with fail
    refine (isMiss_92 _ _).mono ?_
    rintro f2 w2m ⟨rfl, rfl⟩
    go_wp2_with fail
    refine (when1 b k _ _ 11 11 rfl (by omega) _ hb2 (plus_fit _ _)).mono ?_
    rintro f3 w3 ⟨rfl, hb3, hk3⟩
    go_wp2
    go_end0
    refine ⟨rfl, ?_, (K1.then hk2).then hk3⟩
    simp only [plus_dl] at hb3
    exact hb3
set_option maxRecDepth 100000 in
set_option maxHeartbeats 4000000 in
theorem meta_63_23 (b : Nat) (k : Int) (N : Cn) (c : Cm) (a : An) (y : Int) (fl : List Fl) (w : World) (hB : Bd w b k N) (hN : Fit N) (ha : a.Ok) (hm : Flgs w c.mt fl) (ho : Off c.mt (· = b)) (hv : c.verb = 23) :
    Calls Tryd.prog 63 #[.pointer (some ⟨b, 2, none⟩), cmV c, anV a, .int .i64 y] w fun e w' => e = .returned (.tuple #[]) ∧ Bd w' b k (plus N (dl (metaL 23 y a.kind (code a) fl))) ∧ Kp (· = b) w w' := by
  have h93 := fun W => codeOf_93 a ha W
  generalize code a = cd at *
  obtain ⟨ak, en, nu, tx, st⟩ := a
  obtain ⟨⟨x1, n1, c1, e1⟩, ⟨n2, e2⟩, ⟨x3, n3, c3, e3⟩, hl⟩ := ha
  simp only at e1 e2 e3 hl
  subst e1 e2 e3
  obtain ⟨vb, ka, kn, kc, fl1, ex, tk, de, da, dn, dc, nr, lg, ma, mn, mc, what⟩ := c
  simp only [Cm.mt] at hv hm ho
  subst hv
  simp only [anV] at h93
  have g1 := World.grownBy_alloc w (.cells (cmA ⟨23, ka, kn, kc, fl1, ex, tk, de, da, dn, dc, nr, lg, ma, mn, mc, what⟩) 35) none
  have g2 := World.grownBy_alloc (w.alloc (.cells (cmA ⟨23, ka, kn, kc, fl1, ex, tk, de, da, dn, dc, nr, lg, ma, mn, mc, what⟩) 35)) (.cells (anA ⟨ak, .slice x1 n1 c1, .int .u64 n2, tx, .slice x3 n3 c3⟩) 39) none
  have b1 := (Box.new w 35 (cmA ⟨23, ka, kn, kc, fl1, ex, tk, de, da, dn, dc, nr, lg, ma, mn, mc, what⟩)).kept g2 (by simp)
  have b2 := Box.new (w.alloc (.cells (cmA ⟨23, ka, kn, kc, fl1, ex, tk, de, da, dn, dc, nr, lg, ma, mn, mc, what⟩) 35)) 39 (anA ⟨ak, .slice x1 n1 c1, .int .u64 n2, tx, .slice x3 n3 c3⟩)
  rw [show (w.alloc (.cells (cmA ⟨23, ka, kn, kc, fl1, ex, tk, de, da, dn, dc, nr, lg, ma, mn, mc, what⟩) 35)).heap.size = w.heap.size + 1 from by simp] at b2
  have g12 := gb_trans g1 g2
  have hne1 : ¬ w.heap.size = b := by have := hB.lt; omega
  have hne2 : ¬ w.heap.size + 1 = b := by have := hB.lt; omega
  obtain ⟨h0, e0⟩ : ∃ h0, (y == 0 && !(bq cd [69, 88]) && ak != 11) = h0 := ⟨_, rfl⟩
  obtain ⟨aw, ea⟩ : ∃ aw, away fl = aw := ⟨_, rfl⟩
  rw [show metaL 23 y ak cd fl = wh h0 [if aw then 14 else 12] ++ wh (miss y) [if aw then 15 else 13] from by rw [← e0, ← ea]; rfl]
  have e1 : (y = 0 ∧ (cd == [69, 88]) = false ∧ h0 = (ak != 11)) ∨ (y = 0 ∧ (cd == [69, 88]) = true ∧ h0 = false) ∨ (¬ y = 0 ∧ h0 = false) := by
    subst e0
    by_cases h1 : y = 0
    · cases h2 : (cd == [69, 88])
      · exact .inl ⟨h1, rfl, by simp [h1, h2]⟩
      · exact .inr (.inl ⟨h1, rfl, by simp [h1, h2]⟩)
    · exact .inr (.inr ⟨h1, by simp [h1]⟩)
  clear e0
  rcases e1 with ⟨rfl, hq, rfl⟩ | ⟨rfl, hq, rfl⟩ | ⟨hy, rfl⟩
  · go_enter Tryd.func63, Tryd.ntmps63
    go_wp2_with (go_at_call 93; (with_reducible refine (h93 _).mono ?_); rintro e w1 ⟨rfl, hg1⟩; (have z1 := b1.kept hg1 (by simp)); (have z2 := b2.kept hg1 (by simp)); (have gw := gb_trans g12 hg1); (have p0 : w1.cell? ⟨w.heap.size, 0, none⟩ = some (.int .i64 23) := z1.cell 0); (have p9 : w1.cell? ⟨w.heap.size, 9, none⟩ = some (.slice ma mn mc) := z1.cell 9); (have q0 : w1.cell? ⟨w.heap.size + 1, 0, none⟩ = some (.int .i64 ak) := z2.cell 0); (have B1 : Bd w1 b k N := Box.kept hB gw (by simp)); (have m1 := hm.kept (Kp.of (F := (· = b)) gw) ho); (have K1 : Kp (· = b) w w1 := Kp.of gw))
    refine (away_95 _ fl _ m1).mono ?_
    rw [ea]
    rintro f0 w2 ⟨rfl, hg2⟩
    have q2 := gb_cellN hg2 q0
    have B2 : Bd w2 b k N := Box.kept B1 hg2 (by simp)
    have K2 : Kp (· = b) w1 w2 := Kp.of hg2
    clear ea h93
    cases aw
    · go_wp2_with fail
      refine (when1 b k _ _ 12 12 rfl (by omega) _ B2 hN).mono ?_
      rintro f1 w3 ⟨rfl, hb3, hk3⟩
      go_wp2_with fail
      refine (isMiss_92 _ _).mono ?_
      rintro f2 w3m ⟨rfl, rfl⟩
      go_wp2_with fail
      refine (when1 b k _ _ 13 13 rfl (by omega) _ hb3 (plus_fit _ _)).mono ?_
      rintro f3 w4 ⟨rfl, hb4, hk4⟩
      go_wp2
      go_end0
      refine ⟨rfl, ?_, ((K1.then K2).then hk3).then hk4⟩
      simp only [plus_dl] at hb4
      exact hb4
    · go_wp2_with fail
      refine (when1 b k _ _ 14 14 rfl (by omega) _ B2 hN).mono ?_
      rintro f1 w3 ⟨rfl, hb3, hk3⟩
      go_wp2_with fail
      refine (isMiss_92 _ _).mono ?_
      rintro f2 w3m ⟨rfl, rfl⟩
      go_wp2_with fail
      refine (when1 b k _ _ 15 15 rfl (by omega) _ hb3 (plus_fit _ _)).mono ?_
      rintro f3 w4 ⟨rfl, hb4, hk4⟩
      go_wp2
      go_end0
      refine ⟨rfl, ?_, ((K1.then K2).then hk3).then hk4⟩
      simp only [plus_dl] at hb4
      exact hb4
  · go_enter Tryd.func63, Tryd.ntmps63
    go_wp2_with (go_at_call 93; (with_reducible refine (h93 _).mono ?_); rintro e w1 ⟨rfl, hg1⟩; (have z1 := b1.kept hg1 (by simp)); (have z2 := b2.kept hg1 (by simp)); (have gw := gb_trans g12 hg1); (have p0 : w1.cell? ⟨w.heap.size, 0, none⟩ = some (.int .i64 23) := z1.cell 0); (have p9 : w1.cell? ⟨w.heap.size, 9, none⟩ = some (.slice ma mn mc) := z1.cell 9); (have q0 : w1.cell? ⟨w.heap.size + 1, 0, none⟩ = some (.int .i64 ak) := z2.cell 0); (have B1 : Bd w1 b k N := Box.kept hB gw (by simp)); (have m1 := hm.kept (Kp.of (F := (· = b)) gw) ho); (have K1 : Kp (· = b) w w1 := Kp.of gw))
    refine (away_95 _ fl _ m1).mono ?_
    rw [ea]
    rintro f0 w2 ⟨rfl, hg2⟩
    have q2 := gb_cellN hg2 q0
    have B2 : Bd w2 b k N := Box.kept B1 hg2 (by simp)
    have K2 : Kp (· = b) w1 w2 := Kp.of hg2
    clear ea h93
    cases aw
    · go_wp2_with fail
      refine (when1 b k _ _ 12 12 rfl (by omega) _ B2 hN).mono ?_
      rintro f1 w3 ⟨rfl, hb3, hk3⟩
      go_wp2_with fail
      refine (isMiss_92 _ _).mono ?_
      rintro f2 w3m ⟨rfl, rfl⟩
      go_wp2_with fail
      refine (when1 b k _ _ 13 13 rfl (by omega) _ hb3 (plus_fit _ _)).mono ?_
      rintro f3 w4 ⟨rfl, hb4, hk4⟩
      go_wp2
      go_end0
      refine ⟨rfl, ?_, ((K1.then K2).then hk3).then hk4⟩
      simp only [plus_dl] at hb4
      exact hb4
    · go_wp2_with fail
      refine (when1 b k _ _ 14 14 rfl (by omega) _ B2 hN).mono ?_
      rintro f1 w3 ⟨rfl, hb3, hk3⟩
      go_wp2_with fail
      refine (isMiss_92 _ _).mono ?_
      rintro f2 w3m ⟨rfl, rfl⟩
      go_wp2_with fail
      refine (when1 b k _ _ 15 15 rfl (by omega) _ hb3 (plus_fit _ _)).mono ?_
      rintro f3 w4 ⟨rfl, hb4, hk4⟩
      go_wp2
      go_end0
      refine ⟨rfl, ?_, ((K1.then K2).then hk3).then hk4⟩
      simp only [plus_dl] at hb4
      exact hb4
  · go_enter Tryd.func63, Tryd.ntmps63
    go_wp2_with (go_at_call 93; (with_reducible refine (h93 _).mono ?_); rintro e w1 ⟨rfl, hg1⟩; (have z1 := b1.kept hg1 (by simp)); (have z2 := b2.kept hg1 (by simp)); (have gw := gb_trans g12 hg1); (have p0 : w1.cell? ⟨w.heap.size, 0, none⟩ = some (.int .i64 23) := z1.cell 0); (have p9 : w1.cell? ⟨w.heap.size, 9, none⟩ = some (.slice ma mn mc) := z1.cell 9); (have q0 : w1.cell? ⟨w.heap.size + 1, 0, none⟩ = some (.int .i64 ak) := z2.cell 0); (have B1 : Bd w1 b k N := Box.kept hB gw (by simp)); (have m1 := hm.kept (Kp.of (F := (· = b)) gw) ho); (have K1 : Kp (· = b) w w1 := Kp.of gw))
    refine (away_95 _ fl _ m1).mono ?_
    rw [ea]
    rintro f0 w2 ⟨rfl, hg2⟩
    have q2 := gb_cellN hg2 q0
    have B2 : Bd w2 b k N := Box.kept B1 hg2 (by simp)
    have K2 : Kp (· = b) w1 w2 := Kp.of hg2
    clear ea h93
    cases aw
    · go_wp2_with fail
      refine (when1 b k _ _ 12 12 rfl (by omega) _ B2 hN).mono ?_
      rintro f1 w3 ⟨rfl, hb3, hk3⟩
      go_wp2_with fail
      refine (isMiss_92 _ _).mono ?_
      rintro f2 w3m ⟨rfl, rfl⟩
      go_wp2_with fail
      refine (when1 b k _ _ 13 13 rfl (by omega) _ hb3 (plus_fit _ _)).mono ?_
      rintro f3 w4 ⟨rfl, hb4, hk4⟩
      go_wp2
      go_end0
      refine ⟨rfl, ?_, ((K1.then K2).then hk3).then hk4⟩
      simp only [plus_dl] at hb4
      exact hb4
    · go_wp2_with fail
      refine (when1 b k _ _ 14 14 rfl (by omega) _ B2 hN).mono ?_
      rintro f1 w3 ⟨rfl, hb3, hk3⟩
      go_wp2_with fail
      refine (isMiss_92 _ _).mono ?_
      rintro f2 w3m ⟨rfl, rfl⟩
      go_wp2_with fail
      refine (when1 b k _ _ 15 15 rfl (by omega) _ hb3 (plus_fit _ _)).mono ?_
      rintro f3 w4 ⟨rfl, hb4, hk4⟩
      go_wp2
      go_end0
      refine ⟨rfl, ?_, ((K1.then K2).then hk3).then hk4⟩
      simp only [plus_dl] at hb4
      exact hb4
set_option maxRecDepth 100000 in
set_option maxHeartbeats 4000000 in
theorem meta_63_24 (b : Nat) (k : Int) (N : Cn) (c : Cm) (a : An) (y : Int) (fl : List Fl) (w : World) (hB : Bd w b k N) (hN : Fit N) (ha : a.Ok) (hm : Flgs w c.mt fl) (ho : Off c.mt (· = b)) (hv : c.verb = 24) :
    Calls Tryd.prog 63 #[.pointer (some ⟨b, 2, none⟩), cmV c, anV a, .int .i64 y] w fun e w' => e = .returned (.tuple #[]) ∧ Bd w' b k (plus N (dl (metaL 24 y a.kind (code a) fl))) ∧ Kp (· = b) w w' := by
  have h93 := fun W => codeOf_93 a ha W
  generalize code a = cd at *
  obtain ⟨ak, en, nu, tx, st⟩ := a
  obtain ⟨⟨x1, n1, c1, e1⟩, ⟨n2, e2⟩, ⟨x3, n3, c3, e3⟩, hl⟩ := ha
  simp only at e1 e2 e3 hl
  subst e1 e2 e3
  obtain ⟨vb, ka, kn, kc, fl1, ex, tk, de, da, dn, dc, nr, lg, ma, mn, mc, what⟩ := c
  simp only [Cm.mt] at hv hm ho
  subst hv
  simp only [anV] at h93
  have g1 := World.grownBy_alloc w (.cells (cmA ⟨24, ka, kn, kc, fl1, ex, tk, de, da, dn, dc, nr, lg, ma, mn, mc, what⟩) 35) none
  have g2 := World.grownBy_alloc (w.alloc (.cells (cmA ⟨24, ka, kn, kc, fl1, ex, tk, de, da, dn, dc, nr, lg, ma, mn, mc, what⟩) 35)) (.cells (anA ⟨ak, .slice x1 n1 c1, .int .u64 n2, tx, .slice x3 n3 c3⟩) 39) none
  have b1 := (Box.new w 35 (cmA ⟨24, ka, kn, kc, fl1, ex, tk, de, da, dn, dc, nr, lg, ma, mn, mc, what⟩)).kept g2 (by simp)
  have b2 := Box.new (w.alloc (.cells (cmA ⟨24, ka, kn, kc, fl1, ex, tk, de, da, dn, dc, nr, lg, ma, mn, mc, what⟩) 35)) 39 (anA ⟨ak, .slice x1 n1 c1, .int .u64 n2, tx, .slice x3 n3 c3⟩)
  rw [show (w.alloc (.cells (cmA ⟨24, ka, kn, kc, fl1, ex, tk, de, da, dn, dc, nr, lg, ma, mn, mc, what⟩) 35)).heap.size = w.heap.size + 1 from by simp] at b2
  have g12 := gb_trans g1 g2
  have hne1 : ¬ w.heap.size = b := by have := hB.lt; omega
  have hne2 : ¬ w.heap.size + 1 = b := by have := hB.lt; omega
  go_enter Tryd.func63, Tryd.ntmps63
  go_wp2_with (go_at_call 93; (with_reducible refine (h93 _).mono ?_); rintro e w1 ⟨rfl, hg1⟩; (have z1 := b1.kept hg1 (by simp)); (have z2 := b2.kept hg1 (by simp)); (have gw := gb_trans g12 hg1); (have p0 : w1.cell? ⟨w.heap.size, 0, none⟩ = some (.int .i64 24) := z1.cell 0); (have p9 : w1.cell? ⟨w.heap.size, 9, none⟩ = some (.slice ma mn mc) := z1.cell 9); (have q0 : w1.cell? ⟨w.heap.size + 1, 0, none⟩ = some (.int .i64 ak) := z2.cell 0); (have B1 : Bd w1 b k N := Box.kept hB gw (by simp)); (have m1 := hm.kept (Kp.of (F := (· = b)) gw) ho); (have K1 : Kp (· = b) w w1 := Kp.of gw))
  go_end0
  exact ⟨rfl, by rw [show metaL 24 y ak cd fl = [] from rfl, plus_dl_nil hN]; exact B1, K1⟩
theorem meta_63 (b : Nat) (k : Int) (N : Cn) (c : Cm) (a : An) (y : Int) (fl : List Fl) (w : World) (hB : Bd w b k N) (hN : Fit N) (ha : a.Ok) (hm : Flgs w c.mt fl) (ho : Off c.mt (· = b)) (hv : 20 ≤ c.verb ∧ c.verb ≤ 24) :
    Calls Tryd.prog 63 #[.pointer (some ⟨b, 2, none⟩), cmV c, anV a, .int .i64 y] w fun e w' => e = .returned (.tuple #[]) ∧ Bd w' b k (plus N (dl (metaL c.verb y a.kind (code a) fl))) ∧ Kp (· = b) w w' := by
  rcases (by omega : c.verb = 20 ∨ c.verb = 21 ∨ c.verb = 22 ∨ c.verb = 23 ∨ c.verb = 24) with h | h | h | h | h
  · rw [h]; exact meta_63_20 b k N c a y fl w hB hN ha hm ho h
  · rw [h]; exact meta_63_21 b k N c a y fl w hB hN ha hm ho h
  · rw [h]; exact meta_63_22 b k N c a y fl w hB hN ha hm ho h
  · rw [h]; exact meta_63_23 b k N c a y fl w hB hN ha hm ho h
  · rw [h]; exact meta_63_24 b k N c a y fl w hB hN ha hm ho h
end Go.Proofs.YtonbkpfnpnlkpaaDoor

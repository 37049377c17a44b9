/-
  CountExact: one call on both boards.
-/
import Derived.Test.YtonbkpfnpnlkpaaDoorW
namespace Go.Proofs.YtonbkpfnpnlkpaaDoor
open Go.ChangeShapes Go.WideShapes Go.ChangeAt Go.RowKit
set_option linter.unusedVariables false
set_option linter.unusedSimpArgs false
attribute [local go_sem] Oper.semAt_some

/-- A call of a script. -/
structure Oq where
  on : Int
  dd : Int
  name : Int
  n : Nat
  x : Oc
def oqL (x : Oq) : List Value := [.int .i64 x.on, .int .i64 x.dd, .int .i64 x.name, .int .u64 (x.n : Nat), .int .i64 x.x.c.verb, .slice x.x.c.ka x.x.c.kn x.x.c.kc, .int .u64 x.x.c.fl, .int .i64 x.x.c.ex, .int .u64 x.x.c.tk, .int .u64 x.x.c.de, .slice x.x.c.da x.x.c.dn x.x.c.dc, .bool x.x.c.nr, .bool x.x.c.lg, .slice x.x.c.ma x.x.c.mn x.x.c.mc, .string x.x.c.what, .int .i64 x.x.a.kind, x.x.a.ent, x.x.a.num, sv x.x.a.text, x.x.a.stats, x.x.y, .int .i64 x.x.m.dr, .int .i64 x.x.m.re, .int .i64 x.x.m.bu, .int .i64 x.x.m.li, .int .i64 x.x.m.lo, .int .i64 x.x.m.cr]
theorem oqL_oc (x : Oq) (j : Nat) (u : Value) (h : (ocL x.x)[j]? = some u) : (oqL x)[4 + j]? = some u := by
  rw [Nat.add_comm]; exact h
def OqOk (w : World) (x : Oq) : Prop := OcOk w x.x ∧ x.n ≤ 18446744073709551615
theorem fit_upd {N : Cn} (h : Fit N) (m x : Nat) (hx : x ≤ 18446744073709551615) : Fit (upd N m x) := by
  intro i; simp only [upd]; split
  · exact hx
  · exact h i
theorem fit_rst {N : Cn} (h : Fit N) (i : Nat) : Fit (rst N i) := by
  intro j; simp only [rst]; split
  · omega
  · exact h j
/-- Both boards hold the same numbers. -/
structure Two (w : World) (b r : Nat) (N : Cn) : Prop where
  pb : Bd w b 0 N
  pr : Rb w r N
  fit : Fit N
  ne : b ≠ r
set_option maxRecDepth 100000 in
set_option maxHeartbeats 8000000 in
theorem plays_13_1 (b r : Nat) (N : Cn) (x : Oq) (w : World) (hT : Two w b r N) (ok : OqOk w x) (hW : Wo w) (hb0 : b ≠ 0) (hr0 : r ≠ 0) (hoF : ∀ k, k = b ∨ k = r → Off x.x.c.mt (· = k)) (hoY : ∀ k, k = b ∨ k = r → Off x.x.y (· = k)) (hd : x.dd = 1) :
    Calls Tryd.prog 13 #[.pointer (some ⟨b, 0, none⟩), .pointer (some ⟨r, 0, none⟩), .agg (oqL x).toArray] w fun e w' => e = .returned (.bool true) ∧ (∃ N', Two w' b r N') ∧ Kp (fun k => k = b ∨ k = r) w w' := by
  obtain ⟨on, dd, name, n, ⟨⟨vb, ka, kn, kc, fl1, ex, tk, de, da, dn, dc, nr, lg, ma, mn, mc, what⟩, ⟨ak, en, nu, tx, st⟩, y, ⟨dr, re, bu, li, lo, cr⟩, fl, why⟩⟩ := x
  obtain ⟨⟨ha, hfl, hwy, hm⟩, hnn⟩ := ok
  have ha0 := ha
  obtain ⟨⟨x1, n1, k1, e1⟩, ⟨n2, e2⟩, ⟨x3, n3, k3, e3⟩, hl⟩ := ha0
  simp only at e1 e2 e3 hl hd hnn
  subst e1 e2 e3
  obtain ⟨ya, yc, rfl, hyl⟩ : ∃ ya yc, y = .slice ya why.length yc ∧ True := by obtain ⟨p, q, e, _⟩ := hwy; exact ⟨p, q, e, trivial⟩
  obtain ⟨yn, hyn⟩ : ∃ yn, yn = why.length := ⟨_, rfl⟩
  simp only [Cm.mt, ← hyn] at hfl hwy hoF hoY ⊢
  clear hyn hyl
  subst hd
  have hbr : ¬ b = r := hT.ne
  have hrb : ¬ r = b := fun e => hT.ne e.symm
  have hlb := hT.pb.lt
  have hlr := hT.pr.lt
  have hne1 : ¬ w.heap.size = b := by omega
  have hne2 : ¬ w.heap.size = r := by omega
  have g1 := World.grownBy_alloc w (.cells (oqL ⟨on, 1, name, n, ⟨⟨vb, ka, kn, kc, fl1, ex, tk, de, da, dn, dc, nr, lg, ma, mn, mc, what⟩, ⟨ak, .slice x1 n1 k1, .int .u64 n2, tx, .slice x3 n3 k3⟩, .slice ya yn yc, ⟨dr, re, bu, li, lo, cr⟩, fl, why⟩⟩).toArray 44) none
  have bx := Box.new w 44 (oqL ⟨on, 1, name, n, ⟨⟨vb, ka, kn, kc, fl1, ex, tk, de, da, dn, dc, nr, lg, ma, mn, mc, what⟩, ⟨ak, .slice x1 n1 k1, .int .u64 n2, tx, .slice x3 n3 k3⟩, .slice ya yn yc, ⟨dr, re, bu, li, lo, cr⟩, fl, why⟩⟩).toArray
  have hcx : ∀ (j : Nat) (u : Value), (oqL ⟨on, 1, name, n, ⟨⟨vb, ka, kn, kc, fl1, ex, tk, de, da, dn, dc, nr, lg, ma, mn, mc, what⟩, ⟨ak, .slice x1 n1 k1, .int .u64 n2, tx, .slice x3 n3 k3⟩, .slice ya yn yc, ⟨dr, re, bu, li, lo, cr⟩, fl, why⟩⟩)[j]? = some u → (w.alloc (.cells (oqL ⟨on, 1, name, n, ⟨⟨vb, ka, kn, kc, fl1, ex, tk, de, da, dn, dc, nr, lg, ma, mn, mc, what⟩, ⟨ak, .slice x1 n1 k1, .int .u64 n2, tx, .slice x3 n3 k3⟩, .slice ya yn yc, ⟨dr, re, bu, li, lo, cr⟩, fl, why⟩⟩).toArray 44)).cell? ⟨w.heap.size, j, none⟩ = some u := fun j u h => (bx.cell j).trans (by simpa using h)
  generalize hW1 : w.alloc (.cells (oqL ⟨on, 1, name, n, ⟨⟨vb, ka, kn, kc, fl1, ex, tk, de, da, dn, dc, nr, lg, ma, mn, mc, what⟩, ⟨ak, .slice x1 n1 k1, .int .u64 n2, tx, .slice x3 n3 k3⟩, .slice ya yn yc, ⟨dr, re, bu, li, lo, cr⟩, fl, why⟩⟩).toArray 44) = W at *
  simp only [oqL] at hW1
  have hb1 : Bd W b 0 N := Box.kept hT.pb g1 (by simp)
  have hr1 : Rb W r N := Box.kept hT.pr g1 (by simp)
  have K1 : Kp (fun k => k = b ∨ k = r) w W := Kp.of g1
  have hF := hT.fit
  have Wo1 := hW.kept (Kp.of (F := fun _ => False) g1) (fun h => h)
  have p1 : W.cell? ⟨w.heap.size, 1, none⟩ = some (.int .i64 1) := hcx 1 _ rfl
  have p2 : W.cell? ⟨w.heap.size, 2, none⟩ = some (.int .i64 name) := hcx 2 _ rfl
  have p3 : W.cell? ⟨w.heap.size, 3, none⟩ = some (.int .u64 (n : Nat)) := hcx 3 _ rfl
  have toB : ∀ {A B : World}, Kp (· = b) A B → Kp (fun k => k = b ∨ k = r) A B := fun h => h.mono (fun k hk => .inl (.inl hk))
  have toR : ∀ {A B : World}, Kp (· = r) A B → Kp (fun k => k = b ∨ k = r) A B := fun h => h.mono (fun k hk => .inl (.inr hk))
  simp only [oqL]
  go_enter Tryd.func13, Tryd.ntmps13
  go_wp2_with fail
  refine (add_23 b N name n W hb1 hF hnn).mono ?_
  rintro e w1 ⟨rfl, hb2, hk2⟩
  have hr2 := Rb.kept hr1 hk2 hrb
  have q2 := hk2.cell p2 hne1
  have q3 := hk2.cell p3 hne1
  go_wp2_with fail
  refine (radd_33 r N name n w1 hr2 hF hnn).mono ?_
  rintro e w2 ⟨rfl, hr3, hk3⟩
  have hb3 := Bd.kept hb2 hk3 hbr
  go_wp2
  go_ret
  exact ⟨rfl, ⟨_, hb3, hr3, by split; exact plus_fit _ _; exact hF, hT.ne⟩, (K1.then (toB hk2)).then (toR hk3)⟩
set_option maxRecDepth 100000 in
set_option maxHeartbeats 8000000 in
theorem plays_13_2 (b r : Nat) (N : Cn) (x : Oq) (w : World) (hT : Two w b r N) (ok : OqOk w x) (hW : Wo w) (hb0 : b ≠ 0) (hr0 : r ≠ 0) (hoF : ∀ k, k = b ∨ k = r → Off x.x.c.mt (· = k)) (hoY : ∀ k, k = b ∨ k = r → Off x.x.y (· = k)) (hd : x.dd = 2) :
    Calls Tryd.prog 13 #[.pointer (some ⟨b, 0, none⟩), .pointer (some ⟨r, 0, none⟩), .agg (oqL x).toArray] w fun e w' => e = .returned (.bool true) ∧ (∃ N', Two w' b r N') ∧ Kp (fun k => k = b ∨ k = r) w w' := by
  obtain ⟨on, dd, name, n, ⟨⟨vb, ka, kn, kc, fl1, ex, tk, de, da, dn, dc, nr, lg, ma, mn, mc, what⟩, ⟨ak, en, nu, tx, st⟩, y, ⟨dr, re, bu, li, lo, cr⟩, fl, why⟩⟩ := x
  obtain ⟨⟨ha, hfl, hwy, hm⟩, hnn⟩ := ok
  have ha0 := ha
  obtain ⟨⟨x1, n1, k1, e1⟩, ⟨n2, e2⟩, ⟨x3, n3, k3, e3⟩, hl⟩ := ha0
  simp only at e1 e2 e3 hl hd hnn
  subst e1 e2 e3
  obtain ⟨ya, yc, rfl, hyl⟩ : ∃ ya yc, y = .slice ya why.length yc ∧ True := by obtain ⟨p, q, e, _⟩ := hwy; exact ⟨p, q, e, trivial⟩
  obtain ⟨yn, hyn⟩ : ∃ yn, yn = why.length := ⟨_, rfl⟩
  simp only [Cm.mt, ← hyn] at hfl hwy hoF hoY ⊢
  clear hyn hyl
  subst hd
  have hbr : ¬ b = r := hT.ne
  have hrb : ¬ r = b := fun e => hT.ne e.symm
  have hlb := hT.pb.lt
  have hlr := hT.pr.lt
  have hne1 : ¬ w.heap.size = b := by omega
  have hne2 : ¬ w.heap.size = r := by omega
  have g1 := World.grownBy_alloc w (.cells (oqL ⟨on, 2, name, n, ⟨⟨vb, ka, kn, kc, fl1, ex, tk, de, da, dn, dc, nr, lg, ma, mn, mc, what⟩, ⟨ak, .slice x1 n1 k1, .int .u64 n2, tx, .slice x3 n3 k3⟩, .slice ya yn yc, ⟨dr, re, bu, li, lo, cr⟩, fl, why⟩⟩).toArray 44) none
  have bx := Box.new w 44 (oqL ⟨on, 2, name, n, ⟨⟨vb, ka, kn, kc, fl1, ex, tk, de, da, dn, dc, nr, lg, ma, mn, mc, what⟩, ⟨ak, .slice x1 n1 k1, .int .u64 n2, tx, .slice x3 n3 k3⟩, .slice ya yn yc, ⟨dr, re, bu, li, lo, cr⟩, fl, why⟩⟩).toArray
  have hcx : ∀ (j : Nat) (u : Value), (oqL ⟨on, 2, name, n, ⟨⟨vb, ka, kn, kc, fl1, ex, tk, de, da, dn, dc, nr, lg, ma, mn, mc, what⟩, ⟨ak, .slice x1 n1 k1, .int .u64 n2, tx, .slice x3 n3 k3⟩, .slice ya yn yc, ⟨dr, re, bu, li, lo, cr⟩, fl, why⟩⟩)[j]? = some u → (w.alloc (.cells (oqL ⟨on, 2, name, n, ⟨⟨vb, ka, kn, kc, fl1, ex, tk, de, da, dn, dc, nr, lg, ma, mn, mc, what⟩, ⟨ak, .slice x1 n1 k1, .int .u64 n2, tx, .slice x3 n3 k3⟩, .slice ya yn yc, ⟨dr, re, bu, li, lo, cr⟩, fl, why⟩⟩).toArray 44)).cell? ⟨w.heap.size, j, none⟩ = some u := fun j u h => (bx.cell j).trans (by simpa using h)
  generalize hW1 : w.alloc (.cells (oqL ⟨on, 2, name, n, ⟨⟨vb, ka, kn, kc, fl1, ex, tk, de, da, dn, dc, nr, lg, ma, mn, mc, what⟩, ⟨ak, .slice x1 n1 k1, .int .u64 n2, tx, .slice x3 n3 k3⟩, .slice ya yn yc, ⟨dr, re, bu, li, lo, cr⟩, fl, why⟩⟩).toArray 44) = W at *
  simp only [oqL] at hW1
  have hb1 : Bd W b 0 N := Box.kept hT.pb g1 (by simp)
  have hr1 : Rb W r N := Box.kept hT.pr g1 (by simp)
  have K1 : Kp (fun k => k = b ∨ k = r) w W := Kp.of g1
  have hF := hT.fit
  have Wo1 := hW.kept (Kp.of (F := fun _ => False) g1) (fun h => h)
  have p1 : W.cell? ⟨w.heap.size, 1, none⟩ = some (.int .i64 2) := hcx 1 _ rfl
  have p2 : W.cell? ⟨w.heap.size, 2, none⟩ = some (.int .i64 name) := hcx 2 _ rfl
  have p3 : W.cell? ⟨w.heap.size, 3, none⟩ = some (.int .u64 (n : Nat)) := hcx 3 _ rfl
  have toB : ∀ {A B : World}, Kp (· = b) A B → Kp (fun k => k = b ∨ k = r) A B := fun h => h.mono (fun k hk => .inl (.inl hk))
  have toR : ∀ {A B : World}, Kp (· = r) A B → Kp (fun k => k = b ∨ k = r) A B := fun h => h.mono (fun k hk => .inl (.inr hk))
  simp only [oqL]
  go_enter Tryd.func13, Tryd.ntmps13
  go_wp2_with fail
  refine (set_24 b N name n W hb1).mono ?_
  rintro e w1 ⟨rfl, hb2, hk2⟩
  have hr2 := Rb.kept hr1 hk2 hrb
  have q2 := hk2.cell p2 hne1
  have q3 := hk2.cell p3 hne1
  go_wp2_with fail
  refine (rset_34 r N name n w1 hr2).mono ?_
  rintro e w2 ⟨rfl, hr3, hk3⟩
  have hb3 := Bd.kept hb2 hk3 hbr
  go_wp2
  go_ret
  exact ⟨rfl, ⟨_, hb3, hr3, by split; exact fit_upd hF _ _ hnn; exact hF, hT.ne⟩, (K1.then (toB hk2)).then (toR hk3)⟩
set_option maxRecDepth 100000 in
set_option maxHeartbeats 8000000 in
theorem plays_13_3 (b r : Nat) (N : Cn) (x : Oq) (w : World) (hT : Two w b r N) (ok : OqOk w x) (hW : Wo w) (hb0 : b ≠ 0) (hr0 : r ≠ 0) (hoF : ∀ k, k = b ∨ k = r → Off x.x.c.mt (· = k)) (hoY : ∀ k, k = b ∨ k = r → Off x.x.y (· = k)) (hd : x.dd = 3) :
    Calls Tryd.prog 13 #[.pointer (some ⟨b, 0, none⟩), .pointer (some ⟨r, 0, none⟩), .agg (oqL x).toArray] w fun e w' => e = .returned (.bool true) ∧ (∃ N', Two w' b r N') ∧ Kp (fun k => k = b ∨ k = r) w w' := by
  obtain ⟨on, dd, name, n, ⟨⟨vb, ka, kn, kc, fl1, ex, tk, de, da, dn, dc, nr, lg, ma, mn, mc, what⟩, ⟨ak, en, nu, tx, st⟩, y, ⟨dr, re, bu, li, lo, cr⟩, fl, why⟩⟩ := x
  obtain ⟨⟨ha, hfl, hwy, hm⟩, hnn⟩ := ok
  have ha0 := ha
  obtain ⟨⟨x1, n1, k1, e1⟩, ⟨n2, e2⟩, ⟨x3, n3, k3, e3⟩, hl⟩ := ha0
  simp only at e1 e2 e3 hl hd hnn
  subst e1 e2 e3
  obtain ⟨ya, yc, rfl, hyl⟩ : ∃ ya yc, y = .slice ya why.length yc ∧ True := by obtain ⟨p, q, e, _⟩ := hwy; exact ⟨p, q, e, trivial⟩
  obtain ⟨yn, hyn⟩ : ∃ yn, yn = why.length := ⟨_, rfl⟩
  simp only [Cm.mt, ← hyn] at hfl hwy hoF hoY ⊢
  clear hyn hyl
  subst hd
  have hbr : ¬ b = r := hT.ne
  have hrb : ¬ r = b := fun e => hT.ne e.symm
  have hlb := hT.pb.lt
  have hlr := hT.pr.lt
  have hne1 : ¬ w.heap.size = b := by omega
  have hne2 : ¬ w.heap.size = r := by omega
  have g1 := World.grownBy_alloc w (.cells (oqL ⟨on, 3, name, n, ⟨⟨vb, ka, kn, kc, fl1, ex, tk, de, da, dn, dc, nr, lg, ma, mn, mc, what⟩, ⟨ak, .slice x1 n1 k1, .int .u64 n2, tx, .slice x3 n3 k3⟩, .slice ya yn yc, ⟨dr, re, bu, li, lo, cr⟩, fl, why⟩⟩).toArray 44) none
  have bx := Box.new w 44 (oqL ⟨on, 3, name, n, ⟨⟨vb, ka, kn, kc, fl1, ex, tk, de, da, dn, dc, nr, lg, ma, mn, mc, what⟩, ⟨ak, .slice x1 n1 k1, .int .u64 n2, tx, .slice x3 n3 k3⟩, .slice ya yn yc, ⟨dr, re, bu, li, lo, cr⟩, fl, why⟩⟩).toArray
  have hcx : ∀ (j : Nat) (u : Value), (oqL ⟨on, 3, name, n, ⟨⟨vb, ka, kn, kc, fl1, ex, tk, de, da, dn, dc, nr, lg, ma, mn, mc, what⟩, ⟨ak, .slice x1 n1 k1, .int .u64 n2, tx, .slice x3 n3 k3⟩, .slice ya yn yc, ⟨dr, re, bu, li, lo, cr⟩, fl, why⟩⟩)[j]? = some u → (w.alloc (.cells (oqL ⟨on, 3, name, n, ⟨⟨vb, ka, kn, kc, fl1, ex, tk, de, da, dn, dc, nr, lg, ma, mn, mc, what⟩, ⟨ak, .slice x1 n1 k1, .int .u64 n2, tx, .slice x3 n3 k3⟩, .slice ya yn yc, ⟨dr, re, bu, li, lo, cr⟩, fl, why⟩⟩).toArray 44)).cell? ⟨w.heap.size, j, none⟩ = some u := fun j u h => (bx.cell j).trans (by simpa using h)
  generalize hW1 : w.alloc (.cells (oqL ⟨on, 3, name, n, ⟨⟨vb, ka, kn, kc, fl1, ex, tk, de, da, dn, dc, nr, lg, ma, mn, mc, what⟩, ⟨ak, .slice x1 n1 k1, .int .u64 n2, tx, .slice x3 n3 k3⟩, .slice ya yn yc, ⟨dr, re, bu, li, lo, cr⟩, fl, why⟩⟩).toArray 44) = W at *
  simp only [oqL] at hW1
  have hb1 : Bd W b 0 N := Box.kept hT.pb g1 (by simp)
  have hr1 : Rb W r N := Box.kept hT.pr g1 (by simp)
  have K1 : Kp (fun k => k = b ∨ k = r) w W := Kp.of g1
  have hF := hT.fit
  have Wo1 := hW.kept (Kp.of (F := fun _ => False) g1) (fun h => h)
  have p1 : W.cell? ⟨w.heap.size, 1, none⟩ = some (.int .i64 3) := hcx 1 _ rfl
  have p2 : W.cell? ⟨w.heap.size, 2, none⟩ = some (.int .i64 name) := hcx 2 _ rfl
  have p3 : W.cell? ⟨w.heap.size, 3, none⟩ = some (.int .u64 (n : Nat)) := hcx 3 _ rfl
  have toB : ∀ {A B : World}, Kp (· = b) A B → Kp (fun k => k = b ∨ k = r) A B := fun h => h.mono (fun k hk => .inl (.inl hk))
  have toR : ∀ {A B : World}, Kp (· = r) A B → Kp (fun k => k = b ∨ k = r) A B := fun h => h.mono (fun k hk => .inl (.inr hk))
  simp only [oqL]
  have h17 := fun (X : World) (hX : W.grownBy X none) => read_17 b N name X (Box.kept hb1 hX (by simp))
  have h18 := fun (X : World) (hX : Rb X r N) => rread_18 r N name X hX
  go_enter Tryd.func13, Tryd.ntmps13
  go_wp2_with fail
  go_region_law ((first | (go_simp; go_at_call 17; (first | (with_reducible refine (h17 _ (gb_drew (gb_refl _ _))).mono ?_) | (with_reducible refine (h17 _ (gb_drewN (gb_refl _ _) _)).mono ?_) | (with_reducible refine (h17 _ (gb_refl _ _)).mono ?_)); rintro y2 w2 ⟨rfl, hb2, hk2⟩; (have hr2 : Rb w2 r N := Rb.kept (w := W) hr1 (Kp.then (b := W.drew) (Kp.drew _ _) hk2) hrb); (have q2 := hk2.cell p2 hne1)) | (go_simp; go_at_call 18; (first | (refine (h18 _ hr2).mono ?_) | (refine (h18 _ hr1).mono ?_)); rintro y3 w3 ⟨rfl, rfl⟩)))
  all_goals
    go_wp2
    go_ret
    refine ⟨by first | rfl | (simp; done) | (simp [Act.put]; done), ⟨N, hb2, ?_, hF, hT.ne⟩, ?_⟩
    · first | exact Rb.kept (w := W) hr1 hk2 hrb | exact Rb.kept (w := W) hr1 (Kp.then (b := W.drew) (Kp.drew _ _) hk2) hrb
    · first | exact K1.then (toB hk2) | exact K1.then (toB (Kp.then (b := W.drew) (Kp.drew _ _) hk2))
set_option maxRecDepth 100000 in
set_option maxHeartbeats 8000000 in
theorem plays_13_5 (b r : Nat) (N : Cn) (x : Oq) (w : World) (hT : Two w b r N) (ok : OqOk w x) (hW : Wo w) (hb0 : b ≠ 0) (hr0 : r ≠ 0) (hoF : ∀ k, k = b ∨ k = r → Off x.x.c.mt (· = k)) (hoY : ∀ k, k = b ∨ k = r → Off x.x.y (· = k)) (hd : x.dd = 5) :
    Calls Tryd.prog 13 #[.pointer (some ⟨b, 0, none⟩), .pointer (some ⟨r, 0, none⟩), .agg (oqL x).toArray] w fun e w' => e = .returned (.bool true) ∧ (∃ N', Two w' b r N') ∧ Kp (fun k => k = b ∨ k = r) w w' := by
  obtain ⟨on, dd, name, n, ⟨⟨vb, ka, kn, kc, fl1, ex, tk, de, da, dn, dc, nr, lg, ma, mn, mc, what⟩, ⟨ak, en, nu, tx, st⟩, y, ⟨dr, re, bu, li, lo, cr⟩, fl, why⟩⟩ := x
  obtain ⟨⟨ha, hfl, hwy, hm⟩, hnn⟩ := ok
  have ha0 := ha
  obtain ⟨⟨x1, n1, k1, e1⟩, ⟨n2, e2⟩, ⟨x3, n3, k3, e3⟩, hl⟩ := ha0
  simp only at e1 e2 e3 hl hd hnn
  subst e1 e2 e3
  obtain ⟨ya, yc, rfl, hyl⟩ : ∃ ya yc, y = .slice ya why.length yc ∧ True := by obtain ⟨p, q, e, _⟩ := hwy; exact ⟨p, q, e, trivial⟩
  obtain ⟨yn, hyn⟩ : ∃ yn, yn = why.length := ⟨_, rfl⟩
  simp only [Cm.mt, ← hyn] at hfl hwy hoF hoY ⊢
  clear hyn hyl
  subst hd
  have hbr : ¬ b = r := hT.ne
  have hrb : ¬ r = b := fun e => hT.ne e.symm
  have hlb := hT.pb.lt
  have hlr := hT.pr.lt
  have hne1 : ¬ w.heap.size = b := by omega
  have hne2 : ¬ w.heap.size = r := by omega
  have g1 := World.grownBy_alloc w (.cells (oqL ⟨on, 5, name, n, ⟨⟨vb, ka, kn, kc, fl1, ex, tk, de, da, dn, dc, nr, lg, ma, mn, mc, what⟩, ⟨ak, .slice x1 n1 k1, .int .u64 n2, tx, .slice x3 n3 k3⟩, .slice ya yn yc, ⟨dr, re, bu, li, lo, cr⟩, fl, why⟩⟩).toArray 44) none
  have bx := Box.new w 44 (oqL ⟨on, 5, name, n, ⟨⟨vb, ka, kn, kc, fl1, ex, tk, de, da, dn, dc, nr, lg, ma, mn, mc, what⟩, ⟨ak, .slice x1 n1 k1, .int .u64 n2, tx, .slice x3 n3 k3⟩, .slice ya yn yc, ⟨dr, re, bu, li, lo, cr⟩, fl, why⟩⟩).toArray
  have hcx : ∀ (j : Nat) (u : Value), (oqL ⟨on, 5, name, n, ⟨⟨vb, ka, kn, kc, fl1, ex, tk, de, da, dn, dc, nr, lg, ma, mn, mc, what⟩, ⟨ak, .slice x1 n1 k1, .int .u64 n2, tx, .slice x3 n3 k3⟩, .slice ya yn yc, ⟨dr, re, bu, li, lo, cr⟩, fl, why⟩⟩)[j]? = some u → (w.alloc (.cells (oqL ⟨on, 5, name, n, ⟨⟨vb, ka, kn, kc, fl1, ex, tk, de, da, dn, dc, nr, lg, ma, mn, mc, what⟩, ⟨ak, .slice x1 n1 k1, .int .u64 n2, tx, .slice x3 n3 k3⟩, .slice ya yn yc, ⟨dr, re, bu, li, lo, cr⟩, fl, why⟩⟩).toArray 44)).cell? ⟨w.heap.size, j, none⟩ = some u := fun j u h => (bx.cell j).trans (by simpa using h)
  generalize hW1 : w.alloc (.cells (oqL ⟨on, 5, name, n, ⟨⟨vb, ka, kn, kc, fl1, ex, tk, de, da, dn, dc, nr, lg, ma, mn, mc, what⟩, ⟨ak, .slice x1 n1 k1, .int .u64 n2, tx, .slice x3 n3 k3⟩, .slice ya yn yc, ⟨dr, re, bu, li, lo, cr⟩, fl, why⟩⟩).toArray 44) = W at *
  simp only [oqL] at hW1
  have hb1 : Bd W b 0 N := Box.kept hT.pb g1 (by simp)
  have hr1 : Rb W r N := Box.kept hT.pr g1 (by simp)
  have K1 : Kp (fun k => k = b ∨ k = r) w W := Kp.of g1
  have hF := hT.fit
  have Wo1 := hW.kept (Kp.of (F := fun _ => False) g1) (fun h => h)
  have p1 : W.cell? ⟨w.heap.size, 1, none⟩ = some (.int .i64 5) := hcx 1 _ rfl
  have p2 : W.cell? ⟨w.heap.size, 2, none⟩ = some (.int .i64 name) := hcx 2 _ rfl
  have p3 : W.cell? ⟨w.heap.size, 3, none⟩ = some (.int .u64 (n : Nat)) := hcx 3 _ rfl
  have toB : ∀ {A B : World}, Kp (· = b) A B → Kp (fun k => k = b ∨ k = r) A B := fun h => h.mono (fun k hk => .inl (.inl hk))
  have toR : ∀ {A B : World}, Kp (· = r) A B → Kp (fun k => k = b ∨ k = r) A B := fun h => h.mono (fun k hk => .inl (.inr hk))
  simp only [oqL]
  go_enter Tryd.func13, Tryd.ntmps13
  go_wp2_with fail
  refine (reset_26 b N W hb1).mono ?_
  rintro e w1 ⟨rfl, hb2, hk2⟩
  have hr2 := Rb.kept hr1 hk2 hrb
  go_wp2_with fail
  refine (rreset_35 r N w1 hr2).mono ?_
  rintro e w2 ⟨rfl, hr3, hk3⟩
  have hb3 := Bd.kept hb2 hk3 hbr
  go_wp2
  go_ret
  exact ⟨rfl, ⟨_, hb3, hr3, fit_rst hF _, hT.ne⟩, (K1.then (toB hk2)).then (toR hk3)⟩
set_option maxRecDepth 100000 in
set_option maxHeartbeats 8000000 in
theorem plays_13_6 (b r : Nat) (N : Cn) (x : Oq) (w : World) (hT : Two w b r N) (ok : OqOk w x) (hW : Wo w) (hb0 : b ≠ 0) (hr0 : r ≠ 0) (hoF : ∀ k, k = b ∨ k = r → Off x.x.c.mt (· = k)) (hoY : ∀ k, k = b ∨ k = r → Off x.x.y (· = k)) (hd : x.dd = 6) :
    Calls Tryd.prog 13 #[.pointer (some ⟨b, 0, none⟩), .pointer (some ⟨r, 0, none⟩), .agg (oqL x).toArray] w fun e w' => e = .returned (.bool true) ∧ (∃ N', Two w' b r N') ∧ Kp (fun k => k = b ∨ k = r) w w' := by
  obtain ⟨on, dd, name, n, ⟨⟨vb, ka, kn, kc, fl1, ex, tk, de, da, dn, dc, nr, lg, ma, mn, mc, what⟩, ⟨ak, en, nu, tx, st⟩, y, ⟨dr, re, bu, li, lo, cr⟩, fl, why⟩⟩ := x
  obtain ⟨⟨ha, hfl, hwy, hm⟩, hnn⟩ := ok
  have ha0 := ha
  obtain ⟨⟨x1, n1, k1, e1⟩, ⟨n2, e2⟩, ⟨x3, n3, k3, e3⟩, hl⟩ := ha0
  simp only at e1 e2 e3 hl hd hnn
  subst e1 e2 e3
  obtain ⟨ya, yc, rfl, hyl⟩ : ∃ ya yc, y = .slice ya why.length yc ∧ True := by obtain ⟨p, q, e, _⟩ := hwy; exact ⟨p, q, e, trivial⟩
  obtain ⟨yn, hyn⟩ : ∃ yn, yn = why.length := ⟨_, rfl⟩
  simp only [Cm.mt, ← hyn] at hfl hwy hoF hoY ⊢
  clear hyn hyl
  subst hd
  have hbr : ¬ b = r := hT.ne
  have hrb : ¬ r = b := fun e => hT.ne e.symm
  have hlb := hT.pb.lt
  have hlr := hT.pr.lt
  have hne1 : ¬ w.heap.size = b := by omega
  have hne2 : ¬ w.heap.size = r := by omega
  have g1 := World.grownBy_alloc w (.cells (oqL ⟨on, 6, name, n, ⟨⟨vb, ka, kn, kc, fl1, ex, tk, de, da, dn, dc, nr, lg, ma, mn, mc, what⟩, ⟨ak, .slice x1 n1 k1, .int .u64 n2, tx, .slice x3 n3 k3⟩, .slice ya yn yc, ⟨dr, re, bu, li, lo, cr⟩, fl, why⟩⟩).toArray 44) none
  have bx := Box.new w 44 (oqL ⟨on, 6, name, n, ⟨⟨vb, ka, kn, kc, fl1, ex, tk, de, da, dn, dc, nr, lg, ma, mn, mc, what⟩, ⟨ak, .slice x1 n1 k1, .int .u64 n2, tx, .slice x3 n3 k3⟩, .slice ya yn yc, ⟨dr, re, bu, li, lo, cr⟩, fl, why⟩⟩).toArray
  have hcx : ∀ (j : Nat) (u : Value), (oqL ⟨on, 6, name, n, ⟨⟨vb, ka, kn, kc, fl1, ex, tk, de, da, dn, dc, nr, lg, ma, mn, mc, what⟩, ⟨ak, .slice x1 n1 k1, .int .u64 n2, tx, .slice x3 n3 k3⟩, .slice ya yn yc, ⟨dr, re, bu, li, lo, cr⟩, fl, why⟩⟩)[j]? = some u → (w.alloc (.cells (oqL ⟨on, 6, name, n, ⟨⟨vb, ka, kn, kc, fl1, ex, tk, de, da, dn, dc, nr, lg, ma, mn, mc, what⟩, ⟨ak, .slice x1 n1 k1, .int .u64 n2, tx, .slice x3 n3 k3⟩, .slice ya yn yc, ⟨dr, re, bu, li, lo, cr⟩, fl, why⟩⟩).toArray 44)).cell? ⟨w.heap.size, j, none⟩ = some u := fun j u h => (bx.cell j).trans (by simpa using h)
  generalize hW1 : w.alloc (.cells (oqL ⟨on, 6, name, n, ⟨⟨vb, ka, kn, kc, fl1, ex, tk, de, da, dn, dc, nr, lg, ma, mn, mc, what⟩, ⟨ak, .slice x1 n1 k1, .int .u64 n2, tx, .slice x3 n3 k3⟩, .slice ya yn yc, ⟨dr, re, bu, li, lo, cr⟩, fl, why⟩⟩).toArray 44) = W at *
  simp only [oqL] at hW1
  have hb1 : Bd W b 0 N := Box.kept hT.pb g1 (by simp)
  have hr1 : Rb W r N := Box.kept hT.pr g1 (by simp)
  have K1 : Kp (fun k => k = b ∨ k = r) w W := Kp.of g1
  have hF := hT.fit
  have Wo1 := hW.kept (Kp.of (F := fun _ => False) g1) (fun h => h)
  have p1 : W.cell? ⟨w.heap.size, 1, none⟩ = some (.int .i64 6) := hcx 1 _ rfl
  have p2 : W.cell? ⟨w.heap.size, 2, none⟩ = some (.int .i64 name) := hcx 2 _ rfl
  have p3 : W.cell? ⟨w.heap.size, 3, none⟩ = some (.int .u64 (n : Nat)) := hcx 3 _ rfl
  have toB : ∀ {A B : World}, Kp (· = b) A B → Kp (fun k => k = b ∨ k = r) A B := fun h => h.mono (fun k hk => .inl (.inl hk))
  have toR : ∀ {A B : World}, Kp (· = r) A B → Kp (fun k => k = b ∨ k = r) A B := fun h => h.mono (fun k hk => .inl (.inr hk))
  simp only [oqL]
  go_enter Tryd.func13, Tryd.ntmps13
  go_wp2_with fail
  refine (stats_15 b N W hb1 Wo1 hb0).mono ?_
  rintro e w1 ⟨v5, rfl, st5, hb2, hk2⟩
  have hr2 := Rb.kept hr1 hk2 hrb
  go_wp2_with fail
  refine (rstats_16 r N w1 hr2).mono ?_
  rintro e w2 ⟨v6, rfl, st6, hg6⟩
  go_wp2_with fail
  refine (lines_14 (st5.kept hg6) st6).mono ?_
  rintro e w3 ⟨rfl, hg7⟩
  have gg := gb_trans hg6 hg7
  go_wp2
  go_ret
  exact ⟨rfl, ⟨N, Box.kept hb2 gg (by simp), Box.kept hr2 gg (by simp), hF, hT.ne⟩, (K1.then (toB hk2)).then (Kp.of gg)⟩
set_option maxRecDepth 100000 in
set_option maxHeartbeats 8000000 in
theorem plays_13_7 (b r : Nat) (N : Cn) (x : Oq) (w : World) (hT : Two w b r N) (ok : OqOk w x) (hW : Wo w) (hb0 : b ≠ 0) (hr0 : r ≠ 0) (hoF : ∀ k, k = b ∨ k = r → Off x.x.c.mt (· = k)) (hoY : ∀ k, k = b ∨ k = r → Off x.x.y (· = k)) (hd : x.dd = 7) :
    Calls Tryd.prog 13 #[.pointer (some ⟨b, 0, none⟩), .pointer (some ⟨r, 0, none⟩), .agg (oqL x).toArray] w fun e w' => e = .returned (.bool true) ∧ (∃ N', Two w' b r N') ∧ Kp (fun k => k = b ∨ k = r) w w' := by
  obtain ⟨on, dd, name, n, ⟨⟨vb, ka, kn, kc, fl1, ex, tk, de, da, dn, dc, nr, lg, ma, mn, mc, what⟩, ⟨ak, en, nu, tx, st⟩, y, ⟨dr, re, bu, li, lo, cr⟩, fl, why⟩⟩ := x
  obtain ⟨⟨ha, hfl, hwy, hm⟩, hnn⟩ := ok
  have ha0 := ha
  obtain ⟨⟨x1, n1, k1, e1⟩, ⟨n2, e2⟩, ⟨x3, n3, k3, e3⟩, hl⟩ := ha0
  simp only at e1 e2 e3 hl hd hnn
  subst e1 e2 e3
  obtain ⟨ya, yc, rfl, hyl⟩ : ∃ ya yc, y = .slice ya why.length yc ∧ True := by obtain ⟨p, q, e, _⟩ := hwy; exact ⟨p, q, e, trivial⟩
  obtain ⟨yn, hyn⟩ : ∃ yn, yn = why.length := ⟨_, rfl⟩
  simp only [Cm.mt, ← hyn] at hfl hwy hoF hoY ⊢
  clear hyn hyl
  subst hd
  have hbr : ¬ b = r := hT.ne
  have hrb : ¬ r = b := fun e => hT.ne e.symm
  have hlb := hT.pb.lt
  have hlr := hT.pr.lt
  have hne1 : ¬ w.heap.size = b := by omega
  have hne2 : ¬ w.heap.size = r := by omega
  have g1 := World.grownBy_alloc w (.cells (oqL ⟨on, 7, name, n, ⟨⟨vb, ka, kn, kc, fl1, ex, tk, de, da, dn, dc, nr, lg, ma, mn, mc, what⟩, ⟨ak, .slice x1 n1 k1, .int .u64 n2, tx, .slice x3 n3 k3⟩, .slice ya yn yc, ⟨dr, re, bu, li, lo, cr⟩, fl, why⟩⟩).toArray 44) none
  have bx := Box.new w 44 (oqL ⟨on, 7, name, n, ⟨⟨vb, ka, kn, kc, fl1, ex, tk, de, da, dn, dc, nr, lg, ma, mn, mc, what⟩, ⟨ak, .slice x1 n1 k1, .int .u64 n2, tx, .slice x3 n3 k3⟩, .slice ya yn yc, ⟨dr, re, bu, li, lo, cr⟩, fl, why⟩⟩).toArray
  have hcx : ∀ (j : Nat) (u : Value), (oqL ⟨on, 7, name, n, ⟨⟨vb, ka, kn, kc, fl1, ex, tk, de, da, dn, dc, nr, lg, ma, mn, mc, what⟩, ⟨ak, .slice x1 n1 k1, .int .u64 n2, tx, .slice x3 n3 k3⟩, .slice ya yn yc, ⟨dr, re, bu, li, lo, cr⟩, fl, why⟩⟩)[j]? = some u → (w.alloc (.cells (oqL ⟨on, 7, name, n, ⟨⟨vb, ka, kn, kc, fl1, ex, tk, de, da, dn, dc, nr, lg, ma, mn, mc, what⟩, ⟨ak, .slice x1 n1 k1, .int .u64 n2, tx, .slice x3 n3 k3⟩, .slice ya yn yc, ⟨dr, re, bu, li, lo, cr⟩, fl, why⟩⟩).toArray 44)).cell? ⟨w.heap.size, j, none⟩ = some u := fun j u h => (bx.cell j).trans (by simpa using h)
  generalize hW1 : w.alloc (.cells (oqL ⟨on, 7, name, n, ⟨⟨vb, ka, kn, kc, fl1, ex, tk, de, da, dn, dc, nr, lg, ma, mn, mc, what⟩, ⟨ak, .slice x1 n1 k1, .int .u64 n2, tx, .slice x3 n3 k3⟩, .slice ya yn yc, ⟨dr, re, bu, li, lo, cr⟩, fl, why⟩⟩).toArray 44) = W at *
  simp only [oqL] at hW1
  have hb1 : Bd W b 0 N := Box.kept hT.pb g1 (by simp)
  have hr1 : Rb W r N := Box.kept hT.pr g1 (by simp)
  have K1 : Kp (fun k => k = b ∨ k = r) w W := Kp.of g1
  have hF := hT.fit
  have Wo1 := hW.kept (Kp.of (F := fun _ => False) g1) (fun h => h)
  have p1 : W.cell? ⟨w.heap.size, 1, none⟩ = some (.int .i64 7) := hcx 1 _ rfl
  have p2 : W.cell? ⟨w.heap.size, 2, none⟩ = some (.int .i64 name) := hcx 2 _ rfl
  have p3 : W.cell? ⟨w.heap.size, 3, none⟩ = some (.int .u64 (n : Nat)) := hcx 3 _ rfl
  have toB : ∀ {A B : World}, Kp (· = b) A B → Kp (fun k => k = b ∨ k = r) A B := fun h => h.mono (fun k hk => .inl (.inl hk))
  have toR : ∀ {A B : World}, Kp (· = r) A B → Kp (fun k => k = b ∨ k = r) A B := fun h => h.mono (fun k hk => .inl (.inr hk))
  simp only [oqL]
  have h25 := fun (X : World) (hX : W.grownBy X none) => name_25 name X (Wo1.kept (Kp.of (F := fun _ => False) hX) (fun h => h))
  have h27 := fun (X : World) => rname_27 name X
  generalize nmW name = nx at *
  go_enter Tryd.func13, Tryd.ntmps13
  go_wp2_with fail
  go_region_held3 (fun X => X.cell? ⟨w.heap.size, 2, none⟩ = some (.int .i64 name)) ((first | exact gb_cellN (gb_trans (gb_drew (gb_refl _ _)) hg7) p2 | exact gb_cellN hg7 p2 | go_keep)) ((first | (go_at_call 25; (first | (with_reducible refine (h25 _ (gb_drew (gb_refl _ _))).mono ?_) | (with_reducible refine (h25 _ (gb_drewN (gb_refl _ _) _)).mono ?_) | (with_reducible refine (h25 _ (gb_refl _ _)).mono ?_) | (with_reducible refine (h25 _ (gb_drewN (gb_drew (gb_refl _ _)) _)).mono ?_)); rintro e3 w3 ⟨rfl, rfl⟩) | (go_at_call 27; (with_reducible refine (h27 _).mono ?_); rintro e7 w7 ⟨rfl, hg7⟩)))
  go_wp2
  go_ret
  have gg : W.grownBy w7 none := by first | exact hg7 | exact gb_trans (gb_drew (gb_refl _ _)) hg7
  exact ⟨by simp, ⟨N, Box.kept hb1 gg (by simp), Box.kept hr1 gg (by simp), hF, hT.ne⟩, K1.then (Kp.of gg)⟩
set_option maxRecDepth 100000 in
set_option maxHeartbeats 8000000 in
theorem plays_13_4 (b r : Nat) (N : Cn) (x : Oq) (w : World) (hT : Two w b r N) (ok : OqOk w x) (hW : Wo w) (hb0 : b ≠ 0) (hr0 : r ≠ 0) (hoF : ∀ k, k = b ∨ k = r → Off x.x.c.mt (· = k)) (hoY : ∀ k, k = b ∨ k = r → Off x.x.y (· = k)) (hd : x.dd = 4) :
    Calls Tryd.prog 13 #[.pointer (some ⟨b, 0, none⟩), .pointer (some ⟨r, 0, none⟩), .agg (oqL x).toArray] w fun e w' => e = .returned (.bool true) ∧ (∃ N', Two w' b r N') ∧ Kp (fun k => k = b ∨ k = r) w w' := by
  obtain ⟨on, dd, name, n, ⟨⟨vb, ka, kn, kc, fl1, ex, tk, de, da, dn, dc, nr, lg, ma, mn, mc, what⟩, ⟨ak, en, nu, tx, st⟩, y, ⟨dr, re, bu, li, lo, cr⟩, fl, why⟩⟩ := x
  obtain ⟨⟨ha, hfl, hwy, hm⟩, hnn⟩ := ok
  have ha0 := ha
  obtain ⟨⟨x1, n1, k1, e1⟩, ⟨n2, e2⟩, ⟨x3, n3, k3, e3⟩, hl⟩ := ha0
  simp only at e1 e2 e3 hl hd hnn
  subst e1 e2 e3
  obtain ⟨ya, yc, rfl, hyl⟩ : ∃ ya yc, y = .slice ya why.length yc ∧ True := by obtain ⟨p, q, e, _⟩ := hwy; exact ⟨p, q, e, trivial⟩
  obtain ⟨yn, hyn⟩ : ∃ yn, yn = why.length := ⟨_, rfl⟩
  simp only [Cm.mt, ← hyn] at hfl hwy hoF hoY ⊢
  clear hyn hyl
  subst hd
  have hbr : ¬ b = r := hT.ne
  have hrb : ¬ r = b := fun e => hT.ne e.symm
  have hlb := hT.pb.lt
  have hlr := hT.pr.lt
  have hne1 : ¬ w.heap.size = b := by omega
  have hne2 : ¬ w.heap.size = r := by omega
  have g1 := World.grownBy_alloc w (.cells (oqL ⟨on, 4, name, n, ⟨⟨vb, ka, kn, kc, fl1, ex, tk, de, da, dn, dc, nr, lg, ma, mn, mc, what⟩, ⟨ak, .slice x1 n1 k1, .int .u64 n2, tx, .slice x3 n3 k3⟩, .slice ya yn yc, ⟨dr, re, bu, li, lo, cr⟩, fl, why⟩⟩).toArray 44) none
  have bx := Box.new w 44 (oqL ⟨on, 4, name, n, ⟨⟨vb, ka, kn, kc, fl1, ex, tk, de, da, dn, dc, nr, lg, ma, mn, mc, what⟩, ⟨ak, .slice x1 n1 k1, .int .u64 n2, tx, .slice x3 n3 k3⟩, .slice ya yn yc, ⟨dr, re, bu, li, lo, cr⟩, fl, why⟩⟩).toArray
  have hcx : ∀ (j : Nat) (u : Value), (oqL ⟨on, 4, name, n, ⟨⟨vb, ka, kn, kc, fl1, ex, tk, de, da, dn, dc, nr, lg, ma, mn, mc, what⟩, ⟨ak, .slice x1 n1 k1, .int .u64 n2, tx, .slice x3 n3 k3⟩, .slice ya yn yc, ⟨dr, re, bu, li, lo, cr⟩, fl, why⟩⟩)[j]? = some u → (w.alloc (.cells (oqL ⟨on, 4, name, n, ⟨⟨vb, ka, kn, kc, fl1, ex, tk, de, da, dn, dc, nr, lg, ma, mn, mc, what⟩, ⟨ak, .slice x1 n1 k1, .int .u64 n2, tx, .slice x3 n3 k3⟩, .slice ya yn yc, ⟨dr, re, bu, li, lo, cr⟩, fl, why⟩⟩).toArray 44)).cell? ⟨w.heap.size, j, none⟩ = some u := fun j u h => (bx.cell j).trans (by simpa using h)
  generalize hW1 : w.alloc (.cells (oqL ⟨on, 4, name, n, ⟨⟨vb, ka, kn, kc, fl1, ex, tk, de, da, dn, dc, nr, lg, ma, mn, mc, what⟩, ⟨ak, .slice x1 n1 k1, .int .u64 n2, tx, .slice x3 n3 k3⟩, .slice ya yn yc, ⟨dr, re, bu, li, lo, cr⟩, fl, why⟩⟩).toArray 44) = W at *
  simp only [oqL] at hW1
  have hb1 : Bd W b 0 N := Box.kept hT.pb g1 (by simp)
  have hr1 : Rb W r N := Box.kept hT.pr g1 (by simp)
  have K1 : Kp (fun k => k = b ∨ k = r) w W := Kp.of g1
  have hF := hT.fit
  have Wo1 := hW.kept (Kp.of (F := fun _ => False) g1) (fun h => h)
  have p1 : W.cell? ⟨w.heap.size, 1, none⟩ = some (.int .i64 4) := hcx 1 _ rfl
  have p2 : W.cell? ⟨w.heap.size, 2, none⟩ = some (.int .i64 name) := hcx 2 _ rfl
  have p3 : W.cell? ⟨w.heap.size, 3, none⟩ = some (.int .u64 (n : Nat)) := hcx 3 _ rfl
  have toB : ∀ {A B : World}, Kp (· = b) A B → Kp (fun k => k = b ∨ k = r) A B := fun h => h.mono (fun k hk => .inl (.inl hk))
  have toR : ∀ {A B : World}, Kp (· = r) A B → Kp (fun k => k = b ∨ k = r) A B := fun h => h.mono (fun k hk => .inl (.inr hk))
  simp only [oqL]
  have s0 : W.cell? ⟨w.heap.size, 4, none⟩ = some (.int .i64 vb) := hcx 4 _ rfl
  have s1 : W.cell? ⟨w.heap.size, 5, none⟩ = some (.slice ka kn kc) := hcx 5 _ rfl
  have s2 : W.cell? ⟨w.heap.size, 6, none⟩ = some (.int .u64 fl1) := hcx 6 _ rfl
  have s3 : W.cell? ⟨w.heap.size, 7, none⟩ = some (.int .i64 ex) := hcx 7 _ rfl
  have s4 : W.cell? ⟨w.heap.size, 8, none⟩ = some (.int .u64 tk) := hcx 8 _ rfl
  have s5 : W.cell? ⟨w.heap.size, 9, none⟩ = some (.int .u64 de) := hcx 9 _ rfl
  have s6 : W.cell? ⟨w.heap.size, 10, none⟩ = some (.slice da dn dc) := hcx 10 _ rfl
  have s7 : W.cell? ⟨w.heap.size, 11, none⟩ = some (.bool nr) := hcx 11 _ rfl
  have s8 : W.cell? ⟨w.heap.size, 12, none⟩ = some (.bool lg) := hcx 12 _ rfl
  have s9 : W.cell? ⟨w.heap.size, 13, none⟩ = some (.slice ma mn mc) := hcx 13 _ rfl
  have s10 : W.cell? ⟨w.heap.size, 14, none⟩ = some (.string what) := hcx 14 _ rfl
  have s11 : W.cell? ⟨w.heap.size, 15, none⟩ = some (.int .i64 ak) := hcx 15 _ rfl
  have s12 : W.cell? ⟨w.heap.size, 16, none⟩ = some (.slice x1 n1 k1) := hcx 16 _ rfl
  have s13 : W.cell? ⟨w.heap.size, 17, none⟩ = some (.int .u64 n2) := hcx 17 _ rfl
  have s14 : W.cell? ⟨w.heap.size, 18, none⟩ = some (sv tx) := hcx 18 _ rfl
  have s15 : W.cell? ⟨w.heap.size, 19, none⟩ = some (.slice x3 n3 k3) := hcx 19 _ rfl
  have s16 : W.cell? ⟨w.heap.size, 20, none⟩ = some (.slice ya yn yc) := hcx 20 _ rfl
  have s17 : W.cell? ⟨w.heap.size, 21, none⟩ = some (.int .i64 dr) := hcx 21 _ rfl
  have s18 : W.cell? ⟨w.heap.size, 22, none⟩ = some (.int .i64 re) := hcx 22 _ rfl
  have s19 : W.cell? ⟨w.heap.size, 23, none⟩ = some (.int .i64 bu) := hcx 23 _ rfl
  have s20 : W.cell? ⟨w.heap.size, 24, none⟩ = some (.int .i64 li) := hcx 24 _ rfl
  have s21 : W.cell? ⟨w.heap.size, 25, none⟩ = some (.int .i64 lo) := hcx 25 _ rfl
  have s22 : W.cell? ⟨w.heap.size, 26, none⟩ = some (.int .i64 cr) := hcx 26 _ rfl
  have hfl1 := hfl.kept (Kp.of (F := fun _ => False) g1) (fun _ _ _ _ _ h => h)
  have hwy1 := hwy.kept (Kp.of (F := fun _ => False) g1) (fun _ _ _ _ _ h => h)
  have hwf := few_ints hwy1
  have hoYf : ∀ k, k = b ∨ k = r → Off (fw (.slice ya yn yc)) (· = k) := by
    intro k hk a' n' c' e h0 hh
    simp only [fw] at e
    injection e with e1 e2 e3
    subst e1
    exact hoY k hk a' yn yc rfl (by omega) hh
  have h20 := fun (X : World) (hX : W.grownBy X none) => few_20 (.slice ya yn yc) why X (hwy1.kept (Kp.of (F := fun _ => False) hX) (fun _ _ _ _ _ h => h))
  have h19 := fun (X : World) (hX : W.grownBy X none) => command_19 b N ⟨vb, ka, kn, kc, fl1, ex, tk, de, da, dn, dc, nr, lg, ma, mn, mc, what⟩ ⟨ak, .slice x1 n1 k1, .int .u64 n2, tx, .slice x3 n3 k3⟩ (fw (.slice ya yn yc)) fl (why.take 10000) ⟨dr, re, bu, li, lo, cr⟩ X (Box.kept hb1 hX (by simp)) hF ha (hfl1.kept (Kp.of (F := fun _ => False) hX) (fun _ _ _ _ _ h => h)) (hoF b (.inl rfl)) (hwf.kept (Kp.of (F := fun _ => False) hX) (fun _ _ _ _ _ h => h)) (hoYf b (.inl rfl)) hm
  generalize hfy : fw (.slice ya yn yc) = fy at *
  clear hcx p2 p3 bx
  go_enter Tryd.func13, Tryd.ntmps13
  go_wp2_with fail
  go_region_held3 (fun X => X.cell? ⟨w.heap.size, 4, none⟩ = some (.int .i64 vb) ∧ X.cell? ⟨w.heap.size, 5, none⟩ = some (.slice ka kn kc) ∧ X.cell? ⟨w.heap.size, 6, none⟩ = some (.int .u64 fl1) ∧ X.cell? ⟨w.heap.size, 7, none⟩ = some (.int .i64 ex) ∧ X.cell? ⟨w.heap.size, 8, none⟩ = some (.int .u64 tk) ∧ X.cell? ⟨w.heap.size, 9, none⟩ = some (.int .u64 de) ∧ X.cell? ⟨w.heap.size, 10, none⟩ = some (.slice da dn dc) ∧ X.cell? ⟨w.heap.size, 11, none⟩ = some (.bool nr) ∧ X.cell? ⟨w.heap.size, 12, none⟩ = some (.bool lg) ∧ X.cell? ⟨w.heap.size, 13, none⟩ = some (.slice ma mn mc) ∧ X.cell? ⟨w.heap.size, 14, none⟩ = some (.string what) ∧ X.cell? ⟨w.heap.size, 15, none⟩ = some (.int .i64 ak) ∧ X.cell? ⟨w.heap.size, 16, none⟩ = some (.slice x1 n1 k1) ∧ X.cell? ⟨w.heap.size, 17, none⟩ = some (.int .u64 n2) ∧ X.cell? ⟨w.heap.size, 18, none⟩ = some (sv tx) ∧ X.cell? ⟨w.heap.size, 19, none⟩ = some (.slice x3 n3 k3) ∧ X.cell? ⟨w.heap.size, 20, none⟩ = some (.slice ya yn yc) ∧ X.cell? ⟨w.heap.size, 21, none⟩ = some (.int .i64 dr) ∧ X.cell? ⟨w.heap.size, 22, none⟩ = some (.int .i64 re) ∧ X.cell? ⟨w.heap.size, 23, none⟩ = some (.int .i64 bu) ∧ X.cell? ⟨w.heap.size, 24, none⟩ = some (.int .i64 li) ∧ X.cell? ⟨w.heap.size, 25, none⟩ = some (.int .i64 lo) ∧ X.cell? ⟨w.heap.size, 26, none⟩ = some (.int .i64 cr)) ((first | exact ⟨hk3.cell s0 hne1, hk3.cell s1 hne1, hk3.cell s2 hne1, hk3.cell s3 hne1, hk3.cell s4 hne1, hk3.cell s5 hne1, hk3.cell s6 hne1, hk3.cell s7 hne1, hk3.cell s8 hne1, hk3.cell s9 hne1, hk3.cell s10 hne1, hk3.cell s11 hne1, hk3.cell s12 hne1, hk3.cell s13 hne1, hk3.cell s14 hne1, hk3.cell s15 hne1, hk3.cell s16 hne1, hk3.cell s17 hne1, hk3.cell s18 hne1, hk3.cell s19 hne1, hk3.cell s20 hne1, hk3.cell s21 hne1, hk3.cell s22 hne1⟩ | go_keep)) ((first | (go_at_call 20; (first | (with_reducible refine (h20 _ (gb_drew (gb_refl _ _))).mono ?_) | (with_reducible refine (h20 _ (gb_drewN (gb_refl _ _) _)).mono ?_) | (with_reducible refine (h20 _ (gb_refl _ _)).mono ?_) | (with_reducible refine (h20 _ (gb_drewN (gb_drew (gb_refl _ _)) _)).mono ?_)); rintro e8 w8 ⟨rfl, rfl⟩) | (go_at_call 19; (first | (with_reducible refine (h19 _ (gb_drew (gb_refl _ _))).mono ?_) | (with_reducible refine (h19 _ (gb_drewN (gb_refl _ _) _)).mono ?_) | (with_reducible refine (h19 _ (gb_refl _ _)).mono ?_) | (with_reducible refine (h19 _ (gb_drewN (gb_drew (gb_refl _ _)) _)).mono ?_)); rintro e3 w3 ⟨rfl, hb3, hk3⟩)))
  have K3 : Kp (· = b) W w3 := (Kp.drew _ _).then hk3
  have hr3 := Rb.kept hr1 K3 hrb
  have t0 := K3.cell s0 hne1
  have t1 := K3.cell s1 hne1
  have t2 := K3.cell s2 hne1
  have t3 := K3.cell s3 hne1
  have t4 := K3.cell s4 hne1
  have t5 := K3.cell s5 hne1
  have t6 := K3.cell s6 hne1
  have t7 := K3.cell s7 hne1
  have t8 := K3.cell s8 hne1
  have t9 := K3.cell s9 hne1
  have t10 := K3.cell s10 hne1
  have t11 := K3.cell s11 hne1
  have t12 := K3.cell s12 hne1
  have t13 := K3.cell s13 hne1
  have t14 := K3.cell s14 hne1
  have t15 := K3.cell s15 hne1
  have t16 := K3.cell s16 hne1
  have t17 := K3.cell s17 hne1
  have t18 := K3.cell s18 hne1
  have t19 := K3.cell s19 hne1
  have t20 := K3.cell s20 hne1
  have t21 := K3.cell s21 hne1
  have t22 := K3.cell s22 hne1
  have h20b := fun (X : World) (hX : w3.grownBy X none) => few_20 (.slice ya yn yc) why X ((hwy1.kept K3 (hoY b (.inl rfl))).kept (Kp.of (F := fun _ => False) hX) (fun _ _ _ _ _ h => h))
  rw [hfy] at h20b
  have h21 := fun (X : World) (hX : w3.grownBy X none) => rcommand_21 r N ⟨vb, ka, kn, kc, fl1, ex, tk, de, da, dn, dc, nr, lg, ma, mn, mc, what⟩ ⟨ak, .slice x1 n1 k1, .int .u64 n2, tx, .slice x3 n3 k3⟩ fy fl (why.take 10000) ⟨dr, re, bu, li, lo, cr⟩ X (Box.kept hr3 hX (by simp)) hF ha ((hfl1.kept K3 (hoF b (.inl rfl))).kept (Kp.of (F := fun _ => False) hX) (fun _ _ _ _ _ h => h)) (hoF r (.inr rfl)) ((hwf.kept K3 (hoYf b (.inl rfl))).kept (Kp.of (F := fun _ => False) hX) (fun _ _ _ _ _ h => h)) (hoYf r (.inr rfl)) hm (by simp; omega)
  clear h19 h20 hk3
  go_wp2_with fail
  go_region_held3 (fun X => X.cell? ⟨w.heap.size, 4, none⟩ = some (.int .i64 vb) ∧ X.cell? ⟨w.heap.size, 5, none⟩ = some (.slice ka kn kc) ∧ X.cell? ⟨w.heap.size, 6, none⟩ = some (.int .u64 fl1) ∧ X.cell? ⟨w.heap.size, 7, none⟩ = some (.int .i64 ex) ∧ X.cell? ⟨w.heap.size, 8, none⟩ = some (.int .u64 tk) ∧ X.cell? ⟨w.heap.size, 9, none⟩ = some (.int .u64 de) ∧ X.cell? ⟨w.heap.size, 10, none⟩ = some (.slice da dn dc) ∧ X.cell? ⟨w.heap.size, 11, none⟩ = some (.bool nr) ∧ X.cell? ⟨w.heap.size, 12, none⟩ = some (.bool lg) ∧ X.cell? ⟨w.heap.size, 13, none⟩ = some (.slice ma mn mc) ∧ X.cell? ⟨w.heap.size, 14, none⟩ = some (.string what) ∧ X.cell? ⟨w.heap.size, 15, none⟩ = some (.int .i64 ak) ∧ X.cell? ⟨w.heap.size, 16, none⟩ = some (.slice x1 n1 k1) ∧ X.cell? ⟨w.heap.size, 17, none⟩ = some (.int .u64 n2) ∧ X.cell? ⟨w.heap.size, 18, none⟩ = some (sv tx) ∧ X.cell? ⟨w.heap.size, 19, none⟩ = some (.slice x3 n3 k3) ∧ X.cell? ⟨w.heap.size, 20, none⟩ = some (.slice ya yn yc) ∧ X.cell? ⟨w.heap.size, 21, none⟩ = some (.int .i64 dr) ∧ X.cell? ⟨w.heap.size, 22, none⟩ = some (.int .i64 re) ∧ X.cell? ⟨w.heap.size, 23, none⟩ = some (.int .i64 bu) ∧ X.cell? ⟨w.heap.size, 24, none⟩ = some (.int .i64 li) ∧ X.cell? ⟨w.heap.size, 25, none⟩ = some (.int .i64 lo) ∧ X.cell? ⟨w.heap.size, 26, none⟩ = some (.int .i64 cr)) ((first | exact ⟨hk4.cell t0 hne2, hk4.cell t1 hne2, hk4.cell t2 hne2, hk4.cell t3 hne2, hk4.cell t4 hne2, hk4.cell t5 hne2, hk4.cell t6 hne2, hk4.cell t7 hne2, hk4.cell t8 hne2, hk4.cell t9 hne2, hk4.cell t10 hne2, hk4.cell t11 hne2, hk4.cell t12 hne2, hk4.cell t13 hne2, hk4.cell t14 hne2, hk4.cell t15 hne2, hk4.cell t16 hne2, hk4.cell t17 hne2, hk4.cell t18 hne2, hk4.cell t19 hne2, hk4.cell t20 hne2, hk4.cell t21 hne2, hk4.cell t22 hne2⟩ | go_keep)) ((first | (go_at_call 20; (first | (with_reducible refine (h20b _ (gb_drew (gb_refl _ _))).mono ?_) | (with_reducible refine (h20b _ (gb_drewN (gb_refl _ _) _)).mono ?_) | (with_reducible refine (h20b _ (gb_refl _ _)).mono ?_) | (with_reducible refine (h20b _ (gb_drewN (gb_drew (gb_refl _ _)) _)).mono ?_)); rintro e8 w8 ⟨rfl, rfl⟩) | (go_at_call 21; (first | (with_reducible refine (h21 _ (gb_drew (gb_refl _ _))).mono ?_) | (with_reducible refine (h21 _ (gb_drewN (gb_refl _ _) _)).mono ?_) | (with_reducible refine (h21 _ (gb_refl _ _)).mono ?_) | (with_reducible refine (h21 _ (gb_drewN (gb_drew (gb_refl _ _)) _)).mono ?_)); rintro e4 w4 ⟨rfl, hr4, hk4⟩)))
  have K4 : Kp (· = r) w3 w4 := (Kp.drew _ _).then hk4
  have hb4 := Bd.kept hb3 K4 hbr
  rw [← cmdD_eq] at hr4
  go_wp2
  go_ret
  exact ⟨rfl, ⟨_, hb4, hr4, plus_fit _ _, hT.ne⟩, (K1.then (toB K3)).then (toR K4)⟩
set_option maxRecDepth 100000 in
set_option maxHeartbeats 8000000 in
theorem plays_13_o (b r : Nat) (N : Cn) (x : Oq) (w : World) (hT : Two w b r N) (ok : OqOk w x) (hW : Wo w) (hb0 : b ≠ 0) (hr0 : r ≠ 0) (hoF : ∀ k, k = b ∨ k = r → Off x.x.c.mt (· = k)) (hoY : ∀ k, k = b ∨ k = r → Off x.x.y (· = k)) (hd : ¬ x.dd = 1 ∧ ¬ x.dd = 2 ∧ ¬ x.dd = 3 ∧ ¬ x.dd = 4 ∧ ¬ x.dd = 5 ∧ ¬ x.dd = 6 ∧ ¬ x.dd = 7) :
    Calls Tryd.prog 13 #[.pointer (some ⟨b, 0, none⟩), .pointer (some ⟨r, 0, none⟩), .agg (oqL x).toArray] w fun e w' => e = .returned (.bool true) ∧ (∃ N', Two w' b r N') ∧ Kp (fun k => k = b ∨ k = r) w w' := by
  obtain ⟨on, dd, name, n, ⟨⟨vb, ka, kn, kc, fl1, ex, tk, de, da, dn, dc, nr, lg, ma, mn, mc, what⟩, ⟨ak, en, nu, tx, st⟩, y, ⟨dr, re, bu, li, lo, cr⟩, fl, why⟩⟩ := x
  obtain ⟨⟨ha, hfl, hwy, hm⟩, hnn⟩ := ok
  have ha0 := ha
  obtain ⟨⟨x1, n1, k1, e1⟩, ⟨n2, e2⟩, ⟨x3, n3, k3, e3⟩, hl⟩ := ha0
  simp only at e1 e2 e3 hl hd hnn
  subst e1 e2 e3
  obtain ⟨ya, yc, rfl, hyl⟩ : ∃ ya yc, y = .slice ya why.length yc ∧ True := by obtain ⟨p, q, e, _⟩ := hwy; exact ⟨p, q, e, trivial⟩
  obtain ⟨yn, hyn⟩ : ∃ yn, yn = why.length := ⟨_, rfl⟩
  simp only [Cm.mt, ← hyn] at hfl hwy hoF hoY ⊢
  clear hyn hyl
  obtain ⟨i1, i2, i3, i4, i5, i6, i7⟩ := hd
  have hbr : ¬ b = r := hT.ne
  have hrb : ¬ r = b := fun e => hT.ne e.symm
  have hlb := hT.pb.lt
  have hlr := hT.pr.lt
  have hne1 : ¬ w.heap.size = b := by omega
  have hne2 : ¬ w.heap.size = r := by omega
  have g1 := World.grownBy_alloc w (.cells (oqL ⟨on, dd, name, n, ⟨⟨vb, ka, kn, kc, fl1, ex, tk, de, da, dn, dc, nr, lg, ma, mn, mc, what⟩, ⟨ak, .slice x1 n1 k1, .int .u64 n2, tx, .slice x3 n3 k3⟩, .slice ya yn yc, ⟨dr, re, bu, li, lo, cr⟩, fl, why⟩⟩).toArray 44) none
  have bx := Box.new w 44 (oqL ⟨on, dd, name, n, ⟨⟨vb, ka, kn, kc, fl1, ex, tk, de, da, dn, dc, nr, lg, ma, mn, mc, what⟩, ⟨ak, .slice x1 n1 k1, .int .u64 n2, tx, .slice x3 n3 k3⟩, .slice ya yn yc, ⟨dr, re, bu, li, lo, cr⟩, fl, why⟩⟩).toArray
  have hcx : ∀ (j : Nat) (u : Value), (oqL ⟨on, dd, name, n, ⟨⟨vb, ka, kn, kc, fl1, ex, tk, de, da, dn, dc, nr, lg, ma, mn, mc, what⟩, ⟨ak, .slice x1 n1 k1, .int .u64 n2, tx, .slice x3 n3 k3⟩, .slice ya yn yc, ⟨dr, re, bu, li, lo, cr⟩, fl, why⟩⟩)[j]? = some u → (w.alloc (.cells (oqL ⟨on, dd, name, n, ⟨⟨vb, ka, kn, kc, fl1, ex, tk, de, da, dn, dc, nr, lg, ma, mn, mc, what⟩, ⟨ak, .slice x1 n1 k1, .int .u64 n2, tx, .slice x3 n3 k3⟩, .slice ya yn yc, ⟨dr, re, bu, li, lo, cr⟩, fl, why⟩⟩).toArray 44)).cell? ⟨w.heap.size, j, none⟩ = some u := fun j u h => (bx.cell j).trans (by simpa using h)
  generalize hW1 : w.alloc (.cells (oqL ⟨on, dd, name, n, ⟨⟨vb, ka, kn, kc, fl1, ex, tk, de, da, dn, dc, nr, lg, ma, mn, mc, what⟩, ⟨ak, .slice x1 n1 k1, .int .u64 n2, tx, .slice x3 n3 k3⟩, .slice ya yn yc, ⟨dr, re, bu, li, lo, cr⟩, fl, why⟩⟩).toArray 44) = W at *
  simp only [oqL] at hW1
  have hb1 : Bd W b 0 N := Box.kept hT.pb g1 (by simp)
  have hr1 : Rb W r N := Box.kept hT.pr g1 (by simp)
  have K1 : Kp (fun k => k = b ∨ k = r) w W := Kp.of g1
  have hF := hT.fit
  have Wo1 := hW.kept (Kp.of (F := fun _ => False) g1) (fun h => h)
  have p1 : W.cell? ⟨w.heap.size, 1, none⟩ = some (.int .i64 dd) := hcx 1 _ rfl
  have p2 : W.cell? ⟨w.heap.size, 2, none⟩ = some (.int .i64 name) := hcx 2 _ rfl
  have p3 : W.cell? ⟨w.heap.size, 3, none⟩ = some (.int .u64 (n : Nat)) := hcx 3 _ rfl
  have toB : ∀ {A B : World}, Kp (· = b) A B → Kp (fun k => k = b ∨ k = r) A B := fun h => h.mono (fun k hk => .inl (.inl hk))
  have toR : ∀ {A B : World}, Kp (· = r) A B → Kp (fun k => k = b ∨ k = r) A B := fun h => h.mono (fun k hk => .inl (.inr hk))
  simp only [oqL]
  go_enter Tryd.func13, Tryd.ntmps13
  go_wp2
  go_ret
  exact ⟨rfl, ⟨N, hb1, hr1, hF, hT.ne⟩, K1⟩
theorem plays_13 (b r : Nat) (N : Cn) (x : Oq) (w : World) (hT : Two w b r N) (ok : OqOk w x) (hW : Wo w) (hb0 : b ≠ 0) (hr0 : r ≠ 0) (hoF : ∀ k, k = b ∨ k = r → Off x.x.c.mt (· = k)) (hoY : ∀ k, k = b ∨ k = r → Off x.x.y (· = k)) :
    Calls Tryd.prog 13 #[.pointer (some ⟨b, 0, none⟩), .pointer (some ⟨r, 0, none⟩), .agg (oqL x).toArray] w fun e w' => e = .returned (.bool true) ∧ (∃ N', Two w' b r N') ∧ Kp (fun k => k = b ∨ k = r) w w' := by
  by_cases c1 : x.dd = 1
  · exact plays_13_1 b r N x w hT ok hW hb0 hr0 hoF hoY c1
  by_cases c2 : x.dd = 2
  · exact plays_13_2 b r N x w hT ok hW hb0 hr0 hoF hoY c2
  by_cases c3 : x.dd = 3
  · exact plays_13_3 b r N x w hT ok hW hb0 hr0 hoF hoY c3
  by_cases c4 : x.dd = 4
  · exact plays_13_4 b r N x w hT ok hW hb0 hr0 hoF hoY c4
  by_cases c5 : x.dd = 5
  · exact plays_13_5 b r N x w hT ok hW hb0 hr0 hoF hoY c5
  by_cases c6 : x.dd = 6
  · exact plays_13_6 b r N x w hT ok hW hb0 hr0 hoF hoY c6
  by_cases c7 : x.dd = 7
  · exact plays_13_7 b r N x w hT ok hW hb0 hr0 hoF hoY c7
  exact plays_13_o b r N x w hT ok hW hb0 hr0 hoF hoY ⟨c1, c2, c3, c4, c5, c6, c7⟩
end Go.Proofs.YtonbkpfnpnlkpaaDoor

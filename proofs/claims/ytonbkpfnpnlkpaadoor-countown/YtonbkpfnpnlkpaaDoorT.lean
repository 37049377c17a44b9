/-
  The document's answer: what a meta command adds.
-/
import Derived.Test.YtonbkpfnpnlkpaaDoorR
namespace Go.Proofs.YtonbkpfnpnlkpaaDoor
open Go.RowKit
set_option linter.unusedVariables false
set_option linter.unusedSimpArgs false
attribute [local go_sem] Oper.semAt_some

def rhead (why : List Int) : List Nat := match why with | [] => [] | y :: _ => rkey y
/-- What a meta command adds, by the document. -/
def rmeta (v ak : Int) (cd : Bs) (fl : List Fl) (why : List Int) : List Nat :=
  if v = 20 then [5] ++ rhead why
  else if v = 21 then [5] ++ [2] ++ (if cd = [72, 68] then [24] ++ (if (fnd fl 67).isSome then [16] else []) else if cd = [69, 88] then (if (fnd fl 67).isSome then [17] else []) else if cd = [78, 70] then (if (fnd fl 67).isSome then [18] else []) else [])
  else if v = 22 then [5] ++ rby why (cd == [69, 88]) 10 11
  else if v = 23 then [5] ++ (if away fl then rby why (cd == [69, 88] || ak == 11) 14 15 else rby why (cd == [69, 88] || ak == 11) 12 13)
  else [5]
theorem rby_len (why : List Int) (b : Bool) (h m : Nat) : (rby why b h m).length ≤ 1 := by unfold rby; split; simp; split; simp; split <;> simp
set_option maxRecDepth 100000 in
set_option maxHeartbeats 4000000 in
theorem meta_43_24 (c : Cm) (a : An) (y : Value) (fl : List Fl) (why : List Int) (w : World) (ha : a.Ok) (hm : Flgs w c.mt fl) (hy : Ints w y why) (hv : c.verb = 24) : TellsL 43 #[cmV c, anV a, y] w (rmeta 24 a.kind (code a) fl why) := by
  unfold TellsL
  have h66 := fun W => code_66 a ha W
  generalize code a = cd at *
  obtain ⟨ak, en, nu, tx, st⟩ := a
  obtain ⟨⟨x1, n1, c1, e1⟩, ⟨n2, e2⟩, ⟨x3, n3, c3, e3⟩, hl⟩ := ha
  simp only at e1 e2 e3 hl
  subst e1 e2 e3
  obtain ⟨vb, ka, kn, kc, fl1, ex, tk, de, da, dn, dc, nr, lg, ma, mn, mc, what⟩ := c
  simp only [Cm.mt] at *
  subst hv
  simp only [anV] at h66
  have g1 := World.grownBy_alloc w (.cells (cmA ⟨24, ka, kn, kc, fl1, ex, tk, de, da, dn, dc, nr, lg, ma, mn, mc, what⟩) 35) none
  have g2 := World.grownBy_alloc (w.alloc (.cells (cmA ⟨24, ka, kn, kc, fl1, ex, tk, de, da, dn, dc, nr, lg, ma, mn, mc, what⟩) 35)) (.cells (anA ⟨ak, .slice x1 n1 c1, .int .u64 n2, tx, .slice x3 n3 c3⟩) 39) none
  have b1 := (Box.new w 35 (cmA ⟨24, ka, kn, kc, fl1, ex, tk, de, da, dn, dc, nr, lg, ma, mn, mc, what⟩)).kept g2 (by simp)
  have b2 := Box.new (w.alloc (.cells (cmA ⟨24, ka, kn, kc, fl1, ex, tk, de, da, dn, dc, nr, lg, ma, mn, mc, what⟩) 35)) 39 (anA ⟨ak, .slice x1 n1 c1, .int .u64 n2, tx, .slice x3 n3 c3⟩)
  rw [show (w.alloc (.cells (cmA ⟨24, ka, kn, kc, fl1, ex, tk, de, da, dn, dc, nr, lg, ma, mn, mc, what⟩) 35)).heap.size = w.heap.size + 1 from by simp] at b2
  have g := gb_trans g1 g2
  generalize hW : ((w.alloc (.cells (cmA ⟨24, ka, kn, kc, fl1, ex, tk, de, da, dn, dc, nr, lg, ma, mn, mc, what⟩) 35)).alloc (.cells (anA ⟨ak, .slice x1 n1 c1, .int .u64 n2, tx, .slice x3 n3 c3⟩) 39)) = W2 at *
  have og : Gw W2 (W2.alloc (.cells #[.int .i64 5] 3)) (.slice (some ⟨W2.heap.size, 0, none⟩) 1 1) [5] := ⟨Ow.new W2 [5] _ rfl (by simp), World.grownBy_alloc W2 _ none⟩
  have hgs := g.size
  have P0 : W2.cell? ⟨w.heap.size, 0, none⟩ = some (.int .i64 24) := b1.cell 0
  have P9 : W2.cell? ⟨w.heap.size, 9, none⟩ = some (.slice ma mn mc) := b1.cell 9
  have Q0 : W2.cell? ⟨w.heap.size + 1, 0, none⟩ = some (.int .i64 ak) := b2.cell 0
  have M0 := hm.kept (Kp.of (F := fun _ => False) g) (fun _ _ _ _ _ h => h)
  have Y0 := hy.kept (Kp.of (F := fun _ => False) g) (fun _ _ _ _ _ h => h)
  have z2 : ∀ i, W2.cell? ⟨w.heap.size + 1, i, none⟩ = (anA ⟨ak, .slice x1 n1 c1, .int .u64 n2, tx, .slice x3 n3 c3⟩)[i]? := fun i => b2.cell i
  have A0 := gb_cellN og.gb ((z2 0).trans (show _ = some (.int .i64 ak) from rfl))
  have A1 := gb_cellN og.gb ((z2 1).trans (show _ = some (.slice x1 n1 c1) from rfl))
  have A2 := gb_cellN og.gb ((z2 2).trans (show _ = some (.int .u64 n2) from rfl))
  have A3 := gb_cellN og.gb ((z2 3).trans (show _ = some (sv tx) from rfl))
  have A4 := gb_cellN og.gb ((z2 4).trans (show _ = some (.slice x3 n3 c3) from rfl))
  clear z2
  go_enter Tryd.func43, Tryd.ntmps43
  go_wp2_with (go_at_call 66; (with_reducible refine (h66 _).mono ?_); rintro e w0 ⟨rfl, hg0⟩; (have o0 := og.grown hg0); (have p0 := gb_cellN o0.gb P0); (have p9 := gb_cellN o0.gb P9); (have q0 := gb_cellN o0.gb Q0); (have y0 := Y0.kept (Kp.of (F := fun _ => False) o0.gb) (fun _ _ _ _ _ h => h)); clear h66)
  go_ret
  exact ⟨_, rfl, o0.ow.base hgs, gb_trans g o0.gb⟩
set_option maxRecDepth 100000 in
set_option maxHeartbeats 4000000 in
theorem meta_43_20 (c : Cm) (a : An) (y : Value) (fl : List Fl) (why : List Int) (w : World) (ha : a.Ok) (hm : Flgs w c.mt fl) (hy : Ints w y why) (hv : c.verb = 20) : TellsL 43 #[cmV c, anV a, y] w (rmeta 20 a.kind (code a) fl why) := by
  unfold TellsL
  have h66 := fun W => code_66 a ha W
  generalize code a = cd at *
  obtain ⟨ak, en, nu, tx, st⟩ := a
  obtain ⟨⟨x1, n1, c1, e1⟩, ⟨n2, e2⟩, ⟨x3, n3, c3, e3⟩, hl⟩ := ha
  simp only at e1 e2 e3 hl
  subst e1 e2 e3
  obtain ⟨vb, ka, kn, kc, fl1, ex, tk, de, da, dn, dc, nr, lg, ma, mn, mc, what⟩ := c
  simp only [Cm.mt] at *
  subst hv
  simp only [anV] at h66
  have g1 := World.grownBy_alloc w (.cells (cmA ⟨20, ka, kn, kc, fl1, ex, tk, de, da, dn, dc, nr, lg, ma, mn, mc, what⟩) 35) none
  have g2 := World.grownBy_alloc (w.alloc (.cells (cmA ⟨20, ka, kn, kc, fl1, ex, tk, de, da, dn, dc, nr, lg, ma, mn, mc, what⟩) 35)) (.cells (anA ⟨ak, .slice x1 n1 c1, .int .u64 n2, tx, .slice x3 n3 c3⟩) 39) none
  have b1 := (Box.new w 35 (cmA ⟨20, ka, kn, kc, fl1, ex, tk, de, da, dn, dc, nr, lg, ma, mn, mc, what⟩)).kept g2 (by simp)
  have b2 := Box.new (w.alloc (.cells (cmA ⟨20, ka, kn, kc, fl1, ex, tk, de, da, dn, dc, nr, lg, ma, mn, mc, what⟩) 35)) 39 (anA ⟨ak, .slice x1 n1 c1, .int .u64 n2, tx, .slice x3 n3 c3⟩)
  rw [show (w.alloc (.cells (cmA ⟨20, ka, kn, kc, fl1, ex, tk, de, da, dn, dc, nr, lg, ma, mn, mc, what⟩) 35)).heap.size = w.heap.size + 1 from by simp] at b2
  have g := gb_trans g1 g2
  generalize hW : ((w.alloc (.cells (cmA ⟨20, ka, kn, kc, fl1, ex, tk, de, da, dn, dc, nr, lg, ma, mn, mc, what⟩) 35)).alloc (.cells (anA ⟨ak, .slice x1 n1 c1, .int .u64 n2, tx, .slice x3 n3 c3⟩) 39)) = W2 at *
  have og : Gw W2 (W2.alloc (.cells #[.int .i64 5] 3)) (.slice (some ⟨W2.heap.size, 0, none⟩) 1 1) [5] := ⟨Ow.new W2 [5] _ rfl (by simp), World.grownBy_alloc W2 _ none⟩
  have hgs := g.size
  have P0 : W2.cell? ⟨w.heap.size, 0, none⟩ = some (.int .i64 20) := b1.cell 0
  have P9 : W2.cell? ⟨w.heap.size, 9, none⟩ = some (.slice ma mn mc) := b1.cell 9
  have Q0 : W2.cell? ⟨w.heap.size + 1, 0, none⟩ = some (.int .i64 ak) := b2.cell 0
  have M0 := hm.kept (Kp.of (F := fun _ => False) g) (fun _ _ _ _ _ h => h)
  have Y0 := hy.kept (Kp.of (F := fun _ => False) g) (fun _ _ _ _ _ h => h)
  have z2 : ∀ i, W2.cell? ⟨w.heap.size + 1, i, none⟩ = (anA ⟨ak, .slice x1 n1 c1, .int .u64 n2, tx, .slice x3 n3 c3⟩)[i]? := fun i => b2.cell i
  have A0 := gb_cellN og.gb ((z2 0).trans (show _ = some (.int .i64 ak) from rfl))
  have A1 := gb_cellN og.gb ((z2 1).trans (show _ = some (.slice x1 n1 c1) from rfl))
  have A2 := gb_cellN og.gb ((z2 2).trans (show _ = some (.int .u64 n2) from rfl))
  have A3 := gb_cellN og.gb ((z2 3).trans (show _ = some (sv tx) from rfl))
  have A4 := gb_cellN og.gb ((z2 4).trans (show _ = some (.slice x3 n3 c3) from rfl))
  clear z2
  have hy2 := hy
  obtain ⟨ao, cp, rfl, hlc, hcp, hxx⟩ := hy2
  unfold maxLen at hcp
  have hwl : why.length ≤ 9223372036854775807 := by omega
  rcases (by omega : why.length = 0 ∨ 0 < why.length) with hw0 | hw0
  · have hw1 : why = [] := List.eq_nil_of_length_eq_zero hw0
    subst hw1
    go_enter Tryd.func43, Tryd.ntmps43
    go_wp2_with (go_at_call 66; (with_reducible refine (h66 _).mono ?_); rintro e w0 ⟨rfl, hg0⟩; (have o0 := og.grown hg0); (have p0 := gb_cellN o0.gb P0); (have p9 := gb_cellN o0.gb P9); (have q0 := gb_cellN o0.gb Q0); (have y0 := Y0.kept (Kp.of (F := fun _ => False) o0.gb) (fun _ _ _ _ _ h => h)); clear h66)
    go_ret
    exact ⟨_, rfl, o0.ow.base hgs, gb_trans g o0.gb⟩
  · obtain ⟨z, zs, rfl⟩ : ∃ z zs, why = z :: zs := by cases why with | nil => simp at hw0 | cons z zs => exact ⟨z, zs, rfl⟩
    obtain ⟨gy, oy, rfl, hcy⟩ := hxx 0 z rfl
    simp only [List.length_cons, Nat.add_zero] at *
    have d2 : (0 : Int) < (zs.length : Int) + 1 := by omega
    have h67 := fun X => asKey_67 z X
    unfold TellsL at h67
    have hf3 := rkey_len z
    go_enter Tryd.func43, Tryd.ntmps43
    go_wp2_with (go_at_call 66; (with_reducible refine (h66 _).mono ?_); rintro e w0 ⟨rfl, hg0⟩; (have o0 := og.grown hg0); (have p0 := gb_cellN o0.gb P0); (have p9 := gb_cellN o0.gb P9); (have q0 := gb_cellN o0.gb Q0); (have y0 := Y0.kept (Kp.of (F := fun _ => False) o0.gb) (fun _ _ _ _ _ h => h)); (have hc0 := gb_cellN (gb_trans g o0.gb) hcy); clear h66)
    refine (h67 _).mono ?_
    rintro e w1 ⟨v1, rfl, ho, hg⟩
    have p1 := o0.grown hg
    go_wp2_with (at_builtin; (refine moreC rfl _ _ rfl _ _ (by rfl) p1 _ _ _ (by rfl) ho (by simp; omega) ?_); intro v2 w2 o2)
    go_ret
    exact ⟨_, rfl, o2.ow.base hgs, gb_trans g o2.gb⟩
set_option maxRecDepth 100000 in
set_option maxHeartbeats 4000000 in
theorem meta_43_22 (c : Cm) (a : An) (y : Value) (fl : List Fl) (why : List Int) (w : World) (ha : a.Ok) (hm : Flgs w c.mt fl) (hy : Ints w y why) (hv : c.verb = 22) : TellsL 43 #[cmV c, anV a, y] w (rmeta 22 a.kind (code a) fl why) := by
  unfold TellsL
  have h66 := fun W => code_66 a ha W
  generalize code a = cd at *
  obtain ⟨ak, en, nu, tx, st⟩ := a
  obtain ⟨⟨x1, n1, c1, e1⟩, ⟨n2, e2⟩, ⟨x3, n3, c3, e3⟩, hl⟩ := ha
  simp only at e1 e2 e3 hl
  subst e1 e2 e3
  obtain ⟨vb, ka, kn, kc, fl1, ex, tk, de, da, dn, dc, nr, lg, ma, mn, mc, what⟩ := c
  simp only [Cm.mt] at *
  subst hv
  simp only [anV] at h66
  have g1 := World.grownBy_alloc w (.cells (cmA ⟨22, ka, kn, kc, fl1, ex, tk, de, da, dn, dc, nr, lg, ma, mn, mc, what⟩) 35) none
  have g2 := World.grownBy_alloc (w.alloc (.cells (cmA ⟨22, ka, kn, kc, fl1, ex, tk, de, da, dn, dc, nr, lg, ma, mn, mc, what⟩) 35)) (.cells (anA ⟨ak, .slice x1 n1 c1, .int .u64 n2, tx, .slice x3 n3 c3⟩) 39) none
  have b1 := (Box.new w 35 (cmA ⟨22, ka, kn, kc, fl1, ex, tk, de, da, dn, dc, nr, lg, ma, mn, mc, what⟩)).kept g2 (by simp)
  have b2 := Box.new (w.alloc (.cells (cmA ⟨22, ka, kn, kc, fl1, ex, tk, de, da, dn, dc, nr, lg, ma, mn, mc, what⟩) 35)) 39 (anA ⟨ak, .slice x1 n1 c1, .int .u64 n2, tx, .slice x3 n3 c3⟩)
  rw [show (w.alloc (.cells (cmA ⟨22, ka, kn, kc, fl1, ex, tk, de, da, dn, dc, nr, lg, ma, mn, mc, what⟩) 35)).heap.size = w.heap.size + 1 from by simp] at b2
  have g := gb_trans g1 g2
  generalize hW : ((w.alloc (.cells (cmA ⟨22, ka, kn, kc, fl1, ex, tk, de, da, dn, dc, nr, lg, ma, mn, mc, what⟩) 35)).alloc (.cells (anA ⟨ak, .slice x1 n1 c1, .int .u64 n2, tx, .slice x3 n3 c3⟩) 39)) = W2 at *
  have og : Gw W2 (W2.alloc (.cells #[.int .i64 5] 3)) (.slice (some ⟨W2.heap.size, 0, none⟩) 1 1) [5] := ⟨Ow.new W2 [5] _ rfl (by simp), World.grownBy_alloc W2 _ none⟩
  have hgs := g.size
  have P0 : W2.cell? ⟨w.heap.size, 0, none⟩ = some (.int .i64 22) := b1.cell 0
  have P9 : W2.cell? ⟨w.heap.size, 9, none⟩ = some (.slice ma mn mc) := b1.cell 9
  have Q0 : W2.cell? ⟨w.heap.size + 1, 0, none⟩ = some (.int .i64 ak) := b2.cell 0
  have M0 := hm.kept (Kp.of (F := fun _ => False) g) (fun _ _ _ _ _ h => h)
  have Y0 := hy.kept (Kp.of (F := fun _ => False) g) (fun _ _ _ _ _ h => h)
  have z2 : ∀ i, W2.cell? ⟨w.heap.size + 1, i, none⟩ = (anA ⟨ak, .slice x1 n1 c1, .int .u64 n2, tx, .slice x3 n3 c3⟩)[i]? := fun i => b2.cell i
  have h69 := fun X (hX : Ints X y why) => by_69 y why (cd == [69, 88]) 10 11 10 11 rfl rfl X hX
  unfold TellsL at h69
  have hf3 := rby_len why (cd == [69, 88]) 10 11
  have A0 := gb_cellN og.gb ((z2 0).trans (show _ = some (.int .i64 ak) from rfl))
  have A1 := gb_cellN og.gb ((z2 1).trans (show _ = some (.slice x1 n1 c1) from rfl))
  have A2 := gb_cellN og.gb ((z2 2).trans (show _ = some (.int .u64 n2) from rfl))
  have A3 := gb_cellN og.gb ((z2 3).trans (show _ = some (sv tx) from rfl))
  have A4 := gb_cellN og.gb ((z2 4).trans (show _ = some (.slice x3 n3 c3) from rfl))
  clear z2
  go_enter Tryd.func43, Tryd.ntmps43
  go_wp2_with (go_at_call 66; (with_reducible refine (h66 _).mono ?_); rintro e w0 ⟨rfl, hg0⟩; (have o0 := og.grown hg0); (have p0 := gb_cellN o0.gb P0); (have p9 := gb_cellN o0.gb P9); (have q0 := gb_cellN o0.gb Q0); (have y0 := Y0.kept (Kp.of (F := fun _ => False) o0.gb) (fun _ _ _ _ _ h => h)); clear h66)
  refine (h69 _ y0).mono ?_
  rintro e w1 ⟨v1, rfl, ho, hg⟩
  have p1 := o0.grown hg
  go_wp2_with (at_builtin; (refine moreC rfl _ _ rfl _ _ (by rfl) p1 _ _ _ (by rfl) ho (by simp; omega) ?_); intro v2 w2 o2)
  go_ret
  exact ⟨_, rfl, o2.ow.base hgs, gb_trans g o2.gb⟩
set_option maxRecDepth 100000 in
set_option maxHeartbeats 4000000 in
theorem meta_43_21 (c : Cm) (a : An) (y : Value) (fl : List Fl) (why : List Int) (w : World) (ha : a.Ok) (hm : Flgs w c.mt fl) (hy : Ints w y why) (hv : c.verb = 21) : TellsL 43 #[cmV c, anV a, y] w (rmeta 21 a.kind (code a) fl why) := by
  unfold TellsL
  have h66 := fun W => code_66 a ha W
  generalize code a = cd at *
  obtain ⟨ak, en, nu, tx, st⟩ := a
  obtain ⟨⟨x1, n1, c1, e1⟩, ⟨n2, e2⟩, ⟨x3, n3, c3, e3⟩, hl⟩ := ha
  simp only at e1 e2 e3 hl
  subst e1 e2 e3
  obtain ⟨vb, ka, kn, kc, fl1, ex, tk, de, da, dn, dc, nr, lg, ma, mn, mc, what⟩ := c
  simp only [Cm.mt] at *
  subst hv
  simp only [anV] at h66
  have g1 := World.grownBy_alloc w (.cells (cmA ⟨21, ka, kn, kc, fl1, ex, tk, de, da, dn, dc, nr, lg, ma, mn, mc, what⟩) 35) none
  have g2 := World.grownBy_alloc (w.alloc (.cells (cmA ⟨21, ka, kn, kc, fl1, ex, tk, de, da, dn, dc, nr, lg, ma, mn, mc, what⟩) 35)) (.cells (anA ⟨ak, .slice x1 n1 c1, .int .u64 n2, tx, .slice x3 n3 c3⟩) 39) none
  have b1 := (Box.new w 35 (cmA ⟨21, ka, kn, kc, fl1, ex, tk, de, da, dn, dc, nr, lg, ma, mn, mc, what⟩)).kept g2 (by simp)
  have b2 := Box.new (w.alloc (.cells (cmA ⟨21, ka, kn, kc, fl1, ex, tk, de, da, dn, dc, nr, lg, ma, mn, mc, what⟩) 35)) 39 (anA ⟨ak, .slice x1 n1 c1, .int .u64 n2, tx, .slice x3 n3 c3⟩)
  rw [show (w.alloc (.cells (cmA ⟨21, ka, kn, kc, fl1, ex, tk, de, da, dn, dc, nr, lg, ma, mn, mc, what⟩) 35)).heap.size = w.heap.size + 1 from by simp] at b2
  have g := gb_trans g1 g2
  generalize hW : ((w.alloc (.cells (cmA ⟨21, ka, kn, kc, fl1, ex, tk, de, da, dn, dc, nr, lg, ma, mn, mc, what⟩) 35)).alloc (.cells (anA ⟨ak, .slice x1 n1 c1, .int .u64 n2, tx, .slice x3 n3 c3⟩) 39)) = W2 at *
  have og : Gw W2 (W2.alloc (.cells #[.int .i64 5] 3)) (.slice (some ⟨W2.heap.size, 0, none⟩) 1 1) [5] := ⟨Ow.new W2 [5] _ rfl (by simp), World.grownBy_alloc W2 _ none⟩
  have hgs := g.size
  have P0 : W2.cell? ⟨w.heap.size, 0, none⟩ = some (.int .i64 21) := b1.cell 0
  have P9 : W2.cell? ⟨w.heap.size, 9, none⟩ = some (.slice ma mn mc) := b1.cell 9
  have Q0 : W2.cell? ⟨w.heap.size + 1, 0, none⟩ = some (.int .i64 ak) := b2.cell 0
  have M0 := hm.kept (Kp.of (F := fun _ => False) g) (fun _ _ _ _ _ h => h)
  have Y0 := hy.kept (Kp.of (F := fun _ => False) g) (fun _ _ _ _ _ h => h)
  have z2 : ∀ i, W2.cell? ⟨w.heap.size + 1, i, none⟩ = (anA ⟨ak, .slice x1 n1 c1, .int .u64 n2, tx, .slice x3 n3 c3⟩)[i]? := fun i => b2.cell i
  obtain ⟨f, hf⟩ : ∃ f, ((fnd fl 67).getD fl0).arg = f := ⟨_, rfl⟩
  obtain ⟨s, hs⟩ : ∃ s, (fnd fl 67).isSome = s := ⟨_, rfl⟩
  have h68 := fun X (hX : Flgs X (.slice ma mn mc) fl) => has_68 _ fl 67 X hX
  rw [hf, hs, show ((67 : UInt8).toNat : Int) = 67 from rfl] at h68
  have hE : rmeta 21 ak cd fl why = [5] ++ [2] ++ (if cd = [72, 68] then [24] ++ (if s then [16] else []) else if cd = [69, 88] then (if s then [17] else []) else if cd = [78, 70] then (if s then [18] else []) else []) := by rw [← hs]; rfl
  clear hf hs
  have A0 := gb_cellN og.gb ((z2 0).trans (show _ = some (.int .i64 ak) from rfl))
  have A1 := gb_cellN og.gb ((z2 1).trans (show _ = some (.slice x1 n1 c1) from rfl))
  have A2 := gb_cellN og.gb ((z2 2).trans (show _ = some (.int .u64 n2) from rfl))
  have A3 := gb_cellN og.gb ((z2 3).trans (show _ = some (sv tx) from rfl))
  have A4 := gb_cellN og.gb ((z2 4).trans (show _ = some (.slice x3 n3 c3) from rfl))
  clear z2
  rcases (by by_cases h1 : cd = [72, 68]; exact .inl h1; by_cases h2 : cd = [69, 88]; exact .inr (.inl h2); by_cases h3 : cd = [78, 70]; exact .inr (.inr (.inl h3)); exact .inr (.inr (.inr ⟨h1, h2, h3⟩)) : cd = [72, 68] ∨ cd = [69, 88] ∨ cd = [78, 70] ∨ (¬ cd = [72, 68] ∧ ¬ cd = [69, 88] ∧ ¬ cd = [78, 70])) with rfl | rfl | rfl | ⟨h1, h2, h3⟩
  · cases s
    · go_enter Tryd.func43, Tryd.ntmps43
      go_wp2_with (first | (at_builtin; (refine moreL rfl _ _ rfl _ _ (by rfl) o1 [24] _ rfl (by rfl) (by simp) (by simp) ?_); intro v2 w2 o2) | (at_builtin; (refine moreL rfl _ _ rfl _ _ (by rfl) o0 [2] _ rfl (by rfl) (by simp) (by simp) ?_); intro v1 w1 o1; (have r9 := gb_cellN o1.gb P9); (have m1 := M0.kept (Kp.of (F := fun _ => False) o1.gb) (fun _ _ _ _ _ h => h))) | (go_at_call 68; (with_reducible refine (h68 _ m1).mono ?_); rintro e wh ⟨rfl, hh⟩; (have hh2 := hh.symm); subst hh2) | (go_at_call 66; (with_reducible refine (h66 _).mono ?_); rintro e w0 ⟨rfl, hg0⟩; (have o0 := og.grown hg0); (have p0 := gb_cellN o0.gb P0); (have p9 := gb_cellN o0.gb P9); (have q0 := gb_cellN o0.gb Q0); (have y0 := Y0.kept (Kp.of (F := fun _ => False) o0.gb) (fun _ _ _ _ _ h => h)); clear h66))
      go_ret
      exact ⟨_, rfl, by rw [hE]; exact (o2.ow.base hgs), gb_trans g o2.gb⟩
    · go_enter Tryd.func43, Tryd.ntmps43
      go_wp2_with (first | (at_builtin; (refine moreL rfl _ _ rfl _ _ (by rfl) o2 [16] _ rfl (by rfl) (by simp) (by simp) ?_); intro v3 w3 o3) | (at_builtin; (refine moreL rfl _ _ rfl _ _ (by rfl) o1 [24] _ rfl (by rfl) (by simp) (by simp) ?_); intro v2 w2 o2) | (at_builtin; (refine moreL rfl _ _ rfl _ _ (by rfl) o0 [2] _ rfl (by rfl) (by simp) (by simp) ?_); intro v1 w1 o1; (have r9 := gb_cellN o1.gb P9); (have m1 := M0.kept (Kp.of (F := fun _ => False) o1.gb) (fun _ _ _ _ _ h => h))) | (go_at_call 68; (with_reducible refine (h68 _ m1).mono ?_); rintro e wh ⟨rfl, hh⟩; (have hh2 := hh.symm); subst hh2) | (go_at_call 66; (with_reducible refine (h66 _).mono ?_); rintro e w0 ⟨rfl, hg0⟩; (have o0 := og.grown hg0); (have p0 := gb_cellN o0.gb P0); (have p9 := gb_cellN o0.gb P9); (have q0 := gb_cellN o0.gb Q0); (have y0 := Y0.kept (Kp.of (F := fun _ => False) o0.gb) (fun _ _ _ _ _ h => h)); clear h66))
      go_ret
      exact ⟨_, rfl, by rw [hE]; exact (o3.ow.base hgs), gb_trans g o3.gb⟩
  · cases s
    · go_enter Tryd.func43, Tryd.ntmps43
      go_wp2_with (first | (at_builtin; (refine moreL rfl _ _ rfl _ _ (by rfl) o0 [2] _ rfl (by rfl) (by simp) (by simp) ?_); intro v1 w1 o1; (have r9 := gb_cellN o1.gb P9); (have m1 := M0.kept (Kp.of (F := fun _ => False) o1.gb) (fun _ _ _ _ _ h => h))) | (go_at_call 68; (with_reducible refine (h68 _ m1).mono ?_); rintro e wh ⟨rfl, hh⟩; (have hh2 := hh.symm); subst hh2) | (go_at_call 66; (with_reducible refine (h66 _).mono ?_); rintro e w0 ⟨rfl, hg0⟩; (have o0 := og.grown hg0); (have p0 := gb_cellN o0.gb P0); (have p9 := gb_cellN o0.gb P9); (have q0 := gb_cellN o0.gb Q0); (have y0 := Y0.kept (Kp.of (F := fun _ => False) o0.gb) (fun _ _ _ _ _ h => h)); clear h66))
      go_ret
      exact ⟨_, rfl, by rw [hE]; exact (o1.ow.base hgs), gb_trans g o1.gb⟩
    · go_enter Tryd.func43, Tryd.ntmps43
      go_wp2_with (first | (at_builtin; (refine moreL rfl _ _ rfl _ _ (by rfl) o1 [17] _ rfl (by rfl) (by simp) (by simp) ?_); intro v2 w2 o2) | (at_builtin; (refine moreL rfl _ _ rfl _ _ (by rfl) o0 [2] _ rfl (by rfl) (by simp) (by simp) ?_); intro v1 w1 o1; (have r9 := gb_cellN o1.gb P9); (have m1 := M0.kept (Kp.of (F := fun _ => False) o1.gb) (fun _ _ _ _ _ h => h))) | (go_at_call 68; (with_reducible refine (h68 _ m1).mono ?_); rintro e wh ⟨rfl, hh⟩; (have hh2 := hh.symm); subst hh2) | (go_at_call 66; (with_reducible refine (h66 _).mono ?_); rintro e w0 ⟨rfl, hg0⟩; (have o0 := og.grown hg0); (have p0 := gb_cellN o0.gb P0); (have p9 := gb_cellN o0.gb P9); (have q0 := gb_cellN o0.gb Q0); (have y0 := Y0.kept (Kp.of (F := fun _ => False) o0.gb) (fun _ _ _ _ _ h => h)); clear h66))
      go_ret
      exact ⟨_, rfl, by rw [hE]; exact (o2.ow.base hgs), gb_trans g o2.gb⟩
  · cases s
    · go_enter Tryd.func43, Tryd.ntmps43
      go_wp2_with (first | (at_builtin; (refine moreL rfl _ _ rfl _ _ (by rfl) o0 [2] _ rfl (by rfl) (by simp) (by simp) ?_); intro v1 w1 o1; (have r9 := gb_cellN o1.gb P9); (have m1 := M0.kept (Kp.of (F := fun _ => False) o1.gb) (fun _ _ _ _ _ h => h))) | (go_at_call 68; (with_reducible refine (h68 _ m1).mono ?_); rintro e wh ⟨rfl, hh⟩; (have hh2 := hh.symm); subst hh2) | (go_at_call 66; (with_reducible refine (h66 _).mono ?_); rintro e w0 ⟨rfl, hg0⟩; (have o0 := og.grown hg0); (have p0 := gb_cellN o0.gb P0); (have p9 := gb_cellN o0.gb P9); (have q0 := gb_cellN o0.gb Q0); (have y0 := Y0.kept (Kp.of (F := fun _ => False) o0.gb) (fun _ _ _ _ _ h => h)); clear h66))
      go_ret
      exact ⟨_, rfl, by rw [hE]; exact (o1.ow.base hgs), gb_trans g o1.gb⟩
    · go_enter Tryd.func43, Tryd.ntmps43
      go_wp2_with (first | (at_builtin; (refine moreL rfl _ _ rfl _ _ (by rfl) o1 [18] _ rfl (by rfl) (by simp) (by simp) ?_); intro v2 w2 o2) | (at_builtin; (refine moreL rfl _ _ rfl _ _ (by rfl) o0 [2] _ rfl (by rfl) (by simp) (by simp) ?_); intro v1 w1 o1; (have r9 := gb_cellN o1.gb P9); (have m1 := M0.kept (Kp.of (F := fun _ => False) o1.gb) (fun _ _ _ _ _ h => h))) | (go_at_call 68; (with_reducible refine (h68 _ m1).mono ?_); rintro e wh ⟨rfl, hh⟩; (have hh2 := hh.symm); subst hh2) | (go_at_call 66; (with_reducible refine (h66 _).mono ?_); rintro e w0 ⟨rfl, hg0⟩; (have o0 := og.grown hg0); (have p0 := gb_cellN o0.gb P0); (have p9 := gb_cellN o0.gb P9); (have q0 := gb_cellN o0.gb Q0); (have y0 := Y0.kept (Kp.of (F := fun _ => False) o0.gb) (fun _ _ _ _ _ h => h)); clear h66))
      go_ret
      exact ⟨_, rfl, by rw [hE]; exact (o2.ow.base hgs), gb_trans g o2.gb⟩
  · have q1 : (cd == [72, 68]) = false := by simp [h1]
    have q2 : (cd == [69, 88]) = false := by simp [h2]
    have q3 : (cd == [78, 70]) = false := by simp [h3]
    cases s
    · go_enter Tryd.func43, Tryd.ntmps43
      go_wp2_with (first | (at_builtin; (refine moreL rfl _ _ rfl _ _ (by rfl) o0 [2] _ rfl (by rfl) (by simp) (by simp) ?_); intro v1 w1 o1; (have r9 := gb_cellN o1.gb P9); (have m1 := M0.kept (Kp.of (F := fun _ => False) o1.gb) (fun _ _ _ _ _ h => h))) | (go_at_call 68; (with_reducible refine (h68 _ m1).mono ?_); rintro e wh ⟨rfl, hh⟩; (have hh2 := hh.symm); subst hh2) | (go_at_call 66; (with_reducible refine (h66 _).mono ?_); rintro e w0 ⟨rfl, hg0⟩; (have o0 := og.grown hg0); (have p0 := gb_cellN o0.gb P0); (have p9 := gb_cellN o0.gb P9); (have q0 := gb_cellN o0.gb Q0); (have y0 := Y0.kept (Kp.of (F := fun _ => False) o0.gb) (fun _ _ _ _ _ h => h)); clear h66))
      go_ret
      exact ⟨_, rfl, by rw [hE, if_neg h1, if_neg h2, if_neg h3]; exact (o1.ow.base hgs), gb_trans g o1.gb⟩
    · go_enter Tryd.func43, Tryd.ntmps43
      go_wp2_with (first | (at_builtin; (refine moreL rfl _ _ rfl _ _ (by rfl) o0 [2] _ rfl (by rfl) (by simp) (by simp) ?_); intro v1 w1 o1; (have r9 := gb_cellN o1.gb P9); (have m1 := M0.kept (Kp.of (F := fun _ => False) o1.gb) (fun _ _ _ _ _ h => h))) | (go_at_call 68; (with_reducible refine (h68 _ m1).mono ?_); rintro e wh ⟨rfl, hh⟩; (have hh2 := hh.symm); subst hh2) | (go_at_call 66; (with_reducible refine (h66 _).mono ?_); rintro e w0 ⟨rfl, hg0⟩; (have o0 := og.grown hg0); (have p0 := gb_cellN o0.gb P0); (have p9 := gb_cellN o0.gb P9); (have q0 := gb_cellN o0.gb Q0); (have y0 := Y0.kept (Kp.of (F := fun _ => False) o0.gb) (fun _ _ _ _ _ h => h)); clear h66))
      go_ret
      exact ⟨_, rfl, by rw [hE, if_neg h1, if_neg h2, if_neg h3]; exact (o1.ow.base hgs), gb_trans g o1.gb⟩
set_option maxRecDepth 100000 in
set_option maxHeartbeats 4000000 in
theorem meta_43_23 (c : Cm) (a : An) (y : Value) (fl : List Fl) (why : List Int) (w : World) (ha : a.Ok) (hm : Flgs w c.mt fl) (hy : Ints w y why) (hv : c.verb = 23) : TellsL 43 #[cmV c, anV a, y] w (rmeta 23 a.kind (code a) fl why) := by
  unfold TellsL
  have h66 := fun W => code_66 a ha W
  generalize code a = cd at *
  obtain ⟨ak, en, nu, tx, st⟩ := a
  obtain ⟨⟨x1, n1, c1, e1⟩, ⟨n2, e2⟩, ⟨x3, n3, c3, e3⟩, hl⟩ := ha
  simp only at e1 e2 e3 hl
  subst e1 e2 e3
  obtain ⟨vb, ka, kn, kc, fl1, ex, tk, de, da, dn, dc, nr, lg, ma, mn, mc, what⟩ := c
  simp only [Cm.mt] at *
  subst hv
  simp only [anV] at h66
  have g1 := World.grownBy_alloc w (.cells (cmA ⟨23, ka, kn, kc, fl1, ex, tk, de, da, dn, dc, nr, lg, ma, mn, mc, what⟩) 35) none
  have g2 := World.grownBy_alloc (w.alloc (.cells (cmA ⟨23, ka, kn, kc, fl1, ex, tk, de, da, dn, dc, nr, lg, ma, mn, mc, what⟩) 35)) (.cells (anA ⟨ak, .slice x1 n1 c1, .int .u64 n2, tx, .slice x3 n3 c3⟩) 39) none
  have b1 := (Box.new w 35 (cmA ⟨23, ka, kn, kc, fl1, ex, tk, de, da, dn, dc, nr, lg, ma, mn, mc, what⟩)).kept g2 (by simp)
  have b2 := Box.new (w.alloc (.cells (cmA ⟨23, ka, kn, kc, fl1, ex, tk, de, da, dn, dc, nr, lg, ma, mn, mc, what⟩) 35)) 39 (anA ⟨ak, .slice x1 n1 c1, .int .u64 n2, tx, .slice x3 n3 c3⟩)
  rw [show (w.alloc (.cells (cmA ⟨23, ka, kn, kc, fl1, ex, tk, de, da, dn, dc, nr, lg, ma, mn, mc, what⟩) 35)).heap.size = w.heap.size + 1 from by simp] at b2
  have g := gb_trans g1 g2
  generalize hW : ((w.alloc (.cells (cmA ⟨23, ka, kn, kc, fl1, ex, tk, de, da, dn, dc, nr, lg, ma, mn, mc, what⟩) 35)).alloc (.cells (anA ⟨ak, .slice x1 n1 c1, .int .u64 n2, tx, .slice x3 n3 c3⟩) 39)) = W2 at *
  have og : Gw W2 (W2.alloc (.cells #[.int .i64 5] 3)) (.slice (some ⟨W2.heap.size, 0, none⟩) 1 1) [5] := ⟨Ow.new W2 [5] _ rfl (by simp), World.grownBy_alloc W2 _ none⟩
  have hgs := g.size
  have P0 : W2.cell? ⟨w.heap.size, 0, none⟩ = some (.int .i64 23) := b1.cell 0
  have P9 : W2.cell? ⟨w.heap.size, 9, none⟩ = some (.slice ma mn mc) := b1.cell 9
  have Q0 : W2.cell? ⟨w.heap.size + 1, 0, none⟩ = some (.int .i64 ak) := b2.cell 0
  have M0 := hm.kept (Kp.of (F := fun _ => False) g) (fun _ _ _ _ _ h => h)
  have Y0 := hy.kept (Kp.of (F := fun _ => False) g) (fun _ _ _ _ _ h => h)
  have z2 : ∀ i, W2.cell? ⟨w.heap.size + 1, i, none⟩ = (anA ⟨ak, .slice x1 n1 c1, .int .u64 n2, tx, .slice x3 n3 c3⟩)[i]? := fun i => b2.cell i
  obtain ⟨f, hf⟩ : ∃ f, ((fnd fl 77).getD fl0).arg = f := ⟨_, rfl⟩
  obtain ⟨s, hs⟩ : ∃ s, (fnd fl 77).isSome = s := ⟨_, rfl⟩
  have hfl : f.length ≤ 4611686018427387904 := by
    obtain ⟨ao, c, _, _, _, ha, _⟩ := hm
    subst hf
    cases hF : fnd fl 77 with
    | none => simp [fl0]
    | some f => exact ha f (List.mem_of_find?_eq_some hF)
  have h68 := fun X (hX : Flgs X (.slice ma mn mc) fl) => has_68 _ fl 77 X hX
  have haw : away fl = (f.head? == some 68 || f.head? == some 100) := by rw [← hf]; rfl
  rw [hf, hs, show ((77 : UInt8).toNat : Int) = 77 from rfl] at h68
  obtain ⟨br, hbr⟩ : ∃ br, (cd == [69, 88] || ak == 11) = br := ⟨_, rfl⟩
  have hE : rmeta 23 ak cd fl why = [5] ++ (if (f.head? == some 68 || f.head? == some 100) then rby why br 14 15 else rby why br 12 13) := by rw [← haw, ← hbr]; rfl
  have h69 := fun X (hX : Ints X y why) => by_69 y why br 14 15 14 15 rfl rfl X hX
  have h69b := fun X (hX : Ints X y why) => by_69 y why br 12 13 12 13 rfl rfl X hX
  unfold TellsL at h69 h69b
  have hl1 := rby_len why br 14 15
  have hl2 := rby_len why br 12 13
  clear hf hs haw
  have hcase : (cd == [69, 88]) = true ∧ br = true ∨ (cd == [69, 88]) = false ∧ br = (ak == 11) := by
    subst hbr
    cases hc : (cd == [69, 88])
    · exact .inr ⟨rfl, by simp⟩
    · exact .inl ⟨rfl, by simp⟩
  clear hbr
  have A0 := gb_cellN og.gb ((z2 0).trans (show _ = some (.int .i64 ak) from rfl))
  have A1 := gb_cellN og.gb ((z2 1).trans (show _ = some (.slice x1 n1 c1) from rfl))
  have A2 := gb_cellN og.gb ((z2 2).trans (show _ = some (.int .u64 n2) from rfl))
  have A3 := gb_cellN og.gb ((z2 3).trans (show _ = some (sv tx) from rfl))
  have A4 := gb_cellN og.gb ((z2 4).trans (show _ = some (.slice x3 n3 c3) from rfl))
  clear z2
  rcases hcase with ⟨hq, rfl⟩ | ⟨hq, rfl⟩
  · match f, hfl, hE, h68 with
    | [], _, hE, h68 =>
      go_enter Tryd.func43, Tryd.ntmps43
      go_wp2_with (first | (go_at_call 68; (with_reducible refine (h68 _ m0).mono ?_); rintro e wh ⟨rfl, hh⟩; (have hh2 := hh.symm); subst hh2) | (go_at_call 66; (with_reducible refine (h66 _).mono ?_); rintro e w0 ⟨rfl, hg0⟩; (have o0 := og.grown hg0); (have p0 := gb_cellN o0.gb P0); (have p9 := gb_cellN o0.gb P9); (have q0 := gb_cellN o0.gb Q0); (have y0 := Y0.kept (Kp.of (F := fun _ => False) o0.gb) (fun _ _ _ _ _ h => h)); (have m0 := M0.kept (Kp.of (F := fun _ => False) o0.gb) (fun _ _ _ _ _ h => h)); clear h66))
      refine (h69b _ y0).mono ?_
      rintro e w1 ⟨v1, rfl, ho, hg⟩
      have p1 := o0.grown hg
      go_wp2_with (at_builtin; (refine moreC rfl _ _ rfl _ _ (by rfl) p1 _ _ _ (by rfl) ho (by simp; omega) ?_); intro v2 w2 o2)
      go_ret
      exact ⟨_, rfl, by rw [hE]; exact (o2.ow.base hgs), gb_trans g o2.gb⟩
    | b :: f, hfl, hE, h68 =>
      have hgb0 : ∀ h : 0 < (ByteArray.mk (b :: f).toArray).size, (ByteArray.mk (b :: f).toArray)[0] = b := fun h => ba_get (b :: f) 0 h
      simp only [List.length_cons] at hfl
      have dl : (0 : Int) < (f.length : Int) + 1 := by omega
      by_cases h68b : b = 68
      · subst h68b
        go_enter Tryd.func43, Tryd.ntmps43
        go_wp2_with (first | (go_at_call 68; (with_reducible refine (h68 _ m0).mono ?_); rintro e wh ⟨rfl, hh⟩; (have hh2 := hh.symm); subst hh2) | (go_at_call 66; (with_reducible refine (h66 _).mono ?_); rintro e w0 ⟨rfl, hg0⟩; (have o0 := og.grown hg0); (have p0 := gb_cellN o0.gb P0); (have p9 := gb_cellN o0.gb P9); (have q0 := gb_cellN o0.gb Q0); (have y0 := Y0.kept (Kp.of (F := fun _ => False) o0.gb) (fun _ _ _ _ _ h => h)); (have m0 := M0.kept (Kp.of (F := fun _ => False) o0.gb) (fun _ _ _ _ _ h => h)); clear h66))
        refine (h69 _ y0).mono ?_
        rintro e w1 ⟨v1, rfl, ho, hg⟩
        have p1 := o0.grown hg
        go_wp2_with (at_builtin; (refine moreC rfl _ _ rfl _ _ (by rfl) p1 _ _ _ (by rfl) ho (by simp; omega) ?_); intro v2 w2 o2)
        go_ret
        exact ⟨_, rfl, by rw [hE]; exact (o2.ow.base hgs), gb_trans g o2.gb⟩
      by_cases h100 : b = 100
      · subst h100
        go_enter Tryd.func43, Tryd.ntmps43
        go_wp2_with (first | (go_at_call 68; (with_reducible refine (h68 _ m0).mono ?_); rintro e wh ⟨rfl, hh⟩; (have hh2 := hh.symm); subst hh2) | (go_at_call 66; (with_reducible refine (h66 _).mono ?_); rintro e w0 ⟨rfl, hg0⟩; (have o0 := og.grown hg0); (have p0 := gb_cellN o0.gb P0); (have p9 := gb_cellN o0.gb P9); (have q0 := gb_cellN o0.gb Q0); (have y0 := Y0.kept (Kp.of (F := fun _ => False) o0.gb) (fun _ _ _ _ _ h => h)); (have m0 := M0.kept (Kp.of (F := fun _ => False) o0.gb) (fun _ _ _ _ _ h => h)); clear h66))
        refine (h69 _ y0).mono ?_
        rintro e w1 ⟨v1, rfl, ho, hg⟩
        have p1 := o0.grown hg
        go_wp2_with (at_builtin; (refine moreC rfl _ _ rfl _ _ (by rfl) p1 _ _ _ (by rfl) ho (by simp; omega) ?_); intro v2 w2 o2)
        go_ret
        exact ⟨_, rfl, by rw [hE]; exact (o2.ow.base hgs), gb_trans g o2.gb⟩
      have hE2 : rmeta 23 ak cd fl why = [5] ++ rby why true 12 13 := by rw [hE]; simp [h68b, h100]
      have hb1 : (((b.toNat : Int)) == 68) = false := beq_eq_false_iff_ne.2 fun e => h68b (UInt8.toNat_inj.1 (by simpa using (by omega : b.toNat = 68)))
      have hb2 : (((b.toNat : Int)) == 100) = false := beq_eq_false_iff_ne.2 fun e => h100 (UInt8.toNat_inj.1 (by simpa using (by omega : b.toNat = 100)))
      clear hE
      go_enter Tryd.func43, Tryd.ntmps43
      go_wp2_with (first | (go_at_call 68; (with_reducible refine (h68 _ m0).mono ?_); rintro e wh ⟨rfl, hh⟩; (have hh2 := hh.symm); subst hh2) | (go_at_call 66; (with_reducible refine (h66 _).mono ?_); rintro e w0 ⟨rfl, hg0⟩; (have o0 := og.grown hg0); (have p0 := gb_cellN o0.gb P0); (have p9 := gb_cellN o0.gb P9); (have q0 := gb_cellN o0.gb Q0); (have y0 := Y0.kept (Kp.of (F := fun _ => False) o0.gb) (fun _ _ _ _ _ h => h)); (have m0 := M0.kept (Kp.of (F := fun _ => False) o0.gb) (fun _ _ _ _ _ h => h)); clear h66))
      refine (h69b _ y0).mono ?_
      rintro e w1 ⟨v1, rfl, ho, hg⟩
      have p1 := o0.grown hg
      go_wp2_with (at_builtin; (refine moreC rfl _ _ rfl _ _ (by rfl) p1 _ _ _ (by rfl) ho (by simp; omega) ?_); intro v2 w2 o2)
      go_ret
      exact ⟨_, rfl, by rw [hE2]; exact (o2.ow.base hgs), gb_trans g o2.gb⟩
  · match f, hfl, hE, h68 with
    | [], _, hE, h68 =>
      go_enter Tryd.func43, Tryd.ntmps43
      go_wp2_with (first | (go_at_call 68; (with_reducible refine (h68 _ m0).mono ?_); rintro e wh ⟨rfl, hh⟩; (have hh2 := hh.symm); subst hh2) | (go_at_call 66; (with_reducible refine (h66 _).mono ?_); rintro e w0 ⟨rfl, hg0⟩; (have o0 := og.grown hg0); (have p0 := gb_cellN o0.gb P0); (have p9 := gb_cellN o0.gb P9); (have q0 := gb_cellN o0.gb Q0); (have y0 := Y0.kept (Kp.of (F := fun _ => False) o0.gb) (fun _ _ _ _ _ h => h)); (have m0 := M0.kept (Kp.of (F := fun _ => False) o0.gb) (fun _ _ _ _ _ h => h)); clear h66))
      refine (h69b _ y0).mono ?_
      rintro e w1 ⟨v1, rfl, ho, hg⟩
      have p1 := o0.grown hg
      go_wp2_with (at_builtin; (refine moreC rfl _ _ rfl _ _ (by rfl) p1 _ _ _ (by rfl) ho (by simp; omega) ?_); intro v2 w2 o2)
      go_ret
      exact ⟨_, rfl, by rw [hE]; exact (o2.ow.base hgs), gb_trans g o2.gb⟩
    | b :: f, hfl, hE, h68 =>
      have hgb0 : ∀ h : 0 < (ByteArray.mk (b :: f).toArray).size, (ByteArray.mk (b :: f).toArray)[0] = b := fun h => ba_get (b :: f) 0 h
      simp only [List.length_cons] at hfl
      have dl : (0 : Int) < (f.length : Int) + 1 := by omega
      by_cases h68b : b = 68
      · subst h68b
        go_enter Tryd.func43, Tryd.ntmps43
        go_wp2_with (first | (go_at_call 68; (with_reducible refine (h68 _ m0).mono ?_); rintro e wh ⟨rfl, hh⟩; (have hh2 := hh.symm); subst hh2) | (go_at_call 66; (with_reducible refine (h66 _).mono ?_); rintro e w0 ⟨rfl, hg0⟩; (have o0 := og.grown hg0); (have p0 := gb_cellN o0.gb P0); (have p9 := gb_cellN o0.gb P9); (have q0 := gb_cellN o0.gb Q0); (have y0 := Y0.kept (Kp.of (F := fun _ => False) o0.gb) (fun _ _ _ _ _ h => h)); (have m0 := M0.kept (Kp.of (F := fun _ => False) o0.gb) (fun _ _ _ _ _ h => h)); clear h66))
        refine (h69 _ y0).mono ?_
        rintro e w1 ⟨v1, rfl, ho, hg⟩
        have p1 := o0.grown hg
        go_wp2_with (at_builtin; (refine moreC rfl _ _ rfl _ _ (by rfl) p1 _ _ _ (by rfl) ho (by simp; omega) ?_); intro v2 w2 o2)
        go_ret
        exact ⟨_, rfl, by rw [hE]; exact (o2.ow.base hgs), gb_trans g o2.gb⟩
      by_cases h100 : b = 100
      · subst h100
        go_enter Tryd.func43, Tryd.ntmps43
        go_wp2_with (first | (go_at_call 68; (with_reducible refine (h68 _ m0).mono ?_); rintro e wh ⟨rfl, hh⟩; (have hh2 := hh.symm); subst hh2) | (go_at_call 66; (with_reducible refine (h66 _).mono ?_); rintro e w0 ⟨rfl, hg0⟩; (have o0 := og.grown hg0); (have p0 := gb_cellN o0.gb P0); (have p9 := gb_cellN o0.gb P9); (have q0 := gb_cellN o0.gb Q0); (have y0 := Y0.kept (Kp.of (F := fun _ => False) o0.gb) (fun _ _ _ _ _ h => h)); (have m0 := M0.kept (Kp.of (F := fun _ => False) o0.gb) (fun _ _ _ _ _ h => h)); clear h66))
        refine (h69 _ y0).mono ?_
        rintro e w1 ⟨v1, rfl, ho, hg⟩
        have p1 := o0.grown hg
        go_wp2_with (at_builtin; (refine moreC rfl _ _ rfl _ _ (by rfl) p1 _ _ _ (by rfl) ho (by simp; omega) ?_); intro v2 w2 o2)
        go_ret
        exact ⟨_, rfl, by rw [hE]; exact (o2.ow.base hgs), gb_trans g o2.gb⟩
      have hE2 : rmeta 23 ak cd fl why = [5] ++ rby why (ak == 11) 12 13 := by rw [hE]; simp [h68b, h100]
      have hb1 : (((b.toNat : Int)) == 68) = false := beq_eq_false_iff_ne.2 fun e => h68b (UInt8.toNat_inj.1 (by simpa using (by omega : b.toNat = 68)))
      have hb2 : (((b.toNat : Int)) == 100) = false := beq_eq_false_iff_ne.2 fun e => h100 (UInt8.toNat_inj.1 (by simpa using (by omega : b.toNat = 100)))
      clear hE
      go_enter Tryd.func43, Tryd.ntmps43
      go_wp2_with (first | (go_at_call 68; (with_reducible refine (h68 _ m0).mono ?_); rintro e wh ⟨rfl, hh⟩; (have hh2 := hh.symm); subst hh2) | (go_at_call 66; (with_reducible refine (h66 _).mono ?_); rintro e w0 ⟨rfl, hg0⟩; (have o0 := og.grown hg0); (have p0 := gb_cellN o0.gb P0); (have p9 := gb_cellN o0.gb P9); (have q0 := gb_cellN o0.gb Q0); (have y0 := Y0.kept (Kp.of (F := fun _ => False) o0.gb) (fun _ _ _ _ _ h => h)); (have m0 := M0.kept (Kp.of (F := fun _ => False) o0.gb) (fun _ _ _ _ _ h => h)); clear h66))
      refine (h69b _ y0).mono ?_
      rintro e w1 ⟨v1, rfl, ho, hg⟩
      have p1 := o0.grown hg
      go_wp2_with (at_builtin; (refine moreC rfl _ _ rfl _ _ (by rfl) p1 _ _ _ (by rfl) ho (by simp; omega) ?_); intro v2 w2 o2)
      go_ret
      exact ⟨_, rfl, by rw [hE2]; exact (o2.ow.base hgs), gb_trans g o2.gb⟩
theorem meta_43 (c : Cm) (a : An) (y : Value) (fl : List Fl) (why : List Int) (w : World) (ha : a.Ok) (hm : Flgs w c.mt fl) (hy : Ints w y why) (hv : 20 ≤ c.verb ∧ c.verb ≤ 24) : TellsL 43 #[cmV c, anV a, y] w (rmeta c.verb a.kind (code a) fl why) := by
  rcases (by omega : c.verb = 20 ∨ c.verb = 21 ∨ c.verb = 22 ∨ c.verb = 23 ∨ c.verb = 24) with h | h | h | h | h
  · rw [h]; exact meta_43_20 c a y fl why w ha hm hy h
  · rw [h]; exact meta_43_21 c a y fl why w ha hm hy h
  · rw [h]; exact meta_43_22 c a y fl why w ha hm hy h
  · rw [h]; exact meta_43_23 c a y fl why w ha hm hy h
  · rw [h]; exact meta_43_24 c a y fl why w ha hm hy h
end Go.Proofs.YtonbkpfnpnlkpaaDoor

/-
  The document's board: Command.
-/
import Derived.Test.YtonbkpfnpnlkpaaDoorT
namespace Go.Proofs.YtonbkpfnpnlkpaaDoor
open Go.RowKit
set_option linter.unusedVariables false
set_option linter.unusedSimpArgs false
attribute [local go_sem] Oper.semAt_some

/-- What a command adds beside work and refusals, by the document. -/
def rcmdL (v ak : Int) (cd : Bs) (fl : List Fl) (why : List Int) : List Nat := if 20 ≤ v ∧ v ≤ 24 then rmeta v ak cd fl why else rtext v ak why
def rcmdD (c : Cm) (a : An) (fl : List Fl) (why : List Int) (m : Mt) : Cn :=
  Cn.add (workD m) (dl (wh (a.kind == 11) [23] ++ rcmdL c.verb a.kind (code a) fl why))
/-- What the first i of three numbers add. -/
def wk3 (dr re cr : Int) (i : Nat) : Cn := Cn.add (if 0 < i then sgl 21 dr.toNat else fun _ => 0) (Cn.add (if 1 < i then sgl 22 re.toNat else fun _ => 0) (if 2 < i then sgl 29 cr.toNat else fun _ => 0))
theorem wk3_0 (dr re cr : Int) : wk3 dr re cr 0 = fun _ => 0 := by funext j; simp [wk3, Cn.add]
theorem Cn.add_assoc (A B C : Cn) : Cn.add (Cn.add A B) C = Cn.add A (Cn.add B C) := by funext i; simp only [Cn.add]; omega
theorem wk3_step (N : Cn) (dr re cr : Int) (i n : Nat) (x : Int) (h : (i = 0 ∧ n = 21 ∧ x = dr) ∨ (i = 1 ∧ n = 22 ∧ x = re) ∨ (i = 2 ∧ n = 29 ∧ x = cr)) : plus (plus N (wk3 dr re cr i)) (sgl n x.toNat) = plus N (wk3 dr re cr (i + 1)) := by
  rw [plus_plus]
  congr 1
  funext j
  rcases h with ⟨rfl, rfl, rfl⟩ | ⟨rfl, rfl, rfl⟩ | ⟨rfl, rfl, rfl⟩ <;> simp [wk3, Cn.add]
  omega
theorem wk3_skip (N : Cn) (dr re cr : Int) (i n : Nat) (x : Int) (hx : ¬ 0 < x) (h : (i = 0 ∧ n = 21 ∧ x = dr) ∨ (i = 1 ∧ n = 22 ∧ x = re) ∨ (i = 2 ∧ n = 29 ∧ x = cr)) : plus N (wk3 dr re cr i) = plus N (wk3 dr re cr (i + 1)) := by
  rw [← wk3_step N dr re cr i n x h, plus_plus]
  congr 1
  funext j
  rw [show x.toNat = 0 by omega]
  simp [Cn.add, sgl]
theorem wk3_3 (dr re bu li lo cr : Int) : wk3 dr re cr 3 = workD ⟨dr, re, bu, li, lo, cr⟩ := rfl
theorem nms_nil : Nms [] := by intro n h; simp at h
theorem nms_app {a b : List Nat} (ha : Nms a) (hb : Nms b) : Nms (a ++ b) := by
  intro n h; rcases List.mem_append.1 h with h | h
  · exact ha n h
  · exact hb n h
theorem nms_ite {p : Prop} [Decidable p] {a b : List Nat} (ha : Nms a) (hb : Nms b) : Nms (if p then a else b) := by split; exact ha; exact hb
theorem nms_1 {a : Nat} (h : 1 ≤ a ∧ a ≤ 30) : Nms [a] := by intro n hn; simp at hn; subst hn; exact h
theorem nms_c {a : Nat} {l : List Nat} (h : 1 ≤ a ∧ a ≤ 30) (hl : Nms l) : Nms (a :: l) := by intro n hn; rcases List.mem_cons.1 hn with rfl | hn; exact h; exact hl n hn
theorem rkey_nms (y : Int) : Nms (rkey y) := by
  unfold rkey
  refine nms_ite (nms_c (by omega) (nms_1 (by omega))) (nms_ite (nms_c (by omega) (nms_1 (by omega))) (nms_ite (nms_c (by omega) (nms_c (by omega) (nms_1 (by omega)))) (nms_ite (nms_c (by omega) (nms_c (by omega) (nms_1 (by omega)))) nms_nil)))
theorem rtouch_nms (y : Int) : Nms (rtouch y) := by
  unfold rtouch
  exact nms_ite (nms_c (by omega) (nms_1 (by omega))) (nms_ite (nms_c (by omega) (nms_1 (by omega))) nms_nil)
theorem rby_nms (why : List Int) (b : Bool) (h m : Nat) (hh : 1 ≤ h ∧ h ≤ 30) (hm : 1 ≤ m ∧ m ≤ 30) : Nms (rby why b h m) := by
  unfold rby
  split
  · exact nms_nil
  · exact nms_ite (nms_1 hh) (nms_ite (nms_1 hm) nms_nil)
theorem reither_nms (k g : Int) (h m : Nat) (hh : 1 ≤ h ∧ h ≤ 30) (hm : 1 ≤ m ∧ m ≤ 30) : Nms (reither k g h m) := nms_ite (nms_1 hh) (nms_ite (nms_1 hm) nms_nil)
theorem flat_nms (f : Int → List Nat) (hf : ∀ y, Nms (f y)) (l : List Int) : Nms (l.flatMap f) := by
  intro n h
  obtain ⟨y, _, hy⟩ := List.mem_flatMap.1 h
  exact hf y n hy
theorem rcmdL_names (v ak : Int) (cd : Bs) (fl : List Fl) (why : List Int) : Nms (rcmdL v ak cd fl why) := by
  unfold rcmdL
  refine nms_ite ?_ ?_
  · unfold rmeta
    refine nms_ite (nms_app (nms_1 (by omega)) ?_) (nms_ite (nms_app (nms_app (nms_1 (by omega)) (nms_1 (by omega))) ?_) (nms_ite (nms_app (nms_1 (by omega)) (rby_nms _ _ _ _ (by omega) (by omega))) (nms_ite (nms_app (nms_1 (by omega)) (nms_ite (rby_nms _ _ _ _ (by omega) (by omega)) (rby_nms _ _ _ _ (by omega) (by omega)))) (nms_1 (by omega)))))
    · unfold rhead; split; exact nms_nil; exact rkey_nms _
    · refine nms_ite (nms_app (nms_1 (by omega)) (nms_ite (nms_1 (by omega)) nms_nil)) (nms_ite (nms_ite (nms_1 (by omega)) nms_nil) (nms_ite (nms_ite (nms_1 (by omega)) nms_nil) nms_nil))
  · unfold rtext
    refine nms_ite (flat_nms _ rkey_nms _) (nms_ite (flat_nms _ (fun y => nms_app (rkey_nms y) (rtouch_nms y)) _) (nms_ite (nms_app (nms_1 (by omega)) (nms_ite (nms_1 (by omega)) nms_nil)) (nms_ite (nms_app (nms_1 (by omega)) (nms_ite (nms_c (by omega) (nms_1 (by omega))) (nms_ite (nms_1 (by omega)) (nms_ite (nms_1 (by omega)) nms_nil)))) (nms_ite (reither_nms _ _ _ _ (by omega) (by omega)) (nms_ite (reither_nms _ _ _ _ (by omega) (by omega)) (nms_ite (reither_nms _ _ _ _ (by omega) (by omega)) (nms_ite (nms_app (reither_nms _ _ _ _ (by omega) (by omega)) (nms_1 (by omega))) (nms_ite (nms_1 (by omega)) nms_nil))))))))
set_option maxRecDepth 100000 in
set_option maxHeartbeats 4000000 in
theorem rcommand_21 (b : Nat) (N : Cn) (c : Cm) (a : An) (y : Value) (fl : List Fl) (why : List Int) (m : Mt) (w : World) (hB : Rb w b N) (hN : Fit N) (ha : a.Ok) (hm : Flgs w c.mt fl) (hmo : Off c.mt (· = b)) (hy : Ints w y why) (hyo : Off y (· = b)) (hmk : m.Ok) (hw : why.length ≤ 1000000000) :
    Calls Tryd.prog 21 #[.pointer (some ⟨b, 0, none⟩), cmV c, anV a, y, mtV m] w fun e w' => e = .returned (.tuple #[]) ∧ Rb w' b (plus N (rcmdD c a fl why m)) ∧ Kp (· = b) w w' := by
  have h43 := fun X => meta_43 c a y fl why X
  have h44 := fun X => text_44 c.verb a.kind y why X
  have hnm := rcmdL_names c.verb a.kind (code a) fl why
  have ha0 := ha
  unfold rcmdD
  generalize code a = cd at *
  obtain ⟨ak, en, nu, tx, st⟩ := a
  obtain ⟨⟨x1, n1, c1, e1⟩, ⟨n2, e2⟩, ⟨x3, n3, c3, e3⟩, hl⟩ := ha
  simp only at e1 e2 e3 hl
  subst e1 e2 e3
  obtain ⟨v, ka, kn, kc, fl1, ex, tk, de, da, dn, dc, nr, lg, ma, mn, mc, what⟩ := c
  simp only [Cm.mt] at *
  obtain ⟨dr, re, bu, li, lo, cr⟩ := m
  have m1 := hmk.dr
  have m2 := hmk.re
  have m3 := hmk.cr
  simp only at m1 m2 m3
  have g1 := World.grownBy_alloc w (.cells (cmA ⟨v, ka, kn, kc, fl1, ex, tk, de, da, dn, dc, nr, lg, ma, mn, mc, what⟩) 35) none
  have g2 := World.grownBy_alloc (w.alloc (.cells (cmA ⟨v, ka, kn, kc, fl1, ex, tk, de, da, dn, dc, nr, lg, ma, mn, mc, what⟩) 35)) (.cells (anA ⟨ak, .slice x1 n1 c1, .int .u64 n2, tx, .slice x3 n3 c3⟩) 39) none
  have g3 := World.grownBy_alloc ((w.alloc (.cells (cmA ⟨v, ka, kn, kc, fl1, ex, tk, de, da, dn, dc, nr, lg, ma, mn, mc, what⟩) 35)).alloc (.cells (anA ⟨ak, .slice x1 n1 c1, .int .u64 n2, tx, .slice x3 n3 c3⟩) 39)) (.cells (mtA ⟨dr, re, bu, li, lo, cr⟩) 42) none
  have g4 := World.grownBy_alloc (((w.alloc (.cells (cmA ⟨v, ka, kn, kc, fl1, ex, tk, de, da, dn, dc, nr, lg, ma, mn, mc, what⟩) 35)).alloc (.cells (anA ⟨ak, .slice x1 n1 c1, .int .u64 n2, tx, .slice x3 n3 c3⟩) 39)).alloc (.cells (mtA ⟨dr, re, bu, li, lo, cr⟩) 42)) (.cells #[.int .i64 dr, .int .i64 re, .int .i64 cr] 98) none
  have g5 := World.grownBy_alloc ((((w.alloc (.cells (cmA ⟨v, ka, kn, kc, fl1, ex, tk, de, da, dn, dc, nr, lg, ma, mn, mc, what⟩) 35)).alloc (.cells (anA ⟨ak, .slice x1 n1 c1, .int .u64 n2, tx, .slice x3 n3 c3⟩) 39)).alloc (.cells (mtA ⟨dr, re, bu, li, lo, cr⟩) 42)).alloc (.cells #[.int .i64 dr, .int .i64 re, .int .i64 cr] 98)) (.cells #[.int .i64 21, .int .i64 22, .int .i64 29] 98) none
  have b1 := ((((Box.new w 35 (cmA ⟨v, ka, kn, kc, fl1, ex, tk, de, da, dn, dc, nr, lg, ma, mn, mc, what⟩)).kept g2 (by simp)).kept g3 (by simp)).kept g4 (by simp)).kept g5 (by simp)
  have b2 := (((Box.new (w.alloc (.cells (cmA ⟨v, ka, kn, kc, fl1, ex, tk, de, da, dn, dc, nr, lg, ma, mn, mc, what⟩) 35)) 39 (anA ⟨ak, .slice x1 n1 c1, .int .u64 n2, tx, .slice x3 n3 c3⟩)).kept g3 (by simp)).kept g4 (by simp)).kept g5 (by simp)
  have b4 := (Box.new (((w.alloc (.cells (cmA ⟨v, ka, kn, kc, fl1, ex, tk, de, da, dn, dc, nr, lg, ma, mn, mc, what⟩) 35)).alloc (.cells (anA ⟨ak, .slice x1 n1 c1, .int .u64 n2, tx, .slice x3 n3 c3⟩) 39)).alloc (.cells (mtA ⟨dr, re, bu, li, lo, cr⟩) 42)) 98 #[.int .i64 dr, .int .i64 re, .int .i64 cr]).kept g5 (by simp)
  have b5 := Box.new ((((w.alloc (.cells (cmA ⟨v, ka, kn, kc, fl1, ex, tk, de, da, dn, dc, nr, lg, ma, mn, mc, what⟩) 35)).alloc (.cells (anA ⟨ak, .slice x1 n1 c1, .int .u64 n2, tx, .slice x3 n3 c3⟩) 39)).alloc (.cells (mtA ⟨dr, re, bu, li, lo, cr⟩) 42)).alloc (.cells #[.int .i64 dr, .int .i64 re, .int .i64 cr] 98)) 98 #[.int .i64 21, .int .i64 22, .int .i64 29]
  rw [show (w.alloc (.cells (cmA ⟨v, ka, kn, kc, fl1, ex, tk, de, da, dn, dc, nr, lg, ma, mn, mc, what⟩) 35)).heap.size = w.heap.size + 1 from by simp] at b2
  rw [show (((w.alloc (.cells (cmA ⟨v, ka, kn, kc, fl1, ex, tk, de, da, dn, dc, nr, lg, ma, mn, mc, what⟩) 35)).alloc (.cells (anA ⟨ak, .slice x1 n1 c1, .int .u64 n2, tx, .slice x3 n3 c3⟩) 39)).alloc (.cells (mtA ⟨dr, re, bu, li, lo, cr⟩) 42)).heap.size = w.heap.size + 1 + 1 + 1 from by simp] at b4
  rw [show ((((w.alloc (.cells (cmA ⟨v, ka, kn, kc, fl1, ex, tk, de, da, dn, dc, nr, lg, ma, mn, mc, what⟩) 35)).alloc (.cells (anA ⟨ak, .slice x1 n1 c1, .int .u64 n2, tx, .slice x3 n3 c3⟩) 39)).alloc (.cells (mtA ⟨dr, re, bu, li, lo, cr⟩) 42)).alloc (.cells #[.int .i64 dr, .int .i64 re, .int .i64 cr] 98)).heap.size = w.heap.size + 1 + 1 + 1 + 1 from by simp] at b5
  have g := gb_trans (gb_trans (gb_trans (gb_trans g1 g2) g3) g4) g5
  have hwb := hB.lt
  go_enter Tryd.func21, Tryd.ntmps21
  go_wp2
  generalize (((((w.alloc (.cells (cmA ⟨v, ka, kn, kc, fl1, ex, tk, de, da, dn, dc, nr, lg, ma, mn, mc, what⟩) 35)).alloc (.cells (anA ⟨ak, .slice x1 n1 c1, .int .u64 n2, tx, .slice x3 n3 c3⟩) 39)).alloc (.cells (mtA ⟨dr, re, bu, li, lo, cr⟩) 42)).alloc (.cells #[.int .i64 dr, .int .i64 re, .int .i64 cr] 98)).alloc (.cells #[.int .i64 21, .int .i64 22, .int .i64 29] 98)) = W at *
  have B0 : Rb W b N := Box.kept hB g (by simp)
  have K0 : Kp (· = b) w W := Kp.of g
  have hne1 : ¬ w.heap.size = b := by omega
  have hne2 : ¬ w.heap.size + 1 = b := by omega
  have hne4 : ¬ w.heap.size + 1 + 1 + 1 = b := by omega
  have hne5 : ¬ w.heap.size + 1 + 1 + 1 + 1 = b := by omega
  go_loopw [12] (fun v wr => ∃ i : Nat, i ≤ 3 ∧ v = .int .i64 i ∧ Rb wr b (plus N (wk3 dr re cr i)) ∧ Kp (· = b) W wr) (fun v _ => 3 - (intOf v).toNat)
  case atStart => exact ⟨0, by omega, rfl, by rw [wk3_0, plus_zero hN]; exact B0, Kp.refl _ _⟩
  case round =>
    obtain ⟨i, hi, rfl, hb, hk⟩ := hrel
    rcases (by omega : i < 3 ∨ i = 3) with hlt | rfl
    · obtain ⟨x, n, hxn, q4, q5, hxm⟩ : ∃ (x : Int) (n : Nat), ((i = 0 ∧ n = 21 ∧ x = dr) ∨ (i = 1 ∧ n = 22 ∧ x = re) ∨ (i = 2 ∧ n = 29 ∧ x = cr)) ∧ W.cell? ⟨w.heap.size + 1 + 1 + 1, i, none⟩ = some (.int .i64 x) ∧ W.cell? ⟨w.heap.size + 1 + 1 + 1 + 1, i, none⟩ = some (.int .i64 (n : Nat)) ∧ x ≤ 9223372036854775807 := by
        rcases (by omega : i = 0 ∨ i = 1 ∨ i = 2) with rfl | rfl | rfl
        · exact ⟨dr, 21, .inl ⟨rfl, rfl, rfl⟩, b4.cell 0, b5.cell 0, m1⟩
        · exact ⟨re, 22, .inr (.inl ⟨rfl, rfl, rfl⟩), b4.cell 1, b5.cell 1, m2⟩
        · exact ⟨cr, 29, .inr (.inr ⟨rfl, rfl, rfl⟩), b4.cell 2, b5.cell 2, m3⟩
      have r4 := hk.cell q4 hne4
      have r5 := hk.cell q5 hne5
      have d1 : (i : Int) < 3 := by omega
      by_cases hx : 0 < x
      · have hn : 1 ≤ n ∧ n ≤ 30 := by omega
        obtain ⟨xn, rfl⟩ : ∃ xn : Nat, x = xn := ⟨x.toNat, by omega⟩
        have ew : IntKind.u64.wrap (xn : Int) = (xn : Int) := by simp only [IntKind.wrap_u64]; omega
        have h33 := fun (X : World) (hX : wr.grownBy X none) => radd_33 b (plus N (wk3 dr re cr i)) (n : Nat) xn X (Box.kept hb hX (by simp)) (plus_fit _ _) (by omega)
        have hws := wk3_step N dr re cr i n (xn : Int) hxn
        rw [show ((xn : Nat) : Int).toNat = xn from rfl] at hws
        rw [if_pos (by simp [nm]; omega), show ((n : Nat) : Int).toNat = n from rfl, hws] at h33
        clear hws
        clear hxn q4 q5 h43 h44
        go_wp2_with fail
        go_region_held3 (fun X => X.cell? ⟨w.heap.size + 1 + 1 + 1, i, none⟩ = some (.int .i64 (xn : Nat)) ∧ X.cell? ⟨w.heap.size + 1 + 1 + 1 + 1, i, none⟩ = some (.int .i64 (n : Nat))) ((first | exact ⟨hk7.cell r4 hne4, hk7.cell r5 hne5⟩ | go_keep)) ((first | (go_at_call 33; (first | (with_reducible refine (h33 _ (gb_drew (gb_refl _ _))).mono ?_) | (with_reducible refine (h33 _ (gb_drewN (gb_refl _ _) _)).mono ?_) | (with_reducible refine (h33 _ (gb_refl _ _)).mono ?_) | (with_reducible refine (h33 _ (gb_drewN (gb_drew (gb_refl _ _)) _)).mono ?_)); rintro e7 w7 ⟨rfl, hb7, hk7⟩)))
        go_wp2
        refine ⟨⟨i + 1, by omega, by simp, hb7, hk.then ((Kp.drew _ _).then hk7)⟩, ?_⟩
        simp only [intOf]; omega
      · rw [wk3_skip N dr re cr i n x hx hxn] at hb
        clear hxn q4 q5 h43 h44
        go_wp2
        refine ⟨⟨i + 1, by omega, by simp, hb, hk⟩, ?_⟩
        simp only [intOf]; omega
    · obtain ⟨W6, hW6⟩ : ∃ W6, W6 = wr := ⟨wr, rfl⟩
      subst hW6
      have hcell : ∀ {g i : Nat} {u : Value}, W.cell? ⟨g, i, none⟩ = some u → ¬ g = b → W6.cell? ⟨g, i, none⟩ = some u := fun h hn => hk.cell h hn
      have p0 := hcell (b1.cell 0) hne1
      have q0 := hcell (b2.cell 0) hne2
      have K6 := K0.then hk
      rw [wk3_3 dr re bu li lo cr] at hb
      have hmo7 : Off (.slice ma mn mc) (· = b) := hmo
      have hyo7 : Off y (· = b) := hyo
      by_cases hk11 : ak = 11
      · subst hk11
        obtain ⟨M, hMe⟩ : ∃ M, M = plus N (Cn.add (workD ⟨dr, re, bu, li, lo, cr⟩) (dl (wh (11 == (11 : Int)) [23]))) := ⟨_, rfl⟩
        have hM : Fit M := by rw [hMe]; exact plus_fit _ _
        go_wp2_with fail
        refine (radd_33 b _ 23 1 W6 hb (plus_fit _ _) (by omega)).mono ?_
        rw [if_pos (by decide), show (23 : Int).toNat = 23 from rfl, ← dl_one, plus_plus]
        rintro e W7 ⟨rfl, hb7, hkx⟩
        have hb7 : Rb W7 b M := by rw [hMe]; exact hb7
        have K7 := K6.then hkx
        rcases (by omega : (20 ≤ v ∧ v ≤ 24) ∨ ¬ 20 ≤ v ∨ (20 ≤ v ∧ ¬ v ≤ 24)) with ⟨e20, e24⟩ | e20 | ⟨e20, e24⟩
        · have K7' : Kp (· = b) W W7 := hk.then hkx
          have P0 : W7.cell? ⟨w.heap.size, 0, none⟩ = some (.int .i64 v) := K7'.cell (b1.cell 0) hne1
          have P1 : W7.cell? ⟨w.heap.size, 1, none⟩ = some (.slice ka kn kc) := K7'.cell (b1.cell 1) hne1
          have P2 : W7.cell? ⟨w.heap.size, 2, none⟩ = some (.int .u64 fl1) := K7'.cell (b1.cell 2) hne1
          have P3 : W7.cell? ⟨w.heap.size, 3, none⟩ = some (.int .i64 ex) := K7'.cell (b1.cell 3) hne1
          have P4 : W7.cell? ⟨w.heap.size, 4, none⟩ = some (.int .u64 tk) := K7'.cell (b1.cell 4) hne1
          have P5 : W7.cell? ⟨w.heap.size, 5, none⟩ = some (.int .u64 de) := K7'.cell (b1.cell 5) hne1
          have P6 : W7.cell? ⟨w.heap.size, 6, none⟩ = some (.slice da dn dc) := K7'.cell (b1.cell 6) hne1
          have P7 : W7.cell? ⟨w.heap.size, 7, none⟩ = some (.bool nr) := K7'.cell (b1.cell 7) hne1
          have P8 : W7.cell? ⟨w.heap.size, 8, none⟩ = some (.bool lg) := K7'.cell (b1.cell 8) hne1
          have P9 : W7.cell? ⟨w.heap.size, 9, none⟩ = some (.slice ma mn mc) := K7'.cell (b1.cell 9) hne1
          have P10 : W7.cell? ⟨w.heap.size, 10, none⟩ = some (.string what) := K7'.cell (b1.cell 10) hne1
          have Q0 : W7.cell? ⟨w.heap.size + 1, 0, none⟩ = some (.int .i64 11) := K7'.cell (b2.cell 0) hne2
          have Q1 : W7.cell? ⟨w.heap.size + 1, 1, none⟩ = some (.slice x1 n1 c1) := K7'.cell (b2.cell 1) hne2
          have Q2 : W7.cell? ⟨w.heap.size + 1, 2, none⟩ = some (.int .u64 n2) := K7'.cell (b2.cell 2) hne2
          have Q3 : W7.cell? ⟨w.heap.size + 1, 3, none⟩ = some (sv tx) := K7'.cell (b2.cell 3) hne2
          have Q4 : W7.cell? ⟨w.heap.size + 1, 4, none⟩ = some (.slice x3 n3 c3) := K7'.cell (b2.cell 4) hne2
          have m7 := hm.kept K7 hmo7
          have y7 := hy.kept K7 hyo7
          have hLE : rcmdL v 11 cd fl why = rmeta v 11 cd fl why := by simp only [rcmdL]; rw [if_pos ⟨e20, e24⟩]
          have hT := h43 W7 ha0 m7 y7 ⟨e20, e24⟩
          unfold TellsL at hT
          rw [hLE] at hnm
          generalize rmeta v 11 cd fl why = L at *
          clear h43 h44
          have f1 : decide (20 ≤ v) = true := decide_eq_true e20
          have f2 : decide (v ≤ 24) = true := decide_eq_true e24
          go_wp2_with fail
          refine hT.mono ?_
          rintro e W8 ⟨v13, rfl, ho, hg8⟩
          have hb8 : Rb W8 b _ := Box.kept hb7 hg8 (by simp)
          have hrl := World.ownsRow.lt ho
          have hs7 := K7.size
          obtain ⟨ao, cp, rfl, hlc, hcp, hx⟩ := ho.ints
          rw [List.length_map] at hlc
          simp only [List.length_map] at ho hrl ⊢
          unfold maxLen at hcp
          have hLl : L.length ≤ 9223372036854775807 := by omega
          clear hT
          go_wp2
          go_loopw [14] (fun v wq => ∃ j : Nat, j ≤ L.length ∧ v = .int .i64 j ∧ Rb wq b (plus M (dl (L.take j))) ∧ Kp (· = b) W8 wq) (fun v _ => L.length - (intOf v).toNat)
          case atStart => exact ⟨0, by omega, rfl, by rw [List.take_zero, plus_dl_nil hM]; exact hb8, Kp.refl _ _⟩
          case round =>
            obtain ⟨j, hj, rfl, hbj, hkj⟩ := hrel
            rcases (by omega : j < L.length ∨ j = L.length) with hlt | rfl
            · obtain ⟨n, hn⟩ : ∃ n, L[j]? = some n := ⟨_, List.getElem?_eq_getElem hlt⟩
              obtain ⟨gg, oo, rfl, hcell⟩ := hx j (n : Int) (by rw [List.getElem?_map, hn]; rfl)
              have hgb : ¬ gg = b := by have := (hrl gg rfl).1; omega
              have hcj := hkj.cell hcell hgb
              have hnn := hnm n (List.mem_of_getElem? hn)
              have d1 : (j : Int) < L.length := by omega
              have h33 := radd_33 b (plus M (dl (L.take j))) (n : Nat) 1 wr hbj (plus_fit _ _) (by omega)
              have ht : plus (plus M (dl (L.take j))) (sgl n 1) = plus M (dl (L.take (j + 1))) := by
                rw [← dl_one, plus_dl, List.take_add_one, hn]; rfl
              rw [if_pos (by simp [nm]; omega), show ((n : Nat) : Int).toNat = n from rfl, ht, show ((1 : Nat) : Int) = 1 from rfl] at h33
              clear ht hx hcell
              go_wp2_with (go_at_call 33; (with_reducible refine h33.mono ?_); rintro e w9 ⟨rfl, hb9, hk9⟩)
              first
                | exact ⟨⟨j + 1, by omega, by simp, hb9, hkj.then hk9⟩, by simp only [intOf]; omega⟩
                | exact ⟨⟨.int .i64 ((j : Int) + 1), _, _, _, _, _, _, _, _, _, _, _, _, ⟨j + 1, by omega, by simp, hb9, hkj.then hk9⟩, rfl⟩, by show L.length - ((j : Int) + 1).toNat < L.length - (j : Int).toNat; omega⟩
            · rw [List.take_length] at hbj
              clear hx
              go_wp2
              go_end0
              refine ⟨rfl, ?_, (K7.then (Kp.of hg8)).then hkj⟩
              rw [hMe, plus_plus, Cn.add_assoc, dl_app] at hbj
              first | exact hbj | (rw [hLE]; exact hbj)
        · have K7' : Kp (· = b) W W7 := hk.then hkx
          have P0 : W7.cell? ⟨w.heap.size, 0, none⟩ = some (.int .i64 v) := K7'.cell (b1.cell 0) hne1
          have P1 : W7.cell? ⟨w.heap.size, 1, none⟩ = some (.slice ka kn kc) := K7'.cell (b1.cell 1) hne1
          have P2 : W7.cell? ⟨w.heap.size, 2, none⟩ = some (.int .u64 fl1) := K7'.cell (b1.cell 2) hne1
          have P3 : W7.cell? ⟨w.heap.size, 3, none⟩ = some (.int .i64 ex) := K7'.cell (b1.cell 3) hne1
          have P4 : W7.cell? ⟨w.heap.size, 4, none⟩ = some (.int .u64 tk) := K7'.cell (b1.cell 4) hne1
          have P5 : W7.cell? ⟨w.heap.size, 5, none⟩ = some (.int .u64 de) := K7'.cell (b1.cell 5) hne1
          have P6 : W7.cell? ⟨w.heap.size, 6, none⟩ = some (.slice da dn dc) := K7'.cell (b1.cell 6) hne1
          have P7 : W7.cell? ⟨w.heap.size, 7, none⟩ = some (.bool nr) := K7'.cell (b1.cell 7) hne1
          have P8 : W7.cell? ⟨w.heap.size, 8, none⟩ = some (.bool lg) := K7'.cell (b1.cell 8) hne1
          have P9 : W7.cell? ⟨w.heap.size, 9, none⟩ = some (.slice ma mn mc) := K7'.cell (b1.cell 9) hne1
          have P10 : W7.cell? ⟨w.heap.size, 10, none⟩ = some (.string what) := K7'.cell (b1.cell 10) hne1
          have Q0 : W7.cell? ⟨w.heap.size + 1, 0, none⟩ = some (.int .i64 11) := K7'.cell (b2.cell 0) hne2
          have Q1 : W7.cell? ⟨w.heap.size + 1, 1, none⟩ = some (.slice x1 n1 c1) := K7'.cell (b2.cell 1) hne2
          have Q2 : W7.cell? ⟨w.heap.size + 1, 2, none⟩ = some (.int .u64 n2) := K7'.cell (b2.cell 2) hne2
          have Q3 : W7.cell? ⟨w.heap.size + 1, 3, none⟩ = some (sv tx) := K7'.cell (b2.cell 3) hne2
          have Q4 : W7.cell? ⟨w.heap.size + 1, 4, none⟩ = some (.slice x3 n3 c3) := K7'.cell (b2.cell 4) hne2
          have m7 := hm.kept K7 hmo7
          have y7 := hy.kept K7 hyo7
          have hLE : rcmdL v 11 cd fl why = rtext v 11 why := by simp only [rcmdL]; rw [if_neg (by omega)]
          have hT := h44 W7 y7 hw
          unfold TellsL at hT
          rw [hLE] at hnm
          generalize rtext v 11 why = L at *
          clear h43 h44
          have f1 : decide (20 ≤ v) = false := decide_eq_false e20
          go_wp2_with fail
          refine hT.mono ?_
          rintro e W8 ⟨v13, rfl, ho, hg8⟩
          have hb8 : Rb W8 b _ := Box.kept hb7 hg8 (by simp)
          have hrl := World.ownsRow.lt ho
          have hs7 := K7.size
          obtain ⟨ao, cp, rfl, hlc, hcp, hx⟩ := ho.ints
          rw [List.length_map] at hlc
          simp only [List.length_map] at ho hrl ⊢
          unfold maxLen at hcp
          have hLl : L.length ≤ 9223372036854775807 := by omega
          clear hT
          go_wp2
          go_loopw [14] (fun v wq => ∃ j : Nat, j ≤ L.length ∧ v = .int .i64 j ∧ Rb wq b (plus M (dl (L.take j))) ∧ Kp (· = b) W8 wq) (fun v _ => L.length - (intOf v).toNat)
          case atStart => exact ⟨0, by omega, rfl, by rw [List.take_zero, plus_dl_nil hM]; exact hb8, Kp.refl _ _⟩
          case round =>
            obtain ⟨j, hj, rfl, hbj, hkj⟩ := hrel
            rcases (by omega : j < L.length ∨ j = L.length) with hlt | rfl
            · obtain ⟨n, hn⟩ : ∃ n, L[j]? = some n := ⟨_, List.getElem?_eq_getElem hlt⟩
              obtain ⟨gg, oo, rfl, hcell⟩ := hx j (n : Int) (by rw [List.getElem?_map, hn]; rfl)
              have hgb : ¬ gg = b := by have := (hrl gg rfl).1; omega
              have hcj := hkj.cell hcell hgb
              have hnn := hnm n (List.mem_of_getElem? hn)
              have d1 : (j : Int) < L.length := by omega
              have h33 := radd_33 b (plus M (dl (L.take j))) (n : Nat) 1 wr hbj (plus_fit _ _) (by omega)
              have ht : plus (plus M (dl (L.take j))) (sgl n 1) = plus M (dl (L.take (j + 1))) := by
                rw [← dl_one, plus_dl, List.take_add_one, hn]; rfl
              rw [if_pos (by simp [nm]; omega), show ((n : Nat) : Int).toNat = n from rfl, ht, show ((1 : Nat) : Int) = 1 from rfl] at h33
              clear ht hx hcell
              go_wp2_with (go_at_call 33; (with_reducible refine h33.mono ?_); rintro e w9 ⟨rfl, hb9, hk9⟩)
              first
                | exact ⟨⟨j + 1, by omega, by simp, hb9, hkj.then hk9⟩, by simp only [intOf]; omega⟩
                | exact ⟨⟨.int .i64 ((j : Int) + 1), _, _, _, _, _, _, _, _, _, _, _, _, ⟨j + 1, by omega, by simp, hb9, hkj.then hk9⟩, rfl⟩, by show L.length - ((j : Int) + 1).toNat < L.length - (j : Int).toNat; omega⟩
            · rw [List.take_length] at hbj
              clear hx
              go_wp2
              go_end0
              refine ⟨rfl, ?_, (K7.then (Kp.of hg8)).then hkj⟩
              rw [hMe, plus_plus, Cn.add_assoc, dl_app] at hbj
              first | exact hbj | (rw [hLE]; exact hbj)
        · have K7' : Kp (· = b) W W7 := hk.then hkx
          have P0 : W7.cell? ⟨w.heap.size, 0, none⟩ = some (.int .i64 v) := K7'.cell (b1.cell 0) hne1
          have P1 : W7.cell? ⟨w.heap.size, 1, none⟩ = some (.slice ka kn kc) := K7'.cell (b1.cell 1) hne1
          have P2 : W7.cell? ⟨w.heap.size, 2, none⟩ = some (.int .u64 fl1) := K7'.cell (b1.cell 2) hne1
          have P3 : W7.cell? ⟨w.heap.size, 3, none⟩ = some (.int .i64 ex) := K7'.cell (b1.cell 3) hne1
          have P4 : W7.cell? ⟨w.heap.size, 4, none⟩ = some (.int .u64 tk) := K7'.cell (b1.cell 4) hne1
          have P5 : W7.cell? ⟨w.heap.size, 5, none⟩ = some (.int .u64 de) := K7'.cell (b1.cell 5) hne1
          have P6 : W7.cell? ⟨w.heap.size, 6, none⟩ = some (.slice da dn dc) := K7'.cell (b1.cell 6) hne1
          have P7 : W7.cell? ⟨w.heap.size, 7, none⟩ = some (.bool nr) := K7'.cell (b1.cell 7) hne1
          have P8 : W7.cell? ⟨w.heap.size, 8, none⟩ = some (.bool lg) := K7'.cell (b1.cell 8) hne1
          have P9 : W7.cell? ⟨w.heap.size, 9, none⟩ = some (.slice ma mn mc) := K7'.cell (b1.cell 9) hne1
          have P10 : W7.cell? ⟨w.heap.size, 10, none⟩ = some (.string what) := K7'.cell (b1.cell 10) hne1
          have Q0 : W7.cell? ⟨w.heap.size + 1, 0, none⟩ = some (.int .i64 11) := K7'.cell (b2.cell 0) hne2
          have Q1 : W7.cell? ⟨w.heap.size + 1, 1, none⟩ = some (.slice x1 n1 c1) := K7'.cell (b2.cell 1) hne2
          have Q2 : W7.cell? ⟨w.heap.size + 1, 2, none⟩ = some (.int .u64 n2) := K7'.cell (b2.cell 2) hne2
          have Q3 : W7.cell? ⟨w.heap.size + 1, 3, none⟩ = some (sv tx) := K7'.cell (b2.cell 3) hne2
          have Q4 : W7.cell? ⟨w.heap.size + 1, 4, none⟩ = some (.slice x3 n3 c3) := K7'.cell (b2.cell 4) hne2
          have m7 := hm.kept K7 hmo7
          have y7 := hy.kept K7 hyo7
          have hLE : rcmdL v 11 cd fl why = rtext v 11 why := by simp only [rcmdL]; rw [if_neg (by omega)]
          have hT := h44 W7 y7 hw
          unfold TellsL at hT
          rw [hLE] at hnm
          generalize rtext v 11 why = L at *
          clear h43 h44
          have f1 : decide (20 ≤ v) = true := decide_eq_true e20
          have f2 : decide (v ≤ 24) = false := decide_eq_false e24
          go_wp2_with fail
          refine hT.mono ?_
          rintro e W8 ⟨v13, rfl, ho, hg8⟩
          have hb8 : Rb W8 b _ := Box.kept hb7 hg8 (by simp)
          have hrl := World.ownsRow.lt ho
          have hs7 := K7.size
          obtain ⟨ao, cp, rfl, hlc, hcp, hx⟩ := ho.ints
          rw [List.length_map] at hlc
          simp only [List.length_map] at ho hrl ⊢
          unfold maxLen at hcp
          have hLl : L.length ≤ 9223372036854775807 := by omega
          clear hT
          go_wp2
          go_loopw [14] (fun v wq => ∃ j : Nat, j ≤ L.length ∧ v = .int .i64 j ∧ Rb wq b (plus M (dl (L.take j))) ∧ Kp (· = b) W8 wq) (fun v _ => L.length - (intOf v).toNat)
          case atStart => exact ⟨0, by omega, rfl, by rw [List.take_zero, plus_dl_nil hM]; exact hb8, Kp.refl _ _⟩
          case round =>
            obtain ⟨j, hj, rfl, hbj, hkj⟩ := hrel
            rcases (by omega : j < L.length ∨ j = L.length) with hlt | rfl
            · obtain ⟨n, hn⟩ : ∃ n, L[j]? = some n := ⟨_, List.getElem?_eq_getElem hlt⟩
              obtain ⟨gg, oo, rfl, hcell⟩ := hx j (n : Int) (by rw [List.getElem?_map, hn]; rfl)
              have hgb : ¬ gg = b := by have := (hrl gg rfl).1; omega
              have hcj := hkj.cell hcell hgb
              have hnn := hnm n (List.mem_of_getElem? hn)
              have d1 : (j : Int) < L.length := by omega
              have h33 := radd_33 b (plus M (dl (L.take j))) (n : Nat) 1 wr hbj (plus_fit _ _) (by omega)
              have ht : plus (plus M (dl (L.take j))) (sgl n 1) = plus M (dl (L.take (j + 1))) := by
                rw [← dl_one, plus_dl, List.take_add_one, hn]; rfl
              rw [if_pos (by simp [nm]; omega), show ((n : Nat) : Int).toNat = n from rfl, ht, show ((1 : Nat) : Int) = 1 from rfl] at h33
              clear ht hx hcell
              go_wp2_with (go_at_call 33; (with_reducible refine h33.mono ?_); rintro e w9 ⟨rfl, hb9, hk9⟩)
              first
                | exact ⟨⟨j + 1, by omega, by simp, hb9, hkj.then hk9⟩, by simp only [intOf]; omega⟩
                | exact ⟨⟨.int .i64 ((j : Int) + 1), _, _, _, _, _, _, _, _, _, _, _, _, ⟨j + 1, by omega, by simp, hb9, hkj.then hk9⟩, rfl⟩, by show L.length - ((j : Int) + 1).toNat < L.length - (j : Int).toNat; omega⟩
            · rw [List.take_length] at hbj
              clear hx
              go_wp2
              go_end0
              refine ⟨rfl, ?_, (K7.then (Kp.of hg8)).then hkj⟩
              rw [hMe, plus_plus, Cn.add_assoc, dl_app] at hbj
              first | exact hbj | (rw [hLE]; exact hbj)
      · obtain ⟨M, hMe⟩ : ∃ M, M = plus N (Cn.add (workD ⟨dr, re, bu, li, lo, cr⟩) (dl (wh (ak == (11 : Int)) [23]))) := ⟨_, rfl⟩
        have hM : Fit M := by rw [hMe]; exact plus_fit _ _
        have hb7 : Rb W6 b M := by
          rw [hMe, show (ak == (11 : Int)) = false from by simp [hk11], wh_f, ← plus_plus, plus_dl_nil (plus_fit _ _)]; exact hb
        obtain ⟨W7, hW7⟩ : ∃ W7, W7 = W6 := ⟨W6, rfl⟩
        subst hW7
        have hkx : Kp (· = b) W7 W7 := Kp.refl _ _
        have K7 := K6
        rcases (by omega : (20 ≤ v ∧ v ≤ 24) ∨ ¬ 20 ≤ v ∨ (20 ≤ v ∧ ¬ v ≤ 24)) with ⟨e20, e24⟩ | e20 | ⟨e20, e24⟩
        · have K7' : Kp (· = b) W W7 := hk.then hkx
          have P0 : W7.cell? ⟨w.heap.size, 0, none⟩ = some (.int .i64 v) := K7'.cell (b1.cell 0) hne1
          have P1 : W7.cell? ⟨w.heap.size, 1, none⟩ = some (.slice ka kn kc) := K7'.cell (b1.cell 1) hne1
          have P2 : W7.cell? ⟨w.heap.size, 2, none⟩ = some (.int .u64 fl1) := K7'.cell (b1.cell 2) hne1
          have P3 : W7.cell? ⟨w.heap.size, 3, none⟩ = some (.int .i64 ex) := K7'.cell (b1.cell 3) hne1
          have P4 : W7.cell? ⟨w.heap.size, 4, none⟩ = some (.int .u64 tk) := K7'.cell (b1.cell 4) hne1
          have P5 : W7.cell? ⟨w.heap.size, 5, none⟩ = some (.int .u64 de) := K7'.cell (b1.cell 5) hne1
          have P6 : W7.cell? ⟨w.heap.size, 6, none⟩ = some (.slice da dn dc) := K7'.cell (b1.cell 6) hne1
          have P7 : W7.cell? ⟨w.heap.size, 7, none⟩ = some (.bool nr) := K7'.cell (b1.cell 7) hne1
          have P8 : W7.cell? ⟨w.heap.size, 8, none⟩ = some (.bool lg) := K7'.cell (b1.cell 8) hne1
          have P9 : W7.cell? ⟨w.heap.size, 9, none⟩ = some (.slice ma mn mc) := K7'.cell (b1.cell 9) hne1
          have P10 : W7.cell? ⟨w.heap.size, 10, none⟩ = some (.string what) := K7'.cell (b1.cell 10) hne1
          have Q0 : W7.cell? ⟨w.heap.size + 1, 0, none⟩ = some (.int .i64 ak) := K7'.cell (b2.cell 0) hne2
          have Q1 : W7.cell? ⟨w.heap.size + 1, 1, none⟩ = some (.slice x1 n1 c1) := K7'.cell (b2.cell 1) hne2
          have Q2 : W7.cell? ⟨w.heap.size + 1, 2, none⟩ = some (.int .u64 n2) := K7'.cell (b2.cell 2) hne2
          have Q3 : W7.cell? ⟨w.heap.size + 1, 3, none⟩ = some (sv tx) := K7'.cell (b2.cell 3) hne2
          have Q4 : W7.cell? ⟨w.heap.size + 1, 4, none⟩ = some (.slice x3 n3 c3) := K7'.cell (b2.cell 4) hne2
          have m7 := hm.kept K7 hmo7
          have y7 := hy.kept K7 hyo7
          have hLE : rcmdL v ak cd fl why = rmeta v ak cd fl why := by simp only [rcmdL]; rw [if_pos ⟨e20, e24⟩]
          have hT := h43 W7 ha0 m7 y7 ⟨e20, e24⟩
          unfold TellsL at hT
          rw [hLE] at hnm
          generalize rmeta v ak cd fl why = L at *
          clear h43 h44
          have f1 : decide (20 ≤ v) = true := decide_eq_true e20
          have f2 : decide (v ≤ 24) = true := decide_eq_true e24
          have f3 : (ak == (11 : Int)) = false := by simp [hk11]
          go_wp2_with fail
          refine hT.mono ?_
          rintro e W8 ⟨v13, rfl, ho, hg8⟩
          have hb8 : Rb W8 b _ := Box.kept hb7 hg8 (by simp)
          have hrl := World.ownsRow.lt ho
          have hs7 := K7.size
          obtain ⟨ao, cp, rfl, hlc, hcp, hx⟩ := ho.ints
          rw [List.length_map] at hlc
          simp only [List.length_map] at ho hrl ⊢
          unfold maxLen at hcp
          have hLl : L.length ≤ 9223372036854775807 := by omega
          clear hT
          go_wp2
          go_loopw [14] (fun v wq => ∃ j : Nat, j ≤ L.length ∧ v = .int .i64 j ∧ Rb wq b (plus M (dl (L.take j))) ∧ Kp (· = b) W8 wq) (fun v _ => L.length - (intOf v).toNat)
          case atStart => exact ⟨0, by omega, rfl, by rw [List.take_zero, plus_dl_nil hM]; exact hb8, Kp.refl _ _⟩
          case round =>
            obtain ⟨j, hj, rfl, hbj, hkj⟩ := hrel
            rcases (by omega : j < L.length ∨ j = L.length) with hlt | rfl
            · obtain ⟨n, hn⟩ : ∃ n, L[j]? = some n := ⟨_, List.getElem?_eq_getElem hlt⟩
              obtain ⟨gg, oo, rfl, hcell⟩ := hx j (n : Int) (by rw [List.getElem?_map, hn]; rfl)
              have hgb : ¬ gg = b := by have := (hrl gg rfl).1; omega
              have hcj := hkj.cell hcell hgb
              have hnn := hnm n (List.mem_of_getElem? hn)
              have d1 : (j : Int) < L.length := by omega
              have h33 := radd_33 b (plus M (dl (L.take j))) (n : Nat) 1 wr hbj (plus_fit _ _) (by omega)
              have ht : plus (plus M (dl (L.take j))) (sgl n 1) = plus M (dl (L.take (j + 1))) := by
                rw [← dl_one, plus_dl, List.take_add_one, hn]; rfl
              rw [if_pos (by simp [nm]; omega), show ((n : Nat) : Int).toNat = n from rfl, ht, show ((1 : Nat) : Int) = 1 from rfl] at h33
              clear ht hx hcell
              go_wp2_with (go_at_call 33; (with_reducible refine h33.mono ?_); rintro e w9 ⟨rfl, hb9, hk9⟩)
              first
                | exact ⟨⟨j + 1, by omega, by simp, hb9, hkj.then hk9⟩, by simp only [intOf]; omega⟩
                | exact ⟨⟨.int .i64 ((j : Int) + 1), _, _, _, _, _, _, _, _, _, _, _, _, ⟨j + 1, by omega, by simp, hb9, hkj.then hk9⟩, rfl⟩, by show L.length - ((j : Int) + 1).toNat < L.length - (j : Int).toNat; omega⟩
            · rw [List.take_length] at hbj
              clear hx
              go_wp2
              go_end0
              refine ⟨rfl, ?_, (K7.then (Kp.of hg8)).then hkj⟩
              rw [hMe, plus_plus, Cn.add_assoc, dl_app] at hbj
              first | exact hbj | (rw [hLE]; exact hbj)
        · have K7' : Kp (· = b) W W7 := hk.then hkx
          have P0 : W7.cell? ⟨w.heap.size, 0, none⟩ = some (.int .i64 v) := K7'.cell (b1.cell 0) hne1
          have P1 : W7.cell? ⟨w.heap.size, 1, none⟩ = some (.slice ka kn kc) := K7'.cell (b1.cell 1) hne1
          have P2 : W7.cell? ⟨w.heap.size, 2, none⟩ = some (.int .u64 fl1) := K7'.cell (b1.cell 2) hne1
          have P3 : W7.cell? ⟨w.heap.size, 3, none⟩ = some (.int .i64 ex) := K7'.cell (b1.cell 3) hne1
          have P4 : W7.cell? ⟨w.heap.size, 4, none⟩ = some (.int .u64 tk) := K7'.cell (b1.cell 4) hne1
          have P5 : W7.cell? ⟨w.heap.size, 5, none⟩ = some (.int .u64 de) := K7'.cell (b1.cell 5) hne1
          have P6 : W7.cell? ⟨w.heap.size, 6, none⟩ = some (.slice da dn dc) := K7'.cell (b1.cell 6) hne1
          have P7 : W7.cell? ⟨w.heap.size, 7, none⟩ = some (.bool nr) := K7'.cell (b1.cell 7) hne1
          have P8 : W7.cell? ⟨w.heap.size, 8, none⟩ = some (.bool lg) := K7'.cell (b1.cell 8) hne1
          have P9 : W7.cell? ⟨w.heap.size, 9, none⟩ = some (.slice ma mn mc) := K7'.cell (b1.cell 9) hne1
          have P10 : W7.cell? ⟨w.heap.size, 10, none⟩ = some (.string what) := K7'.cell (b1.cell 10) hne1
          have Q0 : W7.cell? ⟨w.heap.size + 1, 0, none⟩ = some (.int .i64 ak) := K7'.cell (b2.cell 0) hne2
          have Q1 : W7.cell? ⟨w.heap.size + 1, 1, none⟩ = some (.slice x1 n1 c1) := K7'.cell (b2.cell 1) hne2
          have Q2 : W7.cell? ⟨w.heap.size + 1, 2, none⟩ = some (.int .u64 n2) := K7'.cell (b2.cell 2) hne2
          have Q3 : W7.cell? ⟨w.heap.size + 1, 3, none⟩ = some (sv tx) := K7'.cell (b2.cell 3) hne2
          have Q4 : W7.cell? ⟨w.heap.size + 1, 4, none⟩ = some (.slice x3 n3 c3) := K7'.cell (b2.cell 4) hne2
          have m7 := hm.kept K7 hmo7
          have y7 := hy.kept K7 hyo7
          have hLE : rcmdL v ak cd fl why = rtext v ak why := by simp only [rcmdL]; rw [if_neg (by omega)]
          have hT := h44 W7 y7 hw
          unfold TellsL at hT
          rw [hLE] at hnm
          generalize rtext v ak why = L at *
          clear h43 h44
          have f1 : decide (20 ≤ v) = false := decide_eq_false e20
          have f3 : (ak == (11 : Int)) = false := by simp [hk11]
          go_wp2_with fail
          refine hT.mono ?_
          rintro e W8 ⟨v13, rfl, ho, hg8⟩
          have hb8 : Rb W8 b _ := Box.kept hb7 hg8 (by simp)
          have hrl := World.ownsRow.lt ho
          have hs7 := K7.size
          obtain ⟨ao, cp, rfl, hlc, hcp, hx⟩ := ho.ints
          rw [List.length_map] at hlc
          simp only [List.length_map] at ho hrl ⊢
          unfold maxLen at hcp
          have hLl : L.length ≤ 9223372036854775807 := by omega
          clear hT
          go_wp2
          go_loopw [14] (fun v wq => ∃ j : Nat, j ≤ L.length ∧ v = .int .i64 j ∧ Rb wq b (plus M (dl (L.take j))) ∧ Kp (· = b) W8 wq) (fun v _ => L.length - (intOf v).toNat)
          case atStart => exact ⟨0, by omega, rfl, by rw [List.take_zero, plus_dl_nil hM]; exact hb8, Kp.refl _ _⟩
          case round =>
            obtain ⟨j, hj, rfl, hbj, hkj⟩ := hrel
            rcases (by omega : j < L.length ∨ j = L.length) with hlt | rfl
            · obtain ⟨n, hn⟩ : ∃ n, L[j]? = some n := ⟨_, List.getElem?_eq_getElem hlt⟩
              obtain ⟨gg, oo, rfl, hcell⟩ := hx j (n : Int) (by rw [List.getElem?_map, hn]; rfl)
              have hgb : ¬ gg = b := by have := (hrl gg rfl).1; omega
              have hcj := hkj.cell hcell hgb
              have hnn := hnm n (List.mem_of_getElem? hn)
              have d1 : (j : Int) < L.length := by omega
              have h33 := radd_33 b (plus M (dl (L.take j))) (n : Nat) 1 wr hbj (plus_fit _ _) (by omega)
              have ht : plus (plus M (dl (L.take j))) (sgl n 1) = plus M (dl (L.take (j + 1))) := by
                rw [← dl_one, plus_dl, List.take_add_one, hn]; rfl
              rw [if_pos (by simp [nm]; omega), show ((n : Nat) : Int).toNat = n from rfl, ht, show ((1 : Nat) : Int) = 1 from rfl] at h33
              clear ht hx hcell
              go_wp2_with (go_at_call 33; (with_reducible refine h33.mono ?_); rintro e w9 ⟨rfl, hb9, hk9⟩)
              first
                | exact ⟨⟨j + 1, by omega, by simp, hb9, hkj.then hk9⟩, by simp only [intOf]; omega⟩
                | exact ⟨⟨.int .i64 ((j : Int) + 1), _, _, _, _, _, _, _, _, _, _, _, _, ⟨j + 1, by omega, by simp, hb9, hkj.then hk9⟩, rfl⟩, by show L.length - ((j : Int) + 1).toNat < L.length - (j : Int).toNat; omega⟩
            · rw [List.take_length] at hbj
              clear hx
              go_wp2
              go_end0
              refine ⟨rfl, ?_, (K7.then (Kp.of hg8)).then hkj⟩
              rw [hMe, plus_plus, Cn.add_assoc, dl_app] at hbj
              first | exact hbj | (rw [hLE]; exact hbj)
        · have K7' : Kp (· = b) W W7 := hk.then hkx
          have P0 : W7.cell? ⟨w.heap.size, 0, none⟩ = some (.int .i64 v) := K7'.cell (b1.cell 0) hne1
          have P1 : W7.cell? ⟨w.heap.size, 1, none⟩ = some (.slice ka kn kc) := K7'.cell (b1.cell 1) hne1
          have P2 : W7.cell? ⟨w.heap.size, 2, none⟩ = some (.int .u64 fl1) := K7'.cell (b1.cell 2) hne1
          have P3 : W7.cell? ⟨w.heap.size, 3, none⟩ = some (.int .i64 ex) := K7'.cell (b1.cell 3) hne1
          have P4 : W7.cell? ⟨w.heap.size, 4, none⟩ = some (.int .u64 tk) := K7'.cell (b1.cell 4) hne1
          have P5 : W7.cell? ⟨w.heap.size, 5, none⟩ = some (.int .u64 de) := K7'.cell (b1.cell 5) hne1
          have P6 : W7.cell? ⟨w.heap.size, 6, none⟩ = some (.slice da dn dc) := K7'.cell (b1.cell 6) hne1
          have P7 : W7.cell? ⟨w.heap.size, 7, none⟩ = some (.bool nr) := K7'.cell (b1.cell 7) hne1
          have P8 : W7.cell? ⟨w.heap.size, 8, none⟩ = some (.bool lg) := K7'.cell (b1.cell 8) hne1
          have P9 : W7.cell? ⟨w.heap.size, 9, none⟩ = some (.slice ma mn mc) := K7'.cell (b1.cell 9) hne1
          have P10 : W7.cell? ⟨w.heap.size, 10, none⟩ = some (.string what) := K7'.cell (b1.cell 10) hne1
          have Q0 : W7.cell? ⟨w.heap.size + 1, 0, none⟩ = some (.int .i64 ak) := K7'.cell (b2.cell 0) hne2
          have Q1 : W7.cell? ⟨w.heap.size + 1, 1, none⟩ = some (.slice x1 n1 c1) := K7'.cell (b2.cell 1) hne2
          have Q2 : W7.cell? ⟨w.heap.size + 1, 2, none⟩ = some (.int .u64 n2) := K7'.cell (b2.cell 2) hne2
          have Q3 : W7.cell? ⟨w.heap.size + 1, 3, none⟩ = some (sv tx) := K7'.cell (b2.cell 3) hne2
          have Q4 : W7.cell? ⟨w.heap.size + 1, 4, none⟩ = some (.slice x3 n3 c3) := K7'.cell (b2.cell 4) hne2
          have m7 := hm.kept K7 hmo7
          have y7 := hy.kept K7 hyo7
          have hLE : rcmdL v ak cd fl why = rtext v ak why := by simp only [rcmdL]; rw [if_neg (by omega)]
          have hT := h44 W7 y7 hw
          unfold TellsL at hT
          rw [hLE] at hnm
          generalize rtext v ak why = L at *
          clear h43 h44
          have f1 : decide (20 ≤ v) = true := decide_eq_true e20
          have f2 : decide (v ≤ 24) = false := decide_eq_false e24
          have f3 : (ak == (11 : Int)) = false := by simp [hk11]
          go_wp2_with fail
          refine hT.mono ?_
          rintro e W8 ⟨v13, rfl, ho, hg8⟩
          have hb8 : Rb W8 b _ := Box.kept hb7 hg8 (by simp)
          have hrl := World.ownsRow.lt ho
          have hs7 := K7.size
          obtain ⟨ao, cp, rfl, hlc, hcp, hx⟩ := ho.ints
          rw [List.length_map] at hlc
          simp only [List.length_map] at ho hrl ⊢
          unfold maxLen at hcp
          have hLl : L.length ≤ 9223372036854775807 := by omega
          clear hT
          go_wp2
          go_loopw [14] (fun v wq => ∃ j : Nat, j ≤ L.length ∧ v = .int .i64 j ∧ Rb wq b (plus M (dl (L.take j))) ∧ Kp (· = b) W8 wq) (fun v _ => L.length - (intOf v).toNat)
          case atStart => exact ⟨0, by omega, rfl, by rw [List.take_zero, plus_dl_nil hM]; exact hb8, Kp.refl _ _⟩
          case round =>
            obtain ⟨j, hj, rfl, hbj, hkj⟩ := hrel
            rcases (by omega : j < L.length ∨ j = L.length) with hlt | rfl
            · obtain ⟨n, hn⟩ : ∃ n, L[j]? = some n := ⟨_, List.getElem?_eq_getElem hlt⟩
              obtain ⟨gg, oo, rfl, hcell⟩ := hx j (n : Int) (by rw [List.getElem?_map, hn]; rfl)
              have hgb : ¬ gg = b := by have := (hrl gg rfl).1; omega
              have hcj := hkj.cell hcell hgb
              have hnn := hnm n (List.mem_of_getElem? hn)
              have d1 : (j : Int) < L.length := by omega
              have h33 := radd_33 b (plus M (dl (L.take j))) (n : Nat) 1 wr hbj (plus_fit _ _) (by omega)
              have ht : plus (plus M (dl (L.take j))) (sgl n 1) = plus M (dl (L.take (j + 1))) := by
                rw [← dl_one, plus_dl, List.take_add_one, hn]; rfl
              rw [if_pos (by simp [nm]; omega), show ((n : Nat) : Int).toNat = n from rfl, ht, show ((1 : Nat) : Int) = 1 from rfl] at h33
              clear ht hx hcell
              go_wp2_with (go_at_call 33; (with_reducible refine h33.mono ?_); rintro e w9 ⟨rfl, hb9, hk9⟩)
              first
                | exact ⟨⟨j + 1, by omega, by simp, hb9, hkj.then hk9⟩, by simp only [intOf]; omega⟩
                | exact ⟨⟨.int .i64 ((j : Int) + 1), _, _, _, _, _, _, _, _, _, _, _, _, ⟨j + 1, by omega, by simp, hb9, hkj.then hk9⟩, rfl⟩, by show L.length - ((j : Int) + 1).toNat < L.length - (j : Int).toNat; omega⟩
            · rw [List.take_length] at hbj
              clear hx
              go_wp2
              go_end0
              refine ⟨rfl, ?_, (K7.then (Kp.of hg8)).then hkj⟩
              rw [hMe, plus_plus, Cn.add_assoc, dl_app] at hbj
              first | exact hbj | (rw [hLE]; exact hbj)
end Go.Proofs.YtonbkpfnpnlkpaaDoor

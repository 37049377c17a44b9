/-
  CountTable.
-/
import Derived.Test.YtonbkpfnpnlkpaaDoorOb
import Derived.Test.YtonbkpfnpnlkpaaDoorV
namespace Go.Proofs.YtonbkpfnpnlkpaaDoor
open Go.RowKit
set_option linter.unusedVariables false
set_option linter.unusedSimpArgs false
attribute [local go_sem] Oper.semAt_some

theorem StP.kept {B : Nat} {N : Cn} {v : Value} {w w' : World} (h : StP B N v w) (hg : w.grownBy w' none) : StP B N v w' := by
  obtain ⟨g, c, rfl, hr⟩ := h
  exact ⟨g, c, rfl, row_kept hr hg (by simp)⟩
set_option maxRecDepth 100000 in
set_option maxHeartbeats 8000000 in
theorem table_4 (v : Value) (l : List Oc) (w : World) (hW : Wo w) (hv : Ocs w v l) :
    Calls Tryd.prog 4 #[v] w fun e w' => e = .returned (.bool true) ∧ w.grownBy w' none := by
  obtain ⟨ao, c, rfl, hlc, hc, hx⟩ := hv
  unfold maxLen at hc
  have hlen : l.length ≤ 9223372036854775807 := by omega
  have h10 := wakes_10 w hW
  have h00 := hW.lt
  go_enter Tryd.func4, Tryd.ntmps4
  go_wp2_with (go_at_call 10; (with_reducible refine h10.mono ?_); rintro e w0 ⟨rfl, hg0⟩)
  go_loopw [3] (fun v wr => ∃ i : Nat, i ≤ l.length ∧ i ≤ 2000 ∧ v = .int .i64 i ∧ w.grownBy wr none) (fun v _ => l.length - (intOf v).toNat)
  case atStart => exact ⟨0, by omega, by omega, rfl, hg0⟩
  case round =>
    obtain ⟨i, hi, hi2, rfl, G⟩ := hrel
    have Wr := hW.kept (Kp.of (F := fun _ => False) G) (fun h => h)
    have hgs := G.size
    rcases (by omega : (i < l.length ∧ i < 2000) ∨ ¬ (i < l.length ∧ i < 2000)) with ⟨hlt, hlt2⟩ | hend
    · obtain ⟨x, hxi⟩ : ∃ x, l[i]? = some x := ⟨_, List.getElem?_eq_getElem hlt⟩
      obtain ⟨ok, g, o, rfl, hcells⟩ := hx i x hxi
      have hgw : g < w.heap.size := World.block_lt_of_cell? _ _ (hcells 0 _ rfl)
      have d1 : (i : Int) < l.length := by omega
      have d2 : (i : Int) < 2000 := by omega
      clear hx
      obtain ⟨⟨vb, ka, kn, kc, fl1, ex, tk, de, da, dn, dc, nr, lg, ma, mn, mc, what⟩, ⟨ak, en, nu, tx, st⟩, y, ⟨dr, re, bu, li, lo, cr⟩, fl, why⟩ := x
      obtain ⟨ha, hfl, hwy, hm⟩ := ok
      have ha0 := ha
      obtain ⟨⟨x1, n1, k1, e1⟩, ⟨n2, e2⟩, ⟨x3, n3, k3, e3⟩, hl⟩ := ha0
      simp only at e1 e2 e3 hl
      subst e1 e2 e3
      obtain ⟨ya, yc, rfl, hyl⟩ : ∃ ya yc, y = .slice ya why.length yc ∧ True := by obtain ⟨p, q, e, _⟩ := hwy; exact ⟨p, q, e, trivial⟩
      obtain ⟨yn, hyn⟩ : ∃ yn, yn = why.length := ⟨_, rfl⟩
      simp only [Cm.mt, ← hyn] at hfl hwy hcells
      clear hyn hyl
      go_wp2_with fail
      refine (new_11 wr).mono ?_
      rintro e w1 ⟨rfl, hb1, g1, s1⟩
      go_wp2_with fail
      refine (rnew_12 w1).mono ?_
      rintro e w2 ⟨rfl, hr2, g2, s2⟩
      have hb2 : Bd w2 wr.heap.size 0 N0 := Box.kept hb1 g2 (by simp)
      have G2 := gb_trans (gb_trans G g1) g2
      obtain ⟨b, hbe⟩ : ∃ b, b = wr.heap.size := ⟨_, rfl⟩
      obtain ⟨r, hre⟩ : ∃ r, r = w1.heap.size := ⟨_, rfl⟩
      rw [← hbe] at hb2 ⊢
      rw [← hre] at hr2 ⊢
      have hwb : w.heap.size ≤ b := by omega
      have hwr : w.heap.size ≤ r := by omega
      have hbr : ¬ b = r := by omega
      have hrb : ¬ r = b := by omega
      have hgb : ¬ g = b := by omega
      have hgr : ¬ g = r := by omega
      clear hbe hre hb1 s1 s2 h10
      have s0 : w2.cell? ⟨g, o + i * 23, none⟩ = some (.int .i64 vb) := gb_cellN G2 (hcells 0 _ rfl)
      have s1 : w2.cell? ⟨g, o + i * 23 + 1, none⟩ = some (.slice ka kn kc) := gb_cellN G2 (hcells 1 _ rfl)
      have s2 : w2.cell? ⟨g, o + i * 23 + 2, none⟩ = some (.int .u64 fl1) := gb_cellN G2 (hcells 2 _ rfl)
      have s3 : w2.cell? ⟨g, o + i * 23 + 3, none⟩ = some (.int .i64 ex) := gb_cellN G2 (hcells 3 _ rfl)
      have s4 : w2.cell? ⟨g, o + i * 23 + 4, none⟩ = some (.int .u64 tk) := gb_cellN G2 (hcells 4 _ rfl)
      have s5 : w2.cell? ⟨g, o + i * 23 + 5, none⟩ = some (.int .u64 de) := gb_cellN G2 (hcells 5 _ rfl)
      have s6 : w2.cell? ⟨g, o + i * 23 + 6, none⟩ = some (.slice da dn dc) := gb_cellN G2 (hcells 6 _ rfl)
      have s7 : w2.cell? ⟨g, o + i * 23 + 7, none⟩ = some (.bool nr) := gb_cellN G2 (hcells 7 _ rfl)
      have s8 : w2.cell? ⟨g, o + i * 23 + 8, none⟩ = some (.bool lg) := gb_cellN G2 (hcells 8 _ rfl)
      have s9 : w2.cell? ⟨g, o + i * 23 + 9, none⟩ = some (.slice ma mn mc) := gb_cellN G2 (hcells 9 _ rfl)
      have s10 : w2.cell? ⟨g, o + i * 23 + 10, none⟩ = some (.string what) := gb_cellN G2 (hcells 10 _ rfl)
      have s11 : w2.cell? ⟨g, o + i * 23 + 11, none⟩ = some (.int .i64 ak) := gb_cellN G2 (hcells 11 _ rfl)
      have s12 : w2.cell? ⟨g, o + i * 23 + 12, none⟩ = some (.slice x1 n1 k1) := gb_cellN G2 (hcells 12 _ rfl)
      have s13 : w2.cell? ⟨g, o + i * 23 + 13, none⟩ = some (.int .u64 n2) := gb_cellN G2 (hcells 13 _ rfl)
      have s14 : w2.cell? ⟨g, o + i * 23 + 14, none⟩ = some (sv tx) := gb_cellN G2 (hcells 14 _ rfl)
      have s15 : w2.cell? ⟨g, o + i * 23 + 15, none⟩ = some (.slice x3 n3 k3) := gb_cellN G2 (hcells 15 _ rfl)
      have s16 : w2.cell? ⟨g, o + i * 23 + 16, none⟩ = some (.slice ya yn yc) := gb_cellN G2 (hcells 16 _ rfl)
      have s17 : w2.cell? ⟨g, o + i * 23 + 17, none⟩ = some (.int .i64 dr) := gb_cellN G2 (hcells 17 _ rfl)
      have s18 : w2.cell? ⟨g, o + i * 23 + 18, none⟩ = some (.int .i64 re) := gb_cellN G2 (hcells 18 _ rfl)
      have s19 : w2.cell? ⟨g, o + i * 23 + 19, none⟩ = some (.int .i64 bu) := gb_cellN G2 (hcells 19 _ rfl)
      have s20 : w2.cell? ⟨g, o + i * 23 + 20, none⟩ = some (.int .i64 li) := gb_cellN G2 (hcells 20 _ rfl)
      have s21 : w2.cell? ⟨g, o + i * 23 + 21, none⟩ = some (.int .i64 lo) := gb_cellN G2 (hcells 21 _ rfl)
      have s22 : w2.cell? ⟨g, o + i * 23 + 22, none⟩ = some (.int .i64 cr) := gb_cellN G2 (hcells 22 _ rfl)
      have hoF : Off (.slice ma mn mc) (· = b) := hfl.off (fun k hk => by omega)
      have hoFr : Off (.slice ma mn mc) (· = r) := hfl.off (fun k hk => by omega)
      have hwf := few_ints hwy
      have hoY : Off (fw (.slice ya yn yc)) (· = b) := hwf.off (fun k hk => by omega)
      have hoYr : Off (fw (.slice ya yn yc)) (· = r) := hwf.off (fun k hk => by omega)
      have h20 := fun (X : World) (hX : w.grownBy X none) => few_20 (.slice ya yn yc) why X (hwy.kept (Kp.of (F := fun _ => False) hX) (fun _ _ _ _ _ h => h))
      have h20a := fun (X : World) (hX : w2.grownBy X none) => h20 X (gb_trans G2 hX)
      have h19 := fun (X : World) (hX : w2.grownBy X none) => command_19 b N0 ⟨vb, ka, kn, kc, fl1, ex, tk, de, da, dn, dc, nr, lg, ma, mn, mc, what⟩ ⟨ak, .slice x1 n1 k1, .int .u64 n2, tx, .slice x3 n3 k3⟩ (fw (.slice ya yn yc)) fl (why.take 10000) ⟨dr, re, bu, li, lo, cr⟩ X (Box.kept hb2 hX (by simp)) N0_fit ha (hfl.kept (Kp.of (F := fun _ => False) (gb_trans G2 hX)) (fun _ _ _ _ _ h => h)) hoF (hwf.kept (Kp.of (F := fun _ => False) (gb_trans G2 hX)) (fun _ _ _ _ _ h => h)) hoY hm
      generalize fw (.slice ya yn yc) = fy at *
      clear hcells
      go_wp2_with fail
      go_region_held3 (fun X => X.cell? ⟨g, o + i * 23, none⟩ = some (.int .i64 vb) ∧ X.cell? ⟨g, o + i * 23 + 1, none⟩ = some (.slice ka kn kc) ∧ X.cell? ⟨g, o + i * 23 + 2, none⟩ = some (.int .u64 fl1) ∧ X.cell? ⟨g, o + i * 23 + 3, none⟩ = some (.int .i64 ex) ∧ X.cell? ⟨g, o + i * 23 + 4, none⟩ = some (.int .u64 tk) ∧ X.cell? ⟨g, o + i * 23 + 5, none⟩ = some (.int .u64 de) ∧ X.cell? ⟨g, o + i * 23 + 6, none⟩ = some (.slice da dn dc) ∧ X.cell? ⟨g, o + i * 23 + 7, none⟩ = some (.bool nr) ∧ X.cell? ⟨g, o + i * 23 + 8, none⟩ = some (.bool lg) ∧ X.cell? ⟨g, o + i * 23 + 9, none⟩ = some (.slice ma mn mc) ∧ X.cell? ⟨g, o + i * 23 + 10, none⟩ = some (.string what) ∧ X.cell? ⟨g, o + i * 23 + 11, none⟩ = some (.int .i64 ak) ∧ X.cell? ⟨g, o + i * 23 + 12, none⟩ = some (.slice x1 n1 k1) ∧ X.cell? ⟨g, o + i * 23 + 13, none⟩ = some (.int .u64 n2) ∧ X.cell? ⟨g, o + i * 23 + 14, none⟩ = some (sv tx) ∧ X.cell? ⟨g, o + i * 23 + 15, none⟩ = some (.slice x3 n3 k3) ∧ X.cell? ⟨g, o + i * 23 + 16, none⟩ = some (.slice ya yn yc) ∧ X.cell? ⟨g, o + i * 23 + 17, none⟩ = some (.int .i64 dr) ∧ X.cell? ⟨g, o + i * 23 + 18, none⟩ = some (.int .i64 re) ∧ X.cell? ⟨g, o + i * 23 + 19, none⟩ = some (.int .i64 bu) ∧ X.cell? ⟨g, o + i * 23 + 20, none⟩ = some (.int .i64 li) ∧ X.cell? ⟨g, o + i * 23 + 21, none⟩ = some (.int .i64 lo) ∧ X.cell? ⟨g, o + i * 23 + 22, none⟩ = some (.int .i64 cr)) ((first | exact ⟨hk3.cell s0 hgb, hk3.cell s1 hgb, hk3.cell s2 hgb, hk3.cell s3 hgb, hk3.cell s4 hgb, hk3.cell s5 hgb, hk3.cell s6 hgb, hk3.cell s7 hgb, hk3.cell s8 hgb, hk3.cell s9 hgb, hk3.cell s10 hgb, hk3.cell s11 hgb, hk3.cell s12 hgb, hk3.cell s13 hgb, hk3.cell s14 hgb, hk3.cell s15 hgb, hk3.cell s16 hgb, hk3.cell s17 hgb, hk3.cell s18 hgb, hk3.cell s19 hgb, hk3.cell s20 hgb, hk3.cell s21 hgb, hk3.cell s22 hgb⟩ | go_keep)) ((first | (go_at_call 20; (first | (with_reducible refine (h20a _ (gb_drew (gb_refl _ _))).mono ?_) | (with_reducible refine (h20a _ (gb_drewN (gb_refl _ _) _)).mono ?_) | (with_reducible refine (h20a _ (gb_refl _ _)).mono ?_) | (with_reducible refine (h20a _ (gb_drewN (gb_drew (gb_refl _ _)) _)).mono ?_)); rintro e8 w8 ⟨rfl, rfl⟩) | (go_at_call 19; (first | (with_reducible refine (h19 _ (gb_drew (gb_refl _ _))).mono ?_) | (with_reducible refine (h19 _ (gb_drewN (gb_refl _ _) _)).mono ?_) | (with_reducible refine (h19 _ (gb_refl _ _)).mono ?_) | (with_reducible refine (h19 _ (gb_drewN (gb_drew (gb_refl _ _)) _)).mono ?_)); rintro e3 w3 ⟨rfl, hb3, hk3⟩)))
      have K3 : Kp (· = b) w2 w3 := (Kp.drew _ _).then hk3
      have G3 : w.grownBy w3 none := ((Kp.of (F := (· = b)) G2).then K3).grown (fun i h => by omega)
      have hr3 := Rb.kept hr2 K3 hrb
      have t0 := K3.cell s0 hgb
      have t1 := K3.cell s1 hgb
      have t2 := K3.cell s2 hgb
      have t3 := K3.cell s3 hgb
      have t4 := K3.cell s4 hgb
      have t5 := K3.cell s5 hgb
      have t6 := K3.cell s6 hgb
      have t7 := K3.cell s7 hgb
      have t8 := K3.cell s8 hgb
      have t9 := K3.cell s9 hgb
      have t10 := K3.cell s10 hgb
      have t11 := K3.cell s11 hgb
      have t12 := K3.cell s12 hgb
      have t13 := K3.cell s13 hgb
      have t14 := K3.cell s14 hgb
      have t15 := K3.cell s15 hgb
      have t16 := K3.cell s16 hgb
      have t17 := K3.cell s17 hgb
      have t18 := K3.cell s18 hgb
      have t19 := K3.cell s19 hgb
      have t20 := K3.cell s20 hgb
      have t21 := K3.cell s21 hgb
      have t22 := K3.cell s22 hgb
      have h20b := fun (X : World) (hX : w3.grownBy X none) => h20 X (gb_trans G3 hX)
      have h21 := fun (X : World) (hX : w3.grownBy X none) => rcommand_21 r N0 ⟨vb, ka, kn, kc, fl1, ex, tk, de, da, dn, dc, nr, lg, ma, mn, mc, what⟩ ⟨ak, .slice x1 n1 k1, .int .u64 n2, tx, .slice x3 n3 k3⟩ fy fl (why.take 10000) ⟨dr, re, bu, li, lo, cr⟩ X (Box.kept hr3 hX (by simp)) N0_fit ha (hfl.kept (Kp.of (F := fun _ => False) (gb_trans G3 hX)) (fun _ _ _ _ _ h => h)) hoFr (hwf.kept (Kp.of (F := fun _ => False) (gb_trans G3 hX)) (fun _ _ _ _ _ h => h)) hoYr hm (by simp; omega)
      clear h20a h19 h20 hk3
      go_wp2_with fail
      go_region_held3 (fun X => X.cell? ⟨g, o + i * 23, none⟩ = some (.int .i64 vb) ∧ X.cell? ⟨g, o + i * 23 + 1, none⟩ = some (.slice ka kn kc) ∧ X.cell? ⟨g, o + i * 23 + 2, none⟩ = some (.int .u64 fl1) ∧ X.cell? ⟨g, o + i * 23 + 3, none⟩ = some (.int .i64 ex) ∧ X.cell? ⟨g, o + i * 23 + 4, none⟩ = some (.int .u64 tk) ∧ X.cell? ⟨g, o + i * 23 + 5, none⟩ = some (.int .u64 de) ∧ X.cell? ⟨g, o + i * 23 + 6, none⟩ = some (.slice da dn dc) ∧ X.cell? ⟨g, o + i * 23 + 7, none⟩ = some (.bool nr) ∧ X.cell? ⟨g, o + i * 23 + 8, none⟩ = some (.bool lg) ∧ X.cell? ⟨g, o + i * 23 + 9, none⟩ = some (.slice ma mn mc) ∧ X.cell? ⟨g, o + i * 23 + 10, none⟩ = some (.string what) ∧ X.cell? ⟨g, o + i * 23 + 11, none⟩ = some (.int .i64 ak) ∧ X.cell? ⟨g, o + i * 23 + 12, none⟩ = some (.slice x1 n1 k1) ∧ X.cell? ⟨g, o + i * 23 + 13, none⟩ = some (.int .u64 n2) ∧ X.cell? ⟨g, o + i * 23 + 14, none⟩ = some (sv tx) ∧ X.cell? ⟨g, o + i * 23 + 15, none⟩ = some (.slice x3 n3 k3) ∧ X.cell? ⟨g, o + i * 23 + 16, none⟩ = some (.slice ya yn yc) ∧ X.cell? ⟨g, o + i * 23 + 17, none⟩ = some (.int .i64 dr) ∧ X.cell? ⟨g, o + i * 23 + 18, none⟩ = some (.int .i64 re) ∧ X.cell? ⟨g, o + i * 23 + 19, none⟩ = some (.int .i64 bu) ∧ X.cell? ⟨g, o + i * 23 + 20, none⟩ = some (.int .i64 li) ∧ X.cell? ⟨g, o + i * 23 + 21, none⟩ = some (.int .i64 lo) ∧ X.cell? ⟨g, o + i * 23 + 22, none⟩ = some (.int .i64 cr)) ((first | exact ⟨hk4.cell t0 hgr, hk4.cell t1 hgr, hk4.cell t2 hgr, hk4.cell t3 hgr, hk4.cell t4 hgr, hk4.cell t5 hgr, hk4.cell t6 hgr, hk4.cell t7 hgr, hk4.cell t8 hgr, hk4.cell t9 hgr, hk4.cell t10 hgr, hk4.cell t11 hgr, hk4.cell t12 hgr, hk4.cell t13 hgr, hk4.cell t14 hgr, hk4.cell t15 hgr, hk4.cell t16 hgr, hk4.cell t17 hgr, hk4.cell t18 hgr, hk4.cell t19 hgr, hk4.cell t20 hgr, hk4.cell t21 hgr, hk4.cell t22 hgr⟩ | go_keep)) ((first | (go_at_call 20; (first | (with_reducible refine (h20b _ (gb_drew (gb_refl _ _))).mono ?_) | (with_reducible refine (h20b _ (gb_drewN (gb_refl _ _) _)).mono ?_) | (with_reducible refine (h20b _ (gb_refl _ _)).mono ?_) | (with_reducible refine (h20b _ (gb_drewN (gb_drew (gb_refl _ _)) _)).mono ?_)); rintro e8 w8 ⟨rfl, rfl⟩) | (go_at_call 21; (first | (with_reducible refine (h21 _ (gb_drew (gb_refl _ _))).mono ?_) | (with_reducible refine (h21 _ (gb_drewN (gb_refl _ _) _)).mono ?_) | (with_reducible refine (h21 _ (gb_refl _ _)).mono ?_) | (with_reducible refine (h21 _ (gb_drewN (gb_drew (gb_refl _ _)) _)).mono ?_)); rintro e4 w4 ⟨rfl, hr4, hk4⟩)))
      have K4 : Kp (· = r) w3 w4 := (Kp.drew _ _).then hk4
      have G4 : w.grownBy w4 none := ((Kp.of (F := (· = r)) G3).then K4).grown (fun i h => by omega)
      have hb4 := Bd.kept hb3 K4 hbr
      have W4 := hW.kept (Kp.of (F := fun _ => False) G4) (fun h => h)
      rw [← cmdD_eq] at hr4
      generalize plus N0 (cmdD ⟨vb, ka, kn, kc, fl1, ex, tk, de, da, dn, dc, nr, lg, ma, mn, mc, what⟩ ⟨ak, .slice x1 n1 k1, .int .u64 n2, tx, .slice x3 n3 k3⟩ fl (why.take 10000) ⟨dr, re, bu, li, lo, cr⟩) = NN at *
      clear h20b h21 hk4
      go_wp2_with fail
      refine (stats_15 b NN w4 hb4 W4 (by omega)).mono ?_
      rintro e w5 ⟨v5, rfl, st5, hb5, hk5⟩
      have hr5 := Rb.kept hr4 hk5 hrb
      have G5 : w.grownBy w5 none := ((Kp.of (F := (· = b)) G4).then hk5).grown (fun i h => by omega)
      go_wp2_with fail
      refine (rstats_16 r NN w5 hr5).mono ?_
      rintro e w6 ⟨v6, rfl, st6, hg6⟩
      go_wp2_with fail
      refine (lines_14 (st5.kept hg6) st6).mono ?_
      rintro e w7 ⟨rfl, hg7⟩
      have G7 := gb_trans (gb_trans G5 hg6) hg7
      go_wp2
      refine ⟨⟨i + 1, by omega, by omega, by simp, G7⟩, ?_⟩
      simp only [intOf]; omega
    · have hstop : ¬ ((i : Int) < l.length) ∨ ((i : Int) < l.length ∧ ¬ ((i : Int) < 2000)) := by omega
      clear hx hend
      rcases hstop with h1 | ⟨h1, h2⟩
      · go_wp2
        go_ret
        exact ⟨rfl, G⟩
      · go_wp2
        go_ret
        exact ⟨rfl, G⟩
end Go.Proofs.YtonbkpfnpnlkpaaDoor

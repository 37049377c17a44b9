import Derived.Test.YtobegepebochkaaGreatDoorPby
import Derived.Test.YtobegepebochkaaGreatDoorBl
import Derived.Test.YtobegepebochkaaGreatDoorPbt
import Derived.Test.YtobegepebochkaaGreatDoorPbd
import Derived.WalkKit
import Derived.ProofKit
import Derived.OpenShut
import Derived.Below
import Derived.Deep.Slices
import Derived.SizedLaws
import Derived.Deep.MidRow
import Derived.Deep.LoopGhost
import Derived.Test.YtobegepebochkaaGreatDoorRows
import Derived.Test.YtobegepebochkaaGreatDoorPap
import Derived.Great.Walk
import Derived.Deep.RegionHeld3
import Derived.Great.BuildSlice
import Derived.Test.YtobegepebochkaaGreatDoorPau
import Derived.Test.YtobegepebochkaaGreatDoorE
import Derived.Stop.LaidErr
import Derived.MakeChecks
import Derived.Test.YtobegepebochkaaGreatDoorPae
import Derived.Test.YtobegepebochkaaGreatDoorPbp
set_option linter.unusedVariables false
set_option linter.unusedSimpArgs false
namespace Go.Proofs.YtobegepebochkaaGreatDoor
open Go.RowKit Go.Maps
def Rr (w : World) (a : Option Addr) (ls : List (Bs × Int)) : Prop :=
  0 < ls.length → ∃ g o, a = some ⟨g, o, none⟩ ∧ ∀ i p, ls[i]? = some p → ∃ u, w.cell? ⟨g, o + i * 2, none⟩ = some u ∧ w.cell? ⟨g, o + i * 2 + 1, none⟩ = some (.int .i64 p.2) ∧ Bw w u p.1 ∧ p.2 ≤ 9223372036854775807 ∧ -9223372036854775808 ≤ p.2
theorem lent_ra {w : World} {B g c : Nat} {l : Bs} (h : w.ownsRow B 5 1 (.slice (some ⟨g, 0, none⟩) (l.length + 70) c) (l.length + 70) ((l ++ mks 70).map b8)) (hl : l.length ≤ 65536) : Ra w g 0 c l := by
  have hA : Ck w (fun _ => False) (.slice (some ⟨g, 0, none⟩) l.length c) l := lent_ck (m := mks 70) (by rw [mks_length]; exact h) _ (fun h => h)
  rcases hA with ⟨_, h⟩ | ⟨g', o, c', e, h1, h2, h3, h4, h5⟩
  · cases h
  · cases e
    exact ⟨h1, h2, h3, h5, by omega⟩
set_option maxRecDepth 100000 in
set_option maxHeartbeats 16000000 in
theorem all_4 {w : World} (hE : Er w) {la : Option Addr} {lc : Nat} {ls : List (Bs × Int)} (hr : Rr w la ls) (hlen : ls.length ≤ 9223372036854775807) :
    Calls Tryz.prog 4 #[.slice la ls.length lc] w fun e w' => e = .returned (.bool true) ∧ w.grownBy w' none := by
  have hb0 : Box (w.alloc (.cells (bkA nilS nilS nilS nilS nilS nilS nilS nilS nilS nilS nilS 0) 31)) 31 w.heap.size (bkA nilS nilS nilS nilS nilS nilS nilS nilS nilS nilS nilS 0) := Box.new _ _ _
  have hf0 := Box.new (w.alloc (.cells (bkA nilS nilS nilS nilS nilS nilS nilS nilS nilS nilS nilS 0) 31)) 35 #[.slice none 0 0]
  have hs0 : (w.alloc (.cells (bkA nilS nilS nilS nilS nilS nilS nilS nilS nilS nilS nilS 0) 31)).heap.size = w.heap.size + 1 := by simp
  have hW : Wa w ((w.alloc (.cells (bkA nilS nilS nilS nilS nilS nilS nilS nilS nilS nilS nilS 0) 31)).alloc (.cells #[.slice none 0 0] 35)) w.heap.size (w.heap.size + 1) (fun _ => False) (fun _ => False) (fun _ => False) 0 := by
    have g1 := gb_alloc (gb_refl (w.alloc (.cells (bkA nilS nilS nilS nilS nilS nilS nilS nilS nilS nilS nilS 0) 31)) none) (.cells #[.slice none 0 0] 35)
    rw [hs0] at hf0
    refine ⟨_, _, Bst.new (hb0.kept g1 (by simp)), Fok.new hf0, fun k h1 h2 => by omega, fun k hk => ⟨by omega, fun h => h⟩, fun k hk => ⟨by omega, fun h => h⟩, fun _ h => h.elim, gb_trans (gb_alloc (gb_refl w none) _) g1⟩
  have HW : Hid _ := hW
  clear hb0 hf0 hs0 hW
  generalize hn : ls.length = n at *
  go_enter Tryz.func4, Tryz.ntmps4
  go_wp2
  go_loopw [5] (fun v wr => ∃ (i J : Nat) (Pb Pm R : Nat → Prop), i ≤ n ∧ i ≤ 40 ∧ J ≤ 3 * i ∧ v = .int .i64 i ∧ Wa w wr w.heap.size (w.heap.size + 1) Pb Pm R J) (fun v _ => n - (intOf v).toNat)
  case atStart => exact ⟨0, 0, _, _, _, by omega, by omega, by omega, rfl, HW.out⟩
  case round =>
    obtain ⟨i, J, Pb, Pm, R, hi, hi3, hJ, rfl, hW⟩ := hrel
    clear HW
    by_cases hlt : i < n ∧ i < 40
    · obtain ⟨⟨l, lim⟩, hl⟩ : ∃ l, ls[i]? = some l := ⟨_, List.getElem?_eq_getElem (by omega)⟩
      obtain ⟨g, o, rfl, hel⟩ := hr (by omega)
      obtain ⟨u, hu, hu1, hbw, hm1, hm2⟩ := hel i _ hl
      simp only at hu hu1 hbw hm1 hm2
      have d1 : decide ((i : Int) < (n : Int)) = true := by simp; omega
      have d2 : decide ((i : Int) < 40) = true := by simp; omega
      have hib : (i : Int) < (n : Int) := by omega
      have hib3 : (i : Int) < 40 := by omega
      have e0 := gb_cellN hW.gb hu
      have e1 := gb_cellN hW.gb hu1
      have hlr : (l.take 65536).length ≤ 65536 := by rw [List.length_take]; omega
      have h25 := clipW (hbw.kept hW.gb)
      generalize l.take 65536 = raw at *
      have HW : Hid (Wa w wr w.heap.size (w.heap.size + 1) Pb Pm R J) := hW
      obtain ⟨S, hS⟩ : ∃ S, wr.heap.size = S := ⟨_, rfl⟩
      have HWN : Hid (Wa w wr w.heap.size (w.heap.size + 1) (fun k => S ≤ k) (fun k => S ≤ k) (fun _ => False) J) := by
        rw [← hS]
        exact hW.new
      have HS : Hid (wr.heap.size = S) := hS
      clear hS
      have HU : Hid (w.cell? ⟨g, o + i * 2 + 1, none⟩ = some (.int .i64 lim)) := hu1
      obtain ⟨ua, un, uc, rfl, rfl⟩ := hbw.slice
      clear hel hl hW hu hu1 hbw
      go_wp2_with fail
      refine h25.mono ?_
      rintro y w' ⟨cv, rfl, hbc, hw'⟩
      have hw2 := hw'.symm
      subst hw2
      clear h25
      have h26 := rallW hbc (by omega) lim hm1 hm2
      go_wp2_with fail
      refine h26.mono ?_
      rintro y w1 ⟨vw, qw, left, rfl, DW, -⟩
      clear h26 e0 e1
      have hg1 := DW.gb
      have hG1 := gb_trans HW.out.gb hg1
      have h14 := lendW (hbc.kept hg1) (by omega)
      have HDW : Hid (DlR wr lim.toNat raw qw vw left w1) := DW
      have HBC : Hid (Bw wr cv raw) := hbc
      have HG1 : Hid (wr.grownBy w1 none) := hg1
      clear DW hbc hg1
      go_wp2_with fail
      refine h14.mono ?_
      rintro y w2 ⟨gl, cl, rfl, hlent, hg2⟩
      clear h14
      have hG2 := gb_trans hG1 hg2
      have e1 := gb_cellN hG2 HU.out
      have h27x := all_someP (hE.kept hG2) (lent_ra hlent hlr) (by omega) lim hm1 hm2
      have HL2 : Hid (w2.ownsRow w1.heap.size 5 1 (.slice (some ⟨gl, 0, none⟩) (raw.length + 70) cl) (raw.length + 70) ((raw ++ mks 70).map b8)) := hlent
      have HG2 : Hid (w1.grownBy w2 none) := hg2
      clear hlent hg2 hG1
      go_wp2_with fail
      refine h27x.mono ?_
      rintro y w3 ⟨vx, qx, lx, rfl, AX, px, gx⟩
      clear h27x e1
      have hG3 := gb_trans hG2 AX.gb
      have e1 := gb_cellN hG3 HU.out
      have h27y := all_someP (hE.kept hG3) (lent_ra (row_kept HL2.out AX.gb (by simp)) hlr) (by omega) lim hm1 hm2
      have HX : Hid (AlR w2 lim.toNat raw qx vx lx w3 ∧ Pw qx ∧ Ge w2.heap.size qx) := ⟨AX, px, gx⟩
      clear AX px gx hG2
      go_wp2_with fail
      refine h27y.mono ?_
      rintro y w4 ⟨vy, qy, ly, rfl, AY, py, gy⟩
      clear h27y e1
      have hG4 := gb_trans hG3 AY.gb
      have hl4 := row_kept (row_kept HL2.out HX.out.1.gb (by simp)) AY.gb (by simp)
      have h17 := intactW hl4 (HBC.out.kept (gb_trans HG1.out (gb_trans HG2.out (gb_trans HX.out.1.gb AY.gb)))) (by omega)
      have HY : Hid (AlR w3 lim.toNat raw qy vy ly w4 ∧ Pw qy ∧ Ge w3.heap.size qy) := ⟨AY, py, gy⟩
      have HL4 : Hid (w4.ownsRow w1.heap.size 5 1 (.slice (some ⟨gl, 0, none⟩) (raw.length + 70) cl) (raw.length + 70) ((raw ++ mks 70).map b8)) := hl4
      clear AY py gy hG3 hl4
      go_wp2_with fail
      refine h17.mono ?_
      rintro y w5 ⟨rfl, hg5⟩
      clear h17
      have hG5 := gb_trans hG4 hg5
      have hl5 := row_kept HL4.out hg5 (by simp)
      have HG5 : Hid (w4.grownBy w5 none) := hg5
      clear hG4 hg5
      go_wp2_with fail
      have HL5 : Hid (w5.ownsRow w1.heap.size 5 1 (.slice (some ⟨gl, 0, none⟩) (raw.length + 70) cl) (raw.length + 70) ((raw ++ mks 70).map b8)) := hl5
      obtain ⟨m, hm⟩ : ∃ m, raw.length = m := ⟨_, rfl⟩
      have HM : Hid (raw.length = m) := hm
      have hcl : m + 70 ≤ cl ∧ cl ≤ 9223372036854775807 := by
        obtain ⟨a0, c0, q0, -, q1, q2, -⟩ := row_shape hl5
        cases q0
        unfold maxLen at q2
        omega
      rw [hm] at hl5 ⊢
      rw [hm] at hlr
      clear hm
      go_loopw [14] (fun v wq => ∃ (k : Nat) (vs : Bs), k ≤ m ∧ v = .int .i64 k ∧ vs.length = m ∧ wq.ownsRow w1.heap.size 5 1 (.slice (some ⟨gl, 0, none⟩) (m + 70) cl) (m + 70) ((vs ++ mks 70).map b8) ∧ w5.grownBy wq (some gl)) (fun v _ => m - (intOf v).toNat)
      case atStart => exact ⟨0, raw, by omega, rfl, HM.out, hl5, gb_refl _ _⟩
      case round =>
        clear hl5
        obtain ⟨k, vs, hk, rfl, hvl, hown, hF⟩ := hrel
        by_cases hkm : k < m
        · obtain ⟨j, hj⟩ : ∃ j : Nat, j = m - 1 - k := ⟨_, rfl⟩
          have hjm : j < m := by omega
          have hji : (m : Int) - 1 - (k : Int) = (j : Int) := by omega
          have hw1 : IntKind.i64.wrap ((m : Int) - 1) = (m : Int) - 1 := by rw [IntKind.wrap_i64]; omega
          have hw2 : IntKind.i64.wrap (j : Int) = (j : Int) := by rw [IntKind.wrap_i64]; omega
          have hcj : wr.cell? ⟨gl, j, none⟩ = some (b8 (vs.getD j 0)) := row_cell hown j _ (by rw [List.getElem?_map, List.getElem?_append_left (by omega)]; simp [List.getD, show j < vs.length by omega])
          have hck : wr.cell? ⟨gl, k, none⟩ = some (b8 (vs.getD k 0)) := row_cell hown k _ (by rw [List.getElem?_map, List.getElem?_append_left (by omega)]; simp [List.getD, show k < vs.length by omega])
          have hfz := World.ownsRow.frozenAt hown k
          have hst := World.ownsRow.stored hown k (b8 (vs.getD j 0))
          have HO : Hid ((wr.setCell ⟨gl, k, none⟩ (b8 (vs.getD j 0))).ownsRow w1.heap.size 5 1 (.slice (some ⟨gl, 0, none⟩) (m + 70) cl) (m + 70) ((vs.set k (vs.getD j 0) ++ mks 70).map b8)) := by
            show World.ownsRow _ _ _ _ _ _ _
            rw [← List.set_append_left _ _ (by omega), List.map_set]
            exact row_set hown k (b8 (vs.getD j 0))
          have HF : Hid (w5.grownBy (wr.setCell ⟨gl, k, none⟩ (b8 (vs.getD j 0))) (some gl)) := gb_trans hF hst.2
          have hkb : (k : Int) < (m : Int) := by omega
          have hjb : (j : Int) < (m : Int) := by omega
          clear hst hj hown
          generalize vs.getD j 0 = bt at *
          go_wp2_with fail
          go_roundw
          case rel => exact ⟨k + 1, vs.set k bt, by omega, by go_num, by simpa using hvl, HO.out, HF.out⟩
          case measure => simp [intOf]; omega
        · obtain rfl : k = m := by omega
          subst hvl
          have hgl := row_ge HL2.out (j := gl) rfl
          have hz1 := HW.out.gb.size
          have hz2 := HG1.out.size
          have hG6 : w.grownBy wr none := gb_mine hG5 hF (by omega)
          have e1 := gb_cellN hG6 HU.out
          have h27z := all_someP (hE.kept hG6) (lent_ra hown hlr) (by omega) lim hm1 hm2
          have HO : Hid (wr.ownsRow w1.heap.size 5 1 (.slice (some ⟨gl, 0, none⟩) (vs.length + 70) cl) (vs.length + 70) ((vs ++ mks 70).map b8)) := hown
          have HF : Hid (w5.grownBy wr (some gl)) := hF
          clear hown hF
          go_wp2_with fail
          refine h27z.mono ?_
          rintro y w6 ⟨vz, qz, lz, rfl, AZ, pz, gz⟩
          clear h27z e1
          have hG7 := gb_trans hG6 AZ.gb
          have e1 := gb_cellN hG7 HU.out
          have hck6 : Ck w6 (fun _ => False) (.slice (some ⟨gl, 0, none⟩) vs.length cl) vs := lent_ck (m := mks 70) (by rw [mks_length]; exact row_kept HO.out AZ.gb (by simp)) _ (fun h => h)
          have h26 := rallW (.inl hck6) (by omega) lim hm1 hm2
          have HZ : Hid (AlR wr lim.toNat vs qz vz lz w6 ∧ Pw qz ∧ Ge wr.heap.size qz) := ⟨AZ, pz, gz⟩
          clear AZ pz gz hck6
          go_wp2_with fail
          refine h26.mono ?_
          rintro y w7 ⟨vd, qd, rest, rfl, DD, gd⟩
          clear h26 e1
          obtain ⟨hlx, ex⟩ := left_eq HX.out.1 HDW.out
          obtain ⟨hly, ey⟩ := left_eq HY.out.1 HDW.out
          obtain ⟨hlz, ez⟩ := left_eq HZ.out.1 DD
          subst hlx hlz
          have hly2 := hly.symm
          subst hly2
          have rx3 := HX.out.1.rg hm1 (by rw [HM.out]; exact hlr) HX.out.2.1 HX.out.2.2
          have ry4 := HY.out.1.rg hm1 (by rw [HM.out]; exact hlr) HY.out.2.1 HY.out.2.2
          have rz6 := HZ.out.1.rg hm1 hlr HZ.out.2.1 HZ.out.2.2
          have rx5 := (rx3.kept0 HY.out.1.gb).kept0 HG5.out
          have ry5 := ry4.kept0 HG5.out
          have rx7 := ((rx5.kept1 HF.out hgl.2).kept0 HZ.out.1.gb).kept0 DD.gb
          have ry7 := ((ry5.kept1 HF.out (Nat.lt_of_lt_of_le hgl.2 HX.out.1.gb.size)).kept0 HZ.out.1.gb).kept0 DD.gb
          have rz7 := rz6.kept0 DD.gb
          have hg15 := gb_trans HG2.out (gb_trans HX.out.1.gb (gb_trans HY.out.1.gb HG5.out))
          have hg17 := gb_trans (gb_trans (gb_mine hg15 HF.out hgl.1) HZ.out.1.gb) DD.gb
          have hlw : raw.length ≤ 65536 := by rw [HM.out]; exact hlr
          have hS2 := HS.out
          have hW5 := HWN.out.grow (gb_trans HG1.out hg15)
          have hW7 := ((hW5.writes HF.out (by omega) ⟨by show S ≤ gl; omega, by show S ≤ gl; omega, fun h => h⟩).grow HZ.out.1.gb).grow DD.gb
          have hl7 := row_kept (row_kept HO.out HZ.out.1.gb (by simp)) DD.gb (by simp)
          have sW := HDW.out.sq hm1 hlw hg17
          have sD := DD.sq hm1 hlr (gb_refl _ _)
          have hA := samesteps_28 rx7.sq sW ex
          have hB := fun W (hg : w7.grownBy W none) => samesteps_28 (ry7.sq.kept0 hg) (sW.kept0 hg) ey
          have hC := fun W (hg : w7.grownBy W none) => samesteps_28 (rz7.sq.kept0 hg) (sD.kept0 hg) ez
          have HR7 : Hid (Rg w7 w2.heap.size w3.heap.size (vx, qx) ∧ Rg w7 w3.heap.size w4.heap.size (vy, qy) ∧ Rg w7 wr.heap.size w6.heap.size (vz, qz)) := ⟨rx7, ry7, rz7⟩
          have HB : Hid _ := hB
          have HC : Hid _ := hC
          have HD : Hid (DlR w6 lim.toNat vs qd vd lz w7 ∧ Ge w6.heap.size qd) := ⟨DD, gd⟩
          have HG17 : Hid (w1.grownBy w7 none) := hg17
          have HW7 : Hid (Wa w w7 w.heap.size (w.heap.size + 1) (fun k => S ≤ k) (fun k => S ≤ k) (fun _ => False) J) := hW7
          have HL7 : Hid (w7.ownsRow w1.heap.size 5 1 (.slice (some ⟨gl, 0, none⟩) (vs.length + 70) cl) (vs.length + 70) ((vs ++ mks 70).map b8)) := hl7
          have HE : Hid (qx.map Tld.s = qw.map Tld.s ∧ qz.map Tld.s = qd.map Tld.s) := ⟨ex, ez⟩
          have HSZ : Hid (S ≤ w2.heap.size ∧ w4.heap.size ≤ wr.heap.size ∧ w2.heap.size ≤ w3.heap.size ∧ w3.heap.size ≤ w4.heap.size ∧ w.heap.size ≤ S ∧ S ≤ gl ∧ w1.heap.size ≤ gl ∧ gl < w2.heap.size ∧ gl < w6.heap.size) := by
            have := HX.out.1.gb.size
            have := HY.out.1.gb.size
            have := HG5.out.size
            have := HF.out.size
            have := HG2.out.size
            have := HZ.out.1.gb.size
            exact ⟨by omega, by omega, by omega, by omega, by omega, by omega, by omega, by omega, by omega⟩
          clear rx3 ry4 rz6 rx5 ry5 rx7 ry7 rz7 hg15 hg17 hW5 hW7 hl7 sW sD hB hC DD gd ex ey ez hS2 hG5 hG6 hG7 hz1 hz2 hgl
          go_wp2_with fail
          refine hA.mono ?_
          rintro y w8 ⟨rfl, hg8⟩
          clear hA
          have hB8 := HB.out _ hg8
          have HG8 : Hid (w7.grownBy w8 none) := hg8
          clear hg8
          go_wp2_with fail
          refine hB8.mono ?_
          rintro y w9 ⟨rfl, hg9⟩
          clear hB8
          have HG9 : Hid (w7.grownBy w9 none) := gb_trans HG8.out hg9
          have hC9 := HC.out _ HG9.out
          clear hg9
          go_wp2_with fail
          refine hC9.mono ?_
          rintro y w10 ⟨rfl, hg10⟩
          clear hC9
          have HG10 : Hid (w7.grownBy w10 none) := gb_trans HG9.out hg10
          clear hg10
          have hl10 := row_kept HL7.out HG10.out (by simp)
          have h18 := lentover_18 (n := vs.length) hl10 (by omega) (by simp [mks_length]) (by omega)
          clear hl10
          go_wp2_with fail
          refine h18.mono ?_
          rintro y w11 ⟨rfl, hg11⟩
          clear h18
          obtain ⟨z1, z2, z3, z4, z5, z6, z7, z8, z9⟩ := HSZ.out
          have k11 : Kp (fun k => k = gl) w7 w11 := ((Kp.refl _ w7).step HG10.out (by simp)).step hg11 (fun i hi => .inl (Option.some.inj hi).symm)
          have hW11 := (HW7.out.grow HG10.out).writes hg11 (by omega) ⟨z6, z6, fun h => h⟩
          have rx11 := HR7.out.1.kp k11 (fun k e => by omega)
          have ry11 := HR7.out.2.1.kp k11 (fun k e => by omega)
          have rz11 := HR7.out.2.2.kp k11 (fun k e => by omega)
          have sW11 := HDW.out.sq hm1 (by rw [HM.out]; exact hlr) (gb_mine (gb_trans HG17.out HG10.out) hg11 z7)
          have sD11 := HD.out.1.low HD.out.2 hm1 hlr k11 (fun k e => by omega)
          have hA := samesteps_28 rx11.sq sW11 HE.out.1
          have hC := fun W (hg : w11.grownBy W none) => samesteps_28 (rz11.sq.kept0 hg) (sD11.kept0 hg) HE.out.2
          have HC : Hid _ := hC
          have HR11 : Hid (Rg w11 w2.heap.size w3.heap.size (vx, qx) ∧ Rg w11 w3.heap.size w4.heap.size (vy, qy) ∧ Rg w11 wr.heap.size w6.heap.size (vz, qz)) := ⟨rx11, ry11, rz11⟩
          have HW11 : Hid (Wa w w11 w.heap.size (w.heap.size + 1) (fun k => S ≤ k) (fun k => S ≤ k) (fun _ => False) J) := hW11
          clear k11 hW11 rx11 ry11 rz11 sW11 sD11 hC hg11 z1 z2 z3 z4 z5 z6 z7 z8 z9 HR7 HW7 HB
          go_wp2_with fail
          refine hA.mono ?_
          rintro y w12 ⟨rfl, hg12⟩
          clear hA
          have hC12 := HC.out _ hg12
          have HG12 : Hid (w11.grownBy w12 none) := hg12
          clear hg12
          go_wp2_with fail
          refine hC12.mono ?_
          rintro y w13 ⟨rfl, hg13⟩
          clear hC12
          have hg := gb_trans HG12.out hg13
          have HT : Hid (Tk w w13 w.heap.size (w.heap.size + 1) J [(vx, qx), (vy, qy), (vz, qz)] [(vx, qx), (vy, qy), (vz, qz)]) := by
            obtain ⟨z1, z2, z3, z4, z5, z6, z7, z8, z9⟩ := HSZ.out
            exact (HW11.out.grow hg).three z5 (HR11.out.1.kept0 hg) (HR11.out.2.1.kept0 hg) (HR11.out.2.2.kept0 hg) z1 (Nat.le_refl _) z2 z3 z4
          clear hg hg13 HG12 HR11 HW11 HC
          have h29x : Calls Tryz.prog 29 #[.pointer (some ⟨w.heap.size, 0, none⟩), vx] w13 fun y wq => y = .returned (.tuple #[]) ∧ Tk w wq w.heap.size (w.heap.size + 1) (J + 1) [(vy, qy), (vz, qz)] [(vx, qx), (vy, qy), (vz, qz)] := Tk.steps (p := (vx, qx)) HT.out (by simp) (by omega)
          clear HT
          go_wp2_with fail
          refine h29x.mono ?_
          rintro y w14 ⟨rfl, hT⟩
          clear h29x
          have HT : Hid (Tk w w14 w.heap.size (w.heap.size + 1) (J + 1) [(vy, qy), (vz, qz)] [(vx, qx), (vy, qy), (vz, qz)]) := hT
          clear hT
          have h29y : Calls Tryz.prog 29 #[.pointer (some ⟨w.heap.size, 0, none⟩), vy] w14 fun y wq => y = .returned (.tuple #[]) ∧ Tk w wq w.heap.size (w.heap.size + 1) (J + 1 + 1) [(vz, qz)] [(vx, qx), (vy, qy), (vz, qz)] := Tk.steps (p := (vy, qy)) HT.out (by simp) (by omega)
          clear HT
          go_wp2_with fail
          refine h29y.mono ?_
          rintro y w15 ⟨rfl, hT⟩
          clear h29y
          have HT : Hid (Tk w w15 w.heap.size (w.heap.size + 1) (J + 1 + 1) [(vz, qz)] [(vx, qx), (vy, qy), (vz, qz)]) := hT
          clear hT
          have h29z : Calls Tryz.prog 29 #[.pointer (some ⟨w.heap.size, 0, none⟩), vz] w15 fun y wq => y = .returned (.tuple #[]) ∧ Tk w wq w.heap.size (w.heap.size + 1) (J + 1 + 1 + 1) [] [(vx, qx), (vy, qy), (vz, qz)] := Tk.steps (p := (vz, qz)) HT.out (by simp) (by omega)
          clear HT
          go_wp2_with fail
          refine h29z.mono ?_
          rintro y w16 ⟨rfl, hT⟩
          clear h29z
          have HT : Hid (Tk w w16 w.heap.size (w.heap.size + 1) (J + 1 + 1 + 1) [] [(vx, qx), (vy, qy), (vz, qz)]) := hT
          clear hT
          have h30x : Calls Tryz.prog 30 #[.pointer (some ⟨w.heap.size + 1, 0, none⟩), vx] w16 fun y wq => y = .returned (.tuple #[]) ∧ Tk w wq w.heap.size (w.heap.size + 1) (J + 1 + 1 + 1) [] [(vy, qy), (vz, qz)] := Tk.flags (p := (vx, qx)) HT.out
          clear HT
          go_wp2_with fail
          refine h30x.mono ?_
          rintro y w17 ⟨rfl, hT⟩
          clear h30x
          have HT : Hid (Tk w w17 w.heap.size (w.heap.size + 1) (J + 1 + 1 + 1) [] [(vy, qy), (vz, qz)]) := hT
          clear hT
          have h30y : Calls Tryz.prog 30 #[.pointer (some ⟨w.heap.size + 1, 0, none⟩), vy] w17 fun y wq => y = .returned (.tuple #[]) ∧ Tk w wq w.heap.size (w.heap.size + 1) (J + 1 + 1 + 1) [] [(vz, qz)] := Tk.flags (p := (vy, qy)) HT.out
          clear HT
          go_wp2_with fail
          refine h30y.mono ?_
          rintro y w18 ⟨rfl, hT⟩
          clear h30y
          have HT : Hid (Tk w w18 w.heap.size (w.heap.size + 1) (J + 1 + 1 + 1) [] [(vz, qz)]) := hT
          clear hT
          have h30z : Calls Tryz.prog 30 #[.pointer (some ⟨w.heap.size + 1, 0, none⟩), vz] w18 fun y wq => y = .returned (.tuple #[]) ∧ Tk w wq w.heap.size (w.heap.size + 1) (J + 1 + 1 + 1) [] [] := Tk.flags (p := (vz, qz)) HT.out
          clear HT
          go_wp2_with fail
          refine h30z.mono ?_
          rintro y w19 ⟨rfl, hT⟩
          clear h30z
          have HT : Hid (Tk w w19 w.heap.size (w.heap.size + 1) (J + 1 + 1 + 1) [] []) := hT
          clear hT
          obtain ⟨Pb', Pm', R', hWn, -⟩ := HT.out
          have HWn : Hid (Wa w w19 w.heap.size (w.heap.size + 1) Pb' Pm' R' (J + 1 + 1 + 1)) := hWn
          clear hWn HT
          go_wp2_with fail
          go_roundw
          case rel => exact ⟨i + 1, J + 1 + 1 + 1, Pb', Pm', R', by omega, by omega, by omega, by go_num, HWn.out⟩
          case measure => simp [intOf]; omega
    · have h22 := hW.close (by omega)
      have HW : Hid (J ≤ 3 * i) := hJ
      clear hW
      by_cases hin : i < n
      · have d1 : decide ((i : Int) < (n : Int)) = true := by simp; omega
        have d2 : decide ((i : Int) < 40) = false := by simp; omega
        clear hlt HW
        go_wp2_with fail
        refine h22.mono ?_
        rintro e w1 ⟨rfl, hg1, FM, hF, hFM⟩
        have h23 := own_23 hF
        clear h22
        go_wp2_with fail
        refine h23.mono ?_
        rintro e w2 ⟨rfl, hk2⟩
        have hg2 := gb_of_kp hg1 hk2 hFM
        have h24 := wakes_5 (hE.kept hg2)
        clear h23
        go_wp2_with fail
        refine h24.mono ?_
        rintro e w3 ⟨rfl, hg3⟩
        clear h24
        go_wp2_with fail
        go_ret
        exact ⟨rfl, gb_trans hg2 hg3⟩
      · have d1 : decide ((i : Int) < (n : Int)) = false := by simp; omega
        clear hlt HW
        go_wp2_with fail
        refine h22.mono ?_
        rintro e w1 ⟨rfl, hg1, FM, hF, hFM⟩
        have h23 := own_23 hF
        clear h22
        go_wp2_with fail
        refine h23.mono ?_
        rintro e w2 ⟨rfl, hk2⟩
        have hg2 := gb_of_kp hg1 hk2 hFM
        have h24 := wakes_5 (hE.kept hg2)
        clear h23
        go_wp2_with fail
        refine h24.mono ?_
        rintro e w3 ⟨rfl, hg3⟩
        clear h24
        go_wp2_with fail
        go_ret
        exact ⟨rfl, gb_trans hg2 hg3⟩
end Go.Proofs.YtobegepebochkaaGreatDoor
namespace Go.Proofs.YtobegepebochkaaGreatDoor
open Go.ChangeShapes Go.WideShapes Go.ChangeAt Go.RowKit
section
variable {H : Type} {enc : TypeId × Value → H} {P : Program} {w : World} {base : Nat} {spare : Nat → Bool} {held : Bool}
theorem one_of {cs : List Value} {o : Nat} {v : Value} (h : (cs.drop o).take 1 = [v]) : cs[o]? = some v := by
  have : ((cs.drop o).take 1)[0]? = some v := by rw [h]; rfl
  simpa using this
theorem field_int {fs : Array Field} {f : Field} {k : IntKind} {t : TypeId} {fuel : Nat} {cs : List Value} {x : DataW H × List MemPlace} (i : Nat) (ht : P.underlying t = some (.struct fs)) (h : DataW.trod enc P w base spare held fuel t cs = some x)
    (hf : fs[i]? = some f) (hk : P.underlying f.type = some (.int k)) (hc : P.cellsOf f.type = 1) : ∃ n, cs[f.offset]? = some (.int k n) ∧ (Lit.int k n).wf = true := by
  obtain ⟨xs, n, _, rfl, hl, hlen, hff⟩ := DataW.trod_struct ht h
  have := hff i f hf
  have hi : i < xs.length := by rw [hlen]; exact (Array.getElem?_eq_some_iff.1 hf).1
  rw [List.getElem?_eq_getElem hi] at this
  obtain ⟨m, h1, _, h3⟩ := DataW.trod_int hk this
  rw [hc] at h1
  exact ⟨m, one_of h1, h3⟩
end
theorem bounds_u8 {z : Int} (h : (Lit.int .u8 z).wf = true) : 0 ≤ z ∧ z ≤ 255 := by
  simp only [Lit.wf] at h
  revert h
  simp [IntKind.min, IntKind.max, IntKind.signed, IntKind.bits]
theorem bounds_i64 {z : Int} (h : (Lit.int .i64 z).wf = true) : -9223372036854775808 ≤ z ∧ z ≤ 9223372036854775807 := by
  simp only [Lit.wf] at h
  revert h
  simp [IntKind.min, IntKind.max, IntKind.signed, IntKind.bits]
section
variable {H : Type} {enc : TypeId × Value → H} {w : World} {base : Nat} {spare : Nat → Bool} {held : Bool}
end
end Go.Proofs.YtobegepebochkaaGreatDoor
namespace Go.Proofs.YtobegepebochkaaGreatDoor
open Go.RowKit Go.Maps
abbrev mk : Fl := ⟨109, [109, 97, 114, 107], false⟩
end Go.Proofs.YtobegepebochkaaGreatDoor
namespace Go.Proofs.YtobegepebochkaaGreatDoor
open Go Go.RowKit Go.Shelf
theorem gES : Tryz.prog.globalNamed "strconv.ErrSyntax" = some 2 := by kernel_rfl
theorem gER : Tryz.prog.globalNamed "strconv.ErrRange" = some 3 := by kernel_rfl
theorem gEST : (Tryz.prog.globals[2]?).map (·.type) = some 201 := by kernel_rfl
theorem gERT : (Tryz.prog.globals[3]?).map (·.type) = some 201 := by kernel_rfl
theorem cellsErr : Tryz.prog.cellsOf 248 = 1 := by kernel_rfl
theorem cells9 : Tryz.prog.cellsOf 9 = 1 := by kernel_rfl
theorem rowErr (u : TypeId) (h : Tryz.prog.typeName? 3 u = Tryz.prog.typeName? 3 246) : u = 246 :=
  typeName_ptr_named (nm := "errors.errorString") (by kernel_rfl) (by kernel_rfl) (by decide) u (h.trans (by kernel_rfl))
end Go.Proofs.YtobegepebochkaaGreatDoor
namespace Go.Proofs.YtobegepebochkaaGreatDoor
open Go.ChangeShapes Go.WideShapes Go.ChangeAt Go.RowKit Go.Shelf
section
variable {H : Type} {enc : TypeId × Value → H} {P : Program} {w : World} {base : Nat} {spare : Nat → Bool} {held : Bool}
theorem plain_of {a : Addr} {v : Value} (h : w.cell? (a.add 0) = some v) : ∃ b o, a = ⟨b, o, none⟩ := by
  have := World.cell?_spot h
  obtain ⟨b, o, s⟩ := a
  refine ⟨b, o, ?_⟩
  simp [Addr.add] at this
  rw [this]
end
section
variable {H : Type} {enc : TypeId × Value → H} {w : World} {base : Nat} {spare : Nat → Bool} {held : Bool}
end
end Go.Proofs.YtobegepebochkaaGreatDoor
namespace Go.Proofs.YtobegepebochkaaGreatDoor
open Go.ChangeShapes Go.WideShapes Go.ChangeAt Go.RowKit Go.Shelf
theorem cells38 : Tryz.prog.cellsOf 38 = 1 := by kernel_rfl
section
variable {H : Type} {enc : TypeId × Value → H} {w : World} {base : Nat} {spare : Nat → Bool} {held : Bool}
end
end Go.Proofs.YtobegepebochkaaGreatDoor

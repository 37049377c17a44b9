import Derived.Test.YtobegepebochkaaGreatDoorVPbw
import Derived.Test.YtobegepebochkaaGreatDoorVPas
set_option linter.unusedVariables false
set_option linter.unusedSimpArgs false
namespace Go.Proofs.YtobegepebochkaaGreatDoor
open Go.RowKit Go.Maps
abbrev ovS : Bs := [111, 118, 101, 114]
set_option maxRecDepth 100000 in
set_option maxHeartbeats 16000000 in
theorem back_36g {x2 x3 : Value} {w : World} {lb B g c tg tc : Nat} {D : Bs} {KD : List Bs} (h : LntG x2 x3 w lb B g c D) (ht : LtR x2 x3 w B tg tc KD) (hD : D.length ≤ 1000000) (hKD : KD.length ≤ 100000000) :
    Calls Tryz.prog 36 #[.pointer (some ⟨lb, 0, none⟩)] w fun e w' => e = .returned (.bool true) ∧ Box w' 68 lb #[.slice none 0 0, .slice none 0 0, .slice none 0 0, .slice none 0 0] ∧ Kp (fun k => k = lb ∨ k = g ∨ k = tg) w w' := by
  obtain ⟨gl, cl, gw, cw, u, cu, hb, hl, hw, hg, hu, n1, n2⟩ := h
  obtain ⟨tl, tcl, tw, tcw, tu, tcu, rfl, rfl, htl, htw, htg, htu, n3, n4⟩ := ht
  have hlg : lb ≠ g := fun e => row_box hg hb (by decide) g rfl (by rw [e])
  have hltg : lb ≠ tg := fun e => row_box htg hb (by decide) tg rfl (by rw [e])
  have dif : ∀ {e1 e2 z1 z2 m1 m2 a1 a2 k1 k2 : Nat} {y1 y2 : List Value}, w.ownsRow B e1 z1 (.slice (some ⟨a1, 0, none⟩) m1 k1) m1 y1 → w.ownsRow B e2 z2 (.slice (some ⟨a2, 0, none⟩) m2 k2) m2 y2 → e1 ≠ e2 → a1 ≠ a2 := fun r1 r2 hne e => by
    obtain ⟨c1, h1⟩ := row_block r1 _ rfl
    obtain ⟨c2, h2⟩ := row_block r2 _ rfl
    exact ne_of_type h1 h2 hne e
  have hgl : gl ≠ g := dif hl hg (by decide)
  have htgg : tg ≠ g := dif htg hg (by decide)
  have htlg : tl ≠ g := dif htl hg (by decide)
  have htltg : tl ≠ tg := dif htl htg (by decide)
  clear dif
  have hgk : c ≤ 9223372036854775807 ∧ D.length ≤ c := by
    obtain ⟨a0, c0, q0, -, q1, q2, -⟩ := row_shape hg
    cases q0
    unfold maxLen at q2
    omega
  have htk : tc ≤ 9223372036854775807 ∧ KD.length ≤ tc := by
    obtain ⟨a0, c0, q0, -, q1, q2, -⟩ := row_shape htg
    cases q0
    unfold maxLen at q2
    omega
  go_enter Tryz.func36, Tryz.ntmps36
  go_wp2
  go_loopw [3] (fun v wy => ∃ i : Nat, i ≤ 1 ∧ v = .int .i64 i ∧ World.grownBy w wy none) (fun v _ => 1 - (intOf v).toNat)
  case atStart => exact ⟨0, by omega, rfl, gb_refl _ _⟩
  case round =>
    obtain ⟨i, hi, rfl, hgr⟩ := hrel
    have hz := hb.kept hgr (by simp)
    have c0 : wr.cell? ⟨lb, 0, none⟩ = some (.slice (some ⟨gl, 0, none⟩) 1 cl) := hz.cell 0
    have c1 : wr.cell? ⟨lb, 1, none⟩ = some (.slice (some ⟨gw, 0, none⟩) 1 cw) := hz.cell 1
    by_cases hi0 : i < 1
    · obtain rfl : i = 0 := by omega
      have k1 := ck_own (X := fun _ => False) (row_kept hg hgr (by simp)) (fun _ _ h => h)
      have k2 := ck_own (X := fun _ => False) (row_kept hu hgr (by simp)) (fun _ _ h => h)
      have d1 : wr.cell? ⟨gl, 0, none⟩ = some (.slice (some ⟨g, 0, none⟩) D.length c) := row_cell (row_kept hl hgr (by simp)) 0 _ rfl
      have d2 : wr.cell? ⟨gw, 0, none⟩ = some (.slice (some ⟨u, 0, none⟩) D.length cu) := row_cell (row_kept hw hgr (by simp)) 0 _ rfl
      have q1 := fun q => Ck.conv (w := wr.drewN q) (show Ck (wr.drewN q) (fun _ => False) _ D from k1)
      have q2 := fun q => Ck.conv (w := wr.drewN q) (show Ck (wr.drewN q) (fun _ => False) _ D from k2)
      clear hz k1 k2 hb hl hw hg hu htl htw htg htu
      go_wp2
      go_quiet (fail)
      go_wp2
      exact ⟨⟨1, by omega, by go_num, gb_drewN hgr _⟩, by simp [intOf]⟩
    · obtain rfl : i = 1 := by omega
      have c2 : wr.cell? ⟨lb, 2, none⟩ = some (.slice (some ⟨tl, 0, none⟩) 1 tcl) := hz.cell 2
      have HZ : Hid _ := hz
      have HG : Hid (w.grownBy wr none) := hgr
      have HR : Hid (wr.ownsRow B 5 1 (.slice (some ⟨g, 0, none⟩) D.length c) D.length (D.map b8)) := row_kept hg hgr (by simp)
      have HL : Hid (wr.ownsRow B 38 1 (.slice (some ⟨gl, 0, none⟩) 1 cl) 1 [.slice (some ⟨g, 0, none⟩) D.length c]) := row_kept hl hgr (by simp)
      have HT : Hid (wr.ownsRow B 9 1 (.slice (some ⟨tg, 0, none⟩) KD.length tc) KD.length (KD.map sv)) := row_kept htg hgr (by simp)
      have HTL : Hid (wr.ownsRow B 36 1 (.slice (some ⟨tl, 0, none⟩) 1 tcl) 1 [.slice (some ⟨tg, 0, none⟩) KD.length tc]) := row_kept htl hgr (by simp)
      have HTW : Hid (wr.ownsRow B 36 1 (.slice (some ⟨tw, 0, none⟩) 1 tcw) 1 [.slice (some ⟨tu, 0, none⟩) KD.length tcu]) := row_kept htw hgr (by simp)
      have HTU : Hid (wr.ownsRow B 9 1 (.slice (some ⟨tu, 0, none⟩) KD.length tcu) KD.length (KD.map sv)) := row_kept htu hgr (by simp)
      clear hz hgr hb hl hw hg hu c1 htl htw htg htu
      go_wp2
      obtain ⟨wr9, hr9⟩ : ∃ w9, w9 = wr := ⟨wr, rfl⟩
      subst hr9
      go_loopw [4] (fun v wy => ∃ i : Nat, i ≤ 1 ∧ v = .int .i64 i ∧ World.grownBy wr9 wy none) (fun v _ => 1 - (intOf v).toNat)
      case atStart => exact ⟨0, by omega, rfl, gb_refl _ _⟩
      case round =>
        obtain ⟨j, hj, rfl, hgj⟩ := hrel
        have hzj := Box.kept HZ.out hgj (by simp)
        have c2 : wr.cell? ⟨lb, 2, none⟩ = some (.slice (some ⟨tl, 0, none⟩) 1 tcl) := hzj.cell 2
        have c3 : wr.cell? ⟨lb, 3, none⟩ = some (.slice (some ⟨tw, 0, none⟩) 1 tcw) := hzj.cell 3
        by_cases hj0 : j < 1
        · obtain rfl : j = 0 := by omega
          have d1 : wr.cell? ⟨tl, 0, none⟩ = some (.slice (some ⟨tg, 0, none⟩) KD.length tc) := row_cell (row_kept HTL.out hgj (by simp)) 0 _ rfl
          have d2 : wr.cell? ⟨tw, 0, none⟩ = some (.slice (some ⟨tu, 0, none⟩) KD.length tcu) := row_cell (row_kept HTW.out hgj (by simp)) 0 _ rfl
          have h82a := ws_row (row_kept HT.out hgj (by simp)) rfl
          have h82b := ws_row (row_kept HTU.out hgj (by simp)) rfl
          have HGJ : Hid (wr9.grownBy wr none) := hgj
          clear hzj hgj
          have h82' : ∀ W, wr.grownBy W none → Calls Tryz.prog 82 #[.slice (some ⟨tg, 0, none⟩) KD.length tc, .slice (some ⟨tu, 0, none⟩) KD.length tcu] W fun e w' => e = .returned (.bool true) ∧ W.grownBy w' none := fun W hW => texts_82 (h82a.kept0 hW) (h82b.kept0 hW) (by omega)
          go_wp2_with fail
          go_region_with (go_at_call 82; go_must ((with_reducible refine (h82' _ (by first | exact gb_drew (gb_refl _ _) | exact gb_drewN (gb_refl _ _) _)).mono ?_); rintro e wz ⟨rfl, gz⟩))
          all_goals go_wp2
          all_goals exact ⟨⟨_, _, _, _, _, _, _, _, _, _, _, _, _, _, _, _, _, _, _, _, _, _, _, _, _, _, _, ⟨1, by omega, rfl, gb_trans HGJ.out (gb_trans (by first | exact gb_drew (gb_refl _ _) | exact gb_drewN (gb_refl _ _) _) gz)⟩, rfl⟩, by simp [intOf]⟩
        · obtain rfl : j = 1 := by omega
          have HZ' : Hid _ := hzj
          have HG' : Hid (w.grownBy wr none) := gb_trans HG.out hgj
          have HR' : Hid (wr.ownsRow B 5 1 (.slice (some ⟨g, 0, none⟩) D.length c) D.length (D.map b8)) := row_kept HR.out hgj (by simp)
          have HL' : Hid (wr.ownsRow B 38 1 (.slice (some ⟨gl, 0, none⟩) 1 cl) 1 [.slice (some ⟨g, 0, none⟩) D.length c]) := row_kept HL.out hgj (by simp)
          have HT' : Hid (wr.ownsRow B 9 1 (.slice (some ⟨tg, 0, none⟩) KD.length tc) KD.length (KD.map sv)) := row_kept HT.out hgj (by simp)
          have HTL' : Hid (wr.ownsRow B 36 1 (.slice (some ⟨tl, 0, none⟩) 1 tcl) 1 [.slice (some ⟨tg, 0, none⟩) KD.length tc]) := row_kept HTL.out hgj (by simp)
          have c0 : wr.cell? ⟨lb, 0, none⟩ = some (.slice (some ⟨gl, 0, none⟩) 1 cl) := hzj.cell 0
          clear HZ HG HR HL HT HTL HTW HTU hzj hgj c3
          go_wp2
          obtain ⟨wr0, hr0⟩ : ∃ w0, w0 = wr := ⟨wr, rfl⟩
          subst hr0
          go_loopw [5, 6] (fun v x6 wy => ∃ (i : Nat) (E : Bs), i ≤ 1 ∧ v = .int .i64 i ∧ E.length = D.length ∧ wy.ownsRow B 5 1 (.slice (some ⟨g, 0, none⟩) D.length c) D.length (E.map b8) ∧ wr0.grownBy wy (some g)) (fun v _ _ => 1 - (intOf v).toNat)
          case atStart => exact ⟨0, D, by omega, rfl, rfl, HR'.out, gb_refl _ _⟩
          case round =>
            obtain ⟨i, E, hi, rfl, hE, hown, hgr⟩ := hrel
            have hz := Box.kept HZ'.out hgr (some_ne2 hlg)
            have c0 : wr.cell? ⟨lb, 0, none⟩ = some (.slice (some ⟨gl, 0, none⟩) 1 cl) := hz.cell 0
            by_cases hi0 : i < 1
            · obtain rfl : i = 0 := by omega
              have HO : Hid (wr.ownsRow B 5 1 (.slice (some ⟨g, 0, none⟩) D.length c) D.length (E.map b8)) := hown
              have HGR : Hid (wr0.grownBy wr (some g)) := hgr
              clear hown hgr hz
              go_wp2
              go_loopw [6] (fun v wy => ∃ (k : Nat) (E : Bs), k ≤ D.length ∧ v = .int .i64 k ∧ E.length = D.length ∧ wy.ownsRow B 5 1 (.slice (some ⟨g, 0, none⟩) D.length c) D.length (E.map b8) ∧ wr0.grownBy wy (some g)) (fun v _ => D.length - (intOf v).toNat)
              case atStart => exact ⟨0, E, by omega, rfl, hE, HO.out, HGR.out⟩
              case round =>
                clear HO HGR hE c0
                obtain ⟨k, E', hk, rfl, hE', hown, hgr⟩ := hrel
                have hz := Box.kept HZ'.out hgr (some_ne2 hlg)
                have c0 : wr.cell? ⟨lb, 0, none⟩ = some (.slice (some ⟨gl, 0, none⟩) 1 cl) := hz.cell 0
                have c2 : wr.cell? ⟨gl, 0, none⟩ = some (.slice (some ⟨g, 0, none⟩) D.length c) := row_cell (row_kept HL'.out hgr (fun k hk e => by simp [Value.ownBlock] at hk; subst hk; exact hgl (Option.some.inj e))) 0 _ rfl
                by_cases hkD : k < D.length
                · have d1 : (k : Int) < (D.length : Int) := by omega
                  have hck : wr.cell? ⟨g, k, none⟩ = some (b8 (E'.getD k 0)) := row_cell hown k _ (by rw [List.getElem?_map]; simp [List.getD, show k < E'.length by omega])
                  have hfz := World.ownsRow.frozenAt hown k
                  have HO : Hid ((wr.setCell ⟨g, k, none⟩ (b8 90)).ownsRow B 5 1 (.slice (some ⟨g, 0, none⟩) D.length c) D.length ((E'.set k 90).map b8)) := by
                    show World.ownsRow _ _ _ _ _ _ _
                    rw [List.map_set]
                    exact row_set hown k (b8 90)
                  have HF : Hid (wr0.grownBy (wr.setCell ⟨g, k, none⟩ (b8 90)) (some g)) := gb_trans hgr (gb_setCell (gb_refl _ _) _)
                  have HEl : Hid ((E'.set k 90).length = D.length) := by rw [← hE']; exact List.length_set
                  clear hown hgr hz hE'
                  go_wp2_with fail
                  go_roundw
                  case rel => exact ⟨k + 1, E'.set k 90, by omega, by go_num, HEl.out, HO.out, HF.out⟩
                  case measure => simp [intOf]; omega
                · obtain rfl : k = D.length := by omega
                  have HO : Hid (wr.ownsRow B 5 1 (.slice (some ⟨g, 0, none⟩) D.length c) D.length (E'.map b8)) := hown
                  have HGR : Hid (wr0.grownBy wr (some g)) := hgr
                  have HEl : Hid (E'.length = D.length) := hE'
                  clear hown hgr hz hE'
                  go_wp2_with fail
                  go_roundw
                  case rel => exact ⟨1, E', by omega, by go_num, HEl.out, HO.out, HGR.out⟩
                  case measure => simp [intOf]
            · obtain rfl : i = 1 := by omega
              have c2 : wr.cell? ⟨lb, 2, none⟩ = some (.slice (some ⟨tl, 0, none⟩) 1 tcl) := hz.cell 2
              have HT2 : Hid (wr.ownsRow B 9 1 (.slice (some ⟨tg, 0, none⟩) KD.length tc) KD.length (KD.map sv)) := row_kept HT'.out hgr (fun k hk e => by simp [Value.ownBlock] at hk; subst hk; exact htgg (Option.some.inj e))
              have HTL2 : Hid (wr.ownsRow B 36 1 (.slice (some ⟨tl, 0, none⟩) 1 tcl) 1 [.slice (some ⟨tg, 0, none⟩) KD.length tc]) := row_kept HTL'.out hgr (fun k hk e => by simp [Value.ownBlock] at hk; subst hk; exact htlg (Option.some.inj e))
              have HGR : Hid (wr0.grownBy wr (some g)) := hgr
              have HZ2 : Hid _ := hz
              clear hown hgr hz hE
              go_wp2
              obtain ⟨wr1, hr1⟩ : ∃ w0, w0 = wr := ⟨wr, rfl⟩
              subst hr1
              go_loopw [7, 8] (fun v x8 wy => ∃ (i : Nat) (E : List Bs), i ≤ 1 ∧ v = .int .i64 i ∧ E.length = KD.length ∧ wy.ownsRow B 9 1 (.slice (some ⟨tg, 0, none⟩) KD.length tc) KD.length (E.map sv) ∧ wr1.grownBy wy (some tg)) (fun v _ _ => 1 - (intOf v).toNat)
              case atStart => exact ⟨0, KD, by omega, rfl, rfl, HT2.out, gb_refl _ _⟩
              case round =>
                obtain ⟨i, E, hi, rfl, hE, hown, hgr⟩ := hrel
                have hz := Box.kept HZ2.out hgr (some_ne2 hltg)
                have c0 : wr.cell? ⟨lb, 2, none⟩ = some (.slice (some ⟨tl, 0, none⟩) 1 tcl) := hz.cell 2
                by_cases hi0 : i < 1
                · obtain rfl : i = 0 := by omega
                  have HO : Hid (wr.ownsRow B 9 1 (.slice (some ⟨tg, 0, none⟩) KD.length tc) KD.length (E.map sv)) := hown
                  have HGR : Hid (wr1.grownBy wr (some tg)) := hgr
                  clear hown hgr hz
                  go_wp2
                  go_loopw [8] (fun v wy => ∃ (k : Nat) (E : List Bs), k ≤ KD.length ∧ v = .int .i64 k ∧ E.length = KD.length ∧ wy.ownsRow B 9 1 (.slice (some ⟨tg, 0, none⟩) KD.length tc) KD.length (E.map sv) ∧ wr1.grownBy wy (some tg)) (fun v _ => KD.length - (intOf v).toNat)
                  case atStart => exact ⟨0, E, by omega, rfl, hE, HO.out, HGR.out⟩
                  case round =>
                    clear HO HGR hE c0
                    obtain ⟨k, E', hk, rfl, hE', hown, hgr⟩ := hrel
                    have hz := Box.kept HZ2.out hgr (some_ne2 hltg)
                    have c0 : wr.cell? ⟨lb, 2, none⟩ = some (.slice (some ⟨tl, 0, none⟩) 1 tcl) := hz.cell 2
                    have c2 : wr.cell? ⟨tl, 0, none⟩ = some (.slice (some ⟨tg, 0, none⟩) KD.length tc) := row_cell (row_kept HTL2.out hgr (fun k hk e => by simp [Value.ownBlock] at hk; subst hk; exact htltg (Option.some.inj e))) 0 _ rfl
                    by_cases hkD : k < KD.length
                    · have d1 : (k : Int) < (KD.length : Int) := by omega
                      have hck : wr.cell? ⟨tg, k, none⟩ = some (sv (E'.getD k [])) := row_cell hown k _ (by rw [List.getElem?_map]; simp [List.getD, show k < E'.length by omega])
                      have hfz := World.ownsRow.frozenAt hown k
                      have HO : Hid ((wr.setCell ⟨tg, k, none⟩ (sv ovS)).ownsRow B 9 1 (.slice (some ⟨tg, 0, none⟩) KD.length tc) KD.length ((E'.set k ovS).map sv)) := by
                        show World.ownsRow _ _ _ _ _ _ _
                        rw [List.map_set]
                        exact row_set hown k (sv ovS)
                      have HF : Hid (wr1.grownBy (wr.setCell ⟨tg, k, none⟩ (sv ovS)) (some tg)) := gb_trans hgr (gb_setCell (gb_refl _ _) _)
                      have HEl : Hid ((E'.set k ovS).length = KD.length) := by rw [← hE']; exact List.length_set
                      clear hown hgr hz hE'
                      go_wp2_with fail
                      go_roundw
                      case rel => exact ⟨k + 1, E'.set k ovS, by omega, by go_num, HEl.out, HO.out, HF.out⟩
                      case measure => simp [intOf]; omega
                    · obtain rfl : k = KD.length := by omega
                      have HO : Hid (wr.ownsRow B 9 1 (.slice (some ⟨tg, 0, none⟩) KD.length tc) KD.length (E'.map sv)) := hown
                      have HGR : Hid (wr1.grownBy wr (some tg)) := hgr
                      have HEl : Hid (E'.length = KD.length) := hE'
                      clear hown hgr hz hE'
                      go_wp2_with fail
                      go_roundw
                      case rel => exact ⟨1, E', by omega, by go_num, HEl.out, HO.out, HGR.out⟩
                      case measure => simp [intOf]
                · obtain rfl : i = 1 := by omega
                  have HGR2 : Hid (wr1.grownBy wr (some tg)) := hgr
                  have HZ3 : Hid _ := hz
                  clear hown hgr hz hE
                  have f0 := Box.fz HZ3.out 0
                  have f1 := Box.fz HZ3.out 1
                  have f2 := Box.fz HZ3.out 2
                  have f3 := Box.fz HZ3.out 3
                  have e0 : wr.cell? ⟨lb, 0, none⟩ = some (.slice (some ⟨gl, 0, none⟩) 1 cl) := Box.cell HZ3.out 0
                  have e1 : wr.cell? ⟨lb, 1, none⟩ = some (.slice (some ⟨gw, 0, none⟩) 1 cw) := Box.cell HZ3.out 1
                  have e3 : wr.cell? ⟨lb, 3, none⟩ = some (.slice (some ⟨tw, 0, none⟩) 1 tcw) := Box.cell HZ3.out 3
                  have HB : Hid (Box ((((wr.setCell ⟨lb, 0, none⟩ (.slice none 0 0)).setCell ⟨lb, 1, none⟩ (.slice none 0 0)).setCell ⟨lb, 2, none⟩ (.slice none 0 0)).setCell ⟨lb, 3, none⟩ (.slice none 0 0)) 68 lb #[.slice none 0 0, .slice none 0 0, .slice none 0 0, .slice none 0 0]) := Box.set (Box.set (Box.set (Box.set HZ3.out 0 _) 1 _) 2 _) 3 _
                  have HK : Hid (Kp (fun k => k = lb ∨ k = g ∨ k = tg) w ((((wr.setCell ⟨lb, 0, none⟩ (.slice none 0 0)).setCell ⟨lb, 1, none⟩ (.slice none 0 0)).setCell ⟨lb, 2, none⟩ (.slice none 0 0)).setCell ⟨lb, 3, none⟩ (.slice none 0 0))) :=
                    (((Kp.of HG'.out).step HGR.out (fun i hi => .inl (.inr (.inl (Option.some.inj hi).symm)))).step HGR2.out (fun i hi => .inl (.inr (.inr (Option.some.inj hi).symm)))).step (gb_setCell (gb_setCell (gb_setCell (gb_setCell (gb_refl _ (some lb)) _) _) _) _) (fun i hi => .inl (.inl (Option.some.inj hi).symm))
                  clear HZ' HZ2 HZ3 HG' HGR HGR2 HR' HL' HT' HTL' HT2 HTL2
                  go_wp2
                  go_ret
                  exact ⟨rfl, HB.out, HK.out⟩
end Go.Proofs.YtobegepebochkaaGreatDoor

import Derived.Test.YtjkdflnnpdionaaGreatPb
/-
  apart, the walk.
-/
namespace Go.Proofs.YtjkdflnnpdionaaGreat
open Go.RowKit
set_option linter.unusedVariables false

section
variable {w : World} {P : Nat → Prop} {wb N : Nat} {D : Wd} {lsb : Nat} {vs : Nat → Value} {Y : Nat → List Nat} {cl : Nat → Nat} {S : Lm}
theorem Im.cx {w0 w : World} {gx cx gy cy : Nat} {xs ys : List Int} (h : Im w0 w gx cx gy cy xs ys) (hl : xs.length = 16384) {i : Nat} (hi : i < 16384) : w.cell? ⟨gx, i, none⟩ = some (.int .u8 (xs.getD i 0)) := row_cell h.rx i _ (bv_get (by omega))
theorem Im.cy {w0 w : World} {gx cx gy cy : Nat} {xs ys : List Int} (h : Im w0 w gx cx gy cy xs ys) (hl : ys.length = 16384) {i : Nat} (hi : i < 16384) : w.cell? ⟨gy, i, none⟩ = some (.int .u8 (ys.getD i 0)) := row_cell h.ry i _ (bv_get (by omega))
theorem bv_has {w : World} {B g c : Nat} {xs : List Int} {n : Nat} (h : w.ownsRow B 5 1 (.slice (some ⟨g, 0, none⟩) n c) n (bv xs)) (hl : xs.length = n) : Has w (some ⟨g, 0, none⟩) n xs :=
  ⟨hl, fun _ => ⟨g, 0, rfl, fun i hi => by rw [Nat.zero_add]; exact row_cell h i _ (bv_get (by omega))⟩⟩
set_option maxRecDepth 100000 in
set_option maxHeartbeats 4000000 in
theorem apart_37 (hW : GW w P wb N D lsb vs Y S cl) {g1 c1 g2 c2 B1 B2 : Nat} {za zb : List Int} (ha : w.ownsRow B1 5 1 (.slice (some ⟨g1, 0, none⟩) 16384 c1) 16384 (bv za)) (hb : w.ownsRow B2 5 1 (.slice (some ⟨g2, 0, none⟩) 16384 c2) 16384 (bv zb)) (hz : Zk D.A D.xl za zb) (hza : za.length = 16384) (hia : isBytes za) (hib : isBytes zb) :
    Calls Tryz.prog 37 #[.pointer (some ⟨wb, 0, none⟩), .slice (some ⟨g1, 0, none⟩) 16384 c1, .slice (some ⟨g2, 0, none⟩) 16384 c2] w fun y w' => y = .returned (.bool true) ∧ w.grownBy w' none := by
  have hzb : zb.length = 16384 := hz.len.trans hza
  have hAf : Fit2 D.A := by
    obtain ⟨bs, p, n, s, hX⟩ := hW.gx
    exact hX.inv.fit
  have hdf := Df.start hz hza hia hib
  have hat := fun (W : World) (H : Nat) => hW.atis H
  obtain ⟨ao, cc, htv, _, _, _, hao⟩ := row_shape hW.ms.ms.trow
  have hbx : ∀ W, w.grownBy W none → W.cell? ⟨wb, 2, none⟩ = some (.pointer (some ⟨D.rb, 0, none⟩)) ∧ W.cell? ⟨wb, 3, none⟩ = some (.pointer (some ⟨D.lb, 0, none⟩)) ∧ W.cell? ⟨wb, 4, none⟩ = some (.slice ao D.xt.length cc) := fun W hf => by
    have hk := hW.ms.ms.box.kept hf (by simp)
    have k4 := hk.cell 4
    rw [htv] at k4
    exact ⟨hk.cell 2, hk.cell 3, k4⟩
  have hrow : ∀ W, w.grownBy W none → W.ownsRow 0 26 1 (.slice ao D.xt.length cc) D.xt.length (uvs D.xt) := fun W hf => by
    have := (hW.ms.kept0 hf).ms.trow
    rw [htv] at this
    exact this
  have hsub := hW.sub
  have hx3 := hW.nN
  have hatis := fun H => hW.atis H
  have h38 := fun W gx cx gy cy xs ys (hI : Im w W gx cx gy cy xs ys) (hD : Df D.A D.xl D.xt xs ys) => equal_67 (bv_has hI.rx hD.lx) (bv_has hI.ry hD.ly) hD.bx hD.yb cx cy
  generalize D.xt = xt at *
  have hxl : xt.length ≤ 300 := by omega
  have ca : ∀ i, i < za.length → w.cell? ⟨g1, i, none⟩ = some (.int .u8 (za.getD i 0)) := fun i hi => row_cell ha i _ (bv_get hi)
  have cb : ∀ W, w.grownBy W none → ∀ i, i < zb.length → W.cell? ⟨g2, i, none⟩ = some (.int .u8 (zb.getD i 0)) := fun W hf i hi => gb_cellN hf (row_cell hb i _ (bv_get hi))
  clear hW htv hx3 hz hat
  go_enter Tryz.func37, Tryz.ntmps37
  go_wp2_with (first | (at_builtin; first | (refine copy60 rfl _ _ rfl za g1 c1 (by rw [hza]; rfl) ca (by omega) (by rfl) ?_; rw [hza]; intro gx cx wx hox hgx) | (refine copy60 rfl _ _ rfl zb g2 c2 (by rw [hzb]; rfl) (cb _ hgx) (by omega) (by rfl) ?_; rw [hzb]; intro gy cy wy hoy hgy)) | fail)
  have hgy' := gb_trans hgx hgy
  have hI0 : Im w wy gx cx gy cy za zb := ⟨hgy', row_kept hox hgy (by simp), row_base hoy hgx.size, fun e => by
    have h1 := own_base hoy gy rfl
    obtain ⟨cur, hc⟩ := row_block hox gx rfl
    have h2 := lt_of_block hc
    omega⟩
  clear hox hoy hgx hgy ca cb ha hb
  go_loopw [9] (fun iv wr => ∃ (i : Nat) (xs ys : List Int), i ≤ xt.length ∧ iv = .int .i64 i ∧ Im w wr gx cx gy cy xs ys ∧ Df D.A D.xl (xt.take i) xs ys) (fun iv _ => xt.length - (intOf iv).toNat)
  case atStart => exact ⟨0, za, zb, by omega, rfl, hI0, by simpa using hdf⟩
  case round =>
    obtain ⟨i, xs, ys, hi, rfl, hI, hD⟩ := hrel
    obtain ⟨k2, k3, k4⟩ := hbx _ hI.gr
    by_cases hlt : i < xt.length
    · obtain ⟨H, hH⟩ : ∃ H, xt[i] = H := ⟨_, rfl⟩
      have hget : xt[i]? = some H := by rw [List.getElem?_eq_getElem hlt, hH]
      have htk : xt.take (i + 1) = xt.take i ++ [H] := by rw [List.take_add_one, hget]; rfl
      obtain ⟨g, rfl⟩ := hao (by omega)
      have d1 : decide ((i : Int) < xt.length) = true := decide_eq_true (by omega)
      have l1 : (i : Int) < xt.length := by omega
      have l2 : ¬ (i : Int) < 0 := by omega
      have e4 : IntKind.i64.wrap ((i : Int) + 1) = (i : Int) + 1 := by rw [IntKind.wrap_i64]; omega
      have t4 := told_row (hrow _ hI.gr) hget
      have hcs := fun W (hf : wr.grownBy W none) => And.intro (hbx _ (gb_trans hI.gr hf)) (told_row (hrow _ (gb_trans hI.gr hf)) hget)
      obtain ⟨pl, c, e, hAt, hIs, hin⟩ := hatis H
      have hAt' := hAt _ (gb_trans hI.gr (gb_drew (gb_refl _ _)))
      have hIs' := fun W (hf : wr.grownBy W none) => hIs W (gb_trans hI.gr hf)
      clear hatis hAt hIs
      by_cases hm : H ∈ D.xl
      · obtain ⟨rfl, x, k0, hX, rfl, hp⟩ := hin hm
        rw [decide_eq_true hm] at hIs'
        clear hbx hrow hdf hI0 h38
        go_wp2
        have hk0 := hcs wr.drew (gb_drew (gb_refl _ _))
        go_region_held3 (fun W => (W.cell? ⟨wb, 2, none⟩ = some (.pointer (some ⟨D.rb, 0, none⟩)) ∧ W.cell? ⟨wb, 3, none⟩ = some (.pointer (some ⟨D.lb, 0, none⟩)) ∧ W.cell? ⟨wb, 4, none⟩ = some (.slice (some ⟨g, 0, none⟩) xt.length cc)) ∧ W.cell? ⟨g, i, none⟩ = some (.int .u64 H)) ((first | with_reducible exact hk1 | with_reducible exact hk0 | go_keep)) ((first | (go_at_call 96; with_reducible refine hAt'.mono ?_; rintro y w5 ⟨rfl, hf5⟩; (have hg5 := gb_trans (gb_drew (gb_refl wr none)) hf5); (have hk1 := hcs _ hg5))))
        go_wp2
        have hk2 := hcs w5.drew (gb_trans hg5 (gb_drew (gb_refl _ _)))
        have hIs2 := hIs' w5.drew (gb_trans hg5 (gb_drew (gb_refl _ _)))
        go_region_held3 (fun W => (W.cell? ⟨wb, 2, none⟩ = some (.pointer (some ⟨D.rb, 0, none⟩)) ∧ W.cell? ⟨wb, 3, none⟩ = some (.pointer (some ⟨D.lb, 0, none⟩)) ∧ W.cell? ⟨wb, 4, none⟩ = some (.slice (some ⟨g, 0, none⟩) xt.length cc)) ∧ W.cell? ⟨g, i, none⟩ = some (.int .u64 H)) ((first | with_reducible exact hk3 | with_reducible exact hk2 | go_keep)) ((first | (go_at_call 27; with_reducible refine hIs2.mono ?_; rintro y w6 ⟨rfl, hf6⟩; (have hg6 := gb_trans (gb_trans hg5 (gb_drew (gb_refl _ none))) hf6); (have hk3 := hcs _ hg6))))
        have hI6 := hI.kept0 hg6
        have hfinD := fun xs ys (h : Dw D.A D.xl (xt.take i) (D.A.place x k0) 12 xs ys) => h.fin hAf hX
        have hD0 : Dw D.A D.xl (xt.take i) (D.A.place x k0) 4 xs ys := ⟨hD, fun q h1 h2 => by omega⟩
        clear hX hAf hAt' hIs' hIs2 hk0 hk1 hk2 hk3 hcs
        generalize D.A.place x k0 = pl at *
        go_wp2
        go_loopw [13] (fun kv wq => ∃ (k : Nat) (xs2 ys2 : List Int), 4 ≤ k ∧ k ≤ 12 ∧ kv = .int .i64 k ∧ Im w wq gx cx gy cy xs2 ys2 ∧ Dw D.A D.xl (xt.take i) pl k xs2 ys2) (fun kv _ => 12 - (intOf kv).toNat)
        case atStart => exact ⟨4, xs, ys, by omega, by omega, rfl, hI6, hD0⟩
        case round =>
          obtain ⟨k, xs2, ys2, hk1, hk2, rfl, hI2, hD2⟩ := hrel
          by_cases hk : k < 12
          · have d2 : decide ((k : Int) < 12) = true := decide_eq_true (by omega)
            have e5 : IntKind.i64.wrap ((pl : Int) + (k : Int)) = ((pl + k : Nat) : Int) := by rw [IntKind.wrap_i64]; omega
            have e6 : IntKind.i64.wrap ((k : Int) + 1) = (k : Int) + 1 := by rw [IntKind.wrap_i64]; omega
            have l5 : ((pl + k : Nat) : Int) < 16384 := by omega
            have l6 : ¬ ((pl + k : Nat) : Int) < 0 := by omega
            have hI3 := hI2.setx (pl + k) 0
            have cX := hI2.cx hD2.df.lx (i := pl + k) (by omega)
            have fX := row_fz hI2.rx (pl + k)
            have cY := hI3.cy hD2.df.ly (i := pl + k) (by omega)
            have fY := row_fz hI3.ry (pl + k)
            have hI4 := hI3.sety (pl + k) 0
            have hD4 := hD2.set
            have hk12 : k + 1 ≤ 12 := by omega
            clear hI3 hI2 hD2
            obtain ⟨j, hj⟩ : ∃ j, pl + k = j := ⟨_, rfl⟩
            rw [hj] at e5 l5 l6 cX fX cY fY hI4 hD4
            go_wp2
            exact ⟨⟨k + 1, _, _, by omega, hk12, by go_num, hI4, hD4⟩, by simp [intOf]; omega⟩
          · obtain rfl : k = 12 := by omega
            have d2 : decide (((12 : Nat) : Int) < 12) = false := by decide
            have e5 : IntKind.i64.wrap ((pl : Int) + 45) = ((pl + 45 : Nat) : Int) := by rw [IntKind.wrap_i64]; omega
            have l5 : ((pl + 45 : Nat) : Int) < 16384 := by omega
            have l6 : ¬ ((pl + 45 : Nat) : Int) < 0 := by omega
            have hI3 := hI2.setx (pl + 45) 0
            have cX := hI2.cx hD2.df.lx (i := pl + 45) (by omega)
            have fX := row_fz hI2.rx (pl + 45)
            have cY := hI3.cy hD2.df.ly (i := pl + 45) (by omega)
            have fY := row_fz hI3.ry (pl + 45)
            have hI4 := hI3.sety (pl + 45) 0
            have hD4 := hfinD _ _ hD2
            rw [← htk] at hD4
            clear hI3 hI2 hD2
            obtain ⟨j, hj⟩ : ∃ j, pl + 45 = j := ⟨_, rfl⟩
            rw [hj] at e5 l5 l6 cX fX cY fY hI4 hD4
            go_wp2
            exact ⟨⟨i + 1, _, _, by omega, by go_num, hI4, hD4⟩, by simp [intOf]; omega⟩
      · rw [decide_eq_false hm] at hIs'
        have hD4 := hD.skip hm
        rw [← htk] at hD4
        clear hbx hrow hdf hI0 h38 hin
        by_cases he : e = 0
        · subst he
          go_wp2
          have hk0 := hcs wr.drew (gb_drew (gb_refl _ _))
          go_region_held3 (fun W => (W.cell? ⟨wb, 2, none⟩ = some (.pointer (some ⟨D.rb, 0, none⟩)) ∧ W.cell? ⟨wb, 3, none⟩ = some (.pointer (some ⟨D.lb, 0, none⟩)) ∧ W.cell? ⟨wb, 4, none⟩ = some (.slice (some ⟨g, 0, none⟩) xt.length cc)) ∧ W.cell? ⟨g, i, none⟩ = some (.int .u64 H)) ((first | with_reducible exact hk1 | with_reducible exact hk0 | go_keep)) ((first | (go_at_call 96; with_reducible refine hAt'.mono ?_; rintro y w5 ⟨rfl, hf5⟩; (have hg5 := gb_trans (gb_drew (gb_refl wr none)) hf5); (have hk1 := hcs _ hg5))))
          go_wp2
          have hk2 := hcs w5.drew (gb_trans hg5 (gb_drew (gb_refl _ _)))
          have hIs2 := hIs' w5.drew (gb_trans hg5 (gb_drew (gb_refl _ _)))
          go_region_held3 (fun W => (W.cell? ⟨wb, 2, none⟩ = some (.pointer (some ⟨D.rb, 0, none⟩)) ∧ W.cell? ⟨wb, 3, none⟩ = some (.pointer (some ⟨D.lb, 0, none⟩)) ∧ W.cell? ⟨wb, 4, none⟩ = some (.slice (some ⟨g, 0, none⟩) xt.length cc)) ∧ W.cell? ⟨g, i, none⟩ = some (.int .u64 H)) ((first | with_reducible exact hk3 | with_reducible exact hk2 | go_keep)) ((first | (go_at_call 27; with_reducible refine hIs2.mono ?_; rintro y w6 ⟨rfl, hf6⟩; (have hg6 := gb_trans (gb_trans hg5 (gb_drew (gb_refl _ none))) hf6); (have hk3 := hcs _ hg6))))
          go_wp2
          exact ⟨⟨i + 1, _, _, by omega, by go_num, hI.kept0 hg6, hD4⟩, by simp [intOf]; omega⟩
        · have d9 : decide (e = 0) = false := decide_eq_false he
          go_wp2
          have hk0 := hcs wr.drew (gb_drew (gb_refl _ _))
          go_region_held3 (fun W => (W.cell? ⟨wb, 2, none⟩ = some (.pointer (some ⟨D.rb, 0, none⟩)) ∧ W.cell? ⟨wb, 3, none⟩ = some (.pointer (some ⟨D.lb, 0, none⟩)) ∧ W.cell? ⟨wb, 4, none⟩ = some (.slice (some ⟨g, 0, none⟩) xt.length cc)) ∧ W.cell? ⟨g, i, none⟩ = some (.int .u64 H)) ((first | with_reducible exact hk1 | with_reducible exact hk0 | go_keep)) ((first | (go_at_call 96; with_reducible refine hAt'.mono ?_; rintro y w5 ⟨rfl, hf5⟩; (have hg5 := gb_trans (gb_drew (gb_refl wr none)) hf5); (have hk1 := hcs _ hg5))))
          go_wp2
          go_quiet (fail)
          go_wp2
          exact ⟨⟨i + 1, _, _, by omega, by go_num, hI.kept0 (gb_trans hg5 (by first | exact gb_refl _ _ | exact gb_drew (gb_refl _ _) | exact gb_drewN (gb_refl _ _) _)), hD4⟩, by simp [intOf]; omega⟩
    · have d1 : decide ((i : Int) < xt.length) = false := decide_eq_false (by omega)
      have l1 : ¬ (i : Int) < xt.length := by omega
      have hfin := h38 _ _ _ _ _ _ _ hI (by rw [List.take_of_length_le (by omega)] at hD; exact hD)
      have heq := hD.eq (fun H hH => by rw [List.take_of_length_le (by omega)]; exact hsub H hH)
      rw [decide_eq_true heq] at hfin
      clear hbx hrow hdf hI0 h38 hatis
      go_wp2_with (first | (go_at_call 38; go_must (refine hfin.mono ?_); rintro y w9 ⟨rfl, rfl⟩) | fail)
      go_ret
      exact ⟨rfl, hI.gr⟩
end
end Go.Proofs.YtjkdflnnpdionaaGreat

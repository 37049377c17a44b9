import Derived.Test.YtobegepebochkaaGreatDoorVBg
set_option linter.unusedVariables false
set_option linter.unusedSimpArgs false
namespace Go.Proofs.YtobegepebochkaaGreatDoor
open Go.RowKit
set_option maxRecDepth 100000 in
set_option maxHeartbeats 16000000 in
theorem close_69 {w : World} {bb : Nat} {b0 b1 b2 b3 t0 t1 t2 t3 s0 s1 s2 wv : Value} {n : Int} {F : Nat → Prop} {K KW : Nat} {V W : Nat → Value} {L : Nat → Nat} {D : Nat → List Value} (h : Box w 31 bb (bkA b0 b1 b2 b3 t0 t1 t2 t3 s0 s1 s2 n)) (hd : Kd w F 36 9 1 t0 wv K KW V W L D) (h2 : t2 = .slice none 0 0) (h3 : t3 = .slice none 0 0) (hK : K < 1000000) :
    Calls Tryz.prog 69 #[.pointer (some ⟨bb, 0, none⟩)] w fun y w' => y = .returned (.bool true) ∧ Kp (fun k => k = bb ∨ F k) w w' ∧ ∃ ov' mv', Box w' 31 bb (bkA b0 b1 b2 b3 t0 t1 ov' mv' s0 s1 s2 n) := by
  subst h2 h3
  obtain ⟨tO, TO⟩ := ty_25
  obtain ⟨tI, TI⟩ := ty_36
  have hbl := h.lt
  have h0 := hd.cl 16 700 (mkT L) (by omega) (fun _ _ => rfl) (fun _ => .slice none 0 0) (fun _ => .slice none 0 0)
  obtain ⟨hao, hcp, hdh, _, _, _, hposh⟩ := row_shape hd.hr
  subst hdh
  clear hd
  have H0 : Hid (Box w 31 bb (bkA b0 b1 b2 b3 (.slice hao K hcp) t1 (.slice none 0 0) (.slice none 0 0) s0 s1 s2 n)) := h
  go_enter Tryz.func69, Tryz.ntmps69
  go_wp2
  clear h
  go_loopw [3] (fun v wr => ∃ i : Nat, i ≤ K ∧ v = .int .i64 i ∧ Kp (fun k => k = bb ∨ F k) w wr ∧ Box wr 31 bb (bkA b0 b1 b2 b3 (.slice hao K hcp) t1 (.slice none 0 0) (.slice none 0 0) s0 s1 s2 n) ∧ ∃ R, Cl wr w.heap.size F 36 9 1 16 700 (mkT L) (.slice hao K hcp) (.slice none 0 0) (.slice none 0 0) K 0 0 V (fun _ => .slice none 0 0) (fun _ => .slice none 0 0) L R ∧ ∀ j, j < i → R j = rng (L j) (mkT L j)) (fun v _ => K - (intOf v).toNat)
  case atStart => exact ⟨0, by omega, rfl, Kp.refl _ _, H0.out, _, h0, fun j hj => by omega⟩
  case round =>
    obtain ⟨i, hi, rfl, hkp, hb, R, hC, hR⟩ := hrel
    clear H0
    have c12 : wr.cell? ⟨bb, 8, none⟩ = some (.slice hao K hcp) := hb.cell 8
    by_cases hiK : i < K
    · obtain ⟨gh, rfl⟩ := hposh (by omega)
      obtain ⟨va, vc, hVs, _, _, _, hposv⟩ := row_shape (hC.vs i hiK)
      have d1 : wr.cell? ⟨gh, i, none⟩ = some (.slice va (L i) vc) := by rw [← hVs]; exact row_cell hC.hr i _ (vsL_get _ hiK)
      have hib : (i : Int) < K := by omega
      have hLi := hC.hL i hiK
      have HC : Hid (Cl wr w.heap.size F 36 9 1 16 700 (mkT L) (.slice (some ⟨gh, 0, none⟩) K hcp) (.slice none 0 0) (.slice none 0 0) K 0 0 V (fun _ => .slice none 0 0) (fun _ => .slice none 0 0) L R) := hC
      have HB : Hid _ := hb
      clear hC h0 hposh hb
      go_wp2
      go_loopw [4] (fun v wq => ∃ k : Nat, k ≤ L i ∧ v = .int .i64 k ∧ Kp (fun k => k = bb ∨ F k) w wq ∧ Box wq 31 bb (bkA b0 b1 b2 b3 (.slice (some ⟨gh, 0, none⟩) K hcp) t1 (.slice none 0 0) (.slice none 0 0) s0 s1 s2 n) ∧ ∃ R2, Cl wq w.heap.size F 36 9 1 16 700 (mkT L) (.slice (some ⟨gh, 0, none⟩) K hcp) (.slice none 0 0) (.slice none 0 0) K 0 0 V (fun _ => .slice none 0 0) (fun _ => .slice none 0 0) L R2 ∧ (∀ j, j < i → R2 j = rng (L j) (mkT L j)) ∧ ∀ l, l < k → (R2 i)[l]? = some (sv (wd i))) (fun v _ => L i - (intOf v).toNat)
      case atStart => exact ⟨0, by omega, rfl, hkp, HB.out, R, HC.out, hR, fun l hl => by omega⟩
      case round =>
        obtain ⟨k, hk, rfl, hkp2, hb, R2, hC2, hR2, hM2⟩ := hrel
        clear c12 d1 HC HB hkp hR
        have c12 : wr.cell? ⟨bb, 8, none⟩ = some (.slice (some ⟨gh, 0, none⟩) K hcp) := hb.cell 8
        have d1 : wr.cell? ⟨gh, i, none⟩ = some (.slice va (L i) vc) := by rw [← hVs]; exact row_cell hC2.hr i _ (vsL_get _ hiK)
        have hrow := hC2.vs i hiK
        rw [hVs] at hrow
        have hlen : (R2 i).length = L i := by have := hrow.1; omega
        by_cases hkl : k < L i
        · obtain ⟨g, rfl⟩ := hposv (by omega)
          obtain ⟨cur, hcur⟩ := row_block hrow g rfl
          have e1 : wr.cell? ⟨g, k, none⟩ = some ((R2 i)[k]'(by omega)) := row_cell hrow k _ (List.getElem?_eq_getElem (by omega))
          have f1 : wr.frozen? ⟨g, k, none⟩ = false := Box.fz (show Box wr 9 g cur from hcur) k
          have hkb : (k : Int) < L i := by omega
          have hbg : bb ≠ g := ne_of_type hb hcur (by decide)
          have hgg : gh ≠ g := by obtain ⟨c, hc⟩ := row_block hC2.hr gh rfl; exact ne_of_type hc hcur (by decide)
          have hpost : ∀ wx : World, wr.grownBy wx none → Kp (fun k => k = bb ∨ F k) w (wx.setCell ⟨g, k, none⟩ (sv (wd i))) ∧ Box (wx.setCell ⟨g, k, none⟩ (sv (wd i))) 31 bb (bkA b0 b1 b2 b3 (.slice (some ⟨gh, 0, none⟩) K hcp) t1 (.slice none 0 0) (.slice none 0 0) s0 s1 s2 n) ∧ ∃ R3, Cl (wx.setCell ⟨g, k, none⟩ (sv (wd i))) w.heap.size F 36 9 1 16 700 (mkT L) (.slice (some ⟨gh, 0, none⟩) K hcp) (.slice none 0 0) (.slice none 0 0) K 0 0 V (fun _ => .slice none 0 0) (fun _ => .slice none 0 0) L R3 ∧ (∀ j, j < i → R3 j = rng (L j) (mkT L j)) ∧ ∀ l, l < k + 1 → (R3 i)[l]? = some (sv (wd i)) := fun wx hx => by
            have hgs : wx.grownBy (wx.setCell ⟨g, k, none⟩ (sv (wd i))) (some g) := gb_setCell (gb_refl _ _) _
            refine ⟨(hkp2.step hx (by simp)).step hgs (fun j hj => by have := Option.some.inj hj; subst this; exact .inl (.inr (hC2.fv i g hiK (by rw [hVs]; rfl)))), (hb.kept hx (by simp)).kept hgs (some_ne2 hbg), _, (hC2.kept0 hx).write hiK hVs hgs (row_set (row_kept hrow hx (by simp)) k _), fun j hj => ?_, fun l hl => ?_⟩
            · rw [upd_other _ _ (by omega)]; exact hR2 j hj
            · rw [upd_same, List.getElem?_set]
              by_cases e : k = l
              · subst e; simp [hlen, hkl]
              · rw [if_neg e]; exact hM2 l (by omega)
          generalize (R2 i)[k]'(by omega) = old at *
          have HP : Hid _ := hpost
          clear hpost hC2 hkp2 hR2 hM2 hrow hcur hlen hposv hb hVs
          generalize L i = Li at *
          have hglt : g < wr.heap.size := World.block_lt_of_cell? _ _ e1
          have h110 := word_110 i (by omega)
          have l1 := wd_len i
          have hsz : (9223372036854775807 < 1 + (wd i).length) = False := by simp; omega
          have hsz2 : (9223372036854775807 < (wd i).length + 1) = False := by simp; omega
          go_wp2_with fail
          refine wp_region_noPanic ?_
          have hgA : wr.grownBy wr.drew none := gb_drew (gb_refl wr none)
          refine wp_region_held_drew (S := fun W : World => wr.grownBy W (some g)) (by kernel_rfl) (gb_none _ hgA) (fun hS0 => ?_)
          clear hS0
          generalize wr.drew = W1 at hgA ⊢
          have hSA := gb_none (some g) hgA
          refine wpAnyH_take (i := 0) (oi := { dst := some 32, op := Op.move (Operand.tmp 0), type := 23, pos := _, after := #[], guard := none }) (v := ?_) rfl (by kernel_rfl) (by kernel_rfl) (by kernel_rfl) (fun _ _ _ h => h) (Or.inl ⟨by rfl, ?_⟩) (by first | trivial | assumption) ?_
          rotate_left 1
          · (intro W hSw; go_simp; (try (with_reducible rfl)))
          try simp only [Act.put, List.setIfInBounds_toArray, List.set_cons_zero, List.set_cons_succ]
          refine wpAnyH_take (i := 1) (oi := { dst := some 33, op := Op.nilCheck (Operand.tmp 32), type := 0, pos := _, after := #[{ on := 0, ground := Ground.data }], guard := none }) (v := ?_) rfl (by kernel_rfl) (by kernel_rfl) (by kernel_rfl) (fun _ _ _ h => h) (Or.inl ⟨by rfl, ?_⟩) (by first | trivial | assumption) ?_
          rotate_left 1
          · (intro W hSw; go_simp; (try (with_reducible rfl)))
          try simp only [Act.put, List.setIfInBounds_toArray, List.set_cons_zero, List.set_cons_succ]
          refine wpAnyH_take (i := 2) (oi := { dst := some 34, op := Op.fieldAddr 31 (Operand.tmp 33) 8, type := 0, pos := _, after := #[{ on := 1, ground := Ground.data }], guard := none }) (v := ?_) rfl (by kernel_rfl) (by kernel_rfl) (by kernel_rfl) (fun _ _ _ h => h) (Or.inl ⟨by rfl, ?_⟩) (by first | trivial | assumption) ?_
          rotate_left 1
          · (intro W hSw; go_simp; (try (with_reducible rfl)))
          try simp only [Act.put, List.setIfInBounds_toArray, List.set_cons_zero, List.set_cons_succ]
          refine wpAnyH_take (i := 3) (oi := { dst := some 35, op := Op.load 25 (Operand.tmp 34), type := 25, pos := _, after := #[{ on := 2, ground := Ground.data }], guard := none }) (v := ?_) rfl (by kernel_rfl) (by kernel_rfl) (by kernel_rfl) (fun _ _ _ h => h) (Or.inl ⟨by rfl, ?_⟩) (by first | trivial | assumption) ?_
          rotate_left 1
          · (intro W hSw; have x0 := gb_cell hSw c12 (some_ne2 hbg); have x1 := gb_cell hSw d1 (some_ne2 hgg); go_simp; (try (with_reducible rfl)))
          try simp only [Act.put, List.setIfInBounds_toArray, List.set_cons_zero, List.set_cons_succ]
          refine wpAnyH_take (i := 4) (oi := { dst := some 36, op := Op.move (Operand.tmp 3), type := 3, pos := _, after := #[], guard := none }) (v := ?_) rfl (by kernel_rfl) (by kernel_rfl) (by kernel_rfl) (fun _ _ _ h => h) (Or.inl ⟨by rfl, ?_⟩) (by first | trivial | assumption) ?_
          rotate_left 1
          · (intro W hSw; go_simp; (try (with_reducible rfl)))
          try simp only [Act.put, List.setIfInBounds_toArray, List.set_cons_zero, List.set_cons_succ]
          refine wpAnyH_take (i := 5) (oi := { dst := some 37, op := Op.indexAddr 25 (Operand.tmp 35) (Operand.tmp 36), type := 0, pos := _, after := #[{ on := 3, ground := Ground.data }, { on := 4, ground := Ground.data }], guard := none }) (v := ?_) rfl (by kernel_rfl) (by kernel_rfl) (by kernel_rfl) (fun _ _ _ h => h) (Or.inl ⟨by rfl, ?_⟩) (by first | trivial | assumption) ?_
          rotate_left 1
          · (intro W hSw; go_simp; (try (with_reducible rfl)))
          try simp only [Act.put, List.setIfInBounds_toArray, List.set_cons_zero, List.set_cons_succ]
          refine wpAnyH_take (i := 6) (oi := { dst := some 38, op := Op.load 36 (Operand.tmp 37), type := 36, pos := _, after := #[{ on := 5, ground := Ground.data }], guard := none }) (v := ?_) rfl (by kernel_rfl) (by kernel_rfl) (by kernel_rfl) (fun _ _ _ h => h) (Or.inl ⟨by rfl, ?_⟩) (by first | trivial | assumption) ?_
          rotate_left 1
          · (intro W hSw; have x0 := gb_cell hSw c12 (some_ne2 hbg); have x1 := gb_cell hSw d1 (some_ne2 hgg); go_simp; (try (with_reducible rfl)))
          try simp only [Act.put, List.setIfInBounds_toArray, List.set_cons_zero, List.set_cons_succ]
          refine wpAnyH_take (i := 7) (oi := { dst := some 39, op := Op.move (Operand.tmp 4), type := 3, pos := _, after := #[], guard := none }) (v := ?_) rfl (by kernel_rfl) (by kernel_rfl) (by kernel_rfl) (fun _ _ _ h => h) (Or.inl ⟨by rfl, ?_⟩) (by first | trivial | assumption) ?_
          rotate_left 1
          · (intro W hSw; go_simp; (try (with_reducible rfl)))
          try simp only [Act.put, List.setIfInBounds_toArray, List.set_cons_zero, List.set_cons_succ]
          refine wpAnyH_take (i := 8) (oi := { dst := some 40, op := Op.move (Operand.tmp 3), type := 3, pos := _, after := #[], guard := none }) (v := ?_) rfl (by kernel_rfl) (by kernel_rfl) (by kernel_rfl) (fun _ _ _ h => h) (Or.inl ⟨by rfl, ?_⟩) (by first | trivial | assumption) ?_
          rotate_left 1
          · (intro W hSw; go_simp; (try (with_reducible rfl)))
          try simp only [Act.put, List.setIfInBounds_toArray, List.set_cons_zero, List.set_cons_succ]
          refine wpAnyH_ready (rs := [9]) (by kernel_rfl) (by simp) ?_
          refine (AllReadyH.cons rfl (fun K hK => ?_) AllReadyH.nil)
          go_simp
          (with_reducible refine (h110 W1).mono ?_)
          rintro e W2 ⟨rfl, hgn⟩
          have hgB := gb_trans hgA hgn
          clear hgn
          have hSB := gb_none (some g) hgB
          refine hK.out _ _ hSB (fun hS => ?_)
          clear hK K hS
          try simp only [Act.put, List.setIfInBounds_toArray, List.set_cons_zero, List.set_cons_succ]
          have y1 := gb_cellN hgB e1
          have y2 : W2.frozen? ⟨g, k, none⟩ = false := by rw [World.frozen?, hgB.block g hglt (by simp)]; exact f1
          refine wpAnyH_take (i := 10) (oi := { dst := some 42, op := Op.indexAddr 36 (Operand.tmp 38) (Operand.tmp 39), type := 0, pos := _, after := #[{ on := 6, ground := Ground.data }, { on := 7, ground := Ground.data }, { on := 0, ground := Ground.phase }, { on := 1, ground := Ground.phase }, { on := 2, ground := Ground.phase }, { on := 3, ground := Ground.phase }, { on := 4, ground := Ground.phase }, { on := 5, ground := Ground.phase }, { on := 6, ground := Ground.phase }, { on := 7, ground := Ground.phase }, { on := 8, ground := Ground.phase }, { on := 9, ground := Ground.phase }], guard := none }) (v := ?_) rfl (by kernel_rfl) (by kernel_rfl) (by kernel_rfl) (fun _ _ _ h => h) (Or.inl ⟨by rfl, ?_⟩) (by first | trivial | assumption) ?_
          rotate_left 1
          · (intro W hSw; go_simp; (try (with_reducible rfl)))
          try simp only [Act.put, List.setIfInBounds_toArray, List.set_cons_zero, List.set_cons_succ]
          refine wpAnyH_ready (rs := [11]) (by kernel_rfl) (by simp) ?_
          refine (AllReadyH.cons rfl (fun K hK => ?_) AllReadyH.nil)
          go_simp
          refine hK.out _ _ (gb_setCell (gb_none _ hgB) _) (fun hS => ?_)
          clear hK K hS
          try simp only [Act.put, List.setIfInBounds_toArray, List.set_cons_zero, List.set_cons_succ]
          refine wpAnyH_done (by kernel_rfl) ?_ _
          refine NoPanic.normal ?_
          go_wp2_with fail
          obtain ⟨p1, pb, R3, p2, p3, p4⟩ := HP.out _ hgB
          exact ⟨⟨k + 1, by omega, by go_num, p1, pb, R3, p2, p3, p4⟩, by simp [intOf]; omega⟩
        · obtain rfl : k = L i := by omega
          have hpost : Kp (fun k => k = bb ∨ F k) w wr ∧ Box wr 31 bb (bkA b0 b1 b2 b3 (.slice (some ⟨gh, 0, none⟩) K hcp) t1 (.slice none 0 0) (.slice none 0 0) s0 s1 s2 n) ∧ ∃ R3, Cl wr w.heap.size F 36 9 1 16 700 (mkT L) (.slice (some ⟨gh, 0, none⟩) K hcp) (.slice none 0 0) (.slice none 0 0) K 0 0 V (fun _ => .slice none 0 0) (fun _ => .slice none 0 0) L R3 ∧ ∀ j, j < i + 1 → R3 j = rng (L j) (mkT L j) := by
            refine ⟨hkp2, hb, R2, hC2, fun j hj => ?_⟩
            by_cases e : j = i
            · subst e
              apply List.ext_getElem?
              intro l
              by_cases hl : l < L j
              · rw [hM2 l hl, rng1 (fun _ => rfl) hl, mkT_lo hl]; rfl
              · rw [List.getElem?_eq_none (by omega), List.getElem?_eq_none (by rw [rng_len (s := 1) (fun _ => rfl)]; omega)]
            · exact hR2 j (by omega)
          have HP : Hid _ := hpost
          clear hpost hC2 hkp2 hR2 hM2 hrow hlen hposv hb
          go_wp2
          obtain ⟨p1, pb, R3, p2, p3⟩ := HP.out
          exact ⟨⟨i + 1, by omega, by go_num, p1, pb, R3, p2, p3⟩, by simp [intOf]; omega⟩
    · obtain rfl : K = i := by omega
      have h1 := hC.read hR
      have HC : Hid (Cl wr w.heap.size F 36 9 1 16 700 (mkT L) (.slice hao K hcp) (.slice none 0 0) (.slice none 0 0) K 0 0 V (fun _ => .slice none 0 0) (fun _ => .slice none 0 0) L (fun j => rng (L j) (mkT L j))) := h1
      have HK : Hid _ := hkp
      have HB : Hid _ := hb
      clear hC hR h0 h1 hkp hb
      go_wp2
      clear c12 hposh
      have hposh : 0 < K → ∃ g, hao = some ⟨g, 0, none⟩ := by
        obtain ⟨_, _, hq, _, _, _, h9⟩ := row_shape HC.out.hr
        injection hq with h1
        subst h1
        exact h9
      go_loopw [5] (fun v wq => ∃ i : Nat, i ≤ K ∧ v = .int .i64 i ∧ Kp (fun k => k = bb ∨ F k) w wq ∧ ∃ ov O, Box wq 31 bb (bkA b0 b1 b2 b3 (.slice hao K hcp) t1 ov (.slice none 0 0) s0 s1 s2 n) ∧ Cl wq w.heap.size F 36 9 1 16 700 (mkT L) (.slice hao K hcp) ov (.slice none 0 0) K i 0 V O (fun _ => .slice none 0 0) L (fun j => rng (L j) (mkT L j))) (fun v _ => K - (intOf v).toNat)
      case atStart => exact ⟨0, by omega, rfl, HK.out, _, _, HB.out, HC.out⟩
      case round =>
        obtain ⟨i, hi, rfl, hkp, ov, O, hb, hC⟩ := hrel
        clear HC HK HB
        have c12 : wr.cell? ⟨bb, 8, none⟩ = some (.slice hao K hcp) := hb.cell 8
        by_cases hiK : i < K
        · obtain ⟨gh, rfl⟩ := hposh (by omega)
          obtain ⟨va, vc, hVs, _, _, _, hposv⟩ := row_shape (hC.vs i hiK)
          have d1 : wr.cell? ⟨gh, i, none⟩ = some (.slice va (L i) vc) := by rw [← hVs]; exact row_cell hC.hr i _ (vsL_get _ hiK)
          have hib : (i : Int) < K := by omega
          have hLi := hC.hL i hiK
          have hst : wr.ownsRow 0 9 1 (.slice va (L i) vc) (L i + 0) (rng (L i + 0) (mkT L i)) ∧ Ap w.heap.size i 0 V O (fun _ => .slice none 0 0) i (.slice va (L i) vc) := by rw [← hVs]; exact ⟨hC.vs i hiK, fun g hg => .inl hg⟩
          have HC : Hid _ := hC
          have HS : Hid _ := hst
          have HK : Hid _ := hkp
          have HB : Hid _ := hb
          clear hC hposh hst hkp hb
          go_wp2
          go_loopw [6, 7] (fun lv v wq => ∃ k : Nat, k ≤ 16 ∧ v = .int .i64 k ∧ Kp (fun k => k = bb ∨ F k) w wq ∧ Box wq 31 bb (bkA b0 b1 b2 b3 (.slice (some ⟨gh, 0, none⟩) K hcp) t1 ov (.slice none 0 0) s0 s1 s2 n) ∧ Cl wq w.heap.size F 36 9 1 16 700 (mkT L) (.slice (some ⟨gh, 0, none⟩) K hcp) ov (.slice none 0 0) K i 0 V O (fun _ => .slice none 0 0) L (fun j => rng (L j) (mkT L j)) ∧ wq.ownsRow 0 9 1 lv (L i + k) (rng (L i + k) (mkT L i)) ∧ Ap w.heap.size i 0 V O (fun _ => .slice none 0 0) i lv) (fun _ v _ => 16 - (intOf v).toNat)
          case atStart => exact ⟨0, by omega, rfl, HK.out, HB.out, HC.out, HS.out.1, HS.out.2⟩
          case round =>
            obtain ⟨k, hk, rfl, hkp, hb, hC, hl, hap⟩ := hrel
            clear HC HK HS HB c12 d1
            obtain ⟨lao, lcp, hld, _, _, _, _⟩ := row_shape hl
            subst hld
            by_cases hk16 : k < 16
            · have hkb : (k : Int) < 16 := by omega
              have hmore : rng (L i + k) (mkT L i) ++ [(plus i)] = rng (L i + k + 1) (mkT L i) := by rw [rng_succ, mkT_hi (by omega)]
              have HM : Hid _ := hmore
              have HC : Hid _ := hC
              have HA : Hid _ := hap
              have HK : Hid _ := hkp
              have HB : Hid _ := hb
              have HL : Hid _ := hl
              clear hC hap hkp hb hmore
              have h110 := word_110 i (by omega)
              have l1 := wd_len i
              have hsz : (9223372036854775807 < 1 + (wd i).length) = False := by simp; omega
              have hsz2 : (9223372036854775807 < (wd i).length + 1) = False := by simp; omega
              go_wp2_with (first | (go_at_call 110; go_must ((with_reducible refine (h110 _).mono ?_); rintro e w4 ⟨rfl, hg4⟩; (have hl4 := row_kept hl hg4 (by simp)))) | (at_builtin; go_must (refine pushG TI rfl _ _ rfl _ (L i + k) _ (by rfl) hl4 [plus i] rfl (by simp [Value.oneCell']) (by rfl) (by omega) ?_)))
              intro v' w' hown hpsh
              rw [HM.out] at hown
              obtain ⟨p1, p2, row, p3, p4⟩ := (HC.out.kept0 hg4).push hiK (row_kept HL.out hg4 (by simp)) HA.out hpsh hown (fun h => by omega) (Nat.zero_le _)
              have p5 := (HK.out.step hg4 (by simp)).step p3 (fun g hg => (p4 g hg).imp (fun h => .inr h) id)
              have p6 := Psh.box hpsh (row_kept HL.out hg4 (by simp)) (Box.kept (t := 31) HB.out hg4 (by simp)) (by decide)
              have HP : Hid _ := And.intro p5 (And.intro p6 (And.intro p1 (And.intro hown p2)))
              clear p1 p2 p3 p4 p5 p6 hown hpsh hl HC HA HK HB HL HM hg4
              go_wp2
              obtain ⟨p1, p6, p2, p3, p4⟩ := HP.out
              exact ⟨⟨k + 1, by omega, by go_num, p1, p6, p2, p3, p4⟩, by simp [intOf]; omega⟩
            · obtain rfl : k = 16 := by omega
              obtain ⟨oao, ocp, hod, _, _, _, _⟩ := row_shape hC.orow
              subst hod
              have c14 : wr.cell? ⟨bb, 10, none⟩ = some (.slice oao i ocp) := hb.cell 10
              have horow := hC.orow
              have hB := hC.hB
              have ho0 : ∀ g, (Value.slice oao i ocp).ownBlock = some g → w.heap.size ≤ g := fun g e => (row_ge horow e).1
              have HC : Hid _ := hC
              have HA : Hid _ := hap
              have HK : Hid _ := hkp
              have HL : Hid _ := hl
              have HB : Hid _ := hb
              clear hC hap hkp hl hb
              go_wp2_with (at_builtin; go_must (refine pushB TO rfl _ _ rfl w.heap.size _ i _ (by rfl) horow [.slice lao (L i + 16) lcp] rfl (by simp [Value.oneCell']) (by rfl) (by omega) hB ?_))
              intro g2 cap2 w2 hrow2 hgb2 hat2
              have b2' := Box.kept (t := 31) HB.out hgb2 (fun e => by have := ho0 _ e.symm; omega)
              have k14 : w2.cell? ⟨bb, 10, none⟩ = some (.slice oao i ocp) := b2'.cell 10
              have f14 := b2'.fz 10
              obtain ⟨p1, p2⟩ := HC.out.one hiK HL.out HA.out hrow2 hgb2 (fun g hg => by simp [Value.ownBlock] at hg; subst hg; exact hat2)
              have hgs : w2.grownBy (w2.setCell ⟨bb, 10, none⟩ (.slice (some ⟨g2, 0, none⟩) (i + 1) cap2)) (some bb) := gb_setCell (gb_refl _ _) _
              have HP : Hid _ := And.intro ((HK.out.trans p2 (H := fun k => k = bb ∨ F k) (fun _ h => h) (fun j hj => .inr hj)).step hgs (fun j hj => .inl (.inl (Option.some.inj hj).symm))) (And.intro (b2'.set 10 (.slice (some ⟨g2, 0, none⟩) (i + 1) cap2)) (p1.far b2' (by decide) (by decide) hgs))
              clear p1 p2 hrow2 hgb2 hat2 b2' HC HA HK HL HB horow ho0 hgs
              go_wp2
              obtain ⟨p1, p2, p3⟩ := HP.out
              exact ⟨⟨i + 1, by omega, by go_num, p1, _, _, p2, p3⟩, by simp [intOf]; omega⟩
        · obtain rfl : K = i := by omega
          have HC : Hid _ := hC
          have HK : Hid _ := hkp
          have HB : Hid _ := hb
          obtain ⟨oao, ocp, hod, _, _, _, _⟩ := row_shape hC.orow
          subst hod
          have c14 : wr.cell? ⟨bb, 10, none⟩ = some (.slice oao K ocp) := hb.cell 10
          have h71 := look_111 hb hC.hr (row_base hC.orow (Nat.zero_le _)) (Nat.le_refl _) hK (m := 16) (by omega) hC.hL hC.vs hC.os
          clear hC hkp hb
          go_wp2_with (first | (go_at_call 111; go_must (refine h71.mono ?_); rintro y w7 ⟨rfl, hg7⟩) | fail)
          clear c14 h71 c12
          have HC2 : Hid _ := HC.out.kept0 hg7
          have HK2 : Hid _ := HK.out.step hg7 (by simp)
          have HB2 : Hid _ := Box.kept (t := 31) HB.out hg7 (by simp)
          clear HC HK HB hg7
          go_loopw [8] (fun v wq => ∃ i : Nat, i ≤ K ∧ v = .int .i64 i ∧ Kp (fun k => k = bb ∨ F k) w wq ∧ ∃ mv M, Box wq 31 bb (bkA b0 b1 b2 b3 (.slice hao K hcp) t1 (.slice oao K ocp) mv s0 s1 s2 n) ∧ Cl wq w.heap.size F 36 9 1 16 700 (mkT L) (.slice hao K hcp) (.slice oao K ocp) mv K K i V O M L (fun j => rng (L j) (mkT L j))) (fun v _ => K - (intOf v).toNat)
          case atStart => exact ⟨0, by omega, rfl, HK2.out, _, _, HB2.out, HC2.out⟩
          case round =>
            obtain ⟨i, hi, rfl, hkp, mv, M, hb, hC⟩ := hrel
            clear HC2 HK2 HB2
            have c12 : wr.cell? ⟨bb, 8, none⟩ = some (.slice hao K hcp) := hb.cell 8
            by_cases hiK : i < K
            · obtain ⟨gh, rfl⟩ := hposh (by omega)
              have hib : (i : Int) < K := by omega
              have hLi := hC.hL i hiK
              have HC : Hid _ := hC
              have HK : Hid _ := hkp
              have HB : Hid _ := hb
              clear hC hposh hkp hb
              go_wp2
              have HW : Hid (∃ W0, W0 = wr) := ⟨wr, rfl⟩
              obtain ⟨W0, hW0⟩ := HW.out
              have HC0 : Hid (Cl W0 w.heap.size F 36 9 1 16 700 (mkT L) (.slice (some ⟨gh, 0, none⟩) K hcp) (.slice oao K ocp) mv K K i V O M L (fun j => rng (L j) (mkT L j))) := by rw [hW0]; exact HC.out
              have HK0 : Hid (Kp (fun k => k = bb ∨ F k) w W0) := by rw [hW0]; exact HK.out
              have HB0 : Hid (Box W0 31 bb (bkA b0 b1 b2 b3 (.slice (some ⟨gh, 0, none⟩) K hcp) t1 (.slice oao K ocp) mv s0 s1 s2 n)) := by rw [hW0]; exact HB.out
              have HG0 : Hid (W0.grownBy wr none) := by rw [hW0]; exact gb_refl _ _
              clear HW hW0 HC HK HB
              go_loopw [9, 10] (fun rv v wq => ∃ k : Nat, k ≤ 700 ∧ v = .int .i64 k ∧ wq.ownsRow W0.heap.size 9 1 rv k (List.replicate k (plus i)) ∧ W0.grownBy wq none) (fun _ v _ => 700 - (intOf v).toNat)
              case atStart => exact ⟨0, by omega, rfl, ⟨rfl, .inl ⟨rfl, rfl⟩⟩, HG0.out⟩
              case round =>
                obtain ⟨k, hk, rfl, hrow, hg⟩ := hrel
                obtain ⟨ao2, cp2, hdv2, _, _, _, hpos2⟩ := row_shape hrow
                subst hdv2
                clear c12 HG0
                by_cases hk7 : k < 700
                · have hkb : (k : Int) < 700 := by omega
                  have hsz0 := hg.size
                  have HS : Hid (List.replicate k (plus i) ++ [(plus i)] = List.replicate (k + 1) (plus i)) := by rw [List.replicate_succ']; rfl
                  clear HC0 HK0 HB0 hpos2
                  have h110 := word_110 i (by omega)
                  have l1 := wd_len i
                  have hsz : (9223372036854775807 < 1 + (wd i).length) = False := by simp; omega
                  have hsz2 : (9223372036854775807 < (wd i).length + 1) = False := by simp; omega
                  go_wp2_with (first | (go_at_call 110; go_must ((with_reducible refine (h110 _).mono ?_); rintro e w3 ⟨rfl, hg3⟩; (have hr3 := row_kept hrow hg3 (by simp)); (have hg3' := gb_trans hg hg3); (have hsz3 := hg3'.size))) | (at_builtin; go_must (refine pushB TI rfl _ _ rfl W0.heap.size _ k _ (by rfl) hr3 [plus i] rfl (by simp [Value.oneCell']) (by rfl) (by omega) hsz3 ?_)))
                  intro g4 cap4 w4 hrow4 hgb4 hat4
                  have hg4 : W0.grownBy w4 none := gb_of_kp hg3' ((Kp.refl (fun j => (Value.slice ao2 k cp2).ownBlock = some j) w3).step hgb4 (fun j hj => .inl hj)) (fun j hj => (row_ge hrow hj).1)
                  clear hg3 hg3' hr3
                  rw [HS.out] at hrow4
                  clear hgb4 hat4 hrow HS
                  go_wp2
                  exact ⟨⟨k + 1, by omega, by go_num, hrow4, hg4⟩, by simp [intOf]; omega⟩
                · obtain rfl : k = 700 := by omega
                  obtain ⟨gm, rfl⟩ := hpos2 (by omega)
                  have hC := HC0.out.kept0 hg
                  have hkp := HK0.out.step hg (by simp)
                  have hb := HB0.out.kept hg (by simp)
                  clear HC0 HK0 HB0 hpos2 hg
                  obtain ⟨va, vc, hVs, _, _, _, hposv⟩ := row_shape (hC.vs i hiK)
                  obtain ⟨mao, mcp, hmd, _, _, _, _⟩ := row_shape hC.mrow
                  subst hmd
                  have c12 : wr.cell? ⟨bb, 8, none⟩ = some (.slice (some ⟨gh, 0, none⟩) K hcp) := hb.cell 8
                  have c15 : wr.cell? ⟨bb, 11, none⟩ = some (.slice mao i mcp) := hb.cell 11
                  have d1 : wr.cell? ⟨gh, i, none⟩ = some (.slice va (L i) vc) := by rw [← hVs]; exact row_cell hC.hr i _ (vsL_get _ hiK)
                  have hVr : wr.ownsRow 0 9 1 (.slice va (L i) vc) (L i + 0) (rng (L i + 0) (mkT L i)) := by rw [← hVs]; exact hC.vs i hiK
                  have hVa : Ap w.heap.size K i V O M i (.slice va (L i) vc) := by rw [← hVs]; exact fun g hg => .inl hg
                  have hm0 : ∀ g, (Value.slice mao i mcp).ownBlock = some g → w.heap.size ≤ g := fun g e => (row_ge hC.mrow e).1
                  have HMR : Hid (rng (L i) (mkT L i) ++ List.replicate 700 (plus i) = rng (L i + 0 + 700) (mkT L i)) := by
                    show _ = _
                    rw [Nat.add_zero]
                    exact rng_rep (fun k hk => mkT_hi (by omega)) 700
                  have HC : Hid (Cl wr w.heap.size F 36 9 1 16 700 (mkT L) (.slice (some ⟨gh, 0, none⟩) K hcp) (.slice oao K ocp) (.slice mao i mcp) K K i V O M L (fun j => rng (L j) (mkT L j))) := hC
                  have HK : Hid (Kp (fun k => k = bb ∨ F k) w wr) := hkp
                  have HB : Hid _ := hb
                  have HV : Hid (wr.ownsRow 0 9 1 (.slice va (L i) vc) (L i + 0) (rng (L i + 0) (mkT L i))) := hVr
                  have HA : Hid (Ap w.heap.size K i V O M i (.slice va (L i) vc)) := hVa
                  have HM : Hid (wr.ownsRow W0.heap.size 9 1 (.slice (some ⟨gm, 0, none⟩) 700 cp2) 700 (List.replicate 700 (plus i))) := hrow
                  have H0 : Hid (∀ g, (Value.slice mao i mcp).ownBlock = some g → w.heap.size ≤ g) := hm0
                  have hB := hC.hB
                  have hone : ∀ u ∈ List.replicate 700 (plus i), u.oneCell' = true := fun u hu => by rw [List.eq_of_mem_replicate hu]; rfl
                  clear hC hkp hVr hVa hrow hposv hm0 hb
                  go_wp2
                  go_region_law ((first | (refine step_more TI (by rfl) (.tmp 116) (.tmp 117) (by rfl) (.slice va (L i) vc) (L i) (rng (L i) (mkT L i)) (by rfl) (show World.ownsRow _ 0 9 1 _ _ _ from HV.out) ⟨gm, 0, none⟩ 700 cp2 (List.replicate 700 (plus i)) (by rfl) (by simp) (fun j u hj => by rw [Addr.add_mid, Nat.zero_add]; exact row_cell (show World.ownsRow _ W0.heap.size 9 1 _ _ _ from HM.out) j u hj) hone (by omega) (by omega) ?_; intro gC cC w5 hown5 hpsh5; have hpsh : Psh wr w5 (.slice va (L i) vc) (L i + 0) 700 (.slice (some ⟨gC, 0, none⟩) (L i + 700) cC) := psh_trans (fun r => (by first | exact gb_refl _ _ | exact gb_drew (gb_refl _ _) | exact gb_drewN (gb_refl _ _) _)) hpsh5; rw [HMR.out] at hown5; obtain ⟨p1, p2, row, p3, p4⟩ := HC.out.push hiK HV.out HA.out hpsh hown5 (fun _ => by omega) (Nat.le_refl _); have b5 := Psh.box (t := 31) hpsh HV.out HB.out (by decide); have m15 : w5.cell? ⟨bb, 11, none⟩ = some (.slice mao i mcp) := b5.cell 11; have m15a := (fun o => gb_cellN (World.grownBy_alloc w5 o none) m15); have hmr5 := p1.mrow; have hB5 := p1.hB) | (refine step_push TO (w5 := w5) (by rfl) (.tmp 109) (.tmp 119) (by rfl) w.heap.size (.slice mao i mcp) i _ (by rfl) [.slice (some ⟨gC, 0, none⟩) (L i + 700) cC] rfl (by simp [Value.oneCell']) (by rfl) hmr5 (by rfl) (by omega) hB5 ?_; intro g7 c7 w7 hown7 hg7 hat7; have b7 := b5.kept hg7 (fun e => (by have := H0.out _ e.symm; omega)); have m7 : w7.cell? ⟨bb, 11, none⟩ = some (.slice mao i mcp) := b7.cell 11; have f7 : w7.frozen? ⟨bb, 11, none⟩ = false := b7.fz 11)))
                  all_goals
                    obtain ⟨r1, r2⟩ := p1.many hiK hown5 p2 hown7 hg7 (fun g hg => by simp [Value.ownBlock] at hg; subst hg; exact hat7)
                    have hgs : w7.grownBy (w7.setCell ⟨bb, 11, none⟩ (.slice (some ⟨g7, 0, none⟩) (i + 1) c7)) (some bb) := gb_setCell (gb_refl _ _) _
                    have HP : Hid _ := And.intro (((HK.out.step p3 (fun g hg => (p4 g hg).imp (fun h => .inr h) id)).trans r2 (H := fun k => k = bb ∨ F k) (fun _ h => h) (fun j hj => .inr hj)).step hgs (fun j hj => .inl (.inl (Option.some.inj hj).symm))) (And.intro (b7.set 11 (.slice (some ⟨g7, 0, none⟩) (i + 1) c7)) (r1.far b7 (by decide) (by decide) hgs))
                    clear r1 r2 p1 p2 p3 p4 hown5 hpsh5 hpsh hown7 hat7 hg7 b7 b5 hgs HC HK HV HA HM H0 HB HMR m15 m15a hmr5 hone
                    go_wp2
                    obtain ⟨p1, p2, p3⟩ := HP.out
                    exact ⟨⟨i + 1, by omega, by go_num, p1, _, _, p2, p3⟩, by simp [intOf]; omega⟩
            · obtain rfl : K = i := by omega
              obtain ⟨mao, mcp, hmd, _, _, _, _⟩ := row_shape hC.mrow
              subst hmd
              have c14 : wr.cell? ⟨bb, 10, none⟩ = some (.slice oao K ocp) := hb.cell 10
              have c15 : wr.cell? ⟨bb, 11, none⟩ = some (.slice mao K mcp) := hb.cell 11
              have h72 := look_111 hb hC.hr (row_base hC.mrow (Nat.zero_le _)) (Nat.le_refl _) hK (m := 700) (by omega) hC.hL hC.vs hC.ms
              have HP : Hid _ := And.intro hkp (And.intro hb hC)
              clear hC hkp hb
              go_wp2_with (go_at_call 111; go_must (refine h72.mono ?_))
              rintro y w9 ⟨rfl, hg9⟩
              have hb9 := Box.kept (t := 31) HP.out.2.1 hg9 (by simp)
              have hC9 := HP.out.2.2.kept0 hg9
              have hkp9 := HP.out.1.step hg9 (by simp)
              have c14 : w9.cell? ⟨bb, 10, none⟩ = some (.slice oao K ocp) := hb9.cell 10
              have h71 := look_111 hb9 hC9.hr (row_base hC9.orow (Nat.zero_le _)) (Nat.le_refl _) hK (m := 16) (by omega) hC9.hL hC9.vs hC9.os
              have HQ : Hid _ := And.intro hkp9 hb9
              clear h72 hb9 hC9 hkp9 HP hg9
              go_wp2_with (go_at_call 111; go_must (refine h71.mono ?_))
              rintro y w8 ⟨rfl, hg8⟩
              clear h71
              go_wp2
              go_ret
              exact ⟨rfl, HQ.out.1.step hg8 (by simp), _, _, Box.kept (t := 31) HQ.out.2 hg8 (by simp)⟩
end Go.Proofs.YtobegepebochkaaGreatDoor

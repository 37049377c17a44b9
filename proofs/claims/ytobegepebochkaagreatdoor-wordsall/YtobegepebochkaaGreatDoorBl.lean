import Derived.Test.YtobegepebochkaaGreatDoorPbn
set_option linter.unusedVariables false
set_option linter.unusedSimpArgs false
namespace Go.Proofs.YtobegepebochkaaGreatDoor
open Go.RowKit
def mkF (i k : Nat) : List Value := [.int .u8 (IntKind.u8.wrap (k : Int)), sv (dg i), .bool false]
theorem mkF_len (i k : Nat) : (mkF i k).length = 3 := rfl
theorem rng3 {f : Nat → List Value} (h : ∀ i, (f i).length = 3) {n k j : Nat} (hk : k < n) (hj : j < 3) : (rng n f)[k * 3 + j]? = (f k)[j]? := rng_get h hk hj
theorem rng3_ext {f : Nat → List Value} (h : ∀ i, (f i).length = 3) {n : Nat} {R : List Value} (hl : R.length = n * 3) (hR : ∀ l j, l < n → j < 3 → R[l * 3 + j]? = (f l)[j]?) : R = rng n f := by
  apply List.ext_getElem?
  intro q
  by_cases hq : q < n * 3
  · have e : q = q / 3 * 3 + q % 3 := by omega
    rw [e, hR _ _ (by omega) (by omega), rng_get h (by omega) (by omega)]
  · rw [List.getElem?_eq_none (by omega), List.getElem?_eq_none (by rw [rng_len h]; omega)]
theorem step_psh1 {sl el : TypeId} {ti : TypeInfo} {z : Value} {sz bs : Nat} {w w5 : World} {ops : Array Oper} {o : Oper} {a : Act} {Q : Exit → Act → World → Prop} {K : Act → World → Prop} {E : Prop} (T : Ty sl el ti z sz bs) (hgd : o.guard = none) (s x : Operand)
    (ho : o.op = .call { callee := .builtin .append, args := #[s, x], argTypes := #[sl, sl] }) (v : Value) (n : Nat) (xs : List Value) (hs : a.eval s = v) (us : List Value) (hul : us.length = sz) (hu : ∀ u ∈ us, u.oneCell' = true) (hw : w = w5.alloc (.cells us.toArray el)) (hown : w5.ownsRow 0 el sz v n xs) (hx : a.eval x = .slice (some ⟨w5.heap.size, 0, none⟩) 1 1) (hn : n ≤ 100000000)
    (h : ∀ g c w', w'.ownsRow 0 el sz (.slice (some ⟨g, 0, none⟩) (n + 1) c) (n + 1) (xs ++ us) → Psh w5 w' v n 1 (.slice (some ⟨g, 0, none⟩) (n + 1) c) → K (a.put o.dst (.slice (some ⟨g, 0, none⟩) (n + 1) c)) w') :
    if Region.wanted o (yielded ops a.tmps) = true then Oper.wp Tryz.prog o a w K Q else E := by
  subst hw
  exact step_more T hgd s x ho v n xs hs (World.ownsRow.alloc hown _) ⟨w5.heap.size, 0, none⟩ 1 1 us hx (by omega) (World.news_of_block (cs := us.toArray) (t := el) (fr := (0, 0)) (heap_alloc_new w5 _)) hu (by omega) (by omega) (fun g c w' h1 h2 => h g c w' h1 (psh_trans (fun r => World.grownBy_alloc w5 _ r) h2))
set_option maxRecDepth 100000 in
set_option maxHeartbeats 16000000 in
theorem own_23 {w : World} {fb : Nat} {FM : Nat → Prop} (h : Fok w fb FM) : Calls Tryz.prog 23 #[.pointer (some ⟨fb, 0, none⟩)] w fun y w' => y = .returned (.bool true) ∧ Kp FM w w' := by
  obtain ⟨lv, F, K, V, W, L, D, hb, hd, hK, f1, f2, f3⟩ := h
  suffices hh : Calls Tryz.prog 23 #[.pointer (some ⟨fb, 0, none⟩)] w fun y w' => y = .returned (.bool true) ∧ Kp F w w' from hh.mono (fun _ _ ⟨e, h⟩ => ⟨e, h.mono (fun i hi => .inl (f2 i hi))⟩)
  obtain ⟨tO, TO⟩ := ty_33
  obtain ⟨tI, TI⟩ := ty_39
  have hbF : ¬ F fb := hd.not hb (by decide) (by decide)
  have h0 := hd.cl 20 0 mkF (by omega) mkF_len (fun _ => .slice none 0 0) (fun _ => .slice none 0 0)
  obtain ⟨lao, lcp, hdl, _, _, _, hposh⟩ := row_shape hd.hr
  subst hdl
  have HB0 : Hid (Box w 35 fb #[(.slice lao K lcp)]) := hb
  have hfl := hb.lt
  clear hd f1 f2 f3
  go_enter Tryz.func23, Tryz.ntmps23
  go_wp2
  clear hb
  go_loopw [4] (fun v wr => ∃ i : Nat, i ≤ K ∧ v = .int .i64 i ∧ Kp F w wr ∧ Box wr 35 fb #[(.slice lao K lcp)] ∧ ∃ R, Cl wr w.heap.size F 39 79 3 20 0 mkF (.slice lao K lcp) (.slice none 0 0) (.slice none 0 0) K 0 0 V (fun _ => .slice none 0 0) (fun _ => .slice none 0 0) L R ∧ ∀ j, j < i → R j = rng (L j) (mkF j)) (fun v _ => K - (intOf v).toNat)
  case atStart => exact ⟨0, by omega, rfl, Kp.refl _ _, HB0.out, _, h0, fun j hj => by omega⟩
  case round =>
    obtain ⟨i, hi, rfl, hkp, hb, R, hC, hR⟩ := hrel
    clear HB0
    have c0 : wr.cell? ⟨fb, 0, none⟩ = some (.slice lao K lcp) := hb.cell 0
    by_cases hiK : i < K
    · obtain ⟨gh, rfl⟩ := hposh (by omega)
      obtain ⟨va, vc, hVs, _, _, _, hposv⟩ := row_shape (hC.vs i hiK)
      have d1 : wr.cell? ⟨gh, i, none⟩ = some (.slice va (L i) vc) := by rw [← hVs]; exact row_cell hC.hr i _ (vsL_get _ hiK)
      have hib : (i : Int) < K := by omega
      have hLi := hC.hL i hiK
      have HC : Hid (Cl wr w.heap.size F 39 79 3 20 0 mkF (.slice (some ⟨gh, 0, none⟩) K lcp) (.slice none 0 0) (.slice none 0 0) K 0 0 V (fun _ => .slice none 0 0) (fun _ => .slice none 0 0) L R) := hC
      have HB : Hid (Box wr 35 fb #[(.slice (some ⟨gh, 0, none⟩) K lcp)]) := hb
      clear hC h0 hposh hb
      go_wp2
      go_loopw [5] (fun v wq => ∃ k : Nat, k ≤ L i ∧ v = .int .i64 k ∧ Kp F w wq ∧ Box wq 35 fb #[(.slice (some ⟨gh, 0, none⟩) K lcp)] ∧ ∃ R2, Cl wq w.heap.size F 39 79 3 20 0 mkF (.slice (some ⟨gh, 0, none⟩) K lcp) (.slice none 0 0) (.slice none 0 0) K 0 0 V (fun _ => .slice none 0 0) (fun _ => .slice none 0 0) L R2 ∧ (∀ j, j < i → R2 j = rng (L j) (mkF j)) ∧ ∀ l j, l < k → j < 3 → (R2 i)[l * 3 + j]? = (mkF i l)[j]?) (fun v _ => L i - (intOf v).toNat)
      case atStart => exact ⟨0, by omega, rfl, hkp, HB.out, R, HC.out, hR, fun l j hl => by omega⟩
      case round =>
        obtain ⟨k, hk, rfl, hkp2, hb, R2, hC2, hR2, hM2⟩ := hrel
        clear c0 d1 HC HB hkp hR
        have c0 : wr.cell? ⟨fb, 0, none⟩ = some (.slice (some ⟨gh, 0, none⟩) K lcp) := hb.cell 0
        have d1 : wr.cell? ⟨gh, i, none⟩ = some (.slice va (L i) vc) := by rw [← hVs]; exact row_cell hC2.hr i _ (vsL_get _ hiK)
        have hrow := hC2.vs i hiK
        rw [hVs] at hrow
        have hlen : (R2 i).length = L i * 3 := hrow.1
        by_cases hkl : k < L i
        · obtain ⟨g, rfl⟩ := hposv (by omega)
          obtain ⟨cur, hcur⟩ := row_block hrow g rfl
          have e0 : wr.cell? ⟨g, k * 3, none⟩ = some ((R2 i)[k * 3]'(by omega)) := row_cell hrow _ _ (List.getElem?_eq_getElem (by omega))
          have e1 : wr.cell? ⟨g, k * 3 + 1, none⟩ = some ((R2 i)[k * 3 + 1]'(by omega)) := row_cell hrow _ _ (List.getElem?_eq_getElem (by omega))
          have e2 : wr.cell? ⟨g, k * 3 + 2, none⟩ = some ((R2 i)[k * 3 + 2]'(by omega)) := row_cell hrow _ _ (List.getElem?_eq_getElem (by omega))
          have f1 : ∀ j, wr.frozen? ⟨g, j, none⟩ = false := fun j => Box.fz (show Box wr 79 g cur from hcur) j
          have hkb : (k : Int) < L i := by omega
          have hbg : fb ≠ g := ne_of_type hb hcur (by decide)
          have hgg : gh ≠ g := by obtain ⟨c, hc⟩ := row_block hC2.hr gh rfl; exact ne_of_type hc hcur (by decide)
          obtain ⟨z, hz⟩ : ∃ z, IntKind.u8.wrap (k : Int) = z := ⟨_, rfl⟩
          have hpost : ∀ wx : World, wr.grownBy wx none → Kp F w (((wx.setCell ⟨g, k * 3, none⟩ (.int .u8 z)).setCell ⟨g, k * 3 + 1, none⟩ (sv (dg i))).setCell ⟨g, k * 3 + 2, none⟩ (.bool false)) ∧ Box (((wx.setCell ⟨g, k * 3, none⟩ (.int .u8 z)).setCell ⟨g, k * 3 + 1, none⟩ (sv (dg i))).setCell ⟨g, k * 3 + 2, none⟩ (.bool false)) 35 fb #[(.slice (some ⟨gh, 0, none⟩) K lcp)] ∧ ∃ R3, Cl (((wx.setCell ⟨g, k * 3, none⟩ (.int .u8 z)).setCell ⟨g, k * 3 + 1, none⟩ (sv (dg i))).setCell ⟨g, k * 3 + 2, none⟩ (.bool false)) w.heap.size F 39 79 3 20 0 mkF (.slice (some ⟨gh, 0, none⟩) K lcp) (.slice none 0 0) (.slice none 0 0) K 0 0 V (fun _ => .slice none 0 0) (fun _ => .slice none 0 0) L R3 ∧ (∀ j, j < i → R3 j = rng (L j) (mkF j)) ∧ ∀ l j, l < k + 1 → j < 3 → (R3 i)[l * 3 + j]? = (mkF i l)[j]? := fun wx hx => by
            have hgs : wx.grownBy (((wx.setCell ⟨g, k * 3, none⟩ (.int .u8 z)).setCell ⟨g, k * 3 + 1, none⟩ (sv (dg i))).setCell ⟨g, k * 3 + 2, none⟩ (.bool false)) (some g) := gb_setCell (gb_setCell (gb_setCell (gb_refl _ _) _) _) _
            refine ⟨(hkp2.step hx (by simp)).step hgs (fun j hj => by have := Option.some.inj hj; subst this; exact .inl (hC2.fv i g hiK (by rw [hVs]; rfl))), (hb.kept hx (by simp)).kept hgs (some_ne2 hbg), _, (hC2.kept0 hx).write hiK hVs hgs (row_set (row_set (row_set (row_kept hrow hx (by simp)) (k * 3) _) (k * 3 + 1) _) (k * 3 + 2) _), fun j hj => ?_, fun l j hl hj => ?_⟩
            · rw [upd_other _ _ (by omega)]; exact hR2 j hj
            · rw [upd_same, List.getElem?_set, List.getElem?_set, List.getElem?_set]
              simp only [List.length_set]
              by_cases e : l = k
              · subst e
                rcases (by omega : j = 0 ∨ j = 1 ∨ j = 2) with rfl | rfl | rfl
                · rw [if_neg (by omega), if_neg (by omega), if_pos (by omega), if_pos (by omega)]; simp [mkF, hz]
                · rw [if_neg (by omega), if_pos (by omega), if_pos (by omega)]; simp [mkF]
                · rw [if_pos (by omega), if_pos (by omega)]; simp [mkF]
              · rw [if_neg (by omega), if_neg (by omega), if_neg (by omega)]; exact hM2 l j (by omega) hj
          generalize (R2 i)[k * 3]'(by omega) = old0 at *
          generalize (R2 i)[k * 3 + 1]'(by omega) = old1 at *
          generalize (R2 i)[k * 3 + 2]'(by omega) = old2 at *
          have HP : Hid _ := hpost
          clear hpost hC2 hkp2 hR2 hM2 hrow hcur hlen hposv hb hVs
          generalize L i = Li at *
          have hglt : g < wr.heap.size := World.block_lt_of_cell? _ _ e1
          have h74 := digits_74 i (by omega)
          have hwi : IntKind.u64.wrap (i : Int) = (i : Int) := by rw [IntKind.wrap_u64]; omega
          go_wp2_with fail
          refine wp_region_noPanic ?_
          have hgA : wr.grownBy wr.drew none := gb_drew (gb_refl wr none)
          refine wp_region_held_drew (S := fun W : World => wr.grownBy W (some g)) (by kernel_rfl) (gb_none _ hgA) (fun hS0 => ?_)
          clear hS0
          generalize wr.drew = W1 at hgA ⊢
          have hSA := gb_none (some g) hgA
          refine wpAnyH_take (i := 0) (oi := { dst := some 33, op := Op.move (Operand.tmp 0), type := 32, pos := _, after := #[], guard := none }) (v := ?_) rfl (by kernel_rfl) (by kernel_rfl) (by kernel_rfl) (fun _ _ _ h => h) (Or.inl ⟨by rfl, ?_⟩) (by first | trivial | assumption) ?_
          rotate_left 1
          · (intro W hSw; go_simp; (try (with_reducible rfl)))
          try simp only [Act.put, List.setIfInBounds_toArray, List.set_cons_zero, List.set_cons_succ]
          refine wpAnyH_take (i := 1) (oi := { dst := some 34, op := Op.nilCheck (Operand.tmp 33), type := 0, pos := _, after := #[{ on := 0, ground := Ground.data }], guard := none }) (v := ?_) rfl (by kernel_rfl) (by kernel_rfl) (by kernel_rfl) (fun _ _ _ h => h) (Or.inl ⟨by rfl, ?_⟩) (by first | trivial | assumption) ?_
          rotate_left 1
          · (intro W hSw; go_simp; (try (with_reducible rfl)))
          try simp only [Act.put, List.setIfInBounds_toArray, List.set_cons_zero, List.set_cons_succ]
          refine wpAnyH_take (i := 2) (oi := { dst := some 35, op := Op.fieldAddr 35 (Operand.tmp 34) 0, type := 0, pos := _, after := #[{ on := 1, ground := Ground.data }], guard := none }) (v := ?_) rfl (by kernel_rfl) (by kernel_rfl) (by kernel_rfl) (fun _ _ _ h => h) (Or.inl ⟨by rfl, ?_⟩) (by first | trivial | assumption) ?_
          rotate_left 1
          · (intro W hSw; go_simp; (try (with_reducible rfl)))
          try simp only [Act.put, List.setIfInBounds_toArray, List.set_cons_zero, List.set_cons_succ]
          refine wpAnyH_take (i := 3) (oi := { dst := some 36, op := Op.load 33 (Operand.tmp 35), type := 33, pos := _, after := #[{ on := 2, ground := Ground.data }], guard := none }) (v := ?_) rfl (by kernel_rfl) (by kernel_rfl) (by kernel_rfl) (fun _ _ _ h => h) (Or.inl ⟨by rfl, ?_⟩) (by first | trivial | assumption) ?_
          rotate_left 1
          · (intro W hSw; have x0 := gb_cell hSw c0 (some_ne2 hbg); have x1 := gb_cell hSw d1 (some_ne2 hgg); go_simp; (try (with_reducible rfl)))
          try simp only [Act.put, List.setIfInBounds_toArray, List.set_cons_zero, List.set_cons_succ]
          refine wpAnyH_take (i := 4) (oi := { dst := some 37, op := Op.move (Operand.tmp 4), type := 3, pos := _, after := #[], guard := none }) (v := ?_) rfl (by kernel_rfl) (by kernel_rfl) (by kernel_rfl) (fun _ _ _ h => h) (Or.inl ⟨by rfl, ?_⟩) (by first | trivial | assumption) ?_
          rotate_left 1
          · (intro W hSw; go_simp; (try (with_reducible rfl)))
          try simp only [Act.put, List.setIfInBounds_toArray, List.set_cons_zero, List.set_cons_succ]
          refine wpAnyH_take (i := 5) (oi := { dst := some 38, op := Op.indexAddr 33 (Operand.tmp 36) (Operand.tmp 37), type := 0, pos := _, after := #[{ on := 3, ground := Ground.data }, { on := 4, ground := Ground.data }], guard := none }) (v := ?_) rfl (by kernel_rfl) (by kernel_rfl) (by kernel_rfl) (fun _ _ _ h => h) (Or.inl ⟨by rfl, ?_⟩) (by first | trivial | assumption) ?_
          rotate_left 1
          · (intro W hSw; go_simp; (try (with_reducible rfl)))
          try simp only [Act.put, List.setIfInBounds_toArray, List.set_cons_zero, List.set_cons_succ]
          refine wpAnyH_take (i := 6) (oi := { dst := some 39, op := Op.load 39 (Operand.tmp 38), type := 39, pos := _, after := #[{ on := 5, ground := Ground.data }], guard := none }) (v := ?_) rfl (by kernel_rfl) (by kernel_rfl) (by kernel_rfl) (fun _ _ _ h => h) (Or.inl ⟨by rfl, ?_⟩) (by first | trivial | assumption) ?_
          rotate_left 1
          · (intro W hSw; have x0 := gb_cell hSw c0 (some_ne2 hbg); have x1 := gb_cell hSw d1 (some_ne2 hgg); go_simp; (try (with_reducible rfl)))
          try simp only [Act.put, List.setIfInBounds_toArray, List.set_cons_zero, List.set_cons_succ]
          refine wpAnyH_take (i := 7) (oi := { dst := some 40, op := Op.move (Operand.tmp 5), type := 3, pos := _, after := #[], guard := none }) (v := ?_) rfl (by kernel_rfl) (by kernel_rfl) (by kernel_rfl) (fun _ _ _ h => h) (Or.inl ⟨by rfl, ?_⟩) (by first | trivial | assumption) ?_
          rotate_left 1
          · (intro W hSw; go_simp; (try (with_reducible rfl)))
          try simp only [Act.put, List.setIfInBounds_toArray, List.set_cons_zero, List.set_cons_succ]
          refine wpAnyH_take (i := 8) (oi := { dst := some 41, op := Op.move (Operand.tmp 5), type := 3, pos := _, after := #[], guard := none }) (v := ?_) rfl (by kernel_rfl) (by kernel_rfl) (by kernel_rfl) (fun _ _ _ h => h) (Or.inl ⟨by rfl, ?_⟩) (by first | trivial | assumption) ?_
          rotate_left 1
          · (intro W hSw; go_simp; (try (with_reducible rfl)))
          try simp only [Act.put, List.setIfInBounds_toArray, List.set_cons_zero, List.set_cons_succ]
          refine wpAnyH_take (i := 9) (oi := { dst := some 42, op := Op.convert 3 5 (Operand.tmp 41), type := 5, pos := _, after := #[{ on := 8, ground := Ground.data }], guard := none }) (v := ?_) rfl (by kernel_rfl) (by kernel_rfl) (by kernel_rfl) (fun _ _ _ h => h) (Or.inl ⟨by rfl, ?_⟩) (by first | trivial | assumption) ?_
          rotate_left 1
          · (intro W hSw; go_simp; (try (with_reducible rfl)))
          try simp only [Act.put, List.setIfInBounds_toArray, List.set_cons_zero, List.set_cons_succ]
          refine wpAnyH_take (i := 10) (oi := { dst := some 43, op := Op.move (Operand.tmp 4), type := 3, pos := _, after := #[], guard := none }) (v := ?_) rfl (by kernel_rfl) (by kernel_rfl) (by kernel_rfl) (fun _ _ _ h => h) (Or.inl ⟨by rfl, ?_⟩) (by first | trivial | assumption) ?_
          rotate_left 1
          · (intro W hSw; go_simp; (try (with_reducible rfl)))
          try simp only [Act.put, List.setIfInBounds_toArray, List.set_cons_zero, List.set_cons_succ]
          refine wpAnyH_take (i := 11) (oi := { dst := some 44, op := Op.convert 3 37 (Operand.tmp 43), type := 37, pos := _, after := #[{ on := 10, ground := Ground.data }], guard := none }) (v := ?_) rfl (by kernel_rfl) (by kernel_rfl) (by kernel_rfl) (fun _ _ _ h => h) (Or.inl ⟨by rfl, ?_⟩) (by first | trivial | assumption) ?_
          rotate_left 1
          · (intro W hSw; go_simp; (try (with_reducible rfl)))
          try simp only [Act.put, List.setIfInBounds_toArray, List.set_cons_zero, List.set_cons_succ]
          refine wpAnyH_ready (rs := [12]) (by kernel_rfl) (by simp) ?_
          refine (AllReadyH.cons rfl (fun K hK => ?_) AllReadyH.nil)
          go_simp
          (with_reducible refine (h74 W1).mono ?_)
          rintro e W2 ⟨rfl, hgn⟩
          have hgB := gb_trans hgA hgn
          clear hgn
          have hSB := gb_none (some g) hgB
          refine hK.out _ _ hSB (fun hS => ?_)
          clear hK K hS
          try simp only [Act.put, List.setIfInBounds_toArray, List.set_cons_zero, List.set_cons_succ]
          refine wpAnyH_take (i := 13) (oi := { dst := some 46, op := Op.build 79 #[(0, Operand.tmp 42), (1, Operand.tmp 45)], type := 79, pos := _, after := #[{ on := 9, ground := Ground.data }, { on := 12, ground := Ground.data }], guard := none }) (v := ?_) rfl (by kernel_rfl) (by kernel_rfl) (by kernel_rfl) (fun _ _ _ h => h) (Or.inl ⟨by rfl, ?_⟩) (by first | trivial | assumption) ?_
          rotate_left 1
          · (intro W hSw; go_simp; (try (with_reducible rfl)))
          try simp only [Act.put, List.setIfInBounds_toArray, List.set_cons_zero, List.set_cons_succ]
          refine wpAnyH_take (i := 14) (oi := { dst := some 47, op := Op.indexAddr 39 (Operand.tmp 39) (Operand.tmp 40), type := 0, pos := _, after := #[{ on := 6, ground := Ground.data }, { on := 7, ground := Ground.data }, { on := 0, ground := Ground.phase }, { on := 1, ground := Ground.phase }, { on := 2, ground := Ground.phase }, { on := 3, ground := Ground.phase }, { on := 4, ground := Ground.phase }, { on := 5, ground := Ground.phase }, { on := 6, ground := Ground.phase }, { on := 7, ground := Ground.phase }, { on := 8, ground := Ground.phase }, { on := 9, ground := Ground.phase }, { on := 10, ground := Ground.phase }, { on := 11, ground := Ground.phase }, { on := 12, ground := Ground.phase }, { on := 13, ground := Ground.phase }], guard := none }) (v := ?_) rfl (by kernel_rfl) (by kernel_rfl) (by kernel_rfl) (fun _ _ _ h => h) (Or.inl ⟨by rfl, ?_⟩) (by first | trivial | assumption) ?_
          rotate_left 1
          · (intro W hSw; go_simp; (try (with_reducible rfl)))
          try simp only [Act.put, List.setIfInBounds_toArray, List.set_cons_zero, List.set_cons_succ]
          have y0 := gb_cellN hgB e0
          have y1 := gb_cellN hgB e1
          have y2 := gb_cellN hgB e2
          have fz : ∀ j, W2.frozen? ⟨g, j, none⟩ = false := fun j => by rw [World.frozen?, hgB.block g hglt (by simp)]; exact f1 j
          have z0 := fz (k * 3)
          have z1 := fz (k * 3 + 1)
          have z2 := fz (k * 3 + 2)
          refine wpAnyH_ready (rs := [15]) (by kernel_rfl) (by simp) ?_
          refine (AllReadyH.cons rfl (fun K hK => ?_) AllReadyH.nil)
          go_simp
          refine hK.out _ _ (gb_setCell (gb_setCell (gb_setCell (gb_none _ hgB) _) _) _) (fun hS => ?_)
          clear hK K hS
          try simp only [Act.put, List.setIfInBounds_toArray, List.set_cons_zero, List.set_cons_succ]
          refine wpAnyH_done (by kernel_rfl) ?_ _
          refine NoPanic.normal ?_
          go_wp2_with fail
          obtain ⟨p1, pb, R3, p2, p3, p4⟩ := HP.out _ hgB
          exact ⟨⟨k + 1, by omega, by go_num, p1, pb, R3, p2, p3, p4⟩, by simp [intOf]; omega⟩
        · obtain rfl : k = L i := by omega
          have hpost : Kp F w wr ∧ Box wr 35 fb #[(.slice (some ⟨gh, 0, none⟩) K lcp)] ∧ ∃ R3, Cl wr w.heap.size F 39 79 3 20 0 mkF (.slice (some ⟨gh, 0, none⟩) K lcp) (.slice none 0 0) (.slice none 0 0) K 0 0 V (fun _ => .slice none 0 0) (fun _ => .slice none 0 0) L R3 ∧ ∀ j, j < i + 1 → R3 j = rng (L j) (mkF j) := by
            refine ⟨hkp2, hb, R2, hC2, fun j hj => ?_⟩
            by_cases e : j = i
            · subst e
              exact rng3_ext (mkF_len j) hlen (fun l q hl hq => hM2 l q hl hq)
            · exact hR2 j (by omega)
          have HP : Hid _ := hpost
          clear hpost hC2 hkp2 hR2 hM2 hrow hlen hposv hb
          go_wp2
          obtain ⟨p1, pb, R3, p2, p3⟩ := HP.out
          exact ⟨⟨i + 1, by omega, by go_num, p1, pb, R3, p2, p3⟩, by simp [intOf]; omega⟩
    · obtain rfl : K = i := by omega
      have h1 := hC.read hR
      have HC : Hid (Cl wr w.heap.size F 39 79 3 20 0 mkF (.slice lao K lcp) (.slice none 0 0) (.slice none 0 0) K 0 0 V (fun _ => .slice none 0 0) (fun _ => .slice none 0 0) L (fun j => rng (L j) (mkF j))) := h1
      have HK : Hid _ := hkp
      have HB : Hid (Box wr 35 fb #[(.slice lao K lcp)]) := hb
      clear hC hR h0 h1 hkp hb
      go_wp2
      clear c0 hposh
      have hposh : 0 < K → ∃ g, lao = some ⟨g, 0, none⟩ := by
        obtain ⟨_, _, hq, _, _, _, h9⟩ := row_shape HC.out.hr
        injection hq with h1
        subst h1
        exact h9
      go_loopw [3, 6] (fun ov v wq => ∃ i : Nat, i ≤ K ∧ v = .int .i64 i ∧ Kp F w wq ∧ ∃ O, Box wq 35 fb #[(.slice lao K lcp)] ∧ Cl wq w.heap.size F 39 79 3 20 0 mkF (.slice lao K lcp) ov (.slice none 0 0) K i 0 V O (fun _ => .slice none 0 0) L (fun j => rng (L j) (mkF j))) (fun _ v _ => K - (intOf v).toNat)
      case atStart => exact ⟨0, by omega, rfl, HK.out, _, HB.out, HC.out⟩
      case round =>
        obtain ⟨i, hi, rfl, hkp, O, hb, hC⟩ := hrel
        clear HC HK HB
        obtain ⟨oao, ocp, hod, _, _, _, hposo⟩ := row_shape hC.orow
        subst hod
        have c0 : wr.cell? ⟨fb, 0, none⟩ = some (.slice lao K lcp) := hb.cell 0
        by_cases hiK : i < K
        · obtain ⟨gh, rfl⟩ := hposh (by omega)
          obtain ⟨va, vc, hVs, _, _, _, hposv⟩ := row_shape (hC.vs i hiK)
          have d1 : wr.cell? ⟨gh, i, none⟩ = some (.slice va (L i) vc) := by rw [← hVs]; exact row_cell hC.hr i _ (vsL_get _ hiK)
          have hib : (i : Int) < K := by omega
          have hLi := hC.hL i hiK
          have hst : wr.ownsRow 0 79 3 (.slice va (L i) vc) (L i + 0) (rng (L i + 0) (mkF i)) ∧ Ap w.heap.size i 0 V O (fun _ => .slice none 0 0) i (.slice va (L i) vc) := by rw [← hVs]; exact ⟨hC.vs i hiK, fun g hg => .inl hg⟩
          have HC : Hid _ := hC
          have HS : Hid _ := hst
          have HK : Hid _ := hkp
          have HB : Hid (Box wr 35 fb #[(.slice (some ⟨gh, 0, none⟩) K lcp)]) := hb
          clear hC hposh hst hkp hb hposo
          go_wp2
          go_loopw [7, 8] (fun lv v wq => ∃ k : Nat, k ≤ 20 ∧ v = .int .i64 k ∧ Kp F w wq ∧ Box wq 35 fb #[(.slice (some ⟨gh, 0, none⟩) K lcp)] ∧ Cl wq w.heap.size F 39 79 3 20 0 mkF (.slice (some ⟨gh, 0, none⟩) K lcp) (.slice oao i ocp) (.slice none 0 0) K i 0 V O (fun _ => .slice none 0 0) L (fun j => rng (L j) (mkF j)) ∧ wq.ownsRow 0 79 3 lv (L i + k) (rng (L i + k) (mkF i)) ∧ Ap w.heap.size i 0 V O (fun _ => .slice none 0 0) i lv) (fun _ v _ => 20 - (intOf v).toNat)
          case atStart => exact ⟨0, by omega, rfl, HK.out, HB.out, HC.out, HS.out.1, HS.out.2⟩
          case round =>
            obtain ⟨k, hk, rfl, hkp, hb, hC, hl, hap⟩ := hrel
            clear HC HK HS HB c0 d1
            obtain ⟨lao2, lcp2, hld, _, _, _, _⟩ := row_shape hl
            subst hld
            by_cases hk16 : k < 20
            · have hkb : (k : Int) < 20 := by omega
              have c0 : wr.cell? ⟨fb, 0, none⟩ = some (.slice (some ⟨gh, 0, none⟩) K lcp) := hb.cell 0
              have d1 : wr.cell? ⟨gh, i, none⟩ = some (.slice va (L i) vc) := by rw [← hVs]; exact row_cell hC.hr i _ (vsL_get _ hiK)
              have hnf : some fb ≠ (Value.slice lao2 (L i + k) lcp2).ownBlock := fun e => by obtain ⟨c, hc⟩ := row_block hl fb e.symm; exact ne_of_type hb hc (by decide) rfl
              have hng : some gh ≠ (Value.slice lao2 (L i + k) lcp2).ownBlock := fun e => by obtain ⟨c, hc⟩ := row_block hl gh e.symm; obtain ⟨c2, hc2⟩ := row_block hC.hr gh rfl; exact ne_of_type hc2 hc (by decide) rfl
              obtain ⟨z, hz⟩ : ∃ z, IntKind.u8.wrap ((L i : Int) + k) = z := ⟨_, rfl⟩
              have hmore : rng (L i + k) (mkF i) ++ [.int .u8 z, sv (dg i), .bool false] = rng (L i + k + 1) (mkF i) := by rw [rng_succ, mkF, ← hz, Int.natCast_add]
              have hwk : IntKind.i64.wrap ((L i : Int) + k) = (L i : Int) + k := by rw [IntKind.wrap_i64]; omega
              have HM : Hid _ := hmore
              have HC : Hid _ := hC
              have HA : Hid _ := hap
              have HK : Hid _ := hkp
              have HB : Hid (Box wr 35 fb #[(.slice (some ⟨gh, 0, none⟩) K lcp)]) := hb
              have HL : Hid _ := hl
              have h74 := digits_74 i (by omega)
              have hwi : IntKind.u64.wrap (i : Int) = (i : Int) := by rw [IntKind.wrap_u64]; omega
              clear hC hap hkp hb hmore hVs
              go_wp2_with fail
              refine wp_region_noPanic ?_
              have hgA : wr.grownBy wr.drew none := gb_drew (gb_refl wr none)
              refine wp_region_held_drew (S := fun W : World => wr.grownBy W (Value.slice lao2 (L i + k) lcp2).ownBlock) (by kernel_rfl) (gb_none _ hgA) (fun hS0 => ?_)
              clear hS0
              generalize wr.drew = W1 at hgA ⊢
              have hSA := gb_none (Value.slice lao2 (L i + k) lcp2).ownBlock hgA
              refine wpAnyH_take (i := 0) (oi := { dst := some 68, op := Op.move (Operand.tmp 7), type := 39, pos := _, after := #[], guard := none }) (v := ?_) rfl (by kernel_rfl) (by kernel_rfl) (by kernel_rfl) (fun _ _ _ h => h) (Or.inl ⟨by rfl, ?_⟩) (by first | trivial | assumption) ?_
              rotate_left 1
              · (intro W hSw; go_simp; (try (with_reducible rfl)))
              try simp only [Act.put, List.setIfInBounds_toArray, List.set_cons_zero, List.set_cons_succ]
              refine wpAnyH_take (i := 1) (oi := { dst := some 69, op := Op.move (Operand.tmp 0), type := 32, pos := _, after := #[], guard := none }) (v := ?_) rfl (by kernel_rfl) (by kernel_rfl) (by kernel_rfl) (fun _ _ _ h => h) (Or.inl ⟨by rfl, ?_⟩) (by first | trivial | assumption) ?_
              rotate_left 1
              · (intro W hSw; go_simp; (try (with_reducible rfl)))
              try simp only [Act.put, List.setIfInBounds_toArray, List.set_cons_zero, List.set_cons_succ]
              refine wpAnyH_take (i := 2) (oi := { dst := some 70, op := Op.nilCheck (Operand.tmp 69), type := 0, pos := _, after := #[{ on := 1, ground := Ground.data }], guard := none }) (v := ?_) rfl (by kernel_rfl) (by kernel_rfl) (by kernel_rfl) (fun _ _ _ h => h) (Or.inl ⟨by rfl, ?_⟩) (by first | trivial | assumption) ?_
              rotate_left 1
              · (intro W hSw; go_simp; (try (with_reducible rfl)))
              try simp only [Act.put, List.setIfInBounds_toArray, List.set_cons_zero, List.set_cons_succ]
              refine wpAnyH_take (i := 3) (oi := { dst := some 71, op := Op.fieldAddr 35 (Operand.tmp 70) 0, type := 0, pos := _, after := #[{ on := 2, ground := Ground.data }], guard := none }) (v := ?_) rfl (by kernel_rfl) (by kernel_rfl) (by kernel_rfl) (fun _ _ _ h => h) (Or.inl ⟨by rfl, ?_⟩) (by first | trivial | assumption) ?_
              rotate_left 1
              · (intro W hSw; go_simp; (try (with_reducible rfl)))
              try simp only [Act.put, List.setIfInBounds_toArray, List.set_cons_zero, List.set_cons_succ]
              refine wpAnyH_take (i := 4) (oi := { dst := some 72, op := Op.load 33 (Operand.tmp 71), type := 33, pos := _, after := #[{ on := 3, ground := Ground.data }], guard := none }) (v := ?_) rfl (by kernel_rfl) (by kernel_rfl) (by kernel_rfl) (fun _ _ _ h => h) (Or.inl ⟨by rfl, ?_⟩) (by first | trivial | assumption) ?_
              rotate_left 1
              · (intro W hSw; have x0 := gb_cell hSw c0 hnf; have x1 := gb_cell hSw d1 hng; go_simp; (try (with_reducible rfl)))
              try simp only [Act.put, List.setIfInBounds_toArray, List.set_cons_zero, List.set_cons_succ]
              refine wpAnyH_take (i := 5) (oi := { dst := some 73, op := Op.move (Operand.tmp 6), type := 3, pos := _, after := #[], guard := none }) (v := ?_) rfl (by kernel_rfl) (by kernel_rfl) (by kernel_rfl) (fun _ _ _ h => h) (Or.inl ⟨by rfl, ?_⟩) (by first | trivial | assumption) ?_
              rotate_left 1
              · (intro W hSw; go_simp; (try (with_reducible rfl)))
              try simp only [Act.put, List.setIfInBounds_toArray, List.set_cons_zero, List.set_cons_succ]
              refine wpAnyH_take (i := 6) (oi := { dst := some 74, op := Op.indexAddr 33 (Operand.tmp 72) (Operand.tmp 73), type := 0, pos := _, after := #[{ on := 4, ground := Ground.data }, { on := 5, ground := Ground.data }], guard := none }) (v := ?_) rfl (by kernel_rfl) (by kernel_rfl) (by kernel_rfl) (fun _ _ _ h => h) (Or.inl ⟨by rfl, ?_⟩) (by first | trivial | assumption) ?_
              rotate_left 1
              · (intro W hSw; go_simp; (try (with_reducible rfl)))
              try simp only [Act.put, List.setIfInBounds_toArray, List.set_cons_zero, List.set_cons_succ]
              refine wpAnyH_take (i := 7) (oi := { dst := some 75, op := Op.load 39 (Operand.tmp 74), type := 39, pos := _, after := #[{ on := 6, ground := Ground.data }], guard := none }) (v := ?_) rfl (by kernel_rfl) (by kernel_rfl) (by kernel_rfl) (fun _ _ _ h => h) (Or.inl ⟨by rfl, ?_⟩) (by first | trivial | assumption) ?_
              rotate_left 1
              · (intro W hSw; have x0 := gb_cell hSw c0 hnf; have x1 := gb_cell hSw d1 hng; go_simp; (try (with_reducible rfl)))
              try simp only [Act.put, List.setIfInBounds_toArray, List.set_cons_zero, List.set_cons_succ]
              refine wpAnyH_take (i := 8) (oi := { dst := some 76, op := Op.call { callee := Callee.builtin Builtin.len, args := #[Operand.tmp 75], argTypes := #[39] }, type := 3, pos := _, after := #[{ on := 7, ground := Ground.data }], guard := none }) (v := ?_) rfl (by kernel_rfl) (by kernel_rfl) (by kernel_rfl) (fun _ _ _ h => h) (Or.inl ⟨by rfl, ?_⟩) (by first | trivial | assumption) ?_
              rotate_left 1
              · (intro W hSw; go_simp; (try (with_reducible rfl)))
              try simp only [Act.put, List.setIfInBounds_toArray, List.set_cons_zero, List.set_cons_succ]
              refine wpAnyH_take (i := 9) (oi := { dst := some 77, op := Op.move (Operand.tmp 8), type := 3, pos := _, after := #[], guard := none }) (v := ?_) rfl (by kernel_rfl) (by kernel_rfl) (by kernel_rfl) (fun _ _ _ h => h) (Or.inl ⟨by rfl, ?_⟩) (by first | trivial | assumption) ?_
              rotate_left 1
              · (intro W hSw; go_simp; (try (with_reducible rfl)))
              try simp only [Act.put, List.setIfInBounds_toArray, List.set_cons_zero, List.set_cons_succ]
              refine wpAnyH_take (i := 10) (oi := { dst := some 78, op := Op.binOp BinOp.add 3 (Operand.tmp 76) (Operand.tmp 77) 3, type := 3, pos := _, after := #[{ on := 8, ground := Ground.data }, { on := 9, ground := Ground.data }], guard := none }) (v := ?_) rfl (by kernel_rfl) (by kernel_rfl) (by kernel_rfl) (fun _ _ _ h => h) (Or.inl ⟨by rfl, ?_⟩) (by first | trivial | assumption) ?_
              rotate_left 1
              · (intro W hSw; go_simp; (try (with_reducible rfl)))
              try simp only [Act.put, List.setIfInBounds_toArray, List.set_cons_zero, List.set_cons_succ]
              refine wpAnyH_take (i := 11) (oi := { dst := some 79, op := Op.convert 3 5 (Operand.tmp 78), type := 5, pos := _, after := #[{ on := 10, ground := Ground.data }], guard := none }) (v := ?_) rfl (by kernel_rfl) (by kernel_rfl) (by kernel_rfl) (fun _ _ _ h => h) (Or.inl ⟨by rfl, ?_⟩) (by first | trivial | assumption) ?_
              rotate_left 1
              · (intro W hSw; go_simp; (try (with_reducible rfl)))
              try simp only [Act.put, List.setIfInBounds_toArray, List.set_cons_zero, List.set_cons_succ]
              refine wpAnyH_take (i := 12) (oi := { dst := some 80, op := Op.move (Operand.tmp 6), type := 3, pos := _, after := #[], guard := none }) (v := ?_) rfl (by kernel_rfl) (by kernel_rfl) (by kernel_rfl) (fun _ _ _ h => h) (Or.inl ⟨by rfl, ?_⟩) (by first | trivial | assumption) ?_
              rotate_left 1
              · (intro W hSw; go_simp; (try (with_reducible rfl)))
              try simp only [Act.put, List.setIfInBounds_toArray, List.set_cons_zero, List.set_cons_succ]
              refine wpAnyH_take (i := 13) (oi := { dst := some 81, op := Op.convert 3 37 (Operand.tmp 80), type := 37, pos := _, after := #[{ on := 12, ground := Ground.data }], guard := none }) (v := ?_) rfl (by kernel_rfl) (by kernel_rfl) (by kernel_rfl) (fun _ _ _ h => h) (Or.inl ⟨by rfl, ?_⟩) (by first | trivial | assumption) ?_
              rotate_left 1
              · (intro W hSw; go_simp; (try (with_reducible rfl)))
              try simp only [Act.put, List.setIfInBounds_toArray, List.set_cons_zero, List.set_cons_succ]
              refine wpAnyH_ready (rs := [14]) (by kernel_rfl) (by simp) ?_
              refine (AllReadyH.cons rfl (fun K hK => ?_) AllReadyH.nil)
              go_simp
              (with_reducible refine (h74 W1).mono ?_)
              rintro e W2 ⟨rfl, hgn⟩
              have hgB := gb_trans hgA hgn
              clear hgn
              have hSB := gb_none (Value.slice lao2 (L i + k) lcp2).ownBlock hgB
              refine hK.out _ _ hSB (fun hS => ?_)
              clear hK K hS
              try simp only [Act.put, List.setIfInBounds_toArray, List.set_cons_zero, List.set_cons_succ]
              refine wpAnyH_take (i := 15) (oi := { dst := some 83, op := Op.build 79 #[(0, Operand.tmp 79), (1, Operand.tmp 82)], type := 79, pos := _, after := #[{ on := 11, ground := Ground.data }, { on := 14, ground := Ground.data }], guard := none }) (v := ?_) rfl (by kernel_rfl) (by kernel_rfl) (by kernel_rfl) (fun _ _ _ h => h) (Or.inl ⟨by rfl, ?_⟩) (by first | trivial | assumption) ?_
              rotate_left 1
              · (intro W hSw; go_simp; (try (with_reducible rfl)))
              try simp only [Act.put, List.setIfInBounds_toArray, List.set_cons_zero, List.set_cons_succ]
              refine wpAnyH_ready (rs := [16]) (by kernel_rfl) (by simp) ?_
              refine (AllReadyH.cons rfl (fun K hK => ?_) AllReadyH.nil)
              go_simp
              refine hK.out _ _ (gb_alloc hSB _) (fun hS => ?_)
              clear hK K hS
              try simp only [Act.put, List.setIfInBounds_toArray, List.set_cons_zero, List.set_cons_succ]
              have hl2 := row_kept hl hgB (by simp)
              refine wpAnyH_ready (rs := [17]) (by kernel_rfl) (by simp) ?_
              refine (AllReadyH.cons rfl (fun K hK => ?_) AllReadyH.nil)
              refine step_psh1 TI (w5 := W2) (by rfl) (.tmp 68) (.tmp 84) (by rfl) _ (L i + k) _ (by rfl) [.int .u8 z, sv (dg i), .bool false] rfl (by simp [Value.oneCell']) (by rfl) hl2 (by rfl) (by omega) ?_
              intro g7 c7 w7 hown7 hpsh7
              have hSC := gb_trans hSB hpsh7.gb
              refine hK.out _ _ hSC (fun hS => ?_)
              clear hK K hS
              try simp only [Act.put, List.setIfInBounds_toArray, List.set_cons_zero, List.set_cons_succ]
              refine wpAnyH_take (i := 18) (oi := { dst := some 7, op := Op.assign (Operand.tmp 85), type := 39, pos := _, after := #[{ on := 17, ground := Ground.data }, { on := 17, ground := Ground.chain }, { on := 0, ground := Ground.phase }, { on := 1, ground := Ground.phase }, { on := 2, ground := Ground.phase }, { on := 3, ground := Ground.phase }, { on := 4, ground := Ground.phase }, { on := 5, ground := Ground.phase }, { on := 6, ground := Ground.phase }, { on := 7, ground := Ground.phase }, { on := 8, ground := Ground.phase }, { on := 9, ground := Ground.phase }, { on := 10, ground := Ground.phase }, { on := 11, ground := Ground.phase }, { on := 12, ground := Ground.phase }, { on := 13, ground := Ground.phase }, { on := 14, ground := Ground.phase }, { on := 15, ground := Ground.phase }, { on := 16, ground := Ground.phase }, { on := 17, ground := Ground.phase }], guard := none }) (v := ?_) rfl (by kernel_rfl) (by kernel_rfl) (by kernel_rfl) (fun _ _ _ h => h) (Or.inl ⟨by rfl, ?_⟩) (by first | trivial | assumption) ?_
              rotate_left 1
              · (intro W hSw; go_simp; (try (with_reducible rfl)))
              try simp only [Act.put, List.setIfInBounds_toArray, List.set_cons_zero, List.set_cons_succ]
              refine wpAnyH_done (by kernel_rfl) ?_ _
              refine NoPanic.normal ?_
              have hpsh := hpsh7
              rw [HM.out] at hown7
              obtain ⟨p1, p2, row, p3, p4⟩ := (HC.out.kept0 hgB).push hiK (row_kept HL.out hgB (by simp)) HA.out hpsh hown7 (fun h => by omega) (Nat.zero_le _)
              have p5 := (HK.out.step hgB (by simp)).step p3 (fun g hg => p4 g hg)
              have p6 := Psh.box hpsh (row_kept HL.out hgB (by simp)) (Box.kept (t := 35) HB.out hgB (by simp)) (by decide)
              have HP : Hid _ := And.intro p5 (And.intro p6 (And.intro p1 (And.intro hown7 p2)))
              clear p1 p2 p3 p4 p5 p6 hown7 hpsh hpsh7 hl HC HA HK HB HL HM hgB hgA hSA hSB hSC hl2
              go_wp2_with fail
              obtain ⟨p1, p6, p2, p3, p4⟩ := HP.out
              exact ⟨⟨k + 1, by omega, by go_num, p1, p6, p2, p3, p4⟩, by simp [intOf]; omega⟩
            · obtain rfl : k = 20 := by omega
              have horow := hC.orow
              have hB := hC.hB
              have ho0 : ∀ g, (Value.slice oao i ocp).ownBlock = some g → w.heap.size ≤ g := fun g e => (row_ge horow e).1
              have HC : Hid _ := hC
              have HA : Hid _ := hap
              have HK : Hid _ := hkp
              have HL : Hid _ := hl
              have HB : Hid (Box wr 35 fb #[(.slice (some ⟨gh, 0, none⟩) K lcp)]) := hb
              clear hC hap hkp hl hb
              go_wp2_with (at_builtin; go_must (refine pushB TO rfl _ _ rfl w.heap.size _ i _ (by rfl) horow [.slice lao2 (L i + 20) lcp2] rfl (by simp [Value.oneCell']) (by rfl) (by omega) hB ?_))
              intro g2 cap2 w2 hrow2 hgb2 hat2
              have b2' := Box.kept (t := 35) HB.out hgb2 (fun e => by have := ho0 _ e.symm; omega)
              obtain ⟨p1, p2⟩ := HC.out.one hiK HL.out HA.out hrow2 hgb2 (fun g hg => by simp [Value.ownBlock] at hg; subst hg; exact hat2)
              have HP : Hid _ := And.intro (HK.out.trans p2 (H := F) (fun _ h => h) (fun j hj => .inr hj)) (And.intro b2' p1)
              clear p1 p2 hrow2 hgb2 hat2 b2' HC HA HK HL HB horow ho0
              go_wp2
              obtain ⟨p1, p2, p3⟩ := HP.out
              exact ⟨⟨i + 1, by omega, by go_num, p1, _, p2, p3⟩, by simp [intOf]; omega⟩
        · obtain rfl : K = i := by omega
          obtain ⟨WA, hWA⟩ : ∃ WA, WA = wr := ⟨wr, rfl⟩
          have HG : Hid (WA.grownBy wr none) := by rw [hWA]; exact gb_refl _ _
          have HC : Hid (Cl WA w.heap.size F 39 79 3 20 0 mkF (.slice lao K lcp) (.slice oao K ocp) (.slice none 0 0) K K 0 V O (fun _ => .slice none 0 0) L (fun j => rng (L j) (mkF j))) := by rw [hWA]; exact hC
          have HB : Hid (Box WA 35 fb #[(.slice lao K lcp)]) := by rw [hWA]; exact hb
          have HK : Hid (Kp F w WA) := by rw [hWA]; exact hkp
          clear hC hkp hb hWA
          go_wp2
          clear c0
          go_loopw [9] (fun v wq => ∃ i : Nat, i ≤ K ∧ v = .int .i64 i ∧ WA.grownBy wq none) (fun v _ => K - (intOf v).toNat)
          case atStart => exact ⟨0, by omega, rfl, HG.out⟩
          case round =>
            obtain ⟨i, hi, rfl, hg⟩ := hrel
            clear HG
            have hb := Box.kept (t := 35) HB.out hg (by simp)
            have c0 : wr.cell? ⟨fb, 0, none⟩ = some (.slice lao K lcp) := hb.cell 0
            by_cases hiK : i < K
            · obtain ⟨gh, rfl⟩ := hposh (by omega)
              obtain ⟨go, rfl⟩ := hposo (by omega)
              have hC := HC.out
              have hV := hC.vs i hiK
              have hX := hC.os i hiK
              have d1 : WA.cell? ⟨gh, i, none⟩ = some (V i) := row_cell hC.hr i _ (vsL_get _ hiK)
              have d2 : WA.cell? ⟨go, i, none⟩ = some (O i) := row_cell hC.orow i _ (vsL_get _ hiK)
              have hLi := hC.hL i hiK
              obtain ⟨va, vc, hVs, _, _, _, hposv⟩ := row_shape hV
              obtain ⟨xa, xc, hXs, _, _, _, hposxx⟩ := row_shape hX
              rw [hVs] at d1 hV
              rw [hXs] at d2 hX
              have hib : (i : Int) < K := by omega
              have e2 := gb_cellN hg d2
              have h74 := digits_74 i (by omega)
              have hwi : IntKind.u64.wrap (i : Int) = (i : Int) := by rw [IntKind.wrap_u64]; omega
              generalize L i = n at *
              have cF : WA.cell? ⟨fb, 0, none⟩ = some (.slice (some ⟨gh, 0, none⟩) K lcp) := Box.cell (t := 35) HB.out 0
              clear hC hposh hposo hb
              go_wp2
              go_loopw [10] (fun v wq => ∃ k : Nat, k ≤ n + 20 ∧ v = .int .i64 k ∧ WA.grownBy wq none) (fun v _ => n + 20 - (intOf v).toNat)
              case atStart => exact ⟨0, by omega, rfl, hg⟩
              case round =>
                clear c0 e2 hg
                obtain ⟨k, hk, rfl, hg⟩ := hrel
                have c0 := gb_cellN hg cF
                have e1 := gb_cellN hg d1
                have e2 := gb_cellN hg d2
                by_cases hkn : k < n + 20
                · obtain ⟨g2, rfl⟩ := hposxx (by omega)
                  have hkb : (k : Int) < n + 20 := by omega
                  obtain ⟨z, hz⟩ : ∃ z, IntKind.u8.wrap (k : Int) = z := ⟨_, rfl⟩
                  have u0 : WA.cell? ⟨g2, k * 3, none⟩ = some (.int .u8 z) := row_cell hX (k * 3 + 0) _ (by rw [rng3 (mkF_len i) hkn (by omega), ← hz]; rfl)
                  have u1 : WA.cell? ⟨g2, k * 3 + 1, none⟩ = some (sv (dg i)) := row_cell hX (k * 3 + 1) _ (by rw [rng3 (mkF_len i) hkn (by omega)]; rfl)
                  have u2 : WA.cell? ⟨g2, k * 3 + 2, none⟩ = some (.bool false) := row_cell hX (k * 3 + 2) _ (by rw [rng3 (mkF_len i) hkn (by omega)]; rfl)
                  have HG : Hid _ := hg
                  have hE : ∀ wx : World, wr.grownBy wx none → wx.cell? ⟨fb, 0, none⟩ = some (.slice (some ⟨gh, 0, none⟩) K lcp) ∧ wx.cell? ⟨gh, i, none⟩ = some (.slice va n vc) ∧ wx.cell? ⟨go, i, none⟩ = some (.slice (some ⟨g2, 0, none⟩) (n + 20) xc) ∧ wx.cell? ⟨g2, k * 3, none⟩ = some (.int .u8 z) ∧ wx.cell? ⟨g2, k * 3 + 1, none⟩ = some (sv (dg i)) ∧ wx.cell? ⟨g2, k * 3 + 2, none⟩ = some (.bool false) := fun wx hx => ⟨gb_cellN hx c0, gb_cellN hx e1, gb_cellN hx e2, gb_cellN hx (gb_cellN hg u0), gb_cellN hx (gb_cellN hg u1), gb_cellN hx (gb_cellN hg u2)⟩
                  by_cases hkl : k < n
                  · obtain ⟨g1, rfl⟩ := hposv (by omega)
                    have v0 : WA.cell? ⟨g1, k * 3, none⟩ = some (.int .u8 z) := row_cell hV (k * 3 + 0) _ (by rw [rng3 (mkF_len i) hkl (by omega), ← hz]; rfl)
                    have v1 : WA.cell? ⟨g1, k * 3 + 1, none⟩ = some (sv (dg i)) := row_cell hV (k * 3 + 1) _ (by rw [rng3 (mkF_len i) hkl (by omega)]; rfl)
                    have v2 : WA.cell? ⟨g1, k * 3 + 2, none⟩ = some (.bool false) := row_cell hV (k * 3 + 2) _ (by rw [rng3 (mkF_len i) hkl (by omega)]; rfl)
                    have hE2 : ∀ wx : World, wr.grownBy wx none → wx.cell? ⟨g1, k * 3, none⟩ = some (.int .u8 z) ∧ wx.cell? ⟨g1, k * 3 + 1, none⟩ = some (sv (dg i)) ∧ wx.cell? ⟨g1, k * 3 + 2, none⟩ = some (.bool false) := fun wx hx => ⟨gb_cellN hx (gb_cellN hg v0), gb_cellN hx (gb_cellN hg v1), gb_cellN hx (gb_cellN hg v2)⟩
                    have hd4 : decide ((k : Int) < (n : Int)) = true := by simp; omega
                    have hd5 : decide (k < n) = true := by simp; omega
                    have hlb : (k : Int) < n := by omega
                    clear hV hX hposv hposxx hg cF d1 d2 u0 u1 u2 v0 v1 v2
                    go_wp2_with (go_at_call 74; go_must ((with_reducible refine (h74 _).mono ?_); rintro e w4 ⟨rfl, hg4⟩))
                    have hgB : wr.grownBy (w4.alloc (.cells #[.int .u8 z, sv (dg i), .bool false] 79)) none := gb_alloc hg4 _
                    obtain ⟨q0, q1, q2, q3, q4, q5⟩ := hE _ hgB
                    obtain ⟨r0, r1, r2⟩ := hE2 _ hgB; clear hE2
                    have hbx : Box (w4.alloc (.cells #[.int .u8 z, sv (dg i), .bool false] 79)) 79 w4.heap.size #[.int .u8 z, sv (dg i), .bool false] := Box.new _ _ _
                    have m0 : (w4.alloc (.cells #[.int .u8 z, sv (dg i), .bool false] 79)).cell? ⟨w4.heap.size, 0, none⟩ = some (.int .u8 z) := hbx.cell 0
                    have m1 : (w4.alloc (.cells #[.int .u8 z, sv (dg i), .bool false] 79)).cell? ⟨w4.heap.size, 1, none⟩ = some (sv (dg i)) := hbx.cell 1
                    have m2 : (w4.alloc (.cells #[.int .u8 z, sv (dg i), .bool false] 79)).cell? ⟨w4.heap.size, 2, none⟩ = some (.bool false) := hbx.cell 2
                    have HGB : Hid _ := gb_trans HG.out hgB
                    clear hE hbx hgB
                    generalize w4.alloc (.cells #[.int .u8 z, sv (dg i), .bool false] 79) = WB at *
                    generalize w4.heap.size = mb at *
                    clear hg4 c0 e1 e2
                    go_quiet (fail)
                    go_wp2_with fail
                    exact ⟨⟨k + 1, by omega, by go_num, gb_drewN HGB.out _⟩, by simp [intOf]; omega⟩
                  · have hd4 : decide ((k : Int) < (n : Int)) = false := by simp; omega
                    have hd5 : decide (k < n) = false := by simp; omega
                    have hlb : ¬ (k : Int) < n := by omega
                    have hlb2 : n ≤ k := by omega
                    clear hV hX hposv hposxx hg cF d1 d2 u0 u1 u2
                    go_wp2_with (go_at_call 74; go_must ((with_reducible refine (h74 _).mono ?_); rintro e w4 ⟨rfl, hg4⟩))
                    have hgB : wr.grownBy (w4.alloc (.cells #[.int .u8 z, sv (dg i), .bool false] 79)) none := gb_alloc hg4 _
                    obtain ⟨q0, q1, q2, q3, q4, q5⟩ := hE _ hgB
                    skip
                    have hbx : Box (w4.alloc (.cells #[.int .u8 z, sv (dg i), .bool false] 79)) 79 w4.heap.size #[.int .u8 z, sv (dg i), .bool false] := Box.new _ _ _
                    have m0 : (w4.alloc (.cells #[.int .u8 z, sv (dg i), .bool false] 79)).cell? ⟨w4.heap.size, 0, none⟩ = some (.int .u8 z) := hbx.cell 0
                    have m1 : (w4.alloc (.cells #[.int .u8 z, sv (dg i), .bool false] 79)).cell? ⟨w4.heap.size, 1, none⟩ = some (sv (dg i)) := hbx.cell 1
                    have m2 : (w4.alloc (.cells #[.int .u8 z, sv (dg i), .bool false] 79)).cell? ⟨w4.heap.size, 2, none⟩ = some (.bool false) := hbx.cell 2
                    have HGB : Hid _ := gb_trans HG.out hgB
                    clear hE hbx hgB
                    generalize w4.alloc (.cells #[.int .u8 z, sv (dg i), .bool false] 79) = WB at *
                    generalize w4.heap.size = mb at *
                    clear hg4 c0 e1 e2
                    go_quiet (fail)
                    go_wp2_with fail
                    exact ⟨⟨k + 1, by omega, by go_num, gb_drewN HGB.out _⟩, by simp [intOf]; omega⟩
                · obtain rfl : k = n + 20 := by omega
                  have HG : Hid _ := hg
                  clear hV hX hposv hposxx hg cF d1 d2 c0 e1
                  go_wp2
                  exact ⟨⟨i + 1, by omega, by go_num, HG.out⟩, by simp [intOf]; omega⟩
            · obtain rfl : i = K := by omega
              have HG : Hid _ := hg
              clear hg hposh hposo hb
              go_wp2
              go_ret
              exact ⟨rfl, HK.out.step HG.out (by simp)⟩
end Go.Proofs.YtobegepebochkaaGreatDoor

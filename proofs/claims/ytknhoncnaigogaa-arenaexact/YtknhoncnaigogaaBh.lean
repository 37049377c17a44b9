/-
  Held.Own.
-/
import Derived.Test.YtknhoncnaigogaaBg
namespace Go.Proofs.Ytknhoncnaigogaa
open Go.RowKit
set_option linter.unusedVariables false

set_option maxHeartbeats 4000000 in
theorem heldOwn_any {w : World} {hb : Nat} {F : Nat → Prop} {gv wv : Value} {L : List Got} {M : List Value} {sz : Int} (hH : IsH w hb F gv wv L M sz) (hn : L.length ≤ 250) :
    Calls Try.prog 12 #[.pointer (some ⟨hb, 0, none⟩)] w fun e w' => e = .returned (.bool true) ∧ Kp F w w' ∧ Box w' 75 hb #[.slice none 0 0, .slice none 0 0, .int .i64 0] := by
  obtain ⟨ga, gc, rfl, hg0, hgc, hgm, hg1⟩ := row_shape hH.rg
  obtain ⟨wa, wc, rfl, hw0, hwc, hwm, hw1⟩ := row_shape hH.rw
  unfold maxLen at hgm hwm
  have c0 := hH.box.cell 0
  simp at c0
  go_enter Try.func12, Try.ntmps12
  go_wp2
  clear c0
  go_loopw [4] (fun c wr => ∃ i : Nat, i ≤ L.length ∧ c = .int .i64 i ∧ w.grownBy wr none) (fun c _ => L.length - (intOf c).toNat)
  case atStart => exact ⟨0, by omega, rfl, gb_refl _ _⟩
  case round =>
    obtain ⟨i, hi, rfl, hF⟩ := hrel
    have hHr := hH.kept0 hF
    by_cases hlt : i < L.length
    · obtain ⟨g, rfl⟩ := hg1 (by omega)
      obtain ⟨wg, rfl⟩ := hw1 (by omega)
      obtain ⟨t, ht⟩ : ∃ t, L[i]? = some t := ⟨L[i]'(by omega), by simp⟩
      obtain ⟨d1, d2, d3, d4⟩ := hHr.data i t ht
      obtain ⟨va, vc, e1, e2, e3⟩ := hHr.want i t ht
      have k1 : wr.cell? ⟨g, i, none⟩ = some (.slice t.adr t.xs.length t.xs.length) := row_cell (hHr.rg) i _ (by simp [ht]; rfl)
      have k2 : wr.cell? ⟨wg, i, none⟩ = some (.slice va t.xs.length vc) := row_cell (hHr.rw) i _ e1
      have k3 := hHr.box.cell 1
      simp at k3
      have q1 := got_has d3 (fun g hg => (d4 g hg).2)
      have q2 := e2.has
      have hd : decide ((i : Int) < L.length) = true := by simp; omega
      clear d2 d3 d4 e1 e2 e3 hHr ht
      go_wp2
      go_quiet ((go_at_call 34; exact Calls.quiet_of_same (equal_same (q1.drewN _) (q2.drewN _) d1 _ _)))
      go_wp2
      go_roundw
      case rel => exact ⟨i + 1, by omega, by go_num, gb_drewN hF _⟩
      case measure => simp [intOf]; omega
    · have hdA : decide ((i : Int) < L.length) = false := by simp; omega
      go_wp2
      have hB1 : Fill wr L fun j _ => j < 0 := by
        intro j t g ht hg
        obtain ⟨d1, d2, d3, d4⟩ := hHr.data j t ht
        exact ⟨_, (d4 g hg).2, by simp [vals], fun k hk h => by omega⟩
      have hK1 : Kp F w wr := Kp.of hF
      go_loopw [7] (fun c ws => ∃ i : Nat, i ≤ L.length ∧ c = .int .i64 i ∧ Kp F w ws ∧ Fill ws L (fun j _ => j < i) ∧ Box ws 75 hb #[.slice ga L.length gc, .slice wa L.length wc, .int .i64 sz] ∧ ws.ownsRow 0 29 1 (.slice ga L.length gc) L.length (L.map Got.val)) (fun c _ => L.length - (intOf c).toNat)
      case atStart => exact ⟨0, by omega, rfl, hK1, hB1, hHr.box, hHr.rg⟩
      case round =>
        clear hB1 hK1 hHr hF
        obtain ⟨i, hi, rfl, hK, hFi, hbx, hrow⟩ := hrel
        by_cases hlt : i < L.length
        · obtain ⟨g, rfl⟩ := hg1 (by omega)
          obtain ⟨t, ht⟩ : ∃ t, L[i]? = some t := ⟨L[i]'(by omega), by simp⟩
          obtain ⟨d1, d2, d3, d4⟩ := hH.data i t ht
          have hd : decide ((i : Int) < L.length) = true := by simp; omega
          go_wp2
          clear hd
          go_loopw [8] (fun c wt => ∃ k : Nat, k ≤ t.xs.length ∧ c = .int .i64 k ∧ Kp F w wt ∧ Fill wt L (fun j k' => j < i ∨ j = i ∧ k' < k) ∧ Box wt 75 hb #[.slice (some ⟨g, 0, none⟩) L.length gc, .slice wa L.length wc, .int .i64 sz] ∧ wt.ownsRow 0 29 1 (.slice (some ⟨g, 0, none⟩) L.length gc) L.length (L.map Got.val)) (fun c _ => t.xs.length - (intOf c).toNat)
          case atStart => exact ⟨0, by omega, rfl, hK, hFi.mono (by intro j k t _ _ h; omega), hbx, hrow⟩
          case round =>
            clear hK hFi hbx hrow
            obtain ⟨k, hk, rfl, hK, hFi, hbx, hrow⟩ := hrel
            have k1 : wr.cell? ⟨g, i, none⟩ = some (.slice t.adr t.xs.length t.xs.length) := row_cell hrow i _ (by simp [ht]; rfl)
            have hd : decide ((i : Int) < L.length) = true := by simp; omega
            by_cases hlk : k < t.xs.length
            · obtain ⟨gi, hgi⟩ : ∃ gi, t.a = some gi := by
                rcases e : t.a with _ | gi
                · rw [d3 e] at hlk; simp at hlk
                · exact ⟨gi, rfl⟩
              have hadr : t.adr = some ⟨gi, 0, none⟩ := by simp [Got.adr, hgi]
              rw [hadr] at k1
              obtain ⟨cur, b1, b2, b3⟩ := hFi i t gi ht hgi
              obtain ⟨u, k2⟩ : ∃ u, wr.cell? ⟨gi, k, none⟩ = some u := ⟨cur[k]'(by omega), by rw [cell_of_row wr gi k _ _ _ b1]; simp⟩
              have k3 : wr.frozen? ⟨gi, k, none⟩ = false := by simp [World.frozen?, b1]
              have hne : gi ≠ g := by
                obtain ⟨cur2, hc2⟩ := row_block hrow g rfl
                exact ne_of_type b1 hc2 (by decide)
              have HS : Hid (Fill (wr.setCell ⟨gi, k, none⟩ (.int .u8 (ownB i k))) L (fun j k' => (j < i ∨ j = i ∧ k' < k) ∨ (j = i ∧ k' = k))) := hFi.set hH.once ht hgi hlk
              have HB : Hid (Fill wr L fun j k' => j < i ∨ j = i ∧ k' < k) := hFi
              have hdk : decide ((k : Int) < t.xs.length) = true := by simp; omega
              have HF : Hid (F gi) := (d4 gi hgi).1
              have HG : Hid (hb ≠ gi) := ne_of_type hbx b1 (by decide)
              have hne2 : g ≠ gi := fun e => hne e.symm
              have k4 : (wr.cell? ⟨gi, k, none⟩).isSome = true := by rw [k2]; rfl
              have k5 : ((wr.setCell ⟨gi, k, none⟩ (.int .u8 (ownB i k))).cell? ⟨gi, k, none⟩).isSome = true := by
                rw [cell_of_row _ gi k _ _ _ (heap_setCell_same wr gi k _ _ _ b1)]; simp [b2, hlk]
              clear b1 b2 b3 hFi d3 d4 hadr
              go_wp2
              go_region_held3 (fun w' => w'.cell? ⟨g, i, none⟩ = some (.slice (some ⟨gi, 0, none⟩) t.xs.length t.xs.length) ∧ (w'.cell? ⟨gi, k, none⟩).isSome = true ∧ w'.frozen? ⟨gi, k, none⟩ = false) ((first | go_keep | exact ⟨by go_keep, k5, by go_keep⟩)) ((go_at_call 50; refine (own_any _ _ (by omega) (by omega) _).mono ?_; rintro e w' ⟨rfl, rfl⟩))
              go_wp2
              go_roundw
              case rel =>
                refine ⟨k + 1, by omega, by go_num, ?_, ?_, ?_, ?_⟩
                · exact (hK.step (gb_drewN (gb_setCell (gb_refl wr (some gi)) _) 1) (fun j hj => by cases hj; exact .inl (HF.out)))
                · exact HS.out.mono (by intro j k' t' _ _ h; omega)
                · exact hbx.kept (gb_drewN (gb_setCell (gb_refl wr (some gi)) _) 1) (by intro e; cases e; exact HG.out rfl)
                · exact World.ownsRow.kept hrow (gb_drewN (gb_setCell (gb_refl wr (some gi)) _) 1) (.inr (by intro e; cases e; exact hne2 rfl))
              case measure => simp [intOf]; omega
            · have hdk : decide ((k : Int) < t.xs.length) = false := by simp; omega
              go_wp2
              go_roundw
              case rel =>
                refine ⟨i + 1, by omega, by go_num, hK, hFi.mono ?_, hbx, hrow⟩
                intro j k' t' h1 h2 h3
                by_cases e : j < i
                · exact .inl e
                · obtain rfl : j = i := by omega
                  rw [ht] at h1; cases h1
                  exact .inr ⟨rfl, by omega⟩
              case measure => simp [intOf]; omega
        · have hdi : decide ((i : Int) < L.length) = false := by simp; omega
          have hBs : Bs w F hb #[.slice ga L.length gc, .slice wa L.length wc, .int .i64 sz] (.slice ga L.length gc) L wr.heap.size wr.heap.size wr := by
            have hgm : ∀ (j : Nat) t, L[j]? = some t → Gm wr t j := Fill.gm (hFi.mono (by
              intro j k t h1 _ _
              have := (List.getElem?_eq_some_iff.1 h1).1
              omega)) (fun j t ht => ⟨(hH.data j t ht).2.1, (hH.data j t ht).2.2.1⟩)
            exact ⟨hK, hbx, hrow, fun j t ht => ⟨hgm j t ht, (hH.data j t ht).2.1, fun k hk => ((hgm j t ht).lt k hk).2⟩, hK.size, lt_of_block hbx, fun k hk => (hrow.lt k hk).2, Nat.le_refl _, Nat.le_refl _⟩
          clear hrow hbx hFi hK
          go_wp2
          obtain ⟨B0, hB0⟩ : ∃ B0, B0 = wr.heap.size := ⟨_, rfl⟩
          have hR0 : ∀ v, v = .slice none 0 0 → Rm B0 wr.heap.size 0 wr v [] 0 := by
            intro v hv; subst hv
            exact ⟨World.ownsRow_nil _ _ _ _, fun j u hj => by omega⟩
          have hBs0 : Bs w F hb #[.slice ga L.length gc, .slice wa L.length wc, .int .i64 sz] (.slice ga L.length gc) L B0 wr.heap.size wr := by rw [hB0]; exact hBs
          clear hBs hB0
          go_loopw [5, 6, 9] (fun fv lv c ws => ∃ (i : Nat) (vf vl : List Value) (B : Nat), i ≤ L.length ∧ c = .int .i64 i ∧ Bs w F hb #[.slice ga L.length gc, .slice wa L.length wc, .int .i64 sz] (.slice ga L.length gc) L B0 B ws ∧ Rm B0 B i ws fv vf i ∧ Rm B0 B i ws lv vl i ∧ ∀ k, fv.ownBlock = some k → lv.ownBlock ≠ some k) (fun _ _ c _ => L.length - (intOf c).toNat)
          case atStart => exact ⟨0, [], [], _, by omega, rfl, hBs0, hR0 _ rfl, hR0 _ rfl, fun k hk => by simp [Value.ownBlock] at hk⟩
          case round =>
            clear hBs0 hR0 hdi hlt hi
            obtain ⟨i, vf, vl, B, hi, rfl, hBs, hRf, hRl, hap⟩ := hrel
            by_cases hlt : i < L.length
            · obtain ⟨g, rfl⟩ := hg1 (by omega)
              obtain ⟨t, ht⟩ : ∃ t, L[i]? = some t := ⟨L[i]'(by omega), by simp⟩
              obtain ⟨hgm, hlen, hgl⟩ := hBs.got i t ht
              have k1 : wr.cell? ⟨g, i, none⟩ = some (.slice t.adr t.xs.length t.xs.length) := row_cell hBs.row i _ (by simp [ht]; rfl)
              have hd : decide ((i : Int) < L.length) = true := by simp; omega
              go_wp2
              clear k1 hgm
              replace hBs := hBs.up
              replace hRf := hRf.up
              replace hRl := hRl.up
              generalize wr.heap.size = C at *
              clear hgl
              go_loopw [5, 10, 11] (fun fv l c ws => ∃ k : Nat, k ≤ 70 ∧ c = .int .i64 k ∧ Bs w F hb #[.slice (some ⟨g, 0, none⟩) L.length gc, .slice wa L.length wc, .int .i64 sz] (.slice (some ⟨g, 0, none⟩) L.length gc) L B0 C ws ∧ Rm B0 C i ws u6 vl i ∧ (∀ k, fv.ownBlock = some k → u6.ownBlock ≠ some k) ∧ ((k = 0 ∧ l = .slice t.adr t.xs.length t.xs.length ∧ Rm B0 C i ws fv vf i) ∨ (0 < k ∧ ∃ vf' fst, Rm B0 C i ws fv vf' (i + 1) ∧ vf'[i]? = some fst ∧ Two C i t.xs.length k ws l fst))) (fun _ _ c _ => 70 - (intOf c).toNat)
              case atStart => exact ⟨0, by omega, rfl, hBs, hRl, hap, .inl ⟨rfl, rfl, hRf⟩⟩
              case round =>
                clear hBs hRl hap hRf
                obtain ⟨k, hk, rfl, hBs, hRl, hap, hcase⟩ := hrel
                have k1 : wr.cell? ⟨g, i, none⟩ = some (.slice t.adr t.xs.length t.xs.length) := row_cell hBs.row i _ (by simp [ht]; rfl)
                by_cases hlk : k < 70
                · rcases hcase with ⟨rfl, rfl, hRf⟩ | ⟨hk0, vf', fst, hRf, hfst, hTwo⟩
                  · have hgm : wr.ownsRow 0 5 1 (.slice t.adr t.xs.length t.xs.length) t.xs.length ((ownTo i t.xs.length).map (Value.int .u8)) := (hBs.got i t ht).1
                    go_wp2_with (first | (go_at_call 50; refine (own_int i _ t.xs.length (by simp) (by omega) (by omega) _).mono ?_; rintro e w' ⟨rfl, rfl⟩) | (at_builtin; go_must (refine push5 rfl _ _ rfl 0 _ t.xs.length _ rfl hgm (ownB i t.xs.length) (by rfl) (by omega) (Nat.zero_le _) ?_)))
                    intro l' w1 hown1 hp1
                    rcases hp1 with ⟨g1, cap1, e1, h1, _⟩ | ⟨g1, cap1, rfl, hge, hgr⟩
                    · exfalso
                      simp at e1
                      omega
                    · have hBs1 := hBs.kept hgr (Soft.none _ _ _)
                      have hRl1 := hRl.kept hgr (Soft.none _ _ _) (by simp)
                      have hRf1 := hRf.kept hgr (Soft.none _ _ _) (by simp)
                      have hTwo1 : Two C i t.xs.length 1 w1 (.slice (some ⟨g1, 0, none⟩) (t.xs.length + 1) cap1) (.slice (some ⟨g1, 0, none⟩) (t.xs.length + 1) cap1) := by
                        have hrow1 : w1.ownsRow C 5 1 (.slice (some ⟨g1, 0, none⟩) (t.xs.length + 1) cap1) (t.xs.length + 1) ((ownTo i (t.xs.length + 1)).map (Value.int .u8)) := by
                          rw [ownTo_succ, List.map_append]; exact row_at hown1 (Nat.le_trans hBs.le hge)
                        obtain ⟨cur, hc⟩ := row_block hrow1 g1 rfl
                        refine ⟨hrow1, g1, cap1, rfl, ⟨length_ownTo _ _, fun _ => ⟨g1, 0, rfl, fun j hj => ?_⟩⟩, cur, _, hc⟩
                        rw [Nat.zero_add, getD_ownTo _ _ _ hj]
                        exact row_cell hrow1 j _ (by simp [ownTo, hj])
                      have hBle := Nat.le_trans hBs1.le0 hBs1.le
                      clear hBs hRl hRf hgm hown1 hgr hge k1
                      go_wp2_with (at_builtin; go_must (refine push29 rfl _ _ rfl B0 u5 i vf (by rfl) hRf1.row (some ⟨g1, 0, none⟩) (t.xs.length + 1) cap1 (by rfl) (by omega) hBle ?_))
                      intro fv' w2 hown2 hp2
                      obtain ⟨row, hf2, hs2, hr2, hb2⟩ := hp2.frame (B := C) hRf1.row
                      have hvl : vf.length = i := by have := hRf1.row.1; omega
                      have hBs2 := hBs1.kept hf2 hs2
                      have hRl2 := hRl1.kept hf2 hs2 (fun k hk e => hap k (hr2 k e) hk)
                      have hRf2 : Rm B0 C i w2 fv' (vf ++ [.slice (some ⟨g1, 0, none⟩) (t.xs.length + 1) cap1]) (i + 1) := ⟨hown2, fun j u hj hu => (hRf1.mks j u hj (by rw [List.getElem?_append_left (by omega)] at hu; exact hu)).kept hf2 hs2⟩
                      have hTwo2 := hTwo1.kept hf2 (fun k e => by obtain ⟨cur, hc⟩ := row_block hRf1.row k (hr2 k e); exact ⟨cur, _, hc⟩)
                      have hap2 : ∀ k, fv'.ownBlock = some k → u6.ownBlock ≠ some k := by
                        intro k hk e
                        rcases hb2 k hk with h | h
                        · exact hap k h e
                        · have := (hRl1.row.lt k e).2; omega
                      have HV : Hid ((vf ++ [Value.slice (some ⟨g1, 0, none⟩) (t.xs.length + 1) cap1])[i]? = some (.slice (some ⟨g1, 0, none⟩) (t.xs.length + 1) cap1)) := by
                        show _ = _
                        simp [← hvl]
                      clear hBs1 hRl1 hRf1 hTwo1 hown2 hp2 hf2 hs2 hr2 hb2 hvl hap
                      go_wp2
                      go_roundw
                      case rel => exact ⟨1, by omega, by go_num, hBs2, hRl2, hap2, .inr ⟨by omega, _, _, hRf2, HV.out, hTwo2⟩⟩
                      case measure => simp [intOf]
                  · have hk1 : ((k : Int) == 0) = false := by simp; omega
                    have hBle := hBs.le
                    go_wp2_with (first | (go_at_call 50; refine (own_int i _ (t.xs.length + k) (by simp) (by omega) (by omega) _).mono ?_; rintro e w' ⟨rfl, rfl⟩) | (at_builtin; go_must (refine push5 rfl _ _ rfl C u10 (t.xs.length + k) _ rfl hTwo.row (ownB i (t.xs.length + k)) (by rfl) (by omega) hBle ?_)))
                    intro l' w1 hown1 hp1
                    obtain ⟨hTwo1, row, hf1, hs1, h51⟩ := hTwo.more (B0 := B0) hk0 hown1 hp1 hBs.le0
                    have hBs1 := hBs.kept hf1 hs1
                    have hRl1 := hRl.kept hf1 hs1 (fun k hk e => by
                      obtain ⟨cur, hc⟩ := row_block hRl.row k hk
                      obtain ⟨cur2, z2, hc2⟩ := h51 k e
                      exact ne_of_type hc hc2 (by decide) rfl)
                    have hRf1 := hRf.kept hf1 hs1 (fun k hk e => by
                      obtain ⟨cur, hc⟩ := row_block hRf.row k hk
                      obtain ⟨cur2, z2, hc2⟩ := h51 k e
                      exact ne_of_type hc hc2 (by decide) rfl)
                    have HV : Hid (vf'[i]? = some fst) := hfst
                    clear hBs hRl hRf hTwo hf1 hs1 h51 hown1 hp1 hfst k1
                    go_wp2
                    go_roundw
                    case rel => exact ⟨k + 1, by omega, by go_num, hBs1, hRl1, hap, .inr ⟨by omega, vf', fst, hRf1, HV.out, hTwo1⟩⟩
                    case measure => simp [intOf]; omega
                · rcases hcase with ⟨rfl, _, _⟩ | ⟨hk0, vf', fst, hRf, hfst, hTwo⟩
                  · omega
                  · obtain rfl : k = 70 := by omega
                    obtain ⟨ao, cap, rfl, _, _, _, _⟩ := row_shape hTwo.row
                    have hBle := Nat.le_trans hBs.le0 hBs.le
                    have HV : Hid (vf'[i]? = some fst) := hfst
                    clear hfst k1
                    go_wp2_with (at_builtin; go_must (refine push29 rfl _ _ rfl B0 u6 i vl (by rfl) hRl.row ao (t.xs.length + 70) cap (by rfl) (by omega) hBle ?_))
                    intro lv' w1 hown1 hp1
                    obtain ⟨row, hf1, hs1, hr1, hb1⟩ := hp1.frame (B := C) hRl.row
                    have hBs1 := (hBs.kept hf1 hs1).up
                    have hTwo1 := hTwo.kept hf1 (fun k e => by obtain ⟨cur, hc⟩ := row_block hRl.row k (hr1 k e); exact ⟨cur, _, hc⟩)
                    have hvl : vl.length = i := by have := hRl.row.1; omega
                    have hRf1 : Rm B0 w1.heap.size (i + 1) w1 u5 vf' (i + 1) := by
                      have h1 := (hRf.kept hf1 hs1 (fun k hk e => hap k hk (hr1 k e))).up
                      refine ⟨h1.row, fun j u hj hu => ?_⟩
                      by_cases e : j < i
                      · exact h1.mks j u e hu
                      · obtain rfl : j = i := by omega
                        rw [HV.out] at hu
                        cases hu
                        obtain ⟨g1, c1, rfl, h2, cur, z, h3⟩ := hTwo1.fst
                        exact ⟨_, _, _, rfl, by omega, h2, fun k hk => by cases hk; exact ⟨lt_of_block h3, cur, z, h3⟩⟩
                    have hRl1 : Rm B0 w1.heap.size (i + 1) w1 lv' (vl ++ [.slice ao (t.xs.length + 70) cap]) (i + 1) := by
                      refine ⟨hown1, fun j u hj hu => ?_⟩
                      by_cases e : j < i
                      · exact ((hRl.mks j u e (by rw [List.getElem?_append_left (by omega)] at hu; exact hu)).kept hf1 hs1).up (Nat.le_refl _)
                      · obtain rfl : j = i := by omega
                        rw [← hvl] at hu
                        simp at hu
                        subst hu
                        have h4 : Own C w1 ao cap (ownTo j (t.xs.length + 70)) := by
                          unfold Own; rw [length_ownTo]; exact hTwo1.row
                        exact Mk.own h4 (by omega) (Nat.le_refl _)
                    have hap1 : ∀ k, u5.ownBlock = some k → lv'.ownBlock ≠ some k := by
                      intro k hk e
                      rcases hb1 k e with h | h
                      · exact hap k hk h
                      · have := (hRf.row.lt k hk).2; omega
                    clear hBs hRl hRf hTwo hTwo1 hf1 hs1 hr1 hb1 hown1 hp1 hap hvl HV
                    go_wp2
                    go_roundw
                    case rel => exact ⟨i + 1, vf', _, _, by omega, by go_num, hBs1, hRf1, hRl1, hap1⟩
                    case measure => simp [intOf]; omega
            · obtain rfl : i = L.length := by omega
              have hdi : decide ((L.length : Int) < L.length) = false := by simp
              obtain ⟨fa, fc, rfl, _, hf1, hf2, hf3⟩ := row_shape hRf.row
              obtain ⟨la, lc, rfl, _, hl1, hl2, hl3⟩ := row_shape hRl.row
              unfold maxLen at hf2 hl2
              clear hi hlt
              go_wp2
              clear hdi
              go_loopw [12] (fun c ws => ∃ j : Nat, j ≤ L.length ∧ c = .int .i64 j ∧ wr.grownBy ws none) (fun c _ => L.length - (intOf c).toNat)
              case atStart => exact ⟨0, by omega, rfl, gb_refl _ _⟩
              case round =>
                obtain ⟨j, hj, rfl, hG⟩ := hrel
                by_cases hlt : j < L.length
                · obtain ⟨g, rfl⟩ := hg1 (by omega)
                  obtain ⟨fg, rfl⟩ := hf3 (by omega)
                  obtain ⟨lg, rfl⟩ := hl3 (by omega)
                  obtain ⟨t, ht⟩ : ∃ t, L[j]? = some t := ⟨L[j]'(by omega), by simp⟩
                  have hvf : vf.length = L.length := by have := hRf.row.1; omega
                  have hvl : vl.length = L.length := by have := hRl.row.1; omega
                  obtain ⟨x, hx⟩ : ∃ x, vf[j]? = some x := ⟨vf[j]'(by omega), by simp⟩
                  obtain ⟨y, hy⟩ : ∃ y, vl[j]? = some y := ⟨vl[j]'(by omega), by simp⟩
                  obtain ⟨h1, h2, h3⟩ := hBs.got j t ht
                  obtain ⟨a1, n1, c1, e1, l1, p1, _⟩ := h1.mk h2
                  obtain ⟨a2, n2, c2, rfl, l2, p2, _⟩ := hRf.mks j x (by omega) hx
                  obtain ⟨a3, n3, c3, rfl, l3, p3, _⟩ := hRl.mks j y (by omega) hy
                  have k1 := gb_cellN hG (row_cell hBs.row j (.slice a1 n1 c1) (by rw [← e1]; simp [ht]))
                  have k2 := gb_cellN hG (row_cell hRf.row j _ hx)
                  have k3 := gb_cellN hG (row_cell hRl.row j _ hy)
                  replace p1 := p1.kept0 hG
                  replace p2 := p2.kept0 hG
                  replace p3 := p3.kept0 hG
                  have hd : decide ((j : Int) < L.length) = true := by simp; omega
                  clear hvf hvl hx hy h1 h2 h3 e1 ht
                  go_wp2_with fail
                  refine (marked_any j (by omega) p1 _ (by omega)).mono ?_
                  rintro e w1 ⟨rfl, hf1⟩
                  replace k2 := gb_cellN hf1 k2
                  replace k3 := gb_cellN hf1 k3
                  replace p2 := p2.kept0 hf1
                  replace p3 := p3.kept0 hf1
                  replace hG := gb_trans hG hf1
                  clear k1 p1 hf1
                  go_wp2_with fail
                  refine (marked_any j (by omega) p2 _ (by omega)).mono ?_
                  rintro e w2 ⟨rfl, hf1⟩
                  replace k3 := gb_cellN hf1 k3
                  replace p3 := p3.kept0 hf1
                  replace hG := gb_trans hG hf1
                  clear k2 p2 hf1
                  go_wp2_with fail
                  refine (marked_any j (by omega) p3 _ (by omega)).mono ?_
                  rintro e w3 ⟨rfl, hf1⟩
                  replace hG := gb_trans hG hf1
                  clear k3 p3 hf1
                  go_wp2
                  go_roundw
                  case rel => exact ⟨j + 1, by omega, by go_num, hG⟩
                  case measure => simp [intOf]; omega
                · have hdj : decide ((j : Int) < L.length) = false := by simp; omega
                  have hbx : Box wr 75 hb #[.slice ga L.length gc, .slice wa L.length wc, .int .i64 sz] := hBs.box.kept hG (by simp)
                  have c0 := hbx.cell 0
                  have c1 := hbx.cell 1
                  have c2 := hbx.cell 2
                  simp at c0 c1 c2
                  have z0 : wr.frozen? ⟨hb, 0, none⟩ = false := by simp [World.frozen?, show wr.heap[hb]? = _ from hbx]
                  have z1 : wr.frozen? ⟨hb, 1, none⟩ = false := by simp [World.frozen?, show wr.heap[hb]? = _ from hbx]
                  have z2 : wr.frozen? ⟨hb, 2, none⟩ = false := by simp [World.frozen?, show wr.heap[hb]? = _ from hbx]
                  have HK : Hid (Kp F w wr) := hBs.kp.step hG (by simp)
                  have HF : Hid (F hb) := hH.fb
                  have HB : Hid (Box wr 75 hb #[.slice ga L.length gc, .slice wa L.length wc, .int .i64 sz]) := hbx
                  clear hbx hBs hRf hRl hG hap hH
                  go_wp2
                  go_ret
                  refine ⟨rfl, HK.out.step (gb_setCell (gb_setCell (gb_setCell (gb_refl wr (some hb)) _) _) _) (fun i hi => by cases hi; exact .inl HF.out), ?_⟩
                  have b1 := heap_setCell_same wr hb 0 _ _ (.slice none 0 0) HB.out
                  have b2 := heap_setCell_same _ hb 1 _ _ (.slice none 0 0) b1
                  have b3 := heap_setCell_same _ hb 2 _ _ (.int .i64 0) b2
                  exact b3

end Go.Proofs.Ytknhoncnaigogaa

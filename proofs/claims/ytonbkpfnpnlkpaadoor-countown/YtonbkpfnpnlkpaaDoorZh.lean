/-
  A Book of lists of handles: closeHandles.
-/
import Derived.Test.YtonbkpfnpnlkpaaDoorZg
namespace Go.Proofs.YtonbkpfnpnlkpaaDoor
open Go.RowKit
set_option linter.unusedVariables false
set_option linter.unusedSimpArgs false

theorem Bk.cl {w : World} {bb : Nat} {FB : Nat → Prop} {hv wv : Value} {n : Int} {K : Nat} {V W : Nat → Value} {D : Nat → List Int} (h : Bk w bb FB hv wv n K V W D) (hK : K < 5000) (O M : Nat → Value) : Cl w w.heap.size FB bb hv wv (.slice none 0 0) (.slice none 0 0) n K 0 0 V O M (fun i => (D i).length) (fun i => hvals (D i)) :=
  ⟨h.box, h.hr, ⟨rfl, .inl ⟨rfl, rfl⟩⟩, ⟨rfl, .inl ⟨rfl, rfl⟩⟩, by simp [Value.ownBlock], fun g e => h.fl g (h.fh g e), h.vs, fun i hi => by omega, fun i hi => by omega, h.vv, fun i g hi e => h.fl g (h.fv i g hi e), fun i g hi => by omega, fun i g hi => by omega, h.fv, h.fb, Nat.le_refl _, h.fl bb h.fb, hK, h.dl, Nat.zero_le _, Nat.zero_le _⟩

set_option maxRecDepth 100000 in
set_option maxHeartbeats 8000000 in
theorem close_51 {w : World} {bb : Nat} {FB : Nat → Prop} {hv wv : Value} {n : Int} {K : Nat} {V W : Nat → Value} {D : Nat → List Int} (h : Bk w bb FB hv wv n K V W D) (hK : K < 5000) :
    Calls Tryd.prog 51 #[.pointer (some ⟨bb, 0, none⟩)] w fun y w' => y = .returned (.bool true) ∧ Kp FB w w' ∧ ∃ hv' ov' mv', Box w' 72 bb (bkA hv' wv ov' mv' n) := by
  have h0 := h.cl hK (fun _ => .slice none 0 0) (fun _ => .slice none 0 0)
  obtain ⟨hao, hcp, hdh, _, _, _, hposh⟩ := row_shape h.hr
  subst hdh
  generalize hLd : (fun i => (D i).length) = L at h0
  clear h hLd
  go_enter Tryd.func51, Tryd.ntmps51
  go_wp2
  go_loopw [3] (fun v wr => ∃ i : Nat, i ≤ K ∧ v = .int .i64 i ∧ Kp FB w wr ∧ ∃ R, Cl wr w.heap.size FB bb (.slice hao K hcp) wv (.slice none 0 0) (.slice none 0 0) n K 0 0 V (fun _ => .slice none 0 0) (fun _ => .slice none 0 0) L R ∧ ∀ j, j < i → R j = mks (L j) 0 j) (fun v _ => K - (intOf v).toNat)
  case atStart => exact ⟨0, by omega, rfl, Kp.refl _ _, _, h0, fun j hj => by omega⟩
  case round =>
    obtain ⟨i, hi, rfl, hkp, R, hC, hR⟩ := hrel
    have c12 : wr.cell? ⟨bb, 4, none⟩ = some (.slice hao K hcp) := hC.box.cell 4
    by_cases hiK : i < K
    · obtain ⟨gh, rfl⟩ := hposh (by omega)
      obtain ⟨va, vc, hVs, _, _, _, hposv⟩ := row_shape (hC.vs i hiK)
      have d1 : wr.cell? ⟨gh, i, none⟩ = some (.slice va (L i) vc) := by rw [← hVs]; exact row_cell hC.hr i _ (by unfold vsL; simp [hiK])
      have hib : (i : Int) < K := by omega
      have hLi := hC.hL i hiK
      have HC : Hid (Cl wr w.heap.size FB bb (.slice (some ⟨gh, 0, none⟩) K hcp) wv (.slice none 0 0) (.slice none 0 0) n K 0 0 V (fun _ => .slice none 0 0) (fun _ => .slice none 0 0) L R) := hC
      clear hC h0 hposh
      go_wp2
      go_loopw [4] (fun v wq => ∃ k : Nat, k ≤ L i ∧ v = .int .i64 k ∧ Kp FB w wq ∧ ∃ R2, Cl wq w.heap.size FB bb (.slice (some ⟨gh, 0, none⟩) K hcp) wv (.slice none 0 0) (.slice none 0 0) n K 0 0 V (fun _ => .slice none 0 0) (fun _ => .slice none 0 0) L R2 ∧ (∀ j, j < i → R2 j = mks (L j) 0 j) ∧ ∀ l, l < k → (R2 i)[l]? = some (.int .i64 (-1000 - (i : Int)))) (fun v _ => L i - (intOf v).toNat)
      case atStart => exact ⟨0, by omega, rfl, hkp, R, HC.out, hR, fun l hl => by omega⟩
      case round =>
        obtain ⟨k, hk, rfl, hkp2, R2, hC2, hR2, hM2⟩ := hrel
        clear c12 d1 HC hkp hR
        have c12 : wr.cell? ⟨bb, 4, none⟩ = some (.slice (some ⟨gh, 0, none⟩) K hcp) := hC2.box.cell 4
        have d1 : wr.cell? ⟨gh, i, none⟩ = some (.slice va (L i) vc) := by rw [← hVs]; exact row_cell hC2.hr i _ (by unfold vsL; simp [hiK])
        have hrow := hC2.vs i hiK
        rw [hVs] at hrow
        have hlen : (R2 i).length = L i := by have := hrow.1; omega
        by_cases hkl : k < L i
        · obtain ⟨g, rfl⟩ := hposv (by omega)
          obtain ⟨cur, hcur⟩ := row_block hrow g rfl
          have e1 : wr.cell? ⟨g, k, none⟩ = some ((R2 i)[k]'(by omega)) := row_cell hrow k _ (List.getElem?_eq_getElem (by omega))
          have f1 : wr.frozen? ⟨g, k, none⟩ = false := Box.fz (show Box wr 3 g cur from hcur) k
          have q1 : IntKind.i64.wrap (-1000 - (i : Int)) = -1000 - i := by rw [IntKind.wrap_i64]; omega
          have q3 : IntKind.i64.wrap (-1000 - (i : Int)) = -1000 - i := by rw [IntKind.wrap_i64]; omega
          have hkb : (k : Int) < L i := by omega
          have hpost : Kp FB w (wr.setCell ⟨g, k, none⟩ (.int .i64 (-1000 - (i : Int)))) ∧ ∃ R3, Cl (wr.setCell ⟨g, k, none⟩ (.int .i64 (-1000 - (i : Int)))) w.heap.size FB bb (.slice (some ⟨gh, 0, none⟩) K hcp) wv (.slice none 0 0) (.slice none 0 0) n K 0 0 V (fun _ => .slice none 0 0) (fun _ => .slice none 0 0) L R3 ∧ (∀ j, j < i → R3 j = mks (L j) 0 j) ∧ ∀ l, l < k + 1 → (R3 i)[l]? = some (.int .i64 (-1000 - (i : Int))) := by
            refine ⟨hkp2.step (gb_setCell (gb_refl _ _) _) (fun j hj => by have := Option.some.inj hj; subst this; exact .inl (hC2.fv i g hiK (by rw [hVs]; rfl))), _, hC2.write hiK hVs k _, fun j hj => ?_, fun l hl => ?_⟩
            · rw [upd_other _ _ (by omega)]; exact hR2 j hj
            · rw [upd_same, List.getElem?_set]
              by_cases e : k = l
              · subst e; simp [hlen, hkl]
              · rw [if_neg e]; exact hM2 l (by omega)
          generalize (R2 i)[k]'(by omega) = old at *
          have HP : Hid _ := hpost
          clear hpost hC2 hkp2 hR2 hM2 hrow hcur hlen hposv
          generalize L i = Li at *
          go_wp2
          obtain ⟨p1, R3, p2, p3, p4⟩ := HP.out
          exact ⟨⟨k + 1, by omega, by go_num, p1, R3, p2, p3, p4⟩, by simp [intOf]; omega⟩
        · obtain rfl : k = L i := by omega
          have hpost : Kp FB w wr ∧ ∃ R3, Cl wr w.heap.size FB bb (.slice (some ⟨gh, 0, none⟩) K hcp) wv (.slice none 0 0) (.slice none 0 0) n K 0 0 V (fun _ => .slice none 0 0) (fun _ => .slice none 0 0) L R3 ∧ ∀ j, j < i + 1 → R3 j = mks (L j) 0 j := by
            refine ⟨hkp2, R2, hC2, fun j hj => ?_⟩
            by_cases e : j = i
            · subst e
              apply List.ext_getElem?
              intro l
              by_cases hl : l < L j
              · rw [hM2 l hl, mks_lo hl]
              · rw [List.getElem?_eq_none (by omega), List.getElem?_eq_none (by rw [mks_len]; omega)]
            · exact hR2 j (by omega)
          have HP : Hid _ := hpost
          clear hpost hC2 hkp2 hR2 hM2 hrow hlen hposv
          go_wp2
          obtain ⟨p1, R3, p2, p3⟩ := HP.out
          exact ⟨⟨i + 1, by omega, by go_num, p1, R3, p2, p3⟩, by simp [intOf]; omega⟩
    · obtain rfl : K = i := by omega
      have h1 : Cl wr w.heap.size FB bb (.slice hao K hcp) wv (.slice none 0 0) (.slice none 0 0) n K 0 0 V (fun _ => .slice none 0 0) (fun _ => .slice none 0 0) L (fun j => mks (L j) 0 j) := ⟨hC.box, hC.hr, hC.orow, hC.mrow, hC.om, hC.hl, fun j hj => by rw [← hR j hj]; exact hC.vs j hj, hC.os, hC.ms, hC.vv, hC.vl, hC.oc, hC.mc, hC.fv, hC.fb, hC.hB, hC.hbb, hC.hK, hC.hL, hC.ko, hC.km⟩
      have HC : Hid _ := h1
      have HK : Hid _ := hkp
      clear hC hR h0 h1 hkp
      go_wp2
      clear c12 hposh
      have hposh : 0 < K → ∃ g, hao = some ⟨g, 0, none⟩ := by
        obtain ⟨_, _, hq, _, _, _, h9⟩ := row_shape HC.out.hr
        injection hq with h1
        subst h1
        exact h9
      go_loopw [5] (fun v wq => ∃ i : Nat, i ≤ K ∧ v = .int .i64 i ∧ Kp FB w wq ∧ ∃ ov O, Cl wq w.heap.size FB bb (.slice hao K hcp) wv ov (.slice none 0 0) n K i 0 V O (fun _ => .slice none 0 0) L (fun j => mks (L j) 0 j)) (fun v _ => K - (intOf v).toNat)
      case atStart => exact ⟨0, by omega, rfl, HK.out, _, _, HC.out⟩
      case round =>
        obtain ⟨i, hi, rfl, hkp, ov, O, hC⟩ := hrel
        clear HC HK
        have c12 : wr.cell? ⟨bb, 4, none⟩ = some (.slice hao K hcp) := hC.box.cell 4
        by_cases hiK : i < K
        · obtain ⟨gh, rfl⟩ := hposh (by omega)
          obtain ⟨va, vc, hVs, _, _, _, hposv⟩ := row_shape (hC.vs i hiK)
          have d1 : wr.cell? ⟨gh, i, none⟩ = some (.slice va (L i) vc) := by rw [← hVs]; exact row_cell hC.hr i _ (by unfold vsL; simp [hiK])
          have hib : (i : Int) < K := by omega
          have hLi := hC.hL i hiK
          have hst : wr.ownsRow 0 3 1 (.slice va (L i) vc) (L i + 0) (mks (L i) 0 i) ∧ Ap w.heap.size i 0 V O (fun _ => .slice none 0 0) i (.slice va (L i) vc) := by rw [← hVs]; exact ⟨hC.vs i hiK, fun g hg => .inl hg⟩
          have HC : Hid _ := hC
          have HS : Hid _ := hst
          have HK : Hid _ := hkp
          clear hC hposh hst hkp
          go_wp2
          go_loopw [6, 7] (fun lv v wq => ∃ k : Nat, k ≤ 16 ∧ v = .int .i64 k ∧ Kp FB w wq ∧ Cl wq w.heap.size FB bb (.slice (some ⟨gh, 0, none⟩) K hcp) wv ov (.slice none 0 0) n K i 0 V O (fun _ => .slice none 0 0) L (fun j => mks (L j) 0 j) ∧ wq.ownsRow 0 3 1 lv (L i + k) (mks (L i) k i) ∧ Ap w.heap.size i 0 V O (fun _ => .slice none 0 0) i lv) (fun _ v _ => 16 - (intOf v).toNat)
          case atStart => exact ⟨0, by omega, rfl, HK.out, HC.out, HS.out.1, HS.out.2⟩
          case round =>
            obtain ⟨k, hk, rfl, hkp, hC, hl, hap⟩ := hrel
            clear HC HK HS c12 d1
            obtain ⟨lao, lcp, hld, _, _, _, _⟩ := row_shape hl
            subst hld
            by_cases hk16 : k < 16
            · have q1 : IntKind.i64.wrap (-5000000 - (i : Int)) = -5000000 - i := by rw [IntKind.wrap_i64]; omega
              have q3 : IntKind.i64.wrap (-5000000 - (i : Int)) = -5000000 - i := by rw [IntKind.wrap_i64]; omega
              have hkb : (k : Int) < 16 := by omega
              have HC : Hid _ := hC
              have HA : Hid _ := hap
              have HK : Hid _ := hkp
              clear hC hap hkp
              go_wp2_with (at_builtin; go_must (refine push3p rfl _ _ rfl _ (L i + k) _ (by rfl) hl (-5000000 - (i : Int)) (by rfl) (by omega) ?_))
              intro v' w' hown hpsh
              rw [show mks (L i) k i ++ [Value.int .i64 (-5000000 - (i : Int))] = mks (L i) (k + 1) i from mks_more (L i) k 1 i] at hown
              obtain ⟨p1, p2, row, p3, p4⟩ := HC.out.push hiK hl HA.out hpsh hown (fun h => by omega) (Nat.zero_le _)
              have p5 := HK.out.step p3 (fun g hg => p4 g hg)
              have HP : Hid _ := And.intro p5 (And.intro p1 (And.intro hown p2))
              clear p1 p2 p3 p4 p5 hown hpsh hl HC HA HK
              go_wp2
              obtain ⟨p1, p2, p3, p4⟩ := HP.out
              exact ⟨⟨k + 1, by omega, by go_num, p1, p2, p3, p4⟩, by simp [intOf]; omega⟩
            · obtain rfl : k = 16 := by omega
              obtain ⟨oao, ocp, hod, _, _, _, _⟩ := row_shape hC.orow
              subst hod
              have c14 : wr.cell? ⟨bb, 6, none⟩ = some (.slice oao i ocp) := hC.box.cell 6
              have horow := hC.orow
              have hB := hC.hB
              have ho0 : ∀ g, (Value.slice oao i ocp).ownBlock = some g → w.heap.size ≤ g := fun g e => (own_lo horow e).1
              have HC : Hid _ := hC
              have HA : Hid _ := hap
              have HK : Hid _ := hkp
              have HL : Hid _ := hl
              clear hC hap hkp hl
              go_wp2_with (at_builtin; go_must (refine push40 rfl _ _ rfl w.heap.size _ i _ (by rfl) horow lao (L i + 16) lcp (by rfl) (by omega) hB ?_))
              intro g2 cap2 w2 hrow2 hgb2 hat2
              have hbb := HC.out.hbb
              have b2 := HC.out.box.kept hgb2 (fun e => by have := ho0 _ e.symm; omega)
              have k14 : w2.cell? ⟨bb, 6, none⟩ = some (.slice oao i ocp) := b2.cell 6
              have f14 := b2.fz 6
              obtain ⟨p1, p2⟩ := HC.out.one hiK HL.out HA.out hrow2 hgb2 (fun g hg => by simp [Value.ownBlock] at hg; subst hg; exact hat2)
              have HP : Hid _ := And.intro (HK.out.trans p2 (H := FB) (fun _ h => h) (fun j hj => hj)) p1
              clear p1 p2 hrow2 hgb2 hat2 b2 HC HA HK HL horow ho0
              go_wp2
              obtain ⟨p1, p2⟩ := HP.out
              exact ⟨⟨i + 1, by omega, by go_num, p1, _, _, p2⟩, by simp [intOf]; omega⟩
        · obtain rfl : K = i := by omega
          have HC : Hid _ := hC
          have HK : Hid _ := hkp
          obtain ⟨oao, ocp, hod, _, _, _, _⟩ := row_shape hC.orow
          subst hod
          have c14 : wr.cell? ⟨bb, 6, none⟩ = some (.slice oao K ocp) := hC.box.cell 6
          have h71 := look_76 hC.box hC.hr (row_base hC.orow (Nat.zero_le _)) (Nat.le_refl _) hC.hK (m := 16) (by omega) hC.hL hC.vs hC.os
          clear hC hkp
          go_wp2_with (first | (go_at_call 76; go_must (refine h71.mono ?_); rintro y w7 ⟨rfl, hw7⟩; subst hw7) | fail)
          clear c14 h71
          go_loopw [8] (fun v wq => ∃ i : Nat, i ≤ K ∧ v = .int .i64 i ∧ Kp FB w wq ∧ ∃ mv M, Cl wq w.heap.size FB bb (.slice hao K hcp) wv (.slice oao K ocp) mv n K K i V O M L (fun j => mks (L j) 0 j)) (fun v _ => K - (intOf v).toNat)
          case atStart => exact ⟨0, by omega, rfl, HK.out, _, _, HC.out⟩
          case round =>
            obtain ⟨i, hi, rfl, hkp, mv, M, hC⟩ := hrel
            clear HC HK
            have c12 : wr.cell? ⟨bb, 4, none⟩ = some (.slice hao K hcp) := hC.box.cell 4
            by_cases hiK : i < K
            · obtain ⟨gh, rfl⟩ := hposh (by omega)
              have hib : (i : Int) < K := by omega
              have hLi := hC.hL i hiK
              have HC : Hid _ := hC
              have HK : Hid _ := hkp
              clear hC hposh hkp
              go_wp2
              have HW : Hid (∃ W0, W0 = wr) := ⟨wr, rfl⟩
              obtain ⟨W0, hW0⟩ := HW.out
              have HC0 : Hid (Cl W0 w.heap.size FB bb (.slice (some ⟨gh, 0, none⟩) K hcp) wv (.slice oao K ocp) mv n K K i V O M L (fun j => mks (L j) 0 j)) := by rw [hW0]; exact HC.out
              have HK0 : Hid (Kp FB w W0) := by rw [hW0]; exact HK.out
              have HG0 : Hid (W0.grownBy wr none) := by rw [hW0]; exact gb_refl _ _
              clear HW hW0 HC HK
              go_loopw [9, 10] (fun rv v wq => ∃ k : Nat, k ≤ 700 ∧ v = .int .i64 k ∧ wq.ownsRow W0.heap.size 3 1 rv k (hvals (List.replicate k (-5000000 - (i : Int)))) ∧ W0.grownBy wq none) (fun _ v _ => 700 - (intOf v).toNat)
              case atStart => exact ⟨0, by omega, rfl, ⟨rfl, .inl ⟨rfl, rfl⟩⟩, HG0.out⟩
              case round =>
                obtain ⟨k, hk, rfl, hrow, hg⟩ := hrel
                obtain ⟨ao2, cp2, hdv2, _, _, _, hpos2⟩ := row_shape hrow
                subst hdv2
                clear c12 HG0
                by_cases hk7 : k < 700
                · have q1 : IntKind.i64.wrap (-5000000 - (i : Int)) = -5000000 - i := by rw [IntKind.wrap_i64]; omega
                  have q3 : IntKind.i64.wrap (-5000000 - (i : Int)) = -5000000 - i := by rw [IntKind.wrap_i64]; omega
                  have hkb : (k : Int) < 700 := by omega
                  have hsz := hg.size
                  have HS : Hid (hvals (List.replicate k (-5000000 - (i : Int))) ++ [.int .i64 (-5000000 - (i : Int))] = hvals (List.replicate (k + 1) (-5000000 - (i : Int)))) := by unfold hvals; rw [List.replicate_succ', List.map_append]; rfl
                  clear HC0 HK0 hpos2
                  go_wp2_with (at_builtin; go_must (refine push3 rfl _ _ rfl W0.heap.size _ k _ (by rfl) hrow (-5000000 - (i : Int)) (by rfl) (by omega) hsz ?_))
                  intro g4 cap4 w4 hrow4 hgb4 hat4
                  have hg4 : W0.grownBy w4 none := gb_of_kp hg ((Kp.refl (fun j => (Value.slice ao2 k cp2).ownBlock = some j) wr).step hgb4 (fun j hj => .inl hj)) (fun j hj => (own_lo hrow hj).1)
                  rw [HS.out] at hrow4
                  clear hgb4 hat4 hrow HS
                  go_wp2
                  exact ⟨⟨k + 1, by omega, by go_num, hrow4, hg4⟩, by simp [intOf]; omega⟩
                · obtain rfl : k = 700 := by omega
                  obtain ⟨gm, rfl⟩ := hpos2 (by omega)
                  have hC := HC0.out.kept0 hg
                  have hkp := HK0.out.step hg (by simp)
                  clear HC0 HK0 hpos2 hg
                  obtain ⟨va, vc, hVs, _, _, _, hposv⟩ := row_shape (hC.vs i hiK)
                  obtain ⟨mao, mcp, hmd, _, _, _, _⟩ := row_shape hC.mrow
                  subst hmd
                  have c12 : wr.cell? ⟨bb, 4, none⟩ = some (.slice (some ⟨gh, 0, none⟩) K hcp) := hC.box.cell 4
                  have c15 : wr.cell? ⟨bb, 7, none⟩ = some (.slice mao i mcp) := hC.box.cell 7
                  have d1 : wr.cell? ⟨gh, i, none⟩ = some (.slice va (L i) vc) := by rw [← hVs]; exact row_cell hC.hr i _ (by unfold vsL; simp [hiK])
                  have hVr : wr.ownsRow 0 3 1 (.slice va (L i) vc) (L i + 0) (mks (L i) 0 i) := by rw [← hVs]; exact hC.vs i hiK
                  have hVa : Ap w.heap.size K i V O M i (.slice va (L i) vc) := by rw [← hVs]; exact fun g hg => .inl hg
                  have hm0 : ∀ g, (Value.slice mao i mcp).ownBlock = some g → w.heap.size ≤ g := fun g e => (own_lo hC.mrow e).1
                  have HC : Hid (Cl wr w.heap.size FB bb (.slice (some ⟨gh, 0, none⟩) K hcp) wv (.slice oao K ocp) (.slice mao i mcp) n K K i V O M L (fun j => mks (L j) 0 j)) := hC
                  have HK : Hid (Kp FB w wr) := hkp
                  have HV : Hid (wr.ownsRow 0 3 1 (.slice va (L i) vc) (L i + 0) (mks (L i) 0 i)) := hVr
                  have HA : Hid (Ap w.heap.size K i V O M i (.slice va (L i) vc)) := hVa
                  have HM : Hid (wr.ownsRow W0.heap.size 3 1 (.slice (some ⟨gm, 0, none⟩) 700 cp2) 700 (hvals (List.replicate 700 (-5000000 - (i : Int))))) := hrow
                  have H0 : Hid (∀ g, (Value.slice mao i mcp).ownBlock = some g → w.heap.size ≤ g) := hm0
                  have hB := hC.hB
                  have hbb := hC.hbb
                  clear hC hkp hVr hVa hrow hposv hm0
                  go_wp2
                  obtain ⟨i0, hi0, hz0, hz1, hz2⟩ := info_parts Tryd.info40
                  go_region_law ((first | (refine step_more3 (by rfl) (.tmp 114) (.tmp 115) (by rfl) (.slice va (L i) vc) (L i) (mks (L i) 0 i) (by rfl) (show World.ownsRow _ 0 3 1 _ _ _ from HV.out) ⟨gm, 0, none⟩ 700 cp2 (hvals (List.replicate 700 (-5000000 - (i : Int)))) (by rfl) (by unfold hvals; simp) (fun j u hj => by rw [Addr.add_mid, Nat.zero_add]; exact row_cell (show World.ownsRow _ W0.heap.size 3 1 _ _ _ from HM.out) j u hj) (fun u hu => by unfold hvals at hu; rw [List.mem_map] at hu; obtain ⟨z, _, rfl⟩ := hu; rfl) (by omega) (by omega) ?_; intro gC cC w5 hown5 hpsh5; have hpsh : Psh wr w5 (.slice va (L i) vc) (L i + 0) 700 (.slice (some ⟨gC, 0, none⟩) (L i + 700) cC) := psh_trans (fun r => (by first | exact gb_refl _ _ | exact gb_drew (gb_refl _ _) | exact gb_drewN (gb_refl _ _) _)) hpsh5; rw [mks_more] at hown5; obtain ⟨p1, p2, row, p3, p4⟩ := HC.out.push hiK HV.out HA.out hpsh hown5 (fun _ => by omega) (Nat.le_refl _); have m15 : w5.cell? ⟨bb, 7, none⟩ = some (.slice mao i mcp) := p1.box.cell 7; have m15a := (fun o => gb_cellN (World.grownBy_alloc w5 o none) m15); have hmr5 := p1.mrow; have hB5 := p1.hB) | (refine step_append_lies _ (by rfl) (.tmp 107) (.tmp 117) _ (by rfl) w.heap.size 40 i0 _ 1 24 Tryd.underlying65 hi0 hz0 hz1 hz2 rfl (by omega) (.slice mao i mcp) i _ (by rfl) (World.ownsRow.alloc (w := w5) hmr5 _) ⟨w5.heap.size, 0, none⟩ 1 1 [.slice (some ⟨gC, 0, none⟩) (L i + 700) cC] (by rfl) (by rfl) (World.news_of_block (cs := #[.slice (some ⟨gC, 0, none⟩) (L i + 700) cC]) (t := 40) (fr := (0, 0)) (heap_alloc_new w5 _)) (by simp [Value.oneCell']) (by omega) (by unfold maxLen; omega) (by omega) (by simp; omega) (w5.heap.size + 1) (by simp) ?_; intro g7 c7 w7 hown7 hgr7 hat7 hlt7; have hg7 : w5.grownBy w7 (Value.slice mao i mcp).ownBlock := gb_trans (gb_alloc (gb_refl _ _) _) hgr7; have b7 := p1.box.kept hg7 (fun e => (by have := H0.out _ e.symm; omega)); have m7 : w7.cell? ⟨bb, 7, none⟩ = some (.slice mao i mcp) := b7.cell 7; have f7 : w7.frozen? ⟨bb, 7, none⟩ = false := b7.fz 7)))
                  all_goals
                    obtain ⟨r1, r2⟩ := p1.many hiK hown5 p2 hown7 hg7 (fun g hg => by simp [Value.ownBlock] at hg; subst hg; exact hat7.imp id (fun e => by omega))
                    have HP : Hid _ := And.intro ((HK.out.step p3 (fun g hg => p4 g hg)).trans r2 (H := FB) (fun _ h => h) (fun j hj => hj)) r1
                    clear r1 r2 p1 p2 p3 p4 hown5 hpsh5 hpsh hown7 hgr7 hat7 hg7 b7 m7 f7 HC HK HV HA HM H0 m15 m15a hmr5
                    go_wp2
                    obtain ⟨p1, p2⟩ := HP.out
                    exact ⟨⟨i + 1, by omega, by go_num, p1, _, _, p2⟩, by simp [intOf]; omega⟩
            · obtain rfl : K = i := by omega
              obtain ⟨mao, mcp, hmd, _, _, _, _⟩ := row_shape hC.mrow
              subst hmd
              have c14 : wr.cell? ⟨bb, 6, none⟩ = some (.slice oao K ocp) := hC.box.cell 6
              have c15 : wr.cell? ⟨bb, 7, none⟩ = some (.slice mao K mcp) := hC.box.cell 7
              have h71 := look_76 hC.box hC.hr (row_base hC.orow (Nat.zero_le _)) (Nat.le_refl _) hC.hK (m := 16) (by omega) hC.hL hC.vs hC.os
              have h72 := look_76 hC.box hC.hr (row_base hC.mrow (Nat.zero_le _)) (Nat.le_refl _) hC.hK (m := 700) (by omega) hC.hL hC.vs hC.ms
              have HP : Hid _ := And.intro hkp hC.box
              clear hC hkp
              go_wp2_with (go_at_call 76; go_must (refine h72.mono ?_))
              rintro y w9 ⟨rfl, hw9⟩
              subst hw9
              clear h72
              go_wp2_with (go_at_call 76; go_must (refine h71.mono ?_))
              rintro y w9 ⟨rfl, hw9⟩
              subst hw9
              clear h71
              go_wp2
              go_ret
              exact ⟨rfl, HP.out.1, _, _, _, HP.out.2⟩

end Go.Proofs.YtonbkpfnpnlkpaaDoor

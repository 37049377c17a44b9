/-
  spoilt: nobody's list is another one's.
-/
import Derived.Test.YtonbkpfnpnlkpaaDoorZk
namespace Go.Proofs.YtonbkpfnpnlkpaaDoor
open Go.RowKit
set_option linter.unusedVariables false
set_option linter.unusedSimpArgs false
attribute [local go_sem] Oper.semAt_some

set_option maxRecDepth 100000 in
set_option maxHeartbeats 16000000 in
theorem spoilt_31 {w : World} {FB : Nat → Prop} {tv : Value} {K : Nat} {V : Nat → Value} {f : Nat → Nat → List Value} (h : Tl w FB tv K V f) :
    Calls Tryd.prog 31 #[tv] w fun y w' => y = .returned (.bool true) ∧ Kp FB w w' := by
  obtain ⟨hao, hcp, hdh, _, _, _, hposh⟩ := row_shape h.hr
  subst hdh
  have hK := h.hK
  go_enter Tryd.func31, Tryd.ntmps31
  go_wp2
  go_loopw [3] (fun v wr => ∃ i : Nat, i ≤ K ∧ v = .int .i64 i ∧ Kp FB w wr ∧ ∃ f, Tl wr FB (.slice hao K hcp) K V f ∧ ∀ j l, j < i → l < 30 → f j l = mk2 j) (fun v _ => K - (intOf v).toNat)
  case atStart => exact ⟨0, by omega, rfl, Kp.refl _ _, _, h, fun j l hj => by omega⟩
  case round =>
    obtain ⟨i, hi, rfl, hkp, f1, hT, hF⟩ := hrel
    clear h
    by_cases hiK : i < K
    · obtain ⟨gh, rfl⟩ := hposh (by omega)
      obtain ⟨va, vc, hVs, _, _, _, hposv⟩ := row_shape (hT.vs i hiK)
      obtain ⟨g, rfl⟩ := hposv (by omega)
      have hib : (i : Int) < K := by omega
      have q1 : IntKind.u64.wrap (i : Int) = i := by rw [IntKind.wrap_u64]; omega
      have HT : Hid (Tl wr FB (.slice (some ⟨gh, 0, none⟩) K hcp) K V f1) := hT
      clear hT hposh hposv
      go_wp2
      go_loopw [4] (fun v wq => ∃ k : Nat, k ≤ 30 ∧ v = .int .i64 k ∧ Kp FB w wq ∧ ∃ f, Tl wq FB (.slice (some ⟨gh, 0, none⟩) K hcp) K V f ∧ (∀ j l, j < i → l < 30 → f j l = mk2 j) ∧ ∀ l, l < k → f i l = mk2 i) (fun v _ => 30 - (intOf v).toNat)
      case atStart => exact ⟨0, by omega, rfl, hkp, f1, HT.out, hF, fun l hl => by omega⟩
      case round =>
        clear HT hkp hF
        obtain ⟨k, hk, rfl, hkp, f2, hT, hF, hM⟩ := hrel
        have d1 : wr.cell? ⟨gh, i, none⟩ = some (.slice (some ⟨g, 0, none⟩) 30 vc) := by rw [← hVs]; exact row_cell hT.hr i _ (by unfold vsL; simp [hiK])
        have hrow := hT.vs i hiK
        rw [hVs] at hrow
        by_cases hkl : k < 30
        · obtain ⟨cur, hcur⟩ := row_block hrow g rfl
          have hlen : (rng 30 (f2 i)).length = 60 := by rw [rng_len (hT.fl i)]
          have e1 : wr.cell? ⟨g, k * 2, none⟩ = some ((rng 30 (f2 i))[k * 2]'(by omega)) := row_cell hrow (k * 2) _ (List.getElem?_eq_getElem (by omega))
          have e2 : wr.cell? ⟨g, k * 2 + 1, none⟩ = some ((rng 30 (f2 i))[k * 2 + 1]'(by omega)) := row_cell hrow (k * 2 + 1) _ (List.getElem?_eq_getElem (by omega))
          have z1 : wr.frozen? ⟨g, k * 2, none⟩ = false := Box.fz (show Box wr 60 g cur from hcur) (k * 2)
          have z2 : wr.frozen? ⟨g, k * 2 + 1, none⟩ = false := Box.fz (show Box wr 60 g cur from hcur) (k * 2 + 1)
          have hkb : (k : Int) < 30 := by omega
          obtain ⟨p2, p1⟩ := hT.write hiK hVs hkl ⟨#[]⟩ (i : Int)
          have hpost : Kp FB w ((wr.setCell ⟨g, k * 2, none⟩ (.string ⟨#[]⟩)).setCell ⟨g, k * 2 + 1, none⟩ (.int .u64 (i : Int))) ∧ ∃ f3, Tl ((wr.setCell ⟨g, k * 2, none⟩ (.string ⟨#[]⟩)).setCell ⟨g, k * 2 + 1, none⟩ (.int .u64 (i : Int))) FB (.slice (some ⟨gh, 0, none⟩) K hcp) K V f3 ∧ (∀ j l, j < i → l < 30 → f3 j l = mk2 j) ∧ ∀ l, l < k + 1 → f3 i l = mk2 i := by
            refine ⟨hkp.step p1 (fun j hj => by have := Option.some.inj hj; subst this; exact .inl (hT.fv i g hiK (by rw [hVs]; rfl))), _, p2, fun j l hj hl => ?_, fun l hl => ?_⟩
            · rw [upd_other _ _ (by omega)]; exact hF j l hj hl
            · rw [upd_same]
              by_cases e : l = k
              · subst e; rw [upd_same]; rfl
              · rw [upd_other _ _ e]; exact hM l (by omega)
          generalize (rng 30 (f2 i))[k * 2]'(by omega) = old1 at *
          generalize (rng 30 (f2 i))[k * 2 + 1]'(by omega) = old2 at *
          have HP : Hid _ := hpost
          clear hpost p1 p2 hT hkp hF hM hrow hcur hlen
          go_wp2
          obtain ⟨p1, f3, p2, p3, p4⟩ := HP.out
          exact ⟨⟨k + 1, by omega, by go_num, p1, f3, p2, p3, p4⟩, by simp [intOf]; omega⟩
        · obtain rfl : k = 30 := by omega
          have HP : Hid (Kp FB w wr ∧ Tl wr FB (.slice (some ⟨gh, 0, none⟩) K hcp) K V f2) := ⟨hkp, hT⟩
          have HF : Hid (∀ j l, j < i + 1 → l < 30 → f2 j l = mk2 j) := fun j l hj hl => by
            by_cases e : j = i
            · subst e; exact hM l hl
            · exact hF j l (by omega) hl
          clear hT hkp hF hM hrow
          go_wp2
          exact ⟨⟨i + 1, by omega, by go_num, HP.out.1, f2, HP.out.2, HF.out⟩, by simp [intOf]; omega⟩
    · obtain rfl : i = K := by omega
      have HG : Hid (Gz wr wr.heap.size FB (.slice hao i hcp) i V (.slice none 0 0) 0 40 1000 (fun _ => .slice none 0 0)) := hT.begin hF 40 1000 _
      have HK : Hid (Kp FB w wr) := hkp
      obtain ⟨B0, hB0⟩ : ∃ B0, B0 = wr.heap.size := ⟨_, rfl⟩
      have hBw : w.heap.size ≤ B0 := by rw [hB0]; exact hkp.size
      rw [← hB0] at HG
      clear hT hkp hF hB0
      go_wp2
      generalize i = K at *
      go_loopw [5, 7] (fun gv v wq => ∃ i : Nat, i ≤ K ∧ v = .int .i64 i ∧ Kp FB w wq ∧ ∃ G, Gz wq B0 FB (.slice hao K hcp) K V gv i 40 1000 G) (fun _ v _ => K - (intOf v).toNat)
      case atStart => exact ⟨0, by omega, rfl, HK.out, _, HG.out⟩
      case round =>
        obtain ⟨i, hi, rfl, hkp, G, hG⟩ := hrel
        clear HG HK
        obtain ⟨oao, ocp, hod, _, _, _, _⟩ := row_shape hG.grow
        subst hod
        by_cases hiK : i < K
        · obtain ⟨gh, rfl⟩ := hposh (by omega)
          obtain ⟨va, vc, hVs, _, _, _, hposv⟩ := row_shape (hG.tl.vs i hiK)
          have d1 : wr.cell? ⟨gh, i, none⟩ = some (.slice va 30 vc) := by rw [← hVs]; exact row_cell hG.tl.hr i _ (by unfold vsL; simp [hiK])
          have hib : (i : Int) < K := by omega
          have q1 : IntKind.i64.wrap (1000 + (i : Int)) = 1000 + i := by rw [IntKind.wrap_i64]; omega
          have q3 : IntKind.u64.wrap (1000 + (i : Int)) = 1000 + i := by rw [IntKind.wrap_u64]; omega
          have hst : wr.ownsRow 0 60 2 (.slice va 30 vc) (30 + 0) (ml (30 + 0) i (1000 + i)) ∧ ApG B0 i V G i (.slice va 30 vc) := by rw [← hVs]; exact ⟨hG.tl.vs i hiK, fun g hg => .inl hg⟩
          have HG : Hid _ := hG
          have HS : Hid _ := hst
          have HK : Hid _ := hkp
          clear hG hposh hst hkp hposv
          go_wp2
          go_loopw [8, 9] (fun lv v wq => ∃ k : Nat, k ≤ 40 ∧ v = .int .i64 k ∧ Kp FB w wq ∧ Gz wq B0 FB (.slice (some ⟨gh, 0, none⟩) K hcp) K V (.slice oao i ocp) i 40 1000 G ∧ wq.ownsRow 0 60 2 lv (30 + k) (ml (30 + k) i (1000 + i)) ∧ ApG B0 i V G i lv) (fun _ v _ => 40 - (intOf v).toNat)
          case atStart => exact ⟨0, by omega, rfl, HK.out, HG.out, HS.out.1, HS.out.2⟩
          case round =>
            obtain ⟨k, hk, rfl, hkp, hG, hl, hap⟩ := hrel
            clear HG HK HS d1
            obtain ⟨lao, lcp, hld, _, _, _, _⟩ := row_shape hl
            subst hld
            by_cases hk16 : k < 40
            · have hkb : (k : Int) < 40 := by omega
              have HG : Hid _ := hG
              have HA : Hid _ := hap
              have HK : Hid _ := hkp
              clear hG hap hkp
              go_wp2_with (at_builtin; go_must (refine push60p rfl _ _ rfl _ (30 + k) _ (by rfl) hl (1000 + (i : Int)) (by rfl) (by omega) ?_))
              intro v' w' hown hpsh
              rw [ml_succ (by omega)] at hown
              obtain ⟨p1, p2, row, p3, p4⟩ := HG.out.push hiK (by omega) hl HA.out hpsh hown
              have p5 := HK.out.step p3 (fun g hg => (p4 g hg).imp id (fun e => Nat.le_trans hBw e))
              have HP : Hid _ := And.intro p5 (And.intro p1 (And.intro hown p2))
              clear p1 p2 p3 p4 p5 hown hpsh hl HG HA HK
              go_wp2
              obtain ⟨p1, p2, p3, p4⟩ := HP.out
              exact ⟨⟨k + 1, by omega, by go_num, p1, p2, p3, p4⟩, by simp [intOf]; omega⟩
            · obtain rfl : k = 40 := by omega
              have horow := hG.grow
              have hB := hG.hB
              have HG : Hid _ := hG
              have HA : Hid _ := hap
              have HK : Hid _ := hkp
              have HL : Hid _ := hl
              clear hG hap hkp hl
              go_wp2_with (at_builtin; go_must (refine push37 rfl _ _ rfl B0 _ i _ (by rfl) horow (.slice lao (30 + 40) lcp) rfl (by rfl) (by omega) hB ?_))
              intro g2 cap2 w2 hrow2 hgb2 hat2
              obtain ⟨p1, p2⟩ := HG.out.one hiK HL.out HA.out hrow2 hgb2
              have HP : Hid _ := And.intro (HK.out.trans p2 (H := FB) (fun _ h => h) (fun j hj => hj.imp id (fun e => Nat.le_trans hBw e))) p1
              clear p1 p2 hrow2 hgb2 hat2 HG HA HK HL horow
              go_wp2
              obtain ⟨p1, p2⟩ := HP.out
              exact ⟨⟨i + 1, by omega, by go_num, p1, _, p2⟩, by simp [intOf]; omega⟩
        · obtain rfl : i = K := by omega
          have h48 := holds_48 hG.tl.hr (row_base hG.grow (Nat.zero_le _)) hK (m := 40) (by omega) (c := 1000) (by omega) (by omega) hG.tl.vs hG.gs
          have HG : Hid (Gz wr wr.heap.size FB (.slice hao i hcp) i V (.slice none 0 0) 0 90 2000 (fun _ => .slice none 0 0)) := hG.tl.begin (fun j l _ hl => mf_lo hl) 90 2000 _
          have HK : Hid (Kp FB w wr) := hkp
          obtain ⟨B1, hB1⟩ : ∃ B1, B1 = wr.heap.size := ⟨_, rfl⟩
          have hBw1 : w.heap.size ≤ B1 := by rw [hB1]; exact hkp.size
          rw [← hB1] at HG
          clear hG hkp hB1 hBw
          go_wp2_with (first | (go_at_call 48; go_must (refine h48.mono ?_); rintro y w7 ⟨rfl, hw7⟩; subst hw7) | fail)
          clear h48
          generalize i = K at *
          go_loopw [6, 10] (fun gv v wq => ∃ i : Nat, i ≤ K ∧ v = .int .i64 i ∧ Kp FB w wq ∧ ∃ G, Gz wq B1 FB (.slice hao K hcp) K V gv i 90 2000 G) (fun _ v _ => K - (intOf v).toNat)
          case atStart => exact ⟨0, by omega, rfl, HK.out, _, HG.out⟩
          case round =>
            obtain ⟨i, hi, rfl, hkp, G, hG⟩ := hrel
            clear HG HK
            obtain ⟨mao, mcp, hmd, _, _, _, _⟩ := row_shape hG.grow
            subst hmd
            by_cases hiK : i < K
            · obtain ⟨gh, rfl⟩ := hposh (by omega)
              have hib : (i : Int) < K := by omega
              have q1 : IntKind.i64.wrap (2000 + (i : Int)) = 2000 + i := by rw [IntKind.wrap_i64]; omega
              have q3 : IntKind.u64.wrap (2000 + (i : Int)) = 2000 + i := by rw [IntKind.wrap_u64]; omega
              have HG : Hid _ := hG
              have HK : Hid _ := hkp
              clear hG hposh hkp
              go_wp2
              have HW : Hid (∃ W0, W0 = wr) := ⟨wr, rfl⟩
              obtain ⟨W0, hW0⟩ := HW.out
              have HC0 : Hid (Gz W0 B1 FB (.slice (some ⟨gh, 0, none⟩) K hcp) K V (.slice mao i mcp) i 90 2000 G) := by rw [hW0]; exact HG.out
              have HK0 : Hid (Kp FB w W0) := by rw [hW0]; exact HK.out
              have HG0 : Hid (W0.grownBy wr none) := by rw [hW0]; exact gb_refl _ _
              clear HW hW0 HG HK
              go_loopw [11, 12] (fun rv v wq => ∃ k : Nat, k ≤ 90 ∧ v = .int .i64 k ∧ wq.ownsRow W0.heap.size 60 2 rv k (rng k (fun _ => mk2 (2000 + (i : Int)))) ∧ W0.grownBy wq none) (fun _ v _ => 90 - (intOf v).toNat)
              case atStart => exact ⟨0, by omega, rfl, ⟨rfl, .inl ⟨rfl, rfl⟩⟩, HG0.out⟩
              case round =>
                obtain ⟨k, hk, rfl, hrow, hg⟩ := hrel
                obtain ⟨ao2, cp2, hdv2, _, _, _, hpos2⟩ := row_shape hrow
                subst hdv2
                clear HG0
                by_cases hk7 : k < 90
                · have hkb : (k : Int) < 90 := by omega
                  have hsz := hg.size
                  clear HC0 HK0 hpos2
                  go_wp2_with (at_builtin; go_must (refine push60 rfl _ _ rfl W0.heap.size _ k _ (by rfl) hrow ⟨#[]⟩ (2000 + (i : Int)) (by rfl) (by omega) hsz ?_))
                  intro g4 cap4 w4 hrow4 hgb4 hat4
                  have hg4 : W0.grownBy w4 none := gb_of_kp hg ((Kp.refl (fun j => (Value.slice ao2 k cp2).ownBlock = some j) wr).step hgb4 (fun j hj => .inl hj)) (fun j hj => (own_lo hrow hj).1)
                  have hrow5 : w4.ownsRow W0.heap.size 60 2 (.slice (some ⟨g4, 0, none⟩) (k + 1) cap4) (k + 1) (rng (k + 1) (fun _ => mk2 (2000 + (i : Int)))) := by rw [rng_succ]; exact hrow4
                  clear hgb4 hat4 hrow hrow4
                  go_wp2
                  exact ⟨⟨k + 1, by omega, by go_num, hrow5, hg4⟩, by simp [intOf]; omega⟩
                · obtain rfl : k = 90 := by omega
                  obtain ⟨gm, rfl⟩ := hpos2 (by omega)
                  have hG := HC0.out.kept0 hg
                  have hkp := HK0.out.step hg (by simp)
                  clear HC0 HK0 hpos2 hg
                  obtain ⟨va, vc, hVs, _, _, _, hposv⟩ := row_shape (hG.tl.vs i hiK)
                  have d1 : wr.cell? ⟨gh, i, none⟩ = some (.slice va 30 vc) := by rw [← hVs]; exact row_cell hG.tl.hr i _ (by unfold vsL; simp [hiK])
                  have hVr : wr.ownsRow 0 60 2 (.slice va 30 vc) 30 (ml 30 i (2000 + i)) := by rw [← hVs]; exact hG.tl.vs i hiK
                  have hVa : ApG B1 i V G i (.slice va 30 vc) := by rw [← hVs]; exact fun g hg => .inl hg
                  have hmc : ∀ j u, (rng 90 (fun _ => mk2 (2000 + (i : Int))))[j]? = some u → wr.cell? ((⟨gm, 0, none⟩ : Addr).add j) = some u := fun j u hj => by rw [Addr.add_mid, Nat.zero_add]; exact row_cell hrow j u hj
                  have hml : (rng 90 (fun _ => mk2 (2000 + (i : Int)))).length = 90 * 2 := rng_len (fun _ => rfl) 90
                  have hm1 : ∀ u ∈ rng 90 (fun _ => mk2 (2000 + (i : Int))), u.oneCell' = true := fun u hu => by
                    unfold rng at hu
                    rw [List.mem_flatMap] at hu
                    obtain ⟨_, _, hu⟩ := hu
                    simp [mk2] at hu
                    rcases hu with rfl | rfl <;> rfl
                  have HG : Hid _ := hG
                  have HK : Hid _ := hkp
                  have HV : Hid _ := hVr
                  have HA : Hid _ := hVa
                  have HC : Hid _ := hmc
                  have HL : Hid _ := hml
                  have H1 : Hid _ := hm1
                  clear hG hkp hVr hVa hrow hposv hmc hml hm1
                  go_wp2_with (first
                    | (at_builtin; refine more60p rfl _ _ rfl (.slice va 30 vc) 30 (ml 30 i (2000 + i)) (by rfl) HV.out ⟨gm, 0, none⟩ 90 cp2 _ (by rfl) HL.out HC.out H1.out (by omega) (by omega) ?_))
                  intro v' w' hown hpsh
                  rw [ml_more (by omega)] at hown
                  obtain ⟨p1, p2, row, p3, p4⟩ := HG.out.push hiK (by omega) HV.out HA.out hpsh hown
                  have p5 := HK.out.step p3 (fun g hg => (p4 g hg).imp id (fun e => Nat.le_trans hBw1 e))
                  obtain ⟨lao, lcp, hld, _, _, _, _⟩ := row_shape hown
                  subst hld
                  have horow := p1.grow
                  have hB := p1.hB
                  have HG2 : Hid _ := p1
                  have HA2 : Hid _ := p2
                  have HK2 : Hid _ := p5
                  have HL2 : Hid _ := hown
                  clear p1 p2 p3 p4 p5 hpsh hown HG HK HV HA HC HL H1
                  go_wp2_with (at_builtin; go_must (refine push37 rfl _ _ rfl B1 _ i _ (by rfl) horow (.slice lao (30 + 90) lcp) rfl (by rfl) (by omega) hB ?_))
                  intro g2 cap2 w2 hrow2 hgb2 hat2
                  obtain ⟨p1, p2⟩ := HG2.out.one hiK HL2.out HA2.out hrow2 hgb2
                  have HP : Hid _ := And.intro (HK2.out.trans p2 (H := FB) (fun _ h => h) (fun j hj => hj.imp id (fun e => Nat.le_trans hBw1 e))) p1
                  clear p1 p2 hrow2 hgb2 hat2 HG2 HA2 HK2 HL2 horow
                  go_wp2
                  obtain ⟨p1, p2⟩ := HP.out
                  exact ⟨⟨i + 1, by omega, by go_num, p1, _, p2⟩, by simp [intOf]; omega⟩
            · obtain rfl : i = K := by omega
              have h48 := holds_48 hG.tl.hr (row_base hG.grow (Nat.zero_le _)) hK (m := 90) (by omega) (c := 2000) (by omega) (by omega) hG.tl.vs hG.gs
              have HK : Hid (Kp FB w wr) := hkp
              clear hG hkp
              go_wp2_with (first | (go_at_call 48; go_must (refine h48.mono ?_); rintro y w7 ⟨rfl, hw7⟩; subst hw7) | fail)
              go_ret
              exact ⟨rfl, HK.out⟩

end Go.Proofs.YtonbkpfnpnlkpaaDoor

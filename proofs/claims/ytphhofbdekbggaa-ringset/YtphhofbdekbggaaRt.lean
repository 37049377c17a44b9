/-
  CompactFunc.
-/
import Derived.Test.YtphhofbdekbggaaRs
namespace Go.Proofs.Ytphhofbdekbggaa
open Go.RowKit Go.Sort
set_option linter.unusedVariables false
set_option linter.unusedSimpArgs false

theorem gb_setCells {a b : World} {g : Nat} : ∀ (l : List Value) (o : Nat), a.grownBy b (some g) → a.grownBy (b.setCells g o l) (some g)
  | [], _, h => h
  | v :: l, o, h => gb_setCells l (o + 1) (gb_setCell h v)
theorem clo_69g (p q : Pt) (w : World) : Calls Try.prog 69 #[.agg #[.int .u32 p.1, .int .i64 p.2.1, .int .i64 p.2.2], .agg #[.int .u32 q.1, .int .i64 q.2.1, .int .i64 q.2.2]] w fun e w' => e = .returned (.bool (decide (p.1 = q.1))) ∧ w.grownBy w' none := by
  refine (clo_69 p.1 p.2.1 p.2.2 q.1 q.2.1 q.2.2 w).mono ?_
  rintro e w' ⟨rfl, k, os, rfl⟩
  exact ⟨rfl, gb_grow _ _ _⟩
set_option maxRecDepth 100000 in
set_option maxHeartbeats 4000000 in
theorem compact_68 (g n c : Nat) (ps : List Pt) (w : World) (hn : ps.length = n) (hn2 : n ≤ 1000000) (hc : n ≤ c) (hc2 : c ≤ maxLen) (hP : PtAt w g ps) (hfz : ∀ i, i < n * 3 → w.frozen? ⟨g, i, none⟩ = false) (hlt : g < w.heap.size) :
    Calls Try.prog 68 #[.slice (some ⟨g, 0, none⟩) n c, .func (.func 69) #[] #[]] w fun e w' => e = .returned (.slice (some ⟨g, 0, none⟩) (cpt ps n).length c) ∧ PtAt w' g (cpt ps n) ∧ w.grownBy w' (some g) := by
  unfold maxLen at hc2
  have hth : ∀ i, i < n * 3 → (w.cell? ⟨g, i, none⟩).isSome = true := fun i hi => by
    obtain ⟨h0, h1, h2⟩ := hP (i / 3) (by omega)
    rcases (show i % 3 = 0 ∨ i % 3 = 1 ∨ i % 3 = 2 by omega) with e | e | e
    · rw [show i = i / 3 * 3 by omega, h0]; rfl
    · rw [show i = i / 3 * 3 + 1 by omega, h1]; rfl
    · rw [show i = i / 3 * 3 + 2 by omega, h2]; rfl
  have hend : Hid (∀ wr, w.grownBy wr none → cpt ps n = ps → PtAt wr g (cpt ps n) ∧ w.grownBy wr (some g)) := fun wr hg e => by
    rw [e]; exact ⟨hP.grown hg, gb_none _ hg⟩
  have hinit : Hid (∀ wr k, w.grownBy wr none → 0 < k → k < n → (pat ps k).1 = (pat ps (k - 1)).1 → cpt ps k = ps.take k → Cp w wr g n ps (k + 1) k) := fun wr k hg h0 hk e ht => by
    have hc1 := cpt_old h0 e
    have hlk : (ps.take k).length = k := by rw [List.length_take]; omega
    exact ⟨by rw [hc1, ht, hlk], by omega, fun i hi => by
      rw [hc1, ht, hlk] at hi
      rw [hc1, ht]
      have : pat (ps.take k) i = pat ps i := by simp [pat, List.getElem?_take, hi]
      rw [this]
      exact (hP.grown hg) i (by omega), fun i a b => (hP.grown hg) i (by omega), fun i hi => by rw [frozen_gb hg hlt]; exact hfz i hi, fun i hi => by
        obtain ⟨u, hu⟩ := Option.isSome_iff_exists.1 (hth i hi)
        rw [gb_cellN hg hu]; rfl, gb_none _ hg, Nat.lt_of_lt_of_le hlt hg.size⟩
  have hcells : Hid (∀ wr k, w.grownBy wr none → k < n → At3 wr g k (pat ps k)) := fun wr k hg hk => (hP.grown hg) k (by omega)
  have htk : Hid (∀ k, 0 < k → k < n → (pat ps k).1 ≠ (pat ps (k - 1)).1 → cpt ps k = ps.take k → cpt ps (k + 1) = ps.take (k + 1)) := fun k h0 hk e ht => by
    rw [cpt_new h0 e, ht, List.take_succ_eq_append_getElem (by omega)]
    simp [pat, show k < ps.length by omega]
  have hsm : Hid (n < 2 → cpt ps n = ps) := fun h => by
    match n, hn, h with
    | 0, hn, _ => rw [List.eq_nil_of_length_eq_zero hn]; rfl
    | 1, hn, _ =>
      obtain ⟨p, rfl⟩ := List.length_eq_one_iff.1 hn
      simp [cpt, pat]
  have hone : Hid (0 < n → cpt ps 1 = ps.take 1) := fun h => by
    match ps, hn with
    | [], hn => simp at hn; omega
    | p :: ps, _ => simp [cpt, pat]
  have hfull : Hid (cpt ps n = ps.take n → cpt ps n = ps) := fun h => by rw [h, List.take_of_length_le (by omega)]
  clear hP hfz hth
  by_cases h2 : n < 2
  · have hr : Hid _ := hsm.out h2
    have hlen : (cpt ps n).length = n := by rw [hr.out, hn]
    have hE := hend.out w (gb_refl _ _) hr.out
    clear hend hinit hcells htk hsm hone hfull
    generalize cpt ps n = cs at *
    rw [hlen]
    clear hlen
    go_enter Try.func68, Try.ntmps68
    go_wp2_with fail
    go_ret
    exact ⟨rfl, hE.1, hE.2⟩
  have hone1 := hone.out (by omega)
  go_enter Try.func68, Try.ntmps68
  go_wp2_with fail
  go_loopw [5] (fun x wr => ∃ (k : Nat), 1 ≤ k ∧ k ≤ n ∧ x = .int .i64 k ∧ cpt ps k = ps.take k ∧ w.grownBy wr none) (fun x _ => n - (intOf x).toNat)
  case atStart => exact ⟨1, by omega, by omega, rfl, hone1, gb_refl _ _⟩
  case round =>
    obtain ⟨k, hk1, hk, rfl, hct, hg⟩ := hrel
    clear hone1
    have HCT : Hid _ := hct
    have HG : Hid _ := hg
    clear hct hg
    by_cases hkn : k < n
    · obtain ⟨c0, c1, c2⟩ := hcells.out wr k HG.out hkn
      obtain ⟨d0, d1, d2⟩ := hcells.out wr (k - 1) HG.out (by omega)
      have hcq := fun W => clo_69g (pat ps k) (pat ps (k - 1)) W
      have HI := hinit.out wr k HG.out (by omega) hkn
      have hpq3 : Hid ((pat ps k).1 ≠ (pat ps (k - 1)).1 → cpt ps (k + 1) = ps.take (k + 1)) := fun h => htk.out k (by omega) hkn h HCT.out
      generalize pat ps k = p at *
      generalize pat ps (k - 1) = q at *
      obtain ⟨pa, pb, pc⟩ := p
      obtain ⟨qa, qb, qc⟩ := q
      simp only at c0 c1 c2 d0 d1 d2 hcq HI
      generalize hkp : k - 1 = kp at *
      have hkp2 : (kp : Int) < (n : Int) := by omega
      have hkp3 : (0 : Int) ≤ (kp : Int) := by omega
      have hkw : IntKind.i64.wrap ((k : Int) - 1) = (kp : Int) := by rw [IntKind.wrap_i64]; omega
      have hkp1 : Hid (k = kp + 1) := by show k = kp + 1; omega
      clear hkp
      clear hcells hinit hsm hfull hend
      go_wp2_with fail
      have hk0 : wr.drew.cell? ⟨g, k * 3, none⟩ = some (.int .u32 pa) ∧ wr.drew.cell? ⟨g, k * 3 + 1, none⟩ = some (.int .i64 pb) ∧ wr.drew.cell? ⟨g, k * 3 + 2, none⟩ = some (.int .i64 pc) ∧ wr.drew.cell? ⟨g, kp * 3, none⟩ = some (.int .u32 qa) ∧ wr.drew.cell? ⟨g, kp * 3 + 1, none⟩ = some (.int .i64 qb) ∧ wr.drew.cell? ⟨g, kp * 3 + 2, none⟩ = some (.int .i64 qc) := ⟨c0, c1, c2, d0, d1, d2⟩
      go_region_held3 (fun W => W.cell? ⟨g, k * 3, none⟩ = some (.int .u32 pa) ∧ W.cell? ⟨g, k * 3 + 1, none⟩ = some (.int .i64 pb) ∧ W.cell? ⟨g, k * 3 + 2, none⟩ = some (.int .i64 pc) ∧ W.cell? ⟨g, kp * 3, none⟩ = some (.int .u32 qa) ∧ W.cell? ⟨g, kp * 3 + 1, none⟩ = some (.int .i64 qb) ∧ W.cell? ⟨g, kp * 3 + 2, none⟩ = some (.int .i64 qc)) ((first | with_reducible exact hk1 | with_reducible exact hk0 | go_keep)) ((first
        | (go_at_call 69; with_reducible refine (hcq _).mono ?_; rintro z w2 ⟨rfl, hg2⟩; (have hk1 := And.intro (gb_cellN hg2 hk0.1) (And.intro (gb_cellN hg2 hk0.2.1) (And.intro (gb_cellN hg2 hk0.2.2.1) (And.intro (gb_cellN hg2 hk0.2.2.2.1) (And.intro (gb_cellN hg2 hk0.2.2.2.2.1) (gb_cellN hg2 hk0.2.2.2.2.2)))))))))
      have hg3 : Hid (w.grownBy w2 none) := gb_trans (gb_drew HG.out) hg2
      have HC : Hid (pa = qa → Cp w w2 g n ps (k + 1) k) := fun e => (HI e HCT.out).grown (gb_trans (gb_drew (gb_refl _ _)) hg2)
      clear hk0 hk1 c0 c1 c2 d0 d1 d2 HG hg2 HI hcq
      by_cases hpq : pa = qa
      · have hC := HC.out hpq
        have hpd : decide (pa = qa) = true := by simp [hpq]
        simp only [hpd]
        clear hpd
        subst hpq
        have hck : ¬ (c : Int) = (k : Int) := by omega
        have hck2 : ¬ c = k := by omega
        have hsc : (k : Int) ≤ (c : Int) := by omega
        clear HC
        go_wp2_with fail
        clear hkw hkp2 hkp3 hkp1 hck hck2 hsc HCT hg3
        have HCC : Hid _ := hC
        clear hC
        generalize hm : n - k = m at *
        generalize hcm : c - k = cm at *
        have hnm : Hid (n = k + m ∧ 0 < m ∧ m ≤ cm) := by refine ⟨?_, ?_, ?_⟩ <;> omega
        clear hm hcm
        go_loopw [5, 7] (fun x y wr => ∃ (i kk : Nat), 1 ≤ i ∧ i ≤ m ∧ x = .int .i64 kk ∧ y = .int .i64 i ∧ Cp w wr g n ps (k + i) kk) (fun _ y _ => m - (intOf y).toNat)
        case atStart => exact ⟨1, k, by omega, hnm.out.2.1, rfl, rfl, HCC.out⟩
        case round =>
          obtain ⟨i, kk, hi1, him, rfl, rfl, hC⟩ := hrel
          clear HCC
          have hnm1 := hnm.out.1
          have hkj := hC.kj
          by_cases hlt2 : i < m
          · obtain ⟨c0, c1, c2⟩ := hC.hi (k + i) (by omega) (by omega)
            obtain ⟨d0, d1, d2⟩ := hC.hi (k + i - 1) (by omega) (by omega)
            have hcq := fun W => clo_69g (pat ps (k + i)) (pat ps (k + i - 1)) W
            have HO : Hid ((pat ps (k + i)).1 = (pat ps (k + i - 1)).1 → ∀ W, Cp w W g n ps (k + i) kk → Cp w W g n ps (k + (i + 1)) kk) := fun e W h => h.old (by omega) e
            have HN : Hid ((pat ps (k + i)).1 ≠ (pat ps (k + i - 1)).1 → ∀ W, Cp w W g n ps (k + i) kk → Cp w (put3 W g kk (pat ps (k + i))) g n ps (k + (i + 1)) (kk + 1)) := fun e W h => h.new hn (by omega) (by omega) e
            generalize pat ps (k + i) = p at *
            generalize pat ps (k + i - 1) = q at *
            obtain ⟨pa, pb, pc⟩ := p
            obtain ⟨qa, qb, qc⟩ := q
            simp only at c0 c1 c2 d0 d1 d2 hcq HO HN
            obtain ⟨ip, rfl⟩ : ∃ ip, i = ip + 1 := ⟨i - 1, by omega⟩
            rw [show k + (ip + 1) - 1 = k + ip by omega] at d0 d1 d2
            generalize hie : ip + 1 = i at *
            have hkp2 : (ip : Int) < (m : Int) := by omega
            have hkp3 : (0 : Int) ≤ (ip : Int) := by omega
            have hkw : IntKind.i64.wrap ((i : Int) - 1) = (ip : Int) := by rw [IntKind.wrap_i64]; omega
            clear hie
            have hkkn : (kk : Int) < (n : Int) := by omega
            have e3 : ∀ x : Nat, (k + x) * 3 = k * 3 + x * 3 := fun x => by omega
            rw [e3] at c0 c1 c2 d0 d1 d2
            clear e3
            have hC2 : Hid _ := hC
            have hkkc : (kk : Int) < (c : Int) := by omega
            have hkk0 : (0 : Int) ≤ (kk : Int) := by omega
            have hib : i < 1000000 := by omega
            have hkb : kk < 1000000 := by omega
            clear hC htk hnm1 hkj
            go_wp2_with fail
            have hk0 : wr.drew.cell? ⟨g, k * 3 + i * 3, none⟩ = some (.int .u32 pa) ∧ wr.drew.cell? ⟨g, k * 3 + i * 3 + 1, none⟩ = some (.int .i64 pb) ∧ wr.drew.cell? ⟨g, k * 3 + i * 3 + 2, none⟩ = some (.int .i64 pc) ∧ wr.drew.cell? ⟨g, k * 3 + ip * 3, none⟩ = some (.int .u32 qa) ∧ wr.drew.cell? ⟨g, k * 3 + ip * 3 + 1, none⟩ = some (.int .i64 qb) ∧ wr.drew.cell? ⟨g, k * 3 + ip * 3 + 2, none⟩ = some (.int .i64 qc) := ⟨c0, c1, c2, d0, d1, d2⟩
            go_region_held3 (fun W => W.cell? ⟨g, k * 3 + i * 3, none⟩ = some (.int .u32 pa) ∧ W.cell? ⟨g, k * 3 + i * 3 + 1, none⟩ = some (.int .i64 pb) ∧ W.cell? ⟨g, k * 3 + i * 3 + 2, none⟩ = some (.int .i64 pc) ∧ W.cell? ⟨g, k * 3 + ip * 3, none⟩ = some (.int .u32 qa) ∧ W.cell? ⟨g, k * 3 + ip * 3 + 1, none⟩ = some (.int .i64 qb) ∧ W.cell? ⟨g, k * 3 + ip * 3 + 2, none⟩ = some (.int .i64 qc)) ((first | with_reducible exact hk1 | with_reducible exact hk0 | go_keep)) ((first
              | (go_at_call 69; with_reducible refine (hcq _).mono ?_; rintro z w3 ⟨rfl, hg3⟩; (have hk1 := And.intro (gb_cellN hg3 hk0.1) (And.intro (gb_cellN hg3 hk0.2.1) (And.intro (gb_cellN hg3 hk0.2.2.1) (And.intro (gb_cellN hg3 hk0.2.2.2.1) (And.intro (gb_cellN hg3 hk0.2.2.2.2.1) (gb_cellN hg3 hk0.2.2.2.2.2)))))))))
            have hC3 : Hid (Cp w w3 g n ps (k + i) kk) := hC2.out.grown (gb_trans (gb_drew (gb_refl _ _)) hg3)
            have hk2 := And.intro hk1.1 (And.intro hk1.2.1 hk1.2.2.1)
            clear hC2 hk0 hk1 c0 c1 c2 d0 d1 d2 hg3 hcq
            by_cases hpq : pa = qa
            · have hpd : decide (pa = qa) = true := by simp [hpq]
              have HE : Hid _ := HO.out hpq w3 hC3.out
              clear hC3 HO HN
              simp only [hpd]
              clear hpd
              go_wp2_with fail
              go_roundw
              case rel => exact ⟨i + 1, kk, by omega, by omega, rfl, by go_num, HE.out⟩
              case measure => simp [intOf]; omega
            · have hpd : decide (pa = qa) = false := by simp [hpq]
              have HE : Hid _ := HN.out hpq w3 hC3.out
              obtain ⟨c0, c1, c2⟩ := hk2
              have f0 := hC3.out.fz (kk * 3) (by omega)
              have f1 := hC3.out.fz (kk * 3 + 1) (by omega)
              have f2 := hC3.out.fz (kk * 3 + 2) (by omega)
              obtain ⟨v0, g0⟩ := Option.isSome_iff_exists.1 (hC3.out.th (kk * 3) (by omega))
              obtain ⟨v1, g1⟩ := Option.isSome_iff_exists.1 (hC3.out.th (kk * 3 + 1) (by omega))
              obtain ⟨v2, g2⟩ := Option.isSome_iff_exists.1 (hC3.out.th (kk * 3 + 2) (by omega))
              clear hC3 HO HN
              simp only [hpd]
              clear hpd
              go_wp2_with fail
              go_roundw
              case rel => exact ⟨i + 1, kk + 1, by omega, by omega, by go_num, by go_num, HE.out⟩
              case measure => simp [intOf]; omega
          · obtain rfl : i = m := by omega
            have hlen := hC.len
            have hkn3 : kk < n := by omega
            obtain ⟨vs, hclr, hvs⟩ := run_clear_pts wr 0 g (kk * 3) (n - kk) (c - kk) (by omega) (fun j hj => hC.th _ (by omega)) (fun j hj => hC.fz _ (by omega))
            have hkkn : (kk : Int) < (n : Int) := by omega
            have hkkc : (kk : Int) ≤ (c : Int) := by omega
            have hkk0 : (0 : Int) ≤ (kk : Int) := by omega
            have hck : ¬ (c : Int) = (kk : Int) := by omega
            have hck2 : ¬ c = kk := by omega
            have hnn : cpt ps (k + i) = cpt ps n := by rw [hnm1]
            have hF : Hid (PtAt (wr.setCells g (kk * 3) vs) g (cpt ps n) ∧ w.grownBy (wr.setCells g (kk * 3) vs) (some g) ∧ (cpt ps n).length = kk) := by
              rw [← hnn]
              refine ⟨fun x hx => ?_, gb_setCells _ _ hC.gr, hlen⟩
              rw [hlen] at hx
              obtain ⟨a0, a1, a2⟩ := hC.lo x (by rw [hlen]; exact hx)
              refine ⟨?_, ?_, ?_⟩ <;> rw [World.cell?_setCells_out _ _ _ _ _ (fun _ _ => .inl (by simp only; omega))] <;> assumption
            clear hC hnn hlen hvs htk hnm1
            go_wp2_with fail
            go_ret
            exact ⟨by rw [hF.out.2.2]; rfl, hF.out.1, hF.out.2.1⟩
      · have hpd : decide (pa = qa) = false := by simp [hpq]
        have HT : Hid (cpt ps (k + 1) = ps.take (k + 1)) := hpq3.out hpq
        clear HC
        go_wp2_with fail
        go_roundw
        case rel => exact ⟨k + 1, by omega, by omega, by go_num, HT.out, hg3.out⟩
        case measure => simp [intOf]; omega
    · obtain rfl : k = n := by omega
      have hr : Hid _ := hfull.out HCT.out
      have hlen : (cpt ps k).length = k := by rw [hr.out, hn]
      have hE : Hid _ := hend.out wr HG.out hr.out
      go_wp2_with fail
      go_ret
      exact ⟨by rw [hlen]; rfl, hE.out.1, hE.out.2⟩
end Go.Proofs.Ytphhofbdekbggaa

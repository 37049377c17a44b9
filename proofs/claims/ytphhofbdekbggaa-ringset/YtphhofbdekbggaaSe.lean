/-
  fit.
-/
import Derived.Test.YtphhofbdekbggaaSd
import Derived.Deep.CutRange
namespace Go.Proofs.Ytphhofbdekbggaa
open Go.RowKit
set_option linter.unusedVariables false
set_option linter.unusedSimpArgs false

/-- May a server be laid behind others? -/
def noneB (K : List Sv) (p : Sv) : Bool := K.all fun q => !(q.1.toList == p.1.toList)
def fitB (K : List Sv) (p : Sv) : Bool := svOk p && noneB K p
def fitS (K : List Sv) (p : Sv) : List Sv := if fitB K p then K ++ [p] else K
/-- Those of a list that may be, each name once, at most so many. -/
def fitL (most : Nat) : List Sv → List Sv → List Sv
  | K, [] => K
  | K, p :: l => if K.length < most then fitL most (fitS K p) l else K
structure FitOk (K : List Sv) (most : Nat) : Prop where
  ok : ∀ p ∈ K, svOk p = true
  dst : Dst K
  len : K.length ≤ most
theorem fitS_ok {K : List Sv} {most : Nat} (h : FitOk K most) (p : Sv) (hl : K.length < most) : FitOk (fitS K p) most := by
  unfold fitS
  split
  · next hb =>
    unfold fitB noneB at hb
    rw [Bool.and_eq_true, List.all_eq_true] at hb
    refine ⟨fun q hq => ?_, ?_, by simp; omega⟩
    · rcases List.mem_append.1 hq with hq | hq
      · exact h.ok q hq
      · simp at hq; subst hq; exact hb.1
    · unfold Dst
      rw [List.map_append, List.nodup_append]
      refine ⟨h.dst, by simp, fun a ha b hb' => ?_⟩
      obtain ⟨q, hq, rfl⟩ := List.mem_map.1 ha
      simp only [List.map_cons, List.map_nil, List.mem_singleton] at hb'
      subst hb'
      have := hb.2 q hq
      simpa using this
  · exact h
theorem fitL_ok {most : Nat} : ∀ (l : List Sv) {K : List Sv}, FitOk K most → FitOk (fitL most K l) most
  | [], _, h => h
  | p :: l, K, h => by
    unfold fitL
    split
    · next hl => exact fitL_ok l (fitS_ok h p hl)
    · exact h
theorem fit_nil (most : Nat) : FitOk [] most := ⟨fun p hp => by simp at hp, List.nodup_nil, Nat.zero_le _⟩
/-- Servers that came in. -/
def InS (w : World) (a : Option Addr) (n : Nat) (l : List Sv) : Prop := l.length = n ∧ (0 < n → ∃ b o, a = some ⟨b, o, none⟩ ∧ ∀ i, i < n → w.cell? ⟨b, o + i * 2, none⟩ = some (.string (sat l i).1) ∧ w.cell? ⟨b, o + i * 2 + 1, none⟩ = some (.int .i64 (sat l i).2))
theorem InS.grown {w w' : World} {a : Option Addr} {n : Nat} {l : List Sv} (h : InS w a n l) (hf : w.grownBy w' none) : InS w' a n l :=
  ⟨h.1, fun h0 => by
    obtain ⟨b, o, e, hc⟩ := h.2 h0
    exact ⟨b, o, e, fun i hi => ⟨gb_cellN hf (hc i hi).1, gb_cellN hf (hc i hi).2⟩⟩⟩
theorem drop_cons_sat (l : List Sv) (k : Nat) (h : k < l.length) : l.drop k = sat l k :: l.drop (k + 1) := by
  rw [sat_eq l k h, List.drop_eq_getElem_cons h]
theorem noneB_take {K : List Sv} {p : Sv} {j : Nat} (hj : j < K.length) : noneB (K.take (j + 1)) p = (noneB (K.take j) p && !((sat K j).1.toList == p.1.toList)) := by
  unfold noneB
  rw [List.take_succ_eq_append_getElem hj, List.all_append, sat_eq K j hj]
  simp
set_option maxRecDepth 100000 in
set_option maxHeartbeats 8000000 in
theorem fit_6 {w : World} {a : Option Addr} {n c : Nat} {l : List Sv} (h : InS w a n l) (hn2 : n ≤ 4611686018427387904) (hsz : ∀ i, i < n → (sat l i).1.size ≤ maxLen) (most : Nat) (hm : most ≤ 256) :
    Calls Try.prog 6 #[.slice a n c, .int .i64 most] w fun e w' => (∃ v, e = .returned v ∧ w'.ownsRow w.heap.size 26 2 v (fitL most [] l).length (flatS (fitL most [] l))) ∧ w.grownBy w' none := by
  have hn : l.length = n := h.1
  go_enter Try.func6, Try.ntmps6
  go_wp2_with fail
  generalize hB : w.heap.size = B at *
  go_loopw [5, 6] (fun v x wr => ∃ (k : Nat) (K : List Sv), k ≤ n ∧ x = .int .i64 k ∧ wr.ownsRow B 26 2 v K.length (flatS K) ∧ K.length ≤ most ∧ fitL most K (l.drop k) = fitL most [] l ∧ w.grownBy wr none) (fun _ x _ => n - (intOf x).toNat)
  case atStart => exact ⟨0, [], by omega, rfl, World.ownsRow_nil _ _ _ _, by simp, rfl, gb_refl _ _⟩
  case round =>
    obtain ⟨k, K, hk, rfl, hrow, hKm, hF, hg⟩ := hrel
    obtain ⟨la, lc, rfl, hl1, hl2, hl3, hl4⟩ := row_shape hrow
    have hend : Hid (k = n ∨ ¬ K.length < most → fitL most [] l = K) := fun hx => by
      rw [← hF]
      by_cases hkn : k = n
      · rw [List.drop_eq_nil_of_le (by omega)]; rfl
      · rcases hx with hx | hx
        · exact absurd hx hkn
        · rw [drop_cons_sat l k (by omega)]
          unfold fitL
          rw [if_neg hx]
    by_cases hlt : k < n
    · by_cases hlm : K.length < most
      · obtain ⟨b, o, rfl, hc⟩ := (h.grown hg).2 (by omega)
        obtain ⟨c0, c1⟩ := hc k hlt
        have hz := hsz k hlt
        have hFN : Hid (fitL most (fitS K (sat l k)) (l.drop (k + 1)) = fitL most [] l) := by
          show _ = _
          rw [← hF, drop_cons_sat l k (by omega), fitL, if_pos hlm]
        have hrc : ∀ j, j < K.length → ∃ g, la = some ⟨g, 0, none⟩ ∧ ∀ W, wr.grownBy W none → W.cell? ⟨g, j * 2, none⟩ = some (.string (sat K j).1) := fun j hj => by
          obtain ⟨g, rfl⟩ := hl4 (by omega)
          exact ⟨g, rfl, fun W hW => gb_cellN hW (serv_cell hrow rfl j hj).1⟩
        have hRC : Hid _ := hrc
        have HG : Hid (w.grownBy wr none) := hg
        have HROW : Hid (wr.ownsRow B 26 2 (.slice la K.length lc) K.length (flatS K)) := hrow
        have hBs : B ≤ wr.heap.size := by have := hg.size; omega
        generalize hp : sat l k = p at *
        obtain ⟨s, wt⟩ := p
        simp only at c0 c1 hz
        clear hF hc hsz hrow hg hend hrc h hp hl4 hl1
        have hz2 : s.size ≤ 9223372036854775807 := hz
        generalize hKl : K.length = kl at *
        clear hz
        go_upto_region 5 with fail
        have hd : svOk (s, wt) = (decide (1 ≤ s.size) && decide (s.size ≤ 64) && decide (1 ≤ wt) && decide (wt ≤ 8)) := rfl
        have hfs : Hid (fitS K (s, wt) = if (svOk (s, wt) && noneB K (s, wt)) = true then K ++ [(s, wt)] else K) := rfl
        generalize svOk (s, wt) = okb at *
        go_cut [7] from 21 to 52 (fun x wd => x = .bool okb ∧ wd = wr)
        case first =>
          generalize hmm : s.size = m at *
          clear hfs hRC HROW HG hFN
          by_cases h1 : m < 1
          · have ho : okb = false := by rw [hd]; simp; omega
            clear hd
            go_wp2_with fail
            go_meet
            exact ⟨by rw [ho]; try (simp only [Value.bool.injEq, decide_eq_false_iff_not, decide_eq_true_eq]; omega), rfl⟩
          by_cases h2 : 64 < m
          · have ho : okb = false := by rw [hd]; simp; omega
            clear hd
            go_wp2_with fail
            go_meet
            exact ⟨by rw [ho]; try (simp only [Value.bool.injEq, decide_eq_false_iff_not, decide_eq_true_eq]; omega), rfl⟩
          by_cases h3 : wt < 1
          · have ho : okb = false := by rw [hd]; simp; omega
            clear hd
            go_wp2_with fail
            go_meet
            exact ⟨by rw [ho]; try (simp only [Value.bool.injEq, decide_eq_false_iff_not, decide_eq_true_eq]; omega), rfl⟩
          by_cases h4 : 8 < wt
          · have ho : okb = false := by rw [hd]; simp; omega
            clear hd
            go_wp2_with fail
            go_meet
            exact ⟨by rw [ho]; try (simp only [Value.bool.injEq, decide_eq_false_iff_not, decide_eq_true_eq]; omega), rfl⟩
          have ho : okb = true := by rw [hd]; simp; omega
          clear hd
          go_wp2_with fail
          go_meet
          exact ⟨by rw [ho]; try (simp only [Value.bool.injEq, decide_eq_false_iff_not, decide_eq_true_eq]; omega), rfl⟩
        case rest =>
          obtain ⟨rfl, hwc⟩ := hcut
          have hwc' := hwc.symm
          subst hwc'
          clear hd hwc
          obtain ⟨wo, rfl⟩ : ∃ wo, wo = wr := ⟨wr, rfl⟩
          go_wp2_with fail
          go_loopw [7, 8] (fun x y wr' => ∃ (j : Nat), j ≤ kl ∧ x = .bool (okb && noneB (K.take j) (s, wt)) ∧ y = .int .i64 j ∧ wo.grownBy wr' none) (fun _ y _ => kl - (intOf y).toNat)
          case atStart => exact ⟨0, by omega, by simp [noneB], rfl, gb_refl _ _⟩
          case round =>
            obtain ⟨j, hj, rfl, rfl, hgj⟩ := hrel
            by_cases hjl : j < kl
            · obtain ⟨g, rfl, hcg⟩ := hRC.out j hjl
              have d0 := hcg wr hgj
              have e0 := gb_cellN hgj c0
              have hnt : noneB (K.take (j + 1)) (s, wt) = (noneB (K.take j) (s, wt) && !((sat K j).1.toList == s.toList)) := noneB_take (by omega)
              have HNT : Hid _ := hnt
              clear hnt hfs hFN
              generalize (sat K j).1 = s2 at *
              have HGJ : Hid (wo.grownBy wr.drew none) := gb_drew hgj
              have HGJ0 : Hid (wo.grownBy wr none) := hgj
              generalize hnb : (okb && noneB (K.take j) (s, wt)) = nb at *
              have HNB : Hid ((nb && !(s2.toList == s.toList)) = (okb && noneB (K.take (j + 1)) (s, wt))) := by
                show _ = _
                rw [HNT.out, ← hnb, Bool.and_assoc]
              clear HNT hnb hgj c0 c1
              have hjk : (j : Int) < (kl : Int) := by omega
              cases nb with
              | false =>
                go_wp2_with fail
                go_quiet (fail)
                go_wp2_with fail
                go_roundw
                case rel => exact ⟨j + 1, by omega, by rw [← HNB.out]; rfl, by go_num, gb_drewN HGJ0.out _⟩
                case measure => simp [intOf]; omega
              | true =>
                go_wp2_with fail
                have hk0 : wr.drew.cell? ⟨g, j * 2, none⟩ = some (.string s2) ∧ wr.drew.cell? ⟨b, o + k * 2, none⟩ = some (.string s) := ⟨d0, e0⟩
                go_region_held3 (fun W => W.cell? ⟨g, j * 2, none⟩ = some (.string s2) ∧ W.cell? ⟨b, o + k * 2, none⟩ = some (.string s)) ((first | with_reducible exact hk0 | go_keep)) (fail)
                go_wp2_with fail
                go_roundw
                case rel => exact ⟨j + 1, by omega, by rw [← HNB.out]; rfl, by go_num, HGJ.out⟩
                case measure => simp [intOf]; omega
            · obtain rfl : j = kl := by omega
              have htk : K.take j = K := List.take_of_length_le (by omega)
              rw [htk]
              have hFN2 := hFN.out
              have hfs2 := hfs.out
              have hwg := gb_trans HG.out hgj
              have e0 := gb_cellN hgj c0
              have e1 := gb_cellN hgj c1
              have hrw : wr.ownsRow B 26 2 (.slice la j lc) j (flatS K) := row_kept HROW.out hgj (by simp)
              have hBw : B ≤ wr.heap.size := by have := hgj.size; omega
              by_cases hb : (okb && noneB K (s, wt)) = true
              · rw [if_pos hb] at hfs2
                rw [hfs2] at hFN2
                have HFN : Hid (fitL most (K ++ [(s, wt)]) (l.drop (k + 1)) = fitL most [] l) := hFN2
                have hlen : (K ++ [(s, wt)]).length = j + 1 := by simp; omega
                have HLN : Hid ((K ++ [(s, wt)]).length = j + 1) := hlen
                have HX : Hid (∀ (g1 cap1 : Nat) (w4 : World), w4.ownsRow B 26 2 (.slice (some ⟨g1, 0, none⟩) (j + 1) cap1) (j + 1) (flatS K ++ encSv (s, wt)) → wr.grownBy w4 (Value.slice la j lc).ownBlock → w4.ownsRow B 26 2 (.slice (some ⟨g1, 0, none⟩) (j + 1) cap1) (K ++ [(s, wt)]).length (flatS (K ++ [(s, wt)])) ∧ w.grownBy w4 none) := fun g1 cap1 w4 h1 h2 => by
                  rw [hlen]
                  refine ⟨?_, gb_far hwg h2 (B := B) (fun q hq => (World.ownsRow.lt hrw q hq).1) (by omega)⟩
                  have : flatS (K ++ [(s, wt)]) = flatS K ++ encSv (s, wt) := by unfold flatS; rw [List.flatMap_append]; simp
                  rw [this]
                  exact h1
                have hj9 : j ≤ 100000000000 := by omega
                clear hFN hfs hFN2 hfs2 hRC HROW HG hgj c0 c1 hwg hlen hKl htk
                generalize (okb && noneB K (s, wt)) = nb at *
                subst hb
                go_wp2_with (at_builtin; go_must (refine pushS rfl _ _ rfl B _ j _ (by rfl) hrw (s, wt) (by rfl) hj9 hBw ?_); intro g1 cap1 w4 ho4 hg4 hat4; (have HA4 : Hid _ := HX.out g1 cap1 w4 ho4 hg4); clear ho4 hg4 hat4)
                go_roundw
                case rel => exact ⟨k + 1, K ++ [(s, wt)], by omega, by go_num, by rw [HLN.out]; have := HA4.out.1; rw [HLN.out] at this; exact this, by have := HLN.out; omega, HFN.out, HA4.out.2⟩
                case measure => simp [intOf]; omega
              · rw [if_neg hb] at hfs2
                rw [hfs2] at hFN2
                have HFN : Hid (fitL most K (l.drop (k + 1)) = fitL most [] l) := hFN2
                have hb2 : (okb && noneB K (s, wt)) = false := by simpa using hb
                have HKL : Hid (K.length = j) := hKl
                have HRW : Hid (wr.ownsRow B 26 2 (.slice la j lc) j (flatS K)) := hrw
                have HWG : Hid (w.grownBy wr none) := hwg
                clear hFN hfs hFN2 hfs2 hRC HROW HG hgj c0 c1 hwg hKl htk hb hrw
                generalize (okb && noneB K (s, wt)) = nb at *
                subst hb2
                go_wp2_with fail
                go_roundw
                case rel => exact ⟨k + 1, K, by omega, by go_num, by rw [HKL.out]; exact HRW.out, by have := HKL.out; omega, HFN.out, HWG.out⟩
                case measure => simp [intOf]; omega
      · have hr := hend.out (.inr hlm)
        have HR : Hid (wr.ownsRow B 26 2 (.slice la K.length lc) (fitL most [] l).length (flatS (fitL most [] l))) := by rw [hr]; exact hrow
        clear hend hF h hsz hrow hr
        go_wp2_with fail
        go_ret
        exact ⟨⟨_, rfl, by rw [hB]; exact HR.out⟩, hg⟩
    · obtain rfl : k = n := by omega
      have hr := hend.out (.inl rfl)
      have HR : Hid (wr.ownsRow B 26 2 (.slice la K.length lc) (fitL most [] l).length (flatS (fitL most [] l))) := by rw [hr]; exact hrow
      clear hend hF h hsz hrow hr
      go_wp2_with fail
      go_ret
      exact ⟨⟨_, rfl, by rw [hB]; exact HR.out⟩, hg⟩
end Go.Proofs.Ytphhofbdekbggaa

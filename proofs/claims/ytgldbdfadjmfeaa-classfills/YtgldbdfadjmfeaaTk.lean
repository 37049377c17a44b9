/-
  ClassFills' walk.
-/
import Derived.Test.YtgldbdfadjmfeaaTj
import Derived.Test.YtgldbdfadjmfeaaO
namespace Go.Proofs.Ytgldbdfadjmfeaa
open Go.RowKit
set_option linter.unusedVariables false

set_option maxRecDepth 100000 in
set_option maxHeartbeats 2000000 in
theorem fills_none {x0 x1 x2 x3 x4 x5 x6 r : Int} (wh bk : Int) (w : World) (hr : Refd x0 x1 x2 x3 x4 r) (h0 : r ≠ 0 ∨ 2097152 / x0 < x1) : Calls Try.prog 8 #[cfgV x0 x1 x2 x3 x4 x5 x6, .int .i64 wh, .int .i64 bk] w fun e w' => e = .returned (.bool true) ∧ w.grownBy w' none := by
  have hg := fun W => good_none x5 x6 hr h0 W
  have hwk := fun W => wakes_10 W
  have hF0 : w.grownBy (w.alloc (.cells #[.int .i64 x0, .int .i64 x1, .int .i64 x2, .int .i64 x3, .int .i64 x4, .int .i64 x5, .int .i64 x6] 23)) none := World.grownBy_alloc _ _ _
  unfold cfgV at hg ⊢
  clear hr h0
  go_enter Try.func8, Try.ntmps8
  go_wp2_with (first | (go_at_call 29; go_must (refine (hg _).mono ?_); rintro y w1 ⟨rfl, hf1⟩) | (go_at_call 14; go_must (refine (hwk _).mono ?_); rintro y w2 ⟨rfl, hf2⟩) | fail)
  go_ret
  exact ⟨rfl, gb_trans (gb_trans hF0 hf1) hf2⟩

set_option maxRecDepth 100000 in
set_option maxHeartbeats 8000000 in
theorem fills_some {ps m F s0 il nc : Nat} (hC : Cfg ps m F s0 il) (x5 x6 : Int) (hn : nc ≤ 62) (hc : Cls F (limOf il) s0 nc) (hmn : nc ≤ m) (hR : Refd ps m F s0 il 0) (hh0 : ¬ 2097152 / (ps : Int) < m) (wh bk : Int) (w : World) :
    Calls Try.prog 8 #[cfgV ps m F s0 il x5 x6, .int .i64 wh, .int .i64 bk] w fun e w' => e = .returned (.bool true) ∧ w.grownBy w' none := by
  have hg := fun W => good_some hC x5 x6 hn hc hmn hR hh0 W
  have hwk := fun W => wakes_10 W
  have hF0 : w.grownBy (w.alloc (.cells #[.int .i64 ps, .int .i64 m, .int .i64 F, .int .i64 s0, .int .i64 il, .int .i64 x5, .int .i64 x6] 23)) none := World.grownBy_alloc _ _ _
  have hI := inv_new hC hn hc
  have hSz := hI.toSzs
  have hm1 := hC.m1
  have hm2 := hC.m2
  have hn1 := hc.1
  obtain ⟨k, hkn, hwi⟩ := within_nat wh nc (by omega) (by omega)
  obtain ⟨A0', hA0⟩ : ∃ A, A = A0 ps m nc (chain F (limOf il) s0) := ⟨_, rfl⟩
  rw [← hA0] at hI hSz
  have hAn : A0'.n = nc := by rw [hA0]; rfl
  have hAm : A0'.m = m := by rw [hA0]; rfl
  have hFil0 : Fil A0' A0' k 0 0 := Fil.zero hI (by rw [hA0]; rfl) (by rw [hA0]; intro c; rfl) (by rw [hAn]; exact hkn)
  obtain ⟨N, hN⟩ : ∃ N, N = A0'.m * A0'.each k := ⟨_, rfl⟩
  have hq0 : A0'.quota k = N := by rw [hN, hA0]; simp [Ab.quota, A0, Ab.each]
  have hea := hSz.each (c := k) (by rw [hAn]; exact hkn)
  have hNb : N ≤ 1024 * 16384 := by rw [hN, hAm]; exact Nat.mul_le_mul hm2 hea.2.1
  have hN1 : 1 ≤ N := by rw [hN, hAm]; exact Nat.mul_le_mul hm1 hea.1
  have HN : Hid (N = A0'.m * A0'.each k) := hN
  have HA0 : Hid (A0' = A0 ps m nc (chain F (limOf il) s0)) := hA0
  unfold cfgV at hg ⊢
  rw [← hA0] at hg
  have hplb : ∀ l, l < N → plN A0' k l ≤ 1073741824 := by
    intro l hl
    have hdm := Nat.div_add_mod l (A0'.each k)
    have hmo : l % A0'.each k < A0'.each k := Nat.mod_lt _ (by omega)
    rw [Nat.mul_comm] at hdm
    have h1 : l / A0'.each k < A0'.m := by
      rcases Nat.lt_or_ge (l / A0'.each k) A0'.m with h1 | h1
      · exact h1
      · have := Nat.mul_le_mul_right (A0'.each k) h1
        omega
    have h2 : (l % A0'.each k + 1) * A0'.sz k ≤ A0'.each k * A0'.sz k := Nat.mul_le_mul_right _ hmo
    rw [Nat.add_mul, Nat.one_mul] at h2
    have h3 : (l / A0'.each k + 1) * A0'.ps ≤ 1024 * 1048576 := Nat.mul_le_mul (by omega) hSz.ps0.2.1
    rw [Nat.add_mul, Nat.one_mul] at h3
    unfold plN
    omega
  clear hR hh0 hmn hA0 hC hc hN
  by_cases hN3 : 3000 < N
  · have hd : decide (3000 < (N : Int)) = true := by simp; omega
    have hd' : decide (3000 < N) = true := by simpa using hN3
    go_enter Try.func8, Try.ntmps8
    go_wp2_with (first | (go_at_call 29; go_must (refine (hg _).mono ?_); rintro y w1 ⟨sb, G, B, rfl, hf1, hS1, hG1⟩; (have hgr1 := gb_trans hF0 hf1); (have hs0 := hF0.size); (have hGw : ∀ x, G x → w.heap.size ≤ x := (fun x hx => Nat.le_trans hs0 (hG1 x hx)))) | (go_at_call 24; go_must (refine (classes_20 hS1 hSz).mono ?_); rintro y w' ⟨rfl, rfl⟩; rw [hAn]) | (go_at_call 31; go_must (refine (hwi _).mono ?_); rintro y w' ⟨rfl, rfl⟩) | (go_at_call 28; go_must (refine (quota_yes hS1 hI.fit.toFit k (by rw [hAn]; exact hkn)).mono ?_); rw [hq0]; rintro y w2 ⟨rfl, hf2⟩) | (go_at_call 14; go_must (refine (hwk _).mono ?_); rintro y w9 ⟨rfl, hf9⟩) | fail)
    go_ret
    exact ⟨rfl, gb_trans (gb_trans hgr1 hf2) hf9⟩
  · have hd : decide (3000 < (N : Int)) = false := by simp; omega
    have hd' : decide (3000 < N) = false := by simpa using hN3
    go_enter Try.func8, Try.ntmps8
    go_wp2_with (first | (go_at_call 29; go_must (refine (hg _).mono ?_); rintro y w1 ⟨sb, G, B, rfl, hf1, hS1, hG1⟩; (have hgr1 := gb_trans hF0 hf1); (have hs0 := hF0.size); (have hGw : ∀ x, G x → w.heap.size ≤ x := (fun x hx => Nat.le_trans hs0 (hG1 x hx)))) | (go_at_call 24; go_must (refine (classes_20 hS1 hSz).mono ?_); rintro y w' ⟨rfl, rfl⟩; rw [hAn]) | (go_at_call 31; go_must (refine (hwi _).mono ?_); rintro y w' ⟨rfl, rfl⟩) | (go_at_call 28; go_must (refine (quota_yes hS1 hI.fit.toFit k (by rw [hAn]; exact hkn)).mono ?_); rw [hq0]; rintro y w2 ⟨rfl, hf2⟩) | fail)
    have hFS0 : FilS w w2 sb m F s0 il x5 x6 A0' k 0 (.slice none 0 0) G B A0' (List.replicate (ps * m) 0) 0 := ⟨hS1.kept0 hf2, hFil0, World.ownsRow_nil _ _ _ _, fun x hx => by simp [Value.ownBlock] at hx, hGw, gb_trans hgr1 hf2⟩
    clear hg hwi hF0 hf1 hS1 hG1 hgr1 hs0 hGw hf2 hFil0 hq0
    go_loopw [11, 12, 13] (fun av lv iv wr => ∃ (i : Nat) (lz : Int) (F' : Nat → Prop) (B' : Bl) (A' : Ab) (zs' : List Int) (fr : Nat), i ≤ N ∧ iv = .int .i64 i ∧ lv = .int .i64 lz ∧ -1 ≤ lz ∧ lz ≤ 1073741824 ∧ lz < plN A0' k i ∧ FilS w wr sb m F s0 il x5 x6 A0' k i av F' B' A' zs' fr) (fun _ _ iv _ => N - (intOf iv).toNat)
    case atStart => exact ⟨0, -1, G, B, A0', _, 0, by omega, rfl, rfl, by omega, by omega, by omega, hFS0⟩
    case round =>
      obtain ⟨i, lz, F', B', A', zs', fr, hi, rfl, rfl, hlz1, hlz2, hlz3, hFS⟩ := hrel
      by_cases hlt : i < N
      · have hdi : decide ((i : Int) < N) = true := by simp; omega
        have hdi2 : decide (i < N) = true := by simpa using hlt
        have htk := hFS.take (by rw [hFS.fil.n, hAn]; exact hkn) (by rw [← HN.out]; exact hlt)
        have hpl := hplb i hlt
        have hhb : hN A0' k i < 18446744073709551616 := by unfold hN; omega
        have hpn := plN_lt hSz (k := k) (by rw [hAn]; exact hkn) i
        have hdl : decide ((plN A0' k i : Int) ≤ lz) = false := by simp; omega
        have hnl : ¬ ((plN A0' k i : Int) ≤ lz) := by omega
        go_wp2_with (first | (go_at_call 33; go_must (refine htk.mono ?_); rintro y w3 ⟨rfl, F2, B2, zs2, A2, fr2, hS2, hF2, hR2, hap2, hlo2, hgr2⟩; (have hat := at_yes hS2 hF2.inv.fit (hF2.isH (l := i) (by omega)).1); rw [(hF2.isH (l := i) (by omega)).2.1, (hF2.isH (l := i) (by omega)).2.2] at hat) | (go_at_call 36; go_must (refine hat.mono ?_); rintro y w4 ⟨rfl, hf4⟩; (have hS4 := hS2.kept0 hf4); (have hR4 := row_kept hR2 hf4 (by simp)); (have hgr4 := gb_trans hgr2 hf4)) | (go_at_call 18; go_must (refine (num_any _ _).mono ?_); rintro y w' ⟨rfl, rfl⟩) | (at_builtin; go_must (refine push64 rfl _ _ rfl 0 _ i _ (by rfl) hR4 _ (by rfl) (by omega) (Nat.zero_le _) ?_)) | fail)
        intro g1 cap1 w5 ho5 hg5 hat5
        have hE : Hid (FilS w w5 sb m F s0 il x5 x6 A0' k (i + 1) (.slice (some ⟨g1, 0, none⟩) (i + 1) cap1) F2 B2 A2 zs2 fr2) := FilS.more hS4 hF2 hR4 hap2 hlo2 hgr4 ho5 hg5 hat5
        clear hFS htk hS2 hF2 hR2 hap2 hlo2 hgr2 hat hf4 hS4 hR4 hgr4 ho5 hg5 hat5
        go_wp2
        go_roundw
        case rel => exact ⟨i + 1, (plN A0' k i : Int), F2, B2, A2, zs2, fr2, by omega, by go_num, rfl, by omega, by omega, by omega, hE.out⟩
        case measure => simp [intOf]; omega
      · obtain rfl : i = N := by omega
        have hfr : fr = 0 ∧ A'.np = A'.m := by
          have h1 := hFS.fil.cnt
          have h2 := hFS.fil.inv.nm
          have h3 := HN.out
          rw [← hFS.fil.m, ← hFS.fil.each k] at h3
          have h4 := (hFS.fil.inv.toSzs.each (c := k) (by rw [hFS.fil.n, hAn]; exact hkn)).1
          rcases Nat.lt_or_ge A'.np A'.m with h5 | h5
          · have h6 : (A'.np + 1) * A'.each k ≤ A'.m * A'.each k := Nat.mul_le_mul_right _ h5
            rw [Nat.add_mul, Nat.one_mul] at h6
            omega
          · have h7 : A'.np = A'.m := by omega
            rw [h7, ← h3] at h1
            exact ⟨by omega, h7⟩
        obtain ⟨rfl, hnm⟩ := hfr
        have hnA : A'.n = nc := by rw [hFS.fil.n, hAn]
        have hrow0 : ∀ d, A'.row d = [] := fun d => by
          by_cases e : d = k
          · rw [e, hFS.fil.row]; simp
          · exact hFS.fil.oth d e
        have hqd : ∀ d, d < nc → A'.quota d = if d = k then i else 0 := fun d hd => by
          unfold Ab.quota
          rw [hrow0, hnm]
          by_cases e : d = k
          · subst e; rw [hFS.fil.tkk (by rw [hnA]; exact hd)]; simp
          · rw [hFS.fil.tk0 (by rw [hnA]; exact hd) e]; simp [e]
        have hfit := hFS.fil.inv.fit
        clear hplb hlz1 hlz2 hlz3
        go_wp2
        go_loopw [19] (fun dv wq => ∃ (d : Nat), d ≤ nc ∧ dv = .int .i64 d ∧ FilS w wq sb m F s0 il x5 x6 A0' k i u11 F' B' A' zs' 0) (fun dv _ => nc - (intOf dv).toNat)
        case atStart => exact ⟨0, by omega, rfl, hFS⟩
        case round =>
          obtain ⟨d, hd, rfl, hFd⟩ := hrel
          by_cases hdn : d < nc
          · have hdd : decide ((d : Int) < nc) = true := by simp; omega
            have hdd2 : decide (d < nc) = true := by simpa using hdn
            have h20 := classes_20 hFd.is hfit.toSzs
            rw [hnA] at h20
            have h29 := take_room hFd.is hfit.toFit (i := d) (by rw [hnA]; exact hdn) (hrow0 d) hnm
            have h24 := fun w' (hf : World.grownBy _ w' none) => quota_yes (hFd.is.kept0 hf) hfit.toFit d (by rw [hnA]; exact hdn)
            rw [hqd d hdn] at h24
            have HFd : Hid (∀ w', World.grownBy _ w' none → FilS w w' sb m F s0 il x5 x6 A0' k i u11 F' B' A' zs' 0) := fun w' hf => hFd.step hf
            by_cases hdk : d = k
            · rw [if_pos hdk] at h24
              subst hdk
              have hd9 : decide (0 < (i : Int)) = true := by simp; omega
              go_wp2_with (first | (go_at_call 24; go_must (refine h20.mono ?_); rintro y w' ⟨rfl, rfl⟩) | (go_at_call 33; go_must (refine h29.mono ?_); rintro y w3 ⟨rfl, hf3⟩) | (go_at_call 18; go_must (refine (num_any _ _).mono ?_); rintro y w' ⟨rfl, rfl⟩) | (go_at_call 28; go_must (refine (h24 _ hf3).mono ?_); rintro y w4 ⟨rfl, hf4⟩) | fail)
              have HE : Hid _ := HFd.out _ (gb_trans hf3 hf4)
              exact ⟨⟨d + 1, by omega, by go_num, HE.out⟩, by simp [intOf]; omega⟩
            · rw [if_neg hdk] at h24
              have hd9 : decide ((d : Int) = k) = false := by simp; omega
              go_wp2_with (first | (go_at_call 24; go_must (refine h20.mono ?_); rintro y w' ⟨rfl, rfl⟩) | (go_at_call 33; go_must (refine h29.mono ?_); rintro y w3 ⟨rfl, hf3⟩) | (go_at_call 18; go_must (refine (num_any _ _).mono ?_); rintro y w' ⟨rfl, rfl⟩) | (go_at_call 28; go_must (refine (h24 _ hf3).mono ?_); rintro y w4 ⟨rfl, hf4⟩) | fail)
              have HE : Hid _ := HFd.out _ (gb_trans hf3 hf4)
              exact ⟨⟨d + 1, by omega, by go_num, HE.out⟩, by simp [intOf]; omega⟩
          · obtain rfl : d = nc := by omega
            obtain ⟨l, hl, hwb⟩ := within_nat bk i (by omega) (by omega)
            have hkA : k < A'.n := by rw [hnA]; exact hkn
            have bk' := fil_back hFd.fil hkA hl
            generalize l / A'.each k = p at *
            generalize l % A'.each k = j at *
            obtain ⟨ao, cap, rfl, _, _, _, h4⟩ := row_shape hFd.row
            obtain ⟨ga, rfl⟩ := h4 (by omega)
            have hcl := row_cell hFd.row l _ (hsL_get A0' k i l hl)
            have h20 := classes_20 hFd.is hfit.toSzs
            rw [hnA] at h20
            have hat := at_yes hFd.is hfit bk'.isH
            rw [bk'.place, bk'.own] at hat
            have hgv := fun w' (hf : World.grownBy _ w' none) => (give_yes (hFd.is.kept0 hf) hFd.fil.inv bk'.isH 1 (by show 1 = _; rw [bk'.gen0])).mono (R' := fun y w5 => y = .returned (.int .i64 0) ∧ w.grownBy w5 none ∧ ∃ F5 B5, IsS w5 sb F5 B5 m F s0 il x5 x6 (A'.given p j 1) zs' ∧ ∀ x, F5 x → w.heap.size ≤ x) (by
              rintro y w5 ⟨rfl, hK5, F5, B5, hS5, hsub⟩
              have hs1 := hFd.gr.size
              have hs2 := hf.size
              refine ⟨rfl, ((Kp.of (F := fun _ => False) (gb_trans hFd.gr hf)).trans hK5 (H := fun _ => False) (fun _ h => h) (fun x hx => .inr (hFd.lo x hx))).grown (fun _ h => h.elim), F5, B5, hS5, fun x hx => ?_⟩
              rcases hsub x hx with h1 | h1
              · exact hFd.lo x h1
              · omega)
            have htk2 := fun w5 F5 B5 (hS5 : IsS w5 sb F5 B5 m F s0 il x5 x6 (A'.given p j 1) zs') (hg5 : w.grownBy w5 none) (hlo5 : ∀ x, F5 x → w.heap.size ≤ x) => (take_row hS5 bk'.invG.fit (i := k) (by rw [bk'.nG]; exact hkA) bk'.npG bk'.ownG bk'.eachG bk'.tknG bk'.rowG).mono (R' := fun y w6 => y = .returned (.tuple #[.int .u64 ((hN A0' k l : Int) + 4294967296), .int .i64 0]) ∧ w.grownBy w6 none ∧ ∃ B6 zs6, IsS w6 sb F5 B6 m F s0 il x5 x6 ((A'.given p j 1).taken k p j) zs6) (by
              rw [bk'.hdlG]
              rintro y w6 ⟨rfl, ⟨B6, _, hS6⟩, hK6⟩
              exact ⟨by simp, ((Kp.of (F := fun _ => False) hg5).trans hK6 (H := fun _ => False) (fun _ h => h) (fun x hx => .inr (hlo5 x hx))).grown (fun _ h => h.elim), B6, _, hS6⟩)
            have hat2 := fun w6 F6 B6 zs6 (hS6 : IsS w6 sb F6 B6 m F s0 il x5 x6 ((A'.given p j 1).taken k p j) zs6) => at_yes hS6 bk'.invT.fit bk'.isT
            have e9 : ((hN A0' k l + 4294967296 : Nat) : Int) = (hN A0' k l : Int) + 4294967296 := by omega
            rw [bk'.plT, bk'.ownT, e9] at hat2
            have htn := fun w6 F6 B6 zs6 (hS6 : IsS w6 sb F6 B6 m F s0 il x5 x6 ((A'.given p j 1).taken k p j) zs6) => taken_yes hS6 bk'.invT.toSzs k (by rw [bk'.nT]; exact hkA)
            have hfn := fun w6 F6 B6 zs6 (hS6 : IsS w6 sb F6 B6 m F s0 il x5 x6 ((A'.given p j 1).taken k p j) zs6) => free_yes hS6 bk'.invT.fit.toFit k (by rw [bk'.nT]; exact hkA)
            rw [bk'.tkT] at htn
            rw [bk'.rowT] at hfn
            have hhb : hN A0' k l < 4294967296 := by
              have h1 := bk'.isH.hH
              have h2 := (num_lt hfit.toFit1 bk'.isH.hp bk'.isH.hk).1
              unfold Ab.hdl at h1
              rw [bk'.gen0] at h1
              omega
            clear hFS hFd hSz hI bk' hqd hrow0 hfit
            generalize hN A0' k l = H at *
            generalize plN A0' k l = pl at *
            generalize (A'.given p j 1).taken k p j = AT at *
            generalize A'.given p j 1 = AG at *
            go_wp2_with (first | (go_at_call 24; go_must (refine h20.mono ?_); rintro y w' ⟨rfl, rfl⟩) | (go_at_call 31; go_must (refine (hwb _).mono ?_); rintro y w' ⟨rfl, rfl⟩) | (go_at_call 35; go_must (refine (hgv _ hf4).mono ?_); rintro y w5 ⟨rfl, hg5, F5, B5, hS5, hlo5⟩) | (go_at_call 33; go_must (refine (htk2 _ _ _ hS5 hg5 hlo5).mono ?_); rintro y w6 ⟨rfl, hg6, B6, zs6, hS6⟩) | (go_at_call 36; first | (with_reducible refine hat.mono ?_; rintro y w4 ⟨rfl, hf4⟩; clear hat) | (with_reducible refine (hat2 _ _ _ _ hS6).mono ?_; rintro y w7 ⟨rfl, hf7⟩; (have hS7 := hS6.kept0 hf7))) | (go_at_call 38; go_must (refine (htn _ _ _ _ hS7).mono ?_); rintro y w8 ⟨rfl, hf8⟩; (have hS8 := hS7.kept0 hf8)) | (go_at_call 39; go_must (refine (hfn _ _ _ _ hS8).mono ?_); rintro y w9 ⟨rfl, hf9⟩) | (go_at_call 18; go_must (refine (num_any _ _).mono ?_); rintro y w' ⟨rfl, rfl⟩) | (go_at_call 14; go_must (refine (hwk _).mono ?_); rintro y wz ⟨rfl, hfz⟩) | fail)
            go_ret
            exact ⟨rfl, gb_trans (gb_trans (gb_trans (gb_trans hg6 hf7) hf8) hf9) hfz⟩

end Go.Proofs.Ytgldbdfadjmfeaa

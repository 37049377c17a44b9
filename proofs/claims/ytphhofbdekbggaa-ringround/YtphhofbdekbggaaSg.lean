/-
  RingRound: the law's walk.
-/
import Derived.Test.YtphhofbdekbggaaSf
import Derived.Deep.CutBlock
namespace Go.Proofs.Ytphhofbdekbggaa
open Go.RowKit
set_option linter.unusedVariables false
set_option linter.unusedSimpArgs false

set_option maxRecDepth 100000 in
set_option maxHeartbeats 16000000 in
theorem ringRound_any {w : World} {la : Option Addr} {ln lc : Nat} {l : List Sv} (hL : InS w la ln l) (hln : ln ≤ 4611686018427387904) (hsz : ∀ i, i < ln → (sat l i).1.size ≤ maxLen) {ka : Option Addr} {kn kc : Nat} (hK : KeysIn w ka kn) (hkn : kn ≤ 4611686018427387904) (tv sv wv : Value) :
    Calls Try.prog 5 #[.agg #[.slice la ln lc, tv, .slice ka kn kc, sv, wv]] w fun e w' => e = .returned (.bool true) ∧ w.grownBy w' none := by
  have hf1 : w.grownBy (w.alloc (.cells #[.slice la ln lc, tv, .slice ka kn kc, sv, wv] 28)) none := gb_alloc (gb_refl _ _) _
  have hbx : Box (w.alloc (.cells #[.slice la ln lc, tv, .slice ka kn kc, sv, wv] 28)) 28 w.heap.size #[.slice la ln lc, tv, .slice ka kn kc, sv, wv] := Box.new _ _ _
  have h6 := fit_6 (c := lc) (hL.grown hf1) hln hsz 24 (by omega)
  simp only [Int.cast_ofNat_Int] at h6
  have hfo := fitL_ok l (fit_nil 24)
  generalize fitL 24 [] l = K at *
  have a0 := hbx.cell 0
  simp only [List.getElem?_toArray, List.getElem?_cons_zero] at a0
  have h10 := fun (e : Int) W => num_10 e W
  have h9 := fun W => lives_9 W
  have hcv := fun (w : World) (C : Array Value) (n c : Nat) => Lib.run_convert_bytes_const (P := Try.prog) w 45 5 C n c Try.underlying45 Try.underlying5
  have h7c : ∀ (W : World) (C : Nat) (u : Value), W.ownsRow C 26 2 u K.length (flatS K) → Calls Try.prog 7 #[u] W fun e w' => (∃ (a : Option Addr) (n c gp cp : Nat) (L : List Sv) (ps : List Pt), e = .returned (.tuple #[.agg #[.slice a n c, .slice (some ⟨gp, 0, none⟩) ps.length cp], .int .i64 0]) ∧ Rg w' (.agg #[.slice a n c, .slice (some ⟨gp, 0, none⟩) ps.length cp]) L ps ∧ n = L.length ∧ L.length = K.length) ∧ W.grownBy w' none := by
    intro W C u hr
    refine (of_7 hr rfl (by have := hfo.len; omega) hfo.ok hfo.dst).mono ?_
    rintro e w' ⟨⟨rv, L, ps, rfl, hR, hp⟩, hg⟩
    obtain ⟨a, g, c, gp, cp, rfl, _, _, _⟩ := hR.ex
    exact ⟨⟨a, L.length, c, gp, cp, L, ps, rfl, hR, rfl, hp.length_eq⟩, hg⟩
  have hKl := hfo.len
  clear hL hsz hfo
  go_enter Try.func5, Try.ntmps5
  generalize hW : w.alloc (.cells #[.slice la ln lc, tv, .slice ka kn kc, sv, wv] 28) = W at *
  have hWs : W.heap.size = w.heap.size + 1 := by rw [← hW]; simp
  go_wp2_with (first
    | (go_at_call 6; go_must (refine h6.mono ?_); rintro y w1 ⟨⟨v3, rfl, hr1⟩, hg1⟩; (obtain ⟨l3, c3, rfl, _, _, _, _⟩ := row_shape hr1); (have h8 := few_rg hr1 rfl (by omega)))
    | (go_at_call 8; go_must (refine h8.mono ?_); rintro y w2 ⟨⟨u, rfl, hr2⟩, hg2⟩; (have h7 := h7c _ _ _ hr2))
    | (go_at_call 7; go_must (refine h7.mono ?_); rintro y w3 ⟨⟨a, n, c, gp, cp, L, ps, rfl, hR, hnL', hLK'⟩, hg3⟩; (have hnL : Hid (n = L.length ∧ L.length = K.length) := ⟨hnL', hLK'⟩); clear hnL' hLK';
        (have hbr : Box (w3.alloc (.cells #[.slice a n c, .slice (some ⟨gp, 0, none⟩) ps.length cp] 32)) 32 w3.heap.size #[.slice a n c, .slice (some ⟨gp, 0, none⟩) ps.length cp] := Box.new _ _ _);
        (have hR1 := hR.grown (gb_alloc (gb_refl w3 none) (.cells #[.slice a n c, .slice (some ⟨gp, 0, none⟩) ps.length cp] 32)));
        (have hgx : W.grownBy (w3.alloc (.cells #[.slice a n c, .slice (some ⟨gp, 0, none⟩) ps.length cp] 32)) none := gb_alloc (gb_trans (gb_trans hg1 hg2) hg3) _))
    | (go_at_call 9; go_must (refine (h9 _).mono ?_); rintro y w4 ⟨rfl, hg4⟩;
        (have hbr4 := hbr.kept hg4 (by simp)); (have d0 := hbr4.cell 0); (have d1 := hbr4.cell 1); simp only [List.getElem?_toArray, List.getElem?_cons_succ, List.getElem?_cons_zero] at d0 d1;
        (have hR4 := hR1.grown hg4); (have h14 := points_rg hR4))
    | (go_at_call 10; go_must (refine (h10 _ _).mono ?_); rintro y w' ⟨rfl, rfl⟩)
    | (go_at_call 14; go_must (refine h14.mono ?_); rintro y w5 ⟨⟨a6, g6, c6, rfl, ha6, hP6⟩, hg5⟩;
        (have hbr5 := hbr4.kept hg5 (by simp)); (have r0 := hbr5.cell 0); (have r1 := hbr5.cell 1); simp only [List.getElem?_toArray, List.getElem?_cons_succ, List.getElem?_cons_zero] at r0 r1;
        (have hR5 := hR4.grown hg5); (have hgW := gb_trans (gb_trans hgx hg4) hg5); (have hb5 := hbx.kept hgW (by simp)); (have q2 := hb5.cell 2); simp only [List.getElem?_toArray, List.getElem?_cons_succ, List.getElem?_cons_zero] at q2;
        (rcases Nat.eq_zero_or_pos ps.length with hp0 | hp0);
        (have hK0 : K.length = 0 := by
          have h1 := hnL.out.2
          rcases Nat.eq_zero_or_pos L.length with h2 | h2
          · omega
          · have := hR5.some h2
            omega);
        (have h25 := owner_rg_no (hR5.grown (gb_alloc (gb_refl w5 none) (.cells #[.int .u8 107] 5 (1, 2)))) hp0 (some ⟨w5.heap.size, 0, none⟩) 1 1); rw [hp0] at h25 ⊢)
    | (go_at_call 25; go_must (refine h25.mono ?_); rintro y w6 ⟨rfl, hg6⟩) | fail)
  · go_ret
    exact ⟨by simp [hK0], gb_trans hf1 (gb_trans hgW (gb_trans (gb_alloc (gb_refl w5 none) _) hg6))⟩
  obtain rfl := ha6 hp0
  obtain ⟨hn1, hn2⟩ := hnL.out
  have HH : Hid (Rg w5 (.agg #[.slice a n c, .slice (some ⟨gp, 0, none⟩) ps.length cp]) L ps ∧ PtAt w5 g6 ps ∧ Box w5 28 w.heap.size #[.slice la ln lc, tv, .slice ka kn kc, sv, wv] ∧ Box w5 32 w3.heap.size #[.slice a n c, .slice (some ⟨gp, 0, none⟩) ps.length cp] ∧ w.grownBy w5 none ∧ KeysIn w5 ka kn) := ⟨hR5, hP6, hb5, hbr5, gb_trans hf1 hgW, (hK.grown hf1).grown hgW⟩
  have hLK : L.length = K.length := hn2
  have hpl := hR5.pl
  have hmk := run_make_b K.length (by omega)
  generalize hps : ps.length = m at *
  have HPS : Hid (ps.length = m) := hps
  clear hR5 hP6 hb5 hbr5 hf1 hgW hK hbr4 hR4 h14 hbr hR1 hgx h7 h8 h6 hr1 hr2 h7c h9 hcv hbx a0 d0 d1 r0 r1 q2 hW hWs hR hnL hn1 hn2 ha6 hps hg1 hg2 hg3 hg4 hg5
  generalize K.length = S at *
  generalize w3.heap.size = rb at *
  generalize w.heap.size = b1 at *
  have hz0 : ((m : Int) == 0) = false := by simp; omega
  simp only [hz0]
  clear hz0
  go_loopw [9] (fun x wr => ∃ (k : Nat), k ≤ kn ∧ x = .int .i64 k ∧ w5.grownBy wr none) (fun x _ => kn - (intOf x).toNat)
  case atStart => exact ⟨0, by omega, rfl, gb_refl _ _⟩
  case round =>
    obtain ⟨k, hk, rfl, hg⟩ := hrel
    obtain ⟨hR, hP, hb, hbr, hw, hK⟩ := HH.out
    have hbw := hb.kept hg (by simp)
    have q2 := hbw.cell 2
    simp only [List.getElem?_toArray, List.getElem?_cons_succ, List.getElem?_cons_zero] at q2
    have HG : Hid (w5.grownBy wr none) := hg
    have HW : Hid (w.grownBy wr none) := gb_trans hw hg
    clear hb hw hbw
    by_cases hlt : k < kn ∧ k < 60
    · obtain ⟨hlt1, hlt2⟩ := hlt
      obtain ⟨kb, ko, kka, kkn, kkc, xs, rfl, hkc, hHas, hbts, hkkn⟩ := (hK.grown hg) k hlt1
      have h27 := sum_12 hHas hbts kkc hkkn
      have hsb := sumB_lt xs
      have h26 := fun W => point_19 (sumB xs) hsb W
      have HHAS : Hid (Has wr kka kkn xs ∧ isBytes xs) := ⟨hHas, hbts⟩
      have HR : Hid (Rg wr (.agg #[.slice a n c, .slice (some ⟨gp, 0, none⟩) m cp]) L ps) := hR.grown hg
      have HP : Hid (PtAt wr g6 ps) := hP.grown hg
      have HBR : Hid (Box wr 32 rb #[.slice a n c, .slice (some ⟨gp, 0, none⟩) m cp]) := hbr.kept hg (by simp)
      have hptl := point_lt (sumB xs)
      generalize hpt : point (sumB xs) = pt at *
      have HPT : Hid (point (sumB xs) = pt) := hpt
      clear hpt hR hP hbr hK hHas hbts hg
      go_upto_block 2 with (first
        | (go_at_call 27; go_must (refine h27.mono ?_); rintro y w' ⟨rfl, hww⟩; have hww2 := hww.symm; subst hww2)
        | (go_at_call 26; go_must (refine (h26 _).mono ?_); rintro y w' ⟨rfl, hww⟩; have hww2 := hww.symm; subst hww2) | fail)
      obtain ⟨wo, rfl⟩ : ∃ wo, wo = wr := ⟨wr, rfl⟩
      have hRise := HR.out.ci.rise
      have HPS2 := HPS.out
      go_cut [11] from 72 to 86 (fun x wd => ∃ j : Nat, x = .int .i64 j ∧ Lb ps pt j ∧ wd = wo)
      case first =>
        go_wp2_with fail
        go_loopw [11] (fun x wr => ∃ (j : Nat), j ≤ m ∧ x = .int .i64 j ∧ (∀ q, q < j → (pat ps q).1 < pt) ∧ wr = wo) (fun x _ => m - (intOf x).toNat)
        case atStart => exact ⟨0, by omega, rfl, by omega, rfl⟩
        case round =>
          obtain ⟨j, hj, rfl, hlo, rfl⟩ := hrel
          have HLO : Hid _ := hlo
          by_cases hjm : j < m
          · obtain ⟨c0, c1, c2⟩ := HP.out j (by omega)
            by_cases hjl : (pat ps j).1 < (pt : Int)
            · have HN : Hid (∀ q, q < j + 1 → (pat ps q).1 < (pt : Int)) := fun q hq => by
                by_cases e : q = j
                · subst e; exact hjl
                · exact HLO.out q (by omega)
              generalize (pat ps j).1 = pa at *
              clear hlo HLO c1 c2 hRise HPS2 h27 h26 q2 hkc hmk
              go_wp2_with fail
              go_roundw
              case rel => exact ⟨j + 1, by omega, by go_num, HN.out, by first | rfl | trivial⟩
              case measure => simp [intOf]; omega
            · have HN : Hid (Lb ps pt j) := ⟨by omega, HLO.out, fun q h1 h2 => by
                by_cases e : q = j
                · subst e; omega
                · have := hRise j q (by omega) h2
                  omega⟩
              generalize (pat ps j).1 = pa at *
              clear hlo HLO c1 c2 hRise HPS2 h27 h26 q2 hkc hmk
              go_wp2_with fail
              go_meet
              exact ⟨j, rfl, HN.out, rfl⟩
          · obtain rfl : j = m := by omega
            have HN : Hid (Lb ps pt j) := ⟨by omega, HLO.out, fun q h1 h2 => by omega⟩
            clear hlo HLO hRise HPS2 h27 h26 q2 hkc hmk
            go_wp2_with fail
            go_meet
            exact ⟨j, rfl, HN.out, rfl⟩
      case rest =>
        obtain ⟨f, rfl, hlb, hwc⟩ := hcut
        have hwc' := hwc.symm
        subst hwc'
        clear hwc
        have HLB : Hid (Lb ps pt f) := hlb
        have hfm : f ≤ m := by have := hlb.le; omega
        have hmkw := hmk wo
        have HSV : Hid (∀ q, q < m → 0 ≤ srv ps f q ∧ srv ps f q < (S : Int)) := fun q hq => by
          have h0 : 0 < ps.length := by omega
          have := HR.out.ci.sv ((f + q) % ps.length) (Nat.mod_lt _ h0)
          unfold srv
          rw [← hLK]
          exact this
        have hmo : Box (wo.alloc (.cells (bts S []).toArray 4)) 4 wo.heap.size (bts S []).toArray := Box.new _ _ _
        have hgo : wo.grownBy (wo.alloc (.cells (bts S []).toArray 4)) none := gb_alloc (gb_refl _ _) _
        clear hlb hRise hmk h27 h26
        go_upto_block 4 with fail
        generalize hW7 : wo.alloc (.cells (bts S []).toArray 4) = W7 at *
        have hz7 : W7.heap.size = wo.heap.size + 1 := by rw [← hW7]; simp
        clear hW7 hmkw
        generalize hbm : wo.heap.size = bm at *
        have HG7 : Hid (wo.grownBy W7 none) := hgo
        go_cut [2, 12, 14, 15] from 90 to 125 (fun _ x12 _ _ wd => wd.ownsRow bm 3 1 x12 (pre ps f m).length (ivals (pre ps f m)) ∧ wo.grownBy wd none)
        case first =>
          go_wp2_with fail
          go_loopw [12, 14] (fun l z wr => ∃ (q : Nat), q ≤ m ∧ z = .int .i64 q ∧ Box wr 4 bm (bts S (pre ps f q)).toArray ∧ wr.ownsRow (bm + 1) 3 1 l (pre ps f q).length (ivals (pre ps f q)) ∧ wo.grownBy wr none ∧ bm + 1 ≤ wr.heap.size) (fun _ z _ => m - (intOf z).toNat)
          case atStart => exact ⟨0, by omega, rfl, hmo, World.ownsRow_nil _ _ _ _, HG7.out, by omega⟩
          case round =>
            clear hmo hz7 hgo
            obtain ⟨q, hq, rfl, hmet, hrow, hg, hsz3⟩ := hrel
            obtain ⟨va, vc, rfl, hl1, hl2, hl3, hl4⟩ := row_shape hrow
            by_cases hqm : q < m
            · have hixm : (f + q) % m < m := Nat.mod_lt _ (by omega)
              obtain ⟨e0, e1, e2⟩ := (HP.out.grown hg) ((f + q) % m) (by omega)
              obtain ⟨s0, sS⟩ := HSV.out q hqm
              have hs : (pat ps ((f + q) % m)).2.1 = srv ps f q := by unfold srv; rw [HPS2]
              rw [hs] at e1
              have hix : ((f : Int) + (q : Int)) % (m : Int) = (((f + q) % m : Nat) : Int) := by push_cast; rfl
              have hix2 : ((f : Int) + (q : Int)).tmod (m : Int) = (((f + q) % m : Nat) : Int) := by rw [Int.tmod_eq_emod_of_nonneg (by omega)]; exact hix
              generalize (f + q) % m = ix at *
              have hixl : (ix : Int) < (m : Int) := by omega
              have hix0 : (0 : Int) ≤ (ix : Int) := by omega
              obtain ⟨sn, hsn⟩ : ∃ sn : Nat, srv ps f q = (sn : Int) := ⟨(srv ps f q).toNat, by omega⟩
              rw [hsn] at e1 s0 sS
              have hfb : f ≤ 1000000 := by omega
              have hqb : q ≤ 1000000 := by omega
              have hm0 : ¬ (m : Int) = 0 := by omega
              by_cases hin : srv ps f q ∈ pre ps f q
              · have ec := hmet.cell sn
                rw [bts_get S _ sn (by omega)] at ec
                have hin2 := hin
                rw [hsn] at hin2
                simp only [hin2, decide_true] at ec
                have HS : Hid (Box wr 4 bm (bts S (pre ps f (q + 1))).toArray ∧ wr.ownsRow (bm + 1) 3 1 (.slice va (pre ps f q).length vc) (pre ps f (q + 1)).length (ivals (pre ps f (q + 1)))) := by
                  rw [pre_yes hin]
                  exact ⟨hmet, hrow⟩
                have HGG : Hid (wo.grownBy wr none) := hg
                clear hmet hrow hg hs hsn hin hin2 e0 e2 q2 hkc HPS2 hl4 hl1
                generalize (pre ps f q).length = pl at *
                go_wp2_with fail
                exact ⟨⟨q + 1, by omega, by go_num, HS.out.1, HS.out.2, HGG.out, hsz3⟩, by simp [intOf]; omega⟩
              · have ec := hmet.cell sn
                have efz := hmet.fz sn
                rw [bts_get S _ sn (by omega)] at ec
                have hin2 := hin
                rw [hsn] at hin2
                simp only [hin2, decide_false] at ec
                have hkl := pre_len ps f q
                have hrow1 : (wr.setCell ⟨bm, sn, none⟩ (.bool true)).ownsRow (bm + 1) 3 1 (.slice va (pre ps f q).length vc) (pre ps f q).length (ivals (pre ps f q)) :=
                  row_same hrow (fun x hx => heap_setCell_other _ _ _ _ (by have := (World.ownsRow.lt hrow x hx).1; simp; omega))
                have hs1 := hmet.set sn (.bool true)
                rw [bts_set S _ sn (by omega)] at hs1
                have hg1 : wo.grownBy (wr.setCell ⟨bm, sn, none⟩ (.bool true)) none := gb_far hg (gb_setCell (gb_refl wr (some bm)) (i := sn) (.bool true)) (B := bm) (fun i e => by cases e; exact Nat.le_refl _) (by omega)
                have hz1 : bm + 1 ≤ (wr.setCell ⟨bm, sn, none⟩ (.bool true)).heap.size := by simpa using hsz3
                have HA : Hid (Box (wr.setCell ⟨bm, sn, none⟩ (.bool true)) 4 bm (bts S (pre ps f q ++ [(sn : Int)])).toArray) := hs1
                have HG1 : Hid (wo.grownBy (wr.setCell ⟨bm, sn, none⟩ (.bool true)) none) := hg1
                have HZ : Hid (bm + 1 ≤ (wr.setCell ⟨bm, sn, none⟩ (.bool true)).heap.size) := hz1
                have hnb : ∀ x, (Value.slice va (pre ps f q).length vc).ownBlock = some x → bm + 1 ≤ x := fun x hx => (World.ownsRow.lt hrow x hx).1
                have HX : Hid (∀ (g1 cap1 : Nat) (w4 : World), w4.ownsRow (bm + 1) 3 1 (.slice (some ⟨g1, 0, none⟩) ((pre ps f q).length + 1) cap1) ((pre ps f q).length + 1) (ivals (pre ps f q) ++ [.int .i64 (sn : Int)]) → (wr.setCell ⟨bm, sn, none⟩ (.bool true)).grownBy w4 (Value.slice va (pre ps f q).length vc).ownBlock →
                    Box w4 4 bm (bts S (pre ps f (q + 1))).toArray ∧ w4.ownsRow (bm + 1) 3 1 (.slice (some ⟨g1, 0, none⟩) ((pre ps f q).length + 1) cap1) (pre ps f (q + 1)).length (ivals (pre ps f (q + 1))) ∧ wo.grownBy w4 none ∧ bm + 1 ≤ w4.heap.size) := fun g1 cap1 w4 ho4 hg4 => by
                  rw [pre_no hin, hsn]
                  refine ⟨Box.kept HA.out hg4 (fun e => ?_), ?_, gb_far HG1.out hg4 (B := bm) (fun x hx => by have := hnb x hx; omega) (by omega), ?_⟩
                  · have := hnb bm e.symm; omega
                  · simpa [ivals] using ho4
                  · have := hg4.size
                    have := HZ.out
                    omega
                have hpl9 : (pre ps f q).length ≤ 100000000000 := by omega
                clear hs1 hg1 hmet hrow hnb hg hs hsn hin hin2 e0 e2 q2 hkc HPS2 hl4 hl1 hkl
                generalize (pre ps f q).length = pl at *
                go_wp2_with (at_builtin; go_must (refine push3 rfl _ _ rfl (bm + 1) _ pl _ (by rfl) hrow1 sn (by rw [World.size_setCell]; rfl) hpl9 HZ.out ?_); intro g1 cap1 w4 ho4 hg4 hat4; (have HA4 : Hid _ := HX.out g1 cap1 w4 ho4 hg4); clear ho4 hg4 hat4)
                exact ⟨⟨q + 1, by omega, by go_num, HA4.out.1, HA4.out.2.1, HA4.out.2.2.1, HA4.out.2.2.2⟩, by simp [intOf]; omega⟩
            · obtain rfl : q = m := by omega
              have HRW : Hid (wr.ownsRow bm 3 1 (.slice va (pre ps f q).length vc) (pre ps f q).length (ivals (pre ps f q))) := row_base hrow (by omega)
              have HGG : Hid (wo.grownBy wr none) := hg
              clear hmet hrow hg q2 hkc HPS2 hl4 hl1
              go_wp2_with fail
              go_meet
              exact ⟨HRW.out, HGG.out⟩
        case rest =>
          obtain ⟨hrow, hgc⟩ := hcut
          clear hmo hgo HSV
          have hRc := HR.out.grown hgc
          have hbrc := HBR.out.kept hgc (by simp)
          have r0 := hbrc.cell 0
          have r1 := hbrc.cell 1
          simp only [List.getElem?_toArray, List.getElem?_cons_succ, List.getElem?_cons_zero] at r0 r1
          have q2c := gb_cellN hgc q2
          have hkcc := gb_cellN hgc hkc
          have hHc := HHAS.out.1.kept0 hgc
          have hPT := HPT.out
          obtain ⟨t, ht⟩ := pre_first ps f (by omega) (by omega)
          have hfew := pre_few hRc.ci f
          rw [HPS2] at ht hfew
          obtain ⟨nv, hnv⟩ : ∃ nv, (pat ps (firstN m f)).2.1 = nv := ⟨_, rfl⟩
          rw [hnv] at ht
          have h25 : ∀ W, wc.grownBy W none → Calls Try.prog 25 #[.agg #[.slice a n c, .slice (some ⟨gp, 0, none⟩) m cp], .slice kka kkn kkc] W fun e w' => e = .returned (.tuple #[.int .i64 nv, .int .i64 0]) ∧ W.grownBy w' none := fun W hW => by
            refine (owner_rg (hRc.grown hW) (by omega) (hHc.kept0 hW) HHAS.out.2 kkc hkkn).mono ?_
            rintro e w' ⟨⟨i, hi, rfl⟩, hg⟩
            rw [hPT] at hi
            rw [hi.uniq HLB.out, HPS2, hnv]
            exact ⟨rfl, hg⟩
          have h20 : ∀ W, wc.grownBy W none → Calls Try.prog 20 #[.agg #[.slice a n c, .slice (some ⟨gp, 0, none⟩) m cp], .slice kka kkn kkc, .int .i64 256] W fun e w' => (∃ v, e = .returned v ∧ w'.ownsRow W.heap.size 3 1 v (pre ps f m).length (ivals (pre ps f m))) ∧ W.grownBy w' none := fun W hW => by
            refine (prefer_rg (hRc.grown hW) (hHc.kept0 hW) HHAS.out.2 kkc hkkn 256).mono ?_
            rintro e w' ⟨⟨i, v, hi, rfl, ho⟩, hg⟩
            rw [hPT] at hi
            rw [hi.uniq HLB.out, pre_firstN, HPS2, List.take_of_length_le (by omega)] at ho
            exact ⟨⟨v, rfl, ho⟩, hg⟩
          obtain ⟨va, vc, rfl, -, -, -, hva⟩ := row_shape hrow
          have hNpos : 0 < (pre ps f m).length := by rw [ht]; simp
          obtain ⟨gw, rfl⟩ := hva hNpos
          have hw0 := ints_cell hrow 0 hNpos
          rw [show iat (pre ps f m) 0 = nv by rw [ht]; rfl] at hw0
          have h24 : ∀ (W : World) (v : Value) (C : Nat), wc.grownBy W none → W.ownsRow C 3 1 v (pre ps f m).length (ivals (pre ps f m)) → Calls Try.prog 24 #[v, .slice (some ⟨gw, 0, none⟩) (pre ps f m).length vc] W fun y w' => y = .returned (.bool true) ∧ W.grownBy w' none := fun W v C hW hv => ints_24 hv (row_kept hrow hW (by simp)) (by omega)
          have HC : Hid (w.grownBy wc none ∧ w5.grownBy wc none) := ⟨gb_trans HW.out hgc, gb_trans HG.out hgc⟩
          have hNb : (pre ps f m).length ≤ 24 := by omega
          clear hRc hbrc hHc hPT ht hfew hnv hrow hgc q2 hkc HPS2 HHAS HR HP HBR HPT HLB hva
          generalize (pre ps f m).length = N at *
          generalize ivals (pre ps f m) = IV at *
          have hNi : (0 : Int) < (N : Int) := by omega
          go_wp2_with fail
          have hf0 : wc.grownBy wc.drew none := gb_drew (gb_refl _ _)
          have hk0 : wc.drew.cell? ⟨rb, 0, none⟩ = some (.slice a n c) ∧ wc.drew.cell? ⟨rb, 1, none⟩ = some (.slice (some ⟨gp, 0, none⟩) m cp) ∧ wc.drew.cell? ⟨b1, 2, none⟩ = some (.slice (some ⟨kb, ko, none⟩) kn kc) ∧ wc.drew.cell? ⟨kb, ko + k, none⟩ = some (.slice kka kkn kkc) ∧ wc.drew.cell? ⟨gw, 0, none⟩ = some (.int .i64 nv) := ⟨r0, r1, q2c, hkcc, hw0⟩
          go_region_held3 (fun W => W.cell? ⟨rb, 0, none⟩ = some (.slice a n c) ∧ W.cell? ⟨rb, 1, none⟩ = some (.slice (some ⟨gp, 0, none⟩) m cp) ∧ W.cell? ⟨b1, 2, none⟩ = some (.slice (some ⟨kb, ko, none⟩) kn kc) ∧ W.cell? ⟨kb, ko + k, none⟩ = some (.slice kka kkn kkc) ∧ W.cell? ⟨gw, 0, none⟩ = some (.int .i64 nv)) ((first | with_reducible exact hk1 | with_reducible exact hk0 | go_keep)) ((first
            | (go_at_call 25; with_reducible refine (h25 _ hf0).mono ?_; rintro z w6 ⟨rfl, hg6⟩; (have hk1 := And.intro (gb_cellN hg6 hk0.1) (And.intro (gb_cellN hg6 hk0.2.1) (And.intro (gb_cellN hg6 hk0.2.2.1) (And.intro (gb_cellN hg6 hk0.2.2.2.1) (gb_cellN hg6 hk0.2.2.2.2))))))))
          go_wp2_with fail
          have hf6 : wc.grownBy w6 none := gb_trans hf0 hg6
          have hf7 : wc.grownBy w6.drew none := gb_drew hf6
          have hk2 : w6.drew.cell? ⟨rb, 0, none⟩ = some (.slice a n c) ∧ w6.drew.cell? ⟨rb, 1, none⟩ = some (.slice (some ⟨gp, 0, none⟩) m cp) ∧ w6.drew.cell? ⟨b1, 2, none⟩ = some (.slice (some ⟨kb, ko, none⟩) kn kc) ∧ w6.drew.cell? ⟨kb, ko + k, none⟩ = some (.slice kka kkn kkc) ∧ w6.drew.cell? ⟨gw, 0, none⟩ = some (.int .i64 nv) := hk1
          clear hk1 hk0
          go_region_held3 (fun W => W.cell? ⟨rb, 0, none⟩ = some (.slice a n c) ∧ W.cell? ⟨rb, 1, none⟩ = some (.slice (some ⟨gp, 0, none⟩) m cp) ∧ W.cell? ⟨b1, 2, none⟩ = some (.slice (some ⟨kb, ko, none⟩) kn kc) ∧ W.cell? ⟨kb, ko + k, none⟩ = some (.slice kka kkn kkc) ∧ W.cell? ⟨gw, 0, none⟩ = some (.int .i64 nv)) ((first | with_reducible exact hk4 | with_reducible exact hk3 | with_reducible exact hk2 | go_keep)) ((first
            | (go_at_call 10; with_reducible refine (h10 _ _).mono ?_; rintro z w' ⟨rfl, rfl⟩)
            | (go_at_call 20; with_reducible refine (h20 _ hf7).mono ?_; rintro z w8 ⟨⟨v8, rfl, ho8⟩, hg8⟩; (have hf8 := gb_trans hf7 hg8); (have hk3 := And.intro (gb_cellN hg8 hk2.1) (And.intro (gb_cellN hg8 hk2.2.1) (And.intro (gb_cellN hg8 hk2.2.2.1) (And.intro (gb_cellN hg8 hk2.2.2.2.1) (gb_cellN hg8 hk2.2.2.2.2))))))
            | (go_at_call 24; with_reducible refine (h24 _ _ _ hf8 ho8).mono ?_; rintro z w9 ⟨rfl, hg9⟩; (have hf9 := gb_trans hf8 hg9); (have hk4 := And.intro (gb_cellN hg9 hk3.1) (And.intro (gb_cellN hg9 hk3.2.1) (And.intro (gb_cellN hg9 hk3.2.2.1) (And.intro (gb_cellN hg9 hk3.2.2.2.1) (gb_cellN hg9 hk3.2.2.2.2))))))))
          go_wp2_with fail
          go_roundw
          case rel => exact ⟨k + 1, by omega, by go_num, gb_trans HC.out.2 hf9⟩
          case measure => simp [intOf]; omega
    · have hlf : (decide ((k : Int) < (kn : Int)) && decide ((k : Int) < 60)) = false := by simp; omega
      clear hR hP hbr hK hg
      rcases Nat.lt_or_ge k kn with h1 | h1
      · go_wp2_with fail
        go_ret
        exact ⟨rfl, HW.out⟩
      · go_wp2_with fail
        go_ret
        exact ⟨rfl, HW.out⟩
end Go.Proofs.Ytphhofbdekbggaa

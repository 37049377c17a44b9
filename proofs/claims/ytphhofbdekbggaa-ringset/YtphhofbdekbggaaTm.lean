/-
  RingSet: the law's walk.
-/
import Derived.Test.YtphhofbdekbggaaTl
import Derived.Deep.CutBlock
import Derived.Deep.RegionWith
namespace Go.Proofs.Ytphhofbdekbggaa
open Go.RowKit
set_option linter.unusedVariables false
set_option linter.unusedSimpArgs false

/-- What is held may be made stronger under way. -/
theorem wpAnyH_imp {P : Program} {md : Region.Mode} {ops : Array Oper} {Q : Exit → Act → World → Prop} {S S2 : World → Prop} (hS : ∀ w, S2 w → S w) : ∀ (fuel : Nat) (listed : Array Bool) (a : Act) (w : World), wpAnyH P md ops Q S2 fuel listed a w → wpAnyH P md ops Q S fuel listed a w
  | 0, _, _, _, h => h
  | fuel + 1, _, _, _, h => ⟨h.1, fun i hi => wpOp_mono (fun a' w' h' => ⟨hS _ h'.1, wpAnyH_imp hS fuel _ a' w' h'.2⟩) (h.2 i hi)⟩
/-- Ints that came in. -/
def TurnsIn (w : World) (a : Option Addr) (n : Nat) : Prop := ∀ i, i < n → ∃ b o z, a = some ⟨b, o, none⟩ ∧ w.cell? ⟨b, o + i, none⟩ = some (.int .i64 z)
theorem Hid.mk' {p : Prop} (h : p) : Hid p := h
theorem TurnsIn.grown {w w' : World} {a : Option Addr} {n : Nat} (h : TurnsIn w a n) (hf : w.grownBy w' none) : TurnsIn w' a n := fun i hi => by
  obtain ⟨b, o, z, h1, h2⟩ := h i hi
  exact ⟨b, o, z, h1, gb_cellN hf h2⟩
set_option maxRecDepth 100000 in
set_option maxHeartbeats 16000000 in
theorem ringSet_any {w : World} {la : Option Addr} {ln lc : Nat} {l : List Sv} (hL : InS w la ln l) (hln : ln ≤ 4611686018427387904) (hsz : ∀ i, i < ln → (sat l i).1.size ≤ maxLen) {ta : Option Addr} {tn tc : Nat} (hT : TurnsIn w ta tn) (htn : tn ≤ 4611686018427387904) (kv sv wv : Value) :
    Calls Try.prog 3 #[.agg #[.slice la ln lc, .slice ta tn tc, kv, sv, wv]] w fun e w' => e = .returned (.bool true) ∧ w.grownBy w' none := by
  have hf1 : w.grownBy (w.alloc (.cells #[.slice la ln lc, .slice ta tn tc, kv, sv, wv] 28)) none := gb_alloc (gb_refl _ _) _
  have hbx : Box (w.alloc (.cells #[.slice la ln lc, .slice ta tn tc, kv, sv, wv] 28)) 28 w.heap.size #[.slice la ln lc, .slice ta tn tc, kv, sv, wv] := Box.new _ _ _
  have h6 := fit_6 (c := lc) (hL.grown hf1) hln hsz 24 (by omega)
  simp only [Int.cast_ofNat_Int] at h6
  have hfo := fitL_ok l (fit_nil 24)
  generalize fitL 24 [] l = K at *
  have a0 := hbx.cell 0
  simp only [List.getElem?_toArray, List.getElem?_cons_zero] at a0
  have h10 := fun (e : Int) W => num_10 e W
  have h9 := fun W => lives_9 W
  have h7c : ∀ (W : World) (C : Nat) (u : Value), W.ownsRow C 26 2 u K.length (flatS K) → Calls Try.prog 7 #[u] W fun e w' => (∃ (a : Option Addr) (n c gp cp : Nat) (L : List Sv) (ps : List Pt), e = .returned (.tuple #[.agg #[.slice a n c, .slice (some ⟨gp, 0, none⟩) ps.length cp], .int .i64 0]) ∧ Rg w' (.agg #[.slice a n c, .slice (some ⟨gp, 0, none⟩) ps.length cp]) L ps ∧ n = L.length ∧ L.Perm K) ∧ W.grownBy w' none := by
    intro W C u hr
    refine (of_7 hr rfl (by have := hfo.len; omega) hfo.ok hfo.dst).mono ?_
    rintro e w' ⟨⟨rv, L, ps, rfl, hR, hp⟩, hg⟩
    obtain ⟨a, g, c, gp, cp, rfl, _, _, _⟩ := hR.ex
    exact ⟨⟨a, L.length, c, gp, cp, L, ps, rfl, hR, rfl, hp⟩, hg⟩
  have HFO : Hid (FitOk K 24) := hfo
  have hKl := hfo.len
  have HT : Hid (TurnsIn w ta tn) := hT
  clear hL hsz hfo hT
  go_enter Try.func3, Try.ntmps3
  generalize hW : w.alloc (.cells #[.slice la ln lc, .slice ta tn tc, kv, sv, wv] 28) = W at *
  have hWs : W.heap.size = w.heap.size + 1 := by rw [← hW]; simp
  go_wp2_with (first
    | (go_at_call 6; go_must (refine h6.mono ?_); rintro y w1 ⟨⟨v3, rfl, hr1⟩, hg1⟩; (obtain ⟨l3, c3, rfl, _, _, _, hl3⟩ := row_shape hr1); (have h8 := few_rg hr1 rfl (by omega)))
    | (go_at_call 8; go_must (refine h8.mono ?_); rintro y w2 ⟨⟨u, rfl, hr2⟩, hg2⟩; (have h7 := h7c _ _ _ hr2))
    | (go_at_call 7; go_must (refine h7.mono ?_); rintro y w3 ⟨⟨a, n, c, gp, cp, L, ps, rfl, hR, hnL', hLK'⟩, hg3⟩; (have hnL : Hid (n = L.length ∧ L.Perm K) := ⟨hnL', hLK'⟩); clear hnL' hLK';
        (have hbr : Box (w3.alloc (.cells #[.slice a n c, .slice (some ⟨gp, 0, none⟩) ps.length cp] 32)) 32 w3.heap.size #[.slice a n c, .slice (some ⟨gp, 0, none⟩) ps.length cp] := Box.new _ _ _);
        (have hR1 := hR.grown (gb_alloc (gb_refl w3 none) (.cells #[.slice a n c, .slice (some ⟨gp, 0, none⟩) ps.length cp] 32)));
        (have hgx : W.grownBy (w3.alloc (.cells #[.slice a n c, .slice (some ⟨gp, 0, none⟩) ps.length cp] 32)) none := gb_alloc (gb_trans (gb_trans hg1 hg2) hg3) _))
    | (go_at_call 9; go_must (refine (h9 _).mono ?_); rintro y w4 ⟨rfl, hg4⟩)
    | (go_at_call 10; go_must (refine (h10 _ _).mono ?_); rintro y w4 ⟨rfl, rfl⟩) | fail)
  obtain ⟨hn1, hn2⟩ := hnL.out
  have hgW := gb_trans hgx hg4
  have hSKx : ∃ gl, (0 < K.length → l3 = some ⟨gl, 0, none⟩) ∧ SvAt w4 gl K := by
    have hg14 : w1.grownBy w4 none := gb_trans (gb_trans hg2 (gb_trans hg3 (gb_alloc (gb_refl _ _) _))) hg4
    by_cases h0 : 0 < K.length
    · obtain ⟨g, rfl⟩ := hl3 h0
      exact ⟨g, fun _ => rfl, fun i hi => ⟨gb_cellN hg14 (serv_cell hr1 rfl i (by omega)).1, gb_cellN hg14 (serv_cell hr1 rfl i (by omega)).2⟩⟩
    · exact ⟨0, fun h => absurd h h0, fun i hi => by omega⟩
  obtain ⟨gl, hl, hSK⟩ := hSKx
  have HH : Hid (Rg w4 (.agg #[.slice a n c, .slice (some ⟨gp, 0, none⟩) ps.length cp]) L ps ∧ Box w4 28 w.heap.size #[.slice la ln lc, .slice ta tn tc, kv, sv, wv] ∧ Box w4 32 w3.heap.size #[.slice a n c, .slice (some ⟨gp, 0, none⟩) ps.length cp] ∧ w.grownBy w4 none ∧ TurnsIn w4 ta tn ∧ SvAt w4 gl K ∧ n = L.length ∧ L.Perm K ∧ (0 < K.length → l3 = some ⟨gl, 0, none⟩) ∧ FitOk K 24) := ⟨hR1.grown hg4, hbx.kept hgW (by simp), hbr.kept hg4 (by simp), gb_trans hf1 hgW, HT.out.grown (gb_trans hf1 hgW), hSK, hn1, hn2, hl, HFO.out⟩
  have hz0 : Bx (w4.alloc (.cells #[.slice none 0 0, .slice none 0 0] 32)) w4.heap.size [] [] := ⟨⟨none, 0, 0, none, 0, 0, Box.new _ _ _, .inr ⟨rfl, rfl, rfl⟩⟩⟩
  have hgz : w4.grownBy (w4.alloc (.cells #[.slice none 0 0, .slice none 0 0] 32)) none := gb_alloc (gb_refl _ _) _
  have hsz4 : w3.heap.size < w4.heap.size := (hbr.kept hg4 (by simp)).lt
  have hszb : w.heap.size < w3.heap.size := by
    have h1 := hg1.size
    have h2 := hg2.size
    have h3 := hg3.size
    omega
  have hnle : n ≤ 24 := by
    have := hn2.length_eq
    omega
  have hpl := hR.pl
  rw [← hn1] at hpl
  generalize hps : ps.length = m at *
  have HPS : Hid (ps.length = m) := hps
  clear hR1 hbx hbr hgW hgx hf1 hg1 hg2 hg3 hg4 hr1 hr2 h8 h7 h6 h7c h9 a0 hW hWs hR hnL hn1 hn2 HT HFO hl3 hSK hl hps
  generalize hKN : K.length = N at *
  have HKN : Hid (K.length = N) := hKN
  clear hKN
  generalize hbb : w4.heap.size = bb at *
  have HBB : Hid (w4.heap.size = bb) := hbb
  generalize w3.heap.size = rb at *
  generalize hb1 : w.heap.size = b1 at *
  have HB1 : Hid (w.heap.size = b1) := hb1
  clear hbb hb1
  go_loopw [7] (fun x wr => ∃ (i : Nat) (M : List Sv) (qs : List Pt), i ≤ N ∧ x = .int .i64 i ∧ Bx wr bb M qs ∧ M.Perm (K.drop (N - i)) ∧ w4.grownBy wr none) (fun x _ => N - (intOf x).toNat)
  case atStart => exact ⟨0, [], [], by omega, rfl, hz0, by rw [← HKN.out]; simp, hgz⟩
  case round =>
    obtain ⟨i, M, qs, hi, rfl, hB, hMP, hg⟩ := hrel
    by_cases hlt : i < N
    · obtain ⟨hR, hbx, hbr, hw, hT, hSK, hn1, hLK, hl, hfo⟩ := HH.out
      have hKN := HKN.out
      have hki : IntKind.i64.wrap ((N : Int) - 1 - i) = ((N - 1 - i : Nat) : Int) := by rw [IntKind.wrap_i64]; omega
      have HSTEP : Hid (∀ M' : List Sv, M'.Perm (sat K (N - 1 - i) :: M) → M'.Perm (K.drop (N - (i + 1)))) := fun M' h => by
        have := next_perm (N - 1 - i) (by omega) (by rw [show N - 1 - i + 1 = N - i by omega]; exact hMP) h
        rwa [show N - (i + 1) = N - 1 - i by omega]
      have hkok : svOk (sat K (N - 1 - i)) = true := hfo.ok _ (sat_mem K _ (by omega))
      have HNE : Hid (∀ M' : List Sv, M'.Perm M → ∀ q ∈ M', q.1.toList ≠ (sat K (N - 1 - i)).1.toList) := fun M' h => next_ne hfo.dst (N - 1 - i) (by omega) (h.trans (by rw [show N - 1 - i + 1 = N - i by omega]; exact hMP))
      have hMl : M.length = i := by rw [hMP.length_eq, List.length_drop]; omega
      have hkN : N - 1 - i < N := by omega
      have HMP : Hid (M.Perm (K.drop (N - i))) := hMP
      generalize N - 1 - i = k at *
      have hN1 : IntKind.i64.wrap ((N : Int) - 1) = (N : Int) - 1 := by rw [IntKind.wrap_i64]; omega
      have hTr := hT.grown hg
      have hbxr := hbx.kept hg (by simp)
      have a1 := hbxr.cell 1
      simp only [List.getElem?_toArray, List.getElem?_cons_succ, List.getElem?_cons_zero] at a1
      clear hR hbx hbr hw hT hSK hn1 hLK hl hfo hMP hKN
      go_upto_region 10 with fail
      go_cut [67] from 48 to 67 (fun x wd => (∃ t : Bool, x = .bool t ∧ (t = true → 0 < M.length)) ∧ wr.grownBy wd none)
      case first =>
        by_cases hit : i < tn
        · obtain ⟨tb, tq, z, rfl, htz⟩ := hTr i hit
          by_cases hpar : z.tmod 2 = 0
          · have hpb : (z.tmod 2 == 0) = true := by simpa using hpar
            have hdd : decide ((i : Int) < (tn : Int)) = true := by simp; omega
            obtain ⟨s1, s2, s3, t1, t2, t3, hb, hr⟩ := hB.ex
            have h11 := servers_rz hr
            have e0 := hb.cell 0
            have e1 := hb.cell 1
            simp only [List.getElem?_toArray, List.getElem?_cons_succ, List.getElem?_cons_zero] at e0 e1
            rw [hMl] at h11
            have hqd : decide ((0 : Int) < (i : Int)) = decide (0 < i) := by simp
            clear hTr hpar hb hr
            go_wp2_with (first | (go_at_call 11; go_must (refine h11.mono ?_); rintro y w5 ⟨⟨a5, g5, c5, rfl, _, _⟩, hg5⟩) | fail)
            go_meet
            exact ⟨⟨decide (0 < i), by simp, fun h => by rw [hMl]; simpa using h⟩, hg5⟩
          · have hpb : (z.tmod 2 == 0) = false := by simpa using hpar
            have hdd : decide ((i : Int) < (tn : Int)) = true := by simp; omega
            clear hTr hpar
            go_wp2_with fail
            go_meet
            exact ⟨⟨false, rfl, by simp⟩, gb_refl _ _⟩
        · have hdd : decide ((i : Int) < (tn : Int)) = false := by simp; omega
          clear hTr
          go_wp2_with fail
          go_meet
          exact ⟨⟨false, rfl, by simp⟩, gb_refl _ _⟩
      case rest =>
        obtain ⟨⟨t, rfl, ht⟩, hgc⟩ := hcut
        obtain ⟨wk, rfl⟩ : ∃ wk, wk = wc := ⟨wc, rfl⟩
        have hBc := hB.grown hgc
        have hgwc := gb_trans hg hgc
        have hxc := hBc.ex
        have HBc : Hid (Bx wk bb M qs) := hBc
        have HGC : Hid (w4.grownBy wk none) := hgwc
        clear hB hBc hTr a1
        go_upto_if 67 with fail
        go_cut [] from 68 to 93 (fun wd => ∃ (M' : List Sv) (qs' : List Pt), Bx wd bb M' qs' ∧ M'.Perm M ∧ w4.grownBy wd none)
        case first =>
          cases t with
          | false =>
            go_wp2_with fail
            go_meet
            exact ⟨M, qs, HBc.out, List.Perm.refl _, HGC.out⟩
          | true =>
            have hM0 : 0 < M.length := ht rfl
            obtain ⟨s1, s2, s3, t1, t2, t3, hb, hr⟩ := hxc
            have hMA := hr.asc
            have hMO := hr.ok
            have hpm := del_perm M 0 hM0
            have h11 := servers_rz hr
            have h12 : ∀ W, wk.grownBy W none → Calls Try.prog 12 #[.agg #[.slice s1 s2 s3, .slice t1 t2 t3], .string (sat M 0).1] W fun e w' => (∃ (a : Option Addr) (n c gp m cp : Nat) (ps' : List Pt), e = .returned (.tuple #[.agg #[.slice a n c, .slice (some ⟨gp, 0, none⟩) m cp], .int .i64 0]) ∧ Rg w' (.agg #[.slice a n c, .slice (some ⟨gp, 0, none⟩) m cp]) (delL M 0) ps') ∧ W.grownBy w' none := fun W hW => by
              refine (drop_12 (hr.grown hW) 0 hM0).mono ?_
              rintro e w' ⟨⟨rv, ps', rfl, hR⟩, hg⟩
              obtain ⟨a, g, c, gp, cp, rfl, _, _, _⟩ := hR.ex
              exact ⟨⟨a, _, c, gp, _, cp, ps', rfl, hR⟩, hg⟩
            have h13c : ∀ W rv ps', Rg W rv (delL M 0) ps' → Calls Try.prog 13 #[rv, .agg #[.string (sat M 0).1, .int .i64 (sat M 0).2]] W fun e w' => (∃ (a : Option Addr) (n c gp m cp : Nat) (L' : List Sv) (ps' : List Pt), e = .returned (.tuple #[.agg #[.slice a n c, .slice (some ⟨gp, 0, none⟩) m cp], .int .i64 0]) ∧ Rg w' (.agg #[.slice a n c, .slice (some ⟨gp, 0, none⟩) m cp]) L' ps' ∧ L'.Perm M) ∧ W.grownBy w' none := fun W rv ps' hR => by
              refine (add_13 (.inl hR) (sat M 0) (hMO _ (sat_mem M 0 hM0)) (del_ne hMA hM0) (by rw [del_len M 0 hM0]; omega)).mono ?_
              rintro e w' ⟨⟨rv, L', ps', rfl, hR, hP⟩, hg⟩
              obtain ⟨a, g, c, gp, cp, rfl, _, _, _⟩ := hR.ex
              exact ⟨⟨a, _, c, gp, _, cp, L', ps', rfl, hR, hP.trans hpm⟩, hg⟩
            have e0 := hb.cell 0
            have e1 := hb.cell 1
            simp only [List.getElem?_toArray, List.getElem?_cons_succ, List.getElem?_cons_zero] at e0 e1
            rw [hMl] at h11 hM0
            have hi0 : (0 : Int) < (i : Int) := by omega
            have HX : Hid (i = M.length) := hMl.symm
            clear hr hpm hMA hMO ht HSTEP HNE
            obtain ⟨nm, hnm⟩ : ∃ nm, (sat M 0).1 = nm := ⟨_, rfl⟩
            obtain ⟨nz, hnz⟩ : ∃ nz, (sat M 0).2 = nz := ⟨_, rfl⟩
            rw [hnm] at h12 h13c
            rw [hnz] at h13c
            go_wp2_with (first
              | (go_at_call 11; go_must (refine h11.mono ?_); rintro y w5 ⟨⟨a5, g5, c5, rfl, q1, q2⟩, hg5⟩; (obtain rfl := q1 hM0); (have c0 := (q2 0 (by rw [← HX.out]; exact hM0)).1); (have c1 := (q2 0 (by rw [← HX.out]; exact hM0)).2); simp only [Nat.zero_mul, Nat.zero_add] at c0 c1; (have c0 := c0.trans (congrArg (fun z => some (Value.string z)) hnm)); (have c1 := c1.trans (congrArg (fun z => some (Value.int .i64 z)) hnz)); clear q2;
                  (have hg6 : wk.grownBy (w5.alloc (.cells #[.string nm, .int .i64 nz] 26)) none := gb_alloc hg5 _); (have hb9 := Box.new w5 26 #[.string nm, .int .i64 nz]);
                  (have hb6 := hb.kept hg6 (by simp)); (have e0 := hb6.cell 0); (have e1 := hb6.cell 1); (have k0 := hb9.cell 0); (have k1 := hb9.cell 1); simp only [List.getElem?_toArray, List.getElem?_cons_succ, List.getElem?_cons_zero] at e0 e1 k0 k1)
              | (go_at_call 12; go_must (refine (h12 _ hg6).mono ?_); rintro y w7 ⟨⟨a7, n7, c7, gp7, m7, cp7, ps7, rfl, hR7⟩, hg7⟩; (have hg8 := gb_trans hg6 (gb_alloc hg7 (.cells #[.slice a7 n7 c7, .slice (some ⟨gp7, 0, none⟩) m7 cp7] 32))); (have hR8 := hR7.grown (gb_alloc (gb_refl w7 none) (.cells #[.slice a7 n7 c7, .slice (some ⟨gp7, 0, none⟩) m7 cp7] 32))); (have h13 := h13c _ _ _ hR8);
                  (have hb98 := hb9.kept (gb_alloc hg7 (.cells #[.slice a7 n7 c7, .slice (some ⟨gp7, 0, none⟩) m7 cp7] 32)) (by simp)); (have k0 := hb98.cell 0); (have k1 := hb98.cell 1); simp only [List.getElem?_toArray, List.getElem?_cons_succ, List.getElem?_cons_zero] at k0 k1)
              | (go_at_call 13; go_must (refine h13.mono ?_); rintro y w9 ⟨⟨a9, n9, c9, gp9, m9, cp9, L9, ps9, rfl, hR9, hP9⟩, hg9⟩; (have hgA := gb_trans hg8 (gb_alloc hg9 (.cells #[.slice a9 n9 c9, .slice (some ⟨gp9, 0, none⟩) m9 cp9] 32))); (have hRA := hR9.grown (gb_alloc (gb_refl w9 none) (.cells #[.slice a9 n9 c9, .slice (some ⟨gp9, 0, none⟩) m9 cp9] 32)));
                  (have hbA := hb.kept hgA (by simp)); (have d0 := hbA.cell 0); (have d1 := hbA.cell 1); (have z0 := hbA.fz 0); (have z1 := hbA.fz 1); simp only [List.getElem?_toArray, List.getElem?_cons_succ, List.getElem?_cons_zero] at d0 d1)
              | (go_at_call 10; go_must (refine (h10 _ _).mono ?_); rintro y w' ⟨rfl, rfl⟩)
              | fail)
            go_meet
            exact ⟨L9, ps9, Bx.put hbA (.inl hRA), hP9, gb_far (gb_trans HGC.out hgA) (gb_setCell (gb_setCell (gb_refl _ (some bb)) _) _) (B := bb) (fun i e => by cases e; exact Nat.le_refl _) (by rw [HBB.out]; exact Nat.le_refl _)⟩
        case rest =>
          obtain ⟨M1, qs1, hB1, hPM1, hg1⟩ := hcut
          obtain ⟨wj, rfl⟩ : ∃ wj, wj = wc := ⟨wc, rfl⟩
          have hne := HNE.out M1 hPM1
          have hstep := fun M' h => HSTEP.out M' (List.Perm.trans h (List.Perm.cons _ hPM1))
          have hM1l : M1.length = i := by rw [hPM1.length_eq, hMl]
          have hSK := HH.out.2.2.2.2.2.1
          obtain ⟨c0, c1⟩ := (hSK k (by rw [HKN.out]; exact hkN))
          have c0 := gb_cellN hg1 c0
          have c1 := gb_cellN hg1 c1
          have hlx := HH.out.2.2.2.2.2.2.2.2.1
          obtain rfl := hlx (by omega)
          obtain ⟨s1, s2, s3, t1, t2, t3, hb, hr⟩ := hB1.ex
          have hf0 : wj.grownBy wj.drew none := gb_drew (gb_refl _ _)
          have h13 : ∀ W, wj.grownBy W none → Calls Try.prog 13 #[.agg #[.slice s1 s2 s3, .slice t1 t2 t3], .agg #[.string (sat K k).1, .int .i64 (sat K k).2]] W fun e w' => (∃ (a : Option Addr) (n c gp m cp : Nat) (L' : List Sv) (ps' : List Pt), e = .returned (.tuple #[.agg #[.slice a n c, .slice (some ⟨gp, 0, none⟩) m cp], .int .i64 0]) ∧ Rg w' (.agg #[.slice a n c, .slice (some ⟨gp, 0, none⟩) m cp]) L' ps' ∧ L'.Perm (K.drop (N - (i + 1)))) ∧ W.grownBy w' none := fun W hW => by
            refine (add_13 (hr.grown hW) (sat K k) hkok hne (by omega)).mono ?_
            rintro e w' ⟨⟨rv, L', ps', rfl, hR, hP⟩, hg⟩
            obtain ⟨a, g, c, gp, cp, rfl, _, _, _⟩ := hR.ex
            exact ⟨⟨a, _, c, gp, _, cp, L', ps', rfl, hR, hstep L' hP⟩, hg⟩
          have HHB : Hid (Box wj 32 bb #[.slice s1 s2 s3, .slice t1 t2 t3]) := hb
          have e0 : wj.drew.cell? ⟨bb, 0, none⟩ = some (.slice s1 s2 s3) := hb.cell 0
          have e1 : wj.drew.cell? ⟨bb, 1, none⟩ = some (.slice t1 t2 t3) := hb.cell 1
          have c0 : wj.drew.cell? ⟨gl, k * 2, none⟩ = some (.string (sat K k).1) := c0
          have c1 : wj.drew.cell? ⟨gl, k * 2 + 1, none⟩ = some (.int .i64 (sat K k).2) := c1
          generalize (sat K k).1 = nm at c0 c1 h13
          generalize (sat K k).2 = nz at c0 c1 h13
          clear hB1 hne hstep hM1l hSK hlx hkok hr hb hxc HBc HSTEP HNE hgc hgwc ht
          go_upto_region 17 with fail
          go_cut [14, 15] from 94 to 102 (fun x y wd => ∃ (g : Nat) (a : Option Addr) (n c gp m cp : Nat) (M2 : List Sv) (qs2 : List Pt), x = .pointer (some ⟨g, 0, none⟩) ∧ y = .int .i64 0 ∧ Box wd 32 g #[.slice a n c, .slice (some ⟨gp, 0, none⟩) m cp] ∧ Rg wd (.agg #[.slice a n c, .slice (some ⟨gp, 0, none⟩) m cp]) M2 qs2 ∧ M2.Perm (K.drop (N - (i + 1))) ∧ wj.grownBy wd none)
          case first =>
            have hfz : wj.grownBy (wj.alloc (.cells #[.slice none 0 0, .slice none 0 0] 32)).drew none := gb_drew (gb_alloc (gb_refl _ _) _)
            have hzb : Box (wj.alloc (.cells #[.slice none 0 0, .slice none 0 0] 32)).drew 32 wj.heap.size #[.slice none 0 0, .slice none 0 0] := Box.new wj 32 _
            have hfz0 : wj.drew.grownBy (wj.alloc (.cells #[.slice none 0 0, .slice none 0 0] 32)).drew none := ⟨hfz.os, hfz.tape, hfz.output, hfz.size, hfz.block⟩
            have e0z := gb_cellN hfz0 e0
            have e1z := gb_cellN hfz0 e1
            have c0z := gb_cellN hfz0 c0
            have c1z := gb_cellN hfz0 c1
            go_region_with (first
              | (go_at_call 13; refine (h13 _ (by first | with_reducible exact hf0 | with_reducible exact hfz)).mono ?_; rintro y w5 ⟨⟨a5, n5, c5, gp5, m5, cp5, L5, ps5, rfl, hR5, hP5⟩, hg5⟩; first | (have hz5 := hzb.kept hg5 (by simp); have d0 := hz5.cell 0; have d1 := hz5.cell 1; have z0 := hz5.fz 0; have z1 := hz5.fz 1; simp only [List.getElem?_toArray, List.getElem?_cons_succ, List.getElem?_cons_zero] at d0 d1) | skip))
            all_goals go_wp2_with fail
            all_goals go_meet
            all_goals first
              | (exact ⟨w5.heap.size, a5, n5, c5, gp5, m5, cp5, L5, ps5, rfl, rfl, Box.new _ _ _, hR5.grown (gb_alloc (gb_refl _ _) _), hP5, gb_trans hf0 (gb_alloc hg5 _)⟩)
              | (have f1 := (hz5.set 0 (.slice a5 n5 c5)).cell 1
                 simp at f1
                 have hbz := (hz5.set 0 (.slice a5 n5 c5)).set 1 (.slice (some ⟨gp5, 0, none⟩) m5 cp5)
                 simp at hbz
                 exact ⟨wj.heap.size, a5, n5, c5, gp5, m5, cp5, L5, ps5, rfl, rfl, hbz, (hR5.setS d0 _).setS f1 _, hP5, gb_far (gb_trans hfz hg5) (gb_setCell (gb_setCell (gb_refl _ (some wj.heap.size)) _) _) (B := wj.heap.size) (fun i e => by cases e; exact Nat.le_refl _) (Nat.le_refl _)⟩)
          case rest =>
            obtain ⟨g2, a2, n2, c2, gp2, m2, cp2, M2, qs2, rfl, rfl, hb2, hR2, hP2, hg2⟩ := hcut
            obtain ⟨wi, rfl⟩ : ∃ wi, wi = wc := ⟨wc, rfl⟩
            have hbi := HHB.out.kept hg2 (by simp)
            have d0 := hbi.cell 0
            have d1 := hbi.cell 1
            have z0 := hbi.fz 0
            have z1 := hbi.fz 1
            have f0 := hb2.cell 0
            have f1 := hb2.cell 1
            simp only [List.getElem?_toArray, List.getElem?_cons_succ, List.getElem?_cons_zero] at d0 d1 f0 f1
            clear hf0 h13 e0 e1 c0 c1
            go_wp2_with (first
              | (go_at_call 10; go_must (refine (h10 _ _).mono ?_); rintro y w' ⟨rfl, rfl⟩)
              | fail)
            go_roundw
            case rel =>
              exact ⟨i + 1, M2, qs2, by omega, by go_num, Bx.put hbi (.inl hR2), hP2, gb_far (gb_trans hg1 hg2) (gb_setCell (gb_setCell (gb_refl _ (some bb)) _) _) (B := bb) (fun i e => by cases e; exact Nat.le_refl _) (by rw [HBB.out]; exact Nat.le_refl _)⟩
            case measure => simp [intOf]; omega
    · obtain rfl : i = N := by omega
      obtain ⟨hR, hbx, hbr, hw, hT, hSK, hn1, hLK, hl, hfo⟩ := HH.out
      have hRr := hR.grown hg
      have hbrr := hbr.kept hg (by simp)
      obtain ⟨s1, s2, s3, t1, t2, t3, hb, hr⟩ := hB.ex
      rw [Nat.sub_self, List.drop_zero] at hMP
      have hML : M = L := asc_uniq hr.asc hRr.asc (hMP.trans hLK.symm)
      subst hML
      have hqs : qs = ps := by
        rcases hr with hr | ⟨_, h1, h2⟩
        · exact hr.ci.uniq hRr.ci
        · rw [h2]
          have h3 := hRr.pl
          rw [h1] at h3
          exact (List.eq_nil_of_length_eq_zero (by simpa using h3)).symm
      subst hqs
      have hMN : M.length = i := by rw [hLK.length_eq, HKN.out]
      obtain rfl : n = i := by rw [hn1, hMN]
      have hm := HPS.out
      have h14 := points_rg hRr
      have d0 := hbrr.cell 0
      have d1 := hbrr.cell 1
      simp only [List.getElem?_toArray, List.getElem?_cons_succ, List.getElem?_cons_zero] at d0 d1
      rw [hm] at h14
      have HI : Hid (FitOk K 24 ∧ w.grownBy w4 none ∧ M.Perm K) := ⟨hfo, hw, hLK⟩
      clear hR hbx hbr hw hT hSK hn1 hLK hl hfo hMP hB
      go_upto_region 23 with (first
        | (go_at_call 14; go_must (refine h14.mono ?_); rintro y w5 ⟨⟨a16, g16, c16, rfl, hp1, hp2⟩, hg5⟩; (have hR5 := hRr.grown hg5); (have h11 := servers_11 hR5); (rw [hMN] at h11); (have hb5 := hbrr.kept hg5 (by simp)); (have d0 := hb5.cell 0); (have d1 := hb5.cell 1); simp only [List.getElem?_toArray, List.getElem?_cons_succ, List.getElem?_cons_zero] at d0 d1)
        | (go_at_call 11; go_must (refine h11.mono ?_); rintro y w6 ⟨⟨a17, g17, c17, rfl, hs1, hs2⟩, hg6⟩)
        | fail)
      have hg56 := gb_trans hg5 hg6
      have hR6 := hRr.grown hg56
      have hr6 := hr.grown hg56
      have hP6 := hp2.grown hg6
      have hbr6 := hbrr.kept hg56 (by simp)
      have hb6 := hb.kept hg56 (by simp)
      have hpl6 := hR6.pl
      rw [hMN, hm] at hpl6
      have h11 : ∀ W, w6.grownBy W none → Calls Try.prog 11 #[.agg #[.slice s1 s2 s3, .slice t1 t2 t3]] W fun e w' => (∃ a' g' c', e = .returned (.slice a' n c') ∧ (0 < n → a' = some ⟨g', 0, none⟩) ∧ SvAt w' g' M) ∧ W.grownBy w' none := fun W hW => by
        have := servers_rz (hr6.grown hW)
        rwa [hMN] at this
      have h15 : ∀ W (a : Option Addr) (g c : Nat), w6.grownBy W none → (0 < n → a = some ⟨g, 0, none⟩) → SvAt W g M → Calls Try.prog 15 #[.slice a17 n c17, .slice a n c] W fun y w' => y = .returned (.bool true) ∧ W.grownBy w' none := fun W a g c hW h1 h2 => sameServers_15 hMN (by omega) hs1 h1 (hs2.grown hW) h2
      have h14 : ∀ W, w6.grownBy W none → Calls Try.prog 14 #[.agg #[.slice s1 s2 s3, .slice t1 t2 t3]] W fun e w' => (∃ a' g' c', e = .returned (.slice a' m c') ∧ (0 < m → a' = some ⟨g', 0, none⟩) ∧ PtAt w' g' qs) ∧ W.grownBy w' none := fun W hW => by
        have := points_rz (hr6.grown hW)
        rwa [hm] at this
      have h16 : ∀ W (a : Option Addr) (g c : Nat), w6.grownBy W none → (0 < m → a = some ⟨g, 0, none⟩) → PtAt W g qs → Calls Try.prog 16 #[.slice a16 m c16, .slice a m c] W fun y w' => y = .returned (.bool true) ∧ W.grownBy w' none := fun W a g c hW h1 h2 => samePoints_16 hm (by omega) hp1 h1 (hP6.grown hW) h2
      have h17a : ∀ W, w6.grownBy W none → Calls Try.prog 17 #[.agg #[.slice a n c, .slice (some ⟨gp, 0, none⟩) m cp]] W fun e w' => (∃ a' c', e = .returned (.slice a' (8 * m) c') ∧ Has w' a' (8 * m) (enc qs)) ∧ W.grownBy w' none := fun W hW => by
        have := encode_17 (.inl (hR6.grown hW))
        rwa [hm] at this
      have h17b : ∀ W, w6.grownBy W none → Calls Try.prog 17 #[.agg #[.slice s1 s2 s3, .slice t1 t2 t3]] W fun e w' => (∃ a' c', e = .returned (.slice a' (8 * m) c') ∧ Has w' a' (8 * m) (enc qs)) ∧ W.grownBy w' none := fun W hW => by
        have := encode_17 (hr6.grown hW)
        rwa [hm] at this
      have HC : ∀ W, w6.grownBy W none → W.cell? ⟨rb, 0, none⟩ = some (.slice a n c) ∧ W.cell? ⟨rb, 1, none⟩ = some (.slice (some ⟨gp, 0, none⟩) m cp) ∧ W.cell? ⟨bb, 0, none⟩ = some (.slice s1 s2 s3) ∧ W.cell? ⟨bb, 1, none⟩ = some (.slice t1 t2 t3) := fun W hW => ⟨(hbr6.kept hW (by simp)).cell 0, (hbr6.kept hW (by simp)).cell 1, (hb6.kept hW (by simp)).cell 0, (hb6.kept hW (by simp)).cell 1⟩
      have F0 : w6.grownBy w6.drew none := gb_drew (gb_refl _ _)
      have HW6 : Hid (w.grownBy w6 none) := gb_trans HI.out.2.1 (gb_trans hg hg56)
      have HP6 : Hid (SvAt w6 g17 M ∧ PtAt w6 g16 qs ∧ Circle M qs ∧ Asc M ∧ (0 < n → a17 = some ⟨g17, 0, none⟩) ∧ (0 < m → a16 = some ⟨g16, 0, none⟩)) := ⟨hs2, hP6, hR6.ci, hR6.asc, hs1, hp1⟩
      generalize enc qs = EN at *
      generalize hm8 : 8 * m = m8 at h17a h17b
      have Qh11 := Hid.mk' h11
      have Qh15 := Hid.mk' h15
      have Qh14 := Hid.mk' h14
      have Qh16 := Hid.mk' h16
      have Qh17a := Hid.mk' h17a
      have Qh17b := Hid.mk' h17b
      have QHC := Hid.mk' HC
      clear h11 h15 h14 h16 h17a h17b HC
      clear hm8 hRr hR5 hR6 hr hr6 hP6 hbr6 hb6 hbrr hb5 hb hp2 hs2 hg5 hg6 hg56 hg d0 d1 hp1 hs1
      go_cut [138] from 111 to 137 (fun x wd => x = .bool false ∧ w6.grownBy wd none)
      case first =>
        have hk0 := QHC.out _ F0
        refine wp_region_held_drew (S := (fun W => W.cell? ⟨rb, 0, none⟩ = some (.slice a n c) ∧ W.cell? ⟨rb, 1, none⟩ = some (.slice (some ⟨gp, 0, none⟩) m cp) ∧ W.cell? ⟨bb, 0, none⟩ = some (.slice s1 s2 s3) ∧ W.cell? ⟨bb, 1, none⟩ = some (.slice t1 t2 t3))) (by kernel_rfl) hk0 (fun hHeld => ?_)
        refine wpAnyH_take (i := 0) (oi := ({ dst := some 111, op := Op.move (Operand.tmp 17), type := 22, pos := _, after := #[], guard := none } : Oper)) (v := ?_) rfl (by kernel_rfl) (by kernel_rfl) (by kernel_rfl) (fun _ _ _ h => h) (Or.inl ⟨by rfl, ?_⟩) (by assumption) ?_
        rotate_left 1
        · (intro w hSw; (try dsimp only at hSw); go_simp; try with_reducible rfl)
        try simp only [Act.put, List.setIfInBounds_toArray, List.set_cons_zero, List.set_cons_succ]
        refine wpAnyH_take (i := 1) (oi := ({ dst := some 112, op := Op.load 32 (Operand.tmp 6), type := 32, pos := _, after := #[], guard := none } : Oper)) (v := ?_) rfl (by kernel_rfl) (by kernel_rfl) (by kernel_rfl) (fun _ _ _ h => h) (Or.inl ⟨by rfl, ?_⟩) (by assumption) ?_
        rotate_left 1
        · (intro w hSw; (try dsimp only at hSw); go_simp; try with_reducible rfl)
        try simp only [Act.put, List.setIfInBounds_toArray, List.set_cons_zero, List.set_cons_succ]
        refine wpAnyH_ready (rs := [2]) (by kernel_rfl) (by simp) (AllReadyH.cons (o := ({ dst := some 113, op := Op.call { callee := Callee.value (Operand.func 11), args := #[Operand.tmp 112], argTypes := #[32] }, type := 22, pos := _, after := #[{ on := 1, ground := Ground.data }], guard := none } : Oper)) rfl (fun K hK => ?_) AllReadyH.nil)
        go_simp
        go_at_call 11; refine (Qh11.out _ F0).mono ?_; rintro y v1 ⟨⟨a1, g1, c1, rfl, p1, p2⟩, k1⟩; have F1 := gb_trans F0 k1; have hk1 := QHC.out _ F1
        refine hK.out _ _ (hk1) (fun hHeld => ?_)
        clear hK K
        try simp only [Act.put, List.setIfInBounds_toArray, List.set_cons_zero, List.set_cons_succ]
        clear hk0
        refine wpAnyH_ready (rs := [3]) (by kernel_rfl) (by simp) (AllReadyH.cons (o := ({ dst := some 114, op := Op.call { callee := Callee.value (Operand.func 15), args := #[Operand.tmp 111, Operand.tmp 113], argTypes := #[22, 22] }, type := 4, pos := _, after := #[{ on := 0, ground := Ground.data }, { on := 2, ground := Ground.data }, { on := 2, ground := Ground.chain }], guard := none } : Oper)) rfl (fun K hK => ?_) AllReadyH.nil)
        go_simp
        go_at_call 15; refine (Qh15.out _ _ _ _ F1 p1 p2).mono ?_; rintro y v2 ⟨rfl, k2⟩; have F2 := gb_trans F1 k2; have hk2 := QHC.out _ F2
        refine hK.out _ _ (hk2) (fun hHeld => ?_)
        clear hK K
        try simp only [Act.put, List.setIfInBounds_toArray, List.set_cons_zero, List.set_cons_succ]
        clear hk1 p1 p2
        refine wpAnyH_take (i := 4) (oi := ({ dst := some 115, op := Op.unOp UnOp.not 4 (Operand.tmp 114), type := 4, pos := _, after := #[{ on := 3, ground := Ground.data }], guard := none } : Oper)) (v := ?_) rfl (by kernel_rfl) (by kernel_rfl) (by kernel_rfl) (fun _ _ _ h => h) (Or.inl ⟨by rfl, ?_⟩) (by assumption) ?_
        rotate_left 1
        · (intro w hSw; (try dsimp only at hSw); go_simp; try with_reducible rfl)
        try simp only [Act.put, List.setIfInBounds_toArray, List.set_cons_zero, List.set_cons_succ]
        refine wpAnyH_take (i := 5) (oi := ({ dst := some 116, op := Op.move (Operand.tmp 115), type := 4, pos := _, after := #[{ on := 4, ground := Ground.data }, { on := 3, ground := Ground.chain }], guard := none } : Oper)) (v := ?_) rfl (by kernel_rfl) (by kernel_rfl) (by kernel_rfl) (fun _ _ _ h => h) (Or.inl ⟨by rfl, ?_⟩) (by assumption) ?_
        rotate_left 1
        · (intro w hSw; (try dsimp only at hSw); go_simp; try with_reducible rfl)
        try simp only [Act.put, List.setIfInBounds_toArray, List.set_cons_zero, List.set_cons_succ]
        refine wpAnyH_take (i := 6) (oi := ({ dst := some 117, op := Op.move (Operand.tmp 16), type := 30, pos := _, after := #[{ on := 5, ground := Ground.guard }], guard := some (5, false) } : Oper)) (v := ?_) rfl (by kernel_rfl) (by kernel_rfl) (by kernel_rfl) (fun _ _ _ h => h) (Or.inl ⟨by rfl, ?_⟩) (by assumption) ?_
        rotate_left 1
        · (intro w hSw; (try dsimp only at hSw); go_simp; try with_reducible rfl)
        try simp only [Act.put, List.setIfInBounds_toArray, List.set_cons_zero, List.set_cons_succ]
        refine wpAnyH_take (i := 7) (oi := ({ dst := some 118, op := Op.load 32 (Operand.tmp 6), type := 32, pos := _, after := #[{ on := 5, ground := Ground.guard }], guard := some (5, false) } : Oper)) (v := ?_) rfl (by kernel_rfl) (by kernel_rfl) (by kernel_rfl) (fun _ _ _ h => h) (Or.inl ⟨by rfl, ?_⟩) (by assumption) ?_
        rotate_left 1
        · (intro w hSw; (try dsimp only at hSw); go_simp; try with_reducible rfl)
        try simp only [Act.put, List.setIfInBounds_toArray, List.set_cons_zero, List.set_cons_succ]
        refine wpAnyH_ready (rs := [8]) (by kernel_rfl) (by simp) (AllReadyH.cons (o := ({ dst := some 119, op := Op.call { callee := Callee.value (Operand.func 14), args := #[Operand.tmp 118], argTypes := #[32] }, type := 30, pos := _, after := #[{ on := 7, ground := Ground.data }, { on := 5, ground := Ground.chain }, { on := 5, ground := Ground.guard }], guard := some (5, false) } : Oper)) rfl (fun K hK => ?_) AllReadyH.nil)
        go_simp
        go_at_call 14; refine (Qh14.out _ F2).mono ?_; rintro y v3 ⟨⟨a3, g3, c3, rfl, r1, r2⟩, k3⟩; have F3 := gb_trans F2 k3; have hk3 := QHC.out _ F3
        refine hK.out _ _ (hk3) (fun hHeld => ?_)
        clear hK K
        try simp only [Act.put, List.setIfInBounds_toArray, List.set_cons_zero, List.set_cons_succ]
        clear hk2
        refine wpAnyH_ready (rs := [9]) (by kernel_rfl) (by simp) (AllReadyH.cons (o := ({ dst := some 120, op := Op.call { callee := Callee.value (Operand.func 16), args := #[Operand.tmp 117, Operand.tmp 119], argTypes := #[30, 30] }, type := 4, pos := _, after := #[{ on := 6, ground := Ground.data }, { on := 8, ground := Ground.data }, { on := 8, ground := Ground.chain }, { on := 5, ground := Ground.guard }], guard := some (5, false) } : Oper)) rfl (fun K hK => ?_) AllReadyH.nil)
        go_simp
        go_at_call 16; refine (Qh16.out _ _ _ _ F3 r1 r2).mono ?_; rintro y v4 ⟨rfl, k4⟩; have F4 := gb_trans F3 k4; have hk4 := QHC.out _ F4
        refine hK.out _ _ (hk4) (fun hHeld => ?_)
        clear hK K
        try simp only [Act.put, List.setIfInBounds_toArray, List.set_cons_zero, List.set_cons_succ]
        clear hk3 r1 r2
        refine wpAnyH_take (i := 10) (oi := ({ dst := some 121, op := Op.unOp UnOp.not 4 (Operand.tmp 120), type := 4, pos := _, after := #[{ on := 9, ground := Ground.data }, { on := 5, ground := Ground.guard }], guard := some (5, false) } : Oper)) (v := ?_) rfl (by kernel_rfl) (by kernel_rfl) (by kernel_rfl) (fun _ _ _ h => h) (Or.inl ⟨by rfl, ?_⟩) (by assumption) ?_
        rotate_left 1
        · (intro w hSw; (try dsimp only at hSw); go_simp; try with_reducible rfl)
        try simp only [Act.put, List.setIfInBounds_toArray, List.set_cons_zero, List.set_cons_succ]
        refine wpAnyH_take (i := 11) (oi := ({ dst := some 122, op := Op.pick (Operand.tmp 116) (Operand.const (Value.bool true)) (Operand.tmp 121), type := 4, pos := _, after := #[{ on := 5, ground := Ground.data }, { on := 10, ground := Ground.data }], guard := none } : Oper)) (v := ?_) rfl (by kernel_rfl) (by kernel_rfl) (by kernel_rfl) (fun _ _ _ h => h) (Or.inl ⟨by rfl, ?_⟩) (by assumption) ?_
        rotate_left 1
        · (intro w hSw; (try dsimp only at hSw); go_simp; try with_reducible rfl)
        try simp only [Act.put, List.setIfInBounds_toArray, List.set_cons_zero, List.set_cons_succ]
        refine wpAnyH_take (i := 12) (oi := ({ dst := some 123, op := Op.move (Operand.tmp 122), type := 4, pos := _, after := #[{ on := 11, ground := Ground.data }, { on := 9, ground := Ground.chain }], guard := none } : Oper)) (v := ?_) rfl (by kernel_rfl) (by kernel_rfl) (by kernel_rfl) (fun _ _ _ h => h) (Or.inl ⟨by rfl, ?_⟩) (by assumption) ?_
        rotate_left 1
        · (intro w hSw; (try dsimp only at hSw); go_simp; try with_reducible rfl)
        try simp only [Act.put, List.setIfInBounds_toArray, List.set_cons_zero, List.set_cons_succ]
        refine wpAnyH_take (i := 13) (oi := ({ dst := some 124, op := Op.load 32 (Operand.tmp 4), type := 32, pos := _, after := #[{ on := 12, ground := Ground.guard }], guard := some (12, false) } : Oper)) (v := ?_) rfl (by kernel_rfl) (by kernel_rfl) (by kernel_rfl) (fun _ _ _ h => h) (Or.inl ⟨by rfl, ?_⟩) (by assumption) ?_
        rotate_left 1
        · (intro w hSw; (try dsimp only at hSw); go_simp; try with_reducible rfl)
        try simp only [Act.put, List.setIfInBounds_toArray, List.set_cons_zero, List.set_cons_succ]
        refine wpAnyH_take (i := 16) (oi := ({ dst := some 127, op := Op.load 32 (Operand.tmp 6), type := 32, pos := _, after := #[{ on := 12, ground := Ground.guard }], guard := some (12, false) } : Oper)) (v := ?_) rfl (by kernel_rfl) (by kernel_rfl) (by kernel_rfl) (fun _ _ _ h => h) (Or.inl ⟨by rfl, ?_⟩) (by assumption) ?_
        rotate_left 1
        · (intro w hSw; (try dsimp only at hSw); go_simp; try with_reducible rfl)
        try simp only [Act.put, List.setIfInBounds_toArray, List.set_cons_zero, List.set_cons_succ]
        refine wpAnyH_ready (rs := [14]) (by kernel_rfl) (by simp) (AllReadyH.cons (o := ({ dst := some 125, op := Op.call { callee := Callee.value (Operand.func 17), args := #[Operand.tmp 124], argTypes := #[32] }, type := 45, pos := _, after := #[{ on := 13, ground := Ground.data }, { on := 12, ground := Ground.chain }, { on := 12, ground := Ground.guard }], guard := some (12, false) } : Oper)) rfl (fun K hK => ?_) AllReadyH.nil)
        go_simp
        go_at_call 17; refine (Qh17a.out _ F4).mono ?_; rintro y v5 ⟨⟨a5, c5, rfl, hHa⟩, k5⟩; have F5 := gb_trans F4 k5; have hk5 := QHC.out _ F5; have hva := hHa.conv c5
        refine hK.out _ _ (hk5) (fun hHeld => ?_)
        clear hK K
        try simp only [Act.put, List.setIfInBounds_toArray, List.set_cons_zero, List.set_cons_succ]
        clear hk4
        clear hHeld
        have hHeld : (fun W => ((W.cell? ⟨rb, 0, none⟩ = some (.slice a n c) ∧ W.cell? ⟨rb, 1, none⟩ = some (.slice (some ⟨gp, 0, none⟩) m cp) ∧ W.cell? ⟨bb, 0, none⟩ = some (.slice s1 s2 s3) ∧ W.cell? ⟨bb, 1, none⟩ = some (.slice t1 t2 t3)) ∧ (convert 45 9 (.slice a5 m8 c5)).run Try.prog W = .ok (.string (strOfNums EN)) W)) v5 := ⟨hk5, hva⟩
        refine wpAnyH_imp (S2 := fun W => ((W.cell? ⟨rb, 0, none⟩ = some (.slice a n c) ∧ W.cell? ⟨rb, 1, none⟩ = some (.slice (some ⟨gp, 0, none⟩) m cp) ∧ W.cell? ⟨bb, 0, none⟩ = some (.slice s1 s2 s3) ∧ W.cell? ⟨bb, 1, none⟩ = some (.slice t1 t2 t3)) ∧ (convert 45 9 (.slice a5 m8 c5)).run Try.prog W = .ok (.string (strOfNums EN)) W)) (fun w h => h.1) _ _ _ _ ?_
        refine wpAnyH_take (i := 15) (oi := ({ dst := some 126, op := Op.convert 45 9 (Operand.tmp 125), type := 9, pos := _, after := #[{ on := 14, ground := Ground.data }, { on := 12, ground := Ground.guard }], guard := some (12, false) } : Oper)) (v := ?_) rfl (by kernel_rfl) (by kernel_rfl) (by kernel_rfl) (fun _ _ _ h => h) (Or.inl ⟨by rfl, ?_⟩) (by assumption) ?_
        rotate_left 1
        · (intro w hSw; (try dsimp only at hSw); go_simp; try with_reducible rfl)
        try simp only [Act.put, List.setIfInBounds_toArray, List.set_cons_zero, List.set_cons_succ]
        refine wpAnyH_ready (rs := [17]) (by kernel_rfl) (by simp) (AllReadyH.cons (o := ({ dst := some 128, op := Op.call { callee := Callee.value (Operand.func 17), args := #[Operand.tmp 127], argTypes := #[32] }, type := 45, pos := _, after := #[{ on := 16, ground := Ground.data }, { on := 14, ground := Ground.chain }, { on := 12, ground := Ground.guard }], guard := some (12, false) } : Oper)) rfl (fun K hK => ?_) AllReadyH.nil)
        go_simp
        go_at_call 17; refine (Qh17b.out _ F5).mono ?_; rintro y v6 ⟨⟨a6, c6, rfl, hHb⟩, k6⟩; have F6 := gb_trans F5 k6; have hk6 := QHC.out _ F6; have hvb := hHb.conv c6; have hva6 := (hHa.kept0 k6).conv c5
        refine hK.out _ _ (⟨hk6, hva6⟩) (fun hHeld => ?_)
        clear hK K
        try simp only [Act.put, List.setIfInBounds_toArray, List.set_cons_zero, List.set_cons_succ]
        clear hk5 hva
        refine wpAnyH_ready (rs := [18]) (by kernel_rfl) (by simp) (AllReadyH.cons (o := ({ dst := some 129, op := Op.convert 45 9 (Operand.tmp 128), type := 9, pos := _, after := #[{ on := 17, ground := Ground.data }, { on := 12, ground := Ground.guard }], guard := some (12, false) } : Oper)) rfl (fun K hK => ?_) AllReadyH.nil)
        go_simp
        refine hK.out _ _ (⟨hk6, hva6⟩) (fun hHeld => ?_)
        clear hK K
        try simp only [Act.put, List.setIfInBounds_toArray, List.set_cons_zero, List.set_cons_succ]
        refine wpAnyH_take (i := 19) (oi := ({ dst := some 130, op := Op.binOp BinOp.neq 9 (Operand.tmp 126) (Operand.tmp 129) 9, type := 4, pos := _, after := #[{ on := 15, ground := Ground.data }, { on := 18, ground := Ground.data }, { on := 12, ground := Ground.guard }], guard := some (12, false) } : Oper)) (v := ?_) rfl (by kernel_rfl) (by kernel_rfl) (by kernel_rfl) (fun _ _ _ h => h) (Or.inl ⟨by rfl, ?_⟩) (by assumption) ?_
        rotate_left 1
        · (intro w hSw; (try dsimp only at hSw); go_simp; try with_reducible rfl)
        try simp only [Act.put, List.setIfInBounds_toArray, List.set_cons_zero, List.set_cons_succ]
        refine wpAnyH_take (i := 20) (oi := ({ dst := some 131, op := Op.pick (Operand.tmp 123) (Operand.const (Value.bool true)) (Operand.tmp 130), type := 4, pos := _, after := #[{ on := 12, ground := Ground.data }, { on := 19, ground := Ground.data }], guard := none } : Oper)) (v := ?_) rfl (by kernel_rfl) (by kernel_rfl) (by kernel_rfl) (fun _ _ _ h => h) (Or.inl ⟨by rfl, ?_⟩) (by assumption) ?_
        rotate_left 1
        · (intro w hSw; (try dsimp only at hSw); go_simp; try with_reducible rfl)
        try simp only [Act.put, List.setIfInBounds_toArray, List.set_cons_zero, List.set_cons_succ]
        refine wpAnyH_take (i := 21) (oi := ({ dst := some 132, op := Op.move (Operand.tmp 131), type := 4, pos := _, after := #[{ on := 20, ground := Ground.data }, { on := 17, ground := Ground.chain }], guard := none } : Oper)) (v := ?_) rfl (by kernel_rfl) (by kernel_rfl) (by kernel_rfl) (fun _ _ _ h => h) (Or.inl ⟨by rfl, ?_⟩) (by assumption) ?_
        rotate_left 1
        · (intro w hSw; (try dsimp only at hSw); go_simp; try with_reducible rfl)
        try simp only [Act.put, List.setIfInBounds_toArray, List.set_cons_zero, List.set_cons_succ]
        refine wpAnyH_take (i := 22) (oi := ({ dst := some 133, op := Op.move (Operand.tmp 17), type := 22, pos := _, after := #[{ on := 21, ground := Ground.guard }], guard := some (21, false) } : Oper)) (v := ?_) rfl (by kernel_rfl) (by kernel_rfl) (by kernel_rfl) (fun _ _ _ h => h) (Or.inl ⟨by rfl, ?_⟩) (by assumption) ?_
        rotate_left 1
        · (intro w hSw; (try dsimp only at hSw); go_simp; try with_reducible rfl)
        try simp only [Act.put, List.setIfInBounds_toArray, List.set_cons_zero, List.set_cons_succ]
        refine wpAnyH_take (i := 23) (oi := ({ dst := some 134, op := Op.call { callee := Callee.builtin Builtin.len, args := #[Operand.tmp 133], argTypes := #[22] }, type := 3, pos := _, after := #[{ on := 22, ground := Ground.data }, { on := 21, ground := Ground.guard }], guard := some (21, false) } : Oper)) (v := ?_) rfl (by kernel_rfl) (by kernel_rfl) (by kernel_rfl) (fun _ _ _ h => h) (Or.inl ⟨by rfl, ?_⟩) (by assumption) ?_
        rotate_left 1
        · (intro w hSw; (try dsimp only at hSw); go_simp; try with_reducible rfl)
        try simp only [Act.put, List.setIfInBounds_toArray, List.set_cons_zero, List.set_cons_succ]
        refine wpAnyH_take (i := 24) (oi := ({ dst := some 135, op := Op.move (Operand.tmp 3), type := 22, pos := _, after := #[{ on := 21, ground := Ground.guard }], guard := some (21, false) } : Oper)) (v := ?_) rfl (by kernel_rfl) (by kernel_rfl) (by kernel_rfl) (fun _ _ _ h => h) (Or.inl ⟨by rfl, ?_⟩) (by assumption) ?_
        rotate_left 1
        · (intro w hSw; (try dsimp only at hSw); go_simp; try with_reducible rfl)
        try simp only [Act.put, List.setIfInBounds_toArray, List.set_cons_zero, List.set_cons_succ]
        refine wpAnyH_take (i := 25) (oi := ({ dst := some 136, op := Op.call { callee := Callee.builtin Builtin.len, args := #[Operand.tmp 135], argTypes := #[22] }, type := 3, pos := _, after := #[{ on := 24, ground := Ground.data }, { on := 21, ground := Ground.guard }], guard := some (21, false) } : Oper)) (v := ?_) rfl (by kernel_rfl) (by kernel_rfl) (by kernel_rfl) (fun _ _ _ h => h) (Or.inl ⟨by rfl, ?_⟩) (by assumption) ?_
        rotate_left 1
        · (intro w hSw; (try dsimp only at hSw); go_simp; try with_reducible rfl)
        try simp only [Act.put, List.setIfInBounds_toArray, List.set_cons_zero, List.set_cons_succ]
        refine wpAnyH_take (i := 26) (oi := ({ dst := some 137, op := Op.binOp BinOp.neq 3 (Operand.tmp 134) (Operand.tmp 136) 3, type := 4, pos := _, after := #[{ on := 23, ground := Ground.data }, { on := 25, ground := Ground.data }, { on := 21, ground := Ground.guard }], guard := some (21, false) } : Oper)) (v := ?_) rfl (by kernel_rfl) (by kernel_rfl) (by kernel_rfl) (fun _ _ _ h => h) (Or.inl ⟨by rfl, ?_⟩) (by assumption) ?_
        rotate_left 1
        · (intro w hSw; (try dsimp only at hSw); go_simp; try with_reducible rfl)
        try simp only [Act.put, List.setIfInBounds_toArray, List.set_cons_zero, List.set_cons_succ]
        refine wpAnyH_take (i := 27) (oi := ({ dst := some 138, op := Op.pick (Operand.tmp 132) (Operand.const (Value.bool true)) (Operand.tmp 137), type := 4, pos := _, after := #[{ on := 21, ground := Ground.data }, { on := 26, ground := Ground.data }], guard := none } : Oper)) (v := ?_) rfl (by kernel_rfl) (by kernel_rfl) (by kernel_rfl) (fun _ _ _ h => h) (Or.inl ⟨by rfl, ?_⟩) (by assumption) ?_
        rotate_left 1
        · (intro w hSw; (try dsimp only at hSw); go_simp; try with_reducible rfl)
        try simp only [Act.put, List.setIfInBounds_toArray, List.set_cons_zero, List.set_cons_succ]
        refine wpAnyH_done (by kernel_rfl) ?_ _
        go_wp2_with fail
        go_meet
        exact ⟨rfl, F6⟩
      case rest =>
        obtain ⟨rfl, hg7⟩ := hcut
        obtain ⟨w7, rfl⟩ : ∃ w7, w7 = wc := ⟨wc, rfl⟩
        obtain ⟨hS, hP, hci, hasc, hs1, hp1⟩ := HP6.out
        have hS7 := hS.grown hg7
        have hP7 := hP.grown hg7
        have HW7 : Hid (w.grownBy w7 none) := gb_trans HW6.out hg7
        have hrank := hci.rank
        rw [hMN] at hrank
        have hrise := hci.rise
        have HQ : Hid (SvAt w7 g17 M ∧ PtAt w7 g16 qs ∧ Asc M ∧ Rising qs ∧ M.length = n ∧ qs.length = m ∧ (∀ k, k < qs.length → ∃ t r : Nat, (pat qs k).2.1 = (t : Int) ∧ (pat qs k).2.2 = (r : Int) ∧ t < n ∧ (r : Int) < 64 * (sat M t).2) ∧ (∀ p ∈ M, svOk p = true)) := ⟨hS7, hP7, hasc, hrise, hMN, hm, hrank, fun p hp => HI.out.1.ok p (HI.out.2.2.subset hp)⟩
        clear Qh11 Qh14 Qh15 Qh16 Qh17a Qh17b QHC F0 hS hP hci hasc hS7 hP7 hrank hrise hg7 h10 hz0 hgz HH
        go_wp2_with fail
        go_loopw [18] (fun x wr => ∃ (i : Nat), 1 ≤ i ∧ x = .int .i64 i ∧ (i ≤ n ∨ i = 1) ∧ w7.grownBy wr none) (fun x _ => n - (intOf x).toNat)
        case atStart => exact ⟨1, by omega, rfl, .inr rfl, gb_refl _ _⟩
        case round =>
          obtain ⟨i, hi1, rfl, hi, hg⟩ := hrel
          by_cases hlt : i < n
          · obtain ⟨hS, _, hasc, _⟩ := HQ.out
            obtain rfl := hs1 (by omega)
            obtain ⟨c0, _⟩ := (hS.grown hg) i (by omega)
            obtain ⟨d0, _⟩ := (hS.grown hg) (i - 1) (by omega)
            have hx := hasc (i - 1) i (by omega) (by omega)
            have hbl : Op.bytesLess (sat M (i - 1)).1.toList (sat M i).1.toList = true := by rw [bytesLess_eq]; simp [hx]
            generalize (sat M i).1 = n1 at *
            generalize (sat M (i - 1)).1 = n2 at *
            generalize hip : i - 1 = ip at *
            have hip2 : (ip : Int) < (n : Int) := by omega
            have hip3 : (0 : Int) ≤ (ip : Int) := by omega
            have hiw : IntKind.i64.wrap ((i : Int) - 1) = (ip : Int) := by rw [IntKind.wrap_i64]; omega
            have HG : Hid (w7.grownBy wr.drew none) := gb_drew hg
            clear hip hS hasc hg
            go_wp2_with fail
            have hk0 : wr.drew.cell? ⟨g17, i * 2, none⟩ = some (.string n1) ∧ wr.drew.cell? ⟨g17, ip * 2, none⟩ = some (.string n2) := ⟨c0, d0⟩
            go_region_held3 (fun W => W.cell? ⟨g17, i * 2, none⟩ = some (.string n1) ∧ W.cell? ⟨g17, ip * 2, none⟩ = some (.string n2)) ((first | with_reducible exact hk0 | go_keep)) (fail)
            go_wp2_with fail
            go_roundw
            case rel => exact ⟨i + 1, by omega, by go_num, .inl (by omega), HG.out⟩
            case measure => simp [intOf]; omega
          · have HG : Hid (w7.grownBy wr none) := hg
            clear hg
            go_wp2_with fail
            obtain ⟨w8, rfl⟩ : ∃ w8, w8 = wr := ⟨wr, rfl⟩
            go_loopw [19] (fun x wr => ∃ (j : Nat), j ≤ m ∧ x = .int .i64 j ∧ w7.grownBy wr none) (fun x _ => m - (intOf x).toNat)
            case atStart => exact ⟨0, by omega, rfl, HG.out⟩
            case round =>
              obtain ⟨j, hj, rfl, hg⟩ := hrel
              by_cases hjm : j < m
              · obtain ⟨hS, hP, _, hrise, hMN, hm, hrank, hok⟩ := HQ.out
                obtain rfl := hp1 (by omega)
                obtain ⟨c0, c1, c2⟩ := (hP.grown hg) j (by omega)
                obtain ⟨t, r, ht, hr, htn, hrw⟩ := hrank j (by omega)
                obtain rfl := hs1 (by omega)
                obtain ⟨_, e1⟩ := (hS.grown hg) t (by omega)
                have hwt := svOk_wt (hok _ (sat_mem M t (by omega)))
                obtain ⟨_, _, hw1, hw8⟩ := hwt
                rw [ht] at c1
                rw [hr] at c2
                have hww : IntKind.i64.wrap (64 * (sat M t).2) = 64 * (sat M t).2 := by rw [IntKind.wrap_i64]; omega
                have hti : (t : Int) < (n : Int) := by omega
                have hjw : IntKind.i64.wrap ((j : Int) - 1) = ((j - 1 : Nat) : Int) ∨ j = 0 := by
                  by_cases h : j = 0
                  · exact .inr h
                  · exact .inl (by rw [IntKind.wrap_i64]; omega)
                have HG2 : Hid (w7.grownBy wr.drew none) := gb_drew hg
                have hlast : decide (64 * (sat M t).2 ≤ (r : Int)) = false := by simp; omega
                have hsv : decide ((n : Int) ≤ (t : Int)) = false := by simp; omega
                have hr0 : decide ((r : Int) < 0) = false := by simp
                have ht0 : decide ((t : Int) < 0) = false := by simp
                by_cases hj0 : j = 0
                · subst hj0
                  generalize (sat M t).2 = wt at *
                  generalize (pat qs 0).1 = A at *
                  have HGA : Hid (w7.grownBy wr none) := hg
                  clear hS hP hrise hrank hok hg ht hr hrw hw1 hw8 hjw
                  have hsvN : decide (n ≤ t) = false := by simp; omega
                  simp only [Nat.zero_mul, Nat.zero_add] at c0 c1 c2
                  go_upto_region 33 with fail
                  refine wp_region_held_drew (S := (fun W => W.cell? ⟨g16, 0, none⟩ = some (.int .u32 A) ∧ W.cell? ⟨g16, 1, none⟩ = some (.int .i64 t) ∧ W.cell? ⟨g16, 2, none⟩ = some (.int .i64 r) ∧ W.cell? ⟨g17, t * 2 + 1, none⟩ = some (.int .i64 wt))) (by kernel_rfl) ⟨c0, c1, c2, e1⟩ (fun hHeld => ?_)
                  refine wpAnyH_take (i := 0) (oi := ({ dst := some 163, op := Op.move (Operand.tmp 19), type := 3, pos := _, after := #[], guard := none } : Oper)) (v := ?_) rfl (by kernel_rfl) (by kernel_rfl) (by kernel_rfl) (fun _ _ _ h => h) (Or.inl ⟨by rfl, ?_⟩) (by assumption) ?_
                  rotate_left 1
                  · (intro w hSw; (try dsimp only at hSw); go_simp; try with_reducible rfl)
                  try simp only [Act.put, List.setIfInBounds_toArray, List.set_cons_zero, List.set_cons_succ]
                  refine wpAnyH_take (i := 1) (oi := ({ dst := some 164, op := Op.binOp BinOp.gtr 3 (Operand.tmp 163) (Operand.const (Value.int IntKind.i64 0)) 3, type := 4, pos := _, after := #[{ on := 0, ground := Ground.data }], guard := none } : Oper)) (v := ?_) rfl (by kernel_rfl) (by kernel_rfl) (by kernel_rfl) (fun _ _ _ h => h) (Or.inl ⟨by rfl, ?_⟩) (by assumption) ?_
                  rotate_left 1
                  · (intro w hSw; (try dsimp only at hSw); go_simp; try with_reducible rfl)
                  try simp only [Act.put, List.setIfInBounds_toArray, List.set_cons_zero, List.set_cons_succ]
                  refine wpAnyH_take (i := 2) (oi := ({ dst := some 165, op := Op.move (Operand.tmp 164), type := 4, pos := _, after := #[{ on := 1, ground := Ground.data }], guard := none } : Oper)) (v := ?_) rfl (by kernel_rfl) (by kernel_rfl) (by kernel_rfl) (fun _ _ _ h => h) (Or.inl ⟨by rfl, ?_⟩) (by assumption) ?_
                  rotate_left 1
                  · (intro w hSw; (try dsimp only at hSw); go_simp; try with_reducible rfl)
                  try simp only [Act.put, List.setIfInBounds_toArray, List.set_cons_zero, List.set_cons_succ]
                  refine wpAnyH_take (i := 3) (oi := ({ dst := some 166, op := Op.move (Operand.tmp 16), type := 30, pos := _, after := #[{ on := 2, ground := Ground.guard }], guard := some (2, true) } : Oper)) (v := undef) rfl (by kernel_rfl) (by kernel_rfl) (by kernel_rfl) (fun _ _ _ h => h) (Or.inr ⟨by rfl, rfl⟩) (by assumption) ?_
                  try simp only [Act.put, List.setIfInBounds_toArray, List.set_cons_zero, List.set_cons_succ]
                  refine wpAnyH_take (i := 4) (oi := ({ dst := some 167, op := Op.move (Operand.tmp 19), type := 3, pos := _, after := #[{ on := 2, ground := Ground.guard }], guard := some (2, true) } : Oper)) (v := undef) rfl (by kernel_rfl) (by kernel_rfl) (by kernel_rfl) (fun _ _ _ h => h) (Or.inr ⟨by rfl, rfl⟩) (by assumption) ?_
                  try simp only [Act.put, List.setIfInBounds_toArray, List.set_cons_zero, List.set_cons_succ]
                  refine wpAnyH_take (i := 5) (oi := ({ dst := some 168, op := Op.binOp BinOp.sub 3 (Operand.tmp 167) (Operand.const (Value.int IntKind.i64 1)) 3, type := 3, pos := _, after := #[{ on := 4, ground := Ground.data }, { on := 2, ground := Ground.guard }], guard := some (2, true) } : Oper)) (v := undef) rfl (by kernel_rfl) (by kernel_rfl) (by kernel_rfl) (fun _ _ _ h => h) (Or.inr ⟨by rfl, rfl⟩) (by assumption) ?_
                  try simp only [Act.put, List.setIfInBounds_toArray, List.set_cons_zero, List.set_cons_succ]
                  refine wpAnyH_take (i := 6) (oi := ({ dst := some 169, op := Op.indexAddr 30 (Operand.tmp 166) (Operand.tmp 168), type := 0, pos := _, after := #[{ on := 3, ground := Ground.data }, { on := 5, ground := Ground.data }, { on := 2, ground := Ground.guard }], guard := some (2, true) } : Oper)) (v := undef) rfl (by kernel_rfl) (by kernel_rfl) (by kernel_rfl) (fun _ _ _ h => h) (Or.inr ⟨by rfl, rfl⟩) (by assumption) ?_
                  try simp only [Act.put, List.setIfInBounds_toArray, List.set_cons_zero, List.set_cons_succ]
                  refine wpAnyH_take (i := 7) (oi := ({ dst := some 170, op := Op.fieldAddr 49 (Operand.tmp 169) 0, type := 0, pos := _, after := #[{ on := 6, ground := Ground.data }, { on := 2, ground := Ground.guard }], guard := some (2, true) } : Oper)) (v := undef) rfl (by kernel_rfl) (by kernel_rfl) (by kernel_rfl) (fun _ _ _ h => h) (Or.inr ⟨by rfl, rfl⟩) (by assumption) ?_
                  try simp only [Act.put, List.setIfInBounds_toArray, List.set_cons_zero, List.set_cons_succ]
                  refine wpAnyH_take (i := 8) (oi := ({ dst := some 171, op := Op.load 47 (Operand.tmp 170), type := 47, pos := _, after := #[{ on := 7, ground := Ground.data }, { on := 2, ground := Ground.guard }], guard := some (2, true) } : Oper)) (v := undef) rfl (by kernel_rfl) (by kernel_rfl) (by kernel_rfl) (fun _ _ _ h => h) (Or.inr ⟨by rfl, rfl⟩) (by assumption) ?_
                  try simp only [Act.put, List.setIfInBounds_toArray, List.set_cons_zero, List.set_cons_succ]
                  refine wpAnyH_take (i := 9) (oi := ({ dst := some 172, op := Op.move (Operand.tmp 16), type := 30, pos := _, after := #[{ on := 2, ground := Ground.guard }], guard := some (2, true) } : Oper)) (v := undef) rfl (by kernel_rfl) (by kernel_rfl) (by kernel_rfl) (fun _ _ _ h => h) (Or.inr ⟨by rfl, rfl⟩) (by assumption) ?_
                  try simp only [Act.put, List.setIfInBounds_toArray, List.set_cons_zero, List.set_cons_succ]
                  refine wpAnyH_take (i := 10) (oi := ({ dst := some 173, op := Op.move (Operand.tmp 19), type := 3, pos := _, after := #[{ on := 2, ground := Ground.guard }], guard := some (2, true) } : Oper)) (v := undef) rfl (by kernel_rfl) (by kernel_rfl) (by kernel_rfl) (fun _ _ _ h => h) (Or.inr ⟨by rfl, rfl⟩) (by assumption) ?_
                  try simp only [Act.put, List.setIfInBounds_toArray, List.set_cons_zero, List.set_cons_succ]
                  refine wpAnyH_take (i := 11) (oi := ({ dst := some 174, op := Op.indexAddr 30 (Operand.tmp 172) (Operand.tmp 173), type := 0, pos := _, after := #[{ on := 9, ground := Ground.data }, { on := 10, ground := Ground.data }, { on := 2, ground := Ground.guard }], guard := some (2, true) } : Oper)) (v := undef) rfl (by kernel_rfl) (by kernel_rfl) (by kernel_rfl) (fun _ _ _ h => h) (Or.inr ⟨by rfl, rfl⟩) (by assumption) ?_
                  try simp only [Act.put, List.setIfInBounds_toArray, List.set_cons_zero, List.set_cons_succ]
                  refine wpAnyH_take (i := 12) (oi := ({ dst := some 175, op := Op.fieldAddr 49 (Operand.tmp 174) 0, type := 0, pos := _, after := #[{ on := 11, ground := Ground.data }, { on := 2, ground := Ground.guard }], guard := some (2, true) } : Oper)) (v := undef) rfl (by kernel_rfl) (by kernel_rfl) (by kernel_rfl) (fun _ _ _ h => h) (Or.inr ⟨by rfl, rfl⟩) (by assumption) ?_
                  try simp only [Act.put, List.setIfInBounds_toArray, List.set_cons_zero, List.set_cons_succ]
                  refine wpAnyH_take (i := 13) (oi := ({ dst := some 176, op := Op.load 47 (Operand.tmp 175), type := 47, pos := _, after := #[{ on := 12, ground := Ground.data }, { on := 2, ground := Ground.guard }], guard := some (2, true) } : Oper)) (v := undef) rfl (by kernel_rfl) (by kernel_rfl) (by kernel_rfl) (fun _ _ _ h => h) (Or.inr ⟨by rfl, rfl⟩) (by assumption) ?_
                  try simp only [Act.put, List.setIfInBounds_toArray, List.set_cons_zero, List.set_cons_succ]
                  refine wpAnyH_take (i := 14) (oi := ({ dst := some 177, op := Op.binOp BinOp.geq 47 (Operand.tmp 171) (Operand.tmp 176) 47, type := 4, pos := _, after := #[{ on := 8, ground := Ground.data }, { on := 13, ground := Ground.data }, { on := 2, ground := Ground.guard }], guard := some (2, true) } : Oper)) (v := undef) rfl (by kernel_rfl) (by kernel_rfl) (by kernel_rfl) (fun _ _ _ h => h) (Or.inr ⟨by rfl, rfl⟩) (by assumption) ?_
                  try simp only [Act.put, List.setIfInBounds_toArray, List.set_cons_zero, List.set_cons_succ]
                  refine wpAnyH_take (i := 15) (oi := ({ dst := some 178, op := Op.pick (Operand.tmp 165) (Operand.tmp 177) (Operand.const (Value.bool false)), type := 4, pos := _, after := #[{ on := 2, ground := Ground.data }, { on := 14, ground := Ground.data }], guard := none } : Oper)) (v := ?_) rfl (by kernel_rfl) (by kernel_rfl) (by kernel_rfl) (fun _ _ _ h => h) (Or.inl ⟨by rfl, ?_⟩) (by assumption) ?_
                  rotate_left 1
                  · (intro w hSw; (try dsimp only at hSw); go_simp; try with_reducible rfl)
                  try simp only [Act.put, List.setIfInBounds_toArray, List.set_cons_zero, List.set_cons_succ]
                  refine wpAnyH_take (i := 16) (oi := ({ dst := some 179, op := Op.move (Operand.tmp 178), type := 4, pos := _, after := #[{ on := 15, ground := Ground.data }, { on := 2, ground := Ground.chain }], guard := none } : Oper)) (v := ?_) rfl (by kernel_rfl) (by kernel_rfl) (by kernel_rfl) (fun _ _ _ h => h) (Or.inl ⟨by rfl, ?_⟩) (by assumption) ?_
                  rotate_left 1
                  · (intro w hSw; (try dsimp only at hSw); go_simp; try with_reducible rfl)
                  try simp only [Act.put, List.setIfInBounds_toArray, List.set_cons_zero, List.set_cons_succ]
                  refine wpAnyH_take (i := 17) (oi := ({ dst := some 180, op := Op.move (Operand.tmp 16), type := 30, pos := _, after := #[{ on := 16, ground := Ground.guard }], guard := some (16, false) } : Oper)) (v := ?_) rfl (by kernel_rfl) (by kernel_rfl) (by kernel_rfl) (fun _ _ _ h => h) (Or.inl ⟨by rfl, ?_⟩) (by assumption) ?_
                  rotate_left 1
                  · (intro w hSw; (try dsimp only at hSw); go_simp; try with_reducible rfl)
                  try simp only [Act.put, List.setIfInBounds_toArray, List.set_cons_zero, List.set_cons_succ]
                  refine wpAnyH_take (i := 18) (oi := ({ dst := some 181, op := Op.move (Operand.tmp 19), type := 3, pos := _, after := #[{ on := 16, ground := Ground.guard }], guard := some (16, false) } : Oper)) (v := ?_) rfl (by kernel_rfl) (by kernel_rfl) (by kernel_rfl) (fun _ _ _ h => h) (Or.inl ⟨by rfl, ?_⟩) (by assumption) ?_
                  rotate_left 1
                  · (intro w hSw; (try dsimp only at hSw); go_simp; try with_reducible rfl)
                  try simp only [Act.put, List.setIfInBounds_toArray, List.set_cons_zero, List.set_cons_succ]
                  refine wpAnyH_take (i := 19) (oi := ({ dst := some 182, op := Op.indexAddr 30 (Operand.tmp 180) (Operand.tmp 181), type := 0, pos := _, after := #[{ on := 17, ground := Ground.data }, { on := 18, ground := Ground.data }, { on := 16, ground := Ground.guard }], guard := some (16, false) } : Oper)) (v := ?_) rfl (by kernel_rfl) (by kernel_rfl) (by kernel_rfl) (fun _ _ _ h => h) (Or.inl ⟨by rfl, ?_⟩) (by assumption) ?_
                  rotate_left 1
                  · (intro w hSw; (try dsimp only at hSw); go_simp; try with_reducible rfl)
                  try simp only [Act.put, List.setIfInBounds_toArray, List.set_cons_zero, List.set_cons_succ]
                  refine wpAnyH_take (i := 20) (oi := ({ dst := some 183, op := Op.fieldAddr 49 (Operand.tmp 182) 1, type := 0, pos := _, after := #[{ on := 19, ground := Ground.data }, { on := 16, ground := Ground.guard }], guard := some (16, false) } : Oper)) (v := ?_) rfl (by kernel_rfl) (by kernel_rfl) (by kernel_rfl) (fun _ _ _ h => h) (Or.inl ⟨by rfl, ?_⟩) (by assumption) ?_
                  rotate_left 1
                  · (intro w hSw; (try dsimp only at hSw); go_simp; try with_reducible rfl)
                  try simp only [Act.put, List.setIfInBounds_toArray, List.set_cons_zero, List.set_cons_succ]
                  refine wpAnyH_take (i := 21) (oi := ({ dst := some 184, op := Op.load 3 (Operand.tmp 183), type := 3, pos := _, after := #[{ on := 20, ground := Ground.data }, { on := 16, ground := Ground.guard }], guard := some (16, false) } : Oper)) (v := ?_) rfl (by kernel_rfl) (by kernel_rfl) (by kernel_rfl) (fun _ _ _ h => h) (Or.inl ⟨by rfl, ?_⟩) (by assumption) ?_
                  rotate_left 1
                  · (intro w hSw; (try dsimp only at hSw); go_simp; try with_reducible rfl)
                  try simp only [Act.put, List.setIfInBounds_toArray, List.set_cons_zero, List.set_cons_succ]
                  refine wpAnyH_take (i := 22) (oi := ({ dst := some 185, op := Op.binOp BinOp.lss 3 (Operand.tmp 184) (Operand.const (Value.int IntKind.i64 0)) 3, type := 4, pos := _, after := #[{ on := 21, ground := Ground.data }, { on := 16, ground := Ground.guard }], guard := some (16, false) } : Oper)) (v := ?_) rfl (by kernel_rfl) (by kernel_rfl) (by kernel_rfl) (fun _ _ _ h => h) (Or.inl ⟨by rfl, ?_⟩) (by assumption) ?_
                  rotate_left 1
                  · (intro w hSw; (try dsimp only at hSw); go_simp; try with_reducible rfl)
                  try simp only [Act.put, List.setIfInBounds_toArray, List.set_cons_zero, List.set_cons_succ]
                  refine wpAnyH_take (i := 23) (oi := ({ dst := some 186, op := Op.pick (Operand.tmp 179) (Operand.const (Value.bool true)) (Operand.tmp 185), type := 4, pos := _, after := #[{ on := 16, ground := Ground.data }, { on := 22, ground := Ground.data }], guard := none } : Oper)) (v := ?_) rfl (by kernel_rfl) (by kernel_rfl) (by kernel_rfl) (fun _ _ _ h => h) (Or.inl ⟨by rfl, ?_⟩) (by assumption) ?_
                  rotate_left 1
                  · (intro w hSw; (try dsimp only at hSw); go_simp; try with_reducible rfl)
                  try simp only [Act.put, List.setIfInBounds_toArray, List.set_cons_zero, List.set_cons_succ]
                  refine wpAnyH_take (i := 24) (oi := ({ dst := some 187, op := Op.move (Operand.tmp 186), type := 4, pos := _, after := #[{ on := 23, ground := Ground.data }, { on := 16, ground := Ground.chain }], guard := none } : Oper)) (v := ?_) rfl (by kernel_rfl) (by kernel_rfl) (by kernel_rfl) (fun _ _ _ h => h) (Or.inl ⟨by rfl, ?_⟩) (by assumption) ?_
                  rotate_left 1
                  · (intro w hSw; (try dsimp only at hSw); go_simp; try with_reducible rfl)
                  try simp only [Act.put, List.setIfInBounds_toArray, List.set_cons_zero, List.set_cons_succ]
                  refine wpAnyH_take (i := 25) (oi := ({ dst := some 188, op := Op.move (Operand.tmp 16), type := 30, pos := _, after := #[{ on := 24, ground := Ground.guard }], guard := some (24, false) } : Oper)) (v := ?_) rfl (by kernel_rfl) (by kernel_rfl) (by kernel_rfl) (fun _ _ _ h => h) (Or.inl ⟨by rfl, ?_⟩) (by assumption) ?_
                  rotate_left 1
                  · (intro w hSw; (try dsimp only at hSw); go_simp; try with_reducible rfl)
                  try simp only [Act.put, List.setIfInBounds_toArray, List.set_cons_zero, List.set_cons_succ]
                  refine wpAnyH_take (i := 26) (oi := ({ dst := some 189, op := Op.move (Operand.tmp 19), type := 3, pos := _, after := #[{ on := 24, ground := Ground.guard }], guard := some (24, false) } : Oper)) (v := ?_) rfl (by kernel_rfl) (by kernel_rfl) (by kernel_rfl) (fun _ _ _ h => h) (Or.inl ⟨by rfl, ?_⟩) (by assumption) ?_
                  rotate_left 1
                  · (intro w hSw; (try dsimp only at hSw); go_simp; try with_reducible rfl)
                  try simp only [Act.put, List.setIfInBounds_toArray, List.set_cons_zero, List.set_cons_succ]
                  refine wpAnyH_take (i := 27) (oi := ({ dst := some 190, op := Op.indexAddr 30 (Operand.tmp 188) (Operand.tmp 189), type := 0, pos := _, after := #[{ on := 25, ground := Ground.data }, { on := 26, ground := Ground.data }, { on := 24, ground := Ground.guard }], guard := some (24, false) } : Oper)) (v := ?_) rfl (by kernel_rfl) (by kernel_rfl) (by kernel_rfl) (fun _ _ _ h => h) (Or.inl ⟨by rfl, ?_⟩) (by assumption) ?_
                  rotate_left 1
                  · (intro w hSw; (try dsimp only at hSw); go_simp; try with_reducible rfl)
                  try simp only [Act.put, List.setIfInBounds_toArray, List.set_cons_zero, List.set_cons_succ]
                  refine wpAnyH_take (i := 28) (oi := ({ dst := some 191, op := Op.fieldAddr 49 (Operand.tmp 190) 1, type := 0, pos := _, after := #[{ on := 27, ground := Ground.data }, { on := 24, ground := Ground.guard }], guard := some (24, false) } : Oper)) (v := ?_) rfl (by kernel_rfl) (by kernel_rfl) (by kernel_rfl) (fun _ _ _ h => h) (Or.inl ⟨by rfl, ?_⟩) (by assumption) ?_
                  rotate_left 1
                  · (intro w hSw; (try dsimp only at hSw); go_simp; try with_reducible rfl)
                  try simp only [Act.put, List.setIfInBounds_toArray, List.set_cons_zero, List.set_cons_succ]
                  refine wpAnyH_take (i := 29) (oi := ({ dst := some 192, op := Op.load 3 (Operand.tmp 191), type := 3, pos := _, after := #[{ on := 28, ground := Ground.data }, { on := 24, ground := Ground.guard }], guard := some (24, false) } : Oper)) (v := ?_) rfl (by kernel_rfl) (by kernel_rfl) (by kernel_rfl) (fun _ _ _ h => h) (Or.inl ⟨by rfl, ?_⟩) (by assumption) ?_
                  rotate_left 1
                  · (intro w hSw; (try dsimp only at hSw); go_simp; try with_reducible rfl)
                  try simp only [Act.put, List.setIfInBounds_toArray, List.set_cons_zero, List.set_cons_succ]
                  refine wpAnyH_take (i := 30) (oi := ({ dst := some 193, op := Op.move (Operand.tmp 17), type := 22, pos := _, after := #[{ on := 24, ground := Ground.guard }], guard := some (24, false) } : Oper)) (v := ?_) rfl (by kernel_rfl) (by kernel_rfl) (by kernel_rfl) (fun _ _ _ h => h) (Or.inl ⟨by rfl, ?_⟩) (by assumption) ?_
                  rotate_left 1
                  · (intro w hSw; (try dsimp only at hSw); go_simp; try with_reducible rfl)
                  try simp only [Act.put, List.setIfInBounds_toArray, List.set_cons_zero, List.set_cons_succ]
                  refine wpAnyH_take (i := 31) (oi := ({ dst := some 194, op := Op.call { callee := Callee.builtin Builtin.len, args := #[Operand.tmp 193], argTypes := #[22] }, type := 3, pos := _, after := #[{ on := 30, ground := Ground.data }, { on := 24, ground := Ground.guard }], guard := some (24, false) } : Oper)) (v := ?_) rfl (by kernel_rfl) (by kernel_rfl) (by kernel_rfl) (fun _ _ _ h => h) (Or.inl ⟨by rfl, ?_⟩) (by assumption) ?_
                  rotate_left 1
                  · (intro w hSw; (try dsimp only at hSw); go_simp; try with_reducible rfl)
                  try simp only [Act.put, List.setIfInBounds_toArray, List.set_cons_zero, List.set_cons_succ]
                  refine wpAnyH_take (i := 32) (oi := ({ dst := some 195, op := Op.binOp BinOp.geq 3 (Operand.tmp 192) (Operand.tmp 194) 3, type := 4, pos := _, after := #[{ on := 29, ground := Ground.data }, { on := 31, ground := Ground.data }, { on := 24, ground := Ground.guard }], guard := some (24, false) } : Oper)) (v := ?_) rfl (by kernel_rfl) (by kernel_rfl) (by kernel_rfl) (fun _ _ _ h => h) (Or.inl ⟨by rfl, ?_⟩) (by assumption) ?_
                  rotate_left 1
                  · (intro w hSw; (try dsimp only at hSw); go_simp; try with_reducible rfl)
                  try simp only [Act.put, List.setIfInBounds_toArray, List.set_cons_zero, List.set_cons_succ]
                  refine wpAnyH_take (i := 33) (oi := ({ dst := some 196, op := Op.pick (Operand.tmp 187) (Operand.const (Value.bool true)) (Operand.tmp 195), type := 4, pos := _, after := #[{ on := 24, ground := Ground.data }, { on := 32, ground := Ground.data }], guard := none } : Oper)) (v := ?_) rfl (by kernel_rfl) (by kernel_rfl) (by kernel_rfl) (fun _ _ _ h => h) (Or.inl ⟨by rfl, ?_⟩) (by assumption) ?_
                  rotate_left 1
                  · (intro w hSw; (try dsimp only at hSw); go_simp; try with_reducible rfl)
                  try simp only [Act.put, List.setIfInBounds_toArray, List.set_cons_zero, List.set_cons_succ]
                  refine wpAnyH_take (i := 34) (oi := ({ dst := some 197, op := Op.move (Operand.tmp 196), type := 4, pos := _, after := #[{ on := 33, ground := Ground.data }, { on := 24, ground := Ground.chain }], guard := none } : Oper)) (v := ?_) rfl (by kernel_rfl) (by kernel_rfl) (by kernel_rfl) (fun _ _ _ h => h) (Or.inl ⟨by rfl, ?_⟩) (by assumption) ?_
                  rotate_left 1
                  · (intro w hSw; (try dsimp only at hSw); go_simp; try with_reducible rfl)
                  try simp only [Act.put, List.setIfInBounds_toArray, List.set_cons_zero, List.set_cons_succ]
                  refine wpAnyH_take (i := 35) (oi := ({ dst := some 198, op := Op.move (Operand.tmp 16), type := 30, pos := _, after := #[{ on := 34, ground := Ground.guard }], guard := some (34, false) } : Oper)) (v := ?_) rfl (by kernel_rfl) (by kernel_rfl) (by kernel_rfl) (fun _ _ _ h => h) (Or.inl ⟨by rfl, ?_⟩) (by assumption) ?_
                  rotate_left 1
                  · (intro w hSw; (try dsimp only at hSw); go_simp; try with_reducible rfl)
                  try simp only [Act.put, List.setIfInBounds_toArray, List.set_cons_zero, List.set_cons_succ]
                  refine wpAnyH_take (i := 36) (oi := ({ dst := some 199, op := Op.move (Operand.tmp 19), type := 3, pos := _, after := #[{ on := 34, ground := Ground.guard }], guard := some (34, false) } : Oper)) (v := ?_) rfl (by kernel_rfl) (by kernel_rfl) (by kernel_rfl) (fun _ _ _ h => h) (Or.inl ⟨by rfl, ?_⟩) (by assumption) ?_
                  rotate_left 1
                  · (intro w hSw; (try dsimp only at hSw); go_simp; try with_reducible rfl)
                  try simp only [Act.put, List.setIfInBounds_toArray, List.set_cons_zero, List.set_cons_succ]
                  refine wpAnyH_take (i := 37) (oi := ({ dst := some 200, op := Op.indexAddr 30 (Operand.tmp 198) (Operand.tmp 199), type := 0, pos := _, after := #[{ on := 35, ground := Ground.data }, { on := 36, ground := Ground.data }, { on := 34, ground := Ground.guard }], guard := some (34, false) } : Oper)) (v := ?_) rfl (by kernel_rfl) (by kernel_rfl) (by kernel_rfl) (fun _ _ _ h => h) (Or.inl ⟨by rfl, ?_⟩) (by assumption) ?_
                  rotate_left 1
                  · (intro w hSw; (try dsimp only at hSw); go_simp; try with_reducible rfl)
                  try simp only [Act.put, List.setIfInBounds_toArray, List.set_cons_zero, List.set_cons_succ]
                  refine wpAnyH_take (i := 38) (oi := ({ dst := some 201, op := Op.fieldAddr 49 (Operand.tmp 200) 2, type := 0, pos := _, after := #[{ on := 37, ground := Ground.data }, { on := 34, ground := Ground.guard }], guard := some (34, false) } : Oper)) (v := ?_) rfl (by kernel_rfl) (by kernel_rfl) (by kernel_rfl) (fun _ _ _ h => h) (Or.inl ⟨by rfl, ?_⟩) (by assumption) ?_
                  rotate_left 1
                  · (intro w hSw; (try dsimp only at hSw); go_simp; try with_reducible rfl)
                  try simp only [Act.put, List.setIfInBounds_toArray, List.set_cons_zero, List.set_cons_succ]
                  refine wpAnyH_take (i := 39) (oi := ({ dst := some 202, op := Op.load 3 (Operand.tmp 201), type := 3, pos := _, after := #[{ on := 38, ground := Ground.data }, { on := 34, ground := Ground.guard }], guard := some (34, false) } : Oper)) (v := ?_) rfl (by kernel_rfl) (by kernel_rfl) (by kernel_rfl) (fun _ _ _ h => h) (Or.inl ⟨by rfl, ?_⟩) (by assumption) ?_
                  rotate_left 1
                  · (intro w hSw; (try dsimp only at hSw); go_simp; try with_reducible rfl)
                  try simp only [Act.put, List.setIfInBounds_toArray, List.set_cons_zero, List.set_cons_succ]
                  refine wpAnyH_take (i := 40) (oi := ({ dst := some 203, op := Op.binOp BinOp.lss 3 (Operand.tmp 202) (Operand.const (Value.int IntKind.i64 0)) 3, type := 4, pos := _, after := #[{ on := 39, ground := Ground.data }, { on := 34, ground := Ground.guard }], guard := some (34, false) } : Oper)) (v := ?_) rfl (by kernel_rfl) (by kernel_rfl) (by kernel_rfl) (fun _ _ _ h => h) (Or.inl ⟨by rfl, ?_⟩) (by assumption) ?_
                  rotate_left 1
                  · (intro w hSw; (try dsimp only at hSw); go_simp; try with_reducible rfl)
                  try simp only [Act.put, List.setIfInBounds_toArray, List.set_cons_zero, List.set_cons_succ]
                  refine wpAnyH_take (i := 41) (oi := ({ dst := some 204, op := Op.pick (Operand.tmp 197) (Operand.const (Value.bool true)) (Operand.tmp 203), type := 4, pos := _, after := #[{ on := 34, ground := Ground.data }, { on := 40, ground := Ground.data }], guard := none } : Oper)) (v := ?_) rfl (by kernel_rfl) (by kernel_rfl) (by kernel_rfl) (fun _ _ _ h => h) (Or.inl ⟨by rfl, ?_⟩) (by assumption) ?_
                  rotate_left 1
                  · (intro w hSw; (try dsimp only at hSw); go_simp; try with_reducible rfl)
                  try simp only [Act.put, List.setIfInBounds_toArray, List.set_cons_zero, List.set_cons_succ]
                  refine wpAnyH_take (i := 42) (oi := ({ dst := some 205, op := Op.move (Operand.tmp 204), type := 4, pos := _, after := #[{ on := 41, ground := Ground.data }, { on := 34, ground := Ground.chain }], guard := none } : Oper)) (v := ?_) rfl (by kernel_rfl) (by kernel_rfl) (by kernel_rfl) (fun _ _ _ h => h) (Or.inl ⟨by rfl, ?_⟩) (by assumption) ?_
                  rotate_left 1
                  · (intro w hSw; (try dsimp only at hSw); go_simp; try with_reducible rfl)
                  try simp only [Act.put, List.setIfInBounds_toArray, List.set_cons_zero, List.set_cons_succ]
                  refine wpAnyH_take (i := 43) (oi := ({ dst := some 206, op := Op.move (Operand.tmp 16), type := 30, pos := _, after := #[{ on := 42, ground := Ground.guard }], guard := some (42, false) } : Oper)) (v := ?_) rfl (by kernel_rfl) (by kernel_rfl) (by kernel_rfl) (fun _ _ _ h => h) (Or.inl ⟨by rfl, ?_⟩) (by assumption) ?_
                  rotate_left 1
                  · (intro w hSw; (try dsimp only at hSw); go_simp; try with_reducible rfl)
                  try simp only [Act.put, List.setIfInBounds_toArray, List.set_cons_zero, List.set_cons_succ]
                  refine wpAnyH_take (i := 44) (oi := ({ dst := some 207, op := Op.move (Operand.tmp 19), type := 3, pos := _, after := #[{ on := 42, ground := Ground.guard }], guard := some (42, false) } : Oper)) (v := ?_) rfl (by kernel_rfl) (by kernel_rfl) (by kernel_rfl) (fun _ _ _ h => h) (Or.inl ⟨by rfl, ?_⟩) (by assumption) ?_
                  rotate_left 1
                  · (intro w hSw; (try dsimp only at hSw); go_simp; try with_reducible rfl)
                  try simp only [Act.put, List.setIfInBounds_toArray, List.set_cons_zero, List.set_cons_succ]
                  refine wpAnyH_take (i := 45) (oi := ({ dst := some 208, op := Op.indexAddr 30 (Operand.tmp 206) (Operand.tmp 207), type := 0, pos := _, after := #[{ on := 43, ground := Ground.data }, { on := 44, ground := Ground.data }, { on := 42, ground := Ground.guard }], guard := some (42, false) } : Oper)) (v := ?_) rfl (by kernel_rfl) (by kernel_rfl) (by kernel_rfl) (fun _ _ _ h => h) (Or.inl ⟨by rfl, ?_⟩) (by assumption) ?_
                  rotate_left 1
                  · (intro w hSw; (try dsimp only at hSw); go_simp; try with_reducible rfl)
                  try simp only [Act.put, List.setIfInBounds_toArray, List.set_cons_zero, List.set_cons_succ]
                  refine wpAnyH_take (i := 46) (oi := ({ dst := some 209, op := Op.fieldAddr 49 (Operand.tmp 208) 2, type := 0, pos := _, after := #[{ on := 45, ground := Ground.data }, { on := 42, ground := Ground.guard }], guard := some (42, false) } : Oper)) (v := ?_) rfl (by kernel_rfl) (by kernel_rfl) (by kernel_rfl) (fun _ _ _ h => h) (Or.inl ⟨by rfl, ?_⟩) (by assumption) ?_
                  rotate_left 1
                  · (intro w hSw; (try dsimp only at hSw); go_simp; try with_reducible rfl)
                  try simp only [Act.put, List.setIfInBounds_toArray, List.set_cons_zero, List.set_cons_succ]
                  refine wpAnyH_take (i := 47) (oi := ({ dst := some 210, op := Op.load 3 (Operand.tmp 209), type := 3, pos := _, after := #[{ on := 46, ground := Ground.data }, { on := 42, ground := Ground.guard }], guard := some (42, false) } : Oper)) (v := ?_) rfl (by kernel_rfl) (by kernel_rfl) (by kernel_rfl) (fun _ _ _ h => h) (Or.inl ⟨by rfl, ?_⟩) (by assumption) ?_
                  rotate_left 1
                  · (intro w hSw; (try dsimp only at hSw); go_simp; try with_reducible rfl)
                  try simp only [Act.put, List.setIfInBounds_toArray, List.set_cons_zero, List.set_cons_succ]
                  refine wpAnyH_take (i := 48) (oi := ({ dst := some 211, op := Op.move (Operand.tmp 17), type := 22, pos := _, after := #[{ on := 42, ground := Ground.guard }], guard := some (42, false) } : Oper)) (v := ?_) rfl (by kernel_rfl) (by kernel_rfl) (by kernel_rfl) (fun _ _ _ h => h) (Or.inl ⟨by rfl, ?_⟩) (by assumption) ?_
                  rotate_left 1
                  · (intro w hSw; (try dsimp only at hSw); go_simp; try with_reducible rfl)
                  try simp only [Act.put, List.setIfInBounds_toArray, List.set_cons_zero, List.set_cons_succ]
                  refine wpAnyH_take (i := 49) (oi := ({ dst := some 212, op := Op.move (Operand.tmp 16), type := 30, pos := _, after := #[{ on := 42, ground := Ground.guard }], guard := some (42, false) } : Oper)) (v := ?_) rfl (by kernel_rfl) (by kernel_rfl) (by kernel_rfl) (fun _ _ _ h => h) (Or.inl ⟨by rfl, ?_⟩) (by assumption) ?_
                  rotate_left 1
                  · (intro w hSw; (try dsimp only at hSw); go_simp; try with_reducible rfl)
                  try simp only [Act.put, List.setIfInBounds_toArray, List.set_cons_zero, List.set_cons_succ]
                  refine wpAnyH_take (i := 50) (oi := ({ dst := some 213, op := Op.move (Operand.tmp 19), type := 3, pos := _, after := #[{ on := 42, ground := Ground.guard }], guard := some (42, false) } : Oper)) (v := ?_) rfl (by kernel_rfl) (by kernel_rfl) (by kernel_rfl) (fun _ _ _ h => h) (Or.inl ⟨by rfl, ?_⟩) (by assumption) ?_
                  rotate_left 1
                  · (intro w hSw; (try dsimp only at hSw); go_simp; try with_reducible rfl)
                  try simp only [Act.put, List.setIfInBounds_toArray, List.set_cons_zero, List.set_cons_succ]
                  refine wpAnyH_take (i := 51) (oi := ({ dst := some 214, op := Op.indexAddr 30 (Operand.tmp 212) (Operand.tmp 213), type := 0, pos := _, after := #[{ on := 49, ground := Ground.data }, { on := 50, ground := Ground.data }, { on := 42, ground := Ground.guard }], guard := some (42, false) } : Oper)) (v := ?_) rfl (by kernel_rfl) (by kernel_rfl) (by kernel_rfl) (fun _ _ _ h => h) (Or.inl ⟨by rfl, ?_⟩) (by assumption) ?_
                  rotate_left 1
                  · (intro w hSw; (try dsimp only at hSw); go_simp; try with_reducible rfl)
                  try simp only [Act.put, List.setIfInBounds_toArray, List.set_cons_zero, List.set_cons_succ]
                  refine wpAnyH_take (i := 52) (oi := ({ dst := some 215, op := Op.fieldAddr 49 (Operand.tmp 214) 1, type := 0, pos := _, after := #[{ on := 51, ground := Ground.data }, { on := 42, ground := Ground.guard }], guard := some (42, false) } : Oper)) (v := ?_) rfl (by kernel_rfl) (by kernel_rfl) (by kernel_rfl) (fun _ _ _ h => h) (Or.inl ⟨by rfl, ?_⟩) (by assumption) ?_
                  rotate_left 1
                  · (intro w hSw; (try dsimp only at hSw); go_simp; try with_reducible rfl)
                  try simp only [Act.put, List.setIfInBounds_toArray, List.set_cons_zero, List.set_cons_succ]
                  refine wpAnyH_take (i := 53) (oi := ({ dst := some 216, op := Op.load 3 (Operand.tmp 215), type := 3, pos := _, after := #[{ on := 52, ground := Ground.data }, { on := 42, ground := Ground.guard }], guard := some (42, false) } : Oper)) (v := ?_) rfl (by kernel_rfl) (by kernel_rfl) (by kernel_rfl) (fun _ _ _ h => h) (Or.inl ⟨by rfl, ?_⟩) (by assumption) ?_
                  rotate_left 1
                  · (intro w hSw; (try dsimp only at hSw); go_simp; try with_reducible rfl)
                  try simp only [Act.put, List.setIfInBounds_toArray, List.set_cons_zero, List.set_cons_succ]
                  refine wpAnyH_take (i := 54) (oi := ({ dst := some 217, op := Op.indexAddr 22 (Operand.tmp 211) (Operand.tmp 216), type := 0, pos := _, after := #[{ on := 48, ground := Ground.data }, { on := 53, ground := Ground.data }, { on := 42, ground := Ground.guard }], guard := some (42, false) } : Oper)) (v := ?_) rfl (by kernel_rfl) (by kernel_rfl) (by kernel_rfl) (fun _ _ _ h => h) (Or.inl ⟨by rfl, ?_⟩) (by assumption) ?_
                  rotate_left 1
                  · (intro w hSw; (try dsimp only at hSw); go_simp; try with_reducible rfl)
                  try simp only [Act.put, List.setIfInBounds_toArray, List.set_cons_zero, List.set_cons_succ]
                  refine wpAnyH_take (i := 55) (oi := ({ dst := some 218, op := Op.fieldAddr 26 (Operand.tmp 217) 1, type := 0, pos := _, after := #[{ on := 54, ground := Ground.data }, { on := 42, ground := Ground.guard }], guard := some (42, false) } : Oper)) (v := ?_) rfl (by kernel_rfl) (by kernel_rfl) (by kernel_rfl) (fun _ _ _ h => h) (Or.inl ⟨by rfl, ?_⟩) (by assumption) ?_
                  rotate_left 1
                  · (intro w hSw; (try dsimp only at hSw); go_simp; try with_reducible rfl)
                  try simp only [Act.put, List.setIfInBounds_toArray, List.set_cons_zero, List.set_cons_succ]
                  refine wpAnyH_take (i := 56) (oi := ({ dst := some 219, op := Op.load 3 (Operand.tmp 218), type := 3, pos := _, after := #[{ on := 55, ground := Ground.data }, { on := 42, ground := Ground.guard }], guard := some (42, false) } : Oper)) (v := ?_) rfl (by kernel_rfl) (by kernel_rfl) (by kernel_rfl) (fun _ _ _ h => h) (Or.inl ⟨by rfl, ?_⟩) (by assumption) ?_
                  rotate_left 1
                  · (intro w hSw; (try dsimp only at hSw); go_simp; try with_reducible rfl)
                  try simp only [Act.put, List.setIfInBounds_toArray, List.set_cons_zero, List.set_cons_succ]
                  refine wpAnyH_take (i := 57) (oi := ({ dst := some 220, op := Op.binOp BinOp.mul 3 (Operand.const (Value.int IntKind.i64 64)) (Operand.tmp 219) 3, type := 3, pos := _, after := #[{ on := 56, ground := Ground.data }, { on := 42, ground := Ground.guard }], guard := some (42, false) } : Oper)) (v := ?_) rfl (by kernel_rfl) (by kernel_rfl) (by kernel_rfl) (fun _ _ _ h => h) (Or.inl ⟨by rfl, ?_⟩) (by assumption) ?_
                  rotate_left 1
                  · (intro w hSw; (try dsimp only at hSw); go_simp; try with_reducible rfl)
                  try simp only [Act.put, List.setIfInBounds_toArray, List.set_cons_zero, List.set_cons_succ]
                  refine wpAnyH_take (i := 58) (oi := ({ dst := some 221, op := Op.binOp BinOp.geq 3 (Operand.tmp 210) (Operand.tmp 220) 3, type := 4, pos := _, after := #[{ on := 47, ground := Ground.data }, { on := 57, ground := Ground.data }, { on := 42, ground := Ground.guard }], guard := some (42, false) } : Oper)) (v := ?_) rfl (by kernel_rfl) (by kernel_rfl) (by kernel_rfl) (fun _ _ _ h => h) (Or.inl ⟨by rfl, ?_⟩) (by assumption) ?_
                  rotate_left 1
                  · (intro w hSw; (try dsimp only at hSw); go_simp; try with_reducible rfl)
                  try simp only [Act.put, List.setIfInBounds_toArray, List.set_cons_zero, List.set_cons_succ]
                  refine wpAnyH_take (i := 59) (oi := ({ dst := some 222, op := Op.pick (Operand.tmp 205) (Operand.const (Value.bool true)) (Operand.tmp 221), type := 4, pos := _, after := #[{ on := 42, ground := Ground.data }, { on := 58, ground := Ground.data }], guard := none } : Oper)) (v := ?_) rfl (by kernel_rfl) (by kernel_rfl) (by kernel_rfl) (fun _ _ _ h => h) (Or.inl ⟨by rfl, ?_⟩) (by assumption) ?_
                  rotate_left 1
                  · (intro w hSw; (try dsimp only at hSw); go_simp; try with_reducible rfl)
                  try simp only [Act.put, List.setIfInBounds_toArray, List.set_cons_zero, List.set_cons_succ]
                  refine wpAnyH_done (by kernel_rfl) ?_ _
                  go_wp2_with fail
                  go_roundw
                  case rel => exact ⟨1, by omega, by go_num, HG2.out⟩
                  case measure => simp [intOf]; omega
                · have hjw := hjw.resolve_right hj0
                  have hlt2 := hrise (j - 1) j (by omega) (by omega)
                  obtain ⟨d0, _, _⟩ := (hP.grown hg) (j - 1) (by omega)
                  have hjp : (0 : Int) < (j : Int) := by omega
                  generalize hjq : j - 1 = jp at *
                  have hjp2 : (jp : Int) < (m : Int) := by omega
                  generalize (sat M t).2 = wt at *
                  generalize (pat qs j).1 = A at *
                  generalize (pat qs jp).1 = A' at *
                  have hAA : decide (A ≤ A') = false := by simp; omega
                  have hjd : decide (0 < j) = true := by simp; omega
                  have hjd2 : decide ((0 : Int) < (j : Int)) = true := by simp; omega
                  have hjp0 : 0 < j := by omega
                  have HGA : Hid (w7.grownBy wr none) := hg
                  clear hS hP hrise hrank hok hg ht hr hrw hw1 hw8 hjq
                  have hsvN : decide (n ≤ t) = false := by simp; omega
                  go_upto_region 33 with fail
                  refine wp_region_held_drew (S := (fun W => W.cell? ⟨g16, j * 3, none⟩ = some (.int .u32 A) ∧ W.cell? ⟨g16, j * 3 + 1, none⟩ = some (.int .i64 t) ∧ W.cell? ⟨g16, j * 3 + 2, none⟩ = some (.int .i64 r) ∧ W.cell? ⟨g17, t * 2 + 1, none⟩ = some (.int .i64 wt) ∧ W.cell? ⟨g16, jp * 3, none⟩ = some (.int .u32 A'))) (by kernel_rfl) ⟨c0, c1, c2, e1, d0⟩ (fun hHeld => ?_)
                  refine wpAnyH_take (i := 0) (oi := ({ dst := some 163, op := Op.move (Operand.tmp 19), type := 3, pos := _, after := #[], guard := none } : Oper)) (v := ?_) rfl (by kernel_rfl) (by kernel_rfl) (by kernel_rfl) (fun _ _ _ h => h) (Or.inl ⟨by rfl, ?_⟩) (by assumption) ?_
                  rotate_left 1
                  · (intro w hSw; (try dsimp only at hSw); go_simp; try with_reducible rfl)
                  try simp only [Act.put, List.setIfInBounds_toArray, List.set_cons_zero, List.set_cons_succ]
                  refine wpAnyH_take (i := 1) (oi := ({ dst := some 164, op := Op.binOp BinOp.gtr 3 (Operand.tmp 163) (Operand.const (Value.int IntKind.i64 0)) 3, type := 4, pos := _, after := #[{ on := 0, ground := Ground.data }], guard := none } : Oper)) (v := ?_) rfl (by kernel_rfl) (by kernel_rfl) (by kernel_rfl) (fun _ _ _ h => h) (Or.inl ⟨by rfl, ?_⟩) (by assumption) ?_
                  rotate_left 1
                  · (intro w hSw; (try dsimp only at hSw); go_simp; try with_reducible rfl)
                  try simp only [Act.put, List.setIfInBounds_toArray, List.set_cons_zero, List.set_cons_succ]
                  refine wpAnyH_take (i := 2) (oi := ({ dst := some 165, op := Op.move (Operand.tmp 164), type := 4, pos := _, after := #[{ on := 1, ground := Ground.data }], guard := none } : Oper)) (v := ?_) rfl (by kernel_rfl) (by kernel_rfl) (by kernel_rfl) (fun _ _ _ h => h) (Or.inl ⟨by rfl, ?_⟩) (by assumption) ?_
                  rotate_left 1
                  · (intro w hSw; (try dsimp only at hSw); go_simp; try with_reducible rfl)
                  try simp only [Act.put, List.setIfInBounds_toArray, List.set_cons_zero, List.set_cons_succ]
                  refine wpAnyH_take (i := 3) (oi := ({ dst := some 166, op := Op.move (Operand.tmp 16), type := 30, pos := _, after := #[{ on := 2, ground := Ground.guard }], guard := some (2, true) } : Oper)) (v := ?_) rfl (by kernel_rfl) (by kernel_rfl) (by kernel_rfl) (fun _ _ _ h => h) (Or.inl ⟨by rfl, ?_⟩) (by assumption) ?_
                  rotate_left 1
                  · (intro w hSw; (try dsimp only at hSw); go_simp; try with_reducible rfl)
                  try simp only [Act.put, List.setIfInBounds_toArray, List.set_cons_zero, List.set_cons_succ]
                  refine wpAnyH_take (i := 4) (oi := ({ dst := some 167, op := Op.move (Operand.tmp 19), type := 3, pos := _, after := #[{ on := 2, ground := Ground.guard }], guard := some (2, true) } : Oper)) (v := ?_) rfl (by kernel_rfl) (by kernel_rfl) (by kernel_rfl) (fun _ _ _ h => h) (Or.inl ⟨by rfl, ?_⟩) (by assumption) ?_
                  rotate_left 1
                  · (intro w hSw; (try dsimp only at hSw); go_simp; try with_reducible rfl)
                  try simp only [Act.put, List.setIfInBounds_toArray, List.set_cons_zero, List.set_cons_succ]
                  refine wpAnyH_take (i := 5) (oi := ({ dst := some 168, op := Op.binOp BinOp.sub 3 (Operand.tmp 167) (Operand.const (Value.int IntKind.i64 1)) 3, type := 3, pos := _, after := #[{ on := 4, ground := Ground.data }, { on := 2, ground := Ground.guard }], guard := some (2, true) } : Oper)) (v := ?_) rfl (by kernel_rfl) (by kernel_rfl) (by kernel_rfl) (fun _ _ _ h => h) (Or.inl ⟨by rfl, ?_⟩) (by assumption) ?_
                  rotate_left 1
                  · (intro w hSw; (try dsimp only at hSw); go_simp; try with_reducible rfl)
                  try simp only [Act.put, List.setIfInBounds_toArray, List.set_cons_zero, List.set_cons_succ]
                  refine wpAnyH_take (i := 6) (oi := ({ dst := some 169, op := Op.indexAddr 30 (Operand.tmp 166) (Operand.tmp 168), type := 0, pos := _, after := #[{ on := 3, ground := Ground.data }, { on := 5, ground := Ground.data }, { on := 2, ground := Ground.guard }], guard := some (2, true) } : Oper)) (v := ?_) rfl (by kernel_rfl) (by kernel_rfl) (by kernel_rfl) (fun _ _ _ h => h) (Or.inl ⟨by rfl, ?_⟩) (by assumption) ?_
                  rotate_left 1
                  · (intro w hSw; (try dsimp only at hSw); go_simp; try with_reducible rfl)
                  try simp only [Act.put, List.setIfInBounds_toArray, List.set_cons_zero, List.set_cons_succ]
                  refine wpAnyH_take (i := 7) (oi := ({ dst := some 170, op := Op.fieldAddr 49 (Operand.tmp 169) 0, type := 0, pos := _, after := #[{ on := 6, ground := Ground.data }, { on := 2, ground := Ground.guard }], guard := some (2, true) } : Oper)) (v := ?_) rfl (by kernel_rfl) (by kernel_rfl) (by kernel_rfl) (fun _ _ _ h => h) (Or.inl ⟨by rfl, ?_⟩) (by assumption) ?_
                  rotate_left 1
                  · (intro w hSw; (try dsimp only at hSw); go_simp; try with_reducible rfl)
                  try simp only [Act.put, List.setIfInBounds_toArray, List.set_cons_zero, List.set_cons_succ]
                  refine wpAnyH_take (i := 8) (oi := ({ dst := some 171, op := Op.load 47 (Operand.tmp 170), type := 47, pos := _, after := #[{ on := 7, ground := Ground.data }, { on := 2, ground := Ground.guard }], guard := some (2, true) } : Oper)) (v := ?_) rfl (by kernel_rfl) (by kernel_rfl) (by kernel_rfl) (fun _ _ _ h => h) (Or.inl ⟨by rfl, ?_⟩) (by assumption) ?_
                  rotate_left 1
                  · (intro w hSw; (try dsimp only at hSw); go_simp; try with_reducible rfl)
                  try simp only [Act.put, List.setIfInBounds_toArray, List.set_cons_zero, List.set_cons_succ]
                  refine wpAnyH_take (i := 9) (oi := ({ dst := some 172, op := Op.move (Operand.tmp 16), type := 30, pos := _, after := #[{ on := 2, ground := Ground.guard }], guard := some (2, true) } : Oper)) (v := ?_) rfl (by kernel_rfl) (by kernel_rfl) (by kernel_rfl) (fun _ _ _ h => h) (Or.inl ⟨by rfl, ?_⟩) (by assumption) ?_
                  rotate_left 1
                  · (intro w hSw; (try dsimp only at hSw); go_simp; try with_reducible rfl)
                  try simp only [Act.put, List.setIfInBounds_toArray, List.set_cons_zero, List.set_cons_succ]
                  refine wpAnyH_take (i := 10) (oi := ({ dst := some 173, op := Op.move (Operand.tmp 19), type := 3, pos := _, after := #[{ on := 2, ground := Ground.guard }], guard := some (2, true) } : Oper)) (v := ?_) rfl (by kernel_rfl) (by kernel_rfl) (by kernel_rfl) (fun _ _ _ h => h) (Or.inl ⟨by rfl, ?_⟩) (by assumption) ?_
                  rotate_left 1
                  · (intro w hSw; (try dsimp only at hSw); go_simp; try with_reducible rfl)
                  try simp only [Act.put, List.setIfInBounds_toArray, List.set_cons_zero, List.set_cons_succ]
                  refine wpAnyH_take (i := 11) (oi := ({ dst := some 174, op := Op.indexAddr 30 (Operand.tmp 172) (Operand.tmp 173), type := 0, pos := _, after := #[{ on := 9, ground := Ground.data }, { on := 10, ground := Ground.data }, { on := 2, ground := Ground.guard }], guard := some (2, true) } : Oper)) (v := ?_) rfl (by kernel_rfl) (by kernel_rfl) (by kernel_rfl) (fun _ _ _ h => h) (Or.inl ⟨by rfl, ?_⟩) (by assumption) ?_
                  rotate_left 1
                  · (intro w hSw; (try dsimp only at hSw); go_simp; try with_reducible rfl)
                  try simp only [Act.put, List.setIfInBounds_toArray, List.set_cons_zero, List.set_cons_succ]
                  refine wpAnyH_take (i := 12) (oi := ({ dst := some 175, op := Op.fieldAddr 49 (Operand.tmp 174) 0, type := 0, pos := _, after := #[{ on := 11, ground := Ground.data }, { on := 2, ground := Ground.guard }], guard := some (2, true) } : Oper)) (v := ?_) rfl (by kernel_rfl) (by kernel_rfl) (by kernel_rfl) (fun _ _ _ h => h) (Or.inl ⟨by rfl, ?_⟩) (by assumption) ?_
                  rotate_left 1
                  · (intro w hSw; (try dsimp only at hSw); go_simp; try with_reducible rfl)
                  try simp only [Act.put, List.setIfInBounds_toArray, List.set_cons_zero, List.set_cons_succ]
                  refine wpAnyH_take (i := 13) (oi := ({ dst := some 176, op := Op.load 47 (Operand.tmp 175), type := 47, pos := _, after := #[{ on := 12, ground := Ground.data }, { on := 2, ground := Ground.guard }], guard := some (2, true) } : Oper)) (v := ?_) rfl (by kernel_rfl) (by kernel_rfl) (by kernel_rfl) (fun _ _ _ h => h) (Or.inl ⟨by rfl, ?_⟩) (by assumption) ?_
                  rotate_left 1
                  · (intro w hSw; (try dsimp only at hSw); go_simp; try with_reducible rfl)
                  try simp only [Act.put, List.setIfInBounds_toArray, List.set_cons_zero, List.set_cons_succ]
                  refine wpAnyH_take (i := 14) (oi := ({ dst := some 177, op := Op.binOp BinOp.geq 47 (Operand.tmp 171) (Operand.tmp 176) 47, type := 4, pos := _, after := #[{ on := 8, ground := Ground.data }, { on := 13, ground := Ground.data }, { on := 2, ground := Ground.guard }], guard := some (2, true) } : Oper)) (v := ?_) rfl (by kernel_rfl) (by kernel_rfl) (by kernel_rfl) (fun _ _ _ h => h) (Or.inl ⟨by rfl, ?_⟩) (by assumption) ?_
                  rotate_left 1
                  · (intro w hSw; (try dsimp only at hSw); go_simp; try with_reducible rfl)
                  try simp only [Act.put, List.setIfInBounds_toArray, List.set_cons_zero, List.set_cons_succ]
                  refine wpAnyH_take (i := 15) (oi := ({ dst := some 178, op := Op.pick (Operand.tmp 165) (Operand.tmp 177) (Operand.const (Value.bool false)), type := 4, pos := _, after := #[{ on := 2, ground := Ground.data }, { on := 14, ground := Ground.data }], guard := none } : Oper)) (v := ?_) rfl (by kernel_rfl) (by kernel_rfl) (by kernel_rfl) (fun _ _ _ h => h) (Or.inl ⟨by rfl, ?_⟩) (by assumption) ?_
                  rotate_left 1
                  · (intro w hSw; (try dsimp only at hSw); go_simp; try with_reducible rfl)
                  try simp only [Act.put, List.setIfInBounds_toArray, List.set_cons_zero, List.set_cons_succ]
                  refine wpAnyH_take (i := 16) (oi := ({ dst := some 179, op := Op.move (Operand.tmp 178), type := 4, pos := _, after := #[{ on := 15, ground := Ground.data }, { on := 2, ground := Ground.chain }], guard := none } : Oper)) (v := ?_) rfl (by kernel_rfl) (by kernel_rfl) (by kernel_rfl) (fun _ _ _ h => h) (Or.inl ⟨by rfl, ?_⟩) (by assumption) ?_
                  rotate_left 1
                  · (intro w hSw; (try dsimp only at hSw); go_simp; try with_reducible rfl)
                  try simp only [Act.put, List.setIfInBounds_toArray, List.set_cons_zero, List.set_cons_succ]
                  refine wpAnyH_take (i := 17) (oi := ({ dst := some 180, op := Op.move (Operand.tmp 16), type := 30, pos := _, after := #[{ on := 16, ground := Ground.guard }], guard := some (16, false) } : Oper)) (v := ?_) rfl (by kernel_rfl) (by kernel_rfl) (by kernel_rfl) (fun _ _ _ h => h) (Or.inl ⟨by rfl, ?_⟩) (by assumption) ?_
                  rotate_left 1
                  · (intro w hSw; (try dsimp only at hSw); go_simp; try with_reducible rfl)
                  try simp only [Act.put, List.setIfInBounds_toArray, List.set_cons_zero, List.set_cons_succ]
                  refine wpAnyH_take (i := 18) (oi := ({ dst := some 181, op := Op.move (Operand.tmp 19), type := 3, pos := _, after := #[{ on := 16, ground := Ground.guard }], guard := some (16, false) } : Oper)) (v := ?_) rfl (by kernel_rfl) (by kernel_rfl) (by kernel_rfl) (fun _ _ _ h => h) (Or.inl ⟨by rfl, ?_⟩) (by assumption) ?_
                  rotate_left 1
                  · (intro w hSw; (try dsimp only at hSw); go_simp; try with_reducible rfl)
                  try simp only [Act.put, List.setIfInBounds_toArray, List.set_cons_zero, List.set_cons_succ]
                  refine wpAnyH_take (i := 19) (oi := ({ dst := some 182, op := Op.indexAddr 30 (Operand.tmp 180) (Operand.tmp 181), type := 0, pos := _, after := #[{ on := 17, ground := Ground.data }, { on := 18, ground := Ground.data }, { on := 16, ground := Ground.guard }], guard := some (16, false) } : Oper)) (v := ?_) rfl (by kernel_rfl) (by kernel_rfl) (by kernel_rfl) (fun _ _ _ h => h) (Or.inl ⟨by rfl, ?_⟩) (by assumption) ?_
                  rotate_left 1
                  · (intro w hSw; (try dsimp only at hSw); go_simp; try with_reducible rfl)
                  try simp only [Act.put, List.setIfInBounds_toArray, List.set_cons_zero, List.set_cons_succ]
                  refine wpAnyH_take (i := 20) (oi := ({ dst := some 183, op := Op.fieldAddr 49 (Operand.tmp 182) 1, type := 0, pos := _, after := #[{ on := 19, ground := Ground.data }, { on := 16, ground := Ground.guard }], guard := some (16, false) } : Oper)) (v := ?_) rfl (by kernel_rfl) (by kernel_rfl) (by kernel_rfl) (fun _ _ _ h => h) (Or.inl ⟨by rfl, ?_⟩) (by assumption) ?_
                  rotate_left 1
                  · (intro w hSw; (try dsimp only at hSw); go_simp; try with_reducible rfl)
                  try simp only [Act.put, List.setIfInBounds_toArray, List.set_cons_zero, List.set_cons_succ]
                  refine wpAnyH_take (i := 21) (oi := ({ dst := some 184, op := Op.load 3 (Operand.tmp 183), type := 3, pos := _, after := #[{ on := 20, ground := Ground.data }, { on := 16, ground := Ground.guard }], guard := some (16, false) } : Oper)) (v := ?_) rfl (by kernel_rfl) (by kernel_rfl) (by kernel_rfl) (fun _ _ _ h => h) (Or.inl ⟨by rfl, ?_⟩) (by assumption) ?_
                  rotate_left 1
                  · (intro w hSw; (try dsimp only at hSw); go_simp; try with_reducible rfl)
                  try simp only [Act.put, List.setIfInBounds_toArray, List.set_cons_zero, List.set_cons_succ]
                  refine wpAnyH_take (i := 22) (oi := ({ dst := some 185, op := Op.binOp BinOp.lss 3 (Operand.tmp 184) (Operand.const (Value.int IntKind.i64 0)) 3, type := 4, pos := _, after := #[{ on := 21, ground := Ground.data }, { on := 16, ground := Ground.guard }], guard := some (16, false) } : Oper)) (v := ?_) rfl (by kernel_rfl) (by kernel_rfl) (by kernel_rfl) (fun _ _ _ h => h) (Or.inl ⟨by rfl, ?_⟩) (by assumption) ?_
                  rotate_left 1
                  · (intro w hSw; (try dsimp only at hSw); go_simp; try with_reducible rfl)
                  try simp only [Act.put, List.setIfInBounds_toArray, List.set_cons_zero, List.set_cons_succ]
                  refine wpAnyH_take (i := 23) (oi := ({ dst := some 186, op := Op.pick (Operand.tmp 179) (Operand.const (Value.bool true)) (Operand.tmp 185), type := 4, pos := _, after := #[{ on := 16, ground := Ground.data }, { on := 22, ground := Ground.data }], guard := none } : Oper)) (v := ?_) rfl (by kernel_rfl) (by kernel_rfl) (by kernel_rfl) (fun _ _ _ h => h) (Or.inl ⟨by rfl, ?_⟩) (by assumption) ?_
                  rotate_left 1
                  · (intro w hSw; (try dsimp only at hSw); go_simp; try with_reducible rfl)
                  try simp only [Act.put, List.setIfInBounds_toArray, List.set_cons_zero, List.set_cons_succ]
                  refine wpAnyH_take (i := 24) (oi := ({ dst := some 187, op := Op.move (Operand.tmp 186), type := 4, pos := _, after := #[{ on := 23, ground := Ground.data }, { on := 16, ground := Ground.chain }], guard := none } : Oper)) (v := ?_) rfl (by kernel_rfl) (by kernel_rfl) (by kernel_rfl) (fun _ _ _ h => h) (Or.inl ⟨by rfl, ?_⟩) (by assumption) ?_
                  rotate_left 1
                  · (intro w hSw; (try dsimp only at hSw); go_simp; try with_reducible rfl)
                  try simp only [Act.put, List.setIfInBounds_toArray, List.set_cons_zero, List.set_cons_succ]
                  refine wpAnyH_take (i := 25) (oi := ({ dst := some 188, op := Op.move (Operand.tmp 16), type := 30, pos := _, after := #[{ on := 24, ground := Ground.guard }], guard := some (24, false) } : Oper)) (v := ?_) rfl (by kernel_rfl) (by kernel_rfl) (by kernel_rfl) (fun _ _ _ h => h) (Or.inl ⟨by rfl, ?_⟩) (by assumption) ?_
                  rotate_left 1
                  · (intro w hSw; (try dsimp only at hSw); go_simp; try with_reducible rfl)
                  try simp only [Act.put, List.setIfInBounds_toArray, List.set_cons_zero, List.set_cons_succ]
                  refine wpAnyH_take (i := 26) (oi := ({ dst := some 189, op := Op.move (Operand.tmp 19), type := 3, pos := _, after := #[{ on := 24, ground := Ground.guard }], guard := some (24, false) } : Oper)) (v := ?_) rfl (by kernel_rfl) (by kernel_rfl) (by kernel_rfl) (fun _ _ _ h => h) (Or.inl ⟨by rfl, ?_⟩) (by assumption) ?_
                  rotate_left 1
                  · (intro w hSw; (try dsimp only at hSw); go_simp; try with_reducible rfl)
                  try simp only [Act.put, List.setIfInBounds_toArray, List.set_cons_zero, List.set_cons_succ]
                  refine wpAnyH_take (i := 27) (oi := ({ dst := some 190, op := Op.indexAddr 30 (Operand.tmp 188) (Operand.tmp 189), type := 0, pos := _, after := #[{ on := 25, ground := Ground.data }, { on := 26, ground := Ground.data }, { on := 24, ground := Ground.guard }], guard := some (24, false) } : Oper)) (v := ?_) rfl (by kernel_rfl) (by kernel_rfl) (by kernel_rfl) (fun _ _ _ h => h) (Or.inl ⟨by rfl, ?_⟩) (by assumption) ?_
                  rotate_left 1
                  · (intro w hSw; (try dsimp only at hSw); go_simp; try with_reducible rfl)
                  try simp only [Act.put, List.setIfInBounds_toArray, List.set_cons_zero, List.set_cons_succ]
                  refine wpAnyH_take (i := 28) (oi := ({ dst := some 191, op := Op.fieldAddr 49 (Operand.tmp 190) 1, type := 0, pos := _, after := #[{ on := 27, ground := Ground.data }, { on := 24, ground := Ground.guard }], guard := some (24, false) } : Oper)) (v := ?_) rfl (by kernel_rfl) (by kernel_rfl) (by kernel_rfl) (fun _ _ _ h => h) (Or.inl ⟨by rfl, ?_⟩) (by assumption) ?_
                  rotate_left 1
                  · (intro w hSw; (try dsimp only at hSw); go_simp; try with_reducible rfl)
                  try simp only [Act.put, List.setIfInBounds_toArray, List.set_cons_zero, List.set_cons_succ]
                  refine wpAnyH_take (i := 29) (oi := ({ dst := some 192, op := Op.load 3 (Operand.tmp 191), type := 3, pos := _, after := #[{ on := 28, ground := Ground.data }, { on := 24, ground := Ground.guard }], guard := some (24, false) } : Oper)) (v := ?_) rfl (by kernel_rfl) (by kernel_rfl) (by kernel_rfl) (fun _ _ _ h => h) (Or.inl ⟨by rfl, ?_⟩) (by assumption) ?_
                  rotate_left 1
                  · (intro w hSw; (try dsimp only at hSw); go_simp; try with_reducible rfl)
                  try simp only [Act.put, List.setIfInBounds_toArray, List.set_cons_zero, List.set_cons_succ]
                  refine wpAnyH_take (i := 30) (oi := ({ dst := some 193, op := Op.move (Operand.tmp 17), type := 22, pos := _, after := #[{ on := 24, ground := Ground.guard }], guard := some (24, false) } : Oper)) (v := ?_) rfl (by kernel_rfl) (by kernel_rfl) (by kernel_rfl) (fun _ _ _ h => h) (Or.inl ⟨by rfl, ?_⟩) (by assumption) ?_
                  rotate_left 1
                  · (intro w hSw; (try dsimp only at hSw); go_simp; try with_reducible rfl)
                  try simp only [Act.put, List.setIfInBounds_toArray, List.set_cons_zero, List.set_cons_succ]
                  refine wpAnyH_take (i := 31) (oi := ({ dst := some 194, op := Op.call { callee := Callee.builtin Builtin.len, args := #[Operand.tmp 193], argTypes := #[22] }, type := 3, pos := _, after := #[{ on := 30, ground := Ground.data }, { on := 24, ground := Ground.guard }], guard := some (24, false) } : Oper)) (v := ?_) rfl (by kernel_rfl) (by kernel_rfl) (by kernel_rfl) (fun _ _ _ h => h) (Or.inl ⟨by rfl, ?_⟩) (by assumption) ?_
                  rotate_left 1
                  · (intro w hSw; (try dsimp only at hSw); go_simp; try with_reducible rfl)
                  try simp only [Act.put, List.setIfInBounds_toArray, List.set_cons_zero, List.set_cons_succ]
                  refine wpAnyH_take (i := 32) (oi := ({ dst := some 195, op := Op.binOp BinOp.geq 3 (Operand.tmp 192) (Operand.tmp 194) 3, type := 4, pos := _, after := #[{ on := 29, ground := Ground.data }, { on := 31, ground := Ground.data }, { on := 24, ground := Ground.guard }], guard := some (24, false) } : Oper)) (v := ?_) rfl (by kernel_rfl) (by kernel_rfl) (by kernel_rfl) (fun _ _ _ h => h) (Or.inl ⟨by rfl, ?_⟩) (by assumption) ?_
                  rotate_left 1
                  · (intro w hSw; (try dsimp only at hSw); go_simp; try with_reducible rfl)
                  try simp only [Act.put, List.setIfInBounds_toArray, List.set_cons_zero, List.set_cons_succ]
                  refine wpAnyH_take (i := 33) (oi := ({ dst := some 196, op := Op.pick (Operand.tmp 187) (Operand.const (Value.bool true)) (Operand.tmp 195), type := 4, pos := _, after := #[{ on := 24, ground := Ground.data }, { on := 32, ground := Ground.data }], guard := none } : Oper)) (v := ?_) rfl (by kernel_rfl) (by kernel_rfl) (by kernel_rfl) (fun _ _ _ h => h) (Or.inl ⟨by rfl, ?_⟩) (by assumption) ?_
                  rotate_left 1
                  · (intro w hSw; (try dsimp only at hSw); go_simp; try with_reducible rfl)
                  try simp only [Act.put, List.setIfInBounds_toArray, List.set_cons_zero, List.set_cons_succ]
                  refine wpAnyH_take (i := 34) (oi := ({ dst := some 197, op := Op.move (Operand.tmp 196), type := 4, pos := _, after := #[{ on := 33, ground := Ground.data }, { on := 24, ground := Ground.chain }], guard := none } : Oper)) (v := ?_) rfl (by kernel_rfl) (by kernel_rfl) (by kernel_rfl) (fun _ _ _ h => h) (Or.inl ⟨by rfl, ?_⟩) (by assumption) ?_
                  rotate_left 1
                  · (intro w hSw; (try dsimp only at hSw); go_simp; try with_reducible rfl)
                  try simp only [Act.put, List.setIfInBounds_toArray, List.set_cons_zero, List.set_cons_succ]
                  refine wpAnyH_take (i := 35) (oi := ({ dst := some 198, op := Op.move (Operand.tmp 16), type := 30, pos := _, after := #[{ on := 34, ground := Ground.guard }], guard := some (34, false) } : Oper)) (v := ?_) rfl (by kernel_rfl) (by kernel_rfl) (by kernel_rfl) (fun _ _ _ h => h) (Or.inl ⟨by rfl, ?_⟩) (by assumption) ?_
                  rotate_left 1
                  · (intro w hSw; (try dsimp only at hSw); go_simp; try with_reducible rfl)
                  try simp only [Act.put, List.setIfInBounds_toArray, List.set_cons_zero, List.set_cons_succ]
                  refine wpAnyH_take (i := 36) (oi := ({ dst := some 199, op := Op.move (Operand.tmp 19), type := 3, pos := _, after := #[{ on := 34, ground := Ground.guard }], guard := some (34, false) } : Oper)) (v := ?_) rfl (by kernel_rfl) (by kernel_rfl) (by kernel_rfl) (fun _ _ _ h => h) (Or.inl ⟨by rfl, ?_⟩) (by assumption) ?_
                  rotate_left 1
                  · (intro w hSw; (try dsimp only at hSw); go_simp; try with_reducible rfl)
                  try simp only [Act.put, List.setIfInBounds_toArray, List.set_cons_zero, List.set_cons_succ]
                  refine wpAnyH_take (i := 37) (oi := ({ dst := some 200, op := Op.indexAddr 30 (Operand.tmp 198) (Operand.tmp 199), type := 0, pos := _, after := #[{ on := 35, ground := Ground.data }, { on := 36, ground := Ground.data }, { on := 34, ground := Ground.guard }], guard := some (34, false) } : Oper)) (v := ?_) rfl (by kernel_rfl) (by kernel_rfl) (by kernel_rfl) (fun _ _ _ h => h) (Or.inl ⟨by rfl, ?_⟩) (by assumption) ?_
                  rotate_left 1
                  · (intro w hSw; (try dsimp only at hSw); go_simp; try with_reducible rfl)
                  try simp only [Act.put, List.setIfInBounds_toArray, List.set_cons_zero, List.set_cons_succ]
                  refine wpAnyH_take (i := 38) (oi := ({ dst := some 201, op := Op.fieldAddr 49 (Operand.tmp 200) 2, type := 0, pos := _, after := #[{ on := 37, ground := Ground.data }, { on := 34, ground := Ground.guard }], guard := some (34, false) } : Oper)) (v := ?_) rfl (by kernel_rfl) (by kernel_rfl) (by kernel_rfl) (fun _ _ _ h => h) (Or.inl ⟨by rfl, ?_⟩) (by assumption) ?_
                  rotate_left 1
                  · (intro w hSw; (try dsimp only at hSw); go_simp; try with_reducible rfl)
                  try simp only [Act.put, List.setIfInBounds_toArray, List.set_cons_zero, List.set_cons_succ]
                  refine wpAnyH_take (i := 39) (oi := ({ dst := some 202, op := Op.load 3 (Operand.tmp 201), type := 3, pos := _, after := #[{ on := 38, ground := Ground.data }, { on := 34, ground := Ground.guard }], guard := some (34, false) } : Oper)) (v := ?_) rfl (by kernel_rfl) (by kernel_rfl) (by kernel_rfl) (fun _ _ _ h => h) (Or.inl ⟨by rfl, ?_⟩) (by assumption) ?_
                  rotate_left 1
                  · (intro w hSw; (try dsimp only at hSw); go_simp; try with_reducible rfl)
                  try simp only [Act.put, List.setIfInBounds_toArray, List.set_cons_zero, List.set_cons_succ]
                  refine wpAnyH_take (i := 40) (oi := ({ dst := some 203, op := Op.binOp BinOp.lss 3 (Operand.tmp 202) (Operand.const (Value.int IntKind.i64 0)) 3, type := 4, pos := _, after := #[{ on := 39, ground := Ground.data }, { on := 34, ground := Ground.guard }], guard := some (34, false) } : Oper)) (v := ?_) rfl (by kernel_rfl) (by kernel_rfl) (by kernel_rfl) (fun _ _ _ h => h) (Or.inl ⟨by rfl, ?_⟩) (by assumption) ?_
                  rotate_left 1
                  · (intro w hSw; (try dsimp only at hSw); go_simp; try with_reducible rfl)
                  try simp only [Act.put, List.setIfInBounds_toArray, List.set_cons_zero, List.set_cons_succ]
                  refine wpAnyH_take (i := 41) (oi := ({ dst := some 204, op := Op.pick (Operand.tmp 197) (Operand.const (Value.bool true)) (Operand.tmp 203), type := 4, pos := _, after := #[{ on := 34, ground := Ground.data }, { on := 40, ground := Ground.data }], guard := none } : Oper)) (v := ?_) rfl (by kernel_rfl) (by kernel_rfl) (by kernel_rfl) (fun _ _ _ h => h) (Or.inl ⟨by rfl, ?_⟩) (by assumption) ?_
                  rotate_left 1
                  · (intro w hSw; (try dsimp only at hSw); go_simp; try with_reducible rfl)
                  try simp only [Act.put, List.setIfInBounds_toArray, List.set_cons_zero, List.set_cons_succ]
                  refine wpAnyH_take (i := 42) (oi := ({ dst := some 205, op := Op.move (Operand.tmp 204), type := 4, pos := _, after := #[{ on := 41, ground := Ground.data }, { on := 34, ground := Ground.chain }], guard := none } : Oper)) (v := ?_) rfl (by kernel_rfl) (by kernel_rfl) (by kernel_rfl) (fun _ _ _ h => h) (Or.inl ⟨by rfl, ?_⟩) (by assumption) ?_
                  rotate_left 1
                  · (intro w hSw; (try dsimp only at hSw); go_simp; try with_reducible rfl)
                  try simp only [Act.put, List.setIfInBounds_toArray, List.set_cons_zero, List.set_cons_succ]
                  refine wpAnyH_take (i := 43) (oi := ({ dst := some 206, op := Op.move (Operand.tmp 16), type := 30, pos := _, after := #[{ on := 42, ground := Ground.guard }], guard := some (42, false) } : Oper)) (v := ?_) rfl (by kernel_rfl) (by kernel_rfl) (by kernel_rfl) (fun _ _ _ h => h) (Or.inl ⟨by rfl, ?_⟩) (by assumption) ?_
                  rotate_left 1
                  · (intro w hSw; (try dsimp only at hSw); go_simp; try with_reducible rfl)
                  try simp only [Act.put, List.setIfInBounds_toArray, List.set_cons_zero, List.set_cons_succ]
                  refine wpAnyH_take (i := 44) (oi := ({ dst := some 207, op := Op.move (Operand.tmp 19), type := 3, pos := _, after := #[{ on := 42, ground := Ground.guard }], guard := some (42, false) } : Oper)) (v := ?_) rfl (by kernel_rfl) (by kernel_rfl) (by kernel_rfl) (fun _ _ _ h => h) (Or.inl ⟨by rfl, ?_⟩) (by assumption) ?_
                  rotate_left 1
                  · (intro w hSw; (try dsimp only at hSw); go_simp; try with_reducible rfl)
                  try simp only [Act.put, List.setIfInBounds_toArray, List.set_cons_zero, List.set_cons_succ]
                  refine wpAnyH_take (i := 45) (oi := ({ dst := some 208, op := Op.indexAddr 30 (Operand.tmp 206) (Operand.tmp 207), type := 0, pos := _, after := #[{ on := 43, ground := Ground.data }, { on := 44, ground := Ground.data }, { on := 42, ground := Ground.guard }], guard := some (42, false) } : Oper)) (v := ?_) rfl (by kernel_rfl) (by kernel_rfl) (by kernel_rfl) (fun _ _ _ h => h) (Or.inl ⟨by rfl, ?_⟩) (by assumption) ?_
                  rotate_left 1
                  · (intro w hSw; (try dsimp only at hSw); go_simp; try with_reducible rfl)
                  try simp only [Act.put, List.setIfInBounds_toArray, List.set_cons_zero, List.set_cons_succ]
                  refine wpAnyH_take (i := 46) (oi := ({ dst := some 209, op := Op.fieldAddr 49 (Operand.tmp 208) 2, type := 0, pos := _, after := #[{ on := 45, ground := Ground.data }, { on := 42, ground := Ground.guard }], guard := some (42, false) } : Oper)) (v := ?_) rfl (by kernel_rfl) (by kernel_rfl) (by kernel_rfl) (fun _ _ _ h => h) (Or.inl ⟨by rfl, ?_⟩) (by assumption) ?_
                  rotate_left 1
                  · (intro w hSw; (try dsimp only at hSw); go_simp; try with_reducible rfl)
                  try simp only [Act.put, List.setIfInBounds_toArray, List.set_cons_zero, List.set_cons_succ]
                  refine wpAnyH_take (i := 47) (oi := ({ dst := some 210, op := Op.load 3 (Operand.tmp 209), type := 3, pos := _, after := #[{ on := 46, ground := Ground.data }, { on := 42, ground := Ground.guard }], guard := some (42, false) } : Oper)) (v := ?_) rfl (by kernel_rfl) (by kernel_rfl) (by kernel_rfl) (fun _ _ _ h => h) (Or.inl ⟨by rfl, ?_⟩) (by assumption) ?_
                  rotate_left 1
                  · (intro w hSw; (try dsimp only at hSw); go_simp; try with_reducible rfl)
                  try simp only [Act.put, List.setIfInBounds_toArray, List.set_cons_zero, List.set_cons_succ]
                  refine wpAnyH_take (i := 48) (oi := ({ dst := some 211, op := Op.move (Operand.tmp 17), type := 22, pos := _, after := #[{ on := 42, ground := Ground.guard }], guard := some (42, false) } : Oper)) (v := ?_) rfl (by kernel_rfl) (by kernel_rfl) (by kernel_rfl) (fun _ _ _ h => h) (Or.inl ⟨by rfl, ?_⟩) (by assumption) ?_
                  rotate_left 1
                  · (intro w hSw; (try dsimp only at hSw); go_simp; try with_reducible rfl)
                  try simp only [Act.put, List.setIfInBounds_toArray, List.set_cons_zero, List.set_cons_succ]
                  refine wpAnyH_take (i := 49) (oi := ({ dst := some 212, op := Op.move (Operand.tmp 16), type := 30, pos := _, after := #[{ on := 42, ground := Ground.guard }], guard := some (42, false) } : Oper)) (v := ?_) rfl (by kernel_rfl) (by kernel_rfl) (by kernel_rfl) (fun _ _ _ h => h) (Or.inl ⟨by rfl, ?_⟩) (by assumption) ?_
                  rotate_left 1
                  · (intro w hSw; (try dsimp only at hSw); go_simp; try with_reducible rfl)
                  try simp only [Act.put, List.setIfInBounds_toArray, List.set_cons_zero, List.set_cons_succ]
                  refine wpAnyH_take (i := 50) (oi := ({ dst := some 213, op := Op.move (Operand.tmp 19), type := 3, pos := _, after := #[{ on := 42, ground := Ground.guard }], guard := some (42, false) } : Oper)) (v := ?_) rfl (by kernel_rfl) (by kernel_rfl) (by kernel_rfl) (fun _ _ _ h => h) (Or.inl ⟨by rfl, ?_⟩) (by assumption) ?_
                  rotate_left 1
                  · (intro w hSw; (try dsimp only at hSw); go_simp; try with_reducible rfl)
                  try simp only [Act.put, List.setIfInBounds_toArray, List.set_cons_zero, List.set_cons_succ]
                  refine wpAnyH_take (i := 51) (oi := ({ dst := some 214, op := Op.indexAddr 30 (Operand.tmp 212) (Operand.tmp 213), type := 0, pos := _, after := #[{ on := 49, ground := Ground.data }, { on := 50, ground := Ground.data }, { on := 42, ground := Ground.guard }], guard := some (42, false) } : Oper)) (v := ?_) rfl (by kernel_rfl) (by kernel_rfl) (by kernel_rfl) (fun _ _ _ h => h) (Or.inl ⟨by rfl, ?_⟩) (by assumption) ?_
                  rotate_left 1
                  · (intro w hSw; (try dsimp only at hSw); go_simp; try with_reducible rfl)
                  try simp only [Act.put, List.setIfInBounds_toArray, List.set_cons_zero, List.set_cons_succ]
                  refine wpAnyH_take (i := 52) (oi := ({ dst := some 215, op := Op.fieldAddr 49 (Operand.tmp 214) 1, type := 0, pos := _, after := #[{ on := 51, ground := Ground.data }, { on := 42, ground := Ground.guard }], guard := some (42, false) } : Oper)) (v := ?_) rfl (by kernel_rfl) (by kernel_rfl) (by kernel_rfl) (fun _ _ _ h => h) (Or.inl ⟨by rfl, ?_⟩) (by assumption) ?_
                  rotate_left 1
                  · (intro w hSw; (try dsimp only at hSw); go_simp; try with_reducible rfl)
                  try simp only [Act.put, List.setIfInBounds_toArray, List.set_cons_zero, List.set_cons_succ]
                  refine wpAnyH_take (i := 53) (oi := ({ dst := some 216, op := Op.load 3 (Operand.tmp 215), type := 3, pos := _, after := #[{ on := 52, ground := Ground.data }, { on := 42, ground := Ground.guard }], guard := some (42, false) } : Oper)) (v := ?_) rfl (by kernel_rfl) (by kernel_rfl) (by kernel_rfl) (fun _ _ _ h => h) (Or.inl ⟨by rfl, ?_⟩) (by assumption) ?_
                  rotate_left 1
                  · (intro w hSw; (try dsimp only at hSw); go_simp; try with_reducible rfl)
                  try simp only [Act.put, List.setIfInBounds_toArray, List.set_cons_zero, List.set_cons_succ]
                  refine wpAnyH_take (i := 54) (oi := ({ dst := some 217, op := Op.indexAddr 22 (Operand.tmp 211) (Operand.tmp 216), type := 0, pos := _, after := #[{ on := 48, ground := Ground.data }, { on := 53, ground := Ground.data }, { on := 42, ground := Ground.guard }], guard := some (42, false) } : Oper)) (v := ?_) rfl (by kernel_rfl) (by kernel_rfl) (by kernel_rfl) (fun _ _ _ h => h) (Or.inl ⟨by rfl, ?_⟩) (by assumption) ?_
                  rotate_left 1
                  · (intro w hSw; (try dsimp only at hSw); go_simp; try with_reducible rfl)
                  try simp only [Act.put, List.setIfInBounds_toArray, List.set_cons_zero, List.set_cons_succ]
                  refine wpAnyH_take (i := 55) (oi := ({ dst := some 218, op := Op.fieldAddr 26 (Operand.tmp 217) 1, type := 0, pos := _, after := #[{ on := 54, ground := Ground.data }, { on := 42, ground := Ground.guard }], guard := some (42, false) } : Oper)) (v := ?_) rfl (by kernel_rfl) (by kernel_rfl) (by kernel_rfl) (fun _ _ _ h => h) (Or.inl ⟨by rfl, ?_⟩) (by assumption) ?_
                  rotate_left 1
                  · (intro w hSw; (try dsimp only at hSw); go_simp; try with_reducible rfl)
                  try simp only [Act.put, List.setIfInBounds_toArray, List.set_cons_zero, List.set_cons_succ]
                  refine wpAnyH_take (i := 56) (oi := ({ dst := some 219, op := Op.load 3 (Operand.tmp 218), type := 3, pos := _, after := #[{ on := 55, ground := Ground.data }, { on := 42, ground := Ground.guard }], guard := some (42, false) } : Oper)) (v := ?_) rfl (by kernel_rfl) (by kernel_rfl) (by kernel_rfl) (fun _ _ _ h => h) (Or.inl ⟨by rfl, ?_⟩) (by assumption) ?_
                  rotate_left 1
                  · (intro w hSw; (try dsimp only at hSw); go_simp; try with_reducible rfl)
                  try simp only [Act.put, List.setIfInBounds_toArray, List.set_cons_zero, List.set_cons_succ]
                  refine wpAnyH_take (i := 57) (oi := ({ dst := some 220, op := Op.binOp BinOp.mul 3 (Operand.const (Value.int IntKind.i64 64)) (Operand.tmp 219) 3, type := 3, pos := _, after := #[{ on := 56, ground := Ground.data }, { on := 42, ground := Ground.guard }], guard := some (42, false) } : Oper)) (v := ?_) rfl (by kernel_rfl) (by kernel_rfl) (by kernel_rfl) (fun _ _ _ h => h) (Or.inl ⟨by rfl, ?_⟩) (by assumption) ?_
                  rotate_left 1
                  · (intro w hSw; (try dsimp only at hSw); go_simp; try with_reducible rfl)
                  try simp only [Act.put, List.setIfInBounds_toArray, List.set_cons_zero, List.set_cons_succ]
                  refine wpAnyH_take (i := 58) (oi := ({ dst := some 221, op := Op.binOp BinOp.geq 3 (Operand.tmp 210) (Operand.tmp 220) 3, type := 4, pos := _, after := #[{ on := 47, ground := Ground.data }, { on := 57, ground := Ground.data }, { on := 42, ground := Ground.guard }], guard := some (42, false) } : Oper)) (v := ?_) rfl (by kernel_rfl) (by kernel_rfl) (by kernel_rfl) (fun _ _ _ h => h) (Or.inl ⟨by rfl, ?_⟩) (by assumption) ?_
                  rotate_left 1
                  · (intro w hSw; (try dsimp only at hSw); go_simp; try with_reducible rfl)
                  try simp only [Act.put, List.setIfInBounds_toArray, List.set_cons_zero, List.set_cons_succ]
                  refine wpAnyH_take (i := 59) (oi := ({ dst := some 222, op := Op.pick (Operand.tmp 205) (Operand.const (Value.bool true)) (Operand.tmp 221), type := 4, pos := _, after := #[{ on := 42, ground := Ground.data }, { on := 58, ground := Ground.data }], guard := none } : Oper)) (v := ?_) rfl (by kernel_rfl) (by kernel_rfl) (by kernel_rfl) (fun _ _ _ h => h) (Or.inl ⟨by rfl, ?_⟩) (by assumption) ?_
                  rotate_left 1
                  · (intro w hSw; (try dsimp only at hSw); go_simp; try with_reducible rfl)
                  try simp only [Act.put, List.setIfInBounds_toArray, List.set_cons_zero, List.set_cons_succ]
                  refine wpAnyH_done (by kernel_rfl) ?_ _
                  go_wp2_with fail
                  go_roundw
                  case rel => exact ⟨j + 1, by omega, by go_num, HG2.out⟩
                  case measure => simp [intOf]; omega
              · obtain rfl : j = m := by omega
                have HGX := hg
                clear hg
                go_wp2_with fail
                go_ret
                exact ⟨rfl, gb_trans HW7.out HGX⟩
end Go.Proofs.Ytphhofbdekbggaa

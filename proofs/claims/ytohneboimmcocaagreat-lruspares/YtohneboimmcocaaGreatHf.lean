import Derived.Test.YtohneboimmcocaaGreatOn
/-
  LruSpares' walk: own at or above 0.
-/
namespace Go.Proofs.YtohneboimmcocaaGreat
open Go.RowKit
set_option linter.unusedVariables false

set_option maxRecDepth 100000 in
set_option maxHeartbeats 4000000 in
theorem lruSpares_nn (x0 x1 cc ow lo : Int) (how0 : 0 ≤ ow) {w : World} {a da : Option Addr} {n c nd dc : Nat} (hO : OpsIn w a n) (hn : n ≤ maxLen) (hnd : nd ≤ maxLen) {Df : Nat → Bool} (hD : ∀ i, i < nd → ∃ b o, da = some ⟨b, o, none⟩ ∧ w.cell? ⟨b, o + i, none⟩ = some (.bool (Df i))) :
    Calls Tryz.prog 9 #[.agg #[.int .i64 x0, .int .i64 x1, .slice a n c, .int .i64 cc, .int .i64 ow, .int .i64 lo, .slice da nd dc]] w fun y w' => y = .returned (.bool true) ∧ w.grownBy w' none := by
  obtain ⟨hot, hh⟩ : ∃ hot : Nat, (hot : Int) = 1 + x0 % 89 := ⟨(1 + x0 % 89).toNat, by omega⟩
  have hx1 : 0 ≤ x1 % (90 - (1 + x0 % 89)) ∧ x1 % (90 - (1 + x0 % 89)) < 90 - (1 + x0 % 89) := ⟨Int.emod_nonneg _ (by omega), Int.emod_lt_of_pos _ (by omega)⟩
  obtain ⟨warm, hw⟩ : ∃ warm : Nat, (warm : Int) = 1 + x1 % (90 - (1 + x0 % 89)) := ⟨(1 + x1 % (90 - (1 + x0 % 89))).toNat, by omega⟩
  obtain ⟨ci, hci⟩ : ∃ ci : Nat, cc % 3 = (ci : Int) := ⟨(cc % 3).toNat, by omega⟩
  have hc3 : ci < 3 := by omega
  have hwi := fun W => within_any cc 3 (by omega) (by omega) W
  rw [hci] at hwi
  have hal := World.grownBy_alloc w (.cells #[.int .i64 x0, .int .i64 x1, .slice a n c, .int .i64 cc, .int .i64 ow, .int .i64 lo, .slice da nd dc] 82) none
  have hb0 := Box.new w 82 #[.int .i64 x0, .int .i64 x1, .slice a n c, .int .i64 cc, .int .i64 ow, .int .i64 lo, .slice da nd dc]
  have h27 := (scripted_27 x0 x1 hh hw (c := c) (hO.kept0 hal) hn).mono (R' := fun y w1 => ∃ wb E, y = .returned (.pointer (some ⟨wb, 0, none⟩)) ∧ Box w1 82 w.heap.size #[.int .i64 x0, .int .i64 x1, .slice a n c, .int .i64 cc, .int .i64 ow, .int .i64 lo, .slice da nd dc] ∧ Hid (w.grownBy w1 none ∧ GS w1 (fun k => w.heap.size ≤ k) wb 250 hot warm E)) (by
    rintro y w1 ⟨wb, E, rfl, hf, hG⟩
    exact ⟨wb, E, rfl, hb0.kept hf (by simp), gb_trans hal hf, hG.less (fun k _ hk => Nat.le_trans hal.size hk)⟩)
  have u0 := hb0.cell 0
  have u1 := hb0.cell 1
  have u2 := hb0.cell 2
  simp at u0 u1 u2
  clear hh hw hb0 hn hO hx1
  go_enter Tryz.func9, Tryz.ntmps9
  go_wp2_with (first | (go_at_call 27; go_must (refine h27.mono ?_); rintro y w1 ⟨wb, E, rfl, hbx, hE1⟩; (have v3 := hbx.cell 3); simp at v3) | (go_at_call 28; go_must (refine (hwi _).mono ?_); rintro y w' ⟨rfl, rfl⟩) | fail)
  obtain ⟨hg1, hG1⟩ := hE1.out
  obtain ⟨S, hS⟩ := hG1.hs
  obtain ⟨T, hLt⟩ := hS.lt
  have htot := hLt.ln ci
  obtain ⟨R, hR⟩ : ∃ R, rowN S.X ci = R := ⟨_, rfl⟩
  have hRl : R.length ≤ 900 := by rw [← hR]; unfold tot at htot; simp [rowN]; omega
  have hRm : ∀ x, x ∈ R → ∃ k, x ∈ S.X ci k := fun x hx => by
    rw [← hR] at hx
    simp only [rowN, List.mem_append, List.mem_reverse] at hx
    rcases hx with (hx | hx) | hx
    · exact ⟨2, hx⟩
    · exact ⟨1, hx⟩
    · exact ⟨0, hx⟩
  have h30 := row_30 hS hc3
  rw [hR] at h30
  refine h30.mono ?_
  rintro y w2 ⟨vr, rfl, hf2, hrow⟩
  obtain ⟨ra, rc, rfl, _, _, _, hra⟩ := row_shape hrow
  have hg2 := gb_trans hg1 hf2
  have hbx2 := hbx.kept hf2 (by simp)
  have hal2 := World.grownBy_alloc w2 (.cells #[.slice ra R.length rc] 72) none
  have hbr := Box.new w2 72 #[.slice ra R.length rc]
  have hbx3 := hbx2.kept hal2 (by simp)
  have hf3 := gb_trans hf2 hal2
  have hg3 := gb_trans hg1 hf3
  have hrow3 := row_kept hrow hal2 (by simp)
  obtain ⟨kr, hkr⟩ : ∃ kr, w2.heap.size = kr := ⟨_, rfl⟩
  obtain ⟨W3, hW3⟩ : ∃ W3, w2.alloc (.cells #[.slice ra R.length rc] 72) = W3 := ⟨_, rfl⟩
  rw [hkr] at hbr
  rw [hW3] at hbr hbx3 hf3 hg3 hrow3 hal2
  obtain ⟨kx, hkx⟩ : ∃ kx, w.heap.size = kx := ⟨_, rfl⟩
  rw [hkx] at hbx3
  have hDR : DR W3 kr kx ra da R rc nd dc Df := by
    refine ⟨hbr.cell 0, hbx3.cell 6, fun i hi => ?_, fun i hi => ?_⟩
    · obtain ⟨g, rfl⟩ := hra (by omega)
      exact ⟨g, rfl, row_cell hrow3 i _ (uvs_get (List.getElem?_eq_getElem hi))⟩
    · obtain ⟨b, o, e1, e2⟩ := hD i hi
      exact ⟨b, o, e1, gb_cellN hg3 e2⟩
  have y4 := hbx3.cell 4
  have yr := hbr.cell 0
  simp at y4 yr
  have HX : Hid _ := And.intro hbx3 (And.intro hbr (And.intro hDR (And.intro hg3 (And.intro hf3 (And.intro hS hG1)))))
  clear hbx hbx2 hbr hbx3 hrow hrow3 hE1 h30 h27 hwi hg1 hg2 hf2 hal hal2 hG1 hS hDR hLt v3 u0 u1 u2
  obtain ⟨dd, hddE⟩ : ∃ dd : Nat → Bool, ∀ x, dq Df nd x 0 R = dd x := ⟨_, fun _ => rfl⟩
  have hdd0 := fun W (x : Nat) (h : DR W kr kx ra da R rc nd dc Df) => (show Calls Tryz.prog 37 #[.int .u64 x, .pointer (some ⟨kr, 0, none⟩), .pointer (some ⟨kx, 0, none⟩)] W fun y w' => y = .returned (.bool (dd x)) ∧ W.grownBy w' none by rw [← hddE]; exact dead_37 h (by omega) (by unfold maxLen at hnd; omega) x)
  clear hddE
  by_cases how : 0 ≤ ow ∧ ow < (R.length : Int)
  · obtain ⟨oi, rfl⟩ : ∃ oi : Nat, ow = (oi : Int) := ⟨ow.toNat, by omega⟩
    have hoi : oi < R.length := by omega
    obtain ⟨g, rfl⟩ := hra (by omega)
    have cown : W3.cell? ⟨g, oi, none⟩ = some (.int .u64 (R[oi] : Nat)) := by
      obtain ⟨g', e1, e2⟩ := HX.out.2.2.1.rr oi hoi
      simp at e1
      subst e1
      exact e2
    obtain ⟨own, hown⟩ : ∃ own, R[oi] = own := ⟨_, rfl⟩
    rw [hown] at cown
    have q1 : decide ((oi : Int) ≥ 0) = true := decide_eq_true (by omega)
    have q2 : decide ((oi : Int) < R.length) = true := decide_eq_true (by omega)
    have q3 : (oi : Int) < R.length := by omega
    have q4 : (oi : Int) ≥ 0 := by omega
    go_wp2_with fail
    have hdr : W3.grownBy W3.drew none := gb_drew (gb_refl _ _)
    have hpk := ((HX.out.2.2.2.2.2.1.kept0 HX.out.2.2.2.2.1).kept0 hdr).pickD hc3 own lo (kr := kr) (kx := kx) dd (fun W x hB => hdd0 W x ((HX.out.2.2.1.kept0 hdr).below hB))
    rw [hR] at hpk
    obtain ⟨p1, p2, p3, p4⟩ := pd_snf (own := own) (looks := lo) (dd := dd) R ⟨0, false, 0⟩ [] (pr0 S.ma) (fun h => absurd rfl h)
    generalize pd own lo S.ma dd ⟨0, false, 0⟩ R = pp at *
    obtain ⟨⟨ph, psp, pl⟩, pb⟩ := pp
    dsimp only at p1 p2 p3 p4 hpk
    obtain ⟨L, hLs⟩ : ∃ L, snf own lo dd R [] = L := ⟨_, rfl⟩
    rw [hLs] at p1 p2 p3 p4
    have hk0 : W3.drew.cell? ⟨wb, 2, none⟩ = some (.pointer (some ⟨E.xb, 0, none⟩)) ∧ W3.drew.cell? ⟨kx, 5, none⟩ = some (.int .i64 lo) := ⟨((HX.out.2.2.2.2.2.1.kept0 HX.out.2.2.2.2.1).kept0 hdr).cells.2.2.1, (HX.out.1.kept hdr (by simp)).cell 5⟩
    have hkk := fun W (hf : W3.drew.grownBy W none) => (show W.cell? ⟨wb, 2, none⟩ = some (.pointer (some ⟨E.xb, 0, none⟩)) ∧ W.cell? ⟨kx, 5, none⟩ = some (.int .i64 lo) from ⟨gb_cellN hf hk0.1, gb_cellN hf hk0.2⟩)
    clear q1 q2 q3 q4 cown
    go_region_held3 (fun W => W.cell? ⟨wb, 2, none⟩ = some (.pointer (some ⟨E.xb, 0, none⟩)) ∧ W.cell? ⟨kx, 5, none⟩ = some (.int .i64 lo)) ((first | with_reducible exact hk1 | with_reducible exact hk0 | go_keep)) ((go_at_call 38; with_reducible refine hpk.mono ?_; rintro y w5 ⟨rfl, hf5⟩; (have hk1 := hkk _ hf5)))
    clear hk0 hk1 hkk hpk
    have hg5 := gb_trans hdr hf5
    have hDW := fun W (hf : w5.grownBy W none) => (HX.out.2.2.1.kept0 hg5).kept0 hf
    have hLo := fun W (hf : w5.grownBy W none) => ((HX.out.1.kept hg5 (by simp)).kept hf (by simp)).cell 5
    have hdd' := fun W (hf : w5.grownBy W none) x => hdd0 W x (hDW W hf)
    simp only [List.getElem?_toArray, List.getElem?_cons_zero, List.getElem?_cons_succ] at hLo
    go_wp2
    go_loopw [11, 12] (fun sv iv wr => ∃ (i : Nat) (acc : List Nat), i ≤ R.length ∧ acc.length ≤ i ∧ iv = .int .i64 i ∧ Hid (snf own lo dd (R.drop i) acc = L) ∧ wr.ownsRow w5.heap.size 48 1 sv acc.length (uvs acc) ∧ w5.grownBy wr none) (fun _ iv _ => R.length - (intOf iv).toNat)
    case atStart => exact ⟨0, [], by omega, by simp, rfl, hLs, World.ownsRow_nil _ _ _ _, gb_refl _ _⟩
    case round =>
      obtain ⟨i, acc, hi, hai, rfl, hE, ho, hg⟩ := hrel
      obtain ⟨oa, oc, rfl, _, _, _, hoa⟩ := row_shape ho
      have c1 := (hDW wr hg).r
      have c5 := hLo wr hg
      by_cases hlt : i < R.length
      · obtain ⟨g', eg, cy⟩ := (hDW wr hg).rr i hlt
        first | (subst eg) | (obtain rfl : g' = g := by simpa using eg.symm)
        obtain ⟨y, hy⟩ : ∃ y, R[i] = y := ⟨_, rfl⟩
        rw [hy] at cy
        have hEd : (if lo ≤ (acc.length : Int) ∨ (acc ≠ [] ∧ dd (acc.getLastD 0) = true) then acc else if y = own then snf own lo dd (R.drop (i + 1)) acc else snf own lo dd (R.drop (i + 1)) (acc ++ [y])) = L := by
          have := hE.out
          rw [List.drop_eq_getElem_cons hlt, hy, snf] at this
          exact this
        clear hE
        have e1 : decide ((i : Int) < R.length) = true := decide_eq_true (by omega)
        have e1' : (i : Int) < R.length := by omega
        by_cases hA : lo ≤ (acc.length : Int)
        · rw [if_pos (.inl hA)] at hEd
          have hE : Hid True := trivial
          subst hEd
          have e2 : decide ((acc.length : Int) < lo) = false := decide_eq_false (by omega)
          have e2' : ¬ (acc.length : Int) < lo := by omega
          have h16 := ends_16 (((HX.out.2.2.2.2.2.2.kept0 HX.out.2.2.2.2.1).kept0 hg5).kept0 hg)
          have hgw : Hid (w.grownBy wr none) := gb_trans HX.out.2.2.2.1 (gb_trans hg5 hg)
          have hSr := ((HX.out.2.2.2.2.2.1.kept0 HX.out.2.2.2.2.1).kept0 hg5).kept0 hg
          have hddr := fun W (hf : wr.grownBy W none) x => hdd0 W x ((hDW wr hg).kept0 hf)
          rcases List.eq_nil_or_concat acc with rfl | ⟨acc', x, hax⟩
          · have hpb : pb = false := by cases pb with | false => rfl | true => exact absurd rfl (p2.1 rfl).1
            subst hpb
            have hph : ph = 0 := p4 rfl
            subst hph
            clear p2 p3 p4 hddr hSr hDW hLo hdd' hdd0 hE ho hoa
            go_wp2_with (first | (go_at_call 16; go_must (refine h16.mono ?_); rintro y w6 ⟨rfl, hf6⟩) | (go_at_call 17; go_must (refine (wakes_17 _).mono ?_); rintro y w7 ⟨rfl, hf7⟩) | fail)
            go_ret
            exact ⟨rfl, gb_trans hgw.out (gb_trans hf6 hf7)⟩
          · rw [List.concat_eq_append] at hax
            subst hax
            have hlast : (acc' ++ [x]).getLastD 0 = x := by simp
            rw [hlast] at p2 p3
            obtain ⟨gs, rfl⟩ := hoa (by simp)
            have hcx := fun W (hf : wr.grownBy W none) => row_cell (row_kept ho hf (by simp)) acc'.length (.int .u64 (x : Nat)) (by rw [uvs_app]; simp [uvs])
            have hlen : (acc' ++ [x]).length = acc'.length + 1 := by simp
            have hacc : (acc' ++ [x]).length ≤ 900 := by omega
            cases hdx : dd x with
            | true =>
              have hpb : pb = true := p2.2 ⟨by simp, hdx⟩
              subst hpb
              have hph : x = ph := (p3 rfl).symm
              subst hph
              have hdx' := fun W (hf : wr.grownBy W none) => hddr W hf x
              rw [hdx] at hdx'
              first | rw [hlen] at hacc e2 e2' ⊢ | rw [hlen] at hacc ⊢
              clear p2 p3 p4 hddr hSr hDW hLo hdd' hdd0 hE ho hoa hlast hlen
              generalize acc'.length = la at *
              have hla : ¬ ((la : Int) + 1 = 0) := by omega
              have hw1 : IntKind.i64.wrap ((la : Int) + 1 - 1) = (la : Int) := by rw [IntKind.wrap_i64]; omega
              have hil : (la : Int) < (la : Int) + 1 := by omega
              have hi0 : ¬ (la : Int) < 0 := by omega
              go_wp2_with (first | (go_at_call 16; go_must (refine h16.mono ?_); rintro y w6 ⟨rfl, hf6⟩; (have cx6 := hcx _ hf6)) | (go_at_call 37; go_must (refine (hdx' _ hf6).mono ?_); rintro y w7 ⟨rfl, hf7⟩; (have cx7 := hcx _ (gb_trans hf6 hf7))) | (go_at_call 17; go_must (refine (wakes_17 _).mono ?_); rintro y w8 ⟨rfl, hf8⟩) | fail)
              go_ret
              exact ⟨rfl, gb_trans hgw.out (gb_trans hf6 (gb_trans hf7 hf8))⟩
            | false =>
              have hpb : pb = false := by cases pb with | false => rfl | true => exact absurd (p2.1 rfl).2 (by rw [hdx]; decide)
              subst hpb
              have hph := p4 rfl
              have hnam := named (mk := S.ma) (l := acc' ++ [x]) (by simp)
              rw [← hph] at hnam
              have hmem : ∀ y, y ∈ acc' ++ [x] → y ∈ R := fun y hy => by
                have := snf_mem own lo dd R [] y (by rw [hLs]; exact hy)
                simpa using this
              have hround : ∀ i, i < acc'.length + 1 → ∃ (y : Nat) (act : Bool), (∀ W, wr.grownBy W none → W.cell? ⟨gs, i, none⟩ = some (.int .u64 y)) ∧ (∀ W, wr.grownBy W none → Calls Tryz.prog 36 #[.pointer (some ⟨wb, 0, none⟩), .int .u64 y] W fun z w' => z = .returned (.bool act) ∧ W.grownBy w' none) ∧ fxi (fun x => !decide (S.ma x % 2 = 1)) i ((acc' ++ [x]).drop i) = (if act then fxi (fun x => !decide (S.ma x % 2 = 1)) (i + 1) ((acc' ++ [x]).drop (i + 1)) else (i : Int)) ∧ fxi (fun z => decide (z = ph)) i ((acc' ++ [x]).drop i) = (if y = ph then (i : Int) else fxi (fun z => decide (z = ph)) (i + 1) ((acc' ++ [x]).drop (i + 1))) := fun i hi => by
                have hi' : i < (acc' ++ [x]).length := by rw [hlen]; exact hi
                obtain ⟨k, hk⟩ := hRm _ (hmem _ (List.getElem_mem hi'))
                refine ⟨(acc' ++ [x])[i], decide (S.ma (acc' ++ [x])[i] % 2 = 1), fun W hf => row_cell (row_kept ho hf (by simp)) i _ (uvs_get (List.getElem?_eq_getElem hi')), fun W hf => active_36 (hSr.kept0 hf) hk, ?_, ?_⟩
                · rw [List.drop_eq_getElem_cons hi', fxi]
                  by_cases ha : S.ma (acc' ++ [x])[i] % 2 = 1 <;> simp [ha]
                · rw [List.drop_eq_getElem_cons hi', fxi]
                  by_cases ha : (acc' ++ [x])[i] = ph <;> simp [ha]
              have hend : fxi (fun x => !decide (S.ma x % 2 = 1)) (acc'.length + 1) ((acc' ++ [x]).drop (acc'.length + 1)) = -1 ∧ fxi (fun z => decide (z = ph)) (acc'.length + 1) ((acc' ++ [x]).drop (acc'.length + 1)) = -1 := by
                rw [List.drop_eq_nil_of_le (by simp)]
                exact ⟨rfl, rfl⟩
              obtain ⟨Cq, hCq⟩ : ∃ Cq : Nat → Int, ∀ i, fxi (fun x => !decide (S.ma x % 2 = 1)) i ((acc' ++ [x]).drop i) = Cq i := ⟨_, fun _ => rfl⟩
              obtain ⟨Aq, hAq⟩ : ∃ Aq : Nat → Int, ∀ i, fxi (fun z => decide (z = ph)) i ((acc' ++ [x]).drop i) = Aq i := ⟨_, fun _ => rfl⟩
              have hnam' : 0 ≤ Aq 0 ∧ (Cq 0 = Aq 0 ∨ (Cq 0 < 0 ∧ Aq 0 = 0)) := by rw [← hCq, ← hAq]; exact hnam
              simp only [hCq, hAq] at hround hend
              have hdx' := fun W (hf : wr.grownBy W none) => hddr W hf x
              rw [hdx] at hdx'
              first | rw [hlen] at hacc e2 e2' ⊢ | rw [hlen] at hacc ⊢
              clear p2 p3 p4 hddr hSr hDW hLo hdd' hdd0 hE ho hoa hlast hlen hnam hCq hAq hmem hph hRm
              generalize acc'.length = la at *
              have hla : ¬ ((la : Int) + 1 = 0) := by omega
              have hw1 : IntKind.i64.wrap ((la : Int) + 1 - 1) = (la : Int) := by rw [IntKind.wrap_i64]; omega
              have hil : (la : Int) < (la : Int) + 1 := by omega
              have hi0 : ¬ (la : Int) < 0 := by omega
              go_wp2_with (first | (go_at_call 16; go_must (refine h16.mono ?_); rintro y w6 ⟨rfl, hf6⟩; (have cx6 := hcx _ hf6)) | (go_at_call 37; go_must (refine (hdx' _ hf6).mono ?_); rintro y w7 ⟨rfl, hf7⟩) | fail)
              have hf67 := gb_trans hf6 hf7
              clear hdx' hcx cx6 h16
              go_loopw [13, 14, 15] (fun cv av iv wz => ∃ i : Nat, i ≤ la + 1 ∧ iv = .int .i64 ((i : Int) - 1) ∧ cv = .int .i64 (Cq i) ∧ av = .int .i64 (Aq i) ∧ wr.grownBy wz none) (fun _ _ iv _ => (intOf iv + 1).toNat)
              case atStart => exact ⟨la + 1, by omega, by simp, by rw [hend.1], by rw [hend.2], hf67⟩
              case round =>
                obtain ⟨i, hi, rfl, rfl, rfl, hgz⟩ := hrel
                cases i with
                | zero =>
                  simp only [show (((0 : Nat) : Int) - 1) = -1 from rfl]
                  obtain ⟨m1, m2⟩ := hnam'
                  have m1' : decide (Aq 0 ≥ 0) = true := decide_eq_true (by omega)
                  have m1'' : Aq 0 ≥ 0 := by omega
                  clear hround hend
                  rcases m2 with m2 | ⟨m2, m3⟩
                  · rw [m2]
                    generalize Aq 0 = aq at *
                    go_wp2_with (first | (go_at_call 17; go_must (refine (wakes_17 _).mono ?_); rintro y w8 ⟨rfl, hf8⟩) | fail)
                    go_ret
                    exact ⟨rfl, gb_trans hgw.out (gb_trans hgz hf8)⟩
                  · rw [m3] at m1 m1' m1'' ⊢
                    generalize Cq 0 = cq at *
                    have m4 : ¬ cq = 0 := by omega
                    have m5 : decide (cq < 0) = true := decide_eq_true m2
                    go_wp2_with (first | (go_at_call 17; go_must (refine (wakes_17 _).mono ?_); rintro y w8 ⟨rfl, hf8⟩) | fail)
                    go_ret
                    exact ⟨rfl, gb_trans hgw.out (gb_trans hgz hf8)⟩
                | succ i =>
                  obtain ⟨y, act, hcy, hca, hC, hA⟩ := hround i (by omega)
                  simp only [show (((i + 1 : Nat) : Int) - 1) = (i : Int) by omega]
                  have cy := hcy _ hgz
                  have n1 : decide ((i : Int) ≥ 0) = true := decide_eq_true (by omega)
                  have n2 : (i : Int) ≥ 0 := by omega
                  have n3 : (i : Int) < (la : Int) + 1 := by omega
                  have n4 : ¬ (i : Int) < 0 := by omega
                  clear hround hend hnam'
                  by_cases hy : y = ph
                  · rw [if_pos hy] at hA
                    subst hy
                    cases act
                    · simp only [Bool.false_eq_true, if_false] at hC
                      go_wp2_with (first | (go_at_call 36; go_must (refine (hca _ hgz).mono ?_); rintro z w8 ⟨rfl, hf8⟩; (have cy8 := hcy _ (gb_trans hgz hf8))) | fail)
                      exact ⟨⟨i, by omega, by go_num, by rw [hC], by rw [hA], gb_trans hgz hf8⟩, by simp [intOf]⟩
                    · simp only [if_true] at hC
                      go_wp2_with (first | (go_at_call 36; go_must (refine (hca _ hgz).mono ?_); rintro z w8 ⟨rfl, hf8⟩; (have cy8 := hcy _ (gb_trans hgz hf8))) | fail)
                      exact ⟨⟨i, by omega, by go_num, by rw [hC], by rw [hA], gb_trans hgz hf8⟩, by simp [intOf]⟩
                  · rw [if_neg hy] at hA
                    have hy' : ¬ (y : Int) = (ph : Int) := by omega
                    cases act
                    · simp only [Bool.false_eq_true, if_false] at hC
                      go_wp2_with (first | (go_at_call 36; go_must (refine (hca _ hgz).mono ?_); rintro z w8 ⟨rfl, hf8⟩; (have cy8 := hcy _ (gb_trans hgz hf8))) | fail)
                      exact ⟨⟨i, by omega, by go_num, by rw [hC], by rw [hA], gb_trans hgz hf8⟩, by simp [intOf]⟩
                    · simp only [if_true] at hC
                      go_wp2_with (first | (go_at_call 36; go_must (refine (hca _ hgz).mono ?_); rintro z w8 ⟨rfl, hf8⟩; (have cy8 := hcy _ (gb_trans hgz hf8))) | fail)
                      exact ⟨⟨i, by omega, by go_num, by rw [hC], by rw [hA], gb_trans hgz hf8⟩, by simp [intOf]⟩
        · have e2 : decide ((acc.length : Int) < lo) = true := decide_eq_true (by omega)
          have e2' : (acc.length : Int) < lo := by omega
          rcases List.eq_nil_or_concat acc with rfl | ⟨acc', x, hax⟩
          · rw [if_neg (by rintro (h1 | h1); exact hA h1; exact h1.1 rfl)] at hEd
            simp only [List.length_nil] at *
            have hsz := hg.size
            by_cases hyo : y = own
            · rw [if_pos hyo] at hEd
              have HE : Hid _ := hEd
              have hyo' : ((y : Nat) : Int) = (own : Int) := by omega
              go_wp2_with fail
              exact ⟨⟨i + 1, [], by omega, by simp, by go_num, HE.out, ho, hg⟩, by simp [intOf]; omega⟩
            · rw [if_neg hyo] at hEd
              have HE : Hid _ := hEd
              have hyo' : ¬ ((y : Nat) : Int) = (own : Int) := by omega
              have hlo : ∀ k, (Value.slice oa 0 oc).ownBlock = some k → w5.heap.size ≤ k := fun k hk => (ho.lt k hk).1
              have cb : ∀ o, (wr.alloc o).cell? ⟨g', i, none⟩ = some (.int .u64 y) := fun o => gb_cellN (World.grownBy_alloc wr o none) cy
              have cc1 : ∀ o, (wr.alloc o).cell? ⟨kr, 0, none⟩ = some (.slice (some ⟨g', 0, none⟩) R.length rc) := fun o => gb_cellN (World.grownBy_alloc wr o none) c1
              go_wp2_with (first | (at_builtin; go_must (refine push72 rfl _ _ rfl w5.heap.size (.slice oa 0 oc) 0 (uvs []) (by rfl) ho (y : Int) (by rfl) (by omega) hsz ?_); intro g1 cap1 w4 ho4 hg4 hat4) | fail)
              exact ⟨⟨i + 1, [y], by omega, by simp, by go_num, HE.out, ho4, gb_far hg hg4 hlo (Nat.le_refl _)⟩, by simp [intOf]; omega⟩
          · rw [List.concat_eq_append] at hax
            subst hax
            have hlast : (acc' ++ [x]).getLastD 0 = x := by simp
            rw [hlast] at hEd
            obtain ⟨gs, rfl⟩ := hoa (by simp)
            have hcx := fun W (hf : wr.grownBy W none) => row_cell (row_kept ho hf (by simp)) acc'.length (.int .u64 (x : Nat)) (by rw [uvs_app]; simp [uvs])
            have hlen : (acc' ++ [x]).length = acc'.length + 1 := by simp
            have cx := hcx wr (gb_refl _ _)
            have hdx' := fun W (hf : wr.grownBy W none) => hdd0 W x ((hDW wr hg).kept0 hf)
            cases hdx : dd x with
            | true =>
              rw [if_pos (.inr ⟨by simp, hdx⟩)] at hEd
              subst hEd
              have h16 := fun W (hf : wr.grownBy W none) => ends_16 ((((HX.out.2.2.2.2.2.2.kept0 HX.out.2.2.2.2.1).kept0 hg5).kept0 hg).kept0 hf)
              have hgw : Hid (w.grownBy wr none) := gb_trans HX.out.2.2.2.1 (gb_trans hg5 hg)
              rw [hlast] at p2 p3
              have hpb : pb = true := p2.2 ⟨by simp, hdx⟩
              subst hpb
              have hph : x = ph := (p3 rfl).symm
              subst hph
              rw [hdx] at hdx'
              have hacc : (acc' ++ [x]).length ≤ 900 := by omega
              rw [hlen] at hacc e2 e2' ⊢
              clear p2 p3 p4 hDW hLo hdd' hdd0 ho hoa hlast hlen hai hA
              generalize acc'.length = la at *
              have hla : ¬ ((la : Int) + 1 = 0) := by omega
              have hw1 : IntKind.i64.wrap ((la : Int) + 1 - 1) = (la : Int) := by rw [IntKind.wrap_i64]; omega
              have hil : (la : Int) < (la : Int) + 1 := by omega
              have hi0 : ¬ (la : Int) < 0 := by omega
              go_wp2_with (first | (go_at_call 37; with_reducible refine (hdx' wr (gb_refl wr none)).mono ?_; rintro z wq ⟨rfl, hfq⟩) | (go_at_call 16; go_must (refine (h16 _ hfq).mono ?_); rintro z w6 ⟨rfl, hf6⟩; (have hf66 := gb_trans hfq hf6); (have cx6 := hcx _ hf66)) | (go_at_call 37; go_must (with_reducible refine (hdx' _ hf66).mono ?_); rintro z w7 ⟨rfl, hf7⟩; (have cx7 := hcx _ (gb_trans hf66 hf7))) | (go_at_call 17; go_must (refine (wakes_17 _).mono ?_); rintro z w8 ⟨rfl, hf8⟩) | fail)
              go_ret
              exact ⟨rfl, gb_trans hgw.out (gb_trans hf66 (gb_trans hf7 hf8))⟩
            | false =>
              rw [if_neg (by rintro (h1 | h1); exact hA h1; rw [hdx] at h1; exact absurd h1.2 (by decide))] at hEd
              rw [hdx] at hdx'
              have hsz := hg.size
              have hacc : (acc' ++ [x]).length ≤ 900 := by omega
              have hlo : ∀ k, (Value.slice (some ⟨gs, 0, none⟩) (acc' ++ [x]).length oc).ownBlock = some k → w5.heap.size ≤ k := fun k hk => (ho.lt k hk).1
              have hfar := fun W w4 (hf : wr.grownBy W none) (h4 : W.grownBy w4 (Value.slice (some ⟨gs, 0, none⟩) (acc' ++ [x]).length oc).ownBlock) => (show w5.grownBy w4 none from gb_far (gb_trans hg hf) h4 hlo (Nat.le_refl _))
              have hcy := fun W (hf : wr.grownBy W none) => (show W.cell? ⟨g', i, none⟩ = some (.int .u64 y) ∧ W.cell? ⟨kr, 0, none⟩ = some (.slice (some ⟨g', 0, none⟩) R.length rc) from ⟨gb_cellN hf cy, gb_cellN hf c1⟩)
              have hon := fun W (hf : wr.grownBy W none) => (show W.ownsRow w5.heap.size 48 1 (.slice (some ⟨gs, 0, none⟩) (acc' ++ [x]).length oc) (acc' ++ [x]).length (uvs (acc' ++ [x])) from row_kept ho hf (by simp))
              have hpush : Hid (∀ (w4 : World) (g1 cap1 : Nat), w4.ownsRow w5.heap.size 48 1 (.slice (some ⟨g1, 0, none⟩) ((acc' ++ [x]).length + 1) cap1) ((acc' ++ [x]).length + 1) (uvs (acc' ++ [x]) ++ [.int .u64 (y : Int)]) → w4.ownsRow w5.heap.size 48 1 (.slice (some ⟨g1, 0, none⟩) ((acc' ++ [x]).length + 1) cap1) ((acc' ++ [x]) ++ [y]).length (uvs ((acc' ++ [x]) ++ [y]))) := fun w4 g1 cap1 h4 => by
                have e9 : ((acc' ++ [x]) ++ [y]).length = (acc' ++ [x]).length + 1 := by rw [List.length_append]; rfl
                rw [uvs_app (acc' ++ [x]) y, e9]
                exact h4
              have hai' : ((acc' ++ [x]) ++ [y]).length ≤ i + 1 := by rw [List.length_append]; simp at hai ⊢; omega
              by_cases hyo : y = own
              · rw [if_pos hyo] at hEd
                have HE : Hid _ := hEd
                have HN : Hid _ := And.intro hai hon
                have hyo' : ((y : Nat) : Int) = (own : Int) := by omega
                rw [hlen] at e2 e2' hacc
                clear hlast hdd' hdd0 hDW hLo p2 p3 p4 hpush hon hfar hlo ho hai hai' hoa
                obtain ⟨ll, hll⟩ : ∃ ll, (acc' ++ [x]).length = ll := ⟨_, rfl⟩
                obtain ⟨la, hla0⟩ : ∃ la, acc'.length = la := ⟨_, rfl⟩
                rw [hla0] at hlen hcx cx e2 e2' hacc
                rw [hlen]
                have HL : Hid _ := hlen
                have HA : Hid _ := hla0
                have hla : ¬ ((la : Int) + 1 = 0) := by omega
                have hw1 : IntKind.i64.wrap ((la : Int) + 1 - 1) = (la : Int) := by rw [IntKind.wrap_i64]; omega
                have hil : (la : Int) < (la : Int) + 1 := by omega
                have hi0 : ¬ (la : Int) < 0 := by omega
                clear hlen hla0 hll
                go_wp2_with (first | (go_at_call 37; go_must (refine (hdx' wr (gb_refl wr none)).mono ?_); rintro z wq ⟨rfl, hfq⟩; (obtain ⟨cyq, c1q⟩ := hcy _ hfq)) | fail)
                exact ⟨⟨i + 1, acc' ++ [x], by omega, by have := HN.out.1; omega, by go_num, HE.out, by have := HN.out.2 wq hfq; rw [HL.out] at this ⊢; exact this, gb_trans hg hfq⟩, by simp [intOf]; omega⟩
              · rw [if_neg hyo] at hEd
                have HE : Hid _ := hEd
                have hyo' : ¬ ((y : Nat) : Int) = (own : Int) := by omega
                have HN : Hid _ := hai'
                rw [hlen] at e2 e2' hacc hon hfar hpush hlo ⊢
                clear hlast hdd' hdd0 hDW hLo p2 p3 p4 ho hai hai' hoa hlen
                obtain ⟨la, hla0⟩ : ∃ la, acc'.length = la := ⟨_, rfl⟩
                rw [hla0] at hcx cx e2 e2' hacc hon hfar hpush hlo ⊢
                have hla : ¬ ((la : Int) + 1 = 0) := by omega
                have hw1 : IntKind.i64.wrap ((la : Int) + 1 - 1) = (la : Int) := by rw [IntKind.wrap_i64]; omega
                have hil : (la : Int) < (la : Int) + 1 := by omega
                have hi0 : ¬ (la : Int) < 0 := by omega
                clear hla0
                go_wp2_with (first | (go_at_call 37; go_must (refine (hdx' wr (gb_refl wr none)).mono ?_); rintro z wq ⟨rfl, hfq⟩; (obtain ⟨cyq, c1q⟩ := hcy _ hfq); (have hoq := hon _ hfq); (have hszq := Nat.le_trans hsz hfq.size); (have cbq : ∀ o, (wq.alloc o).cell? ⟨g', i, none⟩ = some (.int .u64 y) := fun o => gb_cellN (World.grownBy_alloc wq o none) cyq); (have ccq : ∀ o, (wq.alloc o).cell? ⟨kr, 0, none⟩ = some (.slice (some ⟨g', 0, none⟩) R.length rc) := fun o => gb_cellN (World.grownBy_alloc wq o none) c1q)) | (at_builtin; go_must (refine push72 rfl _ _ rfl w5.heap.size (.slice (some ⟨gs, 0, none⟩) (la + 1) oc) (la + 1) (uvs (acc' ++ [x])) (by rfl) hoq (y : Int) (by rfl) (by omega) hszq ?_); intro g1 cap1 w4 ho4 hg4 hat4) | fail)
                exact ⟨⟨i + 1, (acc' ++ [x]) ++ [y], by omega, HN.out, by go_num, HE.out, hpush.out w4 g1 cap1 ho4, hfar wq w4 hfq hg4⟩, by simp [intOf]; omega⟩
      · obtain rfl : i = R.length := by omega
        have hacL : acc = L := by have := hE.out; rw [List.drop_length, snf] at this; exact this
        subst hacL
        have e1 : decide ((R.length : Int) < R.length) = false := decide_eq_false (by omega)
        have h16 := ends_16 (((HX.out.2.2.2.2.2.2.kept0 HX.out.2.2.2.2.1).kept0 hg5).kept0 hg)
        have hgw : Hid (w.grownBy wr none) := gb_trans HX.out.2.2.2.1 (gb_trans hg5 hg)
        have hSr := ((HX.out.2.2.2.2.2.1.kept0 HX.out.2.2.2.2.1).kept0 hg5).kept0 hg
        have hddr := fun W (hf : wr.grownBy W none) x => hdd0 W x ((hDW wr hg).kept0 hf)
        rcases List.eq_nil_or_concat acc with rfl | ⟨acc', x, hax⟩
        · have hpb : pb = false := by cases pb with | false => rfl | true => exact absurd rfl (p2.1 rfl).1
          subst hpb
          have hph : ph = 0 := p4 rfl
          subst hph
          clear p2 p3 p4 hddr hSr hDW hLo hdd' hdd0 hE ho hoa
          go_wp2_with (first | (go_at_call 16; go_must (refine h16.mono ?_); rintro y w6 ⟨rfl, hf6⟩) | (go_at_call 17; go_must (refine (wakes_17 _).mono ?_); rintro y w7 ⟨rfl, hf7⟩) | fail)
          go_ret
          exact ⟨rfl, gb_trans hgw.out (gb_trans hf6 hf7)⟩
        · rw [List.concat_eq_append] at hax
          subst hax
          have hlast : (acc' ++ [x]).getLastD 0 = x := by simp
          rw [hlast] at p2 p3
          obtain ⟨gs, rfl⟩ := hoa (by simp)
          have hcx := fun W (hf : wr.grownBy W none) => row_cell (row_kept ho hf (by simp)) acc'.length (.int .u64 (x : Nat)) (by rw [uvs_app]; simp [uvs])
          have hlen : (acc' ++ [x]).length = acc'.length + 1 := by simp
          have hacc : (acc' ++ [x]).length ≤ 900 := by omega
          cases hdx : dd x with
          | true =>
            have hpb : pb = true := p2.2 ⟨by simp, hdx⟩
            subst hpb
            have hph : x = ph := (p3 rfl).symm
            subst hph
            have hdx' := fun W (hf : wr.grownBy W none) => hddr W hf x
            rw [hdx] at hdx'
            first | rw [hlen] at hacc e2 e2' ⊢ | rw [hlen] at hacc ⊢
            clear p2 p3 p4 hddr hSr hDW hLo hdd' hdd0 hE ho hoa hlast hlen
            generalize acc'.length = la at *
            have hla : ¬ ((la : Int) + 1 = 0) := by omega
            have hw1 : IntKind.i64.wrap ((la : Int) + 1 - 1) = (la : Int) := by rw [IntKind.wrap_i64]; omega
            have hil : (la : Int) < (la : Int) + 1 := by omega
            have hi0 : ¬ (la : Int) < 0 := by omega
            go_wp2_with (first | (go_at_call 16; go_must (refine h16.mono ?_); rintro y w6 ⟨rfl, hf6⟩; (have cx6 := hcx _ hf6)) | (go_at_call 37; go_must (refine (hdx' _ hf6).mono ?_); rintro y w7 ⟨rfl, hf7⟩; (have cx7 := hcx _ (gb_trans hf6 hf7))) | (go_at_call 17; go_must (refine (wakes_17 _).mono ?_); rintro y w8 ⟨rfl, hf8⟩) | fail)
            go_ret
            exact ⟨rfl, gb_trans hgw.out (gb_trans hf6 (gb_trans hf7 hf8))⟩
          | false =>
            have hpb : pb = false := by cases pb with | false => rfl | true => exact absurd (p2.1 rfl).2 (by rw [hdx]; decide)
            subst hpb
            have hph := p4 rfl
            have hnam := named (mk := S.ma) (l := acc' ++ [x]) (by simp)
            rw [← hph] at hnam
            have hmem : ∀ y, y ∈ acc' ++ [x] → y ∈ R := fun y hy => by
              have := snf_mem own lo dd R [] y (by rw [hLs]; exact hy)
              simpa using this
            have hround : ∀ i, i < acc'.length + 1 → ∃ (y : Nat) (act : Bool), (∀ W, wr.grownBy W none → W.cell? ⟨gs, i, none⟩ = some (.int .u64 y)) ∧ (∀ W, wr.grownBy W none → Calls Tryz.prog 36 #[.pointer (some ⟨wb, 0, none⟩), .int .u64 y] W fun z w' => z = .returned (.bool act) ∧ W.grownBy w' none) ∧ fxi (fun x => !decide (S.ma x % 2 = 1)) i ((acc' ++ [x]).drop i) = (if act then fxi (fun x => !decide (S.ma x % 2 = 1)) (i + 1) ((acc' ++ [x]).drop (i + 1)) else (i : Int)) ∧ fxi (fun z => decide (z = ph)) i ((acc' ++ [x]).drop i) = (if y = ph then (i : Int) else fxi (fun z => decide (z = ph)) (i + 1) ((acc' ++ [x]).drop (i + 1))) := fun i hi => by
              have hi' : i < (acc' ++ [x]).length := by rw [hlen]; exact hi
              obtain ⟨k, hk⟩ := hRm _ (hmem _ (List.getElem_mem hi'))
              refine ⟨(acc' ++ [x])[i], decide (S.ma (acc' ++ [x])[i] % 2 = 1), fun W hf => row_cell (row_kept ho hf (by simp)) i _ (uvs_get (List.getElem?_eq_getElem hi')), fun W hf => active_36 (hSr.kept0 hf) hk, ?_, ?_⟩
              · rw [List.drop_eq_getElem_cons hi', fxi]
                by_cases ha : S.ma (acc' ++ [x])[i] % 2 = 1 <;> simp [ha]
              · rw [List.drop_eq_getElem_cons hi', fxi]
                by_cases ha : (acc' ++ [x])[i] = ph <;> simp [ha]
            have hend : fxi (fun x => !decide (S.ma x % 2 = 1)) (acc'.length + 1) ((acc' ++ [x]).drop (acc'.length + 1)) = -1 ∧ fxi (fun z => decide (z = ph)) (acc'.length + 1) ((acc' ++ [x]).drop (acc'.length + 1)) = -1 := by
              rw [List.drop_eq_nil_of_le (by simp)]
              exact ⟨rfl, rfl⟩
            obtain ⟨Cq, hCq⟩ : ∃ Cq : Nat → Int, ∀ i, fxi (fun x => !decide (S.ma x % 2 = 1)) i ((acc' ++ [x]).drop i) = Cq i := ⟨_, fun _ => rfl⟩
            obtain ⟨Aq, hAq⟩ : ∃ Aq : Nat → Int, ∀ i, fxi (fun z => decide (z = ph)) i ((acc' ++ [x]).drop i) = Aq i := ⟨_, fun _ => rfl⟩
            have hnam' : 0 ≤ Aq 0 ∧ (Cq 0 = Aq 0 ∨ (Cq 0 < 0 ∧ Aq 0 = 0)) := by rw [← hCq, ← hAq]; exact hnam
            simp only [hCq, hAq] at hround hend
            have hdx' := fun W (hf : wr.grownBy W none) => hddr W hf x
            rw [hdx] at hdx'
            first | rw [hlen] at hacc e2 e2' ⊢ | rw [hlen] at hacc ⊢
            clear p2 p3 p4 hddr hSr hDW hLo hdd' hdd0 hE ho hoa hlast hlen hnam hCq hAq hmem hph hRm
            generalize acc'.length = la at *
            have hla : ¬ ((la : Int) + 1 = 0) := by omega
            have hw1 : IntKind.i64.wrap ((la : Int) + 1 - 1) = (la : Int) := by rw [IntKind.wrap_i64]; omega
            have hil : (la : Int) < (la : Int) + 1 := by omega
            have hi0 : ¬ (la : Int) < 0 := by omega
            go_wp2_with (first | (go_at_call 16; go_must (refine h16.mono ?_); rintro y w6 ⟨rfl, hf6⟩; (have cx6 := hcx _ hf6)) | (go_at_call 37; go_must (refine (hdx' _ hf6).mono ?_); rintro y w7 ⟨rfl, hf7⟩) | fail)
            have hf67 := gb_trans hf6 hf7
            clear hdx' hcx cx6 h16
            go_loopw [13, 14, 15] (fun cv av iv wz => ∃ i : Nat, i ≤ la + 1 ∧ iv = .int .i64 ((i : Int) - 1) ∧ cv = .int .i64 (Cq i) ∧ av = .int .i64 (Aq i) ∧ wr.grownBy wz none) (fun _ _ iv _ => (intOf iv + 1).toNat)
            case atStart => exact ⟨la + 1, by omega, by simp, by rw [hend.1], by rw [hend.2], hf67⟩
            case round =>
              obtain ⟨i, hi, rfl, rfl, rfl, hgz⟩ := hrel
              cases i with
              | zero =>
                simp only [show (((0 : Nat) : Int) - 1) = -1 from rfl]
                obtain ⟨m1, m2⟩ := hnam'
                have m1' : decide (Aq 0 ≥ 0) = true := decide_eq_true (by omega)
                have m1'' : Aq 0 ≥ 0 := by omega
                clear hround hend
                rcases m2 with m2 | ⟨m2, m3⟩
                · rw [m2]
                  generalize Aq 0 = aq at *
                  go_wp2_with (first | (go_at_call 17; go_must (refine (wakes_17 _).mono ?_); rintro y w8 ⟨rfl, hf8⟩) | fail)
                  go_ret
                  exact ⟨rfl, gb_trans hgw.out (gb_trans hgz hf8)⟩
                · rw [m3] at m1 m1' m1'' ⊢
                  generalize Cq 0 = cq at *
                  have m4 : ¬ cq = 0 := by omega
                  have m5 : decide (cq < 0) = true := decide_eq_true m2
                  go_wp2_with (first | (go_at_call 17; go_must (refine (wakes_17 _).mono ?_); rintro y w8 ⟨rfl, hf8⟩) | fail)
                  go_ret
                  exact ⟨rfl, gb_trans hgw.out (gb_trans hgz hf8)⟩
              | succ i =>
                obtain ⟨y, act, hcy, hca, hC, hA⟩ := hround i (by omega)
                simp only [show (((i + 1 : Nat) : Int) - 1) = (i : Int) by omega]
                have cy := hcy _ hgz
                have n1 : decide ((i : Int) ≥ 0) = true := decide_eq_true (by omega)
                have n2 : (i : Int) ≥ 0 := by omega
                have n3 : (i : Int) < (la : Int) + 1 := by omega
                have n4 : ¬ (i : Int) < 0 := by omega
                clear hround hend hnam'
                by_cases hy : y = ph
                · rw [if_pos hy] at hA
                  subst hy
                  cases act
                  · simp only [Bool.false_eq_true, if_false] at hC
                    go_wp2_with (first | (go_at_call 36; go_must (refine (hca _ hgz).mono ?_); rintro z w8 ⟨rfl, hf8⟩; (have cy8 := hcy _ (gb_trans hgz hf8))) | fail)
                    exact ⟨⟨i, by omega, by go_num, by rw [hC], by rw [hA], gb_trans hgz hf8⟩, by simp [intOf]⟩
                  · simp only [if_true] at hC
                    go_wp2_with (first | (go_at_call 36; go_must (refine (hca _ hgz).mono ?_); rintro z w8 ⟨rfl, hf8⟩; (have cy8 := hcy _ (gb_trans hgz hf8))) | fail)
                    exact ⟨⟨i, by omega, by go_num, by rw [hC], by rw [hA], gb_trans hgz hf8⟩, by simp [intOf]⟩
                · rw [if_neg hy] at hA
                  have hy' : ¬ (y : Int) = (ph : Int) := by omega
                  cases act
                  · simp only [Bool.false_eq_true, if_false] at hC
                    go_wp2_with (first | (go_at_call 36; go_must (refine (hca _ hgz).mono ?_); rintro z w8 ⟨rfl, hf8⟩; (have cy8 := hcy _ (gb_trans hgz hf8))) | fail)
                    exact ⟨⟨i, by omega, by go_num, by rw [hC], by rw [hA], gb_trans hgz hf8⟩, by simp [intOf]⟩
                  · simp only [if_true] at hC
                    go_wp2_with (first | (go_at_call 36; go_must (refine (hca _ hgz).mono ?_); rintro z w8 ⟨rfl, hf8⟩; (have cy8 := hcy _ (gb_trans hgz hf8))) | fail)
                    exact ⟨⟨i, by omega, by go_num, by rw [hC], by rw [hA], gb_trans hgz hf8⟩, by simp [intOf]⟩
  · have q1 : decide (ow ≥ 0) = true := decide_eq_true (by omega)
    have q2 : ow ≥ 0 := by omega
    have q3 : decide (ow < (R.length : Int)) = false := decide_eq_false (by omega)
    have q4 : ¬ ow < (R.length : Int) := by omega
    go_wp2_with fail
    have hdr : W3.grownBy W3.drew none := gb_drew (gb_refl _ _)
    have hpk := ((HX.out.2.2.2.2.2.1.kept0 HX.out.2.2.2.2.1).kept0 hdr).pickD hc3 0 lo (kr := kr) (kx := kx) dd (fun W x hB => hdd0 W x ((HX.out.2.2.1.kept0 hdr).below hB))
    rw [hR] at hpk
    simp only [show ((0 : Nat) : Int) = 0 from rfl] at hpk
    obtain ⟨p1, p2, p3, p4⟩ := pd_snf (own := 0) (looks := lo) (dd := dd) R ⟨0, false, 0⟩ [] (pr0 S.ma) (fun h => absurd rfl h)
    generalize pd 0 lo S.ma dd ⟨0, false, 0⟩ R = pp at *
    obtain ⟨⟨ph, psp, pl⟩, pb⟩ := pp
    dsimp only at p1 p2 p3 p4 hpk
    obtain ⟨L, hLs⟩ : ∃ L, snf 0 lo dd R [] = L := ⟨_, rfl⟩
    rw [hLs] at p1 p2 p3 p4
    have hk0 : W3.drew.cell? ⟨wb, 2, none⟩ = some (.pointer (some ⟨E.xb, 0, none⟩)) ∧ W3.drew.cell? ⟨kx, 5, none⟩ = some (.int .i64 lo) := ⟨((HX.out.2.2.2.2.2.1.kept0 HX.out.2.2.2.2.1).kept0 hdr).cells.2.2.1, (HX.out.1.kept hdr (by simp)).cell 5⟩
    have hkk := fun W (hf : W3.drew.grownBy W none) => (show W.cell? ⟨wb, 2, none⟩ = some (.pointer (some ⟨E.xb, 0, none⟩)) ∧ W.cell? ⟨kx, 5, none⟩ = some (.int .i64 lo) from ⟨gb_cellN hf hk0.1, gb_cellN hf hk0.2⟩)
    clear q1 q2 q3 q4
    go_region_held3 (fun W => W.cell? ⟨wb, 2, none⟩ = some (.pointer (some ⟨E.xb, 0, none⟩)) ∧ W.cell? ⟨kx, 5, none⟩ = some (.int .i64 lo)) ((first | with_reducible exact hk1 | with_reducible exact hk0 | go_keep)) ((go_at_call 38; with_reducible refine hpk.mono ?_; rintro y w5 ⟨rfl, hf5⟩; (have hk1 := hkk _ hf5)))
    clear hk0 hk1 hkk hpk
    have hg5 := gb_trans hdr hf5
    have hDW := fun W (hf : w5.grownBy W none) => (HX.out.2.2.1.kept0 hg5).kept0 hf
    have hLo := fun W (hf : w5.grownBy W none) => ((HX.out.1.kept hg5 (by simp)).kept hf (by simp)).cell 5
    have hdd' := fun W (hf : w5.grownBy W none) x => hdd0 W x (hDW W hf)
    simp only [List.getElem?_toArray, List.getElem?_cons_zero, List.getElem?_cons_succ] at hLo
    go_wp2
    go_loopw [11, 12] (fun sv iv wr => ∃ (i : Nat) (acc : List Nat), i ≤ R.length ∧ acc.length ≤ i ∧ iv = .int .i64 i ∧ Hid (snf 0 lo dd (R.drop i) acc = L) ∧ wr.ownsRow w5.heap.size 48 1 sv acc.length (uvs acc) ∧ w5.grownBy wr none) (fun _ iv _ => R.length - (intOf iv).toNat)
    case atStart => exact ⟨0, [], by omega, by simp, rfl, hLs, World.ownsRow_nil _ _ _ _, gb_refl _ _⟩
    case round =>
      obtain ⟨i, acc, hi, hai, rfl, hE, ho, hg⟩ := hrel
      obtain ⟨oa, oc, rfl, _, _, _, hoa⟩ := row_shape ho
      have c1 := (hDW wr hg).r
      have c5 := hLo wr hg
      by_cases hlt : i < R.length
      · obtain ⟨g', eg, cy⟩ := (hDW wr hg).rr i hlt
        first | (subst eg) | (obtain rfl : g' = g := by simpa using eg.symm)
        obtain ⟨y, hy⟩ : ∃ y, R[i] = y := ⟨_, rfl⟩
        rw [hy] at cy
        have hEd : (if lo ≤ (acc.length : Int) ∨ (acc ≠ [] ∧ dd (acc.getLastD 0) = true) then acc else if y = 0 then snf 0 lo dd (R.drop (i + 1)) acc else snf 0 lo dd (R.drop (i + 1)) (acc ++ [y])) = L := by
          have := hE.out
          rw [List.drop_eq_getElem_cons hlt, hy, snf] at this
          exact this
        clear hE
        have e1 : decide ((i : Int) < R.length) = true := decide_eq_true (by omega)
        have e1' : (i : Int) < R.length := by omega
        by_cases hA : lo ≤ (acc.length : Int)
        · rw [if_pos (.inl hA)] at hEd
          have hE : Hid True := trivial
          subst hEd
          have e2 : decide ((acc.length : Int) < lo) = false := decide_eq_false (by omega)
          have e2' : ¬ (acc.length : Int) < lo := by omega
          have h16 := ends_16 (((HX.out.2.2.2.2.2.2.kept0 HX.out.2.2.2.2.1).kept0 hg5).kept0 hg)
          have hgw : Hid (w.grownBy wr none) := gb_trans HX.out.2.2.2.1 (gb_trans hg5 hg)
          have hSr := ((HX.out.2.2.2.2.2.1.kept0 HX.out.2.2.2.2.1).kept0 hg5).kept0 hg
          have hddr := fun W (hf : wr.grownBy W none) x => hdd0 W x ((hDW wr hg).kept0 hf)
          rcases List.eq_nil_or_concat acc with rfl | ⟨acc', x, hax⟩
          · have hpb : pb = false := by cases pb with | false => rfl | true => exact absurd rfl (p2.1 rfl).1
            subst hpb
            have hph : ph = 0 := p4 rfl
            subst hph
            clear p2 p3 p4 hddr hSr hDW hLo hdd' hdd0 hE ho hoa
            go_wp2_with (first | (go_at_call 16; go_must (refine h16.mono ?_); rintro y w6 ⟨rfl, hf6⟩) | (go_at_call 17; go_must (refine (wakes_17 _).mono ?_); rintro y w7 ⟨rfl, hf7⟩) | fail)
            go_ret
            exact ⟨rfl, gb_trans hgw.out (gb_trans hf6 hf7)⟩
          · rw [List.concat_eq_append] at hax
            subst hax
            have hlast : (acc' ++ [x]).getLastD 0 = x := by simp
            rw [hlast] at p2 p3
            obtain ⟨gs, rfl⟩ := hoa (by simp)
            have hcx := fun W (hf : wr.grownBy W none) => row_cell (row_kept ho hf (by simp)) acc'.length (.int .u64 (x : Nat)) (by rw [uvs_app]; simp [uvs])
            have hlen : (acc' ++ [x]).length = acc'.length + 1 := by simp
            have hacc : (acc' ++ [x]).length ≤ 900 := by omega
            cases hdx : dd x with
            | true =>
              have hpb : pb = true := p2.2 ⟨by simp, hdx⟩
              subst hpb
              have hph : x = ph := (p3 rfl).symm
              subst hph
              have hdx' := fun W (hf : wr.grownBy W none) => hddr W hf x
              rw [hdx] at hdx'
              first | rw [hlen] at hacc e2 e2' ⊢ | rw [hlen] at hacc ⊢
              clear p2 p3 p4 hddr hSr hDW hLo hdd' hdd0 hE ho hoa hlast hlen
              generalize acc'.length = la at *
              have hla : ¬ ((la : Int) + 1 = 0) := by omega
              have hw1 : IntKind.i64.wrap ((la : Int) + 1 - 1) = (la : Int) := by rw [IntKind.wrap_i64]; omega
              have hil : (la : Int) < (la : Int) + 1 := by omega
              have hi0 : ¬ (la : Int) < 0 := by omega
              go_wp2_with (first | (go_at_call 16; go_must (refine h16.mono ?_); rintro y w6 ⟨rfl, hf6⟩; (have cx6 := hcx _ hf6)) | (go_at_call 37; go_must (refine (hdx' _ hf6).mono ?_); rintro y w7 ⟨rfl, hf7⟩; (have cx7 := hcx _ (gb_trans hf6 hf7))) | (go_at_call 17; go_must (refine (wakes_17 _).mono ?_); rintro y w8 ⟨rfl, hf8⟩) | fail)
              go_ret
              exact ⟨rfl, gb_trans hgw.out (gb_trans hf6 (gb_trans hf7 hf8))⟩
            | false =>
              have hpb : pb = false := by cases pb with | false => rfl | true => exact absurd (p2.1 rfl).2 (by rw [hdx]; decide)
              subst hpb
              have hph := p4 rfl
              have hnam := named (mk := S.ma) (l := acc' ++ [x]) (by simp)
              rw [← hph] at hnam
              have hmem : ∀ y, y ∈ acc' ++ [x] → y ∈ R := fun y hy => by
                have := snf_mem 0 lo dd R [] y (by rw [hLs]; exact hy)
                simpa using this
              have hround : ∀ i, i < acc'.length + 1 → ∃ (y : Nat) (act : Bool), (∀ W, wr.grownBy W none → W.cell? ⟨gs, i, none⟩ = some (.int .u64 y)) ∧ (∀ W, wr.grownBy W none → Calls Tryz.prog 36 #[.pointer (some ⟨wb, 0, none⟩), .int .u64 y] W fun z w' => z = .returned (.bool act) ∧ W.grownBy w' none) ∧ fxi (fun x => !decide (S.ma x % 2 = 1)) i ((acc' ++ [x]).drop i) = (if act then fxi (fun x => !decide (S.ma x % 2 = 1)) (i + 1) ((acc' ++ [x]).drop (i + 1)) else (i : Int)) ∧ fxi (fun z => decide (z = ph)) i ((acc' ++ [x]).drop i) = (if y = ph then (i : Int) else fxi (fun z => decide (z = ph)) (i + 1) ((acc' ++ [x]).drop (i + 1))) := fun i hi => by
                have hi' : i < (acc' ++ [x]).length := by rw [hlen]; exact hi
                obtain ⟨k, hk⟩ := hRm _ (hmem _ (List.getElem_mem hi'))
                refine ⟨(acc' ++ [x])[i], decide (S.ma (acc' ++ [x])[i] % 2 = 1), fun W hf => row_cell (row_kept ho hf (by simp)) i _ (uvs_get (List.getElem?_eq_getElem hi')), fun W hf => active_36 (hSr.kept0 hf) hk, ?_, ?_⟩
                · rw [List.drop_eq_getElem_cons hi', fxi]
                  by_cases ha : S.ma (acc' ++ [x])[i] % 2 = 1 <;> simp [ha]
                · rw [List.drop_eq_getElem_cons hi', fxi]
                  by_cases ha : (acc' ++ [x])[i] = ph <;> simp [ha]
              have hend : fxi (fun x => !decide (S.ma x % 2 = 1)) (acc'.length + 1) ((acc' ++ [x]).drop (acc'.length + 1)) = -1 ∧ fxi (fun z => decide (z = ph)) (acc'.length + 1) ((acc' ++ [x]).drop (acc'.length + 1)) = -1 := by
                rw [List.drop_eq_nil_of_le (by simp)]
                exact ⟨rfl, rfl⟩
              obtain ⟨Cq, hCq⟩ : ∃ Cq : Nat → Int, ∀ i, fxi (fun x => !decide (S.ma x % 2 = 1)) i ((acc' ++ [x]).drop i) = Cq i := ⟨_, fun _ => rfl⟩
              obtain ⟨Aq, hAq⟩ : ∃ Aq : Nat → Int, ∀ i, fxi (fun z => decide (z = ph)) i ((acc' ++ [x]).drop i) = Aq i := ⟨_, fun _ => rfl⟩
              have hnam' : 0 ≤ Aq 0 ∧ (Cq 0 = Aq 0 ∨ (Cq 0 < 0 ∧ Aq 0 = 0)) := by rw [← hCq, ← hAq]; exact hnam
              simp only [hCq, hAq] at hround hend
              have hdx' := fun W (hf : wr.grownBy W none) => hddr W hf x
              rw [hdx] at hdx'
              first | rw [hlen] at hacc e2 e2' ⊢ | rw [hlen] at hacc ⊢
              clear p2 p3 p4 hddr hSr hDW hLo hdd' hdd0 hE ho hoa hlast hlen hnam hCq hAq hmem hph hRm
              generalize acc'.length = la at *
              have hla : ¬ ((la : Int) + 1 = 0) := by omega
              have hw1 : IntKind.i64.wrap ((la : Int) + 1 - 1) = (la : Int) := by rw [IntKind.wrap_i64]; omega
              have hil : (la : Int) < (la : Int) + 1 := by omega
              have hi0 : ¬ (la : Int) < 0 := by omega
              go_wp2_with (first | (go_at_call 16; go_must (refine h16.mono ?_); rintro y w6 ⟨rfl, hf6⟩; (have cx6 := hcx _ hf6)) | (go_at_call 37; go_must (refine (hdx' _ hf6).mono ?_); rintro y w7 ⟨rfl, hf7⟩) | fail)
              have hf67 := gb_trans hf6 hf7
              clear hdx' hcx cx6 h16
              go_loopw [13, 14, 15] (fun cv av iv wz => ∃ i : Nat, i ≤ la + 1 ∧ iv = .int .i64 ((i : Int) - 1) ∧ cv = .int .i64 (Cq i) ∧ av = .int .i64 (Aq i) ∧ wr.grownBy wz none) (fun _ _ iv _ => (intOf iv + 1).toNat)
              case atStart => exact ⟨la + 1, by omega, by simp, by rw [hend.1], by rw [hend.2], hf67⟩
              case round =>
                obtain ⟨i, hi, rfl, rfl, rfl, hgz⟩ := hrel
                cases i with
                | zero =>
                  simp only [show (((0 : Nat) : Int) - 1) = -1 from rfl]
                  obtain ⟨m1, m2⟩ := hnam'
                  have m1' : decide (Aq 0 ≥ 0) = true := decide_eq_true (by omega)
                  have m1'' : Aq 0 ≥ 0 := by omega
                  clear hround hend
                  rcases m2 with m2 | ⟨m2, m3⟩
                  · rw [m2]
                    generalize Aq 0 = aq at *
                    go_wp2_with (first | (go_at_call 17; go_must (refine (wakes_17 _).mono ?_); rintro y w8 ⟨rfl, hf8⟩) | fail)
                    go_ret
                    exact ⟨rfl, gb_trans hgw.out (gb_trans hgz hf8)⟩
                  · rw [m3] at m1 m1' m1'' ⊢
                    generalize Cq 0 = cq at *
                    have m4 : ¬ cq = 0 := by omega
                    have m5 : decide (cq < 0) = true := decide_eq_true m2
                    go_wp2_with (first | (go_at_call 17; go_must (refine (wakes_17 _).mono ?_); rintro y w8 ⟨rfl, hf8⟩) | fail)
                    go_ret
                    exact ⟨rfl, gb_trans hgw.out (gb_trans hgz hf8)⟩
                | succ i =>
                  obtain ⟨y, act, hcy, hca, hC, hA⟩ := hround i (by omega)
                  simp only [show (((i + 1 : Nat) : Int) - 1) = (i : Int) by omega]
                  have cy := hcy _ hgz
                  have n1 : decide ((i : Int) ≥ 0) = true := decide_eq_true (by omega)
                  have n2 : (i : Int) ≥ 0 := by omega
                  have n3 : (i : Int) < (la : Int) + 1 := by omega
                  have n4 : ¬ (i : Int) < 0 := by omega
                  clear hround hend hnam'
                  by_cases hy : y = ph
                  · rw [if_pos hy] at hA
                    subst hy
                    cases act
                    · simp only [Bool.false_eq_true, if_false] at hC
                      go_wp2_with (first | (go_at_call 36; go_must (refine (hca _ hgz).mono ?_); rintro z w8 ⟨rfl, hf8⟩; (have cy8 := hcy _ (gb_trans hgz hf8))) | fail)
                      exact ⟨⟨i, by omega, by go_num, by rw [hC], by rw [hA], gb_trans hgz hf8⟩, by simp [intOf]⟩
                    · simp only [if_true] at hC
                      go_wp2_with (first | (go_at_call 36; go_must (refine (hca _ hgz).mono ?_); rintro z w8 ⟨rfl, hf8⟩; (have cy8 := hcy _ (gb_trans hgz hf8))) | fail)
                      exact ⟨⟨i, by omega, by go_num, by rw [hC], by rw [hA], gb_trans hgz hf8⟩, by simp [intOf]⟩
                  · rw [if_neg hy] at hA
                    have hy' : ¬ (y : Int) = (ph : Int) := by omega
                    cases act
                    · simp only [Bool.false_eq_true, if_false] at hC
                      go_wp2_with (first | (go_at_call 36; go_must (refine (hca _ hgz).mono ?_); rintro z w8 ⟨rfl, hf8⟩; (have cy8 := hcy _ (gb_trans hgz hf8))) | fail)
                      exact ⟨⟨i, by omega, by go_num, by rw [hC], by rw [hA], gb_trans hgz hf8⟩, by simp [intOf]⟩
                    · simp only [if_true] at hC
                      go_wp2_with (first | (go_at_call 36; go_must (refine (hca _ hgz).mono ?_); rintro z w8 ⟨rfl, hf8⟩; (have cy8 := hcy _ (gb_trans hgz hf8))) | fail)
                      exact ⟨⟨i, by omega, by go_num, by rw [hC], by rw [hA], gb_trans hgz hf8⟩, by simp [intOf]⟩
        · have e2 : decide ((acc.length : Int) < lo) = true := decide_eq_true (by omega)
          have e2' : (acc.length : Int) < lo := by omega
          rcases List.eq_nil_or_concat acc with rfl | ⟨acc', x, hax⟩
          · rw [if_neg (by rintro (h1 | h1); exact hA h1; exact h1.1 rfl)] at hEd
            simp only [List.length_nil] at *
            have hsz := hg.size
            by_cases hyo : y = 0
            · rw [if_pos hyo] at hEd
              have HE : Hid _ := hEd
              have hyo' : ((y : Nat) : Int) = (0 : Int) := by omega
              go_wp2_with fail
              exact ⟨⟨i + 1, [], by omega, by simp, by go_num, HE.out, ho, hg⟩, by simp [intOf]; omega⟩
            · rw [if_neg hyo] at hEd
              have HE : Hid _ := hEd
              have hyo' : ¬ ((y : Nat) : Int) = (0 : Int) := by omega
              have hlo : ∀ k, (Value.slice oa 0 oc).ownBlock = some k → w5.heap.size ≤ k := fun k hk => (ho.lt k hk).1
              have cb : ∀ o, (wr.alloc o).cell? ⟨g', i, none⟩ = some (.int .u64 y) := fun o => gb_cellN (World.grownBy_alloc wr o none) cy
              have cc1 : ∀ o, (wr.alloc o).cell? ⟨kr, 0, none⟩ = some (.slice (some ⟨g', 0, none⟩) R.length rc) := fun o => gb_cellN (World.grownBy_alloc wr o none) c1
              go_wp2_with (first | (at_builtin; go_must (refine push72 rfl _ _ rfl w5.heap.size (.slice oa 0 oc) 0 (uvs []) (by rfl) ho (y : Int) (by rfl) (by omega) hsz ?_); intro g1 cap1 w4 ho4 hg4 hat4) | fail)
              exact ⟨⟨i + 1, [y], by omega, by simp, by go_num, HE.out, ho4, gb_far hg hg4 hlo (Nat.le_refl _)⟩, by simp [intOf]; omega⟩
          · rw [List.concat_eq_append] at hax
            subst hax
            have hlast : (acc' ++ [x]).getLastD 0 = x := by simp
            rw [hlast] at hEd
            obtain ⟨gs, rfl⟩ := hoa (by simp)
            have hcx := fun W (hf : wr.grownBy W none) => row_cell (row_kept ho hf (by simp)) acc'.length (.int .u64 (x : Nat)) (by rw [uvs_app]; simp [uvs])
            have hlen : (acc' ++ [x]).length = acc'.length + 1 := by simp
            have cx := hcx wr (gb_refl _ _)
            have hdx' := fun W (hf : wr.grownBy W none) => hdd0 W x ((hDW wr hg).kept0 hf)
            cases hdx : dd x with
            | true =>
              rw [if_pos (.inr ⟨by simp, hdx⟩)] at hEd
              subst hEd
              have h16 := fun W (hf : wr.grownBy W none) => ends_16 ((((HX.out.2.2.2.2.2.2.kept0 HX.out.2.2.2.2.1).kept0 hg5).kept0 hg).kept0 hf)
              have hgw : Hid (w.grownBy wr none) := gb_trans HX.out.2.2.2.1 (gb_trans hg5 hg)
              rw [hlast] at p2 p3
              have hpb : pb = true := p2.2 ⟨by simp, hdx⟩
              subst hpb
              have hph : x = ph := (p3 rfl).symm
              subst hph
              rw [hdx] at hdx'
              have hacc : (acc' ++ [x]).length ≤ 900 := by omega
              rw [hlen] at hacc e2 e2' ⊢
              clear p2 p3 p4 hDW hLo hdd' hdd0 ho hoa hlast hlen hai hA
              generalize acc'.length = la at *
              have hla : ¬ ((la : Int) + 1 = 0) := by omega
              have hw1 : IntKind.i64.wrap ((la : Int) + 1 - 1) = (la : Int) := by rw [IntKind.wrap_i64]; omega
              have hil : (la : Int) < (la : Int) + 1 := by omega
              have hi0 : ¬ (la : Int) < 0 := by omega
              go_wp2_with (first | (go_at_call 37; with_reducible refine (hdx' wr (gb_refl wr none)).mono ?_; rintro z wq ⟨rfl, hfq⟩) | (go_at_call 16; go_must (refine (h16 _ hfq).mono ?_); rintro z w6 ⟨rfl, hf6⟩; (have hf66 := gb_trans hfq hf6); (have cx6 := hcx _ hf66)) | (go_at_call 37; go_must (with_reducible refine (hdx' _ hf66).mono ?_); rintro z w7 ⟨rfl, hf7⟩; (have cx7 := hcx _ (gb_trans hf66 hf7))) | (go_at_call 17; go_must (refine (wakes_17 _).mono ?_); rintro z w8 ⟨rfl, hf8⟩) | fail)
              go_ret
              exact ⟨rfl, gb_trans hgw.out (gb_trans hf66 (gb_trans hf7 hf8))⟩
            | false =>
              rw [if_neg (by rintro (h1 | h1); exact hA h1; rw [hdx] at h1; exact absurd h1.2 (by decide))] at hEd
              rw [hdx] at hdx'
              have hsz := hg.size
              have hacc : (acc' ++ [x]).length ≤ 900 := by omega
              have hlo : ∀ k, (Value.slice (some ⟨gs, 0, none⟩) (acc' ++ [x]).length oc).ownBlock = some k → w5.heap.size ≤ k := fun k hk => (ho.lt k hk).1
              have hfar := fun W w4 (hf : wr.grownBy W none) (h4 : W.grownBy w4 (Value.slice (some ⟨gs, 0, none⟩) (acc' ++ [x]).length oc).ownBlock) => (show w5.grownBy w4 none from gb_far (gb_trans hg hf) h4 hlo (Nat.le_refl _))
              have hcy := fun W (hf : wr.grownBy W none) => (show W.cell? ⟨g', i, none⟩ = some (.int .u64 y) ∧ W.cell? ⟨kr, 0, none⟩ = some (.slice (some ⟨g', 0, none⟩) R.length rc) from ⟨gb_cellN hf cy, gb_cellN hf c1⟩)
              have hon := fun W (hf : wr.grownBy W none) => (show W.ownsRow w5.heap.size 48 1 (.slice (some ⟨gs, 0, none⟩) (acc' ++ [x]).length oc) (acc' ++ [x]).length (uvs (acc' ++ [x])) from row_kept ho hf (by simp))
              have hpush : Hid (∀ (w4 : World) (g1 cap1 : Nat), w4.ownsRow w5.heap.size 48 1 (.slice (some ⟨g1, 0, none⟩) ((acc' ++ [x]).length + 1) cap1) ((acc' ++ [x]).length + 1) (uvs (acc' ++ [x]) ++ [.int .u64 (y : Int)]) → w4.ownsRow w5.heap.size 48 1 (.slice (some ⟨g1, 0, none⟩) ((acc' ++ [x]).length + 1) cap1) ((acc' ++ [x]) ++ [y]).length (uvs ((acc' ++ [x]) ++ [y]))) := fun w4 g1 cap1 h4 => by
                have e9 : ((acc' ++ [x]) ++ [y]).length = (acc' ++ [x]).length + 1 := by rw [List.length_append]; rfl
                rw [uvs_app (acc' ++ [x]) y, e9]
                exact h4
              have hai' : ((acc' ++ [x]) ++ [y]).length ≤ i + 1 := by rw [List.length_append]; simp at hai ⊢; omega
              by_cases hyo : y = 0
              · rw [if_pos hyo] at hEd
                have HE : Hid _ := hEd
                have HN : Hid _ := And.intro hai hon
                have hyo' : ((y : Nat) : Int) = (0 : Int) := by omega
                rw [hlen] at e2 e2' hacc
                clear hlast hdd' hdd0 hDW hLo p2 p3 p4 hpush hon hfar hlo ho hai hai' hoa
                obtain ⟨ll, hll⟩ : ∃ ll, (acc' ++ [x]).length = ll := ⟨_, rfl⟩
                obtain ⟨la, hla0⟩ : ∃ la, acc'.length = la := ⟨_, rfl⟩
                rw [hla0] at hlen hcx cx e2 e2' hacc
                rw [hlen]
                have HL : Hid _ := hlen
                have HA : Hid _ := hla0
                have hla : ¬ ((la : Int) + 1 = 0) := by omega
                have hw1 : IntKind.i64.wrap ((la : Int) + 1 - 1) = (la : Int) := by rw [IntKind.wrap_i64]; omega
                have hil : (la : Int) < (la : Int) + 1 := by omega
                have hi0 : ¬ (la : Int) < 0 := by omega
                clear hlen hla0 hll
                go_wp2_with (first | (go_at_call 37; go_must (refine (hdx' wr (gb_refl wr none)).mono ?_); rintro z wq ⟨rfl, hfq⟩; (obtain ⟨cyq, c1q⟩ := hcy _ hfq)) | fail)
                exact ⟨⟨i + 1, acc' ++ [x], by omega, by have := HN.out.1; omega, by go_num, HE.out, by have := HN.out.2 wq hfq; rw [HL.out] at this ⊢; exact this, gb_trans hg hfq⟩, by simp [intOf]; omega⟩
              · rw [if_neg hyo] at hEd
                have HE : Hid _ := hEd
                have hyo' : ¬ ((y : Nat) : Int) = (0 : Int) := by omega
                have HN : Hid _ := hai'
                rw [hlen] at e2 e2' hacc hon hfar hpush hlo ⊢
                clear hlast hdd' hdd0 hDW hLo p2 p3 p4 ho hai hai' hoa hlen
                obtain ⟨la, hla0⟩ : ∃ la, acc'.length = la := ⟨_, rfl⟩
                rw [hla0] at hcx cx e2 e2' hacc hon hfar hpush hlo ⊢
                have hla : ¬ ((la : Int) + 1 = 0) := by omega
                have hw1 : IntKind.i64.wrap ((la : Int) + 1 - 1) = (la : Int) := by rw [IntKind.wrap_i64]; omega
                have hil : (la : Int) < (la : Int) + 1 := by omega
                have hi0 : ¬ (la : Int) < 0 := by omega
                clear hla0
                go_wp2_with (first | (go_at_call 37; go_must (refine (hdx' wr (gb_refl wr none)).mono ?_); rintro z wq ⟨rfl, hfq⟩; (obtain ⟨cyq, c1q⟩ := hcy _ hfq); (have hoq := hon _ hfq); (have hszq := Nat.le_trans hsz hfq.size); (have cbq : ∀ o, (wq.alloc o).cell? ⟨g', i, none⟩ = some (.int .u64 y) := fun o => gb_cellN (World.grownBy_alloc wq o none) cyq); (have ccq : ∀ o, (wq.alloc o).cell? ⟨kr, 0, none⟩ = some (.slice (some ⟨g', 0, none⟩) R.length rc) := fun o => gb_cellN (World.grownBy_alloc wq o none) c1q)) | (at_builtin; go_must (refine push72 rfl _ _ rfl w5.heap.size (.slice (some ⟨gs, 0, none⟩) (la + 1) oc) (la + 1) (uvs (acc' ++ [x])) (by rfl) hoq (y : Int) (by rfl) (by omega) hszq ?_); intro g1 cap1 w4 ho4 hg4 hat4) | fail)
                exact ⟨⟨i + 1, (acc' ++ [x]) ++ [y], by omega, HN.out, by go_num, HE.out, hpush.out w4 g1 cap1 ho4, hfar wq w4 hfq hg4⟩, by simp [intOf]; omega⟩
      · obtain rfl : i = R.length := by omega
        have hacL : acc = L := by have := hE.out; rw [List.drop_length, snf] at this; exact this
        subst hacL
        have e1 : decide ((R.length : Int) < R.length) = false := decide_eq_false (by omega)
        have h16 := ends_16 (((HX.out.2.2.2.2.2.2.kept0 HX.out.2.2.2.2.1).kept0 hg5).kept0 hg)
        have hgw : Hid (w.grownBy wr none) := gb_trans HX.out.2.2.2.1 (gb_trans hg5 hg)
        have hSr := ((HX.out.2.2.2.2.2.1.kept0 HX.out.2.2.2.2.1).kept0 hg5).kept0 hg
        have hddr := fun W (hf : wr.grownBy W none) x => hdd0 W x ((hDW wr hg).kept0 hf)
        rcases List.eq_nil_or_concat acc with rfl | ⟨acc', x, hax⟩
        · have hpb : pb = false := by cases pb with | false => rfl | true => exact absurd rfl (p2.1 rfl).1
          subst hpb
          have hph : ph = 0 := p4 rfl
          subst hph
          clear p2 p3 p4 hddr hSr hDW hLo hdd' hdd0 hE ho hoa
          go_wp2_with (first | (go_at_call 16; go_must (refine h16.mono ?_); rintro y w6 ⟨rfl, hf6⟩) | (go_at_call 17; go_must (refine (wakes_17 _).mono ?_); rintro y w7 ⟨rfl, hf7⟩) | fail)
          go_ret
          exact ⟨rfl, gb_trans hgw.out (gb_trans hf6 hf7)⟩
        · rw [List.concat_eq_append] at hax
          subst hax
          have hlast : (acc' ++ [x]).getLastD 0 = x := by simp
          rw [hlast] at p2 p3
          obtain ⟨gs, rfl⟩ := hoa (by simp)
          have hcx := fun W (hf : wr.grownBy W none) => row_cell (row_kept ho hf (by simp)) acc'.length (.int .u64 (x : Nat)) (by rw [uvs_app]; simp [uvs])
          have hlen : (acc' ++ [x]).length = acc'.length + 1 := by simp
          have hacc : (acc' ++ [x]).length ≤ 900 := by omega
          cases hdx : dd x with
          | true =>
            have hpb : pb = true := p2.2 ⟨by simp, hdx⟩
            subst hpb
            have hph : x = ph := (p3 rfl).symm
            subst hph
            have hdx' := fun W (hf : wr.grownBy W none) => hddr W hf x
            rw [hdx] at hdx'
            first | rw [hlen] at hacc e2 e2' ⊢ | rw [hlen] at hacc ⊢
            clear p2 p3 p4 hddr hSr hDW hLo hdd' hdd0 hE ho hoa hlast hlen
            generalize acc'.length = la at *
            have hla : ¬ ((la : Int) + 1 = 0) := by omega
            have hw1 : IntKind.i64.wrap ((la : Int) + 1 - 1) = (la : Int) := by rw [IntKind.wrap_i64]; omega
            have hil : (la : Int) < (la : Int) + 1 := by omega
            have hi0 : ¬ (la : Int) < 0 := by omega
            go_wp2_with (first | (go_at_call 16; go_must (refine h16.mono ?_); rintro y w6 ⟨rfl, hf6⟩; (have cx6 := hcx _ hf6)) | (go_at_call 37; go_must (refine (hdx' _ hf6).mono ?_); rintro y w7 ⟨rfl, hf7⟩; (have cx7 := hcx _ (gb_trans hf6 hf7))) | (go_at_call 17; go_must (refine (wakes_17 _).mono ?_); rintro y w8 ⟨rfl, hf8⟩) | fail)
            go_ret
            exact ⟨rfl, gb_trans hgw.out (gb_trans hf6 (gb_trans hf7 hf8))⟩
          | false =>
            have hpb : pb = false := by cases pb with | false => rfl | true => exact absurd (p2.1 rfl).2 (by rw [hdx]; decide)
            subst hpb
            have hph := p4 rfl
            have hnam := named (mk := S.ma) (l := acc' ++ [x]) (by simp)
            rw [← hph] at hnam
            have hmem : ∀ y, y ∈ acc' ++ [x] → y ∈ R := fun y hy => by
              have := snf_mem 0 lo dd R [] y (by rw [hLs]; exact hy)
              simpa using this
            have hround : ∀ i, i < acc'.length + 1 → ∃ (y : Nat) (act : Bool), (∀ W, wr.grownBy W none → W.cell? ⟨gs, i, none⟩ = some (.int .u64 y)) ∧ (∀ W, wr.grownBy W none → Calls Tryz.prog 36 #[.pointer (some ⟨wb, 0, none⟩), .int .u64 y] W fun z w' => z = .returned (.bool act) ∧ W.grownBy w' none) ∧ fxi (fun x => !decide (S.ma x % 2 = 1)) i ((acc' ++ [x]).drop i) = (if act then fxi (fun x => !decide (S.ma x % 2 = 1)) (i + 1) ((acc' ++ [x]).drop (i + 1)) else (i : Int)) ∧ fxi (fun z => decide (z = ph)) i ((acc' ++ [x]).drop i) = (if y = ph then (i : Int) else fxi (fun z => decide (z = ph)) (i + 1) ((acc' ++ [x]).drop (i + 1))) := fun i hi => by
              have hi' : i < (acc' ++ [x]).length := by rw [hlen]; exact hi
              obtain ⟨k, hk⟩ := hRm _ (hmem _ (List.getElem_mem hi'))
              refine ⟨(acc' ++ [x])[i], decide (S.ma (acc' ++ [x])[i] % 2 = 1), fun W hf => row_cell (row_kept ho hf (by simp)) i _ (uvs_get (List.getElem?_eq_getElem hi')), fun W hf => active_36 (hSr.kept0 hf) hk, ?_, ?_⟩
              · rw [List.drop_eq_getElem_cons hi', fxi]
                by_cases ha : S.ma (acc' ++ [x])[i] % 2 = 1 <;> simp [ha]
              · rw [List.drop_eq_getElem_cons hi', fxi]
                by_cases ha : (acc' ++ [x])[i] = ph <;> simp [ha]
            have hend : fxi (fun x => !decide (S.ma x % 2 = 1)) (acc'.length + 1) ((acc' ++ [x]).drop (acc'.length + 1)) = -1 ∧ fxi (fun z => decide (z = ph)) (acc'.length + 1) ((acc' ++ [x]).drop (acc'.length + 1)) = -1 := by
              rw [List.drop_eq_nil_of_le (by simp)]
              exact ⟨rfl, rfl⟩
            obtain ⟨Cq, hCq⟩ : ∃ Cq : Nat → Int, ∀ i, fxi (fun x => !decide (S.ma x % 2 = 1)) i ((acc' ++ [x]).drop i) = Cq i := ⟨_, fun _ => rfl⟩
            obtain ⟨Aq, hAq⟩ : ∃ Aq : Nat → Int, ∀ i, fxi (fun z => decide (z = ph)) i ((acc' ++ [x]).drop i) = Aq i := ⟨_, fun _ => rfl⟩
            have hnam' : 0 ≤ Aq 0 ∧ (Cq 0 = Aq 0 ∨ (Cq 0 < 0 ∧ Aq 0 = 0)) := by rw [← hCq, ← hAq]; exact hnam
            simp only [hCq, hAq] at hround hend
            have hdx' := fun W (hf : wr.grownBy W none) => hddr W hf x
            rw [hdx] at hdx'
            first | rw [hlen] at hacc e2 e2' ⊢ | rw [hlen] at hacc ⊢
            clear p2 p3 p4 hddr hSr hDW hLo hdd' hdd0 hE ho hoa hlast hlen hnam hCq hAq hmem hph hRm
            generalize acc'.length = la at *
            have hla : ¬ ((la : Int) + 1 = 0) := by omega
            have hw1 : IntKind.i64.wrap ((la : Int) + 1 - 1) = (la : Int) := by rw [IntKind.wrap_i64]; omega
            have hil : (la : Int) < (la : Int) + 1 := by omega
            have hi0 : ¬ (la : Int) < 0 := by omega
            go_wp2_with (first | (go_at_call 16; go_must (refine h16.mono ?_); rintro y w6 ⟨rfl, hf6⟩; (have cx6 := hcx _ hf6)) | (go_at_call 37; go_must (refine (hdx' _ hf6).mono ?_); rintro y w7 ⟨rfl, hf7⟩) | fail)
            have hf67 := gb_trans hf6 hf7
            clear hdx' hcx cx6 h16
            go_loopw [13, 14, 15] (fun cv av iv wz => ∃ i : Nat, i ≤ la + 1 ∧ iv = .int .i64 ((i : Int) - 1) ∧ cv = .int .i64 (Cq i) ∧ av = .int .i64 (Aq i) ∧ wr.grownBy wz none) (fun _ _ iv _ => (intOf iv + 1).toNat)
            case atStart => exact ⟨la + 1, by omega, by simp, by rw [hend.1], by rw [hend.2], hf67⟩
            case round =>
              obtain ⟨i, hi, rfl, rfl, rfl, hgz⟩ := hrel
              cases i with
              | zero =>
                simp only [show (((0 : Nat) : Int) - 1) = -1 from rfl]
                obtain ⟨m1, m2⟩ := hnam'
                have m1' : decide (Aq 0 ≥ 0) = true := decide_eq_true (by omega)
                have m1'' : Aq 0 ≥ 0 := by omega
                clear hround hend
                rcases m2 with m2 | ⟨m2, m3⟩
                · rw [m2]
                  generalize Aq 0 = aq at *
                  go_wp2_with (first | (go_at_call 17; go_must (refine (wakes_17 _).mono ?_); rintro y w8 ⟨rfl, hf8⟩) | fail)
                  go_ret
                  exact ⟨rfl, gb_trans hgw.out (gb_trans hgz hf8)⟩
                · rw [m3] at m1 m1' m1'' ⊢
                  generalize Cq 0 = cq at *
                  have m4 : ¬ cq = 0 := by omega
                  have m5 : decide (cq < 0) = true := decide_eq_true m2
                  go_wp2_with (first | (go_at_call 17; go_must (refine (wakes_17 _).mono ?_); rintro y w8 ⟨rfl, hf8⟩) | fail)
                  go_ret
                  exact ⟨rfl, gb_trans hgw.out (gb_trans hgz hf8)⟩
              | succ i =>
                obtain ⟨y, act, hcy, hca, hC, hA⟩ := hround i (by omega)
                simp only [show (((i + 1 : Nat) : Int) - 1) = (i : Int) by omega]
                have cy := hcy _ hgz
                have n1 : decide ((i : Int) ≥ 0) = true := decide_eq_true (by omega)
                have n2 : (i : Int) ≥ 0 := by omega
                have n3 : (i : Int) < (la : Int) + 1 := by omega
                have n4 : ¬ (i : Int) < 0 := by omega
                clear hround hend hnam'
                by_cases hy : y = ph
                · rw [if_pos hy] at hA
                  subst hy
                  cases act
                  · simp only [Bool.false_eq_true, if_false] at hC
                    go_wp2_with (first | (go_at_call 36; go_must (refine (hca _ hgz).mono ?_); rintro z w8 ⟨rfl, hf8⟩; (have cy8 := hcy _ (gb_trans hgz hf8))) | fail)
                    exact ⟨⟨i, by omega, by go_num, by rw [hC], by rw [hA], gb_trans hgz hf8⟩, by simp [intOf]⟩
                  · simp only [if_true] at hC
                    go_wp2_with (first | (go_at_call 36; go_must (refine (hca _ hgz).mono ?_); rintro z w8 ⟨rfl, hf8⟩; (have cy8 := hcy _ (gb_trans hgz hf8))) | fail)
                    exact ⟨⟨i, by omega, by go_num, by rw [hC], by rw [hA], gb_trans hgz hf8⟩, by simp [intOf]⟩
                · rw [if_neg hy] at hA
                  have hy' : ¬ (y : Int) = (ph : Int) := by omega
                  cases act
                  · simp only [Bool.false_eq_true, if_false] at hC
                    go_wp2_with (first | (go_at_call 36; go_must (refine (hca _ hgz).mono ?_); rintro z w8 ⟨rfl, hf8⟩; (have cy8 := hcy _ (gb_trans hgz hf8))) | fail)
                    exact ⟨⟨i, by omega, by go_num, by rw [hC], by rw [hA], gb_trans hgz hf8⟩, by simp [intOf]⟩
                  · simp only [if_true] at hC
                    go_wp2_with (first | (go_at_call 36; go_must (refine (hca _ hgz).mono ?_); rintro z w8 ⟨rfl, hf8⟩; (have cy8 := hcy _ (gb_trans hgz hf8))) | fail)
                    exact ⟨⟨i, by omega, by go_num, by rw [hC], by rw [hA], gb_trans hgz hf8⟩, by simp [intOf]⟩
end Go.Proofs.YtohneboimmcocaaGreat

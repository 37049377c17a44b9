import Derived.Test.YtohneboimmcocaaGreatOf
import Derived.Test.YtohneboimmcocaaGreatOh
/-
  The law's length; Head, Behind; the document's State.
-/
namespace Go.Proofs.YtohneboimmcocaaGreat
open Go.RowKit
set_option linter.unusedVariables false

section
variable {w : World} {sb qb gl gc : Nat} {F : Nat → Prop} {B : Bl} {b c d e f g : Int} {A : Ab} {m : List Int} {T : List Nat} {bs : Nat → It} {cls : Nat → Nat} {X : Nat → Nat → List Nat}
theorem q_headL (h : QL w sb qb gl gc F B b c d e f g A m T bs cls X) {ci k : Nat} (hc : ci < A.n) (hk : k < 3) (v : Nat) (hv : (X ci k).headD 0 = v) :
    Calls Tryz.prog 105 #[.pointer (some ⟨qb, 0, none⟩), .int .i64 ci, .int .i64 ((k : Int) + 1)] w fun y w' => y = .returned (.tuple #[.int .u64 v, .bool (decide (¬ v = 0))]) ∧ w.grownBy w' none := by
  obtain ⟨p, n, s, L, ⟨zs, hz, hq⟩, hI⟩ := h.ex
  exact q_head hq hc hk v (by rw [hI.hd, hv])
set_option maxRecDepth 100000 in
theorem q_behind (h : QL w sb qb gl gc F B b c d e f g A m T bs cls X) {H k : Nat} {U V : List Nat} (hX : X (cls H) k = U ++ H :: V) (v : Nat) (hv : V.headD 0 = v) :
    Calls Tryz.prog 106 #[.pointer (some ⟨qb, 0, none⟩), .int .u64 H] w fun y w' => y = .returned (.tuple #[.int .u64 v, .bool (decide (¬ v = 0))]) ∧ w.grownBy w' none := by
  have hm : H ∈ X (cls H) k := by rw [hX]; simp
  have hst := q_stateL h hm
  obtain ⟨p, n, s, L, ⟨zs, hz, hq⟩, hI⟩ := h.ex
  obtain ⟨hT, hs, _⟩ := hI.sub _ _ H hm
  have hk := hI.k3 _ _ H hm
  have hnx := fun W (hf : w.grownBy W none) => q_next (hq.kept0 hf) hT 2 (.inr rfl) v (by rw [if_neg (by omega), (hI.lk _ _ U H V hX).2, hv])
  simp only [show ((2 : Nat) : Int) = 2 from rfl] at hnx
  have hik := fun W => isKind_yes k hk W
  clear h hq hI hX hv hm
  have h117 : Calls Tryz.prog 117 #[.pointer (some ⟨qb, 0, none⟩), .int .u64 H, .int .i64 2] w fun y w' => y = .returned (.tuple #[.int .u64 v, .bool (decide (¬ v = 0))]) ∧ w.grownBy w' none := by
    go_enter Tryz.func117, Tryz.ntmps117
    go_wp2_with (first | (go_at_call 99; go_must (refine hst.mono ?_); rintro y w1 ⟨rfl, hf1⟩) | (go_at_call 98; go_must (refine (hik _).mono ?_); rintro y w' ⟨rfl, rfl⟩) | (go_at_call 144; go_must (refine (hnx _ hf1).mono ?_); rintro y w2 ⟨rfl, hf2⟩) | (go_at_call 61; go_must (refine (told_any v _).mono ?_); rintro y w' ⟨rfl, rfl⟩) | fail)
    go_ret2
    exact ⟨show Ending.returned (.tuple #[.int .u64 v, .bool (!decide (v = 0))]) = _ by simp, gb_trans hf1 hf2⟩
  clear hst hnx hik
  go_enter Tryz.func106, Tryz.ntmps106
  go_wp2_with (first | (go_at_call 117; go_must (refine h117.mono ?_); rintro y w1 ⟨rfl, hf1⟩) | fail)
  go_ret2
  exact ⟨show Ending.returned (.tuple #[.int .u64 v, .bool (!decide (v = 0))]) = _ by simp, hf1⟩
end

section
variable {w : World} {lb rb lsb : Nat} {lv : Value} {vs : Nat → Value} {Y : Nat → List Nat} {szb szc : Nat}
set_option maxRecDepth 100000 in
/-- The document's State of what stands in a list. -/
theorem rstate_yes (h : RQ w lb rb lsb lv vs Y szb szc) {H j : Nat} {U V : List Nat} (hS : Stands Y H j U V) (hj : j < 9) :
    Calls Tryz.prog 48 #[.pointer (some ⟨lb, 0, none⟩), .int .u64 H] w fun y w' => y = .returned (.int .i64 ((j % 3 + 1 : Nat) : Int)) ∧ w.grownBy w' none := by
  have hw := where_yes h hS
  generalize U.length = ul at *
  have h1 : (j : Int) ≥ 0 := by omega
  have h2 : decide ((j : Int) ≥ 0) = true := decide_eq_true h1
  have h3 : (j : Int).tmod 3 = ((j % 3 : Nat) : Int) := by rw [Int.tmod_eq_emod_of_nonneg (by omega)]; omega
  have h4 : IntKind.i64.wrap (((j % 3 : Nat) : Int) + 1) = ((j % 3 + 1 : Nat) : Int) := by rw [IntKind.wrap_i64]; omega
  generalize j % 3 = r at *
  clear h hS
  go_enter Tryz.func48, Tryz.ntmps48
  go_wp2_with (first | (go_at_call 50; go_must (refine hw.mono ?_); rintro y w' ⟨rfl, rfl⟩) | fail)
  go_ret
  exact ⟨by first | rfl | (congr), gb_refl _ _⟩
set_option maxRecDepth 100000 in
theorem rstate_no (h : RQ w lb rb lsb lv vs Y szb szc) {H : Nat} (hS : Nowhere Y H) (hI : Calls Tryz.prog 43 #[.pointer (some ⟨lb, 0, none⟩), .int .u64 H] w fun y w' => y = .returned (.bool true) ∧ w.grownBy w' none) :
    Calls Tryz.prog 48 #[.pointer (some ⟨lb, 0, none⟩), .int .u64 H] w fun y w' => y = .returned (.int .i64 4) ∧ w.grownBy w' none := by
  have hw := where_no h hS
  clear h hS
  go_enter Tryz.func48, Tryz.ntmps48
  go_wp2_with (first | (go_at_call 50; go_must (refine hw.mono ?_); rintro y w' ⟨rfl, rfl⟩) | (go_at_call 43; go_must (refine hI.mono ?_); rintro y w1 ⟨rfl, hf1⟩) | fail)
  go_ret
  exact ⟨rfl, hf1⟩
end

section
variable {w : World} {P : Nat → Prop} {wb N : Nat} {D : Wd} {hot warm lsb : Nat} {vs : Nat → Value} {Y : Nat → List Nat} {cl : Nat → Nat} {S : Lm} {D0 : Wd}
set_option maxRecDepth 100000 in
/-- Len, of both. -/
theorem length_12 (hG : GS w P wb N hot warm D0) (c : Int) : Calls Tryz.prog 12 #[.pointer (some ⟨wb, 0, none⟩), .int .i64 c] w fun y w' => y = .returned (.bool true) ∧ w.grownBy w' none := by
  have key : ∃ x y z : Int, (∀ W, w.grownBy W none → Calls Tryz.prog 35 #[.pointer (some ⟨D0.xb, 0, none⟩), .int .i64 c] W fun r w' => r = .returned (.tuple #[.int .i64 x, .int .i64 y, .int .i64 z]) ∧ W.grownBy w' none) ∧ ∀ W, w.grownBy W none → Calls Tryz.prog 42 #[.pointer (some ⟨D0.mb, 0, none⟩), .int .i64 c] W fun r w' => r = .returned (.tuple #[.int .i64 x, .int .i64 y, .int .i64 z]) ∧ W.grownBy w' none := by
    obtain ⟨D, lsb, vs, Y, S, cl, hs, hW⟩ := hG
    obtain ⟨bs, p, n, s, hX⟩ := hW.gx
    have hN1 := hW.nN
    rw [← hs.2.2.1, ← hs.2.2.2.2.2]
    by_cases hc : 0 ≤ c ∧ c < 3
    · obtain ⟨ci, rfl⟩ : ∃ ci : Nat, c = (ci : Int) := ⟨c.toNat, by omega⟩
      have hci : ci < 3 := by omega
      refine ⟨(S.X ci 0).length, (S.X ci 1).length, (S.X ci 2).length, fun W hf => ?_, fun W hf => ?_⟩
      · exact len_35 (hX.lq (hW.ms.kept0 hf) (by omega)) (by rw [hX.n3]; exact hci)
      · obtain ⟨szb, szc, hD⟩ := (hW.ms.kept0 hf).ds hX.rf hX.rn
        have := d_len hD hci
        rw [show 3 * ci = 3 * ci + 0 from rfl, hW.dm.ys ci 0 hci (by omega), hW.dm.ys ci 1 hci (by omega), hW.dm.ys ci 2 hci (by omega)] at this
        exact this
    · refine ⟨0, 0, 0, fun W hf => ?_, fun W hf => ?_⟩
      · exact len_35No (n := 3) (hW.ms.kept0 hf).ms.qbx (hW.ms.kept0 hf).ms.xbx (by omega) hc
      · obtain ⟨szb, szc, hD⟩ := (hW.ms.kept0 hf).ds hX.rf hX.rn
        exact d_lenNo hD hc
  obtain ⟨x, y, z, h35, h42⟩ := key
  have hcs := fun W (hf : w.grownBy W none) => (hG.kept0 hf).cells
  obtain ⟨_, _, c2, _⟩ := hcs w (gb_refl _ _)
  clear hG
  go_enter Tryz.func12, Tryz.ntmps12
  go_wp2_with (first | (go_at_call 35; go_must (refine (h35 _ (gb_refl _ _)).mono ?_); rintro r w1 ⟨rfl, hf1⟩; (obtain ⟨_, _, _, _, _, c5⟩ := hcs w1 hf1)) | (go_at_call 42; go_must (refine (h42 _ hf1).mono ?_); rintro r w2 ⟨rfl, hf2⟩) | fail)
  go_ret
  exact ⟨rfl, gb_trans hf1 hf2⟩
end
end Go.Proofs.YtohneboimmcocaaGreat
/-
  The law's header.
-/
namespace Go.Proofs.YtohneboimmcocaaGreat
open Go.RowKit
set_option linter.unusedVariables false

/-- One more than the last place of a handle; 0: it is not there. -/
def lp (l : List Nat) (H : Nat) : Nat := if H ∈ l then lst l H 0 + 1 else 0
theorem lp_snoc (l : List Nat) (x H : Nat) : lp (l ++ [x]) H = if x = H then l.length + 1 else lp l H := by
  unfold lp
  by_cases e : x = H
  · subst e
    rw [if_pos (by simp), if_pos rfl, lst_snoc]
    omega
  · rw [if_neg e]
    have hiff : H ∈ l ++ [x] ↔ H ∈ l := by simp [Ne.symm e]
    by_cases hm : H ∈ l
    · rw [if_pos (hiff.2 hm), if_pos hm, lst_other l H x 0 (fun h => e h.symm) hm]
    · rw [if_neg (fun h => hm (hiff.1 h)), if_neg hm]
theorem lst_lt : ∀ (l : List Nat) (H i : Nat), H ∈ l → lst l H i < i + l.length
  | [], H, i, h => by simp at h
  | x :: l, H, i, h => by
    unfold lst
    split
    · rename_i hm
      have := lst_lt l H (i + 1) hm
      simp only [List.length_cons]
      omega
    · simp only [List.length_cons]
      omega
theorem lp_le (l : List Nat) (H : Nat) : lp l H ≤ l.length := by
  unfold lp
  split
  · rename_i hm
    have := lst_lt l H 0 hm
    omega
  · exact Nat.zero_le _

section
variable {w : World} {P : Nat → Prop} {wb N : Nat} {hot warm : Nat} {D0 : Wd}
set_option maxRecDepth 100000 in
set_option maxHeartbeats 1000000 in
theorem header_13 (hG : GS w P wb N hot warm D0) (H : Nat) : Calls Tryz.prog 13 #[.pointer (some ⟨wb, 0, none⟩), .int .u64 H] w fun y w' => y = .returned (.bool true) ∧ w.grownBy w' none := by
  have hcs := fun W (hf : w.grownBy W none) => (hG.kept0 hf).cells
  obtain ⟨D, lsb, vs, Y, S, cl, hs, hW⟩ := hG
  obtain ⟨bs, p, n, s, hX⟩ := hW.gx
  have hN1 := hW.nN
  have hM := hW.ms
  have hl : D.xl.length ≤ 300 := by omega
  have hlt := hX.lt hl
  have h43 := fun W (hf : w.grownBy W none) => hX.is_ (hM.kept0 hf) hl H
  rw [hs.2.2.2.2.1] at h43
  obtain ⟨_, _, _, _, c4, _⟩ := hcs w (gb_refl _ _)
  by_cases hH : H ∈ D.xl
  · rw [decide_eq_true hH] at h43
    have h45 := fun W (hf : w.grownBy W none) => ris_45 (hM.kept0 hf).ms.mbx (hM.kept0 hf).ms.arow (by omega) H
    rw [hs.2.2.2.2.2] at h45
    have h47 := fun W (hf : w.grownBy W none) => (show Calls Tryz.prog 47 #[.pointer (some ⟨D0.sb, 0, none⟩), .int .u64 H] W fun y w' => y = .returned (.tuple #[.int .i64 (S.ma H), .int .i64 0]) ∧ W.grownBy w' none by
      have := q_marks (hX.lq (hM.kept0 hf) hl).ql hH
      rw [(hX.mks H hH).1, hs.1] at this
      exact this)
    have h46 := fun W (hf : w.grownBy W none) => (show Calls Tryz.prog 46 #[.pointer (some ⟨D0.sb, 0, none⟩), .int .u64 H] W fun y w' => y = .returned (.tuple #[.int .i64 (s H), .int .i64 0]) ∧ W.grownBy w' none by
      have hqm := hX.qm (hM.kept0 hf)
      obtain ⟨x, kk, hX1, hI1, _⟩ := hqm.its H hH
      have hst := state_yes hqm.iss hqm.inv.fit hX1 _ hI1
      rw [hs.1] at hst
      exact hst)
    have h48 := fun W (hf : w.grownBy W none) => (show Calls Tryz.prog 48 #[.pointer (some ⟨D0.lb, 0, none⟩), .int .u64 H] W fun y w' => y = .returned (.int .i64 (s H)) ∧ W.grownBy w' none by
      obtain ⟨szb, szc, hD⟩ := (hM.kept0 hf).ds hX.rf hX.rn
      rw [← hs.2.2.2.2.1]
      rcases hX.cases hH with ⟨hs4, hno⟩ | ⟨k, U, V, hk, hsk, hXk⟩
      · rw [hs4]
        have hi := h43 W hf
        rw [← hs.2.2.2.2.1] at hi
        exact rstate_no hD.rq (hW.dm.nowhere hno) hi
      · have hc3 := hX.c3 hH
        have := rstate_yes hD.rq (hW.dm.stands hlt hc3 hk hXk) (by omega)
        rw [show (3 * cl H + k) % 3 + 1 = s H by omega] at this
        exact this)
    have hac := hW.dm.ac H hH
    have hdr := hW.hdr H hH
    have hm15 := (hX.mks H hH).2
    have hin := hW.sub H hH
    have hlp : lp D.xt H = lst D.xt H 0 + 1 := if_pos hin
    have hrow := fun W (hf : w.grownBy W none) => (hM.kept0 hf).ms.trow
    obtain ⟨ao, cc, htv, _, _, _, hao⟩ := row_shape hM.ms.trow
    obtain ⟨g, rfl⟩ := hao (List.length_pos_of_mem hin)
    have hC6 := fun W (hf : w.grownBy W none) => (hM.kept0 hf).ms.box.cell 6
    rw [htv] at hC6 hrow
    have hcell := fun k (hk : k < D.xt.length) W (hf : w.grownBy W none) => row_cell (hrow W hf) k _ (uvs_get (List.getElem?_eq_getElem hk))
    have hlsn := fun k (hk : k < D.xt.length) => (show lp (D.xt.take (k + 1)) H = if D.xt[k] = H then k + 1 else lp (D.xt.take k) H by
      rw [List.take_add_one, List.getElem?_eq_getElem hk]
      show lp (D.xt.take k ++ [D.xt[k]]) H = _
      rw [lp_snoc, show (D.xt.take k).length = k by simp; omega])
    have hle := fun k => lp_le (D.xt.take k) H
    have hfull : lp (D.xt.take D.xt.length) H = lst D.xt H 0 + 1 := by rw [List.take_length]; exact hlp
    have hlst : lst D.xt H 0 + 1 ≤ D.xt.length := by rw [← hlp]; exact lp_le _ _
    have hmk := fun W => marks_44 (lst D.xt H 0 + 1) (by omega) W
    rw [show (lst D.xt H 0 + 1) * 7 % 16 = mrk (lst D.xt H 0) from rfl] at hmk
    have hlp0 : lp (D.xt.take 0) H = 0 := by simp [lp]
    have hln := hN1.2.1
    have hmr : mrk (lst D.xt H 0) < 16 := Nat.mod_lt _ (by decide)
    generalize mrk (lst D.xt H 0) = mv at *
    generalize lst D.xt H 0 + 1 = n1 at *
    generalize s H = sv at *
    generalize S.ma H = ma at *
    generalize hxt : D.xt = xt at *
    obtain ⟨F, hF⟩ : ∃ F : Nat → Nat, ∀ k, lp (xt.take k) H = F k := ⟨_, fun _ => rfl⟩
    simp only [hF] at hfull hlsn hlp0 hle
    have hF0 := hlp0
    have hstep : ∀ k, k < xt.length → ∃ v : Nat, (∀ W, w.grownBy W none → W.cell? ⟨g, k, none⟩ = some (.int .u64 v)) ∧ F (k + 1) = if v = H then k + 1 else F k := fun k hk => ⟨xt[k], fun W hf => hcell k hk W hf, hlsn k hk⟩
    have hC6' : ∀ W, w.grownBy W none → W.cell? ⟨wb, 6, none⟩ = some (.slice (some ⟨g, 0, none⟩) xt.length cc) := fun W hf => hC6 W hf
    have hFle : ∀ k, F k ≤ 300 := fun k => Nat.le_trans (hle k) (by simp; omega)
    have hact : decide (H ∈ D.xa) = decide (ma % 2 = 1) := by simp [hac]
    rw [hact] at h45
    have hlen : xt.length ≤ 300 := by omega
    clear hX hM hW hlt hs hac hrow hcell hlsn hle hC6 hlp hF hact hao hin hlp0 hH hln hN1 hxt htv
    generalize xt.length = ln at *
    go_enter Tryz.func13, Tryz.ntmps13
    go_wp2_with (first | (go_at_call 43; go_must (refine (h43 _ (gb_refl _ _)).mono ?_); rintro y w1 ⟨rfl, hf1⟩) | fail)
    go_loopw [5, 6] (fun nv iv wr => ∃ k : Nat, k ≤ ln ∧ iv = .int .i64 k ∧ nv = .int .i64 (F k : Nat) ∧ w.grownBy wr none) (fun _ iv _ => ln - (intOf iv).toNat)
    case atStart => exact ⟨0, by omega, rfl, by rw [hF0]; rfl, hf1⟩
    case round =>
      obtain ⟨k, hk, rfl, rfl, hg⟩ := hrel
      have c6 := hC6' wr hg
      by_cases hlt : k < ln
      · have hd : decide ((k : Int) < ln) = true := decide_eq_true (by omega)
        have hl1 : (k : Int) < ln := by omega
        obtain ⟨v, hv, hFv⟩ := hstep k hlt
        have cv := hv wr hg
        clear hv hstep hC6' h43 h45 h46 h47 h48
        by_cases e : v = H
        · rw [if_pos e] at hFv
          subst e
          go_wp2
          exact ⟨⟨k + 1, by omega, by go_num, by rw [hFv]; go_num, hg⟩, by simp [intOf]; omega⟩
        · rw [if_neg e] at hFv
          have e2 : ¬ (v : Int) = (H : Int) := by omega
          go_wp2
          exact ⟨⟨k + 1, by omega, by go_num, by rw [hFv], hg⟩, by simp [intOf]; omega⟩
      · obtain rfl : k = ln := by omega
        have hd : decide ((k : Int) < k) = false := decide_eq_false (by omega)
        rw [hfull]
        have d1 := fun W (hf : w.grownBy W none) => (hcs W hf).1
        have d4 := fun W (hf : w.grownBy W none) => (hcs W hf).2.2.2.2.1
        have d5 := fun W (hf : w.grownBy W none) => (hcs W hf).2.2.2.2.2
        have k5 := d5 wr hg
        have k0 := d1 wr hg
        have q1 : (mv : Int).tdiv 2 = ((mv / 2 : Nat) : Int) := by rw [Int.tdiv_eq_ediv_of_nonneg (by omega)]; omega
        have q2 : IntKind.i64.wrap ((mv / 2 : Nat) : Int) = ((mv / 2 : Nat) : Int) := by rw [IntKind.wrap_i64]; omega
        have q3 : IntKind.i64.wrap (((mv / 2 : Nat) : Int) * 2) = ((mv / 2 : Nat) : Int) * 2 := by rw [IntKind.wrap_i64]; omega
        have q4 : IntKind.i64.wrap (((mv / 2 : Nat) : Int) * 2 + 1) = ((mv / 2 : Nat) : Int) * 2 + 1 := by rw [IntKind.wrap_i64]; omega
        have hma : (ma : Int) = ((mv / 2 : Nat) : Int) * 2 + ((ma % 2 : Nat) : Int) := by omega
        generalize mv / 2 = hv2 at *
        clear hstep hC6' h43 hcs
        by_cases hodd : ma % 2 = 1
        · rw [decide_eq_true hodd] at h45
          rw [hodd] at hma
          go_wp2_with (first | (go_at_call 44; go_must (refine (hmk _).mono ?_); rintro y w' ⟨rfl, rfl⟩) | (go_at_call 45; go_must (refine (h45 _ hg).mono ?_); rintro y w' ⟨rfl, rfl⟩) | (go_at_call 46; go_must (refine (h46 _ hg).mono ?_); rintro y w2 ⟨rfl, hf2⟩; (have hg2 := gb_trans hg hf2); (have k02 := d1 _ hg2)) | (go_at_call 47; go_must (refine (h47 _ hg2).mono ?_); rintro y w3 ⟨rfl, hf3⟩; (have hg3 := gb_trans hg2 hf3); (have k04 := d4 _ hg3)) | (go_at_call 26; go_must (refine (num_any _ _).mono ?_); rintro y w' ⟨rfl, rfl⟩) | (go_at_call 48; go_must (refine (h48 _ hg3).mono ?_); rintro y w4 ⟨rfl, hf4⟩) | fail)
          go_ret
          exact ⟨rfl, gb_trans hg3 hf4⟩
        · rw [decide_eq_false hodd] at h45
          have hma2 : (ma : Int) = (hv2 : Int) * 2 := by omega
          clear hma
          go_wp2_with (first | (go_at_call 44; go_must (refine (hmk _).mono ?_); rintro y w' ⟨rfl, rfl⟩) | (go_at_call 45; go_must (refine (h45 _ hg).mono ?_); rintro y w' ⟨rfl, rfl⟩) | (go_at_call 46; go_must (refine (h46 _ hg).mono ?_); rintro y w2 ⟨rfl, hf2⟩; (have hg2 := gb_trans hg hf2); (have k02 := d1 _ hg2)) | (go_at_call 47; go_must (refine (h47 _ hg2).mono ?_); rintro y w3 ⟨rfl, hf3⟩; (have hg3 := gb_trans hg2 hf3); (have k04 := d4 _ hg3)) | (go_at_call 26; go_must (refine (num_any _ _).mono ?_); rintro y w' ⟨rfl, rfl⟩) | (go_at_call 48; go_must (refine (h48 _ hg3).mono ?_); rintro y w4 ⟨rfl, hf4⟩) | fail)
          go_ret
          exact ⟨rfl, gb_trans hg3 hf4⟩
  · rw [decide_eq_false hH] at h43
    clear hX hM hW hlt hs
    go_enter Tryz.func13, Tryz.ntmps13
    go_wp2_with (first | (go_at_call 43; go_must (refine (h43 _ (gb_refl _ _)).mono ?_); rintro y w1 ⟨rfl, hf1⟩) | fail)
    go_ret
    exact ⟨rfl, hf1⟩
end
end Go.Proofs.YtohneboimmcocaaGreat
/-
  The law's queues.
-/
namespace Go.Proofs.YtohneboimmcocaaGreat
open Go.RowKit
set_option linter.unusedVariables false

section
variable {w : World} {P : Nat → Prop} {wb N : Nat} {hot warm : Nat} {D0 : Wd}
set_option maxRecDepth 100000 in
set_option maxHeartbeats 1000000 in
theorem queues_58 (hG : GS w P wb N hot warm D0) : Calls Tryz.prog 58 #[.pointer (some ⟨wb, 0, none⟩)] w fun y w' => y = .returned (.bool true) ∧ w.grownBy w' none := by
  have hcs := fun W (hf : w.grownBy W none) => (hG.kept0 hf).cells
  have h12 := fun W (hf : w.grownBy W none) c => length_12 (hG.kept0 hf) c
  obtain ⟨D, lsb, vs, Y, S, cl, hs, hW⟩ := hG
  obtain ⟨bs, p, n, s, hX⟩ := hW.gx
  have hN1 := hW.nN
  have hM := hW.ms
  have hl : D.xl.length ≤ 300 := by omega
  have hlt := hX.lt hl
  have hall := fun W (hf : w.grownBy W none) (c k : Nat) (hc : c < 3) (hk : k < 3) => (show Calls Tryz.prog 104 #[.pointer (some ⟨D0.lb, 0, none⟩), .int .i64 c, .int .i64 ((k : Int) + 1)] W fun y w' => ∃ v', y = .returned v' ∧ W.grownBy w' none ∧ w'.ownsRow W.heap.size 27 1 v' (S.X c k).length (uvs (S.X c k)) by
    obtain ⟨szb, szc, hD⟩ := (hM.kept0 hf).ds hX.rf hX.rn
    have := all_104 hD.rq hc hk
    rw [hW.dm.ys c k hc hk, hs.2.2.2.2.1] at this
    exact this)
  have hhd := fun W (hf : w.grownBy W none) (c k : Nat) (hc : c < 3) (hk : k < 3) v (hv : (S.X c k).headD 0 = v) => (show Calls Tryz.prog 105 #[.pointer (some ⟨D0.qb, 0, none⟩), .int .i64 c, .int .i64 ((k : Int) + 1)] W fun y w' => y = .returned (.tuple #[.int .u64 v, .bool (decide (¬ v = 0))]) ∧ W.grownBy w' none by
    have := q_headL (hX.lq (hM.kept0 hf) hl).ql (by rw [hX.n3]; exact hc) hk v hv
    rw [hs.2.1] at this
    exact this)
  have hbe := fun W (hf : w.grownBy W none) (c k H : Nat) (U V : List Nat) (hU : S.X c k = U ++ H :: V) v (hv : V.headD 0 = v) => (show Calls Tryz.prog 106 #[.pointer (some ⟨D0.qb, 0, none⟩), .int .u64 H] W fun y w' => y = .returned (.tuple #[.int .u64 v, .bool (decide (¬ v = 0))]) ∧ W.grownBy w' none by
    have hm : H ∈ S.X c k := by rw [hU]; simp
    obtain rfl := (hX.li.sub _ _ _ hm).2.2
    have := q_behind (hX.lq (hM.kept0 hf) hl).ql hU v hv
    rw [hs.2.1] at this
    exact this)
  have h0 : ∀ c k, 0 ∉ S.X c k := fun c k hm => hlt.z (hlt.sub _ _ _ hm).1
  have hlen := fun c k (hk : k < 3) => hlt.len c k hk
  have d1 := fun W (hf : w.grownBy W none) => (hcs W hf).2.1
  have d4 := fun W (hf : w.grownBy W none) => (hcs W hf).2.2.2.2.1
  generalize S.X = X at *
  clear hX hM hW hlt hs hcs
  go_enter Tryz.func58, Tryz.ntmps58
  go_wp2
  go_loopw [3] (fun cv wr => ∃ c : Nat, c ≤ 3 ∧ cv = .int .i64 c ∧ w.grownBy wr none) (fun cv _ => 3 - (intOf cv).toNat)
  case atStart => exact ⟨0, by omega, rfl, gb_refl _ _⟩
  case round =>
    obtain ⟨c, hc, rfl, hg⟩ := hrel
    by_cases hc3 : c < 3
    · have hd : decide ((c : Int) < 3) = true := decide_eq_true (by omega)
      have hd' : (c : Int) < 3 := by omega
      have h12' := h12 wr hg c
      go_wp2_with (first | (go_at_call 12; go_must (refine h12'.mono ?_); rintro y w1 ⟨rfl, hf1⟩) | fail)
      have hg1 := gb_trans hg hf1
      clear h12 h12'
      go_loopw [4] (fun kv wq => ∃ k : Nat, k ≤ 3 ∧ kv = .int .i64 ((k : Int) + 1) ∧ w.grownBy wq none) (fun kv _ => 4 - (intOf kv).toNat)
      case atStart => exact ⟨0, by omega, rfl, hg1⟩
      case round =>
        obtain ⟨k, hk, rfl, hgk⟩ := hrel
        by_cases hk3 : k < 3
        · have e : decide ((k : Int) + 1 ≤ 3) = true := decide_eq_true (by omega)
          have e' : (k : Int) + 1 ≤ 3 := by omega
          have ha := hall wr hgk c k hc3 hk3
          have c4 := d4 wr hgk
          obtain ⟨v, hv⟩ : ∃ v, (X c k).headD 0 = v := ⟨_, rfl⟩
          have hh := fun W (hf : w.grownBy W none) => hhd W hf c k hc3 hk3 v hv
          have hb := fun W (hf : w.grownBy W none) (H : Nat) (U V : List Nat) (hU : X c k = U ++ H :: V) v (hv : V.headD 0 = v) => hbe W hf c k H U V hU v hv
          have hl9 := hlen c k hk3
          have h0k := h0 c k
          clear hall hhd hbe hlen h0
          go_wp2_with (first | (go_at_call 104; go_must (refine ha.mono ?_); rintro y w2 ⟨va, rfl, hf2, hra⟩; (have hg2 := gb_trans hgk hf2); (have c1 := d1 w2 hg2)) | (go_at_call 105; go_must (refine (hh _ hg2).mono ?_); rintro y w3 ⟨rfl, hf3⟩) | fail)
          have hg3 := gb_trans hg2 hf3
          obtain ⟨ao, cp, rfl, _, _, _, hao⟩ := row_shape hra
          have hcell : ∀ j (hj : j < (X c k).length) W, w3.grownBy W none → ∃ gg, ao = some ⟨gg, 0, none⟩ ∧ W.cell? ⟨gg, j, none⟩ = some (.int .u64 ((X c k)[j] : Nat)) := fun j hj W hf => by
            obtain ⟨gg, rfl⟩ := hao (by omega)
            exact ⟨gg, rfl, row_cell (row_kept hra (gb_trans hf3 hf) (by simp)) j _ (uvs_get (List.getElem?_eq_getElem hj))⟩
          clear hra ha hao hh
          go_loopw [6, 7, 8] (fun hv kv iv wz => ∃ U V : List Nat, X c k = U ++ V ∧ iv = .int .i64 U.length ∧ hv = .int .u64 (V.headD 0 : Nat) ∧ kv = .bool (!decide (V.headD 0 = 0)) ∧ w3.grownBy wz none) (fun _ _ iv _ => (X c k).length - (intOf iv).toNat)
          case atStart => exact ⟨[], X c k, by simp, rfl, by rw [hv], by rw [hv], gb_refl _ _⟩
          case round =>
            obtain ⟨U, V, hUV, rfl, rfl, rfl, hgz⟩ := hrel
            cases V with
            | nil =>
              have hul : U.length = (X c k).length := by rw [hUV]; simp
              have HG := gb_trans hg3 hgz
              rw [hul]
              clear hcell hb
              generalize (X c k).length = ln at *
              have hd2 : decide ((ln : Int) < ln) = false := decide_eq_false (by omega)
              simp only [List.headD_nil]
              clear hUV
              go_wp2_with fail
              exact ⟨⟨k + 1, by omega, by go_num, HG⟩, by simp [intOf]; omega⟩
            | cons H V =>
              have hul : U.length < (X c k).length := by rw [hUV]; simp
              obtain ⟨gg, rfl, hcl⟩ := hcell U.length hul wr hgz
              have hget : (X c k)[U.length] = H := by
                have : (X c k)[U.length]? = some H := by rw [hUV]; simp
                rw [List.getElem?_eq_getElem hul] at this
                exact Option.some.inj this
              rw [hget] at hcl
              have hH0 : ¬ H = 0 := fun e => h0k (by rw [hUV, e]; simp)
              obtain ⟨v2, hv2⟩ : ∃ v2, V.headD 0 = v2 := ⟨_, rfl⟩
              have h106 := hb wr (gb_trans hg3 hgz) H U V hUV v2 hv2
              have c1 := d1 wr (gb_trans hg3 hgz)
              have HU : Hid _ := hUV
              obtain ⟨ul, hul2⟩ : ∃ ul, U.length = ul := ⟨_, rfl⟩
              obtain ⟨ln, hln⟩ : ∃ ln, (X c k).length = ln := ⟨_, rfl⟩
              rw [hul2] at hcl ⊢
              rw [hul2, hln] at hul
              have hd2 : decide ((ul : Int) < ln) = true := decide_eq_true (by omega)
              have hd3 : (ul : Int) < ln := by omega
              have HL : Hid _ := hul2
              simp only [List.headD_cons, hH0, decide_false, Bool.not_false]
              rw [hln] at hl9 ⊢
              clear hUV hcell hb hget hul2 h0k
              go_wp2_with (first | (go_at_call 106; go_must (refine h106.mono ?_); rintro y w5 ⟨rfl, hf5⟩) | fail)
              exact ⟨⟨U ++ [H], V, by rw [HU.out]; simp, by rw [List.length_append, HL.out]; rfl, by rw [hv2], by rw [hv2], gb_trans hgz hf5⟩, by simp [intOf]; omega⟩
        · obtain rfl : k = 3 := by omega
          clear hall hhd hbe
          go_wp2_with fail
          exact ⟨⟨c + 1, by omega, by go_num, hgk⟩, by simp [intOf]; omega⟩
    · obtain rfl : c = 3 := by omega
      clear h12 hall hhd hbe
      go_wp2
      go_ret
      exact ⟨rfl, hg⟩
end
end Go.Proofs.YtohneboimmcocaaGreat
/-
  The law's ends.
-/
namespace Go.Proofs.YtohneboimmcocaaGreat
open Go.RowKit
set_option linter.unusedVariables false

section
variable {w : World} {P : Nat → Prop} {wb N : Nat} {hot warm : Nat} {D0 : Wd}
/-- What was told, as it lies in memory. -/
theorem GS.told (hG : GS w P wb N hot warm D0) : ∃ (ao : Option Addr) (n cc : Nat), n ≤ 300 ∧ (∀ W, w.grownBy W none → W.cell? ⟨wb, 6, none⟩ = some (.slice ao n cc)) ∧ ∀ j, j < n → ∃ g H : Nat, ao = some ⟨g, 0, none⟩ ∧ H < 18446744073709551616 ∧ ∀ W, w.grownBy W none → W.cell? ⟨g, j, none⟩ = some (.int .u64 H) := by
  obtain ⟨D, lsb, vs, Y, S, cl, hs, hW⟩ := hG
  have hM := hW.ms
  have hN1 := hW.nN
  obtain ⟨ao, cc, htv, _, _, _, hao⟩ := row_shape hM.ms.trow
  refine ⟨ao, D.xt.length, cc, by omega, fun W hf => ?_, fun j hj => ?_⟩
  · have := (hM.kept0 hf).ms.box.cell 6
    rw [htv] at this
    exact this
  · obtain ⟨g, rfl⟩ := hao (by omega)
    refine ⟨g, D.xt[j], rfl, hW.tb _ (List.getElem_mem hj), fun W hf => ?_⟩
    have hr := (hM.kept0 hf).ms.trow
    rw [htv] at hr
    exact row_cell hr j _ (uvs_get (List.getElem?_eq_getElem hj))
set_option maxRecDepth 100000 in
set_option maxHeartbeats 1000000 in
theorem ends_16 (hG : GS w P wb N hot warm D0) : Calls Tryz.prog 16 #[.pointer (some ⟨wb, 0, none⟩)] w fun y w' => y = .returned (.bool true) ∧ w.grownBy w' none := by
  have h13 := fun W (hf : w.grownBy W none) H => header_13 (hG.kept0 hf) H
  have h58 := fun W (hf : w.grownBy W none) => queues_58 (hG.kept0 hf)
  have h12 := fun W (hf : w.grownBy W none) c => length_12 (hG.kept0 hf) c
  obtain ⟨ao, n, cc, hn, hC6, hcell⟩ := hG.told
  clear hG
  go_enter Tryz.func16, Tryz.ntmps16
  go_wp2
  go_loopw [3] (fun iv wr => ∃ j : Nat, j ≤ n ∧ iv = .int .i64 j ∧ w.grownBy wr none) (fun iv _ => n - (intOf iv).toNat)
  case atStart => exact ⟨0, by omega, rfl, gb_refl _ _⟩
  case round =>
    obtain ⟨j, hj, rfl, hg⟩ := hrel
    have c6 := hC6 wr hg
    by_cases hlt : j < n
    · have hd : decide ((j : Int) < n) = true := decide_eq_true (by omega)
      have hd' : (j : Int) < n := by omega
      obtain ⟨g, H, rfl, h64, hcl⟩ := hcell j hlt
      have cj := hcl wr hg
      have hh := h13 wr hg H
      clear hcell h13 h58 h12 hcl
      go_wp2_with (first | (go_at_call 13; go_must (refine hh.mono ?_); rintro y w1 ⟨rfl, hf1⟩) | fail)
      exact ⟨⟨j + 1, by omega, by go_num, gb_trans hg hf1⟩, by simp [intOf]; omega⟩
    · obtain rfl : j = n := by omega
      have hd : decide ((j : Int) < j) = false := decide_eq_false (by omega)
      clear hcell h13
      have h58' := h58 wr hg
      go_wp2_with (first | (go_at_call 58; go_must (refine h58'.mono ?_); rintro y w1 ⟨rfl, hf1⟩; (have hg1 := gb_trans hg hf1)) | (go_at_call 12; with_reducible refine (h12 _ hg1 (-1)).mono ?_; rintro y w2 ⟨rfl, hf2⟩; (have hg2 := gb_trans hg1 hf2)) | (go_at_call 12; go_must (with_reducible refine (h12 _ hg2 3).mono ?_); rintro y w3 ⟨rfl, hf3⟩) | fail)
      go_ret
      exact ⟨rfl, gb_trans hg2 hf3⟩
end
end Go.Proofs.YtohneboimmcocaaGreat

import Derived.Test.YtobegepebochkaaGreatDoorZh
import Derived.Test.YtobegepebochkaaGreatDoorUh
import Derived.Deep.RegionHeld3
/-
  LineWhole.
-/
namespace Go.Proofs.YtobegepebochkaaGreatDoor
open Go.RowKit Go.Maps
set_option linter.unusedVariables false
set_option linter.unusedSimpArgs false

theorem Tile.same : ∀ {q r : List Tld} {a b : Nat}, q.map Tld.s = r.map Tld.s → Tile a q b → Tile a r b
  | [], [], a, b, _, h => h
  | [], _ :: _, a, b, e, h => by simp at e
  | _ :: _, [], a, b, e, h => by simp at e
  | x :: q, y :: r, a, b, e, h => by
    simp at e
    obtain ⟨h1, h2, h3⟩ := h
    refine ⟨by rw [← e.1]; exact h1, by rw [← e.1]; exact h2, ?_⟩
    rw [← e.1]
    exact Tile.same e.2 h3
theorem AlR.sq {w : World} {lim : Int} {raw : Bs} {q : List Tld} {v : Value} {left : Int} {wr w2 : World} (h : AlR w lim.toNat raw q v left wr) (hm : lim ≤ 9223372036854775807) (hl : raw.length ≤ 34359738368) (hf : wr.grownBy w2 none) : Sq w2 v q := by
  refine (ss_kept0 h.ss hf).sq (fun x hx => ?_)
  have h1 := dn_run raw (fd0_ok hm) rfl x.s (by rw [fd0_fl, h.run]; exact List.mem_map_of_mem hx)
  have h2 : (fd0 lim).taken = 0 := rfl
  omega
set_option maxRecDepth 100000 in
set_option maxHeartbeats 4000000 in
theorem whole_11 {w : World} (hE : Er w) {ra oa ca : Option Addr} {rc oc cc : Nat} {lim : Int} (hm1 : lim ≤ 9223372036854775807) (hm2 : -9223372036854775808 ≤ lim) {raw : Bs} {os cs : List Int} (hr : Ck w (fun _ => False) (.slice ra raw.length rc) raw) (ho : Ci w (.slice oa os.length oc) os) (hol : os.length ≤ 9223372036854775807) (hc : Ci w (.slice ca cs.length cc) cs) (hcl : cs.length ≤ 9223372036854775807) :
    Calls Tryz.prog 11 #[.agg #[.slice ra raw.length rc, .int .i64 lim, .slice oa os.length oc, .slice ca cs.length cc]] w fun e w' => e = .returned (.bool true) ∧ w.grownBy w' none := by
  have b0 := Box.new w 102 #[.slice ra raw.length rc, .int .i64 lim, .slice oa os.length oc, .slice ca cs.length cc]
  have g0 := gb_alloc (gb_refl w none) (.cells #[.slice ra raw.length rc, .int .i64 lim, .slice oa os.length oc, .slice ca cs.length cc] 102)
  have hr0 : Ck (w.alloc (.cells #[.slice ra raw.length rc, .int .i64 lim, .slice oa os.length oc, .slice ca cs.length cc] 102)) (fun _ => False) (.slice ra raw.length rc) raw := hr.kp (Kp.of (F := fun _ => False) g0) (fun _ _ h => h.elim) (fun _ _ h => h.elim)
  go_enter Tryz.func11, Tryz.ntmps11
  go_upto_if 13 with (fail)
  go_cut [] from 10 to 17 (fun wc => ∃ ra' rn rc' raw', Box wc 102 w.heap.size #[.slice ra' rn rc', .int .i64 lim, .slice oa os.length oc, .slice ca cs.length cc] ∧ rn = raw'.length ∧ Ck wc (fun _ => False) (.slice ra' rn rc') raw' ∧ raw'.length ≤ 12000 ∧ w.grownBy wc none)
  case first =>
    by_cases hbig : (12000 : Int) < (raw.length : Int)
    · have hbd : decide ((12000 : Int) < (raw.length : Int)) = true := decide_eq_true hbig
      obtain ⟨g, o, c, e, h2, -, -, -⟩ := hr.by (by omega)
      injection e with e1 _ e2
      subst e1 e2
      have hrc2 : (12000 : Int) ≤ (rc : Int) := by omega
      go_wp2
      go_meet
      have g9 := gb_alloc (gb_refl w none) (.cells #[.slice (some ⟨g, o, none⟩) 12000 rc, .int .i64 lim, .slice oa os.length oc, .slice ca cs.length cc] 102)
      have hlt : (raw.take 12000).length = 12000 := by rw [List.length_take]; omega
      exact ⟨some ⟨g, o, none⟩, 12000, rc, raw.take 12000, Box.new w 102 _, hlt.symm, (hr.take 12000 (by omega)).kp (Kp.of (F := fun _ => False) g9) (fun _ _ h => h.elim) (fun _ _ h => h.elim), by omega, g9⟩
    · have hbd : decide ((12000 : Int) < (raw.length : Int)) = false := decide_eq_false hbig
      go_wp2
      go_meet
      exact ⟨ra, raw.length, rc, raw, b0, rfl, hr0, by omega, g0⟩
  case rest =>
    obtain ⟨ra', rn, rc', raw', b1, hrn, hr1, hlen, g1⟩ := hcut
    have x0 : wc.cell? ⟨w.heap.size, 0, none⟩ = some (.slice ra' rn rc') := b1.cell 0
    have x1 : wc.cell? ⟨w.heap.size, 1, none⟩ = some (.int .i64 lim) := b1.cell 1
    have x2 : wc.cell? ⟨w.heap.size, 2, none⟩ = some (.slice oa os.length oc) := b1.cell 2
    have x3 : wc.cell? ⟨w.heap.size, 3, none⟩ = some (.slice ca cs.length cc) := b1.cell 3
    subst hrn
    have f1 := fed_53 (oa := oa) (on := os.length) (oc := oc) (ca := ca) (cn := cs.length) (cc := cc) (hE.kept g1) hm1 hm2 hr1 hlen (ho.kept g1) hol
    have hE1 := hE.kept g1
    clear b0 g0 hr0 hr b1
    obtain ⟨n0, hn0⟩ : ∃ n0, raw'.length = n0 := ⟨_, rfl⟩
    rw [hn0] at f1 x0 hr1
    have A : Aside (raw'.length = n0) := hn0
    clear hn0
    go_upto_region 4 with (go_at_call 53; go_must ((with_reducible refine f1.mono ?_); rintro e w1 ⟨fb1, hb1, rv1, q1, hs1, F1, kv1, rfl, R1⟩))
    have y0 := gb_cellN R1.gb x0
    have y1 := gb_cellN R1.gb x1
    have hr2 : ∀ W, w1.grownBy W none → Ck W (fun _ => False) (.slice ra' n0 rc') raw' := fun W hW => by
      have := hr1
      exact this.kp (Kp.of (F := fun _ => False) (gb_trans R1.gb hW)) (fun _ _ h => h.elim) (fun _ _ h => h.elim)
    have h54 := fun W (hW : w1.grownBy W none) => copy_54 (hr2 W hW) (by omega)
    have h27 := fun W (hW : w1.grownBy W none) (v : Value) (hv : Ck W (fun _ => False) v raw') => all_27 (R1.er.kept hW) hv (by omega) lim hm1 hm2
    clear x0 x1 x2 x3 f1 hr1
    go_region_held3 (fun W : World => W.cell? ⟨w.heap.size, 0, none⟩ = some (.slice ra' n0 rc') ∧ W.cell? ⟨w.heap.size, 1, none⟩ = some (.int .i64 lim)) (go_keep) (first
      | (go_at_call 54; go_must ((with_reducible refine (h54 _ (gb_drew (gb_refl _ _))).mono ?_); rintro e w4 ⟨v', rfl, hv', hg4⟩; (have hg5 : w1.grownBy w4 none := gb_trans (gb_drew (gb_refl _ _)) hg4); (have n0' := gb_cellN hg5 y0); (have n1' := gb_cellN hg5 y1); (have hck : Ck w4 (fun _ => False) v' raw' := ck_own hv' (fun _ _ => id)); (obtain ⟨va, vc, rfl, -⟩ := row_shape hv')))
      | (go_at_call 27; go_must ((with_reducible refine (h27 _ hg5 _ hck).mono ?_); rintro e w6 ⟨rv2, q2, left, rfl, AR⟩; (have hg7 : w1.grownBy w6 none := gb_trans hg5 AR.gb); (have m0 := gb_cellN hg7 y0); (have m1 := gb_cellN hg7 y1))))
    have gR := hg7
    have hrun : q1.map Tld.s = q2.map Tld.s := by
      have e1 := R1.run
      have e2 := AR.run
      rw [fd0_fl] at e1
      rw [e1] at e2
      exact e2
    have sq1 := R1.sq hm1 hlen gR
    have sq2 := AR.sq hm1 (by omega) (gb_refl _ none)
    have h28 := samesteps_28 sq1 sq2 hrun
    obtain ⟨v1a, v1c, ev1, -⟩ := row_shape R1.ss.row
    obtain ⟨v2a, v2c, ev2, -⟩ := row_shape AR.ss.row
    subst ev1 ev2
    obtain ⟨b, hb, htile, hleft⟩ := AR.tile
    have eF : ((fl lim.toNat 0).run raw').1 = F1 := by rw [← fd0_fl, R1.run]
    rw [eF] at hleft
    have htile1 : Tile 0 q1 b := Tile.same hrun.symm htile
    have h51 := fun W (hg : w6.grownBy W none) => FX.ended (B := 0) ⟨kv1, R1.isf.kept0 (gb_trans gR hg), fun _ _ => Nat.zero_le _⟩
    have h50 := fun W (hg : w6.grownBy W none) => FX.held (B := 0) ⟨kv1, R1.isf.kept0 (gb_trans gR hg), fun _ _ => Nat.zero_le _⟩
    have hE6 := R1.er.kept gR
    have gw6 := gb_trans (gb_trans g1 R1.gb) gR
    have hb0 : b ≤ n0 := by rw [← A.out]; exact hb
    have hn0 : n0 ≤ 12000 := by rw [← A.out]; exact hlen
    rw [A.out] at hleft
    have scell := sq1.cell
    obtain ⟨n, hn⟩ : ∃ n, q1.length = n := ⟨_, rfl⟩
    rw [hn] at scell h28
    have hnb : n ≤ b := by have := htile1.le; omega
    have A2 : Aside (q1.length = n) := hn
    rw [hn]
    clear h54 h27 hr2 R1 AR sq1 sq2 htile hrun hn hck hv' hg4 hg5 n0' n1' y0 y1 m1 hb eF hE hE1 hc ho
    go_upto_region 7 with (go_at_call 28; go_must ((with_reducible refine h28.mono ?_); rintro e w8 ⟨rfl, g8⟩))
    have hm8 := gb_cellN g8 m0
    clear h28
    go_wp2
    go_loopw [8, 9] (fun x y wr => ∃ (k m : Nat), k ≤ n ∧ y = .int .i64 (k : Int) ∧ x = .int .i64 (m : Int) ∧ Tile m (q1.drop k) b ∧ w6.grownBy wr none) (fun _ y _ => n - (intOf y).toNat)
    case atStart => exact ⟨0, 0, Nat.zero_le _, rfl, rfl, htile1, g8⟩
    case round =>
      obtain ⟨k, m, hk, rfl, rfl, hT, hg⟩ := hrel
      have z0 := gb_cellN hg m0
      rcases (by omega : k < n ∨ k = n) with hlt | hke
      · obtain ⟨x, hx⟩ : ∃ x, q1[k]? = some x := ⟨_, List.getElem?_eq_getElem (by rw [A2.out]; exact hlt)⟩
        have hdr : q1.drop k = x :: q1.drop (k + 1) := by
          obtain ⟨h1, h2⟩ := List.getElem?_eq_some_iff.1 hx
          rw [← h2, List.drop_eq_getElem_cons h1]
        rw [hdr] at hT
        obtain ⟨t1, t2, t3⟩ := hT
        have t4 := t3.le
        obtain ⟨g9, c9, e9, hc9⟩ := scell k x hx
        injection e9 with e9 _ e9c
        subst e9 e9c
        have p14 : wr.cell? ⟨g9, k * 16 + 14, none⟩ = some (.int .i64 (m : Int)) := by rw [← t1]; exact gb_cellN hg (hc9 14 _ rfl)
        obtain ⟨T, hTT⟩ : ∃ T, x.s.to = T := ⟨_, rfl⟩
        have p15 : wr.cell? ⟨g9, k * 16 + 15, none⟩ = some (.int .i64 (T : Int)) := by rw [← hTT]; exact gb_cellN hg (hc9 15 _ rfl)
        rw [hTT] at t2 t3 t4
        have d1 : ((k : Int) < (n : Int)) := by omega
        have d2 : decide ((T : Int) ≤ (m : Int)) = false := decide_eq_false (by omega)
        have d3 : decide ((n0 : Int) < (T : Int)) = false := decide_eq_false (by omega)
        have d4 : IntKind.i64.wrap ((k : Int) + 1) = (k : Int) + 1 := by rw [IntKind.wrap_i64]; omega
        clear scell hc9 t1 hTT hdr hx htile1 h50 h51
        go_wp2
        go_quiet (fail)
        go_wp2
        exact ⟨⟨k + 1, T, by omega, by simp, rfl, t3, gb_drewN hg _⟩, by simp [intOf]; omega⟩
      · subst hke
        have hT' : m = b := by rw [← A2.out, List.drop_length] at hT; exact hT
        subst hT'
        have d1 : decide ((k : Int) < (k : Int)) = false := decide_eq_false (by omega)
        have h51' := h51 _ hg
        have h50' := fun W (h : wr.grownBy W none) => h50 W (gb_trans hg h)
        have h48 := wakes_48 (hE6.kept hg)
        obtain ⟨E, hEE⟩ : ∃ E, F1.ended = E := ⟨_, rfl⟩
        obtain ⟨K, hK⟩ : ∃ K, F1.kept.length = K := ⟨_, rfl⟩
        rw [hEE] at h51' hleft
        simp only [hK] at h50'
        have h50'' := h50' _ (gb_refl _ _)
        clear scell h50 h51 htile1 h50'
        rcases hleft with ⟨rfl, rfl, hk0⟩ | ⟨rfl, rfl, hk0⟩
        · have hK0 : K = 0 := by rw [← hK, hk0]; rfl
          subst hK0
          clear hK hEE hk0
          rw [Int.natCast_zero] at h50''
          go_wp2_with (first | (go_at_call 51; go_must ((with_reducible refine h51'.mono ?_); rintro e w9 ⟨rfl, rfl⟩)) | (go_at_call 50; go_must ((with_reducible refine h50''.mono ?_); rintro e w9 ⟨rfl, rfl⟩)) | (go_at_call 48; go_must ((with_reducible refine h48.mono ?_); rintro e w9 ⟨rfl, g9⟩)))
          go_ret
          exact ⟨rfl, gb_trans (gb_trans gw6 hg) g9⟩
        · have hK0 : K = 0 ∨ K = n0 - m := by
            rcases hk0 with h | h
            · left; rw [← hK, h]; rfl
            · right; rw [← hK]; exact h
          have dl : IntKind.i64.wrap ((n0 : Int) - (m : Int)) = ((n0 - m : Nat) : Int) := by rw [IntKind.wrap_i64]; omega
          have dl2 : (n0 : Int) - (m : Int) = ((n0 - m : Nat) : Int) := by omega
          clear hK hEE hk0
          rcases hK0 with rfl | rfl
          · rw [Int.natCast_zero] at h50''
            go_wp2_with (first | (go_at_call 51; go_must ((with_reducible refine h51'.mono ?_); rintro e w9 ⟨rfl, rfl⟩)) | (go_at_call 50; go_must ((with_reducible refine h50''.mono ?_); rintro e w9 ⟨rfl, rfl⟩)) | (go_at_call 48; go_must ((with_reducible refine h48.mono ?_); rintro e w9 ⟨rfl, g9⟩)))
            go_ret
            exact ⟨rfl, gb_trans (gb_trans gw6 hg) g9⟩
          · go_wp2_with (first | (go_at_call 51; go_must ((with_reducible refine h51'.mono ?_); rintro e w9 ⟨rfl, rfl⟩)) | (go_at_call 50; go_must ((with_reducible refine h50''.mono ?_); rintro e w9 ⟨rfl, rfl⟩)) | (go_at_call 48; go_must ((with_reducible refine h48.mono ?_); rintro e w9 ⟨rfl, g9⟩)))
            all_goals go_ret
            all_goals exact ⟨rfl, gb_trans (gb_trans gw6 hg) g9⟩
end Go.Proofs.YtobegepebochkaaGreatDoor

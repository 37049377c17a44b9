import Derived.Test.YtobegepebochkaaGreatDoorUg
import Derived.Test.YtobegepebochkaaGreatDoorUd
import Derived.Deep.CutRange
/-
  LineCuts.
-/
namespace Go.Proofs.YtobegepebochkaaGreatDoor
open Go.RowKit Go.Maps
set_option linter.unusedVariables false
set_option linter.unusedSimpArgs false

theorem ss_kept0 {w w' : World} {B : Nat} {X : Nat → Prop} {v : Value} {q : List Tld} (h : Ss w B X v q) (hf : w.grownBy w' none) : Ss w' B X v q :=
  h.kp (Kp.of (F := fun _ => False) hf) (fun _ _ h => h) (fun _ _ h => h.elim) (fun _ _ h => h)
theorem FedR.sq {w w' w2 : World} {lim : Int} {raw : Bs} {fb hb : Nat} {rv : Value} {q : List Tld} {hs : List Int} {F : Fd} {kv : Value} (h : FedR w lim raw fb hb rv q hs F kv w') (hm : lim ≤ 9223372036854775807) (hl : raw.length ≤ 12000) (hf : w'.grownBy w2 none) : Sq w2 rv q := by
  refine (ss_kept0 h.ss hf).sq (fun x hx => ?_)
  have h1 := dn_run raw (fd0_ok hm) rfl x.s (by rw [h.run]; exact List.mem_map_of_mem hx)
  have h2 : (fd0 lim).taken = 0 := rfl
  omega
theorem FedR.ended {w w' w2 : World} {lim : Int} {raw : Bs} {fb hb : Nat} {rv : Value} {q : List Tld} {hs : List Int} {F : Fd} {kv : Value} (h : FedR w lim raw fb hb rv q hs F kv w') (hf : w'.grownBy w2 none) : Calls Tryz.prog 51 #[.pointer (some ⟨fb, 0, none⟩)] w2 fun e w3 => e = .returned (.bool ((fd0 lim).run raw).1.ended) ∧ w2 = w3 := by
  rw [h.run]
  exact (FX.ended (B := 0) ⟨kv, h.isf.kept0 hf, fun _ _ => Nat.zero_le _⟩).mono fun e w' ⟨a, b⟩ => ⟨a, b.symm⟩
set_option maxRecDepth 100000 in
set_option maxHeartbeats 4000000 in
theorem cuts_10 {w : World} (hE : Er w) {ra oa ca : Option Addr} {rc oc cc : Nat} {lim : Int} (hm1 : lim ≤ 9223372036854775807) (hm2 : -9223372036854775808 ≤ lim) {raw : Bs} {os cs : List Int} (hr : Ck w (fun _ => False) (.slice ra raw.length rc) raw) (ho : Ci w (.slice oa os.length oc) os) (hol : os.length ≤ 9223372036854775807) (hc : Ci w (.slice ca cs.length cc) cs) (hcl : cs.length ≤ 9223372036854775807) :
    Calls Tryz.prog 10 #[.agg #[.slice ra raw.length rc, .int .i64 lim, .slice oa os.length oc, .slice ca cs.length cc]] w fun e w' => e = .returned (.bool true) ∧ w.grownBy w' none := by
  have b0 := Box.new w 102 #[.slice ra raw.length rc, .int .i64 lim, .slice oa os.length oc, .slice ca cs.length cc]
  have g0 := gb_alloc (gb_refl w none) (.cells #[.slice ra raw.length rc, .int .i64 lim, .slice oa os.length oc, .slice ca cs.length cc] 102)
  have hr0 : Ck (w.alloc (.cells #[.slice ra raw.length rc, .int .i64 lim, .slice oa os.length oc, .slice ca cs.length cc] 102)) (fun _ => False) (.slice ra raw.length rc) raw := hr.kp (Kp.of (F := fun _ => False) g0) (fun _ _ h => h.elim) (fun _ _ h => h.elim)
  go_enter Tryz.func10, Tryz.ntmps10
  go_upto_if 13 with (fail)
  go_cut [] from 10 to 17 (fun wc => ∃ ra' rn rc' raw', Box wc 102 w.heap.size #[.slice ra' rn rc', .int .i64 lim, .slice oa os.length oc, .slice ca cs.length cc] ∧ rn = raw'.length ∧ Ck wc (fun _ => False) (.slice ra' rn rc') raw' ∧ raw'.length ≤ 12000 ∧ w.grownBy wc none)
  case first =>
    by_cases hbig : (12000 : Int) < (raw.length : Int)
    · have hbd : decide ((12000 : Int) < (raw.length : Int)) = true := decide_eq_true hbig
      obtain ⟨g, o, c, e, h2, -, -, -⟩ := hr.by (by omega)
      injection e with e1 _ e2
      subst e1 e2
      have hrc2 : (12000 : Int) ≤ (rc : Int) := by omega
      go_wp2
      go_meet
      have g9 := gb_alloc (gb_refl w none) (.cells #[.slice (some ⟨g, o, none⟩) 12000 rc, .int .i64 lim, .slice oa os.length oc, .slice ca cs.length cc] 102)
      have hlt : (raw.take 12000).length = 12000 := by rw [List.length_take]; omega
      exact ⟨some ⟨g, o, none⟩, 12000, rc, raw.take 12000, Box.new w 102 _, hlt.symm, (hr.take 12000 (by omega)).kp (Kp.of (F := fun _ => False) g9) (fun _ _ h => h.elim) (fun _ _ h => h.elim), by omega, g9⟩
    · have hbd : decide ((12000 : Int) < (raw.length : Int)) = false := decide_eq_false hbig
      go_wp2
      go_meet
      exact ⟨ra, raw.length, rc, raw, b0, rfl, hr0, by omega, g0⟩
  case rest =>
    obtain ⟨ra', rn, rc', raw', b1, hrn, hr1, hlen, g1⟩ := hcut
    have x0 : wc.cell? ⟨w.heap.size, 0, none⟩ = some (.slice ra' rn rc') := b1.cell 0
    have x1 : wc.cell? ⟨w.heap.size, 1, none⟩ = some (.int .i64 lim) := b1.cell 1
    have x2 : wc.cell? ⟨w.heap.size, 2, none⟩ = some (.slice oa os.length oc) := b1.cell 2
    have x3 : wc.cell? ⟨w.heap.size, 3, none⟩ = some (.slice ca cs.length cc) := b1.cell 3
    subst hrn
    have f1 := fed_53 (oa := oa) (on := os.length) (oc := oc) (ca := ca) (cn := cs.length) (cc := cc) (hE.kept g1) hm1 hm2 hr1 hlen (ho.kept g1) hol
    have hE1 := hE.kept g1
    clear b0 g0 hr0 hr b1
    obtain ⟨n0, hn0⟩ : ∃ n0, raw'.length = n0 := ⟨_, rfl⟩
    rw [hn0] at f1 x0 hr1
    have A : Aside (raw'.length = n0) := hn0
    clear hn0
    go_upto_region 4 with (go_at_call 53; go_must ((with_reducible refine f1.mono ?_); rintro e w1 ⟨fb1, hb1, rv1, q1, hs1, F1, kv1, rfl, R1⟩))
    have y0 := gb_cellN R1.gb x0
    have y1 := gb_cellN R1.gb x1
    have y2 := gb_cellN R1.gb x2
    have y3 := gb_cellN R1.gb x3
    have f2 := fed_53 (oa := oa) (on := os.length) (oc := oc) (ca := ca) (cn := cs.length) (cc := cc) R1.er hm1 hm2 ((by rw [← A.out] at hr1; exact hr1.kp (Kp.of (F := fun _ => False) R1.gb) (fun _ _ h => h.elim) (fun _ _ h => h.elim)) : Ck w1 (fun _ => False) (.slice ra' raw'.length rc') raw') hlen ((hc.kept g1).kept R1.gb) hcl
    rw [A.out] at f2
    clear x0 x1 x2 x3 f1
    go_upto_region 5 with (go_at_call 53; go_must ((with_reducible refine f2.mono ?_); rintro e w2 ⟨fb2, hb2, rv2, q2, hs2, F2, kv2, rfl, R2⟩))
    have gR := R2.gb
    have h28 := samesteps_28 (R1.sq hm1 hlen gR) (R2.sq hm1 hlen (gb_refl _ none)) (by
      have e1 := R1.run
      have e2 := R2.run
      rw [e1] at e2
      injection e2)
    obtain ⟨v1a, v1c, ev1, -⟩ := row_shape R1.ss.row
    obtain ⟨v2a, v2c, ev2, -⟩ := row_shape R2.ss.row
    subst ev1 ev2
    have hen := fun W (hg : w2.grownBy W none) => R1.ended (gb_trans gR hg)
    have hen2 := fun W (hg : w2.grownBy W none) => R2.ended hg
    generalize ((fd0 lim).run raw').1.ended = E at hen hen2
    go_upto_if 52 with (first | (go_at_call 28; go_must ((with_reducible refine h28.mono ?_); rintro e w3 ⟨rfl, g3⟩)) | (go_at_call 51; first | (with_reducible refine (hen _ g3).mono ?_; rintro e w8 ⟨rfl, rfl⟩) | (with_reducible refine (hen2 _ g3).mono ?_; rintro e w8 ⟨rfl, rfl⟩)))
    have bx1 := R1.hbx.kept (gb_trans gR g3) (by simp)
    have bx2 := R2.hbx.kept g3 (by simp)
    have hcell1 : ∀ k, k < n0 + 1 → ∃ h, w3.cell? ⟨hb1, k, none⟩ = some (.int .i64 h) ∧ (h = -1 ∨ h = (((fd0 lim).run (raw'.take k)).1.kept.length : Int)) := by
      intro k hk
      obtain ⟨h, hh⟩ : ∃ h, hs1[k]? = some h := ⟨_, List.getElem?_eq_getElem (by rw [R1.hl, A.out]; exact hk)⟩
      exact ⟨h, by rw [bx1.cell k]; simp [hh], R1.hsp k h hh⟩
    have hcell2 : ∀ k, k < n0 + 1 → ∃ h, w3.cell? ⟨hb2, k, none⟩ = some (.int .i64 h) ∧ (h = -1 ∨ h = (((fd0 lim).run (raw'.take k)).1.kept.length : Int)) := by
      intro k hk
      obtain ⟨h, hh⟩ : ∃ h, hs2[k]? = some h := ⟨_, List.getElem?_eq_getElem (by rw [R2.hl, A.out]; exact hk)⟩
      exact ⟨h, by rw [bx2.cell k]; simp [hh], R2.hsp k h hh⟩
    have hfin := gb_trans (gb_trans (gb_trans g1 R1.gb) R2.gb) g3
    have hE3 := R2.er.kept g3
    have hn0 : n0 ≤ 12000 := by rw [← A.out]; exact hlen
    clear h28 hen hen2 R1 R2 bx1 bx2 y0 y1 y2 y3 f2
    go_wp2
    go_loopw [9] (fun x wr => ∃ k : Nat, k ≤ n0 + 1 ∧ x = .int .i64 (k : Int) ∧ w3.grownBy wr none) (fun x _ => n0 + 1 - (intOf x).toNat)
    case atStart => exact ⟨0, Nat.zero_le _, rfl, gb_refl _ _⟩
    case round =>
      obtain ⟨k, hk, rfl, hg⟩ := hrel
      rcases (by omega : k < n0 + 1 ∨ k = n0 + 1) with hlt | hke
      · obtain ⟨h1, c1, e1⟩ := hcell1 k hlt
        obtain ⟨h2, c2, e2⟩ := hcell2 k hlt
        replace c1 := gb_cellN hg c1
        replace c2 := gb_cellN hg c2
        have d1 : decide ((k : Int) < (n0 : Int) + 1) = true := decide_eq_true (by omega)
        have d2 : IntKind.i64.wrap ((k : Int) + 1) = (k : Int) + 1 := by rw [IntKind.wrap_i64]; omega
        obtain ⟨L, hL⟩ : ∃ L : Nat, ((fd0 lim).run (raw'.take k)).1.kept.length = L := ⟨_, rfl⟩
        rw [hL] at e1 e2
        clear hcell1 hcell2 hL
        have dL : decide ((0 : Int) ≤ (L : Int)) = true := decide_eq_true (by omega)
        rcases e1 with rfl | rfl
        · go_wp2
          go_quiet (fail)
          go_wp2
          refine ⟨⟨k + 1, by omega, by simp, gb_drewN hg _⟩, by simp [intOf]; omega⟩
        · rcases e2 with rfl | rfl
          · go_wp2
            go_quiet (fail)
            go_wp2
            refine ⟨⟨k + 1, by omega, by simp, gb_drewN hg _⟩, by simp [intOf]; omega⟩
          · go_wp2
            go_quiet (fail)
            go_wp2
            refine ⟨⟨k + 1, by omega, by simp, gb_drewN hg _⟩, by simp [intOf]; omega⟩
      · have d1 : decide ((k : Int) < (n0 : Int) + 1) = false := decide_eq_false (by omega)
        have h48 := wakes_48 (hE3.kept hg)
        clear hcell1 hcell2 hke
        go_wp2_with (go_at_call 48; go_must ((with_reducible refine h48.mono ?_); rintro e w9 ⟨rfl, g9⟩))
        go_ret
        exact ⟨rfl, gb_trans (gb_trans hfin hg) g9⟩
end Go.Proofs.YtobegepebochkaaGreatDoor

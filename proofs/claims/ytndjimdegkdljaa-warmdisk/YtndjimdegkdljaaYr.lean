import Derived.Test.YtndjimdegkdljaaYq
import Derived.Test.YtndjimdegkdljaaYp
import Derived.Deep.CutBlock
/-
  acts: one act on both disks.
-/
namespace Go.Proofs.Ytndjimdegkdljaa
open Go.RowKit Go.MapKept
set_option linter.unusedVariables false
set_option linter.unusedSimpArgs false
attribute [local go_sem] Oper.semAt_some

theorem box8 {w : World} {b : Nat} {a0 a1 a2 a3 a4 a5 a6 a7 : Value} (h : Box w 44 b #[a0, a1, a2, a3, a4, a5, a6, a7]) (x0 x1 x2 x3 x4 x5 x6 x7 : Value) :
    ∃ V, (((((((w.setCell ⟨b, 0, none⟩ x0).setCell ⟨b, 1, none⟩ x1).setCell ⟨b, 2, none⟩ x2).setCell ⟨b, 3, none⟩ x3).setCell ⟨b, 4, none⟩ x4).setCell ⟨b, 5, none⟩ x5).setCell ⟨b, 6, none⟩ x6).setCell ⟨b, 7, none⟩ x7 = V ∧ Box V 44 b #[x0, x1, x2, x3, x4, x5, x6, x7] ∧ w.grownBy V (some b) := by
  have h0 : Box (w.setCell ⟨b, 0, none⟩ x0) 44 b #[x0, a1, a2, a3, a4, a5, a6, a7] := h.set 0 x0
  have h1 : Box ((w.setCell ⟨b, 0, none⟩ x0).setCell ⟨b, 1, none⟩ x1) 44 b #[x0, x1, a2, a3, a4, a5, a6, a7] := h0.set 1 x1
  have h2 : Box (((w.setCell ⟨b, 0, none⟩ x0).setCell ⟨b, 1, none⟩ x1).setCell ⟨b, 2, none⟩ x2) 44 b #[x0, x1, x2, a3, a4, a5, a6, a7] := h1.set 2 x2
  have h3 : Box ((((w.setCell ⟨b, 0, none⟩ x0).setCell ⟨b, 1, none⟩ x1).setCell ⟨b, 2, none⟩ x2).setCell ⟨b, 3, none⟩ x3) 44 b #[x0, x1, x2, x3, a4, a5, a6, a7] := h2.set 3 x3
  have h4 : Box (((((w.setCell ⟨b, 0, none⟩ x0).setCell ⟨b, 1, none⟩ x1).setCell ⟨b, 2, none⟩ x2).setCell ⟨b, 3, none⟩ x3).setCell ⟨b, 4, none⟩ x4) 44 b #[x0, x1, x2, x3, x4, a5, a6, a7] := h3.set 4 x4
  have h5 : Box ((((((w.setCell ⟨b, 0, none⟩ x0).setCell ⟨b, 1, none⟩ x1).setCell ⟨b, 2, none⟩ x2).setCell ⟨b, 3, none⟩ x3).setCell ⟨b, 4, none⟩ x4).setCell ⟨b, 5, none⟩ x5) 44 b #[x0, x1, x2, x3, x4, x5, a6, a7] := h4.set 5 x5
  have h6 : Box (((((((w.setCell ⟨b, 0, none⟩ x0).setCell ⟨b, 1, none⟩ x1).setCell ⟨b, 2, none⟩ x2).setCell ⟨b, 3, none⟩ x3).setCell ⟨b, 4, none⟩ x4).setCell ⟨b, 5, none⟩ x5).setCell ⟨b, 6, none⟩ x6) 44 b #[x0, x1, x2, x3, x4, x5, x6, a7] := h5.set 6 x6
  have h7 : Box ((((((((w.setCell ⟨b, 0, none⟩ x0).setCell ⟨b, 1, none⟩ x1).setCell ⟨b, 2, none⟩ x2).setCell ⟨b, 3, none⟩ x3).setCell ⟨b, 4, none⟩ x4).setCell ⟨b, 5, none⟩ x5).setCell ⟨b, 6, none⟩ x6).setCell ⟨b, 7, none⟩ x7) 44 b #[x0, x1, x2, x3, x4, x5, x6, x7] := h6.set 7 x7
  exact ⟨_, rfl, h7, gb_setCell (gb_setCell (gb_setCell (gb_setCell (gb_setCell (gb_setCell (gb_setCell (gb_setCell (gb_refl _ _) _) _) _) _) _) _) _) _⟩
theorem Dv.base {w V w' : World} {G : Nat → Prop} {d r : Nat} {M N : Md} (g : w.grownBy V none) (h : Dv V w' G d r M N) : Dv w w' G d r M N := by
  obtain ⟨p, q, h1, h2, h3, h4, h5⟩ := h
  exact ⟨p, q, h1, h2, h3, (Kp.of (F := G) g).trans h4 (fun _ h => h) (fun _ h => .inl h), fun b hb hG => h5 b (Nat.lt_of_lt_of_le hb g.size) hG⟩
theorem Hin.raise {w : World} {z z' : Nat} {p : Pl} {q : Rl} {v : Value} {n sz : Nat} {xs : List Value} (h : Hin w (cz z p q) v n sz xs) (hz : z ≤ z') : Hin w (cz z' p q) v n sz xs :=
  h.col (fun b _ hc => by
    obtain ⟨h1, h2⟩ := cz_zero hc
    unfold cz
    rw [if_pos (by omega)]
    unfold Both at h2
    omega)
theorem ty40 : ∃ ti, Ty 40 3 ti (.int .i64 0) 1 8 := by
  obtain ⟨ti, hi, he⟩ := Option.map_eq_some_iff.1 (show (Try.prog.info? 3).map (fun i => (i.zero, i.size, i.bytes)) = some (some (.int .i64 0), 1, 8) by kernel_rfl)
  simp only [Prod.mk.injEq] at he
  exact ⟨ti, Try.underlying40, hi, he.1, he.2.1, he.2.2, rfl, by decide, by decide⟩
theorem dv_44 {w0 w : World} {d r : Nat} {M N : Md} {p : Pl} {q : Rl} (h : Dv w0 w (Both p q) d r M N) {lv : Value} {P : List Flt} (hb : Hin w (cz w0.heap.size p q) lv P.length 3 (P.flatMap fltL)) (hP : P.length ≤ 1000) :
    Calls Try.prog 44 #[pv r, lv] w fun e w' => e = .returned (.tuple #[]) ∧ Dv w0 w' (Both p q) d r M (N.planned P) ∧ Kx w w' := by
  refine h.callR fun q' hq hr hc => ?_
  subst hq
  exact rplan_44 hr (hb.dq hc) hP
theorem dv_12 {w0 w : World} {d r : Nat} {M N : Md} {p : Pl} {q : Rl} (h : Dv w0 w (Both p q) d r M N) {lv : Value} {ls : List Int} (hb : Hin w (cz w0.heap.size p q) lv ls.length 1 (ls.map (Value.int .i64))) (nk : Int) (hsm : ∀ k, (N.file k).1.length ≤ 1000000000) :
    Calls Try.prog 12 #[pv r, .agg #[lv, .int .i64 nk]] w fun e w' => e = .returned (.tuple #[]) ∧ Dv w0 w' (Both p q) d r M (((N.settle (btw nk N.ch.length).toNat).cutBy (dn N.files.length) ls).wake) ∧ Kx w w' := by
  refine h.callR fun q' hq hr hc => ?_
  subst hq
  exact rrestart_12 hr (hb.dq hc) nk hsm
theorem Dv.swap {w0 w : World} {G : Nat → Prop} {d r : Nat} {M1 : Md} {S : List Nat} {ls : List Int} (D : Dv w0 w G d r ((M1.cutBy S ls).wake) ((M1.cutBy (dn M1.files.length) ls).wake)) (hch : M1.ch = []) (hS : ∀ k, k ∈ S ↔ ∃ s, M1.names s = some k) :
    Dv w0 w G d r ((M1.cutBy (dn M1.files.length) ls).wake) ((M1.cutBy (dn M1.files.length) ls).wake) := by
  obtain ⟨p, q, h1, h2, h3, h4, h5⟩ := D
  refine ⟨p, q, h1, h2, ⟨h3.rp.swap h3.rr.ok rfl rfl ?_ rfl rfl rfl rfl ?_, h3.rr, h3.dis⟩, h4, h5⟩
  · show (M1.cutBy (dn M1.files.length) ls).files.length = (M1.cutBy S ls).files.length
    rw [cutBy_len, cutBy_len]
  · intro k hr
    have hk : k ∈ S := by
      rw [hS]
      rcases hr with ⟨s, hs⟩ | ⟨c, hc, -⟩
      · refine ⟨s, ?_⟩
        unfold Md.names
        rw [hch]
        exact hs
      · have hc' : c ∈ M1.ch := hc
        rw [hch] at hc'
        cases hc'
    show (M1.files.mapIdx (fun k f => if k ∈ dn M1.files.length then cutF ls k f else f))[k]? = (M1.files.mapIdx (fun k f => if k ∈ S then cutF ls k f else f))[k]?
    rw [List.getElem?_mapIdx, List.getElem?_mapIdx]
    by_cases hkn : k < M1.files.length
    · rw [List.getElem?_eq_getElem hkn]
      simp only [Option.map_some, if_pos hk, if_pos (mem_dn.2 hkn)]
    · rw [List.getElem?_eq_none (by omega)]
      rfl
theorem Dv.prog1 {V w7 w8 : World} {p p' : Pl} {q : Rl} {M M' : Md} (h : Dz V p q M M) (g : V.grownBy w7 none) (hp : RP w8 p' M') (ha : Aft w7 w8 p p') : Dv V w8 (Both p q) p.d q.d M' M :=
  Dv.prog (h.gb g) (Kp.of g) (fun b _ hb => ⟨by by_cases hc : p.col b = 0; exact hc; exact absurd (.inl hc) hb, by by_cases hc : q.col b = 0; exact hc; exact absurd (.inr hc) hb⟩) hp ha
set_option maxRecDepth 100000 in
set_option maxHeartbeats 16000000 in
theorem acts_9 {w : World} {p : Pl} {q : Rl} {M : Md} (h : Dz w p q M M) (hac : M.acts ≤ 399) (on dov cnk : Int) (nm tn bs : Bs) (P : List Flt) (ls : List Int) {ba pa ca : Option Addr} {nb np nl bc pc cc : Nat}
    (hbl : bs.length = min nb 2097152) (hPl : P.length = min np 1000) (hll : ls.length = min nl 10000) (eb : nb ≤ bc) (ep : np ≤ pc) (ec : nl ≤ cc) (eb3 : bc ≤ maxLen) (ep3 : pc ≤ maxLen) (ec3 : cc ≤ maxLen)
    (hb : Hin w (cz w.heap.size p q) (.slice ba bs.length bc) bs.length 1 (bs.map b8)) (hp : Hin w (cz w.heap.size p q) (.slice pa P.length pc) P.length 3 (P.flatMap fltL)) (hc : Hin w (cz w.heap.size p q) (.slice ca ls.length cc) ls.length 1 (ls.map (Value.int .i64)))
    (hnm : nm.length ≤ 140737488351232) (htn : tn.length ≤ 140737488351232) :
    Calls Try.prog 9 #[pv p.d, pv q.d, .agg #[.int .i64 on, .int .i64 dov, sv nm, sv tn, .slice ba nb bc, .slice pa np pc, .slice ca nl cc, .int .i64 cnk]] w fun e w' =>
      e = .returned (.bool true) ∧ ∃ M', Dv w w' (Both p q) p.d q.d M' M' ∧ M'.acts ≤ M.acts + (if dov ≤ 6 then 1 else 0) := by
  have hl1 : nm.length ≤ 9223372036854775807 := Nat.le_trans hnm (by decide)
  have hl2 : tn.length ≤ 9223372036854775807 := Nat.le_trans htn (by decide)
  have h32 := fun W => slim_32 W on dov nm tn ba pa ca nb bc np pc nl cc cnk eb ep ec eb3 ep3 ec3
  rw [← hbl, ← hPl, ← hll] at h32
  have hbl2 : bs.length ≤ 2097152 := by rw [hbl]; exact Nat.min_le_right _ _
  have hPl2 : P.length ≤ 1000 := by rw [hPl]; exact Nat.min_le_right _ _
  have hll2 : ls.length ≤ 10000 := by rw [hll]; exact Nat.min_le_right _ _
  have g0 := gb_alloc (gb_refl w none) (.cells #[.int .i64 on, .int .i64 dov, sv nm, sv tn, .slice ba nb bc, .slice pa np pc, .slice ca nl cc, .int .i64 cnk] 44)
  have B0 := Box.new w 44 #[.int .i64 on, .int .i64 dov, sv nm, sv tn, .slice ba nb bc, .slice pa np pc, .slice ca nl cc, .int .i64 cnk]
  have HH := Lib.hid (And.intro h (And.intro hb (And.intro hp (And.intro hc (And.intro g0 B0)))))
  clear h hb hp hc hbl hPl hll eb ep ec eb3 ep3 ec3 g0 B0
  go_enter Try.func9, Try.ntmps9
  go_upto_region 2 with (go_at_call 32; go_must (refine (h32 _).mono ?_); rintro e w1 ⟨rfl, g1⟩; (have B1 := HH.out.2.2.2.2.2.kept g1 (by simp)); (have G1 := gb_trans HH.out.2.2.2.2.1 g1); (have z0 := B1.cell 0); (have z1 := B1.cell 1); (have z2 := B1.cell 2); (have z3 := B1.cell 3); (have z4 := B1.cell 4); (have z5 := B1.cell 5); (have z6 := B1.cell 6); (have z7 := B1.cell 7); (have y0 := B1.fz 0); (have y1 := B1.fz 1); (have y2 := B1.fz 2); (have y3 := B1.fz 3); (have y4 := B1.fz 4); (have y5 := B1.fz 5); (have y6 := B1.fz 6); (have y7 := B1.fz 7))
  obtain ⟨V, hV, BV, gV⟩ := box8 B1 (.int .i64 on) (.int .i64 dov) (sv nm) (sv tn) (.slice ba bs.length bc) (.slice pa P.length pc) (.slice ca ls.length cc) (.int .i64 cnk)
  rw [hV]
  have GV : w.grownBy V none := gb_mine G1 gV (Nat.le_refl _)
  clear z0 z1 z2 z3 z4 z5 z6 z7 y0 y1 y2 y3 y4 y5 y6 y7 hV gV B1 G1 h32 g1
  obtain ⟨h, hb, hp, hc, -, -⟩ := HH.out
  obtain ⟨k, hk⟩ : ∃ k, w.heap.size = k := ⟨_, rfl⟩
  have hk0 : ¬ Both p q k := fun hB => by have := h.lt hB; omega
  have hD0 : Dv V V (Both p q) p.d q.d M M := Dv.start (h.gb GV)
  have hVs := GV.size
  have hbV := (hb.gb GV).raise hVs
  have hpV := (hp.gb GV).raise hVs
  have hcV := (hc.gb GV).raise hVs
  have HX := Lib.hid (And.intro h (And.intro hbV (And.intro hpV (And.intro hcV GV))))
  rw [hk] at BV ⊢
  have c1 : V.cell? ⟨k, 1, none⟩ = some (.int .i64 dov) := BV.cell 1
  have c2 : V.cell? ⟨k, 2, none⟩ = some (sv nm) := BV.cell 2
  have c3 : V.cell? ⟨k, 3, none⟩ = some (sv tn) := BV.cell 3
  have c4 : V.cell? ⟨k, 4, none⟩ = some (.slice ba bs.length bc) := BV.cell 4
  have c5 : V.cell? ⟨k, 5, none⟩ = some (.slice pa P.length pc) := BV.cell 5
  have c6 : V.cell? ⟨k, 6, none⟩ = some (.slice ca ls.length cc) := BV.cell 6
  have c7 : V.cell? ⟨k, 7, none⟩ = some (.int .i64 cnk) := BV.cell 7
  clear HH h hb hp hc hbV hpV hcV GV hk
  by_cases e1 : dov = 1
  · subst e1
    have hfz : ∃ fv, fltO [99, 114, 101, 97, 116, 101] nm (actR M (doC M.act1 nm)).1 = fv := ⟨_, rfl⟩
    have hacts : (actR M (doC M.act1 nm)).2.acts ≤ M.acts + 1 := by rw [actR_acts (by rw [doC_acts]; rfl)]; exact Nat.le_refl _
    have hP := fun (W : World) (gW : V.grownBy W none) => dv_13 (hD0.more gW) (by omega) nm hl1
    have hR := fun (W : World) (N : Md) (hN : Dv V W (Both p q) p.d q.d N M) => dv_14 hN (by omega) nm hl1
    have hT := fun (W : World) (v : Value) (he : ErrV W v [99, 114, 101, 97, 116, 101] nm (actR M (doC M.act1 nm)).1) => told_8 he (by decide) hnm
    generalize actR M (doC M.act1 nm) = res at *
    obtain ⟨fv, hfv⟩ := hfz
    rw [hfv] at hR
    simp only [hfv] at hT
    clear hfv
    go_upto_region 4 with fail
    go_region_held3 (fun w' => w'.cell? ⟨k, 2, none⟩ = some (sv nm)) ((first | exact i2 | exact j2 | exact k2 | go_keep)) ((first
      | (go_at_call 13; go_must (refine (hP _ (by first | exact gb_refl _ _ | exact gb_drew (gb_refl _ _) | exact gb_drewN (gb_refl _ _) _)).mono ?_); rintro ye w5 ⟨⟨v5, rfl, hv5⟩, hD5, hK5⟩; (have k2 : w5.cell? ⟨k, 2, none⟩ = some (sv nm) := (hD5.kpp.box BV hk0).cell 2); (have H5 := Lib.hid (And.intro hv5 hD5)); clear hv5 hD5 hK5)
      | (go_at_call 14; go_must (refine (hR _ _ (H5.out.2.more (by first | exact gb_refl _ _ | exact gb_drew (gb_refl _ _) | exact gb_drewN (gb_refl _ _) _))).mono ?_); rintro ye w6 ⟨rfl, hD6, hK6⟩; (have j2 : w6.cell? ⟨k, 2, none⟩ = some (sv nm) := (hD6.kpp.box BV hk0).cell 2); (have H6 := Lib.hid (And.intro (hK6.err (H5.out.1.kept (by first | exact gb_refl _ _ | exact gb_drew (gb_refl _ _) | exact gb_drewN (gb_refl _ _) _))) hD6)); clear hD6 hK6)
      | (go_at_call 8; go_must (refine (hT _ _ (H6.out.1.kept (by first | exact gb_refl _ _ | exact gb_drew (gb_refl _ _) | exact gb_drewN (gb_refl _ _) _))).mono ?_); rintro ye w7 ⟨rfl, g7⟩; (have i2 := gb_cellN g7 j2); (have H7 := Lib.hid g7); clear g7))
    )
    all_goals
      go_wp2_with fail
      go_ret
      exact ⟨rfl, _, ((H6.out.2.more (by first | exact gb_refl _ _ | exact gb_drew (gb_refl _ _) | exact gb_drewN (gb_refl _ _) _)).more H7.out).base HX.out.2.2.2.2, hacts⟩
  by_cases e3 : dov = 3
  · subst e3
    have hfz : ∃ fv, fltO [115, 121, 110, 99] nm (actR M (doSy M.act1 nm)).1 = fv := ⟨_, rfl⟩
    have hacts : (actR M (doSy M.act1 nm)).2.acts ≤ M.acts + 1 := by rw [actR_acts (by rw [doSy_acts]; rfl)]; exact Nat.le_refl _
    have hP := fun (W : World) (gW : V.grownBy W none) => dv_17 (hD0.more gW) (by omega) nm hl1
    have hR := fun (W : World) (N : Md) (hN : Dv V W (Both p q) p.d q.d N M) => dv_18 hN (by omega) nm hl1
    have hT := fun (W : World) (v : Value) (he : ErrV W v [115, 121, 110, 99] nm (actR M (doSy M.act1 nm)).1) => told_8 he (by decide) hnm
    generalize actR M (doSy M.act1 nm) = res at *
    obtain ⟨fv, hfv⟩ := hfz
    rw [hfv] at hR
    simp only [hfv] at hT
    clear hfv
    go_upto_region 8 with fail
    go_region_held3 (fun w' => w'.cell? ⟨k, 2, none⟩ = some (sv nm)) ((first | exact i2 | exact j2 | exact k2 | go_keep)) ((first
      | (go_at_call 17; go_must (refine (hP _ (by first | exact gb_refl _ _ | exact gb_drew (gb_refl _ _) | exact gb_drewN (gb_refl _ _) _)).mono ?_); rintro ye w5 ⟨⟨v5, rfl, hv5⟩, hD5, hK5⟩; (have k2 : w5.cell? ⟨k, 2, none⟩ = some (sv nm) := (hD5.kpp.box BV hk0).cell 2); (have H5 := Lib.hid (And.intro hv5 hD5)); clear hv5 hD5 hK5)
      | (go_at_call 18; go_must (refine (hR _ _ (H5.out.2.more (by first | exact gb_refl _ _ | exact gb_drew (gb_refl _ _) | exact gb_drewN (gb_refl _ _) _))).mono ?_); rintro ye w6 ⟨rfl, hD6, hK6⟩; (have j2 : w6.cell? ⟨k, 2, none⟩ = some (sv nm) := (hD6.kpp.box BV hk0).cell 2); (have H6 := Lib.hid (And.intro (hK6.err (H5.out.1.kept (by first | exact gb_refl _ _ | exact gb_drew (gb_refl _ _) | exact gb_drewN (gb_refl _ _) _))) hD6)); clear hD6 hK6)
      | (go_at_call 8; go_must (refine (hT _ _ (H6.out.1.kept (by first | exact gb_refl _ _ | exact gb_drew (gb_refl _ _) | exact gb_drewN (gb_refl _ _) _))).mono ?_); rintro ye w7 ⟨rfl, g7⟩; (have i2 := gb_cellN g7 j2); (have H7 := Lib.hid g7); clear g7))
    )
    all_goals
      go_wp2_with fail
      go_ret
      exact ⟨rfl, _, ((H6.out.2.more (by first | exact gb_refl _ _ | exact gb_drew (gb_refl _ _) | exact gb_drewN (gb_refl _ _) _)).more H7.out).base HX.out.2.2.2.2, hacts⟩
  by_cases e5 : dov = 5
  · subst e5
    have hfz : ∃ fv, fltO [114, 101, 109, 111, 118, 101] nm (actR M (doRm M.act1 nm)).1 = fv := ⟨_, rfl⟩
    have hacts : (actR M (doRm M.act1 nm)).2.acts ≤ M.acts + 1 := by rw [actR_acts (by rw [doRm_acts]; rfl)]; exact Nat.le_refl _
    have hP := fun (W : World) (gW : V.grownBy W none) => dv_15 (hD0.more gW) (by omega) nm hl1
    have hR := fun (W : World) (N : Md) (hN : Dv V W (Both p q) p.d q.d N M) => dv_16 hN (by omega) nm hl1
    have hT := fun (W : World) (v : Value) (he : ErrV W v [114, 101, 109, 111, 118, 101] nm (actR M (doRm M.act1 nm)).1) => told_8 he (by decide) hnm
    generalize actR M (doRm M.act1 nm) = res at *
    obtain ⟨fv, hfv⟩ := hfz
    rw [hfv] at hR
    simp only [hfv] at hT
    clear hfv
    go_upto_region 12 with fail
    go_region_held3 (fun w' => w'.cell? ⟨k, 2, none⟩ = some (sv nm)) ((first | exact i2 | exact j2 | exact k2 | go_keep)) ((first
      | (go_at_call 15; go_must (refine (hP _ (by first | exact gb_refl _ _ | exact gb_drew (gb_refl _ _) | exact gb_drewN (gb_refl _ _) _)).mono ?_); rintro ye w5 ⟨⟨v5, rfl, hv5⟩, hD5, hK5⟩; (have k2 : w5.cell? ⟨k, 2, none⟩ = some (sv nm) := (hD5.kpp.box BV hk0).cell 2); (have H5 := Lib.hid (And.intro hv5 hD5)); clear hv5 hD5 hK5)
      | (go_at_call 16; go_must (refine (hR _ _ (H5.out.2.more (by first | exact gb_refl _ _ | exact gb_drew (gb_refl _ _) | exact gb_drewN (gb_refl _ _) _))).mono ?_); rintro ye w6 ⟨rfl, hD6, hK6⟩; (have j2 : w6.cell? ⟨k, 2, none⟩ = some (sv nm) := (hD6.kpp.box BV hk0).cell 2); (have H6 := Lib.hid (And.intro (hK6.err (H5.out.1.kept (by first | exact gb_refl _ _ | exact gb_drew (gb_refl _ _) | exact gb_drewN (gb_refl _ _) _))) hD6)); clear hD6 hK6)
      | (go_at_call 8; go_must (refine (hT _ _ (H6.out.1.kept (by first | exact gb_refl _ _ | exact gb_drew (gb_refl _ _) | exact gb_drewN (gb_refl _ _) _))).mono ?_); rintro ye w7 ⟨rfl, g7⟩; (have i2 := gb_cellN g7 j2); (have H7 := Lib.hid g7); clear g7))
    )
    all_goals
      go_wp2_with fail
      go_ret
      exact ⟨rfl, _, ((H6.out.2.more (by first | exact gb_refl _ _ | exact gb_drew (gb_refl _ _) | exact gb_drewN (gb_refl _ _) _)).more H7.out).base HX.out.2.2.2.2, hacts⟩
  by_cases e4 : dov = 4
  · subst e4
    have hfz : ∃ fv, fltO [114, 101, 110, 97, 109, 101] nm (actR M (doRn M.act1 nm tn)).1 = fv := ⟨_, rfl⟩
    have hacts : (actR M (doRn M.act1 nm tn)).2.acts ≤ M.acts + 1 := by rw [actR_acts (by rw [doRn_acts]; rfl)]; exact Nat.le_refl _
    have hP := fun (W : World) (gW : V.grownBy W none) => dv_34 (hD0.more gW) (by omega) nm tn hl1 hl2
    have hR := fun (W : World) (N : Md) (hN : Dv V W (Both p q) p.d q.d N M) => dv_35 hN (by omega) nm tn hl1 hl2
    have hT := fun (W : World) (v : Value) (he : ErrV W v [114, 101, 110, 97, 109, 101] nm (actR M (doRn M.act1 nm tn)).1) => told_8 he (by decide) hnm
    generalize actR M (doRn M.act1 nm tn) = res at *
    obtain ⟨fv, hfv⟩ := hfz
    rw [hfv] at hR
    simp only [hfv] at hT
    clear hfv
    go_upto_region 10 with fail
    go_region_held3 (fun w' => w'.cell? ⟨k, 2, none⟩ = some (sv nm) ∧ w'.cell? ⟨k, 3, none⟩ = some (sv tn)) ((first | exact ⟨i2, i3⟩ | exact ⟨j2, j3⟩ | exact ⟨k2, k3⟩ | go_keep)) ((first
      | (go_at_call 34; go_must (refine (hP _ (by first | exact gb_refl _ _ | exact gb_drew (gb_refl _ _) | exact gb_drewN (gb_refl _ _) _)).mono ?_); rintro ye w5 ⟨⟨v5, rfl, hv5⟩, hD5, hK5⟩; (have k2 : w5.cell? ⟨k, 2, none⟩ = some (sv nm) := (hD5.kpp.box BV hk0).cell 2); (have k3 : w5.cell? ⟨k, 3, none⟩ = some (sv tn) := (hD5.kpp.box BV hk0).cell 3); (have H5 := Lib.hid (And.intro hv5 hD5)); clear hv5 hD5 hK5)
      | (go_at_call 35; go_must (refine (hR _ _ (H5.out.2.more (by first | exact gb_refl _ _ | exact gb_drew (gb_refl _ _) | exact gb_drewN (gb_refl _ _) _))).mono ?_); rintro ye w6 ⟨rfl, hD6, hK6⟩; (have j2 : w6.cell? ⟨k, 2, none⟩ = some (sv nm) := (hD6.kpp.box BV hk0).cell 2); (have j3 : w6.cell? ⟨k, 3, none⟩ = some (sv tn) := (hD6.kpp.box BV hk0).cell 3); (have H6 := Lib.hid (And.intro (hK6.err (H5.out.1.kept (by first | exact gb_refl _ _ | exact gb_drew (gb_refl _ _) | exact gb_drewN (gb_refl _ _) _))) hD6)); clear hD6 hK6)
      | (go_at_call 8; go_must (refine (hT _ _ (H6.out.1.kept (by first | exact gb_refl _ _ | exact gb_drew (gb_refl _ _) | exact gb_drewN (gb_refl _ _) _))).mono ?_); rintro ye w7 ⟨rfl, g7⟩; (have i2 := gb_cellN g7 j2); (have i3 := gb_cellN g7 j3); (have H7 := Lib.hid g7); clear g7))
    )
    all_goals
      go_wp2_with fail
      go_ret
      exact ⟨rfl, _, ((H6.out.2.more (by first | exact gb_refl _ _ | exact gb_drew (gb_refl _ _) | exact gb_drewN (gb_refl _ _) _)).more H7.out).base HX.out.2.2.2.2, hacts⟩
  by_cases e6 : dov = 6
  · subst e6
    have hfz : ∃ fv, fltO [115, 121, 110, 99, 110, 97, 109, 101, 115] [] (actR M ((0 : Int), M.act1.settle M.ch.length)).1 = fv := ⟨_, rfl⟩
    have hacts : (actR M ((0 : Int), M.act1.settle M.ch.length)).2.acts ≤ M.acts + 1 := by rw [actR_acts (by rfl)]; exact Nat.le_refl _
    have hP := fun (W : World) (gW : V.grownBy W none) => dv_24 (hD0.more gW) (by omega)
    have hR := fun (W : World) (N : Md) (hN : Dv V W (Both p q) p.d q.d N M) => dv_36 hN (by omega)
    have hT := fun (W : World) (v : Value) (he : ErrV W v [115, 121, 110, 99, 110, 97, 109, 101, 115] [] (actR M ((0 : Int), M.act1.settle M.ch.length)).1) => told_8 he (by decide) (by decide)
    generalize actR M ((0 : Int), M.act1.settle M.ch.length) = res at *
    obtain ⟨fv, hfv⟩ := hfz
    rw [hfv] at hR
    simp only [hfv] at hT
    clear hfv
    go_wp2_with (first
      | (go_at_call 24; go_must (refine (hP _ (by first | exact gb_refl _ _ | exact gb_drew (gb_refl _ _) | exact gb_drewN (gb_refl _ _) _)).mono ?_); rintro ye w5 ⟨⟨v5, rfl, hv5⟩, hD5, hK5⟩; (have H5 := Lib.hid (And.intro hv5 hD5)); clear hv5 hD5 hK5)
      | (go_at_call 36; go_must (refine (hR _ _ (H5.out.2.more (by first | exact gb_refl _ _ | exact gb_drew (gb_refl _ _) | exact gb_drewN (gb_refl _ _) _))).mono ?_); rintro ye w6 ⟨rfl, hD6, hK6⟩; (have H6 := Lib.hid (And.intro (hK6.err (H5.out.1.kept (by first | exact gb_refl _ _ | exact gb_drew (gb_refl _ _) | exact gb_drewN (gb_refl _ _) _))) hD6)); clear hD6 hK6)
      | (go_at_call 8; go_must (refine (hT _ _ (H6.out.1.kept (by first | exact gb_refl _ _ | exact gb_drew (gb_refl _ _) | exact gb_drewN (gb_refl _ _) _))).mono ?_); rintro ye w7 ⟨rfl, g7⟩; (have H7 := Lib.hid g7); clear g7))
    all_goals
      go_ret
      exact ⟨rfl, _, ((H6.out.2.more (by first | exact gb_refl _ _ | exact gb_drew (gb_refl _ _) | exact gb_drewN (gb_refl _ _) _)).more H7.out).base HX.out.2.2.2.2, hacts⟩
  by_cases e2 : dov = 2
  · subst e2
    obtain ⟨t38, T38⟩ := ty38
    obtain ⟨L, hL, hLl⟩ := HX.out.1.rr.rep
    have hok := HX.out.1.rr.ok
    have hsm := sumL_bd hok (by omega) hLl
    have hs0 := hok.s0
    obtain ⟨rm, hrm⟩ : ∃ rm : Nat, (rm : Int) = max (M.space - (sumL M L : Int)) 0 := ⟨(max (M.space - (sumL M L : Int)) 0).toNat, by omega⟩
    have hbd2 : ∀ j, (M.file j).1.length + bs.length ≤ 1000000000 := fun j => by have := hok.len9 (by omega) j; omega
    have hfz : ∃ fv, fltO [97, 112, 112, 101, 110, 100] nm (apX M rm nm bs).1 = fv := ⟨_, rfl⟩
    have hacts : (apX M rm nm bs).2.acts ≤ M.acts + 1 := by rw [apX_acts]; exact Nat.le_refl _
    have hT := fun (W : World) (v : Value) (he : ErrV W v [97, 112, 112, 101, 110, 100] nm (apX M rm nm bs).1) => told_8 he (by decide) hnm
    have hP := fun (W : World) (g cp : Nat) (gW : V.grownBy W none) (ho : W.ownsRow 0 5 1 (.slice (some ⟨g, 0, none⟩) bs.length cp) bs.length (bs.map b8)) => dv_26 (hD0.more gW) (by omega) nm hl1 hL hsm ho rm hrm hbl2 hbd2
    have hR := fun (W : World) (N : Md) (hN : Dv V W (Both p q) p.d q.d N M) => dv_33 hN (by omega) nm hl1 hL hsm (HX.out.2.1.dv hN.kpp) rm hrm hbl2 hbd2
    have hbt := HX.out.2.1
    have hone := b8_one bs
    generalize apX M rm nm bs = res at *
    obtain ⟨fv, hfv⟩ := hfz
    rw [hfv] at hR
    simp only [hfv] at hT
    clear hfv hL hsm hok hrm
    have gZ : V.grownBy (V.drew.alloc (.cells #[] 5)) none := gb_alloc (gb_drew (gb_refl V none)) _
    have s2 := gb_cellN gZ c2
    have s4 := gb_cellN gZ c4
    have hbZ := hbt.gb gZ
    have hE0 : (V.drew.alloc (.cells #[] 5)).ownsRow 0 5 1 (.slice (some ⟨V.heap.size, 0, none⟩) 0 0) 0 [] := ⟨rfl, .inr ⟨V.heap.size, 0, #[], rfl, Nat.zero_le _, heap_alloc_new _ _, Nat.le_refl _, by unfold maxLen; omega, rfl, rfl⟩⟩
    have BVl := BV.lt
    clear hbt
    generalize hys : bs.map b8 = ys at *
    go_upto_region 6 with fail
    go_region_held3 (fun w' => w'.cell? ⟨k, 2, none⟩ = some (sv nm) ∧ w'.cell? ⟨k, 4, none⟩ = some (.slice ba bs.length bc)) ((first | exact ⟨i2, i4⟩ | exact ⟨j2, j4⟩ | exact ⟨k2, k4⟩ | exact ⟨r2, r4⟩ | exact ⟨s2, s4⟩ | go_keep)) ((first
      | (refine step_hin T38 (w := V.drew.alloc (.cells #[] 5)) (by rfl) (.tmp 31) (.tmp 33) (by rfl) (.slice (some ⟨V.heap.size, 0, none⟩) 0 0) 0 [] (by rfl) hE0 bs.length (.slice ba bs.length bc) ys (by rfl) hbZ hone (by omega) ?_; intro a8 c8 w8 hown8 hg8 hat8 hsm8; obtain ⟨g8, rfl⟩ := hsm8 ⟨_, rfl⟩; rw [Nat.zero_add, List.nil_append] at hown8; have hg9 : (V.drew.alloc (.cells #[] 5)).grownBy w8 (some V.heap.size) := hg8; have G8 : V.grownBy w8 none := gb_mine gZ hg9 (Nat.le_refl _); have r2 := gb_cellN G8 c2; have r4 := gb_cellN G8 c4; clear hg8 hg9 hat8)
      | (go_at_call 26; go_must (refine (hP _ _ _ G8 hown8).mono ?_); rintro ye w5 ⟨⟨v5, rfl, hv5⟩, hD5, hK5⟩; (have b5 := hD5.kpp.box BV hk0); (have k2 : w5.cell? ⟨k, 2, none⟩ = some (sv nm) := b5.cell 2); (have k4 : w5.cell? ⟨k, 4, none⟩ = some (.slice ba bs.length bc) := b5.cell 4); (have H5 := Lib.hid (And.intro hv5 hD5)); clear hv5 hD5 hK5 b5 hown8)
      | (go_at_call 33; go_must (refine (hR _ _ (H5.out.2.more (by first | exact gb_refl _ _ | exact gb_drew (gb_refl _ _) | exact gb_drewN (gb_refl _ _) _))).mono ?_); rintro ye w6 ⟨rfl, hD6, hK6⟩; (have b6 := hD6.kpp.box BV hk0); (have j2 : w6.cell? ⟨k, 2, none⟩ = some (sv nm) := b6.cell 2); (have j4 : w6.cell? ⟨k, 4, none⟩ = some (.slice ba bs.length bc) := b6.cell 4); (have H6 := Lib.hid (And.intro (hK6.err (H5.out.1.kept (by first | exact gb_refl _ _ | exact gb_drew (gb_refl _ _) | exact gb_drewN (gb_refl _ _) _))) hD6)); clear hD6 hK6 b6)
      | (go_at_call 8; go_must (refine (hT _ _ (H6.out.1.kept (by first | exact gb_refl _ _ | exact gb_drew (gb_refl _ _) | exact gb_drewN (gb_refl _ _) _))).mono ?_); rintro ye w7 ⟨rfl, g7⟩; (have i2 := gb_cellN g7 j2); (have i4 := gb_cellN g7 j4); (have H7 := Lib.hid g7); clear g7)))
    all_goals
      go_wp2_with fail
      go_ret
      exact ⟨rfl, _, ((H6.out.2.more (by first | exact gb_refl _ _ | exact gb_drew (gb_refl _ _) | exact gb_drewN (gb_refl _ _) _)).more H7.out).base HX.out.2.2.2.2, hacts⟩
  by_cases e7 : dov = 7
  · subst e7
    obtain ⟨h, -, -, -, GV⟩ := HX.out
    have hok := h.rr.ok
    have hfz : ∃ fv, fltO [114, 101, 97, 100] nm (rdR M nm).1 = fv := ⟨_, rfl⟩
    have hT := fun (W : World) (v : Value) (he : ErrV W v [114, 101, 97, 100] nm (rdR M nm).1) => told_8 he (by decide) hnm
    have hP := read_27 (h.rp.gb GV) nm hl1 (fun f hf => by
      have := hok.nb f hf
      have := Nat.mul_le_mul_right 2097152 (show M.acts ≤ 400 by omega)
      omega)
    have hR := fun (W : World) (gW : V.grownBy W none) => rread_37 ((h.rr.gb GV).gb gW) nm hl1 (fun j => Nat.le_trans (hok.len9 (by omega) j) (by decide))
    generalize rdR M nm = res at *
    obtain ⟨fv, hfv⟩ := hfz
    have hfa : ∃ x y z, fv = .agg #[sv x, sv y, .int .i64 z] := by rw [← hfv]; exact fltO_cells _ _ _
    rw [hfv] at hR
    simp only [hfv] at hT
    clear hfv hok h GV
    obtain ⟨fx, fy, fz, rfl⟩ := hfa
    go_upto_region 18 with (first
      | (go_at_call 27; go_must (refine hP.mono ?_); rintro ye w5 ⟨b5, v5, rfl, hv5, hr5, g5⟩; (have k2 := gb_cellN g5 c2); (have H5 := Lib.hid (And.intro hv5 (And.intro hr5 g5))); clear hv5 hr5 g5)
      | (go_at_call 37; go_must (refine (hR _ H5.out.2.2).mono ?_); rintro ye w6 ⟨b6, rfl, hr6, g6⟩; (have H6 := Lib.hid (And.intro hr6 g6)); clear hr6 g6))
    have gX := gb_alloc (gb_refl w6 none) (.cells #[sv fx, sv fy, .int .i64 fz] 34)
    have BX := Box.new w6 34 #[sv fx, sv fy, .int .i64 fz]
    obtain ⟨X, hX⟩ : ∃ X, w6.alloc (.cells #[sv fx, sv fy, .int .i64 fz] 34) = X := ⟨_, rfl⟩
    rw [hX] at gX BX
    rw [show w6.alloc (.cells #[.string ⟨fx.toArray⟩, .string ⟨fy.toArray⟩, .int .i64 fz] 34) = X from hX]
    have x0 : X.cell? ⟨w6.heap.size, 0, none⟩ = some (sv fx) := BX.cell 0
    have x1 : X.cell? ⟨w6.heap.size, 1, none⟩ = some (sv fy) := BX.cell 1
    have x2 : X.cell? ⟨w6.heap.size, 2, none⟩ = some (.int .i64 fz) := BX.cell 2
    have HG := Lib.hid (gb_trans H6.out.2 gX)
    have H8 := Lib.hid (row_kept H6.out.1 gX (by simp))
    have h8 := hT X v5 (H5.out.1.kept HG.out)
    have H9 := Lib.hid (row_kept H5.out.2.1 HG.out (by simp))
    clear hT hP hR gX BX hX
    go_wp2_with (go_at_call 8; go_must (refine h8.mono ?_); rintro ye w7 ⟨rfl, g7⟩; (have cv5 := row_str (row_kept H9.out g7 (by simp))); (have cv6 := row_str (row_kept H8.out g7 (by simp))); (have H7 := Lib.hid g7); clear g7)
    all_goals
      go_ret
      exact ⟨by simp, _, (hD0.more (gb_trans H5.out.2.2 (gb_trans HG.out H7.out))).base HX.out.2.2.2.2, by simp⟩
  by_cases e8 : dov = 8
  · subst e8
    obtain ⟨h, -, -, -, GV⟩ := HX.out
    obtain ⟨L, hL, hLl⟩ := h.rr.rep
    by_cases hd : M.dark = true
    · have hP := names_dark (h.rp.gb GV) hd
      have hR := rnames_dark (h.rr.gb GV) hd
      have hT := fun W => texts_38 (w := W) (B1 := 0) (B2 := 0) (l := []) (World.ownsRow_nil _ _ _ _) (World.ownsRow_nil _ _ _ _) (by simp)
      clear h GV hL hLl
      go_wp2_with (first
        | (go_at_call 29; go_must (refine hP.mono ?_); rintro ye w5 ⟨rfl, hw⟩; have hw2 := hw.symm; subst hw2)
        | (go_at_call 39; go_must (refine hR.mono ?_); rintro ye w6 ⟨rfl, hw⟩; have hw2 := hw.symm; subst hw2)
        | (go_at_call 38; go_must (refine (hT _).mono ?_); rintro ye w7 ⟨rfl, g7⟩; (have H7 := Lib.hid g7); clear g7))
      go_ret
      exact ⟨rfl, _, (hD0.more H7.out).base HX.out.2.2.2.2, by simp⟩
    · have hd' : M.dark = false := by simpa using hd
      have hP := names_29 (h.rp.gb GV) hd' hL (by omega)
      have hR := fun (W : World) (gW : V.grownBy W none) => rnames_39 ((h.rr.gb GV).gb gW) hd' hL
      have hsl := srt_len L
      have hT := fun (W : World) (B1 B2 : Nat) (v1 v2 : Value) (h1 : W.ownsRow B1 9 1 v1 L.length ((srt L).map sv)) (h2 : W.ownsRow B2 9 1 v2 L.length ((srt L).map sv)) => texts_38 (l := srt L) (by rw [hsl]; exact h1) (by rw [hsl]; exact h2) (by rw [hsl]; omega)
      clear h GV hL hLl hsl
      go_wp2_with (first
        | (go_at_call 29; go_must (refine hP.mono ?_); rintro ye w5 ⟨v5, rfl, hr5, g5⟩; (have H5 := Lib.hid (And.intro hr5 g5)); clear hr5 g5)
        | (go_at_call 39; go_must (refine (hR _ H5.out.2).mono ?_); rintro ye w6 ⟨v6, rfl, hr6, g6⟩; (have H6 := Lib.hid (And.intro hr6 g6)); clear hr6 g6)
        | (go_at_call 38; go_must (refine (hT _ _ _ _ _ (row_kept H5.out.1 H6.out.2 (by simp)) H6.out.1).mono ?_); rintro ye w7 ⟨rfl, g7⟩; (have H7 := Lib.hid g7); clear g7))
      go_ret
      exact ⟨rfl, _, (hD0.more (gb_trans H5.out.2 (gb_trans H6.out.2 H7.out))).base HX.out.2.2.2.2, by simp⟩
  by_cases e9 : dov = 9
  · subst e9
    obtain ⟨h, -, -, -, GV⟩ := HX.out
    obtain ⟨L, hL, hLl⟩ := h.rr.rep
    have hP := loose_23 (h.rp.gb GV) hL
    have hR := fun (W : World) (gW : V.grownBy W none) => rloose_40 ((h.rr.gb GV).gb gW) hL
    clear h GV hL
    go_wp2_with (first
      | (go_at_call 23; go_must (refine hP.mono ?_); rintro ye w5 ⟨rfl, g5⟩; (have H5 := Lib.hid (show V.grownBy w5 none from g5)); clear g5)
      | (go_at_call 40; go_must (refine (hR _ H5.out).mono ?_); rintro ye w6 ⟨rfl, g6⟩; (have H6 := Lib.hid (show w5.grownBy w6 none from g6)); clear g6))
    all_goals
      go_ret
      exact ⟨by simp, _, (hD0.more (gb_trans H5.out H6.out)).base HX.out.2.2.2.2, by simp⟩
  by_cases e10 : dov = 10
  · subst e10
    obtain ⟨h, -, -, -, GV⟩ := HX.out
    obtain ⟨L, hL, hLl⟩ := h.rr.rep
    have hP := acts_28 (h.rp.gb GV)
    have hR := fun (W : World) (gW : V.grownBy W none) => racts_41 ((h.rr.gb GV).gb gW)
    clear h GV hL
    go_wp2_with (first
      | (go_at_call 28; go_must (refine hP.mono ?_); rintro ye w5 ⟨rfl, g5 ⟩; (have H5 := Lib.hid (show V.grownBy w5 none from (by rw [g5]; exact gb_refl _ _))); clear g5)
      | (go_at_call 41; go_must (refine (hR _ H5.out).mono ?_); rintro ye w6 ⟨rfl, g6⟩; (have H6 := Lib.hid (show w5.grownBy w6 none from (by rw [g6]; exact gb_refl _ _))); clear g6))
    all_goals
      go_ret
      exact ⟨by simp, _, (hD0.more (gb_trans H5.out H6.out)).base HX.out.2.2.2.2, by simp⟩
  by_cases e11 : dov = 11
  · subst e11
    obtain ⟨h, -, -, -, GV⟩ := HX.out
    obtain ⟨L, hL, hLl⟩ := h.rr.rep
    have hP := power_22 (h.rp.gb GV)
    have hR := fun (W : World) (gW : V.grownBy W none) => rpower_42 ((h.rr.gb GV).gb gW)
    clear h GV hL
    go_wp2_with (first
      | (go_at_call 22; go_must (refine hP.mono ?_); rintro ye w5 ⟨rfl, g5 ⟩; (have H5 := Lib.hid (show V.grownBy w5 none from (by rw [g5]; exact gb_refl _ _))); clear g5)
      | (go_at_call 42; go_must (refine (hR _ H5.out).mono ?_); rintro ye w6 ⟨rfl, g6⟩; (have H6 := Lib.hid (show w5.grownBy w6 none from (by rw [g6]; exact gb_refl _ _))); clear g6))
    all_goals
      go_ret
      exact ⟨by simp, _, (hD0.more (gb_trans H5.out H6.out)).base HX.out.2.2.2.2, by simp⟩
  by_cases e12 : dov = 12
  · subst e12
    obtain ⟨t39, T39⟩ := ty39
    have hone := one_flat fltL flt_one P
    have gZ := gb_alloc (gb_refl V none) (.cells #[] 117)
    have s5 := gb_cellN gZ c5
    have hbZ := HX.out.2.2.1.gb gZ
    have hE0 : (V.alloc (.cells #[] 117)).ownsRow 0 117 3 (.slice (some ⟨V.heap.size, 0, none⟩) 0 0) 0 [] := ⟨rfl, .inr ⟨V.heap.size, 0, #[], rfl, Nat.zero_le _, heap_alloc_new _ _, Nat.le_refl _, by unfold maxLen; omega, rfl, rfl⟩⟩
    have hP := fun (W : World) (g cp : Nat) (gW : V.grownBy W none) (hg : V.heap.size ≤ g) (ho : W.ownsRow 0 117 3 (.slice (some ⟨g, 0, none⟩) P.length cp) P.length (P.flatMap fltL)) => plan_43 ((HX.out.1.rp.gb HX.out.2.2.2.2).gb gW) ho (fun b hb => by
      by_cases hc : p.col b = 0
      · exact hc
      · have := (HX.out.1.rp.gb HX.out.2.2.2.2).lt b hc
        simp only [Value.ownBlock, Option.some.injEq] at hb
        omega) hPl2
    have hR := fun (W : World) (D : Dv V W (Both p q) p.d q.d (M.planned P) M) => dv_44 D (HX.out.2.2.1.dv D.kpp) hPl2
    generalize hxs : P.flatMap fltL = xs at *
    have HXS := Lib.hid hxs
    clear hxs
    have BVl := BV.lt
    go_wp2_with (first
      | (at_builtin; go_must (refine copyH T39 rfl _ _ rfl (by rfl) hE0 _ _ (by rfl) hbZ hone (by omega) ?_); intro g7 c7 w7 hown7 hg7 hat7; have G7 : V.grownBy w7 none := gb_mine gZ hg7 (Nat.le_refl _); have hg8 : V.heap.size ≤ g7 := hat7.elim (fun e => by omega) (fun e => by simp at e; omega); (have H7 := Lib.hid G7); clear hg7 hat7 hbZ)
      | (go_at_call 43; go_must (refine (hP _ _ _ G7 hg8 hown7).mono ?_); rintro ye w8 ⟨rfl, p8, hp8, ha8⟩; have D8 := Dv.prog1 (HX.out.1.gb HX.out.2.2.2.2) H7.out hp8 ha8; (have b8x := D8.kpp.box BV hk0); (have k5 : w8.cell? ⟨k, 5, none⟩ = some (.slice pa P.length pc) := b8x.cell 5); (have H8 := Lib.hid D8); clear hp8 ha8 b8x D8 hown7)
      | (go_at_call 44; go_must (refine (hR _ H8.out).mono ?_); rintro ye w9 ⟨rfl, D9, K9⟩; (have H9 := Lib.hid D9); clear D9 K9))
    all_goals
      go_ret
      exact ⟨rfl, _, H9.out.base HX.out.2.2.2.2, by simp [Md.planned]⟩
  by_cases e13 : dov = 13
  · subst e13
    obtain ⟨t40, T40⟩ := ty40
    have hok := HX.out.1.rr.ok
    have hsm : ∀ j, (M.file j).1.length ≤ 1000000000 := fun j => Nat.le_trans (hok.len9 (by omega) j) (by decide)
    have hone : ∀ u ∈ ls.map (Value.int .i64), u.oneCell' = true := by
      intro u hu
      obtain ⟨x, -, rfl⟩ := List.mem_map.1 hu
      rfl
    have gZ : V.grownBy (V.drew.alloc (.cells #[] 3)) none := gb_alloc (gb_drew (gb_refl V none)) _
    have s6 := gb_cellN gZ c6
    have s7 := gb_cellN gZ c7
    have hbZ := HX.out.2.2.2.1.gb gZ
    have hE0 : (V.drew.alloc (.cells #[] 3)).ownsRow 0 3 1 (.slice (some ⟨V.heap.size, 0, none⟩) 0 0) 0 [] := ⟨rfl, .inr ⟨V.heap.size, 0, #[], rfl, Nat.zero_le _, heap_alloc_new _ _, Nat.le_refl _, by unfold maxLen; omega, rfl, rfl⟩⟩
    have hP := fun (W : World) (g cp : Nat) (gW : V.grownBy W none) (hg : V.heap.size ≤ g) (ho : W.ownsRow 0 3 1 (.slice (some ⟨g, 0, none⟩) ls.length cp) ls.length (ls.map (Value.int .i64))) => restart_11 ((HX.out.1.rp.gb HX.out.2.2.2.2).gb gW) ho (fun b hb => by
      by_cases hc : p.col b = 0
      · exact hc
      · have := (HX.out.1.rp.gb HX.out.2.2.2.2).lt b hc
        simp only [Value.ownBlock, Option.some.injEq] at hb
        omega) cnk hsm
    have hR := fun (W : World) (M' : Md) (D : Dv V W (Both p q) p.d q.d M' M) => dv_12 D (HX.out.2.2.2.1.dv D.kpp) cnk hsm
    obtain ⟨M1, hM1⟩ : ∃ M1, M.settle (btw cnk M.ch.length).toNat = M1 := ⟨_, rfl⟩
    have hch : M1.ch = [] := by rw [← hM1]; rfl
    have hfl : M.files.length = M1.files.length := by rw [← hM1]; rfl
    have hac1 : M1.acts = M.acts := by rw [← hM1]; rfl
    rw [hM1] at hP hR
    rw [hfl] at hR
    have HM1 := Lib.hid (And.intro hch hac1)
    clear hM1 hch hfl hac1 hok hsm
    generalize hxs : ls.map (Value.int .i64) = xs at *
    have HXS := Lib.hid hxs
    clear hxs
    have BVl := BV.lt
    go_upto_region 31 with fail
    go_region_held3 (fun w' => w'.cell? ⟨k, 6, none⟩ = some (.slice ca ls.length cc) ∧ w'.cell? ⟨k, 7, none⟩ = some (.int .i64 cnk)) ((first | exact ⟨k6, k7⟩ | exact ⟨r6, r7⟩ | exact ⟨s6, s7⟩ | go_keep)) ((first
      | (refine step_hin T40 (w := V.drew.alloc (.cells #[] 3)) (by rfl) (.tmp 156) (.tmp 159) (by rfl) (.slice (some ⟨V.heap.size, 0, none⟩) 0 0) 0 [] (by rfl) hE0 ls.length (.slice ca ls.length cc) xs (by rfl) hbZ hone (by omega) ?_; intro a7 cx7 w7 hown7 hg7 hat7 hsm7; obtain ⟨g7, rfl⟩ := hsm7 ⟨_, rfl⟩; rw [Nat.zero_add, List.nil_append] at hown7; have hg9 : (V.drew.alloc (.cells #[] 3)).grownBy w7 (some V.heap.size) := hg7; have G7 : V.grownBy w7 none := gb_mine gZ hg9 (Nat.le_refl _); have hg8 : V.heap.size ≤ g7 := own_at7 (W := V.drew.alloc (.cells #[] 3)) (z := V.heap.size) (by simp) hat7; have r6 := gb_cellN G7 c6; have r7 := gb_cellN G7 c7; have H7 := Lib.hid G7; clear hg7 hg9 hat7)
      | (go_at_call 11; go_must (refine (hP _ _ _ G7 hg8 hown7).mono ?_); rintro ye w8 ⟨rfl, p8, S8, hp8, ha8, hS8⟩; have D8 := Dv.prog1 (HX.out.1.gb HX.out.2.2.2.2) H7.out hp8 ha8; (have b8x := D8.kpp.box BV hk0); (have k6 : w8.cell? ⟨k, 6, none⟩ = some (.slice ca ls.length cc) := b8x.cell 6); (have k7 : w8.cell? ⟨k, 7, none⟩ = some (.int .i64 cnk) := b8x.cell 7); (have H8 := Lib.hid (And.intro D8 hS8)); clear hp8 ha8 b8x D8 hown7 hS8)))
    all_goals
      go_wp2_with (go_at_call 12; go_must (refine (hR _ _ H8.out.1).mono ?_); rintro ye w9 ⟨rfl, D9, K9⟩; (have H9 := Lib.hid (D9.swap HM1.out.1 H8.out.2)); clear D9 K9)
      go_ret
      exact ⟨rfl, _, H9.out.base HX.out.2.2.2.2, by show M1.acts ≤ _; rw [HM1.out.2]; simp⟩
  · go_wp2_with fail
    all_goals
      go_ret
      exact ⟨rfl, _, hD0.base HX.out.2.2.2.2, by omega⟩
end Go.Proofs.Ytndjimdegkdljaa

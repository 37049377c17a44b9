import Derived.Test.YtobegepebochkaaGreatDoorZn
import Derived.Test.YtobegepebochkaaGreatDoorUh
import Derived.Deep.LoopGhost
/-
  LineApart.
-/
namespace Go.Proofs.YtobegepebochkaaGreatDoor
open Go.RowKit Go.Maps
set_option linter.unusedVariables false
set_option linter.unusedSimpArgs false

theorem Ss.old {w : World} {B : Nat} {X : Nat → Prop} {v : Value} {q : List Tld} (h : Ss w B X v q) : Ss w B (fun j => w.heap.size ≤ j) v q :=
  ⟨h.row, fun x hx => by
    have hs := h.all x hx
    refine ⟨hs.keys, hs.data, hs.mt, fun j hj e => ?_, fun j hj e => ?_, fun j hj e => ?_, hs.nd⟩
    · have := row_lt hs.keys j hj; omega
    · have := row_lt hs.data j hj; omega
    · have := row_lt hs.mt j hj; omega⟩
/-- Steps told of bytes, to be read behind whatever was written elsewhere. -/
theorem sq_later {w w' : World} {B : Nat} {X : Nat → Prop} {v : Value} {q : List Tld} {lim : Int} {raw : Bs} {F : Fd} (h : Ss w B X v q) (hk : Kp (fun j => w.heap.size ≤ j) w w') (hr : (fd0 lim).run raw = (F, q.map Tld.s)) (hm : lim ≤ 9223372036854775807) (hl : raw.length ≤ 12000) : Sq w' v q := by
  have h1 : Ss w' B (fun j => w.heap.size ≤ j) v q := h.old.kp hk (fun j hj e => by have := row_lt h.row j hj; omega) (fun _ _ e => e) (fun _ _ e => e)
  refine h1.sq (fun x hx => ?_)
  have h1 := dn_run raw (fd0_ok hm) rfl x.s (by rw [hr]; exact List.mem_map_of_mem hx)
  have h2 : (fd0 lim).taken = 0 := rfl
  omega
set_option maxRecDepth 100000 in
set_option maxHeartbeats 4000000 in
theorem apart_12 {w : World} (hE : Er w) {xra xoa xca : Option Addr} {xrc xoc xcc : Nat} {xl : Int} (xm1 : xl ≤ 9223372036854775807) (xm2 : -9223372036854775808 ≤ xl) {xraw : Bs} {xos xcs : List Int} (xhr : Ck w (fun _ => False) (.slice xra xraw.length xrc) xraw) (xho : Ci w (.slice xoa xos.length xoc) xos) (xol : xos.length ≤ 9223372036854775807) (xhc : Ci w (.slice xca xcs.length xcc) xcs) (xcl : xcs.length ≤ 9223372036854775807) {yra yoa yca : Option Addr} {yrc yoc ycc : Nat} {yl : Int} (ym1 : yl ≤ 9223372036854775807) (ym2 : -9223372036854775808 ≤ yl) {yraw : Bs} {yos ycs : List Int} (yhr : Ck w (fun _ => False) (.slice yra yraw.length yrc) yraw) (yho : Ci w (.slice yoa yos.length yoc) yos) (yol : yos.length ≤ 9223372036854775807) (yhc : Ci w (.slice yca ycs.length ycc) ycs) (ycl : ycs.length ≤ 9223372036854775807) :
    Calls Tryz.prog 12 #[.agg #[.slice xra xraw.length xrc, .int .i64 xl, .slice xoa xos.length xoc, .slice xca xcs.length xcc], .agg #[.slice yra yraw.length yrc, .int .i64 yl, .slice yoa yos.length yoc, .slice yca ycs.length ycc]] w fun e w' => e = .returned (.bool true) ∧ w.grownBy w' none := by
  have w3sz : 3 < w.heap.size := by
    obtain ⟨-, c, d, e2⟩ := hE
    exact lt_of_cell e2
  have key0 : ∀ X' : Array Value, Box ((w.alloc (.cells X' 102)).alloc (.cells #[.slice yra yraw.length yrc, .int .i64 yl, .slice yoa yos.length yoc, .slice yca ycs.length ycc] 102)) 102 w.heap.size X' ∧ Box ((w.alloc (.cells X' 102)).alloc (.cells #[.slice yra yraw.length yrc, .int .i64 yl, .slice yoa yos.length yoc, .slice yca ycs.length ycc] 102)) 102 (w.heap.size + 1) #[.slice yra yraw.length yrc, .int .i64 yl, .slice yoa yos.length yoc, .slice yca ycs.length ycc] ∧ w.grownBy ((w.alloc (.cells X' 102)).alloc (.cells #[.slice yra yraw.length yrc, .int .i64 yl, .slice yoa yos.length yoc, .slice yca ycs.length ycc] 102)) none := by
    intro X'
    have h2 := Box.new (w.alloc (.cells X' 102)) 102 #[.slice yra yraw.length yrc, .int .i64 yl, .slice yoa yos.length yoc, .slice yca ycs.length ycc]
    simp only [World.size_alloc] at h2
    exact ⟨(Box.new w 102 X').kept (gb_alloc (gb_refl _ none) _) (by simp), h2, gb_alloc (gb_alloc (gb_refl w none) _) _⟩
  go_enter Tryz.func12, Tryz.ntmps12
  go_upto_if 21 with (fail)
  go_cut [] from 18 to 25 (fun wc => ∃ xa xn xc xr, Box wc 102 w.heap.size #[.slice xa xn xc, .int .i64 xl, .slice xoa xos.length xoc, .slice xca xcs.length xcc] ∧ Box wc 102 (w.heap.size + 1) #[.slice yra yraw.length yrc, .int .i64 yl, .slice yoa yos.length yoc, .slice yca ycs.length ycc] ∧ xn = (xr : Bs).length ∧ Ck w (fun _ => False) (.slice xa xn xc) xr ∧ xr.length ≤ 12000 ∧ w.grownBy wc none)
  case first =>
    by_cases hbig : (12000 : Int) < (xraw.length : Int)
    · have hbd : decide ((12000 : Int) < (xraw.length : Int)) = true := decide_eq_true hbig
      obtain ⟨g, o, c, e, h2, -, -, -⟩ := xhr.by (by omega)
      injection e with e1 _ e2
      subst e1 e2
      have hrc2 : (12000 : Int) ≤ (xrc : Int) := by omega
      go_wp2
      go_meet
      obtain ⟨k1, k2, k3⟩ := key0 #[.slice (some ⟨g, o, none⟩) 12000 xrc, .int .i64 xl, .slice xoa xos.length xoc, .slice xca xcs.length xcc]
      have hlt : (xraw.take 12000).length = 12000 := by rw [List.length_take]; omega
      exact ⟨some ⟨g, o, none⟩, 12000, xrc, xraw.take 12000, k1, k2, hlt.symm, xhr.take 12000 (by omega), by omega, k3⟩
    · have hbd : decide ((12000 : Int) < (xraw.length : Int)) = false := decide_eq_false hbig
      obtain ⟨k1, k2, k3⟩ := key0 #[.slice xra xraw.length xrc, .int .i64 xl, .slice xoa xos.length xoc, .slice xca xcs.length xcc]
      go_wp2
      go_meet
      exact ⟨xra, xraw.length, xrc, xraw, k1, k2, rfl, xhr, by omega, k3⟩
  case rest =>
    obtain ⟨xa, xn, xc, xr, b1, b2, hxn, xk, xlen, g1⟩ := hcut
    have p0 : wc.cell? ⟨w.heap.size + 1, 0, none⟩ = some (.slice yra yraw.length yrc) := b2.cell 0
    have p0f := b2.fz 0
    clear key0 xhr
    go_upto_if 29 with (fail)
    go_cut [] from 26 to 33 (fun wd => ∃ ya yn yc yr, Box wd 102 w.heap.size #[.slice xa xn xc, .int .i64 xl, .slice xoa xos.length xoc, .slice xca xcs.length xcc] ∧ Box wd 102 (w.heap.size + 1) #[.slice ya yn yc, .int .i64 yl, .slice yoa yos.length yoc, .slice yca ycs.length ycc] ∧ yn = (yr : Bs).length ∧ Ck w (fun _ => False) (.slice ya yn yc) yr ∧ yr.length ≤ 12000 ∧ w.grownBy wd none)
    case first =>
      by_cases hbig : (12000 : Int) < (yraw.length : Int)
      · have hbd : decide ((12000 : Int) < (yraw.length : Int)) = true := decide_eq_true hbig
        obtain ⟨g, o, c, e, h2, -, -, -⟩ := yhr.by (by omega)
        injection e with e1 _ e2
        subst e1 e2
        have hrc2 : (12000 : Int) ≤ (yrc : Int) := by omega
        go_wp2
        go_meet
        have g9 : wc.grownBy (wc.setCell ⟨w.heap.size + 1, 0, none⟩ (.slice (some ⟨g, o, none⟩) 12000 yrc)) (some (w.heap.size + 1)) := gb_setCell (gb_refl _ _) _
        have hlt : (yraw.take 12000).length = 12000 := by rw [List.length_take]; omega
        exact ⟨some ⟨g, o, none⟩, 12000, yrc, yraw.take 12000, b1.kept g9 (by simp), b2.set 0 _, hlt.symm, yhr.take 12000 (by omega), by omega, gb_mine g1 g9 (by omega)⟩
      · have hbd : decide ((12000 : Int) < (yraw.length : Int)) = false := decide_eq_false hbig
        go_wp2
        go_meet
        exact ⟨yra, yraw.length, yrc, yraw, b1, b2, rfl, yhr, by omega, g1⟩
    case rest =>
      obtain ⟨ya, yn, yc, yr, c1, c2, hyn, yk, ylen, g2⟩ := hcut
      subst hxn hyn
      have lift : ∀ {W : World} {v : Value} {l : Bs}, Ck w (fun _ => False) v l → w.grownBy W none → Ck W (fun _ => False) v l := fun h hg => h.kp (Kp.of (F := fun _ => False) hg) (fun _ _ h => h.elim) (fun _ _ h => h.elim)
      have hEd := hE.kept g2
      have f1 := fed_53 (oa := xoa) (on := xos.length) (oc := xoc) (ca := xca) (cn := xcs.length) (cc := xcc) hEd xm1 xm2 (lift xk g2) xlen (xho.kept g2) xol
      have x0 : wc.cell? ⟨w.heap.size, 0, none⟩ = some (.slice xa xr.length xc) := c1.cell 0
      have x1 : wc.cell? ⟨w.heap.size, 1, none⟩ = some (.int .i64 xl) := c1.cell 1
      have x2 : wc.cell? ⟨w.heap.size, 2, none⟩ = some (.slice xoa xos.length xoc) := c1.cell 2
      have x3 : wc.cell? ⟨w.heap.size, 3, none⟩ = some (.slice xca xcs.length xcc) := c1.cell 3
      have y0 : wc.cell? ⟨w.heap.size + 1, 0, none⟩ = some (.slice ya yr.length yc) := c2.cell 0
      have y1 : wc.cell? ⟨w.heap.size + 1, 1, none⟩ = some (.int .i64 yl) := c2.cell 1
      have y2 : wc.cell? ⟨w.heap.size + 1, 2, none⟩ = some (.slice yoa yos.length yoc) := c2.cell 2
      have y3 : wc.cell? ⟨w.heap.size + 1, 3, none⟩ = some (.slice yca ycs.length ycc) := c2.cell 3
      have hwl := c1.lt
      clear b1 b2 c1 c2 p0 p0f g1 yhr
      go_upto_region 6 with (go_at_call 53; go_must ((with_reducible refine f1.mono ?_); rintro e w1 ⟨fb8, hb8, rv1, q1, hs1, G1, kv8, rfl, R1⟩))
      have gA := gb_trans g2 R1.gb
      have f2 := fed_53 (oa := yoa) (on := yos.length) (oc := yoc) (ca := yca) (cn := ycs.length) (cc := ycc) R1.er ym1 ym2 (lift yk gA) ylen (yho.kept gA) yol
      replace x0 := gb_cellN R1.gb x0
      replace x1 := gb_cellN R1.gb x1
      replace x3 := gb_cellN R1.gb x3
      replace y0 := gb_cellN R1.gb y0
      replace y1 := gb_cellN R1.gb y1
      replace y2 := gb_cellN R1.gb y2
      replace y3 := gb_cellN R1.gb y3
      clear f1 x2
      go_upto_region 7 with (go_at_call 53; go_must ((with_reducible refine f2.mono ?_); rintro e w2 ⟨fb9, hb9, rv2, q2, hs2, G2, kv9, rfl, R2⟩))
      replace x0 := gb_cellN R2.gb x0
      replace x1 := gb_cellN R2.gb x1
      replace x3 := gb_cellN R2.gb x3
      replace y0 := gb_cellN R2.gb y0
      replace y1 := gb_cellN R2.gb y1
      replace y3 := gb_cellN R2.gb y3
      clear f2 y2
      have h41x := new_41 w2 xl xm1 xm2
      go_upto_region 8 with (go_at_call 41; go_must ((with_reducible refine h41x.mono ?_); rintro e w4 ⟨rfl, i4, g4⟩))
      replace x0 := gb_cellN g4 x0
      replace x3 := gb_cellN g4 x3
      replace y0 := gb_cellN g4 y0
      replace y1 := gb_cellN g4 y1
      replace y3 := gb_cellN g4 y3
      clear h41x x1
      have h41y := new_41 w4 yl ym1 ym2
      obtain ⟨fb1, hfb1⟩ : ∃ fb1, w2.heap.size = fb1 := ⟨_, rfl⟩
      obtain ⟨fb2, hfb2⟩ : ∃ fb2, w4.heap.size = fb2 := ⟨_, rfl⟩
      rw [hfb1] at i4 ⊢
      rw [hfb2] at h41y
      have hlt4 : fb1 < fb2 := by
        obtain ⟨_, _, _, _, _, hx, -, -⟩ := i4
        rw [← hfb2]; exact hx.box.lt
      have hfw : w.heap.size < fb1 := by rw [← hfb1]; have := R1.gb.size; have := R2.gb.size; omega
      have hfw2 : w2.heap.size ≤ fb1 := by omega
      clear hfb1 hfb2
      go_upto_region 11 with (go_at_call 41; go_must ((with_reducible refine h41y.mono ?_); rintro e w5 ⟨rfl, i5, g5⟩))
      replace x0 := gb_cellN g5 x0
      replace x3 := gb_cellN g5 x3
      replace y0 := gb_cellN g5 y0
      replace y3 := gb_cellN g5 y3
      have hlt5 : fb2 < w5.heap.size := by
        obtain ⟨_, _, _, _, _, hx, -, -⟩ := i5
        exact hx.box.lt
      have gB := gb_trans (gb_trans (gb_trans gA R2.gb) g4) g5
      have h49 := pieces_49 (lift xk gB) (xhc.kept gB) (by omega) xcl
      have hfx : (pcs xr xcs).flatten = xr := pcsF_flat _ _ _
      have hpx : (pcs xr xcs).length ≤ 401 := pcsF_len _ _ _
      generalize pcs xr xcs = ps at h49 hfx hpx
      clear h41y y1
      go_upto_region 12 with (go_at_call 49; go_must ((with_reducible refine h49.mono ?_); rintro e w6 ⟨pv, vs, rfl, pr, pp, g6⟩; (obtain ⟨pa, pc, rfl, -, -, -, -⟩ := row_shape pr)))
      replace y0 := gb_cellN g6 y0
      replace y3 := gb_cellN g6 y3
      have gC := gb_trans gB g6
      have h49y := pieces_49 (lift yk gC) (yhc.kept gC) (by omega) ycl
      have hfy : (pcs yr ycs).flatten = yr := pcsF_flat _ _ _
      have hpy : (pcs yr ycs).length ≤ 401 := pcsF_len _ _ _
      generalize pcs yr ycs = qs at h49y hfy hpy
      have P6 : PcR w6 w5.heap.size (.slice pa ps.length pc) vs ps := ⟨pr, pp⟩
      have hw6 := g6.size
      clear h49 x0 x3 pr pp
      go_upto_region 14 with (go_at_call 49; go_must ((with_reducible refine h49y.mono ?_); rintro e w7 ⟨qv, us, rfl, qr, qq, g7⟩; (obtain ⟨qa, qc0, rfl, -, -, -, -⟩ := row_shape qr)))
      have P7 := P6.kept0 g7
      have Q7 : PcR w7 w6.heap.size (.slice qa qs.length qc0) us qs := ⟨qr, qq⟩
      have hw7 := g7.size
      have gD := gb_trans gC g7
      have hE7 : Er w7 := ((((R2.er.kept g4).kept g5).kept g6).kept g7)
      have hI0 : ApI w7 fb1 fb2 xl yl ps qs 0 0 (fd0 xl) (fd0 yl) (.slice none 0 0) (.slice none 0 0) (.slice none 0 0) (.slice none 0 0) [] [] w7 :=
        ⟨((i4.kept0 g5).kept0 g6).kept0 g7, (i5.kept0 g6).kept0 g7, fd0_ok xm1, fd0_ok ym1, fun j hj => by simp [Value.ownBlock] at hj, fun j hj => by simp [Value.ownBlock] at hj, fun j hj => by simp [Value.ownBlock] at hj, rfl, rfl, Ss.nil _ _ _, Ss.nil _ _ _, fun j hj => by simp [Value.ownBlock] at hj, Kp.refl _ _, hE7⟩
      have hflx : ps.flatten.length ≤ 12000 := by rw [hfx]; exact xlen
      have hfly : qs.flatten.length ≤ 12000 := by rw [hfy]; exact ylen
      have gE := gb_trans (gb_trans (gb_trans g4 g5) g6) g7
      have gF := gb_trans R2.gb gE
      clear y0 y3 h49y qr qq P6 i4 i5 hE7 lift
      obtain ⟨M, hM⟩ : ∃ M, max ps.length qs.length = M := ⟨_, rfl⟩
      have hM1 : ps.length ≤ M := by omega
      have hM2 : qs.length ≤ M := by omega
      have hM3 : M ≤ ps.length ∨ M ≤ qs.length := by omega
      have hne : fb1 ≠ fb2 := by omega
      have h3 : 3 < fb1 ∧ 3 < fb2 ∧ 3 < w7.heap.size := ⟨by omega, by omega, by omega⟩
      have hlt : fb1 < w7.heap.size ∧ fb2 < w7.heap.size := ⟨by omega, by omega⟩
      clear hM
      go_wp2
      go_loopg [15, 16, 17] M (fun gk x15 x16 x17 wr => ∃ k F1 F2 kv1 kv2 qc qd, gk + k = M ∧ x17 = .int .i64 ((k : Nat) : Int) ∧ ApI w7 fb1 fb2 xl yl ps qs k k F1 F2 kv1 kv2 x15 x16 qc qd wr)
      case atStart => exact ⟨0, fd0 xl, fd0 yl, _, _, [], [], by omega, rfl, hI0⟩
      case round =>
        clear hI0
        obtain ⟨k, F1, F2, kv1, kv2, qc, qd, hgk, rfl, hI⟩ := hrel
        obtain ⟨e1a, e1c, erv1, -, -, -, -⟩ := row_shape hI.s1.row
        obtain ⟨e2a, e2c, erv2, -, -, -, -⟩ := row_shape hI.s2.row
        subst erv1 erv2
        have u5 : IntKind.i64.wrap ((k : Int) + 1) = (k : Int) + 1 := by rw [IntKind.wrap_i64]; omega
        by_cases hkx : k < ps.length
        · have dx : decide (k < ps.length) = true := decide_eq_true hkx
          have hgk1 : gk - 1 < gk := by omega
          have hgk2 : gk - 1 + (k + 1) = M := by omega
          by_cases hky : k < qs.length
          · have dy : decide (k < qs.length) = true := decide_eq_true hky
            obtain ⟨pg, xa9, xc9, p, epa, hp, hcell, prow⟩ := P7.at (fb1 := fb1) (fb2 := fb2) ⟨by omega, by omega⟩ hkx
            subst epa
            have d0 := hcell wr hI.kp
            have hq1 := hI.tk.2
            have hpl1 : p.length ≤ 12000 := by have := flat_le ps (k + 1); rw [flat_take hp, List.length_append] at this; omega
            have hc1 := hI.calls1 h3 (B := w5.heap.size) ⟨by omega, by omega⟩ hflx hp prow
            have hf1 := fun {w4 w5 kv' rv2 v' q2} => hI.feed1 (w4 := w4) (w5 := w5) (kv' := kv') (rv2 := rv2) (v' := v') (q2 := q2) hne h3 hlt hp
            have ss1 := hI.s1
            have ii1 := hI.i1
            have sz1 := hI.kp.size
            have rl1 := run_len p F1
            clear hI hcell prow
            go_upto_region 19 with (first | (go_at_call 45; go_must ((with_reducible refine hc1.mono ?_); rintro e w8 ⟨rv8, kv8', q8, rfl, i8, s8, e8, k8, o8, n8, m8⟩; (obtain ⟨la, lc, rfl, -, -, -, -⟩ := row_shape s8.row); (have row4 := (ss1.other ii1 (fun j e => Or.inl e) k8 (Y := fun _ => False) (fun _ _ e => e.elim)).row); (have one4 := one_all s8.all); (have hq3 : q8.length ≤ p.length := by (have := congrArg List.length e8; simp at this; omega)); (have hw34 : w7.heap.size ≤ w8.heap.size := Nat.le_trans sz1 k8.size))) | (at_builtin; go_must (refine more86b rfl _ _ rfl w7.heap.size _ qc.length _ (by rfl) row4 _ _ q8.length _ (by rfl) s8.row (fun e => m8 (List.length_eq_zero_iff.1 e)) one4 (by omega) hw34 ?_); intro v9 w9 r9 g9 b9; (obtain ⟨va, vc, rfl, -, -, -, -⟩ := row_shape r9)))
            have hJ := hf1 i8 s8 e8 k8 o8 n8 r9 g9 b9
            clear hf1 i8 s8 e8 k8 o8 n8 m8 r9 g9 b9 hc1 row4 one4 ss1 ii1 d0
            obtain ⟨qg, ya9, yc9, p2, eqa, hp2, hcell2, prow2⟩ := Q7.at (fb1 := fb1) (fb2 := fb2) ⟨by omega, by omega⟩ hky
            subst eqa
            have d2 := hcell2 w9 hJ.kp
            have hS := hJ.swap
            have hq2 := hS.tk.2
            have hpl2 : p2.length ≤ 12000 := by have := flat_le qs (k + 1); rw [flat_take hp2, List.length_append] at this; omega
            have hc2 := hS.calls1 ⟨h3.2.1, h3.1, h3.2.2⟩ (B := w6.heap.size) ⟨by omega, by omega⟩ hfly hp2 prow2
            have hf2 := fun {w4 w5 kv' rv2 v' q2} => hS.feed1 (w4 := w4) (w5 := w5) (kv' := kv') (rv2 := rv2) (v' := v') (q2 := q2) (fun e => hne e.symm) ⟨h3.2.1, h3.1, h3.2.2⟩ ⟨hlt.2, hlt.1⟩ hp2
            have ss2 := hS.s1
            have ii2 := hS.i1
            have sz2 := hS.kp.size
            have rl2 := run_len p2 F2
            clear hJ hS hcell2 prow2
            go_upto_region 16 with (first | (go_at_call 45; go_must ((with_reducible refine hc2.mono ?_); rintro e w10 ⟨rv10, kv10', q10, rfl, i10, s10, e10, k10, o10, n10, m10⟩; (obtain ⟨la2, lc2, rfl, -, -, -, -⟩ := row_shape s10.row); (have row5 := (ss2.other ii2 (fun j e => Or.inl e) k10 (Y := fun _ => False) (fun _ _ e => e.elim)).row); (have one5 := one_all s10.all); (have hq5 : q10.length ≤ p2.length := by (have := congrArg List.length e10; simp at this; omega)); (have hw35 : w7.heap.size ≤ w10.heap.size := Nat.le_trans sz2 k10.size))) | (at_builtin; go_must (refine more86b rfl _ _ rfl w7.heap.size _ qd.length _ (by rfl) row5 _ _ q10.length _ (by rfl) s10.row (fun e => m10 (List.length_eq_zero_iff.1 e)) one5 (by omega) hw35 ?_); intro v11 w11 r11 g11 b11; (obtain ⟨va2, vc2, rfl, -, -, -, -⟩ := row_shape r11)))
            have hL := (hf2 i10 s10 e10 k10 o10 n10 r11 g11 b11).swap
            clear hf2 i10 s10 e10 k10 o10 n10 m10 r11 g11 b11 hc2 row5 one5 ss2 ii2 d2
            go_wp2
            go_roundg (gk - 1)
            case measure => exact hgk1
            case rel => exact ⟨k + 1, _, _, _, _, _, _, hgk2, by simp, hL⟩
          · have dy : decide (k < qs.length) = false := decide_eq_false hky
            obtain ⟨pg, xa9, xc9, p, epa, hp, hcell, prow⟩ := P7.at (fb1 := fb1) (fb2 := fb2) ⟨by omega, by omega⟩ hkx
            subst epa
            have d0 := hcell wr hI.kp
            have hq1 := hI.tk.2
            have hpl1 : p.length ≤ 12000 := by have := flat_le ps (k + 1); rw [flat_take hp, List.length_append] at this; omega
            have hc1 := hI.calls1 h3 (B := w5.heap.size) ⟨by omega, by omega⟩ hflx hp prow
            have hf1 := fun {w4 w5 kv' rv2 v' q2} => hI.feed1 (w4 := w4) (w5 := w5) (kv' := kv') (rv2 := rv2) (v' := v') (q2 := q2) hne h3 hlt hp
            have ss1 := hI.s1
            have ii1 := hI.i1
            have sz1 := hI.kp.size
            have rl1 := run_len p F1
            clear hI hcell prow
            go_upto_region 19 with (first | (go_at_call 45; go_must ((with_reducible refine hc1.mono ?_); rintro e w8 ⟨rv8, kv8', q8, rfl, i8, s8, e8, k8, o8, n8, m8⟩; (obtain ⟨la, lc, rfl, -, -, -, -⟩ := row_shape s8.row); (have row4 := (ss1.other ii1 (fun j e => Or.inl e) k8 (Y := fun _ => False) (fun _ _ e => e.elim)).row); (have one4 := one_all s8.all); (have hq3 : q8.length ≤ p.length := by (have := congrArg List.length e8; simp at this; omega)); (have hw34 : w7.heap.size ≤ w8.heap.size := Nat.le_trans sz1 k8.size))) | (at_builtin; go_must (refine more86b rfl _ _ rfl w7.heap.size _ qc.length _ (by rfl) row4 _ _ q8.length _ (by rfl) s8.row (fun e => m8 (List.length_eq_zero_iff.1 e)) one4 (by omega) hw34 ?_); intro v9 w9 r9 g9 b9; (obtain ⟨va, vc, rfl, -, -, -, -⟩ := row_shape r9)))
            have hJ := hf1 i8 s8 e8 k8 o8 n8 r9 g9 b9
            clear hf1 i8 s8 e8 k8 o8 n8 m8 r9 g9 b9 hc1 row4 one4 ss1 ii1 d0
            have hL := (hJ.swap.past1 (by omega)).swap
            clear hJ
            go_wp2
            go_roundg (gk - 1)
            case measure => exact hgk1
            case rel => exact ⟨k + 1, _, _, _, _, _, _, hgk2, by simp, hL⟩
        · have dx : decide (k < ps.length) = false := decide_eq_false hkx
          by_cases hky : k < qs.length
          · have dy : decide (k < qs.length) = true := decide_eq_true hky
            have hgk1 : gk - 1 < gk := by omega
            have hgk2 : gk - 1 + (k + 1) = M := by omega
            obtain ⟨qg, ya9, yc9, p2, eqa, hp2, hcell2, prow2⟩ := Q7.at (fb1 := fb1) (fb2 := fb2) ⟨by omega, by omega⟩ hky
            subst eqa
            have d2 := hcell2 wr hI.kp
            have hS := hI.swap
            have hq2 := hS.tk.2
            have hpl2 : p2.length ≤ 12000 := by have := flat_le qs (k + 1); rw [flat_take hp2, List.length_append] at this; omega
            have hc2 := hS.calls1 ⟨h3.2.1, h3.1, h3.2.2⟩ (B := w6.heap.size) ⟨by omega, by omega⟩ hfly hp2 prow2
            have hf2 := fun {w4 w5 kv' rv2 v' q2} => hS.feed1 (w4 := w4) (w5 := w5) (kv' := kv') (rv2 := rv2) (v' := v') (q2 := q2) (fun e => hne e.symm) ⟨h3.2.1, h3.1, h3.2.2⟩ ⟨hlt.2, hlt.1⟩ hp2
            have ss2 := hS.s1
            have ii2 := hS.i1
            have sz2 := hS.kp.size
            have rl2 := run_len p2 F2
            clear hI hS hcell2 prow2
            go_upto_region 16 with (first | (go_at_call 45; go_must ((with_reducible refine hc2.mono ?_); rintro e w10 ⟨rv10, kv10', q10, rfl, i10, s10, e10, k10, o10, n10, m10⟩; (obtain ⟨la2, lc2, rfl, -, -, -, -⟩ := row_shape s10.row); (have row5 := (ss2.other ii2 (fun j e => Or.inl e) k10 (Y := fun _ => False) (fun _ _ e => e.elim)).row); (have one5 := one_all s10.all); (have hq5 : q10.length ≤ p2.length := by (have := congrArg List.length e10; simp at this; omega)); (have hw35 : w7.heap.size ≤ w10.heap.size := Nat.le_trans sz2 k10.size))) | (at_builtin; go_must (refine more86b rfl _ _ rfl w7.heap.size _ qd.length _ (by rfl) row5 _ _ q10.length _ (by rfl) s10.row (fun e => m10 (List.length_eq_zero_iff.1 e)) one5 (by omega) hw35 ?_); intro v11 w11 r11 g11 b11; (obtain ⟨va2, vc2, rfl, -, -, -, -⟩ := row_shape r11)))
            have hL := (hf2 i10 s10 e10 k10 o10 n10 r11 g11 b11).swap
            clear hf2 i10 s10 e10 k10 o10 n10 m10 r11 g11 b11 hc2 row5 one5 ss2 ii2 d2
            have hL2 := hL.past1 (by omega)
            clear hL
            go_wp2
            go_roundg (gk - 1)
            case measure => exact hgk1
            case rel => exact ⟨k + 1, _, _, _, _, _, _, hgk2, by simp, hL2⟩
          · have dy : decide (k < qs.length) = false := decide_eq_false hky
            have hw2f : w2.heap.size ≤ fb1 := hfw2
            have run1 := hI.run1
            have run2 := hI.run2
            rw [List.take_of_length_le (by omega), hfx] at run1
            rw [List.take_of_length_le (by omega), hfy] at run2
            have K2 : Kp (fun j => w2.heap.size ≤ j) w2 wr := (Kp.of (F := fun j => w2.heap.size ≤ j) gE).trans hI.kp (fun i h => h) (fun i h => by
              left
              have := gE.size
              rcases h with e | e | e <;> omega)
            have sA := sq_later (ss_kept0 R1.ss R2.gb) K2 R1.run xm1 xlen
            have sB := sq_later R2.ss K2 R2.run ym1 ylen
            have sC : Sq wr (.slice e1a qc.length e1c) qc := hI.s1.sq (fun x hx => by
              have h1 := dn_run xr (fd0_ok xm1) rfl x.s (by rw [run1]; exact List.mem_map_of_mem hx)
              have h2 : (fd0 xl).taken = 0 := rfl
              omega)
            have sD : Sq wr (.slice e2a qd.length e2c) qd := hI.s2.sq (fun x hx => by
              have h1 := dn_run yr (fd0_ok ym1) rfl x.s (by rw [run2]; exact List.mem_map_of_mem hx)
              have h2 : (fd0 yl).taken = 0 := rfl
              omega)
            obtain ⟨v1a, v1c, ev1, -⟩ := row_shape R1.ss.row
            obtain ⟨v2a, v2c, ev2, -⟩ := row_shape R2.ss.row
            subst ev1 ev2
            have eA : q1.map Tld.s = qc.map Tld.s := by
              have h1 := R1.run
              rw [run1] at h1
              injection h1 with _ h1
              exact h1.symm
            have eB : q2.map Tld.s = qd.map Tld.s := by
              have h1 := R2.run
              rw [run2] at h1
              injection h1 with _ h1
              exact h1.symm
            have hA := samesteps_28 sA sC eA
            have hB := fun W (hg : wr.grownBy W none) => samesteps_28 (sB.kept0 hg) (sD.kept0 hg) eB
            have hWk := fun W (hg : wr.grownBy W none) => wakes_48 (hI.er.kept hg)
            have hfin : ∀ W, wr.grownBy W none → w.grownBy W none := by
              intro W hg
              exact (((Kp.of (F := fun j => w.heap.size ≤ j) (gb_trans gA R2.gb)).trans K2 (fun i h => h) (fun i h => by
                left
                have := gA.size
                have := R2.gb.size
                omega)).trans (Kp.of (F := fun _ => False) hg) (fun i h => h) (fun i h => h.elim)).grown (fun i h => h)
            clear hI R1 R2 K2 sA sB sC sD eA eB run1 run2 P7 Q7
            go_wp2_with (first | (go_at_call 28; first | (with_reducible refine hA.mono ?_; rintro e w10 ⟨rfl, g10⟩) | (with_reducible refine (hB _ g10).mono ?_; rintro e w11 ⟨rfl, g11⟩)) | (go_at_call 48; go_must ((with_reducible refine (hWk _ (gb_trans g10 g11)).mono ?_); rintro e w12 ⟨rfl, g12⟩)))
            go_ret
            exact ⟨rfl, hfin _ (gb_trans (gb_trans g10 g11) g12)⟩
end Go.Proofs.YtobegepebochkaaGreatDoor

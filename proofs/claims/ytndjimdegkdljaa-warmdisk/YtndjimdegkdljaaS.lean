import Derived.Test.YtndjimdegkdljaaR
import Derived.Deep.CutBlock
/-
  The document's act, on which a fault bears.
-/
namespace Go.Proofs.Ytndjimdegkdljaa
open Go.RowKit Go.MapKept
set_option linter.unusedVariables false
set_option linter.unusedSimpArgs false
attribute [local go_sem] Oper.semAt_some

/-- What the document's call tells. -/
def fltO (call s : Bs) (c : Int) : Value := if c = 0 then .agg #[sv [], sv [], .int .i64 0] else .agg #[sv call, sv s, .int .i64 c]
def callN (kd : Int) : Bs := if kd = 0 then [99, 114, 101, 97, 116, 101] else if kd = 1 then [97, 112, 112, 101, 110, 100] else if kd = 2 then [115, 121, 110, 99] else if kd = 3 then [114, 101, 110, 97, 109, 101] else if kd = 4 then [114, 101, 109, 111, 118, 101] else [115, 121, 110, 99, 110, 97, 109, 101, 115]
theorem call_81 (kd : Int) (h0 : 0 ≤ kd) (h5 : kd ≤ 5) (w : World) : Calls Try.prog 81 #[.int .i64 kd] w fun e w' => e = .returned (sv (callN kd)) ∧ w.grownBy w' none := by
  have hk : kd = 0 ∨ kd = 1 ∨ kd = 2 ∨ kd = 3 ∨ kd = 4 ∨ kd = 5 := by omega
  rcases hk with rfl | rfl | rfl | rfl | rfl | rfl
  all_goals
    go_enter Try.func81, Try.ntmps81
    go_wp2
    go_ret
    exact ⟨rfl, gb_alloc (gb_refl _ _) _⟩
/-- Only the disk's box was written. -/
theorem RR.turn {w w' : World} {p : Rl} {M M' : Md} (h : RR w p M) (hb : Box w' 80 p.d (dkR p M')) (hg : Kp (fun b => b = p.d) w w') (e1 : M'.safe = M.safe) (e2 : M'.ch = M.ch) (e3 : M'.files = M.files) (e4 : M'.plan = M.plan) (e5 : M.acts ≤ M'.acts) (ok : M'.Ok) : RR w' p M' := by
  have hk : ∀ b, p.col b ≠ 0 → b ≠ p.d → w'.heap[b]? = w.heap[b]? := fun b hb hn => hg.block b (h.lt b hb) hn
  have nd : ∀ b, p.col b ≠ 1 → b ≠ p.d := fun b hb e => hb (by rw [e, h.cd])
  have ef : ∀ k, M'.file k = M.file k := fun k => by unfold Md.file; rw [e3]
  have el : flsL p M' = flsL p M := by funext k; simp only [flsL, ef]
  exact {
    box := hb
    fl := by rw [e3, el]; exact row_same h.fl (fun b hb => hk b (by rw [h.cf b hb]; decide) (nd _ (by rw [h.cf b hb]; decide)))
    fr := fun k hl => by rw [e3] at hl; rw [ef]; exact row_same (h.fr k hl) (fun b hb => hk b (by rw [h.cr k b hl hb]; omega) (nd _ (by rw [h.cr k b hl hb]; omega)))
    sf := by
      obtain ⟨L, a1, a2, a3⟩ := h.sf
      exact ⟨L, row_same a1 (fun b hb => hk b (by rw [h.cs b hb]; decide) (nd _ (by rw [h.cs b hb]; decide))), by rw [e1]; exact a2, by rw [e2]; omega⟩
    ch := by rw [e2]; exact row_same h.ch (fun b hb => hk b (by rw [h.cc b hb]; decide) (nd _ (by rw [h.cc b hb]; decide)))
    pl := by
      obtain ⟨P, a1, a2, a3⟩ := h.pl
      exact ⟨P, row_same a1 (fun b hb => hk b (by rw [h.cp b hb]; decide) (nd _ (by rw [h.cp b hb]; decide))), a2, by rw [e4]; exact a3⟩
    cd := h.cd
    cf := h.cf
    cs := h.cs
    cc := h.cc
    cp := h.cp
    cr := fun k b hl => by rw [e3] at hl; exact h.cr k b hl
    lt := fun b hb => Nat.lt_of_lt_of_le (h.lt b hb) hg.size
    ok := ok }
theorem RR.down {w : World} {p : Rl} {M : Md} (h : RR w p M) : RR (w.setCell ⟨p.d, 6, none⟩ (.bool true)) p M.down ∧ Afr w (w.setCell ⟨p.d, 6, none⟩ (.bool true)) p p := by
  have hk : Kp (fun b => b = p.d) w (w.setCell ⟨p.d, 6, none⟩ (.bool true)) := (Kp.refl _ w).step (gb_setCell (gb_refl w (some p.d)) _) (fun i hi => .inl (Option.some.inj hi).symm)
  refine ⟨h.turn (h.box.set 6 _) hk rfl rfl rfl rfl (Nat.le_refl _) h.ok.down, hk.mono (fun b hb => .inl ?_), rfl, fun _ _ h => h⟩
  rw [hb, h.cd]; decide
theorem Afr.kp1 {w w' : World} {p : Rl} {M : Md} (h : RR w p M) (hk : Kp (fun b => b = p.d) w w') : Afr w w' p p :=
  ⟨hk.mono (fun b hb => .inl (by rw [hb, h.cd]; decide)), rfl, fun _ _ h => h⟩
set_option maxRecDepth 100000 in
set_option maxHeartbeats 8000000 in
/-- The first half: the act is counted, its fault found. -/
theorem act_54 {w : World} {r : Rl} {M M2 : Md} (h : RR w r M) (ha : M.acts < 100000) (kd : Int) (h0 : 0 ≤ kd) (h5 : kd ≤ 5) (h1 : kd ≠ 1) (s nw : Bs) (pb : Value) (c : Int)
    (hdo : ∀ W, Kp (fun b => b = r.d) w W → RR W r M.act1 → Slk W r M.act1 → Calls Try.prog 80 #[pv r.d, .int .i64 kd, sv s, sv nw, pb] W fun e w' => e = .returned (.int .i64 c) ∧ ∃ r', RR w' r' M2 ∧ Afr W w' r r') :
    Calls Try.prog 54 #[pv r.d, .int .i64 kd, sv s, sv nw, pb] w fun e w' => e = .returned (fltO (callN kd) s (actR M (c, M2)).1) ∧ ∃ r', RR w' r' (actR M (c, M2)).2 ∧ Afr w w' r r' := by
  obtain ⟨P, hP, hPl, hPf⟩ := h.pl
  have hbx := h.box
  have c4 : w.cell? ⟨r.d, 4, none⟩ = some (.int .i64 (M.acts : Int)) := hbx.cell 4
  have f4 : w.frozen? ⟨r.d, 4, none⟩ = false := hbx.fz 4
  have hlt := hbx.lt
  have hn1 : ¬ r.d = w.heap.size := by omega
  have hn2 : ¬ w.heap.size = r.d := by omega
  have hw1 : IntKind.i64.wrap ((M.acts : Int) + 1) = (M.acts : Int) + 1 := by rw [IntKind.wrap_i64]; omega
  have HR := Lib.hid h
  have HDO := Lib.hid hdo
  obtain ⟨f, hf⟩ : ∃ f, fvo (M.plan ((M.acts + 1 : Nat) : Int)) = f := ⟨_, rfl⟩
  have hPf' : fvo (P.find? (fun f => f.step = ((M.acts + 1 : Nat) : Int))) = f := by rw [← hPf]; exact hf
  unfold actR
  rw [hf]
  simp only
  obtain ⟨W, hW⟩ : ∃ W, ((w.setCell ⟨r.d, 4, none⟩ (.int .i64 ((M.acts : Int) + 1))).alloc (.cells #[sv [], sv [], .int .i64 0] 34)).alloc (.cells #[.int .i64 0, .int .i64 0, .int .i64 0] 117) = W := ⟨_, rfl⟩
  have HB : Hid (RR W r M.act1 ∧ Kp (fun b => b = r.d) w W ∧ Slk W r M.act1 ∧ Box W 34 w.heap.size #[sv [], sv [], .int .i64 0] ∧ Box W 117 (w.heap.size + 1) #[.int .i64 0, .int .i64 0, .int .i64 0] ∧ W.ownsRow 0 117 3 r.pl P.length (P.flatMap fltL)) := by
    subst hW
    have g1 : w.grownBy (w.setCell ⟨r.d, 4, none⟩ (.int .i64 ((M.acts : Int) + 1))) (some r.d) := gb_setCell (gb_refl _ _) _
    have g2 := gb_alloc g1 (.cells #[sv [], sv [], .int .i64 0] 34)
    have g3 := gb_alloc g2 (.cells #[.int .i64 0, .int .i64 0, .int .i64 0] 117)
    have hk : Kp (fun b => b = r.d) w _ := (Kp.refl _ w).step g3 (fun i hi => .inl (Option.some.inj hi).symm)
    have zz : (w.setCell ⟨r.d, 4, none⟩ (.int .i64 ((M.acts : Int) + 1))).heap.size = w.heap.size := by simp
    have B0 := Box.new (w.setCell ⟨r.d, 4, none⟩ (.int .i64 ((M.acts : Int) + 1))) 34 #[sv [], sv [], .int .i64 0]
    rw [zz] at B0
    have B1 := Box.new ((w.setCell ⟨r.d, 4, none⟩ (.int .i64 ((M.acts : Int) + 1))).alloc (.cells #[sv [], sv [], .int .i64 0] 34)) 117 #[.int .i64 0, .int .i64 0, .int .i64 0]
    rw [show ((w.setCell ⟨r.d, 4, none⟩ (.int .i64 ((M.acts : Int) + 1))).alloc (.cells #[sv [], sv [], .int .i64 0] 34)).heap.size = w.heap.size + 1 by simp] at B1
    refine ⟨h.turn (((hbx.set 4 _).kept (gb_alloc (gb_refl _ none) _) (by simp)).kept (gb_alloc (gb_refl _ none) _) (by simp)) hk rfl rfl rfl rfl (Nat.le_succ _) (h.ok.act ha), hk, ?_, B0.kept (gb_alloc (gb_refl _ none) _) (by simp), B1, ?_⟩
    · obtain ⟨L, a1, a2, a3⟩ := h.sf
      exact ⟨L, row_kept a1 g3 (fun k hk e => by have := h.cs k hk; rw [Option.some.inj e, h.cd] at this; omega), a2, Nat.lt_succ_of_le a3⟩
    · exact row_kept hP g3 (fun k hk e => by have := h.cp k hk; rw [Option.some.inj e, h.cd] at this; omega)
  obtain ⟨pao, pcp, ep, -, -, -, hppos⟩ := row_shape hP
  have HP := Lib.hid (And.intro hPf' ep)
  obtain ⟨np, hnp⟩ : ∃ np, P.length = np := ⟨_, rfl⟩
  have HNP := Lib.hid hnp
  rw [hnp] at hppos hPl
  have hW' : ((w.setCell ⟨r.d, 4, none⟩ (.int .i64 ((M.acts : Int) + 1))).alloc (.cells #[.string ⟨#[]⟩, .string ⟨#[]⟩, .int .i64 0] 34)).alloc (.cells #[.int .i64 0, .int .i64 0, .int .i64 0] 117) = W := hW
  have HW := Lib.hid hW'
  clear h hdo hP hPf hbx hf hPf' ep hnp hW hW'
  go_enter Try.func54, Try.ntmps54
  go_upto_region 3 with fail
  rw [HW.out]
  clear c4 f4 HW
  obtain ⟨A, hA⟩ : ∃ A : Int, ((M.acts + 1 : Nat) : Int) = A := ⟨_, rfl⟩
  have e4 : W.cell? ⟨r.d, 4, none⟩ = some (.int .i64 A) := by rw [← hA]; exact HB.out.1.box.cell 4
  have e5 : W.cell? ⟨r.d, 5, none⟩ = some (.slice pao np pcp) := by
    have := HB.out.1.box.cell 5
    rw [this, ← HNP.out, ← HP.out.2]
    rfl
  have HA := Lib.hid hA
  clear hA
  have hwp : IntKind.i64.wrap ((np : Int) - 1) = (np : Int) - 1 := by rw [IntKind.wrap_i64]; omega
  go_upto_block 0 with fail
  go_cut [12] from 28 to 51 (fun v wd => Box wd 117 (w.heap.size + 1) #[.int .i64 f.step, .int .i64 f.kind, .int .i64 f.part] ∧ W.grownBy wd (some (w.heap.size + 1)))
  case first =>
    go_wp2_with fail
    go_loopw [12] (fun x12 wr => ∃ i : Nat, i ≤ np ∧ x12 = .int .i64 ((i : Int) - 1) ∧ Box wr 117 (w.heap.size + 1) #[.int .i64 (fvo ((P.drop i).find? (fun f => f.step = A))).step, .int .i64 (fvo ((P.drop i).find? (fun f => f.step = A))).kind, .int .i64 (fvo ((P.drop i).find? (fun f => f.step = A))).part] ∧ W.grownBy wr (some (w.heap.size + 1))) (fun x12 _ => (intOf x12 + 1).toNat)
    case atStart => exact ⟨np, by omega, rfl, by rw [List.drop_of_length_le (by rw [HNP.out]; exact Nat.le_refl _)]; exact HB.out.2.2.2.2.1, gb_refl _ _⟩
    case round =>
      obtain ⟨i, hi, rfl, hbx, hg⟩ := hrel
      have s4 := gb_cell hg e4 (by simp; omega)
      have s5 := gb_cell hg e5 (by simp; omega)
      by_cases hi0 : i = 0
      · subst hi0
        rw [List.drop_zero] at hbx
        have HBX := Lib.hid hbx
        clear hbx
        go_wp2_with fail
        go_meet
        have := HBX.out
        rw [← HA.out, HP.out.1] at this
        exact ⟨this, hg⟩
      · obtain ⟨j, rfl⟩ : ∃ j, i = j + 1 := ⟨i - 1, by omega⟩
        obtain ⟨x, hx⟩ : ∃ x, P[j]? = some x := ⟨_, List.getElem?_eq_getElem (by rw [HNP.out]; omega)⟩
        obtain ⟨gp, rfl⟩ := hppos (by omega)
        have hpr := HB.out.2.2.2.2.2
        rw [HP.out.2, HNP.out] at hpr
        have hgp : gp < w.heap.size + 1 := by
          have h1 := HR.out.cp gp (by rw [HP.out.2]; rfl)
          have := HR.out.lt gp (by rw [h1]; decide)
          omega
        obtain ⟨st, kk, pt⟩ := x
        have q0 : wr.cell? ⟨gp, j * 3, none⟩ = some (.int .i64 st) := gb_cell hg (row_cell hpr (j * 3 + 0) _ (by rw [flat_get fltL 3 (fun _ => rfl) 0 hx (by omega)]; rfl)) (by simp; omega)
        have q1 : wr.cell? ⟨gp, j * 3 + 1, none⟩ = some (.int .i64 kk) := gb_cell hg (row_cell hpr (j * 3 + 1) _ (by rw [flat_get fltL 3 (fun _ => rfl) 1 hx (by omega)]; rfl)) (by simp; omega)
        have q2 : wr.cell? ⟨gp, j * 3 + 2, none⟩ = some (.int .i64 pt) := gb_cell hg (row_cell hpr (j * 3 + 2) _ (by rw [flat_get fltL 3 (fun _ => rfl) 2 hx (by omega)]; rfl)) (by simp; omega)
        have hdr : P.drop j = ⟨st, kk, pt⟩ :: P.drop (j + 1) := by
          rw [← List.getElem_cons_drop (by rw [HNP.out]; omega), (List.getElem?_eq_some_iff.1 hx).2]
        have hjj : (((j + 1 : Nat) : Int) - 1) = (j : Int) := by omega
        rw [hjj]
        have d0 : decide ((0 : Int) ≤ (j : Int)) = true := by simp
        have d1 : (0 : Int) ≤ (j : Int) := by omega
        have d2 : (j : Int) < (np : Int) := by omega
        have hwj : IntKind.i64.wrap ((j : Int) - 1) = (j : Int) - 1 := by rw [IntKind.wrap_i64]; omega
        by_cases hst : st = A
        · subst hst
          have hfd : (P.drop j).find? (fun f => f.step = st) = some ⟨st, kk, pt⟩ := by rw [hdr]; simp
          have b0 : wr.cell? ⟨w.heap.size + 1, 0, none⟩ = some _ := hbx.cell 0
          have b1 : wr.cell? ⟨w.heap.size + 1, 1, none⟩ = some _ := hbx.cell 1
          have b2 : wr.cell? ⟨w.heap.size + 1, 2, none⟩ = some _ := hbx.cell 2
          have f0 := hbx.fz 0
          have f1 := hbx.fz 1
          have f2 := hbx.fz 2
          have HX := Lib.hid (And.intro hfd hbx)
          clear hfd hbx hpr hdr hx
          go_upto_region 6 with fail
          go_quiet (fail)
          go_wp2_with fail
          obtain ⟨hfd, hbx⟩ := HX.out
          refine ⟨⟨j, by omega, rfl, ?_, gb_setCell (gb_setCell (gb_setCell (gb_drewN hg _) _) _) _⟩, by first | (simp [intOf]; omega) | simp [intOf]⟩
          rw [hfd]
          exact ((Box.set (w := wr.drewN nq) hbx 0 _).set 1 _).set 2 _
        · have hst' : (st == A) = false := by simpa using hst
          have hfd : (P.drop j).find? (fun f => f.step = A) = (P.drop (j + 1)).find? (fun f => f.step = A) := by rw [hdr]; simp [hst]
          have HX := Lib.hid (And.intro hfd hbx)
          clear hfd hbx hpr hdr hx
          go_upto_region 6 with fail
          go_quiet (fail)
          go_wp2_with fail
          refine ⟨⟨j, by omega, rfl, ?_, gb_drewN hg _⟩, by first | (simp [intOf]; omega) | simp [intOf]⟩
          rw [HX.out.1]
          exact HX.out.2
  case rest =>
    obtain ⟨hbx, hgc⟩ := hcut
    obtain ⟨W1, hW1⟩ : ∃ W1, W1 = wc := ⟨_, rfl⟩
    subst hW1
    have hcb : ∀ b, r.col b ≠ 0 → b < w.heap.size := fun b hb => HR.out.lt b hb
    have hRW : RR W1 r M.act1 := HB.out.1.keep (fun b hb => hgc.block b (HB.out.1.lt b hb) (fun e => by have := hcb b hb; rw [Option.some.inj e] at this; omega)) hgc.size
    have hKW : Kp (fun b => b = r.d) w W1 := HB.out.2.1.step hgc (fun i hi => .inr (by rw [← Option.some.inj hi]; omega))
    have hSW : Slk W1 r M.act1 := by
      obtain ⟨L, a1, a2⟩ := HB.out.2.2.1
      exact ⟨L, row_kept a1 hgc (fun k hk e => by have := hcb k (by rw [HR.out.cs k hk]; decide); rw [Option.some.inj e] at this; omega), a2⟩
    have hB34 : Box W1 34 w.heap.size #[sv [], sv [], .int .i64 0] := HB.out.2.2.2.1.kept hgc (by simp)
    have h80 := HDO.out W1 hKW hRW hSW
    have c6 : W1.cell? ⟨r.d, 6, none⟩ = some (.bool M.dark) := hRW.box.cell 6
    have f6 : W1.frozen? ⟨r.d, 6, none⟩ = false := hRW.box.fz 6
    have q1 : W1.cell? ⟨w.heap.size + 1, 1, none⟩ = some (.int .i64 f.kind) := hbx.cell 1
    have hadk : M.act1.dark = M.dark := rfl
    have hcolR : ¬ r.col w.heap.size ≠ 0 := fun hb => by have := hcb _ hb; omega
    have HRW := Lib.hid (And.intro hRW (And.intro hB34 (And.intro (Afr.kp1 HR.out hKW) hcolR)))
    clear hbx hgc hRW hKW hSW hB34 HB HDO hcb HP HNP e4 e5 hcolR
    obtain ⟨k, hk⟩ : ∃ k, f.kind = k := ⟨_, rfl⟩
    rw [hk] at q1
    have HK := Lib.hid hk
    clear hk
    go_upto_block 2 with fail
    go_cut [13] from 52 to 122 (fun v wd => v = .int .i64 (bearR k c M.act1 M2).1 ∧ ∃ r', RR wd r' (bearR k c M.act1 M2).2 ∧ Afr W1 wd r r')
    case first =>
      cases hdk : M.dark with
      | true =>
        rw [hdk] at c6
        go_wp2_with fail
        go_meet
        have E : bearR k c M.act1 M2 = (184, M.act1) := by simp [bearR, hadk, hdk]
        rw [E]
        exact ⟨rfl, r, HRW.out.1, Afr.refl _ _⟩
      | false =>
        rw [hdk] at c6
        by_cases k1 : k = 1
        · subst k1
          go_wp2_with fail
          go_meet
          have E : bearR 1 c M.act1 M2 = (180, M.act1) := by simp [bearR, hadk, hdk]
          rw [E]
          exact ⟨rfl, r, HRW.out.1, Afr.refl _ _⟩
        have d1 : (k == 1) = false := by simp [k1]
        have dk1 : (kd == 1) = false := by simp [h1]
        by_cases k3 : k = 3
        · subst k3
          go_wp2_with fail
          go_meet
          have E : bearR 3 c M.act1 M2 = (180, M.act1) := by simp [bearR, hadk, hdk, k1]
          rw [E]
          exact ⟨rfl, r, HRW.out.1, Afr.refl _ _⟩
        have d3 : (k == 3) = false := by simp [k3]
        by_cases k4 : k = 4
        · subst k4
          go_wp2_with fail
          go_meet
          have E : bearR 4 c M.act1 M2 = (181, M.act1) := by simp [bearR, hadk, hdk, k1, k3]
          rw [E]
          exact ⟨rfl, r, HRW.out.1, Afr.refl _ _⟩
        have d4 : (k == 4) = false := by simp [k4]
        by_cases k5 : k = 5
        · subst k5
          go_wp2_with fail
          go_meet
          have E : bearR 5 c M.act1 M2 = (184, M.act1.down) := by simp [bearR, hadk, hdk, k1, k3, k4]
          rw [E]
          have := HRW.out.1.down
          exact ⟨rfl, r, this.1, this.2⟩
        have d5 : (k == 5) = false := by simp [k5]
        by_cases k6 : k = 6
        · subst k6
          go_wp2_with (go_at_call 80; go_must (refine h80.mono ?_); rintro e w5 ⟨rfl, r5, hr5, ha5⟩; (have s6 : w5.cell? ⟨r.d, 6, none⟩ = some (.bool M2.dark) := by rw [← ha5.d]; exact hr5.box.cell 6); (have f6 : w5.frozen? ⟨r.d, 6, none⟩ = false := by rw [← ha5.d]; exact hr5.box.fz 6); (have HP5 := Lib.hid (And.intro hr5 ha5)); clear hr5 ha5)
          go_meet
          have E : bearR 6 c M.act1 M2 = (184, M2.down) := by simp [bearR, hadk, hdk, k1, k3, k4, k5]
          rw [E]
          have := HP5.out.1.down
          rw [HP5.out.2.d] at this
          exact ⟨rfl, r5, this.1, HP5.out.2.trans this.2⟩
        have d6 : (k == 6) = false := by simp [k6]
        by_cases k2 : k = 2
        · subst k2
          by_cases hc : c = 0
          · subst hc
            go_wp2_with (go_at_call 80; go_must (refine h80.mono ?_); rintro e w5 ⟨rfl, r5, hr5, ha5⟩; (have s6 : w5.cell? ⟨r.d, 6, none⟩ = some (.bool M2.dark) := by rw [← ha5.d]; exact hr5.box.cell 6); (have f6 : w5.frozen? ⟨r.d, 6, none⟩ = false := by rw [← ha5.d]; exact hr5.box.fz 6); (have HP5 := Lib.hid (And.intro hr5 ha5)); clear hr5 ha5)
            go_meet
            have E : bearR 2 0 M.act1 M2 = (180, M2) := by simp [bearR, hadk, hdk, k1]
            rw [E]
            exact ⟨rfl, r5, HP5.out.1, HP5.out.2⟩
          · have dc : (c == 0) = false := by simp [hc]
            go_wp2_with (go_at_call 80; go_must (refine h80.mono ?_); rintro e w5 ⟨rfl, r5, hr5, ha5⟩; (have s6 : w5.cell? ⟨r.d, 6, none⟩ = some (.bool M2.dark) := by rw [← ha5.d]; exact hr5.box.cell 6); (have f6 : w5.frozen? ⟨r.d, 6, none⟩ = false := by rw [← ha5.d]; exact hr5.box.fz 6); (have HP5 := Lib.hid (And.intro hr5 ha5)); clear hr5 ha5)
            go_meet
            have E : bearR 2 c M.act1 M2 = (c, M2) := by simp [bearR, hadk, hdk, hc]
            rw [E]
            exact ⟨rfl, r5, HP5.out.1, HP5.out.2⟩
        have d2 : (k == 2) = false := by simp [k2]
        go_wp2_with (go_at_call 80; go_must (refine h80.mono ?_); rintro e w5 ⟨rfl, r5, hr5, ha5⟩; (have s6 : w5.cell? ⟨r.d, 6, none⟩ = some (.bool M2.dark) := by rw [← ha5.d]; exact hr5.box.cell 6); (have f6 : w5.frozen? ⟨r.d, 6, none⟩ = false := by rw [← ha5.d]; exact hr5.box.fz 6); (have HP5 := Lib.hid (And.intro hr5 ha5)); clear hr5 ha5)
        go_meet
        have E : bearR k c M.act1 M2 = (c, M2) := by simp [bearR, hadk, hdk, k1, k2, k3, k4, k5, k6]
        rw [E]
        exact ⟨rfl, r5, HP5.out.1, HP5.out.2⟩
    case rest =>
      obtain ⟨rfl, r2, hr2, ha2⟩ := hcut
      obtain ⟨W2, hW2⟩ : ∃ W2, W2 = wc := ⟨_, rfl⟩
      subst hW2
      have hB := HRW.out.2.1
      have hB2 : Box W2 34 w.heap.size #[sv [], sv [], .int .i64 0] := ha2.kp.box hB (by intro hc; exact HRW.out.2.2.2 hc)
      have hA2 := HRW.out.2.2.1.trans ha2
      have hnc2 : r2.col w.heap.size = 0 := by
        by_cases hz : r2.col w.heap.size = 0
        · exact hz
        · exact absurd (ha2.col _ hB.lt hz) HRW.out.2.2.2
      have h81 := call_81 kd h0 h5 W2
      obtain ⟨code, hcode⟩ : ∃ code, (bearR k c M.act1 M2).1 = code := ⟨_, rfl⟩
      rw [hcode]
      have b0 : W2.cell? ⟨w.heap.size, 0, none⟩ = some (sv []) := hB2.cell 0
      have b1 : W2.cell? ⟨w.heap.size, 1, none⟩ = some (sv []) := hB2.cell 1
      have b2 : W2.cell? ⟨w.heap.size, 2, none⟩ = some (.int .i64 0) := hB2.cell 2
      have f0 := hB2.fz 0
      have f1 := hB2.fz 1
      have f2 := hB2.fz 2
      have H2 := Lib.hid (And.intro hr2 (And.intro hA2 (And.intro hB2 (And.intro hnc2 hcode))))
      clear hr2 ha2 hB hB2 hA2 hnc2 HRW hcode h80
      by_cases hc0 : code = 0
      · subst hc0
        go_wp2_with fail
        obtain ⟨hr2, hA2, hB2, hnc2, hcode⟩ := H2.out
        have hB3 : Box (((W2.setCell ⟨w.heap.size, 0, none⟩ (sv [])).setCell ⟨w.heap.size, 1, none⟩ (sv [])).setCell ⟨w.heap.size, 2, none⟩ (.int .i64 0)) 34 w.heap.size #[sv [], sv [], .int .i64 0] := ((hB2.set 0 _).set 1 _).set 2 _
        have g3 : W2.grownBy (((W2.setCell ⟨w.heap.size, 0, none⟩ (sv [])).setCell ⟨w.heap.size, 1, none⟩ (sv [])).setCell ⟨w.heap.size, 2, none⟩ (.int .i64 0)) (some w.heap.size) := gb_setCell (gb_setCell (gb_setCell (gb_refl _ _) _) _) _
        generalize (((W2.setCell ⟨w.heap.size, 0, none⟩ (sv [])).setCell ⟨w.heap.size, 1, none⟩ (sv [])).setCell ⟨w.heap.size, 2, none⟩ (.int .i64 0)) = V at *
        have r0 : V.cell? ⟨w.heap.size, 0, none⟩ = some (sv []) := hB3.cell 0
        have r1 : V.cell? ⟨w.heap.size, 1, none⟩ = some (sv []) := hB3.cell 1
        have r2' : V.cell? ⟨w.heap.size, 2, none⟩ = some (.int .i64 0) := hB3.cell 2
        refine bodyPost_ret (v := .agg #[sv [], sv [], .int .i64 0]) (by simp [results, Try.results54, go_sem, r0, r1, r2']) rfl ⟨?_, r2, ?_, ?_⟩
        · rw [HK.out, hcode]
          rfl
        · rw [HK.out]
          exact hr2.keep (fun b hb => g3.block b (hr2.lt b hb) (fun e => by rw [Option.some.inj e] at hb; exact hb hnc2)) g3.size
        · exact ⟨hA2.kp.step g3 (fun i hi => .inr (by rw [← Option.some.inj hi]; exact Nat.le_refl _)), hA2.d, hA2.col⟩
      · have dc : (code == 0) = false := by simp [hc0]
        go_wp2_with (go_at_call 81; go_must (refine h81.mono ?_); rintro e w6 ⟨rfl, g6⟩; (have b0 := gb_cellN g6 b0); (have b1 := gb_cellN g6 b1); (have b2 := gb_cellN g6 b2); (have hB6 := H2.out.2.2.1.kept g6 (by simp)); (have f0 := hB6.fz 0); (have f1 := hB6.fz 1); (have f2 := hB6.fz 2))
        obtain ⟨hr2, hA2, hB2, hnc2, hcode⟩ := H2.out
        have hB3 : Box (((w6.setCell ⟨w.heap.size, 0, none⟩ (sv (callN kd))).setCell ⟨w.heap.size, 1, none⟩ (sv s)).setCell ⟨w.heap.size, 2, none⟩ (.int .i64 code)) 34 w.heap.size #[sv (callN kd), sv s, .int .i64 code] := ((hB6.set 0 _).set 1 _).set 2 _
        have g3 : w6.grownBy (((w6.setCell ⟨w.heap.size, 0, none⟩ (sv (callN kd))).setCell ⟨w.heap.size, 1, none⟩ (sv s)).setCell ⟨w.heap.size, 2, none⟩ (.int .i64 code)) (some w.heap.size) := gb_setCell (gb_setCell (gb_setCell (gb_refl _ _) _) _) _
        have g36 := gb_trans (gb_none (some w.heap.size) g6) g3
        generalize (((w6.setCell ⟨w.heap.size, 0, none⟩ (sv (callN kd))).setCell ⟨w.heap.size, 1, none⟩ (sv s)).setCell ⟨w.heap.size, 2, none⟩ (.int .i64 code)) = V at *
        have r0 : V.cell? ⟨w.heap.size, 0, none⟩ = some (sv (callN kd)) := hB3.cell 0
        have r1 : V.cell? ⟨w.heap.size, 1, none⟩ = some (sv s) := hB3.cell 1
        have r2' : V.cell? ⟨w.heap.size, 2, none⟩ = some (.int .i64 code) := hB3.cell 2
        refine bodyPost_ret (v := .agg #[sv (callN kd), sv s, .int .i64 code]) (by simp [results, Try.results54, go_sem, r0, r1, r2']) rfl ⟨?_, r2, ?_, ?_⟩
        · rw [HK.out, hcode]
          unfold fltO
          rw [if_neg hc0]
        · rw [HK.out]
          exact hr2.keep (fun b hb => g36.block b (hr2.lt b hb) (fun e => by rw [Option.some.inj e] at hb; exact hb hnc2)) g36.size
        · exact ⟨hA2.kp.step g36 (fun i hi => .inr (by rw [← Option.some.inj hi]; exact Nat.le_refl _)), hA2.d, hA2.col⟩
end Go.Proofs.Ytndjimdegkdljaa

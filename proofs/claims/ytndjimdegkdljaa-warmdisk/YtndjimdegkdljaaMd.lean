import Derived.Test.YtndjimdegkdljaaYc
/-
  The document's Read and Plan.
-/
namespace Go.Proofs.Ytndjimdegkdljaa
open Go.RowKit Go.MapKept
set_option linter.unusedVariables false
set_option linter.unusedSimpArgs false
attribute [local go_sem] Oper.semAt_some

theorem read_no {w : World} {x y : Bs} {z : Int} {V : World} (hg : w.grownBy V none) (hb : Box V 34 w.heap.size #[sv [], sv [], .int .i64 0]) :
    w.grownBy (((V.setCell ⟨w.heap.size, 0, none⟩ (sv x)).setCell ⟨w.heap.size, 1, none⟩ (sv y)).setCell ⟨w.heap.size, 2, none⟩ (.int .i64 z)) none ∧ Box (((V.setCell ⟨w.heap.size, 0, none⟩ (sv x)).setCell ⟨w.heap.size, 1, none⟩ (sv y)).setCell ⟨w.heap.size, 2, none⟩ (.int .i64 z)) 34 w.heap.size #[sv x, sv y, .int .i64 z] :=
  ⟨gb_mine hg (gb_setCell (gb_setCell (gb_setCell (gb_refl _ (some w.heap.size)) _) _) _) (Nat.le_refl _), ((hb.set 0 _).set 1 _).set 2 _⟩
set_option maxRecDepth 100000 in
set_option maxHeartbeats 4000000 in
theorem rread_37 {w : World} {r : Rl} {M : Md} (h : RR w r M) (s : Bs) (hl : s.length ≤ 9223372036854775807) (hsm : ∀ k, (M.file k).1.length ≤ 1000000000) :
    Calls Try.prog 37 #[pv r.d, sv s] w fun e w' => ∃ b, e = .returned (.tuple #[b, fltO [114, 101, 97, 100] s (rdR M s).1]) ∧ w'.ownsRow 0 5 1 b (rdR M s).2.length ((rdR M s).2.map b8) ∧ w.grownBy w' none := by
  have hlt := h.box.lt
  have hn1 : ¬ r.d = w.heap.size := by omega
  have hn2 : ¬ w.heap.size = r.d := by omega
  have g0 := gb_alloc (gb_refl w none) (.cells #[sv [], sv [], .int .i64 0] 34)
  have B0 := Box.new w 34 #[sv [], sv [], .int .i64 0]
  have h0 := h.gb g0
  have hz0 : (w.alloc (.cells #[sv [], sv [], .int .i64 0] 34)).heap.size = w.heap.size + 1 := by simp
  obtain ⟨W, hW⟩ : ∃ W, w.alloc (.cells #[sv [], sv [], .int .i64 0] 34) = W := ⟨_, rfl⟩
  have hW' : w.alloc (.cells #[.string ⟨#[]⟩, .string ⟨#[]⟩, .int .i64 0] 34) = W := hW
  rw [hW] at g0 B0 h0 hz0
  have HW := Lib.hid hW'
  have c6 : W.cell? ⟨r.d, 6, none⟩ = some (.bool M.dark) := h0.box.cell 6
  have b0 : W.cell? ⟨w.heap.size, 0, none⟩ = some (sv []) := B0.cell 0
  have b1 : W.cell? ⟨w.heap.size, 1, none⟩ = some (sv []) := B0.cell 1
  have b2 : W.cell? ⟨w.heap.size, 2, none⟩ = some (.int .i64 0) := B0.cell 2
  have f0 := B0.fz 0
  have f1 := B0.fz 1
  have f2 := B0.fz 2
  have h73 := legal_73 s hl W
  have h74 := at_74 h0 s
  have HR := Lib.hid (And.intro h0 (And.intro B0 (And.intro g0 hsm)))
  clear h h0 B0 g0 hW hW' hsm
  unfold rdR
  cases hdk : M.dark with
  | true =>
    rw [hdk] at c6
    simp only [if_true]
    go_enter Try.func37, Try.ntmps37
    go_upto_region 1 with fail
    rw [HW.out]
    go_wp2_with fail
    obtain ⟨h0, B0, g0, hsm⟩ := HR.out
    have X := read_no (x := [114, 101, 97, 100]) (y := s) (z := 184) g0 B0
    generalize (((W.setCell ⟨w.heap.size, 0, none⟩ (sv [114, 101, 97, 100])).setCell ⟨w.heap.size, 1, none⟩ (sv s)).setCell ⟨w.heap.size, 2, none⟩ (.int .i64 184)) = V at *
    have r0 : V.cell? ⟨w.heap.size, 0, none⟩ = some (sv [114, 101, 97, 100]) := X.2.cell 0
    have r1 : V.cell? ⟨w.heap.size, 1, none⟩ = some (sv s) := X.2.cell 1
    have r2 : V.cell? ⟨w.heap.size, 2, none⟩ = some (.int .i64 184) := X.2.cell 2
    refine bodyPost_ret (v := .tuple #[.slice none 0 0, .agg #[sv [114, 101, 97, 100], sv s, .int .i64 184]]) (by simp [results, Try.results37, go_sem, r0, r1, r2]) rfl ⟨_, rfl, World.ownsRow_nil _ _ _ _, X.1⟩
  | false =>
    rw [hdk] at c6
    simp only [Bool.false_eq_true, if_false]
    by_cases hs : okN s = true
    · rw [if_pos hs]
      rw [hs] at h73
      cases hn : M.names s with
      | none =>
        rw [hn] at h74
        simp only [atI] at h74
        simp only
        go_enter Try.func37, Try.ntmps37
        go_upto_region 1 with fail
        rw [HW.out]
        go_wp2_with (first
          | (go_at_call 73; go_must (refine h73.mono ?_); rintro e w1 ⟨rfl, hw1⟩; have hw2 := hw1.symm; subst hw2)
          | (go_at_call 74; go_must (refine h74.mono ?_); rintro e w1 ⟨rfl, g1⟩; (have b0 := gb_cellN g1 b0); (have b1 := gb_cellN g1 b1); (have b2 := gb_cellN g1 b2); (have B1 := HR.out.2.1.kept g1 (by simp)); (have f0 := B1.fz 0); (have f1 := B1.fz 1); (have f2 := B1.fz 2)))
        obtain ⟨h0, B0, g0, hsm⟩ := HR.out
        have X := read_no (x := [114, 101, 97, 100]) (y := s) (z := 182) (gb_trans g0 g1) B1
        generalize (((w1.setCell ⟨w.heap.size, 0, none⟩ (sv [114, 101, 97, 100])).setCell ⟨w.heap.size, 1, none⟩ (sv s)).setCell ⟨w.heap.size, 2, none⟩ (.int .i64 182)) = V at *
        have r0 : V.cell? ⟨w.heap.size, 0, none⟩ = some (sv [114, 101, 97, 100]) := X.2.cell 0
        have r1 : V.cell? ⟨w.heap.size, 1, none⟩ = some (sv s) := X.2.cell 1
        have r2 : V.cell? ⟨w.heap.size, 2, none⟩ = some (.int .i64 182) := X.2.cell 2
        refine bodyPost_ret (v := .tuple #[.slice none 0 0, .agg #[sv [114, 101, 97, 100], sv s, .int .i64 182]]) (by simp [results, Try.results37, go_sem, r0, r1, r2]) rfl ⟨_, rfl, World.ownsRow_nil _ _ _ _, X.1⟩
      | some k =>
        rw [hn] at h74
        simp only [atI] at h74
        simp only
        obtain ⟨h0, B0, g0, hsm⟩ := HR.out
        have hk := reach_lt h0.ok (Md.names_reach hn)
        have hfl := h0.fl
        have hna := h0.ok.na
        have hnf := h0.ok.nf
        obtain ⟨fao, fcp, ef, -, hfc, hfcp, hfpos⟩ := row_shape hfl
        obtain ⟨gf, rfl⟩ := hfpos (by omega)
        have hfr := h0.fr k hk
        obtain ⟨bao, bcp, eb, -⟩ := row_shape hfr
        have hfs := hsm k
        show Calls _ _ _ _ fun e w' => ∃ b, e = .returned (.tuple #[b, fltO [114, 101, 97, 100] s 0]) ∧ w'.ownsRow 0 5 1 b (M.file k).1.length ((M.file k).1.map b8) ∧ w.grownBy w' none
        obtain ⟨f, hf⟩ : ∃ f, M.file k = f := ⟨_, rfl⟩
        rw [hf] at hfr eb hfs ⊢
        obtain ⟨nb, hnb⟩ : ∃ nb, f.1.length = nb := ⟨_, rfl⟩
        rw [hnb] at hfr eb hfs ⊢
        obtain ⟨nf, hnff⟩ : ∃ nf, M.files.length = nf := ⟨_, rfl⟩
        rw [hnff] at hk hnf ef hfc
        have q0 : W.cell? ⟨gf, k * 2, none⟩ = some (.slice bao nb bcp) := by
          have := hfl
          rw [ef, hnff] at this
          rw [← eb]
          exact row_cell this (k * 2 + 0) _ (by rw [rng_get (fun i => fls_len r M i) hk (by omega)]; rfl)
        have c1 : W.cell? ⟨r.d, 1, none⟩ = some r.fv := h0.box.cell 1
        rw [ef] at c1
        rw [eb] at hfr
        obtain ⟨t38, T38⟩ := ty38
        have hone := b8_one f.1
        have hki : (k : Int) < (nf : Int) := by omega
        clear h0 B0 g0 hsm hfl ef eb hf hnb hnff
        generalize f.1.map b8 = xs at *
        go_enter Try.func37, Try.ntmps37
        go_upto_region 1 with fail
        rw [HW.out]
        go_upto_region 8 with (first
          | (go_at_call 73; go_must (refine h73.mono ?_); rintro e w1 ⟨rfl, hw1⟩; have hw2 := hw1.symm; subst hw2)
          | (go_at_call 74; go_must (refine h74.mono ?_); rintro e w1 ⟨rfl, g1⟩))
        have s1 := gb_cellN (gb_alloc g1 (.cells #[] 5)) c1
        have t0 := gb_cellN (gb_alloc g1 (.cells #[] 5)) q0
        have hrow := World.ownsRow.alloc (row_kept hfr g1 (by simp)) (.cells #[] 5)
        have hE0 : (w1.alloc (.cells #[] 5)).ownsRow 0 5 1 (.slice (some ⟨w1.heap.size, 0, none⟩) 0 0) 0 [] := ⟨rfl, .inr ⟨w1.heap.size, 0, #[], rfl, Nat.zero_le _, heap_alloc_new w1 _, Nat.le_refl _, by unfold maxLen; omega, rfl, rfl⟩⟩
        have BA := (HR.out.2.1.kept g1 (by simp)).kept (gb_alloc (gb_refl w1 none) (.cells #[] 5)) (by simp)
        clear b0 b1 b2 f0 f1 f2
        go_wp2_with (at_builtin; go_must (refine copyL T38 rfl _ _ rfl (by rfl) hE0 hrow hone (by rfl) (by omega) ?_); rintro v' w2 hown2 hg2 hat2 ⟨ad', c', rfl⟩; (have hz1 := g1.size); (have B2 := BA.kept hg2 (by simp; omega)); (have b0 : w2.cell? ⟨w.heap.size, 0, none⟩ = some (sv []) := B2.cell 0); (have b1 : w2.cell? ⟨w.heap.size, 1, none⟩ = some (sv []) := B2.cell 1); (have b2 : w2.cell? ⟨w.heap.size, 2, none⟩ = some (.int .i64 0) := B2.cell 2); (have f0 := B2.fz 0); (have f1 := B2.fz 1); (have f2 := B2.fz 2))
        obtain ⟨h0, B0, g0, hsm⟩ := HR.out
        have G2 : w.grownBy w2 none := gb_mine (gb_alloc (gb_trans g0 g1) _) hg2 (by omega)
        have X := read_no (x := []) (y := []) (z := 0) G2 B2
        have G3 : w2.grownBy (((w2.setCell ⟨w.heap.size, 0, none⟩ (sv [])).setCell ⟨w.heap.size, 1, none⟩ (sv [])).setCell ⟨w.heap.size, 2, none⟩ (.int .i64 0)) (some w.heap.size) := gb_setCell (gb_setCell (gb_setCell (gb_refl _ _) _) _) _
        have hrow3 := row_kept hown2 G3 (fun x hx e => by
          have e2 := Option.some.inj e
          rcases hat2 with e1 | e1
          · rw [e1] at hx
            have := Option.some.inj hx
            omega
          · have := e1 x hx
            simp at this
            omega)
        generalize (((w2.setCell ⟨w.heap.size, 0, none⟩ (sv [])).setCell ⟨w.heap.size, 1, none⟩ (sv [])).setCell ⟨w.heap.size, 2, none⟩ (.int .i64 0)) = V at *
        have r0 : V.cell? ⟨w.heap.size, 0, none⟩ = some (sv []) := X.2.cell 0
        have r1 : V.cell? ⟨w.heap.size, 1, none⟩ = some (sv []) := X.2.cell 1
        have r2 : V.cell? ⟨w.heap.size, 2, none⟩ = some (.int .i64 0) := X.2.cell 2
        refine bodyPost_ret (v := .tuple #[.slice (some ad') nb c', .agg #[sv [], sv [], .int .i64 0]]) (by simp [results, Try.results37, go_sem, r0, r1, r2]) rfl ⟨_, rfl, hrow3, X.1⟩
    · rw [if_neg hs]
      have hs' : okN s = false := by simpa using hs
      rw [hs'] at h73
      go_enter Try.func37, Try.ntmps37
      go_upto_region 1 with fail
      rw [HW.out]
      go_wp2_with (go_at_call 73; go_must (refine h73.mono ?_); rintro e w1 ⟨rfl, hw1⟩; have hw2 := hw1.symm; subst hw2)
      obtain ⟨h0, B0, g0, hsm⟩ := HR.out
      have X := read_no (x := [114, 101, 97, 100]) (y := s) (z := 186) g0 B0
      generalize (((W.setCell ⟨w.heap.size, 0, none⟩ (sv [114, 101, 97, 100])).setCell ⟨w.heap.size, 1, none⟩ (sv s)).setCell ⟨w.heap.size, 2, none⟩ (.int .i64 186)) = V at *
      have r0 : V.cell? ⟨w.heap.size, 0, none⟩ = some (sv [114, 101, 97, 100]) := X.2.cell 0
      have r1 : V.cell? ⟨w.heap.size, 1, none⟩ = some (sv s) := X.2.cell 1
      have r2 : V.cell? ⟨w.heap.size, 2, none⟩ = some (.int .i64 186) := X.2.cell 2
      refine bodyPost_ret (v := .tuple #[.slice none 0 0, .agg #[sv [114, 101, 97, 100], sv s, .int .i64 186]]) (by simp [results, Try.results37, go_sem, r0, r1, r2]) rfl ⟨_, rfl, World.ownsRow_nil _ _ _ _, X.1⟩
end Go.Proofs.Ytndjimdegkdljaa
/-
  Plan, of both disks.
-/
namespace Go.Proofs.Ytndjimdegkdljaa
open Go.RowKit Go.MapKept
set_option linter.unusedVariables false
set_option linter.unusedSimpArgs false
attribute [local go_sem] Oper.semAt_some

def Md.planned (M : Md) (P : List Flt) : Md := { M with plan := fun i => P.find? (fun f => f.step = i) }
theorem Md.Ok.planned {M : Md} (h : M.Ok) (P : List Flt) : (M.planned P).Ok := ⟨h.s0, h.s1, h.sf, h.cf, h.cs, h.fl, h.nf, h.nc, h.na, h.nb⟩
theorem flt_one (f : Flt) : ∀ u ∈ fltL f, u.oneCell' = true := by
  intro u hu
  simp only [List.mem_cons, List.not_mem_nil, or_false] at hu
  rcases hu with rfl | rfl | rfl <;> rfl
theorem ty39 : ∃ ti, Ty 39 117 ti (fvl ⟨0, 0, 0⟩) 3 24 := by
  obtain ⟨ti, hi, he⟩ := Option.map_eq_some_iff.1 (show (Try.prog.info? 117).map (fun i => (i.zero, i.size, i.bytes)) = some (some (fvl ⟨0, 0, 0⟩), 3, 24) by kernel_rfl)
  simp only [Prod.mk.injEq] at he
  exact ⟨ti, Try.underlying39, hi, he.1, he.2.1, he.2.2, rfl, by decide, by decide⟩
def Rl.planned (r : Rl) (v : Value) : Rl := { r with pl := v, col := fun b => if v.ownBlock = some b then 5 else r.col b }
theorem RR.planned {w w' : World} {r : Rl} {M : Md} {v : Value} {P : List Flt} (h : RR w r M) (hV : w'.ownsRow 0 117 3 v P.length (P.flatMap fltL)) (hP : P.length ≤ 1000)
    (hat : ∀ b, v.ownBlock = some b → w.heap.size ≤ b) (hB : Box w' 80 r.d (dkR (r.planned v) (M.planned P))) (hK : Kp (fun b => b = r.d) w w') :
    RR w' (r.planned v) (M.planned P) ∧ Afr w w' r (r.planned v) := by
  have hcl : ∀ b, r.col b ≠ 0 → (r.planned v).col b = r.col b := fun b h0 => by
    show (if v.ownBlock = some b then 5 else r.col b) = _
    rw [if_neg (fun e => by have := hat b e; have := h.lt b h0; omega)]
  have nbk : ∀ b, r.col b ≠ 0 → r.col b ≠ 1 → w'.heap[b]? = w.heap[b]? := fun b h0 h1 => hK.block b (h.lt b h0) (fun e => h1 (by rw [e, h.cd]))
  refine ⟨?_, ?_⟩
  · exact {
      box := hB
      fl := row_same h.fl (fun b hb => nbk b (by rw [h.cf b hb]; decide) (by rw [h.cf b hb]; decide))
      fr := fun k hl => row_same (h.fr k hl) (fun b hb => nbk b (by rw [h.cr k b hl hb]; omega) (by rw [h.cr k b hl hb]; omega))
      sf := by
        obtain ⟨L, a1, a2⟩ := h.sf
        exact ⟨L, row_same a1 (fun b hb => nbk b (by rw [h.cs b hb]; decide) (by rw [h.cs b hb]; decide)), a2⟩
      ch := row_same h.ch (fun b hb => nbk b (by rw [h.cc b hb]; decide) (by rw [h.cc b hb]; decide))
      pl := ⟨P, hV, hP, fun i => rfl⟩
      cd := by rw [show (r.planned v).d = r.d from rfl, hcl _ (by rw [h.cd]; decide)]; exact h.cd
      cf := fun b hb => by rw [hcl _ (by rw [h.cf b hb]; decide)]; exact h.cf b hb
      cs := fun b hb => by rw [hcl _ (by rw [h.cs b hb]; decide)]; exact h.cs b hb
      cc := fun b hb => by rw [hcl _ (by rw [h.cc b hb]; decide)]; exact h.cc b hb
      cp := fun b hb => by
        have hb' : v.ownBlock = some b := hb
        show (if v.ownBlock = some b then 5 else r.col b) = 5
        rw [if_pos hb']
      cr := fun k b hl hb => by rw [hcl _ (by rw [h.cr k b hl hb]; omega)]; exact h.cr k b hl hb
      lt := fun b hb => by
        have hb' : (if v.ownBlock = some b then 5 else r.col b) ≠ 0 := hb
        by_cases e2 : v.ownBlock = some b
        · exact (row_ge hV e2).2
        · rw [if_neg e2] at hb'
          exact Nat.lt_of_lt_of_le (h.lt b hb') hK.size
      ok := h.ok.planned P }
  · refine ⟨hK.mono (fun b hb => .inl ?_), rfl, fun b hl hb => ?_⟩
    · rw [hb, h.cd]; decide
    · have hb' : (if v.ownBlock = some b then 5 else r.col b) ≠ 0 := hb
      rw [if_neg (fun e => by have := hat b e; omega)] at hb'
      exact hb'
set_option maxRecDepth 100000 in
set_option maxHeartbeats 4000000 in
theorem rplan_44 {w : World} {r : Rl} {M : Md} (h : RR w r M) {lv : Value} {P : List Flt} (hb : Hin w r.col lv P.length 3 (P.flatMap fltL)) (hP : P.length ≤ 1000) :
    Calls Try.prog 44 #[pv r.d, lv] w fun e w' => e = .returned (.tuple #[]) ∧ ∃ r', RR w' r' (M.planned P) ∧ Afr w w' r r' := by
  obtain ⟨t39, T39⟩ := ty39
  have hdl := h.lt r.d (by rw [h.cd]; decide)
  have hone := one_flat fltL flt_one P
  have ga := gb_alloc (gb_refl w none) (.cells #[] 117)
  have hE0 : (w.alloc (.cells #[] 117)).ownsRow 0 117 3 (.slice (some ⟨w.heap.size, 0, none⟩) 0 0) 0 [] := ⟨rfl, .inr ⟨w.heap.size, 0, #[], rfl, Nat.zero_le _, heap_alloc_new w _, Nat.le_refl _, by unfold maxLen; omega, rfl, rfl⟩⟩
  have hb2 := hb.gb ga
  have hbx := h.box.kept ga (by simp)
  have HR := Lib.hid h
  have HP := Lib.hid (And.intro hP hbx)
  obtain ⟨n, hn⟩ : ∃ n, P.length = n := ⟨_, rfl⟩
  have HN := Lib.hid hn
  obtain ⟨_, la, lc, el, _⟩ := id hb
  subst el
  rw [hn] at hb2 hP
  clear h hb hn hbx
  generalize hxs : P.flatMap fltL = xs at *
  have HXS := Lib.hid hxs
  clear hxs
  rw [HN.out]
  go_enter Try.func44, Try.ntmps44
  go_wp2_with (at_builtin; go_must (refine copyH T39 rfl _ _ rfl (by rfl) hE0 _ _ (by rfl) hb2 hone (by omega) ?_); intro g7 c7 w7 hown7 hg7 hat7; have b7 := HP.out.2.kept hg7 (by simp; omega); have c5 : w7.cell? ⟨r.d, 5, none⟩ = some r.pl := b7.cell 5; have f5 : w7.frozen? ⟨r.d, 5, none⟩ = false := b7.fz 5)
  go_end0
  have h := HR.out
  have hg7s : w.heap.size ≤ g7 := by
    rcases hat7 with e | e
    · omega
    · simp at e; omega
  have gd : w7.grownBy (w7.setCell ⟨r.d, 5, none⟩ (.slice (some ⟨g7, 0, none⟩) n c7)) (some r.d) := gb_setCell (gb_refl _ _) _
  have G7 : w.grownBy w7 none := gb_mine ga hg7 (Nat.le_refl _)
  refine ⟨rfl, _, h.planned (v := .slice (some ⟨g7, 0, none⟩) n c7) (P := P) ?_ HP.out.1 (fun b hb => by simp [Value.ownBlock] at hb; omega) (b7.set 5 _) ((Kp.of G7).step gd (fun i hi => .inl (Option.some.inj hi).symm))⟩
  rw [HN.out, HXS.out]
  exact row_kept hown7 gd (fun x hx e => by simp [Value.ownBlock] at hx; have := Option.some.inj e; omega)
end Go.Proofs.Ytndjimdegkdljaa

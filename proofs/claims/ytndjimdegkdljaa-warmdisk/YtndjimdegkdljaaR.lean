import Derived.Test.YtndjimdegkdljaaQ
/-
  The document's acts themselves: a file made safe, a file made.
-/
namespace Go.Proofs.Ytndjimdegkdljaa
open Go.RowKit Go.MapKept
set_option linter.unusedVariables false
set_option linter.unusedSimpArgs false
attribute [local go_sem] Oper.semAt_some

theorem fls_len (r : Rl) (M : Md) (k : Nat) : (flsL r M k).length = 2 := rfl
set_option maxRecDepth 100000 in
set_option maxHeartbeats 4000000 in
theorem does_sync {w : World} {r : Rl} {M : Md} (h : RR w r M) (s : Bs) (hs : okN s = true) {k : Nat} (hn : M.names s = some k) :
    Calls Try.prog 80 #[pv r.d, .int .i64 2, sv s, sv [], .slice none 0 0] w fun e w' => e = .returned (.int .i64 0) ∧ ∃ r', RR w' r' (M.put k ((M.file k).1, (M.file k).1.length)) ∧ Afr w w' r r' := by
  have hl2 : 1 ≤ s.length ∧ s.length ≤ 32 := by simpa [okN] using hs
  have h73 := legal_73 s (by omega) w
  rw [hs] at h73
  have h74 := at_74 h s
  rw [hn] at h74
  simp only [atI] at h74
  have hna := h.ok.na
  have hnf := h.ok.nf
  have hk := reach_lt h.ok (Md.names_reach hn)
  have hbd := h.ok.nb (M.file k) (List.mem_of_getElem? (file_some hk))
  have HR := Lib.hid h
  have hbx := h.box
  have hfl := h.fl
  obtain ⟨fao, fcp, ef, -, hfc, hfcp, hfpos⟩ := row_shape hfl
  obtain ⟨gf, rfl⟩ := hfpos (by omega)
  obtain ⟨bao, bcp, eb, -⟩ := row_shape (h.fr k hk)
  obtain ⟨nb, hnb⟩ : ∃ nb, (M.file k).1.length = nb := ⟨_, rfl⟩
  rw [hnb] at eb hbd
  obtain ⟨nf, hnff⟩ : ∃ nf, M.files.length = nf := ⟨_, rfl⟩
  rw [hnff] at hk hnf ef hfc
  have q0 : w.cell? ⟨gf, k * 2, none⟩ = some (.slice bao nb bcp) := by
    have := hfl
    rw [ef, hnff] at this
    rw [← eb]
    exact row_cell this (k * 2 + 0) _ (by rw [rng_get (fun i => fls_len r M i) hk (by omega)]; rfl)
  have q1 : w.cell? ⟨gf, k * 2 + 1, none⟩ = some (.int .i64 ((M.file k).2 : Int)) := by
    have := hfl
    rw [ef, hnff] at this
    exact row_cell this (k * 2 + 1) _ (by rw [rng_get (fun i => fls_len r M i) hk (by omega)]; rfl)
  have HN := Lib.hid (And.intro hnff (And.intro hnb (And.intro ef (And.intro eb hbd))))
  have c1 : w.cell? ⟨r.d, 1, none⟩ = some r.fv := hbx.cell 1
  rw [ef] at c1
  rw [hnb]
  clear h hbx hfl hnff hnb ef eb hbd
  have hki : (k : Int) < (nf : Int) := by omega
  go_enter Try.func80, Try.ntmps80
  go_upto_region 23 with (first
    | (go_at_call 73; go_must (refine h73.mono ?_); rintro e w1 ⟨rfl, hw1⟩; have hw2 := hw1.symm; subst hw2)
    | (go_at_call 74; go_must (refine h74.mono ?_); rintro e w1 ⟨rfl, g1⟩))
  have s1 := gb_cellN g1 c1
  have t0 := gb_cellN g1 q0
  have t1 := gb_cellN g1 q1
  have row1 := row_kept HR.out.fl g1 (by simp)
  have f1 : w1.frozen? ⟨gf, k * 2 + 1, none⟩ = false := by
    obtain ⟨cur, hcur⟩ := row_block row1 gf (by rw [HN.out.2.2.1]; rfl)
    simp [World.frozen?, hcur]
  clear h73 h74 c1 q0 q1
  go_region
  all_goals
    go_wp2
    go_ret
    obtain ⟨hnff, hnb, ef, eb, hbd⟩ := HN.out
    have h := HR.out
    have hgfd : r.fv.ownBlock = some gf := by rw [ef]; rfl
    have gd : w1.grownBy (w1.setCell ⟨gf, k * 2 + 1, none⟩ (.int .i64 (nb : Int))).drew (some gf) := gb_drew (gb_setCell (gb_refl _ _) _)
    have hne : ∀ b, (r.rb k).ownBlock = some b → some b ≠ some gf := fun b hb e => by
      have h1 := h.cr k b (by rw [hnff]; exact hk) hb
      rw [Option.some.inj e, h.cf gf hgfd] at h1
      omega
    have hF : (w1.setCell ⟨gf, k * 2 + 1, none⟩ (.int .i64 (nb : Int))).ownsRow 0 98 2 (.slice (some ⟨gf, 0, none⟩) nf fcp) nf (rng nf (flsL (r.put k (r.rb k)) (M.put k ((M.file k).1, (M.file k).1.length)))) := by
      have row2 := row1
      rw [ef, hnff] at row2
      have := row_set row2 (k * 2 + 1) (.int .i64 (nb : Int))
      have e1 : ∀ j, j ≠ k → flsL (r.put k (r.rb k)) (M.put k ((M.file k).1, (M.file k).1.length)) j = flsL r M j := fun j hj => by
        show [upd r.rb k (r.rb k) j, .int .i64 (((M.put k _).file j).2 : Int)] = _
        rw [upd_other _ _ hj, file_put M k j _ (by rw [hnff]; exact hk), if_neg hj]
      have e2 : flsL (r.put k (r.rb k)) (M.put k ((M.file k).1, (M.file k).1.length)) k = (flsL r M k).set 1 (.int .i64 (nb : Int)) := by
        show [upd r.rb k (r.rb k) k, .int .i64 (((M.put k _).file k).2 : Int)] = _
        rw [upd_same, file_put M k k _ (by rw [hnff]; exact hk), if_pos rfl, hnb]
        rfl
      rw [rng_set (fun i => fls_len r M i) (by omega) _ e1 e2 hk] at this
      exact this
    have := h.filed (w' := (w1.setCell ⟨gf, k * 2 + 1, none⟩ (.int .i64 (nb : Int))).drew) (f := ((M.file k).1, (M.file k).1.length)) (v := r.rb k) (by rw [hnff]; exact hk) (Nat.le_refl _) (by rw [hnb]; exact hbd) (by rw [ef, hnff]; exact hF) (row_kept (row_kept (h.fr k (by rw [hnff]; exact hk)) g1 (by simp)) gd hne)
      ((Kp.of g1).step gd (fun i hi => .inl (.inl (by rw [hgfd]; exact hi)))) (fun b hb => .inl hb)
    refine ⟨rfl, r.put k (r.rb k), ?_⟩
    rw [hnb] at this
    exact this
theorem fl0_one : ∀ u ∈ ([.slice none 0 0, .int .i64 0] : List Value), u.oneCell' = true := by
  intro u hu
  simp only [List.mem_cons, List.not_mem_nil, or_false] at hu
  rcases hu with rfl | rfl <;> rfl
set_option maxRecDepth 100000 in
set_option maxHeartbeats 4000000 in
theorem does_create {w : World} {r : Rl} {M : Md} (h : RR w r M) (hsl : Slk w r M) (s : Bs) (hs : okN s = true) (hn : M.names s = none) (hf : M.files.length < M.acts) (hc : M.ch.length < M.acts) :
    Calls Try.prog 80 #[pv r.d, .int .i64 0, sv s, sv [], .slice none 0 0] w fun e w' => e = .returned (.int .i64 0) ∧ ∃ r', RR w' r' (M.create s) ∧ Afr w w' r r' := by
  have hl2 : 1 ≤ s.length ∧ s.length ≤ 32 := by simpa [okN] using hs
  have h73 := legal_73 s (by omega) w
  rw [hs] at h73
  have h74 := at_74 h s
  rw [hn] at h74
  simp only [atI] at h74
  have hna := h.ok.na
  obtain ⟨t78, T78⟩ := ty78
  obtain ⟨t76, T76⟩ := ty76
  have HR := Lib.hid (And.intro h hsl)
  have hbx := h.box
  have hch := h.ch
  have hfl := h.fl
  have n1 : r.cv.ownBlock ≠ some r.d := fun e => by have := h.cc _ e; rw [h.cd] at this; omega
  have n2 : r.fv.ownBlock ≠ some r.d := fun e => by have := h.cf _ e; rw [h.cd] at this; omega
  have n3 : ∀ b, r.fv.ownBlock = some b → r.cv.ownBlock ≠ some b := fun b e e2 => by have := h.cf _ e; rw [h.cc _ e2] at this; omega
  have hdl := h.lt r.d (by rw [h.cd]; decide)
  have hcl : ∀ b, r.cv.ownBlock = some b → b < w.heap.size := fun b e => h.lt b (by rw [h.cc b e]; decide)
  obtain ⟨nc, hN⟩ : ∃ nc, M.ch.length = nc := ⟨_, rfl⟩
  obtain ⟨nf, hNf⟩ : ∃ nf, M.files.length = nf := ⟨_, rfl⟩
  rw [hN] at hch hc
  rw [hNf] at hfl hf
  have HN := Lib.hid (And.intro hN hNf)
  clear h hsl hN hNf
  go_enter Try.func80, Try.ntmps80
  go_upto_region 9 with (first
    | (go_at_call 73; go_must (refine h73.mono ?_); rintro e w1 ⟨rfl, hw1⟩; have hw2 := hw1.symm; subst hw2)
    | (go_at_call 74; go_must (refine h74.mono ?_); rintro e w1 ⟨rfl, g1⟩))
  have b1 := hbx.kept g1 (by simp)
  have c1 : w1.cell? ⟨r.d, 1, none⟩ = some r.fv := b1.cell 1
  have r1 := row_kept hch g1 (by simp)
  have q1 := row_kept hfl g1 (by simp)
  have z1 := g1.size
  clear h73 h74 hbx hch hfl
  go_upto_region 12 with (at_builtin; go_must (refine pushB T76 rfl _ _ rfl 0 _ nf _ (by rfl) q1 [.slice none 0 0, .int .i64 0] rfl fl0_one (by rfl) (by omega) (Nat.zero_le _) ?_); intro g7 c7 w7 hown7 hg7 hat7; have b7 := b1.kept hg7 (fun e => n2 e.symm); have s1 : w7.cell? ⟨r.d, 1, none⟩ = some r.fv := b7.cell 1; have f1 : w7.frozen? ⟨r.d, 1, none⟩ = false := b7.fz 1)
  have gd : w7.grownBy (w7.setCell ⟨r.d, 1, none⟩ (.slice (some ⟨g7, 0, none⟩) (nf + 1) c7)) (some r.d) := gb_setCell (gb_refl _ _) _
  have hg7d : g7 ≠ r.d := by
    rcases hat7 with e | e
    · exact fun e2 => n2 (by rw [e, e2])
    · omega
  have b8' := b7.set 1 (.slice (some ⟨g7, 0, none⟩) (nf + 1) c7)
  have r8 := row_kept (row_kept r1 hg7 (fun k hk e => n3 k e.symm hk)) gd (fun k hk e => n1 (by rw [hk, e]))
  have q8 := row_kept hown7 gd (fun j hj e => hg7d (by simp [Value.ownBlock] at hj; rw [hj]; exact Option.some.inj e))
  have hat8 : r.fv.ownBlock = some g7 ∨ w.heap.size ≤ g7 := hat7.imp id (fun e => Nat.le_trans z1 e)
  have K8 : Kp (fun b => b = r.d ∨ r.cv.ownBlock = some b ∨ r.fv.ownBlock = some b) w (w7.setCell ⟨r.d, 1, none⟩ (.slice (some ⟨g7, 0, none⟩) (nf + 1) c7)) :=
    ((Kp.of g1).step hg7 (fun i hi => .inl (.inr (.inr hi)))).step gd (fun i hi => .inl (.inl (Option.some.inj hi).symm))
  obtain ⟨W, hW⟩ : ∃ W, w7.setCell ⟨r.d, 1, none⟩ (.slice (some ⟨g7, 0, none⟩) (nf + 1) c7) = W := ⟨_, rfl⟩
  rw [hW] at b8' r8 q8 K8 ⊢
  have e1 : W.cell? ⟨r.d, 1, none⟩ = some (.slice (some ⟨g7, 0, none⟩) (nf + 1) c7) := b8'.cell 1
  have e3 : W.cell? ⟨r.d, 3, none⟩ = some r.cv := b8'.cell 3
  have e3a := fun o => gb_cellN (World.grownBy_alloc W o none) e3
  have e1a := fun o => gb_cellN (World.grownBy_alloc W o none) e1
  have hwn : IntKind.i64.wrap ((nf : Int) + 1 - 1) = (nf : Int) := by rw [IntKind.wrap_i64]; omega
  have hwn2 : IntKind.i64.wrap (nf : Int) = (nf : Int) := by rw [IntKind.wrap_i64]; omega
  have HW := Lib.hid (And.intro b8' (And.intro q8 (And.intro K8 hat8)))
  clear b8' q8 K8 gd hW hown7 hg7 hat7 b7 s1 f1 b1 c1 r1 q1 g1
  go_region_law (refine step_push T78 (w5 := W.drew) (by rfl) (.tmp 56) (.tmp 65) (by rfl) 0 r.cv nc (M.ch.flatMap rchL) (by rfl) [sv [], sv s, .int .i64 (nf : Int)] rfl (rch_one ⟨[], s, nf⟩) (by rfl) r8 (by rfl) (by omega) (Nat.zero_le _) ?_; intro g9 c9 w9 hown9 hg9 hat9; have b9 := Box.kept (w := W.drew) HW.out.1 hg9 (fun e => n1 e.symm); have s3 : w9.cell? ⟨r.d, 3, none⟩ = some r.cv := b9.cell 3; have f3 : w9.frozen? ⟨r.d, 3, none⟩ = false := b9.fz 3)
  all_goals
    go_wp2
    go_ret
    obtain ⟨b8', q8, K8, hat8⟩ := HW.out
    obtain ⟨h, hsl⟩ := HR.out
    obtain ⟨hN, hNf⟩ := HN.out
    subst hN
    subst hNf
    have zW : w.heap.size ≤ W.heap.size := K8.size
    have hat9' : r.cv.ownBlock = some g9 ∨ W.heap.size ≤ g9 := hat9
    have hg9d : g9 ≠ r.d := by
      rcases hat9' with e | e
      · exact fun e2 => n1 (by rw [e, e2])
      · omega
    have gd9 : w9.grownBy (w9.setCell ⟨r.d, 3, none⟩ (.slice (some ⟨g9, 0, none⟩) (M.ch.length + 1) c9)) (some r.d) := gb_setCell (gb_refl _ _) _
    have q9 := row_kept (row_kept (w := W.drew) q8 hg9 (fun k hk e => by
      simp only [Value.ownBlock, Option.some.injEq] at hk
      subst hk
      rcases hat8 with e2 | e2
      · exact n3 _ e2 e.symm
      · have := hcl _ e.symm; omega)) gd9 (fun j hj e => hg7d (by simp [Value.ownBlock] at hj; rw [hj]; exact Option.some.inj e))
    have := h.made (s := s) (fv := .slice (some ⟨g7, 0, none⟩) (M.files.length + 1) c7) (cv := .slice (some ⟨g9, 0, none⟩) (M.ch.length + 1) c9) hsl hs hf hc (b9.set 3 _) q9
      (row_kept hown9 gd9 (fun j hj e => hg9d (by simp [Value.ownBlock] at hj; rw [hj]; exact Option.some.inj e)))
      ((K8.step (gb_trans (gb_drew (gb_refl W _)) hg9) (fun i hi => .inl (.inr (.inl hi)))).step gd9 (fun i hi => .inl (.inl (Option.some.inj hi).symm)))
      (fun b hb => by simp [Value.ownBlock] at hb; subst hb; exact hat9'.imp id (fun e => Nat.le_trans zW e))
      (fun b hb => by simp [Value.ownBlock] at hb; subst hb; exact hat8)
      (fun b hb e => by
        simp only [Value.ownBlock, Option.some.injEq] at hb e
        subst hb
        subst e
        rcases hat8 with e2 | e2
        · rcases hat9' with e3 | e3
          · exact n3 _ e2 e3
          · have := h.lt _ (show r.col g9 ≠ 0 by rw [h.cf _ e2]; decide); omega
        · have h9 := (row_ge q8 (j := g9) rfl).2
          rcases hat9' with e3 | e3
          · have := hcl _ e3; omega
          · omega)
    exact ⟨rfl, _, this⟩
end Go.Proofs.Ytndjimdegkdljaa

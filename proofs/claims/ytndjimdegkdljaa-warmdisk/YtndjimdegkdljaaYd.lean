import Derived.Test.YtndjimdegkdljaaYc
/-
  The document's Append itself.
-/
namespace Go.Proofs.Ytndjimdegkdljaa
open Go.RowKit Go.MapKept
set_option linter.unusedVariables false
set_option linter.unusedSimpArgs false
attribute [local go_sem] Oper.semAt_some

theorem btw_min (a b : Nat) : btw (a : Int) (b : Int) = ((min b a : Nat) : Int) := by
  unfold btw
  rw [if_neg (by omega)]
  split <;> omega
set_option maxRecDepth 100000 in
set_option maxHeartbeats 4000000 in
theorem does_append {w : World} {r : Rl} {M : Md} (h : RR w r M) (s : Bs) (hs : okN s = true) {k : Nat} (hn : M.names s = some k) {L : List (Bs × Nat)} (hL : Rep L M.names) (hsm : sumL M L ≤ 1000000000000)
    {bv : Value} {b : Bs} (hb : Hin w r.col bv b.length 1 (b.map b8)) (rm : Nat) (hrm : (rm : Int) = max (M.space - (sumL M L : Int)) 0) (hbd : (M.file k).1.length + b.length ≤ M.acts * 2097152) (hbd2 : (M.file k).1.length + b.length ≤ 1000000000) :
    Calls Try.prog 80 #[pv r.d, .int .i64 1, sv s, sv [], bv] w fun e w' => e = .returned (.int .i64 (if min b.length rm < b.length then 181 else 0)) ∧ ∃ r', RR w' r' (M.put k ((M.file k).1 ++ b.take (min b.length rm), (M.file k).2)) ∧ Afr w w' r r' := by
  have hl2 : 1 ≤ s.length ∧ s.length ≤ 32 := by simpa [okN] using hs
  have h73 := legal_73 s (by omega) w
  rw [hs] at h73
  have h74 := at_74 h s
  rw [hn] at h74
  simp only [atI] at h74
  have h86 := fun (W : World) (gW : w.grownBy W none) => room_86 (h.gb gW) hL hsm
  rw [← hrm] at h86
  have hna := h.ok.na
  have hnf := h.ok.nf
  have hk := reach_lt h.ok (Md.names_reach hn)
  obtain ⟨t38, T38⟩ := ty38
  have hbx := h.box
  have hfl := h.fl
  obtain ⟨fao, fcp, ef, -, hfc, hfcp, hfpos⟩ := row_shape hfl
  obtain ⟨gf, rfl⟩ := hfpos (by omega)
  have hfr := h.fr k hk
  have hfle := h.ok.fl (M.file k) (List.mem_of_getElem? (file_some hk))
  obtain ⟨f, hf⟩ : ∃ f, M.file k = f := ⟨_, rfl⟩
  obtain ⟨bao, bcp, eb, -⟩ := row_shape hfr
  rw [hf] at hfr eb hbd hbd2 hfle ⊢
  obtain ⟨nfl, hnfl⟩ : ∃ nfl, f.1.length = nfl := ⟨_, rfl⟩
  rw [hnfl] at eb hfr
  obtain ⟨nf, hnff⟩ : ∃ nf, M.files.length = nf := ⟨_, rfl⟩
  rw [hnff] at hk hnf ef hfc
  have q0 : w.cell? ⟨gf, k * 2, none⟩ = some (.slice bao nfl bcp) := by
    have := hfl
    rw [ef, hnff] at this
    rw [← eb]
    exact row_cell this (k * 2 + 0) _ (by rw [rng_get (fun i => fls_len r M i) hk (by omega)]; rfl)
  obtain ⟨m, hm⟩ : ∃ m, min b.length rm = m := ⟨_, rfl⟩
  rw [hm]
  have hmn : m ≤ b.length := by omega
  obtain ⟨_, pao, pcp, ep, hpc, hpm, _⟩ := id hb
  subst ep
  have hbt := hb.take hmn
  rw [Nat.mul_one, ← List.map_take] at hbt
  have hone := b8_one (b.take m)
  have hlen : (f.1 ++ b.take m).length = nfl + m := by rw [List.length_append, List.length_take]; omega
  have hmap : f.1.map b8 ++ (b.take m).map b8 = (f.1 ++ b.take m).map b8 := List.map_append.symm
  obtain ⟨nb, hnb⟩ : ∃ nb, b.length = nb := ⟨_, rfl⟩
  rw [hnb] at hmn hpc ⊢
  have h50 := fun W => between_50 (rm : Int) (nb : Int) W
  rw [btw_min, ← hnb, hm, hnb] at h50
  have c1 : w.cell? ⟨r.d, 1, none⟩ = some r.fv := hbx.cell 1
  rw [ef] at c1
  have hgfd : r.fv.ownBlock = some gf := by rw [ef]; rfl
  have hcf := h.cf gf hgfd
  have hne : ∀ x, (r.rb k).ownBlock = some x → x ≠ gf ∧ x ≠ r.d := fun x hx => by
    have h1 := h.cr k x (by rw [hnff]; exact hk) hx
    refine ⟨fun e => ?_, fun e => ?_⟩
    · rw [e, hcf] at h1; omega
    · rw [e, h.cd] at h1; omega
  rw [eb] at hne
  have hgl := h.lt gf (by rw [hcf]; decide)
  have HR := Lib.hid (And.intro h (And.intro hnff (And.intro ef (And.intro eb (And.intro hbd (And.intro hf (And.intro hnfl (And.intro hlen (And.intro hmap (And.intro hnb hfle))))))))))
  have hs1 : nfl + m ≤ 1000000000 := by omega
  have hki : (k : Int) < (nf : Int) := by omega
  have i0 : (0 : Int) ≤ (m : Int) := by omega
  unfold maxLen at hpm hfcp
  have i1 : (m : Int) ≤ (pcp : Int) := by omega
  have i2 : m ≤ pcp := by omega
  clear h hbx hb hbd hbd2 hlen hmap hrm hn hL ef eb hfle hf hnfl hnff
  rw [hnb] at hm
  clear hnb hfl
  generalize f.1.map b8 = xs at *
  generalize (b.take m).map b8 = ys at *
  go_enter Try.func80, Try.ntmps80
  go_upto_region 19 with (first
    | (go_at_call 73; go_must (refine h73.mono ?_); rintro e w1 ⟨rfl, hw1⟩; have hw2 := hw1.symm; subst hw2)
    | (go_at_call 74; go_must (refine h74.mono ?_); rintro e w1 ⟨rfl, g1⟩)
    | (go_at_call 86; go_must (refine (h86 _ g1).mono ?_); rintro e w2 ⟨rfl, g2⟩))
  have G2 := gb_trans g1 g2
  have s1 := gb_cellN G2 c1
  have t0 := gb_cellN G2 q0
  have row2 := row_kept hfr G2 (by simp)
  have hbt2 := hbt.gb G2
  have rowf := row_kept HR.out.1.fl G2 (by simp)
  have hbx2 := HR.out.1.box.kept G2 (by simp)
  clear h73 h74 h86 c1 q0 hfr hbt
  rw [HR.out.2.2.2.1] at row2
  have f0 : w2.frozen? ⟨gf, k * 2, none⟩ = false := by
    obtain ⟨cur, hcur⟩ := row_block rowf gf hgfd
    simp [World.frozen?, hcur]
  have hF0 : Hid (w2.ownsRow 0 98 2 r.fv M.files.length (rng M.files.length (flsL r M))) := Lib.hid rowf
  clear rowf hbx2
  go_region_law ((first
    | (go_simp; go_at_call 50; go_must (refine (h50 _).mono ?_); rintro e wz ⟨rfl, hwz⟩; have hwz2 := hwz.symm; subst hwz2)
    | (refine step_hin T38 (w := w2.drew) (by rfl) (.tmp 88) (.tmp 94) (by rfl) (.slice bao nfl bcp) nfl xs (by rfl) row2 m (.slice pao m pcp) ys (by rfl) hbt2 hone hs1 ?_; intro a7 c7 w7 hown7 hg7 hat7 _; have s7 := gb_cell (w := w2.drew) hg7 s1 (fun e => (hne _ e.symm).2 rfl); have u7 := gb_cell (w := w2.drew) hg7 t0 (fun e => (hne _ e.symm).1 rfl); have rf7 := row_kept (w := w2.drew) hF0.out hg7 (fun x hx e => by have e1 := hgfd.symm.trans hx; exact (hne x e.symm).1 (Option.some.inj e1).symm); have f7 : w7.frozen? ⟨gf, k * 2, none⟩ = false := (by obtain ⟨cur, hcur⟩ := row_block rf7 gf hgfd; simp [World.frozen?, hcur]); have HRF := Lib.hid rf7; clear rf7)))
  all_goals
    have FIN : ∃ r', RR (w7.setCell ⟨gf, k * 2, none⟩ (.slice a7 (nfl + m) c7)) r' (M.put k (f.1 ++ b.take m, f.2)) ∧ Afr w (w7.setCell ⟨gf, k * 2, none⟩ (.slice a7 (nfl + m) c7)) r r' := by
      obtain ⟨h, hnff, ef, eb, hbd, hf, hnfl, hlen, hmap, hnb, hfle⟩ := HR.out
      have gd : w7.grownBy (w7.setCell ⟨gf, k * 2, none⟩ (.slice a7 (nfl + m) c7)) (some gf) := gb_setCell (gb_refl _ _) _
      have hK : Kp (fun x => r.fv.ownBlock = some x ∨ (r.rb k).ownBlock = some x) w (w7.setCell ⟨gf, k * 2, none⟩ (.slice a7 (nfl + m) c7)) := by
        rw [eb]
        exact ((Kp.of G2).step (gb_trans (gb_drew (gb_refl w2 _)) hg7) (fun i hi => .inl (.inr hi))).step gd (fun i hi => .inl (.inl (by rw [hgfd]; exact hi)))
      have hF : (w7.setCell ⟨gf, k * 2, none⟩ (.slice a7 (nfl + m) c7)).ownsRow 0 98 2 (.slice (some ⟨gf, 0, none⟩) nf fcp) nf (rng nf (flsL (r.put k (.slice a7 (nfl + m) c7)) (M.put k (f.1 ++ b.take m, f.2)))) := by
        have row3 := HRF.out
        rw [ef, hnff] at row3
        have := row_set row3 (k * 2 + 0) (.slice a7 (nfl + m) c7)
        have e1 : ∀ j, j ≠ k → flsL (r.put k (.slice a7 (nfl + m) c7)) (M.put k (f.1 ++ b.take m, f.2)) j = flsL r M j := fun j hj => by
          show [upd r.rb k _ j, .int .i64 (((M.put k _).file j).2 : Int)] = _
          rw [upd_other _ _ hj, file_put M k j _ (by rw [hnff]; exact hk), if_neg hj]
        have e2 : flsL (r.put k (.slice a7 (nfl + m) c7)) (M.put k (f.1 ++ b.take m, f.2)) k = (flsL r M k).set 0 (.slice a7 (nfl + m) c7) := by
          show [upd r.rb k _ k, .int .i64 (((M.put k _).file k).2 : Int)] = _
          rw [upd_same, file_put M k k _ (by rw [hnff]; exact hk), if_pos rfl]
          show _ = [_, _]
          rw [hf]
        rw [rng_set (fun i => fls_len r M i) (by omega) _ e1 e2 hk] at this
        exact this
      refine ⟨_, h.filed (f := (f.1 ++ b.take m, f.2)) (v := .slice a7 (nfl + m) c7) (by rw [hnff]; exact hk) (by simp only [hlen]; omega) (by simp only [hlen]; omega) (by rw [ef, hnff]; exact hF) ?_ hK ?_⟩
      · simp only [hlen]
        rw [← hmap]
        refine row_kept hown7 gd (fun x hx e2 => ?_)
        have e3 := Option.some.inj e2
        rcases hat7 _ hx with h1 | h1
        · exact (hne _ h1).1 e3
        · have h2 : w2.heap.size ≤ x := h1
          have := G2.size
          omega
      · intro x hx
        rw [eb]
        exact (hat7 x hx).imp id (fun h1 => Nat.le_trans G2.size h1)
    have HF := Lib.hid FIN
    clear FIN hown7 hg7 hat7 HR HRF
    by_cases hlt : m < nb
    · have hlt2 : (rm : Int) < (nb : Int) := by omega
      have dlt : decide ((rm : Int) < (nb : Int)) = true := decide_eq_true hlt2
      go_wp2
      go_ret
      exact ⟨by first | rfl | (rw [if_pos hlt]; rfl), HF.out⟩
    · have hlt2 : ¬ (rm : Int) < (nb : Int) := by omega
      have dlt : decide ((rm : Int) < (nb : Int)) = false := decide_eq_false hlt2
      go_wp2
      go_ret
      exact ⟨by first | rfl | (rw [if_neg hlt]; rfl), HF.out⟩
end Go.Proofs.Ytndjimdegkdljaa

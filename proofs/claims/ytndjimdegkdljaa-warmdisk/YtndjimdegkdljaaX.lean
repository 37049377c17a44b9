import Derived.Test.YtndjimdegkdljaaMg
/-
  Names made safe.
-/
namespace Go.Proofs.Ytndjimdegkdljaa
open Go.RowKit Go.MapKept
set_option linter.unusedVariables false
set_option linter.unusedSimpArgs false
attribute [local go_sem] Oper.semAt_some

theorem ch_get {fb : Nat → Nat} {L : List Ch} {i : Nat} {c : Ch} (j : Nat) (h : L[i]? = some c) (hj : j < 3) : (L.flatMap (chL fb))[i * 3 + j]? = (chL fb c)[j]? := by
  induction L generalizing i with
  | nil => simp at h
  | cons q L ih =>
    cases i with
    | zero =>
      simp at h
      subst h
      rw [List.flatMap_cons, List.getElem?_append_left (by simpa using hj)]
      congr 1
      omega
    | succ i =>
      have h' : L[i]? = some c := by simpa using h
      rw [List.flatMap_cons, List.getElem?_append_right (by simp; omega), ← ih h']
      congr 1
      simp
      omega
set_option maxRecDepth 100000 in
set_option maxHeartbeats 4000000 in
theorem settle_45 {w : World} {p : Pl} {M : Md} (h : RP w p M) (n : Nat) (hn : n ≤ M.ch.length) :
    Calls Try.prog 45 #[pv p.d, .int .i64 (n : Int)] w fun e w' => e = .returned (.tuple #[]) ∧ NmM w' p.bs p.fb (after M.safe (M.ch.take n)) ∧
      Box w' 75 p.d #[.int .i64 M.space, .int .i64 (M.acts : Int), .int .i64 (M.files.length : Int), .bool (!M.dark), p.pl, .map (some p.bn), .map (some p.bs), .slice none 0 0] ∧ Kp (fun b => b = p.d ∨ b = p.bs) w w' := by
  have hna := h.ok.na
  have hnc := h.ok.nc
  obtain ⟨cao, ccp, ec, hnone, hcl, hccp, hcpos⟩ := row_shape h.ch
  have c7 : w.cell? ⟨p.d, 7, none⟩ = some p.cv := h.box.cell 7
  have c6 : w.cell? ⟨p.d, 6, none⟩ = some (.map (some p.bs)) := h.box.cell 6
  rw [ec] at c7
  have hdb : p.d ≠ p.bs := fun e => by have := h.cd; rw [e, h.cs] at this; omega
  have hdl := h.lt p.d (by rw [h.cd]; decide)
  have hbl := h.lt p.bs (by rw [h.cs]; decide)
  have HR := Lib.hid h
  obtain ⟨nc, hN⟩ : ∃ nc, M.ch.length = nc := ⟨_, rfl⟩
  rw [hN] at hcl hcpos c7 hn hnc hnone
  have HN := Lib.hid (And.intro hN ec)
  have hle : (n : Int) ≤ (ccp : Int) := by omega
  clear h hN ec
  go_enter Try.func45, Try.ntmps45
  have f7 : w.frozen? ⟨p.d, 7, none⟩ = false := HR.out.box.fz 7
  rcases cao with _ | ⟨gc, oc, rc⟩
  · obtain ⟨z1, z2⟩ := hnone rfl
    have z3 : n = 0 := by omega
    subst z1
    subst z2
    subst z3
    go_wp2_with fail
    refine wp_loop_rounds 1 ?_
    rw [rounds_succ]
    go_wp2_with fail
    go_end0
    have h := HR.out
    have gd : w.grownBy (w.setCell ⟨p.d, 7, none⟩ (.slice none 0 0)) (some p.d) := gb_setCell (gb_refl _ _) _
    exact ⟨rfl, h.sf.kept gd (by simp; omega), h.box.set 7 _, (Kp.refl _ w).step gd (fun i hi => .inl (.inl (Option.some.inj hi).symm))⟩
  go_wp2_with fail
  go_loopw [13] (fun x13 wr => ∃ i : Nat, i ≤ n ∧ x13 = .int .i64 (i : Int) ∧ NmM wr p.bs p.fb (after M.safe (M.ch.take i)) ∧ w.grownBy wr (some p.bs)) (fun x13 _ => n - (intOf x13).toNat)
  case atStart => exact ⟨0, by omega, rfl, HR.out.sf, gb_refl _ _⟩
  case round =>
    obtain ⟨i, hi, rfl, hM, hg⟩ := hrel
    obtain ⟨hN, ec⟩ := HN.out
    have s6 := gb_cell hg c6 (by simp; omega)
    have zr := hg.size
    by_cases hlt : i < n
    · obtain ⟨c, hc⟩ : ∃ c, M.ch[i]? = some c := ⟨_, List.getElem?_eq_getElem (by rw [hN]; omega)⟩
      obtain ⟨gc', ea⟩ := hcpos (by omega)
      injection ea with ea
      injection ea with ea1 ea2 ea3
      subst ea1
      subst ea2
      subst ea3
      have hcr := HR.out.ch
      rw [ec, hN] at hcr
      have hgb : p.cv.ownBlock = some gc := by rw [ec]; rfl
      have hgs : gc ≠ p.bs := fun e => by have := HR.out.cc gc hgb; rw [e, HR.out.cs] at this; omega
      obtain ⟨mx, hmv⟩ : ∃ mx, mdv p.fb c = .pointer mx := by unfold mdv; split; exact ⟨_, rfl⟩; exact ⟨_, rfl⟩
      obtain ⟨fr, hfr⟩ : ∃ fr, c.fr = fr := ⟨_, rfl⟩
      obtain ⟨nw, hnw⟩ : ∃ nw, c.nw = nw := ⟨_, rfl⟩
      have q0 : wr.cell? ⟨gc, i * 3, none⟩ = some (sv fr) := gb_cell hg (row_cell hcr (i * 3 + 0) _ (by rw [ch_get 0 hc (by omega), ← hfr]; rfl)) (by simp; omega)
      have q1 : wr.cell? ⟨gc, i * 3 + 1, none⟩ = some (sv nw) := gb_cell hg (row_cell hcr (i * 3 + 1) _ (by rw [ch_get 1 hc (by omega), ← hnw]; rfl)) (by simp; omega)
      have q2 : wr.cell? ⟨gc, i * 3 + 2, none⟩ = some (.pointer mx) := gb_cell hg (row_cell hcr (i * 3 + 2) _ (by rw [ch_get 2 hc (by omega), ← hmv]; rfl)) (by simp; omega)
      have d1 : decide ((i : Int) < (n : Int)) = true := by simp; omega
      have d1' : (i : Int) < (n : Int) := by omega
      have hw1 : IntKind.i64.wrap ((i : Int) + 1) = (i : Int) + 1 := by rw [IntKind.wrap_i64]; omega
      have h76 := fun (W : World) (gW : wr.grownBy W none) => do_76 (hM.kept gW (by simp)) c (after_nil_name HR.out.ok.empty) ((HR.out.ok.cf c (List.mem_of_getElem? hc)).2.1) (fun hne => HR.out.ok.cs i c hc hne)
      simp only [hmv, hfr, hnw] at h76
      have HC := Lib.hid hc
      clear hcr hmv hM hfr hnw hc
      go_upto_region 3 with fail
      have g2 := gb_alloc (gb_refl wr none) (.cells #[sv fr, sv nw, (.pointer mx)] 107)
      have b2 := Box.new wr 107 #[sv fr, sv nw, (.pointer mx)]
      have s6a := gb_cellN g2 s6
      obtain ⟨W2, hW2⟩ : ∃ W2, wr.alloc (.cells #[.string ⟨fr.toArray⟩, .string ⟨nw.toArray⟩, (.pointer mx)] 107) = W2 := ⟨_, rfl⟩
      have hW2' : wr.alloc (.cells #[sv fr, sv nw, (.pointer mx)] 107) = W2 := hW2
      rw [hW2'] at g2 b2 s6a
      rw [hW2]
      have t0 : W2.cell? ⟨wr.heap.size, 0, none⟩ = some (sv fr) := b2.cell 0
      have t1 : W2.cell? ⟨wr.heap.size, 1, none⟩ = some (sv nw) := b2.cell 1
      have t2 : W2.cell? ⟨wr.heap.size, 2, none⟩ = some (.pointer mx) := b2.cell 2
      clear hW2 hW2' q0 q1 q2 b2
      go_region_held3 (fun W : World => W.cell? ⟨p.d, 6, none⟩ = some (.map (some p.bs)) ∧ W.cell? ⟨wr.heap.size, 0, none⟩ = some (sv fr) ∧ W.cell? ⟨wr.heap.size, 1, none⟩ = some (sv nw) ∧ W.cell? ⟨wr.heap.size, 2, none⟩ = some (.pointer mx)) (go_keep) ((go_at_call 76; go_must ((with_reducible refine (h76 _ (gb_drew g2)).mono ?_); rintro y w9 ⟨rfl, hN9, g9⟩; (have G9 : W2.grownBy w9 (some p.bs) := gb_trans (gb_drew (gb_refl _ _)) g9); (have u6 := gb_cell G9 s6a (by simp; omega)); (have u0 := gb_cell G9 t0 (by simp; omega)); (have u1 := gb_cell G9 t1 (by simp; omega)); (have u2 := gb_cell G9 t2 (by simp; omega)))))
      all_goals
        go_wp2_with fail
        refine ⟨⟨i + 1, by omega, by first | rfl | simp, ?_, gb_trans hg (gb_trans (gb_none _ g2) G9)⟩, by simp [intOf]; omega⟩
        rw [List.take_add_one, HC.out, Option.toList_some, after_snoc]
        exact hN9
    · obtain rfl : i = n := by omega
      have d1 : decide ((i : Int) < (i : Int)) = false := by simp
      have f7r : wr.frozen? ⟨p.d, 7, none⟩ = false := (HR.out.box.kept hg (by simp; omega)).fz 7
      have s7 := gb_cell hg c7 (by simp; omega)
      have HM := Lib.hid hM
      clear hM
      go_wp2_with fail
      go_end0
      have h := HR.out
      have gd : wr.grownBy (wr.setCell ⟨p.d, 7, none⟩ (.slice none 0 0)) (some p.d) := gb_setCell (gb_refl _ _) _
      exact ⟨rfl, HM.out.kept gd (by simp; omega), (h.box.kept hg (by simp; omega)).set 7 _, ((Kp.refl _ w).step hg (fun i hi => .inl (.inr (Option.some.inj hi).symm))).step gd (fun i hi => .inl (.inl (Option.some.inj hi).symm))⟩
end Go.Proofs.Ytndjimdegkdljaa

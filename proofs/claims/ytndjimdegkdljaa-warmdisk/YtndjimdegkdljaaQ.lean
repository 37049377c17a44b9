import Derived.Test.YtndjimdegkdljaaMh
import Derived.Test.YtndjimdegkdljaaMg
/-
  The document's acts themselves: a file made, made safe, taken away.
-/
namespace Go.Proofs.Ytndjimdegkdljaa
open Go.RowKit Go.MapKept
set_option linter.unusedVariables false
set_option linter.unusedSimpArgs false
attribute [local go_sem] Oper.semAt_some

theorem ty76 : ∃ ti, Ty 76 98 ti (.agg #[.slice none 0 0, .int .i64 0]) 2 32 := by
  obtain ⟨ti, hi, he⟩ := Option.map_eq_some_iff.1 (show (Try.prog.info? 98).map (fun i => (i.zero, i.size, i.bytes)) = some (some (.agg #[.slice none 0 0, .int .i64 0]), 2, 32) by kernel_rfl)
  simp only [Prod.mk.injEq] at he
  exact ⟨ti, Try.underlying76, hi, he.1, he.2.1, he.2.2, rfl, by decide, by decide⟩
theorem ty78 : ∃ ti, Ty 78 137 ti (.agg #[sv [], sv [], .int .i64 0]) 3 40 := by
  obtain ⟨ti, hi, he⟩ := Option.map_eq_some_iff.1 (show (Try.prog.info? 137).map (fun i => (i.zero, i.size, i.bytes)) = some (some (.agg #[sv [], sv [], .int .i64 0]), 3, 40) by kernel_rfl)
  simp only [Prod.mk.injEq] at he
  exact ⟨ti, Try.underlying78, hi, he.1, he.2.1, he.2.2, rfl, by decide, by decide⟩
theorem does_bad {w : World} (d : Nat) (s nw : Bs) (p : Value) (hl : s.length ≤ 9223372036854775807) (hs : okN s = false) (kd : Int) (h5 : kd ≠ 5) :
    Calls Try.prog 80 #[pv d, .int .i64 kd, sv s, sv nw, p] w fun e w' => e = .returned (.int .i64 186) ∧ w' = w := by
  have h73 := legal_73 s hl w
  rw [hs] at h73
  have e5 : (kd == 5) = false := by simp [h5]
  go_enter Try.func80, Try.ntmps80
  go_wp2_with (go_at_call 73; go_must (refine h73.mono ?_); rintro e w1 ⟨rfl, hw1⟩; have hw2 := hw1.symm; subst hw2)
  go_ret
  exact ⟨rfl, rfl⟩
theorem does_there {w : World} {r : Rl} {M : Md} (h : RR w r M) (s nw : Bs) (p : Value) (hl : s.length ≤ 9223372036854775807) (hs : okN s = true) {k : Nat} (hn : M.names s = some k) :
    Calls Try.prog 80 #[pv r.d, .int .i64 0, sv s, sv nw, p] w fun e w' => e = .returned (.int .i64 183) ∧ w.grownBy w' none := by
  have h73 := legal_73 s hl w
  rw [hs] at h73
  have h74 := at_74 h s
  rw [hn] at h74
  simp only [atI] at h74
  clear h
  go_enter Try.func80, Try.ntmps80
  go_wp2_with (first
    | (go_at_call 73; go_must (refine h73.mono ?_); rintro e w1 ⟨rfl, hw1⟩; have hw2 := hw1.symm; subst hw2)
    | (go_at_call 74; go_must (refine h74.mono ?_); rintro e w1 ⟨rfl, g1⟩))
  go_ret
  exact ⟨rfl, g1⟩
theorem does_none {w : World} {r : Rl} {M : Md} (h : RR w r M) (s nw : Bs) (p : Value) (hl : s.length ≤ 9223372036854775807) (hs : okN s = true) (hn : M.names s = none) (kd : Int) (hk : kd = 2 ∨ kd = 4) :
    Calls Try.prog 80 #[pv r.d, .int .i64 kd, sv s, sv nw, p] w fun e w' => e = .returned (.int .i64 182) ∧ w.grownBy w' none := by
  have h73 := legal_73 s hl w
  rw [hs] at h73
  have h74 := at_74 h s
  rw [hn] at h74
  simp only [atI] at h74
  clear h
  rcases hk with rfl | rfl
  · go_enter Try.func80, Try.ntmps80
    go_wp2_with (first
      | (go_at_call 73; go_must (refine h73.mono ?_); rintro e w1 ⟨rfl, hw1⟩; have hw2 := hw1.symm; subst hw2)
      | (go_at_call 74; go_must (refine h74.mono ?_); rintro e w1 ⟨rfl, g1⟩))
    go_ret
    exact ⟨rfl, g1⟩
  · go_enter Try.func80, Try.ntmps80
    go_wp2_with (first
      | (go_at_call 73; go_must (refine h73.mono ?_); rintro e w1 ⟨rfl, hw1⟩; have hw2 := hw1.symm; subst hw2)
      | (go_at_call 74; go_must (refine h74.mono ?_); rintro e w1 ⟨rfl, g1⟩))
    go_ret
    exact ⟨rfl, g1⟩
theorem rch_one (c : Ch) : ∀ u ∈ rchL c, u.oneCell' = true := by
  intro u hu
  simp only [List.mem_cons, List.not_mem_nil, or_false] at hu
  rcases hu with rfl | rfl | rfl <;> rfl
set_option maxRecDepth 100000 in
set_option maxHeartbeats 4000000 in
theorem does_remove {w : World} {r : Rl} {M : Md} (h : RR w r M) (hsl : Slk w r M) (s : Bs) (hs : okN s = true) {k : Nat} (hn : M.names s = some k) (hc : M.ch.length < M.acts) :
    Calls Try.prog 80 #[pv r.d, .int .i64 4, sv s, sv [], .slice none 0 0] w fun e w' => e = .returned (.int .i64 0) ∧ ∃ r', RR w' r' (M.chg ⟨s, [], k⟩) ∧ Afr w w' r r' := by
  have hl2 : 1 ≤ s.length ∧ s.length ≤ 32 := by simpa [okN] using hs
  have hs0 : s ≠ [] := fun e => by rw [e] at hl2; simp at hl2
  have h73 := legal_73 s (by omega) w
  rw [hs] at h73
  have h74 := at_74 h s
  rw [hn] at h74
  simp only [atI] at h74
  have hna := h.ok.na
  have hnc := h.ok.nc
  obtain ⟨t78, T78⟩ := ty78
  have HR := Lib.hid (And.intro h hsl)
  have hbx := h.box
  have hch := h.ch
  have n1 : r.cv.ownBlock ≠ some r.d := fun e => by have := h.cc _ e; rw [h.cd] at this; omega
  obtain ⟨nc, hN⟩ : ∃ nc, M.ch.length = nc := ⟨_, rfl⟩
  rw [hN] at hch hnc
  have HN := Lib.hid hN
  clear h hsl hN
  go_enter Try.func80, Try.ntmps80
  go_upto_region 14 with (first
    | (go_at_call 73; go_must (refine h73.mono ?_); rintro e w1 ⟨rfl, hw1⟩; have hw2 := hw1.symm; subst hw2)
    | (go_at_call 74; go_must (refine h74.mono ?_); rintro e w1 ⟨rfl, g1⟩))
  have b1 := hbx.kept g1 (by simp)
  have c3 : w1.cell? ⟨r.d, 3, none⟩ = some r.cv := b1.cell 3
  have r1 := row_kept hch g1 (by simp)
  clear h73 h74
  go_wp2_with (at_builtin; go_must (refine pushB T78 rfl _ _ rfl 0 _ nc _ (by rfl) r1 [sv s, sv [], .int .i64 (k : Int)] rfl (rch_one ⟨s, [], k⟩) (by rfl) (by omega) (Nat.zero_le _) ?_); intro g7 c7 w7 hown7 hg7 hat7; have b7 := b1.kept hg7 (fun e => n1 e.symm); have s3 : w7.cell? ⟨r.d, 3, none⟩ = some r.cv := b7.cell 3; have f3 : w7.frozen? ⟨r.d, 3, none⟩ = false := b7.fz 3)
  go_ret
  obtain ⟨h, hsl⟩ := HR.out
  have hdl := h.lt r.d (by rw [h.cd]; decide)
  have hg7d : g7 ≠ r.d := by
    rcases hat7 with e | e
    · exact fun e2 => n1 (by rw [e, e2])
    · have := g1.size; omega
  have gd : w7.grownBy (w7.setCell ⟨r.d, 3, none⟩ (.slice (some ⟨g7, 0, none⟩) (nc + 1) c7)) (some r.d) := gb_setCell (gb_refl _ _) _
  have := h.changed (c := ⟨s, [], k⟩) (cv := .slice (some ⟨g7, 0, none⟩) (nc + 1) c7) hsl hs0 hn (by simp) hl2.2 hc (b7.set 3 _) (by rw [HN.out]; exact row_kept hown7 gd (fun j hj e => hg7d (by simp [Value.ownBlock] at hj; rw [hj]; exact Option.some.inj e)))
    (((Kp.of g1).step hg7 (fun i hi => .inl (.inr hi))).step gd (fun i hi => .inl (.inl (Option.some.inj hi).symm)))
    (fun b hb => by simp [Value.ownBlock] at hb; subst hb; exact hat7.imp id (fun e => Nat.le_trans g1.size e))
  exact ⟨rfl, _, this⟩
end Go.Proofs.Ytndjimdegkdljaa

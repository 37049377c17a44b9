/-
  A change that is not safe yet (change), a file found, a file made.
-/
import Derived.Test.YtndjimdegkdljaaF
namespace Go.Proofs.Ytndjimdegkdljaa
open Go.RowKit Go.MapKept
set_option linter.unusedVariables false
set_option linter.unusedSimpArgs false
attribute [local go_sem] Oper.semAt_some

theorem find_no {w : World} {p : Pl} {M : Md} (h : RP w p M) (s : Bs) (hl : s.length ≤ 9223372036854775807) (hs : okN s = false) :
    Calls Try.prog 56 #[pv p.d, sv s] w fun e w' => e = .returned (.tuple #[.pointer none, .int .i64 186]) ∧ w' = w := by
  have h79 := isName_79 s hl w
  rw [hs] at h79
  go_enter Try.func56, Try.ntmps56
  go_wp2_with (go_at_call 79; go_must (refine h79.mono ?_); rintro e w1 ⟨rfl, hw1⟩; have hw2 := hw1.symm; subst hw2)
  go_ret2
  exact ⟨rfl, rfl⟩
theorem find_none {w : World} {p : Pl} {M : Md} (h : RP w p M) (s : Bs) (hl : s.length ≤ 9223372036854775807) (hs : okN s = true) (hn : M.names s = none) :
    Calls Try.prog 56 #[pv p.d, sv s] w fun e w' => e = .returned (.tuple #[.pointer none, .int .i64 182]) ∧ w' = w := by
  have h79 := isName_79 s hl w
  rw [hs] at h79
  have c5 : w.cell? ⟨p.d, 5, none⟩ = some (.map (some p.bn)) := h.box.cell 5
  have lk := nm_look h.nm s
  rw [hn] at lk
  simp only [lkv] at lk
  clear h
  go_enter Try.func56, Try.ntmps56
  go_wp2_with (go_at_call 79; go_must (refine h79.mono ?_); rintro e w1 ⟨rfl, hw1⟩; have hw2 := hw1.symm; subst hw2)
  go_ret2
  exact ⟨rfl, rfl⟩
theorem find_some {w : World} {p : Pl} {M : Md} (h : RP w p M) (s : Bs) (hl : s.length ≤ 9223372036854775807) (hs : okN s = true) {k : Nat} (hn : M.names s = some k) :
    Calls Try.prog 56 #[pv p.d, sv s] w fun e w' => e = .returned (.tuple #[pv (p.fb k), .int .i64 0]) ∧ w' = w := by
  have h79 := isName_79 s hl w
  rw [hs] at h79
  have c5 : w.cell? ⟨p.d, 5, none⟩ = some (.map (some p.bn)) := h.box.cell 5
  have lk := nm_look h.nm s
  rw [hn] at lk
  simp only [lkv] at lk
  clear h
  go_enter Try.func56, Try.ntmps56
  go_wp2_with (go_at_call 79; go_must (refine h79.mono ?_); rintro e w1 ⟨rfl, hw1⟩; have hw2 := hw1.symm; subst hw2)
  go_ret2
  exact ⟨rfl, rfl⟩

theorem ty73 : ∃ ti, Ty 73 107 ti (.agg #[sv [], sv [], .pointer none]) 3 40 := by
  obtain ⟨ti, hi, he⟩ := Option.map_eq_some_iff.1 (show (Try.prog.info? 107).map (fun i => (i.zero, i.size, i.bytes)) = some (some (.agg #[sv [], sv [], .pointer none]), 3, 40) by kernel_rfl)
  simp only [Prod.mk.injEq] at he
  exact ⟨ti, Try.underlying73, hi, he.1, he.2.1, he.2.2, rfl, by decide, by decide⟩
theorem mdv_one (fb : Nat → Nat) (c : Ch) : (mdv fb c).oneCell' = true := by
  unfold mdv
  split <;> rfl

set_option maxRecDepth 100000 in
set_option maxHeartbeats 4000000 in
theorem change_57 {w : World} {d bn : Nat} {x0 x1 x2 x3 x4 x6 cv : Value} {fb : Nat → Nat} {m : NS} {n : Nat} {xs : List Value} (hb : Box w 75 d #[x0, x1, x2, x3, x4, .map (some bn), x6, cv])
    (hN : NmM w bn fb m) (hr : w.ownsRow 0 107 3 cv n xs) (hn : n ≤ 1000000) (n1 : d ≠ bn) (n2 : cv.ownBlock ≠ some d) (n3 : cv.ownBlock ≠ some bn)
    (c : Ch) (h0 : m [] = none) (h1 : c.fr = [] → c.nw ≠ []) (h2 : c.fr ≠ [] → m c.fr = some c.f) :
    Calls Try.prog 57 #[pv d, .agg #[sv c.fr, sv c.nw, mdv fb c]] w fun e w' => e = .returned (.tuple #[]) ∧ ∃ cv', Box w' 75 d #[x0, x1, x2, x3, x4, .map (some bn), x6, cv'] ∧ NmM w' bn fb (c.app m) ∧
      w'.ownsRow 0 107 3 cv' (n + 1) (xs ++ chL fb c) ∧ Kp (fun b => b = d ∨ b = bn ∨ cv.ownBlock = some b) w w' ∧ (∀ b, cv'.ownBlock = some b → cv.ownBlock = some b ∨ w.heap.size ≤ b) := by
  obtain ⟨mv, hmv⟩ : ∃ mv, mdv fb c = mv := ⟨_, rfl⟩
  have hm1 : mv.oneCell' = true := by rw [← hmv]; exact mdv_one fb c
  have g0 := gb_alloc (gb_refl w none) (.cells #[sv c.fr, sv c.nw, mv] 107)
  have h76 := fun (W : World) (gW : w.grownBy W none) => do_76 (hN.kept gW (by simp)) c h0 h1 h2
  have bb := Box.new w 107 #[sv c.fr, sv c.nw, mv]
  simp only [hmv] at h76 ⊢
  obtain ⟨fr, hfr⟩ : ∃ fr, c.fr = fr := ⟨_, rfl⟩
  obtain ⟨nw, hto⟩ : ∃ nw, c.nw = nw := ⟨_, rfl⟩
  simp only [hfr, hto] at h76 bb g0 ⊢
  have hb0 := hb.kept g0 (by simp)
  have hcs : chL fb c = [sv fr, sv nw, mv] := by simp only [chL, hmv, hfr, hto]
  try rw [hcs]
  have HH := Lib.hid (And.intro hcs (And.intro hmv (And.intro hfr hto)))
  clear hcs hmv hfr hto h0 h1 h2
  obtain ⟨W0, hW0⟩ : ∃ W, w.alloc (.cells #[sv fr, sv nw, mv] 107) = W := ⟨_, rfl⟩
  rw [hW0] at bb g0 hb0
  have hbl := hb.lt
  have hnl := hN.lt
  have c5 : W0.cell? ⟨d, 5, none⟩ = some (.map (some bn)) := hb0.cell 5
  have q0 : W0.cell? ⟨w.heap.size, 0, none⟩ = some (sv fr) := bb.cell 0
  have q1 : W0.cell? ⟨w.heap.size, 1, none⟩ = some (sv nw) := bb.cell 1
  have q2 : W0.cell? ⟨w.heap.size, 2, none⟩ = some mv := bb.cell 2
  go_enter Try.func57, Try.ntmps57
  go_upto_region 1 with fail
  go_region_held3 (fun W : World => W.cell? ⟨d, 5, none⟩ = some (.map (some bn)) ∧ W.cell? ⟨w.heap.size, 0, none⟩ = some (sv fr) ∧ W.cell? ⟨w.heap.size, 1, none⟩ = some (sv nw) ∧ W.cell? ⟨w.heap.size, 2, none⟩ = some mv) (go_keep) ((go_at_call 76; go_must ((with_reducible refine (h76 _ (gb_drew g0)).mono ?_); rintro y w9 ⟨rfl, hN9, g9⟩; (have G9 : W0.grownBy w9 (some bn) := gb_trans (gb_drew (gb_refl _ _)) g9); (have t5 := gb_cell G9 c5 (by simp; omega)); (have t0 := gb_cell G9 q0 (by simp; omega)); (have t1 := gb_cell G9 q1 (by simp; omega)); (have t2 := gb_cell G9 q2 (by simp; omega)))))
  obtain ⟨t73, T73⟩ := ty73
  have hr9 := row_kept (row_kept hr g0 (by simp)) G9 (fun k hk e => n3 (by rw [hk, e]))
  have b9 := hb0.kept G9 (by simp; omega)
  have t7 : w9.cell? ⟨d, 7, none⟩ = some cv := b9.cell 7
  have t7a := fun o => gb_cellN (World.grownBy_alloc w9 o none) t7
  have hu1 : ∀ u ∈ [sv fr, sv nw, mv], u.oneCell' = true := by
    intro u hu
    simp only [List.mem_cons, List.not_mem_nil, or_false] at hu
    rcases hu with rfl | rfl | rfl
    · rfl
    · rfl
    · exact hm1
  have g90 : w9.heap.size ≤ (w9.alloc (.cells [sv fr, sv nw, mv].toArray 107)).heap.size := by simp
  clear h76 c5 q0 q1 q2
  go_wp2_with fail
  go_region_law (refine step_push T73 (w5 := w9.drew) (by rfl) (.tmp 14) (.tmp 16) (by rfl) 0 cv n xs (by rfl) [sv fr, sv nw, mv] rfl hu1 (by rfl) hr9 (by rfl) (by omega) (Nat.zero_le _) ?_; intro g7 c7 w7 hown7 hg7 hat7; have b7 := Box.kept (w := w9.drew) b9 hg7 (fun e => n2 e.symm); have s7 : w7.cell? ⟨d, 7, none⟩ = some cv := b7.cell 7; have f7 : w7.frozen? ⟨d, 7, none⟩ = false := b7.fz 7)
  all_goals
    go_wp2
    go_end0
    have gs := (gb_trans (gb_none (some bn) g0) G9).size
    have gd : w7.grownBy (w7.setCell ⟨d, 7, none⟩ (.slice (some ⟨g7, 0, none⟩) (n + 1) c7)) (some d) := gb_setCell (gb_refl _ _) _
    have hgd : g7 ≠ d := by
      rcases hat7 with h | h
      · exact fun e => n2 (by rw [h, e])
      · have : w9.heap.size ≤ g7 := h
        omega
    refine ⟨rfl, .slice (some ⟨g7, 0, none⟩) (n + 1) c7, b7.set 7 _, (NmM.kept (w := w9.drew) hN9 hg7 (fun e => n3 e.symm)).kept gd (by simp; omega), row_kept hown7 gd (fun k hk e => hgd (by simp [Value.ownBlock] at hk; rw [hk]; exact Option.some.inj e)), ?_, ?_⟩
    · have k1 : Kp (fun b => b = d ∨ b = bn ∨ cv.ownBlock = some b) w w9 := ((Kp.of g0).step G9 (fun i hi => .inl (.inr (.inl (Option.some.inj hi).symm))))
      have k2 : Kp (fun b => b = d ∨ b = bn ∨ cv.ownBlock = some b) w w7 := k1.step (gb_trans (gb_drew (gb_refl w9 _)) hg7) (fun i hi => .inl (.inr (.inr hi)))
      exact k2.step gd (fun i hi => .inl (.inl (Option.some.inj hi).symm))
    · intro b hb
      simp only [Value.ownBlock, Option.some.injEq] at hb
      subst hb
      exact hat7.imp id (fun h => Nat.le_trans gs h)
end Go.Proofs.Ytndjimdegkdljaa

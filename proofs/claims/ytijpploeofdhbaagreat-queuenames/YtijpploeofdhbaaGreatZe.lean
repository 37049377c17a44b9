import Derived.Test.YtijpploeofdhbaaGreatZd
/-
  A queue: what it tells.
-/
namespace Go.Proofs.YtijpploeofdhbaaGreat
open Go.RowKit
set_option linter.unusedVariables false

theorem isKind_yes (k : Nat) (h : k < 3) (w : World) : Calls Tryz.prog 58 #[.int .i64 ((k : Int) + 1)] w fun y w' => y = .returned (.bool true) ∧ w = w' := by
  have h2 : (k : Int) + 1 ≤ 3 := by omega
  have h3 : decide ((k : Int) + 1 ≤ 3) = true := decide_eq_true h2
  go_enter Tryz.func58, Tryz.ntmps58
  go_wp2
  go_ret
  exact ⟨rfl, rfl⟩
theorem isKind_no (x : Int) (h : ¬ (1 ≤ x ∧ x ≤ 3)) (w : World) : Calls Tryz.prog 58 #[.int .i64 x] w fun y w' => y = .returned (.bool false) ∧ w = w' := by
  by_cases h1 : 1 ≤ x
  · have h2 : ¬ x ≤ 3 := fun h2 => h ⟨h1, h2⟩
    clear h
    go_enter Tryz.func58, Tryz.ntmps58
    go_wp2
    go_ret
    exact ⟨rfl, rfl⟩
  · clear h
    go_enter Tryz.func58, Tryz.ntmps58
    go_wp2
    go_ret
    exact ⟨rfl, rfl⟩

section
variable {w : World} {sb qb gl gc : Nat} {F : Nat → Prop} {B : Bl} {b c d e f g : Int} {A : Ab} {zs : List Int} {T : List Nat} {bs : Nat → It} {p n s : Nat → Nat} {L : Ls}

set_option maxRecDepth 100000 in
theorem q_list (h : QM w sb qb gl gc F B b c d e f g A zs T bs p n s L) {ci k : Nat} (hc : ci < A.n) (hk : k < 3) :
    Calls Tryz.prog 66 #[.pointer (some ⟨qb, 0, none⟩), .int .i64 ci, .int .i64 ((k : Int) + 1)] w fun y w' => y = .returned (.pointer (some ⟨gl, ci * 9 + k * 3, none⟩)) ∧ w.grownBy w' none := by
  have c1 := h.box.cell 1
  simp at c1
  have hik := fun W => isKind_yes k hk W
  have hn : A.n ≤ 62 := h.inv.fit.n2
  have hc2 : (ci : Int) < (A.n : Int) := by omega
  generalize A.n = nn at *
  clear h
  go_enter Tryz.func66, Tryz.ntmps66
  go_wp2_with (first | (go_at_call 58; go_must (refine (hik _).mono ?_); rintro y w' ⟨rfl, rfl⟩) | fail)
  go_ret
  exact ⟨rfl, gb_refl _ _⟩

set_option maxRecDepth 100000 in
theorem q_of (h : QM w sb qb gl gc F B b c d e f g A zs T bs p n s L) {H x y k : Nat} (hX : IsH A H x y) (hk : k < 3) :
    Calls Tryz.prog 57 #[.pointer (some ⟨qb, 0, none⟩), .int .u64 H, .int .i64 ((k : Int) + 1)] w fun y w' => y = .returned (.pointer (some ⟨gl, A.own x * 9 + k * 3, none⟩)) ∧ w.grownBy w' none := by
  have c0 := h.box.cell 0
  simp at c0
  have hat := at_yes h.iss h.inv.fit hX
  have hl := fun W (hf : w.grownBy W none) => q_list (h.kept0 hf) (h.inv.fit.on x hX.hp) hk
  clear h hX
  generalize A.own x = op at *
  go_enter Tryz.func57, Tryz.ntmps57
  go_wp2_with (first | (go_at_call 64; go_must (refine hat.mono ?_); rintro y w1 ⟨rfl, hf1⟩) | (go_at_call 66; go_must (refine (hl _ hf1).mono ?_); rintro y w2 ⟨rfl, hf2⟩) | fail)
  go_ret
  exact ⟨rfl, gb_trans hf1 hf2⟩

set_option maxRecDepth 100000 in
theorem q_state (h : QM w sb qb gl gc F B b c d e f g A zs T bs p n s L) {H : Nat} (hH : H ∈ T) :
    Calls Tryz.prog 59 #[.pointer (some ⟨qb, 0, none⟩), .int .u64 H] w fun y w' => y = .returned (.int .i64 (s H)) ∧ w.grownBy w' none := by
  have c0 := h.box.cell 0
  simp at c0
  obtain ⟨x, k, hX, hI, hs⟩ := h.its H hH
  have hst := state_yes h.iss h.inv.fit hX _ hI
  rw [show (itm bs p n s H).st = ((s H : Nat) : Int) from rfl] at hst
  generalize s H = sH at *
  clear h hX hI
  go_enter Tryz.func59, Tryz.ntmps59
  go_wp2_with (first | (go_at_call 88; go_must (refine hst.mono ?_); rintro y w1 ⟨rfl, hf1⟩) | fail)
  go_ret
  exact ⟨rfl, hf1⟩

theorem nm_zero {K : Nat} (h : K = 0) : nm K = 0 := by subst h; rfl

/-- Link of an item. -/
theorem q_link (h : QM w sb qb gl gc F B b c d e f g A zs T bs p n s L) {H : Nat} (hH : H ∈ T) (j : Nat) (hj : j = 1 ∨ j = 2) :
    Calls Tryz.prog 89 #[.pointer (some ⟨sb, 0, none⟩), .int .u64 H, .int .i64 j] w fun y w' => y = .returned (.tuple #[.int .u64 ((if j = 1 then p H else n H : Nat) : Int), .int .i64 0]) ∧ w.grownBy w' none := by
  obtain ⟨x, k, hX, hI, hs⟩ := h.its H hH
  have hA := h.inv.fit
  have hk1 := hI.k1
  have hlk := h.lk H hH
  rcases hj with rfl | rfl
  · rw [if_pos rfl]
    have hg : getL zs (A.place x k + 1 * 4) 4 0 0 = ((nm (p H) : Nat) : Int) := hI.link1
    rcases hlk.1 with h1 | h1
    · rw [h1]
      rw [nm_zero h1] at hg
      exact link_none h.iss hA hX 1 (by omega) hg
    · obtain ⟨x2, k2, hX2, _⟩ := h.its _ h1
      exact link_to h.iss hA hX _ hI.kl (by omega) 1 (by omega) hX2 hg
  · rw [if_neg (by decide)]
    have hg : getL zs (A.place x k + 2 * 4) 4 0 0 = ((nm (n H) : Nat) : Int) := hI.link2
    rcases hlk.2 with h1 | h1
    · rw [h1]
      rw [nm_zero h1] at hg
      exact link_none h.iss hA hX 2 (by omega) hg
    · obtain ⟨x2, k2, hX2, _⟩ := h.its _ h1
      exact link_to h.iss hA hX _ hI.kl (by omega) 2 (by omega) hX2 hg
set_option maxRecDepth 100000 in
theorem q_next (h : QM w sb qb gl gc F B b c d e f g A zs T bs p n s L) {H : Nat} (hH : H ∈ T) (j : Nat) (hj : j = 1 ∨ j = 2) (v : Nat) (hv : (if j = 1 then p H else n H) = v) :
    Calls Tryz.prog 92 #[.pointer (some ⟨qb, 0, none⟩), .int .u64 H, .int .i64 j] w fun y w' => y = .returned (.int .u64 v) ∧ w.grownBy w' none := by
  have c0 := h.box.cell 0
  simp at c0
  have hl := q_link h hH j hj
  rw [hv] at hl
  clear h hv
  go_enter Tryz.func92, Tryz.ntmps92
  go_wp2_with (first | (go_at_call 89; go_must (refine hl.mono ?_); rintro y w1 ⟨rfl, hf1⟩) | fail)
  go_ret
  exact ⟨rfl, hf1⟩

theorem told_yes (H : Nat) (h : ¬ H = 0) (w : World) : Calls Tryz.prog 65 #[.int .u64 H] w fun y w' => y = .returned (.tuple #[.int .u64 H, .bool true]) ∧ w = w' := by
  have hz : ¬ (H : Int) = 0 := by omega
  have hz2 : ((H : Int) != 0) = true := by simp [h]
  go_enter Tryz.func65, Tryz.ntmps65
  go_wp2
  go_ret2
  exact ⟨rfl, rfl⟩
theorem told_no (w : World) : Calls Tryz.prog 65 #[.int .u64 0] w fun y w' => y = .returned (.tuple #[.int .u64 0, .bool false]) ∧ w = w' := by
  go_enter Tryz.func65, Tryz.ntmps65
  go_wp2
  go_ret2
  exact ⟨rfl, rfl⟩
theorem told_any (H : Nat) (w : World) : Calls Tryz.prog 65 #[.int .u64 H] w fun y w' => y = .returned (.tuple #[.int .u64 H, .bool (decide (¬ H = 0))]) ∧ w = w' := by
  by_cases h : H = 0
  · subst h; exact told_no w
  · rw [decide_eq_true h]; exact told_yes H h w

set_option maxRecDepth 100000 in
theorem q_head (h : QM w sb qb gl gc F B b c d e f g A zs T bs p n s L) {ci k : Nat} (hc : ci < A.n) (hk : k < 3) (v : Nat) (hv : L.hd ci k = v) :
    Calls Tryz.prog 47 #[.pointer (some ⟨qb, 0, none⟩), .int .i64 ci, .int .i64 ((k : Int) + 1)] w fun y w' => y = .returned (.tuple #[.int .u64 v, .bool (decide (¬ v = 0))]) ∧ w.grownBy w' none := by
  have hl := (q_list h hc hk).mono (R' := fun y w' => y = .returned (.pointer (some ⟨gl, ci * 9 + k * 3, none⟩)) ∧ w.grownBy w' none ∧ w'.cell? ⟨gl, ci * 9 + k * 3, none⟩ = some (.int .u64 v)) (by
    rintro y w' ⟨rfl, hf⟩
    have := (h.kept0 hf).lcell hc hk (j := 0) (by omega)
    exact ⟨rfl, hf, by rw [← hv]; exact this⟩)
  have ht := fun W => told_any v W
  clear h hv
  generalize decide (¬ v = 0) = bb at *
  go_enter Tryz.func47, Tryz.ntmps47
  go_wp2_with (first | (go_at_call 66; go_must (refine hl.mono ?_); rintro y w1 ⟨rfl, hf1, d1⟩) | (go_at_call 65; go_must (refine (ht _).mono ?_); rintro y w' ⟨rfl, rfl⟩) | fail)
  go_ret2
  exact ⟨rfl, hf1⟩
set_option maxRecDepth 100000 in
theorem q_tail (h : QM w sb qb gl gc F B b c d e f g A zs T bs p n s L) {ci k : Nat} (hc : ci < A.n) (hk : k < 3) (v : Nat) (hv : L.tl ci k = v) :
    Calls Tryz.prog 27 #[.pointer (some ⟨qb, 0, none⟩), .int .i64 ci, .int .i64 ((k : Int) + 1)] w fun y w' => y = .returned (.tuple #[.int .u64 v, .bool (decide (¬ v = 0))]) ∧ w.grownBy w' none := by
  have hl := (q_list h hc hk).mono (R' := fun y w' => y = .returned (.pointer (some ⟨gl, ci * 9 + k * 3, none⟩)) ∧ w.grownBy w' none ∧ w'.cell? ⟨gl, ci * 9 + k * 3 + 1, none⟩ = some (.int .u64 v)) (by
    rintro y w' ⟨rfl, hf⟩
    have := (h.kept0 hf).lcell hc hk (j := 1) (by omega)
    exact ⟨rfl, hf, by rw [← hv]; exact this⟩)
  have ht := fun W => told_any v W
  clear h hv
  generalize decide (¬ v = 0) = bb at *
  go_enter Tryz.func27, Tryz.ntmps27
  go_wp2_with (first | (go_at_call 66; go_must (refine hl.mono ?_); rintro y w1 ⟨rfl, hf1, d1⟩) | (go_at_call 65; go_must (refine (ht _).mono ?_); rintro y w' ⟨rfl, rfl⟩) | fail)
  go_ret2
  exact ⟨rfl, hf1⟩
set_option maxRecDepth 100000 in
theorem q_len (h : QM w sb qb gl gc F B b c d e f g A zs T bs p n s L) {ci k : Nat} (hc : ci < A.n) (hk : k < 3) (v : Nat) (hv : L.ln ci k = v) :
    Calls Tryz.prog 28 #[.pointer (some ⟨qb, 0, none⟩), .int .i64 ci, .int .i64 ((k : Int) + 1)] w fun y w' => y = .returned (.int .i64 v) ∧ w.grownBy w' none := by
  have hl := (q_list h hc hk).mono (R' := fun y w' => y = .returned (.pointer (some ⟨gl, ci * 9 + k * 3, none⟩)) ∧ w.grownBy w' none ∧ w'.cell? ⟨gl, ci * 9 + k * 3 + 2, none⟩ = some (.int .i64 v)) (by
    rintro y w' ⟨rfl, hf⟩
    have := (h.kept0 hf).lcell hc hk (j := 2) (by omega)
    exact ⟨rfl, hf, by rw [← hv]; exact this⟩)
  clear h hv
  go_enter Tryz.func28, Tryz.ntmps28
  go_wp2_with (first | (go_at_call 66; go_must (refine hl.mono ?_); rintro y w1 ⟨rfl, hf1, d1⟩) | fail)
  go_ret
  exact ⟨rfl, hf1⟩
end
end Go.Proofs.YtijpploeofdhbaaGreat

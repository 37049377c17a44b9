import Derived.Test.YtjkdflnnpdionaaGreatMw
/-
  Handles without an item; items in no list: what the queue and the Lru answer.
-/
namespace Go.Proofs.YtjkdflnnpdionaaGreat
open Go.RowKit
set_option linter.unusedVariables false

/-- No item is there. -/
def NoI (A : Ab) (zs : List Int) (H : Nat) : Prop := H < 18446744073709551616 ∧ ((∀ p k, ¬ IsH A H p k) ∨ ∃ p k, IsH A H p k ∧ getL zs (A.place p k + 44) 1 0 0 = 0)

section
variable {w : World} {sb : Nat} {F : Nat → Prop} {B : Bl} {b c d e f g : Int} {A : Ab} {zs : List Int}

set_option maxRecDepth 100000 in
set_option maxHeartbeats 1000000 in
theorem state_none (h : IsS w sb F B b c d e f g A zs) (hA : Fit2 A) {H : Nat} (hN : NoI A zs H) :
    Calls Tryz.prog 124 #[.pointer (some ⟨sb, 0, none⟩), .int .u64 H] w fun y w' => ∃ er : Int, y = .returned (.tuple #[.int .i64 0, .int .i64 er]) ∧ w.grownBy w' none := by
  have htl : ∃ er : Int, Calls Tryz.prog 178 #[.pointer (some ⟨sb, 0, none⟩), .int .u64 H, .int .i64 45] w fun y w' => y = .returned (.tuple #[.int .u8 0, .int .i64 er]) ∧ w.grownBy w' none := by
    rcases hN.2 with hb | ⟨p, k, hH, h0⟩
    · have hop := open_no h hA hN.1 hb
      refine ⟨20, ?_⟩
      clear h hb
      go_enter Tryz.func178, Tryz.ntmps178
      go_wp2_with (first | (go_at_call 141; go_must (refine hop.mono ?_); rintro y w1 ⟨rfl, hf1⟩; (have hf2 : w.grownBy (w1.alloc (.cells #[.pointer none, .int .i64 0, .int .i64 0, .int .i64 0] 217)) none := gb_alloc hf1 _)) | fail)
      go_ret2
      exact ⟨rfl, hf2⟩
    · have hop := open_yes h hA hH
      have hhi := fun w1 (hf : w.grownBy w1 none) => hasItem_it h hA hH.hp hH.hk 0 h0 (by omega) hf
      rw [decide_eq_false (show ¬ 0 < 0 by omega)] at hhi
      refine ⟨0, ?_⟩
      clear h hH h0
      unfold chV at *
      generalize A.place p k = pl at *
      generalize A.sz (A.own p) = s at *
      generalize A.own p = op at *
      generalize B.ab = ab at *
      go_enter Tryz.func178, Tryz.ntmps178
      go_wp2_with (first | (go_at_call 141; go_must (refine hop.mono ?_); rintro y w1 ⟨rfl, hf1⟩; (have hf2 : w.grownBy (w1.alloc (.cells #[.pointer (some ⟨ab, 0, none⟩), .int .i64 pl, .int .i64 op, .int .i64 s] 217)) none := gb_alloc hf1 _); (have hc2 := Box.new w1 217 #[.pointer (some ⟨ab, 0, none⟩), .int .i64 pl, .int .i64 op, .int .i64 s])) | (go_at_call 182; go_must (refine (hhi _ hf2).mono ?_); rintro y w3 ⟨rfl, hf3⟩) | fail)
      go_ret2
      exact ⟨rfl, gb_trans hf2 hf3⟩
  obtain ⟨er, htl⟩ := htl
  clear h hN
  go_enter Tryz.func124, Tryz.ntmps124
  go_wp2_with (first | (go_at_call 178; go_must (refine htl.mono ?_); rintro y w1 ⟨rfl, hf1⟩) | fail)
  go_ret2
  exact ⟨er, rfl, hf1⟩

set_option maxRecDepth 100000 in
set_option maxHeartbeats 1000000 in
theorem lengths_none (h : IsS w sb F B b c d e f g A zs) (hA : Fit2 A) {H : Nat} (hN : NoI A zs H) :
    Calls Tryz.prog 151 #[.pointer (some ⟨sb, 0, none⟩), .int .u64 H] w fun y w' => ∃ er : Int, y = .returned (.tuple #[.int .i64 0, .int .i64 0, .int .i64 er]) ∧ w.grownBy w' none := by
  rcases hN.2 with hb | ⟨p, k, hH, h0⟩
  · have hop := open_no h hA hN.1 hb
    clear h hb hN
    go_enter Tryz.func151, Tryz.ntmps151
    go_wp2_with (first | (go_at_call 141; go_must (refine hop.mono ?_); rintro y w1 ⟨rfl, hf1⟩; (have hf2 : w.grownBy (w1.alloc (.cells #[.pointer none, .int .i64 0, .int .i64 0, .int .i64 0] 217)) none := gb_alloc hf1 _)) | fail)
    go_ret3
    exact ⟨20, rfl, hf2⟩
  · have hop := open_yes h hA hH
    have hhi := fun w1 (hf : w.grownBy w1 none) => hasItem_it h hA hH.hp hH.hk 0 h0 (by omega) hf
    rw [decide_eq_false (show ¬ 0 < 0 by omega)] at hhi
    clear h hH h0 hN
    unfold chV at *
    generalize A.place p k = pl at *
    generalize A.sz (A.own p) = s at *
    generalize A.own p = op at *
    generalize B.ab = ab at *
    go_enter Tryz.func151, Tryz.ntmps151
    go_wp2_with (first | (go_at_call 141; go_must (refine hop.mono ?_); rintro y w1 ⟨rfl, hf1⟩; (have hf2 : w.grownBy (w1.alloc (.cells #[.pointer (some ⟨ab, 0, none⟩), .int .i64 pl, .int .i64 op, .int .i64 s] 217)) none := gb_alloc hf1 _); (have hc2 := Box.new w1 217 #[.pointer (some ⟨ab, 0, none⟩), .int .i64 pl, .int .i64 op, .int .i64 s])) | (go_at_call 182; go_must (refine (hhi _ hf2).mono ?_); rintro y w3 ⟨rfl, hf3⟩) | fail)
    go_ret3
    exact ⟨0, rfl, gb_trans hf2 hf3⟩
end

section
variable {w : World} {sb qb gl gc : Nat} {F : Nat → Prop} {B : Bl} {b c d e f g : Int} {A : Ab} {zs : List Int} {T : List Nat} {bs : Nat → It} {p n s : Nat → Nat} {L : Ls}

set_option maxRecDepth 100000 in
theorem q_stateN (h : QM w sb qb gl gc F B b c d e f g A zs T bs p n s L) {H : Nat} (hN : NoI A zs H) :
    Calls Tryz.prog 77 #[.pointer (some ⟨qb, 0, none⟩), .int .u64 H] w fun y w' => y = .returned (.int .i64 0) ∧ w.grownBy w' none := by
  have c0 := h.box.cell 0
  simp at c0
  have hst := state_none h.iss h.inv.fit hN
  clear h hN
  go_enter Tryz.func77, Tryz.ntmps77
  go_wp2_with (first | (go_at_call 124; go_must (refine hst.mono ?_); rintro y w1 ⟨er, rfl, hf1⟩) | fail)
  go_ret
  exact ⟨rfl, hf1⟩

set_option maxRecDepth 100000 in
theorem q_mayN (h : QM w sb qb gl gc F B b c d e f g A zs T bs p n s L) {H k : Nat} (hk : k < 3) (hN : NoI A zs H) :
    Calls Tryz.prog 73 #[.pointer (some ⟨qb, 0, none⟩), .int .u64 H, .int .i64 ((k : Int) + 1)] w fun y w' => y = .returned (.int .i64 20) ∧ w.grownBy w' none := by
  have c0 := h.box.cell 0
  simp at c0
  have hln := lengths_none h.iss h.inv.fit hN
  have hik := fun W => isKind_yes k hk W
  clear h hN
  go_enter Tryz.func73, Tryz.ntmps73
  go_wp2_with (first | (go_at_call 76; with_reducible refine (hik _).mono ?_; rintro y w' ⟨rfl, rfl⟩) | (go_at_call 151; go_must (refine hln.mono ?_); rintro y w1 ⟨er, rfl, hf1⟩) | fail)
  go_ret
  exact ⟨rfl, hf1⟩

set_option maxRecDepth 100000 in
theorem q_mayT (h : QM w sb qb gl gc F B b c d e f g A zs T bs p n s L) {H k j : Nat} (hH : H ∈ T) (hk : k < 3) (hj : j < 3) (hs : s H = j + 1) :
    Calls Tryz.prog 73 #[.pointer (some ⟨qb, 0, none⟩), .int .u64 H, .int .i64 ((k : Int) + 1)] w fun y w' => y = .returned (.int .i64 8) ∧ w.grownBy w' none := by
  have c0 := h.box.cell 0
  simp at c0
  obtain ⟨x, i, hX, hI, hsz⟩ := h.its H hH
  have hk1 := hI.k1
  have hvn := hI.vn
  have hln := lengths_yes h.iss h.inv.fit hX _ hI.kl (by omega) _ hI.vl (by omega)
  have hst := fun W (hf : w.grownBy W none) => q_state (h.kept0 hf) hH
  rw [hs] at hst
  simp only [show ((j + 1 : Nat) : Int) = (j : Int) + 1 from rfl] at hst
  have hik := fun W => isKind_yes k hk W
  have hin := fun W => isKind_yes j hj W
  generalize (itm bs p n s H).key.length = kl at *
  generalize (itm bs p n s H).val.length = vl at *
  have hkl0 : ¬ kl = 0 := by omega
  have hkl1 : ¬ (kl : Int) = 0 := by omega
  clear h hX hI hs hsz
  go_enter Tryz.func73, Tryz.ntmps73
  go_wp2_with (first | (go_at_call 76; with_reducible refine (hik _).mono ?_; rintro y w' ⟨rfl, rfl⟩) | (go_at_call 76; with_reducible refine (hin _).mono ?_; rintro y w' ⟨rfl, rfl⟩) | (go_at_call 151; go_must (refine hln.mono ?_); rintro y w1 ⟨rfl, hf1⟩) | (go_at_call 77; go_must (refine (hst _ hf1).mono ?_); rintro y w2 ⟨rfl, hf2⟩) | fail)
  go_ret
  exact ⟨rfl, gb_trans hf1 hf2⟩

/-- In a list, in none, no item. -/
theorem q_push_no {er : Int} (h0 : er = 20 ∨ er = 8) {H k : Nat} (hm : Calls Tryz.prog 73 #[.pointer (some ⟨qb, 0, none⟩), .int .u64 H, .int .i64 ((k : Int) + 1)] w fun y w' => y = .returned (.int .i64 er) ∧ w.grownBy w' none) :
    Calls Tryz.prog 23 #[.pointer (some ⟨qb, 0, none⟩), .int .u64 H, .int .i64 ((k : Int) + 1)] w fun y w' => y = .returned (.int .i64 er) ∧ w.grownBy w' none := by
  rcases h0 with rfl | rfl
  all_goals
    go_enter Tryz.func23, Tryz.ntmps23
    go_wp2_with (first | (go_at_call 73; go_must (refine hm.mono ?_); rintro y w1 ⟨rfl, hf1⟩) | fail)
    go_ret
    exact ⟨rfl, hf1⟩
/-- The state is no list's. -/
theorem drop_none {H : Nat} {st : Int} (hs : ¬ (1 ≤ st ∧ st ≤ 3)) (hst : Calls Tryz.prog 77 #[.pointer (some ⟨qb, 0, none⟩), .int .u64 H] w fun y w' => y = .returned (.int .i64 st) ∧ w.grownBy w' none) :
    Calls Tryz.prog 25 #[.pointer (some ⟨qb, 0, none⟩), .int .u64 H] w fun y w' => y = .returned (.int .i64 20) ∧ w.grownBy w' none := by
  have hin := fun W => isKind_no st hs W
  clear hs
  go_enter Tryz.func25, Tryz.ntmps25
  go_wp2_with (first | (go_at_call 77; go_must (refine hst.mono ?_); rintro y w1 ⟨rfl, hf1⟩) | (go_at_call 76; go_must (refine (hin _).mono ?_); rintro y w' ⟨rfl, rfl⟩) | fail)
  go_ret
  exact ⟨rfl, hf1⟩
theorem shift_none {H k : Nat} (hk : k < 3) {st : Int} (hs : ¬ (1 ≤ st ∧ st ≤ 3)) (hst : Calls Tryz.prog 77 #[.pointer (some ⟨qb, 0, none⟩), .int .u64 H] w fun y w' => y = .returned (.int .i64 st) ∧ w.grownBy w' none) :
    Calls Tryz.prog 26 #[.pointer (some ⟨qb, 0, none⟩), .int .u64 H, .int .i64 ((k : Int) + 1)] w fun y w' => y = .returned (.int .i64 20) ∧ w.grownBy w' none := by
  have hin := fun W => isKind_no st hs W
  have hik := fun W => isKind_yes k hk W
  clear hs
  go_enter Tryz.func26, Tryz.ntmps26
  go_wp2_with (first | (go_at_call 77; go_must (refine hst.mono ?_); rintro y w1 ⟨rfl, hf1⟩) | (go_at_call 76; with_reducible refine (hik _).mono ?_; rintro y w' ⟨rfl, rfl⟩) | (go_at_call 76; with_reducible refine (hin _).mono ?_; rintro y w' ⟨rfl, rfl⟩) | fail)
  go_ret
  exact ⟨rfl, hf1⟩
theorem shift_argP {H : Nat} {k : Int} (hk : ¬ (1 ≤ k ∧ k ≤ 3)) (w : World) :
    Calls Tryz.prog 26 #[.pointer (some ⟨qb, 0, none⟩), .int .u64 H, .int .i64 k] w fun y w' => y = .returned (.int .i64 1) ∧ w.grownBy w' none := by
  have hin := fun W => isKind_no k hk W
  clear hk
  go_enter Tryz.func26, Tryz.ntmps26
  go_wp2_with (first | (go_at_call 76; go_must (refine (hin _).mono ?_); rintro y w' ⟨rfl, rfl⟩) | fail)
  go_ret
  exact ⟨rfl, gb_refl _ _⟩
end
end Go.Proofs.YtjkdflnnpdionaaGreat
/-
  The Lru: Hit; classes that there are not; Balance of no steps.
-/
namespace Go.Proofs.YtjkdflnnpdionaaGreat
open Go.RowKit
set_option linter.unusedVariables false

theorem or_f : ∀ v : Fin 16, bits BinOp.or IntKind.i64 (v.val : Int) 1 = ((v.val + (1 - v.val % 2) : Nat) : Int) := by decide +kernel
theorem or_one (v : Nat) (h : v ≤ 15) : bits BinOp.or IntKind.i64 (v : Int) 1 = ((v + (1 - v % 2) : Nat) : Int) := or_f ⟨v, by omega⟩

section
variable {w : World} {xb sb qb gl gc : Nat} {F : Nat → Prop} {B : Bl} {b c d e f g : Int} {A : Ab} {m : List Int} {T : List Nat} {bs : Nat → It} {cls : Nat → Nat} {X : Nat → Nat → List Nat} {mk : Nat → Nat} {hot warm : Nat}
end

section
variable {w : World} {xb sb qb gl gc : Nat} {v0 v2 v3 : Value} {n : Nat}
set_option maxRecDepth 100000 in
/-- list, of what there is not. -/
theorem q_listNo (hb : Box w 118 qb #[.pointer (some ⟨sb, 0, none⟩), .slice (some ⟨gl, 0, none⟩) n gc]) (hn : n ≤ 62) {ci : Int} (hc : ¬ (0 ≤ ci ∧ ci < n)) (k : Int) :
    Calls Tryz.prog 128 #[.pointer (some ⟨qb, 0, none⟩), .int .i64 ci, .int .i64 k] w fun y w' => ∃ lb, y = .returned (.pointer (some ⟨lb, 0, none⟩)) ∧ w.grownBy w' none ∧ w'.cell? ⟨lb, 0, none⟩ = some (.int .u64 0) ∧ w'.cell? ⟨lb, 1, none⟩ = some (.int .u64 0) ∧ w'.cell? ⟨lb, 2, none⟩ = some (.int .i64 0) := by
  have c1 := hb.cell 1
  simp at c1
  clear hb
  by_cases h0 : 0 ≤ ci
  · have h1 : ¬ ci < (n : Int) := fun h => hc ⟨h0, h⟩
    have h2 : (n : Int) ≤ ci := by omega
    have h3 : ¬ ci < 0 := by omega
    clear hc
    go_enter Tryz.func128, Tryz.ntmps128
    go_wp2
    go_ret
    exact ⟨_, rfl, gb_alloc (gb_refl _ _) _, (Box.new w 134 #[.int .u64 0, .int .u64 0, .int .i64 0]).cell 0, (Box.new w 134 #[.int .u64 0, .int .u64 0, .int .i64 0]).cell 1, (Box.new w 134 #[.int .u64 0, .int .u64 0, .int .i64 0]).cell 2⟩
  · have h1 : ci < 0 := by omega
    clear hc
    go_enter Tryz.func128, Tryz.ntmps128
    go_wp2
    go_ret
    exact ⟨_, rfl, gb_alloc (gb_refl _ _) _, (Box.new w 134 #[.int .u64 0, .int .u64 0, .int .i64 0]).cell 0, (Box.new w 134 #[.int .u64 0, .int .u64 0, .int .i64 0]).cell 1, (Box.new w 134 #[.int .u64 0, .int .u64 0, .int .i64 0]).cell 2⟩
theorem q_lenNo (hb : Box w 118 qb #[.pointer (some ⟨sb, 0, none⟩), .slice (some ⟨gl, 0, none⟩) n gc]) (hn : n ≤ 62) {ci : Int} (hc : ¬ (0 ≤ ci ∧ ci < n)) (k : Int) :
    Calls Tryz.prog 65 #[.pointer (some ⟨qb, 0, none⟩), .int .i64 ci, .int .i64 k] w fun y w' => y = .returned (.int .i64 0) ∧ w.grownBy w' none := by
  have hl := q_listNo hb hn hc k
  clear hb hc
  go_enter Tryz.func65, Tryz.ntmps65
  go_wp2_with (first | (go_at_call 128; go_must (refine hl.mono ?_); rintro y w1 ⟨lb, rfl, hf1, d0, d1, d2⟩) | fail)
  go_ret
  exact ⟨rfl, hf1⟩
theorem q_tailNo (hb : Box w 118 qb #[.pointer (some ⟨sb, 0, none⟩), .slice (some ⟨gl, 0, none⟩) n gc]) (hn : n ≤ 62) {ci : Int} (hc : ¬ (0 ≤ ci ∧ ci < n)) (k : Int) :
    Calls Tryz.prog 64 #[.pointer (some ⟨qb, 0, none⟩), .int .i64 ci, .int .i64 k] w fun y w' => y = .returned (.tuple #[.int .u64 0, .bool false]) ∧ w.grownBy w' none := by
  have hl := q_listNo hb hn hc k
  have ht := fun W => told_no W
  clear hb hc
  go_enter Tryz.func64, Tryz.ntmps64
  go_wp2_with (first | (go_at_call 128; go_must (refine hl.mono ?_); rintro y w1 ⟨lb, rfl, hf1, d0, d1, d2⟩) | (go_at_call 127; go_must (refine (ht _).mono ?_); rintro y w' ⟨rfl, rfl⟩) | fail)
  go_ret2
  exact ⟨rfl, hf1⟩
end
end Go.Proofs.YtjkdflnnpdionaaGreat

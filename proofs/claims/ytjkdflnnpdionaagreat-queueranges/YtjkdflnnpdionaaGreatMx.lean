import Derived.Test.YtjkdflnnpdionaaGreatNh
/-
  What is told of lists and of items.
-/
namespace Go.Proofs.YtjkdflnnpdionaaGreat
open Go.RowKit
set_option linter.unusedVariables false

/-- A handle, and whether there is one. -/
abbrev pr (v : Nat) : Value := .tuple #[.int .u64 (v : Int), .bool (decide (¬ v = 0))]
section
variable {w : World} {lb rb lsb : Nat} {lv : Value} {vs : Nat → Value} {Y : Nat → List Nat} {szb szc : Nat}
set_option maxRecDepth 100000 in
/-- next, of an item that stands in a list: towards the head. -/
theorem rnext_ahead (h : RQ w lb rb lsb lv vs Y szb szc) {H j : Nat} {U V : List Nat} (hS : Stands Y H j U V) (hz : 0 ∉ Y j) :
    Calls Tryz.prog 158 #[.pointer (some ⟨lb, 0, none⟩), .int .u64 H, .int .i64 (-1)] w fun y w' => y = .returned (pr (U.getLastD 0)) ∧ w.grownBy w' none := by
  have hw := where_yes h hS
  obtain ⟨hj, hY, hU, hUU⟩ := hS
  have c2 := h.box.cell 2
  simp at c2
  have cj := h.rl.cell hj
  have hr := h.rl.ls j hj
  have hn := h.rl.ln j hj
  have hj9 : (j : Int) < 9 := by omega
  have hj0 : ¬ (j : Int) < 0 := by omega
  clear h hUU
  rcases List.eq_nil_or_concat U with rfl | ⟨U', z, rfl⟩
  · simp only [List.length_nil, show ((0 : Nat) : Int) = 0 from rfl] at hw
    show Calls _ _ _ _ fun y w' => y = .returned (.tuple #[.int .u64 0, .bool false]) ∧ _
    clear hr hY hU cj hn
    go_enter Tryz.func158, Tryz.ntmps158
    go_wp2_with (first | (go_at_call 85; go_must (refine hw.mono ?_); rintro y w' ⟨rfl, rfl⟩) | fail)
    go_ret2
    exact ⟨rfl, gb_refl _ _⟩
  · rw [List.concat_eq_append] at *
    have hz0 : z ≠ 0 := fun e => hz (by rw [hY]; simp [e])
    have hlen : (Y j).length = U'.length + 1 + (V.length + 1) := by rw [hY]; simp; omega
    have hYz : (Y j)[U'.length]? = some z := by rw [hY]; simp
    obtain ⟨ao, cc, hvj, _, _, _, hao⟩ := row_shape hr
    obtain ⟨g, rfl⟩ := hao (by omega)
    rw [hvj] at hr cj
    have hcl := row_cell hr U'.length (.int .u64 (z : Int)) (uvs_get hYz)
    have hul : U'.length + 1 < (Y j).length := by omega
    rw [show (U' ++ [z]).getLastD 0 = z by simp]
    unfold pr
    rw [decide_eq_true hz0]
    simp only [List.length_append, List.length_singleton] at hw
    generalize (Y j).length = n at *
    generalize U'.length = ul at *
    have e1 : IntKind.i64.wrap ((ul : Int) + 1 + -1) = (ul : Int) := by rw [IntKind.wrap_i64]; omega
    have e0 : IntKind.i64.wrap ((ul : Int) + 1 - 1) = (ul : Int) := by rw [IntKind.wrap_i64]; omega
    have e2 : ((ul + 1 : Nat) : Int) = (ul : Int) + 1 := rfl
    rw [e2] at hw
    have e3 : ¬ (ul : Int) < 0 := by omega
    have e4 : (ul : Int) < (n : Int) := by omega
    have e5 : ¬ (n : Int) ≤ (ul : Int) := by omega
    clear hr hY hU hao hvj hz hlen hYz
    go_enter Tryz.func158, Tryz.ntmps158
    go_wp2_with (first | (go_at_call 85; go_must (refine hw.mono ?_); rintro y w' ⟨rfl, rfl⟩) | fail)
    go_ret2
    exact ⟨rfl, gb_refl _ _⟩
set_option maxRecDepth 100000 in
/-- next, towards the tail. -/
theorem rnext_behind (h : RQ w lb rb lsb lv vs Y szb szc) {H j : Nat} {U V : List Nat} (hS : Stands Y H j U V) (hz : 0 ∉ Y j) :
    Calls Tryz.prog 158 #[.pointer (some ⟨lb, 0, none⟩), .int .u64 H, .int .i64 1] w fun y w' => y = .returned (pr (V.headD 0)) ∧ w.grownBy w' none := by
  have hw := where_yes h hS
  obtain ⟨hj, hY, hU, hUU⟩ := hS
  have c2 := h.box.cell 2
  simp at c2
  have cj := h.rl.cell hj
  have hr := h.rl.ls j hj
  have hn := h.rl.ln j hj
  have hj9 : (j : Int) < 9 := by omega
  have hj0 : ¬ (j : Int) < 0 := by omega
  clear h hUU
  have hlen : (Y j).length = U.length + 1 + V.length := by rw [hY]; simp; omega
  obtain ⟨ao, cc, hvj, _, _, _, hao⟩ := row_shape hr
  obtain ⟨g, rfl⟩ := hao (by omega)
  rw [hvj] at hr cj
  cases V with
  | nil =>
    show Calls _ _ _ _ fun y w' => y = .returned (.tuple #[.int .u64 0, .bool false]) ∧ _
    simp only [List.length_nil, Nat.add_zero] at hlen
    rw [hlen] at cj hn
    clear hr hY hU hao hvj hz hlen
    generalize U.length = ul at *
    have e1 : IntKind.i64.wrap ((ul : Int) + 1) = (ul : Int) + 1 := by rw [IntKind.wrap_i64]; omega
    have e3 : ¬ (ul : Int) + 1 < 0 := by omega
    go_enter Tryz.func158, Tryz.ntmps158
    go_wp2_with (first | (go_at_call 85; go_must (refine hw.mono ?_); rintro y w' ⟨rfl, rfl⟩) | fail)
    go_ret2
    exact ⟨rfl, gb_refl _ _⟩
  | cons z V' =>
    have hz0 : z ≠ 0 := fun e => hz (by rw [hY]; simp [e])
    have hYz : (Y j)[U.length + 1]? = some z := by rw [hY]; simp
    have hcl := row_cell hr (U.length + 1) (.int .u64 (z : Int)) (uvs_get hYz)
    rw [show (z :: V').headD 0 = z by simp]
    unfold pr
    rw [decide_eq_true hz0]
    have hul : U.length + 1 < (Y j).length := by rw [hlen]; simp
    generalize (Y j).length = n at *
    generalize U.length = ul at *
    have e1 : IntKind.i64.wrap ((ul : Int) + 1) = (ul : Int) + 1 := by rw [IntKind.wrap_i64]; omega
    have e3 : ¬ (ul : Int) + 1 < 0 := by omega
    have e4 : (ul : Int) + 1 < (n : Int) := by omega
    have e5 : ¬ (n : Int) ≤ (ul : Int) + 1 := by omega
    clear hr hY hU hao hvj hz hlen hYz
    go_enter Tryz.func158, Tryz.ntmps158
    go_wp2_with (first | (go_at_call 85; go_must (refine hw.mono ?_); rintro y w' ⟨rfl, rfl⟩) | fail)
    go_ret2
    exact ⟨rfl, gb_refl _ _⟩
set_option maxRecDepth 100000 in
/-- next, of what stands in no list. -/
theorem rnext_no (h : RQ w lb rb lsb lv vs Y szb szc) {H : Nat} (hS : Nowhere Y H) (by_ : Int) :
    Calls Tryz.prog 158 #[.pointer (some ⟨lb, 0, none⟩), .int .u64 H, .int .i64 by_] w fun y w' => y = .returned (pr 0) ∧ w.grownBy w' none := by
  have hw := where_no h hS
  show Calls _ _ _ _ fun y w' => y = .returned (.tuple #[.int .u64 0, .bool false]) ∧ _
  clear h hS
  go_enter Tryz.func158, Tryz.ntmps158
  go_wp2_with (first | (go_at_call 85; go_must (refine hw.mono ?_); rintro y w' ⟨rfl, rfl⟩) | fail)
  go_ret2
  exact ⟨rfl, gb_refl _ _⟩
theorem rahead (H v : Nat) (hn : Calls Tryz.prog 158 #[.pointer (some ⟨lb, 0, none⟩), .int .u64 H, .int .i64 (-1)] w fun y w' => y = .returned (pr v) ∧ w.grownBy w' none) :
    Calls Tryz.prog 94 #[.pointer (some ⟨lb, 0, none⟩), .int .u64 H] w fun y w' => y = .returned (pr v) ∧ w.grownBy w' none := by
  unfold pr at hn ⊢
  generalize decide (¬ v = 0) = bv at *
  go_enter Tryz.func94, Tryz.ntmps94
  go_wp2_with (first | (go_at_call 158; go_must (refine hn.mono ?_); rintro y w' ⟨rfl, hf⟩) | fail)
  go_ret2
  exact ⟨rfl, hf⟩
theorem rbehind (H v : Nat) (hn : Calls Tryz.prog 158 #[.pointer (some ⟨lb, 0, none⟩), .int .u64 H, .int .i64 1] w fun y w' => y = .returned (pr v) ∧ w.grownBy w' none) :
    Calls Tryz.prog 95 #[.pointer (some ⟨lb, 0, none⟩), .int .u64 H] w fun y w' => y = .returned (pr v) ∧ w.grownBy w' none := by
  unfold pr at hn ⊢
  generalize decide (¬ v = 0) = bv at *
  go_enter Tryz.func95, Tryz.ntmps95
  go_wp2_with (first | (go_at_call 158; go_must (refine hn.mono ?_); rintro y w' ⟨rfl, hf⟩) | fail)
  go_ret2
  exact ⟨rfl, hf⟩
set_option maxRecDepth 100000 in
/-- Head. -/
theorem rhead_88 (h : RQ w lb rb lsb lv vs Y szb szc) {c k : Nat} (hc : c < 3) (hk : k < 3) (hz : 0 ∉ Y (3 * c + k)) :
    Calls Tryz.prog 88 #[.pointer (some ⟨lb, 0, none⟩), .int .i64 c, .int .i64 ((k : Int) + 1)] w fun y w' => y = .returned (pr ((Y (3 * c + k)).headD 0)) ∧ w.grownBy w' none := by
  have hn9 := h.rl.ln (3 * c + k) (by omega)
  have ha := all_104 h hc hk
  clear h
  generalize Y (3 * c + k) = xs at *
  cases xs with
  | nil =>
    have hl := ha.mono (R' := fun y w' => ∃ ao cc, y = .returned (.slice ao 0 cc) ∧ w.grownBy w' none) (by
      rintro y w' ⟨v', rfl, hg, ho⟩
      obtain ⟨ao, cc, rfl, _⟩ := row_shape ho
      exact ⟨ao, cc, rfl, hg⟩)
    show Calls _ _ _ _ fun y w' => y = .returned (.tuple #[.int .u64 0, .bool false]) ∧ _
    clear ha
    go_enter Tryz.func88, Tryz.ntmps88
    go_wp2_with (first | (go_at_call 20; go_must (refine hl.mono ?_); rintro y w1 ⟨ao, cc, rfl, hg1⟩) | fail)
    go_ret2
    exact ⟨rfl, hg1⟩
  | cons z V =>
    have hz0 : z ≠ 0 := fun e => hz (by simp [e])
    have hl := ha.mono (R' := fun y w' => ∃ g cc, y = .returned (.slice (some ⟨g, 0, none⟩) (V.length + 1) cc) ∧ w'.cell? ⟨g, 0, none⟩ = some (.int .u64 (z : Int)) ∧ w.grownBy w' none) (by
      rintro y w' ⟨v', rfl, hg, ho⟩
      obtain ⟨ao, cc, rfl, _, _, _, hao⟩ := row_shape ho
      obtain ⟨g, rfl⟩ := hao (by simp)
      exact ⟨g, cc, rfl, row_cell ho 0 _ (uvs_get (by simp)), hg⟩)
    rw [show (z :: V).headD 0 = z by simp]
    unfold pr
    rw [decide_eq_true hz0]
    have hul : V.length ≤ 1000 := by simp at hn9; omega
    generalize V.length = ul at *
    have e1 : ¬ (ul : Int) + 1 = 0 := by omega
    have e2 : (0 : Int) < (ul : Int) + 1 := by omega
    clear ha hz hn9
    go_enter Tryz.func88, Tryz.ntmps88
    go_wp2_with (first | (go_at_call 20; go_must (refine hl.mono ?_); rintro y w1 ⟨g, cc, rfl, hcl, hg1⟩) | fail)
    go_ret2
    exact ⟨rfl, hg1⟩
theorem rhead_no (h : RQ w lb rb lsb lv vs Y szb szc) {c k : Int} (hck : ¬ (0 ≤ c ∧ c < 3 ∧ 1 ≤ k ∧ k ≤ 3)) :
    Calls Tryz.prog 88 #[.pointer (some ⟨lb, 0, none⟩), .int .i64 c, .int .i64 k] w fun y w' => y = .returned (pr 0) ∧ w.grownBy w' none := by
  have hl := all_no h hck
  show Calls _ _ _ _ fun y w' => y = .returned (.tuple #[.int .u64 0, .bool false]) ∧ _
  clear h hck
  go_enter Tryz.func88, Tryz.ntmps88
  go_wp2_with (first | (go_at_call 20; go_must (refine hl.mono ?_); rintro y w' ⟨rfl, rfl⟩) | fail)
  go_ret2
  exact ⟨rfl, gb_refl _ _⟩
theorem rtail_no (h : RQ w lb rb lsb lv vs Y szb szc) {c k : Int} (hck : ¬ (0 ≤ c ∧ c < 3 ∧ 1 ≤ k ∧ k ≤ 3)) :
    Calls Tryz.prog 89 #[.pointer (some ⟨lb, 0, none⟩), .int .i64 c, .int .i64 k] w fun y w' => y = .returned (pr 0) ∧ w.grownBy w' none := by
  have hl := all_no h hck
  show Calls _ _ _ _ fun y w' => y = .returned (.tuple #[.int .u64 0, .bool false]) ∧ _
  clear h hck
  go_enter Tryz.func89, Tryz.ntmps89
  go_wp2_with (first | (go_at_call 20; go_must (refine hl.mono ?_); rintro y w' ⟨rfl, rfl⟩) | fail)
  go_ret2
  exact ⟨rfl, gb_refl _ _⟩
end

section
variable {w : World} {sb qb gl gc : Nat} {F : Nat → Prop} {B : Bl} {b c d e f g : Int} {A : Ab} {zs : List Int} {T : List Nat} {bs : Nat → It} {p n s : Nat → Nat} {L : Ls}
set_option maxRecDepth 100000 in
/-- list, of what there is not. -/
theorem q_list0 (h : QM w sb qb gl gc F B b c d e f g A zs T bs p n s L) (h3 : A.n = 3) {ci k : Int} (hck : ¬ (0 ≤ ci ∧ ci < 3 ∧ 1 ≤ k ∧ k ≤ 3)) :
    Calls Tryz.prog 128 #[.pointer (some ⟨qb, 0, none⟩), .int .i64 ci, .int .i64 k] w fun y w' => ∃ lb, y = .returned (.pointer (some ⟨lb, 0, none⟩)) ∧ w.grownBy w' none ∧ w'.cell? ⟨lb, 0, none⟩ = some (.int .u64 0) ∧ w'.cell? ⟨lb, 1, none⟩ = some (.int .u64 0) ∧ w'.cell? ⟨lb, 2, none⟩ = some (.int .i64 0) := by
  have hb := h.box
  rw [h3] at hb
  by_cases hc : 0 ≤ ci ∧ ci < 3
  · have hk : ¬ (1 ≤ k ∧ k ≤ 3) := fun hk => hck ⟨hc.1, hc.2, hk⟩
    have hin := fun W => isKind_no k hk W
    have c1 := hb.cell 1
    simp at c1
    obtain ⟨x1, x2⟩ := hc
    have x3 : ¬ ci < 0 := by omega
    have x4 : ¬ (3 : Int) ≤ ci := by omega
    clear hb h hck hk
    go_enter Tryz.func128, Tryz.ntmps128
    go_wp2_with (first | (go_at_call 76; go_must (refine (hin _).mono ?_); rintro y w' ⟨rfl, rfl⟩) | fail)
    go_ret
    exact ⟨_, rfl, gb_alloc (gb_refl _ _) _, (Box.new w 134 #[.int .u64 0, .int .u64 0, .int .i64 0]).cell 0, (Box.new w 134 #[.int .u64 0, .int .u64 0, .int .i64 0]).cell 1, (Box.new w 134 #[.int .u64 0, .int .u64 0, .int .i64 0]).cell 2⟩
  · exact q_listNo hb (by omega) (by omega) k
theorem q_len0 (h : QM w sb qb gl gc F B b c d e f g A zs T bs p n s L) (h3 : A.n = 3) {ci k : Int} (hck : ¬ (0 ≤ ci ∧ ci < 3 ∧ 1 ≤ k ∧ k ≤ 3)) :
    Calls Tryz.prog 65 #[.pointer (some ⟨qb, 0, none⟩), .int .i64 ci, .int .i64 k] w fun y w' => y = .returned (.int .i64 0) ∧ w.grownBy w' none := by
  have hl := q_list0 h h3 hck
  clear h hck
  go_enter Tryz.func65, Tryz.ntmps65
  go_wp2_with (first | (go_at_call 128; go_must (refine hl.mono ?_); rintro y w1 ⟨lb, rfl, hf1, d0, d1, d2⟩) | fail)
  go_ret
  exact ⟨rfl, hf1⟩
theorem q_tail0 (h : QM w sb qb gl gc F B b c d e f g A zs T bs p n s L) (h3 : A.n = 3) {ci k : Int} (hck : ¬ (0 ≤ ci ∧ ci < 3 ∧ 1 ≤ k ∧ k ≤ 3)) :
    Calls Tryz.prog 64 #[.pointer (some ⟨qb, 0, none⟩), .int .i64 ci, .int .i64 k] w fun y w' => y = .returned (pr 0) ∧ w.grownBy w' none := by
  have hl := q_list0 h h3 hck
  have ht := fun W => told_no W
  show Calls _ _ _ _ fun y w' => y = .returned (.tuple #[.int .u64 0, .bool false]) ∧ _
  clear h hck
  go_enter Tryz.func64, Tryz.ntmps64
  go_wp2_with (first | (go_at_call 128; go_must (refine hl.mono ?_); rintro y w1 ⟨lb, rfl, hf1, d0, d1, d2⟩) | (go_at_call 127; go_must (refine (ht _).mono ?_); rintro y w' ⟨rfl, rfl⟩) | fail)
  go_ret2
  exact ⟨rfl, hf1⟩
theorem q_head0 (h : QM w sb qb gl gc F B b c d e f g A zs T bs p n s L) (h3 : A.n = 3) {ci k : Int} (hck : ¬ (0 ≤ ci ∧ ci < 3 ∧ 1 ≤ k ∧ k ≤ 3)) :
    Calls Tryz.prog 63 #[.pointer (some ⟨qb, 0, none⟩), .int .i64 ci, .int .i64 k] w fun y w' => y = .returned (pr 0) ∧ w.grownBy w' none := by
  have hl := q_list0 h h3 hck
  have ht := fun W => told_no W
  show Calls _ _ _ _ fun y w' => y = .returned (.tuple #[.int .u64 0, .bool false]) ∧ _
  clear h hck
  go_enter Tryz.func63, Tryz.ntmps63
  go_wp2_with (first | (go_at_call 128; go_must (refine hl.mono ?_); rintro y w1 ⟨lb, rfl, hf1, d0, d1, d2⟩) | (go_at_call 127; go_must (refine (ht _).mono ?_); rintro y w' ⟨rfl, rfl⟩) | fail)
  go_ret2
  exact ⟨rfl, hf1⟩
/-- Ahead and Behind of what stands in no list. -/
theorem q_nb0 {H : Nat} {st : Int} (hs : ¬ (1 ≤ st ∧ st ≤ 3)) (hst : Calls Tryz.prog 77 #[.pointer (some ⟨qb, 0, none⟩), .int .u64 H] w fun y w' => y = .returned (.int .i64 st) ∧ w.grownBy w' none) (j : Int) :
    Calls Tryz.prog 157 #[.pointer (some ⟨qb, 0, none⟩), .int .u64 H, .int .i64 j] w fun y w' => y = .returned (pr 0) ∧ w.grownBy w' none := by
  have hin := fun W => isKind_no st hs W
  show Calls _ _ _ _ fun y w' => y = .returned (.tuple #[.int .u64 0, .bool false]) ∧ _
  clear hs
  go_enter Tryz.func157, Tryz.ntmps157
  go_wp2_with (first | (go_at_call 77; go_must (refine hst.mono ?_); rintro y w1 ⟨rfl, hf1⟩) | (go_at_call 76; go_must (refine (hin _).mono ?_); rintro y w' ⟨rfl, rfl⟩) | fail)
  go_ret2
  exact ⟨rfl, hf1⟩
theorem q_ahead0 {H : Nat} (hn : Calls Tryz.prog 157 #[.pointer (some ⟨qb, 0, none⟩), .int .u64 H, .int .i64 1] w fun y w' => y = .returned (pr 0) ∧ w.grownBy w' none) :
    Calls Tryz.prog 92 #[.pointer (some ⟨qb, 0, none⟩), .int .u64 H] w fun y w' => y = .returned (pr 0) ∧ w.grownBy w' none := by
  change Calls _ _ _ _ fun y w' => y = .returned (.tuple #[.int .u64 0, .bool false]) ∧ _ at hn
  show Calls _ _ _ _ fun y w' => y = .returned (.tuple #[.int .u64 0, .bool false]) ∧ _
  go_enter Tryz.func92, Tryz.ntmps92
  go_wp2_with (first | (go_at_call 157; go_must (refine hn.mono ?_); rintro y w1 ⟨rfl, hf1⟩) | fail)
  go_ret2
  exact ⟨rfl, hf1⟩
theorem q_behind0 {H : Nat} (hn : Calls Tryz.prog 157 #[.pointer (some ⟨qb, 0, none⟩), .int .u64 H, .int .i64 2] w fun y w' => y = .returned (pr 0) ∧ w.grownBy w' none) :
    Calls Tryz.prog 93 #[.pointer (some ⟨qb, 0, none⟩), .int .u64 H] w fun y w' => y = .returned (pr 0) ∧ w.grownBy w' none := by
  change Calls _ _ _ _ fun y w' => y = .returned (.tuple #[.int .u64 0, .bool false]) ∧ _ at hn
  show Calls _ _ _ _ fun y w' => y = .returned (.tuple #[.int .u64 0, .bool false]) ∧ _
  go_enter Tryz.func93, Tryz.ntmps93
  go_wp2_with (first | (go_at_call 157; go_must (refine hn.mono ?_); rintro y w1 ⟨rfl, hf1⟩) | fail)
  go_ret2
  exact ⟨rfl, hf1⟩
end
end Go.Proofs.YtjkdflnnpdionaaGreat
/-
  looks, next, header.
-/
namespace Go.Proofs.YtjkdflnnpdionaaGreat
open Go.RowKit
set_option linter.unusedVariables false

/-- What is told of a list, by both. -/
structure Lst (w : World) (qb lb : Nat) (c kd : Int) (l : List Nat) : Prop where
  hd : Calls Tryz.prog 63 #[.pointer (some ⟨qb, 0, none⟩), .int .i64 c, .int .i64 kd] w fun y w' => y = .returned (pr (l.headD 0)) ∧ w.grownBy w' none
  tl : Calls Tryz.prog 64 #[.pointer (some ⟨qb, 0, none⟩), .int .i64 c, .int .i64 kd] w fun y w' => y = .returned (pr (l.getLastD 0)) ∧ w.grownBy w' none
  ln : Calls Tryz.prog 65 #[.pointer (some ⟨qb, 0, none⟩), .int .i64 c, .int .i64 kd] w fun y w' => y = .returned (.int .i64 l.length) ∧ w.grownBy w' none
  rhd : Calls Tryz.prog 88 #[.pointer (some ⟨lb, 0, none⟩), .int .i64 c, .int .i64 kd] w fun y w' => y = .returned (pr (l.headD 0)) ∧ w.grownBy w' none
  rtl : Calls Tryz.prog 89 #[.pointer (some ⟨lb, 0, none⟩), .int .i64 c, .int .i64 kd] w fun y w' => y = .returned (pr (l.getLastD 0)) ∧ w.grownBy w' none
  rln : Calls Tryz.prog 91 #[.pointer (some ⟨lb, 0, none⟩), .int .i64 c, .int .i64 kd] w fun y w' => y = .returned (.int .i64 l.length) ∧ w.grownBy w' none
  rall : Calls Tryz.prog 20 #[.pointer (some ⟨lb, 0, none⟩), .int .i64 c, .int .i64 kd] w fun y w' => ∃ v', y = .returned v' ∧ w.grownBy w' none ∧ w'.ownsRow w.heap.size 26 1 v' l.length (uvs l)
/-- What stands in a list that may not be there. -/
def SL (S : Lm) (c kd : Int) : List Nat := if 0 ≤ c ∧ c < 3 ∧ 1 ≤ kd ∧ kd ≤ 3 then S c.toNat (kd - 1).toNat else []
section
variable {w : World} {P : Nat → Prop} {wb N : Nat} {D : Wd} {lsb : Nat} {vs : Nat → Value} {Y : Nat → List Nat} {cl : Nat → Nat} {S : Lm}
theorem GW.list (hW : GW w P wb N D lsb vs Y S cl) (hd : Dm Y S) (c kd : Int) : (SL S c kd).length ≤ 900 ∧ 0 ∉ SL S c kd ∧ Lst w D.qb D.lb c kd (SL S c kd) := by
  obtain ⟨bs, p, n, s, hX⟩ := hW.gx
  have hM := hW.ms
  have hl : D.xl.length ≤ 300 := by have := hW.nN; omega
  have hlt := hX.lt hl
  have hqm := hX.qm hM
  have hql := hX.lq hM hl
  obtain ⟨szb, szc, hD⟩ := hM.ds hX.rf hX.rn
  unfold SL
  by_cases hck : 0 ≤ c ∧ c < 3 ∧ 1 ≤ kd ∧ kd ≤ 3
  · rw [if_pos hck]
    obtain ⟨ci, rfl⟩ : ∃ ci : Nat, c = (ci : Int) := ⟨c.toNat, by omega⟩
    obtain ⟨k, rfl⟩ : ∃ k : Nat, kd = (k : Int) + 1 := ⟨(kd - 1).toNat, by omega⟩
    have hc3 : ci < 3 := by omega
    have hk3 : k < 3 := by omega
    have hcn : ci < D.A.n := by rw [hX.n3]; exact hc3
    rw [show ((ci : Int)).toNat = ci by omega, show ((k : Int) + 1 - 1).toNat = k by omega]
    have hy := hd.ys ci k hc3 hk3
    have h1 := hlt.ln ci k
    have hz : 0 ∉ S ci k := fun hm => hlt.z (hlt.sub _ _ _ hm).1
    refine ⟨by omega, hz, q_headL hql hcn hk3 _ rfl, q_tailL hql hcn hk3 _ rfl, q_lenL hql hcn hk3, ?_, ?_, ?_, ?_⟩
    · rw [← hy] at hz ⊢; exact rhead_88 hD.rq hc3 hk3 hz
    · rw [← hy] at hz ⊢; exact tail_64 hD.rq hc3 hk3 _ rfl hz
    · rw [← hy]; exact len_84 hD.rq hc3 hk3
    · rw [← hy]; exact all_104 hD.rq hc3 hk3
  · rw [if_neg hck]
    refine ⟨by simp, by simp, q_head0 hqm hX.n3 hck, q_tail0 hqm hX.n3 hck, q_len0 hqm hX.n3 hck, rhead_no hD.rq hck, rtail_no hD.rq hck, (len_no hD.rq hck).mono ?_, (all_no hD.rq hck).mono ?_⟩
    · rintro y w' ⟨rfl, rfl⟩
      exact ⟨rfl, gb_refl _ _⟩
    · rintro y w' ⟨rfl, rfl⟩
      exact ⟨_, rfl, gb_refl _ _, World.ownsRow_nil _ _ _ _⟩
/-- What is told of an item, by both. -/
structure Nbr (w : World) (qb lb : Nat) (H a b : Nat) : Prop where
  ah : Calls Tryz.prog 92 #[.pointer (some ⟨qb, 0, none⟩), .int .u64 H] w fun y w' => y = .returned (pr a) ∧ w.grownBy w' none
  bh : Calls Tryz.prog 93 #[.pointer (some ⟨qb, 0, none⟩), .int .u64 H] w fun y w' => y = .returned (pr b) ∧ w.grownBy w' none
  rah : Calls Tryz.prog 94 #[.pointer (some ⟨lb, 0, none⟩), .int .u64 H] w fun y w' => y = .returned (pr a) ∧ w.grownBy w' none
  rbh : Calls Tryz.prog 95 #[.pointer (some ⟨lb, 0, none⟩), .int .u64 H] w fun y w' => y = .returned (pr b) ∧ w.grownBy w' none
/-- What its header says. -/
structure Hdr (w : World) (sb lb : Nat) (H a b st : Nat) : Prop where
  sta : Calls Tryz.prog 124 #[.pointer (some ⟨sb, 0, none⟩), .int .u64 H] w fun y w' => y = .returned (.tuple #[.int .i64 (st : Int), .int .i64 0]) ∧ w.grownBy w' none
  l1 : Calls Tryz.prog 125 #[.pointer (some ⟨sb, 0, none⟩), .int .u64 H, .int .i64 1] w fun y w' => y = .returned (.tuple #[.int .u64 (a : Int), .int .i64 0]) ∧ w.grownBy w' none
  l2 : Calls Tryz.prog 125 #[.pointer (some ⟨sb, 0, none⟩), .int .u64 H, .int .i64 2] w fun y w' => y = .returned (.tuple #[.int .u64 (b : Int), .int .i64 0]) ∧ w.grownBy w' none
  rst : Calls Tryz.prog 126 #[.pointer (some ⟨lb, 0, none⟩), .int .u64 H] w fun y w' => y = .returned (.int .i64 (st : Int)) ∧ w.grownBy w' none
theorem near_none {bs : Nat → It} {p n s : Nat → Nat} (hW : GW w P wb N D lsb vs Y S cl) (hd : Dm Y S) (hX : GX D cl S bs p n s) {H : Nat} (h64 : H < 18446744073709551616) (hH : H ∈ D.xl) (hs4 : s H = 4) (hno : ∀ c k, H ∉ S c k) : Nbr w D.qb D.lb H 0 0 ∧ (Calls Tryz.prog 27 #[.pointer (some ⟨D.lb, 0, none⟩), .int .u64 H] w fun y w' => y = .returned (.bool (decide (H ∈ D.xl))) ∧ w.grownBy w' none) ∧ (H ∈ D.xl → Hdr w D.sb D.lb H 0 0 4) := by
  have hM := hW.ms
  have hl : D.xl.length ≤ 300 := by have := hW.nN; omega
  have hlt := hX.lt hl
  have hqm := hX.qm hM
  have hql := hX.lq hM hl
  have hIs := hX.is_ hM hl H
  obtain ⟨szb, szc, hD⟩ := hM.ds hX.rf hX.rn
  have hst : ∀ v : Nat, s H = v → Calls Tryz.prog 124 #[.pointer (some ⟨D.sb, 0, none⟩), .int .u64 H] w fun y w' => y = .returned (.tuple #[.int .i64 (v : Int), .int .i64 0]) ∧ w.grownBy w' none := fun v hv => by
    obtain ⟨x, kk, hX1, hI1, _⟩ := hqm.its H hH
    have := state_yes hqm.iss hqm.inv.fit hX1 _ hI1
    rw [show (itm bs p n s H).st = ((s H : Nat) : Int) from rfl, hv] at this
    exact this
  have hl1 := q_link hqm hH 1 (.inl rfl)
  have hl2 := q_link hqm hH 2 (.inr rfl)
  simp only [if_true, show ((1 : Nat) : Int) = 1 from rfl, show ((2 : Nat) : Int) = 2 from rfl, show ¬ (2 : Nat) = 1 by omega, if_false] at hl1 hl2
  obtain ⟨n1, n2⟩ := hX.li.non H hH hs4
  have hq := q_state hqm hH
  rw [hs4] at hq
  have hnw := hd.nowhere hno
  have hI := hIs
  rw [decide_eq_true hH] at hI
  rw [n1] at hl1
  rw [n2] at hl2
  exact ⟨⟨q_ahead0 (q_nb0 (by omega) hq 1), q_behind0 (q_nb0 (by omega) hq 2), rahead H 0 (rnext_no hD.rq hnw _), rbehind H 0 (rnext_no hD.rq hnw _)⟩, hIs, fun _ => ⟨hst 4 hs4, hl1, hl2, rstate_no hD.rq hnw hI⟩⟩
theorem near_list {bs : Nat → It} {p n s : Nat → Nat} (hW : GW w P wb N D lsb vs Y S cl) (hd : Dm Y S) (hX : GX D cl S bs p n s) {H : Nat} (h64 : H < 18446744073709551616) (hH : H ∈ D.xl) {k : Nat} {U V : List Nat} (hk : k < 3) (hsk : s H = k + 1) (hXk : S (cl H) k = U ++ H :: V) : Nbr w D.qb D.lb H (U.getLastD 0) (V.headD 0) ∧ (Calls Tryz.prog 27 #[.pointer (some ⟨D.lb, 0, none⟩), .int .u64 H] w fun y w' => y = .returned (.bool (decide (H ∈ D.xl))) ∧ w.grownBy w' none) ∧ (H ∈ D.xl → Hdr w D.sb D.lb H (U.getLastD 0) (V.headD 0) (k + 1)) := by
  have hM := hW.ms
  have hl : D.xl.length ≤ 300 := by have := hW.nN; omega
  have hlt := hX.lt hl
  have hqm := hX.qm hM
  have hql := hX.lq hM hl
  have hIs := hX.is_ hM hl H
  obtain ⟨szb, szc, hD⟩ := hM.ds hX.rf hX.rn
  have hst : ∀ v : Nat, s H = v → Calls Tryz.prog 124 #[.pointer (some ⟨D.sb, 0, none⟩), .int .u64 H] w fun y w' => y = .returned (.tuple #[.int .i64 (v : Int), .int .i64 0]) ∧ w.grownBy w' none := fun v hv => by
    obtain ⟨x, kk, hX1, hI1, _⟩ := hqm.its H hH
    have := state_yes hqm.iss hqm.inv.fit hX1 _ hI1
    rw [show (itm bs p n s H).st = ((s H : Nat) : Int) from rfl, hv] at this
    exact this
  have hl1 := q_link hqm hH 1 (.inl rfl)
  have hl2 := q_link hqm hH 2 (.inr rfl)
  simp only [if_true, show ((1 : Nat) : Int) = 1 from rfl, show ((2 : Nat) : Int) = 2 from rfl, show ¬ (2 : Nat) = 1 by omega, if_false] at hl1 hl2
  have hc3 := hX.c3 hH
  have hS := hd.stands hlt hc3 hk hXk
  have hz : 0 ∉ Y (3 * cl H + k) := by
    rw [hd.ys _ _ hc3 hk]
    exact fun hm => hlt.z (hlt.sub _ _ _ hm).1
  obtain ⟨n1, n2⟩ := hX.li.lk _ _ U H V hXk
  rw [n1] at hl1
  rw [n2] at hl2
  have hrs := rstate_yes hD.rq hS (by omega)
  rw [show (3 * cl H + k) % 3 + 1 = k + 1 by omega] at hrs
  exact ⟨⟨q_ahead hql hXk _ rfl, q_behind hql hXk _ rfl, rahead H _ (rnext_ahead hD.rq hS hz), rbehind H _ (rnext_behind hD.rq hS hz)⟩, hIs, fun _ => ⟨hst _ hsk, hl1, hl2, hrs⟩⟩
theorem near_out {bs : Nat → It} {p n s : Nat → Nat} (hW : GW w P wb N D lsb vs Y S cl) (hd : Dm Y S) (hX : GX D cl S bs p n s) {H : Nat} (h64 : H < 18446744073709551616) (hH : H ∉ D.xl) : Nbr w D.qb D.lb H 0 0 ∧ (Calls Tryz.prog 27 #[.pointer (some ⟨D.lb, 0, none⟩), .int .u64 H] w fun y w' => y = .returned (.bool (decide (H ∈ D.xl))) ∧ w.grownBy w' none) ∧ (H ∈ D.xl → Hdr w D.sb D.lb H 0 0 0) := by
  have hM := hW.ms
  have hl : D.xl.length ≤ 300 := by have := hW.nN; omega
  have hlt := hX.lt hl
  have hqm := hX.qm hM
  have hql := hX.lq hM hl
  have hIs := hX.is_ hM hl H
  obtain ⟨szb, szc, hD⟩ := hM.ds hX.rf hX.rn
  have hq := q_stateN hqm (hX.noI h64 hH)
  have hnw := hd.nowhere (hX.out hH)
  exact ⟨⟨q_ahead0 (q_nb0 (by omega) hq 1), q_behind0 (q_nb0 (by omega) hq 2), rahead H 0 (rnext_no hD.rq hnw _), rbehind H 0 (rnext_no hD.rq hnw _)⟩, hIs, fun h => absurd h hH⟩
theorem told_same (v : Nat) (b : Bool) (w : World) : Calls Tryz.prog 90 #[.int .u64 v, .bool b, .int .u64 v, .bool b] w fun y w' => y = .returned (.bool true) ∧ w = w' := by
  go_enter Tryz.func90, Tryz.ntmps90
  go_wp2
  go_ret
  exact ⟨rfl, rfl⟩
theorem GT.list (hG : GT w P wb N D) (c kd : Int) : ∃ l : List Nat, l.length ≤ 900 ∧ 0 ∉ l ∧ ∀ W, w.grownBy W none → Lst W D.qb D.lb c kd l := by
  obtain ⟨lsb, vs, Y, S, cl, hW, hd⟩ := hG
  obtain ⟨h1, h2, _⟩ := hW.list hd c kd
  exact ⟨_, h1, h2, fun W hf => ((hW.kept0 hf).list hd c kd).2.2⟩
set_option maxRecDepth 100000 in
set_option maxHeartbeats 1000000 in
theorem looks_34 (hG : GT w P wb N D) (c kd : Int) : Calls Tryz.prog 34 #[.pointer (some ⟨wb, 0, none⟩), .int .i64 c, .int .i64 kd] w fun y w' => y = .returned (.bool true) ∧ w.grownBy w' none := by
  obtain ⟨l, h9, _, hL⟩ := hG.list c kd
  have hcs := fun W (hf : w.grownBy W none) => (hG.kept0 hf).cells
  obtain ⟨_, c1, _, c3⟩ := hG.cells
  have hts := fun v b W => told_same v b W
  have h1 := fun W hf => (hL W hf).hd
  have h2 := fun W hf => (hL W hf).tl
  have h3 := fun W hf => (hL W hf).rhd
  have h4 := fun W hf => (hL W hf).rtl
  have h5 := fun W hf => (hL W hf).ln
  have h6 := fun W hf => (hL W hf).rln
  unfold pr at h1 h2 h3 h4
  generalize decide (¬ l.headD 0 = 0) = ba at *
  generalize decide (¬ l.getLastD 0 = 0) = bb at *
  generalize l.headD 0 = ha at *
  generalize l.getLastD 0 = hb at *
  generalize l.length = ln at *
  clear hL hG
  go_enter Tryz.func34, Tryz.ntmps34
  go_wp2_with (first
    | (go_at_call 63; go_must (refine (h1 _ (gb_refl _ _)).mono ?_); rintro y w1 ⟨rfl, hf1⟩; (obtain ⟨_, p1, _, p3⟩ := hcs _ hf1))
    | (go_at_call 64; go_must (refine (h2 _ hf1).mono ?_); rintro y w2 ⟨rfl, hg2⟩; (have hf2 := gb_trans hf1 hg2); (obtain ⟨_, q1, _, q3⟩ := hcs _ hf2))
    | (go_at_call 88; go_must (refine (h3 _ hf2).mono ?_); rintro y w3 ⟨rfl, hg3⟩; (have hf3 := gb_trans hf2 hg3); (obtain ⟨_, r1, _, r3⟩ := hcs _ hf3))
    | (go_at_call 89; go_must (refine (h4 _ hf3).mono ?_); rintro y w4 ⟨rfl, hg4⟩; (have hf4 := gb_trans hf3 hg4); (obtain ⟨_, s1, _, s3⟩ := hcs _ hf4)) | fail)
  have hf4d : w.grownBy w4.drew none := gb_trans hf4 (gb_drew (gb_refl _ _))
  obtain ⟨_, t1, _, t3⟩ := hcs _ hf4d
  have hk0 := And.intro t1 t3
  go_region_held3 (fun W => W.cell? ⟨wb, 1, none⟩ = some (.pointer (some ⟨D.qb, 0, none⟩)) ∧ W.cell? ⟨wb, 3, none⟩ = some (.pointer (some ⟨D.lb, 0, none⟩))) ((first | with_reducible exact hk1 | with_reducible exact hk2 | with_reducible exact hk0 | go_keep)) ((first
    | (go_at_call 90; with_reducible refine (hts _ _ _).mono ?_; rintro y w' ⟨rfl, rfl⟩)
    | (go_at_call 65; with_reducible refine (h5 _ hf4d).mono ?_; rintro y w5 ⟨rfl, hg5⟩; (have hf5 := gb_trans hf4d hg5); (obtain ⟨_, u1, _, u3⟩ := hcs _ hf5); (have hk1 := And.intro u1 u3))
    | (go_at_call 91; with_reducible refine (h6 _ hf5).mono ?_; rintro y w6 ⟨rfl, hg6⟩; (have hf6 := gb_trans hf5 hg6); (obtain ⟨_, v1, _, v3⟩ := hcs _ hf6); (have hk2 := And.intro v1 v3))))
  go_wp2
  go_ret
  exact ⟨rfl, hf6⟩
end
end Go.Proofs.YtjkdflnnpdionaaGreat
/-
  next, header.
-/
namespace Go.Proofs.YtjkdflnnpdionaaGreat
open Go.RowKit
set_option linter.unusedVariables false

section
variable {w : World} {P : Nat → Prop} {wb N : Nat} {D : Wd}
theorem GT.near (hG : GT w P wb N D) {H : Nat} (h64 : H < 18446744073709551616) : ∃ a b st, ∀ W, w.grownBy W none → Nbr W D.qb D.lb H a b ∧ (Calls Tryz.prog 27 #[.pointer (some ⟨D.lb, 0, none⟩), .int .u64 H] W fun y w' => y = .returned (.bool (decide (H ∈ D.xl))) ∧ W.grownBy w' none) ∧ (H ∈ D.xl → Hdr W D.sb D.lb H a b st) := by
  obtain ⟨lsb, vs, Y, S, cl, hW, hd⟩ := hG
  obtain ⟨bs, p, n, s, hX⟩ := hW.gx
  have hM := hW.ms
  have hl : D.xl.length ≤ 300 := by have := hW.nN; omega
  by_cases hH : H ∈ D.xl
  · rcases hX.cases hH with ⟨hs4, hno⟩ | ⟨k, U, V, hk, hsk, hXk⟩
    · refine ⟨0, 0, 4, fun W hf => ?_⟩
      exact near_none (hW.kept0 hf) hd hX h64 hH hs4 hno
    · exact ⟨U.getLastD 0, V.headD 0, k + 1, fun W hf => near_list (hW.kept0 hf) hd hX h64 hH hk hsk hXk⟩
  · exact ⟨0, 0, 0, fun W hf => near_out (hW.kept0 hf) hd hX h64 hH⟩
set_option maxRecDepth 100000 in
theorem next_35 (hG : GT w P wb N D) {H : Nat} (h64 : H < 18446744073709551616) : Calls Tryz.prog 35 #[.pointer (some ⟨wb, 0, none⟩), .int .u64 H] w fun y w' => y = .returned (.bool true) ∧ w.grownBy w' none := by
  obtain ⟨a, b, st, hL⟩ := hG.near h64
  have hcs := fun W (hf : w.grownBy W none) => (hG.kept0 hf).cells
  obtain ⟨_, c1, _, c3⟩ := hG.cells
  have hts := fun v b W => told_same v b W
  have h1 := fun W hf => (hL W hf).1.ah
  have h2 := fun W hf => (hL W hf).1.bh
  have h3 := fun W hf => (hL W hf).1.rah
  have h4 := fun W hf => (hL W hf).1.rbh
  unfold pr at h1 h2 h3 h4
  generalize decide (¬ a = 0) = ba at *
  generalize decide (¬ b = 0) = bb at *
  clear hL hG
  go_enter Tryz.func35, Tryz.ntmps35
  go_wp2_with (first
    | (go_at_call 92; go_must (refine (h1 _ (gb_refl _ _)).mono ?_); rintro y w1 ⟨rfl, hf1⟩; (obtain ⟨_, p1, _, p3⟩ := hcs _ hf1))
    | (go_at_call 93; go_must (refine (h2 _ hf1).mono ?_); rintro y w2 ⟨rfl, hg2⟩; (have hf2 := gb_trans hf1 hg2); (obtain ⟨_, q1, _, q3⟩ := hcs _ hf2))
    | (go_at_call 94; go_must (refine (h3 _ hf2).mono ?_); rintro y w3 ⟨rfl, hg3⟩; (have hf3 := gb_trans hf2 hg3); (obtain ⟨_, r1, _, r3⟩ := hcs _ hf3))
    | (go_at_call 95; go_must (refine (h4 _ hf3).mono ?_); rintro y w4 ⟨rfl, hg4⟩; (have hf4 := gb_trans hf3 hg4))
    | (go_at_call 90; go_must (refine (hts _ _ _).mono ?_); rintro y w' ⟨rfl, rfl⟩) | fail)
  go_ret
  exact ⟨rfl, hf4⟩
set_option maxRecDepth 100000 in
set_option maxHeartbeats 1000000 in
theorem header_61 (hG : GT w P wb N D) {H : Nat} (h64 : H < 18446744073709551616) : Calls Tryz.prog 61 #[.pointer (some ⟨wb, 0, none⟩), .int .u64 H] w fun y w' => y = .returned (.bool true) ∧ w.grownBy w' none := by
  obtain ⟨a, b, st, hL⟩ := hG.near h64
  have hcs := fun W (hf : w.grownBy W none) => (hG.kept0 hf).cells
  obtain ⟨c0, c1, _, c3⟩ := hG.cells
  have hi := (hL w (gb_refl _ _)).2.1
  by_cases hH : H ∈ D.xl
  · rw [decide_eq_true hH] at hi
    have h3 := fun W hf => (hL W hf).1.rah
    have h4 := fun W hf => (hL W hf).1.rbh
    have h5 := fun W hf => ((hL W hf).2.2 hH).sta
    have h6 := fun W hf => ((hL W hf).2.2 hH).l1
    have h7 := fun W hf => ((hL W hf).2.2 hH).l2
    have h8 := fun W hf => ((hL W hf).2.2 hH).rst
    unfold pr at h3 h4
    generalize decide (¬ a = 0) = ba at *
    generalize decide (¬ b = 0) = bb at *
    clear hL hG hH
    go_enter Tryz.func61, Tryz.ntmps61
    go_wp2_with (first
      | (go_at_call 27; go_must (refine hi.mono ?_); rintro y w1 ⟨rfl, hf1⟩; (obtain ⟨p0, p1, _, p3⟩ := hcs _ hf1))
      | (go_at_call 124; go_must (refine (h5 _ hf1).mono ?_); rintro y w2 ⟨rfl, hg2⟩; (have hf2 := gb_trans hf1 hg2); (obtain ⟨q0, q1, _, q3⟩ := hcs _ hf2))
      | (go_at_call 125; first | ((with_reducible refine (h7 _ hf3).mono ?_); rintro y w4 ⟨rfl, hg4⟩; (have hf4 := gb_trans hf3 hg4); (obtain ⟨s0, s1, _, s3⟩ := hcs _ hf4)) | ((with_reducible refine (h6 _ hf2).mono ?_); rintro y w3 ⟨rfl, hg3⟩; (have hf3 := gb_trans hf2 hg3); (obtain ⟨r0, r1, _, r3⟩ := hcs _ hf3)))
      | (go_at_call 94; go_must (refine (h3 _ hf4).mono ?_); rintro y w5 ⟨rfl, hg5⟩; (have hf5 := gb_trans hf4 hg5); (obtain ⟨t0, t1, _, t3⟩ := hcs _ hf5))
      | (go_at_call 95; go_must (refine (h4 _ hf5).mono ?_); rintro y w6 ⟨rfl, hg6⟩; (have hf6 := gb_trans hf5 hg6); (obtain ⟨u0, u1, _, u3⟩ := hcs _ hf6))
      | (go_at_call 126; go_must (refine (h8 _ hf6).mono ?_); rintro y w7 ⟨rfl, hg7⟩; (have hf7 := gb_trans hf6 hg7))
      | (go_at_call 16; go_must (refine (num_any _ _).mono ?_); rintro y w' ⟨rfl, rfl⟩) | fail)
    go_ret
    exact ⟨rfl, hf7⟩
  · rw [decide_eq_false hH] at hi
    clear hL hG hH
    go_enter Tryz.func61, Tryz.ntmps61
    go_wp2_with (first | (go_at_call 27; go_must (refine hi.mono ?_); rintro y w1 ⟨rfl, hf1⟩) | fail)
    go_ret
    exact ⟨rfl, hf1⟩
end
end Go.Proofs.YtjkdflnnpdionaaGreat

import Derived.Test.YtobegepebochkaaGreatDoorRPbf
import Derived.Test.YtobegepebochkaaGreatDoorRPap
set_option linter.unusedVariables false
set_option linter.unusedSimpArgs false
set_option maxRecDepth 100000
set_option maxHeartbeats 16000000
namespace Go.Proofs.YtobegepebochkaaGreatDoor
open Go.RowKit Go.Maps
attribute [local go_sem] Oper.semAt_some
theorem res13 {w : World} {b1 b3 : Nat} {c0 c1 c2 c3 c4 c5 c6 c7 c8 c9 c10 d e0 e1 e2 : Value} (h : Box w 41 b1 #[c0, c1, c2, c3, c4, c5, c6, c7, c8, c9, c10]) (k : Box w 43 b3 #[e0, e1, e2]) (tmps : Array Value) (h2 : tmps[2]?.getD undef = .pointer (some ⟨b1, 0, none⟩)) (h3 : tmps[3]?.getD undef = d) (h4 : tmps[4]?.getD undef = .pointer (some ⟨b3, 0, none⟩)) : (results Tryz.f13 tmps).run Tryz.prog w = .ok (.tuple #[.agg #[c0, c1, c2, c3, c4, c5, c6, c7, c8, c9, c10], d, .agg #[e0, e1, e2]]) w := by
  have hr : Tryz.f13.results = #[.cell 2 41, .tmp 3, .cell 4 43] := rfl
  have p0 := h.cell 0
  have p1 := h.cell 1
  have p2 := h.cell 2
  have p3 := h.cell 3
  have p4 := h.cell 4
  have p5 := h.cell 5
  have p6 := h.cell 6
  have p7 := h.cell 7
  have p8 := h.cell 8
  have p9 := h.cell 9
  have p10 := h.cell 10
  simp at p0 p1 p2 p3 p4 p5 p6 p7 p8 p9 p10
  have s0 := k.cell 0
  have s1 := k.cell 1
  have s2 := k.cell 2
  simp at s0 s1 s2
  unfold results
  simp [hr, h2, h3, h4, go_sem, p0, p1, p2, p3, p4, p5, p6, p7, p8, p9, p10, s0, s1, s2]
abbrev Z43 : Array Value := #[.int .i64 0, .string ⟨#[]⟩, .int .i64 0]
structure Rs (w X : World) : Prop where
  b : Box X 41 w.heap.size Z41
  k : Box X 43 (w.heap.size + 1) Z43
  g : w.grownBy X none
  s : w.heap.size + 2 <= X.heap.size
theorem rs_new (w : World) : Rs w ((w.alloc (.cells Z41 41)).alloc (.cells Z43 43)) := by
  have b1 := Box.kept (Box.new w 41 Z41) (World.grownBy_alloc _ (.cells Z43 43) none) (by simp)
  have b2 := Box.new (w.alloc (.cells Z41 41)) 43 Z43
  rw [show (w.alloc (.cells Z41 41)).heap.size = w.heap.size + 1 by simp] at b2
  exact ⟨b1, b2, gb_alloc (gb_alloc (gb_refl w none) _) _, by rw [hsz2]; exact Nat.le_refl _⟩
theorem Rs.kept {w X X' : World} (h : Rs w X) (hg : X.grownBy X' none) : Rs w X' := ⟨Box.kept h.b hg (by simp), Box.kept h.k hg (by simp), gb_trans h.g hg, Nat.le_trans h.s hg.size⟩
def DLn (l : Bs) (w : World) (e : Ending) (w' : World) : Prop :=
  ((∃ c n kv mv, dlineS l = .inl (c, n) /\ e = .returned (.tuple #[.agg (cmA c kv mv), .int .i64 n, .agg #[.int .i64 0, sv [], .int .i64 0]]) /\ Kw w' w.heap.size c kv mv) \/
    ∃ k t p, dlineS l = .inr (k, t, p) /\ e = .returned (.tuple #[.agg #[.int .i64 0, .slice none 0 0, .int .u64 0, .int .i64 0, .int .u64 0, .int .u64 0, .slice none 0 0, .bool false, .bool false, .slice none 0 0, .string ⟨#[]⟩], .int .i64 (-1), .agg #[.int .i64 k, sv t, .int .i64 p]])) /\ w.grownBy w' none
theorem rline_long {w : World} (v : Value) (l : Bs) (hB : By w v l) (hl : 2048 < l.length) : Calls Tryz.prog 13 #[v] w fun e w' => DLn l w e w' := by
  have hd : dlineS l = .inr (2, tooLong, -1) := by unfold dlineS; rw [if_pos hl]
  have hlen := hB.len
  obtain ⟨a, c, rfl⟩ : ∃ a c, v = .slice a l.length c := by
    rcases hB with ⟨rfl, a, c, rfl⟩ | ⟨g, o, c, rfl, _⟩
    . exact ⟨a, c, rfl⟩
    . exact ⟨_, c, rfl⟩
  have hrs := rs_new w
  have d1 : (2048 : Int) < l.length := by omega
  go_enter Tryz.func13, Tryz.ntmps13
  go_upto_region 1 with (fail)
  generalize (w.alloc (.cells Z41 41)).alloc (.cells Z43 43) = X at *
  have h55 := wrong_55 tooLong (-1) X
  have hs := hrs.s
  clear hB hlen hl
  go_wp2_with (first
    | (go_at_call 55; go_must ((with_reducible refine h55.mono ?_); rintro e X5 ⟨rfl, hg5⟩; have r5 := hrs.kept hg5))
    | (refine atS 41 w.heap.size 0 rfl rfl ?_; go_must (refine storeT 41 11 size41 rfl _ _ rfl 41 w.heap.size 0 _ r5.b (by simp) rfl _ rfl rfl (by simp [Value.oneCell']) ?_); intro X6 b6 g6; (have k6 := Box.kept r5.k g6 (by simp)))
    | (refine atS 43 (w.heap.size + 1) 0 rfl rfl ?_; go_must (refine storeT 43 3 size43 rfl _ _ rfl 43 (w.heap.size + 1) 0 _ k6 (by simp) rfl _ rfl rfl (by simp [Value.oneCell']) ?_); intro X7 k7 g7; (have b7 := Box.kept b6 g7 (by simp))))
  rw [show sets Z41 0 (#[.int .i64 0, .slice none 0 0, .int .u64 0, .int .i64 0, .int .u64 0, .int .u64 0, .slice none 0 0, .bool false, .bool false, .slice none 0 0, .string ⟨#[]⟩] : Array Value).toList = #[.int .i64 0, .slice none 0 0, .int .u64 0, .int .i64 0, .int .u64 0, .int .u64 0, .slice none 0 0, .bool false, .bool false, .slice none 0 0, .string ⟨#[]⟩] from sets_41 _ _ _ _ _ _ _ _ _ _ _ _ _ _ _ _ _ _ _ _ _ _] at b7
  rw [show sets Z43 0 (#[.int .i64 (2), sv (tooLong), .int .i64 (-1)] : Array Value).toList = #[.int .i64 (2), sv (tooLong), .int .i64 (-1)] from sets_43 _ _ _ _ _ _] at k7
  have G7 : w.grownBy X7 none := gb_mine (gb_mine r5.g g6 (Nat.le_refl _)) g7 (by omega)
  exact ⟨rfl, _, res13 b7 k7 _ rfl rfl rfl, .inr ⟨2, tooLong, -1, hd, rfl⟩, G7⟩
theorem rline_none {w : World} (v : Value) (l : Bs) (hB : By w v l) (hl : ¬ 2048 < l.length) (hn : spl [] l = [] \/ ∃ x ws, spl [] l = x :: ws /\ vbS x = 0) : Calls Tryz.prog 13 #[v] w fun e w' => DLn l w e w' := by
  have hd : dlineS l = .inr (1, [], -1) := by
    unfold dlineS
    rw [if_neg hl]
    rcases hn with h | ⟨x, ws, h, h2⟩
    . rw [h]
    . rw [h]; simp only; rw [if_pos h2]
  obtain ⟨a, c, rfl⟩ : ∃ a c, v = .slice a l.length c := by
    rcases hB with ⟨rfl, a, c, rfl⟩ | ⟨g, o, c, rfl, _⟩
    . exact ⟨a, c, rfl⟩
    . exact ⟨_, c, rfl⟩
  have hrs := rs_new w
  have d1 : ¬ (2048 : Int) < l.length := by omega
  go_enter Tryz.func13, Tryz.ntmps13
  go_upto_region 1 with (fail)
  generalize (w.alloc (.cells Z41 41)).alloc (.cells Z43 43) = X at *
  have hcv := (hB.kept hrs.g).conv
  have h56 := words_56 l (by omega) X
  have hs := hrs.s
  clear hB
  rcases hn with hn | ⟨x, ws, hn, hv⟩
  . rw [hn] at h56
    clear hn
    go_upto_region 4 with (go_at_call 56; go_must ((with_reducible refine h56.mono ?_); rintro e X5 ⟨wv, rfl, hrow, hg5⟩; have r5 := hrs.kept hg5))
    obtain ⟨wa, wc, hdw, _, _, _, _⟩ := row_shape hrow
    subst hdw
    clear hrow
    go_wp2_with (first
      | (refine atS 41 w.heap.size 0 rfl rfl ?_; go_must (refine storeT 41 11 size41 rfl _ _ rfl 41 w.heap.size 0 _ r5.b (by simp) rfl _ rfl rfl (by simp [Value.oneCell']) ?_); intro X6 b6 g6; (have k6 := Box.kept r5.k g6 (by simp)))
      | (refine atS 43 (w.heap.size + 1) 0 rfl rfl ?_; go_must (refine storeT 43 3 size43 rfl _ _ rfl 43 (w.heap.size + 1) 0 _ k6 (by simp) rfl _ rfl rfl (by simp [Value.oneCell']) ?_); intro X7 k7 g7; (have b7 := Box.kept b6 g7 (by simp))))
    rw [show sets Z41 0 (#[.int .i64 0, .slice none 0 0, .int .u64 0, .int .i64 0, .int .u64 0, .int .u64 0, .slice none 0 0, .bool false, .bool false, .slice none 0 0, .string ⟨#[]⟩] : Array Value).toList = #[.int .i64 0, .slice none 0 0, .int .u64 0, .int .i64 0, .int .u64 0, .int .u64 0, .slice none 0 0, .bool false, .bool false, .slice none 0 0, .string ⟨#[]⟩] from sets_41 _ _ _ _ _ _ _ _ _ _ _ _ _ _ _ _ _ _ _ _ _ _] at b7
    rw [show sets Z43 0 (#[.int .i64 (1), sv ([]), .int .i64 (-1)] : Array Value).toList = #[.int .i64 (1), sv ([]), .int .i64 (-1)] from sets_43 _ _ _ _ _ _] at k7
    have G7 : w.grownBy X7 none := gb_mine (gb_mine r5.g g6 (Nat.le_refl _)) g7 (by omega)
    exact ⟨rfl, _, res13 b7 k7 _ rfl rfl rfl, .inr ⟨1, [], -1, hd, rfl⟩, G7⟩
  . rw [hn] at h56
    clear hn
    go_upto_region 4 with (go_at_call 56; go_must ((with_reducible refine h56.mono ?_); rintro e X5 ⟨wv, rfl, hrow, hg5⟩; have r5 := hrs.kept hg5))
    obtain ⟨wa, wc, hdw, _, _, _, hpos⟩ := row_shape hrow
    subst hdw
    obtain ⟨g, rfl⟩ := hpos (by simp)
    have c0 : X5.cell? ⟨g, 0, none⟩ = some (sv x) := row_cell hrow 0 _ rfl
    have h57 := verbOf_57 x X5
    rw [hv] at h57
    have d2 : ¬ ((x :: ws).length : Int) = 0 := by simp; omega
    have d3 : (((x :: ws).length : Int) == 0) = false := by simp; omega
    have d4 : (0 : Int) < ((x :: ws).length : Int) := Int.natCast_pos.2 (by simp)
    generalize (x :: ws).length = n at *
    clear hrow
    go_wp2_with (first
      | (go_at_call 57; go_must ((with_reducible refine h57.mono ?_); rintro e X8 ⟨rfl, hg8⟩; have r8 := r5.kept hg8))
      | (refine atS 41 w.heap.size 0 rfl rfl ?_; go_must (refine storeT 41 11 size41 rfl _ _ rfl 41 w.heap.size 0 _ r8.b (by simp) rfl _ rfl rfl (by simp [Value.oneCell']) ?_); intro X6 b6 g6; (have k6 := Box.kept r8.k g6 (by simp)))
      | (refine atS 43 (w.heap.size + 1) 0 rfl rfl ?_; go_must (refine storeT 43 3 size43 rfl _ _ rfl 43 (w.heap.size + 1) 0 _ k6 (by simp) rfl _ rfl rfl (by simp [Value.oneCell']) ?_); intro X7 k7 g7; (have b7 := Box.kept b6 g7 (by simp))))
    rw [show sets Z41 0 (#[.int .i64 0, .slice none 0 0, .int .u64 0, .int .i64 0, .int .u64 0, .int .u64 0, .slice none 0 0, .bool false, .bool false, .slice none 0 0, .string ⟨#[]⟩] : Array Value).toList = #[.int .i64 0, .slice none 0 0, .int .u64 0, .int .i64 0, .int .u64 0, .int .u64 0, .slice none 0 0, .bool false, .bool false, .slice none 0 0, .string ⟨#[]⟩] from sets_41 _ _ _ _ _ _ _ _ _ _ _ _ _ _ _ _ _ _ _ _ _ _] at b7
    rw [show sets Z43 0 (#[.int .i64 (1), sv ([]), .int .i64 (-1)] : Array Value).toList = #[.int .i64 (1), sv ([]), .int .i64 (-1)] from sets_43 _ _ _ _ _ _] at k7
    have G7 : w.grownBy X7 none := gb_mine (gb_mine r8.g g6 (Nat.le_refl _)) g7 (by omega)
    exact ⟨rfl, _, res13 b7 k7 _ rfl rfl rfl, .inr ⟨1, [], -1, hd, rfl⟩, G7⟩
end Go.Proofs.YtobegepebochkaaGreatDoor

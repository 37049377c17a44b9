import Derived.Test.YtobegepebochkaaGreatDoorP
import Derived.Test.YtobegepebochkaaGreatDoorPay
set_option linter.unusedVariables false
set_option linter.unusedSimpArgs false
namespace Go.Proofs.YtobegepebochkaaGreatDoor
open Go.RowKit Go.Maps
theorem By.len {w : World} {v : Value} {l : Bs} (h : By w v l) : l.length ≤ 1099511627776 := by
  rcases h with ⟨rfl, _⟩ | ⟨g, o, c, _, h1, h2, _⟩
  · simp
  · omega
theorem line_10 {w : World} {gb : Nat} (hG : GM w gb rowL) (hE : Er w) (v : Value) (l : Bs) (hB : By w v l) :
    Calls Tryz.prog 63 #[.map (some gb), v] w fun e w' => LnP l w e w' := by
  rcases Nat.lt_or_ge 2048 l.length with hl | hl
  · exact line_up gb v l hB tooLong (by rw [if_neg (by decide)]; simp only [lineS, hl, if_true]) (fun W hW => begin_long gb v l (hB.kept hW) hl)
  · have h1 : ¬ 2048 < l.length := by omega
    cases hs : spl [] l with
    | nil => exact line_up gb v l hB [] (by rw [if_pos rfl]; simp only [lineS, h1, if_false, hs]) (fun W hW => begin_none gb v l (hB.kept hW) hl hs)
    | cons x ws =>
      cases hr : rowS x with
      | none => exact line_up gb v l hB [] (by rw [if_pos rfl]; simp only [lineS, h1, if_false, hs, hr]) (fun W hW => begin_no (hG.kept hW (by simp)) v l (hB.kept hW) hl x ws hs hr)
      | some r => exact line_read hG hE v l hB hl x ws hs r hr
set_option maxRecDepth 100000 in
set_option maxHeartbeats 4000000 in
theorem Line_6 {w : World} (hE : Er w) (v : Value) (l : Bs) (hB : By w v l) :
    Calls Tryz.prog 15 #[v] w fun e w' => LnP l w e w' := by
  obtain ⟨W2, hW2⟩ : ∃ W2, (w.alloc (.cells (Z31 0 false) 41)).alloc (.cells #[.int .i64 0, .string ⟨#[]⟩, .int .i64 0] 43) = W2 := ⟨_, rfl⟩
  have q1 : Box W2 41 w.heap.size (Z31 0 false) := by rw [← hW2]; exact (Box.new w 41 _).kept (gb_alloc (gb_refl _ none) _) (by simp)
  have q2 : Box W2 43 (w.heap.size + 1) #[.int .i64 0, .string ⟨#[]⟩, .int .i64 0] := by
    have := Box.new (w.alloc (.cells (Z31 0 false) 41)) 43 #[.int .i64 0, .string ⟨#[]⟩, .int .i64 0]
    simp only [World.size_alloc] at this
    rw [← hW2]; exact this
  have q3 : w.grownBy W2 none := by rw [← hW2]; exact gb_alloc (gb_alloc (gb_refl w none) _) _
  have h9 := rows_9 W2
  rw [show W2.heap.size = w.heap.size + 1 + 1 by rw [← hW2]; simp] at h9
  have h10 := fun W gb (hG : GM W gb rowL) hE (hB : By W v l) => line_10 hG hE v l hB
  obtain ⟨a, c0, rfl⟩ := hB.shape
  subst hW2
  go_enter Tryz.func15, Tryz.ntmps15
  go_wp2_with (first | (go_at_call 62; go_must ((with_reducible refine h9.mono ?_); rintro e w3 ⟨rfl, hG3, hg3⟩; (have hgw3 := gb_trans q3 hg3))) | (go_at_call 63; go_must ((with_reducible refine (h10 _ _ hG3 (hE.kept hgw3) (hB.kept hgw3)).mono ?_); rintro e w4 ⟨hL, hg4⟩; (have hg24 := gb_trans hg3 hg4); (have y1 := q1.kept hg24 (by simp)); (have y2 := q2.kept hg24 (by simp)); (have hs3 := hg3.size); (have cc0 : w4.cell? ⟨w.heap.size, 0, none⟩ = some (.int .i64 0) := y1.cell 0); (have cf0 := y1.fz 0); (have cc1 : w4.cell? ⟨w.heap.size, 1, none⟩ = some (.slice none 0 0) := y1.cell 1); (have cf1 := y1.fz 1); (have cc2 : w4.cell? ⟨w.heap.size, 2, none⟩ = some (.int .u64 0) := y1.cell 2); (have cf2 := y1.fz 2); (have cc3 : w4.cell? ⟨w.heap.size, 3, none⟩ = some (.int .i64 0) := y1.cell 3); (have cf3 := y1.fz 3); (have cc4 : w4.cell? ⟨w.heap.size, 4, none⟩ = some (.int .u64 0) := y1.cell 4); (have cf4 := y1.fz 4); (have cc5 : w4.cell? ⟨w.heap.size, 5, none⟩ = some (.int .u64 0) := y1.cell 5); (have cf5 := y1.fz 5); (have cc6 : w4.cell? ⟨w.heap.size, 6, none⟩ = some (.slice none 0 0) := y1.cell 6); (have cf6 := y1.fz 6); (have cc7 : w4.cell? ⟨w.heap.size, 7, none⟩ = some (.bool false) := y1.cell 7); (have cf7 := y1.fz 7); (have cc8 : w4.cell? ⟨w.heap.size, 8, none⟩ = some (.bool false) := y1.cell 8); (have cf8 := y1.fz 8); (have cc9 : w4.cell? ⟨w.heap.size, 9, none⟩ = some (.slice none 0 0) := y1.cell 9); (have cf9 := y1.fz 9); (have cc10 : w4.cell? ⟨w.heap.size, 10, none⟩ = some (.string ⟨#[]⟩) := y1.cell 10); (have cf10 := y1.fz 10); (have ec0 : w4.cell? ⟨w.heap.size + 1, 0, none⟩ = some (.int .i64 0) := y2.cell 0); (have ef0 := y2.fz 0); (have ec1 : w4.cell? ⟨w.heap.size + 1, 1, none⟩ = some (.string ⟨#[]⟩) := y2.cell 1); (have ef1 := y2.fz 1); (have ec2 : w4.cell? ⟨w.heap.size + 1, 2, none⟩ = some (.int .i64 0) := y2.cell 2); (have ef2 := y2.fz 2); rcases hL with ⟨c, n, kv, mv, hl, rfl, kr, mr⟩ | ⟨k, t, p, hl, rfl⟩; obtain ⟨ka, kc, rfl, -, -, -, -⟩ := row_shape kr; obtain ⟨ma, mc, rfl, -, -, -, -⟩ := row_shape mr)))
  · obtain ⟨x1, gx1⟩ := box11 (v0 := (.int .i64 c.verb)) (v1 := (.slice ka c.keys.length kc)) (v2 := (.int .u64 c.flags)) (v3 := (.int .i64 c.exp)) (v4 := (.int .u64 c.tok)) (v5 := (.int .u64 c.del)) (v6 := (.slice none 0 0)) (v7 := (.bool c.nr)) (v8 := (.bool false)) (v9 := (.slice ma c.mt.length mc)) (v10 := (.string ⟨c.what.toArray⟩)) y1
    have hkr := row_kept kr gx1 (fun k hk e => by injection e with e; have := (World.ownsRow.lt kr k hk).1; simp at hs3; omega)
    have hmr := row_kept mr gx1 (fun k hk e => by injection e with e; have := (World.ownsRow.lt mr k hk).1; simp at hs3; omega)
    have x2 := y2.kept gx1 (by simp)
    generalize (((((((((((w4.setCell ⟨w.heap.size, 0, none⟩ (.int .i64 c.verb)).setCell ⟨w.heap.size, 1, none⟩ (.slice ka c.keys.length kc)).setCell ⟨w.heap.size, 2, none⟩ (.int .u64 c.flags)).setCell ⟨w.heap.size, 3, none⟩ (.int .i64 c.exp)).setCell ⟨w.heap.size, 4, none⟩ (.int .u64 c.tok)).setCell ⟨w.heap.size, 5, none⟩ (.int .u64 c.del)).setCell ⟨w.heap.size, 6, none⟩ (.slice none 0 0)).setCell ⟨w.heap.size, 7, none⟩ (.bool c.nr)).setCell ⟨w.heap.size, 8, none⟩ (.bool false)).setCell ⟨w.heap.size, 9, none⟩ (.slice ma c.mt.length mc)).setCell ⟨w.heap.size, 10, none⟩ (.string ⟨c.what.toArray⟩)) = S1 at x1 gx1 hkr hmr x2 ⊢
    obtain ⟨z2, gz2⟩ := box3 (v0 := .int .i64 0) (v1 := .string ⟨#[]⟩) (v2 := .int .i64 0) x2
    have z1 := x1.kept gz2 (by simp)
    have hkr2 := row_kept hkr gz2 (fun k hk e => by injection e with e; have := (World.ownsRow.lt kr k hk).1; simp at hs3; omega)
    have hmr2 := row_kept hmr gz2 (fun k hk e => by injection e with e; have := (World.ownsRow.lt mr k hk).1; simp at hs3; omega)
    refine ⟨rfl, _, res6 z1 z2 _ rfl rfl rfl, .inl ⟨c, n, .slice ka c.keys.length kc, .slice ma c.mt.length mc, hl, rfl, row_base hkr2 (by simp at hs3; omega), row_base hmr2 (by simp at hs3; omega)⟩, ?_⟩
    exact gb_mine (gb_mine (gb_trans hgw3 hg4) gx1 (by omega)) gz2 (by omega)
  · obtain ⟨x1, gx1⟩ := box11 (v0 := (.int .i64 0)) (v1 := (.slice none 0 0)) (v2 := (.int .u64 0)) (v3 := (.int .i64 0)) (v4 := (.int .u64 0)) (v5 := (.int .u64 0)) (v6 := (.slice none 0 0)) (v7 := (.bool false)) (v8 := (.bool false)) (v9 := (.slice none 0 0)) (v10 := (.string ⟨#[]⟩)) y1
    have x2 := y2.kept gx1 (by simp)
    generalize (((((((((((w4.setCell ⟨w.heap.size, 0, none⟩ (.int .i64 0)).setCell ⟨w.heap.size, 1, none⟩ (.slice none 0 0)).setCell ⟨w.heap.size, 2, none⟩ (.int .u64 0)).setCell ⟨w.heap.size, 3, none⟩ (.int .i64 0)).setCell ⟨w.heap.size, 4, none⟩ (.int .u64 0)).setCell ⟨w.heap.size, 5, none⟩ (.int .u64 0)).setCell ⟨w.heap.size, 6, none⟩ (.slice none 0 0)).setCell ⟨w.heap.size, 7, none⟩ (.bool false)).setCell ⟨w.heap.size, 8, none⟩ (.bool false)).setCell ⟨w.heap.size, 9, none⟩ (.slice none 0 0)).setCell ⟨w.heap.size, 10, none⟩ (.string ⟨#[]⟩)) = S1 at x1 gx1 x2 ⊢
    obtain ⟨z2, gz2⟩ := box3 (v0 := .int .i64 k) (v1 := .string ⟨t.toArray⟩) (v2 := .int .i64 p) x2
    have z1 := x1.kept gz2 (by simp)
    refine ⟨rfl, _, res6 z1 z2 _ rfl rfl rfl, .inr ⟨k, t, p, hl, rfl⟩, ?_⟩
    exact gb_mine (gb_mine (gb_trans hgw3 hg4) gx1 (by omega)) gz2 (by omega)
end Go.Proofs.YtobegepebochkaaGreatDoor
namespace Go.Proofs.YtobegepebochkaaGreatDoor
open Go.RowKit Go.Maps
attribute [local go_sem] Oper.semAt_some
theorem res13 {w : World} {b1 b3 : Nat} {c0 c1 c2 c3 c4 c5 c6 c7 c8 c9 c10 d e0 e1 e2 : Value} (h : Box w 41 b1 #[c0, c1, c2, c3, c4, c5, c6, c7, c8, c9, c10]) (k : Box w 43 b3 #[e0, e1, e2]) (tmps : Array Value) (h2 : tmps[2]?.getD undef = .pointer (some ⟨b1, 0, none⟩)) (h3 : tmps[3]?.getD undef = d) (h4 : tmps[4]?.getD undef = .pointer (some ⟨b3, 0, none⟩)) : (results Tryz.f13 tmps).run Tryz.prog w = .ok (.tuple #[.agg #[c0, c1, c2, c3, c4, c5, c6, c7, c8, c9, c10], d, .agg #[e0, e1, e2]]) w := by
  have hr : Tryz.f13.results = #[.cell 2 41, .tmp 3, .cell 4 43] := rfl
  have p0 := h.cell 0
  have p1 := h.cell 1
  have p2 := h.cell 2
  have p3 := h.cell 3
  have p4 := h.cell 4
  have p5 := h.cell 5
  have p6 := h.cell 6
  have p7 := h.cell 7
  have p8 := h.cell 8
  have p9 := h.cell 9
  have p10 := h.cell 10
  simp at p0 p1 p2 p3 p4 p5 p6 p7 p8 p9 p10
  have s0 := k.cell 0
  have s1 := k.cell 1
  have s2 := k.cell 2
  simp at s0 s1 s2
  unfold results
  simp [hr, h2, h3, h4, go_sem, p0, p1, p2, p3, p4, p5, p6, p7, p8, p9, p10, s0, s1, s2]
abbrev Z43 : Array Value := #[.int .i64 0, .string ⟨#[]⟩, .int .i64 0]
structure Rs (w X : World) : Prop where
  b : Box X 41 w.heap.size Z41
  k : Box X 43 (w.heap.size + 1) Z43
  g : w.grownBy X none
  s : w.heap.size + 2 ≤ X.heap.size
theorem rs_new (w : World) : Rs w ((w.alloc (.cells Z41 41)).alloc (.cells Z43 43)) := by
  have b1 := Box.kept (Box.new w 41 Z41) (World.grownBy_alloc _ (.cells Z43 43) none) (by simp)
  have b2 := Box.new (w.alloc (.cells Z41 41)) 43 Z43
  rw [show (w.alloc (.cells Z41 41)).heap.size = w.heap.size + 1 by simp] at b2
  exact ⟨b1, b2, gb_alloc (gb_alloc (gb_refl w none) _) _, by rw [hsz2]; exact Nat.le_refl _⟩
theorem Rs.kept {w X X' : World} (h : Rs w X) (hg : X.grownBy X' none) : Rs w X' := ⟨Box.kept h.b hg (by simp), Box.kept h.k hg (by simp), gb_trans h.g hg, Nat.le_trans h.s hg.size⟩
def DLn (l : Bs) (w : World) (e : Ending) (w' : World) : Prop :=
  ((∃ c n kv mv, dlineS l = .inl (c, n) ∧ e = .returned (.tuple #[.agg (cmA c kv mv), .int .i64 n, .agg #[.int .i64 0, sv [], .int .i64 0]]) ∧ Kw w' w.heap.size c kv mv) ∨
    ∃ k t p, dlineS l = .inr (k, t, p) ∧ e = .returned (.tuple #[.agg #[.int .i64 0, .slice none 0 0, .int .u64 0, .int .i64 0, .int .u64 0, .int .u64 0, .slice none 0 0, .bool false, .bool false, .slice none 0 0, .string ⟨#[]⟩], .int .i64 (-1), .agg #[.int .i64 k, sv t, .int .i64 p]])) ∧ w.grownBy w' none
set_option maxRecDepth 100000 in
set_option maxHeartbeats 4000000 in
theorem rline_long {w : World} (v : Value) (l : Bs) (hB : By w v l) (hl : 2048 < l.length) : Calls Tryz.prog 13 #[v] w fun e w' => DLn l w e w' := by
  have hd : dlineS l = .inr (2, tooLong, -1) := by unfold dlineS; rw [if_pos hl]
  have hlen := hB.len
  obtain ⟨a, c, rfl⟩ : ∃ a c, v = .slice a l.length c := by
    rcases hB with ⟨rfl, a, c, rfl⟩ | ⟨g, o, c, rfl, _⟩
    · exact ⟨a, c, rfl⟩
    · exact ⟨_, c, rfl⟩
  have hrs := rs_new w
  have d1 : (2048 : Int) < l.length := by omega
  go_enter Tryz.func13, Tryz.ntmps13
  go_upto_region 1 with (fail)
  generalize (w.alloc (.cells Z41 41)).alloc (.cells Z43 43) = X at *
  have h55 := wrong_55 tooLong (-1) X
  have hs := hrs.s
  clear hB hlen hl
  go_wp2_with (first
    | (go_at_call 55; go_must ((with_reducible refine h55.mono ?_); rintro e X5 ⟨rfl, hg5⟩; have r5 := hrs.kept hg5))
    | (refine atS 41 w.heap.size 0 rfl rfl ?_; go_must (refine storeT 41 11 size41 rfl _ _ rfl 41 w.heap.size 0 _ r5.b (by simp) rfl _ rfl rfl (by simp [Value.oneCell']) ?_); intro X6 b6 g6; (have k6 := Box.kept r5.k g6 (by simp)))
    | (refine atS 43 (w.heap.size + 1) 0 rfl rfl ?_; go_must (refine storeT 43 3 size43 rfl _ _ rfl 43 (w.heap.size + 1) 0 _ k6 (by simp) rfl _ rfl rfl (by simp [Value.oneCell']) ?_); intro X7 k7 g7; (have b7 := Box.kept b6 g7 (by simp))))
  rw [show sets Z41 0 (#[.int .i64 0, .slice none 0 0, .int .u64 0, .int .i64 0, .int .u64 0, .int .u64 0, .slice none 0 0, .bool false, .bool false, .slice none 0 0, .string ⟨#[]⟩] : Array Value).toList = #[.int .i64 0, .slice none 0 0, .int .u64 0, .int .i64 0, .int .u64 0, .int .u64 0, .slice none 0 0, .bool false, .bool false, .slice none 0 0, .string ⟨#[]⟩] from sets_41 _ _ _ _ _ _ _ _ _ _ _ _ _ _ _ _ _ _ _ _ _ _] at b7
  rw [show sets Z43 0 (#[.int .i64 (2), sv (tooLong), .int .i64 (-1)] : Array Value).toList = #[.int .i64 (2), sv (tooLong), .int .i64 (-1)] from sets_43 _ _ _ _ _ _] at k7
  have G7 : w.grownBy X7 none := gb_mine (gb_mine r5.g g6 (Nat.le_refl _)) g7 (by omega)
  exact ⟨rfl, _, res13 b7 k7 _ rfl rfl rfl, .inr ⟨2, tooLong, -1, hd, rfl⟩, G7⟩
set_option maxRecDepth 100000 in
set_option maxHeartbeats 4000000 in
theorem rline_none {w : World} (v : Value) (l : Bs) (hB : By w v l) (hl : ¬ 2048 < l.length) (hn : spl [] l = [] ∨ ∃ x ws, spl [] l = x :: ws ∧ vbS x = 0) : Calls Tryz.prog 13 #[v] w fun e w' => DLn l w e w' := by
  have hd : dlineS l = .inr (1, [], -1) := by
    unfold dlineS
    rw [if_neg hl]
    rcases hn with h | ⟨x, ws, h, h2⟩
    · rw [h]
    · rw [h]; simp only; rw [if_pos h2]
  obtain ⟨a, c, rfl⟩ : ∃ a c, v = .slice a l.length c := by
    rcases hB with ⟨rfl, a, c, rfl⟩ | ⟨g, o, c, rfl, _⟩
    · exact ⟨a, c, rfl⟩
    · exact ⟨_, c, rfl⟩
  have hrs := rs_new w
  have d1 : ¬ (2048 : Int) < l.length := by omega
  go_enter Tryz.func13, Tryz.ntmps13
  go_upto_region 1 with (fail)
  generalize (w.alloc (.cells Z41 41)).alloc (.cells Z43 43) = X at *
  have hcv := (hB.kept hrs.g).conv
  have h56 := words_56 l (by omega) X
  have hs := hrs.s
  clear hB
  rcases hn with hn | ⟨x, ws, hn, hv⟩
  · rw [hn] at h56
    clear hn
    go_upto_region 4 with (go_at_call 56; go_must ((with_reducible refine h56.mono ?_); rintro e X5 ⟨wv, rfl, hrow, hg5⟩; have r5 := hrs.kept hg5))
    obtain ⟨wa, wc, hdw, _, _, _, _⟩ := row_shape hrow
    subst hdw
    clear hrow
    go_wp2_with (first
      | (refine atS 41 w.heap.size 0 rfl rfl ?_; go_must (refine storeT 41 11 size41 rfl _ _ rfl 41 w.heap.size 0 _ r5.b (by simp) rfl _ rfl rfl (by simp [Value.oneCell']) ?_); intro X6 b6 g6; (have k6 := Box.kept r5.k g6 (by simp)))
      | (refine atS 43 (w.heap.size + 1) 0 rfl rfl ?_; go_must (refine storeT 43 3 size43 rfl _ _ rfl 43 (w.heap.size + 1) 0 _ k6 (by simp) rfl _ rfl rfl (by simp [Value.oneCell']) ?_); intro X7 k7 g7; (have b7 := Box.kept b6 g7 (by simp))))
    rw [show sets Z41 0 (#[.int .i64 0, .slice none 0 0, .int .u64 0, .int .i64 0, .int .u64 0, .int .u64 0, .slice none 0 0, .bool false, .bool false, .slice none 0 0, .string ⟨#[]⟩] : Array Value).toList = #[.int .i64 0, .slice none 0 0, .int .u64 0, .int .i64 0, .int .u64 0, .int .u64 0, .slice none 0 0, .bool false, .bool false, .slice none 0 0, .string ⟨#[]⟩] from sets_41 _ _ _ _ _ _ _ _ _ _ _ _ _ _ _ _ _ _ _ _ _ _] at b7
    rw [show sets Z43 0 (#[.int .i64 (1), sv ([]), .int .i64 (-1)] : Array Value).toList = #[.int .i64 (1), sv ([]), .int .i64 (-1)] from sets_43 _ _ _ _ _ _] at k7
    have G7 : w.grownBy X7 none := gb_mine (gb_mine r5.g g6 (Nat.le_refl _)) g7 (by omega)
    exact ⟨rfl, _, res13 b7 k7 _ rfl rfl rfl, .inr ⟨1, [], -1, hd, rfl⟩, G7⟩
  · rw [hn] at h56
    clear hn
    go_upto_region 4 with (go_at_call 56; go_must ((with_reducible refine h56.mono ?_); rintro e X5 ⟨wv, rfl, hrow, hg5⟩; have r5 := hrs.kept hg5))
    obtain ⟨wa, wc, hdw, _, _, _, hpos⟩ := row_shape hrow
    subst hdw
    obtain ⟨g, rfl⟩ := hpos (by simp)
    have c0 : X5.cell? ⟨g, 0, none⟩ = some (sv x) := row_cell hrow 0 _ rfl
    have h57 := verbOf_57 x X5
    rw [hv] at h57
    have d2 : ¬ ((x :: ws).length : Int) = 0 := by simp; omega
    have d3 : (((x :: ws).length : Int) == 0) = false := by simp; omega
    have d4 : (0 : Int) < ((x :: ws).length : Int) := Int.natCast_pos.2 (by simp)
    generalize (x :: ws).length = n at *
    clear hrow
    go_wp2_with (first
      | (go_at_call 57; go_must ((with_reducible refine h57.mono ?_); rintro e X8 ⟨rfl, hg8⟩; have r8 := r5.kept hg8))
      | (refine atS 41 w.heap.size 0 rfl rfl ?_; go_must (refine storeT 41 11 size41 rfl _ _ rfl 41 w.heap.size 0 _ r8.b (by simp) rfl _ rfl rfl (by simp [Value.oneCell']) ?_); intro X6 b6 g6; (have k6 := Box.kept r8.k g6 (by simp)))
      | (refine atS 43 (w.heap.size + 1) 0 rfl rfl ?_; go_must (refine storeT 43 3 size43 rfl _ _ rfl 43 (w.heap.size + 1) 0 _ k6 (by simp) rfl _ rfl rfl (by simp [Value.oneCell']) ?_); intro X7 k7 g7; (have b7 := Box.kept b6 g7 (by simp))))
    rw [show sets Z41 0 (#[.int .i64 0, .slice none 0 0, .int .u64 0, .int .i64 0, .int .u64 0, .int .u64 0, .slice none 0 0, .bool false, .bool false, .slice none 0 0, .string ⟨#[]⟩] : Array Value).toList = #[.int .i64 0, .slice none 0 0, .int .u64 0, .int .i64 0, .int .u64 0, .int .u64 0, .slice none 0 0, .bool false, .bool false, .slice none 0 0, .string ⟨#[]⟩] from sets_41 _ _ _ _ _ _ _ _ _ _ _ _ _ _ _ _ _ _ _ _ _ _] at b7
    rw [show sets Z43 0 (#[.int .i64 (1), sv ([]), .int .i64 (-1)] : Array Value).toList = #[.int .i64 (1), sv ([]), .int .i64 (-1)] from sets_43 _ _ _ _ _ _] at k7
    have G7 : w.grownBy X7 none := gb_mine (gb_mine r8.g g6 (Nat.le_refl _)) g7 (by omega)
    exact ⟨rfl, _, res13 b7 k7 _ rfl rfl rfl, .inr ⟨1, [], -1, hd, rfl⟩, G7⟩
end Go.Proofs.YtobegepebochkaaGreatDoor

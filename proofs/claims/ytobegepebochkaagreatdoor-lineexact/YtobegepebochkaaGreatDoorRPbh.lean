import Derived.Test.YtobegepebochkaaGreatDoorRPbg
import Derived.Test.YtobegepebochkaaGreatDoorRPar
set_option linter.unusedVariables false
set_option linter.unusedSimpArgs false
set_option maxRecDepth 100000
set_option maxHeartbeats 16000000
namespace Go.Proofs.YtobegepebochkaaGreatDoor
open Go.RowKit Go.Maps
theorem lookup_at : ∀ (l : List (Bs × Rw)) (x : Bs) (r : Rw), l.lookup x = some r -> ∃ i, i < l.length /\ l[i]? = some (x, r)
  | [], _, _, h => by cases h
  | (k, q) :: l, x, r, h => by
    rw [List.lookup_cons] at h
    by_cases e : (x == k) = true
    . rw [e] at h
      simp at h
      have e2 : x = k := by simpa using e
      subst e2 h
      exact ⟨0, by simp, rfl⟩
    . rw [Bool.eq_false_iff.2 e] at h
      obtain ⟨i, h1, h2⟩ := lookup_at l x r h
      exact ⟨i + 1, by simp; omega, by simpa using h2⟩
theorem row_of {x : Bs} {r : Rw} (h : rowS x = some r) : ∃ i, i < 24 /\ spn i = x /\ (rowL.getD i ([], ⟨0, [], [], false, false⟩)).2 = r := by
  obtain ⟨i, h1, h2⟩ := lookup_at rowL x r h
  refine ⟨i, h1, ?_, ?_⟩
  . unfold spn; rw [List.getD_eq_getElem?_getD, List.getElem?_map, h2]; rfl
  . rw [List.getD_eq_getElem?_getD, h2]; rfl
theorem vf (i : Nat) (hi : i < 24) : VF (dr i) (rowL.getD i ([], ⟨0, [], [], false, false⟩)).2 := by
  rcases (by omega : i = 0 \/ i = 1 \/ i = 2 \/ i = 3 \/ i = 4 \/ i = 5 \/ i = 6 \/ i = 7 \/ i = 8 \/ i = 9 \/ i = 10 \/ i = 11 \/ i = 12 \/ i = 13 \/ i = 14 \/ i = 15 \/ i = 16 \/ i = 17 \/ i = 18 \/ i = 19 \/ i = 20 \/ i = 21 \/ i = 22 \/ i = 23) with rfl | rfl | rfl | rfl | rfl | rfl | rfl | rfl | rfl | rfl | rfl | rfl | rfl | rfl | rfl | rfl | rfl | rfl | rfl | rfl | rfl | rfl | rfl | rfl
  . exact vf_0
  . exact vf_1
  . exact vf_2
  . exact vf_3
  . exact vf_4
  . exact vf_5
  . exact vf_6
  . exact vf_7
  . exact vf_8
  . exact vf_9
  . exact vf_10
  . exact vf_11
  . exact vf_12
  . exact vf_13
  . exact vf_14
  . exact vf_15
  . exact vf_16
  . exact vf_17
  . exact vf_18
  . exact vf_19
  . exact vf_20
  . exact vf_21
  . exact vf_22
  . exact vf_23
theorem verb_at (i : Nat) (hi : i < 24) : (rowL.getD i ([], ⟨0, [], [], false, false⟩)).2.verb = (i : Int) + 1 := by
  rcases (by omega : i = 0 \/ i = 1 \/ i = 2 \/ i = 3 \/ i = 4 \/ i = 5 \/ i = 6 \/ i = 7 \/ i = 8 \/ i = 9 \/ i = 10 \/ i = 11 \/ i = 12 \/ i = 13 \/ i = 14 \/ i = 15 \/ i = 16 \/ i = 17 \/ i = 18 \/ i = 19 \/ i = 20 \/ i = 21 \/ i = 22 \/ i = 23) with rfl | rfl | rfl | rfl | rfl | rfl | rfl | rfl | rfl | rfl | rfl | rfl | rfl | rfl | rfl | rfl | rfl | rfl | rfl | rfl | rfl | rfl | rfl | rfl <;> rfl
theorem dqt_eq {d : Dr} {r : Rw} (h : VF d r) (ws : List Bs) : dqt d ws = qt r ws := by
  unfold dqt qt; rw [h.reply, h.least]
theorem takes_eq {d : Dr} {r : Rw} (h : VF d r) (n : Nat) : (takes r n = true) ↔ ¬ (n < d.least \/ (d.shape.length < n /\ d.again = false)) := by
  unfold takes
  rw [h.least, h.again]
  cases he : r.endless
  . rw [h.len he]; simp
  . simp
theorem last_app {ws : List Bs} {x : Bs} (h : ws.getLast? = some x) : ws.dropLast ++ [x] = ws := by
  cases ws with
  | nil => cases h
  | cons a l =>
    rw [List.getLast?_eq_some_getLast (by simp)] at h
    injection h with h
    rw [<- h]
    exact List.dropLast_concat_getLast (by simp)
theorem dread_eq (i : Nat) (hi : i < 24) (ws : List Bs) : dread i ws = match readS (rowL.getD i ([], ⟨0, [], [], false, false⟩)).2 ws with | .inl c => .inl (c, passS (rowL.getD i ([], ⟨0, [], [], false, false⟩)).2 ws) | .inr e => .inr (2, e, passS (rowL.getD i ([], ⟨0, [], [], false, false⟩)).2 ws) := by
  have hf := vf i hi
  have hv := verb_at i hi
  unfold dread
  generalize (rowL.getD i ([], ⟨0, [], [], false, false⟩)).2 = r at *
  generalize dr i = d at *
  simp only [dqt_eq hf, hf.hp]
  obtain ⟨vs, tl, hvs, hws⟩ : ∃ vs tl, (if qt r ws then ws.dropLast else ws) = vs /\ ws = vs ++ tl := by
    cases hq : qt r ws
    . exact ⟨ws, [], by simp, by simp⟩
    . refine ⟨ws.dropLast, [noreply], by simp, ?_⟩
      unfold qt at hq
      simp at hq
      exact (last_app hq.2.2).symm
  unfold readS
  simp only [hvs]
  by_cases ht : takes r vs.length = true
  . have hn := (takes_eq hf vs.length).1 ht
    rw [if_neg hn, if_pos ht]
    have he := rtL_takeL hf.hl hf.hG vs 0 (cmd0 ((i : Int) + 1) (qt r ws)) (-1) (by
      rcases hf.hok with h | h
      . left
        cases ha : d.again
        . rw [h, ha] at hn; simp at hn; exact hn.2
        . exact absurd h (hf.ha ha)
      . exact .inr h) (by simp [cmd0, flS])
    rw [hv]
    have he2 : fst2 (rtL d.shape 0 (cmd0 ((i : Int) + 1) (qt r ws)) (-1) vs) = fin ((i : Int) + 1) (takeL r 0 (cmd0 ((i : Int) + 1) (qt r ws)) vs) := he
    cases hr : rtL d.shape 0 (cmd0 ((i : Int) + 1) (qt r ws)) (-1) vs with
    | inl p =>
      rw [hr] at he2
      rw [<- he2]
      simp only [fst2]
      have := hf.hb vs tl _ p (by simp at hn; omega) (fun ha => by rw [ha] at hn; simp at hn; omega) hr
      rw [<- hws] at this
      obtain ⟨c, n⟩ := p
      simp only at this ⊢
      rw [this]
    | inr e =>
      rw [hr] at he2
      rw [<- he2]
      rfl
  . rw [if_pos (Classical.not_not.1 (fun h => ht ((takes_eq hf vs.length).2 h))), if_neg ht]
theorem dline_eq (l : Bs) : dlineS l = lineS l := by
  unfold dlineS lineS
  split
  . rfl
  . cases hs : spl [] l with
    | nil => rfl
    | cons x ws =>
      simp only
      cases hr : rowS x with
      | none => simp [vbS, hr]
      | some r =>
        obtain ⟨i, hi, hx, he⟩ := row_of hr
        have hv : vbS x = (i : Int) + 1 := by rw [<- hx]; exact vbS_yes hi
        rw [hv, if_neg (by omega), show ((i : Int) + 1 - 1).toNat = i by omega, dread_eq i hi, he]
        rfl
end Go.Proofs.YtobegepebochkaaGreatDoor
namespace Go.Proofs.YtobegepebochkaaGreatDoor
open Go.RowKit Go.Maps
attribute [local go_sem] Oper.semAt_some
theorem res13 {w : World} {b1 b3 : Nat} {c0 c1 c2 c3 c4 c5 c6 c7 c8 c9 c10 d e0 e1 e2 : Value} (h : Box w 41 b1 #[c0, c1, c2, c3, c4, c5, c6, c7, c8, c9, c10]) (k : Box w 43 b3 #[e0, e1, e2]) (tmps : Array Value) (h2 : tmps[2]?.getD undef = .pointer (some ⟨b1, 0, none⟩)) (h3 : tmps[3]?.getD undef = d) (h4 : tmps[4]?.getD undef = .pointer (some ⟨b3, 0, none⟩)) : (results Tryz.f13 tmps).run Tryz.prog w = .ok (.tuple #[.agg #[c0, c1, c2, c3, c4, c5, c6, c7, c8, c9, c10], d, .agg #[e0, e1, e2]]) w := by
  have hr : Tryz.f13.results = #[.cell 2 41, .tmp 3, .cell 4 43] := rfl
  have p0 := h.cell 0
  have p1 := h.cell 1
  have p2 := h.cell 2
  have p3 := h.cell 3
  have p4 := h.cell 4
  have p5 := h.cell 5
  have p6 := h.cell 6
  have p7 := h.cell 7
  have p8 := h.cell 8
  have p9 := h.cell 9
  have p10 := h.cell 10
  simp at p0 p1 p2 p3 p4 p5 p6 p7 p8 p9 p10
  have s0 := k.cell 0
  have s1 := k.cell 1
  have s2 := k.cell 2
  simp at s0 s1 s2
  unfold results
  simp [hr, h2, h3, h4, go_sem, p0, p1, p2, p3, p4, p5, p6, p7, p8, p9, p10, s0, s1, s2]
abbrev Z43 : Array Value := #[.int .i64 0, .string ⟨#[]⟩, .int .i64 0]
structure Rs (w X : World) : Prop where
  b : Box X 41 w.heap.size Z41
  k : Box X 43 (w.heap.size + 1) Z43
  g : w.grownBy X none
  s : w.heap.size + 2 <= X.heap.size
theorem rs_new (w : World) : Rs w ((w.alloc (.cells Z41 41)).alloc (.cells Z43 43)) := by
  have b1 := Box.kept (Box.new w 41 Z41) (World.grownBy_alloc _ (.cells Z43 43) none) (by simp)
  have b2 := Box.new (w.alloc (.cells Z41 41)) 43 Z43
  rw [show (w.alloc (.cells Z41 41)).heap.size = w.heap.size + 1 by simp] at b2
  exact ⟨b1, b2, gb_alloc (gb_alloc (gb_refl w none) _) _, by rw [hsz2]; exact Nat.le_refl _⟩
theorem Rs.kept {w X X' : World} (h : Rs w X) (hg : X.grownBy X' none) : Rs w X' := ⟨Box.kept h.b hg (by simp), Box.kept h.k hg (by simp), gb_trans h.g hg, Nat.le_trans h.s hg.size⟩
def DLn (l : Bs) (w : World) (e : Ending) (w' : World) : Prop :=
  ((∃ c n kv mv, dlineS l = .inl (c, n) /\ e = .returned (.tuple #[.agg (cmA c kv mv), .int .i64 n, .agg #[.int .i64 0, sv [], .int .i64 0]]) /\ Kw w' w.heap.size c kv mv) \/
    ∃ k t p, dlineS l = .inr (k, t, p) /\ e = .returned (.tuple #[.agg #[.int .i64 0, .slice none 0 0, .int .u64 0, .int .i64 0, .int .u64 0, .int .u64 0, .slice none 0 0, .bool false, .bool false, .slice none 0 0, .string ⟨#[]⟩], .int .i64 (-1), .agg #[.int .i64 k, sv t, .int .i64 p]])) /\ w.grownBy w' none
theorem rline_long {w : World} (v : Value) (l : Bs) (hB : By w v l) (hl : 2048 < l.length) : Calls Tryz.prog 13 #[v] w fun e w' => DLn l w e w' := by
  have hd : dlineS l = .inr (2, tooLong, -1) := by unfold dlineS; rw [if_pos hl]
  have hlen := hB.len
  obtain ⟨a, c, rfl⟩ : ∃ a c, v = .slice a l.length c := by
    rcases hB with ⟨rfl, a, c, rfl⟩ | ⟨g, o, c, rfl, _⟩
    . exact ⟨a, c, rfl⟩
    . exact ⟨_, c, rfl⟩
  have hrs := rs_new w
  have d1 : (2048 : Int) < l.length := by omega
  go_enter Tryz.func13, Tryz.ntmps13
  go_upto_region 1 with (fail)
  generalize (w.alloc (.cells Z41 41)).alloc (.cells Z43 43) = X at *
  have h55 := wrong_55 tooLong (-1) X
  have hs := hrs.s
  clear hB hlen hl
  go_wp2_with (first
    | (go_at_call 55; go_must ((with_reducible refine h55.mono ?_); rintro e X5 ⟨rfl, hg5⟩; have r5 := hrs.kept hg5))
    | (refine atS 41 w.heap.size 0 rfl rfl ?_; go_must (refine storeT 41 11 size41 rfl _ _ rfl 41 w.heap.size 0 _ r5.b (by simp) rfl _ rfl rfl (by simp [Value.oneCell']) ?_); intro X6 b6 g6; (have k6 := Box.kept r5.k g6 (by simp)))
    | (refine atS 43 (w.heap.size + 1) 0 rfl rfl ?_; go_must (refine storeT 43 3 size43 rfl _ _ rfl 43 (w.heap.size + 1) 0 _ k6 (by simp) rfl _ rfl rfl (by simp [Value.oneCell']) ?_); intro X7 k7 g7; (have b7 := Box.kept b6 g7 (by simp))))
  rw [show sets Z41 0 (#[.int .i64 0, .slice none 0 0, .int .u64 0, .int .i64 0, .int .u64 0, .int .u64 0, .slice none 0 0, .bool false, .bool false, .slice none 0 0, .string ⟨#[]⟩] : Array Value).toList = #[.int .i64 0, .slice none 0 0, .int .u64 0, .int .i64 0, .int .u64 0, .int .u64 0, .slice none 0 0, .bool false, .bool false, .slice none 0 0, .string ⟨#[]⟩] from sets_41 _ _ _ _ _ _ _ _ _ _ _ _ _ _ _ _ _ _ _ _ _ _] at b7
  rw [show sets Z43 0 (#[.int .i64 (2), sv (tooLong), .int .i64 (-1)] : Array Value).toList = #[.int .i64 (2), sv (tooLong), .int .i64 (-1)] from sets_43 _ _ _ _ _ _] at k7
  have G7 : w.grownBy X7 none := gb_mine (gb_mine r5.g g6 (Nat.le_refl _)) g7 (by omega)
  exact ⟨rfl, _, res13 b7 k7 _ rfl rfl rfl, .inr ⟨2, tooLong, -1, hd, rfl⟩, G7⟩
theorem rline_none {w : World} (v : Value) (l : Bs) (hB : By w v l) (hl : ¬ 2048 < l.length) (hn : spl [] l = [] \/ ∃ x ws, spl [] l = x :: ws /\ vbS x = 0) : Calls Tryz.prog 13 #[v] w fun e w' => DLn l w e w' := by
  have hd : dlineS l = .inr (1, [], -1) := by
    unfold dlineS
    rw [if_neg hl]
    rcases hn with h | ⟨x, ws, h, h2⟩
    . rw [h]
    . rw [h]; simp only; rw [if_pos h2]
  obtain ⟨a, c, rfl⟩ : ∃ a c, v = .slice a l.length c := by
    rcases hB with ⟨rfl, a, c, rfl⟩ | ⟨g, o, c, rfl, _⟩
    . exact ⟨a, c, rfl⟩
    . exact ⟨_, c, rfl⟩
  have hrs := rs_new w
  have d1 : ¬ (2048 : Int) < l.length := by omega
  go_enter Tryz.func13, Tryz.ntmps13
  go_upto_region 1 with (fail)
  generalize (w.alloc (.cells Z41 41)).alloc (.cells Z43 43) = X at *
  have hcv := (hB.kept hrs.g).conv
  have h56 := words_56 l (by omega) X
  have hs := hrs.s
  clear hB
  rcases hn with hn | ⟨x, ws, hn, hv⟩
  . rw [hn] at h56
    clear hn
    go_upto_region 4 with (go_at_call 56; go_must ((with_reducible refine h56.mono ?_); rintro e X5 ⟨wv, rfl, hrow, hg5⟩; have r5 := hrs.kept hg5))
    obtain ⟨wa, wc, hdw, _, _, _, _⟩ := row_shape hrow
    subst hdw
    clear hrow
    go_wp2_with (first
      | (refine atS 41 w.heap.size 0 rfl rfl ?_; go_must (refine storeT 41 11 size41 rfl _ _ rfl 41 w.heap.size 0 _ r5.b (by simp) rfl _ rfl rfl (by simp [Value.oneCell']) ?_); intro X6 b6 g6; (have k6 := Box.kept r5.k g6 (by simp)))
      | (refine atS 43 (w.heap.size + 1) 0 rfl rfl ?_; go_must (refine storeT 43 3 size43 rfl _ _ rfl 43 (w.heap.size + 1) 0 _ k6 (by simp) rfl _ rfl rfl (by simp [Value.oneCell']) ?_); intro X7 k7 g7; (have b7 := Box.kept b6 g7 (by simp))))
    rw [show sets Z41 0 (#[.int .i64 0, .slice none 0 0, .int .u64 0, .int .i64 0, .int .u64 0, .int .u64 0, .slice none 0 0, .bool false, .bool false, .slice none 0 0, .string ⟨#[]⟩] : Array Value).toList = #[.int .i64 0, .slice none 0 0, .int .u64 0, .int .i64 0, .int .u64 0, .int .u64 0, .slice none 0 0, .bool false, .bool false, .slice none 0 0, .string ⟨#[]⟩] from sets_41 _ _ _ _ _ _ _ _ _ _ _ _ _ _ _ _ _ _ _ _ _ _] at b7
    rw [show sets Z43 0 (#[.int .i64 (1), sv ([]), .int .i64 (-1)] : Array Value).toList = #[.int .i64 (1), sv ([]), .int .i64 (-1)] from sets_43 _ _ _ _ _ _] at k7
    have G7 : w.grownBy X7 none := gb_mine (gb_mine r5.g g6 (Nat.le_refl _)) g7 (by omega)
    exact ⟨rfl, _, res13 b7 k7 _ rfl rfl rfl, .inr ⟨1, [], -1, hd, rfl⟩, G7⟩
  . rw [hn] at h56
    clear hn
    go_upto_region 4 with (go_at_call 56; go_must ((with_reducible refine h56.mono ?_); rintro e X5 ⟨wv, rfl, hrow, hg5⟩; have r5 := hrs.kept hg5))
    obtain ⟨wa, wc, hdw, _, _, _, hpos⟩ := row_shape hrow
    subst hdw
    obtain ⟨g, rfl⟩ := hpos (by simp)
    have c0 : X5.cell? ⟨g, 0, none⟩ = some (sv x) := row_cell hrow 0 _ rfl
    have h57 := verbOf_57 x X5
    rw [hv] at h57
    have d2 : ¬ ((x :: ws).length : Int) = 0 := by simp; omega
    have d3 : (((x :: ws).length : Int) == 0) = false := by simp; omega
    have d4 : (0 : Int) < ((x :: ws).length : Int) := Int.natCast_pos.2 (by simp)
    generalize (x :: ws).length = n at *
    clear hrow
    go_wp2_with (first
      | (go_at_call 57; go_must ((with_reducible refine h57.mono ?_); rintro e X8 ⟨rfl, hg8⟩; have r8 := r5.kept hg8))
      | (refine atS 41 w.heap.size 0 rfl rfl ?_; go_must (refine storeT 41 11 size41 rfl _ _ rfl 41 w.heap.size 0 _ r8.b (by simp) rfl _ rfl rfl (by simp [Value.oneCell']) ?_); intro X6 b6 g6; (have k6 := Box.kept r8.k g6 (by simp)))
      | (refine atS 43 (w.heap.size + 1) 0 rfl rfl ?_; go_must (refine storeT 43 3 size43 rfl _ _ rfl 43 (w.heap.size + 1) 0 _ k6 (by simp) rfl _ rfl rfl (by simp [Value.oneCell']) ?_); intro X7 k7 g7; (have b7 := Box.kept b6 g7 (by simp))))
    rw [show sets Z41 0 (#[.int .i64 0, .slice none 0 0, .int .u64 0, .int .i64 0, .int .u64 0, .int .u64 0, .slice none 0 0, .bool false, .bool false, .slice none 0 0, .string ⟨#[]⟩] : Array Value).toList = #[.int .i64 0, .slice none 0 0, .int .u64 0, .int .i64 0, .int .u64 0, .int .u64 0, .slice none 0 0, .bool false, .bool false, .slice none 0 0, .string ⟨#[]⟩] from sets_41 _ _ _ _ _ _ _ _ _ _ _ _ _ _ _ _ _ _ _ _ _ _] at b7
    rw [show sets Z43 0 (#[.int .i64 (1), sv ([]), .int .i64 (-1)] : Array Value).toList = #[.int .i64 (1), sv ([]), .int .i64 (-1)] from sets_43 _ _ _ _ _ _] at k7
    have G7 : w.grownBy X7 none := gb_mine (gb_mine r8.g g6 (Nat.le_refl _)) g7 (by omega)
    exact ⟨rfl, _, res13 b7 k7 _ rfl rfl rfl, .inr ⟨1, [], -1, hd, rfl⟩, G7⟩
end Go.Proofs.YtobegepebochkaaGreatDoor

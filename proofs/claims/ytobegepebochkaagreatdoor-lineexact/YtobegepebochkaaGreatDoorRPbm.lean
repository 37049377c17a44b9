import Derived.Test.YtobegepebochkaaGreatDoorRBh
import Derived.Test.YtobegepebochkaaGreatDoorRBi
set_option linter.unusedVariables false
set_option linter.unusedSimpArgs false
namespace Go.Proofs.YtobegepebochkaaGreatDoor
open Go.RowKit
theorem Kd.other {w w' : World} {bb : Nat} {A : Array Value} {F G : Nat → Prop} {eO eI fO fI : TypeId} {s r : Nat} {hv wv hu wu : Value} {KV KW JV JW : Nat} {V W U X : Nat → Value} {N M : Nat → Nat} {D E : Nat → List Value} (h : Kd w F eO eI s hv wv KV KW V W N D) (g : Kd w G fO fI r hu wu JV JW U X M E) (hb : Box w 31 bb A) (hk : Kp (fun k => k = bb ∨ G k) w w') (n1 : 31 ≠ eO) (n2 : 31 ≠ eI) (n3 : fO ≠ eO) (n4 : fO ≠ eI) (n5 : fI ≠ eO) (n6 : fI ≠ eI) : Kd w' F eO eI s hv wv KV KW V W N D :=
  h.same (fun k h1 => hk.block k (h.fl k h1) (by
    rintro (rfl | h2)
    · exact h.not hb n1 n2 h1
    · obtain ⟨c, h3 | h3⟩ := g.ft k h2
      · exact h.not h3 n3 n4 h1
      · exact h.not h3 n5 n6 h1))
section
variable {s0 : Value} {w : World} {bb : Nat} {FB : Nat → Prop} {K : Nat}
end
end Go.Proofs.YtobegepebochkaaGreatDoor
namespace Go.Proofs.YtobegepebochkaaGreatDoor
open Go.RowKit Go.Maps
theorem takeL_len (r : Rw) : ∀ (ws : List Bs) (i : Nat) (c d : Cmd), takeL r i c ws = .inl d → d.keys.length ≤ c.keys.length + ws.length ∧ d.mt.length ≤ c.mt.length + ws.length
  | [], i, c, d, h => by
    simp only [takeL] at h
    injection h with h
    subst h
    exact ⟨by simp, by simp⟩
  | x :: ws, i, c, d, h => by
    simp only [takeL] at h
    cases h1 : take1 c (lett r i) x with
    | inr e => rw [h1] at h; cases h
    | inl d1 =>
      rw [h1] at h
      have h2 := takeL_len r ws (i + 1) d1 d h
      have h3 := take1_len h1
      simp only [List.length_cons]
      omega
theorem readS_len {r : Rw} {ws : List Bs} {c : Cmd} (h : readS r ws = .inl c) : c.keys.length ≤ ws.length ∧ c.mt.length ≤ ws.length := by
  simp only [readS] at h
  have hv : (if qt r ws then ws.dropLast else ws).length ≤ ws.length := by split <;> simp
  generalize (if qt r ws then ws.dropLast else ws) = vs at h hv
  split at h
  · cases h1 : takeL r 0 (cmd0 r.verb (qt r ws)) vs with
    | inr e => rw [h1] at h; simp only [fin] at h; cases h
    | inl d =>
      rw [h1] at h
      simp only [fin] at h
      have h2 := takeL_len r vs 0 _ d h1
      split at h
      · injection h with h
        subst h
        simp only [cmd0, List.length_nil] at h2
        omega
      · cases h
  · cases h
theorem lineS_len {l : Bs} {c : Cmd} {n : Int} (h : lineS l = .inl (c, n)) : c.keys.length ≤ 2049 ∧ c.mt.length ≤ 2049 ∧ l.length ≤ 2048 := by
  unfold lineS at h
  split at h
  · cases h
  · rename_i hl
    have h1 := spl_lenY l []
    cases hs : spl [] l with
    | nil => rw [hs] at h; cases h
    | cons x ws =>
      rw [hs] at h h1
      simp only [List.length_cons] at h1
      simp only at h
      cases hr : rowS x with
      | none => rw [hr] at h; cases h
      | some r =>
        rw [hr] at h
        simp only at h
        cases hd : readS r ws with
        | inr e => rw [hd] at h; cases h
        | inl d =>
          rw [hd] at h
          simp only at h
          injection h with h
          injection h with h _
          subst h
          have h2 := readS_len hd
          omega
def Sl (w : World) (v : Value) (l : Bs) : Prop := (∃ a c, v = .slice a l.length c) ∧ l.length ≤ 140737488355328
theorem Sl.shape {w : World} {v : Value} {l : Bs} (h : Sl w v l) : ∃ a c, v = .slice a l.length c := h.1
theorem Sl.len {w : World} {v : Value} {l : Bs} (h : Sl w v l) : l.length ≤ 140737488355328 := h.2
set_option maxRecDepth 100000 in
set_option maxHeartbeats 4000000 in
theorem begin_longX {w : World} (gb : Nat) (v : Value) (l : Bs) (hB : Sl w v l) (hl : 2048 < l.length) :
    Calls Tryz.prog 101 #[.map (some gb), v] w fun e w' => e = up ⟨tooLong.toArray⟩ ∧ w.grownBy w' none := by
  obtain ⟨a, c, rfl⟩ := hB.shape
  have hgA := gb_alloc (gb_refl w none) (.cells #[.int .i64 0, .string ⟨#[]⟩, .string ⟨#[]⟩, .bool false, .bool false] 148)
  have hll : decide (2048 < (l.length : Int)) = true := decide_eq_true (by omega)
  go_enter Tryz.func101, Tryz.ntmps101
  go_wp2_with (go_at_call 141; (with_reducible refine (giveUp_27 _ _).mono ?_); rintro e w2 ⟨rfl, rfl⟩)
  exact ⟨rfl, rfl, hgA⟩
set_option maxRecDepth 100000 in
set_option maxHeartbeats 4000000 in
theorem line_upX {w : World} (gb : Nat) (v : Value) (l : Bs) (hB : Sl w v l) (t : Bs) (ht : lineS l = .inr (if t = [] then 1 else 2, t, -1)) (h16 : ∀ W, w.grownBy W none → Calls Tryz.prog 101 #[.map (some gb), v] W fun e w' => e = up ⟨t.toArray⟩ ∧ W.grownBy w' none) :
    Calls Tryz.prog 63 #[.map (some gb), v] w fun e w' => LnP l w e w' := by
  have hmf : ∀ (fn : Fn) (first cap : Array Value) (w : World), (Instr.makeFunc fn first cap).run Tryz.prog w = .ok (.func fn first cap) w := fun _ _ _ _ => rfl
  obtain ⟨a, c, rfl⟩ := hB.shape
  obtain ⟨q1, q2, q3, q4, q5⟩ := ln0 w _ rfl
  have h16' := h16 _ q5
  clear h16
  go_enter_defers Tryz.func63, Tryz.ntmps63
  go_wp2_with (go_at_call 101; go_must ((with_reducible refine h16'.mono ?_); rintro e w5 ⟨rfl, hg5⟩))
  refine door_up t (-1) _ _ _ _ _ _ _ _ _ _ _ _ _ _ _ (q4.kept hg5 (by simp)) (q1.kept hg5 (by simp)) (q2.kept hg5 (by simp)) (q3.kept hg5 (by simp)) (by omega) _ rfl rfl rfl _ ?_
  intro w' hk
  refine ⟨.inr ⟨_, _, _, ht, rfl⟩, ?_⟩
  refine Kp.grown (F := fun k => k = w.heap.size ∨ k = w.heap.size + 1 ∨ k = w.heap.size + 1 + 1) ?_ (fun i hi => by omega)
  exact Kp.trans (Kp.of (F := fun _ => False) (gb_trans q5 hg5)) hk (fun i h => h.elim) (fun i h => .inl h)
theorem line_10X {w : World} {gb : Nat} (hG : GM w gb rowL) (hE : Er w) (v : Value) (l : Bs) (hB : Sl w v l) (hl : 2048 < l.length) :
    Calls Tryz.prog 63 #[.map (some gb), v] w fun e w' => LnP l w e w' :=
  line_upX gb v l hB tooLong (by rw [if_neg (by decide)]; simp only [lineS, hl, if_true]) (fun W hW => begin_longX gb v l (hB.kept hW) hl)
set_option maxRecDepth 100000 in
set_option maxHeartbeats 4000000 in
theorem Line_6X {w : World} (hE : Er w) (v : Value) (l : Bs) (hB : Sl w v l) (hll : 2048 < l.length) :
    Calls Tryz.prog 15 #[v] w fun e w' => LnP l w e w' := by
  obtain ⟨W2, hW2⟩ : ∃ W2, (w.alloc (.cells (Z31 0 false) 41)).alloc (.cells #[.int .i64 0, .string ⟨#[]⟩, .int .i64 0] 43) = W2 := ⟨_, rfl⟩
  have q1 : Box W2 41 w.heap.size (Z31 0 false) := by rw [← hW2]; exact (Box.new w 41 _).kept (gb_alloc (gb_refl _ none) _) (by simp)
  have q2 : Box W2 43 (w.heap.size + 1) #[.int .i64 0, .string ⟨#[]⟩, .int .i64 0] := by
    have := Box.new (w.alloc (.cells (Z31 0 false) 41)) 43 #[.int .i64 0, .string ⟨#[]⟩, .int .i64 0]
    simp only [World.size_alloc] at this
    rw [← hW2]; exact this
  have q3 : w.grownBy W2 none := by rw [← hW2]; exact gb_alloc (gb_alloc (gb_refl w none) _) _
  have h9 := rows_9 W2
  rw [show W2.heap.size = w.heap.size + 1 + 1 by rw [← hW2]; simp] at h9
  have h10 := fun W gb (hG : GM W gb rowL) hE (hB : Sl W v l) => line_10X hG hE v l hB hll
  obtain ⟨a, c0, rfl⟩ := hB.shape
  subst hW2
  go_enter Tryz.func15, Tryz.ntmps15
  go_wp2_with (first | (go_at_call 62; go_must ((with_reducible refine h9.mono ?_); rintro e w3 ⟨rfl, hG3, hg3⟩; (have hgw3 := gb_trans q3 hg3))) | (go_at_call 63; go_must ((with_reducible refine (h10 _ _ hG3 (hE.kept hgw3) (hB.kept hgw3)).mono ?_); rintro e w4 ⟨hL, hg4⟩; (have hg24 := gb_trans hg3 hg4); (have y1 := q1.kept hg24 (by simp)); (have y2 := q2.kept hg24 (by simp)); (have hs3 := hg3.size); (have cc0 : w4.cell? ⟨w.heap.size, 0, none⟩ = some (.int .i64 0) := y1.cell 0); (have cf0 := y1.fz 0); (have cc1 : w4.cell? ⟨w.heap.size, 1, none⟩ = some (.slice none 0 0) := y1.cell 1); (have cf1 := y1.fz 1); (have cc2 : w4.cell? ⟨w.heap.size, 2, none⟩ = some (.int .u64 0) := y1.cell 2); (have cf2 := y1.fz 2); (have cc3 : w4.cell? ⟨w.heap.size, 3, none⟩ = some (.int .i64 0) := y1.cell 3); (have cf3 := y1.fz 3); (have cc4 : w4.cell? ⟨w.heap.size, 4, none⟩ = some (.int .u64 0) := y1.cell 4); (have cf4 := y1.fz 4); (have cc5 : w4.cell? ⟨w.heap.size, 5, none⟩ = some (.int .u64 0) := y1.cell 5); (have cf5 := y1.fz 5); (have cc6 : w4.cell? ⟨w.heap.size, 6, none⟩ = some (.slice none 0 0) := y1.cell 6); (have cf6 := y1.fz 6); (have cc7 : w4.cell? ⟨w.heap.size, 7, none⟩ = some (.bool false) := y1.cell 7); (have cf7 := y1.fz 7); (have cc8 : w4.cell? ⟨w.heap.size, 8, none⟩ = some (.bool false) := y1.cell 8); (have cf8 := y1.fz 8); (have cc9 : w4.cell? ⟨w.heap.size, 9, none⟩ = some (.slice none 0 0) := y1.cell 9); (have cf9 := y1.fz 9); (have cc10 : w4.cell? ⟨w.heap.size, 10, none⟩ = some (.string ⟨#[]⟩) := y1.cell 10); (have cf10 := y1.fz 10); (have ec0 : w4.cell? ⟨w.heap.size + 1, 0, none⟩ = some (.int .i64 0) := y2.cell 0); (have ef0 := y2.fz 0); (have ec1 : w4.cell? ⟨w.heap.size + 1, 1, none⟩ = some (.string ⟨#[]⟩) := y2.cell 1); (have ef1 := y2.fz 1); (have ec2 : w4.cell? ⟨w.heap.size + 1, 2, none⟩ = some (.int .i64 0) := y2.cell 2); (have ef2 := y2.fz 2); rcases hL with ⟨c, n, kv, mv, hl, rfl, kr, mr⟩ | ⟨k, t, p, hl, rfl⟩; obtain ⟨ka, kc, rfl, -, -, -, -⟩ := row_shape kr; obtain ⟨ma, mc, rfl, -, -, -, -⟩ := row_shape mr)))
  · obtain ⟨x1, gx1⟩ := box11 (v0 := (.int .i64 c.verb)) (v1 := (.slice ka c.keys.length kc)) (v2 := (.int .u64 c.flags)) (v3 := (.int .i64 c.exp)) (v4 := (.int .u64 c.tok)) (v5 := (.int .u64 c.del)) (v6 := (.slice none 0 0)) (v7 := (.bool c.nr)) (v8 := (.bool false)) (v9 := (.slice ma c.mt.length mc)) (v10 := (.string ⟨c.what.toArray⟩)) y1
    have hkr := row_kept kr gx1 (fun k hk e => by injection e with e; have := (World.ownsRow.lt kr k hk).1; simp at hs3; omega)
    have hmr := row_kept mr gx1 (fun k hk e => by injection e with e; have := (World.ownsRow.lt mr k hk).1; simp at hs3; omega)
    have x2 := y2.kept gx1 (by simp)
    generalize (((((((((((w4.setCell ⟨w.heap.size, 0, none⟩ (.int .i64 c.verb)).setCell ⟨w.heap.size, 1, none⟩ (.slice ka c.keys.length kc)).setCell ⟨w.heap.size, 2, none⟩ (.int .u64 c.flags)).setCell ⟨w.heap.size, 3, none⟩ (.int .i64 c.exp)).setCell ⟨w.heap.size, 4, none⟩ (.int .u64 c.tok)).setCell ⟨w.heap.size, 5, none⟩ (.int .u64 c.del)).setCell ⟨w.heap.size, 6, none⟩ (.slice none 0 0)).setCell ⟨w.heap.size, 7, none⟩ (.bool c.nr)).setCell ⟨w.heap.size, 8, none⟩ (.bool false)).setCell ⟨w.heap.size, 9, none⟩ (.slice ma c.mt.length mc)).setCell ⟨w.heap.size, 10, none⟩ (.string ⟨c.what.toArray⟩)) = S1 at x1 gx1 hkr hmr x2 ⊢
    obtain ⟨z2, gz2⟩ := box3 (v0 := .int .i64 0) (v1 := .string ⟨#[]⟩) (v2 := .int .i64 0) x2
    have z1 := x1.kept gz2 (by simp)
    have hkr2 := row_kept hkr gz2 (fun k hk e => by injection e with e; have := (World.ownsRow.lt kr k hk).1; simp at hs3; omega)
    have hmr2 := row_kept hmr gz2 (fun k hk e => by injection e with e; have := (World.ownsRow.lt mr k hk).1; simp at hs3; omega)
    refine ⟨rfl, _, res6 z1 z2 _ rfl rfl rfl, .inl ⟨c, n, .slice ka c.keys.length kc, .slice ma c.mt.length mc, hl, rfl, row_base hkr2 (by simp at hs3; omega), row_base hmr2 (by simp at hs3; omega)⟩, ?_⟩
    exact gb_mine (gb_mine (gb_trans hgw3 hg4) gx1 (by omega)) gz2 (by omega)
  · obtain ⟨x1, gx1⟩ := box11 (v0 := (.int .i64 0)) (v1 := (.slice none 0 0)) (v2 := (.int .u64 0)) (v3 := (.int .i64 0)) (v4 := (.int .u64 0)) (v5 := (.int .u64 0)) (v6 := (.slice none 0 0)) (v7 := (.bool false)) (v8 := (.bool false)) (v9 := (.slice none 0 0)) (v10 := (.string ⟨#[]⟩)) y1
    have x2 := y2.kept gx1 (by simp)
    generalize (((((((((((w4.setCell ⟨w.heap.size, 0, none⟩ (.int .i64 0)).setCell ⟨w.heap.size, 1, none⟩ (.slice none 0 0)).setCell ⟨w.heap.size, 2, none⟩ (.int .u64 0)).setCell ⟨w.heap.size, 3, none⟩ (.int .i64 0)).setCell ⟨w.heap.size, 4, none⟩ (.int .u64 0)).setCell ⟨w.heap.size, 5, none⟩ (.int .u64 0)).setCell ⟨w.heap.size, 6, none⟩ (.slice none 0 0)).setCell ⟨w.heap.size, 7, none⟩ (.bool false)).setCell ⟨w.heap.size, 8, none⟩ (.bool false)).setCell ⟨w.heap.size, 9, none⟩ (.slice none 0 0)).setCell ⟨w.heap.size, 10, none⟩ (.string ⟨#[]⟩)) = S1 at x1 gx1 x2 ⊢
    obtain ⟨z2, gz2⟩ := box3 (v0 := .int .i64 k) (v1 := .string ⟨t.toArray⟩) (v2 := .int .i64 p) x2
    have z1 := x1.kept gz2 (by simp)
    refine ⟨rfl, _, res6 z1 z2 _ rfl rfl rfl, .inr ⟨k, t, p, hl, rfl⟩, ?_⟩
    exact gb_mine (gb_mine (gb_trans hgw3 hg4) gx1 (by omega)) gz2 (by omega)
set_option maxRecDepth 100000 in
set_option maxHeartbeats 4000000 in
theorem rline_longX {w : World} (v : Value) (l : Bs) (hB : Sl w v l) (hl : 2048 < l.length) : Calls Tryz.prog 13 #[v] w fun e w' => DLn l w e w' := by
  have hd : dlineS l = .inr (2, tooLong, -1) := by unfold dlineS; rw [if_pos hl]
  have hlen := hB.len
  obtain ⟨a, c, rfl⟩ := hB.shape
  have hrs := rs_new w
  have d1 : (2048 : Int) < l.length := by omega
  go_enter Tryz.func13, Tryz.ntmps13
  go_upto_region 1 with (fail)
  generalize (w.alloc (.cells Z41 41)).alloc (.cells Z43 43) = X at *
  have h55 := wrong_55 tooLong (-1) X
  have hs := hrs.s
  clear hB hlen hl
  go_wp2_with (first
    | (go_at_call 55; go_must ((with_reducible refine h55.mono ?_); rintro e X5 ⟨rfl, hg5⟩; have r5 := hrs.kept hg5))
    | (refine atS 41 w.heap.size 0 rfl rfl ?_; go_must (refine storeT 41 11 size41 rfl _ _ rfl 41 w.heap.size 0 _ r5.b (by simp) rfl _ rfl rfl (by simp [Value.oneCell']) ?_); intro X6 b6 g6; (have k6 := Box.kept r5.k g6 (by simp)))
    | (refine atS 43 (w.heap.size + 1) 0 rfl rfl ?_; go_must (refine storeT 43 3 size43 rfl _ _ rfl 43 (w.heap.size + 1) 0 _ k6 (by simp) rfl _ rfl rfl (by simp [Value.oneCell']) ?_); intro X7 k7 g7; (have b7 := Box.kept b6 g7 (by simp))))
  rw [show sets Z41 0 (#[.int .i64 0, .slice none 0 0, .int .u64 0, .int .i64 0, .int .u64 0, .int .u64 0, .slice none 0 0, .bool false, .bool false, .slice none 0 0, .string ⟨#[]⟩] : Array Value).toList = #[.int .i64 0, .slice none 0 0, .int .u64 0, .int .i64 0, .int .u64 0, .int .u64 0, .slice none 0 0, .bool false, .bool false, .slice none 0 0, .string ⟨#[]⟩] from sets_41 _ _ _ _ _ _ _ _ _ _ _ _ _ _ _ _ _ _ _ _ _ _] at b7
  rw [show sets Z43 0 (#[.int .i64 (2), sv (tooLong), .int .i64 (-1)] : Array Value).toList = #[.int .i64 (2), sv (tooLong), .int .i64 (-1)] from sets_43 _ _ _ _ _ _] at k7
  have G7 : w.grownBy X7 none := gb_mine (gb_mine r5.g g6 (Nat.le_refl _)) g7 (by omega)
  exact ⟨rfl, _, res13 b7 k7 _ rfl rfl rfl, .inr ⟨2, tooLong, -1, hd, rfl⟩, G7⟩
theorem ck_sl {w : World} {X : Nat → Prop} {v : Value} {l : Bs} (h : Ck w X v l) (hl : l.length ≤ 140737488355328) : Sl w v l := by
  obtain ⟨a, n, c, rfl, rfl⟩ := h.slice
  exact ⟨⟨a, c, rfl⟩, hl⟩
theorem ck_by {w : World} {X : Nat → Prop} {v : Value} {l : Bs} (h : Ck w X v l) (hl : l.length ≤ 1099511627776) : By w v l := by
  rcases h with ⟨rfl, rfl⟩ | ⟨g, o, c, rfl, _, _, h3, _, h4⟩
  · exact .inl ⟨rfl, _, _, rfl⟩
  · exact .inr ⟨g, o, c, rfl, hl, h3, h4⟩
theorem line_any {w : World} {X : Nat → Prop} (hE : Er w) (v : Value) (l : Bs) (h : Ck w X v l) (hl : l.length ≤ 140737488355328) : Calls Tryz.prog 15 #[v] w fun e w' => LnP l w e w' := by
  by_cases h1 : 2048 < l.length
  · exact Line_6X hE v l (ck_sl h hl) h1
  · exact Line_6 hE v l (ck_by h (by omega))
theorem rline_any {w : World} {X : Nat → Prop} (v : Value) (l : Bs) (h : Ck w X v l) (hl : l.length ≤ 140737488355328) : Calls Tryz.prog 13 #[v] w fun e w' => LnP l w e w' := by
  by_cases h1 : 2048 < l.length
  · refine (rline_longX v l (ck_sl h hl) h1).mono fun e w' he => ?_
    obtain ⟨h1, h2⟩ := he
    rw [dline_eq] at h1
    refine ⟨?_, h2⟩
    rcases h1 with ⟨c, n, kv, mv, ha, hb, hk⟩ | ⟨k, t, p, ha, hb⟩
    · exact .inl ⟨c, n, kv, mv, ha, hb, hk.k, hk.m⟩
    · exact .inr ⟨k, t, p, ha, hb⟩
  · exact rline_13 v l (ck_by h (by omega))
end Go.Proofs.YtobegepebochkaaGreatDoor
namespace Go.Proofs.YtobegepebochkaaGreatDoor
open Go.RowKit Go.Maps
def Bw (w : World) (v : Value) (l : Bs) : Prop := Ck w (fun _ => False) v l ∨ (l = [] ∧ ∃ a c, v = .slice (some a) 0 c)
theorem Bw.kept {w w' : World} {v : Value} {l : Bs} (h : Bw w v l) (hg : w.grownBy w' none) : Bw w' v l := by
  rcases h with h | h
  · exact .inl (h.kp (Kp.of (F := fun _ => False) hg) (fun _ _ h => h.elim) (fun _ _ h => h.elim))
  · exact .inr h
theorem Bw.slice {w : World} {v : Value} {l : Bs} (h : Bw w v l) : ∃ a n c, v = .slice a n c ∧ n = l.length := by
  rcases h with h | ⟨rfl, a, c, rfl⟩
  · exact h.slice
  · exact ⟨_, _, _, rfl, rfl⟩
section
variable {w : World} {ops : Array Oper} {rest : List Oper} {o : Oper} {a : Act} {Q : Exit → Act → World → Prop}
theorem moreW (hgd : o.guard = none) (s x : Operand) (ho : o.op = .call { callee := .builtin .append, args := #[s, x], argTypes := #[38, 38] })
    (B : Nat) (v : Value) (n : Nat) (xs : List Value) (hs : a.eval s = v) (hown : w.ownsRow B 5 1 v n xs) (xv : Value) (l : Bs) (hx : a.eval x = xv) (hc : Bw w xv l) (hn : n + l.length ≤ 140737488355328) (hB : B ≤ w.heap.size)
    (h : ∀ v' w', w'.ownsRow B 5 1 v' (n + l.length) (xs ++ l.map b8) → w.grownBy w' v.ownBlock → wpList Tryz.prog ops Q rest (a.put o.dst v') w') : wpList Tryz.prog ops Q (o :: rest) a w := by
  rcases hc with hc | ⟨rfl, a', c', rfl⟩
  · exact moreC hgd s x ho B v n xs hs hown _ xv l hx hc hn hB h
  · obtain ⟨ti, T⟩ := ty_38
    have hrun := run_psh0 T w o.type B v n xs hown (.slice (some a') 0 c') ⟨_, _, rfl⟩
    refine wpList_plain hgd fun K hK => ?_
    unfold Oper.wp
    simp [execOp, ho, resolve, invoke, builtin, hs, hx, hrun, Result.andThen]
    exact hK _ _ (h v w (by simpa using hown) (gb_refl _ _))
end
def an (l : Bs) : Cmd × Int × Int × Bs × Int := match lineS l with
  | .inl (c, n) => (c, n, 0, [], 0)
  | .inr (k, t, p) => (cmd0 0 false, -1, k, t, p)
def LnU (l : Bs) (w : World) (e : Ending) (w' : World) : Prop :=
  ∃ ka kc ma mc, e = .returned (.tuple #[.agg (cmA (an l).1 (.slice ka (an l).1.keys.length kc) (.slice ma (an l).1.mt.length mc)), .int .i64 (an l).2.1, .agg #[.int .i64 (an l).2.2.1, sv (an l).2.2.2.1, .int .i64 (an l).2.2.2.2]]) ∧ w'.ownsRow w.heap.size 9 1 (.slice ka (an l).1.keys.length kc) (an l).1.keys.length ((an l).1.keys.map sv) ∧ w'.ownsRow w.heap.size 79 3 (.slice ma (an l).1.mt.length mc) (an l).1.mt.length (fcs (an l).1.mt) ∧ w.grownBy w' none
theorem LnU.of {l : Bs} {w w' : World} {e : Ending} (h : LnP l w e w') : LnU l w e w' := by
  obtain ⟨h1, hg⟩ := h
  rcases h1 with ⟨c, n, kv, mv, hl, rfl, hk, hm⟩ | ⟨k, t, p, hl, rfl⟩
  · obtain ⟨ka, kc, rfl, _⟩ := row_shape hk
    obtain ⟨ma, mc, rfl, _⟩ := row_shape hm
    refine ⟨ka, kc, ma, mc, ?_⟩
    simp only [an, hl]
    first | exact ⟨rfl, hk, hm, hg⟩ | exact ⟨trivial, hk, hm, hg⟩
  · refine ⟨none, 0, none, 0, ?_⟩
    simp only [an, hl]
    first | exact ⟨rfl, ⟨rfl, .inl ⟨rfl, rfl⟩⟩, ⟨rfl, .inl ⟨rfl, rfl⟩⟩, hg⟩ | exact ⟨trivial, ⟨rfl, .inl ⟨rfl, rfl⟩⟩, ⟨rfl, .inl ⟨rfl, rfl⟩⟩, hg⟩
def Rb (w : World) (a : Option Addr) (ls : List Bs) : Prop :=
  0 < ls.length → ∃ g o, a = some ⟨g, o, none⟩ ∧ ∀ i l, ls[i]? = some l → ∃ u, w.cell? ⟨g, o + i, none⟩ = some u ∧ Bw w u l ∧ l.length ≤ 140737488351232
end Go.Proofs.YtobegepebochkaaGreatDoor

import Derived.Test.YtbbocbdoiealoaaGreatDoorRPau
set_option linter.unusedVariables false
set_option linter.unusedSimpArgs false
namespace Go.Proofs.YtbbocbdoiealoaaGreatDoor
open Go.RowKit Go.Maps
theorem spl_cnt : ∀ (l cur : Bs), (spl cur l).length ≤ l.length + 1
  | [], cur => by simp only [spl]; split <;> simp
  | b :: t, cur => by
    simp only [spl]
    split
    · split
      · have := spl_cnt t []; simp; omega
      · have := spl_cnt t []; simp; omega
    · have := spl_cnt t (cur ++ [b]); simp; omega
theorem take1_ne {c : Cmd} {a : UInt8} {x t : Bs} (h : take1 c a x = .inr t) : t ≠ [] := by
  unfold take1 at h
  repeat' split at h
  all_goals first
    | (injection h with h; subst h; decide)
    | cases h
theorem takeL_ne {r : Rw} : ∀ {i : Nat} {c : Cmd} {ws : List Bs} {t : Bs}, takeL r i c ws = .inr t → t ≠ []
  | i, c, [], t, h => by simp [takeL] at h
  | i, c, x :: ws, t, h => by
    simp only [takeL] at h
    split at h
    · exact takeL_ne h
    · rename_i e he; injection h with h; subst h; exact take1_ne he
theorem rd_ne {r : Rw} {q : Bool} {vs : List Bs} {t : Bs} (h : (if takes r vs.length then fin r.verb (takeL r 0 (cmd0 r.verb q) vs) else .inr badLine) = .inr t) : t ≠ [] := by
  split at h
  · cases ht : takeL r 0 (cmd0 r.verb q) vs with
    | inl c =>
      rw [ht] at h
      simp only [fin] at h
      split at h
      · cases h
      · rename_i h1; injection h with h; subst h; exact h1
    | inr e =>
      rw [ht] at h
      simp only [fin] at h
      injection h with h
      subst h
      exact takeL_ne ht
  · injection h with h; subst h; decide
theorem readS_ne {r : Rw} {ws : List Bs} {t : Bs} (h : readS r ws = .inr t) : t ≠ [] := rd_ne (q := qt r ws) (vs := if qt r ws then ws.dropLast else ws) h
theorem Ws.kept {w w' : World} {v : Value} {ws : List Bs} (h : Ws w v ws) (hg : w.grownBy w' none) : Ws w' v ws := by
  rcases h with h | ⟨g, o, c, h1, h2, h3, h4⟩
  · exact .inl h
  · exact .inr ⟨g, o, c, h1, h2, Nat.lt_of_lt_of_le h3 hg.size, fun i x hx => gb_cellN hg (h4 i x hx)⟩
theorem Ws.set {w : World} {v : Value} {ws : List Bs} (h : Ws w v ws) {b i : Nat} {u : Value} (hb : ∀ g o n c, v = .slice (some ⟨g, o, none⟩) n c → g ≠ b) : Ws (w.setCell ⟨b, i, none⟩ u) v ws := by
  rcases h with h | ⟨g, o, c, h1, h2, h3, h4⟩
  · exact .inl h
  · refine .inr ⟨g, o, c, h1, h2, by simpa using h3, fun j x hx => ?_⟩
    refine gb_cell (gb_setCell (gb_refl w (some b)) u) (h4 j x hx) (fun e => hb g o _ c h1 ?_)
    injection e
theorem Er.setB {w : World} (h : Er w) {b i : Nat} {v : Value} (hb : b ≠ 2 ∧ b ≠ 3) : Er (w.setCell ⟨b, i, none⟩ v) := by
  obtain ⟨⟨a, c, h1⟩, d, e, h2⟩ := h
  refine ⟨⟨a, c, ?_⟩, d, e, ?_⟩
  · exact gb_cell (gb_setCell (gb_refl w (some b)) v) h1 (fun e => hb.1 (by injection e with e; exact e.symm))
  · exact gb_cell (gb_setCell (gb_refl w (some b)) v) h2 (fun e => hb.2 (by injection e with e; exact e.symm))
set_option maxRecDepth 100000 in
set_option maxHeartbeats 4000000 in
theorem line_read {w : World} {gb : Nat} (hG : GM w gb rowL) (hE : Er w) (v : Value) (l : Bs) (hB : By w v l) (hl : l.length ≤ 2048) (x : Bs) (ws : List Bs) (hs : spl [] l = x :: ws) (r : Rw) (hr : rowS x = some r) :
    Calls Tryz.prog 68 #[.map (some gb), v] w fun e w' => LnP l w e w' := by
  have hmf : ∀ (fn : Fn) (first cap : Array Value) (w : World), (Instr.makeFunc fn first cap).run Tryz.prog w = .ok (.func fn first cap) w := fun _ _ _ _ => rfl
  have hR := rowS_ok hr
  have hws : ∀ y ∈ ws, y ≠ [] ∧ y.length ≤ 1099511627776 := fun y hy => by
    have hm : y ∈ spl [] l := by rw [hs]; exact List.mem_cons_of_mem _ hy
    have h1 := spl_len l [] y hm
    exact ⟨spl_ne l [] y hm, by simp at h1; omega⟩
  have hwn : ws.length ≤ 1000000000 := by have := spl_cnt l []; rw [hs] at this; simp at this; omega
  have h2048 : ¬ 2048 < l.length := by omega
  have hlI : ∀ c, readS r ws = .inl c → lineS l = .inl (c, passS r ws) := fun c h => by simp only [lineS, h2048, if_false, hs, hr, h]
  have hlR : ∀ t, readS r ws = .inr t → lineS l = .inr (2, t, passS r ws) := fun t h => by simp only [lineS, h2048, if_false, hs, hr, h]
  obtain ⟨a, c0, rfl⟩ := hB.shape
  obtain ⟨q1, q2, q3, q4, q5⟩ := ln0 w _ rfl
  have h16 := begin_16 (hG.kept q5 (by simp)) (hE.kept q5) _ l (hB.kept q5) hl x ws hs r hr
  have h17 := fun W v' (hW : Ws W v' ws) hE => pass_17 r hR v' ws hws hwn hW hE
  have h18 := fun W v' (hW : Ws W v' ws) hE => read_18 r hR v' ws hws hwn hW hE
  obtain ⟨p, hp⟩ : ∃ p, passS r ws = p := ⟨_, rfl⟩
  rw [hp] at hlI hlR
  simp only [hp] at h17
  clear hp hs hB
  go_enter_defers Tryz.func68, Tryz.ntmps68
  go_wp2_with (first | (go_at_call 106; go_must ((with_reducible refine h16.mono ?_); rintro e w5 ⟨v', rfl, hW5, hv5, hg5⟩; (have hgA := gb_alloc (gb_refl w5 none) (.cells #[.int .i64 r.verb, .string ⟨r.wants.toArray⟩, .string ⟨r.may.toArray⟩, .bool r.endless, .bool r.quiet] 151)); (have hb6 := Box.new w5 151 #[.int .i64 r.verb, .string ⟨r.wants.toArray⟩, .string ⟨r.may.toArray⟩, .bool r.endless, .bool r.quiet]); (have hW6 := hW5.kept hgA); (have hE6 := (hE.kept q5).kept (gb_trans hg5 hgA)); (have hlt5 := q4.lt); (have hs5 := hg5.size))) | (go_at_call 107; go_must ((with_reducible refine (h17 _ _ hW6 hE6).mono ?_); rintro e w7 ⟨rfl, hg7⟩; (have hg6 := gb_trans (gb_trans hg5 hgA) hg7); (have u1 := q1.kept hg6 (by simp)); (have u2 := q2.kept hg6 (by simp)); (have u3 := q3.kept hg6 (by simp)); (have u4 := q4.kept hg6 (by simp)); (have pc := u4.cell 0); (have pf := u4.fz 0); (have hb7 := hb6.kept hg7 (by simp)); (have hW7 := hW6.kept hg7); (have hW8 := hW7.set (b := w.heap.size + 1 + 1 + 1) (i := 0) (u := .int .i64 p) (fun g o n c h e => by have := hv5 g o n c h; simp at this; omega)); (have hgP := gb_setCell (gb_refl w7 (some (w.heap.size + 1 + 1 + 1))) (i := 0) (.int .i64 p)); (have hE8 := (hE6.kept hg7).setB (b := w.heap.size + 1 + 1 + 1) (i := 0) (v := .int .i64 p) (by have := cell_lt hE.1; have := cell_lt hE.2; dsimp only at *; omega)); (have hr8 := hb7.kept hgP (by simp; simp at hs5; omega)); (have rc0 : (w7.setCell ⟨w.heap.size + 1 + 1 + 1, 0, none⟩ (.int .i64 p)).cell? ⟨w5.heap.size, 0, none⟩ = some (.int .i64 r.verb) := hr8.cell 0); (have rc1 : (w7.setCell ⟨w.heap.size + 1 + 1 + 1, 0, none⟩ (.int .i64 p)).cell? ⟨w5.heap.size, 1, none⟩ = some (sv r.wants) := hr8.cell 1); (have rc2 : (w7.setCell ⟨w.heap.size + 1 + 1 + 1, 0, none⟩ (.int .i64 p)).cell? ⟨w5.heap.size, 2, none⟩ = some (sv r.may) := hr8.cell 2); (have rc3 : (w7.setCell ⟨w.heap.size + 1 + 1 + 1, 0, none⟩ (.int .i64 p)).cell? ⟨w5.heap.size, 3, none⟩ = some (.bool r.endless) := hr8.cell 3); (have rc4 : (w7.setCell ⟨w.heap.size + 1 + 1 + 1, 0, none⟩ (.int .i64 p)).cell? ⟨w5.heap.size, 4, none⟩ = some (.bool r.quiet) := hr8.cell 4))) | (go_at_call 108; go_must ((with_reducible refine (h18 _ _ hW8 hE8).mono ?_); rintro e w9 hRd; obtain ⟨hRd, hg9⟩ := hRd; (have y1 := (u1.kept hgP (by simp; omega)).kept hg9 (by simp)); (have y2 := (u2.kept hgP (by simp)).kept hg9 (by simp)); (have y3 := (u3.kept hgP (by simp)).kept hg9 (by simp)); (have y4 := (u4.set 0 (.int .i64 p)).kept hg9 (by simp)); (have cc0 : w9.cell? ⟨w.heap.size, 0, none⟩ = some (.int .i64 0) := y1.cell 0); (have cc1 : w9.cell? ⟨w.heap.size, 1, none⟩ = some (.slice none 0 0) := y1.cell 1); (have cc2 : w9.cell? ⟨w.heap.size, 2, none⟩ = some (.int .u64 0) := y1.cell 2); (have cc3 : w9.cell? ⟨w.heap.size, 3, none⟩ = some (.int .i64 0) := y1.cell 3); (have cc4 : w9.cell? ⟨w.heap.size, 4, none⟩ = some (.int .u64 0) := y1.cell 4); (have cc5 : w9.cell? ⟨w.heap.size, 5, none⟩ = some (.int .u64 0) := y1.cell 5); (have cc6 : w9.cell? ⟨w.heap.size, 6, none⟩ = some (.slice none 0 0) := y1.cell 6); (have cc7 : w9.cell? ⟨w.heap.size, 7, none⟩ = some (.bool false) := y1.cell 7); (have cc8 : w9.cell? ⟨w.heap.size, 8, none⟩ = some (.bool false) := y1.cell 8); (have cc9 : w9.cell? ⟨w.heap.size, 9, none⟩ = some (.slice none 0 0) := y1.cell 9); (have cc10 : w9.cell? ⟨w.heap.size, 10, none⟩ = some (.string ⟨#[]⟩) := y1.cell 10); (have cf0 := y1.fz 0); (have cf1 := y1.fz 1); (have cf2 := y1.fz 2); (have cf3 := y1.fz 3); (have cf4 := y1.fz 4); (have cf5 := y1.fz 5); (have cf6 := y1.fz 6); (have cf7 := y1.fz 7); (have cf8 := y1.fz 8); (have cf9 := y1.fz 9); (have cf10 := y1.fz 10); clear rc0 rc1 rc2 rc3 rc4 pc pf; rcases hRd with ⟨c, kv, mv, hrd, rfl, kr, mr⟩ | ⟨t, hrd, rfl⟩; obtain ⟨ka, kc, rfl, -, -, -, -⟩ := row_shape kr; obtain ⟨ma, mc, rfl, -, -, -, -⟩ := row_shape mr)))
  · have gAll : w.grownBy w9 none := gb_trans (gb_mine (gb_trans q5 hg6) hgP (by omega)) hg9
    have hB7 := u4.lt
    obtain ⟨x1, gx1⟩ := box11 (v0 := (.int .i64 c.verb)) (v1 := (.slice ka c.keys.length kc)) (v2 := (.int .u64 c.flags)) (v3 := (.int .i64 c.exp)) (v4 := (.int .u64 c.tok)) (v5 := (.int .u64 c.del)) (v6 := (.slice none 0 0)) (v7 := (.bool c.nr)) (v8 := (.bool false)) (v9 := (.slice ma c.mt.length mc)) (v10 := (.string ⟨c.what.toArray⟩)) y1
    have hkr := row_kept kr gx1 (fun k hk e => by injection e with e; have := (World.ownsRow.lt kr k hk).1; simp at this; have := hg6.size; have := q5.size; simp at *; omega)
    have hmr := row_kept mr gx1 (fun k hk e => by injection e with e; have := (World.ownsRow.lt mr k hk).1; simp at this; have := hg6.size; have := q5.size; simp at *; omega)
    have x2 := y2.kept gx1 (by simp)
    have x3 := y3.kept gx1 (by simp; omega)
    have x4 := y4.kept gx1 (by simp; omega)
    simp only [List.setIfInBounds_toArray, List.set_cons_zero] at x4
    generalize (((((((((((w9.setCell ⟨w.heap.size, 0, none⟩ (.int .i64 c.verb)).setCell ⟨w.heap.size, 1, none⟩ (.slice ka c.keys.length kc)).setCell ⟨w.heap.size, 2, none⟩ (.int .u64 c.flags)).setCell ⟨w.heap.size, 3, none⟩ (.int .i64 c.exp)).setCell ⟨w.heap.size, 4, none⟩ (.int .u64 c.tok)).setCell ⟨w.heap.size, 5, none⟩ (.int .u64 c.del)).setCell ⟨w.heap.size, 6, none⟩ (.slice none 0 0)).setCell ⟨w.heap.size, 7, none⟩ (.bool c.nr)).setCell ⟨w.heap.size, 8, none⟩ (.bool false)).setCell ⟨w.heap.size, 9, none⟩ (.slice ma c.mt.length mc)).setCell ⟨w.heap.size, 10, none⟩ (.string ⟨c.what.toArray⟩)) = S1 at x1 gx1 hkr hmr x2 x3 x4 ⊢
    have dc0 : S1.cell? ⟨w.heap.size, 0, none⟩ = some (.int .i64 c.verb) := x1.cell 0
    have df0 := x1.fz 0
    have dc1 : S1.cell? ⟨w.heap.size, 1, none⟩ = some (.slice ka c.keys.length kc) := x1.cell 1
    have df1 := x1.fz 1
    have dc2 : S1.cell? ⟨w.heap.size, 2, none⟩ = some (.int .u64 c.flags) := x1.cell 2
    have df2 := x1.fz 2
    have dc3 : S1.cell? ⟨w.heap.size, 3, none⟩ = some (.int .i64 c.exp) := x1.cell 3
    have df3 := x1.fz 3
    have dc4 : S1.cell? ⟨w.heap.size, 4, none⟩ = some (.int .u64 c.tok) := x1.cell 4
    have df4 := x1.fz 4
    have dc5 : S1.cell? ⟨w.heap.size, 5, none⟩ = some (.int .u64 c.del) := x1.cell 5
    have df5 := x1.fz 5
    have dc6 : S1.cell? ⟨w.heap.size, 6, none⟩ = some (.slice none 0 0) := x1.cell 6
    have df6 := x1.fz 6
    have dc7 : S1.cell? ⟨w.heap.size, 7, none⟩ = some (.bool c.nr) := x1.cell 7
    have df7 := x1.fz 7
    have dc8 : S1.cell? ⟨w.heap.size, 8, none⟩ = some (.bool false) := x1.cell 8
    have df8 := x1.fz 8
    have dc9 : S1.cell? ⟨w.heap.size, 9, none⟩ = some (.slice ma c.mt.length mc) := x1.cell 9
    have df9 := x1.fz 9
    have dc10 : S1.cell? ⟨w.heap.size, 10, none⟩ = some (.string ⟨c.what.toArray⟩) := x1.cell 10
    have df10 := x1.fz 10
    have pc : S1.cell? ⟨w.heap.size + 1 + 1 + 1, 0, none⟩ = some (.int .i64 p) := x4.cell 0
    have bc : S1.cell? ⟨w.heap.size + 1, 0, none⟩ = some (.int .i64 0) := x2.cell 0
    have bf := x2.fz 0
    have wc0 : S1.cell? ⟨w.heap.size + 1 + 1, 0, none⟩ = some (.int .i64 0) := x3.cell 0
    have wc1 : S1.cell? ⟨w.heap.size + 1 + 1, 1, none⟩ = some (.string ⟨#[]⟩) := x3.cell 1
    have wc2 : S1.cell? ⟨w.heap.size + 1 + 1, 2, none⟩ = some (.int .i64 0) := x3.cell 2
    have wf0 := x3.fz 0
    have wf1 := x3.fz 1
    have wf2 := x3.fz 2
    clear h16 h17 h18 cc0 cf0 cc1 cf1 cc2 cf2 cc3 cf3 cc4 cf4 cc5 cf5 cc6 cf6 cc7 cf7 cc8 cf8 cc9 cf9 cc10 cf10 y1 y2 y3 y4 u1 u2 u3 u4 hW5 hW6 hW7 hW8 hE6 hE8 hb6 hb7 hr8
    have gd := gb_drew (gb_refl S1 none)
    refine wp_region_noPanic ?_
    refine wp_region_held_drew (S := fun W : World => Box W 41 w.heap.size #[.int .i64 c.verb, .slice ka c.keys.length kc, .int .u64 c.flags, .int .i64 c.exp, .int .u64 c.tok, .int .u64 c.del, .slice none 0 0, .bool c.nr, .bool false, .slice ma c.mt.length mc, .string ⟨c.what.toArray⟩] ∧ Box W 3 (w.heap.size + 1 + 1 + 1) #[.int .i64 p]) (by kernel_rfl) ⟨x1.kept gd (by simp), x4.kept gd (by simp)⟩ (fun hS0 => ?_)
    refine wpAnyH_take (i := 0) (oi := { dst := some 23, op := Op.load 41 (Operand.tmp 4), type := 41, pos := _, after := #[], guard := none }) (v := ?_) rfl (by kernel_rfl) (by kernel_rfl) (by kernel_rfl) (fun _ _ _ h => h) (Or.inl ⟨by rfl, ?_⟩) (by first | trivial | assumption) ?_
    rotate_left 1
    · (intro W hSw; obtain ⟨sB, sP⟩ := hSw; have e0 : W.cell? ⟨w.heap.size, 0, none⟩ = some (.int .i64 c.verb) := sB.cell 0; have e1 : W.cell? ⟨w.heap.size, 1, none⟩ = some (.slice ka c.keys.length kc) := sB.cell 1; have e2 : W.cell? ⟨w.heap.size, 2, none⟩ = some (.int .u64 c.flags) := sB.cell 2; have e3 : W.cell? ⟨w.heap.size, 3, none⟩ = some (.int .i64 c.exp) := sB.cell 3; have e4 : W.cell? ⟨w.heap.size, 4, none⟩ = some (.int .u64 c.tok) := sB.cell 4; have e5 : W.cell? ⟨w.heap.size, 5, none⟩ = some (.int .u64 c.del) := sB.cell 5; have e6 : W.cell? ⟨w.heap.size, 6, none⟩ = some (.slice none 0 0) := sB.cell 6; have e7 : W.cell? ⟨w.heap.size, 7, none⟩ = some (.bool c.nr) := sB.cell 7; have e8 : W.cell? ⟨w.heap.size, 8, none⟩ = some (.bool false) := sB.cell 8; have e9 : W.cell? ⟨w.heap.size, 9, none⟩ = some (.slice ma c.mt.length mc) := sB.cell 9; have e10 : W.cell? ⟨w.heap.size, 10, none⟩ = some (.string ⟨c.what.toArray⟩) := sB.cell 10; have e11 : W.cell? ⟨w.heap.size + 1 + 1 + 1, 0, none⟩ = some (.int .i64 p) := sP.cell 0; go_simp; (try (with_reducible rfl)))
    try simp only [Act.put, List.setIfInBounds_toArray, List.set_cons_zero, List.set_cons_succ]
    refine wpAnyH_take (i := 1) (oi := { dst := some 24, op := Op.load 3 (Operand.tmp 7), type := 3, pos := _, after := #[], guard := none }) (v := ?_) rfl (by kernel_rfl) (by kernel_rfl) (by kernel_rfl) (fun _ _ _ h => h) (Or.inl ⟨by rfl, ?_⟩) (by first | trivial | assumption) ?_
    rotate_left 1
    · (intro W hSw; obtain ⟨sB, sP⟩ := hSw; have e0 : W.cell? ⟨w.heap.size, 0, none⟩ = some (.int .i64 c.verb) := sB.cell 0; have e1 : W.cell? ⟨w.heap.size, 1, none⟩ = some (.slice ka c.keys.length kc) := sB.cell 1; have e2 : W.cell? ⟨w.heap.size, 2, none⟩ = some (.int .u64 c.flags) := sB.cell 2; have e3 : W.cell? ⟨w.heap.size, 3, none⟩ = some (.int .i64 c.exp) := sB.cell 3; have e4 : W.cell? ⟨w.heap.size, 4, none⟩ = some (.int .u64 c.tok) := sB.cell 4; have e5 : W.cell? ⟨w.heap.size, 5, none⟩ = some (.int .u64 c.del) := sB.cell 5; have e6 : W.cell? ⟨w.heap.size, 6, none⟩ = some (.slice none 0 0) := sB.cell 6; have e7 : W.cell? ⟨w.heap.size, 7, none⟩ = some (.bool c.nr) := sB.cell 7; have e8 : W.cell? ⟨w.heap.size, 8, none⟩ = some (.bool false) := sB.cell 8; have e9 : W.cell? ⟨w.heap.size, 9, none⟩ = some (.slice ma c.mt.length mc) := sB.cell 9; have e10 : W.cell? ⟨w.heap.size, 10, none⟩ = some (.string ⟨c.what.toArray⟩) := sB.cell 10; have e11 : W.cell? ⟨w.heap.size + 1 + 1 + 1, 0, none⟩ = some (.int .i64 p) := sP.cell 0; go_simp; (try (with_reducible rfl)))
    try simp only [Act.put, List.setIfInBounds_toArray, List.set_cons_zero, List.set_cons_succ]
    refine wpAnyH_take (i := 2) (oi := { dst := some 25, op := Op.build 43 #[], type := 43, pos := _, after := #[], guard := none }) (v := ?_) rfl (by kernel_rfl) (by kernel_rfl) (by kernel_rfl) (fun _ _ _ h => h) (Or.inl ⟨by rfl, ?_⟩) (by first | trivial | assumption) ?_
    rotate_left 1
    · (intro W hSw; obtain ⟨sB, sP⟩ := hSw; have e0 : W.cell? ⟨w.heap.size, 0, none⟩ = some (.int .i64 c.verb) := sB.cell 0; have e1 : W.cell? ⟨w.heap.size, 1, none⟩ = some (.slice ka c.keys.length kc) := sB.cell 1; have e2 : W.cell? ⟨w.heap.size, 2, none⟩ = some (.int .u64 c.flags) := sB.cell 2; have e3 : W.cell? ⟨w.heap.size, 3, none⟩ = some (.int .i64 c.exp) := sB.cell 3; have e4 : W.cell? ⟨w.heap.size, 4, none⟩ = some (.int .u64 c.tok) := sB.cell 4; have e5 : W.cell? ⟨w.heap.size, 5, none⟩ = some (.int .u64 c.del) := sB.cell 5; have e6 : W.cell? ⟨w.heap.size, 6, none⟩ = some (.slice none 0 0) := sB.cell 6; have e7 : W.cell? ⟨w.heap.size, 7, none⟩ = some (.bool c.nr) := sB.cell 7; have e8 : W.cell? ⟨w.heap.size, 8, none⟩ = some (.bool false) := sB.cell 8; have e9 : W.cell? ⟨w.heap.size, 9, none⟩ = some (.slice ma c.mt.length mc) := sB.cell 9; have e10 : W.cell? ⟨w.heap.size, 10, none⟩ = some (.string ⟨c.what.toArray⟩) := sB.cell 10; have e11 : W.cell? ⟨w.heap.size + 1 + 1 + 1, 0, none⟩ = some (.int .i64 p) := sP.cell 0; go_simp; (try (with_reducible rfl)))
    try simp only [Act.put, List.setIfInBounds_toArray, List.set_cons_zero, List.set_cons_succ]
    obtain ⟨z1, gz1⟩ := box11 (v0 := (.int .i64 c.verb)) (v1 := (.slice ka c.keys.length kc)) (v2 := (.int .u64 c.flags)) (v3 := (.int .i64 c.exp)) (v4 := (.int .u64 c.tok)) (v5 := (.int .u64 c.del)) (v6 := (.slice none 0 0)) (v7 := (.bool c.nr)) (v8 := (.bool false)) (v9 := (.slice ma c.mt.length mc)) (v10 := (.string ⟨c.what.toArray⟩)) x1
    have z2 := x2.kept gz1 (fun e => by injection e with e; omega)
    have z3 := x3.kept gz1 (fun e => by injection e with e; omega)
    have z4 := x4.kept gz1 (fun e => by injection e with e; omega)
    refine wpAnyH_ready (rs := [3]) (by kernel_rfl) (by simp) ?_
    refine AllReadyH.cons rfl (fun K hK => ?_) AllReadyH.nil
    go_simp
    generalize (((((((((((S1.setCell ⟨w.heap.size, 0, none⟩ (.int .i64 c.verb)).setCell ⟨w.heap.size, 1, none⟩ (.slice ka c.keys.length kc)).setCell ⟨w.heap.size, 2, none⟩ (.int .u64 c.flags)).setCell ⟨w.heap.size, 3, none⟩ (.int .i64 c.exp)).setCell ⟨w.heap.size, 4, none⟩ (.int .u64 c.tok)).setCell ⟨w.heap.size, 5, none⟩ (.int .u64 c.del)).setCell ⟨w.heap.size, 6, none⟩ (.slice none 0 0)).setCell ⟨w.heap.size, 7, none⟩ (.bool c.nr)).setCell ⟨w.heap.size, 8, none⟩ (.bool false)).setCell ⟨w.heap.size, 9, none⟩ (.slice ma c.mt.length mc)).setCell ⟨w.heap.size, 10, none⟩ (.string ⟨c.what.toArray⟩)) = S2 at z1 gz1 z2 z3 z4 ⊢
    have gd2 := gb_drew (gb_refl S2 none)
    refine hK.out _ _ ⟨z1.kept gd2 (by simp), z4.kept gd2 (by simp)⟩ (fun hS1 => ?_)
    clear hK K
    try simp only [Act.put, List.setIfInBounds_toArray, List.set_cons_zero, List.set_cons_succ]
    have t0 : S2.cell? ⟨w.heap.size + 1, 0, none⟩ = some (.int .i64 0) := z2.cell 0
    have tf := z2.fz 0
    have gz2 : S2.grownBy (S2.setCell ⟨w.heap.size + 1, 0, none⟩ (.int .i64 p)) (some (w.heap.size + 1)) := gb_setCell (gb_refl _ _) _
    have v2 := z2.set 0 (.int .i64 p)
    simp only [List.setIfInBounds_toArray, List.set_cons_zero] at v2
    have v1 := z1.kept gz2 (fun e => by injection e with e; omega)
    have v3 := z3.kept gz2 (fun e => by injection e with e; omega)
    have v4 := z4.kept gz2 (fun e => by injection e with e; omega)
    refine wpAnyH_ready (rs := [4]) (by kernel_rfl) (by simp) ?_
    refine AllReadyH.cons rfl (fun K hK => ?_) AllReadyH.nil
    go_simp
    generalize S2.setCell ⟨w.heap.size + 1, 0, none⟩ (.int .i64 p) = S3 at gz2 v1 v2 v3 v4 ⊢
    have gd3 := gb_drew (gb_refl S3 none)
    refine hK.out _ _ ⟨v1.kept gd3 (by simp), v4.kept gd3 (by simp)⟩ (fun hS2 => ?_)
    clear hK K
    try simp only [Act.put, List.setIfInBounds_toArray, List.set_cons_zero, List.set_cons_succ]
    have s0 : S3.cell? ⟨w.heap.size + 1 + 1, 0, none⟩ = some (.int .i64 0) := v3.cell 0
    have s1 : S3.cell? ⟨w.heap.size + 1 + 1, 1, none⟩ = some (.string ⟨#[]⟩) := v3.cell 1
    have s2 : S3.cell? ⟨w.heap.size + 1 + 1, 2, none⟩ = some (.int .i64 0) := v3.cell 2
    have f0 := v3.fz 0
    have f1 := v3.fz 1
    have f2 := v3.fz 2
    obtain ⟨r3, gz3⟩ := box3 (v0 := .int .i64 0) (v1 := .string ⟨#[]⟩) (v2 := .int .i64 0) v3
    have r1 := v1.kept gz3 (fun e => by injection e with e; omega)
    have r2 := v2.kept gz3 (fun e => by injection e with e; omega)
    have r4 := v4.kept gz3 (fun e => by injection e with e; omega)
    refine wpAnyH_ready (rs := [5]) (by kernel_rfl) (by simp) ?_
    refine AllReadyH.cons rfl (fun K hK => ?_) AllReadyH.nil
    go_simp
    generalize ((S3.setCell ⟨w.heap.size + 1 + 1, 0, none⟩ (.int .i64 0)).setCell ⟨w.heap.size + 1 + 1, 1, none⟩ (.string ⟨#[]⟩)).setCell ⟨w.heap.size + 1 + 1, 2, none⟩ (.int .i64 0) = S4 at r1 r2 r3 r4 gz3 ⊢
    have gd4 := gb_drew (gb_refl S4 none)
    refine hK.out _ _ ⟨r1.kept gd4 (by simp), r4.kept gd4 (by simp)⟩ (fun hS3 => ?_)
    clear hK K
    try simp only [Act.put, List.setIfInBounds_toArray, List.set_cons_zero, List.set_cons_succ]
    refine wpAnyH_done (by kernel_rfl) ?_ _
    refine NoPanic.normal ?_
    go_wp2
    refine door_ok _ _ _ _ _ _ _ _ _ _ _ _ _ _ _ _ _ _ _ (r1.kept gd4 (by simp)) (r2.kept gd4 (by simp)) (r3.kept gd4 (by simp)) _ rfl rfl rfl _ ?_
    refine ⟨.inl ⟨c, p, .slice ka c.keys.length kc, .slice ma c.mt.length mc, hlI c hrd, rfl, ?_, ?_⟩, ?_⟩
    · exact row_base (row_kept (row_kept (row_kept (row_kept hkr gz1 (fun k hk e => by injection e with e; have := (World.ownsRow.lt hkr k hk).1; simp at this; omega)) gz2 (fun k hk e => by injection e with e; have := (World.ownsRow.lt hkr k hk).1; simp at this; omega)) gz3 (fun k hk e => by injection e with e; have := (World.ownsRow.lt hkr k hk).1; simp at this; omega)) gd4 (by simp)) (by simp; omega)
    · exact row_base (row_kept (row_kept (row_kept (row_kept hmr gz1 (fun k hk e => by injection e with e; have := (World.ownsRow.lt hmr k hk).1; simp at this; omega)) gz2 (fun k hk e => by injection e with e; have := (World.ownsRow.lt hmr k hk).1; simp at this; omega)) gz3 (fun k hk e => by injection e with e; have := (World.ownsRow.lt hmr k hk).1; simp at this; omega)) gd4 (by simp)) (by simp; omega)
    · exact gb_drew (gb_mine (gb_mine (gb_mine (gb_mine gAll gx1 (by omega)) gz1 (by omega)) gz2 (by omega)) gz3 (by omega))
  · have gAll : w.grownBy w9 none := gb_trans (gb_mine (gb_trans q5 hg6) hgP (by omega)) hg9
    simp only [List.setIfInBounds_toArray, List.set_cons_zero] at y4
    refine door_up t p _ _ _ _ _ _ _ _ _ _ _ _ _ _ _ y4 y1 y2 y3 (by omega) _ rfl rfl rfl _ ?_
    intro w' hk
    refine ⟨.inr ⟨2, t, p, hlR t hrd, by rw [if_neg (readS_ne hrd)]⟩, ?_⟩
    refine Kp.grown (F := fun k => k = w.heap.size ∨ k = w.heap.size + 1 ∨ k = w.heap.size + 1 + 1) ?_ (fun i hi => by omega)
    exact Kp.trans (Kp.of (F := fun _ => False) gAll) hk (fun i h => h.elim) (fun i h => .inl h)
end Go.Proofs.YtbbocbdoiealoaaGreatDoor

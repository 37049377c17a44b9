import Derived.Deep.CutRange
import Derived.Test.YtbbocbdoiealoaaGreatDoorRPbo
import Derived.Test.YtbbocbdoiealoaaGreatDoorRPbj
set_option linter.unusedVariables false
set_option linter.unusedSimpArgs false
namespace Go.Proofs.YtbbocbdoiealoaaGreatDoor
open Go.RowKit Go.Maps
theorem lnp_inl {l : Bs} {w : World} {e : Ending} {w' : World} (h : LnP l w e w') {c : Cmd} {n : Int} (hl : lineS l = .inl (c, n)) :
    ∃ ka kc ma mc, e = .returned (.tuple #[.agg (cmA c (.slice ka c.keys.length kc) (.slice ma c.mt.length mc)), .int .i64 n, .agg #[.int .i64 0, .string ⟨#[]⟩, .int .i64 0]]) ∧ w'.ownsRow w.heap.size 9 1 (.slice ka c.keys.length kc) c.keys.length (c.keys.map sv) ∧ w'.ownsRow w.heap.size 79 3 (.slice ma c.mt.length mc) c.mt.length (fcs c.mt) ∧ w.grownBy w' none := by
  obtain ⟨h | h, hg⟩ := h
  · obtain ⟨c', n', kv, mv, h1, rfl, h2, h3⟩ := h
    rw [hl] at h1
    injection h1 with h1
    injection h1 with h1 h4
    subst h1 h4
    obtain ⟨ka, kc, rfl, -⟩ := row_shape h2
    obtain ⟨ma, mc, rfl, -⟩ := row_shape h3
    exact ⟨ka, kc, ma, mc, rfl, h2, h3, hg⟩
  · obtain ⟨k, t, p, h1, _⟩ := h
    rw [hl] at h1
    cases h1
theorem lnp_inr {l : Bs} {w : World} {e : Ending} {w' : World} (h : LnP l w e w') {k : Int} {x : Bs} {q : Int} (hl : lineS l = .inr (k, x, q)) :
    e = .returned (.tuple #[.agg (Z31 0 false), .int .i64 (-1), .agg #[.int .i64 k, sv x, .int .i64 q]]) ∧ w.grownBy w' none := by
  obtain ⟨h | h, hg⟩ := h
  · obtain ⟨c', n', kv, mv, h1, _⟩ := h
    rw [hl] at h1
    cases h1
  · obtain ⟨k', t', p', h1, rfl⟩ := h
    rw [hl] at h1
    injection h1 with h1
    injection h1 with h1 h2
    injection h2 with h2 h3
    subst h1 h2 h3
    exact ⟨rfl, hg⟩
theorem ix_line (p t : Bs) (hp : (10 : UInt8) ∉ p) : Lib.indexByte (p ++ 10 :: t) 10 = (p.length : Int) := by
  rcases indexByte_spec 10 (p ++ 10 :: t) with ⟨_, h1⟩ | ⟨p', t', h1, h2, h3⟩
  · exact absurd (by simp) h1
  · rw [h3]
    have : p'.length = p.length := by
      rcases Nat.lt_trichotomy p'.length p.length with hh | hh | hh
      · have h4 : (p ++ 10 :: t)[p'.length]? = some 10 := by rw [h1]; simp
        rw [List.getElem?_append_left hh] at h4
        exact absurd (List.mem_of_getElem? h4) hp
      · exact hh
      · have h4 : (p' ++ 10 :: t')[p.length]? = some 10 := by rw [← h1]; simp
        rw [List.getElem?_append_left hh] at h4
        exact absurd (List.mem_of_getElem? h4) h2
    omega
theorem trim_get {l : Bs} {i : Nat} {x : UInt8} (h : (trim l)[i]? = some x) : l[i]? = some x := by
  unfold trim at h
  split at h
  · obtain ⟨hi, e⟩ := List.getElem?_eq_some_iff.1 h
    rw [List.getElem_dropLast] at e
    exact List.getElem?_eq_some_iff.2 ⟨_, e⟩
  · exact h
set_option maxRecDepth 100000 in
set_option maxHeartbeats 8000000 in
theorem step_inl {w : World} {gb g o c : Nat} {raw : Bs} (hG : GM w gb rowL) (hE : Er w) (hR : Ra w g o c raw) {at_ lim : Nat} (hat : at_ ≤ raw.length) (hlim : lim ≤ 9223372036854775807) (p t : Bs) (er : raw.drop at_ = p ++ 10 :: t) (hp : (10 : UInt8) ∉ p) (cm : Cmd) (n : Int) (hl : lineS (trim p) = .inl (cm, n)) :
    Calls Tryz.prog 81 #[.map (some gb), .slice (some ⟨g, o, none⟩) raw.length c, .int .i64 at_, .int .i64 lim] w fun e w' => StQ lim at_ (raw.drop at_) w e w' := by
  have hl1 := hR.len
  have hle := hR.le
  have hcp := hR.cap
  have hlt : at_ + p.length + 1 ≤ raw.length := by
    have := congrArg List.length er
    rw [List.length_drop] at this
    simp at this
    omega
  have hp2 : p.length ≤ 1099511627776 := by omega
  obtain ⟨w1, hw1⟩ : ∃ w1, w.alloc (.cells Z86 85) = w1 := ⟨_, rfl⟩
  have g1 : w.grownBy w1 none := by rw [← hw1]; exact gb_alloc (gb_refl w none) _
  have bR : Box w1 85 w.heap.size Z86 := by rw [← hw1]; exact Box.new w 85 Z86
  have s1 : w1.heap.size = w.heap.size + 1 := by rw [← hw1]; simp
  have ga := gb_alloc (gb_refl w1 none) (.cells #[.int .u8 13] 5)
  have g2 := gb_trans g1 ga
  have hR1 := hR.kept0 g1
  have hR2 := hR.kept0 g2
  have bR2 := bR.kept ga (by simp)
  have hpc : ∀ {W : World}, Ra W g o c raw → ∀ i x, p[i]? = some x → W.cell? ⟨g, o + at_ + i, none⟩ = some (b8 x) := by
    intro W hW i x hx
    refine hW.dropc at_ i x ?_
    rw [er, List.getElem?_append_left (List.getElem?_eq_some_iff.1 hx).1]
    exact hx
  have h118 := ix_118 w1 g (o + at_) (c - at_) (p ++ 10 :: t) (by rw [← er]; exact hR1.dropc at_)
  rw [ix_line p t hp, ← er, List.length_drop] at h118
  have h119 := trim_119 (w := w1.alloc (.cells #[.int .u8 13] 5)) (g := g) (o := o + at_) (c := c - at_) (sg := w1.heap.size) (sc := 1) (l := p) hp2 (by omega) hR2.lt (hpc hR2) (by
    rw [(Box.new w1 5 #[.int .u8 13]).cell 0]
    simp)
  have h63 := (line_10 (hG.kept g2 (by simp)) (hE.kept g2) (.slice (some ⟨g, o + at_, none⟩) (trim p).length (c - at_)) (trim p) (.inr ⟨g, o + at_, c - at_, rfl, by have := (trim_len p).2; omega, hR2.lt, fun i x hx => hpc hR2 i x (trim_get hx)⟩)).mono (fun e w' h => lnp_inl h hl)
  obtain ⟨pl, hpl⟩ : ∃ pl, p.length = pl := ⟨_, rfl⟩
  obtain ⟨tl, htl⟩ : ∃ tl, (trim p).length = tl := ⟨_, rfl⟩
  obtain ⟨R, hRl⟩ : ∃ R, raw.length = R := ⟨_, rfl⟩
  rw [hpl] at h118 h119 hlt hp2
  rw [htl, s1] at h119
  rw [htl] at h63
  rw [hRl] at h118 hlt hle hl1 hat
  have A : Aside (p.length = pl ∧ raw.length = R) := ⟨hpl, hRl⟩
  have hcn : ¬ c = at_ := by omega
  rw [hRl]
  clear hpl htl hRl hR1 hR2 hpc bR ga
  subst hw1
  go_enter Tryz.func81, Tryz.ntmps81
  go_upto_region 9 with (first
    | (go_at_call 123; go_must ((with_reducible refine h118.mono ?_); rintro e w2 ⟨rfl, rfl⟩))
    | (go_at_call 124; go_must ((with_reducible refine h119.mono ?_); rintro e w2 ⟨rfl, rfl⟩))
    | (go_at_call 68; go_must ((with_reducible refine h63.mono ?_); rintro e w3 ⟨ka, kc, ma, mc, rfl, hk3, hm3, hg3⟩; (have hr3 := bR2.kept hg3 (by simp)); (have hs3 := hg3.size); (have b41 := bx41 w3 (Z31 0 false) #[.int .i64 0, .string ⟨#[]⟩, .int .i64 0] 43); (have b43 := bx2 w3 (.cells (Z31 0 false) 41) #[.int .i64 0, .string ⟨#[]⟩, .int .i64 0] 43); (have hrA := hr3.kept (gb_alloc (gb_alloc (gb_refl w3 none) (.cells (Z31 0 false) 41)) (.cells #[.int .i64 0, .string ⟨#[]⟩, .int .i64 0] 43)) (by simp)); (have gA := gb_trans hg3 (gb_alloc (gb_alloc (gb_refl w3 none) (.cells (Z31 0 false) 41)) (.cells #[.int .i64 0, .string ⟨#[]⟩, .int .i64 0] 43)))))
    | (refine atS 41 w3.heap.size 0 rfl rfl ?_; go_must (refine storeT 41 11 size41 rfl _ _ rfl 41 w3.heap.size 0 _ b41 (by simp) rfl _ rfl rfl (by simp [Value.oneCell']) ?_); intro W4 c41 hg4; (simp only [sets_41] at c41); (have c43 := b43.kept hg4 (by simp)); (have hr4 := hrA.kept hg4 (by simp at hs3 ⊢; omega)))
    | (refine atS 43 (w3.heap.size + 1) 0 rfl rfl ?_; go_must (refine storeT 43 3 size43 rfl _ _ rfl 43 (w3.heap.size + 1) 0 _ c43 (by simp) rfl _ rfl rfl (by simp [Value.oneCell']) ?_); intro W5 d43 hg5; (simp only [sets_43] at d43); (have d41 := c41.kept hg5 (by simp)); (have hr5 := hr4.kept hg5 (by simp at hs3 ⊢; omega)); (have q0 : W5.cell? ⟨w3.heap.size + 1, 0, none⟩ = some (.int .i64 0) := d43.cell 0); (have q2 : W5.cell? ⟨w3.heap.size + 1, 2, none⟩ = some (.int .i64 0) := d43.cell 2))
    | (refine atL 41 w3.heap.size 0 rfl rfl ?_; go_must (refine load41 rfl _ rfl 41 w3.heap.size 0 _ d41 rfl (cmA cm (.slice ka cm.keys.length kc) (.slice ma cm.mt.length mc)).toList rfl (fun j v hv => by simpa using hv) ?_))
    | (refine atL 43 (w3.heap.size + 1) 0 rfl rfl ?_; go_must (refine load43 rfl _ rfl 43 (w3.heap.size + 1) 0 _ d43 rfl [.int .i64 0, .string ⟨#[]⟩, .int .i64 0] rfl (fun j v hv => by simpa using hv) ?_))
    | (refine atS 85 W5.heap.size 0 rfl rfl ?_; go_must (refine storeT 85 16 size86 rfl _ _ rfl 85 W5.heap.size 0 _ (Box.new W5 85 Z86) (by simp) rfl _ rfl rfl (by simp [Value.oneCell']) ?_); intro W6 b86 hg6; (simp only [sets_0] at b86)))
  have hsz : w.heap.size < w3.heap.size := by simp at hs3; omega
  have g36 : w3.grownBy W6 none := gb_mine (gb_alloc (gb_mine (gb_mine (gb_alloc (gb_alloc (gb_refl w3 none) _) _) hg4 (Nat.le_refl _)) hg5 (by omega)) _) hg6 (gb_mine (gb_mine (gb_alloc (gb_alloc (gb_refl w3 none) _) _) hg4 (Nat.le_refl _)) hg5 (by omega)).size
  have s5 : w3.heap.size + 2 ≤ W5.heap.size := by
    have h1 := hg4.size
    have h2 := hg5.size
    simp at h1
    omega
  have gw6 : w.grownBy W6 none := gb_trans (gb_trans g2 hg3) g36
  have hk6 : W6.ownsRow w.heap.size 9 1 (.slice ka cm.keys.length kc) cm.keys.length (cm.keys.map sv) := row_base (row_kept hk3 g36 (fun k _ e => by cases e)) g2.size
  have hm6 : W6.ownsRow w.heap.size 79 3 (.slice ma cm.mt.length mc) cm.mt.length (fcs cm.mt) := row_base (row_kept hm3 g36 (fun k _ e => by cases e)) g2.size
  have hr6 : Box W6 85 w.heap.size Z86 := (hr5.kept (gb_alloc (gb_refl W5 none) _) (by simp)).kept hg6 (by simp; omega)
  have d6 : Box W6 43 (w3.heap.size + 1) #[.int .i64 0, .string ⟨#[]⟩, .int .i64 0] := (d43.kept (gb_alloc (gb_refl W5 none) (.cells Z86 85)) (by simp)).kept hg6 (by simp; omega)
  have hR6 := hR.kept0 gw6
  have h3w := hsz
  clear h63 h118 h119 bR2 s1 hr3 hs3 b41 b43 hrA gA c41 c43 hr4 d41 d43 hr5 q0 q2 hg4 hg5 hg6 g1 g2 hG hE hg3
  have e15 : (at_ : Int) + (pl : Int) + 1 = ((at_ + (pl + 1) : Nat) : Int) := by omega
  rw [e15] at b86
  have hE15 : Aside ((at_ : Int) + (pl : Int) + 1 = ((at_ + (pl + 1) : Nat) : Int)) := e15
  clear e15
  by_cases hn : n < 0
  · have hY := stepY_inl (limit := lim) (at_ := at_) (t := t) hp hl hn
    rw [← er, A.out.1] at hY
    have d1 : decide (n < 0) = true := decide_eq_true hn
    clear hl er
    go_wp2_with (first | (refine atL 85 W5.heap.size 0 rfl rfl ?_; go_must (refine load86 rfl _ rfl 85 W5.heap.size 0 _ b86 rfl [.int .i64 cm.verb, .slice ka cm.keys.length kc, .int .u64 cm.flags, .int .i64 cm.exp, .int .u64 cm.tok, .int .u64 cm.del, .slice none 0 0, .bool cm.nr, .bool false, .slice ma cm.mt.length mc, sv cm.what, .int .i64 0, .string ⟨#[]⟩, .int .i64 0, .int .i64 at_, .int .i64 ((at_ + (pl + 1) : Nat) : Int)] rfl (fun j v hv => by simpa using hv) ?_)) | (refine atS 85 w.heap.size 0 rfl rfl ?_; go_must (refine storeT 85 16 size86 rfl _ _ rfl 85 w.heap.size 0 _ hr6 (by simp) rfl _ rfl rfl (by simp [Value.oneCell']) ?_); intro W9 hb9 hg9; (simp only [sets_0] at hb9)))
    refine ⟨rfl, _, res76 hb9 _ rfl rfl, gb_mine gw6 hg9 (Nat.le_refl _), .inr ⟨_, _, .slice ka cm.keys.length kc, .slice none 0 0, .slice ma cm.mt.length mc, rfl, hY, ?_, ?_, ?_, fun _ => rfl⟩⟩
    · exact row_kept hk6 hg9 (row_box hk6 hr6 (by decide))
    · exact World.ownsRow_nil _ _ _ _
    · exact row_kept hm6 hg9 (row_box hm6 hr6 (by decide))
  · obtain ⟨N, rfl⟩ : ∃ N : Nat, n = (N : Int) := ⟨n.toNat, by omega⟩
    have hN : N ≤ 2147483647 := by have := (lineS_ok hl).2; omega
    have hrd := lnF_inl (limit := lim) (at_ := at_) hl
    rw [if_neg hn, Int.toNat_natCast] at hrd
    have ht : raw.drop (at_ + pl + 1) = t := by
      rw [Nat.add_assoc, ← List.drop_drop, er, ← A.out.1, show p ++ 10 :: t = (p ++ [10]) ++ t by simp, List.drop_left' (by simp)]
    have d1 : decide ((N : Int) < 0) = false := decide_eq_false (by omega)
    have hkl : at_ + pl + 1 ≤ raw.length := by rw [A.out.2]; exact hlt
    have e120 : ((at_ + pl + 1 : Nat) : Int) = (at_ : Int) + (pl : Int) + 1 := by omega
    clear hl hn
    rcases three t N with h3 | ⟨b, u, h3, h4, h5⟩ | ⟨b, u, v, h3, h4, h5⟩
    ·
      have hSN : StepN lim at_ (raw.drop at_) := by
        rw [er]
        by_cases hb : (lim : Int) < (N : Int)
        · rw [if_pos hb] at hrd
          exact (step_pass hp hrd t).1 h3
        · rw [if_neg hb] at hrd
          exact (step_await hp hrd t).1 h3
      have h120 := bend_short hR6 (at_ + pl + 1) N hkl hN (by rw [ht]; exact h3)
      rw [A.out.2, e120] at h120
      clear er hrd ht hkl e120 hE15 hk6 hm6 hp hR6 h3
      go_wp2_with (first | (go_at_call 125; go_must ((with_reducible refine h120.mono ?_); rintro e W7 ⟨rfl, hg7⟩; (have hr7 := hr6.kept hg7 (by simp)))) | (refine atS 85 w.heap.size 0 rfl rfl ?_; go_must (refine storeT 85 16 size86 rfl _ _ rfl 85 w.heap.size 0 _ hr7 (by simp) rfl _ rfl rfl (by simp [Value.oneCell']) ?_); intro W9 hb9 hg9; (simp only [sets_0] at hb9)))
      exact ⟨rfl, _, res76 hb9 _ rfl rfl, StQ.no hSN (gb_mine (gb_trans gw6 hg7) hg9 (Nat.le_refl _))⟩
    ·
      have hSN : StepN lim at_ (raw.drop at_) := by
        rw [er]
        by_cases hb : (lim : Int) < (N : Int)
        · rw [if_pos hb] at hrd
          exact (step_pass hp hrd t).2.1 b u h3 h4 h5
        · rw [if_neg hb] at hrd
          exact (step_await hp hrd t).2.1 b u h3 h4 h5
      have h120 := bend_none hR6 (at_ + pl + 1) N hkl hN b u (by rw [ht]; exact h3) h4 h5
      rw [A.out.2, e120] at h120
      clear er hrd ht hkl e120 hE15 hk6 hm6 hp hR6 h3
      go_wp2_with (first | (go_at_call 125; go_must ((with_reducible refine h120.mono ?_); rintro e W7 ⟨rfl, hg7⟩; (have hr7 := hr6.kept hg7 (by simp)))) | (refine atS 85 w.heap.size 0 rfl rfl ?_; go_must (refine storeT 85 16 size86 rfl _ _ rfl 85 w.heap.size 0 _ hr7 (by simp) rfl _ rfl rfl (by simp [Value.oneCell']) ?_); intro W9 hb9 hg9; (simp only [sets_0] at hb9)))
      exact ⟨rfl, _, res76 hb9 _ rfl rfl, StQ.no hSN (gb_mine (gb_trans gw6 hg7) hg9 (Nat.le_refl _))⟩
    ·
      have h120 := bend_some hR6 (at_ + pl + 1) N hkl hN b u v (by rw [ht]; exact h3) h4 h5
      rw [A.out.2, e120] at h120
      have hul : t.length = N + (u.length + 1 + v.length) := by rw [h3, List.length_append, h4]; simp; omega
      have htl : t.length + (at_ + pl + 1) = R := by rw [← ht, List.length_drop, A.out.2]; omega
      obtain ⟨TO, hTO⟩ : ∃ TO, at_ + pl + 1 + N + u.length + 1 = TO := ⟨_, rfl⟩
      rw [hTO] at h120
      have hTR : TO ≤ R := by omega
      have d2 : decide ((TO : Int) < 0) = false := decide_eq_false (by omega)
      by_cases hb : (lim : Int) < (N : Int)
      · rw [if_pos hb] at hrd
        have hY := (step_pass hp hrd t).2.2 b u v h3 h4 h5
        rw [← er, A.out.1, show pl + 1 + (N + (u.length + 1)) = TO - at_ by omega, show at_ + (TO - at_) = TO by omega] at hY
        have d3 : decide ((lim : Int) < (N : Int)) = true := decide_eq_true hb
        clear hrd ht hkl e120 hE15 hp hR6 h3 h4 h5 er
        go_upto_region 15 with (go_at_call 125; go_must ((with_reducible refine h120.mono ?_); rintro e W7 ⟨rfl, hg7⟩; (have hr7 := hr6.kept hg7 (by simp)); (have b7 := b86.kept hg7 (by simp)); (have d7 := d6.kept hg7 (by simp)); (have c15 : W7.cell? ⟨W5.heap.size, 15, none⟩ = some (.int .i64 ((at_ + (pl + 1) : Nat) : Int)) := b7.cell 15); (have z15 := b7.fz 15)))
        have b8 := b7.set 15 (.int .i64 (TO : Int))
        simp only [List.setIfInBounds_toArray, List.set_cons_zero, List.set_cons_succ] at b8
        have g8 : W7.grownBy (W7.setCell ⟨W5.heap.size, 15, none⟩ (.int .i64 (TO : Int))) (some W5.heap.size) := gb_setCell (gb_refl _ _) _
        have gw8 : w.grownBy (W7.setCell ⟨W5.heap.size, 15, none⟩ (.int .i64 (TO : Int))) none := gb_mine (gb_trans gw6 hg7) g8 (by omega)
        have hr8 := hr7.kept g8 (by simp; omega)
        have d8 := d7.kept g8 (by simp; omega)
        have hk8 := row_kept (row_kept hk6 hg7 (fun k _ e => by cases e)) g8 (row_box (row_kept hk6 hg7 (fun k _ e => by cases e)) b7 (by decide))
        have hm8 := row_kept (row_kept hm6 hg7 (fun k _ e => by cases e)) g8 (row_box (row_kept hm6 hg7 (fun k _ e => by cases e)) b7 (by decide))
        generalize W7.setCell ⟨W5.heap.size, 15, none⟩ (.int .i64 (TO : Int)) = W8 at *
        have q8 : W8.cell? ⟨w3.heap.size + 1, 0, none⟩ = some (.int .i64 0) := d8.cell 0
        have c8 : W8.cell? ⟨W5.heap.size, 8, none⟩ = some (.bool false) := b8.cell 8
        have z8 := b8.fz 8
        clear b86 b7 hr6 hr7 d6 d7 c15 z15 hg7 g8 gw6
        clear hk6 hm6
        have b9 := b8.set 8 (.bool true)
        simp only [List.setIfInBounds_toArray, List.set_cons_zero, List.set_cons_succ] at b9
        have g9 : W8.grownBy (W8.setCell ⟨W5.heap.size, 8, none⟩ (.bool true)) (some W5.heap.size) := gb_setCell (gb_refl _ _) _
        have hr9 := hr8.kept g9 (by simp; omega)
        go_wp2_with (first | (refine atL 85 W5.heap.size 0 rfl rfl ?_; go_must (refine load86 rfl _ rfl 85 W5.heap.size 0 _ b9 rfl [.int .i64 cm.verb, .slice ka cm.keys.length kc, .int .u64 cm.flags, .int .i64 cm.exp, .int .u64 cm.tok, .int .u64 cm.del, .slice none 0 0, .bool cm.nr, .bool true, .slice ma cm.mt.length mc, sv cm.what, .int .i64 0, .string ⟨#[]⟩, .int .i64 0, .int .i64 at_, .int .i64 (TO : Int)] rfl (fun j v hv => by simpa using hv) ?_)) | (refine atS 85 w.heap.size 0 rfl rfl ?_; go_must (refine storeT 85 16 size86 rfl _ _ rfl 85 w.heap.size 0 _ hr9 (by simp) rfl _ rfl rfl (by simp [Value.oneCell']) ?_); intro W9 hb9 hg9; (simp only [sets_0] at hb9)))
        have hk9 := row_kept hk8 g9 (row_box hk8 b8 (by decide))
        have hm9 := row_kept hm8 g9 (row_box hm8 b8 (by decide))
        refine ⟨rfl, _, res76 hb9 _ rfl rfl, gb_mine (gb_mine gw8 g9 (by omega)) hg9 (Nat.le_refl _), .inr ⟨_, _, .slice ka cm.keys.length kc, .slice none 0 0, .slice ma cm.mt.length mc, rfl, hY, ?_, ?_, ?_, fun _ => rfl⟩⟩
        · exact row_kept hk9 hg9 (row_box hk9 hr9 (by decide))
        · exact World.ownsRow_nil _ _ _ _
        · exact row_kept hm9 hg9 (row_box hm9 hr9 (by decide))
      · rw [if_neg hb] at hrd
        have d3 : decide ((lim : Int) < (N : Int)) = false := decide_eq_false hb
        by_cases hu : u = [13]
        · subst hu
          have hY := (step_await hp hrd t).2.2.1 b v h3 h4
          rw [← er, A.out.1, show pl + 1 + (N + 2) = TO - at_ by simp at hTO; omega, show at_ + (TO - at_) = TO by omega] at hY
          have d4 : decide (([13] : Bs) = [13]) = true := by decide
          rw [d4] at h120
          have hbs : raw.drop (at_ + pl + 1) = b ++ ([13] ++ 10 :: v) := by rw [ht, h3]
          rcases Nat.eq_zero_or_pos N with h0 | h0
          · have hbn : b = [] := List.length_eq_zero_iff.1 (by omega)
            subst hbn
            have d5 : decide ((0 : Int) < (N : Int)) = false := decide_eq_false (by omega)
            have d5b : ¬ (0 < N) := by omega
            have d5c : decide (0 < N) = false := decide_eq_false d5b
            clear h0 hrd ht hkl e120 hE15 hp hR6 h3 h4 h5 er hbs
            go_upto_region 15 with (go_at_call 125; go_must ((with_reducible refine h120.mono ?_); rintro e W7 ⟨rfl, hg7⟩; (have hr7 := hr6.kept hg7 (by simp)); (have b7 := b86.kept hg7 (by simp)); (have d7 := d6.kept hg7 (by simp)); (have c15 : W7.cell? ⟨W5.heap.size, 15, none⟩ = some (.int .i64 ((at_ + (pl + 1) : Nat) : Int)) := b7.cell 15); (have z15 := b7.fz 15)))
            have b8 := b7.set 15 (.int .i64 (TO : Int))
            simp only [List.setIfInBounds_toArray, List.set_cons_zero, List.set_cons_succ] at b8
            have g8 : W7.grownBy (W7.setCell ⟨W5.heap.size, 15, none⟩ (.int .i64 (TO : Int))) (some W5.heap.size) := gb_setCell (gb_refl _ _) _
            have gw8 : w.grownBy (W7.setCell ⟨W5.heap.size, 15, none⟩ (.int .i64 (TO : Int))) none := gb_mine (gb_trans gw6 hg7) g8 (by omega)
            have hr8 := hr7.kept g8 (by simp; omega)
            have d8 := d7.kept g8 (by simp; omega)
            have hk8 := row_kept (row_kept hk6 hg7 (fun k _ e => by cases e)) g8 (row_box (row_kept hk6 hg7 (fun k _ e => by cases e)) b7 (by decide))
            have hm8 := row_kept (row_kept hm6 hg7 (fun k _ e => by cases e)) g8 (row_box (row_kept hm6 hg7 (fun k _ e => by cases e)) b7 (by decide))
            generalize W7.setCell ⟨W5.heap.size, 15, none⟩ (.int .i64 (TO : Int)) = W8 at *
            have q8 : W8.cell? ⟨w3.heap.size + 1, 0, none⟩ = some (.int .i64 0) := d8.cell 0
            have c8 : W8.cell? ⟨W5.heap.size, 8, none⟩ = some (.bool false) := b8.cell 8
            have z8 := b8.fz 8
            clear b86 b7 hr6 hr7 d6 d7 c15 z15 hg7 g8 gw6
            clear hk6 hm6
            go_wp2_with (first | (refine atL 85 W5.heap.size 0 rfl rfl ?_; go_must (refine load86 rfl _ rfl 85 W5.heap.size 0 _ b8 rfl [.int .i64 cm.verb, .slice ka cm.keys.length kc, .int .u64 cm.flags, .int .i64 cm.exp, .int .u64 cm.tok, .int .u64 cm.del, .slice none 0 0, .bool cm.nr, .bool false, .slice ma cm.mt.length mc, sv cm.what, .int .i64 0, .string ⟨#[]⟩, .int .i64 0, .int .i64 at_, .int .i64 (TO : Int)] rfl (fun j v hv => by simpa using hv) ?_)) | (refine atS 85 w.heap.size 0 rfl rfl ?_; go_must (refine storeT 85 16 size86 rfl _ _ rfl 85 w.heap.size 0 _ hr8 (by simp) rfl _ rfl rfl (by simp [Value.oneCell']) ?_); intro W9 hb9 hg9; (simp only [sets_0] at hb9)))
            refine ⟨rfl, _, res76 hb9 _ rfl rfl, gb_mine gw8 hg9 (Nat.le_refl _), .inr ⟨_, _, .slice ka cm.keys.length kc, .slice none 0 0, .slice ma cm.mt.length mc, rfl, hY, ?_, ?_, ?_, fun _ => rfl⟩⟩
            · exact row_kept hk8 hg9 (row_box hk8 hr8 (by decide))
            · exact World.ownsRow_nil _ _ _ _
            · exact row_kept hm8 hg9 (row_box hm8 hr8 (by decide))
          · have d5 : decide ((0 : Int) < (N : Int)) = true := decide_eq_true (by omega)
            have hcl : ∀ {W : World}, w.grownBy W none → Ra W g (o + (at_ + pl + 1)) (c - (at_ + pl + 1)) b := fun hW => by
              have h1 := hR.kept0 hW
              refine ⟨by omega, by omega, h1.lt, fun i x hx => ?_, by omega⟩
              have := h1.dropc (at_ + pl + 1) i x (by rw [hbs, List.getElem?_append_left (List.getElem?_eq_some_iff.1 hx).1]; exact hx)
              exact this
            have hcf : ¬ c = at_ + pl + 1 := by omega
            have hbl : b.length = N := h4
            have hdn : b ≠ [] := fun e => by rw [e] at hbl; simp at hbl; omega
            clear hrd ht hkl e120 hE15 hp hR6 h3 h4 h5 er hbs hR
            go_upto_region 15 with (go_at_call 125; go_must ((with_reducible refine h120.mono ?_); rintro e W7 ⟨rfl, hg7⟩; (have hr7 := hr6.kept hg7 (by simp)); (have b7 := b86.kept hg7 (by simp)); (have d7 := d6.kept hg7 (by simp)); (have c15 : W7.cell? ⟨W5.heap.size, 15, none⟩ = some (.int .i64 ((at_ + (pl + 1) : Nat) : Int)) := b7.cell 15); (have z15 := b7.fz 15)))
            have b8 := b7.set 15 (.int .i64 (TO : Int))
            simp only [List.setIfInBounds_toArray, List.set_cons_zero, List.set_cons_succ] at b8
            have g8 : W7.grownBy (W7.setCell ⟨W5.heap.size, 15, none⟩ (.int .i64 (TO : Int))) (some W5.heap.size) := gb_setCell (gb_refl _ _) _
            have gw8 : w.grownBy (W7.setCell ⟨W5.heap.size, 15, none⟩ (.int .i64 (TO : Int))) none := gb_mine (gb_trans gw6 hg7) g8 (by omega)
            have hr8 := hr7.kept g8 (by simp; omega)
            have d8 := d7.kept g8 (by simp; omega)
            have hk8 := row_kept (row_kept hk6 hg7 (fun k _ e => by cases e)) g8 (row_box (row_kept hk6 hg7 (fun k _ e => by cases e)) b7 (by decide))
            have hm8 := row_kept (row_kept hm6 hg7 (fun k _ e => by cases e)) g8 (row_box (row_kept hm6 hg7 (fun k _ e => by cases e)) b7 (by decide))
            generalize W7.setCell ⟨W5.heap.size, 15, none⟩ (.int .i64 (TO : Int)) = W8 at *
            have q8 : W8.cell? ⟨w3.heap.size + 1, 0, none⟩ = some (.int .i64 0) := d8.cell 0
            have c8 : W8.cell? ⟨W5.heap.size, 8, none⟩ = some (.bool false) := b8.cell 8
            have z8 := b8.fz 8
            clear b86 b7 hr6 hr7 d6 d7 c15 z15 hg7 g8 gw6
            clear hk6 hm6
            have h121 := clone_121 (hcl gw8)
            rw [hbl] at h121
            go_upto_region 22 with (go_at_call 126; go_must ((with_reducible refine h121.mono ?_); rintro e W10 ⟨v', rfl, hv', hg10⟩; (obtain ⟨va, vc, rfl, -⟩ := row_shape hv'); (have b10 := b8.kept hg10 (by simp)); (have hr10 := hr8.kept hg10 (by simp)); (have c6 : W10.cell? ⟨W5.heap.size, 6, none⟩ = some (.slice none 0 0) := b10.cell 6); (have z6 := b10.fz 6)))
            have b11 := b10.set 6 (.slice va N vc)
            simp only [List.setIfInBounds_toArray, List.set_cons_zero, List.set_cons_succ] at b11
            have g11 : W10.grownBy (W10.setCell ⟨W5.heap.size, 6, none⟩ (.slice va N vc)) (some W5.heap.size) := gb_setCell (gb_refl _ _) _
            have hr11 := hr10.kept g11 (by simp; omega)
            have gw10 := gb_trans gw8 hg10
            have hk10 := row_kept hk8 hg10 (fun k _ e => by cases e)
            have hm10 := row_kept hm8 hg10 (fun k _ e => by cases e)
            have hk11 := row_kept hk10 g11 (row_box hk10 b10 (by decide))
            have hm11 := row_kept hm10 g11 (row_box hm10 b10 (by decide))
            have hd11 := row_kept (row_base hv' gw8.size) g11 (row_box hv' b10 (by decide))
            clear h121 hcl
            go_wp2_with (first | (refine atL 85 W5.heap.size 0 rfl rfl ?_; go_must (refine load86 rfl _ rfl 85 W5.heap.size 0 _ b11 rfl [.int .i64 cm.verb, .slice ka cm.keys.length kc, .int .u64 cm.flags, .int .i64 cm.exp, .int .u64 cm.tok, .int .u64 cm.del, .slice va N vc, .bool cm.nr, .bool false, .slice ma cm.mt.length mc, sv cm.what, .int .i64 0, .string ⟨#[]⟩, .int .i64 0, .int .i64 at_, .int .i64 (TO : Int)] rfl (fun j v hv => by simpa using hv) ?_)) | (refine atS 85 w.heap.size 0 rfl rfl ?_; go_must (refine storeT 85 16 size86 rfl _ _ rfl 85 w.heap.size 0 _ hr11 (by simp) rfl _ rfl rfl (by simp [Value.oneCell']) ?_); intro W9 hb9 hg9; (simp only [sets_0] at hb9)))
            refine ⟨rfl, _, res76 hb9 _ rfl rfl, gb_mine (gb_mine gw10 g11 (by omega)) hg9 (Nat.le_refl _), .inr ⟨_, _, .slice ka cm.keys.length kc, .slice va N vc, .slice ma cm.mt.length mc, rfl, hY, ?_, ?_, ?_, fun e => absurd e hdn⟩⟩
            · exact row_kept hk11 hg9 (row_box hk11 hr11 (by decide))
            · show World.ownsRow _ _ 5 1 _ b.length _
              rw [hbl]
              exact row_kept hd11 hg9 (row_box hd11 hr11 (by decide))
            · exact row_kept hm11 hg9 (row_box hm11 hr11 (by decide))
        · have hY := (step_await hp hrd t).2.2.2 b u v h3 h4 h5 hu
          rw [← er, A.out.1, show pl + 1 + (N + (u.length + 1)) = TO - at_ by omega, show at_ + (TO - at_) = TO by omega] at hY
          have d4 : decide (u = [13]) = false := decide_eq_false hu
          rw [d4] at h120
          clear hrd ht hkl e120 hE15 hp hR6 h3 h4 h5 er d4 hu
          go_upto_region 15 with (go_at_call 125; go_must ((with_reducible refine h120.mono ?_); rintro e W7 ⟨rfl, hg7⟩; (have hr7 := hr6.kept hg7 (by simp)); (have b7 := b86.kept hg7 (by simp)); (have d7 := d6.kept hg7 (by simp)); (have c15 : W7.cell? ⟨W5.heap.size, 15, none⟩ = some (.int .i64 ((at_ + (pl + 1) : Nat) : Int)) := b7.cell 15); (have z15 := b7.fz 15)))
          have b8 := b7.set 15 (.int .i64 (TO : Int))
          simp only [List.setIfInBounds_toArray, List.set_cons_zero, List.set_cons_succ] at b8
          have g8 : W7.grownBy (W7.setCell ⟨W5.heap.size, 15, none⟩ (.int .i64 (TO : Int))) (some W5.heap.size) := gb_setCell (gb_refl _ _) _
          have gw8 : w.grownBy (W7.setCell ⟨W5.heap.size, 15, none⟩ (.int .i64 (TO : Int))) none := gb_mine (gb_trans gw6 hg7) g8 (by omega)
          have hr8 := hr7.kept g8 (by simp; omega)
          have d8 := d7.kept g8 (by simp; omega)
          generalize W7.setCell ⟨W5.heap.size, 15, none⟩ (.int .i64 (TO : Int)) = W8 at *
          have q8 : W8.cell? ⟨w3.heap.size + 1, 0, none⟩ = some (.int .i64 0) := d8.cell 0
          have c8 : W8.cell? ⟨W5.heap.size, 8, none⟩ = some (.bool false) := b8.cell 8
          have z8 := b8.fz 8
          clear b86 b7 hr6 hr7 d6 d7 c15 z15 hg7 g8 gw6
          go_wp2_with (first
            | (refine atS 41 W5.heap.size 0 rfl rfl ?_; go_must (refine storeT 41 11 size41 rfl _ _ rfl 85 W5.heap.size 0 _ b8 (by simp) rfl _ rfl rfl (by simp [Value.oneCell']) ?_); intro WA bA gA; (simp only [sets_86a] at bA); (have hrA := hr8.kept gA (by simp; omega)); (have gwA := gb_mine gw8 gA (by omega)))
            | (refine atS 43 W5.heap.size 11 rfl rfl ?_; go_must (refine storeT 43 3 size43 rfl _ _ rfl 85 W5.heap.size 11 _ bA (by simp) rfl _ rfl rfl (by simp [Value.oneCell']) ?_); intro WB bB gB; (simp only [sets_86b] at bB); (have hrB := hrA.kept gB (by simp; omega)); (have gwB := gb_mine gwA gB (by omega)))
            | (refine atL 85 W5.heap.size 0 rfl rfl ?_; go_must (refine load86 rfl _ rfl 85 W5.heap.size 0 _ bB rfl [.int .i64 0, .slice none 0 0, .int .u64 0, .int .i64 0, .int .u64 0, .int .u64 0, .slice none 0 0, .bool false, .bool false, .slice none 0 0, .string ⟨#[]⟩, .int .i64 2, .string ⟨#[98, 97, 100, 32, 100, 97, 116, 97, 32, 99, 104, 117, 110, 107]⟩, .int .i64 (-1), .int .i64 at_, .int .i64 (TO : Int)] rfl (fun j v hv => by simpa using hv) ?_))
            | (refine atS 85 w.heap.size 0 rfl rfl ?_; go_must (refine storeT 85 16 size86 rfl _ _ rfl 85 w.heap.size 0 _ hrB (by simp) rfl _ rfl rfl (by simp [Value.oneCell']) ?_); intro W9 hb9 hg9; (simp only [sets_0] at hb9)))
          refine ⟨rfl, _, res76 hb9 _ rfl rfl, gb_mine gwB hg9 (Nat.le_refl _), .inr ⟨_, _, .slice none 0 0, .slice none 0 0, .slice none 0 0, rfl, hY, ?_, ?_, ?_, fun _ => rfl⟩⟩
          · exact World.ownsRow_nil _ _ _ _
          · exact World.ownsRow_nil _ _ _ _
          · exact World.ownsRow_nil _ _ _ _
end Go.Proofs.YtbbocbdoiealoaaGreatDoor

import Derived.Deep.CutRange
import Derived.Test.YtbbocbdoiealoaaGreatDoorRXd
set_option linter.unusedVariables false
set_option linter.unusedSimpArgs false
namespace Go.Proofs.YtbbocbdoiealoaaGreatDoor
open Go.RowKit Go.Maps
set_option maxRecDepth 100000 in
set_option maxHeartbeats 8000000 in
theorem step_inrA {w : World} {gb g o c : Nat} {raw : Bs} (hG : GM w gb rowL) (hE : Er w) (hR : Ra w g o c raw) {at_ lim : Nat} (hat : at_ ≤ raw.length) (hlim : lim ≤ 9223372036854775807) (p t : Bs) (er : raw.drop at_ = p ++ 10 :: t) (hp : (10 : UInt8) ∉ p) (k : Int) (x : Bs) (q : Int) (hl : lineS (trim p) = .inr (k, x, q)) (hq : (lim : Int) < q) :
    Calls Tryz.prog 81 #[.map (some gb), .slice (some ⟨g, o, none⟩) raw.length c, .int .i64 at_, .int .i64 lim] w fun e w' => StQ lim at_ (raw.drop at_) w e w' := by
  have hk0 := (lineS_no hl).2
  have dk : decide (k = 0) = false := decide_eq_false hk0
  have dq : decide (q ≤ (lim : Int)) = false := decide_eq_false (by omega)
  have hl1 := hR.len
  have hle := hR.le
  have hcp := hR.cap
  have hlt : at_ + p.length + 1 ≤ raw.length := by
    have := congrArg List.length er
    rw [List.length_drop] at this
    simp at this
    omega
  have hp2 : p.length ≤ 1099511627776 := by omega
  obtain ⟨w1, hw1⟩ : ∃ w1, w.alloc (.cells Z86 85) = w1 := ⟨_, rfl⟩
  have g1 : w.grownBy w1 none := by rw [← hw1]; exact gb_alloc (gb_refl w none) _
  have bR : Box w1 85 w.heap.size Z86 := by rw [← hw1]; exact Box.new w 85 Z86
  have s1 : w1.heap.size = w.heap.size + 1 := by rw [← hw1]; simp
  have ga := gb_alloc (gb_refl w1 none) (.cells #[.int .u8 13] 5)
  have g2 := gb_trans g1 ga
  have hR1 := hR.kept0 g1
  have hR2 := hR.kept0 g2
  have bR2 := bR.kept ga (by simp)
  have hpc : ∀ {W : World}, Ra W g o c raw → ∀ i x, p[i]? = some x → W.cell? ⟨g, o + at_ + i, none⟩ = some (b8 x) := by
    intro W hW i x hx
    refine hW.dropc at_ i x ?_
    rw [er, List.getElem?_append_left (List.getElem?_eq_some_iff.1 hx).1]
    exact hx
  have h118 := ix_118 w1 g (o + at_) (c - at_) (p ++ 10 :: t) (by rw [← er]; exact hR1.dropc at_)
  rw [ix_line p t hp, ← er, List.length_drop] at h118
  have h119 := trim_119 (w := w1.alloc (.cells #[.int .u8 13] 5)) (g := g) (o := o + at_) (c := c - at_) (sg := w1.heap.size) (sc := 1) (l := p) hp2 (by omega) hR2.lt (hpc hR2) (by
    rw [(Box.new w1 5 #[.int .u8 13]).cell 0]
    simp)
  have h63 := (line_10 (hG.kept g2 (by simp)) (hE.kept g2) (.slice (some ⟨g, o + at_, none⟩) (trim p).length (c - at_)) (trim p) (.inr ⟨g, o + at_, c - at_, rfl, by have := (trim_len p).2; omega, hR2.lt, fun i x hx => hpc hR2 i x (trim_get hx)⟩)).mono (fun e w' h => lnp_inr h hl)
  obtain ⟨pl, hpl⟩ : ∃ pl, p.length = pl := ⟨_, rfl⟩
  obtain ⟨tl, htl⟩ : ∃ tl, (trim p).length = tl := ⟨_, rfl⟩
  obtain ⟨R, hRl⟩ : ∃ R, raw.length = R := ⟨_, rfl⟩
  rw [hpl] at h118 h119 hlt hp2
  rw [htl, s1] at h119
  rw [htl] at h63
  rw [hRl] at h118 hlt hle hl1 hat
  have A : Aside (p.length = pl ∧ raw.length = R) := ⟨hpl, hRl⟩
  have hcn : ¬ c = at_ := by omega
  rw [hRl]
  clear hpl htl hRl hR1 hR2 hpc bR ga
  subst hw1
  go_enter Tryz.func81, Tryz.ntmps81
  go_upto_region 9 with (first
    | (go_at_call 123; go_must ((with_reducible refine h118.mono ?_); rintro e w2 ⟨rfl, rfl⟩))
    | (go_at_call 124; go_must ((with_reducible refine h119.mono ?_); rintro e w2 ⟨rfl, rfl⟩))
    | (go_at_call 68; go_must ((with_reducible refine h63.mono ?_); rintro e w3 ⟨rfl, hg3⟩; (have hr3 := bR2.kept hg3 (by simp)); (have hs3 := hg3.size); (have b41 := bx41 w3 (Z31 0 false) #[.int .i64 0, .string ⟨#[]⟩, .int .i64 0] 43); (have b43 := bx2 w3 (.cells (Z31 0 false) 41) #[.int .i64 0, .string ⟨#[]⟩, .int .i64 0] 43); (have hrA := hr3.kept (gb_alloc (gb_alloc (gb_refl w3 none) (.cells (Z31 0 false) 41)) (.cells #[.int .i64 0, .string ⟨#[]⟩, .int .i64 0] 43)) (by simp)); (have gA := gb_trans hg3 (gb_alloc (gb_alloc (gb_refl w3 none) (.cells (Z31 0 false) 41)) (.cells #[.int .i64 0, .string ⟨#[]⟩, .int .i64 0] 43)))))
    | (refine atS 41 w3.heap.size 0 rfl rfl ?_; go_must (refine storeT 41 11 size41 rfl _ _ rfl 41 w3.heap.size 0 _ b41 (by simp) rfl _ rfl rfl (by simp [Value.oneCell']) ?_); intro W4 c41 hg4; (simp only [sets_41] at c41); (have c43 := b43.kept hg4 (by simp)); (have hr4 := hrA.kept hg4 (by simp at hs3 ⊢; omega)))
    | (refine atS 43 (w3.heap.size + 1) 0 rfl rfl ?_; go_must (refine storeT 43 3 size43 rfl _ _ rfl 43 (w3.heap.size + 1) 0 _ c43 (by simp) rfl _ rfl rfl (by simp [Value.oneCell']) ?_); intro W5 d43 hg5; (simp only [sets_43] at d43); (have d41 := c41.kept hg5 (by simp)); (have hr5 := hr4.kept hg5 (by simp at hs3 ⊢; omega)); (have q0 : W5.cell? ⟨w3.heap.size + 1, 0, none⟩ = some (.int .i64 k) := d43.cell 0); (have q2 : W5.cell? ⟨w3.heap.size + 1, 2, none⟩ = some (.int .i64 q) := d43.cell 2))
    | (refine atL 41 w3.heap.size 0 rfl rfl ?_; go_must (refine load41 rfl _ rfl 41 w3.heap.size 0 _ d41 rfl (Z31 0 false).toList rfl (fun j v hv => by simpa using hv) ?_))
    | (refine atL 43 (w3.heap.size + 1) 0 rfl rfl ?_; go_must (refine load43 rfl _ rfl 43 (w3.heap.size + 1) 0 _ d43 rfl [.int .i64 k, sv x, .int .i64 q] rfl (fun j v hv => by simpa using hv) ?_))
    | (refine atS 85 W5.heap.size 0 rfl rfl ?_; go_must (refine storeT 85 16 size86 rfl _ _ rfl 85 W5.heap.size 0 _ (Box.new W5 85 Z86) (by simp) rfl _ rfl rfl (by simp [Value.oneCell']) ?_); intro W6 b86 hg6; (simp only [sets_0] at b86)))
  have hsz : w.heap.size < w3.heap.size := by simp at hs3; omega
  have g36 : w3.grownBy W6 none := gb_mine (gb_alloc (gb_mine (gb_mine (gb_alloc (gb_alloc (gb_refl w3 none) _) _) hg4 (Nat.le_refl _)) hg5 (by omega)) _) hg6 (gb_mine (gb_mine (gb_alloc (gb_alloc (gb_refl w3 none) _) _) hg4 (Nat.le_refl _)) hg5 (by omega)).size
  have s5 : w3.heap.size + 2 ≤ W5.heap.size := by
    have h1 := hg4.size
    have h2 := hg5.size
    simp at h1
    omega
  have gw6 : w.grownBy W6 none := gb_trans (gb_trans g2 hg3) g36
  have hr6 : Box W6 85 w.heap.size Z86 := (hr5.kept (gb_alloc (gb_refl W5 none) _) (by simp)).kept hg6 (by simp; omega)
  have d6 : Box W6 43 (w3.heap.size + 1) #[.int .i64 k, sv x, .int .i64 q] := (d43.kept (gb_alloc (gb_refl W5 none) (.cells Z86 85)) (by simp)).kept hg6 (by simp; omega)
  have hR6 := hR.kept0 gw6
  have h3w := hsz
  clear h63 h118 h119 bR2 s1 hr3 hs3 b41 b43 hrA gA c41 c43 hr4 d41 d43 hr5 q0 q2 hg4 hg5 hg6 g1 g2 hG hE hg3
  have e15 : (at_ : Int) + (pl : Int) + 1 = ((at_ + (pl + 1) : Nat) : Int) := by omega
  rw [e15] at b86
  have hE15 : Aside ((at_ : Int) + (pl : Int) + 1 = ((at_ + (pl + 1) : Nat) : Int)) := e15
  clear e15
  · have hY := stepY_inr (limit := lim) (at_ := at_) (t := t) hp hl (.inr hq)
    rw [← er, A.out.1] at hY
    clear hl er
    go_wp2_with (first | (refine atL 85 W5.heap.size 0 rfl rfl ?_; go_must (refine load86 rfl _ rfl 85 W5.heap.size 0 _ b86 rfl [.int .i64 0, .slice none 0 0, .int .u64 0, .int .i64 0, .int .u64 0, .int .u64 0, .slice none 0 0, .bool false, .bool false, .slice none 0 0, .string ⟨#[]⟩, .int .i64 k, sv x, .int .i64 q, .int .i64 at_, .int .i64 ((at_ + (pl + 1) : Nat) : Int)] rfl (fun j v hv => by simpa using hv) ?_)) | (refine atS 85 w.heap.size 0 rfl rfl ?_; go_must (refine storeT 85 16 size86 rfl _ _ rfl 85 w.heap.size 0 _ hr6 (by simp) rfl _ rfl rfl (by simp [Value.oneCell']) ?_); intro W9 hb9 hg9; (simp only [sets_0] at hb9)))
    refine ⟨rfl, _, res76 hb9 _ rfl rfl, gb_mine gw6 hg9 (Nat.le_refl _), .inr ⟨_, _, .slice none 0 0, .slice none 0 0, .slice none 0 0, rfl, hY, World.ownsRow_nil _ _ _ _, World.ownsRow_nil _ _ _ _, World.ownsRow_nil _ _ _ _, fun _ => rfl⟩⟩
set_option maxRecDepth 100000 in
set_option maxHeartbeats 8000000 in
theorem step_inrB {w : World} {gb g o c : Nat} {raw : Bs} (hG : GM w gb rowL) (hE : Er w) (hR : Ra w g o c raw) {at_ lim : Nat} (hat : at_ ≤ raw.length) (hlim : lim ≤ 9223372036854775807) (p t : Bs) (er : raw.drop at_ = p ++ 10 :: t) (hp : (10 : UInt8) ∉ p) (k : Int) (x : Bs) (q : Int) (hl : lineS (trim p) = .inr (k, x, q)) (hq : q ≤ (lim : Int)) :
    Calls Tryz.prog 81 #[.map (some gb), .slice (some ⟨g, o, none⟩) raw.length c, .int .i64 at_, .int .i64 lim] w fun e w' => StQ lim at_ (raw.drop at_) w e w' := by
  have hk0 := (lineS_no hl).2
  have dk : decide (k = 0) = false := decide_eq_false hk0
  have dq : decide (q ≤ (lim : Int)) = true := decide_eq_true (by omega)
  have hl1 := hR.len
  have hle := hR.le
  have hcp := hR.cap
  have hlt : at_ + p.length + 1 ≤ raw.length := by
    have := congrArg List.length er
    rw [List.length_drop] at this
    simp at this
    omega
  have hp2 : p.length ≤ 1099511627776 := by omega
  obtain ⟨w1, hw1⟩ : ∃ w1, w.alloc (.cells Z86 85) = w1 := ⟨_, rfl⟩
  have g1 : w.grownBy w1 none := by rw [← hw1]; exact gb_alloc (gb_refl w none) _
  have bR : Box w1 85 w.heap.size Z86 := by rw [← hw1]; exact Box.new w 85 Z86
  have s1 : w1.heap.size = w.heap.size + 1 := by rw [← hw1]; simp
  have ga := gb_alloc (gb_refl w1 none) (.cells #[.int .u8 13] 5)
  have g2 := gb_trans g1 ga
  have hR1 := hR.kept0 g1
  have hR2 := hR.kept0 g2
  have bR2 := bR.kept ga (by simp)
  have hpc : ∀ {W : World}, Ra W g o c raw → ∀ i x, p[i]? = some x → W.cell? ⟨g, o + at_ + i, none⟩ = some (b8 x) := by
    intro W hW i x hx
    refine hW.dropc at_ i x ?_
    rw [er, List.getElem?_append_left (List.getElem?_eq_some_iff.1 hx).1]
    exact hx
  have h118 := ix_118 w1 g (o + at_) (c - at_) (p ++ 10 :: t) (by rw [← er]; exact hR1.dropc at_)
  rw [ix_line p t hp, ← er, List.length_drop] at h118
  have h119 := trim_119 (w := w1.alloc (.cells #[.int .u8 13] 5)) (g := g) (o := o + at_) (c := c - at_) (sg := w1.heap.size) (sc := 1) (l := p) hp2 (by omega) hR2.lt (hpc hR2) (by
    rw [(Box.new w1 5 #[.int .u8 13]).cell 0]
    simp)
  have h63 := (line_10 (hG.kept g2 (by simp)) (hE.kept g2) (.slice (some ⟨g, o + at_, none⟩) (trim p).length (c - at_)) (trim p) (.inr ⟨g, o + at_, c - at_, rfl, by have := (trim_len p).2; omega, hR2.lt, fun i x hx => hpc hR2 i x (trim_get hx)⟩)).mono (fun e w' h => lnp_inr h hl)
  obtain ⟨pl, hpl⟩ : ∃ pl, p.length = pl := ⟨_, rfl⟩
  obtain ⟨tl, htl⟩ : ∃ tl, (trim p).length = tl := ⟨_, rfl⟩
  obtain ⟨R, hRl⟩ : ∃ R, raw.length = R := ⟨_, rfl⟩
  rw [hpl] at h118 h119 hlt hp2
  rw [htl, s1] at h119
  rw [htl] at h63
  rw [hRl] at h118 hlt hle hl1 hat
  have A : Aside (p.length = pl ∧ raw.length = R) := ⟨hpl, hRl⟩
  have hcn : ¬ c = at_ := by omega
  rw [hRl]
  clear hpl htl hRl hR1 hR2 hpc bR ga
  subst hw1
  go_enter Tryz.func81, Tryz.ntmps81
  go_upto_region 9 with (first
    | (go_at_call 123; go_must ((with_reducible refine h118.mono ?_); rintro e w2 ⟨rfl, rfl⟩))
    | (go_at_call 124; go_must ((with_reducible refine h119.mono ?_); rintro e w2 ⟨rfl, rfl⟩))
    | (go_at_call 68; go_must ((with_reducible refine h63.mono ?_); rintro e w3 ⟨rfl, hg3⟩; (have hr3 := bR2.kept hg3 (by simp)); (have hs3 := hg3.size); (have b41 := bx41 w3 (Z31 0 false) #[.int .i64 0, .string ⟨#[]⟩, .int .i64 0] 43); (have b43 := bx2 w3 (.cells (Z31 0 false) 41) #[.int .i64 0, .string ⟨#[]⟩, .int .i64 0] 43); (have hrA := hr3.kept (gb_alloc (gb_alloc (gb_refl w3 none) (.cells (Z31 0 false) 41)) (.cells #[.int .i64 0, .string ⟨#[]⟩, .int .i64 0] 43)) (by simp)); (have gA := gb_trans hg3 (gb_alloc (gb_alloc (gb_refl w3 none) (.cells (Z31 0 false) 41)) (.cells #[.int .i64 0, .string ⟨#[]⟩, .int .i64 0] 43)))))
    | (refine atS 41 w3.heap.size 0 rfl rfl ?_; go_must (refine storeT 41 11 size41 rfl _ _ rfl 41 w3.heap.size 0 _ b41 (by simp) rfl _ rfl rfl (by simp [Value.oneCell']) ?_); intro W4 c41 hg4; (simp only [sets_41] at c41); (have c43 := b43.kept hg4 (by simp)); (have hr4 := hrA.kept hg4 (by simp at hs3 ⊢; omega)))
    | (refine atS 43 (w3.heap.size + 1) 0 rfl rfl ?_; go_must (refine storeT 43 3 size43 rfl _ _ rfl 43 (w3.heap.size + 1) 0 _ c43 (by simp) rfl _ rfl rfl (by simp [Value.oneCell']) ?_); intro W5 d43 hg5; (simp only [sets_43] at d43); (have d41 := c41.kept hg5 (by simp)); (have hr5 := hr4.kept hg5 (by simp at hs3 ⊢; omega)); (have q0 : W5.cell? ⟨w3.heap.size + 1, 0, none⟩ = some (.int .i64 k) := d43.cell 0); (have q2 : W5.cell? ⟨w3.heap.size + 1, 2, none⟩ = some (.int .i64 q) := d43.cell 2))
    | (refine atL 41 w3.heap.size 0 rfl rfl ?_; go_must (refine load41 rfl _ rfl 41 w3.heap.size 0 _ d41 rfl (Z31 0 false).toList rfl (fun j v hv => by simpa using hv) ?_))
    | (refine atL 43 (w3.heap.size + 1) 0 rfl rfl ?_; go_must (refine load43 rfl _ rfl 43 (w3.heap.size + 1) 0 _ d43 rfl [.int .i64 k, sv x, .int .i64 q] rfl (fun j v hv => by simpa using hv) ?_))
    | (refine atS 85 W5.heap.size 0 rfl rfl ?_; go_must (refine storeT 85 16 size86 rfl _ _ rfl 85 W5.heap.size 0 _ (Box.new W5 85 Z86) (by simp) rfl _ rfl rfl (by simp [Value.oneCell']) ?_); intro W6 b86 hg6; (simp only [sets_0] at b86)))
  have hsz : w.heap.size < w3.heap.size := by simp at hs3; omega
  have g36 : w3.grownBy W6 none := gb_mine (gb_alloc (gb_mine (gb_mine (gb_alloc (gb_alloc (gb_refl w3 none) _) _) hg4 (Nat.le_refl _)) hg5 (by omega)) _) hg6 (gb_mine (gb_mine (gb_alloc (gb_alloc (gb_refl w3 none) _) _) hg4 (Nat.le_refl _)) hg5 (by omega)).size
  have s5 : w3.heap.size + 2 ≤ W5.heap.size := by
    have h1 := hg4.size
    have h2 := hg5.size
    simp at h1
    omega
  have gw6 : w.grownBy W6 none := gb_trans (gb_trans g2 hg3) g36
  have hr6 : Box W6 85 w.heap.size Z86 := (hr5.kept (gb_alloc (gb_refl W5 none) _) (by simp)).kept hg6 (by simp; omega)
  have d6 : Box W6 43 (w3.heap.size + 1) #[.int .i64 k, sv x, .int .i64 q] := (d43.kept (gb_alloc (gb_refl W5 none) (.cells Z86 85)) (by simp)).kept hg6 (by simp; omega)
  have hR6 := hR.kept0 gw6
  have h3w := hsz
  clear h63 h118 h119 bR2 s1 hr3 hs3 b41 b43 hrA gA c41 c43 hr4 d41 d43 hr5 q0 q2 hg4 hg5 hg6 g1 g2 hG hE hg3
  have e15 : (at_ : Int) + (pl : Int) + 1 = ((at_ + (pl + 1) : Nat) : Int) := by omega
  rw [e15] at b86
  have hE15 : Aside ((at_ : Int) + (pl : Int) + 1 = ((at_ + (pl + 1) : Nat) : Int)) := e15
  clear e15
  by_cases hn : q < 0
  · have hY := stepY_inr (limit := lim) (at_ := at_) (t := t) hp hl (.inl hn)
    rw [← er, A.out.1] at hY
    have d1 : decide (q < 0) = true := decide_eq_true hn
    clear hl er
    go_wp2_with (first | (refine atL 85 W5.heap.size 0 rfl rfl ?_; go_must (refine load86 rfl _ rfl 85 W5.heap.size 0 _ b86 rfl [.int .i64 0, .slice none 0 0, .int .u64 0, .int .i64 0, .int .u64 0, .int .u64 0, .slice none 0 0, .bool false, .bool false, .slice none 0 0, .string ⟨#[]⟩, .int .i64 k, sv x, .int .i64 q, .int .i64 at_, .int .i64 ((at_ + (pl + 1) : Nat) : Int)] rfl (fun j v hv => by simpa using hv) ?_)) | (refine atS 85 w.heap.size 0 rfl rfl ?_; go_must (refine storeT 85 16 size86 rfl _ _ rfl 85 w.heap.size 0 _ hr6 (by simp) rfl _ rfl rfl (by simp [Value.oneCell']) ?_); intro W9 hb9 hg9; (simp only [sets_0] at hb9)))
    refine ⟨rfl, _, res76 hb9 _ rfl rfl, gb_mine gw6 hg9 (Nat.le_refl _), .inr ⟨_, _, .slice none 0 0, .slice none 0 0, .slice none 0 0, rfl, hY, World.ownsRow_nil _ _ _ _, World.ownsRow_nil _ _ _ _, World.ownsRow_nil _ _ _ _, fun _ => rfl⟩⟩
  · obtain ⟨N, rfl⟩ : ∃ N : Nat, q = (N : Int) := ⟨q.toNat, by omega⟩
    have hN : N ≤ 2147483647 := by have := (lineS_no hl).1; omega
    have hrd := lnF_inr (limit := lim) (at_ := at_) hl
    rw [if_neg (by omega), Int.toNat_natCast] at hrd
    have ht : raw.drop (at_ + pl + 1) = t := by
      rw [Nat.add_assoc, ← List.drop_drop, er, ← A.out.1, show p ++ 10 :: t = (p ++ [10]) ++ t by simp, List.drop_left' (by simp)]
    have d1 : decide ((N : Int) < 0) = false := decide_eq_false (by omega)
    have hkl : at_ + pl + 1 ≤ raw.length := by rw [A.out.2]; exact hlt
    have e120 : ((at_ + pl + 1 : Nat) : Int) = (at_ : Int) + (pl : Int) + 1 := by omega
    clear hl hn
    rcases three t N with h3 | ⟨b, u, h3, h4, h5⟩ | ⟨b, u, v, h3, h4, h5⟩
    ·
      have hSN : StepN lim at_ (raw.drop at_) := by
        rw [er]
        exact (step_pass hp hrd t).1 h3
      have h120 := bend_short hR6 (at_ + pl + 1) N hkl hN (by rw [ht]; exact h3)
      rw [A.out.2, e120] at h120
      clear er hrd ht hkl e120 hE15 hp hR6 h3
      go_wp2_with (first | (go_at_call 125; go_must ((with_reducible refine h120.mono ?_); rintro e W7 ⟨rfl, hg7⟩; (have hr7 := hr6.kept hg7 (by simp)))) | (refine atS 85 w.heap.size 0 rfl rfl ?_; go_must (refine storeT 85 16 size86 rfl _ _ rfl 85 w.heap.size 0 _ hr7 (by simp) rfl _ rfl rfl (by simp [Value.oneCell']) ?_); intro W9 hb9 hg9; (simp only [sets_0] at hb9)))
      exact ⟨rfl, _, res76 hb9 _ rfl rfl, StQ.no hSN (gb_mine (gb_trans gw6 hg7) hg9 (Nat.le_refl _))⟩
    ·
      have hSN : StepN lim at_ (raw.drop at_) := by
        rw [er]
        exact (step_pass hp hrd t).2.1 b u h3 h4 h5
      have h120 := bend_none hR6 (at_ + pl + 1) N hkl hN b u (by rw [ht]; exact h3) h4 h5
      rw [A.out.2, e120] at h120
      clear er hrd ht hkl e120 hE15 hp hR6 h3
      go_wp2_with (first | (go_at_call 125; go_must ((with_reducible refine h120.mono ?_); rintro e W7 ⟨rfl, hg7⟩; (have hr7 := hr6.kept hg7 (by simp)))) | (refine atS 85 w.heap.size 0 rfl rfl ?_; go_must (refine storeT 85 16 size86 rfl _ _ rfl 85 w.heap.size 0 _ hr7 (by simp) rfl _ rfl rfl (by simp [Value.oneCell']) ?_); intro W9 hb9 hg9; (simp only [sets_0] at hb9)))
      exact ⟨rfl, _, res76 hb9 _ rfl rfl, StQ.no hSN (gb_mine (gb_trans gw6 hg7) hg9 (Nat.le_refl _))⟩
    ·
      have h120 := bend_some hR6 (at_ + pl + 1) N hkl hN b u v (by rw [ht]; exact h3) h4 h5
      rw [A.out.2, e120] at h120
      have hul : t.length = N + (u.length + 1 + v.length) := by rw [h3, List.length_append, h4]; simp; omega
      have htl : t.length + (at_ + pl + 1) = R := by rw [← ht, List.length_drop, A.out.2]; omega
      obtain ⟨TO, hTO⟩ : ∃ TO, at_ + pl + 1 + N + u.length + 1 = TO := ⟨_, rfl⟩
      rw [hTO] at h120
      have hTR : TO ≤ R := by omega
      have d2 : decide ((TO : Int) < 0) = false := decide_eq_false (by omega)
      have hY := (step_pass hp hrd t).2.2 b u v h3 h4 h5
      rw [← er, A.out.1, show pl + 1 + (N + (u.length + 1)) = TO - at_ by omega, show at_ + (TO - at_) = TO by omega] at hY
      clear hrd ht hkl e120 hE15 hp hR6 h3 h4 h5 er
      go_upto_region 15 with (go_at_call 125; go_must ((with_reducible refine h120.mono ?_); rintro e W7 ⟨rfl, hg7⟩; (have hr7 := hr6.kept hg7 (by simp)); (have b7 := b86.kept hg7 (by simp)); (have d7 := d6.kept hg7 (by simp)); (have c15 : W7.cell? ⟨W5.heap.size, 15, none⟩ = some (.int .i64 ((at_ + (pl + 1) : Nat) : Int)) := b7.cell 15); (have z15 := b7.fz 15)))
      have b8 := b7.set 15 (.int .i64 (TO : Int))
      simp only [List.setIfInBounds_toArray, List.set_cons_zero, List.set_cons_succ] at b8
      have g8 : W7.grownBy (W7.setCell ⟨W5.heap.size, 15, none⟩ (.int .i64 (TO : Int))) (some W5.heap.size) := gb_setCell (gb_refl _ _) _
      have gw8 : w.grownBy (W7.setCell ⟨W5.heap.size, 15, none⟩ (.int .i64 (TO : Int))) none := gb_mine (gb_trans gw6 hg7) g8 (by omega)
      have hr8 := hr7.kept g8 (by simp; omega)
      have d8 := d7.kept g8 (by simp; omega)
      generalize W7.setCell ⟨W5.heap.size, 15, none⟩ (.int .i64 (TO : Int)) = W8 at *
      have q8 : W8.cell? ⟨w3.heap.size + 1, 0, none⟩ = some (.int .i64 k) := d8.cell 0
      have c8 : W8.cell? ⟨W5.heap.size, 8, none⟩ = some (.bool false) := b8.cell 8
      have z8 := b8.fz 8
      clear b86 b7 hr6 hr7 d6 d7 c15 z15 hg7 g8 gw6
      go_wp2_with (first | (refine atL 85 W5.heap.size 0 rfl rfl ?_; go_must (refine load86 rfl _ rfl 85 W5.heap.size 0 _ b8 rfl [.int .i64 0, .slice none 0 0, .int .u64 0, .int .i64 0, .int .u64 0, .int .u64 0, .slice none 0 0, .bool false, .bool false, .slice none 0 0, .string ⟨#[]⟩, .int .i64 k, sv x, .int .i64 (N : Int), .int .i64 at_, .int .i64 (TO : Int)] rfl (fun j v hv => by simpa using hv) ?_)) | (refine atS 85 w.heap.size 0 rfl rfl ?_; go_must (refine storeT 85 16 size86 rfl _ _ rfl 85 w.heap.size 0 _ hr8 (by simp) rfl _ rfl rfl (by simp [Value.oneCell']) ?_); intro W9 hb9 hg9; (simp only [sets_0] at hb9)))
      refine ⟨rfl, _, res76 hb9 _ rfl rfl, gb_mine gw8 hg9 (Nat.le_refl _), .inr ⟨_, _, .slice none 0 0, .slice none 0 0, .slice none 0 0, rfl, hY, World.ownsRow_nil _ _ _ _, World.ownsRow_nil _ _ _ _, World.ownsRow_nil _ _ _ _, fun _ => rfl⟩⟩
theorem step_inr {w : World} {gb g o c : Nat} {raw : Bs} (hG : GM w gb rowL) (hE : Er w) (hR : Ra w g o c raw) {at_ lim : Nat} (hat : at_ ≤ raw.length) (hlim : lim ≤ 9223372036854775807) (p t : Bs) (er : raw.drop at_ = p ++ 10 :: t) (hp : (10 : UInt8) ∉ p) (k : Int) (x : Bs) (q : Int) (hl : lineS (trim p) = .inr (k, x, q)) :
    Calls Tryz.prog 81 #[.map (some gb), .slice (some ⟨g, o, none⟩) raw.length c, .int .i64 at_, .int .i64 lim] w fun e w' => StQ lim at_ (raw.drop at_) w e w' := by
  rcases Int.lt_or_le (lim : Int) q with h | h
  · exact step_inrA hG hE hR hat hlim p t er hp k x q hl h
  · exact step_inrB hG hE hR hat hlim p t er hp k x q hl h
end Go.Proofs.YtbbocbdoiealoaaGreatDoor

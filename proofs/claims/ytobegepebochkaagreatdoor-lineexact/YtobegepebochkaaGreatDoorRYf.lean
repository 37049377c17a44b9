import Derived.Deep.CutRange
import Derived.Test.YtobegepebochkaaGreatDoorRYe
set_option linter.unusedVariables false
set_option linter.unusedSimpArgs false
set_option maxRecDepth 100000
set_option maxHeartbeats 16000000
namespace Go.Proofs.YtobegepebochkaaGreatDoor
open Go.RowKit Go.Maps
attribute [local go_sem] Oper.semAt_some
theorem own_lo {w : World} {B : Nat} {e : TypeId} {s : Nat} {v : Value} {n : Nat} {xs : List Value} (h : w.ownsRow B e s v n xs) {j : Nat} (hj : v.ownBlock = some j) : B <= j /\ j < w.heap.size := World.ownsRow.lt h j hj
theorem fin60b (w : World) (A A' : Array Value) : Box ((w.alloc (.cells A' 41)).alloc (.cells A 41)) 41 w.heap.size A' := Box.kept (Box.new w 41 A') (World.grownBy_alloc _ _ none) (by simp)
theorem hsz2 (w : World) (o o' : Obj) : ((w.alloc o).alloc o').heap.size = w.heap.size + 2 := by simp
def keyB (x : Bs) : Bool := plain x && decide (1 <= x.length) && decide (x.length <= 250)
theorem keyB_rt (c : Cmd) (x : Bs) (hne : x ≠ []) : rt1 c 75 x = if keyB x = true then .inl { c with keys := c.keys ++ [x] } else .inr badLine := by
  have h1 : 1 <= x.length := by cases x with | nil => exact absurd rfl hne | cons a l => simp
  simp [rt1, mpL, take1, keyB, h1]
  by_cases h : x.length <= 250 <;> by_cases h2 : plain x = true <;> simp [h, h2]
theorem word_K_yes {w : World} {B : Nat} {c : Cmd} {kv mv : Value} (h : Kw w B c kv mv) (hB : B <= w.heap.size) (hkl : c.keys.length <= 100000) (x : Bs) (hx : x.length <= 65536) (hne : x ≠ []) (hb : keyB x = true) :
    Calls Tryz.prog 60 #[.agg (cmA c kv mv), .int .u8 75, sv x] w fun e w' => WordP w B c kv mv 75 x e w' := by
  obtain ⟨ka, kc, hkv, _, _, _, _⟩ := row_shape h.k
  subst hkv
  obtain ⟨ma, mc, hmv, _, _, _, _⟩ := row_shape h.m
  subst hmv
  obtain ⟨b2, hg⟩ := fin60 w Z41 #[.int .i64 c.verb, .slice ka c.keys.length kc, .int .u64 c.flags, .int .i64 c.exp, .int .u64 c.tok, .int .u64 c.del, .slice none 0 0, .bool c.nr, .bool false, .slice ma c.mt.length mc, sv c.what]
  have b1 := fin60b w Z41 #[.int .i64 c.verb, .slice ka c.keys.length kc, .int .u64 c.flags, .int .i64 c.exp, .int .u64 c.tok, .int .u64 c.del, .slice none 0 0, .bool c.nr, .bool false, .slice ma c.mt.length mc, sv c.what]
  have hk := h.kept hg
  have hsz : w.heap.size + 2 <= ((w.alloc (.cells #[.int .i64 c.verb, .slice ka c.keys.length kc, .int .u64 c.flags, .int .i64 c.exp, .int .u64 c.tok, .int .u64 c.del, .slice none 0 0, .bool c.nr, .bool false, .slice ma c.mt.length mc, sv c.what] 41)).alloc (.cells Z41 41)).heap.size := by rw [hsz2]; exact Nat.le_refl _
  have er := keyB_rt c x hne
  rw [hb] at er
  have h97 := fun W => key_97 x (by omega) W
  have hb' : (plain x && decide (1 <= x.length) && decide (x.length <= 250)) = true := hb
  rw [hb'] at h97
  clear h hb hb'
  go_enter Tryz.func60, Tryz.ntmps60
  go_upto_region 8 with (fail)
  generalize (w.alloc (.cells #[.int .i64 c.verb, .slice ka c.keys.length kc, .int .u64 c.flags, .int .i64 c.exp, .int .u64 c.tok, .int .u64 c.del, .slice none 0 0, .bool c.nr, .bool false, .slice ma c.mt.length mc, sv c.what] 41)).alloc (.cells Z41 41) = X at *
  have hrow := hk.k
  have c1 : X.cell? ⟨w.heap.size, 1, none⟩ = some (.slice ka c.keys.length kc) := b1.cell 1
  go_wp2_with (first | (go_at_call 97; go_must ((with_reducible refine (h97 _).mono ?_); rintro e w6 ⟨rfl, hw6⟩; have hw7 := hw6.symm; subst hw7)) | (at_builtin; go_must (refine push9 rfl _ _ rfl B _ c.keys.length _ (by rfl) hrow ⟨x.toArray⟩ (by rfl) (by omega) (by omega) ?_)))
  intro g cap X3 hrow3 hg3 hat3
  have hne1 : ∀ k, (Value.slice ka c.keys.length kc).ownBlock = some k -> k ≠ w.heap.size /\ k ≠ w.heap.size + 1 := fun k hk2 => by
    obtain ⟨c0, hc0⟩ := row_block hrow k hk2
    exact ⟨fun e => ne_of_type hc0 b1 (by decide) e, fun e => ne_of_type hc0 b2 (by decide) e⟩
  have b13 := b1.kept hg3 (fun e => (hne1 _ e.symm).1 rfl)
  have b23 := b2.kept hg3 (fun e => (hne1 _ e.symm).2 rfl)
  have hm3 := row_kept hk.m hg3 (fun k hk2 e => by
    obtain ⟨c0, hc0⟩ := row_block hk.m k hk2
    obtain ⟨c3, hc3⟩ := row_block hrow k e.symm
    exact ne_of_type hc0 hc3 (by decide) rfl)
  have k3 : X3.cell? ⟨w.heap.size, 1, none⟩ = some (.slice ka c.keys.length kc) := b13.cell 1
  have z3 := b13.fz 1
  have b14 := b13.set 1 (.slice (some ⟨g, 0, none⟩) (c.keys.length + 1) cap)
  simp only [List.setIfInBounds_toArray, List.set_cons_zero, List.set_cons_succ] at b14
  have g34 : X3.grownBy (X3.setCell ⟨w.heap.size, 1, none⟩ (.slice (some ⟨g, 0, none⟩) (c.keys.length + 1) cap)) (some w.heap.size) := gb_setCell (gb_refl _ _) _
  have b24 := b23.kept g34 (fun e => by have := Option.some.inj e; omega)
  have hgb : B <= g := (own_lo hrow3 rfl).1
  have hg9 : g ≠ w.heap.size := by
    obtain ⟨c0, hc0⟩ := row_block hrow3 g rfl
    exact fun e => ne_of_type hc0 b13 (by decide) e
  have hr4 := row_kept hrow3 g34 (fun k hk2 e => by simp [Value.ownBlock] at hk2; have := Option.some.inj e; omega)
  have hm4 := row_kept hm3 g34 (fun k hk2 e => by
    obtain ⟨c0, hc0⟩ := row_block hm3 k hk2
    exact ne_of_type hc0 b13 (by decide) (Option.some.inj e))
  have hK4 : Kp (fun k => (Value.slice ka c.keys.length kc).ownBlock = some k \/ (Value.slice ma c.mt.length mc).ownBlock = some k) w (X3.setCell ⟨w.heap.size, 1, none⟩ (.slice (some ⟨g, 0, none⟩) (c.keys.length + 1) cap)) := ((Kp.of hg).step hg3 (fun k e => .inl (.inl e))).step g34 (fun k e => .inr (by have := Option.some.inj e; omega))
  clear hrow hrow3 hg3 hat3 b1 b2 b13 b23 hm3 hk c1 h97 hg g34
  go_upto_region 40 with (fail)
  clear k3 z3
  generalize X3.setCell ⟨w.heap.size, 1, none⟩ (.slice (some ⟨g, 0, none⟩) (c.keys.length + 1) cap) = X4 at *
  go_wp2_with (first
    | (refine atL 41 w.heap.size 0 rfl rfl ?_; go_must (refine load41 rfl _ rfl 41 w.heap.size 0 _ b14 rfl [.int .i64 c.verb, .slice (some ⟨g, 0, none⟩) (c.keys.length + 1) cap, .int .u64 c.flags, .int .i64 c.exp, .int .u64 c.tok, .int .u64 c.del, .slice none 0 0, .bool c.nr, .bool false, .slice ma c.mt.length mc, sv c.what] rfl (fun j v hv => by simpa using hv) ?_))
    | (refine atS 41 (w.heap.size + 1) 0 rfl rfl ?_; go_must (refine storeT 41 11 size41 rfl _ _ rfl 41 (w.heap.size + 1) 0 _ b24 (by simp) rfl _ rfl rfl (by simp [Value.oneCell']) ?_); intro X5 b5 g5))
  rw [show sets Z41 0 (#[Value.int .i64 c.verb, .slice (some ⟨g, 0, none⟩) (c.keys.length + 1) cap, .int .u64 c.flags, .int .i64 c.exp, .int .u64 c.tok, .int .u64 c.del, .slice none 0 0, .bool c.nr, .bool false, .slice ma c.mt.length mc, sv c.what] : Array Value).toList = #[.int .i64 c.verb, .slice (some ⟨g, 0, none⟩) (c.keys.length + 1) cap, .int .u64 c.flags, .int .i64 c.exp, .int .u64 c.tok, .int .u64 c.del, .slice none 0 0, .bool c.nr, .bool false, .slice ma c.mt.length mc, sv c.what] from sets_41 _ _ _ _ _ _ _ _ _ _ _ _ _ _ _ _ _ _ _ _ _ _] at b5
  have hK5 : Kp (fun k => (Value.slice ka c.keys.length kc).ownBlock = some k \/ (Value.slice ma c.mt.length mc).ownBlock = some k) w X5 := hK4.step g5 (fun k e => .inr (by have := Option.some.inj e; omega))
  have hpost : WordP w B c (.slice ka c.keys.length kc) (.slice ma c.mt.length mc) 75 x (.returned (.tuple #[.agg #[.int .i64 c.verb, .slice (some ⟨g, 0, none⟩) (c.keys.length + 1) cap, .int .u64 c.flags, .int .i64 c.exp, .int .u64 c.tok, .int .u64 c.del, .slice none 0 0, .bool c.nr, .bool false, .slice ma c.mt.length mc, sv c.what], .int .i64 (-1), sv []])) X5 := by
    refine ⟨hK5, ?_⟩
    rw [er]
    refine ⟨_, _, rfl, ⟨?_, row_kept hm4 g5 (fun k hk2 e => ?_)⟩⟩
    . have := row_kept hr4 g5 (fun k hk2 e => ?_)
      . simpa using this
      . obtain ⟨c0, hc0⟩ := row_block hr4 k hk2
        exact ne_of_type hc0 b24 (by decide) (Option.some.inj e)
    . obtain ⟨c0, hc0⟩ := row_block hm4 k hk2
      exact ne_of_type hc0 b24 (by decide) (Option.some.inj e)
  exact ⟨rfl, _, res60 b5 _ rfl rfl rfl, hpost⟩
theorem word_K_no {w : World} {B : Nat} {c : Cmd} {kv mv : Value} (h : Kw w B c kv mv) (hB : B <= w.heap.size) (hkl : c.keys.length <= 100000) (x : Bs) (hx : x.length <= 65536) (hne : x ≠ []) (hb : keyB x = false) :
    Calls Tryz.prog 60 #[.agg (cmA c kv mv), .int .u8 75, sv x] w fun e w' => WordP w B c kv mv 75 x e w' := by
  obtain ⟨ka, kc, hkv, _, _, _, _⟩ := row_shape h.k
  subst hkv
  obtain ⟨ma, mc, hmv, _, _, _, _⟩ := row_shape h.m
  subst hmv
  obtain ⟨b2, hg⟩ := fin60 w Z41 #[.int .i64 c.verb, .slice ka c.keys.length kc, .int .u64 c.flags, .int .i64 c.exp, .int .u64 c.tok, .int .u64 c.del, .slice none 0 0, .bool c.nr, .bool false, .slice ma c.mt.length mc, sv c.what]
  have b1 := fin60b w Z41 #[.int .i64 c.verb, .slice ka c.keys.length kc, .int .u64 c.flags, .int .i64 c.exp, .int .u64 c.tok, .int .u64 c.del, .slice none 0 0, .bool c.nr, .bool false, .slice ma c.mt.length mc, sv c.what]
  have hk := h.kept hg
  have hsz : w.heap.size + 2 <= ((w.alloc (.cells #[.int .i64 c.verb, .slice ka c.keys.length kc, .int .u64 c.flags, .int .i64 c.exp, .int .u64 c.tok, .int .u64 c.del, .slice none 0 0, .bool c.nr, .bool false, .slice ma c.mt.length mc, sv c.what] 41)).alloc (.cells Z41 41)).heap.size := by rw [hsz2]; exact Nat.le_refl _
  have er := keyB_rt c x hne
  rw [hb] at er
  have h97 := fun W => key_97 x (by omega) W
  have hb' : (plain x && decide (1 <= x.length) && decide (x.length <= 250)) = false := hb
  rw [hb'] at h97
  clear h hb hb'
  go_enter Tryz.func60, Tryz.ntmps60
  go_upto_region 8 with (fail)
  generalize (w.alloc (.cells #[.int .i64 c.verb, .slice ka c.keys.length kc, .int .u64 c.flags, .int .i64 c.exp, .int .u64 c.tok, .int .u64 c.del, .slice none 0 0, .bool c.nr, .bool false, .slice ma c.mt.length mc, sv c.what] 41)).alloc (.cells Z41 41) = X at *
  have hrow := hk.k
  have c1 : X.cell? ⟨w.heap.size, 1, none⟩ = some (.slice ka c.keys.length kc) := b1.cell 1
  go_wp2_with (first | (go_at_call 97; go_must ((with_reducible refine (h97 _).mono ?_); rintro e w6 ⟨rfl, hw6⟩; have hw7 := hw6.symm; subst hw7)) | (at_builtin; go_must (refine push9 rfl _ _ rfl B _ c.keys.length _ (by rfl) hrow ⟨x.toArray⟩ (by rfl) (by omega) (by omega) ?_)))
  intro g cap X3 hrow3 hg3 hat3
  have hne1 : ∀ k, (Value.slice ka c.keys.length kc).ownBlock = some k -> k ≠ w.heap.size /\ k ≠ w.heap.size + 1 := fun k hk2 => by
    obtain ⟨c0, hc0⟩ := row_block hrow k hk2
    exact ⟨fun e => ne_of_type hc0 b1 (by decide) e, fun e => ne_of_type hc0 b2 (by decide) e⟩
  have b13 := b1.kept hg3 (fun e => (hne1 _ e.symm).1 rfl)
  have b23 := b2.kept hg3 (fun e => (hne1 _ e.symm).2 rfl)
  have hm3 := row_kept hk.m hg3 (fun k hk2 e => by
    obtain ⟨c0, hc0⟩ := row_block hk.m k hk2
    obtain ⟨c3, hc3⟩ := row_block hrow k e.symm
    exact ne_of_type hc0 hc3 (by decide) rfl)
  have k3 : X3.cell? ⟨w.heap.size, 1, none⟩ = some (.slice ka c.keys.length kc) := b13.cell 1
  have z3 := b13.fz 1
  have b14 := b13.set 1 (.slice (some ⟨g, 0, none⟩) (c.keys.length + 1) cap)
  simp only [List.setIfInBounds_toArray, List.set_cons_zero, List.set_cons_succ] at b14
  have g34 : X3.grownBy (X3.setCell ⟨w.heap.size, 1, none⟩ (.slice (some ⟨g, 0, none⟩) (c.keys.length + 1) cap)) (some w.heap.size) := gb_setCell (gb_refl _ _) _
  have b24 := b23.kept g34 (fun e => by have := Option.some.inj e; omega)
  have hgb : B <= g := (own_lo hrow3 rfl).1
  have hg9 : g ≠ w.heap.size := by
    obtain ⟨c0, hc0⟩ := row_block hrow3 g rfl
    exact fun e => ne_of_type hc0 b13 (by decide) e
  have hr4 := row_kept hrow3 g34 (fun k hk2 e => by simp [Value.ownBlock] at hk2; have := Option.some.inj e; omega)
  have hm4 := row_kept hm3 g34 (fun k hk2 e => by
    obtain ⟨c0, hc0⟩ := row_block hm3 k hk2
    exact ne_of_type hc0 b13 (by decide) (Option.some.inj e))
  have hK4 : Kp (fun k => (Value.slice ka c.keys.length kc).ownBlock = some k \/ (Value.slice ma c.mt.length mc).ownBlock = some k) w (X3.setCell ⟨w.heap.size, 1, none⟩ (.slice (some ⟨g, 0, none⟩) (c.keys.length + 1) cap)) := ((Kp.of hg).step hg3 (fun k e => .inl (.inl e))).step g34 (fun k e => .inr (by have := Option.some.inj e; omega))
  clear hrow hrow3 hg3 hat3 b1 b2 b13 b23 hm3 hk c1 h97 hg g34
  go_upto_region 40 with (fail)
  clear k3 z3
  generalize X3.setCell ⟨w.heap.size, 1, none⟩ (.slice (some ⟨g, 0, none⟩) (c.keys.length + 1) cap) = X4 at *
  go_wp2_with (first
    | (refine atL 41 w.heap.size 0 rfl rfl ?_; go_must (refine load41 rfl _ rfl 41 w.heap.size 0 _ b14 rfl [.int .i64 c.verb, .slice (some ⟨g, 0, none⟩) (c.keys.length + 1) cap, .int .u64 c.flags, .int .i64 c.exp, .int .u64 c.tok, .int .u64 c.del, .slice none 0 0, .bool c.nr, .bool false, .slice ma c.mt.length mc, sv c.what] rfl (fun j v hv => by simpa using hv) ?_))
    | (refine atS 41 (w.heap.size + 1) 0 rfl rfl ?_; go_must (refine storeT 41 11 size41 rfl _ _ rfl 41 (w.heap.size + 1) 0 _ b24 (by simp) rfl _ rfl rfl (by simp [Value.oneCell']) ?_); intro X5 b5 g5))
  rw [show sets Z41 0 (#[Value.int .i64 c.verb, .slice (some ⟨g, 0, none⟩) (c.keys.length + 1) cap, .int .u64 c.flags, .int .i64 c.exp, .int .u64 c.tok, .int .u64 c.del, .slice none 0 0, .bool c.nr, .bool false, .slice ma c.mt.length mc, sv c.what] : Array Value).toList = #[.int .i64 c.verb, .slice (some ⟨g, 0, none⟩) (c.keys.length + 1) cap, .int .u64 c.flags, .int .i64 c.exp, .int .u64 c.tok, .int .u64 c.del, .slice none 0 0, .bool c.nr, .bool false, .slice ma c.mt.length mc, sv c.what] from sets_41 _ _ _ _ _ _ _ _ _ _ _ _ _ _ _ _ _ _ _ _ _ _] at b5
  have hK5 : Kp (fun k => (Value.slice ka c.keys.length kc).ownBlock = some k \/ (Value.slice ma c.mt.length mc).ownBlock = some k) w X5 := hK4.step g5 (fun k e => .inr (by have := Option.some.inj e; omega))
  have hpost : WordP w B c (.slice ka c.keys.length kc) (.slice ma c.mt.length mc) 75 x (.returned (.tuple #[.agg #[.int .i64 c.verb, .slice (some ⟨g, 0, none⟩) (c.keys.length + 1) cap, .int .u64 c.flags, .int .i64 c.exp, .int .u64 c.tok, .int .u64 c.del, .slice none 0 0, .bool c.nr, .bool false, .slice ma c.mt.length mc, sv c.what], .int .i64 (-1), sv badLine])) X5 := by
    refine ⟨hK5, ?_⟩
    rw [er]
    exact ⟨_, _, _, _, _, _, _, _, _, _, _, _, rfl, by simp [Value.oneCell']⟩
  exact ⟨rfl, _, res60 b5 _ rfl rfl rfl, hpost⟩
end Go.Proofs.YtobegepebochkaaGreatDoor

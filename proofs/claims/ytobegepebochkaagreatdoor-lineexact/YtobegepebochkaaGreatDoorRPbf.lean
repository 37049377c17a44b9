import Derived.Deep.CutRange
import Derived.Test.YtobegepebochkaaGreatDoorRYe
import Derived.Deep.RegionLaw
set_option linter.unusedVariables false
set_option linter.unusedSimpArgs false
set_option maxRecDepth 100000
set_option maxHeartbeats 16000000
namespace Go.Proofs.YtobegepebochkaaGreatDoor
open Go.RowKit Go.Maps
attribute [local go_sem] Oper.semAt_some
theorem own_lo {w : World} {B : Nat} {e : TypeId} {s : Nat} {v : Value} {n : Nat} {xs : List Value} (h : w.ownsRow B e s v n xs) {j : Nat} (hj : v.ownBlock = some j) : B <= j /\ j < w.heap.size := World.ownsRow.lt h j hj
theorem fin60b (w : World) (A A' : Array Value) : Box ((w.alloc (.cells A' 41)).alloc (.cells A 41)) 41 w.heap.size A' := Box.kept (Box.new w 41 A') (World.grownBy_alloc _ _ none) (by simp)
theorem hsz2 (w : World) (o o' : Obj) : ((w.alloc o).alloc o').heap.size = w.heap.size + 2 := by simp
def keyB (x : Bs) : Bool := plain x && decide (1 <= x.length) && decide (x.length <= 250)
theorem keyB_rt (c : Cmd) (x : Bs) (hne : x ≠ []) : rt1 c 75 x = if keyB x = true then .inl { c with keys := c.keys ++ [x] } else .inr badLine := by
  have h1 : 1 <= x.length := by cases x with | nil => exact absurd rfl hne | cons a l => simp
  simp [rt1, mpL, take1, keyB, h1]
  by_cases h : x.length <= 250 <;> by_cases h2 : plain x = true <;> simp [h, h2]
theorem word_K_yes {w : World} {B : Nat} {c : Cmd} {kv mv : Value} (h : Kw w B c kv mv) (hB : B <= w.heap.size) (hkl : c.keys.length <= 100000) (x : Bs) (hx : x.length <= 65536) (hne : x ≠ []) (hb : keyB x = true) :
    Calls Tryz.prog 60 #[.agg (cmA c kv mv), .int .u8 75, sv x] w fun e w' => WordP w B c kv mv 75 x e w' := by
  obtain ⟨ka, kc, hkv, _, _, _, _⟩ := row_shape h.k
  subst hkv
  obtain ⟨ma, mc, hmv, _, _, _, _⟩ := row_shape h.m
  subst hmv
  obtain ⟨b2, hg⟩ := fin60 w Z41 #[.int .i64 c.verb, .slice ka c.keys.length kc, .int .u64 c.flags, .int .i64 c.exp, .int .u64 c.tok, .int .u64 c.del, .slice none 0 0, .bool c.nr, .bool false, .slice ma c.mt.length mc, sv c.what]
  have b1 := fin60b w Z41 #[.int .i64 c.verb, .slice ka c.keys.length kc, .int .u64 c.flags, .int .i64 c.exp, .int .u64 c.tok, .int .u64 c.del, .slice none 0 0, .bool c.nr, .bool false, .slice ma c.mt.length mc, sv c.what]
  have hk := h.kept hg
  have hsz : w.heap.size + 2 <= ((w.alloc (.cells #[.int .i64 c.verb, .slice ka c.keys.length kc, .int .u64 c.flags, .int .i64 c.exp, .int .u64 c.tok, .int .u64 c.del, .slice none 0 0, .bool c.nr, .bool false, .slice ma c.mt.length mc, sv c.what] 41)).alloc (.cells Z41 41)).heap.size := by rw [hsz2]; exact Nat.le_refl _
  have er := keyB_rt c x hne
  rw [hb] at er
  have h97 := fun W => key_97 x (by omega) W
  have hb' : (plain x && decide (1 <= x.length) && decide (x.length <= 250)) = true := hb
  rw [hb'] at h97
  clear h hb hb'
  go_enter Tryz.func60, Tryz.ntmps60
  go_upto_region 8 with (fail)
  generalize (w.alloc (.cells #[.int .i64 c.verb, .slice ka c.keys.length kc, .int .u64 c.flags, .int .i64 c.exp, .int .u64 c.tok, .int .u64 c.del, .slice none 0 0, .bool c.nr, .bool false, .slice ma c.mt.length mc, sv c.what] 41)).alloc (.cells Z41 41) = X at *
  have hrow := hk.k
  have c1 : X.cell? ⟨w.heap.size, 1, none⟩ = some (.slice ka c.keys.length kc) := b1.cell 1
  go_wp2_with (first | (go_at_call 97; go_must ((with_reducible refine (h97 _).mono ?_); rintro e w6 ⟨rfl, hw6⟩; have hw7 := hw6.symm; subst hw7)) | (at_builtin; go_must (refine push9 rfl _ _ rfl B _ c.keys.length _ (by rfl) hrow ⟨x.toArray⟩ (by rfl) (by omega) (by omega) ?_)))
  intro g cap X3 hrow3 hg3 hat3
  have hne1 : ∀ k, (Value.slice ka c.keys.length kc).ownBlock = some k -> k ≠ w.heap.size /\ k ≠ w.heap.size + 1 := fun k hk2 => by
    obtain ⟨c0, hc0⟩ := row_block hrow k hk2
    exact ⟨fun e => ne_of_type hc0 b1 (by decide) e, fun e => ne_of_type hc0 b2 (by decide) e⟩
  have b13 := b1.kept hg3 (fun e => (hne1 _ e.symm).1 rfl)
  have b23 := b2.kept hg3 (fun e => (hne1 _ e.symm).2 rfl)
  have hm3 := row_kept hk.m hg3 (fun k hk2 e => by
    obtain ⟨c0, hc0⟩ := row_block hk.m k hk2
    obtain ⟨c3, hc3⟩ := row_block hrow k e.symm
    exact ne_of_type hc0 hc3 (by decide) rfl)
  have k3 : X3.cell? ⟨w.heap.size, 1, none⟩ = some (.slice ka c.keys.length kc) := b13.cell 1
  have z3 := b13.fz 1
  have b14 := b13.set 1 (.slice (some ⟨g, 0, none⟩) (c.keys.length + 1) cap)
  simp only [List.setIfInBounds_toArray, List.set_cons_zero, List.set_cons_succ] at b14
  have g34 : X3.grownBy (X3.setCell ⟨w.heap.size, 1, none⟩ (.slice (some ⟨g, 0, none⟩) (c.keys.length + 1) cap)) (some w.heap.size) := gb_setCell (gb_refl _ _) _
  have b24 := b23.kept g34 (fun e => by have := Option.some.inj e; omega)
  have hgb : B <= g := (own_lo hrow3 rfl).1
  have hg9 : g ≠ w.heap.size := by
    obtain ⟨c0, hc0⟩ := row_block hrow3 g rfl
    exact fun e => ne_of_type hc0 b13 (by decide) e
  have hr4 := row_kept hrow3 g34 (fun k hk2 e => by simp [Value.ownBlock] at hk2; have := Option.some.inj e; omega)
  have hm4 := row_kept hm3 g34 (fun k hk2 e => by
    obtain ⟨c0, hc0⟩ := row_block hm3 k hk2
    exact ne_of_type hc0 b13 (by decide) (Option.some.inj e))
  have hK4 : Kp (fun k => (Value.slice ka c.keys.length kc).ownBlock = some k \/ (Value.slice ma c.mt.length mc).ownBlock = some k) w (X3.setCell ⟨w.heap.size, 1, none⟩ (.slice (some ⟨g, 0, none⟩) (c.keys.length + 1) cap)) := ((Kp.of hg).step hg3 (fun k e => .inl (.inl e))).step g34 (fun k e => .inr (by have := Option.some.inj e; omega))
  clear hrow hrow3 hg3 hat3 b1 b2 b13 b23 hm3 hk c1 h97 hg g34
  go_upto_region 40 with (fail)
  clear k3 z3
  generalize X3.setCell ⟨w.heap.size, 1, none⟩ (.slice (some ⟨g, 0, none⟩) (c.keys.length + 1) cap) = X4 at *
  go_wp2_with (first
    | (refine atL 41 w.heap.size 0 rfl rfl ?_; go_must (refine load41 rfl _ rfl 41 w.heap.size 0 _ b14 rfl [.int .i64 c.verb, .slice (some ⟨g, 0, none⟩) (c.keys.length + 1) cap, .int .u64 c.flags, .int .i64 c.exp, .int .u64 c.tok, .int .u64 c.del, .slice none 0 0, .bool c.nr, .bool false, .slice ma c.mt.length mc, sv c.what] rfl (fun j v hv => by simpa using hv) ?_))
    | (refine atS 41 (w.heap.size + 1) 0 rfl rfl ?_; go_must (refine storeT 41 11 size41 rfl _ _ rfl 41 (w.heap.size + 1) 0 _ b24 (by simp) rfl _ rfl rfl (by simp [Value.oneCell']) ?_); intro X5 b5 g5))
  rw [show sets Z41 0 (#[Value.int .i64 c.verb, .slice (some ⟨g, 0, none⟩) (c.keys.length + 1) cap, .int .u64 c.flags, .int .i64 c.exp, .int .u64 c.tok, .int .u64 c.del, .slice none 0 0, .bool c.nr, .bool false, .slice ma c.mt.length mc, sv c.what] : Array Value).toList = #[.int .i64 c.verb, .slice (some ⟨g, 0, none⟩) (c.keys.length + 1) cap, .int .u64 c.flags, .int .i64 c.exp, .int .u64 c.tok, .int .u64 c.del, .slice none 0 0, .bool c.nr, .bool false, .slice ma c.mt.length mc, sv c.what] from sets_41 _ _ _ _ _ _ _ _ _ _ _ _ _ _ _ _ _ _ _ _ _ _] at b5
  have hK5 : Kp (fun k => (Value.slice ka c.keys.length kc).ownBlock = some k \/ (Value.slice ma c.mt.length mc).ownBlock = some k) w X5 := hK4.step g5 (fun k e => .inr (by have := Option.some.inj e; omega))
  have hpost : WordP w B c (.slice ka c.keys.length kc) (.slice ma c.mt.length mc) 75 x (.returned (.tuple #[.agg #[.int .i64 c.verb, .slice (some ⟨g, 0, none⟩) (c.keys.length + 1) cap, .int .u64 c.flags, .int .i64 c.exp, .int .u64 c.tok, .int .u64 c.del, .slice none 0 0, .bool c.nr, .bool false, .slice ma c.mt.length mc, sv c.what], .int .i64 (-1), sv []])) X5 := by
    refine ⟨hK5, ?_⟩
    rw [er]
    refine ⟨_, _, rfl, ⟨?_, row_kept hm4 g5 (fun k hk2 e => ?_)⟩⟩
    . have := row_kept hr4 g5 (fun k hk2 e => ?_)
      . simpa using this
      . obtain ⟨c0, hc0⟩ := row_block hr4 k hk2
        exact ne_of_type hc0 b24 (by decide) (Option.some.inj e)
    . obtain ⟨c0, hc0⟩ := row_block hm4 k hk2
      exact ne_of_type hc0 b24 (by decide) (Option.some.inj e)
  exact ⟨rfl, _, res60 b5 _ rfl rfl rfl, hpost⟩
theorem word_K_no {w : World} {B : Nat} {c : Cmd} {kv mv : Value} (h : Kw w B c kv mv) (hB : B <= w.heap.size) (hkl : c.keys.length <= 100000) (x : Bs) (hx : x.length <= 65536) (hne : x ≠ []) (hb : keyB x = false) :
    Calls Tryz.prog 60 #[.agg (cmA c kv mv), .int .u8 75, sv x] w fun e w' => WordP w B c kv mv 75 x e w' := by
  obtain ⟨ka, kc, hkv, _, _, _, _⟩ := row_shape h.k
  subst hkv
  obtain ⟨ma, mc, hmv, _, _, _, _⟩ := row_shape h.m
  subst hmv
  obtain ⟨b2, hg⟩ := fin60 w Z41 #[.int .i64 c.verb, .slice ka c.keys.length kc, .int .u64 c.flags, .int .i64 c.exp, .int .u64 c.tok, .int .u64 c.del, .slice none 0 0, .bool c.nr, .bool false, .slice ma c.mt.length mc, sv c.what]
  have b1 := fin60b w Z41 #[.int .i64 c.verb, .slice ka c.keys.length kc, .int .u64 c.flags, .int .i64 c.exp, .int .u64 c.tok, .int .u64 c.del, .slice none 0 0, .bool c.nr, .bool false, .slice ma c.mt.length mc, sv c.what]
  have hk := h.kept hg
  have hsz : w.heap.size + 2 <= ((w.alloc (.cells #[.int .i64 c.verb, .slice ka c.keys.length kc, .int .u64 c.flags, .int .i64 c.exp, .int .u64 c.tok, .int .u64 c.del, .slice none 0 0, .bool c.nr, .bool false, .slice ma c.mt.length mc, sv c.what] 41)).alloc (.cells Z41 41)).heap.size := by rw [hsz2]; exact Nat.le_refl _
  have er := keyB_rt c x hne
  rw [hb] at er
  have h97 := fun W => key_97 x (by omega) W
  have hb' : (plain x && decide (1 <= x.length) && decide (x.length <= 250)) = false := hb
  rw [hb'] at h97
  clear h hb hb'
  go_enter Tryz.func60, Tryz.ntmps60
  go_upto_region 8 with (fail)
  generalize (w.alloc (.cells #[.int .i64 c.verb, .slice ka c.keys.length kc, .int .u64 c.flags, .int .i64 c.exp, .int .u64 c.tok, .int .u64 c.del, .slice none 0 0, .bool c.nr, .bool false, .slice ma c.mt.length mc, sv c.what] 41)).alloc (.cells Z41 41) = X at *
  have hrow := hk.k
  have c1 : X.cell? ⟨w.heap.size, 1, none⟩ = some (.slice ka c.keys.length kc) := b1.cell 1
  go_wp2_with (first | (go_at_call 97; go_must ((with_reducible refine (h97 _).mono ?_); rintro e w6 ⟨rfl, hw6⟩; have hw7 := hw6.symm; subst hw7)) | (at_builtin; go_must (refine push9 rfl _ _ rfl B _ c.keys.length _ (by rfl) hrow ⟨x.toArray⟩ (by rfl) (by omega) (by omega) ?_)))
  intro g cap X3 hrow3 hg3 hat3
  have hne1 : ∀ k, (Value.slice ka c.keys.length kc).ownBlock = some k -> k ≠ w.heap.size /\ k ≠ w.heap.size + 1 := fun k hk2 => by
    obtain ⟨c0, hc0⟩ := row_block hrow k hk2
    exact ⟨fun e => ne_of_type hc0 b1 (by decide) e, fun e => ne_of_type hc0 b2 (by decide) e⟩
  have b13 := b1.kept hg3 (fun e => (hne1 _ e.symm).1 rfl)
  have b23 := b2.kept hg3 (fun e => (hne1 _ e.symm).2 rfl)
  have hm3 := row_kept hk.m hg3 (fun k hk2 e => by
    obtain ⟨c0, hc0⟩ := row_block hk.m k hk2
    obtain ⟨c3, hc3⟩ := row_block hrow k e.symm
    exact ne_of_type hc0 hc3 (by decide) rfl)
  have k3 : X3.cell? ⟨w.heap.size, 1, none⟩ = some (.slice ka c.keys.length kc) := b13.cell 1
  have z3 := b13.fz 1
  have b14 := b13.set 1 (.slice (some ⟨g, 0, none⟩) (c.keys.length + 1) cap)
  simp only [List.setIfInBounds_toArray, List.set_cons_zero, List.set_cons_succ] at b14
  have g34 : X3.grownBy (X3.setCell ⟨w.heap.size, 1, none⟩ (.slice (some ⟨g, 0, none⟩) (c.keys.length + 1) cap)) (some w.heap.size) := gb_setCell (gb_refl _ _) _
  have b24 := b23.kept g34 (fun e => by have := Option.some.inj e; omega)
  have hgb : B <= g := (own_lo hrow3 rfl).1
  have hg9 : g ≠ w.heap.size := by
    obtain ⟨c0, hc0⟩ := row_block hrow3 g rfl
    exact fun e => ne_of_type hc0 b13 (by decide) e
  have hr4 := row_kept hrow3 g34 (fun k hk2 e => by simp [Value.ownBlock] at hk2; have := Option.some.inj e; omega)
  have hm4 := row_kept hm3 g34 (fun k hk2 e => by
    obtain ⟨c0, hc0⟩ := row_block hm3 k hk2
    exact ne_of_type hc0 b13 (by decide) (Option.some.inj e))
  have hK4 : Kp (fun k => (Value.slice ka c.keys.length kc).ownBlock = some k \/ (Value.slice ma c.mt.length mc).ownBlock = some k) w (X3.setCell ⟨w.heap.size, 1, none⟩ (.slice (some ⟨g, 0, none⟩) (c.keys.length + 1) cap)) := ((Kp.of hg).step hg3 (fun k e => .inl (.inl e))).step g34 (fun k e => .inr (by have := Option.some.inj e; omega))
  clear hrow hrow3 hg3 hat3 b1 b2 b13 b23 hm3 hk c1 h97 hg g34
  go_upto_region 40 with (fail)
  clear k3 z3
  generalize X3.setCell ⟨w.heap.size, 1, none⟩ (.slice (some ⟨g, 0, none⟩) (c.keys.length + 1) cap) = X4 at *
  go_wp2_with (first
    | (refine atL 41 w.heap.size 0 rfl rfl ?_; go_must (refine load41 rfl _ rfl 41 w.heap.size 0 _ b14 rfl [.int .i64 c.verb, .slice (some ⟨g, 0, none⟩) (c.keys.length + 1) cap, .int .u64 c.flags, .int .i64 c.exp, .int .u64 c.tok, .int .u64 c.del, .slice none 0 0, .bool c.nr, .bool false, .slice ma c.mt.length mc, sv c.what] rfl (fun j v hv => by simpa using hv) ?_))
    | (refine atS 41 (w.heap.size + 1) 0 rfl rfl ?_; go_must (refine storeT 41 11 size41 rfl _ _ rfl 41 (w.heap.size + 1) 0 _ b24 (by simp) rfl _ rfl rfl (by simp [Value.oneCell']) ?_); intro X5 b5 g5))
  rw [show sets Z41 0 (#[Value.int .i64 c.verb, .slice (some ⟨g, 0, none⟩) (c.keys.length + 1) cap, .int .u64 c.flags, .int .i64 c.exp, .int .u64 c.tok, .int .u64 c.del, .slice none 0 0, .bool c.nr, .bool false, .slice ma c.mt.length mc, sv c.what] : Array Value).toList = #[.int .i64 c.verb, .slice (some ⟨g, 0, none⟩) (c.keys.length + 1) cap, .int .u64 c.flags, .int .i64 c.exp, .int .u64 c.tok, .int .u64 c.del, .slice none 0 0, .bool c.nr, .bool false, .slice ma c.mt.length mc, sv c.what] from sets_41 _ _ _ _ _ _ _ _ _ _ _ _ _ _ _ _ _ _ _ _ _ _] at b5
  have hK5 : Kp (fun k => (Value.slice ka c.keys.length kc).ownBlock = some k \/ (Value.slice ma c.mt.length mc).ownBlock = some k) w X5 := hK4.step g5 (fun k e => .inr (by have := Option.some.inj e; omega))
  have hpost : WordP w B c (.slice ka c.keys.length kc) (.slice ma c.mt.length mc) 75 x (.returned (.tuple #[.agg #[.int .i64 c.verb, .slice (some ⟨g, 0, none⟩) (c.keys.length + 1) cap, .int .u64 c.flags, .int .i64 c.exp, .int .u64 c.tok, .int .u64 c.del, .slice none 0 0, .bool c.nr, .bool false, .slice ma c.mt.length mc, sv c.what], .int .i64 (-1), sv badLine])) X5 := by
    refine ⟨hK5, ?_⟩
    rw [er]
    exact ⟨_, _, _, _, _, _, _, _, _, _, _, _, rfl, by simp [Value.oneCell']⟩
  exact ⟨rfl, _, res60 b5 _ rfl rfl rfl, hpost⟩
end Go.Proofs.YtobegepebochkaaGreatDoor
namespace Go.Proofs.YtobegepebochkaaGreatDoor
open Go.RowKit Go.Maps
attribute [local go_sem] Oper.semAt_some
theorem fcs_getY : ∀ {l : List Fl} {i : Nat} {f : Fl} (j : Nat), l[i]? = some f -> j < 3 -> (fcs l)[i * 3 + j]? = ([.int .u8 f.letter.toNat, sv f.arg, .bool f.has] : List Value)[j]?
  | [], _, _, _, h, _ => by cases h
  | x :: l, 0, f, j, h, hj => by
    simp at h; subst h
    simp only [fcs, List.flatMap_cons]
    rw [List.getElem?_append_left (by simp; omega)]
    simp
  | x :: l, i + 1, f, j, h, hj => by
    have h2 : l[i]? = some f := by simpa using h
    simp only [fcs, List.flatMap_cons]
    rw [List.getElem?_append_right (by simp; omega)]
    have := fcs_getY (l := l) j h2 hj
    simp only [fcs] at this
    rw [<- this]
    congr 1
    simp; omega
theorem fg_own {w : World} {B g n c : Nat} {fs : List Fl} (h : w.ownsRow B 79 3 (.slice (some ⟨g, 0, none⟩) n c) n (fcs fs)) (hn : n = fs.length) : Fg w (.slice (some ⟨g, 0, none⟩) n c) fs := by
  subst hn
  refine .inr ⟨g, 0, c, rfl, fun i f hi => ?_⟩
  rw [Nat.zero_add]
  exact ⟨row_cell h (i * 3 + 0) _ (fcs_getY 0 hi (by omega)), row_cell h (i * 3 + 1) _ (fcs_getY 1 hi (by omega)), row_cell h (i * 3 + 2) _ (fcs_getY 2 hi (by omega))⟩
theorem rt1_G (c : Cmd) (b : UInt8) (r : Bs) : rt1 c 71 (b :: r) = if flS c.verb [] (c.mt ++ [⟨b, r, decide (1 < r.length + 1)⟩]) = [] then .inl { c with mt := c.mt ++ [⟨b, r, decide (1 < r.length + 1)⟩] } else .inr (flS c.verb [] (c.mt ++ [⟨b, r, decide (1 < r.length + 1)⟩])) := by
  simp [rt1, mpL, take1]
theorem word_G {w : World} {B : Nat} {c : Cmd} {kv mv : Value} (h : Kw w B c kv mv) (hB : B <= w.heap.size) (hml : c.mt.length <= 100000) (hma : ∀ f ∈ c.mt, f.arg.length <= 65536) (x : Bs) (hx : x.length <= 65536) (hne : x ≠ []) :
    Calls Tryz.prog 60 #[.agg (cmA c kv mv), .int .u8 71, sv x] w fun e w' => WordP w B c kv mv 71 x e w' := by
  obtain ⟨ka, kc, hkv, _, _, _, _⟩ := row_shape h.k
  subst hkv
  obtain ⟨ma, mc, hmv, _, _, _, _⟩ := row_shape h.m
  subst hmv
  obtain ⟨b, t, rfl⟩ : ∃ b t, x = b :: t := by
    cases x with
    | nil => exact absurd rfl hne
    | cons b t => exact ⟨b, t, rfl⟩
  have er := rt1_G c b t
  obtain ⟨b2, hg⟩ := fin60 w Z41 #[.int .i64 c.verb, .slice ka c.keys.length kc, .int .u64 c.flags, .int .i64 c.exp, .int .u64 c.tok, .int .u64 c.del, .slice none 0 0, .bool c.nr, .bool false, .slice ma c.mt.length mc, sv c.what]
  have b1 := fin60b w Z41 #[.int .i64 c.verb, .slice ka c.keys.length kc, .int .u64 c.flags, .int .i64 c.exp, .int .u64 c.tok, .int .u64 c.del, .slice none 0 0, .bool c.nr, .bool false, .slice ma c.mt.length mc, sv c.what]
  have hk := h.kept hg
  have hsz : w.heap.size + 2 <= ((w.alloc (.cells #[.int .i64 c.verb, .slice ka c.keys.length kc, .int .u64 c.flags, .int .i64 c.exp, .int .u64 c.tok, .int .u64 c.del, .slice none 0 0, .bool c.nr, .bool false, .slice ma c.mt.length mc, sv c.what] 41)).alloc (.cells Z41 41)).heap.size := by rw [hsz2]; exact Nat.le_refl _
  have hg0 : ∀ h : 0 < (ByteArray.mk (b :: t).toArray).size, (ByteArray.mk (b :: t).toArray)[0] = b := fun _ => rfl
  have hlen : (1 : Int) <= (t.length : Int) + 1 := by omega
  have hst : (ByteArray.mk (b :: t).toArray).extract 1 (t.length + 1) = ⟨t.toArray⟩ := by
    apply ByteArray.ext
    simp [ByteArray.data_extract]
  obtain ⟨q, hq⟩ : ∃ q, decide ((1 : Int) < (t.length : Int) + 1) = q := ⟨_, rfl⟩
  have hD : decide (1 < t.length + 1) = q := by rw [<- hq]; apply decide_eq_decide.2; omega
  rw [hD] at er
  have HD : Hid (rt1 c 71 (b :: t) = _) := er
  have hma2 : ∀ f ∈ c.mt ++ [⟨b, t, q⟩], f.arg.length <= 4611686018427387904 := fun f hf => by
    rw [List.mem_append] at hf
    rcases hf with hf | hf
    . have := hma f hf; omega
    . simp at hf; subst hf; simp at hx ⊢; omega
  have hfc : fcs c.mt ++ [.int .u8 b.toNat, .string ⟨t.toArray⟩, .bool q] = fcs (c.mt ++ [⟨b, t, q⟩]) := by simp [fcs]
  clear h er hD hma
  go_enter Tryz.func60, Tryz.ntmps60
  go_upto_region 37 with (fail)
  generalize (w.alloc (.cells #[.int .i64 c.verb, .slice ka c.keys.length kc, .int .u64 c.flags, .int .i64 c.exp, .int .u64 c.tok, .int .u64 c.del, .slice none 0 0, .bool c.nr, .bool false, .slice ma c.mt.length mc, sv c.what] 41)).alloc (.cells Z41 41) = X at *
  have c9 : X.cell? ⟨w.heap.size, 9, none⟩ = some (.slice ma c.mt.length mc) := b1.cell 9
  have c9a := fun o => gb_cellN (World.grownBy_alloc X o none) c9
  obtain ⟨i0, hi0, hz0, hz1, hz2⟩ := info_parts Tryz.info79
  have HV : Hid (X.ownsRow B 79 3 (.slice ma c.mt.length mc) c.mt.length (fcs c.mt)) := hk.m
  have HB : Hid (Box X 41 w.heap.size #[.int .i64 c.verb, .slice ka c.keys.length kc, .int .u64 c.flags, .int .i64 c.exp, .int .u64 c.tok, .int .u64 c.del, .slice none 0 0, .bool c.nr, .bool false, .slice ma c.mt.length mc, sv c.what]) := b1
  have HB2 : Hid (Box X 41 (w.heap.size + 1) Z41) := b2
  have HK : Hid (X.ownsRow B 9 1 (.slice ka c.keys.length kc) c.keys.length (c.keys.map sv)) := hk.k
  have HG : Hid (w.grownBy X none) := hg
  clear hk b1 b2 hg
  go_region_law ((refine step_append_lies _ (by rfl) (.tmp 100) (.tmp 109) _ (by rfl) B 79 i0 _ 3 32 Tryz.underlying39 hi0 hz0 hz1 hz2 rfl (by omega) (.slice ma c.mt.length mc) c.mt.length _ (by rfl) (World.ownsRow.alloc (show World.ownsRow _ B 79 3 _ _ _ from HV.out) _) ⟨X.heap.size, 0, none⟩ 1 1 [.int .u8 b.toNat, .string ⟨t.toArray⟩, .bool q] (by rfl) (by rfl) (World.news_of_block (cs := #[.int .u8 b.toNat, .string ⟨t.toArray⟩, .bool q]) (t := 79) (fr := (0, 0)) (heap_alloc_new _ _)) (by simp [Value.oneCell']) (by omega) (by unfold maxLen; omega) (by omega) (by simp; omega) (X.heap.size + 1) (by simp) ?_; intro g cap X3 hrow3 hgr3 hat3 hlt3; have hg3 : X.grownBy X3 (Value.slice ma c.mt.length mc).ownBlock := gb_trans (by first | exact gb_drew (gb_alloc (gb_refl _ _) _) | exact gb_alloc (gb_drew (gb_refl _ _)) _ | exact gb_alloc (gb_refl _ _) _) hgr3; have b13 := HB.out.kept hg3 (fun e => (by obtain ⟨c0, hc0⟩ := row_block HV.out _ e.symm; exact ne_of_type hc0 HB.out (by decide) rfl)); have m9 : X3.cell? ⟨w.heap.size, 9, none⟩ = some (.slice ma c.mt.length mc) := b13.cell 9; have z9 : X3.frozen? ⟨w.heap.size, 9, none⟩ = false := b13.fz 9))
  all_goals
    rw [hfc] at hrow3
    have b23 := HB2.out.kept hg3 (fun e => by obtain ⟨c0, hc0⟩ := row_block HV.out _ e.symm; exact ne_of_type hc0 HB2.out (by decide) rfl)
    have hk3 := row_kept HK.out hg3 (fun k hk2 e => by
      obtain ⟨c0, hc0⟩ := row_block HK.out k hk2
      obtain ⟨c3, hc3⟩ := row_block HV.out k e.symm
      exact ne_of_type hc0 hc3 (by decide) rfl)
    have b14 := b13.set 9 (.slice (some ⟨g, 0, none⟩) (c.mt.length + 1) cap)
    simp only [List.setIfInBounds_toArray, List.set_cons_zero, List.set_cons_succ] at b14
    have g34 : X3.grownBy (X3.setCell ⟨w.heap.size, 9, none⟩ (.slice (some ⟨g, 0, none⟩) (c.mt.length + 1) cap)) (some w.heap.size) := gb_setCell (gb_refl _ _) _
    have b24 := b23.kept g34 (fun e => by have := Option.some.inj e; omega)
    have hm4 := row_kept hrow3 g34 (fun k hk2 e => by
      obtain ⟨c0, hc0⟩ := row_block hrow3 k hk2
      exact ne_of_type hc0 b13 (by decide) (Option.some.inj e))
    have hk4 := row_kept hk3 g34 (fun k hk2 e => by
      obtain ⟨c0, hc0⟩ := row_block hk3 k hk2
      exact ne_of_type hc0 b13 (by decide) (Option.some.inj e))
    have hK4 : Kp (fun k => (Value.slice ka c.keys.length kc).ownBlock = some k \/ (Value.slice ma c.mt.length mc).ownBlock = some k) w (X3.setCell ⟨w.heap.size, 9, none⟩ (.slice (some ⟨g, 0, none⟩) (c.mt.length + 1) cap)) := ((Kp.of HG.out).step hg3 (fun k e => .inl (.inr e))).step g34 (fun k e => .inr (by have := Option.some.inj e; omega))
    clear hrow3 hgr3 hat3 hg3 b13 b23 hk3 g34 HV HB HB2 HK HG c9 c9a hi0 hz0 hz1 hz2
    go_upto_region 38 with (fail)
    clear m9 z9
    generalize X3.setCell ⟨w.heap.size, 9, none⟩ (.slice (some ⟨g, 0, none⟩) (c.mt.length + 1) cap) = X4 at *
    have h38 := rflags_38 c.verb (.slice (some ⟨g, 0, none⟩) (c.mt.length + 1) cap) (c.mt ++ [⟨b, t, q⟩]) hma2 (by simp; omega) X4 (fg_own hm4 (by simp))
    have v0 : X4.cell? ⟨w.heap.size, 0, none⟩ = some (.int .i64 c.verb) := b14.cell 0
    have v9 : X4.cell? ⟨w.heap.size, 9, none⟩ = some (.slice (some ⟨g, 0, none⟩) (c.mt.length + 1) cap) := b14.cell 9
    obtain ⟨FF, hFF⟩ : ∃ FF, flS c.verb [] (c.mt ++ [⟨b, t, q⟩]) = FF := ⟨_, rfl⟩
    have er := HD.out
    rw [hFF] at h38 er
    have HE : Hid (rt1 c 71 (b :: t) = _) := er
    have HM : Hid (X4.ownsRow B 79 3 (.slice (some ⟨g, 0, none⟩) (c.mt.length + 1) cap) (c.mt.length + 1) (fcs (c.mt ++ [⟨b, t, q⟩]))) := hm4
    clear er HD hFF hma2 hfc hm4
    go_upto_region 39 with (go_at_call 38; go_must ((with_reducible refine h38.mono ?_); rintro e X5 ⟨rfl, hg5⟩))
    have b15 := b14.kept hg5 (by simp)
    have b25 := b24.kept hg5 (by simp)
    have hm5 := row_kept HM.out hg5 (by simp)
    have hk5 := row_kept hk4 hg5 (by simp)
    have hK5 : Kp (fun k => (Value.slice ka c.keys.length kc).ownBlock = some k \/ (Value.slice ma c.mt.length mc).ownBlock = some k) w X5 := hK4.step hg5 (by simp)
    clear h38 v0 v9 b14 b24 HM hk4 hK4 hg5
    by_cases hF : FF = []
    . subst hF
      have er := HE.out
      rw [if_pos rfl] at er
      have HE2 : Hid (rt1 c 71 (b :: t) = _) := er
      have H5 : Hid _ := And.intro hm5 (And.intro hk5 hK5)
      clear er HE hm5 hk5 hK5
      go_wp2_with (first
        | (refine atL 41 w.heap.size 0 rfl rfl ?_; go_must (refine load41 rfl _ rfl 41 w.heap.size 0 _ b15 rfl [.int .i64 c.verb, .slice ka c.keys.length kc, .int .u64 c.flags, .int .i64 c.exp, .int .u64 c.tok, .int .u64 c.del, .slice none 0 0, .bool c.nr, .bool false, .slice (some ⟨g, 0, none⟩) (c.mt.length + 1) cap, sv c.what] rfl (fun j v hv => by simpa using hv) ?_))
        | (refine atS 41 (w.heap.size + 1) 0 rfl rfl ?_; go_must (refine storeT 41 11 size41 rfl _ _ rfl 41 (w.heap.size + 1) 0 _ b25 (by simp) rfl _ rfl rfl (by simp [Value.oneCell']) ?_); intro X6 b6 g6))
      rw [show sets Z41 0 (#[Value.int .i64 c.verb, .slice ka c.keys.length kc, .int .u64 c.flags, .int .i64 c.exp, .int .u64 c.tok, .int .u64 c.del, .slice none 0 0, .bool c.nr, .bool false, .slice (some ⟨g, 0, none⟩) (c.mt.length + 1) cap, sv c.what] : Array Value).toList = #[.int .i64 c.verb, .slice ka c.keys.length kc, .int .u64 c.flags, .int .i64 c.exp, .int .u64 c.tok, .int .u64 c.del, .slice none 0 0, .bool c.nr, .bool false, .slice (some ⟨g, 0, none⟩) (c.mt.length + 1) cap, sv c.what] from sets_41 _ _ _ _ _ _ _ _ _ _ _ _ _ _ _ _ _ _ _ _ _ _] at b6
      obtain ⟨hm5, hk5, hK5⟩ := H5.out
      have hK6 : Kp (fun k => (Value.slice ka c.keys.length kc).ownBlock = some k \/ (Value.slice ma c.mt.length mc).ownBlock = some k) w X6 := hK5.step g6 (fun k e => .inr (by have := Option.some.inj e; omega))
      have hpost : WordP w B c (.slice ka c.keys.length kc) (.slice ma c.mt.length mc) 71 (b :: t) (.returned (.tuple #[.agg #[.int .i64 c.verb, .slice ka c.keys.length kc, .int .u64 c.flags, .int .i64 c.exp, .int .u64 c.tok, .int .u64 c.del, .slice none 0 0, .bool c.nr, .bool false, .slice (some ⟨g, 0, none⟩) (c.mt.length + 1) cap, sv c.what], .int .i64 (-1), sv []])) X6 := by
        refine ⟨hK6, ?_⟩
        rw [HE2.out]
        refine ⟨_, _, rfl, ⟨row_kept hk5 g6 (fun k hk2 e => ?_), ?_⟩⟩
        . obtain ⟨c0, hc0⟩ := row_block hk5 k hk2
          exact ne_of_type hc0 b25 (by decide) (Option.some.inj e)
        . have := row_kept hm5 g6 (fun k hk2 e => ?_)
          . simpa using this
          . obtain ⟨c0, hc0⟩ := row_block hm5 k hk2
            exact ne_of_type hc0 b25 (by decide) (Option.some.inj e)
      exact ⟨rfl, _, res60 b6 _ rfl rfl rfl, hpost⟩
    . have er := HE.out
      rw [if_neg hF] at er
      have HE2 : Hid (rt1 c 71 (b :: t) = _) := er
      have hFb : (FF == []) = false := by simpa using hF
      clear er HE hm5 hk5
      go_wp2_with (first
        | (refine atL 41 w.heap.size 0 rfl rfl ?_; go_must (refine load41 rfl _ rfl 41 w.heap.size 0 _ b15 rfl [.int .i64 c.verb, .slice ka c.keys.length kc, .int .u64 c.flags, .int .i64 c.exp, .int .u64 c.tok, .int .u64 c.del, .slice none 0 0, .bool c.nr, .bool false, .slice (some ⟨g, 0, none⟩) (c.mt.length + 1) cap, sv c.what] rfl (fun j v hv => by simpa using hv) ?_))
        | (refine atS 41 (w.heap.size + 1) 0 rfl rfl ?_; go_must (refine storeT 41 11 size41 rfl _ _ rfl 41 (w.heap.size + 1) 0 _ b25 (by simp) rfl _ rfl rfl (by simp [Value.oneCell']) ?_); intro X6 b6 g6))
      rw [show sets Z41 0 (#[Value.int .i64 c.verb, .slice ka c.keys.length kc, .int .u64 c.flags, .int .i64 c.exp, .int .u64 c.tok, .int .u64 c.del, .slice none 0 0, .bool c.nr, .bool false, .slice (some ⟨g, 0, none⟩) (c.mt.length + 1) cap, sv c.what] : Array Value).toList = #[.int .i64 c.verb, .slice ka c.keys.length kc, .int .u64 c.flags, .int .i64 c.exp, .int .u64 c.tok, .int .u64 c.del, .slice none 0 0, .bool c.nr, .bool false, .slice (some ⟨g, 0, none⟩) (c.mt.length + 1) cap, sv c.what] from sets_41 _ _ _ _ _ _ _ _ _ _ _ _ _ _ _ _ _ _ _ _ _ _] at b6
      have hK6 : Kp (fun k => (Value.slice ka c.keys.length kc).ownBlock = some k \/ (Value.slice ma c.mt.length mc).ownBlock = some k) w X6 := hK5.step g6 (fun k e => .inr (by have := Option.some.inj e; omega))
      have hpost : WordP w B c (.slice ka c.keys.length kc) (.slice ma c.mt.length mc) 71 (b :: t) (.returned (.tuple #[.agg #[.int .i64 c.verb, .slice ka c.keys.length kc, .int .u64 c.flags, .int .i64 c.exp, .int .u64 c.tok, .int .u64 c.del, .slice none 0 0, .bool c.nr, .bool false, .slice (some ⟨g, 0, none⟩) (c.mt.length + 1) cap, sv c.what], .int .i64 (-1), sv FF])) X6 := by
        refine ⟨hK6, ?_⟩
        rw [HE2.out]
        exact ⟨_, _, _, _, _, _, _, _, _, _, _, _, rfl, by simp [Value.oneCell']⟩
      exact ⟨rfl, _, res60 b6 _ rfl rfl rfl, hpost⟩
end Go.Proofs.YtobegepebochkaaGreatDoor

import Derived.Deep.RegionLaw
import Derived.Test.YtobegepebochkaaGreatDoorRYf
set_option linter.unusedVariables false
set_option linter.unusedSimpArgs false
set_option maxRecDepth 100000
set_option maxHeartbeats 16000000
namespace Go.Proofs.YtobegepebochkaaGreatDoor
open Go.RowKit Go.Maps
attribute [local go_sem] Oper.semAt_some
theorem fcs_getY : ∀ {l : List Fl} {i : Nat} {f : Fl} (j : Nat), l[i]? = some f -> j < 3 -> (fcs l)[i * 3 + j]? = ([.int .u8 f.letter.toNat, sv f.arg, .bool f.has] : List Value)[j]?
  | [], _, _, _, h, _ => by cases h
  | x :: l, 0, f, j, h, hj => by
    simp at h; subst h
    simp only [fcs, List.flatMap_cons]
    rw [List.getElem?_append_left (by simp; omega)]
    simp
  | x :: l, i + 1, f, j, h, hj => by
    have h2 : l[i]? = some f := by simpa using h
    simp only [fcs, List.flatMap_cons]
    rw [List.getElem?_append_right (by simp; omega)]
    have := fcs_getY (l := l) j h2 hj
    simp only [fcs] at this
    rw [<- this]
    congr 1
    simp; omega
theorem fg_own {w : World} {B g n c : Nat} {fs : List Fl} (h : w.ownsRow B 79 3 (.slice (some ⟨g, 0, none⟩) n c) n (fcs fs)) (hn : n = fs.length) : Fg w (.slice (some ⟨g, 0, none⟩) n c) fs := by
  subst hn
  refine .inr ⟨g, 0, c, rfl, fun i f hi => ?_⟩
  rw [Nat.zero_add]
  exact ⟨row_cell h (i * 3 + 0) _ (fcs_getY 0 hi (by omega)), row_cell h (i * 3 + 1) _ (fcs_getY 1 hi (by omega)), row_cell h (i * 3 + 2) _ (fcs_getY 2 hi (by omega))⟩
theorem rt1_G (c : Cmd) (b : UInt8) (r : Bs) : rt1 c 71 (b :: r) = if flS c.verb [] (c.mt ++ [⟨b, r, decide (1 < r.length + 1)⟩]) = [] then .inl { c with mt := c.mt ++ [⟨b, r, decide (1 < r.length + 1)⟩] } else .inr (flS c.verb [] (c.mt ++ [⟨b, r, decide (1 < r.length + 1)⟩])) := by
  simp [rt1, mpL, take1]
theorem word_G {w : World} {B : Nat} {c : Cmd} {kv mv : Value} (h : Kw w B c kv mv) (hB : B <= w.heap.size) (hml : c.mt.length <= 100000) (hma : ∀ f ∈ c.mt, f.arg.length <= 65536) (x : Bs) (hx : x.length <= 65536) (hne : x ≠ []) :
    Calls Tryz.prog 60 #[.agg (cmA c kv mv), .int .u8 71, sv x] w fun e w' => WordP w B c kv mv 71 x e w' := by
  obtain ⟨ka, kc, hkv, _, _, _, _⟩ := row_shape h.k
  subst hkv
  obtain ⟨ma, mc, hmv, _, _, _, _⟩ := row_shape h.m
  subst hmv
  obtain ⟨b, t, rfl⟩ : ∃ b t, x = b :: t := by
    cases x with
    | nil => exact absurd rfl hne
    | cons b t => exact ⟨b, t, rfl⟩
  have er := rt1_G c b t
  obtain ⟨b2, hg⟩ := fin60 w Z41 #[.int .i64 c.verb, .slice ka c.keys.length kc, .int .u64 c.flags, .int .i64 c.exp, .int .u64 c.tok, .int .u64 c.del, .slice none 0 0, .bool c.nr, .bool false, .slice ma c.mt.length mc, sv c.what]
  have b1 := fin60b w Z41 #[.int .i64 c.verb, .slice ka c.keys.length kc, .int .u64 c.flags, .int .i64 c.exp, .int .u64 c.tok, .int .u64 c.del, .slice none 0 0, .bool c.nr, .bool false, .slice ma c.mt.length mc, sv c.what]
  have hk := h.kept hg
  have hsz : w.heap.size + 2 <= ((w.alloc (.cells #[.int .i64 c.verb, .slice ka c.keys.length kc, .int .u64 c.flags, .int .i64 c.exp, .int .u64 c.tok, .int .u64 c.del, .slice none 0 0, .bool c.nr, .bool false, .slice ma c.mt.length mc, sv c.what] 41)).alloc (.cells Z41 41)).heap.size := by rw [hsz2]; exact Nat.le_refl _
  have hg0 : ∀ h : 0 < (ByteArray.mk (b :: t).toArray).size, (ByteArray.mk (b :: t).toArray)[0] = b := fun _ => rfl
  have hlen : (1 : Int) <= (t.length : Int) + 1 := by omega
  have hst : (ByteArray.mk (b :: t).toArray).extract 1 (t.length + 1) = ⟨t.toArray⟩ := by
    apply ByteArray.ext
    simp [ByteArray.data_extract]
  obtain ⟨q, hq⟩ : ∃ q, decide ((1 : Int) < (t.length : Int) + 1) = q := ⟨_, rfl⟩
  have hD : decide (1 < t.length + 1) = q := by rw [<- hq]; apply decide_eq_decide.2; omega
  rw [hD] at er
  have HD : Hid (rt1 c 71 (b :: t) = _) := er
  have hma2 : ∀ f ∈ c.mt ++ [⟨b, t, q⟩], f.arg.length <= 4611686018427387904 := fun f hf => by
    rw [List.mem_append] at hf
    rcases hf with hf | hf
    . have := hma f hf; omega
    . simp at hf; subst hf; simp at hx ⊢; omega
  have hfc : fcs c.mt ++ [.int .u8 b.toNat, .string ⟨t.toArray⟩, .bool q] = fcs (c.mt ++ [⟨b, t, q⟩]) := by simp [fcs]
  clear h er hD hma
  go_enter Tryz.func60, Tryz.ntmps60
  go_upto_region 37 with (fail)
  generalize (w.alloc (.cells #[.int .i64 c.verb, .slice ka c.keys.length kc, .int .u64 c.flags, .int .i64 c.exp, .int .u64 c.tok, .int .u64 c.del, .slice none 0 0, .bool c.nr, .bool false, .slice ma c.mt.length mc, sv c.what] 41)).alloc (.cells Z41 41) = X at *
  have c9 : X.cell? ⟨w.heap.size, 9, none⟩ = some (.slice ma c.mt.length mc) := b1.cell 9
  have c9a := fun o => gb_cellN (World.grownBy_alloc X o none) c9
  obtain ⟨i0, hi0, hz0, hz1, hz2⟩ := info_parts Tryz.info79
  have HV : Hid (X.ownsRow B 79 3 (.slice ma c.mt.length mc) c.mt.length (fcs c.mt)) := hk.m
  have HB : Hid (Box X 41 w.heap.size #[.int .i64 c.verb, .slice ka c.keys.length kc, .int .u64 c.flags, .int .i64 c.exp, .int .u64 c.tok, .int .u64 c.del, .slice none 0 0, .bool c.nr, .bool false, .slice ma c.mt.length mc, sv c.what]) := b1
  have HB2 : Hid (Box X 41 (w.heap.size + 1) Z41) := b2
  have HK : Hid (X.ownsRow B 9 1 (.slice ka c.keys.length kc) c.keys.length (c.keys.map sv)) := hk.k
  have HG : Hid (w.grownBy X none) := hg
  clear hk b1 b2 hg
  go_region_law ((refine step_append_lies _ (by rfl) (.tmp 100) (.tmp 109) _ (by rfl) B 79 i0 _ 3 32 Tryz.underlying39 hi0 hz0 hz1 hz2 rfl (by omega) (.slice ma c.mt.length mc) c.mt.length _ (by rfl) (World.ownsRow.alloc (show World.ownsRow _ B 79 3 _ _ _ from HV.out) _) ⟨X.heap.size, 0, none⟩ 1 1 [.int .u8 b.toNat, .string ⟨t.toArray⟩, .bool q] (by rfl) (by rfl) (World.news_of_block (cs := #[.int .u8 b.toNat, .string ⟨t.toArray⟩, .bool q]) (t := 79) (fr := (0, 0)) (heap_alloc_new _ _)) (by simp [Value.oneCell']) (by omega) (by unfold maxLen; omega) (by omega) (by simp; omega) (X.heap.size + 1) (by simp) ?_; intro g cap X3 hrow3 hgr3 hat3 hlt3; have hg3 : X.grownBy X3 (Value.slice ma c.mt.length mc).ownBlock := gb_trans (by first | exact gb_drew (gb_alloc (gb_refl _ _) _) | exact gb_alloc (gb_drew (gb_refl _ _)) _ | exact gb_alloc (gb_refl _ _) _) hgr3; have b13 := HB.out.kept hg3 (fun e => (by obtain ⟨c0, hc0⟩ := row_block HV.out _ e.symm; exact ne_of_type hc0 HB.out (by decide) rfl)); have m9 : X3.cell? ⟨w.heap.size, 9, none⟩ = some (.slice ma c.mt.length mc) := b13.cell 9; have z9 : X3.frozen? ⟨w.heap.size, 9, none⟩ = false := b13.fz 9))
  all_goals
    rw [hfc] at hrow3
    have b23 := HB2.out.kept hg3 (fun e => by obtain ⟨c0, hc0⟩ := row_block HV.out _ e.symm; exact ne_of_type hc0 HB2.out (by decide) rfl)
    have hk3 := row_kept HK.out hg3 (fun k hk2 e => by
      obtain ⟨c0, hc0⟩ := row_block HK.out k hk2
      obtain ⟨c3, hc3⟩ := row_block HV.out k e.symm
      exact ne_of_type hc0 hc3 (by decide) rfl)
    have b14 := b13.set 9 (.slice (some ⟨g, 0, none⟩) (c.mt.length + 1) cap)
    simp only [List.setIfInBounds_toArray, List.set_cons_zero, List.set_cons_succ] at b14
    have g34 : X3.grownBy (X3.setCell ⟨w.heap.size, 9, none⟩ (.slice (some ⟨g, 0, none⟩) (c.mt.length + 1) cap)) (some w.heap.size) := gb_setCell (gb_refl _ _) _
    have b24 := b23.kept g34 (fun e => by have := Option.some.inj e; omega)
    have hm4 := row_kept hrow3 g34 (fun k hk2 e => by
      obtain ⟨c0, hc0⟩ := row_block hrow3 k hk2
      exact ne_of_type hc0 b13 (by decide) (Option.some.inj e))
    have hk4 := row_kept hk3 g34 (fun k hk2 e => by
      obtain ⟨c0, hc0⟩ := row_block hk3 k hk2
      exact ne_of_type hc0 b13 (by decide) (Option.some.inj e))
    have hK4 : Kp (fun k => (Value.slice ka c.keys.length kc).ownBlock = some k \/ (Value.slice ma c.mt.length mc).ownBlock = some k) w (X3.setCell ⟨w.heap.size, 9, none⟩ (.slice (some ⟨g, 0, none⟩) (c.mt.length + 1) cap)) := ((Kp.of HG.out).step hg3 (fun k e => .inl (.inr e))).step g34 (fun k e => .inr (by have := Option.some.inj e; omega))
    clear hrow3 hgr3 hat3 hg3 b13 b23 hk3 g34 HV HB HB2 HK HG c9 c9a hi0 hz0 hz1 hz2
    go_upto_region 38 with (fail)
    clear m9 z9
    generalize X3.setCell ⟨w.heap.size, 9, none⟩ (.slice (some ⟨g, 0, none⟩) (c.mt.length + 1) cap) = X4 at *
    have h38 := rflags_38 c.verb (.slice (some ⟨g, 0, none⟩) (c.mt.length + 1) cap) (c.mt ++ [⟨b, t, q⟩]) hma2 (by simp; omega) X4 (fg_own hm4 (by simp))
    have v0 : X4.cell? ⟨w.heap.size, 0, none⟩ = some (.int .i64 c.verb) := b14.cell 0
    have v9 : X4.cell? ⟨w.heap.size, 9, none⟩ = some (.slice (some ⟨g, 0, none⟩) (c.mt.length + 1) cap) := b14.cell 9
    obtain ⟨FF, hFF⟩ : ∃ FF, flS c.verb [] (c.mt ++ [⟨b, t, q⟩]) = FF := ⟨_, rfl⟩
    have er := HD.out
    rw [hFF] at h38 er
    have HE : Hid (rt1 c 71 (b :: t) = _) := er
    have HM : Hid (X4.ownsRow B 79 3 (.slice (some ⟨g, 0, none⟩) (c.mt.length + 1) cap) (c.mt.length + 1) (fcs (c.mt ++ [⟨b, t, q⟩]))) := hm4
    clear er HD hFF hma2 hfc hm4
    go_upto_region 39 with (go_at_call 38; go_must ((with_reducible refine h38.mono ?_); rintro e X5 ⟨rfl, hg5⟩))
    have b15 := b14.kept hg5 (by simp)
    have b25 := b24.kept hg5 (by simp)
    have hm5 := row_kept HM.out hg5 (by simp)
    have hk5 := row_kept hk4 hg5 (by simp)
    have hK5 : Kp (fun k => (Value.slice ka c.keys.length kc).ownBlock = some k \/ (Value.slice ma c.mt.length mc).ownBlock = some k) w X5 := hK4.step hg5 (by simp)
    clear h38 v0 v9 b14 b24 HM hk4 hK4 hg5
    by_cases hF : FF = []
    . subst hF
      have er := HE.out
      rw [if_pos rfl] at er
      have HE2 : Hid (rt1 c 71 (b :: t) = _) := er
      have H5 : Hid _ := And.intro hm5 (And.intro hk5 hK5)
      clear er HE hm5 hk5 hK5
      go_wp2_with (first
        | (refine atL 41 w.heap.size 0 rfl rfl ?_; go_must (refine load41 rfl _ rfl 41 w.heap.size 0 _ b15 rfl [.int .i64 c.verb, .slice ka c.keys.length kc, .int .u64 c.flags, .int .i64 c.exp, .int .u64 c.tok, .int .u64 c.del, .slice none 0 0, .bool c.nr, .bool false, .slice (some ⟨g, 0, none⟩) (c.mt.length + 1) cap, sv c.what] rfl (fun j v hv => by simpa using hv) ?_))
        | (refine atS 41 (w.heap.size + 1) 0 rfl rfl ?_; go_must (refine storeT 41 11 size41 rfl _ _ rfl 41 (w.heap.size + 1) 0 _ b25 (by simp) rfl _ rfl rfl (by simp [Value.oneCell']) ?_); intro X6 b6 g6))
      rw [show sets Z41 0 (#[Value.int .i64 c.verb, .slice ka c.keys.length kc, .int .u64 c.flags, .int .i64 c.exp, .int .u64 c.tok, .int .u64 c.del, .slice none 0 0, .bool c.nr, .bool false, .slice (some ⟨g, 0, none⟩) (c.mt.length + 1) cap, sv c.what] : Array Value).toList = #[.int .i64 c.verb, .slice ka c.keys.length kc, .int .u64 c.flags, .int .i64 c.exp, .int .u64 c.tok, .int .u64 c.del, .slice none 0 0, .bool c.nr, .bool false, .slice (some ⟨g, 0, none⟩) (c.mt.length + 1) cap, sv c.what] from sets_41 _ _ _ _ _ _ _ _ _ _ _ _ _ _ _ _ _ _ _ _ _ _] at b6
      obtain ⟨hm5, hk5, hK5⟩ := H5.out
      have hK6 : Kp (fun k => (Value.slice ka c.keys.length kc).ownBlock = some k \/ (Value.slice ma c.mt.length mc).ownBlock = some k) w X6 := hK5.step g6 (fun k e => .inr (by have := Option.some.inj e; omega))
      have hpost : WordP w B c (.slice ka c.keys.length kc) (.slice ma c.mt.length mc) 71 (b :: t) (.returned (.tuple #[.agg #[.int .i64 c.verb, .slice ka c.keys.length kc, .int .u64 c.flags, .int .i64 c.exp, .int .u64 c.tok, .int .u64 c.del, .slice none 0 0, .bool c.nr, .bool false, .slice (some ⟨g, 0, none⟩) (c.mt.length + 1) cap, sv c.what], .int .i64 (-1), sv []])) X6 := by
        refine ⟨hK6, ?_⟩
        rw [HE2.out]
        refine ⟨_, _, rfl, ⟨row_kept hk5 g6 (fun k hk2 e => ?_), ?_⟩⟩
        . obtain ⟨c0, hc0⟩ := row_block hk5 k hk2
          exact ne_of_type hc0 b25 (by decide) (Option.some.inj e)
        . have := row_kept hm5 g6 (fun k hk2 e => ?_)
          . simpa using this
          . obtain ⟨c0, hc0⟩ := row_block hm5 k hk2
            exact ne_of_type hc0 b25 (by decide) (Option.some.inj e)
      exact ⟨rfl, _, res60 b6 _ rfl rfl rfl, hpost⟩
    . have er := HE.out
      rw [if_neg hF] at er
      have HE2 : Hid (rt1 c 71 (b :: t) = _) := er
      have hFb : (FF == []) = false := by simpa using hF
      clear er HE hm5 hk5
      go_wp2_with (first
        | (refine atL 41 w.heap.size 0 rfl rfl ?_; go_must (refine load41 rfl _ rfl 41 w.heap.size 0 _ b15 rfl [.int .i64 c.verb, .slice ka c.keys.length kc, .int .u64 c.flags, .int .i64 c.exp, .int .u64 c.tok, .int .u64 c.del, .slice none 0 0, .bool c.nr, .bool false, .slice (some ⟨g, 0, none⟩) (c.mt.length + 1) cap, sv c.what] rfl (fun j v hv => by simpa using hv) ?_))
        | (refine atS 41 (w.heap.size + 1) 0 rfl rfl ?_; go_must (refine storeT 41 11 size41 rfl _ _ rfl 41 (w.heap.size + 1) 0 _ b25 (by simp) rfl _ rfl rfl (by simp [Value.oneCell']) ?_); intro X6 b6 g6))
      rw [show sets Z41 0 (#[Value.int .i64 c.verb, .slice ka c.keys.length kc, .int .u64 c.flags, .int .i64 c.exp, .int .u64 c.tok, .int .u64 c.del, .slice none 0 0, .bool c.nr, .bool false, .slice (some ⟨g, 0, none⟩) (c.mt.length + 1) cap, sv c.what] : Array Value).toList = #[.int .i64 c.verb, .slice ka c.keys.length kc, .int .u64 c.flags, .int .i64 c.exp, .int .u64 c.tok, .int .u64 c.del, .slice none 0 0, .bool c.nr, .bool false, .slice (some ⟨g, 0, none⟩) (c.mt.length + 1) cap, sv c.what] from sets_41 _ _ _ _ _ _ _ _ _ _ _ _ _ _ _ _ _ _ _ _ _ _] at b6
      have hK6 : Kp (fun k => (Value.slice ka c.keys.length kc).ownBlock = some k \/ (Value.slice ma c.mt.length mc).ownBlock = some k) w X6 := hK5.step g6 (fun k e => .inr (by have := Option.some.inj e; omega))
      have hpost : WordP w B c (.slice ka c.keys.length kc) (.slice ma c.mt.length mc) 71 (b :: t) (.returned (.tuple #[.agg #[.int .i64 c.verb, .slice ka c.keys.length kc, .int .u64 c.flags, .int .i64 c.exp, .int .u64 c.tok, .int .u64 c.del, .slice none 0 0, .bool c.nr, .bool false, .slice (some ⟨g, 0, none⟩) (c.mt.length + 1) cap, sv c.what], .int .i64 (-1), sv FF])) X6 := by
        refine ⟨hK6, ?_⟩
        rw [HE2.out]
        exact ⟨_, _, _, _, _, _, _, _, _, _, _, _, rfl, by simp [Value.oneCell']⟩
      exact ⟨rfl, _, res60 b6 _ rfl rfl rfl, hpost⟩
end Go.Proofs.YtobegepebochkaaGreatDoor
namespace Go.Proofs.YtobegepebochkaaGreatDoor
open Go.RowKit Go.Maps
abbrev lOk (a : UInt8) : Prop := a = 75 \/ a = 70 \/ a = 84 \/ a = 78 \/ a = 67 \/ a = 68 \/ a = 90 \/ a = 83 \/ a = 86 \/ a = 87 \/ a = 71
theorem word_60 {w : World} {B : Nat} {c : Cmd} {kv mv : Value} (h : Kw w B c kv mv) (hB : B <= w.heap.size) (hkl : c.keys.length <= 100000) (hml : c.mt.length <= 100000) (hma : ∀ f ∈ c.mt, f.arg.length <= 65536) (a : UInt8) (ha : lOk a) (x : Bs) (hx : x.length <= 65536) (hne : x ≠ []) :
    Calls Tryz.prog 60 #[.agg (cmA c kv mv), .int .u8 a.toNat, sv x] w fun e w' => WordP w B c kv mv a x e w' := by
  rcases ha with rfl | rfl | rfl | rfl | rfl | rfl | rfl | rfl | rfl | rfl | rfl
  . cases hb : keyB x
    . exact word_K_no h hB hkl x hx hne hb
    . exact word_K_yes h hB hkl x hx hne hb
  . cases hn : nb 4294967295 x with
    | none => exact word_F_no h x hx hn
    | some n => exact word_F_yes h x hx n hn
  . cases hn : tm x with
    | none => exact word_T_no h x hx hn
    | some n => exact word_T_yes h x hx n hn
  . cases hn : nb 2147483647 x with
    | none => exact word_N_no h x hx hn
    | some n => exact word_N_yes h x hx n hn
  . cases hn : nb 18446744073709551615 x with
    | none => exact word_C_no h x hx hn
    | some n => exact word_C_yes h x hx n hn
  . cases hn : nb 18446744073709551615 x with
    | none => exact word_D_no h x hx hn
    | some n => exact word_D_yes h x hx n hn
  . by_cases hn : x = [48]
    . exact word_Z_yes h x hx hn
    . exact word_Z_no h x hx hn
  . cases hn : tm x with
    | none => exact word_S_no h x hx hn
    | some n =>
      by_cases ht : 0 <= n
      . exact word_S_yes h x hx n hn ht
      . exact word_S_low h x hx n hn ht
  . cases hn : nb 2147483647 x with
    | none => exact word_V_no h x hx hn
    | some n => exact word_V_yes h x hx n hn
  . by_cases hn : x = reset
    . exact word_W_yes h x hx hn
    . exact word_W_no h x hx hn
  . exact word_G h hB hml hma x hx hne
def dlt (sh : Bs) (i : Nat) : UInt8 := sh.getD (min i (sh.length - 1)) 0
def rtL (sh : Bs) : Nat -> Cmd -> Int -> List Bs -> (Cmd × Int) ⊕ Bs
  | _, c, n, [] => .inl (c, n)
  | i, c, n, x :: t => match rt1 c (dlt sh i) x with
    | .inl d => rtL sh (i + 1) d (if 0 <= blk (dlt sh i) x then blk (dlt sh i) x else n) t
    | .inr e => .inr e
def dqt (r : Dr) (ws : List Bs) : Bool := r.reply && (decide (r.least + 1 <= ws.length) && decide (ws.getLast? = some noreply))
def dread (i : Nat) (ws : List Bs) : (Cmd × Int) ⊕ (Int × Bs × Int) :=
  let vs := if dqt (dr i) ws then ws.dropLast else ws
  if vs.length < (dr i).least \/ ((dr i).shape.length < vs.length /\ (dr i).again = false) then .inr (2, badLine, rpass (dr i).shape ws)
  else match rtL (dr i).shape 0 (cmd0 ((i : Int) + 1) (dqt (dr i) ws)) (-1) vs with
    | .inl p => .inl p
    | .inr e => .inr (2, e, rpass (dr i).shape ws)
def dlineS (l : Bs) : (Cmd × Int) ⊕ (Int × Bs × Int) :=
  if 2048 < l.length then .inr (2, tooLong, -1) else
  match spl [] l with
  | [] => .inr (1, [], -1)
  | x :: ws => if vbS x = 0 then .inr (1, [], -1) else dread (vbS x - 1).toNat ws
end Go.Proofs.YtobegepebochkaaGreatDoor
namespace Go.Proofs.YtobegepebochkaaGreatDoor
open Go.RowKit Go.Maps
theorem flS_more (v : Int) : ∀ (l m : List Fl) (s : Bs), flS v s l ≠ [] -> flS v s (l ++ m) = flS v s l
  | [], m, s, h => absurd rfl h
  | f :: l, m, s, h => by
    simp only [List.cons_append, flS] at h ⊢
    split
    . rename_i h1
      rw [if_pos h1] at h
      exact flS_more v l m _ h
    . rfl
theorem take1_mt {c d : Cmd} {a : UInt8} {x : Bs} (ha : a ≠ 77) (h : take1 c a x = .inl d) : d.mt = c.mt /\ d.verb = c.verb := by
  unfold take1 at h
  rw [if_neg ha] at h
  repeat' (split at h)
  all_goals first
    | (cases h; exact ⟨rfl, rfl⟩)
    | (injection h with h; subst h; exact ⟨rfl, rfl⟩)
    | cases h
theorem take1_77 (c : Cmd) (x : Bs) : take1 c 77 x = .inl { c with mt := c.mt ++ [⟨x.headD 0, x.tail, decide (1 < x.length)⟩] } := by
  simp [take1]
theorem mpL_77 {a : UInt8} (h : lOk a) (h71 : a ≠ 71) : mpL a ≠ 77 := by
  rcases h with rfl | rfl | rfl | rfl | rfl | rfl | rfl | rfl | rfl | rfl | rfl <;> first | exact absurd rfl h71 | decide
theorem takeL_77 (r : Rw) : ∀ (ws : List Bs) (i : Nat) (c : Cmd), (∀ k, i <= k -> lett r k = 77) -> ∃ m, takeL r i c ws = .inl { c with mt := c.mt ++ m }
  | [], i, c, h => ⟨[], by simp [takeL]⟩
  | x :: t, i, c, h => by
    simp only [takeL]
    rw [h i (Nat.le_refl _), take1_77]
    obtain ⟨m, hm⟩ := takeL_77 r t (i + 1) { c with mt := c.mt ++ [⟨x.headD 0, x.tail, decide (1 < x.length)⟩] } (fun k hk => h k (by omega))
    exact ⟨⟨x.headD 0, x.tail, decide (1 < x.length)⟩ :: m, by simp only; rw [hm]; simp⟩
def fst2 : (Cmd × Int) ⊕ Bs -> Cmd ⊕ Bs
  | .inl p => .inl p.1
  | .inr e => .inr e
theorem rtL_takeL {sh : Bs} {r : Rw} (hl : ∀ i, mpL (dlt sh i) = lett r i) (hG : ∀ i k, dlt sh i = 71 -> i <= k -> dlt sh k = 71) : ∀ (ws : List Bs) (i : Nat) (c : Cmd) (n : Int), (ws = [] \/ ∀ k, lOk (dlt sh k)) -> flS c.verb [] c.mt = [] -> fst2 (rtL sh i c n ws) = fin c.verb (takeL r i c ws)
  | [], i, c, n, _, hf => by simp [rtL, takeL, fst2, fin, hf]
  | x :: t, i, c, n, hok, hf => by
    have hok : ∀ k, lOk (dlt sh k) := by rcases hok with h | h; cases h; exact h
    simp only [rtL, takeL]
    rw [<- hl i]
    by_cases h71 : dlt sh i = 71
    . rw [h71, show mpL 71 = 77 from rfl, take1_77]
      have e : rt1 c 71 x = if flS c.verb [] (c.mt ++ [⟨x.headD 0, x.tail, decide (1 < x.length)⟩]) = [] then .inl { c with mt := c.mt ++ [⟨x.headD 0, x.tail, decide (1 < x.length)⟩] } else .inr (flS c.verb [] (c.mt ++ [⟨x.headD 0, x.tail, decide (1 < x.length)⟩])) := by
        unfold rt1
        rw [show mpL 71 = 77 from rfl, take1_77]
        rfl
      rw [e]
      split
      . rename_i h0
        split at h0
        . rename_i h1
          injection h0 with h0
          subst h0
          exact rtL_takeL hl hG t (i + 1) _ _ (.inr hok) h1
        . cases h0
      . rename_i h0
        split at h0
        . cases h0
        . rename_i h1
          injection h0 with h0
          subst h0
          obtain ⟨m, hm⟩ := takeL_77 r t (i + 1) { c with mt := c.mt ++ [⟨x.headD 0, x.tail, decide (1 < x.length)⟩] } (fun k hk => by rw [<- hl k, hG i k h71 (by omega)]; rfl)
          simp only
          rw [hm]
          simp only [fst2, fin]
          rw [flS_more _ _ m _ h1, if_neg h1]
    . have hmp := mpL_77 (hok i) h71
      have e : rt1 c (dlt sh i) x = take1 c (mpL (dlt sh i)) x := by
        unfold rt1
        split
        . rename_i d hd; rw [if_neg h71, hd]
        . rename_i d hd; rw [hd]
      rw [e]
      cases hd : take1 c (mpL (dlt sh i)) x with
      | inl d =>
        obtain ⟨h1, h2⟩ := take1_mt hmp hd
        simp only
        rw [<- h2]
        exact rtL_takeL hl hG t (i + 1) d _ (.inr hok) (by rw [h1, h2]; exact hf)
      | inr e => simp [fst2, fin]
def rblk (sh : Bs) : Nat -> Int -> List Bs -> Int
  | _, n, [] => n
  | i, n, x :: t => rblk sh (i + 1) (if 0 <= blk (dlt sh i) x then blk (dlt sh i) x else n) t
theorem rtL_blk (sh : Bs) : ∀ (ws : List Bs) (i : Nat) (c : Cmd) (n : Int) (d : Cmd) (m : Int), rtL sh i c n ws = .inl (d, m) -> m = rblk sh i n ws
  | [], i, c, n, d, m, h => by simp [rtL] at h; simp [rblk, h.2]
  | x :: t, i, c, n, d, m, h => by
    simp only [rtL] at h
    split at h
    . exact rtL_blk sh t (i + 1) _ _ d m h
    . cases h
theorem rblk_none {sh : Bs} (h : ∀ i, dlt sh i ≠ 78) : ∀ (ws : List Bs) (i : Nat), rblk sh i (-1) ws = -1
  | [], _ => rfl
  | x :: t, i => by
    simp only [rblk]
    rw [show blk (dlt sh i) x = -1 by simp [blk, h i]]
    simp
    exact rblk_none h t (i + 1)
theorem rtL_some (sh : Bs) : ∀ (ws : List Bs) (i j : Nat) (c : Cmd) (n : Int) (p : Cmd × Int) (x : Bs), rtL sh i c n ws = .inl p -> ws[j]? = some x -> dlt sh (i + j) = 78 -> ∃ m, nb 2147483647 x = some m
  | [], i, j, c, n, p, x, h, hx, hd => by cases hx
  | y :: t, i, 0, c, n, p, x, h, hx, hd => by
    simp at hx; subst hx
    simp only [rtL, Nat.add_zero] at h hd
    rw [hd] at h
    cases hn : nb 2147483647 y with
    | some m => exact ⟨m, rfl⟩
    | none =>
      have : rt1 c 78 y = .inr badLine := by simp [rt1, mpL, take1, hn]
      rw [this] at h
      cases h
  | y :: t, i, j + 1, c, n, p, x, h, hx, hd => by
    simp only [rtL] at h
    split at h
    . exact rtL_some sh t (i + 1) j _ _ p x h (by simpa using hx) (by rw [<- hd]; congr 1; omega)
    . cases h
end Go.Proofs.YtobegepebochkaaGreatDoor

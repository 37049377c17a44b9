import Derived.Test.YtobegepebochkaaGreatDoorRPbc
import Derived.Test.YtobegepebochkaaGreatDoorRPbd
import Derived.Test.YtobegepebochkaaGreatDoorRPaw
set_option linter.unusedVariables false
set_option linter.unusedSimpArgs false
set_option maxRecDepth 100000
set_option maxHeartbeats 16000000
namespace Go.Proofs.YtobegepebochkaaGreatDoor
open Go.RowKit Go.Maps
attribute [local go_sem] Oper.semAt_some
structure Kw (w : World) (B : Nat) (c : Cmd) (kv mv : Value) : Prop where
  k : w.ownsRow B 9 1 kv c.keys.length (c.keys.map sv)
  m : w.ownsRow B 79 3 mv c.mt.length (fcs c.mt)
theorem Kw.kept {w w' : World} {B : Nat} {c : Cmd} {kv mv : Value} (h : Kw w B c kv mv) (hg : w.grownBy w' none) : Kw w' B c kv mv := ⟨row_kept h.k hg (by simp), row_kept h.m hg (by simp)⟩
def mpL (a : UInt8) : UInt8 := if a = 90 then 48 else if a = 83 then 76 else if a = 71 then 77 else a
def rt1 (c : Cmd) (a : UInt8) (x : Bs) : Cmd ⊕ Bs := match take1 c (mpL a) x with
  | .inl d => if a = 71 then (if flS d.verb [] d.mt = [] then .inl d else .inr (flS d.verb [] d.mt)) else .inl d
  | .inr e => .inr e
def blk (a : UInt8) (x : Bs) : Int := if a = 78 then ((nb 2147483647 x).getD 0 : Nat) else -1
def WordP (w : World) (B : Nat) (c : Cmd) (kv mv : Value) (a : UInt8) (x : Bs) (e : Ending) (w' : World) : Prop :=
  Kp (fun k => kv.ownBlock = some k \/ mv.ownBlock = some k) w w' /\ match rt1 c a x with
    | .inl d => ∃ kv' mv', e = .returned (.tuple #[.agg (cmA d kv' mv'), .int .i64 (blk a x), sv []]) /\ Kw w' B d kv' mv'
    | .inr s => ∃ (u0 u1 u2 u3 u4 u5 u6 u7 u8 u9 u10 : Value) (n : Int), e = .returned (.tuple #[.agg #[u0, u1, u2, u3, u4, u5, u6, u7, u8, u9, u10], .int .i64 n, sv s]) /\ (#[u0, u1, u2, u3, u4, u5, u6, u7, u8, u9, u10] : Array Value).all (·.oneCell') = true
theorem res60 {w : World} {b1 : Nat} {c0 c1 c2 c3 c4 c5 c6 c7 c8 c9 c10 d e : Value} (h : Box w 41 b1 #[c0, c1, c2, c3, c4, c5, c6, c7, c8, c9, c10]) (tmps : Array Value) (h2 : tmps[6]?.getD undef = .pointer (some ⟨b1, 0, none⟩)) (h3 : tmps[7]?.getD undef = d) (h4 : tmps[8]?.getD undef = e) : (results Tryz.f60 tmps).run Tryz.prog w = .ok (.tuple #[.agg #[c0, c1, c2, c3, c4, c5, c6, c7, c8, c9, c10], d, e]) w := by
  have hr : Tryz.f60.results = #[.cell 6 41, .tmp 7, .tmp 8] := rfl
  have p0 := h.cell 0
  have p1 := h.cell 1
  have p2 := h.cell 2
  have p3 := h.cell 3
  have p4 := h.cell 4
  have p5 := h.cell 5
  have p6 := h.cell 6
  have p7 := h.cell 7
  have p8 := h.cell 8
  have p9 := h.cell 9
  have p10 := h.cell 10
  simp at p0 p1 p2 p3 p4 p5 p6 p7 p8 p9 p10
  unfold results
  simp [hr, h2, h3, h4, go_sem, p0, p1, p2, p3, p4, p5, p6, p7, p8, p9, p10]
theorem fin60 (w : World) (A A' : Array Value) : Box ((w.alloc (.cells A' 41)).alloc (.cells A 41)) 41 (w.heap.size + 1) A /\ w.grownBy ((w.alloc (.cells A' 41)).alloc (.cells A 41)) none := by
  have b := Box.new (w.alloc (.cells A' 41)) 41 A
  rw [show (w.alloc (.cells A' 41)).heap.size = w.heap.size + 1 by simp] at b
  exact ⟨b, gb_alloc (gb_alloc (gb_refl w none) _) _⟩
theorem word_F_yes {w : World} {B : Nat} {c : Cmd} {kv mv : Value} (h : Kw w B c kv mv) (x : Bs) (hx : x.length <= 65536) (n : Nat) (hn : nb 4294967295 x = some n) :
    Calls Tryz.prog 60 #[.agg (cmA c kv mv), .int .u8 70, sv x] w fun e w' => WordP w B c kv mv 70 x e w' := by
  obtain ⟨ka, kc, hkv, _, _, _, _⟩ := row_shape h.k
  subst hkv
  obtain ⟨ma, mc, hmv, _, _, _, _⟩ := row_shape h.m
  subst hmv
  obtain ⟨b2, hg⟩ := fin60 w #[.int .i64 c.verb, .slice ka c.keys.length kc, .int .u64 (n : Int), .int .i64 c.exp, .int .u64 c.tok, .int .u64 c.del, .slice none 0 0, .bool c.nr, .bool false, .slice ma c.mt.length mc, sv c.what] #[.int .i64 c.verb, .slice ka c.keys.length kc, .int .u64 (n : Int), .int .i64 c.exp, .int .u64 c.tok, .int .u64 c.del, .slice none 0 0, .bool c.nr, .bool false, .slice ma c.mt.length mc, sv c.what]
  have hk := h.kept hg
  have er : rt1 c 70 x = .inl { c with flags := n } := by simp [rt1, mpL, take1, hn]
  have hb : blk 70 x = -1 := by simp [blk]
  have hpost : WordP w B c (.slice ka c.keys.length kc) (.slice ma c.mt.length mc) 70 x (.returned (.tuple #[.agg #[.int .i64 c.verb, .slice ka c.keys.length kc, .int .u64 (n : Int), .int .i64 c.exp, .int .u64 c.tok, .int .u64 c.del, .slice none 0 0, .bool c.nr, .bool false, .slice ma c.mt.length mc, sv c.what], .int .i64 (-1), sv []])) ((w.alloc (.cells #[.int .i64 c.verb, .slice ka c.keys.length kc, .int .u64 (n : Int), .int .i64 c.exp, .int .u64 c.tok, .int .u64 c.del, .slice none 0 0, .bool c.nr, .bool false, .slice ma c.mt.length mc, sv c.what] 41)).alloc (.cells #[.int .i64 c.verb, .slice ka c.keys.length kc, .int .u64 (n : Int), .int .i64 c.exp, .int .u64 c.tok, .int .u64 c.del, .slice none 0 0, .bool c.nr, .bool false, .slice ma c.mt.length mc, sv c.what] 41)) := ⟨Kp.of hg, by rw [er]; exact ⟨_, _, by rw [hb], ⟨hk.k, hk.m⟩⟩⟩
  have hq : ∀ W, Calls Tryz.prog 96 #[sv x, .int .u64 4294967295] W fun e w' => e = .returned (.tuple #[.int .u64 (n : Int), .bool true]) /\ w' = W := fun W => by have := number_96 x (by omega) 4294967295 4294967295 rfl (by omega) W; rw [hn] at this; exact this
  clear hn
  clear h hk hg er hb
  go_enter Tryz.func60, Tryz.ntmps60
  go_wp2_with (go_at_call 96; go_must ((with_reducible refine (hq _).mono ?_); rintro e w6 ⟨rfl, hw6⟩; have hw7 := hw6.symm; subst hw7))
  exact ⟨rfl, _, res60 b2 _ rfl rfl rfl, hpost⟩
theorem word_F_no {w : World} {B : Nat} {c : Cmd} {kv mv : Value} (h : Kw w B c kv mv) (x : Bs) (hx : x.length <= 65536) (hn : nb 4294967295 x = none) :
    Calls Tryz.prog 60 #[.agg (cmA c kv mv), .int .u8 70, sv x] w fun e w' => WordP w B c kv mv 70 x e w' := by
  obtain ⟨ka, kc, hkv, _, _, _, _⟩ := row_shape h.k
  subst hkv
  obtain ⟨ma, mc, hmv, _, _, _, _⟩ := row_shape h.m
  subst hmv
  obtain ⟨b2, hg⟩ := fin60 w #[.int .i64 c.verb, .slice ka c.keys.length kc, .int .u64 0, .int .i64 c.exp, .int .u64 c.tok, .int .u64 c.del, .slice none 0 0, .bool c.nr, .bool false, .slice ma c.mt.length mc, sv c.what] #[.int .i64 c.verb, .slice ka c.keys.length kc, .int .u64 0, .int .i64 c.exp, .int .u64 c.tok, .int .u64 c.del, .slice none 0 0, .bool c.nr, .bool false, .slice ma c.mt.length mc, sv c.what]
  have hk := h.kept hg
  have er : rt1 c 70 x = .inr badLine := by simp [rt1, mpL, take1, hn]
  have hpost : WordP w B c (.slice ka c.keys.length kc) (.slice ma c.mt.length mc) 70 x (.returned (.tuple #[.agg #[.int .i64 c.verb, .slice ka c.keys.length kc, .int .u64 0, .int .i64 c.exp, .int .u64 c.tok, .int .u64 c.del, .slice none 0 0, .bool c.nr, .bool false, .slice ma c.mt.length mc, sv c.what], .int .i64 (-1), sv badLine])) ((w.alloc (.cells #[.int .i64 c.verb, .slice ka c.keys.length kc, .int .u64 0, .int .i64 c.exp, .int .u64 c.tok, .int .u64 c.del, .slice none 0 0, .bool c.nr, .bool false, .slice ma c.mt.length mc, sv c.what] 41)).alloc (.cells #[.int .i64 c.verb, .slice ka c.keys.length kc, .int .u64 0, .int .i64 c.exp, .int .u64 c.tok, .int .u64 c.del, .slice none 0 0, .bool c.nr, .bool false, .slice ma c.mt.length mc, sv c.what] 41)) := ⟨Kp.of hg, by rw [er]; exact ⟨_, _, _, _, _, _, _, _, _, _, _, _, rfl, by simp [Value.oneCell']⟩⟩
  have hq : ∀ W, Calls Tryz.prog 96 #[sv x, .int .u64 4294967295] W fun e w' => e = .returned (.tuple #[.int .u64 0, .bool false]) /\ w' = W := fun W => by have := number_96 x (by omega) 4294967295 4294967295 rfl (by omega) W; rw [hn] at this; exact this
  clear hn
  clear h hk hg er
  go_enter Tryz.func60, Tryz.ntmps60
  go_wp2_with (go_at_call 96; go_must ((with_reducible refine (hq _).mono ?_); rintro e w6 ⟨rfl, hw6⟩; have hw7 := hw6.symm; subst hw7))
  exact ⟨rfl, _, res60 b2 _ rfl rfl rfl, hpost⟩
theorem word_N_yes {w : World} {B : Nat} {c : Cmd} {kv mv : Value} (h : Kw w B c kv mv) (x : Bs) (hx : x.length <= 65536) (n : Nat) (hn : nb 2147483647 x = some n) :
    Calls Tryz.prog 60 #[.agg (cmA c kv mv), .int .u8 78, sv x] w fun e w' => WordP w B c kv mv 78 x e w' := by
  obtain ⟨ka, kc, hkv, _, _, _, _⟩ := row_shape h.k
  subst hkv
  obtain ⟨ma, mc, hmv, _, _, _, _⟩ := row_shape h.m
  subst hmv
  obtain ⟨b2, hg⟩ := fin60 w #[.int .i64 c.verb, .slice ka c.keys.length kc, .int .u64 c.flags, .int .i64 c.exp, .int .u64 c.tok, .int .u64 c.del, .slice none 0 0, .bool c.nr, .bool false, .slice ma c.mt.length mc, sv c.what] #[.int .i64 c.verb, .slice ka c.keys.length kc, .int .u64 c.flags, .int .i64 c.exp, .int .u64 c.tok, .int .u64 c.del, .slice none 0 0, .bool c.nr, .bool false, .slice ma c.mt.length mc, sv c.what]
  have hk := h.kept hg
  have er : rt1 c 78 x = .inl { c with verb := c.verb } := by simp [rt1, mpL, take1, hn]
  have hb : blk 78 x = (n : Int) := by simp [blk, hn]
  have hpost : WordP w B c (.slice ka c.keys.length kc) (.slice ma c.mt.length mc) 78 x (.returned (.tuple #[.agg #[.int .i64 c.verb, .slice ka c.keys.length kc, .int .u64 c.flags, .int .i64 c.exp, .int .u64 c.tok, .int .u64 c.del, .slice none 0 0, .bool c.nr, .bool false, .slice ma c.mt.length mc, sv c.what], .int .i64 ((n : Int)), sv []])) ((w.alloc (.cells #[.int .i64 c.verb, .slice ka c.keys.length kc, .int .u64 c.flags, .int .i64 c.exp, .int .u64 c.tok, .int .u64 c.del, .slice none 0 0, .bool c.nr, .bool false, .slice ma c.mt.length mc, sv c.what] 41)).alloc (.cells #[.int .i64 c.verb, .slice ka c.keys.length kc, .int .u64 c.flags, .int .i64 c.exp, .int .u64 c.tok, .int .u64 c.del, .slice none 0 0, .bool c.nr, .bool false, .slice ma c.mt.length mc, sv c.what] 41)) := ⟨Kp.of hg, by rw [er]; exact ⟨_, _, by rw [hb], ⟨hk.k, hk.m⟩⟩⟩
  have hq : ∀ W, Calls Tryz.prog 96 #[sv x, .int .u64 2147483647] W fun e w' => e = .returned (.tuple #[.int .u64 (n : Int), .bool true]) /\ w' = W := fun W => by have := number_96 x (by omega) 2147483647 2147483647 rfl (by omega) W; rw [hn] at this; exact this
  have hnm : n <= 2147483647 := by have := nb_most (most := 2147483647) (l := x); rw [hn] at this; exact this
  have q1 : IntKind.i64.wrap (n : Int) = n := by rw [IntKind.wrap_i64]; omega
  clear hn
  clear h hk hg er hb
  go_enter Tryz.func60, Tryz.ntmps60
  go_wp2_with (go_at_call 96; go_must ((with_reducible refine (hq _).mono ?_); rintro e w6 ⟨rfl, hw6⟩; have hw7 := hw6.symm; subst hw7))
  exact ⟨rfl, _, res60 b2 _ rfl rfl rfl, hpost⟩
theorem word_N_no {w : World} {B : Nat} {c : Cmd} {kv mv : Value} (h : Kw w B c kv mv) (x : Bs) (hx : x.length <= 65536) (hn : nb 2147483647 x = none) :
    Calls Tryz.prog 60 #[.agg (cmA c kv mv), .int .u8 78, sv x] w fun e w' => WordP w B c kv mv 78 x e w' := by
  obtain ⟨ka, kc, hkv, _, _, _, _⟩ := row_shape h.k
  subst hkv
  obtain ⟨ma, mc, hmv, _, _, _, _⟩ := row_shape h.m
  subst hmv
  obtain ⟨b2, hg⟩ := fin60 w #[.int .i64 c.verb, .slice ka c.keys.length kc, .int .u64 c.flags, .int .i64 c.exp, .int .u64 c.tok, .int .u64 c.del, .slice none 0 0, .bool c.nr, .bool false, .slice ma c.mt.length mc, sv c.what] #[.int .i64 c.verb, .slice ka c.keys.length kc, .int .u64 c.flags, .int .i64 c.exp, .int .u64 c.tok, .int .u64 c.del, .slice none 0 0, .bool c.nr, .bool false, .slice ma c.mt.length mc, sv c.what]
  have hk := h.kept hg
  have er : rt1 c 78 x = .inr badLine := by simp [rt1, mpL, take1, hn]
  have hpost : WordP w B c (.slice ka c.keys.length kc) (.slice ma c.mt.length mc) 78 x (.returned (.tuple #[.agg #[.int .i64 c.verb, .slice ka c.keys.length kc, .int .u64 c.flags, .int .i64 c.exp, .int .u64 c.tok, .int .u64 c.del, .slice none 0 0, .bool c.nr, .bool false, .slice ma c.mt.length mc, sv c.what], .int .i64 (0), sv badLine])) ((w.alloc (.cells #[.int .i64 c.verb, .slice ka c.keys.length kc, .int .u64 c.flags, .int .i64 c.exp, .int .u64 c.tok, .int .u64 c.del, .slice none 0 0, .bool c.nr, .bool false, .slice ma c.mt.length mc, sv c.what] 41)).alloc (.cells #[.int .i64 c.verb, .slice ka c.keys.length kc, .int .u64 c.flags, .int .i64 c.exp, .int .u64 c.tok, .int .u64 c.del, .slice none 0 0, .bool c.nr, .bool false, .slice ma c.mt.length mc, sv c.what] 41)) := ⟨Kp.of hg, by rw [er]; exact ⟨_, _, _, _, _, _, _, _, _, _, _, _, rfl, by simp [Value.oneCell']⟩⟩
  have hq : ∀ W, Calls Tryz.prog 96 #[sv x, .int .u64 2147483647] W fun e w' => e = .returned (.tuple #[.int .u64 0, .bool false]) /\ w' = W := fun W => by have := number_96 x (by omega) 2147483647 2147483647 rfl (by omega) W; rw [hn] at this; exact this
  clear hn
  clear h hk hg er
  go_enter Tryz.func60, Tryz.ntmps60
  go_wp2_with (go_at_call 96; go_must ((with_reducible refine (hq _).mono ?_); rintro e w6 ⟨rfl, hw6⟩; have hw7 := hw6.symm; subst hw7))
  exact ⟨rfl, _, res60 b2 _ rfl rfl rfl, hpost⟩
theorem word_V_yes {w : World} {B : Nat} {c : Cmd} {kv mv : Value} (h : Kw w B c kv mv) (x : Bs) (hx : x.length <= 65536) (n : Nat) (hn : nb 2147483647 x = some n) :
    Calls Tryz.prog 60 #[.agg (cmA c kv mv), .int .u8 86, sv x] w fun e w' => WordP w B c kv mv 86 x e w' := by
  obtain ⟨ka, kc, hkv, _, _, _, _⟩ := row_shape h.k
  subst hkv
  obtain ⟨ma, mc, hmv, _, _, _, _⟩ := row_shape h.m
  subst hmv
  obtain ⟨b2, hg⟩ := fin60 w #[.int .i64 c.verb, .slice ka c.keys.length kc, .int .u64 c.flags, .int .i64 c.exp, .int .u64 c.tok, .int .u64 c.del, .slice none 0 0, .bool c.nr, .bool false, .slice ma c.mt.length mc, sv c.what] #[.int .i64 c.verb, .slice ka c.keys.length kc, .int .u64 c.flags, .int .i64 c.exp, .int .u64 c.tok, .int .u64 c.del, .slice none 0 0, .bool c.nr, .bool false, .slice ma c.mt.length mc, sv c.what]
  have hk := h.kept hg
  have er : rt1 c 86 x = .inl { c with verb := c.verb } := by simp [rt1, mpL, take1, hn]
  have hb : blk 86 x = -1 := by simp [blk]
  have hpost : WordP w B c (.slice ka c.keys.length kc) (.slice ma c.mt.length mc) 86 x (.returned (.tuple #[.agg #[.int .i64 c.verb, .slice ka c.keys.length kc, .int .u64 c.flags, .int .i64 c.exp, .int .u64 c.tok, .int .u64 c.del, .slice none 0 0, .bool c.nr, .bool false, .slice ma c.mt.length mc, sv c.what], .int .i64 (-1), sv []])) ((w.alloc (.cells #[.int .i64 c.verb, .slice ka c.keys.length kc, .int .u64 c.flags, .int .i64 c.exp, .int .u64 c.tok, .int .u64 c.del, .slice none 0 0, .bool c.nr, .bool false, .slice ma c.mt.length mc, sv c.what] 41)).alloc (.cells #[.int .i64 c.verb, .slice ka c.keys.length kc, .int .u64 c.flags, .int .i64 c.exp, .int .u64 c.tok, .int .u64 c.del, .slice none 0 0, .bool c.nr, .bool false, .slice ma c.mt.length mc, sv c.what] 41)) := ⟨Kp.of hg, by rw [er]; exact ⟨_, _, by rw [hb], ⟨hk.k, hk.m⟩⟩⟩
  have hq : ∀ W, Calls Tryz.prog 96 #[sv x, .int .u64 2147483647] W fun e w' => e = .returned (.tuple #[.int .u64 (n : Int), .bool true]) /\ w' = W := fun W => by have := number_96 x (by omega) 2147483647 2147483647 rfl (by omega) W; rw [hn] at this; exact this
  clear hn
  clear h hk hg er hb
  go_enter Tryz.func60, Tryz.ntmps60
  go_wp2_with (go_at_call 96; go_must ((with_reducible refine (hq _).mono ?_); rintro e w6 ⟨rfl, hw6⟩; have hw7 := hw6.symm; subst hw7))
  exact ⟨rfl, _, res60 b2 _ rfl rfl rfl, hpost⟩
theorem word_V_no {w : World} {B : Nat} {c : Cmd} {kv mv : Value} (h : Kw w B c kv mv) (x : Bs) (hx : x.length <= 65536) (hn : nb 2147483647 x = none) :
    Calls Tryz.prog 60 #[.agg (cmA c kv mv), .int .u8 86, sv x] w fun e w' => WordP w B c kv mv 86 x e w' := by
  obtain ⟨ka, kc, hkv, _, _, _, _⟩ := row_shape h.k
  subst hkv
  obtain ⟨ma, mc, hmv, _, _, _, _⟩ := row_shape h.m
  subst hmv
  obtain ⟨b2, hg⟩ := fin60 w #[.int .i64 c.verb, .slice ka c.keys.length kc, .int .u64 c.flags, .int .i64 c.exp, .int .u64 c.tok, .int .u64 c.del, .slice none 0 0, .bool c.nr, .bool false, .slice ma c.mt.length mc, sv c.what] #[.int .i64 c.verb, .slice ka c.keys.length kc, .int .u64 c.flags, .int .i64 c.exp, .int .u64 c.tok, .int .u64 c.del, .slice none 0 0, .bool c.nr, .bool false, .slice ma c.mt.length mc, sv c.what]
  have hk := h.kept hg
  have er : rt1 c 86 x = .inr badLine := by simp [rt1, mpL, take1, hn]
  have hpost : WordP w B c (.slice ka c.keys.length kc) (.slice ma c.mt.length mc) 86 x (.returned (.tuple #[.agg #[.int .i64 c.verb, .slice ka c.keys.length kc, .int .u64 c.flags, .int .i64 c.exp, .int .u64 c.tok, .int .u64 c.del, .slice none 0 0, .bool c.nr, .bool false, .slice ma c.mt.length mc, sv c.what], .int .i64 (-1), sv badLine])) ((w.alloc (.cells #[.int .i64 c.verb, .slice ka c.keys.length kc, .int .u64 c.flags, .int .i64 c.exp, .int .u64 c.tok, .int .u64 c.del, .slice none 0 0, .bool c.nr, .bool false, .slice ma c.mt.length mc, sv c.what] 41)).alloc (.cells #[.int .i64 c.verb, .slice ka c.keys.length kc, .int .u64 c.flags, .int .i64 c.exp, .int .u64 c.tok, .int .u64 c.del, .slice none 0 0, .bool c.nr, .bool false, .slice ma c.mt.length mc, sv c.what] 41)) := ⟨Kp.of hg, by rw [er]; exact ⟨_, _, _, _, _, _, _, _, _, _, _, _, rfl, by simp [Value.oneCell']⟩⟩
  have hq : ∀ W, Calls Tryz.prog 96 #[sv x, .int .u64 2147483647] W fun e w' => e = .returned (.tuple #[.int .u64 0, .bool false]) /\ w' = W := fun W => by have := number_96 x (by omega) 2147483647 2147483647 rfl (by omega) W; rw [hn] at this; exact this
  clear hn
  clear h hk hg er
  go_enter Tryz.func60, Tryz.ntmps60
  go_wp2_with (go_at_call 96; go_must ((with_reducible refine (hq _).mono ?_); rintro e w6 ⟨rfl, hw6⟩; have hw7 := hw6.symm; subst hw7))
  exact ⟨rfl, _, res60 b2 _ rfl rfl rfl, hpost⟩
theorem word_C_yes {w : World} {B : Nat} {c : Cmd} {kv mv : Value} (h : Kw w B c kv mv) (x : Bs) (hx : x.length <= 65536) (n : Nat) (hn : nb 18446744073709551615 x = some n) :
    Calls Tryz.prog 60 #[.agg (cmA c kv mv), .int .u8 67, sv x] w fun e w' => WordP w B c kv mv 67 x e w' := by
  obtain ⟨ka, kc, hkv, _, _, _, _⟩ := row_shape h.k
  subst hkv
  obtain ⟨ma, mc, hmv, _, _, _, _⟩ := row_shape h.m
  subst hmv
  obtain ⟨b2, hg⟩ := fin60 w #[.int .i64 c.verb, .slice ka c.keys.length kc, .int .u64 c.flags, .int .i64 c.exp, .int .u64 (n : Int), .int .u64 c.del, .slice none 0 0, .bool c.nr, .bool false, .slice ma c.mt.length mc, sv c.what] #[.int .i64 c.verb, .slice ka c.keys.length kc, .int .u64 c.flags, .int .i64 c.exp, .int .u64 (n : Int), .int .u64 c.del, .slice none 0 0, .bool c.nr, .bool false, .slice ma c.mt.length mc, sv c.what]
  have hk := h.kept hg
  have er : rt1 c 67 x = .inl { c with tok := n } := by simp [rt1, mpL, take1, hn]
  have hb : blk 67 x = -1 := by simp [blk]
  have hpost : WordP w B c (.slice ka c.keys.length kc) (.slice ma c.mt.length mc) 67 x (.returned (.tuple #[.agg #[.int .i64 c.verb, .slice ka c.keys.length kc, .int .u64 c.flags, .int .i64 c.exp, .int .u64 (n : Int), .int .u64 c.del, .slice none 0 0, .bool c.nr, .bool false, .slice ma c.mt.length mc, sv c.what], .int .i64 (-1), sv []])) ((w.alloc (.cells #[.int .i64 c.verb, .slice ka c.keys.length kc, .int .u64 c.flags, .int .i64 c.exp, .int .u64 (n : Int), .int .u64 c.del, .slice none 0 0, .bool c.nr, .bool false, .slice ma c.mt.length mc, sv c.what] 41)).alloc (.cells #[.int .i64 c.verb, .slice ka c.keys.length kc, .int .u64 c.flags, .int .i64 c.exp, .int .u64 (n : Int), .int .u64 c.del, .slice none 0 0, .bool c.nr, .bool false, .slice ma c.mt.length mc, sv c.what] 41)) := ⟨Kp.of hg, by rw [er]; exact ⟨_, _, by rw [hb], ⟨hk.k, hk.m⟩⟩⟩
  have hq : ∀ W, Calls Tryz.prog 96 #[sv x, .int .u64 18446744073709551615] W fun e w' => e = .returned (.tuple #[.int .u64 (n : Int), .bool true]) /\ w' = W := fun W => by have := number_96 x (by omega) 18446744073709551615 18446744073709551615 rfl (by omega) W; rw [hn] at this; exact this
  clear hn
  clear h hk hg er hb
  go_enter Tryz.func60, Tryz.ntmps60
  go_wp2_with (go_at_call 96; go_must ((with_reducible refine (hq _).mono ?_); rintro e w6 ⟨rfl, hw6⟩; have hw7 := hw6.symm; subst hw7))
  exact ⟨rfl, _, res60 b2 _ rfl rfl rfl, hpost⟩
theorem word_C_no {w : World} {B : Nat} {c : Cmd} {kv mv : Value} (h : Kw w B c kv mv) (x : Bs) (hx : x.length <= 65536) (hn : nb 18446744073709551615 x = none) :
    Calls Tryz.prog 60 #[.agg (cmA c kv mv), .int .u8 67, sv x] w fun e w' => WordP w B c kv mv 67 x e w' := by
  obtain ⟨ka, kc, hkv, _, _, _, _⟩ := row_shape h.k
  subst hkv
  obtain ⟨ma, mc, hmv, _, _, _, _⟩ := row_shape h.m
  subst hmv
  obtain ⟨b2, hg⟩ := fin60 w #[.int .i64 c.verb, .slice ka c.keys.length kc, .int .u64 c.flags, .int .i64 c.exp, .int .u64 0, .int .u64 c.del, .slice none 0 0, .bool c.nr, .bool false, .slice ma c.mt.length mc, sv c.what] #[.int .i64 c.verb, .slice ka c.keys.length kc, .int .u64 c.flags, .int .i64 c.exp, .int .u64 0, .int .u64 c.del, .slice none 0 0, .bool c.nr, .bool false, .slice ma c.mt.length mc, sv c.what]
  have hk := h.kept hg
  have er : rt1 c 67 x = .inr badLine := by simp [rt1, mpL, take1, hn]
  have hpost : WordP w B c (.slice ka c.keys.length kc) (.slice ma c.mt.length mc) 67 x (.returned (.tuple #[.agg #[.int .i64 c.verb, .slice ka c.keys.length kc, .int .u64 c.flags, .int .i64 c.exp, .int .u64 0, .int .u64 c.del, .slice none 0 0, .bool c.nr, .bool false, .slice ma c.mt.length mc, sv c.what], .int .i64 (-1), sv badLine])) ((w.alloc (.cells #[.int .i64 c.verb, .slice ka c.keys.length kc, .int .u64 c.flags, .int .i64 c.exp, .int .u64 0, .int .u64 c.del, .slice none 0 0, .bool c.nr, .bool false, .slice ma c.mt.length mc, sv c.what] 41)).alloc (.cells #[.int .i64 c.verb, .slice ka c.keys.length kc, .int .u64 c.flags, .int .i64 c.exp, .int .u64 0, .int .u64 c.del, .slice none 0 0, .bool c.nr, .bool false, .slice ma c.mt.length mc, sv c.what] 41)) := ⟨Kp.of hg, by rw [er]; exact ⟨_, _, _, _, _, _, _, _, _, _, _, _, rfl, by simp [Value.oneCell']⟩⟩
  have hq : ∀ W, Calls Tryz.prog 96 #[sv x, .int .u64 18446744073709551615] W fun e w' => e = .returned (.tuple #[.int .u64 0, .bool false]) /\ w' = W := fun W => by have := number_96 x (by omega) 18446744073709551615 18446744073709551615 rfl (by omega) W; rw [hn] at this; exact this
  clear hn
  clear h hk hg er
  go_enter Tryz.func60, Tryz.ntmps60
  go_wp2_with (go_at_call 96; go_must ((with_reducible refine (hq _).mono ?_); rintro e w6 ⟨rfl, hw6⟩; have hw7 := hw6.symm; subst hw7))
  exact ⟨rfl, _, res60 b2 _ rfl rfl rfl, hpost⟩
theorem word_D_yes {w : World} {B : Nat} {c : Cmd} {kv mv : Value} (h : Kw w B c kv mv) (x : Bs) (hx : x.length <= 65536) (n : Nat) (hn : nb 18446744073709551615 x = some n) :
    Calls Tryz.prog 60 #[.agg (cmA c kv mv), .int .u8 68, sv x] w fun e w' => WordP w B c kv mv 68 x e w' := by
  obtain ⟨ka, kc, hkv, _, _, _, _⟩ := row_shape h.k
  subst hkv
  obtain ⟨ma, mc, hmv, _, _, _, _⟩ := row_shape h.m
  subst hmv
  obtain ⟨b2, hg⟩ := fin60 w #[.int .i64 c.verb, .slice ka c.keys.length kc, .int .u64 c.flags, .int .i64 c.exp, .int .u64 c.tok, .int .u64 (n : Int), .slice none 0 0, .bool c.nr, .bool false, .slice ma c.mt.length mc, sv c.what] #[.int .i64 c.verb, .slice ka c.keys.length kc, .int .u64 c.flags, .int .i64 c.exp, .int .u64 c.tok, .int .u64 (n : Int), .slice none 0 0, .bool c.nr, .bool false, .slice ma c.mt.length mc, sv c.what]
  have hk := h.kept hg
  have er : rt1 c 68 x = .inl { c with del := n } := by simp [rt1, mpL, take1, hn]
  have hb : blk 68 x = -1 := by simp [blk]
  have hpost : WordP w B c (.slice ka c.keys.length kc) (.slice ma c.mt.length mc) 68 x (.returned (.tuple #[.agg #[.int .i64 c.verb, .slice ka c.keys.length kc, .int .u64 c.flags, .int .i64 c.exp, .int .u64 c.tok, .int .u64 (n : Int), .slice none 0 0, .bool c.nr, .bool false, .slice ma c.mt.length mc, sv c.what], .int .i64 (-1), sv []])) ((w.alloc (.cells #[.int .i64 c.verb, .slice ka c.keys.length kc, .int .u64 c.flags, .int .i64 c.exp, .int .u64 c.tok, .int .u64 (n : Int), .slice none 0 0, .bool c.nr, .bool false, .slice ma c.mt.length mc, sv c.what] 41)).alloc (.cells #[.int .i64 c.verb, .slice ka c.keys.length kc, .int .u64 c.flags, .int .i64 c.exp, .int .u64 c.tok, .int .u64 (n : Int), .slice none 0 0, .bool c.nr, .bool false, .slice ma c.mt.length mc, sv c.what] 41)) := ⟨Kp.of hg, by rw [er]; exact ⟨_, _, by rw [hb], ⟨hk.k, hk.m⟩⟩⟩
  have hq : ∀ W, Calls Tryz.prog 96 #[sv x, .int .u64 18446744073709551615] W fun e w' => e = .returned (.tuple #[.int .u64 (n : Int), .bool true]) /\ w' = W := fun W => by have := number_96 x (by omega) 18446744073709551615 18446744073709551615 rfl (by omega) W; rw [hn] at this; exact this
  clear hn
  clear h hk hg er hb
  go_enter Tryz.func60, Tryz.ntmps60
  go_wp2_with (go_at_call 96; go_must ((with_reducible refine (hq _).mono ?_); rintro e w6 ⟨rfl, hw6⟩; have hw7 := hw6.symm; subst hw7))
  exact ⟨rfl, _, res60 b2 _ rfl rfl rfl, hpost⟩
theorem word_D_no {w : World} {B : Nat} {c : Cmd} {kv mv : Value} (h : Kw w B c kv mv) (x : Bs) (hx : x.length <= 65536) (hn : nb 18446744073709551615 x = none) :
    Calls Tryz.prog 60 #[.agg (cmA c kv mv), .int .u8 68, sv x] w fun e w' => WordP w B c kv mv 68 x e w' := by
  obtain ⟨ka, kc, hkv, _, _, _, _⟩ := row_shape h.k
  subst hkv
  obtain ⟨ma, mc, hmv, _, _, _, _⟩ := row_shape h.m
  subst hmv
  obtain ⟨b2, hg⟩ := fin60 w #[.int .i64 c.verb, .slice ka c.keys.length kc, .int .u64 c.flags, .int .i64 c.exp, .int .u64 c.tok, .int .u64 0, .slice none 0 0, .bool c.nr, .bool false, .slice ma c.mt.length mc, sv c.what] #[.int .i64 c.verb, .slice ka c.keys.length kc, .int .u64 c.flags, .int .i64 c.exp, .int .u64 c.tok, .int .u64 0, .slice none 0 0, .bool c.nr, .bool false, .slice ma c.mt.length mc, sv c.what]
  have hk := h.kept hg
  have er : rt1 c 68 x = .inr badDelta := by simp [rt1, mpL, take1, hn]
  have hpost : WordP w B c (.slice ka c.keys.length kc) (.slice ma c.mt.length mc) 68 x (.returned (.tuple #[.agg #[.int .i64 c.verb, .slice ka c.keys.length kc, .int .u64 c.flags, .int .i64 c.exp, .int .u64 c.tok, .int .u64 0, .slice none 0 0, .bool c.nr, .bool false, .slice ma c.mt.length mc, sv c.what], .int .i64 (-1), sv badDelta])) ((w.alloc (.cells #[.int .i64 c.verb, .slice ka c.keys.length kc, .int .u64 c.flags, .int .i64 c.exp, .int .u64 c.tok, .int .u64 0, .slice none 0 0, .bool c.nr, .bool false, .slice ma c.mt.length mc, sv c.what] 41)).alloc (.cells #[.int .i64 c.verb, .slice ka c.keys.length kc, .int .u64 c.flags, .int .i64 c.exp, .int .u64 c.tok, .int .u64 0, .slice none 0 0, .bool c.nr, .bool false, .slice ma c.mt.length mc, sv c.what] 41)) := ⟨Kp.of hg, by rw [er]; exact ⟨_, _, _, _, _, _, _, _, _, _, _, _, rfl, by simp [Value.oneCell']⟩⟩
  have hq : ∀ W, Calls Tryz.prog 96 #[sv x, .int .u64 18446744073709551615] W fun e w' => e = .returned (.tuple #[.int .u64 0, .bool false]) /\ w' = W := fun W => by have := number_96 x (by omega) 18446744073709551615 18446744073709551615 rfl (by omega) W; rw [hn] at this; exact this
  clear hn
  clear h hk hg er
  go_enter Tryz.func60, Tryz.ntmps60
  go_wp2_with (go_at_call 96; go_must ((with_reducible refine (hq _).mono ?_); rintro e w6 ⟨rfl, hw6⟩; have hw7 := hw6.symm; subst hw7))
  exact ⟨rfl, _, res60 b2 _ rfl rfl rfl, hpost⟩
theorem word_T_yes {w : World} {B : Nat} {c : Cmd} {kv mv : Value} (h : Kw w B c kv mv) (x : Bs) (hx : x.length <= 65536) (t : Int) (hn : tm x = some t) :
    Calls Tryz.prog 60 #[.agg (cmA c kv mv), .int .u8 84, sv x] w fun e w' => WordP w B c kv mv 84 x e w' := by
  obtain ⟨ka, kc, hkv, _, _, _, _⟩ := row_shape h.k
  subst hkv
  obtain ⟨ma, mc, hmv, _, _, _, _⟩ := row_shape h.m
  subst hmv
  obtain ⟨b2, hg⟩ := fin60 w #[.int .i64 c.verb, .slice ka c.keys.length kc, .int .u64 c.flags, .int .i64 t, .int .u64 c.tok, .int .u64 c.del, .slice none 0 0, .bool c.nr, .bool false, .slice ma c.mt.length mc, sv c.what] #[.int .i64 c.verb, .slice ka c.keys.length kc, .int .u64 c.flags, .int .i64 t, .int .u64 c.tok, .int .u64 c.del, .slice none 0 0, .bool c.nr, .bool false, .slice ma c.mt.length mc, sv c.what]
  have hk := h.kept hg
  have er : rt1 c 84 x = .inl { c with exp := t } := by simp [rt1, mpL, take1, hn]
  have hb : blk 84 x = -1 := by simp [blk]
  have hpost : WordP w B c (.slice ka c.keys.length kc) (.slice ma c.mt.length mc) 84 x (.returned (.tuple #[.agg #[.int .i64 c.verb, .slice ka c.keys.length kc, .int .u64 c.flags, .int .i64 t, .int .u64 c.tok, .int .u64 c.del, .slice none 0 0, .bool c.nr, .bool false, .slice ma c.mt.length mc, sv c.what], .int .i64 (-1), sv []])) ((w.alloc (.cells #[.int .i64 c.verb, .slice ka c.keys.length kc, .int .u64 c.flags, .int .i64 t, .int .u64 c.tok, .int .u64 c.del, .slice none 0 0, .bool c.nr, .bool false, .slice ma c.mt.length mc, sv c.what] 41)).alloc (.cells #[.int .i64 c.verb, .slice ka c.keys.length kc, .int .u64 c.flags, .int .i64 t, .int .u64 c.tok, .int .u64 c.del, .slice none 0 0, .bool c.nr, .bool false, .slice ma c.mt.length mc, sv c.what] 41)) := ⟨Kp.of hg, by rw [er]; exact ⟨_, _, by rw [hb], ⟨hk.k, hk.m⟩⟩⟩
  have hq : ∀ W, Calls Tryz.prog 98 #[sv x] W fun e w' => e = .returned (.tuple #[.int .i64 t, .bool true]) /\ w' = W := fun W => by have := timeOf_98 x (by omega) W; rw [hn] at this; exact this
  clear hn
  clear h hk hg er hb
  go_enter Tryz.func60, Tryz.ntmps60
  go_wp2_with (go_at_call 98; go_must ((with_reducible refine (hq _).mono ?_); rintro e w6 ⟨rfl, hw6⟩; have hw7 := hw6.symm; subst hw7))
  exact ⟨rfl, _, res60 b2 _ rfl rfl rfl, hpost⟩
theorem word_T_no {w : World} {B : Nat} {c : Cmd} {kv mv : Value} (h : Kw w B c kv mv) (x : Bs) (hx : x.length <= 65536) (hn : tm x = none) :
    Calls Tryz.prog 60 #[.agg (cmA c kv mv), .int .u8 84, sv x] w fun e w' => WordP w B c kv mv 84 x e w' := by
  obtain ⟨ka, kc, hkv, _, _, _, _⟩ := row_shape h.k
  subst hkv
  obtain ⟨ma, mc, hmv, _, _, _, _⟩ := row_shape h.m
  subst hmv
  obtain ⟨b2, hg⟩ := fin60 w #[.int .i64 c.verb, .slice ka c.keys.length kc, .int .u64 c.flags, .int .i64 0, .int .u64 c.tok, .int .u64 c.del, .slice none 0 0, .bool c.nr, .bool false, .slice ma c.mt.length mc, sv c.what] #[.int .i64 c.verb, .slice ka c.keys.length kc, .int .u64 c.flags, .int .i64 0, .int .u64 c.tok, .int .u64 c.del, .slice none 0 0, .bool c.nr, .bool false, .slice ma c.mt.length mc, sv c.what]
  have hk := h.kept hg
  have er : rt1 c 84 x = .inr badTime := by simp [rt1, mpL, take1, hn]
  have hpost : WordP w B c (.slice ka c.keys.length kc) (.slice ma c.mt.length mc) 84 x (.returned (.tuple #[.agg #[.int .i64 c.verb, .slice ka c.keys.length kc, .int .u64 c.flags, .int .i64 0, .int .u64 c.tok, .int .u64 c.del, .slice none 0 0, .bool c.nr, .bool false, .slice ma c.mt.length mc, sv c.what], .int .i64 (-1), sv badTime])) ((w.alloc (.cells #[.int .i64 c.verb, .slice ka c.keys.length kc, .int .u64 c.flags, .int .i64 0, .int .u64 c.tok, .int .u64 c.del, .slice none 0 0, .bool c.nr, .bool false, .slice ma c.mt.length mc, sv c.what] 41)).alloc (.cells #[.int .i64 c.verb, .slice ka c.keys.length kc, .int .u64 c.flags, .int .i64 0, .int .u64 c.tok, .int .u64 c.del, .slice none 0 0, .bool c.nr, .bool false, .slice ma c.mt.length mc, sv c.what] 41)) := ⟨Kp.of hg, by rw [er]; exact ⟨_, _, _, _, _, _, _, _, _, _, _, _, rfl, by simp [Value.oneCell']⟩⟩
  have hq : ∀ W, Calls Tryz.prog 98 #[sv x] W fun e w' => e = .returned (.tuple #[.int .i64 0, .bool false]) /\ w' = W := fun W => by have := timeOf_98 x (by omega) W; rw [hn] at this; exact this
  clear hn
  clear h hk hg er
  go_enter Tryz.func60, Tryz.ntmps60
  go_wp2_with (go_at_call 98; go_must ((with_reducible refine (hq _).mono ?_); rintro e w6 ⟨rfl, hw6⟩; have hw7 := hw6.symm; subst hw7))
  exact ⟨rfl, _, res60 b2 _ rfl rfl rfl, hpost⟩
theorem word_S_yes {w : World} {B : Nat} {c : Cmd} {kv mv : Value} (h : Kw w B c kv mv) (x : Bs) (hx : x.length <= 65536) (t : Int) (hn : tm x = some t) (ht : 0 <= t) :
    Calls Tryz.prog 60 #[.agg (cmA c kv mv), .int .u8 83, sv x] w fun e w' => WordP w B c kv mv 83 x e w' := by
  obtain ⟨ka, kc, hkv, _, _, _, _⟩ := row_shape h.k
  subst hkv
  obtain ⟨ma, mc, hmv, _, _, _, _⟩ := row_shape h.m
  subst hmv
  obtain ⟨b2, hg⟩ := fin60 w #[.int .i64 c.verb, .slice ka c.keys.length kc, .int .u64 c.flags, .int .i64 t, .int .u64 c.tok, .int .u64 c.del, .slice none 0 0, .bool c.nr, .bool false, .slice ma c.mt.length mc, sv c.what] #[.int .i64 c.verb, .slice ka c.keys.length kc, .int .u64 c.flags, .int .i64 t, .int .u64 c.tok, .int .u64 c.del, .slice none 0 0, .bool c.nr, .bool false, .slice ma c.mt.length mc, sv c.what]
  have hk := h.kept hg
  have er : rt1 c 83 x = .inl { c with exp := t } := by simp [rt1, mpL, take1, hn, ht]
  have hb : blk 83 x = -1 := by simp [blk]
  have hpost : WordP w B c (.slice ka c.keys.length kc) (.slice ma c.mt.length mc) 83 x (.returned (.tuple #[.agg #[.int .i64 c.verb, .slice ka c.keys.length kc, .int .u64 c.flags, .int .i64 t, .int .u64 c.tok, .int .u64 c.del, .slice none 0 0, .bool c.nr, .bool false, .slice ma c.mt.length mc, sv c.what], .int .i64 (-1), sv []])) ((w.alloc (.cells #[.int .i64 c.verb, .slice ka c.keys.length kc, .int .u64 c.flags, .int .i64 t, .int .u64 c.tok, .int .u64 c.del, .slice none 0 0, .bool c.nr, .bool false, .slice ma c.mt.length mc, sv c.what] 41)).alloc (.cells #[.int .i64 c.verb, .slice ka c.keys.length kc, .int .u64 c.flags, .int .i64 t, .int .u64 c.tok, .int .u64 c.del, .slice none 0 0, .bool c.nr, .bool false, .slice ma c.mt.length mc, sv c.what] 41)) := ⟨Kp.of hg, by rw [er]; exact ⟨_, _, by rw [hb], ⟨hk.k, hk.m⟩⟩⟩
  have hq : ∀ W, Calls Tryz.prog 98 #[sv x] W fun e w' => e = .returned (.tuple #[.int .i64 t, .bool true]) /\ w' = W := fun W => by have := timeOf_98 x (by omega) W; rw [hn] at this; exact this
  clear hn
  clear h hk hg er hb
  go_enter Tryz.func60, Tryz.ntmps60
  go_wp2_with (go_at_call 98; go_must ((with_reducible refine (hq _).mono ?_); rintro e w6 ⟨rfl, hw6⟩; have hw7 := hw6.symm; subst hw7))
  exact ⟨rfl, _, res60 b2 _ rfl rfl rfl, hpost⟩
theorem word_S_no {w : World} {B : Nat} {c : Cmd} {kv mv : Value} (h : Kw w B c kv mv) (x : Bs) (hx : x.length <= 65536) (hn : tm x = none) :
    Calls Tryz.prog 60 #[.agg (cmA c kv mv), .int .u8 83, sv x] w fun e w' => WordP w B c kv mv 83 x e w' := by
  obtain ⟨ka, kc, hkv, _, _, _, _⟩ := row_shape h.k
  subst hkv
  obtain ⟨ma, mc, hmv, _, _, _, _⟩ := row_shape h.m
  subst hmv
  obtain ⟨b2, hg⟩ := fin60 w #[.int .i64 c.verb, .slice ka c.keys.length kc, .int .u64 c.flags, .int .i64 0, .int .u64 c.tok, .int .u64 c.del, .slice none 0 0, .bool c.nr, .bool false, .slice ma c.mt.length mc, sv c.what] #[.int .i64 c.verb, .slice ka c.keys.length kc, .int .u64 c.flags, .int .i64 0, .int .u64 c.tok, .int .u64 c.del, .slice none 0 0, .bool c.nr, .bool false, .slice ma c.mt.length mc, sv c.what]
  have hk := h.kept hg
  have er : rt1 c 83 x = .inr badTime := by simp [rt1, mpL, take1, hn]
  have hpost : WordP w B c (.slice ka c.keys.length kc) (.slice ma c.mt.length mc) 83 x (.returned (.tuple #[.agg #[.int .i64 c.verb, .slice ka c.keys.length kc, .int .u64 c.flags, .int .i64 0, .int .u64 c.tok, .int .u64 c.del, .slice none 0 0, .bool c.nr, .bool false, .slice ma c.mt.length mc, sv c.what], .int .i64 (-1), sv badTime])) ((w.alloc (.cells #[.int .i64 c.verb, .slice ka c.keys.length kc, .int .u64 c.flags, .int .i64 0, .int .u64 c.tok, .int .u64 c.del, .slice none 0 0, .bool c.nr, .bool false, .slice ma c.mt.length mc, sv c.what] 41)).alloc (.cells #[.int .i64 c.verb, .slice ka c.keys.length kc, .int .u64 c.flags, .int .i64 0, .int .u64 c.tok, .int .u64 c.del, .slice none 0 0, .bool c.nr, .bool false, .slice ma c.mt.length mc, sv c.what] 41)) := ⟨Kp.of hg, by rw [er]; exact ⟨_, _, _, _, _, _, _, _, _, _, _, _, rfl, by simp [Value.oneCell']⟩⟩
  have hq : ∀ W, Calls Tryz.prog 98 #[sv x] W fun e w' => e = .returned (.tuple #[.int .i64 0, .bool false]) /\ w' = W := fun W => by have := timeOf_98 x (by omega) W; rw [hn] at this; exact this
  clear hn
  clear h hk hg er
  go_enter Tryz.func60, Tryz.ntmps60
  go_wp2_with (go_at_call 98; go_must ((with_reducible refine (hq _).mono ?_); rintro e w6 ⟨rfl, hw6⟩; have hw7 := hw6.symm; subst hw7))
  exact ⟨rfl, _, res60 b2 _ rfl rfl rfl, hpost⟩
theorem word_S_low {w : World} {B : Nat} {c : Cmd} {kv mv : Value} (h : Kw w B c kv mv) (x : Bs) (hx : x.length <= 65536) (t : Int) (hn : tm x = some t) (ht : ¬ 0 <= t) :
    Calls Tryz.prog 60 #[.agg (cmA c kv mv), .int .u8 83, sv x] w fun e w' => WordP w B c kv mv 83 x e w' := by
  obtain ⟨ka, kc, hkv, _, _, _, _⟩ := row_shape h.k
  subst hkv
  obtain ⟨ma, mc, hmv, _, _, _, _⟩ := row_shape h.m
  subst hmv
  obtain ⟨b2, hg⟩ := fin60 w #[.int .i64 c.verb, .slice ka c.keys.length kc, .int .u64 c.flags, .int .i64 t, .int .u64 c.tok, .int .u64 c.del, .slice none 0 0, .bool c.nr, .bool false, .slice ma c.mt.length mc, sv c.what] #[.int .i64 c.verb, .slice ka c.keys.length kc, .int .u64 c.flags, .int .i64 t, .int .u64 c.tok, .int .u64 c.del, .slice none 0 0, .bool c.nr, .bool false, .slice ma c.mt.length mc, sv c.what]
  have hk := h.kept hg
  have er : rt1 c 83 x = .inr badTime := by simp [rt1, mpL, take1, hn, ht]
  have hpost : WordP w B c (.slice ka c.keys.length kc) (.slice ma c.mt.length mc) 83 x (.returned (.tuple #[.agg #[.int .i64 c.verb, .slice ka c.keys.length kc, .int .u64 c.flags, .int .i64 t, .int .u64 c.tok, .int .u64 c.del, .slice none 0 0, .bool c.nr, .bool false, .slice ma c.mt.length mc, sv c.what], .int .i64 (-1), sv badTime])) ((w.alloc (.cells #[.int .i64 c.verb, .slice ka c.keys.length kc, .int .u64 c.flags, .int .i64 t, .int .u64 c.tok, .int .u64 c.del, .slice none 0 0, .bool c.nr, .bool false, .slice ma c.mt.length mc, sv c.what] 41)).alloc (.cells #[.int .i64 c.verb, .slice ka c.keys.length kc, .int .u64 c.flags, .int .i64 t, .int .u64 c.tok, .int .u64 c.del, .slice none 0 0, .bool c.nr, .bool false, .slice ma c.mt.length mc, sv c.what] 41)) := ⟨Kp.of hg, by rw [er]; exact ⟨_, _, _, _, _, _, _, _, _, _, _, _, rfl, by simp [Value.oneCell']⟩⟩
  have hq : ∀ W, Calls Tryz.prog 98 #[sv x] W fun e w' => e = .returned (.tuple #[.int .i64 t, .bool true]) /\ w' = W := fun W => by have := timeOf_98 x (by omega) W; rw [hn] at this; exact this
  clear hn
  clear h hk hg er
  go_enter Tryz.func60, Tryz.ntmps60
  go_wp2_with (go_at_call 98; go_must ((with_reducible refine (hq _).mono ?_); rintro e w6 ⟨rfl, hw6⟩; have hw7 := hw6.symm; subst hw7))
  exact ⟨rfl, _, res60 b2 _ rfl rfl rfl, hpost⟩
theorem word_Z_yes {w : World} {B : Nat} {c : Cmd} {kv mv : Value} (h : Kw w B c kv mv) (x : Bs) (hx : x.length <= 65536) (hn : x = [48]) :
    Calls Tryz.prog 60 #[.agg (cmA c kv mv), .int .u8 90, sv x] w fun e w' => WordP w B c kv mv 90 x e w' := by
  obtain ⟨ka, kc, hkv, _, _, _, _⟩ := row_shape h.k
  subst hkv
  obtain ⟨ma, mc, hmv, _, _, _, _⟩ := row_shape h.m
  subst hmv
  obtain ⟨b2, hg⟩ := fin60 w #[.int .i64 c.verb, .slice ka c.keys.length kc, .int .u64 c.flags, .int .i64 c.exp, .int .u64 c.tok, .int .u64 c.del, .slice none 0 0, .bool c.nr, .bool false, .slice ma c.mt.length mc, sv c.what] #[.int .i64 c.verb, .slice ka c.keys.length kc, .int .u64 c.flags, .int .i64 c.exp, .int .u64 c.tok, .int .u64 c.del, .slice none 0 0, .bool c.nr, .bool false, .slice ma c.mt.length mc, sv c.what]
  have hk := h.kept hg
  have er : rt1 c 90 x = .inl { c with verb := c.verb } := by simp [rt1, mpL, take1, hn]
  have hb : blk 90 x = -1 := by simp [blk]
  have hpost : WordP w B c (.slice ka c.keys.length kc) (.slice ma c.mt.length mc) 90 x (.returned (.tuple #[.agg #[.int .i64 c.verb, .slice ka c.keys.length kc, .int .u64 c.flags, .int .i64 c.exp, .int .u64 c.tok, .int .u64 c.del, .slice none 0 0, .bool c.nr, .bool false, .slice ma c.mt.length mc, sv c.what], .int .i64 (-1), sv []])) ((w.alloc (.cells #[.int .i64 c.verb, .slice ka c.keys.length kc, .int .u64 c.flags, .int .i64 c.exp, .int .u64 c.tok, .int .u64 c.del, .slice none 0 0, .bool c.nr, .bool false, .slice ma c.mt.length mc, sv c.what] 41)).alloc (.cells #[.int .i64 c.verb, .slice ka c.keys.length kc, .int .u64 c.flags, .int .i64 c.exp, .int .u64 c.tok, .int .u64 c.del, .slice none 0 0, .bool c.nr, .bool false, .slice ma c.mt.length mc, sv c.what] 41)) := ⟨Kp.of hg, by rw [er]; exact ⟨_, _, by rw [hb], ⟨hk.k, hk.m⟩⟩⟩
  subst hn
  clear h hk hg er hb
  go_enter Tryz.func60, Tryz.ntmps60
  go_wp2
  exact ⟨rfl, _, res60 b2 _ rfl rfl rfl, hpost⟩
theorem word_Z_no {w : World} {B : Nat} {c : Cmd} {kv mv : Value} (h : Kw w B c kv mv) (x : Bs) (hx : x.length <= 65536) (hn : ¬ x = [48]) :
    Calls Tryz.prog 60 #[.agg (cmA c kv mv), .int .u8 90, sv x] w fun e w' => WordP w B c kv mv 90 x e w' := by
  obtain ⟨ka, kc, hkv, _, _, _, _⟩ := row_shape h.k
  subst hkv
  obtain ⟨ma, mc, hmv, _, _, _, _⟩ := row_shape h.m
  subst hmv
  obtain ⟨b2, hg⟩ := fin60 w #[.int .i64 c.verb, .slice ka c.keys.length kc, .int .u64 c.flags, .int .i64 c.exp, .int .u64 c.tok, .int .u64 c.del, .slice none 0 0, .bool c.nr, .bool false, .slice ma c.mt.length mc, sv c.what] #[.int .i64 c.verb, .slice ka c.keys.length kc, .int .u64 c.flags, .int .i64 c.exp, .int .u64 c.tok, .int .u64 c.del, .slice none 0 0, .bool c.nr, .bool false, .slice ma c.mt.length mc, sv c.what]
  have hk := h.kept hg
  have er : rt1 c 90 x = .inr badLine := by simp [rt1, mpL, take1, hn]
  have hpost : WordP w B c (.slice ka c.keys.length kc) (.slice ma c.mt.length mc) 90 x (.returned (.tuple #[.agg #[.int .i64 c.verb, .slice ka c.keys.length kc, .int .u64 c.flags, .int .i64 c.exp, .int .u64 c.tok, .int .u64 c.del, .slice none 0 0, .bool c.nr, .bool false, .slice ma c.mt.length mc, sv c.what], .int .i64 (-1), sv badLine])) ((w.alloc (.cells #[.int .i64 c.verb, .slice ka c.keys.length kc, .int .u64 c.flags, .int .i64 c.exp, .int .u64 c.tok, .int .u64 c.del, .slice none 0 0, .bool c.nr, .bool false, .slice ma c.mt.length mc, sv c.what] 41)).alloc (.cells #[.int .i64 c.verb, .slice ka c.keys.length kc, .int .u64 c.flags, .int .i64 c.exp, .int .u64 c.tok, .int .u64 c.del, .slice none 0 0, .bool c.nr, .bool false, .slice ma c.mt.length mc, sv c.what] 41)) := ⟨Kp.of hg, by rw [er]; exact ⟨_, _, _, _, _, _, _, _, _, _, _, _, rfl, by simp [Value.oneCell']⟩⟩
  have hz : (x == [48]) = false := by simpa using hn
  clear h hk hg er
  go_enter Tryz.func60, Tryz.ntmps60
  go_wp2
  exact ⟨rfl, _, res60 b2 _ rfl rfl rfl, hpost⟩
theorem word_W_yes {w : World} {B : Nat} {c : Cmd} {kv mv : Value} (h : Kw w B c kv mv) (x : Bs) (hx : x.length <= 65536) (hn : x = reset) :
    Calls Tryz.prog 60 #[.agg (cmA c kv mv), .int .u8 87, sv x] w fun e w' => WordP w B c kv mv 87 x e w' := by
  subst hn
  obtain ⟨ka, kc, hkv, _, _, _, _⟩ := row_shape h.k
  subst hkv
  obtain ⟨ma, mc, hmv, _, _, _, _⟩ := row_shape h.m
  subst hmv
  obtain ⟨b2, hg⟩ := fin60 w #[.int .i64 c.verb, .slice ka c.keys.length kc, .int .u64 c.flags, .int .i64 c.exp, .int .u64 c.tok, .int .u64 c.del, .slice none 0 0, .bool c.nr, .bool false, .slice ma c.mt.length mc, sv reset] #[.int .i64 c.verb, .slice ka c.keys.length kc, .int .u64 c.flags, .int .i64 c.exp, .int .u64 c.tok, .int .u64 c.del, .slice none 0 0, .bool c.nr, .bool false, .slice ma c.mt.length mc, sv reset]
  have hk := h.kept hg
  have er : rt1 c 87 reset = .inl { c with what := reset } := by simp [rt1, mpL, take1]
  have hb : blk 87 reset = -1 := by simp [blk]
  have hpost : WordP w B c (.slice ka c.keys.length kc) (.slice ma c.mt.length mc) 87 reset (.returned (.tuple #[.agg #[.int .i64 c.verb, .slice ka c.keys.length kc, .int .u64 c.flags, .int .i64 c.exp, .int .u64 c.tok, .int .u64 c.del, .slice none 0 0, .bool c.nr, .bool false, .slice ma c.mt.length mc, sv reset], .int .i64 (-1), sv []])) ((w.alloc (.cells #[.int .i64 c.verb, .slice ka c.keys.length kc, .int .u64 c.flags, .int .i64 c.exp, .int .u64 c.tok, .int .u64 c.del, .slice none 0 0, .bool c.nr, .bool false, .slice ma c.mt.length mc, sv reset] 41)).alloc (.cells #[.int .i64 c.verb, .slice ka c.keys.length kc, .int .u64 c.flags, .int .i64 c.exp, .int .u64 c.tok, .int .u64 c.del, .slice none 0 0, .bool c.nr, .bool false, .slice ma c.mt.length mc, sv reset] 41)) := ⟨Kp.of hg, by rw [er]; exact ⟨_, _, by rw [hb], ⟨hk.k, hk.m⟩⟩⟩
  clear h hk hg er hb
  go_enter Tryz.func60, Tryz.ntmps60
  go_wp2
  exact ⟨rfl, _, res60 b2 _ rfl rfl rfl, hpost⟩
theorem word_W_no {w : World} {B : Nat} {c : Cmd} {kv mv : Value} (h : Kw w B c kv mv) (x : Bs) (hx : x.length <= 65536) (hn : ¬ x = reset) :
    Calls Tryz.prog 60 #[.agg (cmA c kv mv), .int .u8 87, sv x] w fun e w' => WordP w B c kv mv 87 x e w' := by
  obtain ⟨ka, kc, hkv, _, _, _, _⟩ := row_shape h.k
  subst hkv
  obtain ⟨ma, mc, hmv, _, _, _, _⟩ := row_shape h.m
  subst hmv
  obtain ⟨b2, hg⟩ := fin60 w #[.int .i64 c.verb, .slice ka c.keys.length kc, .int .u64 c.flags, .int .i64 c.exp, .int .u64 c.tok, .int .u64 c.del, .slice none 0 0, .bool c.nr, .bool false, .slice ma c.mt.length mc, sv x] #[.int .i64 c.verb, .slice ka c.keys.length kc, .int .u64 c.flags, .int .i64 c.exp, .int .u64 c.tok, .int .u64 c.del, .slice none 0 0, .bool c.nr, .bool false, .slice ma c.mt.length mc, sv x]
  have hk := h.kept hg
  have er : rt1 c 87 x = .inr badLine := by simp [rt1, mpL, take1, hn]
  have hpost : WordP w B c (.slice ka c.keys.length kc) (.slice ma c.mt.length mc) 87 x (.returned (.tuple #[.agg #[.int .i64 c.verb, .slice ka c.keys.length kc, .int .u64 c.flags, .int .i64 c.exp, .int .u64 c.tok, .int .u64 c.del, .slice none 0 0, .bool c.nr, .bool false, .slice ma c.mt.length mc, sv x], .int .i64 (-1), sv badLine])) ((w.alloc (.cells #[.int .i64 c.verb, .slice ka c.keys.length kc, .int .u64 c.flags, .int .i64 c.exp, .int .u64 c.tok, .int .u64 c.del, .slice none 0 0, .bool c.nr, .bool false, .slice ma c.mt.length mc, sv x] 41)).alloc (.cells #[.int .i64 c.verb, .slice ka c.keys.length kc, .int .u64 c.flags, .int .i64 c.exp, .int .u64 c.tok, .int .u64 c.del, .slice none 0 0, .bool c.nr, .bool false, .slice ma c.mt.length mc, sv x] 41)) := ⟨Kp.of hg, by rw [er]; exact ⟨_, _, _, _, _, _, _, _, _, _, _, _, rfl, by simp [Value.oneCell']⟩⟩
  have hz : (x == [114, 101, 115, 101, 116]) = false := by simpa using hn
  clear h hk hg er
  go_enter Tryz.func60, Tryz.ntmps60
  go_wp2
  exact ⟨rfl, _, res60 b2 _ rfl rfl rfl, hpost⟩
end Go.Proofs.YtobegepebochkaaGreatDoor

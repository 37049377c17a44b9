import Derived.Test.YtobegepebochkaaGreatDoorVPas
import Derived.Deep.CutRange
import Derived.Test.YtobegepebochkaaGreatDoorVPar
import Derived.Recover
import Derived.Test.YtobegepebochkaaGreatDoorVPap
set_option linter.unusedVariables false
set_option linter.unusedSimpArgs false
namespace Go.Proofs.YtobegepebochkaaGreatDoor
open Go.RowKit Go.Maps
abbrev cmB (c : Cmd) (kv dv mv : Value) (lg : Bool) : Array Value := #[.int .i64 c.verb, kv, .int .u64 c.flags, .int .i64 c.exp, .int .u64 c.tok, .int .u64 c.del, dv, .bool c.nr, .bool lg, mv, sv c.what]
theorem Ws.shape {w : World} {v : Value} {ws : List Bs} (h : Ws w v ws) : ∃ a n c, v = .slice a n c := by
  rcases h with ⟨_, a, c, rfl⟩ | ⟨g, o, c, rfl, _⟩ <;> exact ⟨_, _, _, rfl⟩
theorem Fs.shape {w : World} {v : Value} {ws : List Fl} (h : Fs w v ws) : ∃ a n c, v = .slice a n c := by
  rcases h with ⟨_, a, c, rfl⟩ | ⟨g, c, rfl, _⟩ <;> exact ⟨_, _, _, rfl⟩
theorem Fs.len {w : World} {a : Option Addr} {n c : Nat} {ws : List Fl} (h : Fs w (.slice a n c) ws) : n = ws.length := by
  rcases h with ⟨rfl, a, c, e⟩ | ⟨g, c, e, _⟩
  · injection e
  · injection e
theorem By.shape3 {w : World} {v : Value} {l : Bs} (h : By w v l) : ∃ a n c, v = .slice a n c := by
  rcases h with ⟨_, a, c, rfl⟩ | ⟨g, o, c, rfl, _⟩ <;> exact ⟨_, _, _, rfl⟩
theorem Fs.kept0 {w w' : World} {v : Value} {fs : List Fl} (h : Fs w v fs) (hf : w.grownBy w' none) : Fs w' v fs := by
  rcases h with h | ⟨g, c, e, h⟩
  · exact .inl h
  · exact .inr ⟨g, c, e, fun i f hi => ⟨gb_cellN hf (h i f hi).1, gb_cellN hf (h i f hi).2.1, gb_cellN hf (h i f hi).2.2⟩⟩
theorem Ws.kept0 {w w' : World} {v : Value} {ws : List Bs} (h : Ws w v ws) (hf : w.grownBy w' none) : Ws w' v ws := by
  rcases h with h | ⟨g, o, c, e, h1, h2, h⟩
  · exact .inl h
  · exact .inr ⟨g, o, c, e, h1, Nat.lt_of_lt_of_le h2 hf.size, fun i x hi => gb_cellN hf (h i x hi)⟩
theorem By.kept0 {w w' : World} {v : Value} {l : Bs} (h : By w v l) (hf : w.grownBy w' none) : By w' v l := by
  rcases h with h | ⟨g, o, c, e, h1, h2, h⟩
  · exact .inl h
  · exact .inr ⟨g, o, c, e, h1, Nat.lt_of_lt_of_le h2 hf.size, fun i x hi => gb_cellN hf (h i x hi)⟩
set_option maxRecDepth 100000 in
set_option maxHeartbeats 4000000 in
theorem command_64 {w : World} (c : Cmd) (d : Bs) (lg : Bool) (kv kv' dv dv' mv mv' : Value) (hk : Ws w kv c.keys) (hk' : Ws w kv' c.keys) (hn : c.keys.length ≤ 9223372036854775807) (hm : Fs w mv c.mt) (hm' : Fs w mv' c.mt) (hmn : c.mt.length ≤ 9223372036854775807) (hd : By w dv d) (hd' : By w dv' d) :
    Calls Tryz.prog 64 #[.agg (cmB c kv dv mv lg), .agg (cmB c kv' dv' mv' lg)] w fun e w' => e = .returned (.bool true) ∧ w.grownBy w' none := by
  obtain ⟨a1, n1, c1, rfl⟩ := hk.shape
  obtain ⟨a2, n2, c2, rfl⟩ := hk'.shape
  obtain ⟨a3, n3, c3, rfl⟩ := hm.shape
  obtain ⟨a4, n4, c4, rfl⟩ := hm'.shape
  obtain ⟨a5, n5, c5, rfl⟩ := hd.shape3
  obtain ⟨a6, n6, c6, rfl⟩ := hd'.shape3
  have b1 := Box.new w 41 (cmB c (.slice a1 n1 c1) (.slice a5 n5 c5) (.slice a3 n3 c3) lg)
  have b2 := Box.new (w.alloc (.cells (cmB c (.slice a1 n1 c1) (.slice a5 n5 c5) (.slice a3 n3 c3) lg) 41)) 41 (cmB c (.slice a2 n2 c2) (.slice a6 n6 c6) (.slice a4 n4 c4) lg)
  simp only [World.size_alloc] at b2
  have gA := gb_alloc (gb_refl (w.alloc (.cells (cmB c (.slice a1 n1 c1) (.slice a5 n5 c5) (.slice a3 n3 c3) lg) 41)) none) (.cells (cmB c (.slice a2 n2 c2) (.slice a6 n6 c6) (.slice a4 n4 c4) lg) 41)
  have gW := gb_trans (gb_alloc (gb_refl w none) (.cells (cmB c (.slice a1 n1 c1) (.slice a5 n5 c5) (.slice a3 n3 c3) lg) 41)) gA
  have h82 := fun W (hg : w.grownBy W none) => texts_82 (hk.kept0 hg) (hk'.kept0 hg) hn
  have h104 := fun W (hg : w.grownBy W none) => kflags_104 (hm.kept0 hg) (hm'.kept0 hg) hmn
  clear hk hk' hm hm'
  go_enter Tryz.func64, Tryz.ntmps64
  go_wp2_with (first | (go_at_call 82; go_must ((with_reducible refine (h82 _ gW).mono ?_); rintro e w3 ⟨rfl, hg3⟩; (have z1 := (b1.kept gA (by simp)).kept hg3 (by simp)); (have z2 := b2.kept hg3 (by simp)); (have p0 : w3.cell? ⟨w.heap.size, 0, none⟩ = some (.int .i64 c.verb) := z1.cell 0); (have p1 : w3.cell? ⟨w.heap.size, 1, none⟩ = some (.slice a1 n1 c1) := z1.cell 1); (have p2 : w3.cell? ⟨w.heap.size, 2, none⟩ = some (.int .u64 c.flags) := z1.cell 2); (have p3 : w3.cell? ⟨w.heap.size, 3, none⟩ = some (.int .i64 c.exp) := z1.cell 3); (have p4 : w3.cell? ⟨w.heap.size, 4, none⟩ = some (.int .u64 c.tok) := z1.cell 4); (have p5 : w3.cell? ⟨w.heap.size, 5, none⟩ = some (.int .u64 c.del) := z1.cell 5); (have p6 : w3.cell? ⟨w.heap.size, 6, none⟩ = some (.slice a5 n5 c5) := z1.cell 6); (have p7 : w3.cell? ⟨w.heap.size, 7, none⟩ = some (.bool c.nr) := z1.cell 7); (have p8 : w3.cell? ⟨w.heap.size, 8, none⟩ = some (.bool lg) := z1.cell 8); (have p9 : w3.cell? ⟨w.heap.size, 9, none⟩ = some (.slice a3 n3 c3) := z1.cell 9); (have p10 : w3.cell? ⟨w.heap.size, 10, none⟩ = some (sv c.what) := z1.cell 10); (have q0 : w3.cell? ⟨w.heap.size + 1, 0, none⟩ = some (.int .i64 c.verb) := z2.cell 0); (have q1 : w3.cell? ⟨w.heap.size + 1, 1, none⟩ = some (.slice a2 n2 c2) := z2.cell 1); (have q2 : w3.cell? ⟨w.heap.size + 1, 2, none⟩ = some (.int .u64 c.flags) := z2.cell 2); (have q3 : w3.cell? ⟨w.heap.size + 1, 3, none⟩ = some (.int .i64 c.exp) := z2.cell 3); (have q4 : w3.cell? ⟨w.heap.size + 1, 4, none⟩ = some (.int .u64 c.tok) := z2.cell 4); (have q5 : w3.cell? ⟨w.heap.size + 1, 5, none⟩ = some (.int .u64 c.del) := z2.cell 5); (have q6 : w3.cell? ⟨w.heap.size + 1, 6, none⟩ = some (.slice a6 n6 c6) := z2.cell 6); (have q7 : w3.cell? ⟨w.heap.size + 1, 7, none⟩ = some (.bool c.nr) := z2.cell 7); (have q8 : w3.cell? ⟨w.heap.size + 1, 8, none⟩ = some (.bool lg) := z2.cell 8); (have q9 : w3.cell? ⟨w.heap.size + 1, 9, none⟩ = some (.slice a4 n4 c4) := z2.cell 9); (have q10 : w3.cell? ⟨w.heap.size + 1, 10, none⟩ = some (sv c.what) := z2.cell 10); (have g3 := gb_trans gW hg3); (have cv1 := (hd.kept0 g3).conv); (have cv2 := (hd'.kept0 g3).conv))) | (go_at_call 104; go_must ((with_reducible refine (h104 _ g3).mono ?_); rintro e w4 ⟨rfl, hg4⟩; (have y1 := z1.kept hg4 (by simp)); (have y2 := z2.kept hg4 (by simp)); (have r0 : w4.cell? ⟨w.heap.size, 0, none⟩ = some (.int .i64 c.verb) := y1.cell 0); (have r1 : w4.cell? ⟨w.heap.size, 1, none⟩ = some (.slice a1 n1 c1) := y1.cell 1); (have r2 : w4.cell? ⟨w.heap.size, 2, none⟩ = some (.int .u64 c.flags) := y1.cell 2); (have r3 : w4.cell? ⟨w.heap.size, 3, none⟩ = some (.int .i64 c.exp) := y1.cell 3); (have r4 : w4.cell? ⟨w.heap.size, 4, none⟩ = some (.int .u64 c.tok) := y1.cell 4); (have r5 : w4.cell? ⟨w.heap.size, 5, none⟩ = some (.int .u64 c.del) := y1.cell 5); (have r6 : w4.cell? ⟨w.heap.size, 6, none⟩ = some (.slice a5 n5 c5) := y1.cell 6); (have r7 : w4.cell? ⟨w.heap.size, 7, none⟩ = some (.bool c.nr) := y1.cell 7); (have r8 : w4.cell? ⟨w.heap.size, 8, none⟩ = some (.bool lg) := y1.cell 8); (have r9 : w4.cell? ⟨w.heap.size, 9, none⟩ = some (.slice a3 n3 c3) := y1.cell 9); (have r10 : w4.cell? ⟨w.heap.size, 10, none⟩ = some (sv c.what) := y1.cell 10); (have s0 : w4.cell? ⟨w.heap.size + 1, 0, none⟩ = some (.int .i64 c.verb) := y2.cell 0); (have s1 : w4.cell? ⟨w.heap.size + 1, 1, none⟩ = some (.slice a2 n2 c2) := y2.cell 1); (have s2 : w4.cell? ⟨w.heap.size + 1, 2, none⟩ = some (.int .u64 c.flags) := y2.cell 2); (have s3 : w4.cell? ⟨w.heap.size + 1, 3, none⟩ = some (.int .i64 c.exp) := y2.cell 3); (have s4 : w4.cell? ⟨w.heap.size + 1, 4, none⟩ = some (.int .u64 c.tok) := y2.cell 4); (have s5 : w4.cell? ⟨w.heap.size + 1, 5, none⟩ = some (.int .u64 c.del) := y2.cell 5); (have s6 : w4.cell? ⟨w.heap.size + 1, 6, none⟩ = some (.slice a6 n6 c6) := y2.cell 6); (have s7 : w4.cell? ⟨w.heap.size + 1, 7, none⟩ = some (.bool c.nr) := y2.cell 7); (have s8 : w4.cell? ⟨w.heap.size + 1, 8, none⟩ = some (.bool lg) := y2.cell 8); (have s9 : w4.cell? ⟨w.heap.size + 1, 9, none⟩ = some (.slice a4 n4 c4) := y2.cell 9); (have s10 : w4.cell? ⟨w.heap.size + 1, 10, none⟩ = some (sv c.what) := y2.cell 10))))
  go_ret
  exact ⟨rfl, gb_trans g3 hg4⟩
set_option maxRecDepth 100000 in
set_option maxHeartbeats 4000000 in
theorem same_16 {w : World} (c : Cmd) (d : Bs) (lg : Bool) (kv kv' dv dv' mv mv' : Value) (hk : Ws w kv c.keys) (hk' : Ws w kv' c.keys) (hn : c.keys.length ≤ 9223372036854775807) (hm : Fs w mv c.mt) (hm' : Fs w mv' c.mt) (hmn : c.mt.length ≤ 9223372036854775807) (hd : By w dv d) (hd' : By w dv' d) :
    Calls Tryz.prog 16 #[.agg (cmB c kv dv mv lg), .agg (cmB c kv' dv' mv' lg)] w fun e w' => e = .returned (.bool true) ∧ w.grownBy w' none := by
  obtain ⟨a1, n1, c1, rfl⟩ := hk.shape
  obtain ⟨a2, n2, c2, rfl⟩ := hk'.shape
  obtain ⟨a3, n3, c3, rfl⟩ := hm.shape
  obtain ⟨a4, n4, c4, rfl⟩ := hm'.shape
  obtain ⟨a5, n5, c5, rfl⟩ := hd.shape3
  obtain ⟨a6, n6, c6, rfl⟩ := hd'.shape3
  have b1 := Box.new w 41 (cmB c (.slice a1 n1 c1) (.slice a5 n5 c5) (.slice a3 n3 c3) lg)
  have b2 := Box.new (w.alloc (.cells (cmB c (.slice a1 n1 c1) (.slice a5 n5 c5) (.slice a3 n3 c3) lg) 41)) 41 (cmB c (.slice a2 n2 c2) (.slice a6 n6 c6) (.slice a4 n4 c4) lg)
  simp only [World.size_alloc] at b2
  have gA := gb_alloc (gb_refl (w.alloc (.cells (cmB c (.slice a1 n1 c1) (.slice a5 n5 c5) (.slice a3 n3 c3) lg) 41)) none) (.cells (cmB c (.slice a2 n2 c2) (.slice a6 n6 c6) (.slice a4 n4 c4) lg) 41)
  have gW := gb_trans (gb_alloc (gb_refl w none) (.cells (cmB c (.slice a1 n1 c1) (.slice a5 n5 c5) (.slice a3 n3 c3) lg) 41)) gA
  have h64 := command_64 c d lg (.slice a1 n1 c1) (.slice a2 n2 c2) (.slice a5 n5 c5) (.slice a6 n6 c6) (.slice a3 n3 c3) (.slice a4 n4 c4) (hk.kept0 gW) (hk'.kept0 gW) hn (hm.kept0 gW) (hm'.kept0 gW) hmn (hd.kept0 gW) (hd'.kept0 gW)
  have hnn : c.mt.length = n3 := hm.len.symm
  have e4 : n3 = n4 := hm.len.trans hm'.len.symm
  subst e4
  have key : ∀ {a : Option Addr} {c' : Nat}, Fs w (.slice a n3 c') c.mt → ∀ i f, c.mt[i]? = some f → ∃ g, a = some ⟨g, 0, none⟩ ∧ w.cell? ⟨g, i * 3, none⟩ = some (.int .u8 f.letter.toNat) ∧ w.cell? ⟨g, i * 3 + 1, none⟩ = some (sv f.arg) ∧ w.cell? ⟨g, i * 3 + 2, none⟩ = some (.bool f.has) := by
    intro a c' hu i f hf
    rcases hu with ⟨h0, a, c, e⟩ | ⟨g, c, e, h⟩
    · rw [h0] at hf; simp at hf
    · injection e with e
      exact ⟨g, e, h i f hf⟩
  have hcu := key hm
  have hcv := key hm'
  clear hk hk' hm hm' hd hd' key
  go_enter Tryz.func16, Tryz.ntmps16
  go_wp2_with (go_at_call 64; go_must ((with_reducible refine h64.mono ?_); rintro e w3 ⟨rfl, hg3⟩; (have z1 := (b1.kept gA (by simp)).kept hg3 (by simp)); (have z2 := b2.kept hg3 (by simp)); (have p0 : w3.cell? ⟨w.heap.size, 0, none⟩ = some (.int .i64 c.verb) := z1.cell 0); (have p1 : w3.cell? ⟨w.heap.size, 1, none⟩ = some (.slice a1 n1 c1) := z1.cell 1); (have p2 : w3.cell? ⟨w.heap.size, 2, none⟩ = some (.int .u64 c.flags) := z1.cell 2); (have p3 : w3.cell? ⟨w.heap.size, 3, none⟩ = some (.int .i64 c.exp) := z1.cell 3); (have p4 : w3.cell? ⟨w.heap.size, 4, none⟩ = some (.int .u64 c.tok) := z1.cell 4); (have p5 : w3.cell? ⟨w.heap.size, 5, none⟩ = some (.int .u64 c.del) := z1.cell 5); (have p6 : w3.cell? ⟨w.heap.size, 6, none⟩ = some (.slice a5 n5 c5) := z1.cell 6); (have p7 : w3.cell? ⟨w.heap.size, 7, none⟩ = some (.bool c.nr) := z1.cell 7); (have p8 : w3.cell? ⟨w.heap.size, 8, none⟩ = some (.bool lg) := z1.cell 8); (have p9 : w3.cell? ⟨w.heap.size, 9, none⟩ = some (.slice a3 n3 c3) := z1.cell 9); (have p10 : w3.cell? ⟨w.heap.size, 10, none⟩ = some (sv c.what) := z1.cell 10); (have q0 : w3.cell? ⟨w.heap.size + 1, 0, none⟩ = some (.int .i64 c.verb) := z2.cell 0); (have q1 : w3.cell? ⟨w.heap.size + 1, 1, none⟩ = some (.slice a2 n2 c2) := z2.cell 1); (have q2 : w3.cell? ⟨w.heap.size + 1, 2, none⟩ = some (.int .u64 c.flags) := z2.cell 2); (have q3 : w3.cell? ⟨w.heap.size + 1, 3, none⟩ = some (.int .i64 c.exp) := z2.cell 3); (have q4 : w3.cell? ⟨w.heap.size + 1, 4, none⟩ = some (.int .u64 c.tok) := z2.cell 4); (have q5 : w3.cell? ⟨w.heap.size + 1, 5, none⟩ = some (.int .u64 c.del) := z2.cell 5); (have q6 : w3.cell? ⟨w.heap.size + 1, 6, none⟩ = some (.slice a6 n6 c6) := z2.cell 6); (have q7 : w3.cell? ⟨w.heap.size + 1, 7, none⟩ = some (.bool c.nr) := z2.cell 7); (have q8 : w3.cell? ⟨w.heap.size + 1, 8, none⟩ = some (.bool lg) := z2.cell 8); (have q9 : w3.cell? ⟨w.heap.size + 1, 9, none⟩ = some (.slice a4 n3 c4) := z2.cell 9); (have q10 : w3.cell? ⟨w.heap.size + 1, 10, none⟩ = some (sv c.what) := z2.cell 10); (have g3 := gb_trans gW hg3)))
  go_loopw [5] (fun x wr => ∃ k : Nat, k ≤ n3 ∧ x = .int .i64 k ∧ w3.grownBy wr none) (fun x _ => n3 - (intOf x).toNat)
  case atStart => exact ⟨0, by omega, rfl, gb_refl _ _⟩
  case round =>
    obtain ⟨k, hk, rfl, hg⟩ := hrel
    have o9 := gb_cellN hg p9
    have t9 := gb_cellN hg q9
    rcases (by omega : k < n3 ∨ k = n3) with hlt | rfl
    · obtain ⟨⟨fl, fa, fh⟩, hx⟩ : ∃ x, c.mt[k]? = some x := ⟨_, List.getElem?_eq_getElem (by omega)⟩
      obtain ⟨g1, rfl, c1, c2, c3⟩ := hcu k _ hx
      obtain ⟨g2, rfl, e1, e2, e3⟩ := hcv k _ hx
      have gg := gb_trans g3 hg
      replace c1 := gb_cellN gg c1
      replace c2 := gb_cellN gg c2
      replace c3 := gb_cellN gg c3
      replace e1 := gb_cellN gg e1
      replace e2 := gb_cellN gg e2
      replace e3 := gb_cellN gg e3
      dsimp only at c1 c2 c3 e1 e2 e3
      have d1 : ((k : Int) < (n3 : Int)) := by omega
      clear hcu hcv
      go_wp2
      go_quiet (fail)
      go_wp2
      refine ⟨⟨k + 1, by omega, by simp, gb_drewN hg _⟩, by simp [intOf]; omega⟩
    · have d1 : decide ((k : Int) < (k : Int)) = false := decide_eq_false (by omega)
      go_wp2
      go_ret
      exact ⟨rfl, gb_trans g3 hg⟩
end Go.Proofs.YtobegepebochkaaGreatDoor
namespace Go.Proofs.YtobegepebochkaaGreatDoor
open Go.RowKit Go.Maps
def Fi (w : World) (v : Value) (fs : List Fl) : Prop := (fs = [] ∧ (v = .slice none 0 0 ∨ ∃ a c, v = .slice (some a) 0 c)) ∨ ∃ g o c, v = .slice (some ⟨g, o, none⟩) fs.length c ∧ ∀ i f, fs[i]? = some f →
  w.cell? ⟨g, o + i * 3, none⟩ = some (.int .u8 f.letter.toNat) ∧ w.cell? ⟨g, o + i * 3 + 1, none⟩ = some (sv f.arg) ∧ w.cell? ⟨g, o + i * 3 + 2, none⟩ = some (.bool f.has)
theorem Fi.fg {w : World} {v : Value} {fs : List Fl} (h : Fi w v fs) : Fg w v fs := by
  rcases h with ⟨h1, h2 | ⟨a, c, h2⟩⟩ | h
  · exact .inl ⟨h1, _, _, h2⟩
  · exact .inl ⟨h1, _, _, h2⟩
  · exact .inr h
theorem Fi.kept {w w' : World} {v : Value} {fs : List Fl} (h : Fi w v fs) (hf : w.grownBy w' none) : Fi w' v fs := by
  rcases h with h | ⟨g, o, c, e, h⟩
  · exact .inl h
  · exact .inr ⟨g, o, c, e, fun i f hi => ⟨gb_cellN hf (h i f hi).1, gb_cellN hf (h i f hi).2.1, gb_cellN hf (h i f hi).2.2⟩⟩
theorem fcs_len (fs : List Fl) : (fcs fs).length = fs.length * 3 := by
  induction fs with
  | nil => rfl
  | cons f l ih => rw [show fcs (f :: l) = .int .u8 f.letter.toNat :: sv f.arg :: .bool f.has :: fcs l from rfl]; simp [ih]; omega
theorem fcs_one {fs : List Fl} : ∀ u ∈ fcs fs, u.oneCell' = true := by
  intro u hu
  simp only [fcs, List.mem_flatMap] at hu
  obtain ⟨f, _, hu⟩ := hu
  simp at hu
  rcases hu with rfl | rfl | rfl <;> rfl
theorem fcs_at {w : World} {g o : Nat} : ∀ (fs : List Fl), (∀ i f, fs[i]? = some f → w.cell? ⟨g, o + i * 3, none⟩ = some (.int .u8 f.letter.toNat) ∧ w.cell? ⟨g, o + i * 3 + 1, none⟩ = some (sv f.arg) ∧ w.cell? ⟨g, o + i * 3 + 2, none⟩ = some (.bool f.has)) →
    ∀ j u, (fcs fs)[j]? = some u → w.cell? ⟨g, o + j, none⟩ = some u := by
  intro fs h j u hj
  have hl : j < fs.length * 3 := by rw [← fcs_len]; exact (List.getElem?_eq_some_iff.1 hj).1
  obtain ⟨f, hf⟩ : ∃ f, fs[j / 3]? = some f := ⟨_, List.getElem?_eq_getElem (by omega)⟩
  obtain ⟨a, b, d⟩ := fcs_get3 fs (j / 3) f hf
  obtain ⟨x, y, z⟩ := h (j / 3) f hf
  have hr : j = j / 3 * 3 ∨ j = j / 3 * 3 + 1 ∨ j = j / 3 * 3 + 2 := by omega
  rcases hr with e | e | e
  · rw [← e] at a x; rw [a] at hj; injection hj with hj; rw [x, hj]
  · rw [← e] at b; rw [b] at hj; injection hj with hj
    rw [← hj, ← y]; congr 2; omega
  · rw [← e] at d; rw [d] at hj; injection hj with hj
    rw [← hj, ← z]; congr 2; omega
section
variable {w : World} {ops : Array Oper} {rest : List Oper} {o : Oper} {a : Act} {Q : Exit → Act → World → Prop}
theorem more79 (hgd : o.guard = none) (s x : Operand) (ho : o.op = .call { callee := .builtin .append, args := #[s, x], argTypes := #[39, 39] })
    (B : Nat) (v : Value) (n : Nat) (xs : List Value) (hs : a.eval s = v) (hown : w.ownsRow B 79 3 v n xs) (uv : Value) (fs : List Fl) (hx : a.eval x = uv) (hu : Fi w uv fs) (hn : (n + fs.length) * 32 ≤ 140737488355328) (hB : B ≤ w.heap.size)
    (h : ∀ v' w', w'.ownsRow B 79 3 v' (n + fs.length) (xs ++ fcs fs) → w.grownBy w' v.ownBlock → wpList Tryz.prog ops Q rest (a.put o.dst v') w') : wpList Tryz.prog ops Q (o :: rest) a w := by
  obtain ⟨i0, hi, hz0, hz1, hz2⟩ := info_parts Tryz.info79
  rcases hu with ⟨rfl, rfl | ⟨ad, cap, rfl⟩⟩ | ⟨g, o', cap, rfl, hc⟩
  rotate_left
  · refine wpList_append_own w hgd s x 39 ho B 79 i0 _ 3 32 Tryz.underlying39 hi hz0 hz1 hz2 rfl (by decide) _ _ _ hs hown ad 0 cap [] hx rfl (fun j u hj => by simp at hj) (fun u hu => by simp at hu) ?_ ?_ hB ?_
    · simp at hn; unfold maxLen; omega
    · simp at hn; omega
    · intro v' w' hown' hgr _
      exact h v' w' (by simpa [fcs] using hown') hgr
  rotate_left
  · refine wpList_append_own_none hgd s x 39 ho B 79 i0 3 Tryz.underlying39 hi _ _ _ hs hown hx ?_
    exact h v w (by simpa [fcs] using hown) (gb_refl _ _)
  · refine wpList_append_own w hgd s x 39 ho B 79 i0 _ 3 32 Tryz.underlying39 hi hz0 hz1 hz2 rfl (by decide) _ _ _ hs hown ⟨g, o', none⟩ fs.length cap (fcs fs) hx (fcs_len fs) ?_ fcs_one ?_ ?_ hB ?_
    · intro j u hj
      rw [Addr.add_mid]
      exact fcs_at fs hc j u hj
    · unfold maxLen; omega
    · omega
    · intro v' w' hown' hgr _
      exact h v' w' hown' hgr
end
end Go.Proofs.YtobegepebochkaaGreatDoor
namespace Go.Proofs.YtobegepebochkaaGreatDoor
open Go.RowKit Go.Maps
attribute [local go_sem] Oper.semAt_some
theorem hsz2 (w : World) (o o' : Obj) : ((w.alloc o).alloc o').heap.size = w.heap.size + 2 := by simp
end Go.Proofs.YtobegepebochkaaGreatDoor
namespace Go.Proofs.YtobegepebochkaaGreatDoor
open Go.RowKit Go.Maps
theorem assert59 (s : ByteArray) (w : World) : (Instr.typeAssert (.iface 187 (.string s)) 20 187 true).run Tryz.prog w = .ok (.tuple #[.string s, .bool true]) w := by
  simp [Instr.typeAssert, go_sem, Tryz.underlying187, Tryz.underlying20]
abbrev wrv (t : Bs) (p : Int) : Value := .agg #[.int .i64 (if t = [] then 1 else 2), sv t, .int .i64 p]
set_option maxRecDepth 100000 in
set_option maxHeartbeats 4000000 in
theorem wrong_15 (t : Bs) (p : Int) (w : World) :
    Calls Tryz.prog 100 #[.iface 187 (sv t), .int .i64 p] w fun e w' => e = .returned (wrv t p) ∧ w.grownBy w' none := by
  have hb := Box.new w 43 #[.int .i64 0, .string ⟨#[]⟩, .int .i64 0]
  have hta := assert59
  by_cases ht : t = []
  · subst ht
    go_enter Tryz.func100, Tryz.ntmps100
    go_wp2
    exact ⟨rfl, _, res15 (Box.new w 43 _) _ rfl, by simp, gb_alloc (gb_refl _ _) _⟩
  · have d1 : (t == []) = false := beq_eq_false_iff_ne.2 ht
    have d2 : t.isEmpty = false := by simpa using ht
    go_enter Tryz.func100, Tryz.ntmps100
    go_wp2
    exact ⟨rfl, _, res15 (Box.new w 43 _) _ rfl, by simp [ht], gb_alloc (gb_refl _ _) _⟩
set_option maxRecDepth 100000 in
set_option maxHeartbeats 4000000 in
theorem catch_14 {w : World} {pb cb bb wb : Nat} (t : Bs) (p : Int) (older : List PanicEntry) (a1 a2 a3 a4 a5 a6 a7 a8 a9 a10 a11 d e0 e1 e2 : Value) (hp : Box w 3 pb #[.int .i64 p]) (hc : Box w 41 cb #[a1, a2, a3, a4, a5, a6, a7, a8, a9, a10, a11]) (hb : Box w 3 bb #[d]) (hw : Box w 43 wb #[e0, e1, e2]) (hne : bb ≠ pb) :
    CallsD Tryz.prog 99 #[.pointer (some ⟨pb, 0, none⟩), .pointer (some ⟨cb, 0, none⟩), .pointer (some ⟨bb, 0, none⟩), .pointer (some ⟨wb, 0, none⟩)] (.panicking ({ v := .iface 187 (sv t), recovered := false } :: older)) w fun e u' w' =>
      e = .returned (.tuple #[]) ∧ u' = .panicking ({ v := .iface 187 (sv t), recovered := true } :: older) ∧ Box w' 41 cb (Z31 0 false) ∧ Box w' 3 bb #[.int .i64 (-1)] ∧ Box w' 43 wb #[.int .i64 (if t = [] then 1 else 2), sv t, .int .i64 p] ∧ Kp (fun k => k = cb ∨ k = bb ∨ k = wb) w w' := by
  have h15 : ∀ W, Calls Tryz.prog 100 #[.iface 187 (sv t), .int .i64 p] W fun e w' => e = .returned (.agg #[.int .i64 (if t = [] then 1 else 2), sv t, .int .i64 p]) ∧ W.grownBy w' none := fun W => wrong_15 t p W
  obtain ⟨kd, hkd⟩ : ∃ kd : Int, (if t = [] then (1 : Int) else 2) = kd := ⟨_, rfl⟩
  rw [hkd] at h15 ⊢
  clear hkd
  refine callsD_of_wpS Tryz.func99 rfl fun c₀ cs hu => ?_
  apply wpS_seq
  apply wpS_region
  simp [wpOpsS, go_sem, recoverD, hu, Tryz.ntmps99, Exit.thenS]
  refine wpS_of_wp ?_
  simp only [Array.replicate_succ, Array.replicate_zero, List.push_toArray, List.append_toArray, List.setIfInBounds_toArray, List.set_cons_zero, List.set_cons_succ, List.nil_append, List.cons_append]
  have hp0 : w.cell? ⟨pb, 0, none⟩ = some (.int .i64 p) := hp.cell 0
  have n1 : ¬ cb = bb := ne_of_type hc hb (by decide)
  have n2 : ¬ cb = wb := ne_of_type hc hw (by decide)
  have n3 : ¬ bb = wb := ne_of_type hb hw (by decide)
  have m1 : ¬ bb = cb := fun e => n1 e.symm
  have m2 : ¬ wb = cb := fun e => n2 e.symm
  have m3 : ¬ wb = bb := fun e => n3 e.symm
  go_wp2_with (go_at_call 100; go_must ((with_reducible refine (h15 _).mono ?_); rintro e w2 ⟨rfl, hg2⟩; (have hc1 := hc.kept hg2 (by simp)); (have hb1 := hb.kept hg2 (by simp)); (have hw1 := hw.kept hg2 (by simp)); (have cbz0 := hc1.fz 0); (have cbz1 := hc1.fz 1); (have cbz2 := hc1.fz 2); (have cbz3 := hc1.fz 3); (have cbz4 := hc1.fz 4); (have cbz5 := hc1.fz 5); (have cbz6 := hc1.fz 6); (have cbz7 := hc1.fz 7); (have cbz8 := hc1.fz 8); (have cbz9 := hc1.fz 9); (have cbz10 := hc1.fz 10); (have cbc0 : w2.cell? ⟨cb, 0, none⟩ = some a1 := hc1.cell 0); (have cbc1 : w2.cell? ⟨cb, 1, none⟩ = some a2 := hc1.cell 1); (have cbc2 : w2.cell? ⟨cb, 2, none⟩ = some a3 := hc1.cell 2); (have cbc3 : w2.cell? ⟨cb, 3, none⟩ = some a4 := hc1.cell 3); (have cbc4 : w2.cell? ⟨cb, 4, none⟩ = some a5 := hc1.cell 4); (have cbc5 : w2.cell? ⟨cb, 5, none⟩ = some a6 := hc1.cell 5); (have cbc6 : w2.cell? ⟨cb, 6, none⟩ = some a7 := hc1.cell 6); (have cbc7 : w2.cell? ⟨cb, 7, none⟩ = some a8 := hc1.cell 7); (have cbc8 : w2.cell? ⟨cb, 8, none⟩ = some a9 := hc1.cell 8); (have cbc9 : w2.cell? ⟨cb, 9, none⟩ = some a10 := hc1.cell 9); (have cbc10 : w2.cell? ⟨cb, 10, none⟩ = some a11 := hc1.cell 10); (have bbz0 := hb1.fz 0); (have bbc0 : w2.cell? ⟨bb, 0, none⟩ = some d := hb1.cell 0); (have wbz0 := hw1.fz 0); (have wbz1 := hw1.fz 1); (have wbz2 := hw1.fz 2); (have wbc0 : w2.cell? ⟨wb, 0, none⟩ = some e0 := hw1.cell 0); (have wbc1 : w2.cell? ⟨wb, 1, none⟩ = some e1 := hw1.cell 1); (have wbc2 : w2.cell? ⟨wb, 2, none⟩ = some e2 := hw1.cell 2)))
  obtain ⟨hx1, gx1⟩ := box11 (v0 := (.int .i64 0)) (v1 := (.slice none 0 0)) (v2 := (.int .u64 0)) (v3 := (.int .i64 0)) (v4 := (.int .u64 0)) (v5 := (.int .u64 0)) (v6 := (.slice none 0 0)) (v7 := (.bool false)) (v8 := (.bool false)) (v9 := (.slice none 0 0)) (v10 := (.string ⟨#[]⟩)) hc1
  generalize (((((((((((w2.setCell ⟨cb, 0, none⟩ (.int .i64 0)).setCell ⟨cb, 1, none⟩ (.slice none 0 0)).setCell ⟨cb, 2, none⟩ (.int .u64 0)).setCell ⟨cb, 3, none⟩ (.int .i64 0)).setCell ⟨cb, 4, none⟩ (.int .u64 0)).setCell ⟨cb, 5, none⟩ (.int .u64 0)).setCell ⟨cb, 6, none⟩ (.slice none 0 0)).setCell ⟨cb, 7, none⟩ (.bool false)).setCell ⟨cb, 8, none⟩ (.bool false)).setCell ⟨cb, 9, none⟩ (.slice none 0 0)).setCell ⟨cb, 10, none⟩ (.string ⟨#[]⟩)) = S1 at hx1 gx1 ⊢
  have hb2 := hb1.kept gx1 (by simp [m1])
  have hw2 := hw1.kept gx1 (by simp [m2])
  have hb3 := hb2.set 0 (.int .i64 (-1))
  have gx2 : S1.grownBy (S1.setCell ⟨bb, 0, none⟩ (.int .i64 (-1))) (some bb) := gb_setCell (gb_refl _ _) _
  have hx2 := hx1.kept gx2 (by simp [n1])
  have hw3 := hw2.kept gx2 (by simp [m3])
  simp only [List.setIfInBounds_toArray, List.set_cons_zero] at hb3
  generalize S1.setCell ⟨bb, 0, none⟩ (.int .i64 (-1)) = S2 at hb3 gx2 hx2 hw3 ⊢
  obtain ⟨hw4, gx3⟩ := box3 (v0 := .int .i64 kd) (v1 := .string ⟨t.toArray⟩) (v2 := .int .i64 p) hw3
  have hx3 := hx2.kept gx3 (by simp [n2])
  have hb4 := hb3.kept gx3 (by simp [n3])
  generalize ((S2.setCell ⟨wb, 0, none⟩ (.int .i64 kd)).setCell ⟨wb, 1, none⟩ (.string ⟨t.toArray⟩)).setCell ⟨wb, 2, none⟩ (.int .i64 p) = S3 at hw4 gx3 hx3 hb4 ⊢
  have hkp : Kp (fun k => k = cb ∨ k = bb ∨ k = wb) w S3 := (((Kp.of hg2).step gx1 (fun i e => by cases e; exact .inl (.inl rfl))).step gx2 (fun i e => by cases e; exact .inl (.inr (.inl rfl)))).step gx3 (fun i e => by cases e; exact .inl (.inr (.inr rfl)))
  simp [bodyPostS, results, Tryz.results99]
  exact ⟨hx3, hb4, hw4, hkp⟩
theorem idle_14 (p1 p2 p3 p4 : Addr) (w : World) :
    CallsD Tryz.prog 99 #[.pointer (some p1), .pointer (some p2), .pointer (some p3), .pointer (some p4)] .returning w fun e u' w' => e = .returned (.tuple #[]) ∧ u' = .returning ∧ w' = w := by
  refine callsD_of_wpS Tryz.func99 rfl fun c₀ cs hu => ?_
  apply wpS_seq
  apply wpS_region
  simp [wpOpsS, go_sem, recoverD, hu, Tryz.ntmps99, Exit.thenS]
  refine wpS_of_wp ?_
  simp only [Array.replicate_succ, Array.replicate_zero, List.push_toArray, List.append_toArray, List.setIfInBounds_toArray, List.set_cons_zero, List.set_cons_succ, List.nil_append, List.cons_append]
  go_wp2
  cases c₀
  simp_all [bodyPostS, results, Tryz.results99]
end Go.Proofs.YtobegepebochkaaGreatDoor

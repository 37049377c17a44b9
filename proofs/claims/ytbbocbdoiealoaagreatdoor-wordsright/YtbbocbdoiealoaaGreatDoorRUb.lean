import Derived.Test.YtbbocbdoiealoaaGreatDoorRPas
set_option linter.unusedVariables false
set_option linter.unusedSimpArgs false
namespace Go.Proofs.YtbbocbdoiealoaaGreatDoor
open Go.RowKit Go.Maps
abbrev cmB (c : Cmd) (kv dv mv : Value) (lg : Bool) : Array Value := #[.int .i64 c.verb, kv, .int .u64 c.flags, .int .i64 c.exp, .int .u64 c.tok, .int .u64 c.del, dv, .bool c.nr, .bool lg, mv, sv c.what]
theorem Ws.shape {w : World} {v : Value} {ws : List Bs} (h : Ws w v ws) : ∃ a n c, v = .slice a n c := by
  rcases h with ⟨_, a, c, rfl⟩ | ⟨g, o, c, rfl, _⟩ <;> exact ⟨_, _, _, rfl⟩
theorem Fs.shape {w : World} {v : Value} {ws : List Fl} (h : Fs w v ws) : ∃ a n c, v = .slice a n c := by
  rcases h with ⟨_, a, c, rfl⟩ | ⟨g, c, rfl, _⟩ <;> exact ⟨_, _, _, rfl⟩
theorem Fs.len {w : World} {a : Option Addr} {n c : Nat} {ws : List Fl} (h : Fs w (.slice a n c) ws) : n = ws.length := by
  rcases h with ⟨rfl, a, c, e⟩ | ⟨g, c, e, _⟩
  · injection e
  · injection e
theorem By.shape3 {w : World} {v : Value} {l : Bs} (h : By w v l) : ∃ a n c, v = .slice a n c := by
  rcases h with ⟨_, a, c, rfl⟩ | ⟨g, o, c, rfl, _⟩ <;> exact ⟨_, _, _, rfl⟩
theorem Fs.kept0 {w w' : World} {v : Value} {fs : List Fl} (h : Fs w v fs) (hf : w.grownBy w' none) : Fs w' v fs := by
  rcases h with h | ⟨g, c, e, h⟩
  · exact .inl h
  · exact .inr ⟨g, c, e, fun i f hi => ⟨gb_cellN hf (h i f hi).1, gb_cellN hf (h i f hi).2.1, gb_cellN hf (h i f hi).2.2⟩⟩
theorem Ws.kept0 {w w' : World} {v : Value} {ws : List Bs} (h : Ws w v ws) (hf : w.grownBy w' none) : Ws w' v ws := by
  rcases h with h | ⟨g, o, c, e, h1, h2, h⟩
  · exact .inl h
  · exact .inr ⟨g, o, c, e, h1, Nat.lt_of_lt_of_le h2 hf.size, fun i x hi => gb_cellN hf (h i x hi)⟩
theorem By.kept0 {w w' : World} {v : Value} {l : Bs} (h : By w v l) (hf : w.grownBy w' none) : By w' v l := by
  rcases h with h | ⟨g, o, c, e, h1, h2, h⟩
  · exact .inl h
  · exact .inr ⟨g, o, c, e, h1, Nat.lt_of_lt_of_le h2 hf.size, fun i x hi => gb_cellN hf (h i x hi)⟩
set_option maxRecDepth 100000 in
set_option maxHeartbeats 4000000 in
theorem command_64 {w : World} (c : Cmd) (d : Bs) (lg : Bool) (kv kv' dv dv' mv mv' : Value) (hk : Ws w kv c.keys) (hk' : Ws w kv' c.keys) (hn : c.keys.length ≤ 9223372036854775807) (hm : Fs w mv c.mt) (hm' : Fs w mv' c.mt) (hmn : c.mt.length ≤ 9223372036854775807) (hd : By w dv d) (hd' : By w dv' d) :
    Calls Tryz.prog 69 #[.agg (cmB c kv dv mv lg), .agg (cmB c kv' dv' mv' lg)] w fun e w' => e = .returned (.bool true) ∧ w.grownBy w' none := by
  obtain ⟨a1, n1, c1, rfl⟩ := hk.shape
  obtain ⟨a2, n2, c2, rfl⟩ := hk'.shape
  obtain ⟨a3, n3, c3, rfl⟩ := hm.shape
  obtain ⟨a4, n4, c4, rfl⟩ := hm'.shape
  obtain ⟨a5, n5, c5, rfl⟩ := hd.shape3
  obtain ⟨a6, n6, c6, rfl⟩ := hd'.shape3
  have b1 := Box.new w 41 (cmB c (.slice a1 n1 c1) (.slice a5 n5 c5) (.slice a3 n3 c3) lg)
  have b2 := Box.new (w.alloc (.cells (cmB c (.slice a1 n1 c1) (.slice a5 n5 c5) (.slice a3 n3 c3) lg) 41)) 41 (cmB c (.slice a2 n2 c2) (.slice a6 n6 c6) (.slice a4 n4 c4) lg)
  simp only [World.size_alloc] at b2
  have gA := gb_alloc (gb_refl (w.alloc (.cells (cmB c (.slice a1 n1 c1) (.slice a5 n5 c5) (.slice a3 n3 c3) lg) 41)) none) (.cells (cmB c (.slice a2 n2 c2) (.slice a6 n6 c6) (.slice a4 n4 c4) lg) 41)
  have gW := gb_trans (gb_alloc (gb_refl w none) (.cells (cmB c (.slice a1 n1 c1) (.slice a5 n5 c5) (.slice a3 n3 c3) lg) 41)) gA
  have h82 := fun W (hg : w.grownBy W none) => texts_82 (hk.kept0 hg) (hk'.kept0 hg) hn
  have h104 := fun W (hg : w.grownBy W none) => kflags_104 (hm.kept0 hg) (hm'.kept0 hg) hmn
  clear hk hk' hm hm'
  go_enter Tryz.func69, Tryz.ntmps69
  go_wp2_with (first | (go_at_call 87; go_must ((with_reducible refine (h82 _ gW).mono ?_); rintro e w3 ⟨rfl, hg3⟩; (have z1 := (b1.kept gA (by simp)).kept hg3 (by simp)); (have z2 := b2.kept hg3 (by simp)); (have p0 : w3.cell? ⟨w.heap.size, 0, none⟩ = some (.int .i64 c.verb) := z1.cell 0); (have p1 : w3.cell? ⟨w.heap.size, 1, none⟩ = some (.slice a1 n1 c1) := z1.cell 1); (have p2 : w3.cell? ⟨w.heap.size, 2, none⟩ = some (.int .u64 c.flags) := z1.cell 2); (have p3 : w3.cell? ⟨w.heap.size, 3, none⟩ = some (.int .i64 c.exp) := z1.cell 3); (have p4 : w3.cell? ⟨w.heap.size, 4, none⟩ = some (.int .u64 c.tok) := z1.cell 4); (have p5 : w3.cell? ⟨w.heap.size, 5, none⟩ = some (.int .u64 c.del) := z1.cell 5); (have p6 : w3.cell? ⟨w.heap.size, 6, none⟩ = some (.slice a5 n5 c5) := z1.cell 6); (have p7 : w3.cell? ⟨w.heap.size, 7, none⟩ = some (.bool c.nr) := z1.cell 7); (have p8 : w3.cell? ⟨w.heap.size, 8, none⟩ = some (.bool lg) := z1.cell 8); (have p9 : w3.cell? ⟨w.heap.size, 9, none⟩ = some (.slice a3 n3 c3) := z1.cell 9); (have p10 : w3.cell? ⟨w.heap.size, 10, none⟩ = some (sv c.what) := z1.cell 10); (have q0 : w3.cell? ⟨w.heap.size + 1, 0, none⟩ = some (.int .i64 c.verb) := z2.cell 0); (have q1 : w3.cell? ⟨w.heap.size + 1, 1, none⟩ = some (.slice a2 n2 c2) := z2.cell 1); (have q2 : w3.cell? ⟨w.heap.size + 1, 2, none⟩ = some (.int .u64 c.flags) := z2.cell 2); (have q3 : w3.cell? ⟨w.heap.size + 1, 3, none⟩ = some (.int .i64 c.exp) := z2.cell 3); (have q4 : w3.cell? ⟨w.heap.size + 1, 4, none⟩ = some (.int .u64 c.tok) := z2.cell 4); (have q5 : w3.cell? ⟨w.heap.size + 1, 5, none⟩ = some (.int .u64 c.del) := z2.cell 5); (have q6 : w3.cell? ⟨w.heap.size + 1, 6, none⟩ = some (.slice a6 n6 c6) := z2.cell 6); (have q7 : w3.cell? ⟨w.heap.size + 1, 7, none⟩ = some (.bool c.nr) := z2.cell 7); (have q8 : w3.cell? ⟨w.heap.size + 1, 8, none⟩ = some (.bool lg) := z2.cell 8); (have q9 : w3.cell? ⟨w.heap.size + 1, 9, none⟩ = some (.slice a4 n4 c4) := z2.cell 9); (have q10 : w3.cell? ⟨w.heap.size + 1, 10, none⟩ = some (sv c.what) := z2.cell 10); (have g3 := gb_trans gW hg3); (have cv1 := (hd.kept0 g3).conv); (have cv2 := (hd'.kept0 g3).conv))) | (go_at_call 109; go_must ((with_reducible refine (h104 _ g3).mono ?_); rintro e w4 ⟨rfl, hg4⟩; (have y1 := z1.kept hg4 (by simp)); (have y2 := z2.kept hg4 (by simp)); (have r0 : w4.cell? ⟨w.heap.size, 0, none⟩ = some (.int .i64 c.verb) := y1.cell 0); (have r1 : w4.cell? ⟨w.heap.size, 1, none⟩ = some (.slice a1 n1 c1) := y1.cell 1); (have r2 : w4.cell? ⟨w.heap.size, 2, none⟩ = some (.int .u64 c.flags) := y1.cell 2); (have r3 : w4.cell? ⟨w.heap.size, 3, none⟩ = some (.int .i64 c.exp) := y1.cell 3); (have r4 : w4.cell? ⟨w.heap.size, 4, none⟩ = some (.int .u64 c.tok) := y1.cell 4); (have r5 : w4.cell? ⟨w.heap.size, 5, none⟩ = some (.int .u64 c.del) := y1.cell 5); (have r6 : w4.cell? ⟨w.heap.size, 6, none⟩ = some (.slice a5 n5 c5) := y1.cell 6); (have r7 : w4.cell? ⟨w.heap.size, 7, none⟩ = some (.bool c.nr) := y1.cell 7); (have r8 : w4.cell? ⟨w.heap.size, 8, none⟩ = some (.bool lg) := y1.cell 8); (have r9 : w4.cell? ⟨w.heap.size, 9, none⟩ = some (.slice a3 n3 c3) := y1.cell 9); (have r10 : w4.cell? ⟨w.heap.size, 10, none⟩ = some (sv c.what) := y1.cell 10); (have s0 : w4.cell? ⟨w.heap.size + 1, 0, none⟩ = some (.int .i64 c.verb) := y2.cell 0); (have s1 : w4.cell? ⟨w.heap.size + 1, 1, none⟩ = some (.slice a2 n2 c2) := y2.cell 1); (have s2 : w4.cell? ⟨w.heap.size + 1, 2, none⟩ = some (.int .u64 c.flags) := y2.cell 2); (have s3 : w4.cell? ⟨w.heap.size + 1, 3, none⟩ = some (.int .i64 c.exp) := y2.cell 3); (have s4 : w4.cell? ⟨w.heap.size + 1, 4, none⟩ = some (.int .u64 c.tok) := y2.cell 4); (have s5 : w4.cell? ⟨w.heap.size + 1, 5, none⟩ = some (.int .u64 c.del) := y2.cell 5); (have s6 : w4.cell? ⟨w.heap.size + 1, 6, none⟩ = some (.slice a6 n6 c6) := y2.cell 6); (have s7 : w4.cell? ⟨w.heap.size + 1, 7, none⟩ = some (.bool c.nr) := y2.cell 7); (have s8 : w4.cell? ⟨w.heap.size + 1, 8, none⟩ = some (.bool lg) := y2.cell 8); (have s9 : w4.cell? ⟨w.heap.size + 1, 9, none⟩ = some (.slice a4 n4 c4) := y2.cell 9); (have s10 : w4.cell? ⟨w.heap.size + 1, 10, none⟩ = some (sv c.what) := y2.cell 10))))
  go_ret
  exact ⟨rfl, gb_trans g3 hg4⟩
set_option maxRecDepth 100000 in
set_option maxHeartbeats 4000000 in
theorem same_16 {w : World} (c : Cmd) (d : Bs) (lg : Bool) (kv kv' dv dv' mv mv' : Value) (hk : Ws w kv c.keys) (hk' : Ws w kv' c.keys) (hn : c.keys.length ≤ 9223372036854775807) (hm : Fs w mv c.mt) (hm' : Fs w mv' c.mt) (hmn : c.mt.length ≤ 9223372036854775807) (hd : By w dv d) (hd' : By w dv' d) :
    Calls Tryz.prog 18 #[.agg (cmB c kv dv mv lg), .agg (cmB c kv' dv' mv' lg)] w fun e w' => e = .returned (.bool true) ∧ w.grownBy w' none := by
  obtain ⟨a1, n1, c1, rfl⟩ := hk.shape
  obtain ⟨a2, n2, c2, rfl⟩ := hk'.shape
  obtain ⟨a3, n3, c3, rfl⟩ := hm.shape
  obtain ⟨a4, n4, c4, rfl⟩ := hm'.shape
  obtain ⟨a5, n5, c5, rfl⟩ := hd.shape3
  obtain ⟨a6, n6, c6, rfl⟩ := hd'.shape3
  have b1 := Box.new w 41 (cmB c (.slice a1 n1 c1) (.slice a5 n5 c5) (.slice a3 n3 c3) lg)
  have b2 := Box.new (w.alloc (.cells (cmB c (.slice a1 n1 c1) (.slice a5 n5 c5) (.slice a3 n3 c3) lg) 41)) 41 (cmB c (.slice a2 n2 c2) (.slice a6 n6 c6) (.slice a4 n4 c4) lg)
  simp only [World.size_alloc] at b2
  have gA := gb_alloc (gb_refl (w.alloc (.cells (cmB c (.slice a1 n1 c1) (.slice a5 n5 c5) (.slice a3 n3 c3) lg) 41)) none) (.cells (cmB c (.slice a2 n2 c2) (.slice a6 n6 c6) (.slice a4 n4 c4) lg) 41)
  have gW := gb_trans (gb_alloc (gb_refl w none) (.cells (cmB c (.slice a1 n1 c1) (.slice a5 n5 c5) (.slice a3 n3 c3) lg) 41)) gA
  have h64 := command_64 c d lg (.slice a1 n1 c1) (.slice a2 n2 c2) (.slice a5 n5 c5) (.slice a6 n6 c6) (.slice a3 n3 c3) (.slice a4 n4 c4) (hk.kept0 gW) (hk'.kept0 gW) hn (hm.kept0 gW) (hm'.kept0 gW) hmn (hd.kept0 gW) (hd'.kept0 gW)
  have hnn : c.mt.length = n3 := hm.len.symm
  have e4 : n3 = n4 := hm.len.trans hm'.len.symm
  subst e4
  have key : ∀ {a : Option Addr} {c' : Nat}, Fs w (.slice a n3 c') c.mt → ∀ i f, c.mt[i]? = some f → ∃ g, a = some ⟨g, 0, none⟩ ∧ w.cell? ⟨g, i * 3, none⟩ = some (.int .u8 f.letter.toNat) ∧ w.cell? ⟨g, i * 3 + 1, none⟩ = some (sv f.arg) ∧ w.cell? ⟨g, i * 3 + 2, none⟩ = some (.bool f.has) := by
    intro a c' hu i f hf
    rcases hu with ⟨h0, a, c, e⟩ | ⟨g, c, e, h⟩
    · rw [h0] at hf; simp at hf
    · injection e with e
      exact ⟨g, e, h i f hf⟩
  have hcu := key hm
  have hcv := key hm'
  clear hk hk' hm hm' hd hd' key
  go_enter Tryz.func18, Tryz.ntmps18
  go_wp2_with (go_at_call 69; go_must ((with_reducible refine h64.mono ?_); rintro e w3 ⟨rfl, hg3⟩; (have z1 := (b1.kept gA (by simp)).kept hg3 (by simp)); (have z2 := b2.kept hg3 (by simp)); (have p0 : w3.cell? ⟨w.heap.size, 0, none⟩ = some (.int .i64 c.verb) := z1.cell 0); (have p1 : w3.cell? ⟨w.heap.size, 1, none⟩ = some (.slice a1 n1 c1) := z1.cell 1); (have p2 : w3.cell? ⟨w.heap.size, 2, none⟩ = some (.int .u64 c.flags) := z1.cell 2); (have p3 : w3.cell? ⟨w.heap.size, 3, none⟩ = some (.int .i64 c.exp) := z1.cell 3); (have p4 : w3.cell? ⟨w.heap.size, 4, none⟩ = some (.int .u64 c.tok) := z1.cell 4); (have p5 : w3.cell? ⟨w.heap.size, 5, none⟩ = some (.int .u64 c.del) := z1.cell 5); (have p6 : w3.cell? ⟨w.heap.size, 6, none⟩ = some (.slice a5 n5 c5) := z1.cell 6); (have p7 : w3.cell? ⟨w.heap.size, 7, none⟩ = some (.bool c.nr) := z1.cell 7); (have p8 : w3.cell? ⟨w.heap.size, 8, none⟩ = some (.bool lg) := z1.cell 8); (have p9 : w3.cell? ⟨w.heap.size, 9, none⟩ = some (.slice a3 n3 c3) := z1.cell 9); (have p10 : w3.cell? ⟨w.heap.size, 10, none⟩ = some (sv c.what) := z1.cell 10); (have q0 : w3.cell? ⟨w.heap.size + 1, 0, none⟩ = some (.int .i64 c.verb) := z2.cell 0); (have q1 : w3.cell? ⟨w.heap.size + 1, 1, none⟩ = some (.slice a2 n2 c2) := z2.cell 1); (have q2 : w3.cell? ⟨w.heap.size + 1, 2, none⟩ = some (.int .u64 c.flags) := z2.cell 2); (have q3 : w3.cell? ⟨w.heap.size + 1, 3, none⟩ = some (.int .i64 c.exp) := z2.cell 3); (have q4 : w3.cell? ⟨w.heap.size + 1, 4, none⟩ = some (.int .u64 c.tok) := z2.cell 4); (have q5 : w3.cell? ⟨w.heap.size + 1, 5, none⟩ = some (.int .u64 c.del) := z2.cell 5); (have q6 : w3.cell? ⟨w.heap.size + 1, 6, none⟩ = some (.slice a6 n6 c6) := z2.cell 6); (have q7 : w3.cell? ⟨w.heap.size + 1, 7, none⟩ = some (.bool c.nr) := z2.cell 7); (have q8 : w3.cell? ⟨w.heap.size + 1, 8, none⟩ = some (.bool lg) := z2.cell 8); (have q9 : w3.cell? ⟨w.heap.size + 1, 9, none⟩ = some (.slice a4 n3 c4) := z2.cell 9); (have q10 : w3.cell? ⟨w.heap.size + 1, 10, none⟩ = some (sv c.what) := z2.cell 10); (have g3 := gb_trans gW hg3)))
  go_loopw [5] (fun x wr => ∃ k : Nat, k ≤ n3 ∧ x = .int .i64 k ∧ w3.grownBy wr none) (fun x _ => n3 - (intOf x).toNat)
  case atStart => exact ⟨0, by omega, rfl, gb_refl _ _⟩
  case round =>
    obtain ⟨k, hk, rfl, hg⟩ := hrel
    have o9 := gb_cellN hg p9
    have t9 := gb_cellN hg q9
    rcases (by omega : k < n3 ∨ k = n3) with hlt | rfl
    · obtain ⟨⟨fl, fa, fh⟩, hx⟩ : ∃ x, c.mt[k]? = some x := ⟨_, List.getElem?_eq_getElem (by omega)⟩
      obtain ⟨g1, rfl, c1, c2, c3⟩ := hcu k _ hx
      obtain ⟨g2, rfl, e1, e2, e3⟩ := hcv k _ hx
      have gg := gb_trans g3 hg
      replace c1 := gb_cellN gg c1
      replace c2 := gb_cellN gg c2
      replace c3 := gb_cellN gg c3
      replace e1 := gb_cellN gg e1
      replace e2 := gb_cellN gg e2
      replace e3 := gb_cellN gg e3
      dsimp only at c1 c2 c3 e1 e2 e3
      have d1 : ((k : Int) < (n3 : Int)) := by omega
      clear hcu hcv
      go_wp2
      go_quiet (fail)
      go_wp2
      refine ⟨⟨k + 1, by omega, by simp, gb_drewN hg _⟩, by simp [intOf]; omega⟩
    · have d1 : decide ((k : Int) < (k : Int)) = false := decide_eq_false (by omega)
      go_wp2
      go_ret
      exact ⟨rfl, gb_trans g3 hg⟩
end Go.Proofs.YtbbocbdoiealoaaGreatDoor

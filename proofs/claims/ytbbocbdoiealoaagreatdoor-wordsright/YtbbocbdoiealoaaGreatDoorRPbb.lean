import Derived.Test.YtbbocbdoiealoaaGreatDoorRUb
import Derived.Test.YtbbocbdoiealoaaGreatDoorRPas
import Derived.BigRegion
import Derived.Test.YtbbocbdoiealoaaGreatDoorRPba
set_option linter.unusedVariables false
set_option linter.unusedSimpArgs false
namespace Go.Proofs.YtbbocbdoiealoaaGreatDoor
open Go.RowKit Go.Maps
theorem Fs.fg {w : World} {v : Value} {fs : List Fl} (h : Fs w v fs) : Fg w v fs := by
  rcases h with h | ⟨g, c, e, h⟩
  · exact .inl h
  · exact .inr ⟨g, 0, c, e, fun i f hi => by simpa using h i f hi⟩
theorem Fg.shape {w : World} {v : Value} {ws : List Fl} (h : Fg w v ws) : ∃ a n c, v = .slice a n c := by
  rcases h with ⟨_, a, c, rfl⟩ | ⟨g, o, c, rfl, _⟩ <;> exact ⟨_, _, _, rfl⟩
theorem Fg.len {w : World} {a : Option Addr} {n c : Nat} {ws : List Fl} (h : Fg w (.slice a n c) ws) : n = ws.length := by
  rcases h with ⟨rfl, a, c, e⟩ | ⟨g, o, c, e, _⟩
  · injection e
  · injection e
set_option maxRecDepth 100000 in
set_option maxHeartbeats 4000000 in
theorem kflags_104g {w : World} {u v : Value} {fs : List Fl} (hu : Fg w u fs) (hv : Fg w v fs) (hn : fs.length ≤ 9223372036854775807) :
    Calls Tryz.prog 109 #[u, v] w fun e w' => e = .returned (.bool true) ∧ w.grownBy w' none := by
  obtain ⟨n, hnn⟩ : ∃ n, fs.length = n := ⟨_, rfl⟩
  have key : ∀ {u : Value}, Fg w u fs → ∃ a c, u = .slice a n c ∧ ∀ i f, fs[i]? = some f → ∃ g o, a = some ⟨g, o, none⟩ ∧ w.cell? ⟨g, o + i * 3, none⟩ = some (.int .u8 f.letter.toNat) ∧ w.cell? ⟨g, o + i * 3 + 1, none⟩ = some (sv f.arg) ∧ w.cell? ⟨g, o + i * 3 + 2, none⟩ = some (.bool f.has) := by
    intro u hu
    rcases hu with ⟨rfl, a, c, rfl⟩ | ⟨g, o, c, rfl, h⟩
    · exact ⟨a, c, by rw [← hnn]; rfl, fun i x hx => by simp at hx⟩
    · exact ⟨_, c, by rw [hnn], fun i x hx => ⟨g, o, rfl, h i x hx⟩⟩
  obtain ⟨ua, uc, rfl, hcu⟩ := key hu
  obtain ⟨va, vc, rfl, hcv⟩ := key hv
  clear hu hv key
  go_enter Tryz.func109, Tryz.ntmps109
  go_wp2
  go_loopw [5] (fun x wr => ∃ k : Nat, k ≤ n ∧ x = .int .i64 k ∧ w.grownBy wr none) (fun x _ => n - (intOf x).toNat)
  case atStart => exact ⟨0, by omega, rfl, gb_refl _ _⟩
  case round =>
    obtain ⟨k, hk, rfl, hg⟩ := hrel
    rcases (by omega : k < n ∨ k = n) with hlt | rfl
    · obtain ⟨⟨fl, fa, fh⟩, hx⟩ : ∃ x, fs[k]? = some x := ⟨_, List.getElem?_eq_getElem (by omega)⟩
      obtain ⟨g1, o1, rfl, c1, c2, c3⟩ := hcu k _ hx
      obtain ⟨g2, o2, rfl, e1, e2, e3⟩ := hcv k _ hx
      replace c1 := gb_cellN hg c1
      replace c2 := gb_cellN hg c2
      replace c3 := gb_cellN hg c3
      replace e1 := gb_cellN hg e1
      replace e2 := gb_cellN hg e2
      replace e3 := gb_cellN hg e3
      dsimp only at c1 c2 c3 e1 e2 e3
      have d1 : ((k : Int) < (n : Int)) := by omega
      clear hcu hcv
      go_wp2
      go_quiet (fail)
      go_wp2
      refine ⟨⟨k + 1, by omega, by simp, gb_drewN hg _⟩, by simp [intOf]; omega⟩
    · have d1 : decide ((k : Int) < (k : Int)) = false := decide_eq_false (by omega)
      go_wp2
      go_ret
      exact ⟨rfl, hg⟩
set_option maxRecDepth 100000 in
set_option maxHeartbeats 4000000 in
theorem command_64g {w : World} (c : Cmd) (d : Bs) (lg : Bool) (kv kv' dv dv' mv mv' : Value) (hk : Ws w kv c.keys) (hk' : Ws w kv' c.keys) (hn : c.keys.length ≤ 9223372036854775807) (hm : Fg w mv c.mt) (hm' : Fg w mv' c.mt) (hmn : c.mt.length ≤ 9223372036854775807) (hd : By w dv d) (hd' : By w dv' d) :
    Calls Tryz.prog 69 #[.agg (cmB c kv dv mv lg), .agg (cmB c kv' dv' mv' lg)] w fun e w' => e = .returned (.bool true) ∧ w.grownBy w' none := by
  obtain ⟨a1, n1, c1, rfl⟩ := hk.shape
  obtain ⟨a2, n2, c2, rfl⟩ := hk'.shape
  obtain ⟨a3, n3, c3, rfl⟩ := hm.shape
  obtain ⟨a4, n4, c4, rfl⟩ := hm'.shape
  obtain ⟨a5, n5, c5, rfl⟩ := hd.shape3
  obtain ⟨a6, n6, c6, rfl⟩ := hd'.shape3
  have b1 := Box.new w 41 (cmB c (.slice a1 n1 c1) (.slice a5 n5 c5) (.slice a3 n3 c3) lg)
  have b2 := Box.new (w.alloc (.cells (cmB c (.slice a1 n1 c1) (.slice a5 n5 c5) (.slice a3 n3 c3) lg) 41)) 41 (cmB c (.slice a2 n2 c2) (.slice a6 n6 c6) (.slice a4 n4 c4) lg)
  simp only [World.size_alloc] at b2
  have gA := gb_alloc (gb_refl (w.alloc (.cells (cmB c (.slice a1 n1 c1) (.slice a5 n5 c5) (.slice a3 n3 c3) lg) 41)) none) (.cells (cmB c (.slice a2 n2 c2) (.slice a6 n6 c6) (.slice a4 n4 c4) lg) 41)
  have gW := gb_trans (gb_alloc (gb_refl w none) (.cells (cmB c (.slice a1 n1 c1) (.slice a5 n5 c5) (.slice a3 n3 c3) lg) 41)) gA
  have h82 := fun W (hg : w.grownBy W none) => texts_82 (hk.kept0 hg) (hk'.kept0 hg) hn
  have h104 := fun W (hg : w.grownBy W none) => kflags_104g (hm.kept hg) (hm'.kept hg) hmn
  clear hk hk' hm hm'
  go_enter Tryz.func69, Tryz.ntmps69
  go_wp2_with (first | (go_at_call 87; go_must ((with_reducible refine (h82 _ gW).mono ?_); rintro e w3 ⟨rfl, hg3⟩; (have z1 := (b1.kept gA (by simp)).kept hg3 (by simp)); (have z2 := b2.kept hg3 (by simp)); (have p0 : w3.cell? ⟨w.heap.size, 0, none⟩ = some (.int .i64 c.verb) := z1.cell 0); (have p1 : w3.cell? ⟨w.heap.size, 1, none⟩ = some (.slice a1 n1 c1) := z1.cell 1); (have p2 : w3.cell? ⟨w.heap.size, 2, none⟩ = some (.int .u64 c.flags) := z1.cell 2); (have p3 : w3.cell? ⟨w.heap.size, 3, none⟩ = some (.int .i64 c.exp) := z1.cell 3); (have p4 : w3.cell? ⟨w.heap.size, 4, none⟩ = some (.int .u64 c.tok) := z1.cell 4); (have p5 : w3.cell? ⟨w.heap.size, 5, none⟩ = some (.int .u64 c.del) := z1.cell 5); (have p6 : w3.cell? ⟨w.heap.size, 6, none⟩ = some (.slice a5 n5 c5) := z1.cell 6); (have p7 : w3.cell? ⟨w.heap.size, 7, none⟩ = some (.bool c.nr) := z1.cell 7); (have p8 : w3.cell? ⟨w.heap.size, 8, none⟩ = some (.bool lg) := z1.cell 8); (have p9 : w3.cell? ⟨w.heap.size, 9, none⟩ = some (.slice a3 n3 c3) := z1.cell 9); (have p10 : w3.cell? ⟨w.heap.size, 10, none⟩ = some (sv c.what) := z1.cell 10); (have q0 : w3.cell? ⟨w.heap.size + 1, 0, none⟩ = some (.int .i64 c.verb) := z2.cell 0); (have q1 : w3.cell? ⟨w.heap.size + 1, 1, none⟩ = some (.slice a2 n2 c2) := z2.cell 1); (have q2 : w3.cell? ⟨w.heap.size + 1, 2, none⟩ = some (.int .u64 c.flags) := z2.cell 2); (have q3 : w3.cell? ⟨w.heap.size + 1, 3, none⟩ = some (.int .i64 c.exp) := z2.cell 3); (have q4 : w3.cell? ⟨w.heap.size + 1, 4, none⟩ = some (.int .u64 c.tok) := z2.cell 4); (have q5 : w3.cell? ⟨w.heap.size + 1, 5, none⟩ = some (.int .u64 c.del) := z2.cell 5); (have q6 : w3.cell? ⟨w.heap.size + 1, 6, none⟩ = some (.slice a6 n6 c6) := z2.cell 6); (have q7 : w3.cell? ⟨w.heap.size + 1, 7, none⟩ = some (.bool c.nr) := z2.cell 7); (have q8 : w3.cell? ⟨w.heap.size + 1, 8, none⟩ = some (.bool lg) := z2.cell 8); (have q9 : w3.cell? ⟨w.heap.size + 1, 9, none⟩ = some (.slice a4 n4 c4) := z2.cell 9); (have q10 : w3.cell? ⟨w.heap.size + 1, 10, none⟩ = some (sv c.what) := z2.cell 10); (have g3 := gb_trans gW hg3); (have cv1 := (hd.kept0 g3).conv); (have cv2 := (hd'.kept0 g3).conv))) | (go_at_call 109; go_must ((with_reducible refine (h104 _ g3).mono ?_); rintro e w4 ⟨rfl, hg4⟩; (have y1 := z1.kept hg4 (by simp)); (have y2 := z2.kept hg4 (by simp)); (have r0 : w4.cell? ⟨w.heap.size, 0, none⟩ = some (.int .i64 c.verb) := y1.cell 0); (have r1 : w4.cell? ⟨w.heap.size, 1, none⟩ = some (.slice a1 n1 c1) := y1.cell 1); (have r2 : w4.cell? ⟨w.heap.size, 2, none⟩ = some (.int .u64 c.flags) := y1.cell 2); (have r3 : w4.cell? ⟨w.heap.size, 3, none⟩ = some (.int .i64 c.exp) := y1.cell 3); (have r4 : w4.cell? ⟨w.heap.size, 4, none⟩ = some (.int .u64 c.tok) := y1.cell 4); (have r5 : w4.cell? ⟨w.heap.size, 5, none⟩ = some (.int .u64 c.del) := y1.cell 5); (have r6 : w4.cell? ⟨w.heap.size, 6, none⟩ = some (.slice a5 n5 c5) := y1.cell 6); (have r7 : w4.cell? ⟨w.heap.size, 7, none⟩ = some (.bool c.nr) := y1.cell 7); (have r8 : w4.cell? ⟨w.heap.size, 8, none⟩ = some (.bool lg) := y1.cell 8); (have r9 : w4.cell? ⟨w.heap.size, 9, none⟩ = some (.slice a3 n3 c3) := y1.cell 9); (have r10 : w4.cell? ⟨w.heap.size, 10, none⟩ = some (sv c.what) := y1.cell 10); (have s0 : w4.cell? ⟨w.heap.size + 1, 0, none⟩ = some (.int .i64 c.verb) := y2.cell 0); (have s1 : w4.cell? ⟨w.heap.size + 1, 1, none⟩ = some (.slice a2 n2 c2) := y2.cell 1); (have s2 : w4.cell? ⟨w.heap.size + 1, 2, none⟩ = some (.int .u64 c.flags) := y2.cell 2); (have s3 : w4.cell? ⟨w.heap.size + 1, 3, none⟩ = some (.int .i64 c.exp) := y2.cell 3); (have s4 : w4.cell? ⟨w.heap.size + 1, 4, none⟩ = some (.int .u64 c.tok) := y2.cell 4); (have s5 : w4.cell? ⟨w.heap.size + 1, 5, none⟩ = some (.int .u64 c.del) := y2.cell 5); (have s6 : w4.cell? ⟨w.heap.size + 1, 6, none⟩ = some (.slice a6 n6 c6) := y2.cell 6); (have s7 : w4.cell? ⟨w.heap.size + 1, 7, none⟩ = some (.bool c.nr) := y2.cell 7); (have s8 : w4.cell? ⟨w.heap.size + 1, 8, none⟩ = some (.bool lg) := y2.cell 8); (have s9 : w4.cell? ⟨w.heap.size + 1, 9, none⟩ = some (.slice a4 n4 c4) := y2.cell 9); (have s10 : w4.cell? ⟨w.heap.size + 1, 10, none⟩ = some (sv c.what) := y2.cell 10))))
  go_ret
  exact ⟨rfl, gb_trans g3 hg4⟩
set_option maxRecDepth 100000 in
set_option maxHeartbeats 4000000 in
theorem same_16g {w : World} (c : Cmd) (d : Bs) (lg : Bool) (kv kv' dv dv' mv mv' : Value) (hk : Ws w kv c.keys) (hk' : Ws w kv' c.keys) (hn : c.keys.length ≤ 9223372036854775807) (hm : Fg w mv c.mt) (hm' : Fg w mv' c.mt) (hmn : c.mt.length ≤ 9223372036854775807) (hd : By w dv d) (hd' : By w dv' d) :
    Calls Tryz.prog 18 #[.agg (cmB c kv dv mv lg), .agg (cmB c kv' dv' mv' lg)] w fun e w' => e = .returned (.bool true) ∧ w.grownBy w' none := by
  obtain ⟨a1, n1, c1, rfl⟩ := hk.shape
  obtain ⟨a2, n2, c2, rfl⟩ := hk'.shape
  obtain ⟨a3, n3, c3, rfl⟩ := hm.shape
  obtain ⟨a4, n4, c4, rfl⟩ := hm'.shape
  obtain ⟨a5, n5, c5, rfl⟩ := hd.shape3
  obtain ⟨a6, n6, c6, rfl⟩ := hd'.shape3
  have b1 := Box.new w 41 (cmB c (.slice a1 n1 c1) (.slice a5 n5 c5) (.slice a3 n3 c3) lg)
  have b2 := Box.new (w.alloc (.cells (cmB c (.slice a1 n1 c1) (.slice a5 n5 c5) (.slice a3 n3 c3) lg) 41)) 41 (cmB c (.slice a2 n2 c2) (.slice a6 n6 c6) (.slice a4 n4 c4) lg)
  simp only [World.size_alloc] at b2
  have gA := gb_alloc (gb_refl (w.alloc (.cells (cmB c (.slice a1 n1 c1) (.slice a5 n5 c5) (.slice a3 n3 c3) lg) 41)) none) (.cells (cmB c (.slice a2 n2 c2) (.slice a6 n6 c6) (.slice a4 n4 c4) lg) 41)
  have gW := gb_trans (gb_alloc (gb_refl w none) (.cells (cmB c (.slice a1 n1 c1) (.slice a5 n5 c5) (.slice a3 n3 c3) lg) 41)) gA
  have h64 := command_64g c d lg (.slice a1 n1 c1) (.slice a2 n2 c2) (.slice a5 n5 c5) (.slice a6 n6 c6) (.slice a3 n3 c3) (.slice a4 n4 c4) (hk.kept0 gW) (hk'.kept0 gW) hn (hm.kept gW) (hm'.kept gW) hmn (hd.kept0 gW) (hd'.kept0 gW)
  have hnn : c.mt.length = n3 := hm.len.symm
  have e4 : n3 = n4 := hm.len.trans hm'.len.symm
  subst e4
  have key : ∀ {a : Option Addr} {c' : Nat}, Fg w (.slice a n3 c') c.mt → ∀ i f, c.mt[i]? = some f → ∃ g o, a = some ⟨g, o, none⟩ ∧ w.cell? ⟨g, o + i * 3, none⟩ = some (.int .u8 f.letter.toNat) ∧ w.cell? ⟨g, o + i * 3 + 1, none⟩ = some (sv f.arg) ∧ w.cell? ⟨g, o + i * 3 + 2, none⟩ = some (.bool f.has) := by
    intro a c' hu i f hf
    rcases hu with ⟨h0, a, c, e⟩ | ⟨g, o, c, e, h⟩
    · rw [h0] at hf; simp at hf
    · injection e with e
      exact ⟨g, o, e, h i f hf⟩
  have hcu := key hm
  have hcv := key hm'
  clear hk hk' hm hm' hd hd' key
  go_enter Tryz.func18, Tryz.ntmps18
  go_wp2_with (go_at_call 69; go_must ((with_reducible refine h64.mono ?_); rintro e w3 ⟨rfl, hg3⟩; (have z1 := (b1.kept gA (by simp)).kept hg3 (by simp)); (have z2 := b2.kept hg3 (by simp)); (have p0 : w3.cell? ⟨w.heap.size, 0, none⟩ = some (.int .i64 c.verb) := z1.cell 0); (have p1 : w3.cell? ⟨w.heap.size, 1, none⟩ = some (.slice a1 n1 c1) := z1.cell 1); (have p2 : w3.cell? ⟨w.heap.size, 2, none⟩ = some (.int .u64 c.flags) := z1.cell 2); (have p3 : w3.cell? ⟨w.heap.size, 3, none⟩ = some (.int .i64 c.exp) := z1.cell 3); (have p4 : w3.cell? ⟨w.heap.size, 4, none⟩ = some (.int .u64 c.tok) := z1.cell 4); (have p5 : w3.cell? ⟨w.heap.size, 5, none⟩ = some (.int .u64 c.del) := z1.cell 5); (have p6 : w3.cell? ⟨w.heap.size, 6, none⟩ = some (.slice a5 n5 c5) := z1.cell 6); (have p7 : w3.cell? ⟨w.heap.size, 7, none⟩ = some (.bool c.nr) := z1.cell 7); (have p8 : w3.cell? ⟨w.heap.size, 8, none⟩ = some (.bool lg) := z1.cell 8); (have p9 : w3.cell? ⟨w.heap.size, 9, none⟩ = some (.slice a3 n3 c3) := z1.cell 9); (have p10 : w3.cell? ⟨w.heap.size, 10, none⟩ = some (sv c.what) := z1.cell 10); (have q0 : w3.cell? ⟨w.heap.size + 1, 0, none⟩ = some (.int .i64 c.verb) := z2.cell 0); (have q1 : w3.cell? ⟨w.heap.size + 1, 1, none⟩ = some (.slice a2 n2 c2) := z2.cell 1); (have q2 : w3.cell? ⟨w.heap.size + 1, 2, none⟩ = some (.int .u64 c.flags) := z2.cell 2); (have q3 : w3.cell? ⟨w.heap.size + 1, 3, none⟩ = some (.int .i64 c.exp) := z2.cell 3); (have q4 : w3.cell? ⟨w.heap.size + 1, 4, none⟩ = some (.int .u64 c.tok) := z2.cell 4); (have q5 : w3.cell? ⟨w.heap.size + 1, 5, none⟩ = some (.int .u64 c.del) := z2.cell 5); (have q6 : w3.cell? ⟨w.heap.size + 1, 6, none⟩ = some (.slice a6 n6 c6) := z2.cell 6); (have q7 : w3.cell? ⟨w.heap.size + 1, 7, none⟩ = some (.bool c.nr) := z2.cell 7); (have q8 : w3.cell? ⟨w.heap.size + 1, 8, none⟩ = some (.bool lg) := z2.cell 8); (have q9 : w3.cell? ⟨w.heap.size + 1, 9, none⟩ = some (.slice a4 n3 c4) := z2.cell 9); (have q10 : w3.cell? ⟨w.heap.size + 1, 10, none⟩ = some (sv c.what) := z2.cell 10); (have g3 := gb_trans gW hg3)))
  go_loopw [5] (fun x wr => ∃ k : Nat, k ≤ n3 ∧ x = .int .i64 k ∧ w3.grownBy wr none) (fun x _ => n3 - (intOf x).toNat)
  case atStart => exact ⟨0, by omega, rfl, gb_refl _ _⟩
  case round =>
    obtain ⟨k, hk, rfl, hg⟩ := hrel
    have o9 := gb_cellN hg p9
    have t9 := gb_cellN hg q9
    rcases (by omega : k < n3 ∨ k = n3) with hlt | rfl
    · obtain ⟨⟨fl, fa, fh⟩, hx⟩ : ∃ x, c.mt[k]? = some x := ⟨_, List.getElem?_eq_getElem (by omega)⟩
      obtain ⟨g1, o1, rfl, c1, c2, c3⟩ := hcu k _ hx
      obtain ⟨g2, o2, rfl, e1, e2, e3⟩ := hcv k _ hx
      have gg := gb_trans g3 hg
      replace c1 := gb_cellN gg c1
      replace c2 := gb_cellN gg c2
      replace c3 := gb_cellN gg c3
      replace e1 := gb_cellN gg e1
      replace e2 := gb_cellN gg e2
      replace e3 := gb_cellN gg e3
      dsimp only at c1 c2 c3 e1 e2 e3
      have d1 : ((k : Int) < (n3 : Int)) := by omega
      clear hcu hcv
      go_wp2
      go_quiet (fail)
      go_wp2
      refine ⟨⟨k + 1, by omega, by simp, gb_drewN hg _⟩, by simp [intOf]; omega⟩
    · have d1 : decide ((k : Int) < (k : Int)) = false := decide_eq_false (by omega)
      go_wp2
      go_ret
      exact ⟨rfl, gb_trans g3 hg⟩
end Go.Proofs.YtbbocbdoiealoaaGreatDoor
namespace Go.Proofs.YtbbocbdoiealoaaGreatDoor
open Go.RowKit Go.Maps
attribute [local go_sem] Oper.semAt_some
theorem la_ck (W : World) (la : UInt8) : Ck (W.alloc (.cells #[.int .u8 la.toNat] 5)) (fun _ => False) (.slice (some ⟨W.heap.size, 0, none⟩) 1 1) [la] := .inr ⟨W.heap.size, 0, 1, rfl, by simp, by omega, by simp, fun h => h, fun i x hx => by
  obtain ⟨rfl, rfl⟩ : i = 0 ∧ la = x := by
    rcases i with _ | i
    · simpa using hx
    · simp at hx
  exact World.news_of_block (cs := #[.int .u8 la.toNat]) (t := 5) (fr := (0, 0)) (heap_alloc_new W _) 0 _ rfl⟩
end Go.Proofs.YtbbocbdoiealoaaGreatDoor

/-
  Steps in memory are the same.
-/
import Derived.Test.YtobegepebochkaaGreatDoorUb
namespace Go.Proofs.YtobegepebochkaaGreatDoor
open Go.RowKit Go.Maps
set_option linter.unusedVariables false
set_option linter.unusedSimpArgs false

/-- A step's rows, to be read. -/
structure Sr (w : World) (s : Stp) (ck cd cm : Value) : Prop where
  k : Ws w ck s.cmd.keys
  d : By w cd s.data
  m : Fs w cm s.cmd.mt
  kn : s.cmd.keys.length ≤ 9223372036854775807
  mn : s.cmd.mt.length ≤ 9223372036854775807
theorem Sr.kept0 {w w' : World} {s : Stp} {ck cd cm : Value} (h : Sr w s ck cd cm) (hf : w.grownBy w' none) : Sr w' s ck cd cm := ⟨h.k.kept0 hf, h.d.kept0 hf, h.m.kept0 hf, h.kn, h.mn⟩
theorem StR.sr {w : World} {X : Nat → Prop} {s : Stp} {ck cd cm : Value} (h : StR w X s ck cd cm) (hd : s.data.length ≤ 1099511627776) : Sr w s ck cd cm := by
  obtain ⟨_, _, _, -, k1, k2, -⟩ := row_shape h.keys
  obtain ⟨_, _, _, -, m1, m2, -⟩ := row_shape h.mt
  unfold maxLen at k2 m2
  exact ⟨ws_row h.keys rfl, by_row h.data hd, fs_row h.mt, by omega, by omega⟩
set_option maxRecDepth 100000 in
set_option maxHeartbeats 4000000 in
theorem samestep_39 {w : World} (s : Stp) (ck ck' cd cd' cm cm' : Value) (h : Sr w s ck cd cm) (h' : Sr w s ck' cd' cm') :
    Calls Tryz.prog 39 #[.agg (stpA s ck cd cm), .agg (stpA s ck' cd' cm')] w fun e w' => e = .returned (.bool true) ∧ w.grownBy w' none := by
  obtain ⟨a1, n1, c1, rfl⟩ := h.k.shape
  obtain ⟨a2, n2, c2, rfl⟩ := h'.k.shape
  obtain ⟨a3, n3, c3, rfl⟩ := h.m.shape
  obtain ⟨a4, n4, c4, rfl⟩ := h'.m.shape
  obtain ⟨a5, n5, c5, rfl⟩ := h.d.shape3
  obtain ⟨a6, n6, c6, rfl⟩ := h'.d.shape3
  have b1 := Box.new w 86 (stpA s (.slice a1 n1 c1) (.slice a5 n5 c5) (.slice a3 n3 c3))
  have b2 := Box.new (w.alloc (.cells (stpA s (.slice a1 n1 c1) (.slice a5 n5 c5) (.slice a3 n3 c3)) 86)) 86 (stpA s (.slice a2 n2 c2) (.slice a6 n6 c6) (.slice a4 n4 c4))
  simp only [World.size_alloc] at b2
  have gA := gb_alloc (gb_refl (w.alloc (.cells (stpA s (.slice a1 n1 c1) (.slice a5 n5 c5) (.slice a3 n3 c3)) 86)) none) (.cells (stpA s (.slice a2 n2 c2) (.slice a6 n6 c6) (.slice a4 n4 c4)) 86)
  have gW := gb_trans (gb_alloc (gb_refl w none) (.cells (stpA s (.slice a1 n1 c1) (.slice a5 n5 c5) (.slice a3 n3 c3)) 86)) gA
  have h16 := same_16 s.cmd s.data s.large (.slice a1 n1 c1) (.slice a2 n2 c2) (.slice a5 n5 c5) (.slice a6 n6 c6) (.slice a3 n3 c3) (.slice a4 n4 c4) (h.k.kept0 gW) (h'.k.kept0 gW) h.kn (h.m.kept0 gW) (h'.m.kept0 gW) h.mn (h.d.kept0 gW) (h'.d.kept0 gW)
  clear h h'
  go_enter Tryz.func39, Tryz.ntmps39
  go_wp2_with (go_at_call 16; go_must ((with_reducible refine h16.mono ?_); rintro e w3 ⟨rfl, hg3⟩; (have z1 := (b1.kept gA (by simp)).kept hg3 (by simp)); (have z2 := b2.kept hg3 (by simp)); (have p0 : w3.cell? ⟨w.heap.size, 0, none⟩ = some (.int .i64 s.cmd.verb) := z1.cell 0); (have p1 : w3.cell? ⟨w.heap.size, 1, none⟩ = some (.slice a1 n1 c1) := z1.cell 1); (have p2 : w3.cell? ⟨w.heap.size, 2, none⟩ = some (.int .u64 s.cmd.flags) := z1.cell 2); (have p3 : w3.cell? ⟨w.heap.size, 3, none⟩ = some (.int .i64 s.cmd.exp) := z1.cell 3); (have p4 : w3.cell? ⟨w.heap.size, 4, none⟩ = some (.int .u64 s.cmd.tok) := z1.cell 4); (have p5 : w3.cell? ⟨w.heap.size, 5, none⟩ = some (.int .u64 s.cmd.del) := z1.cell 5); (have p6 : w3.cell? ⟨w.heap.size, 6, none⟩ = some (.slice a5 n5 c5) := z1.cell 6); (have p7 : w3.cell? ⟨w.heap.size, 7, none⟩ = some (.bool s.cmd.nr) := z1.cell 7); (have p8 : w3.cell? ⟨w.heap.size, 8, none⟩ = some (.bool s.large) := z1.cell 8); (have p9 : w3.cell? ⟨w.heap.size, 9, none⟩ = some (.slice a3 n3 c3) := z1.cell 9); (have p10 : w3.cell? ⟨w.heap.size, 10, none⟩ = some (sv s.cmd.what) := z1.cell 10); (have p11 : w3.cell? ⟨w.heap.size, 11, none⟩ = some (.int .i64 s.wk) := z1.cell 11); (have p12 : w3.cell? ⟨w.heap.size, 12, none⟩ = some (sv s.wt) := z1.cell 12); (have p13 : w3.cell? ⟨w.heap.size, 13, none⟩ = some (.int .i64 s.wp) := z1.cell 13); (have p14 : w3.cell? ⟨w.heap.size, 14, none⟩ = some (.int .i64 s.frm) := z1.cell 14); (have p15 : w3.cell? ⟨w.heap.size, 15, none⟩ = some (.int .i64 s.to) := z1.cell 15); (have q0 : w3.cell? ⟨w.heap.size + 1, 0, none⟩ = some (.int .i64 s.cmd.verb) := z2.cell 0); (have q1 : w3.cell? ⟨w.heap.size + 1, 1, none⟩ = some (.slice a2 n2 c2) := z2.cell 1); (have q2 : w3.cell? ⟨w.heap.size + 1, 2, none⟩ = some (.int .u64 s.cmd.flags) := z2.cell 2); (have q3 : w3.cell? ⟨w.heap.size + 1, 3, none⟩ = some (.int .i64 s.cmd.exp) := z2.cell 3); (have q4 : w3.cell? ⟨w.heap.size + 1, 4, none⟩ = some (.int .u64 s.cmd.tok) := z2.cell 4); (have q5 : w3.cell? ⟨w.heap.size + 1, 5, none⟩ = some (.int .u64 s.cmd.del) := z2.cell 5); (have q6 : w3.cell? ⟨w.heap.size + 1, 6, none⟩ = some (.slice a6 n6 c6) := z2.cell 6); (have q7 : w3.cell? ⟨w.heap.size + 1, 7, none⟩ = some (.bool s.cmd.nr) := z2.cell 7); (have q8 : w3.cell? ⟨w.heap.size + 1, 8, none⟩ = some (.bool s.large) := z2.cell 8); (have q9 : w3.cell? ⟨w.heap.size + 1, 9, none⟩ = some (.slice a4 n4 c4) := z2.cell 9); (have q10 : w3.cell? ⟨w.heap.size + 1, 10, none⟩ = some (sv s.cmd.what) := z2.cell 10); (have q11 : w3.cell? ⟨w.heap.size + 1, 11, none⟩ = some (.int .i64 s.wk) := z2.cell 11); (have q12 : w3.cell? ⟨w.heap.size + 1, 12, none⟩ = some (sv s.wt) := z2.cell 12); (have q13 : w3.cell? ⟨w.heap.size + 1, 13, none⟩ = some (.int .i64 s.wp) := z2.cell 13); (have q14 : w3.cell? ⟨w.heap.size + 1, 14, none⟩ = some (.int .i64 s.frm) := z2.cell 14); (have q15 : w3.cell? ⟨w.heap.size + 1, 15, none⟩ = some (.int .i64 s.to) := z2.cell 15); (have g3 := gb_trans gW hg3)))
  go_ret
  exact ⟨rfl, g3⟩
end Go.Proofs.YtobegepebochkaaGreatDoor

import Derived.Test.YtbbocbdoiealoaaGreatDoorBPbc
import Derived.Test.YtbbocbdoiealoaaGreatDoorBPbk
set_option linter.unusedVariables false
set_option linter.unusedSimpArgs false
namespace Go.Proofs.YtbbocbdoiealoaaGreatDoor
open Go.RowKit Go.Maps
structure Sg2 (w : World) (s : Stp) (ck cd cm : Value) : Prop where
  k : Ws w ck s.cmd.keys
  d : By w cd s.data
  m : Fg w cm s.cmd.mt
  kn : s.cmd.keys.length ≤ 9223372036854775807
  mn : s.cmd.mt.length ≤ 9223372036854775807
theorem Sg2.kept0 {w w' : World} {s : Stp} {ck cd cm : Value} (h : Sg2 w s ck cd cm) (hf : w.grownBy w' none) : Sg2 w' s ck cd cm := ⟨h.k.kept0 hf, h.d.kept0 hf, h.m.kept hf, h.kn, h.mn⟩
set_option maxRecDepth 100000 in
set_option maxHeartbeats 4000000 in
theorem samestep_39g {w : World} (s : Stp) (ck ck' cd cd' cm cm' : Value) (h : Sg2 w s ck cd cm) (h' : Sg2 w s ck' cd' cm') :
    Calls Tryz.prog 41 #[.agg (stpA s ck cd cm), .agg (stpA s ck' cd' cm')] w fun e w' => e = .returned (.bool true) ∧ w.grownBy w' none := by
  obtain ⟨a1, n1, c1, rfl⟩ := h.k.shape
  obtain ⟨a2, n2, c2, rfl⟩ := h'.k.shape
  obtain ⟨a3, n3, c3, rfl⟩ := h.m.shape
  obtain ⟨a4, n4, c4, rfl⟩ := h'.m.shape
  obtain ⟨a5, n5, c5, rfl⟩ := h.d.shape3
  obtain ⟨a6, n6, c6, rfl⟩ := h'.d.shape3
  have b1 := Box.new w 85 (stpA s (.slice a1 n1 c1) (.slice a5 n5 c5) (.slice a3 n3 c3))
  have b2 := Box.new (w.alloc (.cells (stpA s (.slice a1 n1 c1) (.slice a5 n5 c5) (.slice a3 n3 c3)) 85)) 85 (stpA s (.slice a2 n2 c2) (.slice a6 n6 c6) (.slice a4 n4 c4))
  simp only [World.size_alloc] at b2
  have gA := gb_alloc (gb_refl (w.alloc (.cells (stpA s (.slice a1 n1 c1) (.slice a5 n5 c5) (.slice a3 n3 c3)) 85)) none) (.cells (stpA s (.slice a2 n2 c2) (.slice a6 n6 c6) (.slice a4 n4 c4)) 85)
  have gW := gb_trans (gb_alloc (gb_refl w none) (.cells (stpA s (.slice a1 n1 c1) (.slice a5 n5 c5) (.slice a3 n3 c3)) 85)) gA
  have h16 := same_16g s.cmd s.data s.large (.slice a1 n1 c1) (.slice a2 n2 c2) (.slice a5 n5 c5) (.slice a6 n6 c6) (.slice a3 n3 c3) (.slice a4 n4 c4) (h.k.kept0 gW) (h'.k.kept0 gW) h.kn (h.m.kept gW) (h'.m.kept gW) h.mn (h.d.kept0 gW) (h'.d.kept0 gW)
  clear h h'
  go_enter Tryz.func41, Tryz.ntmps41
  go_wp2_with (go_at_call 18; go_must ((with_reducible refine h16.mono ?_); rintro e w3 ⟨rfl, hg3⟩; (have z1 := (b1.kept gA (by simp)).kept hg3 (by simp)); (have z2 := b2.kept hg3 (by simp)); (have p0 : w3.cell? ⟨w.heap.size, 0, none⟩ = some (.int .i64 s.cmd.verb) := z1.cell 0); (have p1 : w3.cell? ⟨w.heap.size, 1, none⟩ = some (.slice a1 n1 c1) := z1.cell 1); (have p2 : w3.cell? ⟨w.heap.size, 2, none⟩ = some (.int .u64 s.cmd.flags) := z1.cell 2); (have p3 : w3.cell? ⟨w.heap.size, 3, none⟩ = some (.int .i64 s.cmd.exp) := z1.cell 3); (have p4 : w3.cell? ⟨w.heap.size, 4, none⟩ = some (.int .u64 s.cmd.tok) := z1.cell 4); (have p5 : w3.cell? ⟨w.heap.size, 5, none⟩ = some (.int .u64 s.cmd.del) := z1.cell 5); (have p6 : w3.cell? ⟨w.heap.size, 6, none⟩ = some (.slice a5 n5 c5) := z1.cell 6); (have p7 : w3.cell? ⟨w.heap.size, 7, none⟩ = some (.bool s.cmd.nr) := z1.cell 7); (have p8 : w3.cell? ⟨w.heap.size, 8, none⟩ = some (.bool s.large) := z1.cell 8); (have p9 : w3.cell? ⟨w.heap.size, 9, none⟩ = some (.slice a3 n3 c3) := z1.cell 9); (have p10 : w3.cell? ⟨w.heap.size, 10, none⟩ = some (sv s.cmd.what) := z1.cell 10); (have p11 : w3.cell? ⟨w.heap.size, 11, none⟩ = some (.int .i64 s.wk) := z1.cell 11); (have p12 : w3.cell? ⟨w.heap.size, 12, none⟩ = some (sv s.wt) := z1.cell 12); (have p13 : w3.cell? ⟨w.heap.size, 13, none⟩ = some (.int .i64 s.wp) := z1.cell 13); (have p14 : w3.cell? ⟨w.heap.size, 14, none⟩ = some (.int .i64 s.frm) := z1.cell 14); (have p15 : w3.cell? ⟨w.heap.size, 15, none⟩ = some (.int .i64 s.to) := z1.cell 15); (have q0 : w3.cell? ⟨w.heap.size + 1, 0, none⟩ = some (.int .i64 s.cmd.verb) := z2.cell 0); (have q1 : w3.cell? ⟨w.heap.size + 1, 1, none⟩ = some (.slice a2 n2 c2) := z2.cell 1); (have q2 : w3.cell? ⟨w.heap.size + 1, 2, none⟩ = some (.int .u64 s.cmd.flags) := z2.cell 2); (have q3 : w3.cell? ⟨w.heap.size + 1, 3, none⟩ = some (.int .i64 s.cmd.exp) := z2.cell 3); (have q4 : w3.cell? ⟨w.heap.size + 1, 4, none⟩ = some (.int .u64 s.cmd.tok) := z2.cell 4); (have q5 : w3.cell? ⟨w.heap.size + 1, 5, none⟩ = some (.int .u64 s.cmd.del) := z2.cell 5); (have q6 : w3.cell? ⟨w.heap.size + 1, 6, none⟩ = some (.slice a6 n6 c6) := z2.cell 6); (have q7 : w3.cell? ⟨w.heap.size + 1, 7, none⟩ = some (.bool s.cmd.nr) := z2.cell 7); (have q8 : w3.cell? ⟨w.heap.size + 1, 8, none⟩ = some (.bool s.large) := z2.cell 8); (have q9 : w3.cell? ⟨w.heap.size + 1, 9, none⟩ = some (.slice a4 n4 c4) := z2.cell 9); (have q10 : w3.cell? ⟨w.heap.size + 1, 10, none⟩ = some (sv s.cmd.what) := z2.cell 10); (have q11 : w3.cell? ⟨w.heap.size + 1, 11, none⟩ = some (.int .i64 s.wk) := z2.cell 11); (have q12 : w3.cell? ⟨w.heap.size + 1, 12, none⟩ = some (sv s.wt) := z2.cell 12); (have q13 : w3.cell? ⟨w.heap.size + 1, 13, none⟩ = some (.int .i64 s.wp) := z2.cell 13); (have q14 : w3.cell? ⟨w.heap.size + 1, 14, none⟩ = some (.int .i64 s.frm) := z2.cell 14); (have q15 : w3.cell? ⟨w.heap.size + 1, 15, none⟩ = some (.int .i64 s.to) := z2.cell 15); (have g3 := gb_trans gW hg3)))
  go_ret
  exact ⟨rfl, g3⟩
end Go.Proofs.YtbbocbdoiealoaaGreatDoor
namespace Go.Proofs.YtbbocbdoiealoaaGreatDoor
open Go.RowKit Go.Maps
attribute [local go_sem] Oper.semAt_some
structure CI where
  c : Cmd
  d : Bs
  lg : Bool
  kv : Value
  dv : Value
  mv : Value
abbrev ciL (x : CI) : List Value := [.int .i64 x.c.verb, x.kv, .int .u64 x.c.flags, .int .i64 x.c.exp, .int .u64 x.c.tok, .int .u64 x.c.del, x.dv, .bool x.c.nr, .bool x.lg, x.mv, sv x.c.what]
structure CiOk (w : World) (x : CI) : Prop where
  k : Ws w x.kv x.c.keys
  d : Ck w (fun _ => False) x.dv x.d ∨ (x.d = [] ∧ ∃ a c, x.dv = .slice a 0 c)
  m : Fg w x.mv x.c.mt
  r : RngP x.c
  f : x.c.flags ≤ 18446744073709551615
  v1 : x.c.verb ≤ 9223372036854775807
  v2 : -9223372036854775808 ≤ x.c.verb
  dn : x.d.length ≤ 140737488355328
  kn : x.c.keys.length ≤ 140737488355328
  mn : x.c.mt.length ≤ 140737488355328
  kl : ∀ k ∈ x.c.keys, k.length ≤ 140737488355328
  fl : ∀ f ∈ x.c.mt, f.arg.length ≤ 140737488355328
theorem CiOk.kept {w w' : World} {x : CI} (h : CiOk w x) (hf : w.grownBy w' none) : CiOk w' x :=
  ⟨h.k.kept0 hf, h.d.imp (fun h => h.kept0 hf) id, h.m.kept hf, h.r, h.f, h.v1, h.v2, h.dn, h.kn, h.mn, h.kl, h.fl⟩
theorem CiOk.dsl {w : World} {x : CI} (h : CiOk w x) : ∃ a c, x.dv = .slice a x.d.length c := by
  rcases h.d with h | ⟨h1, a, c, h2⟩
  · obtain ⟨a, n, c, e, rfl⟩ := h.slice
    exact ⟨a, c, e⟩
  · exact ⟨a, c, by rw [h1]; exact h2⟩
structure CiMay (x : CI) (i : Nat) : Prop where
  lt : i < 24
  v : x.c.verb = (i : Int) + 1
  lg : x.lg = false
  m : MayP i x.c x.d.length
  l : (lnB i x.c x.d.length).length ≤ 2048
structure Cms (w : World) (v : Value) (cs : List CI) : Prop where
  shape : ∃ a c, v = .slice a cs.length c
  len : cs.length ≤ 9223372036854775807
  cell : ∀ k x, cs[k]? = some x → ∃ g o c, v = .slice (some ⟨g, o, none⟩) cs.length c ∧ ∀ j u, (ciL x)[j]? = some u → w.cell? ⟨g, o + k * 11 + j, none⟩ = some u
  ok : ∀ x ∈ cs, CiOk w x
section
variable {w : World} {ops : Array Oper} {rest : List Oper} {op : Oper} {a : Act} {Q : Exit → Act → World → Prop}
theorem loadC (hgd : op.guard = none) (x : Operand) (ho : op.op = .load 41 x) (b o : Nat) (hx : a.eval x = .pointer (some ⟨b, o, none⟩)) (cs : List Value) (hs : cs.length = 11) (hc : ∀ j v, cs[j]? = some v → w.cell? ⟨b, o + j, none⟩ = some v)
    (h : wpList Tryz.prog ops Q rest (a.put op.dst (.agg cs.toArray)) w) : wpList Tryz.prog ops Q (op :: rest) a w :=
  wpList_load_mid hgd 41 x ho b o hx cs _ hc Tryz.underlying41 rfl (by rw [hs]; exact size41) h
end
end Go.Proofs.YtbbocbdoiealoaaGreatDoor

import Derived.Test.YtobegepebochkaaGreatDoorTc
import Derived.Laws.EntriesVeiled
import Derived.Deep.RegionLaw
/-
  Small functions of a Feeder.
-/
namespace Go.Proofs.YtobegepebochkaaGreatDoor
open Go.RowKit
set_option linter.unusedVariables false
set_option linter.unusedSimpArgs false

abbrev stpA (s : Stp) (ck cd cm : Value) : Array Value := #[.int .i64 s.cmd.verb, ck, .int .u64 s.cmd.flags, .int .i64 s.cmd.exp, .int .u64 s.cmd.tok, .int .u64 s.cmd.del, cd, .bool s.cmd.nr, .bool s.large, cm, sv s.cmd.what, .int .i64 s.wk, sv s.wt, .int .i64 s.wp, .int .i64 s.frm, .int .i64 s.to]
def sets (vs : Array Value) : Nat → List Value → Array Value
  | _, [] => vs
  | o, v :: l => sets (vs.setIfInBounds o v) (o + 1) l
theorem Box.sets {t b : Nat} : ∀ (l : List Value) (o : Nat) {w : World} {vs : Array Value}, Box w t b vs → Box (w.setCells b o l) t b (sets vs o l)
  | [], _, _, _, h => h
  | v :: l, o, _, _, h => Box.sets l (o + 1) (h.set o v)
theorem gb_setCells {b : Nat} : ∀ (l : List Value) (o : Nat) {w0 w : World}, w0.grownBy w (some b) → w0.grownBy (w.setCells b o l) (some b)
  | [], _, _, _, h => h
  | v :: l, o, _, _, h => gb_setCells l (o + 1) (gb_setCell h v)
theorem Box.there {w : World} {t b : Nat} {vs : Array Value} (h : Box w t b vs) (o n : Nat) (hn : o + n ≤ vs.size) : w.there b o n := by
  intro j hj
  refine ⟨?_, h.fz _⟩
  rw [h.cell, Array.getElem?_eq_getElem (by omega)]
  rfl
theorem sets_7 (c0 c1 c2 c3 c4 c5 c6 c7 c8 c9 c10 c11 c12 c13 c14 c15 c16 c17 c18 c19 c20 c21 c22 c23 v0 v1 v2 v3 v4 v5 v6 v7 v8 v9 v10 v11 v12 v13 v14 v15 : Value) : sets #[c0, c1, c2, c3, c4, c5, c6, c7, c8, c9, c10, c11, c12, c13, c14, c15, c16, c17, c18, c19, c20, c21, c22, c23] 7 [v0, v1, v2, v3, v4, v5, v6, v7, v8, v9, v10, v11, v12, v13, v14, v15] = #[c0, c1, c2, c3, c4, c5, c6, v0, v1, v2, v3, v4, v5, v6, v7, v8, v9, v10, v11, v12, v13, v14, v15, c23] := by
  simp only [sets, List.setIfInBounds_toArray, List.set_cons_zero, List.set_cons_succ]
theorem sets_0 (u0 u1 u2 u3 u4 u5 u6 u7 u8 u9 u10 u11 u12 u13 u14 u15 v0 v1 v2 v3 v4 v5 v6 v7 v8 v9 v10 v11 v12 v13 v14 v15 : Value) : sets #[u0, u1, u2, u3, u4, u5, u6, u7, u8, u9, u10, u11, u12, u13, u14, u15] 0 [v0, v1, v2, v3, v4, v5, v6, v7, v8, v9, v10, v11, v12, v13, v14, v15] = #[v0, v1, v2, v3, v4, v5, v6, v7, v8, v9, v10, v11, v12, v13, v14, v15] := by
  simp only [sets, List.setIfInBounds_toArray, List.set_cons_zero, List.set_cons_succ]
theorem Tryz.info86 : (Tryz.prog.info? 86).map (fun i => (i.zero, i.size, i.bytes)) = some (some (.agg #[.int .i64 0, .slice none 0 0, .int .u64 0, .int .i64 0, .int .u64 0, .int .u64 0, .slice none 0 0, .bool false, .bool false, .slice none 0 0, .string ⟨#[]⟩, .int .i64 0, .string ⟨#[]⟩, .int .i64 0, .int .i64 0, .int .i64 0]), 16, 184) := by kernel_rfl
theorem size86 : (Tryz.prog.info? 86).map (·.size) = some 16 := by kernel_rfl
section
variable {w : World} {ops : Array Oper} {rest : List Oper} {op : Oper} {a : Act} {Q : Exit → Act → World → Prop}
/-- A step is stored into a block that has its place. -/
theorem store86 (hgd : op.guard = none) (x y : Operand) (ho : op.op = .store 86 x y) (t b o : Nat) (vs : Array Value) (hb : Box w t b vs) (hn : o + 16 ≤ vs.size)
    (hx : a.eval x = .pointer (some ⟨b, o, none⟩)) (cs : Array Value) (hy : a.eval y = .agg cs) (hs : cs.size = 16) (h1 : cs.all (·.oneCell') = true)
    (h : ∀ W, Box W t b (sets vs o cs.toList) → w.grownBy W (some b) → wpList Tryz.prog ops Q rest (a.put op.dst undef) W) : wpList Tryz.prog ops Q (op :: rest) a w := by
  refine wpList_store_mid hgd 86 x y ho b o cs hx hy (by rw [hs]; exact hb.there o 16 hn) (by rw [hs]; exact size86) h1 ?_
  exact h _ (hb.sets _ _) (gb_setCells _ _ (gb_refl _ _))
theorem atStore86 {x y : Operand} (ho : op.op = .store 86 x y) (h : wpList Tryz.prog ops Q (op :: rest) a w) : wpList Tryz.prog ops Q (op :: rest) a w := h
theorem atLoad86 {x : Operand} (ho : op.op = .load 86 x) (h : wpList Tryz.prog ops Q (op :: rest) a w) : wpList Tryz.prog ops Q (op :: rest) a w := h
theorem load86 (hgd : op.guard = none) (x : Operand) (ho : op.op = .load 86 x) (t b o : Nat) (vs : Array Value) (hb : Box w t b vs) (hx : a.eval x = .pointer (some ⟨b, o, none⟩)) (cs : List Value) (hs : cs.length = 16) (hc : ∀ j v, cs[j]? = some v → vs[o + j]? = some v)
    (h : wpList Tryz.prog ops Q rest (a.put op.dst (.agg cs.toArray)) w) : wpList Tryz.prog ops Q (op :: rest) a w :=
  wpList_load_mid hgd 86 x ho b o hx cs _ (fun j v hv => by rw [hb.cell]; exact hc j v hv) Tryz.underlying86 rfl (by rw [hs]; exact size86) h
end
set_option maxRecDepth 100000 in
set_option maxHeartbeats 4000000 in
theorem ended_51 {w : World} {fb : Nat} {F : Fd} {kv ck cd cm : Value} {hd lf : Int} (h : Box w 136 fb (fdA fb F kv hd lf ck cd cm)) :
    Calls Tryz.prog 51 #[.pointer (some ⟨fb, 0, none⟩)] w fun e w' => e = .returned (.bool F.ended) ∧ w' = w := by
  have c2 := h.cell 2
  have z2 := h.fz 2
  simp only [List.getElem?_toArray, List.getElem?_cons_succ, List.getElem?_cons_zero] at c2
  clear h
  go_enter Tryz.func51, Tryz.ntmps51
  go_wp2
  go_ret
  exact ⟨rfl, rfl⟩
set_option maxRecDepth 100000 in
set_option maxHeartbeats 4000000 in
theorem taken_52 {w : World} {fb : Nat} {F : Fd} {kv ck cd cm : Value} {hd lf : Int} (h : Box w 136 fb (fdA fb F kv hd lf ck cd cm)) :
    Calls Tryz.prog 52 #[.pointer (some ⟨fb, 0, none⟩)] w fun e w' => e = .returned (.int .i64 F.taken) ∧ w' = w := by
  have c1 := h.cell 1
  have z1 := h.fz 1
  simp only [List.getElem?_toArray, List.getElem?_cons_succ, List.getElem?_cons_zero] at c1
  clear h
  go_enter Tryz.func52, Tryz.ntmps52
  go_wp2
  go_ret
  exact ⟨rfl, rfl⟩
set_option maxRecDepth 100000 in
set_option maxHeartbeats 4000000 in
theorem held_50 {w : World} {fb : Nat} {F : Fd} {kv ck cd cm : Value} {hd lf : Int} (h : Box w 136 fb (fdA fb F kv hd lf ck cd cm)) {ao : Option Addr} {n cp : Nat} (hkv : kv = .slice ao n cp) :
    Calls Tryz.prog 50 #[.pointer (some ⟨fb, 0, none⟩)] w fun e w' => e = .returned (.int .i64 n) ∧ w' = w := by
  subst hkv
  have c4 := h.cell 4
  have z4 := h.fz 4
  simp only [List.getElem?_toArray, List.getElem?_cons_succ, List.getElem?_cons_zero] at c4
  clear h
  go_enter Tryz.func50, Tryz.ntmps50
  go_wp2
  go_ret
  exact ⟨rfl, rfl⟩
set_option maxRecDepth 100000 in
set_option maxHeartbeats 4000000 in
theorem await_157 {w : World} {fb : Nat} {F : Fd} {kv ck cd cm : Value} {hd lf : Int} (h : Box w 136 fb (fdA fb F kv hd lf ck cd cm)) (n : Nat) :
    Calls Tryz.prog 157 #[.pointer (some ⟨fb, 0, none⟩), .int .i64 n] w fun e w' => e = .returned (.tuple #[]) ∧ Box w' 136 fb (fdA fb (F.await n) kv hd n ck cd cm) ∧ w.grownBy w' (some fb) := by
  have hmf : ∀ (fn : Fn) (first cap : Array Value) (w : World), (Instr.makeFunc fn first cap).run Tryz.prog w = .ok (.func fn first cap) w := fun _ _ _ _ => rfl
  have c6 := h.cell 6
  have z6 := h.fz 6
  simp only [List.getElem?_toArray, List.getElem?_cons_succ, List.getElem?_cons_zero] at c6
  obtain ⟨u23, c23⟩ : ∃ u, w.cell? ⟨fb, 23, none⟩ = some u := ⟨_, h.cell 23⟩
  have z23 := h.fz 23
  by_cases hn : n = 0
  · have hc : decide ((n : Int) = 0) = true := decide_eq_true (by omega)
    subst hn
    go_enter Tryz.func157, Tryz.ntmps157
    go_wp2
    go_end0
    exact ⟨rfl, (((h.set 6 _).set 23 _).set 23 _), (gb_setCell (gb_setCell (gb_setCell (gb_refl _ _) _) _) _)⟩
  · have hc : decide ((n : Int) = 0) = false := decide_eq_false (by omega)
    have e : (F.await n) = { F with left := n, st := 1 } := by simp [Fd.await, hn]
    rw [e]
    go_enter Tryz.func157, Tryz.ntmps157
    go_wp2
    go_end0
    exact ⟨rfl, ((h.set 6 _).set 23 _), (gb_setCell (gb_setCell (gb_refl _ _) _) _)⟩
set_option maxRecDepth 100000 in
set_option maxHeartbeats 4000000 in
theorem pass_138 {w : World} {fb : Nat} {F : Fd} {kv ck cd cm : Value} {hd lf : Int} (h : Box w 136 fb (fdA fb F kv hd lf ck cd cm)) (s : Stp) {ka da ma : Option Addr} {kn kc dn dc mn mc : Nat} (n : Nat) :
    Calls Tryz.prog 138 #[.pointer (some ⟨fb, 0, none⟩), .agg (stpA s (.slice ka kn kc) (.slice da dn dc) (.slice ma mn mc)), .int .i64 n] w fun e w' => e = .returned (.tuple #[]) ∧ Box w' 136 fb (fdA fb (F.pass s n) (.slice none 0 0) hd n (.slice ka kn kc) (.slice da dn dc) (.slice ma mn mc)) ∧ w.grownBy w' (some fb) := by
  have hmf : ∀ (fn : Fn) (first cap : Array Value) (w : World), (Instr.makeFunc fn first cap).run Tryz.prog w = .ok (.func fn first cap) w := fun _ _ _ _ => rfl
  have h1 : Box (w.alloc (.cells (stpA s (.slice ka kn kc) (.slice da dn dc) (.slice ma mn mc)) 86)) 136 fb (fdA fb F kv hd lf ck cd cm) := h.kept (gb_alloc (gb_refl _ none) _) (by simp)
  have g1 : w.grownBy (w.alloc (.cells (stpA s (.slice ka kn kc) (.slice da dn dc) (.slice ma mn mc)) 86)) (some fb) := gb_alloc (gb_refl w (some fb)) _
  clear h
  go_enter Tryz.func138, Tryz.ntmps138
  go_wp2_with (refine atStore86 rfl ?_; go_must (refine store86 rfl _ _ rfl 136 fb 7 _ h1 (by simp) rfl _ rfl rfl (by simp [Value.oneCell']) ?_); intro W hb hg; (simp only [sets_7] at hb); (have hgw := gb_trans g1 hg); clear h1 g1 hg; (obtain ⟨u4, d4⟩ : ∃ u, W.cell? ⟨fb, 4, none⟩ = some u := ⟨_, hb.cell 4⟩); (obtain ⟨u6, d6⟩ : ∃ u, W.cell? ⟨fb, 6, none⟩ = some u := ⟨_, hb.cell 6⟩); (obtain ⟨u23, d23⟩ : ∃ u, W.cell? ⟨fb, 23, none⟩ = some u := ⟨_, hb.cell 23⟩); (have z4 := hb.fz 4); (have z6 := hb.fz 6); (have z23 := hb.fz 23))
  go_end0
  exact ⟨rfl, ((hb.set 6 _).set 4 _).set 23 _, gb_setCell (gb_setCell (gb_setCell hgw _) _) _⟩
set_option maxRecDepth 100000 in
set_option maxHeartbeats 4000000 in
theorem spoil_187 {w : World} {fb : Nat} {F : Fd} {kv ck cd cm : Value} {hd lf : Int} (h : Box w 136 fb (fdA fb F kv hd lf ck cd cm)) :
    Calls Tryz.prog 187 #[.pointer (some ⟨fb, 0, none⟩)] w fun e w' => e = .returned (.tuple #[]) ∧ Box w' 136 fb (fdA fb F.spoil (.slice none 0 0) hd 0 (.slice none 0 0) (.slice none 0 0) (.slice none 0 0)) ∧ w.grownBy w' (some fb) := by
  have h138 : Calls Tryz.prog 138 #[.pointer (some ⟨fb, 0, none⟩), .agg #[.int .i64 0, .slice none 0 0, .int .u64 0, .int .i64 0, .int .u64 0, .int .u64 0, .slice none 0 0, .bool false, .bool false, .slice none 0 0, .string ⟨#[]⟩, .int .i64 2, .string ⟨#[98, 97, 100, 32, 100, 97, 116, 97, 32, 99, 104, 117, 110, 107]⟩, .int .i64 (-1), .int .i64 0, .int .i64 0], .int .i64 0] w _ := pass_138 h (stpW 2 badB (-1)) (ka := none) (kn := 0) (kc := 0) (da := none) (dn := 0) (dc := 0) (ma := none) (mn := 0) (mc := 0) 0
  clear h
  go_enter Tryz.func187, Tryz.ntmps187
  go_wp2_with (go_at_call 138; go_must ((with_reducible refine h138.mono ?_); rintro e w4 ⟨rfl, hb4, hg4⟩))
  go_end0
  exact ⟨rfl, hb4, hg4⟩
set_option maxRecDepth 100000 in
set_option maxHeartbeats 4000000 in
theorem over_140 (w : World) (fb : Nat) (v : Value) (a : Option Addr) (n c : Nat) (hv : v = .slice a n c) :
    Calls Tryz.prog 140 #[.pointer (some ⟨fb, 0, none⟩), v] w fun e w' => e = .returned (.tuple #[.int .i64 n, .bool false]) ∧ w' = w := by
  subst hv
  go_enter Tryz.func140, Tryz.ntmps140
  go_wp2
  go_ret2
  exact ⟨rfl, rfl⟩
end Go.Proofs.YtobegepebochkaaGreatDoor
/-
  A step is told.
-/
namespace Go.Proofs.YtobegepebochkaaGreatDoor
open Go.RowKit
set_option linter.unusedVariables false
set_option linter.unusedSimpArgs false

section
variable {w : World} {ops : Array Oper} {rest : List Oper} {op : Oper} {a : Act} {Q : Exit → Act → World → Prop}
theorem atS86 {x y : Operand} (b o : Nat) (ho : op.op = .store 86 x y) (hx : a.eval x = .pointer (some ⟨b, o, none⟩)) (h : wpList Tryz.prog ops Q (op :: rest) a w) : wpList Tryz.prog ops Q (op :: rest) a w := h
theorem atL86 {x : Operand} (b o : Nat) (ho : op.op = .load 86 x) (hx : a.eval x = .pointer (some ⟨b, o, none⟩)) (h : wpList Tryz.prog ops Q (op :: rest) a w) : wpList Tryz.prog ops Q (op :: rest) a w := h
end
abbrev Z86 : Array Value := #[.int .i64 0, .slice none 0 0, .int .u64 0, .int .i64 0, .int .u64 0, .int .u64 0, .slice none 0 0, .bool false, .bool false, .slice none 0 0, .string ⟨#[]⟩, .int .i64 0, .string ⟨#[]⟩, .int .i64 0, .int .i64 0, .int .i64 0]
theorem gb_mine2 {a b c : World} {row : Option Nat} {g : Nat} (h : a.grownBy b row) (k : b.grownBy c (some g)) (hg : a.heap.size ≤ g) : a.grownBy c row :=
  ⟨k.os.trans h.os, k.tape.trans h.tape, k.output.trans h.output, Nat.le_trans h.size k.size, fun i hi hn => (k.block i (Nat.lt_of_lt_of_le hi h.size) (by simp; omega)).trans (h.block i hi hn)⟩
theorem res93 {w : World} {b : Nat} {c0 c1 c2 c3 c4 c5 c6 c7 c8 c9 c10 c11 c12 c13 c14 c15 : Value} (h : Box w 86 b #[c0, c1, c2, c3, c4, c5, c6, c7, c8, c9, c10, c11, c12, c13, c14, c15]) (tmps : Array Value) (ht : tmps[2]?.getD undef = .pointer (some ⟨b, 0, none⟩)) : (results Tryz.f93 tmps).run Tryz.prog w = .ok (.agg #[c0, c1, c2, c3, c4, c5, c6, c7, c8, c9, c10, c11, c12, c13, c14, c15]) w := by
  have hr : Tryz.f93.results = #[.cell 2 86] := rfl
  have h0 := h.cell 0
  have h1 := h.cell 1
  have h2 := h.cell 2
  have h3 := h.cell 3
  have h4 := h.cell 4
  have h5 := h.cell 5
  have h6 := h.cell 6
  have h7 := h.cell 7
  have h8 := h.cell 8
  have h9 := h.cell 9
  have h10 := h.cell 10
  have h11 := h.cell 11
  have h12 := h.cell 12
  have h13 := h.cell 13
  have h14 := h.cell 14
  have h15 := h.cell 15
  simp at h0 h1 h2 h3 h4 h5 h6 h7 h8 h9 h10 h11 h12 h13 h14 h15
  unfold results
  simp [hr, ht, go_sem, h0, h1, h2, h3, h4, h5, h6, h7, h8, h9, h10, h11, h12, h13, h14, h15]
set_option maxRecDepth 100000 in
set_option maxHeartbeats 4000000 in
theorem tell_93 {w : World} {fb : Nat} {F : Fd} {kv : Value} {hd lf : Int} {ka da ma : Option Addr} {kn kc dn dc mn mc : Nat} (h : Box w 136 fb (fdA fb F kv hd lf (.slice ka kn kc) (.slice da dn dc) (.slice ma mn mc))) :
    Calls Tryz.prog 93 #[.pointer (some ⟨fb, 0, none⟩)] w fun e w' => e = .returned (.agg (stpA { F.s with frm := F.frm, to := F.taken } (.slice ka kn kc) (.slice da dn dc) (.slice ma mn mc))) ∧ Box w' 136 fb (fdA fb F.tell.1 (.slice none 0 0) hd lf (.slice none 0 0) (.slice none 0 0) (.slice none 0 0)) ∧ w.grownBy w' (some fb) := by
  have hmf : ∀ (fn : Fn) (first cap : Array Value) (w : World), (Instr.makeFunc fn first cap).run Tryz.prog w = .ok (.func fn first cap) w := fun _ _ _ _ => rfl
  have hlt := h.lt
  have hf1 : Box (w.alloc (.cells Z86 86)) 136 fb (fdA fb F kv hd lf (.slice ka kn kc) (.slice da dn dc) (.slice ma mn mc)) := h.kept (gb_alloc (gb_refl _ none) _) (by simp)
  have hf2 : Box ((w.alloc (.cells Z86 86)).alloc (.cells Z86 86)) 136 fb (fdA fb F kv hd lf (.slice ka kn kc) (.slice da dn dc) (.slice ma mn mc)) := hf1.kept (gb_alloc (gb_refl _ none) _) (by simp)
  have hr2 : Box ((w.alloc (.cells Z86 86)).alloc (.cells Z86 86)) 86 w.heap.size Z86 := (Box.new w 86 Z86).kept (gb_alloc (gb_refl _ none) _) (by simp)
  have hs2 : Box ((w.alloc (.cells Z86 86)).alloc (.cells Z86 86)) 86 (w.heap.size + 1) Z86 := by
    have := Box.new (w.alloc (.cells Z86 86)) 86 Z86
    simp only [World.size_alloc] at this
    exact this
  have hn1 : fb ≠ w.heap.size := by omega
  have hn2 : fb ≠ w.heap.size + 1 := by omega
  have g2 : w.grownBy ((w.alloc (.cells Z86 86)).alloc (.cells Z86 86)) none := gb_alloc (gb_alloc (gb_refl w none) _) _
  by_cases hv : F.s.cmd.verb = 18
  · have hvd : decide (F.s.cmd.verb = 18) = true := by simp [hv]
    clear h
    go_enter Tryz.func93, Tryz.ntmps93
    go_wp2_with (first | (refine atL86 fb 7 rfl rfl ?_; go_must (refine load86 rfl _ rfl 136 fb 7 _ hf1 rfl (stpL F.s (.slice ka kn kc) (.slice da dn dc) (.slice ma mn mc)) rfl (fun j v hv => by rcases j with _ | _ | _ | _ | _ | _ | _ | _ | _ | _ | _ | _ | _ | _ | _ | _ | j <;> simp at hv ⊢ <;> exact hv) ?_)) | (refine atS86 (w.heap.size + 1) 0 rfl rfl ?_; go_must (refine store86 rfl _ _ rfl 86 (w.heap.size + 1) 0 _ hs2 (by simp) rfl _ rfl rfl (by simp [Value.oneCell']) ?_); intro W3 hs3 hg3; (simp only [sets_0] at hs3); (have hf3 := hf2.kept hg3 (by simp; omega)); (have hr3 := hr2.kept hg3 (by simp)); (have d3 : W3.cell? ⟨fb, 3, none⟩ = some (.int .i64 F.frm) := hf3.cell 3); (have d1 : W3.cell? ⟨fb, 1, none⟩ = some (.int .i64 F.taken) := hf3.cell 1); (obtain ⟨e14, d14⟩ : ∃ u, W3.cell? ⟨w.heap.size + 1, 14, none⟩ = some u := ⟨_, hs3.cell 14⟩); (obtain ⟨e15, d15⟩ : ∃ u, W3.cell? ⟨w.heap.size + 1, 15, none⟩ = some u := ⟨_, hs3.cell 15⟩); (have y14 := hs3.fz 14); (have y15 := hs3.fz 15); (have hg4 : W3.grownBy (((W3.setCell ⟨w.heap.size + 1, 14, none⟩ (.int .i64 F.frm)).setCell ⟨w.heap.size + 1, 15, none⟩ (.int .i64 F.taken)).drew) (some (w.heap.size + 1)) := gb_drew (gb_setCell (gb_setCell (gb_refl _ _) _) _)); (have hf4 := hf3.kept hg4 (by simp; omega)); (have hr4 := hr3.kept hg4 (by simp)); (have hs4 : Box (((W3.setCell ⟨w.heap.size + 1, 14, none⟩ (.int .i64 F.frm)).setCell ⟨w.heap.size + 1, 15, none⟩ (.int .i64 F.taken)).drew) 86 (w.heap.size + 1) (stpA { F.s with frm := F.frm, to := F.taken } (.slice ka kn kc) (.slice da dn dc) (.slice ma mn mc)) := (hs3.set 14 _).set 15 _); (have g4 := gb_mine (gb_mine g2 hg3 (by omega)) hg4 (by omega))))
    rename_i K hK
    have key : K ({ tmps := #[.pointer (some ⟨fb, 0, none⟩), undef, .pointer (some ⟨w.heap.size, 0, none⟩), .pointer (some ⟨w.heap.size + 1, 0, none⟩), .pointer (some ⟨fb, 0, none⟩), .pointer (some ⟨fb, 0, none⟩), .pointer (some ⟨fb, 7, none⟩), .agg (stpL F.s (.slice ka kn kc) (.slice da dn dc) (.slice ma mn mc)).toArray, .pointer (some ⟨fb, 0, none⟩), .pointer (some ⟨fb, 0, none⟩), .pointer (some ⟨fb, 3, none⟩), .int .i64 F.frm, .pointer (some ⟨fb, 0, none⟩), .pointer (some ⟨fb, 0, none⟩), .pointer (some ⟨fb, 1, none⟩), .int .i64 F.taken, .pointer (some ⟨w.heap.size + 1, 14, none⟩), .pointer (some ⟨w.heap.size + 1, 15, none⟩), undef, undef, undef, undef, undef, undef, undef, undef, undef, undef, undef, undef, undef, undef, undef, undef, undef, undef, undef, undef, undef, undef, undef, undef, undef, undef, undef, undef, undef, undef, undef, undef], defers := [] } : Act) (((W3.setCell ⟨w.heap.size + 1, 14, none⟩ (.int .i64 F.frm)).setCell ⟨w.heap.size + 1, 15, none⟩ (.int .i64 F.taken)).drew) := by
      refine hK _ _ ?_
      clear hK hf1 hf2 hr2 hs2 g2 hs3 hg3 hf3 hr3 d3 d14 d15 y14 y15 hg4
      go_wp2_with (first | (refine atS86 fb 7 rfl rfl ?_; go_must (refine store86 rfl _ _ rfl 136 fb 7 _ hf4 (by simp) rfl _ rfl rfl (by simp [Value.oneCell']) ?_); intro W5 hf5 hg5; (simp only [sets_7] at hf5); (have hs5 := hs4.kept hg5 (by simp; omega)); (have hr5 := hr4.kept hg5 (by simp; omega)); (have k1 : W5.cell? ⟨fb, 1, none⟩ = some (.int .i64 F.taken) := hf5.cell 1); (obtain ⟨u4, k4⟩ : ∃ u, W5.cell? ⟨fb, 4, none⟩ = some u := ⟨_, hf5.cell 4⟩); (obtain ⟨u3, k3⟩ : ∃ u, W5.cell? ⟨fb, 3, none⟩ = some u := ⟨_, hf5.cell 3⟩); (obtain ⟨u2, k2⟩ : ∃ u, W5.cell? ⟨fb, 2, none⟩ = some u := ⟨_, hf5.cell 2⟩); (obtain ⟨u23, k23⟩ : ∃ u, W5.cell? ⟨fb, 23, none⟩ = some u := ⟨_, hf5.cell 23⟩); (have x4 := hf5.fz 4); (have x3 := hf5.fz 3); (have x2 := hf5.fz 2); (have x23 := hf5.fz 23); (have kv0 : W5.cell? ⟨w.heap.size + 1, 0, none⟩ = some (.int .i64 F.s.cmd.verb) := hs5.cell 0); (have hg6 : W5.grownBy (((((W5.setCell ⟨fb, 4, none⟩ (.slice none 0 0)).setCell ⟨fb, 3, none⟩ (.int .i64 F.taken)).setCell ⟨fb, 23, none⟩ (stV fb 0)).setCell ⟨fb, 2, none⟩ (.bool true)).setCell ⟨fb, 23, none⟩ (stV fb 5)) (some fb) := (gb_setCell (gb_setCell (gb_setCell (gb_setCell (gb_setCell (gb_refl _ _) _) _) _) _) _)); (have hs6 := hs5.kept hg6 (by simp; omega)); (have hr6 := hr5.kept hg6 (by simp; omega))) | (refine atL86 (w.heap.size + 1) 0 rfl rfl ?_; go_must (refine load86 rfl _ rfl 86 (w.heap.size + 1) 0 _ hs6 rfl (stpA { F.s with frm := F.frm, to := F.taken } (.slice ka kn kc) (.slice da dn dc) (.slice ma mn mc)).toList rfl (fun j v hv => by rw [Nat.zero_add]; simpa using hv) ?_)) | (refine atS86 w.heap.size 0 rfl rfl ?_; go_must (refine store86 rfl _ _ rfl 86 w.heap.size 0 _ hr6 (by simp) rfl _ rfl rfl (by simp [Value.oneCell']) ?_); intro W7 hr7 hg7; (simp only [sets_0] at hr7)))
      refine ⟨rfl, _, res93 hr7 _ rfl, rfl, ?_, ?_⟩
      · have hh := ((((((hf5.set 4 _).set 3 _).set 23 _).set 2 _).set 23 _)).kept hg7 (by simp; omega)
        simp [Fd.tell, hv, stp0, cmd0] at hh ⊢
        exact hh
      · exact gb_mine2 (gb_trans (gb_trans (gb_none (some fb) g4) hg5) hg6) hg7 (by omega)
    go_region_law (fail)
    all_goals exact key
  · have hvd : decide (F.s.cmd.verb = 18) = false := by simp [hv]
    clear h
    go_enter Tryz.func93, Tryz.ntmps93
    go_wp2_with (first | (refine atL86 fb 7 rfl rfl ?_; go_must (refine load86 rfl _ rfl 136 fb 7 _ hf1 rfl (stpL F.s (.slice ka kn kc) (.slice da dn dc) (.slice ma mn mc)) rfl (fun j v hv => by rcases j with _ | _ | _ | _ | _ | _ | _ | _ | _ | _ | _ | _ | _ | _ | _ | _ | j <;> simp at hv ⊢ <;> exact hv) ?_)) | (refine atS86 (w.heap.size + 1) 0 rfl rfl ?_; go_must (refine store86 rfl _ _ rfl 86 (w.heap.size + 1) 0 _ hs2 (by simp) rfl _ rfl rfl (by simp [Value.oneCell']) ?_); intro W3 hs3 hg3; (simp only [sets_0] at hs3); (have hf3 := hf2.kept hg3 (by simp; omega)); (have hr3 := hr2.kept hg3 (by simp)); (have d3 : W3.cell? ⟨fb, 3, none⟩ = some (.int .i64 F.frm) := hf3.cell 3); (have d1 : W3.cell? ⟨fb, 1, none⟩ = some (.int .i64 F.taken) := hf3.cell 1); (obtain ⟨e14, d14⟩ : ∃ u, W3.cell? ⟨w.heap.size + 1, 14, none⟩ = some u := ⟨_, hs3.cell 14⟩); (obtain ⟨e15, d15⟩ : ∃ u, W3.cell? ⟨w.heap.size + 1, 15, none⟩ = some u := ⟨_, hs3.cell 15⟩); (have y14 := hs3.fz 14); (have y15 := hs3.fz 15); (have hg4 : W3.grownBy (((W3.setCell ⟨w.heap.size + 1, 14, none⟩ (.int .i64 F.frm)).setCell ⟨w.heap.size + 1, 15, none⟩ (.int .i64 F.taken)).drew) (some (w.heap.size + 1)) := gb_drew (gb_setCell (gb_setCell (gb_refl _ _) _) _)); (have hf4 := hf3.kept hg4 (by simp; omega)); (have hr4 := hr3.kept hg4 (by simp)); (have hs4 : Box (((W3.setCell ⟨w.heap.size + 1, 14, none⟩ (.int .i64 F.frm)).setCell ⟨w.heap.size + 1, 15, none⟩ (.int .i64 F.taken)).drew) 86 (w.heap.size + 1) (stpA { F.s with frm := F.frm, to := F.taken } (.slice ka kn kc) (.slice da dn dc) (.slice ma mn mc)) := (hs3.set 14 _).set 15 _); (have g4 := gb_mine (gb_mine g2 hg3 (by omega)) hg4 (by omega))))
    rename_i K hK
    have key : K ({ tmps := #[.pointer (some ⟨fb, 0, none⟩), undef, .pointer (some ⟨w.heap.size, 0, none⟩), .pointer (some ⟨w.heap.size + 1, 0, none⟩), .pointer (some ⟨fb, 0, none⟩), .pointer (some ⟨fb, 0, none⟩), .pointer (some ⟨fb, 7, none⟩), .agg (stpL F.s (.slice ka kn kc) (.slice da dn dc) (.slice ma mn mc)).toArray, .pointer (some ⟨fb, 0, none⟩), .pointer (some ⟨fb, 0, none⟩), .pointer (some ⟨fb, 3, none⟩), .int .i64 F.frm, .pointer (some ⟨fb, 0, none⟩), .pointer (some ⟨fb, 0, none⟩), .pointer (some ⟨fb, 1, none⟩), .int .i64 F.taken, .pointer (some ⟨w.heap.size + 1, 14, none⟩), .pointer (some ⟨w.heap.size + 1, 15, none⟩), undef, undef, undef, undef, undef, undef, undef, undef, undef, undef, undef, undef, undef, undef, undef, undef, undef, undef, undef, undef, undef, undef, undef, undef, undef, undef, undef, undef, undef, undef, undef, undef], defers := [] } : Act) (((W3.setCell ⟨w.heap.size + 1, 14, none⟩ (.int .i64 F.frm)).setCell ⟨w.heap.size + 1, 15, none⟩ (.int .i64 F.taken)).drew) := by
      refine hK _ _ ?_
      clear hK hf1 hf2 hr2 hs2 g2 hs3 hg3 hf3 hr3 d3 d14 d15 y14 y15 hg4
      go_wp2_with (first | (refine atS86 fb 7 rfl rfl ?_; go_must (refine store86 rfl _ _ rfl 136 fb 7 _ hf4 (by simp) rfl _ rfl rfl (by simp [Value.oneCell']) ?_); intro W5 hf5 hg5; (simp only [sets_7] at hf5); (have hs5 := hs4.kept hg5 (by simp; omega)); (have hr5 := hr4.kept hg5 (by simp; omega)); (have k1 : W5.cell? ⟨fb, 1, none⟩ = some (.int .i64 F.taken) := hf5.cell 1); (obtain ⟨u4, k4⟩ : ∃ u, W5.cell? ⟨fb, 4, none⟩ = some u := ⟨_, hf5.cell 4⟩); (obtain ⟨u3, k3⟩ : ∃ u, W5.cell? ⟨fb, 3, none⟩ = some u := ⟨_, hf5.cell 3⟩); (obtain ⟨u2, k2⟩ : ∃ u, W5.cell? ⟨fb, 2, none⟩ = some u := ⟨_, hf5.cell 2⟩); (obtain ⟨u23, k23⟩ : ∃ u, W5.cell? ⟨fb, 23, none⟩ = some u := ⟨_, hf5.cell 23⟩); (have x4 := hf5.fz 4); (have x3 := hf5.fz 3); (have x2 := hf5.fz 2); (have x23 := hf5.fz 23); (have kv0 : W5.cell? ⟨w.heap.size + 1, 0, none⟩ = some (.int .i64 F.s.cmd.verb) := hs5.cell 0); (have hg6 : W5.grownBy (((W5.setCell ⟨fb, 4, none⟩ (.slice none 0 0)).setCell ⟨fb, 3, none⟩ (.int .i64 F.taken)).setCell ⟨fb, 23, none⟩ (stV fb 0)) (some fb) := (gb_setCell (gb_setCell (gb_setCell (gb_refl _ _) _) _) _)); (have hs6 := hs5.kept hg6 (by simp; omega)); (have hr6 := hr5.kept hg6 (by simp; omega))) | (refine atL86 (w.heap.size + 1) 0 rfl rfl ?_; go_must (refine load86 rfl _ rfl 86 (w.heap.size + 1) 0 _ hs6 rfl (stpA { F.s with frm := F.frm, to := F.taken } (.slice ka kn kc) (.slice da dn dc) (.slice ma mn mc)).toList rfl (fun j v hv => by rw [Nat.zero_add]; simpa using hv) ?_)) | (refine atS86 w.heap.size 0 rfl rfl ?_; go_must (refine store86 rfl _ _ rfl 86 w.heap.size 0 _ hr6 (by simp) rfl _ rfl rfl (by simp [Value.oneCell']) ?_); intro W7 hr7 hg7; (simp only [sets_0] at hr7)))
      refine ⟨rfl, _, res93 hr7 _ rfl, rfl, ?_, ?_⟩
      · have hh := ((((hf5.set 4 _).set 3 _).set 23 _)).kept hg7 (by simp; omega)
        simp [Fd.tell, hv, stp0, cmd0] at hh ⊢
        exact hh
      · exact gb_mine2 (gb_trans (gb_trans (gb_none (some fb) g4) hg5) hg6) hg7 (by omega)
    go_region_law (fail)
    all_goals exact key
end Go.Proofs.YtobegepebochkaaGreatDoor

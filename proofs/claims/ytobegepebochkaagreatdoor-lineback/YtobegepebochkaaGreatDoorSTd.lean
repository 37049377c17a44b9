import Derived.Laws.EntriesVeiled
import Derived.Deep.RegionLaw
import Derived.Test.YtobegepebochkaaGreatDoorSPai
set_option linter.unusedVariables false
set_option linter.unusedSimpArgs false
namespace Go.Proofs.YtobegepebochkaaGreatDoor
open Go.RowKit
abbrev stpA (s : Stp) (ck cd cm : Value) : Array Value := #[.int .i64 s.cmd.verb, ck, .int .u64 s.cmd.flags, .int .i64 s.cmd.exp, .int .u64 s.cmd.tok, .int .u64 s.cmd.del, cd, .bool s.cmd.nr, .bool s.large, cm, sv s.cmd.what, .int .i64 s.wk, sv s.wt, .int .i64 s.wp, .int .i64 s.frm, .int .i64 s.to]
def sets (vs : Array Value) : Nat → List Value → Array Value
  | _, [] => vs
  | o, v :: l => sets (vs.setIfInBounds o v) (o + 1) l
theorem Box.sets {t b : Nat} : ∀ (l : List Value) (o : Nat) {w : World} {vs : Array Value}, Box w t b vs → Box (w.setCells b o l) t b (sets vs o l)
  | [], _, _, _, h => h
  | v :: l, o, _, _, h => Box.sets l (o + 1) (h.set o v)
theorem gb_setCells {b : Nat} : ∀ (l : List Value) (o : Nat) {w0 w : World}, w0.grownBy w (some b) → w0.grownBy (w.setCells b o l) (some b)
  | [], _, _, _, h => h
  | v :: l, o, _, _, h => gb_setCells l (o + 1) (gb_setCell h v)
theorem Box.there {w : World} {t b : Nat} {vs : Array Value} (h : Box w t b vs) (o n : Nat) (hn : o + n ≤ vs.size) : w.there b o n := by
  intro j hj
  refine ⟨?_, h.fz _⟩
  rw [h.cell, Array.getElem?_eq_getElem (by omega)]
  rfl
theorem sets_7 (c0 c1 c2 c3 c4 c5 c6 c7 c8 c9 c10 c11 c12 c13 c14 c15 c16 c17 c18 c19 c20 c21 c22 c23 v0 v1 v2 v3 v4 v5 v6 v7 v8 v9 v10 v11 v12 v13 v14 v15 : Value) : sets #[c0, c1, c2, c3, c4, c5, c6, c7, c8, c9, c10, c11, c12, c13, c14, c15, c16, c17, c18, c19, c20, c21, c22, c23] 7 [v0, v1, v2, v3, v4, v5, v6, v7, v8, v9, v10, v11, v12, v13, v14, v15] = #[c0, c1, c2, c3, c4, c5, c6, v0, v1, v2, v3, v4, v5, v6, v7, v8, v9, v10, v11, v12, v13, v14, v15, c23] := by
  simp only [sets, List.setIfInBounds_toArray, List.set_cons_zero, List.set_cons_succ]
theorem sets_0 (u0 u1 u2 u3 u4 u5 u6 u7 u8 u9 u10 u11 u12 u13 u14 u15 v0 v1 v2 v3 v4 v5 v6 v7 v8 v9 v10 v11 v12 v13 v14 v15 : Value) : sets #[u0, u1, u2, u3, u4, u5, u6, u7, u8, u9, u10, u11, u12, u13, u14, u15] 0 [v0, v1, v2, v3, v4, v5, v6, v7, v8, v9, v10, v11, v12, v13, v14, v15] = #[v0, v1, v2, v3, v4, v5, v6, v7, v8, v9, v10, v11, v12, v13, v14, v15] := by
  simp only [sets, List.setIfInBounds_toArray, List.set_cons_zero, List.set_cons_succ]
theorem size86 : (Tryz.prog.info? 86).map (·.size) = some 16 := by kernel_rfl
section
variable {w : World} {ops : Array Oper} {rest : List Oper} {op : Oper} {a : Act} {Q : Exit → Act → World → Prop}
theorem store86 (hgd : op.guard = none) (x y : Operand) (ho : op.op = .store 86 x y) (t b o : Nat) (vs : Array Value) (hb : Box w t b vs) (hn : o + 16 ≤ vs.size)
    (hx : a.eval x = .pointer (some ⟨b, o, none⟩)) (cs : Array Value) (hy : a.eval y = .agg cs) (hs : cs.size = 16) (h1 : cs.all (·.oneCell') = true)
    (h : ∀ W, Box W t b (sets vs o cs.toList) → w.grownBy W (some b) → wpList Tryz.prog ops Q rest (a.put op.dst undef) W) : wpList Tryz.prog ops Q (op :: rest) a w := by
  refine wpList_store_mid hgd 86 x y ho b o cs hx hy (by rw [hs]; exact hb.there o 16 hn) (by rw [hs]; exact size86) h1 ?_
  exact h _ (hb.sets _ _) (gb_setCells _ _ (gb_refl _ _))
theorem atStore86 {x y : Operand} (ho : op.op = .store 86 x y) (h : wpList Tryz.prog ops Q (op :: rest) a w) : wpList Tryz.prog ops Q (op :: rest) a w := h
theorem load86 (hgd : op.guard = none) (x : Operand) (ho : op.op = .load 86 x) (t b o : Nat) (vs : Array Value) (hb : Box w t b vs) (hx : a.eval x = .pointer (some ⟨b, o, none⟩)) (cs : List Value) (hs : cs.length = 16) (hc : ∀ j v, cs[j]? = some v → vs[o + j]? = some v)
    (h : wpList Tryz.prog ops Q rest (a.put op.dst (.agg cs.toArray)) w) : wpList Tryz.prog ops Q (op :: rest) a w :=
  wpList_load_mid hgd 86 x ho b o hx cs _ (fun j v hv => by rw [hb.cell]; exact hc j v hv) Tryz.underlying86 rfl (by rw [hs]; exact size86) h
end
set_option maxRecDepth 100000 in
set_option maxHeartbeats 4000000 in
theorem ended_51 {w : World} {fb : Nat} {F : Fd} {kv ck cd cm : Value} {hd lf : Int} (h : Box w 136 fb (fdA fb F kv hd lf ck cd cm)) :
    Calls Tryz.prog 51 #[.pointer (some ⟨fb, 0, none⟩)] w fun e w' => e = .returned (.bool F.ended) ∧ w' = w := by
  have c2 := h.cell 2
  have z2 := h.fz 2
  simp only [List.getElem?_toArray, List.getElem?_cons_succ, List.getElem?_cons_zero] at c2
  clear h
  go_enter Tryz.func51, Tryz.ntmps51
  go_wp2
  go_ret
  exact ⟨rfl, rfl⟩
set_option maxRecDepth 100000 in
set_option maxHeartbeats 4000000 in
theorem taken_52 {w : World} {fb : Nat} {F : Fd} {kv ck cd cm : Value} {hd lf : Int} (h : Box w 136 fb (fdA fb F kv hd lf ck cd cm)) :
    Calls Tryz.prog 52 #[.pointer (some ⟨fb, 0, none⟩)] w fun e w' => e = .returned (.int .i64 F.taken) ∧ w' = w := by
  have c1 := h.cell 1
  have z1 := h.fz 1
  simp only [List.getElem?_toArray, List.getElem?_cons_succ, List.getElem?_cons_zero] at c1
  clear h
  go_enter Tryz.func52, Tryz.ntmps52
  go_wp2
  go_ret
  exact ⟨rfl, rfl⟩
set_option maxRecDepth 100000 in
set_option maxHeartbeats 4000000 in
theorem held_50 {w : World} {fb : Nat} {F : Fd} {kv ck cd cm : Value} {hd lf : Int} (h : Box w 136 fb (fdA fb F kv hd lf ck cd cm)) {ao : Option Addr} {n cp : Nat} (hkv : kv = .slice ao n cp) :
    Calls Tryz.prog 50 #[.pointer (some ⟨fb, 0, none⟩)] w fun e w' => e = .returned (.int .i64 n) ∧ w' = w := by
  subst hkv
  have c4 := h.cell 4
  have z4 := h.fz 4
  simp only [List.getElem?_toArray, List.getElem?_cons_succ, List.getElem?_cons_zero] at c4
  clear h
  go_enter Tryz.func50, Tryz.ntmps50
  go_wp2
  go_ret
  exact ⟨rfl, rfl⟩
set_option maxRecDepth 100000 in
set_option maxHeartbeats 4000000 in
theorem await_157 {w : World} {fb : Nat} {F : Fd} {kv ck cd cm : Value} {hd lf : Int} (h : Box w 136 fb (fdA fb F kv hd lf ck cd cm)) (n : Nat) :
    Calls Tryz.prog 157 #[.pointer (some ⟨fb, 0, none⟩), .int .i64 n] w fun e w' => e = .returned (.tuple #[]) ∧ Box w' 136 fb (fdA fb (F.await n) kv hd n ck cd cm) ∧ w.grownBy w' (some fb) := by
  have hmf : ∀ (fn : Fn) (first cap : Array Value) (w : World), (Instr.makeFunc fn first cap).run Tryz.prog w = .ok (.func fn first cap) w := fun _ _ _ _ => rfl
  have c6 := h.cell 6
  have z6 := h.fz 6
  simp only [List.getElem?_toArray, List.getElem?_cons_succ, List.getElem?_cons_zero] at c6
  obtain ⟨u23, c23⟩ : ∃ u, w.cell? ⟨fb, 23, none⟩ = some u := ⟨_, h.cell 23⟩
  have z23 := h.fz 23
  by_cases hn : n = 0
  · have hc : decide ((n : Int) = 0) = true := decide_eq_true (by omega)
    subst hn
    go_enter Tryz.func157, Tryz.ntmps157
    go_wp2
    go_end0
    exact ⟨rfl, (((h.set 6 _).set 23 _).set 23 _), (gb_setCell (gb_setCell (gb_setCell (gb_refl _ _) _) _) _)⟩
  · have hc : decide ((n : Int) = 0) = false := decide_eq_false (by omega)
    have e : (F.await n) = { F with left := n, st := 1 } := by simp [Fd.await, hn]
    rw [e]
    go_enter Tryz.func157, Tryz.ntmps157
    go_wp2
    go_end0
    exact ⟨rfl, ((h.set 6 _).set 23 _), (gb_setCell (gb_setCell (gb_refl _ _) _) _)⟩
set_option maxRecDepth 100000 in
set_option maxHeartbeats 4000000 in
theorem pass_138 {w : World} {fb : Nat} {F : Fd} {kv ck cd cm : Value} {hd lf : Int} (h : Box w 136 fb (fdA fb F kv hd lf ck cd cm)) (s : Stp) {ka da ma : Option Addr} {kn kc dn dc mn mc : Nat} (n : Nat) :
    Calls Tryz.prog 138 #[.pointer (some ⟨fb, 0, none⟩), .agg (stpA s (.slice ka kn kc) (.slice da dn dc) (.slice ma mn mc)), .int .i64 n] w fun e w' => e = .returned (.tuple #[]) ∧ Box w' 136 fb (fdA fb (F.pass s n) (.slice none 0 0) hd n (.slice ka kn kc) (.slice da dn dc) (.slice ma mn mc)) ∧ w.grownBy w' (some fb) := by
  have hmf : ∀ (fn : Fn) (first cap : Array Value) (w : World), (Instr.makeFunc fn first cap).run Tryz.prog w = .ok (.func fn first cap) w := fun _ _ _ _ => rfl
  have h1 : Box (w.alloc (.cells (stpA s (.slice ka kn kc) (.slice da dn dc) (.slice ma mn mc)) 86)) 136 fb (fdA fb F kv hd lf ck cd cm) := h.kept (gb_alloc (gb_refl _ none) _) (by simp)
  have g1 : w.grownBy (w.alloc (.cells (stpA s (.slice ka kn kc) (.slice da dn dc) (.slice ma mn mc)) 86)) (some fb) := gb_alloc (gb_refl w (some fb)) _
  clear h
  go_enter Tryz.func138, Tryz.ntmps138
  go_wp2_with (refine atStore86 rfl ?_; go_must (refine store86 rfl _ _ rfl 136 fb 7 _ h1 (by simp) rfl _ rfl rfl (by simp [Value.oneCell']) ?_); intro W hb hg; (simp only [sets_7] at hb); (have hgw := gb_trans g1 hg); clear h1 g1 hg; (obtain ⟨u4, d4⟩ : ∃ u, W.cell? ⟨fb, 4, none⟩ = some u := ⟨_, hb.cell 4⟩); (obtain ⟨u6, d6⟩ : ∃ u, W.cell? ⟨fb, 6, none⟩ = some u := ⟨_, hb.cell 6⟩); (obtain ⟨u23, d23⟩ : ∃ u, W.cell? ⟨fb, 23, none⟩ = some u := ⟨_, hb.cell 23⟩); (have z4 := hb.fz 4); (have z6 := hb.fz 6); (have z23 := hb.fz 23))
  go_end0
  exact ⟨rfl, ((hb.set 6 _).set 4 _).set 23 _, gb_setCell (gb_setCell (gb_setCell hgw _) _) _⟩
set_option maxRecDepth 100000 in
set_option maxHeartbeats 4000000 in
theorem spoil_187 {w : World} {fb : Nat} {F : Fd} {kv ck cd cm : Value} {hd lf : Int} (h : Box w 136 fb (fdA fb F kv hd lf ck cd cm)) :
    Calls Tryz.prog 187 #[.pointer (some ⟨fb, 0, none⟩)] w fun e w' => e = .returned (.tuple #[]) ∧ Box w' 136 fb (fdA fb F.spoil (.slice none 0 0) hd 0 (.slice none 0 0) (.slice none 0 0) (.slice none 0 0)) ∧ w.grownBy w' (some fb) := by
  have h138 : Calls Tryz.prog 138 #[.pointer (some ⟨fb, 0, none⟩), .agg #[.int .i64 0, .slice none 0 0, .int .u64 0, .int .i64 0, .int .u64 0, .int .u64 0, .slice none 0 0, .bool false, .bool false, .slice none 0 0, .string ⟨#[]⟩, .int .i64 2, .string ⟨#[98, 97, 100, 32, 100, 97, 116, 97, 32, 99, 104, 117, 110, 107]⟩, .int .i64 (-1), .int .i64 0, .int .i64 0], .int .i64 0] w _ := pass_138 h (stpW 2 badB (-1)) (ka := none) (kn := 0) (kc := 0) (da := none) (dn := 0) (dc := 0) (ma := none) (mn := 0) (mc := 0) 0
  clear h
  go_enter Tryz.func187, Tryz.ntmps187
  go_wp2_with (go_at_call 138; go_must ((with_reducible refine h138.mono ?_); rintro e w4 ⟨rfl, hb4, hg4⟩))
  go_end0
  exact ⟨rfl, hb4, hg4⟩
set_option maxRecDepth 100000 in
set_option maxHeartbeats 4000000 in
theorem over_140 (w : World) (fb : Nat) (v : Value) (a : Option Addr) (n c : Nat) (hv : v = .slice a n c) :
    Calls Tryz.prog 140 #[.pointer (some ⟨fb, 0, none⟩), v] w fun e w' => e = .returned (.tuple #[.int .i64 n, .bool false]) ∧ w' = w := by
  subst hv
  go_enter Tryz.func140, Tryz.ntmps140
  go_wp2
  go_ret2
  exact ⟨rfl, rfl⟩
end Go.Proofs.YtobegepebochkaaGreatDoor

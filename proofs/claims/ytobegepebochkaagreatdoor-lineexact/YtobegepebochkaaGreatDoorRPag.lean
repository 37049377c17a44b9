import Derived.Test.YtobegepebochkaaGreatDoorRPaf
import Derived.Laws.EntriesVeiled
import Derived.Deep.RegionLaw
set_option linter.unusedVariables false
set_option linter.unusedSimpArgs false
set_option maxRecDepth 100000
set_option maxHeartbeats 16000000
namespace Go.Proofs.YtobegepebochkaaGreatDoor
open Go.RowKit Go.Maps
theorem Ck.slice {w : World} {X : Nat -> Prop} {v : Value} {l : Bs} (h : Ck w X v l) : ∃ a n c, v = .slice a n c /\ n = l.length := by
  rcases h with ⟨rfl, rfl⟩ | ⟨g, o, c, rfl, -⟩
  . exact ⟨none, 0, 0, rfl, rfl⟩
  . exact ⟨_, _, c, rfl, rfl⟩
theorem Ck.cutA {X : Nat -> Prop} {w : World} {a : Option Addr} {c : Nat} {l : Bs} (h : Ck w X (.slice a l.length c) l) (n m : Nat) (hn : n + m <= l.length) : Ck w X (.slice (Option.map (fun x => x.add n) a) m (c - n)) ((l.drop n).take m) := by
  rcases h with ⟨rfl, h⟩ | ⟨g, o, c', h1, h2, h3, h4, h5, h6⟩
  . injection h with h1 h2 h3
    subst h1 h3
    simp at hn
    obtain ⟨rfl, rfl⟩ := hn
    exact .inl ⟨rfl, rfl⟩
  . injection h1 with e1 e2 e3
    subst e1 e3
    refine .inr ⟨g, o + n, c - n, ?_, ?_, by omega, h4, h5, fun i x hx => ?_⟩
    . have : ((l.drop n).take m).length = m := by rw [List.length_take, List.length_drop]; omega
      rw [this, Option.map_some, Addr.add_mid]
    . rw [List.length_take, List.length_drop]; omega
    . rw [List.getElem?_take] at hx
      split at hx
      . rw [List.getElem?_drop] at hx
        rw [Nat.add_assoc]
        exact h6 _ x hx
      . cases hx
theorem Ck.dropA {X : Nat -> Prop} {w : World} {a : Option Addr} {c : Nat} {l : Bs} (h : Ck w X (.slice a l.length c) l) (n : Nat) (hn : n <= l.length) : Ck w X (.slice (Option.map (fun x => x.add n) a) (l.length - n) (c - n)) (l.drop n) := by
  have := h.cutA n (l.length - n) (by omega)
  rwa [List.take_of_length_le (by rw [List.length_drop]; omega)] at this
theorem Ck.cutB {X : Nat -> Prop} {w : World} {a : Option Addr} {c : Nat} {l : Bs} (h : Ck w X (.slice a l.length c) l) (n m : Nat) (hn : n + m <= l.length) (hc : c = n) : Ck w X (.slice a m (c - n)) ((l.drop n).take m) := by
  rcases h with ⟨rfl, h⟩ | ⟨g, o, c', h1, h2, h3, h4, h5, h6⟩
  . injection h with h1 h2 h3
    subst h1 h3
    simp at hn
    obtain ⟨rfl, rfl⟩ := hn
    exact .inl ⟨rfl, rfl⟩
  . injection h1 with e1 e2 e3
    subst e1 e3
    have hm : m = 0 := by omega
    subst hm
    refine .inr ⟨g, o, c - n, by simp, by simp, by omega, h4, h5, fun i x hx => by simp at hx⟩
theorem Ck.dropB {X : Nat -> Prop} {w : World} {a : Option Addr} {c : Nat} {l : Bs} (h : Ck w X (.slice a l.length c) l) (n : Nat) (hn : n <= l.length) (hc : c = n) : Ck w X (.slice a (l.length - n) (c - n)) (l.drop n) := by
  have := h.cutB n (l.length - n) (by omega) hc
  rwa [List.take_of_length_le (by rw [List.length_drop]; omega)] at this
theorem Ck.dropB0 {X : Nat -> Prop} {w : World} {a : Option Addr} {c : Nat} {l : Bs} (h : Ck w X (.slice a l.length c) l) (n : Nat) (hn : n <= l.length) (hc : c = n) : Ck w X (.slice a (l.length - n) 0) (l.drop n) := by
  have := h.dropB n hn hc
  rwa [hc, Nat.sub_self] at this
section
variable {w : World} {ops : Array Oper} {rest : List Oper} {o : Oper} {a : Act} {Q : Exit -> Act -> World -> Prop}
theorem moreC (hgd : o.guard = none) (s x : Operand) (ho : o.op = .call { callee := .builtin .append, args := #[s, x], argTypes := #[38, 38] })
    (B : Nat) (v : Value) (n : Nat) (xs : List Value) (hs : a.eval s = v) (hown : w.ownsRow B 5 1 v n xs) (X : Nat -> Prop) (xv : Value) (l : Bs) (hx : a.eval x = xv) (hc : Ck w X xv l) (hn : n + l.length <= 140737488355328) (hB : B <= w.heap.size)
    (h : ∀ v' w', w'.ownsRow B 5 1 v' (n + l.length) (xs ++ l.map b8) -> w.grownBy w' v.ownBlock -> wpList Tryz.prog ops Q rest (a.put o.dst v') w') : wpList Tryz.prog ops Q (o :: rest) a w := by
  obtain ⟨i0, hi, hz0, hz1, hz2⟩ := info_parts Tryz.info5
  rcases hc with ⟨rfl, rfl⟩ | ⟨g0, o0, c0, rfl, h1, -, -, -, h2⟩
  . refine wpList_append_own_none hgd s x 38 ho B 5 i0 1 Tryz.underlying38 hi _ _ _ hs hown hx ?_
    exact h v w (by simpa using hown) (gb_refl _ _)
  . refine wpList_append_own w hgd s x 38 ho B 5 i0 (.int .u8 0) 1 1 Tryz.underlying38 hi hz0 hz1 hz2 rfl (by decide) _ _ _ hs hown ⟨g0, o0, none⟩ l.length c0 (l.map b8) hx (by simp) ?_ ?_ ?_ ?_ hB ?_
    . intro j u hu
      rw [List.getElem?_map, Option.map_eq_some_iff] at hu
      obtain ⟨y, hj, rfl⟩ := hu
      rw [Addr.add_mid]
      exact h2 j y hj
    . intro u hu
      obtain ⟨y, _, rfl⟩ := List.mem_map.1 hu
      rfl
    . unfold maxLen; omega
    . omega
    . intro v' w' hown' hgr _
      exact h v' w' hown' hgr
end
theorem ck_own {w : World} {X : Nat -> Prop} {B : Nat} {v : Value} {l : Bs} (h : w.ownsRow B 5 1 v l.length (l.map b8)) (hX : ∀ k, v.ownBlock = some k -> ¬ X k) : Ck w X v l := by
  rcases h.2 with ⟨hv, hn0⟩ | ⟨g, cap, cur, hv, hb, hg, h1, h2, h3⟩
  . exact .inl ⟨List.eq_nil_of_length_eq_zero hn0, hv⟩
  . subst hv
    refine .inr ⟨g, 0, cap, rfl, h1, by unfold maxLen at h2; omega, row_lt h g rfl, hX g rfl, fun i x hi => ?_⟩
    rw [Nat.zero_add]
    refine row_cell h i _ ?_
    rw [List.getElem?_map, hi]; rfl
theorem made_zeros (N : Nat) : madeCells (Value.int .u8 0).cells N = Array.replicate N (.int .u8 0) := by
  apply Array.ext'
  apply List.ext_getElem?
  intro i
  by_cases h : i < N <;> simp [madeCells, Value.cells, h, Nat.mod_one]
theorem run_make_room (N : Nat) (h : N <= 281474976710656) (w : World) : (Instr.makeSlice 38 (.int .i64 0) (.int .i64 N)).run Tryz.prog w = .ok (.slice (some ⟨w.heap.size, 0, none⟩) 0 N) (w.alloc (.cells (Array.replicate N (.int .u8 0)) 5)) := by
  obtain ⟨i0, hi, hz0, hz1, hz2⟩ := info_parts Tryz.info5
  have := run_make (P := Tryz.prog) w 38 5 i0 (.int .u8 0) Tryz.underlying38 hi hz0 .i64 .i64 0 N (by omega) (by omega) (by rw [hz2]; omega) (by omega)
  rw [this, hz1]
  simp [made_zeros]
theorem copy_54 {w : World} {X : Nat -> Prop} {v : Value} {l : Bs} (hv : Ck w X v l) (hl : l.length <= 1099511627776) :
    Calls Tryz.prog 54 #[v] w fun e w' => ∃ v', e = .returned v' /\ w'.ownsRow w.heap.size 5 1 v' l.length (l.map b8) /\ w.grownBy w' none := by
  obtain ⟨va, vn, vc, rfl, rfl⟩ := hv.slice
  have hmk := run_make_room l.length (by omega) w
  have hm : (w.alloc (.cells (Array.replicate l.length (.int .u8 0)) 5)).ownsRow w.heap.size 5 1 (.slice (some ⟨w.heap.size, 0, none⟩) 0 l.length) 0 [] := World.ownsRow_made w _ l.length (Nat.le_refl _) (by unfold maxLen; omega) (by simp)
  have ga := gb_alloc (gb_refl w none) (.cells (Array.replicate l.length (.int .u8 0)) 5)
  have hv2 : Ck (w.alloc (.cells (Array.replicate l.length (.int .u8 0)) 5)) (fun _ => False) (.slice va l.length vc) l := hv.kp (Kp.of (F := fun _ => False) ga) (fun _ _ h => h.elim) (fun _ _ h => h.elim)
  go_enter Tryz.func54, Tryz.ntmps54
  go_wp2_with (at_builtin; go_must (refine moreC rfl _ _ rfl w.heap.size _ 0 [] (by rfl) hm _ _ l (by rfl) hv2 (by omega) (by simp) ?_); intro v' w' h1 h2)
  go_ret
  refine ⟨v', rfl, ?_, ?_⟩
  . simpa using h1
  . exact gb_mine ga h2 (by simp [Value.ownBlock])
end Go.Proofs.YtobegepebochkaaGreatDoor
namespace Go.Proofs.YtobegepebochkaaGreatDoor
open Go.RowKit
abbrev stpA (s : Stp) (ck cd cm : Value) : Array Value := #[.int .i64 s.cmd.verb, ck, .int .u64 s.cmd.flags, .int .i64 s.cmd.exp, .int .u64 s.cmd.tok, .int .u64 s.cmd.del, cd, .bool s.cmd.nr, .bool s.large, cm, sv s.cmd.what, .int .i64 s.wk, sv s.wt, .int .i64 s.wp, .int .i64 s.frm, .int .i64 s.to]
def sets (vs : Array Value) : Nat -> List Value -> Array Value
  | _, [] => vs
  | o, v :: l => sets (vs.setIfInBounds o v) (o + 1) l
theorem Box.sets {t b : Nat} : ∀ (l : List Value) (o : Nat) {w : World} {vs : Array Value}, Box w t b vs -> Box (w.setCells b o l) t b (sets vs o l)
  | [], _, _, _, h => h
  | v :: l, o, _, _, h => Box.sets l (o + 1) (h.set o v)
theorem gb_setCells {b : Nat} : ∀ (l : List Value) (o : Nat) {w0 w : World}, w0.grownBy w (some b) -> w0.grownBy (w.setCells b o l) (some b)
  | [], _, _, _, h => h
  | v :: l, o, _, _, h => gb_setCells l (o + 1) (gb_setCell h v)
theorem Box.there {w : World} {t b : Nat} {vs : Array Value} (h : Box w t b vs) (o n : Nat) (hn : o + n <= vs.size) : w.there b o n := by
  intro j hj
  refine ⟨?_, h.fz _⟩
  rw [h.cell, Array.getElem?_eq_getElem (by omega)]
  rfl
theorem sets_7 (c0 c1 c2 c3 c4 c5 c6 c7 c8 c9 c10 c11 c12 c13 c14 c15 c16 c17 c18 c19 c20 c21 c22 c23 v0 v1 v2 v3 v4 v5 v6 v7 v8 v9 v10 v11 v12 v13 v14 v15 : Value) : sets #[c0, c1, c2, c3, c4, c5, c6, c7, c8, c9, c10, c11, c12, c13, c14, c15, c16, c17, c18, c19, c20, c21, c22, c23] 7 [v0, v1, v2, v3, v4, v5, v6, v7, v8, v9, v10, v11, v12, v13, v14, v15] = #[c0, c1, c2, c3, c4, c5, c6, v0, v1, v2, v3, v4, v5, v6, v7, v8, v9, v10, v11, v12, v13, v14, v15, c23] := by
  simp only [sets, List.setIfInBounds_toArray, List.set_cons_zero, List.set_cons_succ]
theorem sets_0 (u0 u1 u2 u3 u4 u5 u6 u7 u8 u9 u10 u11 u12 u13 u14 u15 v0 v1 v2 v3 v4 v5 v6 v7 v8 v9 v10 v11 v12 v13 v14 v15 : Value) : sets #[u0, u1, u2, u3, u4, u5, u6, u7, u8, u9, u10, u11, u12, u13, u14, u15] 0 [v0, v1, v2, v3, v4, v5, v6, v7, v8, v9, v10, v11, v12, v13, v14, v15] = #[v0, v1, v2, v3, v4, v5, v6, v7, v8, v9, v10, v11, v12, v13, v14, v15] := by
  simp only [sets, List.setIfInBounds_toArray, List.set_cons_zero, List.set_cons_succ]
theorem size86 : (Tryz.prog.info? 86).map (·.size) = some 16 := by kernel_rfl
section
variable {w : World} {ops : Array Oper} {rest : List Oper} {op : Oper} {a : Act} {Q : Exit -> Act -> World -> Prop}
theorem store86 (hgd : op.guard = none) (x y : Operand) (ho : op.op = .store 86 x y) (t b o : Nat) (vs : Array Value) (hb : Box w t b vs) (hn : o + 16 <= vs.size)
    (hx : a.eval x = .pointer (some ⟨b, o, none⟩)) (cs : Array Value) (hy : a.eval y = .agg cs) (hs : cs.size = 16) (h1 : cs.all (·.oneCell') = true)
    (h : ∀ W, Box W t b (sets vs o cs.toList) -> w.grownBy W (some b) -> wpList Tryz.prog ops Q rest (a.put op.dst undef) W) : wpList Tryz.prog ops Q (op :: rest) a w := by
  refine wpList_store_mid hgd 86 x y ho b o cs hx hy (by rw [hs]; exact hb.there o 16 hn) (by rw [hs]; exact size86) h1 ?_
  exact h _ (hb.sets _ _) (gb_setCells _ _ (gb_refl _ _))
theorem atStore86 {x y : Operand} (ho : op.op = .store 86 x y) (h : wpList Tryz.prog ops Q (op :: rest) a w) : wpList Tryz.prog ops Q (op :: rest) a w := h
theorem load86 (hgd : op.guard = none) (x : Operand) (ho : op.op = .load 86 x) (t b o : Nat) (vs : Array Value) (hb : Box w t b vs) (hx : a.eval x = .pointer (some ⟨b, o, none⟩)) (cs : List Value) (hs : cs.length = 16) (hc : ∀ j v, cs[j]? = some v -> vs[o + j]? = some v)
    (h : wpList Tryz.prog ops Q rest (a.put op.dst (.agg cs.toArray)) w) : wpList Tryz.prog ops Q (op :: rest) a w :=
  wpList_load_mid hgd 86 x ho b o hx cs _ (fun j v hv => by rw [hb.cell]; exact hc j v hv) Tryz.underlying86 rfl (by rw [hs]; exact size86) h
end
theorem ended_51 {w : World} {fb : Nat} {F : Fd} {kv ck cd cm : Value} {hd lf : Int} (h : Box w 136 fb (fdA fb F kv hd lf ck cd cm)) :
    Calls Tryz.prog 51 #[.pointer (some ⟨fb, 0, none⟩)] w fun e w' => e = .returned (.bool F.ended) /\ w' = w := by
  have c2 := h.cell 2
  have z2 := h.fz 2
  simp only [List.getElem?_toArray, List.getElem?_cons_succ, List.getElem?_cons_zero] at c2
  clear h
  go_enter Tryz.func51, Tryz.ntmps51
  go_wp2
  go_ret
  exact ⟨rfl, rfl⟩
theorem taken_52 {w : World} {fb : Nat} {F : Fd} {kv ck cd cm : Value} {hd lf : Int} (h : Box w 136 fb (fdA fb F kv hd lf ck cd cm)) :
    Calls Tryz.prog 52 #[.pointer (some ⟨fb, 0, none⟩)] w fun e w' => e = .returned (.int .i64 F.taken) /\ w' = w := by
  have c1 := h.cell 1
  have z1 := h.fz 1
  simp only [List.getElem?_toArray, List.getElem?_cons_succ, List.getElem?_cons_zero] at c1
  clear h
  go_enter Tryz.func52, Tryz.ntmps52
  go_wp2
  go_ret
  exact ⟨rfl, rfl⟩
theorem held_50 {w : World} {fb : Nat} {F : Fd} {kv ck cd cm : Value} {hd lf : Int} (h : Box w 136 fb (fdA fb F kv hd lf ck cd cm)) {ao : Option Addr} {n cp : Nat} (hkv : kv = .slice ao n cp) :
    Calls Tryz.prog 50 #[.pointer (some ⟨fb, 0, none⟩)] w fun e w' => e = .returned (.int .i64 n) /\ w' = w := by
  subst hkv
  have c4 := h.cell 4
  have z4 := h.fz 4
  simp only [List.getElem?_toArray, List.getElem?_cons_succ, List.getElem?_cons_zero] at c4
  clear h
  go_enter Tryz.func50, Tryz.ntmps50
  go_wp2
  go_ret
  exact ⟨rfl, rfl⟩
theorem await_157 {w : World} {fb : Nat} {F : Fd} {kv ck cd cm : Value} {hd lf : Int} (h : Box w 136 fb (fdA fb F kv hd lf ck cd cm)) (n : Nat) :
    Calls Tryz.prog 157 #[.pointer (some ⟨fb, 0, none⟩), .int .i64 n] w fun e w' => e = .returned (.tuple #[]) /\ Box w' 136 fb (fdA fb (F.await n) kv hd n ck cd cm) /\ w.grownBy w' (some fb) := by
  have hmf : ∀ (fn : Fn) (first cap : Array Value) (w : World), (Instr.makeFunc fn first cap).run Tryz.prog w = .ok (.func fn first cap) w := fun _ _ _ _ => rfl
  have c6 := h.cell 6
  have z6 := h.fz 6
  simp only [List.getElem?_toArray, List.getElem?_cons_succ, List.getElem?_cons_zero] at c6
  obtain ⟨u23, c23⟩ : ∃ u, w.cell? ⟨fb, 23, none⟩ = some u := ⟨_, h.cell 23⟩
  have z23 := h.fz 23
  by_cases hn : n = 0
  . have hc : decide ((n : Int) = 0) = true := decide_eq_true (by omega)
    subst hn
    go_enter Tryz.func157, Tryz.ntmps157
    go_wp2
    go_end0
    exact ⟨rfl, (((h.set 6 _).set 23 _).set 23 _), (gb_setCell (gb_setCell (gb_setCell (gb_refl _ _) _) _) _)⟩
  . have hc : decide ((n : Int) = 0) = false := decide_eq_false (by omega)
    have e : (F.await n) = { F with left := n, st := 1 } := by simp [Fd.await, hn]
    rw [e]
    go_enter Tryz.func157, Tryz.ntmps157
    go_wp2
    go_end0
    exact ⟨rfl, ((h.set 6 _).set 23 _), (gb_setCell (gb_setCell (gb_refl _ _) _) _)⟩
theorem pass_138 {w : World} {fb : Nat} {F : Fd} {kv ck cd cm : Value} {hd lf : Int} (h : Box w 136 fb (fdA fb F kv hd lf ck cd cm)) (s : Stp) {ka da ma : Option Addr} {kn kc dn dc mn mc : Nat} (n : Nat) :
    Calls Tryz.prog 138 #[.pointer (some ⟨fb, 0, none⟩), .agg (stpA s (.slice ka kn kc) (.slice da dn dc) (.slice ma mn mc)), .int .i64 n] w fun e w' => e = .returned (.tuple #[]) /\ Box w' 136 fb (fdA fb (F.pass s n) (.slice none 0 0) hd n (.slice ka kn kc) (.slice da dn dc) (.slice ma mn mc)) /\ w.grownBy w' (some fb) := by
  have hmf : ∀ (fn : Fn) (first cap : Array Value) (w : World), (Instr.makeFunc fn first cap).run Tryz.prog w = .ok (.func fn first cap) w := fun _ _ _ _ => rfl
  have h1 : Box (w.alloc (.cells (stpA s (.slice ka kn kc) (.slice da dn dc) (.slice ma mn mc)) 86)) 136 fb (fdA fb F kv hd lf ck cd cm) := h.kept (gb_alloc (gb_refl _ none) _) (by simp)
  have g1 : w.grownBy (w.alloc (.cells (stpA s (.slice ka kn kc) (.slice da dn dc) (.slice ma mn mc)) 86)) (some fb) := gb_alloc (gb_refl w (some fb)) _
  clear h
  go_enter Tryz.func138, Tryz.ntmps138
  go_wp2_with (refine atStore86 rfl ?_; go_must (refine store86 rfl _ _ rfl 136 fb 7 _ h1 (by simp) rfl _ rfl rfl (by simp [Value.oneCell']) ?_); intro W hb hg; (simp only [sets_7] at hb); (have hgw := gb_trans g1 hg); clear h1 g1 hg; (obtain ⟨u4, d4⟩ : ∃ u, W.cell? ⟨fb, 4, none⟩ = some u := ⟨_, hb.cell 4⟩); (obtain ⟨u6, d6⟩ : ∃ u, W.cell? ⟨fb, 6, none⟩ = some u := ⟨_, hb.cell 6⟩); (obtain ⟨u23, d23⟩ : ∃ u, W.cell? ⟨fb, 23, none⟩ = some u := ⟨_, hb.cell 23⟩); (have z4 := hb.fz 4); (have z6 := hb.fz 6); (have z23 := hb.fz 23))
  go_end0
  exact ⟨rfl, ((hb.set 6 _).set 4 _).set 23 _, gb_setCell (gb_setCell (gb_setCell hgw _) _) _⟩
theorem spoil_187 {w : World} {fb : Nat} {F : Fd} {kv ck cd cm : Value} {hd lf : Int} (h : Box w 136 fb (fdA fb F kv hd lf ck cd cm)) :
    Calls Tryz.prog 187 #[.pointer (some ⟨fb, 0, none⟩)] w fun e w' => e = .returned (.tuple #[]) /\ Box w' 136 fb (fdA fb F.spoil (.slice none 0 0) hd 0 (.slice none 0 0) (.slice none 0 0) (.slice none 0 0)) /\ w.grownBy w' (some fb) := by
  have h138 : Calls Tryz.prog 138 #[.pointer (some ⟨fb, 0, none⟩), .agg #[.int .i64 0, .slice none 0 0, .int .u64 0, .int .i64 0, .int .u64 0, .int .u64 0, .slice none 0 0, .bool false, .bool false, .slice none 0 0, .string ⟨#[]⟩, .int .i64 2, .string ⟨#[98, 97, 100, 32, 100, 97, 116, 97, 32, 99, 104, 117, 110, 107]⟩, .int .i64 (-1), .int .i64 0, .int .i64 0], .int .i64 0] w _ := pass_138 h (stpW 2 badB (-1)) (ka := none) (kn := 0) (kc := 0) (da := none) (dn := 0) (dc := 0) (ma := none) (mn := 0) (mc := 0) 0
  clear h
  go_enter Tryz.func187, Tryz.ntmps187
  go_wp2_with (go_at_call 138; go_must ((with_reducible refine h138.mono ?_); rintro e w4 ⟨rfl, hb4, hg4⟩))
  go_end0
  exact ⟨rfl, hb4, hg4⟩
theorem over_140 (w : World) (fb : Nat) (v : Value) (a : Option Addr) (n c : Nat) (hv : v = .slice a n c) :
    Calls Tryz.prog 140 #[.pointer (some ⟨fb, 0, none⟩), v] w fun e w' => e = .returned (.tuple #[.int .i64 n, .bool false]) /\ w' = w := by
  subst hv
  go_enter Tryz.func140, Tryz.ntmps140
  go_wp2
  go_ret2
  exact ⟨rfl, rfl⟩
end Go.Proofs.YtobegepebochkaaGreatDoor

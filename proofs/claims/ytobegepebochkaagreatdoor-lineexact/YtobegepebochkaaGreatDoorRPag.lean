import Derived.Lib.BytesEntry
import Derived.Test.YtobegepebochkaaGreatDoorRF
import Derived.Test.YtobegepebochkaaGreatDoorRTa
import Derived.Laws.EntriesVeiled
import Derived.Deep.RegionLaw
set_option linter.unusedVariables false
set_option linter.unusedSimpArgs false
set_option maxRecDepth 100000
set_option maxHeartbeats 16000000
namespace Go.Proofs.YtobegepebochkaaGreatDoor
open Go.RowKit
abbrev b8 (b : UInt8) : Value := .int .u8 b.toNat
abbrev stF (st : Nat) : Nat := if st = 0 then 89 else if st = 1 then 171 else if st = 2 then 172 else if st = 3 then 188 else if st = 4 then 158 else 140
abbrev stV (fb st : Nat) : Value := .func (.func (stF st)) #[.pointer (some ⟨fb, 0, none⟩)] #[]
abbrev stpL (s : Stp) (ck cd cm : Value) : List Value := [.int .i64 s.cmd.verb, ck, .int .u64 s.cmd.flags, .int .i64 s.cmd.exp, .int .u64 s.cmd.tok, .int .u64 s.cmd.del, cd, .bool s.cmd.nr, .bool s.large, cm, sv s.cmd.what, .int .i64 s.wk, sv s.wt, .int .i64 s.wp, .int .i64 s.frm, .int .i64 s.to]
abbrev fdA (fb : Nat) (F : Fd) (kv : Value) (hd lf : Int) (ck cd cm : Value) : Array Value :=
  #[.int .i64 F.limit, .int .i64 F.taken, .bool F.ended, .int .i64 F.frm, kv, .int .i64 hd, .int .i64 lf, .int .i64 F.s.cmd.verb, ck, .int .u64 F.s.cmd.flags, .int .i64 F.s.cmd.exp, .int .u64 F.s.cmd.tok, .int .u64 F.s.cmd.del, cd, .bool F.s.cmd.nr, .bool F.s.large, cm, sv F.s.cmd.what, .int .i64 F.s.wk, sv F.s.wt, .int .i64 F.s.wp, .int .i64 F.s.frm, .int .i64 F.s.to, stV fb F.st]
structure StR (w : World) (X : Nat -> Prop) (s : Stp) (ck cd cm : Value) : Prop where
  keys : w.ownsRow 0 9 1 ck s.cmd.keys.length (s.cmd.keys.map sv)
  data : w.ownsRow 0 5 1 cd s.data.length (s.data.map b8)
  mt : w.ownsRow 0 79 3 cm s.cmd.mt.length (fcs s.cmd.mt)
  ak : ∀ k, ck.ownBlock = some k -> ¬ X k
  ad : ∀ k, cd.ownBlock = some k -> ¬ X k
  am : ∀ k, cm.ownBlock = some k -> ¬ X k
  nd : s.data = [] -> cd = .slice none 0 0
def Ck (w : World) (X : Nat -> Prop) (v : Value) (l : Bs) : Prop := (l = [] /\ v = .slice none 0 0) \/ ∃ g o c, v = .slice (some ⟨g, o, none⟩) l.length c /\ l.length <= c /\ c <= 9223372036854775807 /\ g < w.heap.size /\ ¬ X g /\ ∀ i x, l[i]? = some x -> w.cell? ⟨g, o + i, none⟩ = some (b8 x)
theorem Tryz.info5 : (Tryz.prog.info? 5).map (fun i => (i.zero, i.size, i.bytes)) = some (some (.int .u8 0), 1, 1) := by kernel_rfl
theorem row_kp {F : Nat -> Prop} {w w' : World} {B : Nat} {e : TypeId} {s : Nat} {v : Value} {n : Nat} {xs : List Value} (h : w.ownsRow B e s v n xs) (hk : Kp F w w') (hn : ∀ k, v.ownBlock = some k -> ¬ F k) : w'.ownsRow B e s v n xs :=
  row_same h fun k hb => by
    obtain ⟨cur, hc⟩ := row_block h k hb
    exact hk.block k (lt_of_block hc) (hn k hb)
theorem row_lt {w : World} {B : Nat} {e : TypeId} {s : Nat} {v : Value} {n : Nat} {xs : List Value} (h : w.ownsRow B e s v n xs) (k : Nat) (hb : v.ownBlock = some k) : k < w.heap.size := by
  obtain ⟨cur, hc⟩ := row_block h k hb
  exact lt_of_block hc
theorem StR.kp {F X Y : Nat -> Prop} {w w' : World} {s : Stp} {ck cd cm : Value} (h : StR w X s ck cd cm) (hk : Kp F w w') (hF : ∀ k, k < w.heap.size -> F k -> X k) (hY : ∀ k, k < w.heap.size -> Y k -> X k) : StR w' Y s ck cd cm :=
  ⟨row_kp h.keys hk fun k hb hf => h.ak k hb (hF k (row_lt h.keys k hb) hf), row_kp h.data hk fun k hb hf => h.ad k hb (hF k (row_lt h.data k hb) hf), row_kp h.mt hk fun k hb hf => h.am k hb (hF k (row_lt h.mt k hb) hf),
   fun k hb hf => h.ak k hb (hY k (row_lt h.keys k hb) hf), fun k hb hf => h.ad k hb (hY k (row_lt h.data k hb) hf), fun k hb hf => h.am k hb (hY k (row_lt h.mt k hb) hf), h.nd⟩
theorem StR.nil (w : World) (X : Nat -> Prop) (s : Stp) (hk : s.cmd.keys = []) (hd : s.data = []) (hm : s.cmd.mt = []) : StR w X s (.slice none 0 0) (.slice none 0 0) (.slice none 0 0) := by
  refine ⟨?_, ?_, ?_, fun k h => by simp [Value.ownBlock] at h, fun k h => by simp [Value.ownBlock] at h, fun k h => by simp [Value.ownBlock] at h, fun _ => rfl⟩
  . rw [hk]; exact World.ownsRow_nil _ _ _ _
  . rw [hd]; exact World.ownsRow_nil _ _ _ _
  . rw [hm]; exact World.ownsRow_nil _ _ _ _
theorem Ck.kp {F X Y : Nat -> Prop} {w w' : World} {v : Value} {l : Bs} (h : Ck w X v l) (hk : Kp F w w') (hF : ∀ k, k < w.heap.size -> F k -> X k) (hY : ∀ k, k < w.heap.size -> Y k -> X k) : Ck w' Y v l := by
  rcases h with h | ⟨g, o, c, h1, h2, h3, h4, h5, h6⟩
  . exact .inl h
  . refine .inr ⟨g, o, c, h1, h2, h3, Nat.lt_of_lt_of_le h4 hk.size, fun hy => h5 (hY g h4 hy), fun i x hx => ?_⟩
    have h7 := hk.block g h4 (fun hf => h5 (hF g h4 hf))
    have h8 := h6 i x hx
    simpa [World.cell?, h7] using h8
theorem Ck.drop {X : Nat -> Prop} {w : World} {g o c : Nat} {l : Bs} (h : Ck w X (.slice (some ⟨g, o, none⟩) l.length c) l) (n : Nat) (hn : n <= l.length) : Ck w X (.slice (some ⟨g, o + n, none⟩) (l.length - n) (c - n)) (l.drop n) := by
  rcases h with ⟨_, h⟩ | ⟨g', o', c', h1, h2, h3, h4, h5, h6⟩
  . cases h
  . simp at h1
    obtain ⟨⟨rfl, rfl⟩, rfl⟩ := h1
    refine .inr ⟨g, o + n, c - n, by rw [List.length_drop], by rw [List.length_drop]; omega, by omega, h4, h5, fun i x hx => ?_⟩
    rw [List.getElem?_drop] at hx
    rw [Nat.add_assoc]
    exact h6 _ x hx
theorem Ck.take {X : Nat -> Prop} {w : World} {g o c : Nat} {l : Bs} (h : Ck w X (.slice (some ⟨g, o, none⟩) l.length c) l) (n : Nat) (hn : n <= l.length) : Ck w X (.slice (some ⟨g, o, none⟩) n c) (l.take n) := by
  rcases h with ⟨_, h⟩ | ⟨g', o', c', h1, h2, h3, h4, h5, h6⟩
  . cases h
  . simp at h1
    obtain ⟨⟨rfl, rfl⟩, rfl⟩ := h1
    refine .inr ⟨g, o, c, by rw [List.length_take, Nat.min_eq_left hn], by rw [List.length_take]; omega, h3, h4, h5, fun i x hx => ?_⟩
    rw [List.getElem?_take] at hx
    split at hx
    . exact h6 i x hx
    . cases hx
theorem Ck.by {X : Nat -> Prop} {w : World} {v : Value} {l : Bs} (h : Ck w X v l) (hl : 0 < l.length) : ∃ g o c, v = .slice (some ⟨g, o, none⟩) l.length c /\ l.length <= c /\ c <= 9223372036854775807 /\ g < w.heap.size /\ ∀ i x, l[i]? = some x -> w.cell? ⟨g, o + i, none⟩ = some (b8 x) := by
  rcases h with ⟨rfl, _⟩ | ⟨g, o, c, h1, h2, h3, h4, h5, h6⟩
  . simp at hl
  . exact ⟨g, o, c, h1, h2, h3, h4, h6⟩
section
variable {w : World} {ops : Array Oper} {rest : List Oper} {o : Oper} {a : Act} {Q : Exit -> Act -> World -> Prop}
theorem more5 (hgd : o.guard = none) (s x : Operand) (ho : o.op = .call { callee := .builtin .append, args := #[s, x], argTypes := #[38, 38] })
    (v : Value) (n : Nat) (xs : List Value) (hs : a.eval s = v) (hown : w.ownsRow 0 5 1 v n xs) (g0 o0 c0 : Nat) (l : Bs) (hx : a.eval x = .slice (some ⟨g0, o0, none⟩) l.length c0) (hl : 0 < l.length) (hc : ∀ i x, l[i]? = some x -> w.cell? ⟨g0, o0 + i, none⟩ = some (b8 x)) (hn : n <= 4398046511104) (hn2 : l.length <= 1099511627776)
    (h : ∀ g cap w', w'.ownsRow 0 5 1 (.slice (some ⟨g, 0, none⟩) (n + l.length) cap) (n + l.length) (xs ++ l.map b8) -> w.grownBy w' v.ownBlock -> (v.ownBlock = some g \/ w.heap.size <= g) -> wpList Tryz.prog ops Q rest (a.put o.dst (.slice (some ⟨g, 0, none⟩) (n + l.length) cap)) w') : wpList Tryz.prog ops Q (o :: rest) a w := by
  obtain ⟨i0, hi, hz0, hz1, hz2⟩ := info_parts Tryz.info5
  refine wpList_plain hgd fun K hK => ?_
  refine wp_append_lies _ s x 38 ho 0 5 i0 _ 1 1 Tryz.underlying38 hi hz0 hz1 hz2 rfl (by omega) v n xs hs hown ⟨g0, o0, none⟩ l.length c0 (l.map b8) hx (by simp) ?_ ?_ hl (by unfold maxLen; omega) (by omega) (by omega) _ rfl ?_
  . intro j u hu
    rw [List.getElem?_map, Option.map_eq_some_iff] at hu
    obtain ⟨y, hj, rfl⟩ := hu
    rw [Addr.add_mid]
    exact hc j y hj
  . intro u hu
    obtain ⟨y, _, rfl⟩ := List.mem_map.1 hu
    rfl
  . intro g cap w' h1 h2 h3 _
    refine hK _ _ (h g cap w' h1 h2 ?_)
    rcases h3 with h3 | h3
    . exact .inl h3
    . exact .inr (by omega)
end
theorem keep_135 {w : World} {fb : Nat} {F : Fd} {kv ck cd cm : Value} {hd lf : Int} (h : Box w 136 fb (fdA fb F kv hd lf ck cd cm)) (hk : w.ownsRow 0 5 1 kv F.kept.length (F.kept.map b8)) {X : Nat -> Prop} {p : Value} {l : Bs} (hp : Ck w X p l) (hl : 0 < l.length) (hl2 : l.length <= 1099511627776) (hn : F.kept.length <= 4398046511104) :
    Calls Tryz.prog 135 #[.pointer (some ⟨fb, 0, none⟩), p] w fun e w' => e = .returned (.tuple #[]) /\ ∃ g cap, Box w' 136 fb (fdA fb (F.put l) (.slice (some ⟨g, 0, none⟩) (F.kept.length + l.length) cap) hd lf ck cd cm) /\ w'.ownsRow 0 5 1 (.slice (some ⟨g, 0, none⟩) (F.kept.length + l.length) cap) (F.kept.length + l.length) (F.kept.map b8 ++ l.map b8) /\ Kp (fun k => k = fb \/ kv.ownBlock = some k) w w' /\ (kv.ownBlock = some g \/ w.heap.size <= g) := by
  obtain ⟨g0, o0, c0, rfl, hc1, hc2, hg0, hc⟩ := hp.by hl
  have c4 : w.cell? ⟨fb, 4, none⟩ = some kv := h.cell 4
  obtain ⟨ao, cp, rfl, -, -, -, -⟩ := row_shape hk
  have hx : ∀ k, (Value.slice ao F.kept.length cp).ownBlock = some k -> some k ≠ some fb := row_box hk h (by omega)
  go_enter Tryz.func135, Tryz.ntmps135
  go_wp2_with (at_builtin; go_must (refine more5 rfl _ _ rfl _ F.kept.length _ (by rfl) hk g0 o0 c0 l (by rfl) hl hc hn hl2 ?_); intro g cap W h1 hg hgg; (have hb := h.kept hg (fun e => hx fb e.symm rfl)); (have hz := hb.fz 4); (have hz1 : W.cell? ⟨fb, 4, none⟩ = some (.slice ao F.kept.length cp) := hb.cell 4))
  go_end0
  refine ⟨rfl, g, cap, hb.set 4 _, ?_, ?_, hgg⟩
  . refine row_kept h1 (gb_setCell (gb_refl _ _) _) (fun k hk2 e => ?_)
    injection e with e
    subst e
    exact row_box h1 hb (by omega) k hk2 rfl
  . refine ((Kp.refl _ w).step hg (fun i hi => .inl (.inr hi))).step (gb_setCell (gb_refl _ (some fb)) _) (fun i hi => ?_)
    injection hi with hi
    exact .inl (.inl hi.symm)
end Go.Proofs.YtobegepebochkaaGreatDoor
namespace Go.Proofs.YtobegepebochkaaGreatDoor
open Go.RowKit
abbrev stpA (s : Stp) (ck cd cm : Value) : Array Value := #[.int .i64 s.cmd.verb, ck, .int .u64 s.cmd.flags, .int .i64 s.cmd.exp, .int .u64 s.cmd.tok, .int .u64 s.cmd.del, cd, .bool s.cmd.nr, .bool s.large, cm, sv s.cmd.what, .int .i64 s.wk, sv s.wt, .int .i64 s.wp, .int .i64 s.frm, .int .i64 s.to]
def sets (vs : Array Value) : Nat -> List Value -> Array Value
  | _, [] => vs
  | o, v :: l => sets (vs.setIfInBounds o v) (o + 1) l
theorem Box.sets {t b : Nat} : ∀ (l : List Value) (o : Nat) {w : World} {vs : Array Value}, Box w t b vs -> Box (w.setCells b o l) t b (sets vs o l)
  | [], _, _, _, h => h
  | v :: l, o, _, _, h => Box.sets l (o + 1) (h.set o v)
theorem gb_setCells {b : Nat} : ∀ (l : List Value) (o : Nat) {w0 w : World}, w0.grownBy w (some b) -> w0.grownBy (w.setCells b o l) (some b)
  | [], _, _, _, h => h
  | v :: l, o, _, _, h => gb_setCells l (o + 1) (gb_setCell h v)
theorem Box.there {w : World} {t b : Nat} {vs : Array Value} (h : Box w t b vs) (o n : Nat) (hn : o + n <= vs.size) : w.there b o n := by
  intro j hj
  refine ⟨?_, h.fz _⟩
  rw [h.cell, Array.getElem?_eq_getElem (by omega)]
  rfl
theorem sets_7 (c0 c1 c2 c3 c4 c5 c6 c7 c8 c9 c10 c11 c12 c13 c14 c15 c16 c17 c18 c19 c20 c21 c22 c23 v0 v1 v2 v3 v4 v5 v6 v7 v8 v9 v10 v11 v12 v13 v14 v15 : Value) : sets #[c0, c1, c2, c3, c4, c5, c6, c7, c8, c9, c10, c11, c12, c13, c14, c15, c16, c17, c18, c19, c20, c21, c22, c23] 7 [v0, v1, v2, v3, v4, v5, v6, v7, v8, v9, v10, v11, v12, v13, v14, v15] = #[c0, c1, c2, c3, c4, c5, c6, v0, v1, v2, v3, v4, v5, v6, v7, v8, v9, v10, v11, v12, v13, v14, v15, c23] := by
  simp only [sets, List.setIfInBounds_toArray, List.set_cons_zero, List.set_cons_succ]
theorem sets_0 (u0 u1 u2 u3 u4 u5 u6 u7 u8 u9 u10 u11 u12 u13 u14 u15 v0 v1 v2 v3 v4 v5 v6 v7 v8 v9 v10 v11 v12 v13 v14 v15 : Value) : sets #[u0, u1, u2, u3, u4, u5, u6, u7, u8, u9, u10, u11, u12, u13, u14, u15] 0 [v0, v1, v2, v3, v4, v5, v6, v7, v8, v9, v10, v11, v12, v13, v14, v15] = #[v0, v1, v2, v3, v4, v5, v6, v7, v8, v9, v10, v11, v12, v13, v14, v15] := by
  simp only [sets, List.setIfInBounds_toArray, List.set_cons_zero, List.set_cons_succ]
theorem size86 : (Tryz.prog.info? 86).map (·.size) = some 16 := by kernel_rfl
section
variable {w : World} {ops : Array Oper} {rest : List Oper} {op : Oper} {a : Act} {Q : Exit -> Act -> World -> Prop}
theorem store86 (hgd : op.guard = none) (x y : Operand) (ho : op.op = .store 86 x y) (t b o : Nat) (vs : Array Value) (hb : Box w t b vs) (hn : o + 16 <= vs.size)
    (hx : a.eval x = .pointer (some ⟨b, o, none⟩)) (cs : Array Value) (hy : a.eval y = .agg cs) (hs : cs.size = 16) (h1 : cs.all (·.oneCell') = true)
    (h : ∀ W, Box W t b (sets vs o cs.toList) -> w.grownBy W (some b) -> wpList Tryz.prog ops Q rest (a.put op.dst undef) W) : wpList Tryz.prog ops Q (op :: rest) a w := by
  refine wpList_store_mid hgd 86 x y ho b o cs hx hy (by rw [hs]; exact hb.there o 16 hn) (by rw [hs]; exact size86) h1 ?_
  exact h _ (hb.sets _ _) (gb_setCells _ _ (gb_refl _ _))
theorem atStore86 {x y : Operand} (ho : op.op = .store 86 x y) (h : wpList Tryz.prog ops Q (op :: rest) a w) : wpList Tryz.prog ops Q (op :: rest) a w := h
theorem load86 (hgd : op.guard = none) (x : Operand) (ho : op.op = .load 86 x) (t b o : Nat) (vs : Array Value) (hb : Box w t b vs) (hx : a.eval x = .pointer (some ⟨b, o, none⟩)) (cs : List Value) (hs : cs.length = 16) (hc : ∀ j v, cs[j]? = some v -> vs[o + j]? = some v)
    (h : wpList Tryz.prog ops Q rest (a.put op.dst (.agg cs.toArray)) w) : wpList Tryz.prog ops Q (op :: rest) a w :=
  wpList_load_mid hgd 86 x ho b o hx cs _ (fun j v hv => by rw [hb.cell]; exact hc j v hv) Tryz.underlying86 rfl (by rw [hs]; exact size86) h
end
theorem ended_51 {w : World} {fb : Nat} {F : Fd} {kv ck cd cm : Value} {hd lf : Int} (h : Box w 136 fb (fdA fb F kv hd lf ck cd cm)) :
    Calls Tryz.prog 51 #[.pointer (some ⟨fb, 0, none⟩)] w fun e w' => e = .returned (.bool F.ended) /\ w' = w := by
  have c2 := h.cell 2
  have z2 := h.fz 2
  simp only [List.getElem?_toArray, List.getElem?_cons_succ, List.getElem?_cons_zero] at c2
  clear h
  go_enter Tryz.func51, Tryz.ntmps51
  go_wp2
  go_ret
  exact ⟨rfl, rfl⟩
theorem taken_52 {w : World} {fb : Nat} {F : Fd} {kv ck cd cm : Value} {hd lf : Int} (h : Box w 136 fb (fdA fb F kv hd lf ck cd cm)) :
    Calls Tryz.prog 52 #[.pointer (some ⟨fb, 0, none⟩)] w fun e w' => e = .returned (.int .i64 F.taken) /\ w' = w := by
  have c1 := h.cell 1
  have z1 := h.fz 1
  simp only [List.getElem?_toArray, List.getElem?_cons_succ, List.getElem?_cons_zero] at c1
  clear h
  go_enter Tryz.func52, Tryz.ntmps52
  go_wp2
  go_ret
  exact ⟨rfl, rfl⟩
theorem held_50 {w : World} {fb : Nat} {F : Fd} {kv ck cd cm : Value} {hd lf : Int} (h : Box w 136 fb (fdA fb F kv hd lf ck cd cm)) {ao : Option Addr} {n cp : Nat} (hkv : kv = .slice ao n cp) :
    Calls Tryz.prog 50 #[.pointer (some ⟨fb, 0, none⟩)] w fun e w' => e = .returned (.int .i64 n) /\ w' = w := by
  subst hkv
  have c4 := h.cell 4
  have z4 := h.fz 4
  simp only [List.getElem?_toArray, List.getElem?_cons_succ, List.getElem?_cons_zero] at c4
  clear h
  go_enter Tryz.func50, Tryz.ntmps50
  go_wp2
  go_ret
  exact ⟨rfl, rfl⟩
theorem await_157 {w : World} {fb : Nat} {F : Fd} {kv ck cd cm : Value} {hd lf : Int} (h : Box w 136 fb (fdA fb F kv hd lf ck cd cm)) (n : Nat) :
    Calls Tryz.prog 157 #[.pointer (some ⟨fb, 0, none⟩), .int .i64 n] w fun e w' => e = .returned (.tuple #[]) /\ Box w' 136 fb (fdA fb (F.await n) kv hd n ck cd cm) /\ w.grownBy w' (some fb) := by
  have hmf : ∀ (fn : Fn) (first cap : Array Value) (w : World), (Instr.makeFunc fn first cap).run Tryz.prog w = .ok (.func fn first cap) w := fun _ _ _ _ => rfl
  have c6 := h.cell 6
  have z6 := h.fz 6
  simp only [List.getElem?_toArray, List.getElem?_cons_succ, List.getElem?_cons_zero] at c6
  obtain ⟨u23, c23⟩ : ∃ u, w.cell? ⟨fb, 23, none⟩ = some u := ⟨_, h.cell 23⟩
  have z23 := h.fz 23
  by_cases hn : n = 0
  . have hc : decide ((n : Int) = 0) = true := decide_eq_true (by omega)
    subst hn
    go_enter Tryz.func157, Tryz.ntmps157
    go_wp2
    go_end0
    exact ⟨rfl, (((h.set 6 _).set 23 _).set 23 _), (gb_setCell (gb_setCell (gb_setCell (gb_refl _ _) _) _) _)⟩
  . have hc : decide ((n : Int) = 0) = false := decide_eq_false (by omega)
    have e : (F.await n) = { F with left := n, st := 1 } := by simp [Fd.await, hn]
    rw [e]
    go_enter Tryz.func157, Tryz.ntmps157
    go_wp2
    go_end0
    exact ⟨rfl, ((h.set 6 _).set 23 _), (gb_setCell (gb_setCell (gb_refl _ _) _) _)⟩
theorem pass_138 {w : World} {fb : Nat} {F : Fd} {kv ck cd cm : Value} {hd lf : Int} (h : Box w 136 fb (fdA fb F kv hd lf ck cd cm)) (s : Stp) {ka da ma : Option Addr} {kn kc dn dc mn mc : Nat} (n : Nat) :
    Calls Tryz.prog 138 #[.pointer (some ⟨fb, 0, none⟩), .agg (stpA s (.slice ka kn kc) (.slice da dn dc) (.slice ma mn mc)), .int .i64 n] w fun e w' => e = .returned (.tuple #[]) /\ Box w' 136 fb (fdA fb (F.pass s n) (.slice none 0 0) hd n (.slice ka kn kc) (.slice da dn dc) (.slice ma mn mc)) /\ w.grownBy w' (some fb) := by
  have hmf : ∀ (fn : Fn) (first cap : Array Value) (w : World), (Instr.makeFunc fn first cap).run Tryz.prog w = .ok (.func fn first cap) w := fun _ _ _ _ => rfl
  have h1 : Box (w.alloc (.cells (stpA s (.slice ka kn kc) (.slice da dn dc) (.slice ma mn mc)) 86)) 136 fb (fdA fb F kv hd lf ck cd cm) := h.kept (gb_alloc (gb_refl _ none) _) (by simp)
  have g1 : w.grownBy (w.alloc (.cells (stpA s (.slice ka kn kc) (.slice da dn dc) (.slice ma mn mc)) 86)) (some fb) := gb_alloc (gb_refl w (some fb)) _
  clear h
  go_enter Tryz.func138, Tryz.ntmps138
  go_wp2_with (refine atStore86 rfl ?_; go_must (refine store86 rfl _ _ rfl 136 fb 7 _ h1 (by simp) rfl _ rfl rfl (by simp [Value.oneCell']) ?_); intro W hb hg; (simp only [sets_7] at hb); (have hgw := gb_trans g1 hg); clear h1 g1 hg; (obtain ⟨u4, d4⟩ : ∃ u, W.cell? ⟨fb, 4, none⟩ = some u := ⟨_, hb.cell 4⟩); (obtain ⟨u6, d6⟩ : ∃ u, W.cell? ⟨fb, 6, none⟩ = some u := ⟨_, hb.cell 6⟩); (obtain ⟨u23, d23⟩ : ∃ u, W.cell? ⟨fb, 23, none⟩ = some u := ⟨_, hb.cell 23⟩); (have z4 := hb.fz 4); (have z6 := hb.fz 6); (have z23 := hb.fz 23))
  go_end0
  exact ⟨rfl, ((hb.set 6 _).set 4 _).set 23 _, gb_setCell (gb_setCell (gb_setCell hgw _) _) _⟩
theorem spoil_187 {w : World} {fb : Nat} {F : Fd} {kv ck cd cm : Value} {hd lf : Int} (h : Box w 136 fb (fdA fb F kv hd lf ck cd cm)) :
    Calls Tryz.prog 187 #[.pointer (some ⟨fb, 0, none⟩)] w fun e w' => e = .returned (.tuple #[]) /\ Box w' 136 fb (fdA fb F.spoil (.slice none 0 0) hd 0 (.slice none 0 0) (.slice none 0 0) (.slice none 0 0)) /\ w.grownBy w' (some fb) := by
  have h138 : Calls Tryz.prog 138 #[.pointer (some ⟨fb, 0, none⟩), .agg #[.int .i64 0, .slice none 0 0, .int .u64 0, .int .i64 0, .int .u64 0, .int .u64 0, .slice none 0 0, .bool false, .bool false, .slice none 0 0, .string ⟨#[]⟩, .int .i64 2, .string ⟨#[98, 97, 100, 32, 100, 97, 116, 97, 32, 99, 104, 117, 110, 107]⟩, .int .i64 (-1), .int .i64 0, .int .i64 0], .int .i64 0] w _ := pass_138 h (stpW 2 badB (-1)) (ka := none) (kn := 0) (kc := 0) (da := none) (dn := 0) (dc := 0) (ma := none) (mn := 0) (mc := 0) 0
  clear h
  go_enter Tryz.func187, Tryz.ntmps187
  go_wp2_with (go_at_call 138; go_must ((with_reducible refine h138.mono ?_); rintro e w4 ⟨rfl, hb4, hg4⟩))
  go_end0
  exact ⟨rfl, hb4, hg4⟩
theorem over_140 (w : World) (fb : Nat) (v : Value) (a : Option Addr) (n c : Nat) (hv : v = .slice a n c) :
    Calls Tryz.prog 140 #[.pointer (some ⟨fb, 0, none⟩), v] w fun e w' => e = .returned (.tuple #[.int .i64 n, .bool false]) /\ w' = w := by
  subst hv
  go_enter Tryz.func140, Tryz.ntmps140
  go_wp2
  go_ret2
  exact ⟨rfl, rfl⟩
end Go.Proofs.YtobegepebochkaaGreatDoor

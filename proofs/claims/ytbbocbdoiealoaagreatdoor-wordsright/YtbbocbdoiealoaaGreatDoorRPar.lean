import Derived.Test.YtbbocbdoiealoaaGreatDoorRPai
import Derived.Deep.LoopGhost
import Derived.Test.YtbbocbdoiealoaaGreatDoorRXa
import Derived.Test.YtbbocbdoiealoaaGreatDoorRPaq
import Derived.Deep.CutRange
import Derived.Test.YtbbocbdoiealoaaGreatDoorRPag
set_option linter.unusedVariables false
set_option linter.unusedSimpArgs false
namespace Go.Proofs.YtbbocbdoiealoaaGreatDoor
open Go.RowKit Go.Maps
theorem Ck.slice {w : World} {X : Nat → Prop} {v : Value} {l : Bs} (h : Ck w X v l) : ∃ a n c, v = .slice a n c ∧ n = l.length := by
  rcases h with ⟨rfl, rfl⟩ | ⟨g, o, c, rfl, -⟩
  · exact ⟨none, 0, 0, rfl, rfl⟩
  · exact ⟨_, _, c, rfl, rfl⟩
theorem Ck.cutA {X : Nat → Prop} {w : World} {a : Option Addr} {c : Nat} {l : Bs} (h : Ck w X (.slice a l.length c) l) (n m : Nat) (hn : n + m ≤ l.length) : Ck w X (.slice (Option.map (fun x => x.add n) a) m (c - n)) ((l.drop n).take m) := by
  rcases h with ⟨rfl, h⟩ | ⟨g, o, c', h1, h2, h3, h4, h5, h6⟩
  · injection h with h1 h2 h3
    subst h1 h3
    simp at hn
    obtain ⟨rfl, rfl⟩ := hn
    exact .inl ⟨rfl, rfl⟩
  · injection h1 with e1 e2 e3
    subst e1 e3
    refine .inr ⟨g, o + n, c - n, ?_, ?_, by omega, h4, h5, fun i x hx => ?_⟩
    · have : ((l.drop n).take m).length = m := by rw [List.length_take, List.length_drop]; omega
      rw [this, Option.map_some, Addr.add_mid]
    · rw [List.length_take, List.length_drop]; omega
    · rw [List.getElem?_take] at hx
      split at hx
      · rw [List.getElem?_drop] at hx
        rw [Nat.add_assoc]
        exact h6 _ x hx
      · cases hx
section
variable {w : World} {ops : Array Oper} {rest : List Oper} {o : Oper} {a : Act} {Q : Exit → Act → World → Prop}
theorem moreC (hgd : o.guard = none) (s x : Operand) (ho : o.op = .call { callee := .builtin .append, args := #[s, x], argTypes := #[38, 38] })
    (B : Nat) (v : Value) (n : Nat) (xs : List Value) (hs : a.eval s = v) (hown : w.ownsRow B 5 1 v n xs) (X : Nat → Prop) (xv : Value) (l : Bs) (hx : a.eval x = xv) (hc : Ck w X xv l) (hn : n + l.length ≤ 140737488355328) (hB : B ≤ w.heap.size)
    (h : ∀ v' w', w'.ownsRow B 5 1 v' (n + l.length) (xs ++ l.map b8) → w.grownBy w' v.ownBlock → wpList Tryz.prog ops Q rest (a.put o.dst v') w') : wpList Tryz.prog ops Q (o :: rest) a w := by
  obtain ⟨i0, hi, hz0, hz1, hz2⟩ := info_parts Tryz.info5
  rcases hc with ⟨rfl, rfl⟩ | ⟨g0, o0, c0, rfl, h1, -, -, -, h2⟩
  · refine wpList_append_own_none hgd s x 38 ho B 5 i0 1 Tryz.underlying38 hi _ _ _ hs hown hx ?_
    exact h v w (by simpa using hown) (gb_refl _ _)
  · refine wpList_append_own w hgd s x 38 ho B 5 i0 (.int .u8 0) 1 1 Tryz.underlying38 hi hz0 hz1 hz2 rfl (by decide) _ _ _ hs hown ⟨g0, o0, none⟩ l.length c0 (l.map b8) hx (by simp) ?_ ?_ ?_ ?_ hB ?_
    · intro j u hu
      rw [List.getElem?_map, Option.map_eq_some_iff] at hu
      obtain ⟨y, hj, rfl⟩ := hu
      rw [Addr.add_mid]
      exact h2 j y hj
    · intro u hu
      obtain ⟨y, _, rfl⟩ := List.mem_map.1 hu
      rfl
    · unfold maxLen; omega
    · omega
    · intro v' w' hown' hgr _
      exact h v' w' hown' hgr
end
theorem ck_own {w : World} {X : Nat → Prop} {B : Nat} {v : Value} {l : Bs} (h : w.ownsRow B 5 1 v l.length (l.map b8)) (hX : ∀ k, v.ownBlock = some k → ¬ X k) : Ck w X v l := by
  rcases h.2 with ⟨hv, hn0⟩ | ⟨g, cap, cur, hv, hb, hg, h1, h2, h3⟩
  · exact .inl ⟨List.eq_nil_of_length_eq_zero hn0, hv⟩
  · subst hv
    refine .inr ⟨g, 0, cap, rfl, h1, by unfold maxLen at h2; omega, row_lt h g rfl, hX g rfl, fun i x hi => ?_⟩
    rw [Nat.zero_add]
    refine row_cell h i _ ?_
    rw [List.getElem?_map, hi]; rfl
end Go.Proofs.YtbbocbdoiealoaaGreatDoor
namespace Go.Proofs.YtbbocbdoiealoaaGreatDoor
open Go.RowKit Go.Maps
theorem size41 : (Tryz.prog.info? 41).map (·.size) = some 11 := by kernel_rfl
theorem size43 : (Tryz.prog.info? 43).map (·.size) = some 3 := by kernel_rfl
section
variable {w : World} {ops : Array Oper} {rest : List Oper} {op : Oper} {a : Act} {Q : Exit → Act → World → Prop}
theorem atS (T : TypeId) {x y : Operand} (b o : Nat) (ho : op.op = .store T x y) (hx : a.eval x = .pointer (some ⟨b, o, none⟩)) (h : wpList Tryz.prog ops Q (op :: rest) a w) : wpList Tryz.prog ops Q (op :: rest) a w := h
theorem atL (T : TypeId) {x : Operand} (b o : Nat) (ho : op.op = .load T x) (hx : a.eval x = .pointer (some ⟨b, o, none⟩)) (h : wpList Tryz.prog ops Q (op :: rest) a w) : wpList Tryz.prog ops Q (op :: rest) a w := h
theorem storeT (T n : Nat) (hsz : (Tryz.prog.info? T).map (·.size) = some n) (hgd : op.guard = none) (x y : Operand) (ho : op.op = .store T x y) (t b o : Nat) (vs : Array Value) (hb : Box w t b vs) (hn : o + n ≤ vs.size)
    (hx : a.eval x = .pointer (some ⟨b, o, none⟩)) (cs : Array Value) (hy : a.eval y = .agg cs) (hs : cs.size = n) (h1 : cs.all (·.oneCell') = true)
    (h : ∀ W, Box W t b (sets vs o cs.toList) → w.grownBy W (some b) → wpList Tryz.prog ops Q rest (a.put op.dst undef) W) : wpList Tryz.prog ops Q (op :: rest) a w := by
  refine wpList_store_mid hgd T x y ho b o cs hx hy (by rw [hs]; exact hb.there o n hn) (by rw [hs]; exact hsz) h1 ?_
  exact h _ (hb.sets _ _) (gb_setCells _ _ (gb_refl _ _))
theorem load41 (hgd : op.guard = none) (x : Operand) (ho : op.op = .load 41 x) (t b o : Nat) (vs : Array Value) (hb : Box w t b vs) (hx : a.eval x = .pointer (some ⟨b, o, none⟩)) (cs : List Value) (hs : cs.length = 11) (hc : ∀ j v, cs[j]? = some v → vs[o + j]? = some v)
    (h : wpList Tryz.prog ops Q rest (a.put op.dst (.agg cs.toArray)) w) : wpList Tryz.prog ops Q (op :: rest) a w :=
  wpList_load_mid hgd 41 x ho b o hx cs _ (fun j v hv => by rw [hb.cell]; exact hc j v hv) Tryz.underlying41 rfl (by rw [hs]; exact size41) h
theorem load43 (hgd : op.guard = none) (x : Operand) (ho : op.op = .load 43 x) (t b o : Nat) (vs : Array Value) (hb : Box w t b vs) (hx : a.eval x = .pointer (some ⟨b, o, none⟩)) (cs : List Value) (hs : cs.length = 3) (hc : ∀ j v, cs[j]? = some v → vs[o + j]? = some v)
    (h : wpList Tryz.prog ops Q rest (a.put op.dst (.agg cs.toArray)) w) : wpList Tryz.prog ops Q (op :: rest) a w :=
  wpList_load_mid hgd 43 x ho b o hx cs _ (fun j v hv => by rw [hb.cell]; exact hc j v hv) Tryz.underlying43 rfl (by rw [hs]; exact size43) h
end
theorem sets_41 (u0 u1 u2 u3 u4 u5 u6 u7 u8 u9 u10 v0 v1 v2 v3 v4 v5 v6 v7 v8 v9 v10 : Value) : sets #[u0, u1, u2, u3, u4, u5, u6, u7, u8, u9, u10] 0 [v0, v1, v2, v3, v4, v5, v6, v7, v8, v9, v10] = #[v0, v1, v2, v3, v4, v5, v6, v7, v8, v9, v10] := by
  simp only [sets, List.setIfInBounds_toArray, List.set_cons_zero, List.set_cons_succ]
theorem sets_43 (u0 u1 u2 v0 v1 v2 : Value) : sets #[u0, u1, u2] 0 [v0, v1, v2] = #[v0, v1, v2] := by
  simp only [sets, List.setIfInBounds_toArray, List.set_cons_zero, List.set_cons_succ]
theorem sets_86a (c0 c1 c2 c3 c4 c5 c6 c7 c8 c9 c10 c11 c12 c13 c14 c15 v0 v1 v2 v3 v4 v5 v6 v7 v8 v9 v10 : Value) : sets #[c0, c1, c2, c3, c4, c5, c6, c7, c8, c9, c10, c11, c12, c13, c14, c15] 0 [v0, v1, v2, v3, v4, v5, v6, v7, v8, v9, v10] = #[v0, v1, v2, v3, v4, v5, v6, v7, v8, v9, v10, c11, c12, c13, c14, c15] := by
  simp only [sets, List.setIfInBounds_toArray, List.set_cons_zero, List.set_cons_succ]
theorem sets_86b (c0 c1 c2 c3 c4 c5 c6 c7 c8 c9 c10 c11 c12 c13 c14 c15 v0 v1 v2 : Value) : sets #[c0, c1, c2, c3, c4, c5, c6, c7, c8, c9, c10, c11, c12, c13, c14, c15] 11 [v0, v1, v2] = #[c0, c1, c2, c3, c4, c5, c6, c7, c8, c9, c10, v0, v1, v2, c14, c15] := by
  simp only [sets, List.setIfInBounds_toArray, List.set_cons_zero, List.set_cons_succ]
theorem res76 {w : World} {b : Nat} {c0 c1 c2 c3 c4 c5 c6 c7 c8 c9 c10 c11 c12 c13 c14 c15 v : Value} (h : Box w 85 b #[c0, c1, c2, c3, c4, c5, c6, c7, c8, c9, c10, c11, c12, c13, c14, c15]) (tmps : Array Value) (ht : tmps[8]?.getD undef = .pointer (some ⟨b, 0, none⟩)) (hv : tmps[9]?.getD undef = v) : (results Tryz.f81 tmps).run Tryz.prog w = .ok (.tuple #[.agg #[c0, c1, c2, c3, c4, c5, c6, c7, c8, c9, c10, c11, c12, c13, c14, c15], v]) w := by
  have hr : Tryz.f81.results = #[.cell 8 85, .tmp 9] := rfl
  have h0 := h.cell 0
  have h1 := h.cell 1
  have h2 := h.cell 2
  have h3 := h.cell 3
  have h4 := h.cell 4
  have h5 := h.cell 5
  have h6 := h.cell 6
  have h7 := h.cell 7
  have h8 := h.cell 8
  have h9 := h.cell 9
  have h10 := h.cell 10
  have h11 := h.cell 11
  have h12 := h.cell 12
  have h13 := h.cell 13
  have h14 := h.cell 14
  have h15 := h.cell 15
  simp at h0 h1 h2 h3 h4 h5 h6 h7 h8 h9 h10 h11 h12 h13 h14 h15
  unfold results
  simp [hr, ht, hv, go_sem, h0, h1, h2, h3, h4, h5, h6, h7, h8, h9, h10, h11, h12, h13, h14, h15]
structure Ra (w : World) (g o c : Nat) (l : Bs) : Prop where
  le : l.length ≤ c
  cap : c ≤ 9223372036854775807
  lt : g < w.heap.size
  cell : ∀ i x, l[i]? = some x → w.cell? ⟨g, o + i, none⟩ = some (b8 x)
  len : l.length ≤ 1099511627776
theorem Ra.kept0 {w w' : World} {g o c : Nat} {l : Bs} (h : Ra w g o c l) (hf : w.grownBy w' none) : Ra w' g o c l :=
  ⟨h.le, h.cap, Nat.lt_of_lt_of_le h.lt hf.size, fun i x hx => gb_cellN hf (h.cell i x hx), h.len⟩
theorem Ra.dropc {w : World} {g o c : Nat} {l : Bs} (h : Ra w g o c l) (k : Nat) : ∀ i x, (l.drop k)[i]? = some x → w.cell? ⟨g, o + k + i, none⟩ = some (b8 x) := by
  intro i x hx
  rw [List.getElem?_drop] at hx
  rw [Nat.add_assoc]
  exact h.cell _ x hx
theorem wrap1 {x : Int} (h0 : 0 ≤ x) (h1 : x ≤ 4611686018427387904) : IntKind.i64.wrap x = x := by rw [IntKind.wrap_i64]; omega
theorem wrap3 (k n U : Nat) (h : k + n + U + 1 ≤ 4611686018427387904) : IntKind.i64.wrap (IntKind.i64.wrap (IntKind.i64.wrap ((k : Int) + (n : Int)) + (U : Int)) + 1) = ((k + n + U + 1 : Nat) : Int) := by
  rw [wrap1 (x := (k : Int) + n) (by omega) (by omega), wrap1 (x := (k : Int) + n + U) (by omega) (by omega), wrap1 (by omega) (by omega)]
  simp
set_option maxRecDepth 100000 in
set_option maxHeartbeats 4000000 in
theorem bend_short {w : World} {g o c : Nat} {l : Bs} (h : Ra w g o c l) (k n : Nat) (hk : k ≤ l.length) (hn : n ≤ 2147483647) (hs : (l.drop k).length < n) :
    Calls Tryz.prog 125 #[.slice (some ⟨g, o, none⟩) l.length c, .int .i64 k, .int .i64 n] w fun e w' => e = .returned (.tuple #[.int .i64 (-1), .bool false]) ∧ w.grownBy w' none := by
  rw [List.length_drop] at hs
  have hl := h.len
  have d1 : (l.length : Int) - (k : Int) < (n : Int) := by omega
  clear h
  go_enter Tryz.func125, Tryz.ntmps125
  go_wp2
  go_ret2
  exact ⟨rfl, gb_refl _ _⟩
set_option maxRecDepth 100000 in
set_option maxHeartbeats 4000000 in
theorem bend_none {w : World} {g o c : Nat} {l : Bs} (h : Ra w g o c l) (k n : Nat) (hk : k ≤ l.length) (hn : n ≤ 2147483647) (b u : Bs) (e : l.drop k = b ++ u) (hb : b.length = n) (hu : (10 : UInt8) ∉ u) :
    Calls Tryz.prog 125 #[.slice (some ⟨g, o, none⟩) l.length c, .int .i64 k, .int .i64 n] w fun e w' => e = .returned (.tuple #[.int .i64 (-1), .bool false]) ∧ w.grownBy w' none := by
  have hl := h.len
  have hle := h.le
  have hcp := h.cap
  have hlen : l.length - k = n + u.length := by rw [← List.length_drop, e, List.length_append, hb]
  have hu2 : l.drop (k + n) = u := by rw [← List.drop_drop, e, ← hb, List.drop_left]
  have hix : Lib.indexByte u 10 = -1 := by
    rcases indexByte_spec 10 u with ⟨h1, _⟩ | ⟨p, t, h1, _, _⟩
    · exact h1
    · exact absurd (by rw [h1]; simp) hu
  have h118 := ix_118 w g (o + (k + n)) (c - (k + n)) u (by rw [← hu2]; intro i x hx; have := h.dropc (k + n) i x hx; rw [← this])
  rw [hix] at h118
  have h118b := ix_118 w g o 0 [] (fun i x hx => by simp at hx)
  rw [show Lib.indexByte [] 10 = -1 from rfl, List.length_nil] at h118b
  have d1 : ¬ ((l.length : Int) - (k : Int) < (n : Int)) := by omega
  obtain ⟨m, hm⟩ : ∃ m, u.length = m := ⟨_, rfl⟩
  have e1 : l.length - (k + n) = m := by omega
  clear h e hb hu hu2 hix
  by_cases hcn : c = k + n
  · have hm0 : m = 0 := by omega
    subst hm0
    have hlk : l.length = k + n := by omega
    go_enter Tryz.func125, Tryz.ntmps125
    go_wp2_with (go_at_call 123; go_must ((with_reducible refine h118b.mono ?_); rintro e w4 ⟨rfl, rfl⟩))
    go_ret2
    exact ⟨rfl, gb_refl _ _⟩
  · rw [hm] at h118
    go_enter Tryz.func125, Tryz.ntmps125
    go_wp2_with (go_at_call 123; go_must ((with_reducible refine h118.mono ?_); rintro e w4 ⟨rfl, rfl⟩))
    go_ret2
    exact ⟨rfl, gb_refl _ _⟩
set_option maxRecDepth 100000 in
set_option maxHeartbeats 4000000 in
theorem bend_some {w : World} {g o c : Nat} {l : Bs} (h : Ra w g o c l) (k n : Nat) (hk : k ≤ l.length) (hn : n ≤ 2147483647) (b u v : Bs) (e : l.drop k = b ++ (u ++ 10 :: v)) (hb : b.length = n) (hu : (10 : UInt8) ∉ u) :
    Calls Tryz.prog 125 #[.slice (some ⟨g, o, none⟩) l.length c, .int .i64 k, .int .i64 n] w fun e w' => e = .returned (.tuple #[.int .i64 ((k + n + u.length + 1 : Nat) : Int), .bool (decide (u = [13]))]) ∧ w.grownBy w' none := by
  have hl := h.len
  have hle := h.le
  have hcp := h.cap
  have hlen : l.length - k = n + (u.length + 1 + v.length) := by rw [← List.length_drop, e, List.length_append, hb]; simp; omega
  have hu2 : l.drop (k + n) = u ++ 10 :: v := by rw [← List.drop_drop, e, ← hb, List.drop_left]
  have hix : Lib.indexByte (u ++ 10 :: v) 10 = (u.length : Int) := by
    rcases indexByte_spec 10 (u ++ 10 :: v) with ⟨_, h1⟩ | ⟨p, t, h1, h2, h3⟩
    · exact absurd (by simp) h1
    · rw [h3]
      have : p.length = u.length := by
        rcases Nat.lt_trichotomy p.length u.length with hh | hh | hh
        · have h4 : (u ++ 10 :: v)[p.length]? = some 10 := by rw [h1]; simp
          rw [List.getElem?_append_left hh] at h4
          exact absurd (List.mem_of_getElem? h4) hu
        · exact hh
        · have h4 : (p ++ 10 :: t)[u.length]? = some 10 := by rw [← h1]; simp
          rw [List.getElem?_append_left hh] at h4
          exact absurd (List.mem_of_getElem? h4) h2
      omega
  have h118 := ix_118 w g (o + (k + n)) (c - (k + n)) (u ++ 10 :: v) (by rw [← hu2]; intro i x hx; have := h.dropc (k + n) i x hx; rw [← this])
  rw [hix] at h118
  have h0 : ∀ x, u = [x] → w.cell? ⟨g, o + (k + n), none⟩ = some (b8 x) := by
    intro x hx
    have := h.dropc (k + n) 0 x (by rw [hu2, hx]; rfl)
    simpa using this
  have d1 : ¬ ((l.length : Int) - (k : Int) < (n : Int)) := by omega
  obtain ⟨m, hm⟩ : ∃ m, (u ++ 10 :: v).length = m := ⟨_, rfl⟩
  have hml : u.length < m := by rw [← hm]; simp
  have e1 : l.length - (k + n) = m := by rw [← List.length_drop, hu2, hm]
  have hcn : ¬ c = k + n := by omega
  rw [hm] at h118
  obtain ⟨U, hU⟩ : ∃ U, u.length = U := ⟨_, rfl⟩
  rw [hU] at h118 hml hlen ⊢
  have eT : Aside (IntKind.i64.wrap (IntKind.i64.wrap (IntKind.i64.wrap ((k : Int) + (n : Int)) + (U : Int)) + 1) = ((k + n + U + 1 : Nat) : Int)) := wrap3 k n U (by omega)
  have eT2 : Aside ((k : Int) + (n : Int) + (U : Int) + 1 = ((k + n + U + 1 : Nat) : Int)) := by show _ = _; simp
  clear h e hb hu2 hix hm
  by_cases hU1 : U = 1
  · obtain ⟨x, rfl⟩ : ∃ x, u = [x] := List.length_eq_one_iff.1 (by omega)
    have c0 := h0 x rfl
    have ex : Aside (decide ((x.toNat : Int) = 13) = decide ([x] = [13])) := by
      show _ = _
      by_cases hx : x = 13
      · subst hx; rfl
      · have : ¬ ((x.toNat : Int) = 13) := fun e => hx (UInt8.toNat_inj.1 (by show x.toNat = 13; omega))
        simp [hx, this]
    subst hU1
    clear h0 hU hu
    go_enter Tryz.func125, Tryz.ntmps125
    go_wp2_with (go_at_call 123; go_must ((with_reducible refine h118.mono ?_); rintro e w4 ⟨rfl, rfl⟩))
    go_quiet (fail)
    go_wp2
    go_ret2
    refine ⟨?_, gb_drewN (gb_refl _ _) _⟩
    show Ending.returned (.tuple #[.int .i64 ((k : Int) + n + 1 + 1), .bool ((x.toNat : Int) == 13)]) = _
    rw [← eT2.out, ← ex.out]
    rfl
  · have hne : decide (u = [13]) = false := decide_eq_false (fun e => hU1 (by rw [← hU, e]; rfl))
    rw [hne]
    have d3 : ¬ ((U : Int) = 1) := by omega
    clear h0 hU hu hne
    go_enter Tryz.func125, Tryz.ntmps125
    go_wp2_with (go_at_call 123; go_must ((with_reducible refine h118.mono ?_); rintro e w4 ⟨rfl, rfl⟩))
    go_quiet (fail)
    go_wp2
    go_ret2
    refine ⟨?_, gb_drewN (gb_refl _ _) _⟩
    show Ending.returned (.tuple #[.int .i64 (IntKind.i64.wrap (IntKind.i64.wrap (IntKind.i64.wrap ((k : Int) + n) + U) + 1)), .bool false]) = _
    rw [eT.out]
theorem own_empty5 (w : World) : (w.alloc (.cells #[] 5)).ownsRow w.heap.size 5 1 (.slice (some ⟨w.heap.size, 0, none⟩) 0 0) 0 [] := by
  refine ⟨rfl, .inr ⟨w.heap.size, 0, #[], rfl, ?_, ?_, ?_, ?_, ?_⟩⟩
  all_goals simp
  exact Option.some.inj ((Array.getElem?_eq_getElem _).symm.trans (heap_alloc_new w (.cells #[] 5)))
set_option maxRecDepth 100000 in
set_option maxHeartbeats 4000000 in
theorem clone_121 {w : World} {g o c : Nat} {l : Bs} (h : Ra w g o c l) :
    Calls Tryz.prog 126 #[.slice (some ⟨g, o, none⟩) l.length c] w fun e w' => ∃ v', e = .returned v' ∧ w'.ownsRow w.heap.size 5 1 v' l.length (l.map b8) ∧ w.grownBy w' none := by
  have ga := gb_alloc (gb_refl w none) (.cells #[] 5)
  have hm := own_empty5 w
  have hl := h.len
  have hv2 : Ck (w.alloc (.cells #[] 5)) (fun _ => False) (.slice (some ⟨g, o, none⟩) l.length c) l := by
    have := h.kept0 ga
    exact .inr ⟨g, o, c, rfl, this.le, this.cap, this.lt, id, this.cell⟩
  have hq : ∀ (W : World) (n c : Nat), Sem.run Tryz.prog (binOp .eql 38 (.slice (some ⟨g, o, none⟩) n c) (.slice none 0 0)) W = .ok (.bool false) W := fun _ _ _ => by first | rfl | kernel_rfl | simp [binOp, go_sem]
  clear h
  go_enter Tryz.func126, Tryz.ntmps126
  go_wp2_with (at_builtin; go_must (refine moreC rfl _ _ rfl w.heap.size _ 0 [] (by rfl) hm _ _ l (by rfl) hv2 (by omega) (by simp) ?_); intro v' w' h1 h2)
  go_ret
  refine ⟨v', rfl, ?_, ?_⟩
  · simpa using h1
  · exact gb_mine ga h2 (by simp [Value.ownBlock])
end Go.Proofs.YtbbocbdoiealoaaGreatDoor
namespace Go.Proofs.YtbbocbdoiealoaaGreatDoor
open Go.RowKit Go.Maps
attribute [local go_sem] Oper.semAt_some
def spn (i : Nat) : Bs := (rowL.map Prod.fst).getD i []
end Go.Proofs.YtbbocbdoiealoaaGreatDoor

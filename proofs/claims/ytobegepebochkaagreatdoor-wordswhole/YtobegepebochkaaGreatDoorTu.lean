import Derived.Test.YtobegepebochkaaGreatDoorTs
/-
  Bytes are copied.
-/
namespace Go.Proofs.YtobegepebochkaaGreatDoor
open Go.RowKit Go.Maps
set_option linter.unusedVariables false
set_option linter.unusedSimpArgs false

theorem Ck.slice {w : World} {X : Nat → Prop} {v : Value} {l : Bs} (h : Ck w X v l) : ∃ a n c, v = .slice a n c ∧ n = l.length := by
  rcases h with ⟨rfl, rfl⟩ | ⟨g, o, c, rfl, -⟩
  · exact ⟨none, 0, 0, rfl, rfl⟩
  · exact ⟨_, _, c, rfl, rfl⟩
theorem Tryz.info38 : (Tryz.prog.info? 38).map (fun i => (i.zero, i.size, i.bytes)) = some (some (.slice none 0 0), 1, 24) := by kernel_rfl
/-- A part of what lies there: from n on, m bytes; where nothing is left of the room the address stays. -/
theorem Ck.cutA {X : Nat → Prop} {w : World} {a : Option Addr} {c : Nat} {l : Bs} (h : Ck w X (.slice a l.length c) l) (n m : Nat) (hn : n + m ≤ l.length) : Ck w X (.slice (Option.map (fun x => x.add n) a) m (c - n)) ((l.drop n).take m) := by
  rcases h with ⟨rfl, h⟩ | ⟨g, o, c', h1, h2, h3, h4, h5, h6⟩
  · injection h with h1 h2 h3
    subst h1 h3
    simp at hn
    obtain ⟨rfl, rfl⟩ := hn
    exact .inl ⟨rfl, rfl⟩
  · injection h1 with e1 e2 e3
    subst e1 e3
    refine .inr ⟨g, o + n, c - n, ?_, ?_, by omega, h4, h5, fun i x hx => ?_⟩
    · have : ((l.drop n).take m).length = m := by rw [List.length_take, List.length_drop]; omega
      rw [this, Option.map_some, Addr.add_mid]
    · rw [List.length_take, List.length_drop]; omega
    · rw [List.getElem?_take] at hx
      split at hx
      · rw [List.getElem?_drop] at hx
        rw [Nat.add_assoc]
        exact h6 _ x hx
      · cases hx
theorem Ck.dropA {X : Nat → Prop} {w : World} {a : Option Addr} {c : Nat} {l : Bs} (h : Ck w X (.slice a l.length c) l) (n : Nat) (hn : n ≤ l.length) : Ck w X (.slice (Option.map (fun x => x.add n) a) (l.length - n) (c - n)) (l.drop n) := by
  have := h.cutA n (l.length - n) (by omega)
  rwa [List.take_of_length_le (by rw [List.length_drop]; omega)] at this
theorem Ck.cutB {X : Nat → Prop} {w : World} {a : Option Addr} {c : Nat} {l : Bs} (h : Ck w X (.slice a l.length c) l) (n m : Nat) (hn : n + m ≤ l.length) (hc : c = n) : Ck w X (.slice a m (c - n)) ((l.drop n).take m) := by
  rcases h with ⟨rfl, h⟩ | ⟨g, o, c', h1, h2, h3, h4, h5, h6⟩
  · injection h with h1 h2 h3
    subst h1 h3
    simp at hn
    obtain ⟨rfl, rfl⟩ := hn
    exact .inl ⟨rfl, rfl⟩
  · injection h1 with e1 e2 e3
    subst e1 e3
    have hm : m = 0 := by omega
    subst hm
    refine .inr ⟨g, o, c - n, by simp, by simp, by omega, h4, h5, fun i x hx => by simp at hx⟩
theorem Ck.dropB {X : Nat → Prop} {w : World} {a : Option Addr} {c : Nat} {l : Bs} (h : Ck w X (.slice a l.length c) l) (n : Nat) (hn : n ≤ l.length) (hc : c = n) : Ck w X (.slice a (l.length - n) (c - n)) (l.drop n) := by
  have := h.cutB n (l.length - n) (by omega) hc
  rwa [List.take_of_length_le (by rw [List.length_drop]; omega)] at this
theorem Ck.cutB0 {X : Nat → Prop} {w : World} {a : Option Addr} {c : Nat} {l : Bs} (h : Ck w X (.slice a l.length c) l) (n m : Nat) (hn : n + m ≤ l.length) (hc : c = n) : Ck w X (.slice a m 0) ((l.drop n).take m) := by
  have := h.cutB n m hn hc
  rwa [hc, Nat.sub_self] at this
theorem Ck.dropB0 {X : Nat → Prop} {w : World} {a : Option Addr} {c : Nat} {l : Bs} (h : Ck w X (.slice a l.length c) l) (n : Nat) (hn : n ≤ l.length) (hc : c = n) : Ck w X (.slice a (l.length - n) 0) (l.drop n) := by
  have := h.dropB n hn hc
  rwa [hc, Nat.sub_self] at this
section
variable {w : World} {ops : Array Oper} {rest : List Oper} {o : Oper} {a : Act} {Q : Exit → Act → World → Prop}
/-- append(l, p...): any bytes, none too. -/
theorem moreC (hgd : o.guard = none) (s x : Operand) (ho : o.op = .call { callee := .builtin .append, args := #[s, x], argTypes := #[38, 38] })
    (B : Nat) (v : Value) (n : Nat) (xs : List Value) (hs : a.eval s = v) (hown : w.ownsRow B 5 1 v n xs) (X : Nat → Prop) (xv : Value) (l : Bs) (hx : a.eval x = xv) (hc : Ck w X xv l) (hn : n + l.length ≤ 140737488355328) (hB : B ≤ w.heap.size)
    (h : ∀ v' w', w'.ownsRow B 5 1 v' (n + l.length) (xs ++ l.map b8) → w.grownBy w' v.ownBlock → wpList Tryz.prog ops Q rest (a.put o.dst v') w') : wpList Tryz.prog ops Q (o :: rest) a w := by
  obtain ⟨i0, hi, hz0, hz1, hz2⟩ := info_parts Tryz.info5
  rcases hc with ⟨rfl, rfl⟩ | ⟨g0, o0, c0, rfl, h1, -, -, -, h2⟩
  · refine wpList_append_own_none hgd s x 38 ho B 5 i0 1 Tryz.underlying38 hi _ _ _ hs hown hx ?_
    exact h v w (by simpa using hown) (gb_refl _ _)
  · refine wpList_append_own w hgd s x 38 ho B 5 i0 (.int .u8 0) 1 1 Tryz.underlying38 hi hz0 hz1 hz2 rfl (by decide) _ _ _ hs hown ⟨g0, o0, none⟩ l.length c0 (l.map b8) hx (by simp) ?_ ?_ ?_ ?_ hB ?_
    · intro j u hu
      rw [List.getElem?_map, Option.map_eq_some_iff] at hu
      obtain ⟨y, hj, rfl⟩ := hu
      rw [Addr.add_mid]
      exact h2 j y hj
    · intro u hu
      obtain ⟨y, _, rfl⟩ := List.mem_map.1 hu
      rfl
    · unfold maxLen; omega
    · omega
    · intro v' w' hown' hgr _
      exact h v' w' hown' hgr
end
theorem ck_own {w : World} {X : Nat → Prop} {B : Nat} {v : Value} {l : Bs} (h : w.ownsRow B 5 1 v l.length (l.map b8)) (hX : ∀ k, v.ownBlock = some k → ¬ X k) : Ck w X v l := by
  rcases h.2 with ⟨hv, hn0⟩ | ⟨g, cap, cur, hv, hb, hg, h1, h2, h3⟩
  · exact .inl ⟨List.eq_nil_of_length_eq_zero hn0, hv⟩
  · subst hv
    refine .inr ⟨g, 0, cap, rfl, h1, by unfold maxLen at h2; omega, row_lt h g rfl, hX g rfl, fun i x hi => ?_⟩
    rw [Nat.zero_add]
    refine row_cell h i _ ?_
    rw [List.getElem?_map, hi]; rfl
theorem made_zeros (N : Nat) : madeCells (Value.int .u8 0).cells N = Array.replicate N (.int .u8 0) := by
  apply Array.ext'
  apply List.ext_getElem?
  intro i
  by_cases h : i < N <;> simp [madeCells, Value.cells, h, Nat.mod_one]
theorem run_make_room (N : Nat) (h : N ≤ 281474976710656) (w : World) : (Instr.makeSlice 38 (.int .i64 0) (.int .i64 N)).run Tryz.prog w = .ok (.slice (some ⟨w.heap.size, 0, none⟩) 0 N) (w.alloc (.cells (Array.replicate N (.int .u8 0)) 5)) := by
  obtain ⟨i0, hi, hz0, hz1, hz2⟩ := info_parts Tryz.info5
  have := run_make (P := Tryz.prog) w 38 5 i0 (.int .u8 0) Tryz.underlying38 hi hz0 .i64 .i64 0 N (by omega) (by omega) (by rw [hz2]; omega) (by omega)
  rw [this, hz1]
  simp [made_zeros]
set_option maxRecDepth 100000 in
set_option maxHeartbeats 4000000 in
theorem copy_54 {w : World} {X : Nat → Prop} {v : Value} {l : Bs} (hv : Ck w X v l) (hl : l.length ≤ 1099511627776) :
    Calls Tryz.prog 54 #[v] w fun e w' => ∃ v', e = .returned v' ∧ w'.ownsRow w.heap.size 5 1 v' l.length (l.map b8) ∧ w.grownBy w' none := by
  obtain ⟨va, vn, vc, rfl, rfl⟩ := hv.slice
  have hmk := run_make_room l.length (by omega) w
  have hm : (w.alloc (.cells (Array.replicate l.length (.int .u8 0)) 5)).ownsRow w.heap.size 5 1 (.slice (some ⟨w.heap.size, 0, none⟩) 0 l.length) 0 [] := World.ownsRow_made w _ l.length (Nat.le_refl _) (by unfold maxLen; omega) (by simp)
  have ga := gb_alloc (gb_refl w none) (.cells (Array.replicate l.length (.int .u8 0)) 5)
  have hv2 : Ck (w.alloc (.cells (Array.replicate l.length (.int .u8 0)) 5)) (fun _ => False) (.slice va l.length vc) l := hv.kp (Kp.of (F := fun _ => False) ga) (fun _ _ h => h.elim) (fun _ _ h => h.elim)
  go_enter Tryz.func54, Tryz.ntmps54
  go_wp2_with (at_builtin; go_must (refine moreC rfl _ _ rfl w.heap.size _ 0 [] (by rfl) hm _ _ l (by rfl) hv2 (by omega) (by simp) ?_); intro v' w' h1 h2)
  go_ret
  refine ⟨v', rfl, ?_, ?_⟩
  · simpa using h1
  · exact gb_mine ga h2 (by simp [Value.ownBlock])
end Go.Proofs.YtobegepebochkaaGreatDoor

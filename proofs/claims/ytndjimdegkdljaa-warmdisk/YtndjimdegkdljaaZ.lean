import Derived.Test.YtndjimdegkdljaaMg
import Derived.Test.YtndjimdegkdljaaN
/-
  Read.
-/
namespace Go.Proofs.Ytndjimdegkdljaa
open Go.RowKit Go.MapKept
set_option linter.unusedVariables false
set_option linter.unusedSimpArgs false
attribute [local go_sem] Oper.semAt_some

theorem ty38 : ∃ ti, Ty 38 5 ti (.int .u8 0) 1 1 := by
  obtain ⟨ti, hi, he⟩ := Option.map_eq_some_iff.1 (show (Try.prog.info? 5).map (fun i => (i.zero, i.size, i.bytes)) = some (some (.int .u8 0), 1, 1) by kernel_rfl)
  simp only [Prod.mk.injEq] at he
  exact ⟨ti, Try.underlying38, hi, he.1, he.2.1, he.2.2, rfl, by decide, by decide⟩
section
variable {sl el : TypeId} {ti : TypeInfo} {z : Value} {sz bs : Nat} {w : World} {ops : Array Oper} {rest : List Oper} {o : Oper} {a : Act} {Q : Exit → Act → World → Prop}
/-- append([]T{}, l...) of a row of any length. -/
theorem copyL {xs : List Value} {n : Nat} {v : Value} {g0 : Nat} (T : Ty sl el ti z sz bs) (hgd : o.guard = none) (s x : Operand)
    (ho : o.op = .call { callee := .builtin .append, args := #[s, x], argTypes := #[sl, sl] }) (hs : a.eval s = .slice (some ⟨g0, 0, none⟩) 0 0) (hown0 : w.ownsRow 0 el sz (.slice (some ⟨g0, 0, none⟩) 0 0) 0 []) (hrow : w.ownsRow 0 el sz v n xs) (h1c : ∀ u ∈ xs, u.oneCell' = true) (hx : a.eval x = v) (hn : n ≤ 1000000000)
    (h : ∀ v' w', w'.ownsRow 0 el sz v' n xs → w.grownBy w' (some g0) → (v'.ownBlock = some g0 ∨ ∀ b, v'.ownBlock = some b → w.heap.size ≤ b) → (∃ ad c, v' = .slice (some ad) n c) → wpList Try.prog ops Q rest (a.put o.dst v') w') : wpList Try.prog ops Q (o :: rest) a w := by
  refine wpList_plain hgd fun K hK => ?_
  obtain ⟨ao, cp, hdv, _, _, _, hpos⟩ := row_shape hrow
  by_cases h0 : n = 0
  · subst h0
    have hxs : xs = [] := List.length_eq_zero_iff.1 (by rw [hrow.1]; omega)
    subst hxs
    have hrun := run_psh0 T w o.type 0 _ 0 [] hown0 v ⟨ao, cp, hdv⟩
    unfold Oper.wp
    simp [execOp, ho, resolve, invoke, builtin, hs, hx, hrun, Result.andThen]
    exact hK _ _ (h _ w hown0 (gb_refl _ _) (.inl rfl) ⟨_, _, rfl⟩)
  · obtain ⟨g, rfl⟩ := hpos (by omega)
    subst hdv
    obtain ⟨v', w', hr, a1, a2⟩ := run_psh T w o.type _ 0 [] hown0 ⟨g, 0, none⟩ n cp xs hrow.1 (fun j u hj => by rw [Addr.add_mid, Nat.zero_add]; exact row_cell hrow j u hj) h1c (by omega) (by omega)
    unfold Oper.wp
    simp [execOp, ho, resolve, invoke, builtin, hs, hx, hr, Result.andThen]
    refine hK _ _ (h v' w' (by simpa using a1) a2.gb ?_ ?_)
    · rcases a2 with ⟨g1, cap, e1, _, e3, _⟩ | ⟨g1, cap, e1, e2, _⟩
      · injection e1 with e1 _ _
        injection e1 with e1
        injection e1 with e1
        subst e1
        exact .inl (by rw [e3]; rfl)
      · refine .inr (fun b hb => ?_)
        rw [e1] at hb
        simp [Value.ownBlock] at hb
        omega
    · obtain ⟨g', c', e, _, _⟩ := a1.form (by omega)
      exact ⟨⟨g', 0, none⟩, c', by rw [e, Nat.zero_add]⟩
end
theorem b8_one (l : Bs) : ∀ u ∈ l.map b8, u.oneCell' = true := by
  intro u hu
  obtain ⟨x, -, rfl⟩ := List.mem_map.1 hu
  rfl
set_option maxRecDepth 100000 in
theorem sl_some (ad : Addr) (n c : Nat) (W : World) : (binOp .eql 38 (.slice (some ad) n c) (.slice none 0 0)).run Try.prog W = .ok (.bool false) W := by first | rfl | kernel_rfl | simp [binOp, go_sem]
set_option maxRecDepth 100000 in
theorem sl_none (W : World) : (binOp .eql 38 (.slice none 0 0) (.slice none 0 0)).run Try.prog W = .ok (.bool true) W := by first | rfl | kernel_rfl | simp [binOp, go_sem]
set_option maxRecDepth 100000 in
theorem clone_67 {w : World} {v : Value} {l : Bs} (h : w.ownsRow 0 5 1 v l.length (l.map b8)) (hl : l.length ≤ 1000000000) :
    Calls Try.prog 67 #[v] w fun e w' => ∃ v', e = .returned v' ∧ w'.ownsRow 0 5 1 v' l.length (l.map b8) ∧ w.grownBy w' none ∧ ∀ b, v'.ownBlock = some b → w.heap.size ≤ b := by
  obtain ⟨t38, T38⟩ := ty38
  have hq1 := sl_some
  have hq2 := sl_none
  obtain ⟨ao, cp, e, hnone, -⟩ := row_shape h
  subst e
  rcases ao with _ | ad
  · obtain ⟨z1, z2⟩ := hnone rfl
    rw [z1, z2] at h ⊢
    go_enter Try.func67, Try.ntmps67
    go_wp2
    go_ret
    exact ⟨_, rfl, h, gb_refl _ _, fun b hb => by simp [Value.ownBlock] at hb⟩
  · have hE0 : (w.alloc (.cells #[] 5)).ownsRow 0 5 1 (.slice (some ⟨w.heap.size, 0, none⟩) 0 0) 0 [] := ⟨rfl, .inr ⟨w.heap.size, 0, #[], rfl, Nat.zero_le _, heap_alloc_new w _, Nat.le_refl _, by unfold maxLen; omega, rfl, rfl⟩⟩
    have hrow := World.ownsRow.alloc h (.cells #[] 5)
    have hone := b8_one l
    obtain ⟨n, hn⟩ : ∃ n, l.length = n := ⟨_, rfl⟩
    rw [hn] at hrow hl ⊢
    clear h
    go_enter Try.func67, Try.ntmps67
    go_wp2_with (at_builtin; go_must (refine copyL T38 rfl _ _ rfl (by rfl) hE0 hrow hone (by rfl) (by omega) ?_); rintro v' w1 hown1 hg1 hat1 ⟨ad', c', rfl⟩)
    go_ret
    refine ⟨_, rfl, hown1, gb_mine (gb_alloc (gb_refl w none) _) hg1 (Nat.le_refl _), fun b hb => ?_⟩
    have hb' : (Value.slice (some ad') n c').ownBlock = some b := hb
    rcases hat1 with e | e
    · rw [e] at hb'
      rw [← Option.some.inj hb']
      exact Nat.le_refl _
    · have := e b hb'
      simp at this
      omega
/-- What Read answers: the number of its refusal, and the bytes. -/
def rdR (M : Md) (s : Bs) : Int × Bs := if M.dark then (184, []) else if okN s = true then (match M.names s with | some k => (0, (M.files[k]?.getD ([], 0)).1) | none => (182, [])) else (186, [])
set_option maxRecDepth 100000 in
set_option maxHeartbeats 4000000 in
theorem look_66 {w : World} {p : Pl} {M : Md} (h : RP w p M) (s : Bs) (hl : s.length ≤ 9223372036854775807) :
    Calls Try.prog 66 #[pv p.d, sv s] w fun e w' => ∃ f v, e = .returned (.tuple #[f, v]) ∧ ErrV w' v [114, 101, 97, 100] s (rdR M s).1 ∧ w.grownBy w' none ∧ ∀ k, M.dark = false → okN s = true → M.names s = some k → f = pv (p.fb k) := by
  have c3 : w.cell? ⟨p.d, 3, none⟩ = some (.bool (!M.dark)) := h.box.cell 3
  unfold rdR
  cases hdk : M.dark with
  | true =>
    rw [hdk] at c3
    have h30 := refusal_30 [114, 101, 97, 100] s 184 w
    clear h
    simp only [if_true]
    go_enter Try.func66, Try.ntmps66
    go_wp2_with (go_at_call 30; go_must (refine h30.mono ?_); rintro e w1 ⟨v, rfl, hv, g1⟩)
    go_ret2
    exact ⟨_, v, rfl, hv, g1, fun k hd => by cases hd⟩
  | false =>
    rw [hdk] at c3
    simp only [Bool.false_eq_true, if_false]
    by_cases hs : okN s = true
    · rw [if_pos hs]
      cases hn : M.names s with
      | none =>
        have h56 := find_none h s hl hs hn
        have h30 := refusal_30 [114, 101, 97, 100] s 182 w
        clear h
        simp only
        go_enter Try.func66, Try.ntmps66
        go_wp2_with (first
          | (go_at_call 56; go_must (refine h56.mono ?_); rintro e w1 ⟨rfl, hw1⟩; have hw2 := hw1.symm; subst hw2)
          | (go_at_call 30; go_must (refine h30.mono ?_); rintro e w1 ⟨v, rfl, hv, g1⟩))
        go_ret2
        exact ⟨_, v, rfl, hv, g1, fun k _ _ hk => by cases hk⟩
      | some k =>
        have h56 := find_some h s hl hs hn
        have h30 := refusal_30 [114, 101, 97, 100] s 0 w
        clear h
        simp only
        go_enter Try.func66, Try.ntmps66
        go_wp2_with (first
          | (go_at_call 56; go_must (refine h56.mono ?_); rintro e w1 ⟨rfl, hw1⟩; have hw2 := hw1.symm; subst hw2)
          | (go_at_call 30; go_must (refine h30.mono ?_); rintro e w1 ⟨v, rfl, hv, g1⟩))
        go_ret2
        exact ⟨_, v, rfl, hv, g1, fun j _ _ hj => by rw [← Option.some.inj hj]; rfl⟩
    · rw [if_neg hs]
      have h56 := find_no h s hl (by simpa using hs)
      have h30 := refusal_30 [114, 101, 97, 100] s 186 w
      clear h
      go_enter Try.func66, Try.ntmps66
      go_wp2_with (first
        | (go_at_call 56; go_must (refine h56.mono ?_); rintro e w1 ⟨rfl, hw1⟩; have hw2 := hw1.symm; subst hw2)
        | (go_at_call 30; go_must (refine h30.mono ?_); rintro e w1 ⟨v, rfl, hv, g1⟩))
      go_ret2
      exact ⟨_, v, rfl, hv, g1, fun k _ hs' => absurd hs' hs⟩
set_option maxRecDepth 100000 in
set_option maxHeartbeats 4000000 in
theorem read_27 {w : World} {p : Pl} {M : Md} (h : RP w p M) (s : Bs) (hl : s.length ≤ 9223372036854775807) (hsm : ∀ f ∈ M.files, f.1.length ≤ 1000000000) :
    Calls Try.prog 27 #[pv p.d, sv s] w fun e w' => ∃ b v, e = .returned (.tuple #[b, v]) ∧ ErrV w' v [114, 101, 97, 100] s (rdR M s).1 ∧ w'.ownsRow 0 5 1 b (rdR M s).2.length ((rdR M s).2.map b8) ∧ w.grownBy w' none := by
  have h66 := look_66 h s hl
  have HR := Lib.hid (And.intro h hsm)
  clear h hsm
  by_cases hz : (rdR M s).1 = 0
  · have hk : M.dark = false ∧ okN s = true ∧ ∃ k, M.names s = some k ∧ (rdR M s).2 = (M.files[k]?.getD ([], 0)).1 := by
      unfold rdR at hz ⊢
      split at hz
      · simp at hz
      · next hd =>
        split at hz
        · next hs =>
          cases hn : M.names s with
          | none => rw [hn] at hz; simp at hz
          | some k =>
            refine ⟨by simpa using hd, hs, k, rfl, ?_⟩
            rw [if_neg hd, if_pos hs]
        · simp at hz
    obtain ⟨hd, hs, k, hn, he⟩ := hk
    rw [he]
    rw [hz] at h66 ⊢
    have hr := Md.names_reach hn
    have hlk := reach_lt HR.out.1.ok hr
    obtain ⟨f, hf⟩ : ∃ f, M.files[k]? = some f := ⟨_, List.getElem?_eq_getElem hlk⟩
    rw [hf, Option.getD_some]
    have hfl := HR.out.1.fl k f hr hf
    have hfs := HR.out.2 f (List.mem_of_getElem? hf)
    have q1 : w.cell? ⟨p.fb k, 1, none⟩ = some (p.rv k) := hfl.box.cell 1
    have hrow := hfl.row
    have h67 := fun (W : World) (gW : w.grownBy W none) => clone_67 (row_kept hrow gW (by simp)) hfs
    have h66' : Calls Try.prog 66 #[pv p.d, sv s] w fun e w' => e = .returned (.tuple #[pv (p.fb k), .nilIface]) ∧ w.grownBy w' none := by
      refine h66.mono ?_
      rintro e w1 ⟨fv, v, rfl, hv, g1, hfv⟩
      rw [hfv k hd hs hn]
      rcases hv with ⟨_, rfl⟩ | ⟨hne, _⟩
      · exact ⟨rfl, g1⟩
      · exact absurd rfl hne
    obtain ⟨ao, cp, er, -⟩ := row_shape hrow
    rw [er] at q1 h67
    clear hfl h66 hrow
    go_enter Try.func27, Try.ntmps27
    go_wp2_with (first
      | (go_at_call 66; go_must (refine h66'.mono ?_); rintro e w1 ⟨rfl, g1⟩; (have q1 := gb_cellN g1 q1))
      | (go_at_call 67; go_must (refine (h67 w1 g1).mono ?_); rintro e w2 ⟨b, rfl, hb, g2, _⟩))
    go_ret2
    exact ⟨_, _, rfl, .inl ⟨rfl, rfl⟩, hb, gb_trans g1 g2⟩
  · have he : (rdR M s).2 = [] := by
      unfold rdR at hz ⊢
      split at hz
      · next hd => rw [if_pos hd]
      · next hd =>
        rw [if_neg hd]
        split at hz
        · next hs =>
          rw [if_pos hs]
          cases hn : M.names s with
          | none => rfl
          | some k => rw [hn] at hz; simp at hz
        · next hs => rw [if_neg hs]
    rw [he]
    have h66' : Calls Try.prog 66 #[pv p.d, sv s] w fun e w' => ∃ fv g, e = .returned (.tuple #[fv, .iface 55 (pv g)]) ∧ ErrV w' (.iface 55 (pv g)) [114, 101, 97, 100] s (rdR M s).1 ∧ w.grownBy w' none := by
      refine h66.mono ?_
      rintro e w1 ⟨fv, v, rfl, hv, g1, hfv⟩
      rcases hv with ⟨h0, _⟩ | ⟨hne, g, rfl, hb⟩
      · exact absurd h0 hz
      · exact ⟨fv, g, rfl, .inr ⟨hne, g, rfl, hb⟩, g1⟩
    clear h66
    generalize (rdR M s).1 = cd at *
    go_enter Try.func27, Try.ntmps27
    go_wp2_with (go_at_call 66; go_must (refine h66'.mono ?_); rintro e w1 ⟨fv, g, rfl, hv, g1⟩)
    go_ret2
    exact ⟨_, _, rfl, hv, World.ownsRow_nil _ _ _ _, g1⟩
end Go.Proofs.Ytndjimdegkdljaa

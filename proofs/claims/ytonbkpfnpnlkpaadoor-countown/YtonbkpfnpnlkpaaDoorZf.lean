/-
  append onto a row of handles, and whether it fits.
-/
import Derived.Test.YtonbkpfnpnlkpaaDoorZe
import Derived.ArgAppend
namespace Go.Proofs.YtonbkpfnpnlkpaaDoor
open Go.RowKit
set_option linter.unusedVariables false
set_option linter.unusedSimpArgs false

/-- What append of m elements leaves of a row's value v. -/
def Psh (w w' : World) (v : Value) (n m : Nat) (v' : Value) : Prop :=
  (∃ g cap, v = .slice (some ⟨g, 0, none⟩) n cap ∧ n + m ≤ cap ∧ v' = .slice (some ⟨g, 0, none⟩) (n + m) cap ∧ w.grownBy w' (some g)) ∨
  (∃ g cap, v' = .slice (some ⟨g, 0, none⟩) (n + m) cap ∧ w.heap.size ≤ g ∧ w.grownBy w' none)

theorem run_psh (w : World) (ty : TypeId) (v : Value) (n : Nat) (xs : List Value) (hown : w.ownsRow 0 3 1 v n xs) (ad : Addr) (m c : Nat) (news : List Value) (hl : news.length = m) (hnews : ∀ j u, news[j]? = some u → w.cell? (ad.add j) = some u) (h1 : ∀ u ∈ news, u.oneCell' = true) (hm : 0 < m) (hn : n + m ≤ 100000) :
    ∃ v' w', (Builtin.append_ #[40, 40] ty #[v, .slice (some ad) m c]).run Tryd.prog w = .ok v' w' ∧ w'.ownsRow 0 3 1 v' (n + m) (xs ++ news) ∧ Psh w w' v n m v' := by
  obtain ⟨i0, hi, hz0, hz1, hz2⟩ := info_parts Tryd.info3
  have hl1 : news.length = m * 1 := by omega
  rcases hown.2 with ⟨rfl, h0⟩ | ⟨g, cap, cur, rfl, h2, h3, h4, h5, h6, h7⟩
  · subst h0
    obtain ⟨g, cap, w', hr, a1, a2, a3, _⟩ := run_append_lies (P := Tryd.prog) w 40 ty 0 3 i0 _ 1 8 Tryd.underlying40 hi hz0 hz1 hz2 rfl (by omega) _ 0 xs hown ad m c news hl1 hnews h1 hm (by unfold maxLen; omega) (by omega) (Nat.zero_le _) _ rfl
    refine ⟨_, w', hr, a1, .inr ⟨g, cap, rfl, ?_, a2⟩⟩
    rcases a3 with a3 | a3
    · simp [Value.ownBlock] at a3
    · omega
  · by_cases hf : n + m ≤ cap
    · obtain ⟨w', hr, a1, a2⟩ := run_append_fits (P := Tryd.prog) w 0 40 ty 3 i0 1 Tryd.underlying40 hi hz1 g n cap xs hown ad m c news hl1 hnews h1 hf
      exact ⟨_, w', hr, a1, .inl ⟨g, cap, rfl, hf, rfl, a2⟩⟩
    · obtain ⟨v', w', hr, a1, a2⟩ := run_append_arg_grows (P := Tryd.prog) w 40 ty 3 i0 _ 1 8 Tryd.underlying40 hi hz0 hz1 hz2 rfl (by omega) ⟨g, 0, none⟩ n cap xs hown.1 (fun j u hj => hown.cells rfl j u hj) ad m c news hl1 hnews (by omega) (by unfold maxLen; omega) (by omega)
      obtain ⟨g', cap', rfl, hb, _⟩ := a1.form (by omega)
      exact ⟨_, w', hr, row_base a1 (Nat.zero_le _), .inr ⟨g', cap', rfl, hb, a2⟩⟩

theorem psh_trans {w w1 w' : World} {v v' : Value} {n m : Nat} (h1 : ∀ r, w.grownBy w1 r) (h : Psh w1 w' v n m v') : Psh w w' v n m v' := by
  rcases h with ⟨g, cap, a1, a2, a3, a4⟩ | ⟨g, cap, a1, a2, a3⟩
  · exact .inl ⟨g, cap, a1, a2, a3, gb_trans (h1 _) a4⟩
  · exact .inr ⟨g, cap, a1, Nat.le_trans (h1 none).size a2, gb_trans (h1 _) a3⟩

section
variable {w : World} {ops : Array Oper} {rest : List Oper} {o : Oper} {a : Act} {Q : Exit → Act → World → Prop}
theorem push3p (hgd : o.guard = none) (s x : Operand) (ho : o.op = .call { callee := .builtin .append, args := #[s, x], argTypes := #[40, 40] })
    (v : Value) (n : Nat) (xs : List Value) (hs : a.eval s = v) (hown : w.ownsRow 0 3 1 v n xs) (u : Int) (hx : a.eval x = .slice (some ⟨w.heap.size, 0, none⟩) 1 1) (hn : n ≤ 20000)
    (h : ∀ v' w', w'.ownsRow 0 3 1 v' (n + 1) (xs ++ [.int .i64 u]) → Psh w w' v n 1 v' → wpList Tryd.prog ops Q rest (a.put o.dst v') w') : wpList Tryd.prog ops Q (o :: rest) a (w.alloc (.cells #[.int .i64 u] 3)) := by
  refine wpList_plain hgd fun K hK => ?_
  obtain ⟨v', w', hr, a1, a2⟩ := run_psh (w.alloc (.cells #[.int .i64 u] 3)) o.type v n xs (World.ownsRow.alloc hown _) ⟨w.heap.size, 0, none⟩ 1 1 [.int .i64 u] rfl (World.news_of_block (cs := #[.int .i64 u]) (t := 3) (fr := (0, 0)) (heap_alloc_new w _)) (by simp [Value.oneCell']) (by omega) (by omega)
  unfold Oper.wp
  simp [execOp, ho, resolve, invoke, builtin, hs, hx, hr, Result.andThen]
  exact hK _ _ (h v' w' a1 (psh_trans (fun r => World.grownBy_alloc w _ r) a2))
end

theorem step_more3 {w : World} {ops : Array Oper} {o : Oper} {a : Act} {K : Act → World → Prop} {Q : Exit → Act → World → Prop} {E : Prop} (hgd : o.guard = none) (s x : Operand)
    (ho : o.op = .call { callee := .builtin .append, args := #[s, x], argTypes := #[40, 40] }) (v : Value) (n : Nat) (xs : List Value) (hs : a.eval s = v) (hown : w.ownsRow 0 3 1 v n xs) (ad : Addr) (m c : Nat) (news : List Value) (hx : a.eval x = .slice (some ad) m c) (hl : news.length = m) (hnews : ∀ j u, news[j]? = some u → w.cell? (ad.add j) = some u) (h1 : ∀ u ∈ news, u.oneCell' = true) (hm : 0 < m) (hn : n + m ≤ 100000)
    (h : ∀ g c w', w'.ownsRow 0 3 1 (.slice (some ⟨g, 0, none⟩) (n + m) c) (n + m) (xs ++ news) → Psh w w' v n m (.slice (some ⟨g, 0, none⟩) (n + m) c) → K (a.put o.dst (.slice (some ⟨g, 0, none⟩) (n + m) c)) w') :
    if Region.wanted o (yielded ops a.tmps) = true then Oper.wp Tryd.prog o a w K Q else E := by
  have hw : Region.wanted o (yielded ops a.tmps) = true := by simp [Region.wanted, hgd]
  rw [if_pos hw]
  obtain ⟨v', w', hr, a1, a2⟩ := run_psh w o.type v n xs hown ad m c news hl hnews h1 hm hn
  obtain ⟨g', c', rfl, _, _⟩ := a1.form (by omega)
  unfold Oper.wp
  simp [execOp, ho, resolve, invoke, builtin, hs, hx, hr, Result.andThen]
  exact h g' c' w' a1 a2

end Go.Proofs.YtonbkpfnpnlkpaaDoor

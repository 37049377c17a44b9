/-
  Copies of servers; a server more in a row.
-/
import Derived.Test.YtphhofbdekbggaaSb
import Derived.Laws.IdiomCopy
import Derived.Lib.Overlaps
import Derived.Lib.AppendZerosOnto
import Derived.Deep.RegionLaw
namespace Go.Proofs.Ytphhofbdekbggaa
open Go.RowKit
set_option linter.unusedVariables false
set_option linter.unusedSimpArgs false

theorem size26 : (Try.prog.info? 26).map (·.size) = some 2 := by kernel_rfl
theorem run_copy2 (w : World) (ty : TypeId) (b o dLen dCap : Nat) (a : Addr) (sLen sCap n : Nat) (cs : List Value) (hn : n = Nat.min sLen dLen) (hl : cs.length = n * 2)
    (hsrc : ∀ j v, cs[j]? = some v → w.cell? (a.add j) = some v) (hc : ∀ j, j < cs.length → (w.cell? ⟨b, o + j, none⟩).isSome = true) (hf : ∀ j, j < cs.length → w.frozen? ⟨b, o + j, none⟩ = false) (h1 : ∀ v ∈ cs, v.oneCell' = true) :
    (Builtin.copy_ #[22, 22] ty #[.slice (some ⟨b, o, none⟩) dLen dCap, .slice (some a) sLen sCap]).run Try.prog w = .ok (.int .i64 n) (w.setCells b o cs) := by
  have hld := run_firstCells_some (P := Try.prog) (w := w) 2 n a sLen sCap cs hl hsrc
  have hst := run_storeCells_cells (P := Try.prog) b o cs 0 w (by simpa using hc) (by simpa using hf) h1
  have hs := size26
  cases hq : Try.prog.info? 26 with
  | none => simp [hq] at hs
  | some i =>
    have hi : i.size = 2 := by simpa [hq] using hs
    simp [Builtin.copy_, run_underlying Try.underlying22, Builtin.lenOf, sizeOf, typeInfo, hq, hi, ← hn, hld, hst]
    rfl
theorem wp_copy2 (w : World) {o : Oper} {a : Act} {K : Act → World → Prop} {Q : Exit → Act → World → Prop} (d s : Operand)
    (ho : o.op = .call { callee := .builtin .copy, args := #[d, s], argTypes := #[22, 22] }) (v u : Value) (hd : a.eval d = v) (hs : a.eval s = u) {v' : Value} {w' : World}
    (hr : (Builtin.copy_ #[22, 22] o.type #[v, u]).run Try.prog w = .ok v' w') (h : K (a.put o.dst v') w') : o.wp Try.prog a w K Q := by
  unfold Oper.wp execOp
  simp only [ho, resolve, invoke, builtin, Sem.run_bind, Sem.run_pure, Result.andThen_ok, List.map_toArray, List.map_cons, List.map_nil, hd, hs, hr]
  exact h
theorem wpList_copy2 (w : World) {ops : Array Oper} {rest : List Oper} {o : Oper} {a : Act} {Q : Exit → Act → World → Prop} (hgd : o.guard = none) (d s : Operand)
    (ho : o.op = .call { callee := .builtin .copy, args := #[d, s], argTypes := #[22, 22] }) (v u : Value) (hd : a.eval d = v) (hs : a.eval s = u) {v' : Value} {w' : World}
    (hr : (Builtin.copy_ #[22, 22] o.type #[v, u]).run Try.prog w = .ok v' w') (h : wpList Try.prog ops Q rest (a.put o.dst v') w') : wpList Try.prog ops Q (o :: rest) a w :=
  wpList_plain hgd fun _ hK => wp_copy2 w d s ho v u hd hs hr (hK _ _ h)
theorem step_copy2 {ops : Array Oper} {o : Oper} {a : Act} {w : World} {K : Act → World → Prop} {Q : Exit → Act → World → Prop} {E : Prop}
    (hg : o.guard = none) (d x : Operand) (hop : o.op = Op.call { callee := Callee.builtin Builtin.copy, args := #[d, x], argTypes := #[22, 22] })
    (v u : Value) (hd : a.eval d = v) (hx : a.eval x = u) {v' : Value} {w' : World} (hr : (Builtin.copy_ #[22, 22] o.type #[v, u]).run Try.prog w = .ok v' w') (hK : K (a.put o.dst v') w') :
    if Region.wanted o (yielded ops a.tmps) = true then Oper.wp Try.prog o a w K Q else E := by
  have hw : Region.wanted o (yielded ops a.tmps) = true := by simp [Region.wanted, hg]
  rw [if_pos hw]
  exact wp_copy2 w d x hop v u hd hx hr hK
theorem some_setCells (b : Nat) (vs : List Value) (o : Nat) (w : World) (h : ∀ j, j < vs.length → (w.cell? ⟨b, o + j, none⟩).isSome = true) (x : Addr) (hx : (w.cell? x).isSome = true) : ((w.setCells b o vs).cell? x).isSome = true := by
  by_cases hin : x.block = b ∧ x.spot = none ∧ o ≤ x.off ∧ x.off < o + vs.length
  · obtain ⟨rfl, h2, h3, h4⟩ := hin
    have := World.cell?_setCells_in x.block vs o w h (x.off - o) (by omega)
    rw [show o + (x.off - o) = x.off by omega] at this
    rw [show x = ⟨x.block, x.off, none⟩ by rw [← h2], this]
    rfl
  · rw [World.cell?_setCells_out b vs o w x (fun h1 h2 => by
      rcases Nat.lt_or_ge x.off o with h3 | h3
      · exact .inl h3
      · exact .inr (by
          rcases Nat.lt_or_ge x.off (o + vs.length) with h4 | h4
          · exact absurd ⟨h1, h2, h3, h4⟩ hin
          · exact h4))]
    exact hx
theorem gb_setCells2 {a b : World} {g : Nat} : ∀ (l : List Value) (o : Nat), a.grownBy b (some g) → a.grownBy (b.setCells g o l) (some g)
  | [], _, h => h
  | v :: l, o, h => gb_setCells2 l (o + 1) (gb_setCell h v)
/-- A server more. -/
def insL (L : List Sv) (i : Nat) (p : Sv) : List Sv := L.take i ++ p :: L.drop i
theorem insL_len (L : List Sv) (i : Nat) (p : Sv) (hi : i ≤ L.length) : (insL L i p).length = L.length + 1 := by
  unfold insL
  simp
  omega
theorem flatS_app (a b : List Sv) : flatS (a ++ b) = flatS a ++ flatS b := by unfold flatS; exact List.flatMap_append
theorem flatS_cons (p : Sv) (b : List Sv) : flatS (p :: b) = encSv p ++ flatS b := by unfold flatS; exact List.flatMap_cons
theorem flatS_ins (L : List Sv) (i : Nat) (p : Sv) : flatS (insL L i p) = flatS (L.take i) ++ (encSv p ++ flatS (L.drop i)) := by
  unfold insL
  rw [flatS_app, flatS_cons]
theorem SvAt.of_flat {w : World} {g : Nat} {ps : List Sv} (h : ∀ j u, (flatS ps)[j]? = some u → w.cell? ⟨g, j, none⟩ = some u) : SvAt w g ps := fun i hi => by
  obtain ⟨e0, e1⟩ := flatS_get ps i hi
  exact ⟨h _ _ e0, h _ _ e1⟩
/-- What is laid between. -/
theorem splice {w : World} {b : Nat} {A C E : List Value} (hsrc : ∀ j u, (A ++ C)[j]? = some u → w.cell? ⟨b, j, none⟩ = some u) (hth : ∀ j, j < A.length + E.length + C.length → (w.cell? ⟨b, j, none⟩).isSome = true) :
    ∀ j u, (A ++ (E ++ C))[j]? = some u → ((w.setCells b (A.length + E.length) C).setCells b A.length E).cell? ⟨b, j, none⟩ = some u := by
  intro j u hj
  have t1 : ∀ k, k < C.length → (w.cell? ⟨b, A.length + E.length + k, none⟩).isSome = true := fun k hk => hth _ (by omega)
  have t2 : ∀ k, k < E.length → ((w.setCells b (A.length + E.length) C).cell? ⟨b, A.length + k, none⟩).isSome = true := fun k hk => some_setCells b C _ w t1 _ (hth _ (by omega))
  rcases Nat.lt_or_ge j A.length with h1 | h1
  · rw [World.cell?_setCells_out _ _ _ _ _ (fun _ _ => .inl h1), World.cell?_setCells_out _ _ _ _ _ (fun _ _ => .inl (by simp only; omega))]
    refine hsrc j u ?_
    rw [List.getElem?_append_left h1] at hj ⊢
    exact hj
  · rw [List.getElem?_append_right h1] at hj
    rcases Nat.lt_or_ge j (A.length + E.length) with h2 | h2
    · rw [List.getElem?_append_left (by omega)] at hj
      have := World.cell?_setCells_in b E A.length _ t2 (j - A.length) (by omega)
      rw [show A.length + (j - A.length) = j by omega] at this
      rw [this, ← hj, List.getElem?_eq_getElem (by omega)]
    · rw [List.getElem?_append_right (by omega)] at hj
      have hlt := (List.getElem?_eq_some_iff.1 hj).1
      rw [World.cell?_setCells_out _ _ _ _ _ (fun _ _ => .inr (by simp only; omega))]
      have := World.cell?_setCells_in b C (A.length + E.length) w t1 (j - A.length - E.length) hlt
      rw [show A.length + E.length + (j - A.length - E.length) = j by omega] at this
      rw [this, ← hj, List.getElem?_eq_getElem hlt]
end Go.Proofs.Ytphhofbdekbggaa

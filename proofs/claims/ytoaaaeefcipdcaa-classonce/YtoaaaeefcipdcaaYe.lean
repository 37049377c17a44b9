import Derived.Test.YtoaaaeefcipdcaaYd
import Derived.ArgAppend
/-
  Rows of rows, whatever their elements: what append leaves, lists kept beside copies, lists that are grown.
-/
namespace Go.Proofs.Ytoaaaeefcipdcaa
open Go.RowKit
set_option linter.unusedVariables false
set_option linter.unusedSimpArgs false

/-- The type sl of rows whose elements, of type el, have sz cells. -/
structure Ty (sl el : TypeId) (ti : TypeInfo) (zv : Value) (sz bs : Nat) : Prop where
  u : Try.prog.underlying sl = some (.slice el)
  i : Try.prog.info? el = some ti
  z : ti.zero = some zv
  s : ti.size = sz
  b : ti.bytes = bs
  zs : zv.cells.size = sz
  pos : 0 < sz
  le : bs ≤ 1000

theorem some_ne2 {a b : Nat} (h : a ≠ b) : some a ≠ some b := fun e => h (Option.some.inj e)
theorem row_ge {w : World} {B : Nat} {e : TypeId} {s : Nat} {v : Value} {n : Nat} {xs : List Value} (h : w.ownsRow B e s v n xs) {j : Nat} (hj : v.ownBlock = some j) : B ≤ j ∧ j < w.heap.size := World.ownsRow.lt h j hj
theorem gb_of_kp {w a b : World} {G : Nat → Prop} (h : w.grownBy a none) (k : Kp G a b) (hG : ∀ j, G j → w.heap.size ≤ j) : w.grownBy b none :=
  (((Kp.of (F := fun _ => False) h).trans k (fun _ h => h) (fun j hj => .inr (hG j hj)))).grown (fun _ h => h.elim)

/-- What append of m elements leaves of a row's value v. -/
def Psh (w w' : World) (v : Value) (n m : Nat) (v' : Value) : Prop :=
  (∃ g cap, v = .slice (some ⟨g, 0, none⟩) n cap ∧ n + m ≤ cap ∧ v' = .slice (some ⟨g, 0, none⟩) (n + m) cap ∧ w.grownBy w' (some g)) ∨
  (∃ g cap, v' = .slice (some ⟨g, 0, none⟩) (n + m) cap ∧ w.heap.size ≤ g ∧ w.grownBy w' none)

theorem psh_trans {w w1 w' : World} {v v' : Value} {n m : Nat} (h1 : ∀ r, w.grownBy w1 r) (h : Psh w1 w' v n m v') : Psh w w' v n m v' := by
  rcases h with ⟨g, cap, a1, a2, a3, a4⟩ | ⟨g, cap, a1, a2, a3⟩
  · exact .inl ⟨g, cap, a1, a2, a3, gb_trans (h1 _) a4⟩
  · exact .inr ⟨g, cap, a1, Nat.le_trans (h1 none).size a2, gb_trans (h1 _) a3⟩
/-- Only the row's own block turns. -/
theorem Psh.gb {w w' : World} {v v' : Value} {n m : Nat} (h : Psh w w' v n m v') : w.grownBy w' v.ownBlock := by
  rcases h with ⟨g, cap, rfl, _, _, h⟩ | ⟨g, cap, _, _, h⟩
  · exact h
  · exact gb_none _ h
theorem Psh.at' {w w' : World} {v v' : Value} {n m g : Nat} (h : Psh w w' v n m v') (hg : v'.ownBlock = some g) : v.ownBlock = some g ∨ w.heap.size ≤ g := by
  rcases h with ⟨g1, cap, rfl, _, rfl, _⟩ | ⟨g1, cap, rfl, h1, _⟩
  · exact .inl (by simpa [Value.ownBlock] using hg)
  · simp [Value.ownBlock] at hg; exact .inr (by omega)
theorem mul_bd {n bs : Nat} (hn : n ≤ 100000000000) (hb : bs ≤ 1000) : n * bs ≤ 140737488355328 := Nat.le_trans (Nat.mul_le_mul hn hb) (by omega)

section
variable {sl el : TypeId} {ti : TypeInfo} {z : Value} {sz bs : Nat}
theorem run_psh (T : Ty sl el ti z sz bs) (w : World) (ty : TypeId) (v : Value) (n : Nat) (xs : List Value) (hown : w.ownsRow 0 el sz v n xs) (ad : Addr) (m c : Nat) (news : List Value) (hl : news.length = m * sz) (hnews : ∀ j u, news[j]? = some u → w.cell? (ad.add j) = some u) (h1 : ∀ u ∈ news, u.oneCell' = true) (hm : 0 < m) (hn : n + m ≤ 1000000000) :
    ∃ v' w', (Builtin.append_ #[sl, sl] ty #[v, .slice (some ad) m c]).run Try.prog w = .ok v' w' ∧ w'.ownsRow 0 el sz v' (n + m) (xs ++ news) ∧ Psh w w' v n m v' := by
  have hbd : (n + m) * bs ≤ 140737488355328 := mul_bd (by omega) T.le
  rcases hown.2 with ⟨rfl, h0⟩ | ⟨g, cap, cur, rfl, h2, h3, h4, h5, h6, h7⟩
  · subst h0
    obtain ⟨g, cap, w', hr, a1, a2, a3, _⟩ := run_append_lies (P := Try.prog) w sl ty 0 el ti _ sz bs T.u T.i T.z T.s T.b T.zs T.pos _ 0 xs hown ad m c news hl hnews h1 hm (by unfold maxLen; omega) hbd (Nat.zero_le _) _ rfl
    refine ⟨_, w', hr, a1, .inr ⟨g, cap, rfl, ?_, a2⟩⟩
    rcases a3 with a3 | a3
    · simp [Value.ownBlock] at a3
    · omega
  · by_cases hf : n + m ≤ cap
    · obtain ⟨w', hr, a1, a2⟩ := run_append_fits (P := Try.prog) w 0 sl ty el ti sz T.u T.i T.s g n cap xs hown ad m c news hl hnews h1 hf
      exact ⟨_, w', hr, a1, .inl ⟨g, cap, rfl, hf, rfl, a2⟩⟩
    · obtain ⟨v', w', hr, a1, a2⟩ := run_append_arg_grows (P := Try.prog) w sl ty el ti _ sz bs T.u T.i T.z T.s T.b T.zs T.pos ⟨g, 0, none⟩ n cap xs hown.1 (fun j u hj => hown.cells rfl j u hj) ad m c news hl hnews (by omega) (by unfold maxLen; omega) hbd
      obtain ⟨g', cap', rfl, hb, _⟩ := a1.form (by omega)
      exact ⟨_, w', hr, row_base a1 (Nat.zero_le _), .inr ⟨g', cap', rfl, hb, a2⟩⟩
theorem run_psh0 (T : Ty sl el ti z sz bs) (w : World) (ty : TypeId) (B : Nat) (v : Value) (n : Nat) (xs : List Value) (hown : w.ownsRow B el sz v n xs) (u : Value) (hu : (∃ a c, u = .slice a 0 c)) :
    (Builtin.append_ #[sl, sl] ty #[v, u]).run Try.prog w = .ok v w := by
  obtain ⟨a, c, rfl⟩ := hu
  rcases a with _ | a
  · exact run_append_owned_none (P := Try.prog) (w := w) B sl ty el ti sz T.u T.i _ _ _ hown
  · obtain ⟨ao, cp, rfl, hn, _⟩ := row_shape hown
    have hfc := run_firstCells_some (P := Try.prog) w ti.size 0 a 0 c [] (by simp) (by simp)
    rcases ao with _ | ao
    · obtain ⟨rfl, rfl⟩ := hn rfl
      simp [Builtin.append_, run_underlying T.u, sizeOf, typeInfo, T.i, Builtin.lenOf, hfc, storeCells]
    · simp [Builtin.append_, run_underlying T.u, sizeOf, typeInfo, T.i, Builtin.lenOf, hfc, storeCells]
      intro h
      omega

variable {w : World} {ops : Array Oper} {rest : List Oper} {o : Oper} {a : Act} {Q : Exit → Act → World → Prop}
/-- append(l, x) in a plain region. -/
theorem pushG (T : Ty sl el ti z sz bs) (hgd : o.guard = none) (s x : Operand) (ho : o.op = .call { callee := .builtin .append, args := #[s, x], argTypes := #[sl, sl] })
    (v : Value) (n : Nat) (xs : List Value) (hs : a.eval s = v) (hown : w.ownsRow 0 el sz v n xs) (us : List Value) (hul : us.length = sz) (hu : ∀ u ∈ us, u.oneCell' = true) (hx : a.eval x = .slice (some ⟨w.heap.size, 0, none⟩) 1 1) (hn : n ≤ 100000000)
    (h : ∀ v' w', w'.ownsRow 0 el sz v' (n + 1) (xs ++ us) → Psh w w' v n 1 v' → wpList Try.prog ops Q rest (a.put o.dst v') w') : wpList Try.prog ops Q (o :: rest) a (w.alloc (.cells us.toArray el)) := by
  refine wpList_plain hgd fun K hK => ?_
  obtain ⟨v', w', hr, a1, a2⟩ := run_psh T (w.alloc (.cells us.toArray el)) o.type v n xs (World.ownsRow.alloc hown _) ⟨w.heap.size, 0, none⟩ 1 1 us (by omega) (World.news_of_block (cs := us.toArray) (t := el) (fr := (0, 0)) (heap_alloc_new w _)) hu (by omega) (by omega)
  unfold Oper.wp
  simp [execOp, ho, resolve, invoke, builtin, hs, hx, hr, Result.andThen]
  exact hK _ _ (h v' w' a1 (psh_trans (fun r => World.grownBy_alloc w _ r) a2))
/-- append(l, m...) in a region that draws. -/
theorem step_more {K : Act → World → Prop} {E : Prop} (T : Ty sl el ti z sz bs) (hgd : o.guard = none) (s x : Operand)
    (ho : o.op = .call { callee := .builtin .append, args := #[s, x], argTypes := #[sl, sl] }) (v : Value) (n : Nat) (xs : List Value) (hs : a.eval s = v) (hown : w.ownsRow 0 el sz v n xs) (ad : Addr) (m c : Nat) (news : List Value) (hx : a.eval x = .slice (some ad) m c) (hl : news.length = m * sz) (hnews : ∀ j u, news[j]? = some u → w.cell? (ad.add j) = some u) (h1 : ∀ u ∈ news, u.oneCell' = true) (hm : 0 < m) (hn : n + m ≤ 1000000000)
    (h : ∀ g c w', w'.ownsRow 0 el sz (.slice (some ⟨g, 0, none⟩) (n + m) c) (n + m) (xs ++ news) → Psh w w' v n m (.slice (some ⟨g, 0, none⟩) (n + m) c) → K (a.put o.dst (.slice (some ⟨g, 0, none⟩) (n + m) c)) w') :
    if Region.wanted o (yielded ops a.tmps) = true then Oper.wp Try.prog o a w K Q else E := by
  have hw : Region.wanted o (yielded ops a.tmps) = true := by simp [Region.wanted, hgd]
  rw [if_pos hw]
  obtain ⟨v', w', hr, a1, a2⟩ := run_psh T w o.type v n xs hown ad m c news hl hnews h1 hm hn
  obtain ⟨g', c', rfl, _, _⟩ := a1.form (by omega)
  unfold Oper.wp
  simp [execOp, ho, resolve, invoke, builtin, hs, hx, hr, Result.andThen]
  exact h g' c' w' a1 a2
/-- append([]T{}, l...) in a region that draws: a copy of its own. -/
theorem step_copy {K : Act → World → Prop} {D : Prop} {xs : List Value} {n : Nat} {v : Value} {g0 : Nat} (T : Ty sl el ti z sz bs) (hgd : o.guard = none) (s x : Operand)
    (ho : o.op = .call { callee := .builtin .append, args := #[s, x], argTypes := #[sl, sl] }) (hs : a.eval s = .slice (some ⟨g0, 0, none⟩) 0 0) (B : Nat) (hown0 : w.ownsRow B el sz (.slice (some ⟨g0, 0, none⟩) 0 0) 0 []) (hrow : w.ownsRow 0 el sz v n xs) (h1c : ∀ u ∈ xs, u.oneCell' = true) (hx : a.eval x = v) (hl : n ≤ 1000000) (hB : B ≤ w.heap.size)
    (h : ∀ g c w', w'.ownsRow B el sz (.slice (some ⟨g, 0, none⟩) n c) n xs → w.grownBy w' (some g0) → (g0 = g ∨ g = w.heap.size) → K (a.put o.dst (.slice (some ⟨g, 0, none⟩) n c)) w') :
    if Region.wanted o (yielded ops a.tmps) = true then Oper.wp Try.prog o a w K Q else D := by
  by_cases h0 : n = 0
  · subst h0
    have hxs : xs = [] := List.length_eq_zero_iff.1 (by rw [hrow.1]; omega)
    subst hxs
    have hw : Region.wanted o (yielded ops a.tmps) = true := by simp [Region.wanted, hgd]
    rw [if_pos hw]
    obtain ⟨ao, cp, hdv, _⟩ := row_shape hrow
    have hrun := run_psh0 T w o.type B _ 0 [] hown0 v ⟨ao, cp, hdv⟩
    unfold Oper.wp
    simp [execOp, ho, resolve, invoke, builtin, hs, hx, hrun, Result.andThen]
    exact h g0 0 _ hown0 (gb_refl _ _) (.inl rfl)
  · obtain ⟨ao, cp, hdv, _, _, _, hpos⟩ := row_shape hrow
    obtain ⟨g, rfl⟩ := hpos (by omega)
    subst hdv
    refine step_append_lies _ hgd s x sl ho B el ti _ sz bs T.u T.i T.z T.s T.b T.zs T.pos (.slice (some ⟨g0, 0, none⟩) 0 0) 0 [] hs hown0 ⟨g, 0, none⟩ n cp xs hx hrow.1 (fun j u hj => ?_) h1c (by omega) (by unfold maxLen; omega) (mul_bd (by omega) T.le) hB w.heap.size rfl ?_
    · rw [Addr.add_mid, Nat.zero_add]; exact row_cell hrow j u hj
    · intro g2 cap2 w' h1 h2 h3 _
      have h4 := h g2 cap2 w' (by simpa using h1) (by simpa [Value.ownBlock] using h2) (h3.imp (fun e => by simpa [Value.ownBlock] using e) id)
      simpa using h4
end
end Go.Proofs.Ytoaaaeefcipdcaa

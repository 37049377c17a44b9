/-
  Rows that are laid out of rows that came in; sameFlags.
-/
import Derived.Test.YtonbkpfnpnlkpaaDoorZl
import Derived.Test.YtonbkpfnpnlkpaaDoorW
import Derived.Test.YtonbkpfnpnlkpaaDoorY1
namespace Go.Proofs.YtonbkpfnpnlkpaaDoor
open Go.RowKit
set_option linter.unusedVariables false
set_option linter.unusedSimpArgs false
attribute [local go_sem] Oper.semAt_some

section
variable {w : World} {ops : Array Oper} {rest : List Oper} {o : Oper} {a : Act} {Q : Exit → Act → World → Prop}
/-- append of whatever lies at a place. -/
theorem more_any (t e : TypeId) (size bytes : Nat) (z : Value) (hund : Tryd.prog.underlying t = some (.slice e)) (hinfo : (Tryd.prog.info? e).map (fun i => (i.zero, i.size, i.bytes)) = some (some z, size, bytes)) (hzs : z.cells.size = size) (hsz : 0 < size)
    (hgd : o.guard = none) (s x : Operand) (ho : o.op = .call { callee := .builtin .append, args := #[s, x], argTypes := #[t, t] })
    (B : Nat) (v : Value) (n : Nat) (xs : List Value) (hs : a.eval s = v) (hown : w.ownsRow B e size v n xs) (ao : Option Addr) (m c : Nat) (news : List Value) (hx : a.eval x = .slice ao m c) (hl : news.length = m * size)
    (hnews : ∀ (j : Nat) (u : Value), news[j]? = some u → ∃ g o, ao = some ⟨g, o, none⟩ ∧ w.cell? ⟨g, o + j, none⟩ = some u) (h1 : ∀ u ∈ news, u.oneCell' = true) (hmx : n + m ≤ maxLen) (hb : (n + m) * bytes ≤ 140737488355328) (hB : B ≤ w.heap.size)
    (h : ∀ v' w', w'.ownsRow B e size v' (n + m) (xs ++ news) → w.grownBy w' v.ownBlock → wpList Tryd.prog ops Q rest (a.put o.dst v') w') : wpList Tryd.prog ops Q (o :: rest) a w := by
  obtain ⟨i0, hi, hz0, hz1, hz2⟩ := info_parts hinfo
  cases ao with
  | none =>
    have hnil : news = [] := by
      cases news with
      | nil => rfl
      | cons u l => obtain ⟨g, o, e, _⟩ := hnews 0 u rfl; cases e
    subst hnil
    have hm : m = 0 := by
      rcases Nat.mul_eq_zero.1 (by simpa using hl.symm : m * size = 0) with h | h <;> omega
    subst hm
    have hrun : (Builtin.append_ #[t, t] o.type #[v, .slice none 0 c]).run Tryd.prog w = .ok v w := by
      rcases hown.2 with ⟨rfl, rfl⟩ | ⟨g, cap, cur, rfl, _, _, hnc, _⟩
      · simp [Builtin.append_, run_underlying hund, sizeOf, typeInfo, hi, Builtin.lenOf, Builtin.firstCells]
      · simp [Builtin.append_, run_underlying hund, sizeOf, typeInfo, hi, Builtin.lenOf, Builtin.firstCells, hnc, storeCells]
    refine wpList_plain hgd fun K hK => ?_
    unfold Oper.wp
    simp [execOp, ho, resolve, invoke, builtin, hs, hx, hrun, Result.andThen]
    exact hK _ _ (h v w (by simpa using hown) (gb_refl _ _))
  | some ad =>
    refine wpList_append_own w hgd s x t ho B e i0 _ size bytes hund hi hz0 hz1 hz2 hzs hsz v n xs hs hown ad m c news hx hl ?_ h1 hmx hb hB ?_
    · intro j u hu
      obtain ⟨g, o, he, hc⟩ := hnews j u hu
      have he2 := Option.some.inj he
      subst he2
      have := Addr.add_mid g o j
      rw [this]
      exact hc
    · intro v' w' h2 h3 _
      exact h v' w' h2 h3
end
/-- A row's numbers at their places. -/
theorem Ints.news {w : World} {ao : Option Addr} {n c : Nat} {l : List Int} (h : Ints w (.slice ao n c) l) : n = l.length ∧ ∀ (j : Nat) (u : Value), (hvals l)[j]? = some u → ∃ g o, ao = some ⟨g, o, none⟩ ∧ w.cell? ⟨g, o + j, none⟩ = some u := by
  obtain ⟨a, c', e, hlc, hc, hx⟩ := h
  injection e with e1 e2 e3
  subst e1 e2 e3
  refine ⟨rfl, fun j u hu => ?_⟩
  unfold hvals at hu
  rw [List.getElem?_map, Option.map_eq_some_iff] at hu
  obtain ⟨z, hz, rfl⟩ := hu
  exact hx j z hz
theorem hvals_len (l : List Int) : (hvals l).length = l.length := by unfold hvals; simp
theorem hvals_one (l : List Int) : ∀ u ∈ hvals l, u.oneCell' = true := fun u hu => by
  unfold hvals at hu
  rw [List.mem_map] at hu
  obtain ⟨z, _, rfl⟩ := hu
  rfl
theorem hvals_app (l m : List Int) : hvals l ++ hvals m = hvals (l ++ m) := by unfold hvals; rw [List.map_append]
/-- A beginning of a row of the call's own. -/
theorem Ints.own {w : World} {B g n c : Nat} {l : List Int} (h : w.ownsRow B 3 1 (.slice (some ⟨g, 0, none⟩) n c) n (hvals l)) (m : Nat) (hm : m ≤ l.length) : Ints w (.slice (some ⟨g, 0, none⟩) m c) (l.take m) := by
  obtain ⟨ao, c', e, _, hnc, hcm, _⟩ := row_shape h
  injection e with e1 e2 e3
  subst e3
  have hn : l.length = n := by have := h.1; rw [hvals_len] at this; omega
  refine ⟨_, c, by rw [List.length_take, Nat.min_eq_left hm], by rw [List.length_take]; omega, hcm, fun i x hi => ⟨g, 0, rfl, ?_⟩⟩
  rw [List.getElem?_take] at hi
  split at hi
  · rw [Nat.zero_add]
    exact row_cell h i _ (by unfold hvals; rw [List.getElem?_map, hi]; rfl)
  · cases hi
/-- Flags as cells. -/
def flC (f : Fl) : List Value := [.int .u8 f.letter.toNat, sv f.arg, .bool f.has]
def flcs (l : List Fl) : List Value := l.flatMap flC
theorem flcs_len : ∀ l : List Fl, (flcs l).length = l.length * 3
  | [] => rfl
  | f :: l => by have := flcs_len l; simp only [flcs, List.flatMap_cons, List.length_append, List.length_cons] at this ⊢; simp only [flC, List.length_cons, List.length_nil]; omega
theorem flcs_app (l m : List Fl) : flcs l ++ flcs m = flcs (l ++ m) := by unfold flcs; rw [List.flatMap_append]
theorem flcs_get : ∀ {l : List Fl} {i : Nat} {f : Fl} (j : Nat), l[i]? = some f → j < 3 → (flcs l)[i * 3 + j]? = (flC f)[j]?
  | [], _, _, _, h, _ => by cases h
  | x :: l, 0, f, j, h, hj => by
    simp at h; subst h
    simp only [flcs, List.flatMap_cons]
    rw [List.getElem?_append_left (by simp [flC]; omega)]
    simp
  | x :: l, i + 1, f, j, h, hj => by
    have h2 : l[i]? = some f := by simpa using h
    simp only [flcs, List.flatMap_cons]
    rw [List.getElem?_append_right (by simp [flC]; omega)]
    have := flcs_get (l := l) j h2 hj
    simp only [flcs] at this
    rw [← this]
    congr 1
    simp [flC]; omega
theorem flcs_one (l : List Fl) : ∀ u ∈ flcs l, u.oneCell' = true := fun u hu => by
  unfold flcs at hu
  rw [List.mem_flatMap] at hu
  obtain ⟨f, _, hu⟩ := hu
  simp [flC] at hu
  rcases hu with rfl | rfl | rfl <;> rfl
theorem flcs_at {l : List Fl} {j : Nat} {u : Value} (h : (flcs l)[j]? = some u) : ∃ f, l[j / 3]? = some f ∧ (flC f)[j % 3]? = some u := by
  have hj : j < l.length * 3 := by have := (List.getElem?_eq_some_iff.1 h).1; rw [flcs_len] at this; exact this
  obtain ⟨f, hf⟩ : ∃ f, l[j / 3]? = some f := ⟨_, List.getElem?_eq_getElem (by omega)⟩
  refine ⟨f, hf, ?_⟩
  rw [← flcs_get (j % 3) hf (by omega), ← h]
  congr 1
  omega
theorem Flgs.news {w : World} {ao : Option Addr} {n c : Nat} {l : List Fl} (h : Flgs w (.slice ao n c) l) : n = l.length ∧ ∀ (j : Nat) (u : Value), (flcs l)[j]? = some u → ∃ g o, ao = some ⟨g, o, none⟩ ∧ w.cell? ⟨g, o + j, none⟩ = some u := by
  obtain ⟨a, c', e, hlc, hc, _, hx⟩ := h
  injection e with e1 e2 e3
  subst e1 e2 e3
  refine ⟨rfl, fun j u hu => ?_⟩
  obtain ⟨f, hf, hc⟩ := flcs_at hu
  obtain ⟨g, o, rfl, c0, c1, c2⟩ := hx _ f hf
  refine ⟨g, o, rfl, ?_⟩
  have hj : o + j = o + j / 3 * 3 + j % 3 := by omega
  rw [hj]
  rcases (by omega : j % 3 = 0 ∨ j % 3 = 1 ∨ j % 3 = 2) with e | e | e
  · rw [e] at hc ⊢; rw [Nat.add_zero, c0]; exact hc
  · rw [e] at hc ⊢; rw [c1]; exact hc
  · rw [e] at hc ⊢; rw [c2]; exact hc
/-- A beginning of a row of flags of the call's own. -/
theorem Flgs.own {w : World} {B g n c : Nat} {l : List Fl} (h : w.ownsRow B 75 3 (.slice (some ⟨g, 0, none⟩) n c) n (flcs l)) (m : Nat) (hm : m ≤ l.length) (ha : ∀ f ∈ l, f.arg.length ≤ 4611686018427387904) : Flgs w (.slice (some ⟨g, 0, none⟩) m c) (l.take m) := by
  obtain ⟨ao, c', e, _, hnc, hcm, _⟩ := row_shape h
  injection e with e1 e2 e3
  subst e3
  have hn : l.length = n := by have := h.1; rw [flcs_len] at this; omega
  refine ⟨_, c, by rw [List.length_take, Nat.min_eq_left hm], by rw [List.length_take]; omega, hcm, fun f hf => ha f (List.mem_of_mem_take hf), fun i f hi => ⟨g, 0, rfl, ?_⟩⟩
  rw [List.getElem?_take] at hi
  split at hi
  · rw [Nat.zero_add]
    have c0 := row_cell h (i * 3 + 0) _ (flcs_get 0 hi (by omega))
    have c1 := row_cell h (i * 3 + 1) _ (flcs_get 1 hi (by omega))
    have c2 := row_cell h (i * 3 + 2) _ (flcs_get 2 hi (by omega))
    exact ⟨c0, c1, c2⟩
  · cases hi
def f33 : Fl := ⟨33, [], false⟩
def f63 : Fl := ⟨63, [], false⟩
set_option maxRecDepth 100000 in
set_option maxHeartbeats 8000000 in
theorem same_29 {w : World} {lv ov : Value} {l : List Fl} (hl : Flgs w lv (l ++ [f33, f63])) (ho : Flgs w ov l) (hn : l.length ≤ 1000) :
    Calls Tryd.prog 29 #[lv, ov] w fun y w' => y = .returned (.bool true) ∧ w.grownBy w' none := by
  obtain ⟨ao, c, rfl, hlc, hc, _, hx⟩ := hl
  obtain ⟨bo, d, rfl, hld, hd, _, hy⟩ := ho
  obtain ⟨g, o, rfl, m0, _⟩ := hx l.length f33 (by simp)
  obtain ⟨_, _, e, m1, _⟩ := hx (l.length + 1) f63 (by simp)
  injection e with e
  injection e with e1 e2
  subst e1 e2
  have m0 : w.cell? ⟨g, o + l.length * 3, none⟩ = some (.int .u8 33) := m0
  have m1 : w.cell? ⟨g, o + (l.length + 1) * 3, none⟩ = some (.int .u8 63) := m1
  rw [show (l ++ [f33, f63]).length = l.length + 2 by simp] at hlc ⊢
  obtain ⟨n, hn0⟩ : ∃ n, n = l.length := ⟨_, rfl⟩
  rw [← hn0] at m0 m1 hlc hld hn ⊢
  have hxx : ∀ i f, l[i]? = some f → w.cell? ⟨g, o + i * 3, none⟩ = some (.int .u8 f.letter.toNat) ∧ w.cell? ⟨g, o + i * 3 + 1, none⟩ = some (sv f.arg) ∧ w.cell? ⟨g, o + i * 3 + 2, none⟩ = some (.bool f.has) := fun i f hi => by
    obtain ⟨g', o', e, h⟩ := hx i f (by rw [List.getElem?_append_left (List.getElem?_eq_some_iff.1 hi).1]; exact hi)
    injection e with e
    injection e with e1 e2
    subst e1 e2
    exact h
  have hnl : n ≤ l.length := by omega
  clear hx hn0
  go_enter Tryd.func29, Tryd.ntmps29
  go_wp2
  go_loopw [5] (fun v wr => ∃ i : Nat, i ≤ n ∧ v = .int .i64 i ∧ w.grownBy wr none) (fun v _ => n - (intOf v).toNat)
  case atStart => exact ⟨0, by omega, rfl, gb_refl _ _⟩
  case round =>
    obtain ⟨i, hi, rfl, hg⟩ := hrel
    by_cases hlt : i < n
    · obtain ⟨f, hf⟩ : ∃ f, l[i]? = some f := ⟨_, List.getElem?_eq_getElem (by omega)⟩
      obtain ⟨a0, a1, a2⟩ := hxx i f hf
      obtain ⟨g2, o2, rfl, b0, b1, b2⟩ := hy i f hf
      replace a0 := gb_cellN hg a0
      replace a1 := gb_cellN hg a1
      replace a2 := gb_cellN hg a2
      replace b0 := gb_cellN hg b0
      replace b1 := gb_cellN hg b1
      replace b2 := gb_cellN hg b2
      have d1 : (i : Int) < n := by omega
      have d2 : (i : Int) < (n : Int) + 2 := by omega
      clear hxx hy m0 m1 hnl
      generalize f.letter.toNat = x1 at *
      generalize f.arg = x2 at *
      generalize f.has = x3 at *
      go_wp2_with fail
      go_region
      go_wp2
      exact ⟨⟨i + 1, by omega, by simp, gb_drew hg⟩, by simp only [intOf]; omega⟩
    · obtain rfl : i = n := by omega
      replace m0 := gb_cellN hg m0
      replace m1 := gb_cellN hg m1
      clear hxx hy hnl
      have q1 : IntKind.i64.wrap ((i : Int) + 2) = (i : Int) + 2 := by rw [IntKind.wrap_i64]; omega
      have q2 : IntKind.i64.wrap ((i : Int) + 1) = (i : Int) + 1 := by rw [IntKind.wrap_i64]; omega
      have d1 : (i : Int) < (i : Int) + 2 := by omega
      have d2 : (i : Int) + 1 < (i : Int) + 2 := by omega
      go_wp2
      go_ret
      exact ⟨rfl, hg⟩

end Go.Proofs.YtonbkpfnpnlkpaaDoor

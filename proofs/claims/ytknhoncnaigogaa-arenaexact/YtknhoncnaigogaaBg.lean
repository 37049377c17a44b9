/-
  Held.Own: words for its state.
-/
import Derived.Test.YtknhoncnaigogaaBf
namespace Go.Proofs.Ytknhoncnaigogaa
open Go.RowKit
set_option linter.unusedVariables false

/-- The list v bears the mark of j, in a block below B. -/
def Mk (B : Nat) (w : World) (v : Value) (j : Nat) : Prop := ∃ f m c, v = .slice f m c ∧ m ≤ 100000000000 ∧ Has w f m (ownTo j m) ∧ ∀ k, blk f = some k → k < B ∧ ∃ cur z, w.heap[k]? = some (.cells cur 5 z)
/-- A block that may be written. -/
def Soft (B0 B : Nat) (w : World) (row : Option Nat) : Prop := ∀ k, row = some k → B0 ≤ k ∧ ∃ cur t z, w.heap[k]? = some (.cells cur t z) ∧ (t = 29 ∨ t = 5 ∧ B ≤ k)
theorem Soft.none (B0 B : Nat) (w : World) : Soft B0 B w none := by intro k h; cases h

theorem lt_of_block {w : World} {k : Nat} {o : Obj} (h : w.heap[k]? = some o) : k < w.heap.size := (Array.getElem?_eq_some_iff.1 h).1

theorem Mk.kept {B0 B : Nat} {w w' : World} {v : Value} {j : Nat} {row : Option Nat} (h : Mk B w v j) (hf : w.grownBy w' row) (hs : Soft B0 B w row) : Mk B w' v j := by
  obtain ⟨f, m, c, rfl, hm, hH, hb⟩ := h
  have hne : ∀ k, blk f = some k → some k ≠ row := by
    intro k hk e
    obtain ⟨h1, cur, z, h2⟩ := hb k hk
    obtain ⟨_, cur', t, z', h3, h4⟩ := hs k e.symm
    rcases h4 with rfl | ⟨rfl, h5⟩
    · exact ne_of_type h2 h3 (by decide) rfl
    · omega
  refine ⟨f, m, c, rfl, hm, hH.kept hf hne, fun k hk => ?_⟩
  obtain ⟨h1, cur, z, h2⟩ := hb k hk
  exact ⟨h1, cur, z, by rw [hf.block k (lt_of_block h2) (hne k hk)]; exact h2⟩
theorem Mk.up {B B' : Nat} {w : World} {v : Value} {j : Nat} (h : Mk B w v j) (hB : w.heap.size ≤ B') : Mk B' w v j := by
  obtain ⟨f, m, c, rfl, hm, hH, hb⟩ := h
  refine ⟨f, m, c, rfl, hm, hH, fun k hk => ?_⟩
  obtain ⟨h1, cur, z, h2⟩ := hb k hk
  exact ⟨Nat.lt_of_lt_of_le (lt_of_block h2) hB, cur, z, h2⟩
theorem Mk.own {B B' : Nat} {w : World} {ao : Option Addr} {cap n j : Nat} (h : Own B w ao cap (ownTo j n)) (hn : n ≤ 100000000000) (hB : w.heap.size ≤ B') : Mk B' w (.slice ao n cap) j := by
  have hH := h.has
  rw [length_ownTo] at hH
  refine ⟨ao, n, cap, rfl, hn, hH, fun k hk => ⟨Nat.lt_of_lt_of_le (h.lt k hk).2 hB, ?_⟩⟩
  obtain ⟨cur, hc⟩ := row_block h k (by rw [ownBlock_blk]; exact hk)
  exact ⟨cur, _, hc⟩

/-- The bytes of a told list, marked, its room used up. -/
def Gm (w : World) (t : Got) (j : Nat) : Prop := w.ownsRow 0 5 1 t.val t.xs.length ((ownTo j t.xs.length).map (Value.int .u8))
theorem Gm.mk {w : World} {t : Got} {j : Nat} (h : Gm w t j) (h1 : t.xs.length ≤ 1000000000) : Mk w.heap.size w t.val j := by
  have : Own 0 w t.adr t.xs.length (ownTo j t.xs.length) := by
    unfold Own; rw [length_ownTo]; exact h
  exact Mk.own this (by omega) (Nat.le_refl _)
theorem take_of_get {cur : Array Value} {f : Nat → Value} {n : Nat} (hs : cur.size = n) (h : ∀ k, k < n → cur[k]? = some (f k)) : cur.toList.take (n * 1) = (List.range n).map f := by
  apply List.ext_getElem?
  intro k
  by_cases hk : k < n
  · have := h k hk
    simp [hk] at this ⊢
    exact this
  · simp [hk, hs]
theorem Fill.gm {w : World} {L : List Got} (h : Fill w L fun _ _ => True) (hd : ∀ (i : Nat) t, L[i]? = some t → t.xs.length ≤ 1000000000 ∧ (t.a = none → t.xs = [])) (j : Nat) (t : Got) (ht : L[j]? = some t) : Gm w t j := by
  obtain ⟨h1, h2⟩ := hd j t ht
  obtain ⟨a, xs⟩ := t
  refine ⟨by simp [length_ownTo], ?_⟩
  cases a with
  | none => simp at h2; subst h2; exact .inl ⟨rfl, rfl⟩
  | some g =>
    obtain ⟨cur, h3, h4, h5⟩ := h j _ g ht rfl
    refine .inr ⟨g, xs.length, cur, rfl, Nat.zero_le _, h3, Nat.le_refl _, by unfold maxLen; simp at h1; omega, by simpa using h4, ?_⟩
    rw [take_of_get h4 (fun k hk => h5 k hk trivial)]
    simp [ownTo]

/-- What stays while the lists are lengthened. -/
structure Bs (w0 : World) (F : Nat → Prop) (hb : Nat) (bx : Array Value) (gv : Value) (L : List Got) (B0 B : Nat) (w : World) : Prop where
  kp : Kp F w0 w
  box : Box w 75 hb bx
  row : w.ownsRow 0 29 1 gv L.length (L.map Got.val)
  got : ∀ (j : Nat) t, L[j]? = some t → Gm w t j ∧ t.xs.length ≤ 1000000000 ∧ ∀ k, t.val.ownBlock = some k → k < B0
  lo : w0.heap.size ≤ B0
  hbl : hb < B0
  gvl : ∀ k, gv.ownBlock = some k → k < B0
  le0 : B0 ≤ B
  le : B ≤ w.heap.size

theorem Bs.kept {w0 w w' : World} {F : Nat → Prop} {hb : Nat} {bx : Array Value} {gv : Value} {L : List Got} {B0 B : Nat} (h : Bs w0 F hb bx gv L B0 B w) {row : Option Nat} (hf : w.grownBy w' row) (hs : Soft B0 B w row) : Bs w0 F hb bx gv L B0 B w' := by
  refine ⟨h.kp.step hf (fun i hi => .inr ?_), h.box.kept hf ?_, World.ownsRow.kept h.row hf ?_, fun j t ht => ?_, h.lo, h.hbl, h.gvl, h.le0, Nat.le_trans h.le hf.size⟩
  · have := (hs i hi).1; have := h.lo; omega
  · intro e; have := (hs hb e.symm).1; have := h.hbl; omega
  · rcases e : gv.ownBlock with _ | k
    · exact .inl rfl
    · refine .inr fun e2 => ?_
      have := (hs k e2.symm).1; have := h.gvl k e; omega
  · obtain ⟨h1, h2, h3⟩ := h.got j t ht
    refine ⟨World.ownsRow.kept h1 hf ?_, h2, h3⟩
    rcases e : t.val.ownBlock with _ | k
    · exact .inl rfl
    · refine .inr fun e2 => ?_
      have := (hs k e2.symm).1; have := h3 k e; omega
theorem Bs.up {w0 w : World} {F : Nat → Prop} {hb : Nat} {bx : Array Value} {gv : Value} {L : List Got} {B0 B : Nat} (h : Bs w0 F hb bx gv L B0 B w) : Bs w0 F hb bx gv L B0 w.heap.size w :=
  ⟨h.kp, h.box, h.row, h.got, h.lo, h.hbl, h.gvl, Nat.le_trans h.le0 h.le, Nat.le_refl _⟩

/-- A row of marked lists. -/
structure Rm (B0 B i : Nat) (w : World) (v : Value) (vs : List Value) (n : Nat) : Prop where
  row : w.ownsRow B0 29 1 v n vs
  mks : ∀ (j : Nat) u, j < i → vs[j]? = some u → Mk B w u j
theorem Rm.kept {B0 B i : Nat} {w w' : World} {v : Value} {vs : List Value} {n : Nat} (h : Rm B0 B i w v vs n) {row : Option Nat} (hf : w.grownBy w' row) (hs : Soft B0 B w row) (hne : ∀ k, v.ownBlock = some k → row ≠ some k) : Rm B0 B i w' v vs n := by
  refine ⟨World.ownsRow.kept h.row hf ?_, fun j u hj hu => (h.mks j u hj hu).kept hf hs⟩
  rcases e : v.ownBlock with _ | k
  · exact .inl rfl
  · exact .inr fun e2 => hne k e e2.symm
theorem Rm.up {B0 B i : Nat} {w : World} {v : Value} {vs : List Value} {n : Nat} (h : Rm B0 B i w v vs n) : Rm B0 w.heap.size i w v vs n := ⟨h.row, fun j u hj hu => (h.mks j u hj hu).up (Nat.le_refl _)⟩

/-- What an append of one to such a row may write. -/
theorem Pushed.frame {B0 B : Nat} {w w' : World} {v v' : Value} {n : Nat} {xs : List Value} (h : Pushed w w' v n v') (hr : w.ownsRow B0 29 1 v n xs) : ∃ row, w.grownBy w' row ∧ Soft B0 B w row ∧ (∀ k, row = some k → v.ownBlock = some k) ∧ (∀ k, v'.ownBlock = some k → v.ownBlock = some k ∨ w.heap.size ≤ k) := by
  rcases h with ⟨g, cap, rfl, h2, rfl, h4⟩ | ⟨g, cap, rfl, h2, h3⟩
  · refine ⟨some g, h4, fun k hk => ?_, fun k hk => ?_, fun k hk => .inl hk⟩
    · cases hk
      obtain ⟨cur, hc⟩ := row_block hr g rfl
      exact ⟨(hr.lt g rfl).1, cur, 29, _, hc, .inl rfl⟩
    · cases hk; rfl
  · exact ⟨none, h3, Soft.none _ _ _, by simp, fun k hk => .inr (by simp [Value.ownBlock] at hk; omega)⟩

theorem row_at {w : World} {B B' : Nat} {e : TypeId} {g n c : Nat} {xs : List Value} (h : w.ownsRow B' e 1 (.slice (some ⟨g, 0, none⟩) n c) n xs) (hB : B ≤ g) : w.ownsRow B e 1 (.slice (some ⟨g, 0, none⟩) n c) n xs := by
  refine ⟨h.1, ?_⟩
  rcases h.2 with ⟨h1, _⟩ | ⟨g', c', cur, h1, h2, h3⟩
  · simp at h1
  · simp at h1
    obtain ⟨rfl, rfl⟩ := h1
    exact .inr ⟨g, c, cur, rfl, hB, h3⟩
theorem own_int (i : Nat) (x : Int) (k : Nat) (hx : x = k) (hi : i < 1000) (hk : k ≤ 1000000000000) (w : World) : Calls Try.prog 50 #[.int .i64 i, .int .i64 x] w fun e w' => e = .returned (.int .u8 (ownB i k)) ∧ w' = w := by
  subst hx
  exact own_any i k hi hk w
section
variable {w : World} {ops : Array Oper} {rest : List Oper} {o : Oper} {a : Act} {Q : Exit → Act → World → Prop}
theorem push5 (hgd : o.guard = none) (s x : Operand) (ho : o.op = .call { callee := .builtin .append, args := #[s, x], argTypes := #[29, 29] })
    (B : Nat) (v : Value) (n : Nat) (xs : List Value) (hs : a.eval s = v) (hown : w.ownsRow B 5 1 v n xs) (z : Int) (hx : a.eval x = .slice (some ⟨w.heap.size, 0, none⟩) 1 1) (hn : n ≤ 100000000000) (hB : B ≤ w.heap.size)
    (h : ∀ v' w', w'.ownsRow B 5 1 v' (n + 1) (xs ++ [.int .u8 z]) → Pushed w w' v n v' → wpList Try.prog ops Q rest (a.put o.dst v') w') : wpList Try.prog ops Q (o :: rest) a (w.alloc (.cells #[.int .u8 z] 5)) := by
  obtain ⟨i0, hi, hz0, hz1, hz2⟩ := info_parts Try.info5
  exact wpList_push1 hgd s x 29 ho 5 i0 _ 1 Try.underlying29 hi hz0 hz1 hz2 rfl (by omega) B v n xs hs hown _ rfl hx hn hB h
theorem push29 (hgd : o.guard = none) (s x : Operand) (ho : o.op = .call { callee := .builtin .append, args := #[s, x], argTypes := #[73, 73] })
    (B : Nat) (v : Value) (n : Nat) (xs : List Value) (hs : a.eval s = v) (hown : w.ownsRow B 29 1 v n xs) (f : Option Addr) (m c : Nat) (hx : a.eval x = .slice (some ⟨w.heap.size, 0, none⟩) 1 1) (hn : n ≤ 100000000000) (hB : B ≤ w.heap.size)
    (h : ∀ v' w', w'.ownsRow B 29 1 v' (n + 1) (xs ++ [.slice f m c]) → Pushed w w' v n v' → wpList Try.prog ops Q rest (a.put o.dst v') w') : wpList Try.prog ops Q (o :: rest) a (w.alloc (.cells #[.slice f m c] 29)) := by
  obtain ⟨i0, hi, hz0, hz1, hz2⟩ := info_parts Try.info29
  exact wpList_push1 hgd s x 73 ho 29 i0 _ 24 Try.underlying73 hi hz0 hz1 hz2 rfl (by omega) B v n xs hs hown _ rfl hx hn hB h
end
/-- The list that append lengthens, and the one that it had made first. -/
structure Two (B i len k : Nat) (w : World) (l fst : Value) : Prop where
  row : w.ownsRow B 5 1 l (len + k) ((ownTo i (len + k)).map (Value.int .u8))
  fst : ∃ g c, fst = .slice (some ⟨g, 0, none⟩) (len + 1) c ∧ Has w (some ⟨g, 0, none⟩) (len + 1) (ownTo i (len + 1)) ∧ ∃ cur z, w.heap[g]? = some (.cells cur 5 z)
theorem Two.kept {B i len k : Nat} {w w' : World} {l fst : Value} (h : Two B i len k w l fst) {row : Option Nat} (hf : w.grownBy w' row) (h29 : ∀ k, row = some k → ∃ cur z, w.heap[k]? = some (.cells cur 29 z)) : Two B i len k w' l fst := by
  have hne : ∀ g cur z, w.heap[g]? = some (.cells cur 5 z) → some g ≠ row := by
    intro g cur z h1 e
    obtain ⟨cur2, z2, h2⟩ := h29 g e.symm
    exact ne_of_type h1 h2 (by decide) rfl
  refine ⟨World.ownsRow.kept h.row hf ?_, ?_⟩
  · rcases e : l.ownBlock with _ | g
    · exact .inl rfl
    · obtain ⟨cur, hc⟩ := row_block h.row g e
      exact .inr (hne g cur _ hc)
  · obtain ⟨g, c, rfl, h1, cur, z, h2⟩ := h.fst
    exact ⟨g, c, rfl, h1.kept hf (fun k hk => by cases hk; exact hne g cur z h2), cur, z, by rw [hf.block g (lt_of_block h2) (hne g cur z h2)]; exact h2⟩
/-- One byte more. -/
theorem Two.more {B0 B i len k : Nat} {w w' : World} {l l' fst : Value} (h : Two B i len k w l fst) (hk : 0 < k) (hr : w'.ownsRow B 5 1 l' (len + k + 1) ((ownTo i (len + k)).map (Value.int .u8) ++ [.int .u8 (ownB i (len + k))])) (hp : Pushed w w' l (len + k) l') (hB : B0 ≤ B) :
    Two B i len (k + 1) w' l' fst ∧ ∃ row, w.grownBy w' row ∧ Soft B0 B w row ∧ ∀ k, row = some k → ∃ cur z, w.heap[k]? = some (.cells cur 5 z) := by
  have hr' : w'.ownsRow B 5 1 l' (len + (k + 1)) ((ownTo i (len + (k + 1))).map (Value.int .u8)) := by
    rw [← Nat.add_assoc, ownTo_succ, List.map_append]; exact hr
  obtain ⟨g, c, rfl, h1, cur, z, h2⟩ := h.fst
  rcases hp with ⟨gl, cap, rfl, h3, rfl, h4⟩ | ⟨gl, cap, rfl, h3, h4⟩
  · obtain ⟨cl, hcl⟩ := row_block h.row gl rfl
    obtain ⟨cl', hcl'⟩ := row_block hr gl rfl
    refine ⟨⟨hr', ?_⟩, some gl, h4, fun k hk => ?_, fun k hk => ?_⟩
    · by_cases e : g = gl
      · subst e
        refine ⟨g, c, rfl, ⟨length_ownTo _ _, fun _ => ⟨g, 0, rfl, fun j hj => ?_⟩⟩, cl', _, hcl'⟩
        rw [Nat.zero_add, getD_ownTo _ _ _ hj]
        exact row_cell hr' j _ (by simp [ownTo, show j < len + (k + 1) by omega])
      · exact ⟨g, c, rfl, h1.kept h4 (fun k hk => by cases hk; simpa using e), cur, z, by rw [h4.block g (lt_of_block h2) (by simpa using e)]; exact h2⟩
    · cases hk
      exact ⟨Nat.le_trans hB (h.row.lt gl rfl).1, cl, 5, _, hcl, .inr ⟨rfl, (h.row.lt gl rfl).1⟩⟩
    · cases hk; exact ⟨cl, _, hcl⟩
  · exact ⟨⟨hr', g, c, rfl, h1.kept0 h4, cur, z, by rw [h4.block g (lt_of_block h2) (by simp)]; exact h2⟩, none, h4, Soft.none _ _ _, by simp⟩

end Go.Proofs.Ytknhoncnaigogaa

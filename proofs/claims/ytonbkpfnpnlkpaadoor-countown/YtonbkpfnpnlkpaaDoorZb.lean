/-
  A Book of lists of handles: one is taken in.
-/
import Derived.Test.YtonbkpfnpnlkpaaDoorZa
namespace Go.Proofs.YtonbkpfnpnlkpaaDoor
open Go.RowKit
set_option linter.unusedVariables false
set_option linter.unusedSimpArgs false

def vsL (V : Nat → Value) (K : Nat) : List Value := (List.range K).map V
theorem vsL_succ (V : Nat → Value) (K : Nat) : vsL V (K + 1) = vsL V K ++ [V K] := by unfold vsL; rw [List.range_succ, List.map_append]; rfl
theorem vsL_upd (V : Nat → Value) (K : Nat) (v : Value) : vsL (upd V K v) (K + 1) = vsL V K ++ [v] := by
  rw [vsL_succ, upd_same]
  congr 1
  unfold vsL
  apply List.map_congr_left
  intro i hi
  rw [List.mem_range] at hi
  exact upd_other _ _ (by omega)

/-- A Book in memory: K lists V with their copies W, each reads D; FB its blocks. -/
structure Bk (w : World) (bb : Nat) (FB : Nat → Prop) (hv wv : Value) (n : Int) (K : Nat) (V W : Nat → Value) (D : Nat → List Int) : Prop where
  box : Box w 72 bb (bkA hv wv nilS nilS n)
  hr : w.ownsRow 0 40 1 hv K (vsL V K)
  wr : w.ownsRow 0 40 1 wv K (vsL W K)
  hw : ∀ g, hv.ownBlock = some g → wv.ownBlock ≠ some g
  vs : ∀ i, i < K → w.ownsRow 0 3 1 (V i) (D i).length (hvals (D i))
  ws : ∀ i, i < K → w.ownsRow 0 3 1 (W i) (D i).length (hvals (D i))
  vv : ∀ i j g, i < K → j < K → i ≠ j → (V i).ownBlock = some g → (V j).ownBlock ≠ some g
  vw : ∀ i j g, i < K → j < K → (V i).ownBlock = some g → (W j).ownBlock ≠ some g
  dl : ∀ i, i < K → (D i).length ≤ 10003
  fb : FB bb
  fh : ∀ g, hv.ownBlock = some g → FB g
  fw : ∀ g, wv.ownBlock = some g → FB g
  fv : ∀ i g, i < K → (V i).ownBlock = some g → FB g
  fc : ∀ i g, i < K → (W i).ownBlock = some g → FB g
  fl : ∀ k, FB k → k < w.heap.size
  nb : 0 ≤ n ∧ n ≤ 210005
theorem Bk.same {w w' : World} {bb : Nat} {FB : Nat → Prop} {hv wv : Value} {n : Int} {K : Nat} {V W : Nat → Value} {D : Nat → List Int} (h : Bk w bb FB hv wv n K V W D) (hs : w.heap.size ≤ w'.heap.size) (hf : ∀ k, FB k → w'.heap[k]? = w.heap[k]?) : Bk w' bb FB hv wv n K V W D :=
  ⟨by unfold Box; rw [hf _ h.fb]; exact h.box, row_same h.hr (fun k hk => hf k (h.fh k hk)), row_same h.wr (fun k hk => hf k (h.fw k hk)), h.hw, fun i hi => row_same (h.vs i hi) (fun k hk => hf k (h.fv i k hi hk)), fun i hi => row_same (h.ws i hi) (fun k hk => hf k (h.fc i k hi hk)), h.vv, h.vw, h.dl, h.fb, h.fh, h.fw, h.fv, h.fc, fun k hk => Nat.lt_of_lt_of_le (h.fl k hk) hs, h.nb⟩
theorem Bk.kept0 {w w' : World} {bb : Nat} {FB : Nat → Prop} {hv wv : Value} {n : Int} {K : Nat} {V W : Nat → Value} {D : Nat → List Int} (h : Bk w bb FB hv wv n K V W D) (hf : w.grownBy w' none) : Bk w' bb FB hv wv n K V W D := h.same hf.size (fun k hk => hf.block k (h.fl k hk) (by simp))
theorem Bk.kept {w w' : World} {bb : Nat} {FB F : Nat → Prop} {hv wv : Value} {n : Int} {K : Nat} {V W : Nat → Value} {D : Nat → List Int} (h : Bk w bb FB hv wv n K V W D) (hf : Kp F w w') (hd : ∀ k, FB k → ¬ F k) : Bk w' bb FB hv wv n K V W D := h.same hf.size (fun k hk => hf.block k (h.fl k hk) (hd k hk))

theorem Tryd.info40 : (Tryd.prog.info? 40).map (fun i => (i.zero, i.size, i.bytes)) = some (some (.slice none 0 0), 1, 24) := by kernel_rfl
section
variable {w : World} {ops : Array Oper} {rest : List Oper} {o : Oper} {a : Act} {Q : Exit → Act → World → Prop}
theorem push40 (hgd : o.guard = none) (s x : Operand) (ho : o.op = .call { callee := .builtin .append, args := #[s, x], argTypes := #[65, 65] })
    (B : Nat) (v : Value) (n : Nat) (xs : List Value) (hs : a.eval s = v) (hown : w.ownsRow B 40 1 v n xs) (u : Option Addr) (un uc : Nat) (hx : a.eval x = .slice (some ⟨w.heap.size, 0, none⟩) 1 1) (hn : n ≤ 100000000000) (hB : B ≤ w.heap.size)
    (h : ∀ g cap w', w'.ownsRow B 40 1 (.slice (some ⟨g, 0, none⟩) (n + 1) cap) (n + 1) (xs ++ [.slice u un uc]) → w.grownBy w' v.ownBlock → (v.ownBlock = some g ∨ w.heap.size ≤ g) → wpList Tryd.prog ops Q rest (a.put o.dst (.slice (some ⟨g, 0, none⟩) (n + 1) cap)) w') : wpList Tryd.prog ops Q (o :: rest) a (w.alloc (.cells #[.slice u un uc] 40)) := by
  obtain ⟨i0, hi, hz0, hz1, hz2⟩ := info_parts Tryd.info40
  exact wpList_pushN hgd s x 65 ho 40 i0 _ 1 24 Tryd.underlying65 hi hz0 hz1 hz2 rfl (by omega) (by omega) B v n xs hs hown [.slice u un uc] rfl (by simp [Value.oneCell']) hx hn hB h
end

/-- append([]api.Handle{}, l...) in a region that draws: a copy of its own. -/
theorem step_copy3 {w : World} {ops : Array Oper} {o : Oper} {a : Act} {K : Act → World → Prop} {Q : Exit → Act → World → Prop} {D : Prop} {xs : List Int} {v : Value} {g0 : Nat} (hgd : o.guard = none) (s x : Operand)
    (ho : o.op = .call { callee := .builtin .append, args := #[s, x], argTypes := #[40, 40] }) (hs : a.eval s = .slice (some ⟨g0, 0, none⟩) 0 0) (B : Nat) (hown0 : w.ownsRow B 3 1 (.slice (some ⟨g0, 0, none⟩) 0 0) 0 []) (hrow : w.ownsRow 0 3 1 v xs.length (hvals xs)) (hx : a.eval x = v) (hl : xs.length ≤ 10003) (hB : B ≤ w.heap.size)
    (h : ∀ g c w', w'.ownsRow B 3 1 (.slice (some ⟨g, 0, none⟩) xs.length c) xs.length (hvals xs) → w.grownBy w' (some g0) → (g0 = g ∨ g = w.heap.size) → K (a.put o.dst (.slice (some ⟨g, 0, none⟩) xs.length c)) w') :
    if Region.wanted o (yielded ops a.tmps) = true then Oper.wp Tryd.prog o a w K Q else D := by
  obtain ⟨i0, hi, hz0, hz1, hz2⟩ := info_parts Tryd.info3
  by_cases h0 : xs = []
  · subst h0
    have hw : Region.wanted o (yielded ops a.tmps) = true := by simp [Region.wanted, hgd]
    rw [if_pos hw]
    have hrun : (Builtin.append_ #[40, 40] o.type #[.slice (some ⟨g0, 0, none⟩) 0 0, v]).run Tryd.prog w = .ok (.slice (some ⟨g0, 0, none⟩) 0 0) w := by
      rcases hrow.2 with ⟨rfl, _⟩ | ⟨g9, c9, cur9, rfl, _⟩
      · exact run_append_owned_none (P := Tryd.prog) (w := w) B 40 o.type 3 i0 1 Tryd.underlying40 hi _ _ _ hown0
      · have hfc := run_firstCells_some (P := Tryd.prog) w i0.size 0 ⟨g9, 0, none⟩ 0 c9 [] (by simp) (by simp)
        simp [Builtin.append_, run_underlying Tryd.underlying40, sizeOf, typeInfo, hi, Builtin.lenOf, hfc, storeCells]
    unfold Oper.wp
    simp [execOp, ho, resolve, invoke, builtin, hs, hx, hrun, Result.andThen]
    exact h g0 0 _ hown0 (gb_refl _ _) (.inl rfl)
  · obtain ⟨ao, cp, hdv, _, _, _, hpos⟩ := row_shape hrow
    have hl0 : 0 < xs.length := List.length_pos_iff.2 h0
    obtain ⟨g, rfl⟩ := hpos hl0
    subst hdv
    refine step_append_lies _ hgd s x 40 ho B 3 i0 _ 1 8 Tryd.underlying40 hi hz0 hz1 hz2 rfl (by omega) (.slice (some ⟨g0, 0, none⟩) 0 0) 0 [] hs hown0 ⟨g, 0, none⟩ xs.length cp (hvals xs) hx hrow.1 (fun j u hj => ?_) (fun u hu => ?_) hl0 (by unfold maxLen; omega) (by omega) hB w.heap.size rfl ?_
    · rw [Addr.add_mid, Nat.zero_add]; exact row_cell hrow j u hj
    · unfold hvals at hu
      rw [List.mem_map] at hu
      obtain ⟨z, _, rfl⟩ := hu
      rfl
    · intro g2 cap2 w' h1 h2 h3 _
      have h4 := h g2 cap2 w' (by simpa using h1) (by simpa [Value.ownBlock] using h2) (h3.imp (fun e => by simpa [Value.ownBlock] using e) id)
      simpa using h4

end Go.Proofs.YtonbkpfnpnlkpaaDoor

/-
  The document's wheel in memory: Take, Set.
-/
import Derived.Test.YtagcmfaljfaikaaQ
import Derived.Deep.RegionLaw
import Derived.Laws.AppendOwnNone
namespace Go.Proofs.Ytagcmfaljfaikaa
open Go.RowKit
set_option linter.unusedVariables false

def en0 : En := ⟨0, 0, 0⟩
def gt (l : List En) (i : Nat) : En := l.getD i en0
theorem take_gt {l : List En} {i : Nat} (hi : i < l.length) : l.take (i + 1) = l.take i ++ [gt l i] := by
  unfold gt
  rw [List.getD_eq_getElem?_getD, List.getElem?_eq_getElem hi, List.take_add_one, List.getElem?_eq_getElem hi]
  rfl
def entC (e : En) : List Value := [.int .u64 e.h, .int .i64 e.x]
def entL (l : List En) : List Value := rng l.length (fun i => entC (gt l i))
theorem entC_len (l : List En) (i : Nat) : (entC (gt l i)).length = 2 := rfl
theorem entL_nil : entL [] = [] := rfl
theorem getD_left {l : List En} {i : Nat} (h : i < l.length) (e : En) : gt (l ++ [e]) i = gt l i := by
  unfold gt
  rw [List.getD_eq_getElem?_getD, List.getD_eq_getElem?_getD, List.getElem?_append_left h]
theorem getD_end (l : List En) (e : En) : gt (l ++ [e]) l.length = e := by
  unfold gt
  rw [List.getD_eq_getElem?_getD, List.getElem?_append_right (Nat.le_refl _)]; simp
theorem entL_snoc (l : List En) (e : En) : entL (l ++ [e]) = entL l ++ entC e := by
  unfold entL
  rw [List.length_append, List.length_singleton, rng_succ, getD_end]
  congr 1
  exact rng_congr (fun i hi => by rw [getD_left hi])

/-- The document's wheel: it reads l (the turns are not in memory). -/
structure Rw (w : World) (rb : Nat) (G : Nat → Prop) (lv : Value) (l : List En) : Prop where
  box : Box w 67 rb #[lv]
  row : w.ownsRow 0 128 2 lv l.length (entL l)
  gb : G rb
  gr : ∀ k, lv.ownBlock = some k → G k
  fl : ∀ k, G k → k < w.heap.size
  nl : l = [] → lv = .slice none 0 0
section
variable {w w' : World} {rb : Nat} {G : Nat → Prop} {lv : Value} {l : List En}
theorem Rw.same (h : Rw w rb G lv l) (hs : w.heap.size ≤ w'.heap.size) (hf : ∀ k, G k → w'.heap[k]? = w.heap[k]?) : Rw w' rb G lv l :=
  ⟨by unfold Box; rw [hf _ h.gb]; exact h.box, row_same h.row (fun k hk => hf k (h.gr k hk)), h.gb, h.gr, fun k hk => Nat.lt_of_lt_of_le (h.fl k hk) hs, h.nl⟩
theorem Rw.kept0 (h : Rw w rb G lv l) (hf : w.grownBy w' none) : Rw w' rb G lv l := h.same hf.size (fun k hk => hf.block k (h.fl k hk) (by simp))
theorem Rw.kept {F : Nat → Prop} (h : Rw w rb G lv l) (hf : Kp F w w') (hd : ∀ k, G k → ¬ F k) : Rw w' rb G lv l := h.same hf.size (fun k hk => hf.block k (h.fl k hk) (hd k hk))
theorem Rw.c0 (h : Rw w rb G lv l) : w.cell? ⟨rb, 0, none⟩ = some lv := h.box.cell 0
theorem Rw.ne (h : Rw w rb G lv l) {g : Nat} (hg : lv.ownBlock = some g) : rb ≠ g := fun e => by
  obtain ⟨cur, h1⟩ := row_block h.row g hg
  exact ne_of_type h.box h1 (by decide) e
theorem Rw.cells {g n cap : Nat} (h : w.ownsRow 0 128 2 (.slice (some ⟨g, 0, none⟩) n cap) n (entL l)) (hn : n = l.length) {i : Nat} (hi : i < n) : w.cell? ⟨g, i * 2, none⟩ = some (.int .u64 (gt l i).h) ∧ w.cell? ⟨g, i * 2 + 1, none⟩ = some (.int .i64 (gt l i).x) := by
  subst hn
  refine ⟨row_cell h (i * 2) _ ?_, row_cell h (i * 2 + 1) _ ?_⟩
  · have := rng_get (entC_len l) (n := l.length) (i := i) (j := 0) hi (by omega); simpa [entL, entC] using this
  · have := rng_get (entC_len l) (n := l.length) (i := i) (j := 1) hi (by omega); simpa [entL, entC] using this
end

theorem Try.info128 : (Try.prog.info? 128).map (fun i => (i.zero, i.size, i.bytes)) = some (some (.agg #[.int .u64 0, .int .i64 0]), 2, 16) := by kernel_rfl
theorem Try.info23 : (Try.prog.info? 23).map (fun i => (i.zero, i.size, i.bytes)) = some (some (.int .u64 0), 1, 8) := by kernel_rfl
section
variable {w : World} {ops : Array Oper} {rest : List Oper} {o : Oper} {a : Act} {Q : Exit → Act → World → Prop}
theorem push128 (hgd : o.guard = none) (s x : Operand) (ho : o.op = .call { callee := .builtin .append, args := #[s, x], argTypes := #[65, 65] })
    (B : Nat) (v : Value) (n : Nat) (xs : List Value) (hs : a.eval s = v) (hown : w.ownsRow B 128 2 v n xs) (u1 u2 : Int) (hx : a.eval x = .slice (some ⟨w.heap.size, 0, none⟩) 1 1) (hn : n ≤ 100000000000) (hB : B ≤ w.heap.size)
    (h : ∀ g cap w', w'.ownsRow B 128 2 (.slice (some ⟨g, 0, none⟩) (n + 1) cap) (n + 1) (xs ++ [.int .u64 u1, .int .i64 u2]) → w.grownBy w' v.ownBlock → (v.ownBlock = some g ∨ w.heap.size ≤ g) → wpList Try.prog ops Q rest (a.put o.dst (.slice (some ⟨g, 0, none⟩) (n + 1) cap)) w') : wpList Try.prog ops Q (o :: rest) a (w.alloc (.cells #[.int .u64 u1, .int .i64 u2] 128)) := by
  obtain ⟨i0, hi, hz0, hz1, hz2⟩ := info_parts Try.info128
  exact wpList_pushN hgd s x 65 ho 128 i0 _ 2 16 Try.underlying65 hi hz0 hz1 hz2 rfl (by omega) (by omega) B v n xs hs hown [.int .u64 u1, .int .i64 u2] rfl (by simp [Value.oneCell']) hx hn hB h
theorem push23 (hgd : o.guard = none) (s x : Operand) (ho : o.op = .call { callee := .builtin .append, args := #[s, x], argTypes := #[118, 118] })
    (B : Nat) (v : Value) (n : Nat) (xs : List Value) (hs : a.eval s = v) (hown : w.ownsRow B 23 1 v n xs) (u : Int) (hx : a.eval x = .slice (some ⟨w.heap.size, 0, none⟩) 1 1) (hn : n ≤ 100000000000) (hB : B ≤ w.heap.size)
    (h : ∀ g cap w', w'.ownsRow B 23 1 (.slice (some ⟨g, 0, none⟩) (n + 1) cap) (n + 1) (xs ++ [.int .u64 u]) → w.grownBy w' v.ownBlock → (v.ownBlock = some g ∨ w.heap.size ≤ g) → wpList Try.prog ops Q rest (a.put o.dst (.slice (some ⟨g, 0, none⟩) (n + 1) cap)) w') : wpList Try.prog ops Q (o :: rest) a (w.alloc (.cells #[.int .u64 u] 23)) := by
  obtain ⟨i0, hi, hz0, hz1, hz2⟩ := info_parts Try.info23
  exact wpList_pushN hgd s x 118 ho 23 i0 _ 1 8 Try.underlying118 hi hz0 hz1 hz2 rfl (by omega) (by omega) B v n xs hs hown [.int .u64 u] rfl (by simp [Value.oneCell']) hx hn hB h
end

theorem own_lo {w : World} {B : Nat} {e : TypeId} {s : Nat} {v : Value} {n : Nat} {xs : List Value} (h : w.ownsRow B e s v n xs) {j : Nat} (hj : v.ownBlock = some j) : B ≤ j ∧ j < w.heap.size := by
  rcases h.2 with ⟨h1, _⟩ | ⟨g, c, cur, h1, h2, h3, _⟩
  · rw [h1] at hj; simp [Value.ownBlock] at hj
  · rw [h1] at hj; simp [Value.ownBlock] at hj; subst hj; exact ⟨h2, lt_of_block h3⟩

/-- append(nil, l...) in a region that draws. -/
theorem step_all128 {w : World} {ops : Array Oper} {o : Oper} {a : Act} {K : Act → World → Prop} {Q : Exit → Act → World → Prop} {D : Prop} {l : List En} {lv : Value} (hgd : o.guard = none) (s x : Operand)
    (ho : o.op = .call { callee := .builtin .append, args := #[s, x], argTypes := #[65, 65] }) (hs : a.eval s = .slice none 0 0) (hrow : w.ownsRow 0 128 2 lv l.length (entL l)) (hnl : l = [] → lv = .slice none 0 0) (hx : a.eval x = lv) (hl : l.length < 1000000)
    (h : ∀ ao c w', w'.ownsRow w.heap.size 128 2 (.slice ao l.length c) l.length (entL l) → w.grownBy w' none → (l = [] → Value.slice ao l.length c = .slice none 0 0) → K (a.put o.dst (.slice ao l.length c)) w') :
    if Region.wanted o (yielded ops a.tmps) = true then Oper.wp Try.prog o a w K Q else D := by
  obtain ⟨i0, hi, hz0, hz1, hz2⟩ := info_parts Try.info128
  have hown0 : w.ownsRow w.heap.size 128 2 (.slice none 0 0) 0 [] := ⟨rfl, .inl ⟨rfl, rfl⟩⟩
  by_cases h0 : l = []
  · have hlv := hnl h0
    subst h0
    rw [hlv] at hx
    have hw : Region.wanted o (yielded ops a.tmps) = true := by simp [Region.wanted, hgd]
    rw [if_pos hw]
    have hrun := run_append_owned_none (P := Try.prog) (w := w) w.heap.size 65 o.type 128 i0 2 Try.underlying65 hi _ _ _ hown0
    unfold Oper.wp
    simp [execOp, ho, resolve, invoke, builtin, hs, hx, hrun, Result.andThen]
    exact h none 0 _ hown0 (gb_refl _ _) (fun _ => rfl)
  · obtain ⟨ao, cp, hdv, _, _, _, hpos⟩ := row_shape hrow
    have hl0 : 0 < l.length := List.length_pos_iff.2 h0
    obtain ⟨g, rfl⟩ := hpos hl0
    subst hdv
    refine step_append_lies _ hgd s x 65 ho w.heap.size 128 i0 _ 2 16 Try.underlying65 hi hz0 hz1 hz2 rfl (by omega) (.slice none 0 0) 0 [] hs hown0 ⟨g, 0, none⟩ l.length cp (entL l) hx hrow.1 (fun j u hj => ?_) (fun u hu => ?_) hl0 (by unfold maxLen; omega) (by omega) (Nat.le_refl _) w.heap.size rfl ?_
    · rw [Addr.add_mid, Nat.zero_add]; exact row_cell hrow j u hj
    · unfold entL rng at hu
      rw [List.mem_flatMap] at hu
      obtain ⟨i, _, hu⟩ := hu
      simp [entC] at hu
      rcases hu with rfl | rfl <;> rfl
    · intro g2 cap2 w' h1 h2 _ _
      have h3 := h (some ⟨g2, 0, none⟩) cap2 w' (by simpa using h1) (by simpa [Value.ownBlock] using h2) (fun e => absurd e h0)
      simpa using h3

def keepH (h : Int) (l : List En) : List En := l.filter (fun e => e.h ≠ h)
def anyH (h : Int) (l : List En) : Bool := l.any (fun e => e.h == h)
theorem keepH_take {h : Int} {l : List En} {i : Nat} (hi : i < l.length) : keepH h (l.take (i + 1)) = if (gt l i).h = h then keepH h (l.take i) else keepH h (l.take i) ++ [gt l i] := by
  have e1 := take_gt hi
  rw [e1]
  unfold keepH
  rw [List.filter_append]
  by_cases e : (gt l i).h = h
  · rw [if_pos e, List.filter_cons_of_neg (by simp [e])]; simp
  · rw [if_neg e, List.filter_cons_of_pos (by simp [e])]; simp
theorem anyH_take {h : Int} {l : List En} {i : Nat} (hi : i < l.length) : anyH h (l.take (i + 1)) = (anyH h (l.take i) || ((gt l i).h == h)) := by
  have e1 := take_gt hi
  rw [e1]
  unfold anyH
  rw [List.any_append]
  simp

set_option maxRecDepth 100000 in
set_option maxHeartbeats 4000000 in
theorem rtake_43 {w : World} {rb : Nat} {G : Nat → Prop} {lv : Value} {l : List En} (h : Rw w rb G lv l) (hl : l.length < 1000000) (x : Int) :
    Calls Try.prog 43 #[.pointer (some ⟨rb, 0, none⟩), .int .u64 x] w fun y w' => y = .returned (.bool (anyH x l)) ∧ Kp (fun k => k = rb) w w' ∧ ∃ lv' G', (∀ k, G' k → k = rb ∨ w.heap.size ≤ k) ∧ Rw w' rb G' lv' (keepH x l) := by
  obtain ⟨ao, cp, hdv, hnil, _, hmax, hpos⟩ := row_shape h.row
  subst hdv
  go_enter Try.func43, Try.ntmps43
  go_wp2
  go_loopw [5, 6, 7] (fun rv was v wr => ∃ i : Nat, i ≤ l.length ∧ v = .int .i64 i ∧ was = .bool (anyH x (l.take i)) ∧ wr.ownsRow w.heap.size 128 2 rv (keepH x (l.take i)).length (entL (keepH x (l.take i))) ∧ w.grownBy wr none ∧ (keepH x (l.take i) = [] → rv = .slice none 0 0)) (fun _ _ v _ => l.length - (intOf v).toNat)
  case atStart => exact ⟨0, by omega, rfl, rfl, ⟨rfl, .inl ⟨rfl, rfl⟩⟩, gb_refl _ _, fun _ => rfl⟩
  case round =>
    obtain ⟨i, hi, rfl, rfl, hrow, hg, hnl⟩ := hrel
    have hz := h.kept0 hg
    have c0 := hz.c0
    by_cases hil : i < l.length
    · obtain ⟨g, rfl⟩ := hpos (by omega)
      obtain ⟨e0, e1⟩ := Rw.cells hz.row rfl hil
      have hib : (i : Int) < l.length := by omega
      have hkl : (keepH x (l.take i)).length ≤ i := by
        have := List.length_filter_le (fun e : En => decide (e.h ≠ x)) (l.take i)
        rw [List.length_take] at this
        unfold keepH; omega
      by_cases hx : (gt l i).h = x
      · have hk2 := keepH_take (h := x) hil
        rw [if_pos hx] at hk2
        have ha2 := anyH_take (h := x) hil
        have hbq : ((gt l i).h == x) = true := by simp [hx]
        rw [hbq, Bool.or_true] at ha2
        rw [← hk2] at hrow hnl
        have HN : Hid (_ → _) := hnl
        clear hnl
        clear hz hk2 h hnil hpos
        generalize gt l i = e at *
        go_wp2
        exact ⟨⟨i + 1, by omega, by go_num, by rw [ha2], hrow, hg, HN.out⟩, by simp [intOf]; omega⟩
      · have hk2 := keepH_take (h := x) hil
        rw [if_neg hx] at hk2
        have ha2 := anyH_take (h := x) hil
        have hbq : ((gt l i).h == x) = false := by simp [hx]
        rw [hbq, Bool.or_false] at ha2
        have hsz := hg.size
        clear hz h hnil hpos
        have hsn : entL (keepH x (l.take i)) ++ [.int .u64 (gt l i).h, .int .i64 (gt l i).x] = entL (keepH x (l.take (i + 1))) := by rw [hk2, entL_snoc]; rfl
        have hln : (keepH x (l.take (i + 1))).length = (keepH x (l.take i)).length + 1 := by rw [hk2]; simp
        have hne2 : keepH x (l.take (i + 1)) ≠ [] := by rw [hk2]; simp
        clear hk2 hnl
        generalize gt l i = e at *
        obtain ⟨ao2, cp2, hdv2, _, _, _, _⟩ := row_shape hrow
        subst hdv2
        go_wp2_with (at_builtin; go_must (refine push128 rfl _ _ rfl w.heap.size _ _ _ (by rfl) hrow e.h e.x (by rfl) (by omega) hsz ?_))
        intro g4 cap4 w4 hrow4 hgb4 hat4
        have hg4 : w.grownBy w4 none := gb_of_kp hg ((Kp.refl (fun j => (Value.slice ao2 (keepH x (l.take i)).length cp2).ownBlock = some j) wr).step hgb4 (fun j hj => .inl hj)) (fun j hj => (own_lo hrow hj).1)
        try rw [hsn] at hrow4
        rw [← hln] at hrow4 ⊢
        go_wp2
        exact ⟨⟨i + 1, by omega, by go_num, by rw [ha2], hrow4, hg4, fun e' => absurd e' hne2⟩, by simp [intOf]; omega⟩
    · obtain rfl : i = l.length := by omega
      rw [List.take_length] at hrow hnl ⊢
      have f0 := hz.box.fz 0
      obtain ⟨ao2, cp2, hdv2, _, _, _, _⟩ := row_shape hrow
      subst hdv2
      have hgs : wr.grownBy (wr.setCell ⟨rb, 0, none⟩ (.slice ao2 (keepH x l).length cp2)) (some rb) := gb_setCell (gb_refl _ _) _
      have hne : ∀ j, (Value.slice ao2 (keepH x l).length cp2).ownBlock = some j → rb ≠ j := fun j hj => by
        obtain ⟨cur, h1⟩ := row_block hrow j hj
        exact fun e => ne_of_type hz.box h1 (by decide) e
      have hfin : Rw (wr.setCell ⟨rb, 0, none⟩ (.slice ao2 (keepH x l).length cp2)) rb (fun k => k = rb ∨ (Value.slice ao2 (keepH x l).length cp2).ownBlock = some k) (.slice ao2 (keepH x l).length cp2) (keepH x l) :=
        ⟨hz.box.set 0 _, row_base (row_kept hrow hgs (fun j hj e => hne j hj (Option.some.inj e).symm)) (Nat.zero_le _), .inl rfl, fun k hk => .inr hk, by
          rintro k (rfl | hk)
          · exact Nat.lt_of_lt_of_le hz.box.lt hgs.size
          · exact Nat.lt_of_lt_of_le (own_lo hrow hk).2 hgs.size, hnl⟩
      have hK : Kp (fun k => k = rb) w (wr.setCell ⟨rb, 0, none⟩ (.slice ao2 (keepH x l).length cp2)) := (Kp.of hg).step hgs (fun j hj => by injection hj with hj; exact .inl hj.symm)
      have hG : ∀ k, (k = rb ∨ (Value.slice ao2 (keepH x l).length cp2).ownBlock = some k) → k = rb ∨ w.heap.size ≤ k := by
        rintro k (hk | hk)
        · exact .inl hk
        · exact .inr (own_lo hrow hk).1
      clear hz h hrow hgs hnil hpos hne hnl
      go_wp2
      go_ret
      exact ⟨rfl, hK, _, _, hG, hfin⟩

end Go.Proofs.Ytagcmfaljfaikaa

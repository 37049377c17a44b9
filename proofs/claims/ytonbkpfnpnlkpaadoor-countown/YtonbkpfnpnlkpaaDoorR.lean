/-
  The document's answer: what a text verb adds.
-/
import Derived.Test.YtonbkpfnpnlkpaaDoorQ
namespace Go.Proofs.YtonbkpfnpnlkpaaDoor
open Go.RowKit
set_option linter.unusedVariables false
set_option linter.unusedSimpArgs false
attribute [local go_sem] Oper.semAt_some

theorem alloc_le {w X : World} (h : w.heap.size ≤ X.heap.size) (ob : Obj) : w.heap.size ≤ (X.alloc ob).heap.size := by simp; omega
/-- Where a row of names that grows stands. -/
structure Gw (w W : World) (v : Value) (l : List Nat) : Prop where
  ow : Ow W w.heap.size v l
  gb : w.grownBy W none
theorem Gw.nil (w : World) : Gw w w (.slice none 0 0) [] := ⟨Ow.nil _ _, gb_refl _ _⟩
theorem Gw.size {w W : World} {v : Value} {l : List Nat} (h : Gw w W v l) : w.heap.size ≤ W.heap.size := h.gb.size
theorem Gw.grown {w W W' : World} {v : Value} {l : List Nat} (h : Gw w W v l) (hg : W.grownBy W' none) : Gw w W' v l := ⟨h.ow.kept hg (by simp), gb_trans h.gb hg⟩
theorem Gw.more {w W W' : World} {v v' : Value} {l l' : List Nat} (h : Gw w W v l) (h1 : Ow W' w.heap.size v' l') (h2 : W.grownBy W' v.ownBlock) : Gw w W' v' l' :=
  ⟨h1, gb_far h.gb h2 (fun k hk => (World.ownsRow.lt h.ow k hk).1) (Nat.le_refl _)⟩
section
variable {w W : World} {ops : Array Oper} {rest : List Oper} {op : Oper} {a : Act} {Q : Exit → Act → World → Prop}
/-- Names of a literal are laid behind the row. -/
theorem moreL (hgd : op.guard = none) (s x : Operand) (ho : op.op = .call { callee := .builtin .append, args := #[s, x], argTypes := #[40, 40] })
    (v : Value) (us : List Nat) (hs : a.eval s = v) (h : Gw w W v us) (ys : List Nat) (vs : Array Value) (hv : vs = (ys.map fun n => Value.int .i64 (n : Nat)).toArray) (hx : a.eval x = .slice (some ⟨W.heap.size, 0, none⟩) ys.length ys.length) (hl : ys.length ≤ 1000) (hu : us.length ≤ 10000000000)
    (hK : ∀ v' w', Gw w w' v' (us ++ ys) → wpList Tryd.prog ops Q rest (a.put op.dst v') w') : wpList Tryd.prog ops Q (op :: rest) a (W.alloc (.cells vs 3)) := by
  have h1 := h.grown (World.grownBy_alloc W (.cells vs 3) none)
  refine moreI hgd s x ho w.heap.size v us hs h1.ow W.heap.size _ ys hx (Ow.new W ys vs hv hl) (by omega) (alloc_le h.size _) ?_
  intro v' w' h2 h3
  exact hK v' w' (h1.more h2 h3)
/-- Names that a call told are laid behind the row. -/
theorem moreC (hgd : op.guard = none) (s x : Operand) (ho : op.op = .call { callee := .builtin .append, args := #[s, x], argTypes := #[40, 40] })
    (v : Value) (us : List Nat) (hs : a.eval s = v) (h : Gw w W v us) (C : Nat) (y : Value) (ys : List Nat) (hx : a.eval x = y) (hy : Ow W C y ys) (hl : us.length + ys.length ≤ 10000000000)
    (hK : ∀ v' w', Gw w w' v' (us ++ ys) → wpList Tryd.prog ops Q rest (a.put op.dst v') w') : wpList Tryd.prog ops Q (op :: rest) a W := by
  refine moreI hgd s x ho w.heap.size v us hs h.ow C y ys hx hy (by omega) h.size ?_
  intro v' w' h2 h3
  exact hK v' w' (h.more h2 h3)
end
/-- What a text verb adds, by the document. -/
def rtext (v k : Int) (why : List Int) : List Nat :=
  if v = 1 ∨ v = 2 then why.flatMap rkey
  else if v = 3 ∨ v = 4 then why.flatMap (fun y => rkey y ++ rtouch y)
  else if v = 5 ∨ v = 6 ∨ v = 7 ∨ v = 8 ∨ v = 9 then [2] ++ (if k = 1 then [24] else [])
  else if v = 10 then [2] ++ (if k = 1 then [24, 16] else if k = 3 then [17] else if k = 4 then [18] else [])
  else if v = 11 then reither k 5 10 11
  else if v = 12 then reither k 7 12 13
  else if v = 13 then reither k 7 14 15
  else if v = 14 then reither k 6 19 20 ++ [3]
  else if v = 15 then [4] else []
set_option maxRecDepth 100000 in
set_option maxHeartbeats 4000000 in
theorem text_44_5 (v k : Int) (y : Value) (why : List Int) (w : World) (hy : Ints w y why) (hw : why.length ≤ 1000000000) (hv : v = 5) : TellsL 44 #[.int .i64 v, .int .i64 k, y] w (rtext v k why) := by
  subst hv
  unfold TellsL
  have o0 := Gw.nil w
  by_cases hk : k = 1
  · subst hk
    go_enter Tryd.func44, Tryd.ntmps44
    go_wp2_with (first | (at_builtin; (refine moreL rfl _ _ rfl _ _ (by rfl) o1 [24] _ rfl (by rfl) (by simp) (by simp) ?_); intro v2 w2 o2) | (at_builtin; (refine moreL rfl _ _ rfl _ _ (by rfl) o0 [2] _ rfl (by rfl) (by simp) (by simp) ?_); intro v1 w1 o1))
    go_ret
    exact ⟨_, rfl, o2.ow, o2.gb⟩
  · rw [show rtext 5 k why = [2] from by simp [rtext, hk]]
    go_enter Tryd.func44, Tryd.ntmps44
    go_wp2_with ((at_builtin; (refine moreL rfl _ _ rfl _ _ (by rfl) o0 [2] _ rfl (by rfl) (by simp) (by simp) ?_); intro v1 w1 o1))
    go_ret
    exact ⟨_, rfl, o1.ow, o1.gb⟩
set_option maxRecDepth 100000 in
set_option maxHeartbeats 4000000 in
theorem text_44_6 (v k : Int) (y : Value) (why : List Int) (w : World) (hy : Ints w y why) (hw : why.length ≤ 1000000000) (hv : v = 6) : TellsL 44 #[.int .i64 v, .int .i64 k, y] w (rtext v k why) := by
  subst hv
  unfold TellsL
  have o0 := Gw.nil w
  by_cases hk : k = 1
  · subst hk
    go_enter Tryd.func44, Tryd.ntmps44
    go_wp2_with (first | (at_builtin; (refine moreL rfl _ _ rfl _ _ (by rfl) o1 [24] _ rfl (by rfl) (by simp) (by simp) ?_); intro v2 w2 o2) | (at_builtin; (refine moreL rfl _ _ rfl _ _ (by rfl) o0 [2] _ rfl (by rfl) (by simp) (by simp) ?_); intro v1 w1 o1))
    go_ret
    exact ⟨_, rfl, o2.ow, o2.gb⟩
  · rw [show rtext 6 k why = [2] from by simp [rtext, hk]]
    go_enter Tryd.func44, Tryd.ntmps44
    go_wp2_with ((at_builtin; (refine moreL rfl _ _ rfl _ _ (by rfl) o0 [2] _ rfl (by rfl) (by simp) (by simp) ?_); intro v1 w1 o1))
    go_ret
    exact ⟨_, rfl, o1.ow, o1.gb⟩
set_option maxRecDepth 100000 in
set_option maxHeartbeats 4000000 in
theorem text_44_7 (v k : Int) (y : Value) (why : List Int) (w : World) (hy : Ints w y why) (hw : why.length ≤ 1000000000) (hv : v = 7) : TellsL 44 #[.int .i64 v, .int .i64 k, y] w (rtext v k why) := by
  subst hv
  unfold TellsL
  have o0 := Gw.nil w
  by_cases hk : k = 1
  · subst hk
    go_enter Tryd.func44, Tryd.ntmps44
    go_wp2_with (first | (at_builtin; (refine moreL rfl _ _ rfl _ _ (by rfl) o1 [24] _ rfl (by rfl) (by simp) (by simp) ?_); intro v2 w2 o2) | (at_builtin; (refine moreL rfl _ _ rfl _ _ (by rfl) o0 [2] _ rfl (by rfl) (by simp) (by simp) ?_); intro v1 w1 o1))
    go_ret
    exact ⟨_, rfl, o2.ow, o2.gb⟩
  · rw [show rtext 7 k why = [2] from by simp [rtext, hk]]
    go_enter Tryd.func44, Tryd.ntmps44
    go_wp2_with ((at_builtin; (refine moreL rfl _ _ rfl _ _ (by rfl) o0 [2] _ rfl (by rfl) (by simp) (by simp) ?_); intro v1 w1 o1))
    go_ret
    exact ⟨_, rfl, o1.ow, o1.gb⟩
set_option maxRecDepth 100000 in
set_option maxHeartbeats 4000000 in
theorem text_44_8 (v k : Int) (y : Value) (why : List Int) (w : World) (hy : Ints w y why) (hw : why.length ≤ 1000000000) (hv : v = 8) : TellsL 44 #[.int .i64 v, .int .i64 k, y] w (rtext v k why) := by
  subst hv
  unfold TellsL
  have o0 := Gw.nil w
  by_cases hk : k = 1
  · subst hk
    go_enter Tryd.func44, Tryd.ntmps44
    go_wp2_with (first | (at_builtin; (refine moreL rfl _ _ rfl _ _ (by rfl) o1 [24] _ rfl (by rfl) (by simp) (by simp) ?_); intro v2 w2 o2) | (at_builtin; (refine moreL rfl _ _ rfl _ _ (by rfl) o0 [2] _ rfl (by rfl) (by simp) (by simp) ?_); intro v1 w1 o1))
    go_ret
    exact ⟨_, rfl, o2.ow, o2.gb⟩
  · rw [show rtext 8 k why = [2] from by simp [rtext, hk]]
    go_enter Tryd.func44, Tryd.ntmps44
    go_wp2_with ((at_builtin; (refine moreL rfl _ _ rfl _ _ (by rfl) o0 [2] _ rfl (by rfl) (by simp) (by simp) ?_); intro v1 w1 o1))
    go_ret
    exact ⟨_, rfl, o1.ow, o1.gb⟩
set_option maxRecDepth 100000 in
set_option maxHeartbeats 4000000 in
theorem text_44_9 (v k : Int) (y : Value) (why : List Int) (w : World) (hy : Ints w y why) (hw : why.length ≤ 1000000000) (hv : v = 9) : TellsL 44 #[.int .i64 v, .int .i64 k, y] w (rtext v k why) := by
  subst hv
  unfold TellsL
  have o0 := Gw.nil w
  by_cases hk : k = 1
  · subst hk
    go_enter Tryd.func44, Tryd.ntmps44
    go_wp2_with (first | (at_builtin; (refine moreL rfl _ _ rfl _ _ (by rfl) o1 [24] _ rfl (by rfl) (by simp) (by simp) ?_); intro v2 w2 o2) | (at_builtin; (refine moreL rfl _ _ rfl _ _ (by rfl) o0 [2] _ rfl (by rfl) (by simp) (by simp) ?_); intro v1 w1 o1))
    go_ret
    exact ⟨_, rfl, o2.ow, o2.gb⟩
  · rw [show rtext 9 k why = [2] from by simp [rtext, hk]]
    go_enter Tryd.func44, Tryd.ntmps44
    go_wp2_with ((at_builtin; (refine moreL rfl _ _ rfl _ _ (by rfl) o0 [2] _ rfl (by rfl) (by simp) (by simp) ?_); intro v1 w1 o1))
    go_ret
    exact ⟨_, rfl, o1.ow, o1.gb⟩
set_option maxRecDepth 100000 in
set_option maxHeartbeats 4000000 in
theorem text_44_10 (v k : Int) (y : Value) (why : List Int) (w : World) (hy : Ints w y why) (hw : why.length ≤ 1000000000) (hv : v = 10) : TellsL 44 #[.int .i64 v, .int .i64 k, y] w (rtext v k why) := by
  subst hv
  unfold TellsL
  have o0 := Gw.nil w
  by_cases hk1 : k = 1
  · subst hk1
    go_enter Tryd.func44, Tryd.ntmps44
    go_wp2_with (first | (at_builtin; (refine moreL rfl _ _ rfl _ _ (by rfl) o1 [24, 16] _ rfl (by rfl) (by simp) (by simp) ?_); intro v2 w2 o2) | (at_builtin; (refine moreL rfl _ _ rfl _ _ (by rfl) o0 [2] _ rfl (by rfl) (by simp) (by simp) ?_); intro v1 w1 o1))
    go_ret
    exact ⟨_, rfl, o2.ow, o2.gb⟩
  by_cases hk3 : k = 3
  · subst hk3
    go_enter Tryd.func44, Tryd.ntmps44
    go_wp2_with (first | (at_builtin; (refine moreL rfl _ _ rfl _ _ (by rfl) o1 [17] _ rfl (by rfl) (by simp) (by simp) ?_); intro v2 w2 o2) | (at_builtin; (refine moreL rfl _ _ rfl _ _ (by rfl) o0 [2] _ rfl (by rfl) (by simp) (by simp) ?_); intro v1 w1 o1))
    go_ret
    exact ⟨_, rfl, o2.ow, o2.gb⟩
  by_cases hk4 : k = 4
  · subst hk4
    go_enter Tryd.func44, Tryd.ntmps44
    go_wp2_with (first | (at_builtin; (refine moreL rfl _ _ rfl _ _ (by rfl) o1 [18] _ rfl (by rfl) (by simp) (by simp) ?_); intro v2 w2 o2) | (at_builtin; (refine moreL rfl _ _ rfl _ _ (by rfl) o0 [2] _ rfl (by rfl) (by simp) (by simp) ?_); intro v1 w1 o1))
    go_ret
    exact ⟨_, rfl, o2.ow, o2.gb⟩
  rw [show rtext 10 k why = [2] from by simp [rtext, hk1, hk3, hk4]]
  go_enter Tryd.func44, Tryd.ntmps44
  go_wp2_with ((at_builtin; (refine moreL rfl _ _ rfl _ _ (by rfl) o0 [2] _ rfl (by rfl) (by simp) (by simp) ?_); intro v1 w1 o1))
  go_ret
  exact ⟨_, rfl, o1.ow, o1.gb⟩
set_option maxRecDepth 100000 in
set_option maxHeartbeats 4000000 in
theorem text_44_11 (v k : Int) (y : Value) (why : List Int) (w : World) (hy : Ints w y why) (hw : why.length ≤ 1000000000) (hv : v = 11) : TellsL 44 #[.int .i64 v, .int .i64 k, y] w (rtext v k why) := by
  subst hv
  unfold TellsL
  have h71 := either_71 k 5 10 11 10 11 rfl rfl w
  unfold TellsL at h71
  go_enter Tryd.func44, Tryd.ntmps44
  go_wp2_with fail
  refine h71.mono ?_
  rintro e w1 ⟨v1, rfl, ho, hg⟩
  go_wp2
  go_ret
  exact ⟨_, rfl, ho, hg⟩
set_option maxRecDepth 100000 in
set_option maxHeartbeats 4000000 in
theorem text_44_12 (v k : Int) (y : Value) (why : List Int) (w : World) (hy : Ints w y why) (hw : why.length ≤ 1000000000) (hv : v = 12) : TellsL 44 #[.int .i64 v, .int .i64 k, y] w (rtext v k why) := by
  subst hv
  unfold TellsL
  have h71 := either_71 k 7 12 13 12 13 rfl rfl w
  unfold TellsL at h71
  go_enter Tryd.func44, Tryd.ntmps44
  go_wp2_with fail
  refine h71.mono ?_
  rintro e w1 ⟨v1, rfl, ho, hg⟩
  go_wp2
  go_ret
  exact ⟨_, rfl, ho, hg⟩
set_option maxRecDepth 100000 in
set_option maxHeartbeats 4000000 in
theorem text_44_13 (v k : Int) (y : Value) (why : List Int) (w : World) (hy : Ints w y why) (hw : why.length ≤ 1000000000) (hv : v = 13) : TellsL 44 #[.int .i64 v, .int .i64 k, y] w (rtext v k why) := by
  subst hv
  unfold TellsL
  have h71 := either_71 k 7 14 15 14 15 rfl rfl w
  unfold TellsL at h71
  go_enter Tryd.func44, Tryd.ntmps44
  go_wp2_with fail
  refine h71.mono ?_
  rintro e w1 ⟨v1, rfl, ho, hg⟩
  go_wp2
  go_ret
  exact ⟨_, rfl, ho, hg⟩
set_option maxRecDepth 100000 in
set_option maxHeartbeats 4000000 in
theorem text_44_14 (v k : Int) (y : Value) (why : List Int) (w : World) (hy : Ints w y why) (hw : why.length ≤ 1000000000) (hv : v = 14) : TellsL 44 #[.int .i64 v, .int .i64 k, y] w (rtext v k why) := by
  subst hv
  unfold TellsL
  have h71 := either_71 k 6 19 20 19 20 rfl rfl w
  unfold TellsL at h71
  go_enter Tryd.func44, Tryd.ntmps44
  go_wp2_with fail
  refine h71.mono ?_
  rintro e w1 ⟨v1, rfl, ho, hg⟩
  have o0 : Gw w w1 v1 _ := ⟨ho, hg⟩
  have hlen : (reither k 6 19 20).length ≤ 1 := by unfold reither; split; simp; split <;> simp
  have hE : rtext 14 k why = reither k 6 19 20 ++ [3] := rfl
  generalize reither k 6 19 20 = L at *
  go_wp2_with ((at_builtin; (refine moreL rfl _ _ rfl _ _ (by rfl) o0 [3] _ rfl (by rfl) (by simp) (by omega) ?_); intro v1 w1 o1))
  go_ret
  exact ⟨_, rfl, by rw [hE]; exact o1.ow, o1.gb⟩
set_option maxRecDepth 100000 in
set_option maxHeartbeats 4000000 in
theorem text_44_15 (v k : Int) (y : Value) (why : List Int) (w : World) (hy : Ints w y why) (hw : why.length ≤ 1000000000) (hv : v = 15) : TellsL 44 #[.int .i64 v, .int .i64 k, y] w (rtext v k why) := by
  subst hv
  unfold TellsL
  go_enter Tryd.func44, Tryd.ntmps44
  go_wp2
  go_ret
  exact ⟨_, rfl, Ow.new w [4] _ rfl (by simp), World.grownBy_alloc w _ none⟩
set_option maxRecDepth 100000 in
set_option maxHeartbeats 4000000 in
theorem text_44_o (v k : Int) (y : Value) (why : List Int) (w : World) (hy : Ints w y why) (hw : why.length ≤ 1000000000) (hv : ¬ v = 1 ∧ ¬ v = 2 ∧ ¬ v = 3 ∧ ¬ v = 4 ∧ ¬ v = 5 ∧ ¬ v = 6 ∧ ¬ v = 7 ∧ ¬ v = 8 ∧ ¬ v = 9 ∧ ¬ v = 10 ∧ ¬ v = 11 ∧ ¬ v = 12 ∧ ¬ v = 13 ∧ ¬ v = 14 ∧ ¬ v = 15) : TellsL 44 #[.int .i64 v, .int .i64 k, y] w (rtext v k why) := by
  unfold TellsL
  obtain ⟨h1, h2, h3, h4, h5, h6, h7, h8, h9, h10, h11, h12, h13, h14, h15⟩ := hv
  have e : rtext v k why = [] := by simp [rtext, h1, h2, h3, h4, h5, h6, h7, h8, h9, h10, h11, h12, h13, h14, h15]
  go_enter Tryd.func44, Tryd.ntmps44
  go_wp2
  go_ret
  exact ⟨_, rfl, tells_nil e, gb_refl _ _⟩
theorem rkey_len (y : Int) : (rkey y).length ≤ 3 := by unfold rkey; split; simp; split; simp; split; simp; split <;> simp
theorem rtouch_len (y : Int) : (rtouch y).length ≤ 2 := by unfold rtouch; split; simp; split <;> simp
theorem flat_len (f : Int → List Nat) (hf : ∀ y, (f y).length ≤ 5) : ∀ l : List Int, (l.flatMap f).length ≤ 5 * l.length
  | [] => by simp
  | y :: l => by have := flat_len f hf l; have := hf y; rw [List.flatMap_cons, List.length_append, List.length_cons]; omega
theorem flat_take (f : Int → List Nat) (l : List Int) (i : Nat) (y : Int) (h : l[i]? = some y) : (l.take (i + 1)).flatMap f = (l.take i).flatMap f ++ f y := by
  rw [List.take_add_one, h]; simp
set_option maxRecDepth 100000 in
set_option maxHeartbeats 4000000 in
theorem text_44_1 (v k : Int) (y : Value) (why : List Int) (w : World) (hy : Ints w y why) (hw : why.length ≤ 1000000000) (hv : v = 1) : TellsL 44 #[.int .i64 v, .int .i64 k, y] w (rtext v k why) := by
  subst hv
  unfold TellsL
  have o0 := Gw.nil w
  obtain ⟨ao, c, rfl, hlc, hc, hx⟩ := hy
  unfold maxLen at hc
  have hfl : ∀ y : Int, (rkey y).length ≤ 5 := fun y => by have := rkey_len y; have := rtouch_len y; simp; omega
  go_enter Tryd.func44, Tryd.ntmps44
  go_wp2
  go_loopw [7, 8] (fun u v wr => ∃ i : Nat, i ≤ why.length ∧ v = .int .i64 i ∧ Gw w wr u ((why.take i).flatMap rkey)) (fun _ v _ => why.length - (intOf v).toNat)
  case atStart => exact ⟨0, by omega, rfl, o0⟩
  case round =>
    obtain ⟨i, hi, rfl, oi⟩ := hrel
    rcases (by omega : i < why.length ∨ i = why.length) with hlt | rfl
    · obtain ⟨z, hz⟩ : ∃ z, why[i]? = some z := ⟨_, List.getElem?_eq_getElem hlt⟩
      obtain ⟨g, o, rfl, hcell⟩ := hx i z hz
      have hcell1 := gb_cellN oi.gb hcell
      have d1 : (i : Int) < why.length := by omega
      have h67 := asKey_67 z wr
      unfold TellsL at h67
      have hf1 := flat_len rkey hfl (why.take i)
      have hf2 : (why.take i).length ≤ why.length := by simp; omega
      have hf3 := rkey_len z
      have hf4 := rtouch_len z
      have ht := flat_take rkey why i z hz
      generalize (why.take i).flatMap rkey = L at *
      clear hx
      go_wp2_with fail
      refine h67.mono ?_
      rintro e w1 ⟨v1, rfl, ho, hg⟩
      have p1 := oi.grown hg
      go_wp2_with (at_builtin; (refine moreC rfl _ _ rfl _ _ (by rfl) p1 _ _ _ (by rfl) ho (by omega) ?_); intro v2 w2 o2)
      refine ⟨⟨i + 1, by omega, by simp, by rw [ht]; exact o2⟩, ?_⟩
      simp only [intOf]; omega
    · rw [List.take_length] at oi
      go_wp2
      go_ret
      exact ⟨_, rfl, oi.ow, oi.gb⟩
set_option maxRecDepth 100000 in
set_option maxHeartbeats 4000000 in
theorem text_44_2 (v k : Int) (y : Value) (why : List Int) (w : World) (hy : Ints w y why) (hw : why.length ≤ 1000000000) (hv : v = 2) : TellsL 44 #[.int .i64 v, .int .i64 k, y] w (rtext v k why) := by
  subst hv
  unfold TellsL
  have o0 := Gw.nil w
  obtain ⟨ao, c, rfl, hlc, hc, hx⟩ := hy
  unfold maxLen at hc
  have hfl : ∀ y : Int, (rkey y).length ≤ 5 := fun y => by have := rkey_len y; have := rtouch_len y; simp; omega
  go_enter Tryd.func44, Tryd.ntmps44
  go_wp2
  go_loopw [7, 8] (fun u v wr => ∃ i : Nat, i ≤ why.length ∧ v = .int .i64 i ∧ Gw w wr u ((why.take i).flatMap rkey)) (fun _ v _ => why.length - (intOf v).toNat)
  case atStart => exact ⟨0, by omega, rfl, o0⟩
  case round =>
    obtain ⟨i, hi, rfl, oi⟩ := hrel
    rcases (by omega : i < why.length ∨ i = why.length) with hlt | rfl
    · obtain ⟨z, hz⟩ : ∃ z, why[i]? = some z := ⟨_, List.getElem?_eq_getElem hlt⟩
      obtain ⟨g, o, rfl, hcell⟩ := hx i z hz
      have hcell1 := gb_cellN oi.gb hcell
      have d1 : (i : Int) < why.length := by omega
      have h67 := asKey_67 z wr
      unfold TellsL at h67
      have hf1 := flat_len rkey hfl (why.take i)
      have hf2 : (why.take i).length ≤ why.length := by simp; omega
      have hf3 := rkey_len z
      have hf4 := rtouch_len z
      have ht := flat_take rkey why i z hz
      generalize (why.take i).flatMap rkey = L at *
      clear hx
      go_wp2_with fail
      refine h67.mono ?_
      rintro e w1 ⟨v1, rfl, ho, hg⟩
      have p1 := oi.grown hg
      go_wp2_with (at_builtin; (refine moreC rfl _ _ rfl _ _ (by rfl) p1 _ _ _ (by rfl) ho (by omega) ?_); intro v2 w2 o2)
      refine ⟨⟨i + 1, by omega, by simp, by rw [ht]; exact o2⟩, ?_⟩
      simp only [intOf]; omega
    · rw [List.take_length] at oi
      go_wp2
      go_ret
      exact ⟨_, rfl, oi.ow, oi.gb⟩
set_option maxRecDepth 100000 in
set_option maxHeartbeats 4000000 in
theorem text_44_3 (v k : Int) (y : Value) (why : List Int) (w : World) (hy : Ints w y why) (hw : why.length ≤ 1000000000) (hv : v = 3) : TellsL 44 #[.int .i64 v, .int .i64 k, y] w (rtext v k why) := by
  subst hv
  unfold TellsL
  have o0 := Gw.nil w
  obtain ⟨ao, c, rfl, hlc, hc, hx⟩ := hy
  unfold maxLen at hc
  have hfl : ∀ y : Int, ((fun y => rkey y ++ rtouch y) y).length ≤ 5 := fun y => by have := rkey_len y; have := rtouch_len y; simp; omega
  go_enter Tryd.func44, Tryd.ntmps44
  go_wp2
  go_loopw [7, 8] (fun u v wr => ∃ i : Nat, i ≤ why.length ∧ v = .int .i64 i ∧ Gw w wr u ((why.take i).flatMap (fun y => rkey y ++ rtouch y))) (fun _ v _ => why.length - (intOf v).toNat)
  case atStart => exact ⟨0, by omega, rfl, o0⟩
  case round =>
    obtain ⟨i, hi, rfl, oi⟩ := hrel
    rcases (by omega : i < why.length ∨ i = why.length) with hlt | rfl
    · obtain ⟨z, hz⟩ : ∃ z, why[i]? = some z := ⟨_, List.getElem?_eq_getElem hlt⟩
      obtain ⟨g, o, rfl, hcell⟩ := hx i z hz
      have hcell1 := gb_cellN oi.gb hcell
      have d1 : (i : Int) < why.length := by omega
      have h67 := asKey_67 z wr
      unfold TellsL at h67
      have hf1 := flat_len (fun y => rkey y ++ rtouch y) hfl (why.take i)
      have hf2 : (why.take i).length ≤ why.length := by simp; omega
      have hf3 := rkey_len z
      have hf4 := rtouch_len z
      have ht := flat_take (fun y => rkey y ++ rtouch y) why i z hz
      generalize (why.take i).flatMap (fun y => rkey y ++ rtouch y) = L at *
      clear hx
      go_wp2_with fail
      refine h67.mono ?_
      rintro e w1 ⟨v1, rfl, ho, hg⟩
      have p1 := oi.grown hg
      go_wp2_with (at_builtin; (refine moreC rfl _ _ rfl _ _ (by rfl) p1 _ _ _ (by rfl) ho (by omega) ?_); intro v2 w2 o2; (have hcell2 := gb_cellN o2.gb hcell))
      have h70 := asTouch_70 z w2
      unfold TellsL at h70
      refine h70.mono ?_
      rintro e w3 ⟨v3, rfl, ho3, hg3⟩
      have p3 := o2.grown hg3
      go_wp2_with (at_builtin; (refine moreC rfl _ _ rfl _ _ (by rfl) p3 _ _ _ (by rfl) ho3 (by simp; omega) ?_); intro v4 w4 o4)
      refine ⟨⟨i + 1, by omega, by simp, by rw [ht, ← List.append_assoc]; exact o4⟩, ?_⟩
      simp only [intOf]; omega
    · rw [List.take_length] at oi
      go_wp2
      go_ret
      exact ⟨_, rfl, oi.ow, oi.gb⟩
set_option maxRecDepth 100000 in
set_option maxHeartbeats 4000000 in
theorem text_44_4 (v k : Int) (y : Value) (why : List Int) (w : World) (hy : Ints w y why) (hw : why.length ≤ 1000000000) (hv : v = 4) : TellsL 44 #[.int .i64 v, .int .i64 k, y] w (rtext v k why) := by
  subst hv
  unfold TellsL
  have o0 := Gw.nil w
  obtain ⟨ao, c, rfl, hlc, hc, hx⟩ := hy
  unfold maxLen at hc
  have hfl : ∀ y : Int, ((fun y => rkey y ++ rtouch y) y).length ≤ 5 := fun y => by have := rkey_len y; have := rtouch_len y; simp; omega
  go_enter Tryd.func44, Tryd.ntmps44
  go_wp2
  go_loopw [7, 8] (fun u v wr => ∃ i : Nat, i ≤ why.length ∧ v = .int .i64 i ∧ Gw w wr u ((why.take i).flatMap (fun y => rkey y ++ rtouch y))) (fun _ v _ => why.length - (intOf v).toNat)
  case atStart => exact ⟨0, by omega, rfl, o0⟩
  case round =>
    obtain ⟨i, hi, rfl, oi⟩ := hrel
    rcases (by omega : i < why.length ∨ i = why.length) with hlt | rfl
    · obtain ⟨z, hz⟩ : ∃ z, why[i]? = some z := ⟨_, List.getElem?_eq_getElem hlt⟩
      obtain ⟨g, o, rfl, hcell⟩ := hx i z hz
      have hcell1 := gb_cellN oi.gb hcell
      have d1 : (i : Int) < why.length := by omega
      have h67 := asKey_67 z wr
      unfold TellsL at h67
      have hf1 := flat_len (fun y => rkey y ++ rtouch y) hfl (why.take i)
      have hf2 : (why.take i).length ≤ why.length := by simp; omega
      have hf3 := rkey_len z
      have hf4 := rtouch_len z
      have ht := flat_take (fun y => rkey y ++ rtouch y) why i z hz
      generalize (why.take i).flatMap (fun y => rkey y ++ rtouch y) = L at *
      clear hx
      go_wp2_with fail
      refine h67.mono ?_
      rintro e w1 ⟨v1, rfl, ho, hg⟩
      have p1 := oi.grown hg
      go_wp2_with (at_builtin; (refine moreC rfl _ _ rfl _ _ (by rfl) p1 _ _ _ (by rfl) ho (by omega) ?_); intro v2 w2 o2; (have hcell2 := gb_cellN o2.gb hcell))
      have h70 := asTouch_70 z w2
      unfold TellsL at h70
      refine h70.mono ?_
      rintro e w3 ⟨v3, rfl, ho3, hg3⟩
      have p3 := o2.grown hg3
      go_wp2_with (at_builtin; (refine moreC rfl _ _ rfl _ _ (by rfl) p3 _ _ _ (by rfl) ho3 (by simp; omega) ?_); intro v4 w4 o4)
      refine ⟨⟨i + 1, by omega, by simp, by rw [ht, ← List.append_assoc]; exact o4⟩, ?_⟩
      simp only [intOf]; omega
    · rw [List.take_length] at oi
      go_wp2
      go_ret
      exact ⟨_, rfl, oi.ow, oi.gb⟩
theorem text_44 (v k : Int) (y : Value) (why : List Int) (w : World) (hy : Ints w y why) (hw : why.length ≤ 1000000000) : TellsL 44 #[.int .i64 v, .int .i64 k, y] w (rtext v k why) := by
  by_cases c1 : v = 1
  · exact text_44_1 v k y why w hy hw c1
  by_cases c2 : v = 2
  · exact text_44_2 v k y why w hy hw c2
  by_cases c3 : v = 3
  · exact text_44_3 v k y why w hy hw c3
  by_cases c4 : v = 4
  · exact text_44_4 v k y why w hy hw c4
  by_cases c5 : v = 5
  · exact text_44_5 v k y why w hy hw c5
  by_cases c6 : v = 6
  · exact text_44_6 v k y why w hy hw c6
  by_cases c7 : v = 7
  · exact text_44_7 v k y why w hy hw c7
  by_cases c8 : v = 8
  · exact text_44_8 v k y why w hy hw c8
  by_cases c9 : v = 9
  · exact text_44_9 v k y why w hy hw c9
  by_cases c10 : v = 10
  · exact text_44_10 v k y why w hy hw c10
  by_cases c11 : v = 11
  · exact text_44_11 v k y why w hy hw c11
  by_cases c12 : v = 12
  · exact text_44_12 v k y why w hy hw c12
  by_cases c13 : v = 13
  · exact text_44_13 v k y why w hy hw c13
  by_cases c14 : v = 14
  · exact text_44_14 v k y why w hy hw c14
  by_cases c15 : v = 15
  · exact text_44_15 v k y why w hy hw c15
  exact text_44_o v k y why w hy hw ⟨c1, c2, c3, c4, c5, c6, c7, c8, c9, c10, c11, c12, c13, c14, c15⟩
end Go.Proofs.YtonbkpfnpnlkpaaDoor

/-
  The document's answer: lists of names.
-/
import Derived.Test.YtonbkpfnpnlkpaaDoorJ
import Derived.Test.YtonbkpfnpnlkpaaDoorL
namespace Go.Proofs.YtonbkpfnpnlkpaaDoor
open Go.RowKit
set_option linter.unusedVariables false
set_option linter.unusedSimpArgs false
attribute [local go_sem] Oper.semAt_some

/-- A row of names in memory of its own from B on. -/
def Ow (w : World) (B : Nat) (v : Value) (l : List Nat) : Prop := w.ownsRow B 3 1 v l.length (l.map fun n => Value.int .i64 (n : Nat))
theorem Ow.nil (w : World) (B : Nat) : Ow w B (.slice none 0 0) [] := ⟨rfl, .inl ⟨rfl, rfl⟩⟩
theorem Ow.kept {w w' : World} {B : Nat} {v : Value} {l : List Nat} (h : Ow w B v l) {row : Option Nat} (hf : w.grownBy w' row) (hn : ∀ k, v.ownBlock = some k → some k ≠ row) : Ow w' B v l := row_kept h hf hn
theorem Ow.base {w : World} {B B' : Nat} {v : Value} {l : List Nat} (h : Ow w B v l) (hB : B' ≤ B) : Ow w B' v l := row_base h hB
theorem Ow.new (w : World) (l : List Nat) (vs : Array Value) (hv : vs = (l.map fun n => Value.int .i64 (n : Nat)).toArray) (hl : l.length ≤ 1000) : Ow (w.alloc (.cells vs 3)) w.heap.size (.slice (some ⟨w.heap.size, 0, none⟩) l.length l.length) l := by
  subst hv
  refine ⟨by simp, .inr ⟨w.heap.size, l.length, _, rfl, Nat.le_refl _, heap_alloc_new w _, Nat.le_refl _, by unfold maxLen; omega, by simp, ?_⟩⟩
  rw [Nat.mul_one]
  exact List.take_of_length_le (by simp)
/-- What its cells hold. -/
theorem Ow.ints {w : World} {B : Nat} {v : Value} {l : List Nat} (h : Ow w B v l) : Ints w v (l.map fun n : Nat => (n : Int)) := by
  rcases h.2 with ⟨rfl, hn⟩ | ⟨g, c, cur, rfl, h2, h3, h4, h5, h6, h7⟩
  · have : l = [] := List.eq_nil_of_length_eq_zero hn
    subst this
    exact ⟨none, 0, rfl, by simp, by unfold maxLen; omega, by simp⟩
  · refine ⟨_, c, by simp, by simpa using h4, h5, fun i x hi => ⟨g, 0, rfl, ?_⟩⟩
    rw [List.getElem?_map, Option.map_eq_some_iff] at hi
    obtain ⟨n, hn, rfl⟩ := hi
    have := row_cell h i (.int .i64 (n : Nat)) (by rw [List.getElem?_map, hn]; rfl)
    simpa using this
theorem Tryd.info3 : (Tryd.prog.info? 3).map (fun i => (i.zero, i.size, i.bytes)) = some (some (.int .i64 0), 1, 8) := by kernel_rfl
section
variable {w : World} {ops : Array Oper} {rest : List Oper} {o op : Oper} {a : Act} {Q : Exit → Act → World → Prop}
/-- append(l, m...): names behind names. -/
theorem moreI (hgd : o.guard = none) (s x : Operand) (ho : o.op = .call { callee := .builtin .append, args := #[s, x], argTypes := #[40, 40] })
    (B : Nat) (v : Value) (us : List Nat) (hs : a.eval s = v) (hown : Ow w B v us) (C : Nat) (y : Value) (ys : List Nat) (hx : a.eval x = y) (hy : Ow w C y ys) (hlen : us.length + ys.length ≤ 100000000000) (hB : B ≤ w.heap.size)
    (h : ∀ v' w', Ow w' B v' (us ++ ys) → w.grownBy w' v.ownBlock → wpList Tryd.prog ops Q rest (a.put o.dst v') w') : wpList Tryd.prog ops Q (o :: rest) a w := by
  obtain ⟨i0, hi, hz0, hz1, hz2⟩ := info_parts Tryd.info3
  have hyi := hy
  rcases hy.2 with ⟨rfl, hn⟩ | ⟨g, c, cur, rfl, h2, h3, h4, h5, h6, h7⟩
  · have : ys = [] := List.eq_nil_of_length_eq_zero hn
    subst this
    refine wpList_append_own_none hgd s x 40 ho B 3 i0 1 Tryd.underlying40 hi _ _ _ hs hown hx ?_
    have := h v w (by simpa using hown) (gb_refl _ _)
    simpa using this
  · refine wpList_append_own w hgd s x 40 ho B 3 i0 _ 1 8 Tryd.underlying40 hi hz0 hz1 hz2 rfl (by omega) v us.length _ hs hown ⟨g, 0, none⟩ ys.length c (ys.map fun n => Value.int .i64 (n : Nat)) hx (by simp) ?_ ?_ (by unfold maxLen; omega) (by omega) hB ?_
    · intro j u hu
      rw [Addr.add_mid, Nat.zero_add]
      exact row_cell hyi j u hu
    · intro u hu
      obtain ⟨z, _, rfl⟩ := List.mem_map.1 hu
      rfl
    · intro v' w' h1 h2 h3
      refine h v' w' ?_ h2
      unfold Ow
      rw [List.length_append, List.map_append]
      exact h1
end

/-- What a number of why adds as a key. -/
def rkey (y : Int) : List Nat := if y = 0 then [1, 6] else if y = 1 then [1, 7] else if y = 2 then [1, 7, 8] else if y = 3 then [1, 7, 9] else []
def rtouch (y : Int) : List Nat := if y = 0 then [3, 19] else if 1 ≤ y ∧ y ≤ 3 then [3, 20] else []
def rby (why : List Int) (bar : Bool) (h m : Nat) : List Nat :=
  match why with
  | [] => []
  | y :: _ => if y = 0 ∧ bar = false then [h] else if 1 ≤ y ∧ y ≤ 3 then [m] else []
def reither (k good : Int) (h m : Nat) : List Nat := if k = good then [h] else if k = 4 then [m] else []
/-- A call that tells a list of names, in new memory. -/
def TellsL (f : FuncId) (args : Array Value) (w : World) (l : List Nat) : Prop :=
  Calls Tryd.prog f args w fun e w' => ∃ v, e = .returned v ∧ Ow w' w.heap.size v l ∧ w.grownBy w' none
theorem tells_nil {w : World} {l : List Nat} (h : l = []) : Ow w w.heap.size (.slice none 0 0) l := by subst h; exact Ow.nil _ _
set_option maxRecDepth 100000 in
set_option maxHeartbeats 4000000 in
theorem asKey_67 (y : Int) (w : World) : TellsL 67 #[.int .i64 y] w (rkey y) := by
  unfold TellsL
  by_cases h0 : y = 0
  · subst h0
    go_enter Tryd.func67, Tryd.ntmps67
    go_wp2
    go_ret
    exact ⟨_, rfl, Ow.new w [1, 6] _ rfl (by simp), World.grownBy_alloc w _ none⟩
  by_cases h1 : y = 1
  · subst h1
    go_enter Tryd.func67, Tryd.ntmps67
    go_wp2
    go_ret
    exact ⟨_, rfl, Ow.new w [1, 7] _ rfl (by simp), World.grownBy_alloc w _ none⟩
  by_cases h2 : y = 2
  · subst h2
    go_enter Tryd.func67, Tryd.ntmps67
    go_wp2
    go_ret
    exact ⟨_, rfl, Ow.new w [1, 7, 8] _ rfl (by simp), World.grownBy_alloc w _ none⟩
  by_cases h3 : y = 3
  · subst h3
    go_enter Tryd.func67, Tryd.ntmps67
    go_wp2
    go_ret
    exact ⟨_, rfl, Ow.new w [1, 7, 9] _ rfl (by simp), World.grownBy_alloc w _ none⟩
  go_enter Tryd.func67, Tryd.ntmps67
  go_wp2
  go_ret
  exact ⟨_, rfl, tells_nil (by simp [rkey, h0, h1, h2, h3]), gb_refl _ _⟩
set_option maxRecDepth 100000 in
set_option maxHeartbeats 4000000 in
theorem asTouch_70 (y : Int) (w : World) : TellsL 70 #[.int .i64 y] w (rtouch y) := by
  unfold TellsL
  by_cases h0 : y = 0
  · subst h0
    go_enter Tryd.func70, Tryd.ntmps70
    go_wp2
    go_ret
    exact ⟨_, rfl, Ow.new w [3, 19] _ rfl (by simp), World.grownBy_alloc w _ none⟩
  by_cases h1 : 1 ≤ y
  · by_cases h2 : y ≤ 3
    · rw [show rtouch y = [3, 20] from by simp [rtouch, h0, h1, h2]]
      go_enter Tryd.func70, Tryd.ntmps70
      go_wp2
      go_ret
      exact ⟨_, rfl, Ow.new w [3, 20] _ rfl (by simp), World.grownBy_alloc w _ none⟩
    · go_enter Tryd.func70, Tryd.ntmps70
      go_wp2
      go_ret
      exact ⟨_, rfl, tells_nil (by simp [rtouch, h0, h1, h2]), gb_refl _ _⟩
  · go_enter Tryd.func70, Tryd.ntmps70
    go_wp2
    go_ret
    exact ⟨_, rfl, tells_nil (by simp [rtouch, h0]; omega), gb_refl _ _⟩
set_option maxRecDepth 100000 in
set_option maxHeartbeats 4000000 in
theorem either_71 (k good : Int) (h m : Nat) (zh zm : Int) (eh : zh = h) (em : zm = m) (w : World) : TellsL 71 #[.int .i64 k, .int .i64 good, .int .i64 zh, .int .i64 zm] w (reither k good h m) := by
  subst eh em
  unfold TellsL
  by_cases h0 : k = good
  · subst h0
    rw [show reither k k h m = [h] from by simp [reither]]
    go_enter Tryd.func71, Tryd.ntmps71
    go_wp2
    go_ret
    exact ⟨_, rfl, Ow.new w [h] _ rfl (by simp), World.grownBy_alloc w _ none⟩
  by_cases h1 : k = 4
  · subst h1
    rw [show reither 4 good h m = [m] from by simp [reither, h0]]
    go_enter Tryd.func71, Tryd.ntmps71
    go_wp2
    go_ret
    exact ⟨_, rfl, Ow.new w [m] _ rfl (by simp), World.grownBy_alloc w _ none⟩
  go_enter Tryd.func71, Tryd.ntmps71
  go_wp2
  go_ret
  exact ⟨_, rfl, tells_nil (by simp [reither, h0, h1]), gb_refl _ _⟩
set_option maxRecDepth 100000 in
set_option maxHeartbeats 4000000 in
theorem by_69 (v : Value) (why : List Int) (bar : Bool) (h m : Nat) (zh zm : Int) (eh : zh = h) (em : zm = m) (w : World) (hv : Ints w v why) : TellsL 69 #[v, .bool bar, .int .i64 zh, .int .i64 zm] w (rby why bar h m) := by
  subst eh em
  unfold TellsL
  obtain ⟨ao, c, rfl, hlc, hc, hx⟩ := hv
  unfold maxLen at hc
  match why, hx, hlc with
  | [], hx, hlc =>
    go_enter Tryd.func69, Tryd.ntmps69
    go_wp2
    go_ret
    exact ⟨_, rfl, tells_nil rfl, gb_refl _ _⟩
  | y :: l, hx, hlc =>
    obtain ⟨g, o, rfl, hcell⟩ := hx 0 y rfl
    simp only [List.length_cons, Nat.add_zero] at *
    have d1 : ¬ ((l.length : Int) + 1 = 0) := by omega
    have d2 : (0 : Int) < (l.length : Int) + 1 := by omega
    clear hx
    by_cases h0 : y = 0
    · subst h0
      cases bar
      · rw [show rby (0 :: l) false h m = [h] from by simp [rby]]
        go_enter Tryd.func69, Tryd.ntmps69
        go_wp2
        go_ret
        exact ⟨_, rfl, Ow.new w [h] _ rfl (by simp), World.grownBy_alloc w _ none⟩
      · go_enter Tryd.func69, Tryd.ntmps69
        go_wp2
        go_ret
        exact ⟨_, rfl, tells_nil (by simp [rby]), gb_refl _ _⟩
    · by_cases h1 : 1 ≤ y
      · by_cases h2 : y ≤ 3
        · rw [show rby (y :: l) bar h m = [m] from by simp [rby, h0, h1, h2]]
          go_enter Tryd.func69, Tryd.ntmps69
          go_wp2
          go_ret
          exact ⟨_, rfl, Ow.new w [m] _ rfl (by simp), World.grownBy_alloc w _ none⟩
        · go_enter Tryd.func69, Tryd.ntmps69
          go_wp2
          go_ret
          exact ⟨_, rfl, tells_nil (by simp [rby, h0, h1, h2]), gb_refl _ _⟩
      · go_enter Tryd.func69, Tryd.ntmps69
        go_wp2
        go_ret
        exact ⟨_, rfl, tells_nil (by simp [rby, h0]; omega), gb_refl _ _⟩
end Go.Proofs.YtonbkpfnpnlkpaaDoor

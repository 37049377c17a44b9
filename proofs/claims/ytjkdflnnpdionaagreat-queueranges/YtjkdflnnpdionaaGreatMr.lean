import Derived.Test.YtjkdflnnpdionaaGreatWm
import Derived.Laws.AppendOwnNone
import Derived.Deep.AppendLies
import Derived.Laws.OwnMore
/-
  The document's lists: at, without.
-/
namespace Go.Proofs.YtjkdflnnpdionaaGreat
open Go.RowKit
set_option linter.unusedVariables false

set_option maxRecDepth 100000 in
set_option maxHeartbeats 1000000 in
/-- at, of a handle that stands there. -/
theorem rat_yes {w : World} {v : Value} {xs U V : List Nat} {H : Nat} (h : w.ownsRow 0 26 1 v xs.length (uvs xs)) (hl : xs.length ≤ 1099511627776) (hX : xs = U ++ H :: V) (hno : H ∉ U) :
    Calls Tryz.prog 80 #[v, .int .u64 H] w fun y w' => y = .returned (.int .i64 (U.length : Nat)) ∧ w = w' := by
  obtain ⟨ao, cc, rfl, _, _, _, hao⟩ := row_shape h
  have hlen : xs.length = U.length + V.length + 1 := by rw [hX]; simp; omega
  obtain ⟨gg, rfl⟩ := hao (by omega)
  have hcell : ∀ k, k < U.length → ∃ v, w.cell? ⟨gg, k, none⟩ = some (.int .u64 ((v : Nat) : Int)) ∧ v ≠ H := fun k hk => by
    refine ⟨U[k], row_cell h _ _ (uvs_get ?_), fun e => hno (e ▸ List.getElem_mem hk)⟩
    rw [hX, List.getElem?_append_left hk, List.getElem?_eq_getElem hk]
  have hc0 : w.cell? ⟨gg, U.length, none⟩ = some (.int .u64 (H : Int)) := row_cell h _ _ (uvs_get (by rw [hX]; simp))
  clear h hao hno hX
  generalize U.length = m at *
  generalize xs.length = n at *
  go_enter Tryz.func80, Tryz.ntmps80
  go_wp2
  go_loopw [5] (fun iv wr => ∃ (k : Nat), iv = .int .i64 k ∧ k ≤ m ∧ wr = w) (fun iv _ => n - (intOf iv).toNat)
  case atStart => exact ⟨0, rfl, by omega, rfl⟩
  case round =>
    obtain ⟨k, rfl, hk, rfl⟩ := hrel
    have hkz : (k : Int) < (n : Int) := by omega
    have hd : decide ((k : Int) < n) = true := decide_eq_true hkz
    by_cases hk2 : k < m
    · obtain ⟨v, hc, hv⟩ := hcell k hk2
      have hne2 : ¬ ((v : Nat) : Int) = (H : Int) := by omega
      clear hcell hc0
      go_wp2
      exact ⟨⟨k + 1, by go_num, by omega, trivial⟩, by simp [intOf]; omega⟩
    · obtain rfl : k = m := by omega
      clear hcell
      go_wp2
      go_ret
      exact ⟨rfl, rfl⟩

theorem wo_snoc (T : List Nat) (m x : Nat) : (T ++ [x]).take m ++ (T ++ [x]).drop (m + 1) = (T.take m ++ T.drop (m + 1)) ++ (if T.length = m then [] else [x]) := by
  rcases Nat.lt_trichotomy T.length m with h1 | h1 | h1
  · rw [if_neg (by omega), List.take_of_length_le (show (T ++ [x]).length ≤ m by simp; omega), List.take_of_length_le (show T.length ≤ m by omega), List.drop_of_length_le (show (T ++ [x]).length ≤ m + 1 by simp; omega), List.drop_of_length_le (show T.length ≤ m + 1 by omega)]
    simp
  · rw [if_pos h1, List.take_append_of_le_length (show m ≤ T.length by omega), List.drop_of_length_le (show (T ++ [x]).length ≤ m + 1 by simp; omega), List.drop_of_length_le (show T.length ≤ m + 1 by omega)]
    simp
  · rw [if_neg (by omega), List.take_append_of_le_length (show m ≤ T.length by omega), List.drop_append_of_le_length (show m + 1 ≤ T.length by omega), List.append_assoc]

set_option maxRecDepth 100000 in
set_option maxHeartbeats 2000000 in
/-- without. -/
theorem without_95 {w : World} {v : Value} {xs U V : List Nat} {H : Nat} (h : w.ownsRow 0 26 1 v xs.length (uvs xs)) (hl : xs.length ≤ 1000000) (hX : xs = U ++ H :: V) :
    Calls Tryz.prog 87 #[v, .int .i64 (U.length : Nat)] w fun y w' => ∃ v', y = .returned v' ∧ w.grownBy w' none ∧ w'.ownsRow w.heap.size 26 1 v' (U ++ V).length (uvs (U ++ V)) := by
  obtain ⟨ao, cc, rfl, _, _, _, hao⟩ := row_shape h
  have hlen : xs.length = U.length + V.length + 1 := by rw [hX]; simp; omega
  obtain ⟨gg, rfl⟩ := hao (by omega)
  have hcell : ∀ k (hk : k < xs.length), ∀ W, w.grownBy W none → W.cell? ⟨gg, k, none⟩ = some (.int .u64 ((xs[k] : Nat) : Int)) := fun k hk W hg => gb_cellN hg (row_cell h _ _ (uvs_get (by simp [hk])))
  obtain ⟨n, hn⟩ : ∃ n, xs.length = n := ⟨_, rfl⟩
  obtain ⟨m, hm⟩ : ∃ m, U.length = m := ⟨_, rfl⟩
  have hwl : (U ++ V) = xs.take m ++ (xs.take n).drop (m + 1) := by
    rw [← hm, ← hn, List.take_length, hX]; simp
  rw [hwl]
  have hap : ∀ k (hk : k < xs.length), (xs.take (k + 1)).take m ++ (xs.take (k + 1)).drop (m + 1) = ((xs.take k).take m ++ (xs.take k).drop (m + 1)) ++ (if k = m then [] else [xs[k]]) := fun k hk => by
    have h1 := wo_snoc (xs.take k) m xs[k]
    rw [show (xs.take k).length = k by simp; omega] at h1
    rw [List.take_add_one, List.getElem?_eq_getElem hk]
    exact h1
  rw [hn, hm] at hlen ⊢
  rw [hn] at hl
  rw [show xs.take m = (xs.take n).take m by rw [← hn, List.take_length]]
  have hmn : m < n := by omega
  clear h hao hwl hX hlen
  go_enter Tryz.func87, Tryz.ntmps87
  go_wp2
  go_loopw [5, 6] (fun ov kv wr => ∃ (k : Nat) (ys : List Nat), k ≤ n ∧ kv = .int .i64 k ∧ ys = (xs.take k).take m ++ (xs.take k).drop (m + 1) ∧ wr.ownsRow w.heap.size 26 1 ov ys.length (uvs ys) ∧ w.grownBy wr none) (fun _ kv _ => n - (intOf kv).toNat)
  case atStart => exact ⟨0, [], by omega, rfl, by simp, World.ownsRow_nil _ _ _ _, gb_refl _ _⟩
  case round =>
    obtain ⟨k, ys, hk, rfl, hys, ho, hg⟩ := hrel
    have hyl : ys.length ≤ n := by rw [hys]; simp; omega
    obtain ⟨oa, oc, rfl, _, _, _, _⟩ := row_shape ho
    by_cases hlt : k < n
    · have hd1 : decide ((k : Int) < n) = true := decide_eq_true (by omega)
      have hli : (k : Int) < n := by omega
      have hcl := hcell k (by omega) wr hg
      have hsn := hap k (by omega)
      rw [← hys] at hsn
      obtain ⟨xi, hxi⟩ : ∃ xi, xs[k]'(by omega) = xi := ⟨_, rfl⟩
      rw [hxi] at hcl hsn
      by_cases hx : k = m
      · have hxx : ((k : Nat) : Int) = (m : Int) := by omega
        have HE : Hid (ys = (xs.take (k + 1)).take m ++ (xs.take (k + 1)).drop (m + 1)) := by
          show _ = _
          rw [hsn, if_pos hx]; simp
        clear hsn hys hcell hap hxi
        subst hx
        go_wp2
        exact ⟨⟨k + 1, ys, by omega, by go_num, HE.out, ho, hg⟩, by simp [intOf]; omega⟩
      · have hxx : ¬ ((k : Nat) : Int) = (m : Int) := by omega
        have HE : Hid (ys ++ [xi] = (xs.take (k + 1)).take m ++ (xs.take (k + 1)).drop (m + 1)) := by
          show _ = _
          rw [hsn, if_neg hx]
        have cb : ∀ o, (wr.alloc o).cell? ⟨gg, k, none⟩ = some (.int .u64 xi) := fun o => gb_cellN (World.grownBy_alloc wr o none) hcl
        have hsz := hg.size
        clear hsn hys hcell hap hxi
        go_wp2_with (at_builtin; go_must (refine push26 rfl _ _ rfl w.heap.size (.slice oa ys.length oc) ys.length (uvs ys) (by rfl) ho (xi : Int) (by rfl) (by omega) hsz ?_); intro g1 cap1 w4 ho4 hg4 hat4)
        have hlo : ∀ k, (Value.slice oa ys.length oc).ownBlock = some k → w.heap.size ≤ k := fun k hk => by
          rcases ho.2 with ⟨h1, _⟩ | ⟨g, cap, cur, h1, h2, _⟩
          · rw [h1] at hk; simp [Value.ownBlock] at hk
          · rw [h1] at hk; simp [Value.ownBlock] at hk; omega
        have hg5 : w.grownBy w4 none := gb_far hg hg4 hlo (Nat.le_refl _)
        exact ⟨⟨k + 1, ys ++ [xi], by omega, by go_num, HE.out, by rw [uvs_app, List.length_append]; exact ho4, hg5⟩, by simp [intOf]; omega⟩
    · obtain rfl : k = n := by omega
      have hd1 : decide ((k : Int) < k) = false := decide_eq_false (by omega)
      have HE : Hid _ := hys
      clear hys hcell hap
      go_wp2
      go_ret
      refine ⟨_, rfl, hg, ?_⟩
      rw [← HE.out]
      exact ho
end Go.Proofs.YtjkdflnnpdionaaGreat
/-
  The document's lists in memory: Where, list, All, Len, Tail.
-/
namespace Go.Proofs.YtjkdflnnpdionaaGreat
open Go.RowKit
set_option linter.unusedVariables false

/-- The document's nine lists. -/
structure RL (w : World) (lsb : Nat) (vs : Nat → Value) (Y : Nat → List Nat) : Prop where
  blk : Box w 45 lsb #[vs 0, vs 1, vs 2, vs 3, vs 4, vs 5, vs 6, vs 7, vs 8]
  ls : ∀ j, j < 9 → w.ownsRow 0 26 1 (vs j) (Y j).length (uvs (Y j))
  ln : ∀ j, j < 9 → (Y j).length ≤ 1000
theorem RL.cell {w : World} {lsb : Nat} {vs : Nat → Value} {Y : Nat → List Nat} (h : RL w lsb vs Y) {j : Nat} (hj : j < 9) : w.cell? ⟨lsb, j, none⟩ = some (vs j) := by
  rw [h.blk.cell j]
  have hj' : j = 0 ∨ j = 1 ∨ j = 2 ∨ j = 3 ∨ j = 4 ∨ j = 5 ∨ j = 6 ∨ j = 7 ∨ j = 8 := by omega
  rcases hj' with rfl | rfl | rfl | rfl | rfl | rfl | rfl | rfl | rfl <;> rfl
theorem RL.kept0 {w w' : World} {lsb : Nat} {vs : Nat → Value} {Y : Nat → List Nat} (h : RL w lsb vs Y) (hf : w.grownBy w' none) : RL w' lsb vs Y :=
  ⟨h.blk.kept hf (by simp), fun j hj => row_kept (h.ls j hj) hf (by simp), h.ln⟩

section
variable {w : World} {lb rb lsb : Nat} {lv : Value} {vs : Nat → Value} {Y : Nat → List Nat}
set_option maxRecDepth 100000 in
set_option maxHeartbeats 2000000 in
/-- Where. -/
theorem where_50 (hb : Box w 123 lb #[.pointer (some ⟨rb, 0, none⟩), lv, .slice (some ⟨lsb, 0, none⟩) 9 9]) (h : RL w lsb vs Y) {H : Nat} :
    Calls Tryz.prog 85 #[.pointer (some ⟨lb, 0, none⟩), .int .u64 H] w fun y w' => w = w' ∧ ((y = .returned (.tuple #[.int .i64 (-1), .int .i64 (-1)]) ∧ ∀ j, j < 9 → H ∉ Y j) ∨ ∃ j U V, j < 9 ∧ y = .returned (.tuple #[.int .i64 (j : Nat), .int .i64 (U.length : Nat)]) ∧ Y j = U ++ H :: V ∧ H ∉ U ∧ ∀ j', j' < j → H ∉ Y j') := by
  have c2 := hb.cell 2
  simp at c2
  have hC := fun j hj => h.cell (j := j) hj
  have hA : ∀ j, j < 9 → (H ∉ Y j ∧ Calls Tryz.prog 80 #[vs j, .int .u64 H] w fun y w' => y = .returned (.int .i64 (-1)) ∧ w = w') ∨ (∃ U V, Y j = U ++ H :: V ∧ H ∉ U ∧ Calls Tryz.prog 80 #[vs j, .int .u64 H] w fun y w' => y = .returned (.int .i64 (U.length : Nat)) ∧ w = w') := fun j hj => by
    have hl := h.ln j hj
    by_cases hm : H ∈ Y j
    · obtain ⟨U, V, e1, e2⟩ := List.eq_append_cons_of_mem hm
      exact .inr ⟨U, V, e1, e2, rat_yes (h.ls j hj) (by omega) e1 e2⟩
    · refine .inl ⟨hm, ?_⟩
      have hr := h.ls j hj
      obtain ⟨ao, cc, hv, _, _, _, _⟩ := row_shape hr
      rw [hv] at hr ⊢
      exact rat_no hr (by omega) hm
  clear h
  go_enter Tryz.func85, Tryz.ntmps85
  go_wp2
  go_loopw [6] (fun iv wr => ∃ (i : Nat), iv = .int .i64 i ∧ i ≤ 9 ∧ wr = w ∧ ∀ j, j < i → H ∉ Y j) (fun iv _ => 9 - (intOf iv).toNat)
  case atStart => exact ⟨0, rfl, by omega, rfl, fun j hj => by omega⟩
  case round =>
    obtain ⟨i, rfl, hi, rfl, hno⟩ := hrel
    by_cases hi9 : i < 9
    · have hd : decide ((i : Int) < 9) = true := decide_eq_true (by omega)
      have hli : (i : Int) < 9 := by omega
      have ci := hC i hi9
      rcases hA i hi9 with ⟨h1, h2⟩ | ⟨U, V, h1, h2, h3⟩
      · have HN : Hid (∀ j, j < i + 1 → H ∉ Y j) := fun j hj => by
          rcases Nat.lt_or_ge j i with h4 | h4
          · exact hno j h4
          · obtain rfl : j = i := by omega
            exact h1
        clear hA hC hno
        go_wp2_with (go_at_call 80; go_must (with_reducible refine h2.mono ?_); rintro y w' ⟨rfl, rfl⟩)
        exact ⟨⟨i + 1, by go_num, by omega, trivial, HN.out⟩, by simp [intOf]; omega⟩
      · have HF : Hid _ := And.intro h1 (And.intro h2 hno)
        have hge : (U.length : Int) ≥ 0 := by omega
        have hge2 : decide ((U.length : Int) ≥ 0) = true := decide_eq_true hge
        clear hA hC hno h1 h2
        generalize hul : U.length = ul at *
        go_wp2_with (go_at_call 80; go_must (with_reducible refine h3.mono ?_); rintro y w' ⟨rfl, rfl⟩)
        go_ret2
        exact ⟨rfl, .inr ⟨i, U, V, hi9, by rw [hul]; rfl, HF.out.1, HF.out.2.1, HF.out.2.2⟩⟩
    · obtain rfl : i = 9 := by omega
      clear hA hC
      go_wp2
      go_ret2
      exact ⟨rfl, .inl ⟨rfl, hno⟩⟩
end
end Go.Proofs.YtjkdflnnpdionaaGreat
/-
  append of a list's elements.
-/
namespace Go.Proofs.YtjkdflnnpdionaaGreat
open Go.RowKit
set_option linter.unusedVariables false

theorem own_new {w : World} {us : List Value} {n : Nat} (hn : us.length = n) (hm : n ≤ maxLen) : (w.alloc (.cells us.toArray 26)).ownsRow w.heap.size 26 1 (.slice (some ⟨w.heap.size, 0, none⟩) n n) n us := by
  refine ⟨by omega, .inr ⟨w.heap.size, n, us.toArray, rfl, Nat.le_refl _, heap_alloc_new w _, Nat.le_refl _, hm, by simp [hn], ?_⟩⟩
  rw [List.take_of_length_le (by simp [hn])]
/-- The cells of a part of a row. -/
theorem part_cells {w : World} {B g cap : Nat} {xs : List Nat} (h : w.ownsRow B 26 1 (.slice (some ⟨g, 0, none⟩) xs.length cap) xs.length (uvs xs)) (o n : Nat) (hn : o + n ≤ xs.length) : ∀ j u, (uvs ((xs.drop o).take n))[j]? = some u → w.cell? ((⟨g, o, none⟩ : Addr).add j) = some u := fun j u hj => by
  rw [Addr.add_mid]
  refine row_cell h _ _ ?_
  simp only [uvs, List.getElem?_map, List.getElem?_take, List.getElem?_drop] at hj ⊢
  split at hj
  · exact hj
  · simp at hj
theorem cell_new8 (w : World) (x : Int) : (w.alloc (.cells #[.int .u64 x] 26)).cell? ⟨w.heap.size, 0, none⟩ = some (.int .u64 x) := cell_of_row _ _ 0 _ _ _ (heap_alloc_new w _)
theorem news1 {W : World} {b : Nat} {H : Nat} (h : W.cell? ⟨b, 0, none⟩ = some (.int .u64 (H : Int))) : ∀ t u, [Value.int .u64 (H : Int)][t]? = some u → W.cell? ((⟨b, 0, none⟩ : Addr).add t) = some u := fun t u ht => by
  cases t with
  | zero =>
    simp at ht
    rw [Addr.add_mid, ← ht]
    exact h
  | succ t => simp at ht
theorem uvs_one (xs : List Nat) : ∀ u ∈ uvs xs, u.oneCell' = true := fun u hu => by
  obtain ⟨z, _, rfl⟩ := List.mem_map.1 hu
  rfl

section
variable {w : World} {ops : Array Oper} {rest : List Oper} {o : Oper} {a : Act} {Q : Exit → Act → World → Prop}
theorem front26 (hgd : o.guard = none) (s x : Operand) (ho : o.op = .call { callee := .builtin .append, args := #[s, x], argTypes := #[45, 45] })
    (base : Nat) (wv : Value) (xs : List Nat) (hx : a.eval x = wv) (hrow : w.ownsRow base 26 1 wv xs.length (uvs xs)) (hn : xs.length ≤ 1000000) (hs : a.eval s = .slice (some ⟨w.heap.size, 0, none⟩) 1 1) (u : Nat) (hb : base ≤ w.heap.size)
    (h : ∀ v' w', w'.ownsRow base 26 1 v' (u :: xs).length (uvs (u :: xs)) → w.grownBy w' none → (∀ g, v'.ownBlock = some g → w.heap.size ≤ g) → wpList Tryz.prog ops Q rest (a.put o.dst v') w') : wpList Tryz.prog ops Q (o :: rest) a (w.alloc (.cells #[.int .u64 (u : Int)] 26)) := by
  obtain ⟨i0, hi, hz0, hz1, hz2⟩ := info_parts Tryz.info26
  have hal := World.grownBy_alloc w (.cells #[.int .u64 (u : Int)] 26) none
  have hown : (w.alloc (.cells #[.int .u64 (u : Int)] 26)).ownsRow w.heap.size 26 1 (.slice (some ⟨w.heap.size, 0, none⟩) 1 1) 1 [.int .u64 (u : Int)] := own_new (us := [.int .u64 (u : Int)]) rfl (by unfold maxLen; omega)
  have hsz : (w.alloc (.cells #[.int .u64 (u : Int)] 26)).heap.size = w.heap.size + 1 := by simp
  have hrow1 := row_kept hrow hal (by simp)
  obtain ⟨ao, cap, rfl, _, _, _, hao⟩ := row_shape hrow
  have fin : ∀ v' w', w'.ownsRow w.heap.size 26 1 v' (1 + xs.length) ([.int .u64 (u : Int)] ++ uvs xs) → (w.alloc (.cells #[.int .u64 (u : Int)] 26)).grownBy w' (some w.heap.size) → wpList Tryz.prog ops Q rest (a.put o.dst v') w' := fun v' w' h1 h2 => by
    refine h v' w' ?_ (gb_mine hal h2 (Nat.le_refl _)) (fun g hg => (h1.lt g hg).1)
    have := row_base h1 hb
    rw [Nat.add_comm] at this
    exact this
  by_cases h0 : xs = []
  · subst h0
    cases ao with
    | none =>
      have hc0 : cap = 0 := by
        rcases hrow.2 with ⟨e1, _⟩ | ⟨g, c, cur, hv, _⟩
        · simp at e1; exact e1
        · simp at hv
      subst hc0
      refine wpList_append_own_none hgd s x 45 ho w.heap.size 26 i0 1 Tryz.underlying45 hi _ _ _ hs hown hx ?_
      exact fin _ _ (by simpa [uvs] using hown) (gb_refl _ _)
    | some ad =>
      refine wpList_append_own _ hgd s x 45 ho w.heap.size 26 i0 (.int .u64 0) 1 8 Tryz.underlying45 hi hz0 hz1 hz2 rfl (by decide) _ _ _ hs hown ad 0 cap [] hx rfl (by simp) (by simp) (by unfold maxLen; omega) (by omega) (by omega) ?_
      intro v' w' h1 h2 _
      exact fin v' w' (by simpa [uvs] using h1) h2
  · have hpos : 0 < xs.length := List.length_pos_iff.2 h0
    obtain ⟨g, rfl⟩ := hao hpos
    refine wpList_append_own _ hgd s x 45 ho w.heap.size 26 i0 (.int .u64 0) 1 8 Tryz.underlying45 hi hz0 hz1 hz2 rfl (by decide) _ _ _ hs hown ⟨g, 0, none⟩ xs.length cap (uvs xs) hx (by simp [uvs]) ?_ (uvs_one xs) (by unfold maxLen; omega) (by omega) (by omega) ?_
    · have := part_cells hrow1 0 xs.length (by omega)
      simpa using this
    · intro v' w' h1 h2 _
      exact fin v' w' h1 h2
end

/-- append in a region that draws. -/
theorem step_app26 {w : World} {ops : Array Oper} {o : Oper} {a : Act} {K : Act → World → Prop} {Q : Exit → Act → World → Prop} {E : Prop} (hgd : o.guard = none) (s x : Operand)
    (ho : o.op = .call { callee := .builtin .append, args := #[s, x], argTypes := #[45, 45] })
    (base g n cap : Nat) (xs : List Value) (hs : a.eval s = .slice (some ⟨g, 0, none⟩) n cap) (hown : w.ownsRow base 26 1 (.slice (some ⟨g, 0, none⟩) n cap) n xs)
    (ad : Addr) (m c : Nat) (news : List Value) (hx : a.eval x = .slice (some ad) m c) (hl : news.length = m) (hnews : ∀ j u, news[j]? = some u → w.cell? (ad.add j) = some u) (h1 : ∀ u ∈ news, u.oneCell' = true)
    (hlen : n + m ≤ 1000000) (hbase : base ≤ w.heap.size)
    (h : ∀ g' cap' w', w'.ownsRow base 26 1 (.slice (some ⟨g', 0, none⟩) (n + m) cap') (n + m) (xs ++ news) → w.grownBy w' (some g) → (g' = g ∨ w.heap.size ≤ g') → K (a.put o.dst (.slice (some ⟨g', 0, none⟩) (n + m) cap')) w') :
    if Region.wanted o (yielded ops a.tmps) = true then Oper.wp Tryz.prog o a w K Q else E := by
  obtain ⟨i0, hi, hz0, hz1, hz2⟩ := info_parts Tryz.info26
  rcases Nat.eq_zero_or_pos m with h0 | h0
  · subst h0
    have hw : Region.wanted o (yielded ops a.tmps) = true := by simp [Region.wanted, hgd]
    rw [if_pos hw]
    have hnc : n + 0 ≤ cap := by
      obtain ⟨ao, cap', e, _, h2, _⟩ := row_shape hown
      simp at e
      omega
    obtain ⟨w', hr, h2, h3⟩ := run_append_fits (P := Tryz.prog) w base 45 o.type 26 i0 1 Tryz.underlying45 hi hz1 g n cap xs hown ad 0 c news (by omega) hnews h1 hnc
    unfold Oper.wp execOp
    simp only [ho, resolve, invoke, builtin, Sem.run_bind, Sem.run_pure, Result.andThen_ok, List.map_toArray, List.map_cons, List.map_nil, hs, hx, hr]
    exact h g cap w' h2 h3 (.inl rfl)
  · refine step_append_lies w hgd s x 45 ho base 26 i0 (.int .u64 0) 1 8 Tryz.underlying45 hi hz0 hz1 hz2 rfl (by omega) _ n xs hs hown ad m c news hx (by omega) hnews h1 h0 (by unfold maxLen; omega) (by omega) hbase w.heap.size rfl ?_
    intro g' cap' w' h2 h3 h4 h5
    refine h g' cap' w' h2 h3 ?_
    rcases h4 with h4 | h4
    · simp [Value.ownBlock] at h4
      exact .inl h4.symm
    · exact .inr (by omega)


section
variable {w : World} {ops : Array Oper} {rest : List Oper} {o : Oper} {a : Act} {Q : Exit → Act → World → Prop}
/-- append([]uint64{}, xs...). -/
theorem copy26 (hgd : o.guard = none) (s x : Operand) (ho : o.op = .call { callee := .builtin .append, args := #[s, x], argTypes := #[45, 45] })
    (base : Nat) (wv : Value) (xs : List Nat) (hx : a.eval x = wv) (hrow : w.ownsRow base 26 1 wv xs.length (uvs xs)) (hn : xs.length ≤ 1000000) (hs : a.eval s = .slice (some ⟨w.heap.size, 0, none⟩) 0 0)
    (h : ∀ v' w', w'.ownsRow w.heap.size 26 1 v' xs.length (uvs xs) → w.grownBy w' none → v' ≠ .slice none 0 0 → wpList Tryz.prog ops Q rest (a.put o.dst v') w') : wpList Tryz.prog ops Q (o :: rest) a (w.alloc (.cells #[] 26)) := by
  obtain ⟨i0, hi, hz0, hz1, hz2⟩ := info_parts Tryz.info26
  have hal := World.grownBy_alloc w (.cells #[] 26) none
  have hown : (w.alloc (.cells #[] 26)).ownsRow w.heap.size 26 1 (.slice (some ⟨w.heap.size, 0, none⟩) 0 0) 0 [] := own_new (us := []) rfl (by unfold maxLen; omega)
  have hrow1 := row_kept hrow hal (by simp)
  obtain ⟨ao, cap, rfl, _, _, _, hao⟩ := row_shape hrow
  by_cases h0 : xs = []
  · subst h0
    cases ao with
    | none =>
      have hc0 : cap = 0 := by
        rcases hrow.2 with ⟨e1, _⟩ | ⟨g, c, cur, hv, _⟩
        · simp at e1; exact e1
        · simp at hv
      subst hc0
      refine wpList_append_own_none hgd s x 45 ho w.heap.size 26 i0 1 Tryz.underlying45 hi _ _ _ hs hown hx ?_
      exact h _ _ (by simpa [uvs] using hown) hal (by simp)
    | some ad =>
      refine wpList_append_own _ hgd s x 45 ho w.heap.size 26 i0 (.int .u64 0) 1 8 Tryz.underlying45 hi hz0 hz1 hz2 rfl (by decide) _ _ _ hs hown ad 0 cap [] hx rfl (by simp) (by simp) (by unfold maxLen; omega) (by omega) (by simp) ?_
      intro v' w' h1 h2 h3
      exact h v' w' (by simpa [uvs] using h1) (gb_mine hal h2 (Nat.le_refl _)) (fun e => by have := h3.1 e; simp at this)
  · have hpos : 0 < xs.length := List.length_pos_iff.2 h0
    obtain ⟨g, rfl⟩ := hao hpos
    refine wpList_append_own _ hgd s x 45 ho w.heap.size 26 i0 (.int .u64 0) 1 8 Tryz.underlying45 hi hz0 hz1 hz2 rfl (by decide) _ _ _ hs hown ⟨g, 0, none⟩ xs.length cap (uvs xs) hx (by simp [uvs]) ?_ (uvs_one xs) (by unfold maxLen; omega) (by omega) (by simp) ?_
    · have := part_cells hrow1 0 xs.length (by omega)
      simpa using this
    · intro v' w' h1 h2 h3
      refine h v' w' ?_ (gb_mine hal h2 (Nat.le_refl _)) (fun e => by have := h3.1 e; simp at this)
      simpa using h1
end

end Go.Proofs.YtjkdflnnpdionaaGreat
/-
  The document's lists: list, All, Len, Tail.
-/
namespace Go.Proofs.YtjkdflnnpdionaaGreat
open Go.RowKit
set_option linter.unusedVariables false

/-- The document's queues, with their Set and its class count. -/
structure RQ (w : World) (lb rb lsb : Nat) (lv : Value) (vs : Nat → Value) (Y : Nat → List Nat) (szb szc : Nat) : Prop where
  box : Box w 123 lb #[.pointer (some ⟨rb, 0, none⟩), lv, .slice (some ⟨lsb, 0, none⟩) 9 9]
  rl : RL w lsb vs Y
  sz : w.cell? ⟨rb, 5, none⟩ = some (.slice (some ⟨szb, 0, none⟩) 3 szc)
section
variable {w : World} {lb rb lsb : Nat} {lv : Value} {vs : Nat → Value} {Y : Nat → List Nat} {szb szc : Nat}
theorem RQ.kept0 {w' : World} (h : RQ w lb rb lsb lv vs Y szb szc) (hf : w.grownBy w' none) : RQ w' lb rb lsb lv vs Y szb szc := ⟨h.box.kept hf (by simp), h.rl.kept0 hf, gb_cellN hf h.sz⟩
set_option maxRecDepth 100000 in
theorem list_yes (h : RQ w lb rb lsb lv vs Y szb szc) {c k : Nat} (hc : c < 3) (hk : k < 3) :
    Calls Tryz.prog 68 #[.pointer (some ⟨lb, 0, none⟩), .int .i64 c, .int .i64 ((k : Int) + 1)] w fun y w' => y = .returned (.int .i64 ((3 * c + k : Nat) : Int)) ∧ w = w' := by
  have c0 := h.box.cell 0
  simp at c0
  have cs := h.sz
  have d1 : ¬ (c : Int) < 0 := by omega
  have d2 : ¬ (c : Int) ≥ 3 := by omega
  have d2' : ¬ (3 : Int) ≤ (c : Int) := by omega
  have d3 : ¬ (k : Int) + 1 < 1 := by omega
  have d4 : ¬ (k : Int) + 1 > 3 := by omega
  have d4' : ¬ (3 : Int) < (k : Int) + 1 := by omega
  clear h
  go_enter Tryz.func68, Tryz.ntmps68
  go_wp2
  go_ret
  exact ⟨show Ending.returned (.int .i64 (3 * (c : Int) + ((k : Int) + 1) - 1)) = _ by rw [show 3 * (c : Int) + ((k : Int) + 1) - 1 = 3 * (c : Int) + (k : Int) by omega], rfl⟩
set_option maxRecDepth 100000 in
theorem list_no (h : RQ w lb rb lsb lv vs Y szb szc) {c k : Int} (hck : ¬ (0 ≤ c ∧ c < 3 ∧ 1 ≤ k ∧ k ≤ 3)) :
    Calls Tryz.prog 68 #[.pointer (some ⟨lb, 0, none⟩), .int .i64 c, .int .i64 k] w fun y w' => y = .returned (.int .i64 (-1)) ∧ w = w' := by
  have c0 := h.box.cell 0
  simp at c0
  have cs := h.sz
  clear h
  by_cases d1 : c < 0
  · clear hck
    go_enter Tryz.func68, Tryz.ntmps68
    go_wp2
    go_ret
    exact ⟨rfl, rfl⟩
  · by_cases d2 : c ≥ 3
    · have d2' : (3 : Int) ≤ c := d2
      clear hck
      go_enter Tryz.func68, Tryz.ntmps68
      go_wp2
      go_ret
      exact ⟨rfl, rfl⟩
    · have d2' : ¬ (3 : Int) ≤ c := d2
      by_cases d3 : k < 1
      · clear hck
        go_enter Tryz.func68, Tryz.ntmps68
        go_wp2
        go_ret
        exact ⟨rfl, rfl⟩
      · have d4 : k > 3 := by omega
        have d4' : (3 : Int) < k := d4
        clear hck
        go_enter Tryz.func68, Tryz.ntmps68
        go_wp2
        go_ret
        exact ⟨rfl, rfl⟩
theorem RL.shape (h : RL w lsb vs Y) {j : Nat} (hj : j < 9) : ∃ ao cc, vs j = .slice ao (Y j).length cc := by
  obtain ⟨ao, cc, hv, _⟩ := row_shape (h.ls j hj)
  exact ⟨ao, cc, hv⟩
set_option maxRecDepth 100000 in
set_option maxHeartbeats 1000000 in
/-- All. -/
theorem all_104 (h : RQ w lb rb lsb lv vs Y szb szc) {c k : Nat} (hc : c < 3) (hk : k < 3) :
    Calls Tryz.prog 20 #[.pointer (some ⟨lb, 0, none⟩), .int .i64 c, .int .i64 ((k : Int) + 1)] w fun y w' => ∃ v', y = .returned v' ∧ w.grownBy w' none ∧ w'.ownsRow w.heap.size 26 1 v' (Y (3 * c + k)).length (uvs (Y (3 * c + k))) := by
  have hl := list_yes h hc hk
  have hj : 3 * c + k < 9 := by omega
  obtain ⟨j, hjE⟩ : ∃ j, 3 * c + k = j := ⟨_, rfl⟩
  rw [hjE] at hl hj ⊢
  have c2 := h.box.cell 2
  simp at c2
  have cj := h.rl.cell hj
  have hr := h.rl.ls j hj
  have hn := h.rl.ln j hj
  have hj9 : (j : Int) < 9 := by omega
  have hj0 : ¬ (j : Int) < 0 := by omega
  have ca : ∀ o, (w.alloc o).cell? ⟨lb, 2, none⟩ = some (.slice (some ⟨lsb, 0, none⟩) 9 9) := fun o => gb_cellN (World.grownBy_alloc w o none) c2
  have cb : ∀ o, (w.alloc o).cell? ⟨lsb, j, none⟩ = some (vs j) := fun o => gb_cellN (World.grownBy_alloc w o none) cj
  clear h
  go_enter Tryz.func20, Tryz.ntmps20
  go_wp2_with (first | (go_at_call 68; go_must (refine hl.mono ?_); rintro y w' ⟨rfl, rfl⟩) | (at_builtin; go_must (refine copy26 rfl _ _ rfl 0 (vs j) (Y j) (by rfl) hr (by omega) (by rfl) ?_); intro v' w4 ho4 hg4 hne4) | fail)
  go_ret
  exact ⟨_, rfl, hg4, ho4⟩
set_option maxRecDepth 100000 in
theorem all_no (h : RQ w lb rb lsb lv vs Y szb szc) {c k : Int} (hck : ¬ (0 ≤ c ∧ c < 3 ∧ 1 ≤ k ∧ k ≤ 3)) :
    Calls Tryz.prog 20 #[.pointer (some ⟨lb, 0, none⟩), .int .i64 c, .int .i64 k] w fun y w' => y = .returned (.slice none 0 0) ∧ w = w' := by
  have hl := list_no h hck
  clear h
  go_enter Tryz.func20, Tryz.ntmps20
  go_wp2_with (first | (go_at_call 68; go_must (refine hl.mono ?_); rintro y w' ⟨rfl, rfl⟩) | fail)
  go_ret
  exact ⟨rfl, rfl⟩
set_option maxRecDepth 100000 in
theorem len_84 (h : RQ w lb rb lsb lv vs Y szb szc) {c k : Nat} (hc : c < 3) (hk : k < 3) :
    Calls Tryz.prog 91 #[.pointer (some ⟨lb, 0, none⟩), .int .i64 c, .int .i64 ((k : Int) + 1)] w fun y w' => y = .returned (.int .i64 (Y (3 * c + k)).length) ∧ w.grownBy w' none := by
  have hl := (all_104 h hc hk).mono (R' := fun y w' => ∃ ao cc, y = .returned (.slice ao (Y (3 * c + k)).length cc) ∧ w.grownBy w' none) (by
    rintro y w' ⟨v', rfl, hg, ho⟩
    obtain ⟨ao, cc, rfl, _⟩ := row_shape ho
    exact ⟨ao, cc, rfl, hg⟩)
  generalize (Y (3 * c + k)).length = n at *
  clear h
  go_enter Tryz.func91, Tryz.ntmps91
  go_wp2_with (first | (go_at_call 20; go_must (refine hl.mono ?_); rintro y w1 ⟨ao, cc, rfl, hg1⟩) | fail)
  go_ret
  exact ⟨rfl, hg1⟩
set_option maxRecDepth 100000 in
theorem len_no (h : RQ w lb rb lsb lv vs Y szb szc) {c k : Int} (hck : ¬ (0 ≤ c ∧ c < 3 ∧ 1 ≤ k ∧ k ≤ 3)) :
    Calls Tryz.prog 91 #[.pointer (some ⟨lb, 0, none⟩), .int .i64 c, .int .i64 k] w fun y w' => y = .returned (.int .i64 0) ∧ w = w' := by
  have hl := all_no h hck
  clear h
  go_enter Tryz.func91, Tryz.ntmps91
  go_wp2_with (first | (go_at_call 20; go_must (refine hl.mono ?_); rintro y w' ⟨rfl, rfl⟩) | fail)
  go_ret
  exact ⟨rfl, rfl⟩
set_option maxRecDepth 100000 in
set_option maxHeartbeats 1000000 in
/-- Tail. -/
theorem tail_64 (h : RQ w lb rb lsb lv vs Y szb szc) {c k : Nat} (hc : c < 3) (hk : k < 3) (v : Nat) (hv : (Y (3 * c + k)).getLastD 0 = v) (hz : 0 ∉ Y (3 * c + k)) :
    Calls Tryz.prog 89 #[.pointer (some ⟨lb, 0, none⟩), .int .i64 c, .int .i64 ((k : Int) + 1)] w fun y w' => y = .returned (.tuple #[.int .u64 v, .bool (decide (¬ v = 0))]) ∧ w.grownBy w' none := by
  have hn9 := h.rl.ln (3 * c + k) (by omega)
  have ha := all_104 h hc hk
  clear h
  generalize Y (3 * c + k) = xs at *
  rcases List.eq_nil_or_concat xs with rfl | ⟨U, H, rfl⟩
  · have hl := ha.mono (R' := fun y w' => ∃ ao cc, y = .returned (.slice ao 0 cc) ∧ w.grownBy w' none) (by
      rintro y w' ⟨v', rfl, hg, ho⟩
      obtain ⟨ao, cc, rfl, _⟩ := row_shape ho
      exact ⟨ao, cc, rfl, hg⟩)
    simp at hv
    subst hv
    clear ha
    go_enter Tryz.func89, Tryz.ntmps89
    go_wp2_with (first | (go_at_call 20; go_must (refine hl.mono ?_); rintro y w1 ⟨ao, cc, rfl, hg1⟩) | fail)
    go_ret2
    exact ⟨rfl, hg1⟩
  · rw [List.concat_eq_append] at *
    have hlen : (U ++ [H]).length = U.length + 1 := by simp
    have hH : H ≠ 0 := fun e => hz (by simp [e])
    have hl := ha.mono (R' := fun y w' => ∃ g cc, y = .returned (.slice (some ⟨g, 0, none⟩) (U.length + 1) cc) ∧ w'.cell? ⟨g, U.length, none⟩ = some (.int .u64 (H : Int)) ∧ w.grownBy w' none) (by
      rintro y w' ⟨v', rfl, hg, ho⟩
      obtain ⟨ao, cc, rfl, _, _, _, hao⟩ := row_shape ho
      obtain ⟨g, rfl⟩ := hao (by omega)
      rw [hlen]
      exact ⟨g, cc, rfl, row_cell ho _ _ (uvs_get (by simp)), hg⟩)
    obtain rfl : v = H := by rw [← hv]; simp
    have hdv : decide (¬ v = 0) = true := decide_eq_true hH
    rw [hdv]
    have hul : U.length ≤ 1000 := by omega
    generalize U.length = ul at *
    have e1 : IntKind.i64.wrap ((ul : Int) + 1 - 1) = (ul : Int) := by rw [IntKind.wrap_i64]; omega
    have hz1 : ¬ (ul : Int) + 1 = 0 := by omega
    have hlt : (ul : Int) < (ul : Int) + 1 := by omega
    clear ha hv hz hlen
    go_enter Tryz.func89, Tryz.ntmps89
    go_wp2_with (first | (go_at_call 20; go_must (refine hl.mono ?_); rintro y w1 ⟨g, cc, rfl, hcl, hg1⟩) | fail)
    go_ret2
    exact ⟨rfl, hg1⟩
end
end Go.Proofs.YtjkdflnnpdionaaGreat

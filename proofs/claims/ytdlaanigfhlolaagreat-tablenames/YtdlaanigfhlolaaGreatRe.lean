import Derived.Test.YtdlaanigfhlolaaGreatRd
import Derived.Deep.RegionHeld3
/-
  The document's items: New, Take of a new page.
-/
namespace Go.Proofs.YtdlaanigfhlolaaGreat
open Go.RowKit
set_option linter.unusedVariables false

/-- The document's Set, just made. -/
def R0 (ps m n : Nat) (sz : Nat → Nat) : Rb := { n := n, m := m, ps := ps, sz := sz, ow := fun _ => -1, N := 0, pl := fun _ => 0, cl := fun _ => 0, gn := fun _ => 0, tk := fun _ => false, row := fun _ => [] }
theorem rng_one (n : Nat) (f : Nat → Value) : rng n (fun i => [f i]) = (List.range n).map f := by
  induction n with
  | zero => rfl
  | succ n ih => rw [rng_succ, ih, List.range_succ, List.map_append]; rfl
theorem rnew_is {w' : World} {W : Nat} {rb ps m F s0 il n : Nat} {sv ov rv : Value} (hlo : W ≤ rb) (hbx : Box w' 148 rb (rset ps m F s0 il sv ov (.slice none 0 0) rv)) (hs : w'.ownsRow W 3 1 sv n (ints (szL F (limOf il) s0 n))) (ho : w'.ownsRow W 3 1 ov m (List.replicate m (.int .i64 (-1)))) (hr : w'.ownsRow W 49 1 rv n (List.replicate n (.slice none 0 0))) (hne : sv.ownBlock ≠ ov.ownBlock) :
    IsR w' rb (fun k => W ≤ k ∧ k < w'.heap.size) ⟨sv, ov, .slice none 0 0, rv, fun _ => .slice none 0 0⟩ F s0 il (R0 ps m n (chain F (limOf il) s0)) := by
  refine ⟨hbx, ?_, ?_, World.ownsRow_nil _ _ _ _, ?_, fun i hi => World.ownsRow_nil _ _ _ _, ⟨hlo, hbx.lt⟩, fun k hk => hs.lt k hk, fun k hk => ho.lt k hk, fun k hk => by simp [Value.ownBlock] at hk, fun k hk => hr.lt k hk, fun i k hi hk => by simp [Value.ownBlock] at hk, fun k hk => hk.2, fun k hk e => hne (by rw [hk, e]), fun i k hi hk => by simp [Value.ownBlock] at hk, fun i j k hi hj hk => by simp [Value.ownBlock] at hk⟩
  · have e : rng n (ivs fun i => (chain F (limOf il) s0 i : Int)) = ints (szL F (limOf il) s0 n) := by
      show rng n (fun i => [Value.int .i64 (chain F (limOf il) s0 i : Int)]) = _
      rw [rng_one]; simp [ints, szL]
    show World.ownsRow _ 0 3 1 sv n (rng n (ivs fun i => (chain F (limOf il) s0 i : Int)))
    rw [e]; exact row_base hs (Nat.zero_le _)
  · have e : rng m (ivs fun _ => (-1 : Int)) = List.replicate m (.int .i64 (-1)) := by
      show rng m (fun i => [Value.int .i64 (-1)]) = _
      rw [rng_one]; simp [List.map_const']
    show World.ownsRow _ 0 3 1 ov m (rng m (ivs fun _ => (-1 : Int)))
    rw [e]; exact row_base ho (Nat.zero_le _)
  · have e : rng n (one fun _ => Value.slice none 0 0) = List.replicate n (.slice none 0 0) := by
      show rng n (fun i => [Value.slice none 0 0]) = _
      rw [rng_one]; simp [List.map_const']
    show World.ownsRow _ 0 49 1 rv n (rng n (one fun _ => Value.slice none 0 0))
    rw [e]; exact row_base hr (Nat.zero_le _)

/-- An item that is none. -/
def it0 : List Value := [.bool false, .slice none 0 0, .slice none 0 0, .int .u64 0, .int .i64 0, .int .i64 0, .int .u64 0, .int .i64 0, .int .i64 0, .int .u64 0, .int .u64 0, .int .u64 0]
/-- The document's items in memory. -/
structure IsQ (w : World) (qb rb : Nat) (iv : Value) (M : Nat) (its : Nat → List Value) : Prop where
  box : Box w 109 qb #[.pointer (some ⟨rb, 0, none⟩), iv]
  row : w.ownsRow 0 43 12 iv M (rng M its)
  len : ∀ i, (its i).length = 12
theorem IsQ.kept0 {w w' : World} {qb rb : Nat} {iv : Value} {M : Nat} {its : Nat → List Value} (h : IsQ w qb rb iv M its) (hf : w.grownBy w' none) : IsQ w' qb rb iv M its :=
  ⟨h.box.kept hf (by simp), row_kept h.row hf (by simp), h.len⟩
theorem IsQ.kept {w w' : World} {qb rb : Nat} {iv : Value} {M : Nat} {its : Nat → List Value} {F : Nat → Prop} (h : IsQ w qb rb iv M its) (hf : Kp F w w') (h1 : ¬ F qb) (h2 : ∀ k, iv.ownBlock = some k → ¬ F k) : IsQ w' qb rb iv M its :=
  ⟨hf.box h.box h1, row_same h.row (fun k hk => by
    obtain ⟨cur, hc⟩ := row_block h.row k hk
    exact hf.block k (lt_of_block hc) (h2 k hk)), h.len⟩
theorem rnew3 (rb : Nat) (w : World) : Calls Tryz.prog 30 #[.pointer (some ⟨rb, 0, none⟩)] w fun y w' => y = .returned (.pointer (some ⟨w.heap.size, 0, none⟩)) ∧ w.grownBy w' none ∧ IsQ w' w.heap.size rb (.slice none 0 0) 0 (fun _ => it0) := by
  go_enter Tryz.func30, Tryz.ntmps30
  go_wp2
  go_ret
  exact ⟨rfl, World.grownBy_alloc _ _ _, Box.new _ _ _, World.ownsRow_nil _ _ _ _, fun _ => rfl⟩

theorem Tryz.info43 : (Tryz.prog.info? 43).map (fun i => (i.zero, i.size, i.bytes)) = some (some (.agg #[.bool false, .slice none 0 0, .slice none 0 0, .int .u64 0, .int .i64 0, .int .i64 0, .int .u64 0, .int .i64 0, .int .i64 0, .int .u64 0, .int .u64 0, .int .u64 0]), 12, 128) := by kernel_rfl
section
variable {w : World} {ops : Array Oper} {rest : List Oper} {o : Oper} {a : Act} {Q : Exit → Act → World → Prop}
theorem push43 (hgd : o.guard = none) (s x : Operand) (ho : o.op = .call { callee := .builtin .append, args := #[s, x], argTypes := #[107, 107] })
    (B : Nat) (v : Value) (n : Nat) (xs : List Value) (hs : a.eval s = v) (hown : w.ownsRow B 43 12 v n xs) (hx : a.eval x = .slice (some ⟨w.heap.size, 0, none⟩) 1 1) (hn : n ≤ 100000000000) (hB : B ≤ w.heap.size)
    (h : ∀ g cap w', w'.ownsRow B 43 12 (.slice (some ⟨g, 0, none⟩) (n + 1) cap) (n + 1) (xs ++ it0) → w.grownBy w' v.ownBlock → (v.ownBlock = some g ∨ w.heap.size ≤ g) → wpList Tryz.prog ops Q rest (a.put o.dst (.slice (some ⟨g, 0, none⟩) (n + 1) cap)) w') : wpList Tryz.prog ops Q (o :: rest) a (w.alloc (.cells #[.bool false, .slice none 0 0, .slice none 0 0, .int .u64 0, .int .i64 0, .int .i64 0, .int .u64 0, .int .i64 0, .int .i64 0, .int .u64 0, .int .u64 0, .int .u64 0] 43)) := by
  obtain ⟨i0, hi, hz0, hz1, hz2⟩ := info_parts Tryz.info43
  exact wpList_pushN hgd s x 107 ho 43 i0 _ 12 128 Tryz.underlying107 hi hz0 hz1 hz2 rfl (by omega) (by omega) B v n xs hs hown it0 rfl (by simp [Value.oneCell', it0]) hx hn hB h
end

theorem row_set_same {w : World} {B : Nat} {e : TypeId} {s g n c : Nat} {xs : List Value} (h : w.ownsRow B e s (.slice (some ⟨g, 0, none⟩) n c) n xs) (i : Nat) (v : Value) (hx : xs[i]? = some v) : (w.setCell ⟨g, i, none⟩ v).ownsRow B e s (.slice (some ⟨g, 0, none⟩) n c) n xs := by
  have h1 := row_set h i v
  have e : xs.set i v = xs := by
    apply List.ext_getElem?
    intro j
    by_cases e : j = i
    · subst e
      have hlt := (List.getElem?_eq_some_iff.1 hx).1
      rw [List.getElem?_set_self hlt, hx]
    · rw [List.getElem?_set_ne (fun h => e h.symm)]
  rwa [e] at h1

/-- Twelve cells are laid. -/
def st12 (w : World) (g x : Nat) (v0 v1 v2 v3 v4 v5 v6 v7 v8 v9 v10 v11 : Value) : World := ((((((((((((w.setCell ⟨g, x, none⟩ (v0)).setCell ⟨g, x + 1, none⟩ (v1)).setCell ⟨g, x + 2, none⟩ (v2)).setCell ⟨g, x + 3, none⟩ (v3)).setCell ⟨g, x + 4, none⟩ (v4)).setCell ⟨g, x + 5, none⟩ (v5)).setCell ⟨g, x + 6, none⟩ (v6)).setCell ⟨g, x + 7, none⟩ (v7)).setCell ⟨g, x + 8, none⟩ (v8)).setCell ⟨g, x + 9, none⟩ (v9)).setCell ⟨g, x + 10, none⟩ (v10)).setCell ⟨g, x + 11, none⟩ (v11))
theorem IsQ.icell {w : World} {qb rb gi k ci : Nat} {its : Nat → List Value} (h : IsQ w qb rb (.slice (some ⟨gi, 0, none⟩) k ci) k its) {i j : Nat} (hi : i < k) (hj : j < 12) : w.cell? ⟨gi, i * 12 + j, none⟩ = (its i)[j]? := by
  have e := rng_get h.len hi hj
  have hl : j < (its i).length := by rw [h.len]; exact hj
  rw [List.getElem?_eq_getElem hl]
  rw [List.getElem?_eq_getElem hl] at e
  exact row_cell h.row _ _ e
theorem IsQ.ifz {w : World} {qb rb gi k ci : Nat} {its : Nat → List Value} (h : IsQ w qb rb (.slice (some ⟨gi, 0, none⟩) k ci) k its) (x : Nat) : w.frozen? ⟨gi, x, none⟩ = false := by
  obtain ⟨cur, hc⟩ := row_block h.row gi rfl
  simp [World.frozen?, hc]
theorem st12_row {w : World} {g n c x : Nat} {xs : List Value} {v0 v1 v2 v3 v4 v5 v6 v7 v8 v9 v10 v11 : Value} (h : w.ownsRow 0 43 12 (.slice (some ⟨g, 0, none⟩) n c) n xs) :
    (st12 w g x v0 v1 v2 v3 v4 v5 v6 v7 v8 v9 v10 v11).ownsRow 0 43 12 (.slice (some ⟨g, 0, none⟩) n c) n ((((((((((((xs.set (x) v0).set (x + 1) v1).set (x + 2) v2).set (x + 3) v3).set (x + 4) v4).set (x + 5) v5).set (x + 6) v6).set (x + 7) v7).set (x + 8) v8).set (x + 9) v9).set (x + 10) v10).set (x + 11) v11) := by
  unfold st12
  exact (row_set (row_set (row_set (row_set (row_set (row_set (row_set (row_set (row_set (row_set (row_set (row_set h _ _) _ _) _ _) _ _) _ _) _ _) _ _) _ _) _ _) _ _) _ _) _ _)
theorem rng_upd {n i s j : Nat} {f : Nat → List Value} (hl : ∀ k, (f k).length = s) (hj : j < s) (hi : i < n) (v : Value) : (rng n f).set (i * s + j) v = rng n (upd f i ((f i).set j v)) :=
  rng_set hl hj v (fun k hk => upd_other _ _ hk) (upd_same _ _ _) hi
theorem upd_len {s i : Nat} {f : Nat → List Value} {us : List Value} (hl : ∀ k, (f k).length = s) (hu : us.length = s) : ∀ k, (upd f i us k).length = s := fun k => by
  by_cases e : k = i
  · subst e; rw [upd_same]; exact hu
  · rw [upd_other _ _ e]; exact hl k
theorem upd_upd {α : Type} (f : Nat → α) (i : Nat) (u v : α) : upd (upd f i u) i v = upd f i v := by
  funext k
  by_cases e : k = i
  · subst e; rw [upd_same, upd_same]
  · rw [upd_other _ _ e, upd_other _ _ e, upd_other _ _ e]
theorem rng_set12 {n i : Nat} {f : Nat → List Value} (hl : ∀ k, (f k).length = 12) (hi : i < n) (v0 v1 v2 v3 v4 v5 v6 v7 v8 v9 v10 v11 : Value) :
    ((((((((((((rng n f).set (i * 12) v0).set (i * 12 + 1) v1).set (i * 12 + 2) v2).set (i * 12 + 3) v3).set (i * 12 + 4) v4).set (i * 12 + 5) v5).set (i * 12 + 6) v6).set (i * 12 + 7) v7).set (i * 12 + 8) v8).set (i * 12 + 9) v9).set (i * 12 + 10) v10).set (i * 12 + 11) v11 = rng n (upd f i [v0, v1, v2, v3, v4, v5, v6, v7, v8, v9, v10, v11]) := by
  rw [show i * 12 = i * 12 + 0 from rfl]
  rw [rng_upd (i := i) (j := 0) (s := 12) hl (by omega) hi v0]
  rw [rng_upd (i := i) (j := 1) (s := 12) (by intro k; simp [upd]; split <;> simp [hl]) (by omega) hi v1]
  rw [rng_upd (i := i) (j := 2) (s := 12) (by intro k; simp [upd]; split <;> simp [hl]) (by omega) hi v2]
  rw [rng_upd (i := i) (j := 3) (s := 12) (by intro k; simp [upd]; split <;> simp [hl]) (by omega) hi v3]
  rw [rng_upd (i := i) (j := 4) (s := 12) (by intro k; simp [upd]; split <;> simp [hl]) (by omega) hi v4]
  rw [rng_upd (i := i) (j := 5) (s := 12) (by intro k; simp [upd]; split <;> simp [hl]) (by omega) hi v5]
  rw [rng_upd (i := i) (j := 6) (s := 12) (by intro k; simp [upd]; split <;> simp [hl]) (by omega) hi v6]
  rw [rng_upd (i := i) (j := 7) (s := 12) (by intro k; simp [upd]; split <;> simp [hl]) (by omega) hi v7]
  rw [rng_upd (i := i) (j := 8) (s := 12) (by intro k; simp [upd]; split <;> simp [hl]) (by omega) hi v8]
  rw [rng_upd (i := i) (j := 9) (s := 12) (by intro k; simp [upd]; split <;> simp [hl]) (by omega) hi v9]
  rw [rng_upd (i := i) (j := 10) (s := 12) (by intro k; simp [upd]; split <;> simp [hl]) (by omega) hi v10]
  rw [rng_upd (i := i) (j := 11) (s := 12) (by intro k; simp [upd]; split <;> simp [hl]) (by omega) hi v11]
  congr 1
  have h12 := hl i
  obtain ⟨a0, a1, a2, a3, a4, a5, a6, a7, a8, a9, a10, a11, h⟩ : ∃ a0 a1 a2 a3 a4 a5 a6 a7 a8 a9 a10 a11, f i = [a0, a1, a2, a3, a4, a5, a6, a7, a8, a9, a10, a11] := by
    match f i, h12 with
    | [a0, a1, a2, a3, a4, a5, a6, a7, a8, a9, a10, a11], _ => exact ⟨a0, a1, a2, a3, a4, a5, a6, a7, a8, a9, a10, a11, rfl⟩
  simp only [upd_upd, upd_same, h]
  rfl
theorem st12_gb (w : World) (g x : Nat) (v0 v1 v2 v3 v4 v5 v6 v7 v8 v9 v10 v11 : Value) : w.grownBy (st12 w g x v0 v1 v2 v3 v4 v5 v6 v7 v8 v9 v10 v11) (some g) := by
  unfold st12
  exact (gb_setCell (gb_setCell (gb_setCell (gb_setCell (gb_setCell (gb_setCell (gb_setCell (gb_setCell (gb_setCell (gb_setCell (gb_setCell (gb_setCell (gb_refl _ _) _) _) _) _) _) _) _) _) _) _) _) _)

section
variable {w w' : World} {rb qb : Nat} {F : Nat → Prop} {Q : Rl} {c d e : Int} {R : Rb}

set_option maxRecDepth 100000 in
set_option maxHeartbeats 4000000 in
theorem rtake3 (h : IsR w rb F Q c d e R) (hR : RFit R) {iv : Value} {its : Nat → List Value} (hq : IsQ w qb rb iv R.N its) (hFq : ¬ F qb) (hFi : ∀ k, iv.ownBlock = some k → ¬ F k) {i p : Nat} (hi : i < R.n) (hr : R.row i = []) (hp : p < R.m) (hpo : R.ow p < 0) (hlo : ∀ q, q < p → 0 ≤ R.ow q) (hN : R.N + R.ps / R.sz i ≤ 16777216) (he : 0 < R.ps / R.sz i) (hfirst : ∀ j, j < R.N → R.tk j = true → R.hdl j ≠ (R.page i p).hdl R.N) :
    Calls Tryz.prog 71 #[.pointer (some ⟨qb, 0, none⟩), .int .i64 i] w fun y w' => y = .returned (.tuple #[.int .u64 ((R.page i p).hdl R.N), .int .i64 0]) ∧ Kp (fun k => F k ∨ k = qb ∨ iv.ownBlock = some k) w w' ∧ ∃ F' Q' iv' its', IsR w' rb F' Q' c d e ((R.page i p).took i R.N) ∧ IsQ w' qb rb iv' (R.N + R.ps / R.sz i) its' ∧ (∀ k, F' k → F k ∨ w.heap.size ≤ k) ∧ (∀ k, iv'.ownBlock = some k → (iv.ownBlock = some k ∨ w.heap.size ≤ k) ∧ ¬ F' k) ∧ ¬ F' qb := by
  have htk := rtake_page h hR hi hr hp hpo hlo hN he
  obtain ⟨g1, g2, g3, g4, g5, g6, g7⟩ := page_facts R i p
  have hfit := took_fit (page_fit hR hi hp hN (by rw [hr]; simp; omega)) i R.N
  have hqs := hq.box.lt
  have hNN : ((R.page i p).took i R.N).N = R.N + R.ps / R.sz i := g1
  obtain ⟨N1, hN1⟩ : ∃ N1, N1 = R.N + R.ps / R.sz i := ⟨_, rfl⟩
  have hN1b : N1 ≤ 16777216 := by omega
  have hNlt : R.N < N1 := by omega
  rw [← hN1] at hNN ⊢
  obtain ⟨itsE, hitE⟩ : ∃ itsE : Nat → List Value, itsE = fun k => if k < R.N then its k else it0 := ⟨_, rfl⟩
  have hlenE : ∀ k, (itsE k).length = 12 := fun k => by
    rw [hitE]
    show (if k < R.N then its k else it0).length = 12
    split
    · exact hq.len k
    · rfl
  have hnew : ∀ k, R.N ≤ k → itsE k = it0 := fun k hk => by rw [hitE]; show (if k < R.N then its k else it0) = _; rw [if_neg (by omega)]
  have htk2 := htk.mono (R' := fun y w1 => ∃ F' Q', y = .returned (.tuple #[.int .u64 ((R.page i p).hdl R.N), .int .i64 0]) ∧ IsQ w1 qb rb iv R.N itsE ∧ IsR w1 rb F' Q' c d e ((R.page i p).took i R.N) ∧ Hid (Kp F w w1 ∧ (∀ k, F' k → F k ∨ w.heap.size ≤ k)) ∧ (¬ F' qb) ∧ (∀ k, iv.ownBlock = some k → ¬ F' k) ∧ ∀ k, iv.ownBlock = some k → k < w1.heap.size) (by
    rintro y w1 ⟨rfl, hK, F', Q', hS, hF⟩
    have hq1 := hq.kept hK hFq hFi
    have hq1E : IsQ w1 qb rb iv R.N itsE := ⟨hq1.box, by
      have e : rng R.N itsE = rng R.N its := rng_congr fun k hk => by rw [hitE]; show (if k < R.N then its k else it0) = _; rw [if_pos hk]
      rw [e]; exact hq1.row, hlenE⟩
    refine ⟨F', Q', rfl, hq1E, hS, ⟨hK, hF⟩, fun h => ?_, fun k hk h => ?_, fun k hk => ?_⟩
    · rcases hF _ h with h1 | h1
      · exact hFq h1
      · omega
    · rcases hF _ h with h1 | h1
      · exact hFi k hk h1
      · obtain ⟨cur, hc⟩ := row_block hq.row k hk
        have := lt_of_block hc
        omega
    · obtain ⟨cur, hc⟩ := row_block hq1.row k hk
      exact lt_of_block hc)
  have c0 := hq.box.cell 0
  simp at c0
  generalize hH : (R.page i p).hdl R.N = H at *
  have hfd := fun W (F' : Nat → Prop) Q' (hS : IsR W rb F' Q' c d e ((R.page i p).took i R.N)) => rfind_yes hS hfit (i := R.N) (H := H) (by omega) (by show upd _ _ _ _ = true; rw [upd_same]) (by rw [← hH]; rfl) (fun j hj ht => by
    have hj2 : j ≠ R.N := by omega
    have ht2 : (R.page i p).tk j = true := by
      have : upd (R.page i p).tk R.N true j = true := ht
      rwa [upd_other _ _ hj2] at this
    obtain ⟨o1, o2, o3, o4⟩ := page_old R i p j hj
    rw [o4] at ht2
    have := hfirst j hj ht2
    show (R.page i p).gn j * 4294967296 + ((R.page i p).pl j / 8 + 1) ≠ H
    rw [o1, o3]
    exact this)
  clear hH hfirst hitE htk h hq hfit g1 g2 g3 g4 g5 g6 g7 hN1 hlo hFq hFi
  generalize (R.page i p).took i R.N = R2 at *
  go_enter Tryz.func71, Tryz.ntmps71
  go_wp2_with (first | (go_at_call 116; go_must (refine htk2.mono ?_); rintro y w1 ⟨F1, Q1, rfl, hq1E, hS1, hE, hn1, hn2, hivl⟩) | fail)
  have HW : Hid (IsR w1 rb F1 Q1 c d e R2) := hS1
  go_loopw [22] (fun _ wr => ∃ (k : Nat) (iv' : Value), k ≤ N1 ∧ R.N ≤ k ∧ IsQ wr qb rb iv' k itsE ∧ IsR wr rb F1 Q1 c d e R2 ∧ Kp (fun b => b = qb ∨ iv.ownBlock = some b) w1 wr ∧ (∀ b, iv'.ownBlock = some b → (iv.ownBlock = some b ∨ w1.heap.size ≤ b))) (fun _ wr => match wr.cell? ⟨qb, 1, none⟩ with | some (.slice _ n _) => N1 - n | _ => 0)
  case atStart => exact ⟨R.N, iv, by omega, Nat.le_refl _, hq1E, hS1, Kp.refl _ _, fun b hb => .inl hb⟩
  case round =>
    obtain ⟨k, iv', hk, hkN, hqk, hSk, hKk, hivk⟩ := hrel
    have r0 := hqk.box.cell 0
    have r1 := hqk.box.cell 1
    simp at r0 r1
    have r7 := hSk.sc 7
    obtain ⟨ao, cc, hcv, _, _, _, _⟩ := row_shape hSk.ck
    rw [hNN] at hcv
    simp [rset, hcv] at r7
    obtain ⟨ai, ci, hivS, _, _, _, hai⟩ := row_shape hqk.row
    rw [hivS] at r1
    have HK : Hid (IsQ wr qb rb iv' k itsE ∧ IsR wr rb F1 Q1 c d e R2 ∧ Kp (fun b => b = qb ∨ iv.ownBlock = some b) w1 wr ∧ (∀ b, iv'.ownBlock = some b → (iv.ownBlock = some b ∨ w1.heap.size ≤ b))) := ⟨hqk, hSk, hKk, hivk⟩
    clear hqk hSk hKk hivk
    by_cases hlt : k < N1
    · have hd : decide ((k : Int) < (N1 : Int)) = true := decide_eq_true (by omega)
      go_wp2
      go_quiet (fail)
      have hdr := gb_drewN (gb_refl wr none) nq
      have hqk : IsQ (wr.drewN nq) qb rb iv' k itsE := HK.out.1.kept0 hdr
      have HK2 : Hid (IsR (wr.drewN nq) rb F1 Q1 c d e R2 ∧ Kp (fun b => b = qb ∨ iv.ownBlock = some b) w1 (wr.drewN nq) ∧ (∀ b, iv'.ownBlock = some b → (iv.ownBlock = some b ∨ w1.heap.size ≤ b))) := ⟨HK.out.2.1.kept0 hdr, HK.out.2.2.1.step hdr (by simp), HK.out.2.2.2⟩
      have HMs : Hid (wr.cell? ⟨qb, 1, none⟩ = some (.slice ai k ci)) := r1
      clear r0 r1 r7 hdr HK
      generalize wr.drewN nq = V at *
      have hrow := hqk.row
      have hbx := hqk.box
      have v1 := hbx.cell 1
      simp at v1
      rw [hivS] at v1 hrow
      have hne : ∀ b, iv'.ownBlock = some b → b ≠ qb := fun b hb => by
        obtain ⟨cur, hc⟩ := row_block hqk.row b hb
        exact ne_of_type hc hbx (by decide)
      rw [hivS] at hne
      have ca : ∀ o, (V.alloc o).cell? ⟨qb, 1, none⟩ = some (.slice ai k ci) := fun o => gb_cellN (World.grownBy_alloc V o none) v1
      rw [hivS] at HK2 hbx
      clear hqk hai
      go_wp2_with (at_builtin; go_must (refine push43 rfl _ _ rfl 0 (.slice ai k ci) k _ (by rfl) hrow (by rfl) (by omega) (Nat.zero_le _) ?_))
      intro g1 cap1 w4 ho4 hg4 hat4
      have b3 := hbx.kept hg4 (fun e => hne qb e.symm rfl)
      have b4 : w4.cell? ⟨qb, 1, none⟩ = some (.slice ai k ci) := b3.cell 1
      have b5 : w4.frozen? ⟨qb, 1, none⟩ = false := b3.fz 1
      have hE2 : Hid (∃ iv2, IsQ (w4.setCell ⟨qb, 1, none⟩ (.slice (some ⟨g1, 0, none⟩) (k + 1) cap1)) qb rb iv2 (k + 1) itsE ∧ IsR (w4.setCell ⟨qb, 1, none⟩ (.slice (some ⟨g1, 0, none⟩) (k + 1) cap1)) rb F1 Q1 c d e R2 ∧ Kp (fun b => b = qb ∨ iv.ownBlock = some b) w1 (w4.setCell ⟨qb, 1, none⟩ (.slice (some ⟨g1, 0, none⟩) (k + 1) cap1)) ∧ (∀ b, iv2.ownBlock = some b → (iv.ownBlock = some b ∨ w1.heap.size ≤ b)) ∧ (w4.setCell ⟨qb, 1, none⟩ (.slice (some ⟨g1, 0, none⟩) (k + 1) cap1)).cell? ⟨qb, 1, none⟩ = some (.slice (some ⟨g1, 0, none⟩) (k + 1) cap1)) := by
        obtain ⟨hR2, hK2, hI2⟩ := HK2.out
        have hbS := b3.set 1 (.slice (some ⟨g1, 0, none⟩) (k + 1) cap1)
        have hivb : ∀ b, (Value.slice ai k ci).ownBlock = some b → ¬ F1 b := fun b hb => by
          rcases hI2 b hb with h1 | h1
          · exact hn2 b h1
          · intro hF
            have := HW.out.lt b hF
            omega
        have hsV := hK2.size
        refine ⟨.slice (some ⟨g1, 0, none⟩) (k + 1) cap1, ⟨hbS, ?_, hlenE⟩, ?_, ?_, ?_, hbS.cell 1⟩
        · rw [rng_succ, hnew k hkN]
          refine row_same ho4 fun b hb => heap_setCell_other _ _ _ _ ?_
          simp [Value.ownBlock] at hb
          obtain ⟨cur, hc⟩ := row_block ho4 g1 rfl
          rw [← hb]
          exact ne_of_type hc b3 (by decide)
        · have h1 : IsR w4 rb F1 Q1 c d e R2 := hR2.same hg4.size (fun b hb => hg4.block b (hR2.lt b hb) (fun e => hivb b e.symm hb))
          exact h1.same (by simp) (fun b hb => heap_setCell_other _ _ _ _ (fun e => hn1 (by have e' : b = qb := e; rw [← e']; exact hb)))
        · exact (hK2.step hg4 (fun b hb => (hI2 b hb).elim (fun h => .inl (.inr h)) .inr)).step (gb_setCell (gb_refl _ _) _) (fun b hb => .inl (.inl (by simpa using hb.symm)))
        · intro b hb
          simp [Value.ownBlock] at hb
          subst hb
          rcases hat4 with h | h
          · exact hI2 _ h
          · exact .inr (by omega)
      clear b3 ho4 hg4 hat4 hrow hbx hne ca v1 HK2
      go_wp2
      generalize w4.setCell ⟨qb, 1, none⟩ (.slice (some ⟨g1, 0, none⟩) (k + 1) cap1) = W9 at *
      go_roundw
      case rel =>
        obtain ⟨iv2, q1, q2, q3, q4, q5⟩ := hE2.out
        exact ⟨k + 1, iv2, by omega, by omega, q1, q2, q3, q4⟩
      case measure =>
        obtain ⟨iv2, q1, q2, q3, q4, q5⟩ := hE2.out
        rw [q5, HMs.out]
        simp; omega
    · have hkk : k = N1 := by omega
      subst hkk
      have hd : decide ((k : Int) < (k : Int)) = false := by simp
      go_wp2
      go_quiet (fail)
      have hdr := gb_drewN (gb_refl wr none) nq
      have hqk : IsQ (wr.drewN nq) qb rb iv' k itsE := HK.out.1.kept0 hdr
      have HK2 : Hid (IsR (wr.drewN nq) rb F1 Q1 c d e R2 ∧ Kp (fun b => b = qb ∨ iv.ownBlock = some b) w1 (wr.drewN nq) ∧ (∀ b, iv'.ownBlock = some b → (iv.ownBlock = some b ∨ w1.heap.size ≤ b))) := ⟨HK.out.2.1.kept0 hdr, HK.out.2.2.1.step hdr (by simp), HK.out.2.2.2⟩
      clear r0 r1 r7 hdr HK
      generalize wr.drewN nq = V at *
      obtain ⟨gi, rfl⟩ := hai (by omega)
      have hbx := hqk.box
      have v0 := hbx.cell 0
      have v1 := hbx.cell 1
      simp at v0 v1
      rw [hivS] at v1
      have hkz : (R.N : Int) < (k : Int) := by omega
      have hfv := fun W (hf : V.grownBy W none) => hfd W F1 Q1 (HK2.out.1.kept0 hf)
      rw [hivS] at hqk HK2
      have hNk : R.N < k := hNlt
      have hnw := hnew R.N (Nat.le_refl _)
      clear hbx hfd hivS hai
      go_wp2
      go_region_law ((go_simp; go_at_call 52; refine (hfv _ (by first | exact gb_drew (gb_refl _ _) | exact gb_refl _ _)).mono ?_; rintro y w5 ⟨rfl, hf5⟩; have hf6 : V.grownBy w5 none := gb_trans (by first | exact gb_drew (gb_refl _ _) | exact gb_refl _ _) hf5; have hq5 := hqk.kept0 hf6; have u0 := hq5.box.cell 0; have u1 := hq5.box.cell 1; simp at u0 u1; have f0 := hq5.icell (i := R.N) (j := 0) hNk (by omega); have z0 := hq5.ifz (R.N * 12 + 0); have f1 := hq5.icell (i := R.N) (j := 1) hNk (by omega); have z1 := hq5.ifz (R.N * 12 + 1); have f2 := hq5.icell (i := R.N) (j := 2) hNk (by omega); have z2 := hq5.ifz (R.N * 12 + 2); have f3 := hq5.icell (i := R.N) (j := 3) hNk (by omega); have z3 := hq5.ifz (R.N * 12 + 3); have f4 := hq5.icell (i := R.N) (j := 4) hNk (by omega); have z4 := hq5.ifz (R.N * 12 + 4); have f5 := hq5.icell (i := R.N) (j := 5) hNk (by omega); have z5 := hq5.ifz (R.N * 12 + 5); have f6 := hq5.icell (i := R.N) (j := 6) hNk (by omega); have z6 := hq5.ifz (R.N * 12 + 6); have f7 := hq5.icell (i := R.N) (j := 7) hNk (by omega); have z7 := hq5.ifz (R.N * 12 + 7); have f8 := hq5.icell (i := R.N) (j := 8) hNk (by omega); have z8 := hq5.ifz (R.N * 12 + 8); have f9 := hq5.icell (i := R.N) (j := 9) hNk (by omega); have z9 := hq5.ifz (R.N * 12 + 9); have f10 := hq5.icell (i := R.N) (j := 10) hNk (by omega); have z10 := hq5.ifz (R.N * 12 + 10); have f11 := hq5.icell (i := R.N) (j := 11) hNk (by omega); have z11 := hq5.ifz (R.N * 12 + 11); rw [hnw] at f0 f1 f2 f3 f4 f5 f6 f7 f8 f9 f10 f11; simp [it0] at f0 f1 f2 f3 f4 f5 f6 f7 f8 f9 f10 f11 z0))
      all_goals
        have hst : ∀ W, W = st12 w5 gi (R.N * 12) (.bool false) (.slice none 0 0) (.slice none 0 0) (.int .u64 0) (.int .i64 0) (.int .i64 0) (.int .u64 0) (.int .i64 0) (.int .i64 0) (.int .u64 0) (.int .u64 0) (.int .u64 0) → Hid (Kp (fun b => F b ∨ b = qb ∨ iv.ownBlock = some b) w W ∧ IsR W rb F1 Q1 c d e R2 ∧ IsQ W qb rb (.slice (some ⟨gi, 0, none⟩) k ci) k (upd itsE R.N it0) ∧ ((iv.ownBlock = some gi ∨ w.heap.size ≤ gi) ∧ ¬ F1 gi)) := by
          rintro W rfl
          have hg := st12_gb w5 gi (R.N * 12) (.bool false) (.slice none 0 0) (.slice none 0 0) (.int .u64 0) (.int .i64 0) (.int .i64 0) (.int .u64 0) (.int .i64 0) (.int .i64 0) (.int .u64 0) (.int .u64 0) (.int .u64 0)
          have hrw := st12_row (x := R.N * 12) (v0 := .bool false) (v1 := .slice none 0 0) (v2 := .slice none 0 0) (v3 := .int .u64 0) (v4 := .int .i64 0) (v5 := .int .i64 0) (v6 := .int .u64 0) (v7 := .int .i64 0) (v8 := .int .i64 0) (v9 := .int .u64 0) (v10 := .int .u64 0) (v11 := .int .u64 0) hq5.row
          rw [rng_set12 hlenE hNk] at hrw
          obtain ⟨hRV, hKV, hIV⟩ := HK2.out
          obtain ⟨hKw, hFw⟩ := hE.out
          have hsw := hKw.size
          have hgi := hIV gi rfl
          have hgF : ¬ F1 gi := fun hF => by
            rcases hgi with h1 | h1
            · exact hn2 gi h1 hF
            · have := HW.out.lt gi hF; omega
          obtain ⟨gcur, hgc⟩ := row_block hq5.row gi rfl
          have hqg : qb ≠ gi := fun e => ne_of_type hgc hq5.box (by decide) e.symm
          refine ⟨?_, ?_, ⟨hq5.box.kept hg (by simpa using hqg), hrw, upd_len hlenE rfl⟩, ⟨hgi.elim .inl (fun h => .inr (by omega)), hgF⟩⟩
          · refine ((hKw.trans hKV (H := fun b => F b ∨ b = qb ∨ iv.ownBlock = some b) (fun _ h => .inl h) (fun b hb => .inl (.inr hb))).step hf6 (by simp)).step hg (fun b hb => ?_)
            simp at hb; subst hb
            exact hgi.elim (fun h => .inl (.inr (.inr h))) (fun h => .inr (by omega))
          · have h1 := hRV.kept0 hf6
            exact h1.same hg.size (fun b hb => hg.block b (h1.lt b hb) (fun e => hgF (by simp at e; subst e; exact hb)))
        have hEE := hst _ rfl
        unfold st12 at hEE
        clear hst f0 f1 f2 f3 f4 f5 f6 f7 f8 f9 f10 f11 z0 z1 z2 z3 z4 z5 z6 z7 z8 z9 z10 z11 hq5
        generalize ((((((((((((w5.setCell ⟨gi, R.N * 12, none⟩ (.bool false)).setCell ⟨gi, R.N * 12 + 1, none⟩ (.slice none 0 0)).setCell ⟨gi, R.N * 12 + 2, none⟩ (.slice none 0 0)).setCell ⟨gi, R.N * 12 + 3, none⟩ (.int .u64 0)).setCell ⟨gi, R.N * 12 + 4, none⟩ (.int .i64 0)).setCell ⟨gi, R.N * 12 + 5, none⟩ (.int .i64 0)).setCell ⟨gi, R.N * 12 + 6, none⟩ (.int .u64 0)).setCell ⟨gi, R.N * 12 + 7, none⟩ (.int .i64 0)).setCell ⟨gi, R.N * 12 + 8, none⟩ (.int .i64 0)).setCell ⟨gi, R.N * 12 + 9, none⟩ (.int .u64 0)).setCell ⟨gi, R.N * 12 + 10, none⟩ (.int .u64 0)).setCell ⟨gi, R.N * 12 + 11, none⟩ (.int .u64 0)) = W9 at *
        go_wp2
        go_ret2
        obtain ⟨e1, e2, e3, e4⟩ := hEE.out
        exact ⟨rfl, e1, F1, Q1, _, _, e2, e3, hE.out.2, fun b hb => by simp [Value.ownBlock] at hb; subst hb; exact e4, hn1⟩
end
end Go.Proofs.YtdlaanigfhlolaaGreat

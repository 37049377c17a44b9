import Derived.Test.YtohneboimmcocaaGreatRd
import Derived.Deep.RegionHeld3
/-
  The document's items: New, Take of a new page.
-/
namespace Go.Proofs.YtohneboimmcocaaGreat
open Go.RowKit
set_option linter.unusedVariables false

/-- The document's Set, just made. -/
def R0 (ps m n : Nat) (sz : Nat → Nat) : Rb := { n := n, m := m, ps := ps, sz := sz, ow := fun _ => -1, N := 0, pl := fun _ => 0, cl := fun _ => 0, gn := fun _ => 0, tk := fun _ => false, row := fun _ => [] }
theorem rng_one (n : Nat) (f : Nat → Value) : rng n (fun i => [f i]) = (List.range n).map f := by
  induction n with
  | zero => rfl
  | succ n ih => rw [rng_succ, ih, List.range_succ, List.map_append]; rfl
theorem rnew_is {w' : World} {W : Nat} {rb ps m F s0 il n : Nat} {sv ov rv : Value} (hlo : W ≤ rb) (hbx : Box w' 181 rb (rset ps m F s0 il sv ov (.slice none 0 0) rv)) (hs : w'.ownsRow W 3 1 sv n (ints (szL F (limOf il) s0 n))) (ho : w'.ownsRow W 3 1 ov m (List.replicate m (.int .i64 (-1)))) (hr : w'.ownsRow W 64 1 rv n (List.replicate n (.slice none 0 0))) (hne : sv.ownBlock ≠ ov.ownBlock) :
    IsR w' rb (fun k => W ≤ k ∧ k < w'.heap.size) ⟨sv, ov, .slice none 0 0, rv, fun _ => .slice none 0 0⟩ F s0 il (R0 ps m n (chain F (limOf il) s0)) := by
  refine ⟨hbx, ?_, ?_, World.ownsRow_nil _ _ _ _, ?_, fun i hi => World.ownsRow_nil _ _ _ _, ⟨hlo, hbx.lt⟩, fun k hk => hs.lt k hk, fun k hk => ho.lt k hk, fun k hk => by simp [Value.ownBlock] at hk, fun k hk => hr.lt k hk, fun i k hi hk => by simp [Value.ownBlock] at hk, fun k hk => hk.2, fun k hk e => hne (by rw [hk, e]), fun i k hi hk => by simp [Value.ownBlock] at hk, fun i j k hi hj hk => by simp [Value.ownBlock] at hk⟩
  · have e : rng n (ivs fun i => (chain F (limOf il) s0 i : Int)) = ints (szL F (limOf il) s0 n) := by
      show rng n (fun i => [Value.int .i64 (chain F (limOf il) s0 i : Int)]) = _
      rw [rng_one]; simp [ints, szL]
    show World.ownsRow _ 0 3 1 sv n (rng n (ivs fun i => (chain F (limOf il) s0 i : Int)))
    rw [e]; exact row_base hs (Nat.zero_le _)
  · have e : rng m (ivs fun _ => (-1 : Int)) = List.replicate m (.int .i64 (-1)) := by
      show rng m (fun i => [Value.int .i64 (-1)]) = _
      rw [rng_one]; simp [List.map_const']
    show World.ownsRow _ 0 3 1 ov m (rng m (ivs fun _ => (-1 : Int)))
    rw [e]; exact row_base ho (Nat.zero_le _)
  · have e : rng n (one fun _ => Value.slice none 0 0) = List.replicate n (.slice none 0 0) := by
      show rng n (fun i => [Value.slice none 0 0]) = _
      rw [rng_one]; simp [List.map_const']
    show World.ownsRow _ 0 64 1 rv n (rng n (one fun _ => Value.slice none 0 0))
    rw [e]; exact row_base hr (Nat.zero_le _)

/-- An item that is none. -/
def it0 : List Value := [.bool false, .slice none 0 0, .slice none 0 0, .int .u64 0, .int .i64 0, .int .i64 0, .int .u64 0, .int .i64 0, .int .i64 0, .int .u64 0, .int .u64 0, .int .u64 0]
section
variable {w : World} {ops : Array Oper} {rest : List Oper} {o : Oper} {a : Act} {Q : Exit → Act → World → Prop}
end

theorem row_set_same {w : World} {B : Nat} {e : TypeId} {s g n c : Nat} {xs : List Value} (h : w.ownsRow B e s (.slice (some ⟨g, 0, none⟩) n c) n xs) (i : Nat) (v : Value) (hx : xs[i]? = some v) : (w.setCell ⟨g, i, none⟩ v).ownsRow B e s (.slice (some ⟨g, 0, none⟩) n c) n xs := by
  have h1 := row_set h i v
  have e : xs.set i v = xs := by
    apply List.ext_getElem?
    intro j
    by_cases e : j = i
    · subst e
      have hlt := (List.getElem?_eq_some_iff.1 hx).1
      rw [List.getElem?_set_self hlt, hx]
    · rw [List.getElem?_set_ne (fun h => e h.symm)]
  rwa [e] at h1

/-- Twelve cells are laid. -/
def st12 (w : World) (g x : Nat) (v0 v1 v2 v3 v4 v5 v6 v7 v8 v9 v10 v11 : Value) : World := ((((((((((((w.setCell ⟨g, x, none⟩ (v0)).setCell ⟨g, x + 1, none⟩ (v1)).setCell ⟨g, x + 2, none⟩ (v2)).setCell ⟨g, x + 3, none⟩ (v3)).setCell ⟨g, x + 4, none⟩ (v4)).setCell ⟨g, x + 5, none⟩ (v5)).setCell ⟨g, x + 6, none⟩ (v6)).setCell ⟨g, x + 7, none⟩ (v7)).setCell ⟨g, x + 8, none⟩ (v8)).setCell ⟨g, x + 9, none⟩ (v9)).setCell ⟨g, x + 10, none⟩ (v10)).setCell ⟨g, x + 11, none⟩ (v11))
theorem rng_upd {n i s j : Nat} {f : Nat → List Value} (hl : ∀ k, (f k).length = s) (hj : j < s) (hi : i < n) (v : Value) : (rng n f).set (i * s + j) v = rng n (upd f i ((f i).set j v)) :=
  rng_set hl hj v (fun k hk => upd_other _ _ hk) (upd_same _ _ _) hi
theorem upd_len {s i : Nat} {f : Nat → List Value} {us : List Value} (hl : ∀ k, (f k).length = s) (hu : us.length = s) : ∀ k, (upd f i us k).length = s := fun k => by
  by_cases e : k = i
  · subst e; rw [upd_same]; exact hu
  · rw [upd_other _ _ e]; exact hl k
theorem upd_upd {α : Type} (f : Nat → α) (i : Nat) (u v : α) : upd (upd f i u) i v = upd f i v := by
  funext k
  by_cases e : k = i
  · subst e; rw [upd_same, upd_same]
  · rw [upd_other _ _ e, upd_other _ _ e, upd_other _ _ e]
theorem rng_set12 {n i : Nat} {f : Nat → List Value} (hl : ∀ k, (f k).length = 12) (hi : i < n) (v0 v1 v2 v3 v4 v5 v6 v7 v8 v9 v10 v11 : Value) :
    ((((((((((((rng n f).set (i * 12) v0).set (i * 12 + 1) v1).set (i * 12 + 2) v2).set (i * 12 + 3) v3).set (i * 12 + 4) v4).set (i * 12 + 5) v5).set (i * 12 + 6) v6).set (i * 12 + 7) v7).set (i * 12 + 8) v8).set (i * 12 + 9) v9).set (i * 12 + 10) v10).set (i * 12 + 11) v11 = rng n (upd f i [v0, v1, v2, v3, v4, v5, v6, v7, v8, v9, v10, v11]) := by
  rw [show i * 12 = i * 12 + 0 from rfl]
  rw [rng_upd (i := i) (j := 0) (s := 12) hl (by omega) hi v0]
  rw [rng_upd (i := i) (j := 1) (s := 12) (by intro k; simp [upd]; split <;> simp [hl]) (by omega) hi v1]
  rw [rng_upd (i := i) (j := 2) (s := 12) (by intro k; simp [upd]; split <;> simp [hl]) (by omega) hi v2]
  rw [rng_upd (i := i) (j := 3) (s := 12) (by intro k; simp [upd]; split <;> simp [hl]) (by omega) hi v3]
  rw [rng_upd (i := i) (j := 4) (s := 12) (by intro k; simp [upd]; split <;> simp [hl]) (by omega) hi v4]
  rw [rng_upd (i := i) (j := 5) (s := 12) (by intro k; simp [upd]; split <;> simp [hl]) (by omega) hi v5]
  rw [rng_upd (i := i) (j := 6) (s := 12) (by intro k; simp [upd]; split <;> simp [hl]) (by omega) hi v6]
  rw [rng_upd (i := i) (j := 7) (s := 12) (by intro k; simp [upd]; split <;> simp [hl]) (by omega) hi v7]
  rw [rng_upd (i := i) (j := 8) (s := 12) (by intro k; simp [upd]; split <;> simp [hl]) (by omega) hi v8]
  rw [rng_upd (i := i) (j := 9) (s := 12) (by intro k; simp [upd]; split <;> simp [hl]) (by omega) hi v9]
  rw [rng_upd (i := i) (j := 10) (s := 12) (by intro k; simp [upd]; split <;> simp [hl]) (by omega) hi v10]
  rw [rng_upd (i := i) (j := 11) (s := 12) (by intro k; simp [upd]; split <;> simp [hl]) (by omega) hi v11]
  congr 1
  have h12 := hl i
  obtain ⟨a0, a1, a2, a3, a4, a5, a6, a7, a8, a9, a10, a11, h⟩ : ∃ a0 a1 a2 a3 a4 a5 a6 a7 a8 a9 a10 a11, f i = [a0, a1, a2, a3, a4, a5, a6, a7, a8, a9, a10, a11] := by
    match f i, h12 with
    | [a0, a1, a2, a3, a4, a5, a6, a7, a8, a9, a10, a11], _ => exact ⟨a0, a1, a2, a3, a4, a5, a6, a7, a8, a9, a10, a11, rfl⟩
  simp only [upd_upd, upd_same, h]
  rfl
theorem st12_gb (w : World) (g x : Nat) (v0 v1 v2 v3 v4 v5 v6 v7 v8 v9 v10 v11 : Value) : w.grownBy (st12 w g x v0 v1 v2 v3 v4 v5 v6 v7 v8 v9 v10 v11) (some g) := by
  unfold st12
  exact (gb_setCell (gb_setCell (gb_setCell (gb_setCell (gb_setCell (gb_setCell (gb_setCell (gb_setCell (gb_setCell (gb_setCell (gb_setCell (gb_setCell (gb_refl _ _) _) _) _) _) _) _) _) _) _) _) _) _)

section
variable {w w' : World} {rb qb : Nat} {F : Nat → Prop} {Q : Rl} {c d e : Int} {R : Rb}

end
end Go.Proofs.YtohneboimmcocaaGreat

/-
  Counters as functions of their names; boards in memory.
-/
import Derived.Test.YtonbkpfnpnlkpaaDoorA
namespace Go.Proofs.YtonbkpfnpnlkpaaDoor
open Go.RowKit
set_option linter.unusedVariables false
set_option linter.unusedSimpArgs false

/-- The greatest number. -/
abbrev MX : Nat := 18446744073709551615
abbrev Cn := Nat → Nat
/-- What is added stops at the greatest number. -/
def plus (N D : Cn) : Cn := fun i => min (N i + D i) 18446744073709551615
def Fit (N : Cn) : Prop := ∀ i, N i ≤ 18446744073709551615
def sgl (n x : Nat) : Cn := fun i => if i = n then x else 0
/-- One of each name of a list. -/
def dl (l : List Nat) : Cn := fun i => l.count i
def Cn.add (D E : Cn) : Cn := fun i => D i + E i
theorem plus_fit (N D : Cn) : Fit (plus N D) := fun i => Nat.min_le_right _ _
theorem plus_plus (N D E : Cn) : plus (plus N D) E = plus N (Cn.add D E) := by
  funext i; simp only [plus, Cn.add]; omega
theorem plus_zero {N : Cn} (h : Fit N) : plus N (fun _ => 0) = N := by
  funext i; have := h i; simp only [plus]; omega
theorem dl_nil : dl [] = fun _ => 0 := by funext i; simp [dl]
theorem dl_one (n : Nat) : dl [n] = sgl n 1 := by
  funext i; simp only [dl, sgl, List.count_cons, List.count_nil, beq_iff_eq]
  by_cases h : n = i
  · simp [h]
  · simp [h, show ¬ i = n from fun e => h e.symm]
theorem dl_app (a b : List Nat) : Cn.add (dl a) (dl b) = dl (a ++ b) := by
  funext i; simp [Cn.add, dl, List.count_append]
theorem plus_dl_nil {N : Cn} (h : Fit N) : plus N (dl []) = N := by rw [dl_nil]; exact plus_zero h
theorem plus_dl (N : Cn) (a b : List Nat) : plus (plus N (dl a)) (dl b) = plus N (dl (a ++ b)) := by rw [plus_plus, dl_app]
theorem plus_sgl (N : Cn) (h : Fit N) (n x : Nat) : plus N (sgl n x) = upd N n (min (N n + x) 18446744073709551615) := by
  funext i; have := h i; simp only [plus, sgl, upd]
  by_cases h1 : i = n
  · subst h1; simp
  · simp [h1]; omega

/-- A board's cells: the lock's two, the thirty numbers. -/
def bdA (k : Int) (N : Cn) : Array Value := ([Value.int .i32 k, Value.int .u32 0] ++ (List.range 30).map (fun i => Value.int .u64 (N (i + 1) : Nat))).toArray
def Bd (w : World) (b : Nat) (k : Int) (N : Cn) : Prop := Box w 90 b (bdA k N)
theorem bdA_get (k : Int) (N : Cn) (i : Nat) (h : i < 30) : (bdA k N)[2 + i]? = some (.int .u64 (N (i + 1) : Nat)) := by
  have e : 2 + i = i + 1 + 1 := by omega
  simp only [bdA, List.getElem?_toArray, e]
  simp [h]
theorem bdA_set (k : Int) (N : Cn) (i v : Nat) (h : i < 30) : (bdA k N).setIfInBounds (2 + i) (.int .u64 (v : Nat)) = bdA k (upd N (i + 1) v) := by
  apply Array.ext_getElem?
  intro j
  have e : 2 + i = i + 1 + 1 := by omega
  simp only [bdA, List.setIfInBounds_toArray, List.getElem?_toArray, e]
  match j with
  | 0 => rfl
  | 1 => rfl
  | j + 2 =>
    simp only [List.cons_append, List.nil_append, List.set_cons_succ, List.getElem?_cons_succ]
    rw [List.getElem?_set]
    simp only [List.getElem?_map, List.length_map, List.length_range, List.getElem?_range']
    by_cases hj : i = j
    · subst hj; simp [h, upd]
    · simp only [hj, if_false]
      by_cases h3 : j < 30
      · simp [h3, upd, show ¬ j = i from fun e => hj e.symm]
      · simp [List.getElem?_eq_none, h3]
theorem Bd.lock {w : World} {b : Nat} {k : Int} {N : Cn} (h : Bd w b k N) : w.cell? ⟨b, 0, none⟩ = some (.int .i32 k) := Box.cell h 0
theorem Bd.get {w : World} {b : Nat} {k : Int} {N : Cn} (h : Bd w b k N) {i : Nat} (hi : i < 30) : w.cell? ⟨b, 2 + i, none⟩ = some (.int .u64 (N (i + 1) : Nat)) := (Box.cell h (2 + i)).trans (bdA_get k N i hi)
theorem Bd.fz {w : World} {b : Nat} {k : Int} {N : Cn} (h : Bd w b k N) (i : Nat) : w.frozen? ⟨b, i, none⟩ = false := Box.fz h i
theorem Bd.setLock {w : World} {b : Nat} {k : Int} {N : Cn} (h : Bd w b k N) (j : Int) : Bd (w.setCell ⟨b, 0, none⟩ (.int .i32 j)) b j N := Box.set h 0 _
theorem Bd.set {w : World} {b : Nat} {k : Int} {N : Cn} (h : Bd w b k N) {i : Nat} (hi : i < 30) (v : Nat) : Bd (w.setCell ⟨b, 2 + i, none⟩ (.int .u64 (v : Nat))) b k (upd N (i + 1) v) := by
  have := Box.set h (2 + i) (.int .u64 (v : Nat))
  rw [bdA_set k N i v hi] at this
  exact this
theorem Bd.lt {w : World} {b : Nat} {k : Int} {N : Cn} (h : Bd w b k N) : b < w.heap.size := Box.lt h
theorem Bd.kept {w w' : World} {b : Nat} {k : Int} {N : Cn} (h : Bd w b k N) {F : Nat → Prop} (hk : Kp F w w') (hb : ¬ F b) : Bd w' b k N := hk.box h hb
theorem Kp.setCell (w : World) (b i : Nat) (v : Value) : Kp (· = b) w (w.setCell ⟨b, i, none⟩ v) :=
  (Kp.refl _ w).step (gb_setCell (gb_refl w _) v) (fun j h => .inl (by injection h with h; exact h.symm))
theorem Kp.drewN (F : Nat → Prop) (w : World) (n : Nat) : Kp F w (w.drewN n) := ⟨rfl, rfl, rfl, Nat.le_refl _, fun _ _ _ => rfl⟩
theorem Kp.drew (F : Nat → Prop) (w : World) : Kp F w w.drew := ⟨rfl, rfl, rfl, Nat.le_refl _, fun _ _ _ => rfl⟩
theorem Kp.then {F : Nat → Prop} {a b c : World} (h : Kp F a b) (k : Kp F b c) : Kp F a c := h.trans k (fun _ h => h) (fun _ h => .inl h)
end Go.Proofs.YtonbkpfnpnlkpaaDoor

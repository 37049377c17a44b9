/-
  The argument's own variable; put and get over an arena that is known by its bytes.
-/
import Derived.Test.YtknhoncnaigogaaH
import Derived.Test.YtknhoncnaigogaaJ
import Derived.Test.YtknhoncnaigogaaK
namespace Go.Proofs.Ytknhoncnaigogaa
open Go.RowKit
set_option linter.unusedVariables false

/-- A variable of its own that holds the values vs. -/
def Box (w : World) (t : TypeId) (b : Nat) (vs : Array Value) : Prop := w.heap[b]? = some (.cells vs t (0, 0))
theorem Box.kept {w w' : World} {t : TypeId} {b : Nat} {vs : Array Value} (h : Box w t b vs) {row : Option Nat} (hf : w.grownBy w' row) (hn : some b ≠ row) : Box w' t b vs := by
  have hlt : b < w.heap.size := (Array.getElem?_eq_some_iff.1 h).1
  unfold Box
  rw [hf.block b hlt hn]
  exact h
theorem Box.cell {w : World} {t : TypeId} {b : Nat} {vs : Array Value} (h : Box w t b vs) (i : Nat) : w.cell? ⟨b, i, none⟩ = vs[i]? := cell_of_row w b i _ _ _ h
theorem Box.new (w : World) (t : TypeId) (vs : Array Value) : Box (w.alloc (.cells vs t)) t w.heap.size vs := heap_alloc_new w _

theorem within_ex (i n : Int) (h1 : 1 ≤ n) (h2 : n ≤ 1099511627776) (w : World) : Calls Try.prog 22 #[.int .i64 i, .int .i64 n] w fun e w' => ∃ r, e = .returned (.int .i64 r) ∧ w = w' ∧ 0 ≤ r ∧ r < n := by
  refine (within_any i n h1 h2 w).mono ?_
  rintro e w' ⟨rfl, rfl⟩
  exact ⟨_, rfl, rfl, Int.emod_nonneg _ (by omega), Int.emod_lt_of_pos _ (by omega)⟩

theorem putA {w : World} {b g ps pages : Nat} {zs : List Int} (hA : IsA w b g ps pages zs) (x v k : Int) (own : Bool) (hk : isWidth k) (hv : 0 ≤ v ∧ v < pw k.toNat) (ht : There ps zs.length x k) :
    Calls Try.prog 23 #[.pointer (some ⟨b, 0, none⟩), .int .i64 x, .int .i64 k, .int .u64 v, .bool own] w fun e w' => ∃ ys, e = .returned (.int .i64 0) ∧ w.grownBy w' (some g) ∧ IsA w' b g ps pages ys ∧ ys.length = zs.length ∧ Hid (ys = putL zs x.toNat k.toNat v) := by
  refine (put_yes hA x v k own hk hv ht).mono ?_
  rintro e w' ⟨rfl, hf, hg⟩
  exact ⟨_, rfl, hf, hA.turned hf hg (length_putL _ _ _ _) (putL_mem _ _ _ _ hA.hz), length_putL _ _ _ _, rfl⟩

theorem getA {w : World} {b g ps pages : Nat} {zs : List Int} (hA : IsA w b g ps pages zs) (x k : Int) (own : Bool) (hk : isWidth k) (ht : There ps zs.length x k) (s : Int) (hs : getL zs x.toNat k.toNat 0 0 = s) :
    Calls Try.prog 24 #[.pointer (some ⟨b, 0, none⟩), .int .i64 x, .int .i64 k, .bool own] w fun e w' => e = .returned (.tuple #[.int .u64 s, .int .i64 0]) ∧ w.grownBy w' none ∧ IsA w' b g ps pages zs := by
  refine (get_yes hA x k own hk ht).mono ?_
  rintro e w' ⟨rfl, hf⟩
  rw [hs]
  exact ⟨rfl, hf, hA.kept hf (by simp) (by simp)⟩

end Go.Proofs.Ytknhoncnaigogaa

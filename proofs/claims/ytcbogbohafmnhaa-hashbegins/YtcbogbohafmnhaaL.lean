/-
  HashBegins' walk.
-/
import Derived.Test.YtcbogbohafmnhaaK
import Derived.Deep.Cut
namespace Go.Proofs.Ytcbogbohafmnhaa
open Go.RowKit
set_option linter.unusedVariables false

theorem tmod_add (i n : Int) (h : 0 < n) : (i.tmod n + n) % n = i % n := by
  rw [Int.add_emod_right, Int.tmod_eq_emod]
  split
  · simp
  · have : ((n.natAbs : Nat) : Int) = n := by omega
    rw [this, Int.sub_emod_right, Int.emod_emod]
/-- (x % n + n) % n, as the walk has it. -/
theorem within (x : Int) (n : Nat) (h : 0 < n) : ∃ (r : Int) (f : Nat), x.tmod n = r ∧ -(n : Int) < r ∧ r < n ∧ (r + n) % n = f ∧ f < n := by
  have h3 := Int.emod_nonneg x (show (n : Int) ≠ 0 by omega)
  have h4 := Int.emod_lt_of_pos x (show (0 : Int) < n by omega)
  exact ⟨_, (x % n).toNat, rfl, Int.lt_tmod_of_pos _ (by omega), Int.tmod_lt_of_pos _ (by omega), by rw [tmod_add x n (by omega)]; omega, by omega⟩

theorem own_one (w : World) (B : Nat) (z : Int) (hB : B ≤ w.heap.size) : Own B (w.alloc (.cells #[.int .u8 z] 5)) (some ⟨w.heap.size, 0, none⟩) 1 [z] :=
  ⟨by simp, .inr ⟨w.heap.size, 1, _, rfl, hB, heap_alloc_new w _, Nat.le_refl _, by unfold maxLen; omega, rfl, rfl⟩⟩

/-- The digits so far: what is left of the number, and its last digits. -/
def DG (k y : Nat) (ds : List Int) : Prop := (ds = [] ∧ y = k) ∨ (ds ≠ [] ∧ ((y = 0 ∧ ds = zb (dig k)) ∨ (0 < y ∧ zb (dig k) = zb (dig y) ++ ds)))
theorem DG.step {k y : Nat} {ds : List Int} (h : DG k y ds) (hg : 0 < y ∨ ds = []) : DG k (y / 10) ([48 + (y : Int) % 10] ++ ds) := by
  refine .inr ⟨by simp, ?_⟩
  have hz : zb [48 + y % 10] = [48 + (y : Int) % 10] := by simp [zb]
  rcases h with ⟨rfl, rfl⟩ | ⟨hne, ⟨h0, _⟩ | ⟨hp, he⟩⟩
  · by_cases h9 : y < 10
    · refine .inl ⟨by omega, ?_⟩
      rw [dig_lt y h9, ← hz, List.append_nil, show y % 10 = y by omega]
    · refine .inr ⟨by omega, ?_⟩
      rw [dig_ge y h9, zb_app, hz, List.append_nil]
  · rcases hg with hg | hg
    · omega
    · exact absurd hg hne
  · by_cases h9 : y < 10
    · refine .inl ⟨by omega, ?_⟩
      rw [he, dig_lt y h9, ← hz, show y % 10 = y by omega]
    · refine .inr ⟨by omega, ?_⟩
      rw [he, dig_ge y h9, zb_app, hz, List.append_assoc]
theorem DG.done {k y : Nat} {ds : List Int} (h : DG k y ds) (h0 : y = 0) (hne : ds ≠ []) : ds = zb (dig k) := by
  rcases h with ⟨h1, _⟩ | ⟨_, ⟨_, h2⟩ | ⟨h2, _⟩⟩
  · exact absurd h1 hne
  · exact h2
  · omega
theorem DG.len {k y : Nat} {ds : List Int} (h : DG k y ds) : ds.length ≤ (dig k).length := by
  rcases h with ⟨rfl, _⟩ | ⟨_, ⟨_, rfl⟩ | ⟨_, h2⟩⟩
  · simp
  · simp [zb]
  · have := congrArg List.length h2
    simp [zb] at this
    omega
/-- How far it is. -/
def dgM (v x : Value) : Nat := 2 * (intOf x).toNat + (match v with | .slice _ 0 _ => 1 | _ => 0)

theorem dgM_pos (a : Option Addr) (n c y : Nat) (h : 0 < n) : dgM (.slice a n c) (.int .i64 y) = 2 * y := by
  obtain ⟨m, rfl⟩ : ∃ m, n = m + 1 := ⟨n - 1, by omega⟩
  simp [dgM, intOf]
theorem dgM_zero (a : Option Addr) (c y : Nat) : dgM (.slice a 0 c) (.int .i64 y) = 2 * y + 1 := by simp [dgM, intOf]
theorem dgM_ge (a : Option Addr) (n c y : Nat) : 2 * y ≤ dgM (.slice a n c) (.int .i64 y) := by simp [dgM, intOf]

/-- FNV-1a from its beginning on. -/
theorem on_begin {W : World} {a : Option Addr} {ys : List Int} (c : Nat) (h : Has W a ys.length ys) (hb : isBytes ys) (hl : ys.length ≤ 300) :
    Calls Try.prog 24 #[.int .u64 14695981039346656037, .slice a ys.length c] W fun e w' => e = .returned (.int .u64 (sumB ys : Nat)) ∧ w' = W := by
  have := on_24 h hb c (by omega) 14695981039346656037 (by decide)
  simp only [Int.cast_ofNat_Int] at this
  exact this

theorem pts_take (xs : List Int) (f m : Nat) (h : f ≤ m) : (pts xs m).take f = pts xs f := by
  unfold pts
  rw [← List.map_take, List.take_range, Nat.min_eq_left h]
theorem pts_get (xs : List Int) (m k : Nat) (h : k < m) : (pts xs m).getD k 0 = ptN xs k := by
  unfold pts
  rw [List.getD_eq_getElem?_getD, List.getElem?_map, List.getElem?_range h, Option.map_some, Option.getD_some]

end Go.Proofs.Ytcbogbohafmnhaa

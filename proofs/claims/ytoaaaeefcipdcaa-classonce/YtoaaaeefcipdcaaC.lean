import Derived.Test.YtoaaaeefcipdcaaB
import Derived.Laws.Rows
/-
  What an arena is in memory; laws on the row of bytes.
-/
namespace Go.Proofs.Ytoaaaeefcipdcaa
open Go.RowKit
set_option linter.unusedVariables false

/-- The bytes laid, as values. -/
def vals (zs : List Int) : Array Value := (zs.map (Value.int .u8)).toArray

/-- An arena in memory: its block b, the block g of its bytes, a page's size, the pages, the bytes. -/
structure IsA (w : World) (b g ps pages : Nat) (zs : List Int) : Prop where
  hb : w.heap[b]? = some (.cells #[.int .i64 ps, .int .i64 pages, .slice (some ⟨g, 0, none⟩) zs.length zs.length] 171 (0, 0))
  hg : w.heap[g]? = some (.cells (vals zs) 5 (0, 0))
  hne : b ≠ g
  hps : ∃ k, ps = 2 ^ k ∧ 12 ≤ k ∧ k ≤ 20
  hN : zs.length = ps * pages
  hpg : 1 ≤ pages ∧ pages ≤ 1024
  hz : ∀ z ∈ zs, 0 ≤ z ∧ z < 256

/-- P1.2, in numbers. -/
def There (ps N : Nat) (x n : Int) : Prop := 0 ≤ n ∧ 0 ≤ x ∧ n ≤ N - x ∧ x % ps + n ≤ ps

theorem IsA.c0 {w : World} {b g ps pages : Nat} {zs : List Int} (h : IsA w b g ps pages zs) : w.cell? ⟨b, 0, none⟩ = some (.int .i64 ps) := by
  rw [cell_of_row w b 0 _ _ _ h.hb]; rfl
theorem IsA.c1 {w : World} {b g ps pages : Nat} {zs : List Int} (h : IsA w b g ps pages zs) : w.cell? ⟨b, 1, none⟩ = some (.int .i64 pages) := by
  rw [cell_of_row w b 1 _ _ _ h.hb]; rfl
theorem IsA.c2 {w : World} {b g ps pages : Nat} {zs : List Int} (h : IsA w b g ps pages zs) : w.cell? ⟨b, 2, none⟩ = some (.slice (some ⟨g, 0, none⟩) zs.length zs.length) := by
  rw [cell_of_row w b 2 _ _ _ h.hb]; rfl
theorem vals_get (zs : List Int) (i : Nat) (h : i < zs.length) : (vals zs)[i]? = some (.int .u8 (zs.getD i 0)) := by
  simp [vals, List.getD, h]
theorem cell_of_vals {w : World} {g : Nat} {zs : List Int} (h : w.heap[g]? = some (.cells (vals zs) 5 (0, 0))) (i : Nat) (hi : i < zs.length) : w.cell? ⟨g, i, none⟩ = some (.int .u8 (zs.getD i 0)) := by
  rw [cell_of_row w g i _ _ _ h]; exact vals_get zs i hi
theorem set_vals {w : World} {g : Nat} {zs : List Int} (h : w.heap[g]? = some (.cells (vals zs) 5 (0, 0))) (i : Nat) (v : Int) : (w.setCell ⟨g, i, none⟩ (.int .u8 v)).heap[g]? = some (.cells (vals (zs.set i v)) 5 (0, 0)) := by
  rw [heap_setCell_same w g i _ _ _ h]
  simp [vals]
theorem IsA.bounds {w : World} {b g ps pages : Nat} {zs : List Int} (h : IsA w b g ps pages zs) : (4096 ≤ ps ∧ ps ≤ 1048576) ∧ zs.length ≤ 1073741824 := by
  obtain ⟨k, hk, h1, h2⟩ := h.hps
  have a : 2 ^ 12 ≤ 2 ^ k := Nat.pow_le_pow_right (by omega) h1
  have c : 2 ^ k ≤ 2 ^ 20 := Nat.pow_le_pow_right (by omega) h2
  rw [← hk] at a c
  refine ⟨⟨a, c⟩, ?_⟩
  rw [h.hN]
  calc ps * pages ≤ 2 ^ 20 * 1024 := Nat.mul_le_mul c h.hpg.2
    _ = 1073741824 := by decide
theorem IsA.mask {w : World} {b g ps pages : Nat} {zs : List Int} (h : IsA w b g ps pages zs) (x : Int) (h0 : 0 ≤ x) (h1 : x < 9223372036854775808) : bits .and .i64 x ((ps : Int) - 1) = x % ps := by
  obtain ⟨k, hk, h2, h3⟩ := h.hps
  have := mask_i64 k (by omega) x h0 h1
  rw [hk]; simpa using this
theorem IsA.mod {w : World} {b g ps pages : Nat} {zs : List Int} (h : IsA w b g ps pages zs) (x : Int) : 0 ≤ x % ps ∧ x % ps < ps := by
  have := h.bounds
  exact ⟨Int.emod_nonneg _ (by omega), Int.emod_lt_of_pos _ (by omega)⟩

/-- 'part' of an arena: there. -/
theorem IsA.part_yes {w : World} {b g ps pages : Nat} {zs : List Int} (h : IsA w b g ps pages zs) (x n : Int) (ht : There ps zs.length x n) :
    Calls Try.prog 116 #[.pointer (some ⟨b, 0, none⟩), .int .i64 x, .int .i64 n] w fun e w' => (∃ o, e = .returned (.tuple #[.slice (some ⟨g, o, none⟩) n.toNat (zs.length - x.toNat), .bool true]) ∧ (0 < n → o = x.toNat)) ∧ ∃ q, w' = w.drewN q := by
  obtain ⟨h1, h2, h3, h4⟩ := ht
  have hb := h.bounds
  have hm := h.mod x
  exact Ytoaaaeefcipdcaa.part_yes b g zs.length ps x n (x % ps) w hb.1 hb.2 h.c0 h.c2 (h.mask x h2 (by omega)) hm.1 h1 h2 h3 h4

/-- 'part' of an arena: not there. -/
theorem IsA.part_no {w : World} {b g ps pages : Nat} {zs : List Int} (h : IsA w b g ps pages zs) (x n : Int) (hx : x < 9223372036854775808) (ht : ¬ There ps zs.length x n) :
    Calls Try.prog 116 #[.pointer (some ⟨b, 0, none⟩), .int .i64 x, .int .i64 n] w fun e w' => e = .returned (.tuple #[.slice none 0 0, .bool false]) ∧ ∃ q, w' = w.drewN q := by
  have hb := h.bounds
  have hm := h.mod x
  refine Ytoaaaeefcipdcaa.part_no b g zs.length ps x n (x % ps) w hb.1 hb.2 h.c0 h.c2 (fun h0 => h.mask x h0 hx) ⟨hm.1, by omega⟩ (by omega) ?_
  simp only [There] at ht
  omega

/-! The frame: new blocks, and writes to one row alone. -/
theorem gb_refl (w : World) (row : Option Nat) : w.grownBy w row := ⟨rfl, rfl, rfl, Nat.le_refl _, fun _ _ _ => rfl⟩
theorem gb_trans {a b c : World} {row : Option Nat} (h : a.grownBy b row) (k : b.grownBy c row) : a.grownBy c row :=
  ⟨k.os.trans h.os, k.tape.trans h.tape, k.output.trans h.output, Nat.le_trans h.size k.size, fun i hi hn => (k.block i (Nat.lt_of_lt_of_le hi h.size) hn).trans (h.block i hi hn)⟩
theorem gb_drewN {a b : World} {row : Option Nat} (h : a.grownBy b row) (n : Nat) : a.grownBy (b.drewN n) row := ⟨h.os, h.tape, h.output, h.size, h.block⟩
theorem gb_drew {a b : World} {row : Option Nat} (h : a.grownBy b row) : a.grownBy b.drew row := ⟨h.os, h.tape, h.output, h.size, h.block⟩
theorem gb_none {a b : World} (row : Option Nat) (h : a.grownBy b none) : a.grownBy b row := ⟨h.os, h.tape, h.output, h.size, fun i hi _ => h.block i hi (by simp)⟩
theorem gb_setCell {a b : World} {g i : Nat} (h : a.grownBy b (some g)) (v : Value) : a.grownBy (b.setCell ⟨g, i, none⟩ v) (some g) :=
  ⟨h.os, h.tape, h.output, by simpa using h.size, fun k hk hn => by
    rw [heap_setCell_other _ _ _ _ (by intro e; exact hn (by rw [e]))]; exact h.block k hk hn⟩
theorem gb_alloc {a b : World} {row : Option Nat} (h : a.grownBy b row) (o : Obj) : a.grownBy (b.alloc o) row :=
  gb_trans h (World.grownBy_alloc b o row)

/-- A number laid: its lowest byte last. -/
def putL (zs : List Int) (x : Nat) : Nat → Int → List Int
  | 0, _ => zs
  | k + 1, v => putL (zs.set (x + k) (v % 256)) x k (v / 256)
/-- A number told: so many bytes more from place i on, behind the sum so far. -/
def getL (zs : List Int) (x : Nat) : Nat → Nat → Int → Int
  | 0, _, s => s
  | k + 1, i, s => getL zs x k (i + 1) (256 * s + zs.getD (x + i) 0)
theorem length_putL (x : Nat) : ∀ (k : Nat) (zs : List Int) (v : Int), (putL zs x k v).length = zs.length
  | 0, _, _ => rfl
  | k + 1, zs, v => by simp [putL, length_putL x k]
theorem putL_mem (x : Nat) : ∀ (k : Nat) (zs : List Int) (v : Int), (∀ z ∈ zs, 0 ≤ z ∧ z < 256) → ∀ z ∈ putL zs x k v, 0 ≤ z ∧ z < 256
  | 0, _, _, h => h
  | k + 1, zs, v, h => by
    refine putL_mem x k _ _ fun z hz => ?_
    rcases List.mem_or_eq_of_mem_set hz with h1 | h1
    · exact h z h1
    · subst h1; omega

/-- An arena stays one where its bytes alone have turned. -/
theorem IsA.turned {w w' : World} {b g ps pages : Nat} {zs zs' : List Int} (h : IsA w b g ps pages zs) (hf : w.grownBy w' (some g)) (hg : w'.heap[g]? = some (.cells (vals zs') 5 (0, 0)))
    (hl : zs'.length = zs.length) (hz : ∀ z ∈ zs', 0 ≤ z ∧ z < 256) : IsA w' b g ps pages zs' := by
  have hlt : b < w.heap.size := by
    have := h.hb
    exact (Array.getElem?_eq_some_iff.1 this).1
  exact ⟨by rw [hf.block b hlt (by simpa using h.hne), hl]; exact h.hb, hg, h.hne, h.hps, by rw [hl]; exact h.hN, h.hpg, hz⟩
theorem IsA.kept {w w' : World} {b g ps pages : Nat} {zs : List Int} (h : IsA w b g ps pages zs) {row : Option Nat} (hf : w.grownBy w' row) (h1 : some b ≠ row) (h2 : some g ≠ row) : IsA w' b g ps pages zs := by
  have hlt : b < w.heap.size := (Array.getElem?_eq_some_iff.1 h.hb).1
  have hlg : g < w.heap.size := (Array.getElem?_eq_some_iff.1 h.hg).1
  exact ⟨by rw [hf.block b hlt h1]; exact h.hb, by rw [hf.block g hlg h2]; exact h.hg, h.hne, h.hps, h.hN, h.hpg, h.hz⟩

def pw : Nat → Int
  | 0 => 1
  | k + 1 => 256 * pw k
theorem pw_le : ∀ i : Fin 8, pw i.val ≤ 72057594037927936 := by decide +kernel
theorem pow_step (i : Nat) (s z : Int) (hi : i < 8) (h : s < pw i) (hz : z < 256) : 256 * s + 255 < 18446744073709551616 ∧ 256 * s + z < pw (i + 1) := by
  have e : pw (i + 1) = 256 * pw i := rfl
  have a := pw_le ⟨i, hi⟩
  simp only at a
  refine ⟨by omega, by rw [e]; omega⟩
theorem or_u64 (s z : Int) (h0 : 0 ≤ s) (h : 256 * s + 255 < 18446744073709551616) (hz : 0 ≤ z ∧ z < 256) : bits .or .u64 (s * 256) z = 256 * s + z := by
  rw [u64_or _ _ (by omega) (by omega) hz.1 (by omega), nat_join 8 _ _ (by omega) (by omega)]
  omega
theorem getL_stop (zs : List Int) (x n i : Nat) (s : Int) (h : n ≤ i) : getL zs x (n - i) i s = s := by
  have : n - i = 0 := by omega
  rw [this]; rfl
theorem getL_go (zs : List Int) (x n i : Nat) (s : Int) (h : i < n) : getL zs x (n - i) i s = getL zs x (n - (i + 1)) (i + 1) (256 * s + zs.getD (x + i) 0) := by
  have : n - i = (n - (i + 1)) + 1 := by omega
  rw [this]; rfl
theorem getD_mem {zs : List Int} {i : Nat} (h : i < zs.length) : zs.getD i 0 ∈ zs := by
  rw [List.getD_eq_getElem?_getD, List.getElem?_eq_getElem h]
  exact List.getElem_mem _

end Go.Proofs.Ytoaaaeefcipdcaa
